/-
  The document's From, Digits and Key.
-/
import Derived.Test.YtnoaohlajllngaatuStMath
import Derived.Test.YtnoaohlajllngaatuHdCheck
import Derived.Test.YtnoaohlajllngaatuStShelf
import Derived.Test.YtnoaohlajllngaatuStMem
import Derived.Test.YtnoaohlajllngaatuSameB
import Derived.Deep.RegionHeld3
import Derived.Deep.RegionWith
import Derived.Lib.AppendIntMem
import Derived.Lib.FrozenHead
import Derived.Lib.ItoaLen
namespace Go.Proofs.Ytnoaohlajllngaa
open Go.RowKit

theorem lets_str (l : List (BitVec 8)) : lets (strOfNums (l.map b8)) = l := by
  unfold lets strOfNums
  simp only [List.map_map]
  conv => rhs; rw [← List.map_id l]
  apply List.map_congr_left
  intro x _
  simp [b8]
end Go.Proofs.Ytnoaohlajllngaa
