/-
  Bytes that a call owns, in a row that may bear a mark behind its end (what a conversion of a text leaves): append onto them; what strconv.AppendInt answers of a number from 0 on, onto such bytes.
-/
import Derived.Test.YtbjlfhabnjpdmaaGreatDoorlaStMath
import Derived.Test.YtbjlfhabnjpdmaaGreatDoorlaHdCheck
import Derived.Test.YtbjlfhabnjpdmaaGreatDoorlaStShelf
import Derived.Lib.AppendIntMem
import Derived.Lib.FrozenHead
import Derived.Lib.ItoaLen
namespace Go.Proofs.YtbjlfhabnjpdmaaGreatDoor
open Go.RowKit

theorem below_setRow {w : World} {base g : Nat} (x : Array Value) (hb : base ≤ g) : Below base w (w.setRow g x) := ⟨rfl, rfl, rfl, by simp, fun k hk => setRow_other w g k _ (by omega)⟩
/-- the table of powers of ten lies as it is laid -/
def powAt (w : World) : Prop := Lib.TabIs Tryz.prog w "internal/strconv.uint64pow10" .u64 Lib.pow10Tab
theorem powAt.below {w w' : World} (h : powAt w) (hb : Below w.heap.size w w') : powAt w' := Lib.tabBelow_of_tabIs h w' hb
end Go.Proofs.YtbjlfhabnjpdmaaGreatDoor
