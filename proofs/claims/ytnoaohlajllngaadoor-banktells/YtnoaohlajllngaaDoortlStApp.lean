/-
  Bytes that a call owns, in a row that may bear a mark behind its end (what a conversion of a text leaves): append onto them; what strconv.AppendInt answers of a number from 0 on, onto such bytes.
-/
import Derived.Test.YtnoaohlajllngaaDoortlStMath
import Derived.Test.YtnoaohlajllngaaDoortlHdCheck
import Derived.Test.YtnoaohlajllngaaDoortlStShelf
import Derived.Lib.AppendIntMem
import Derived.Lib.FrozenHead
import Derived.Lib.ItoaLen
namespace Go.Proofs.YtnoaohlajllngaaDoor
open Go.RowKit

/-- the table of powers of ten lies as it is laid -/
def powAt (w : World) : Prop := Lib.TabIs Tryd.prog w "internal/strconv.uint64pow10" .u64 Lib.pow10Tab
theorem powAt.below {w w' : World} (h : powAt w) (hb : Below w.heap.size w w') : powAt w' := Lib.tabBelow_of_tabIs h w' hb
end Go.Proofs.YtnoaohlajllngaaDoor
