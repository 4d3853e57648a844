/-
  A law for append: what a slice reads as, onto what the call owns.
-/
import Derived.Test.YteebmiiedblkmaaDoorShaAll
import Derived.Laws.AppendOwnNone
namespace Go.Proofs.YteebmiiedblkmaaDoor
open Go.RowKit

end Go.Proofs.YteebmiiedblkmaaDoor
