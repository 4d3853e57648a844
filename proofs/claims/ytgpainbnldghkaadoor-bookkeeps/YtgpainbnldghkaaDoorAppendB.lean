/-
  A law for append: what a slice reads as, onto what the call owns.
-/
import Derived.Test.YtgpainbnldghkaaDoorShaAll
import Derived.Laws.AppendOwnNone
namespace Go.Proofs.YtgpainbnldghkaaDoor
open Go.RowKit

end Go.Proofs.YtgpainbnldghkaaDoor
