/-
  A law for append: what a slice reads as, onto what the call owns.
-/
import Derived.Test.YtbhghmlachlfkaaDoorShaAll
import Derived.Laws.AppendOwnNone
namespace Go.Proofs.YtbhghmlachlfkaaDoor
open Go.RowKit

end Go.Proofs.YtbhghmlachlfkaaDoor
