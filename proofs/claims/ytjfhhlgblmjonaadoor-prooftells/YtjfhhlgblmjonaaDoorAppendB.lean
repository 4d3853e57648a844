/-
  A law for append: what a slice reads as, onto what the call owns.
-/
import Derived.Test.YtjfhhlgblmjonaaDoorShaAll
import Derived.Laws.AppendOwnNone
namespace Go.Proofs.YtjfhhlgblmjonaaDoor
open Go.RowKit

end Go.Proofs.YtjfhhlgblmjonaaDoor
