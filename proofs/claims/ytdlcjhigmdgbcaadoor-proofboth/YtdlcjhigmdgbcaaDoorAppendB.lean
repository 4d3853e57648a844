/-
  A law for append: what a slice reads as, onto what the call owns.
-/
import Derived.Test.YtdlcjhigmdgbcaaDoorShaAll
import Derived.Laws.AppendOwnNone
namespace Go.Proofs.YtdlcjhigmdgbcaaDoor
open Go.RowKit

end Go.Proofs.YtdlcjhigmdgbcaaDoor
