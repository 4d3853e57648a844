/-
  A law for append: what a slice reads as, onto what the call owns.
-/
import Derived.Test.YtfpngilmdgeikaaDoorShaAll
import Derived.Laws.AppendOwnNone
namespace Go.Proofs.YtfpngilmdgeikaaDoor
open Go.RowKit

end Go.Proofs.YtfpngilmdgeikaaDoor
