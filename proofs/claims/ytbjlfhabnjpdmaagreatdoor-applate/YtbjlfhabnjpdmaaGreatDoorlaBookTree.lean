/-
  What slices.Grow and slices.Concat of bytes, and package book's fourBytes, answer.
  What the document's Leaf, Node and Top answer: digests, in new memory. What the document's Tree and Root answer: the digest of pairs, by halves; a book's digest, or what is wrong with it. What the document's Root answers: a book's digest, in new memory; or what is wrong with it.
  What package book's pairBytes, forkBytes and bookBytes answer: the bytes that are summed, in new memory.
  What package book's tree answers: the digest of pairs, by halves.
-/
import Derived.Test.YtbjlfhabnjpdmaaGreatDoorlaBookMath
import Derived.Test.YtbjlfhabnjpdmaaGreatDoorlaRef1All
import Derived.Test.YtbjlfhabnjpdmaaGreatDoorlaPairsAll
import Derived.Lib.AppendZerosOnto
import Derived.Deep.RegionWith
import Derived.Deep.Slices
import Derived.Deep.RegionHeld3
namespace Go.Proofs.YtbjlfhabnjpdmaaGreatDoor
open Go.RowKit

end Go.Proofs.YtbjlfhabnjpdmaaGreatDoor
namespace Go.Proofs.YtbjlfhabnjpdmaaGreatDoor
open Go.RowKit

end Go.Proofs.YtbjlfhabnjpdmaaGreatDoor
namespace Go.Proofs.YtbjlfhabnjpdmaaGreatDoor
open Go.RowKit

end Go.Proofs.YtbjlfhabnjpdmaaGreatDoor
namespace Go.Proofs.YtbjlfhabnjpdmaaGreatDoor
open Go.RowKit

end Go.Proofs.YtbjlfhabnjpdmaaGreatDoor
namespace Go.Proofs.YtbjlfhabnjpdmaaGreatDoor
open Go.RowKit

theorem tableAt.past {w w' : World} (h : tableAt w) (hg : Below w.heap.size w w') : tableAt w' := h.below hg h.lt
end Go.Proofs.YtbjlfhabnjpdmaaGreatDoor
