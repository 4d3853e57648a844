/-
  What the steps of a connection answer: not too great.
-/
import Derived.Test.YtbgdpfeobklnhaaGreatDoorgoCoLive
import Derived.Test.YtbgdpfeobklnhaaGreatDoorgoStWrong
import Derived.Test.YtbgdpfeobklnhaaGreatDoorgoCoAdd
namespace Go.Proofs.YtbgdpfeobklnhaaGreatDoor
open Go.RowKit

theorem conns_fits {s : St} {l : List Cn} (hf : s.fits) (hl : l.length < 2305843009213693952) : ({ s with conns := l } : St).fits := ⟨hf.1, hf.2.1, hl, hf.2.2.2⟩
end Go.Proofs.YtbgdpfeobklnhaaGreatDoor
