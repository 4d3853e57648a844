/-
  What the steps of a connection answer: not too great.
-/
import Derived.Test.YtclhcjiblfokaaaGreatDoorpnCoLive
import Derived.Test.YtclhcjiblfokaaaGreatDoorpnStWrong
import Derived.Test.YtclhcjiblfokaaaGreatDoorpnCoAdd
namespace Go.Proofs.YtclhcjiblfokaaaGreatDoor
open Go.RowKit

theorem conns_fits {s : St} {l : List Cn} (hf : s.fits) (hl : l.length < 2305843009213693952) : ({ s with conns := l } : St).fits := ⟨hf.1, hf.2.1, hl, hf.2.2.2⟩
end Go.Proofs.YtclhcjiblfokaaaGreatDoor
