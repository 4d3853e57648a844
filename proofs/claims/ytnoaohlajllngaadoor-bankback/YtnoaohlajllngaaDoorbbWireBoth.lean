/-
  Plain mathematics of pieces written as bytes: numbers by sevens of bits, pieces, lists of pieces; what is written is read, in one way alone. No program is named here.
  Slices of what reads as bytes: from a place on, up to a place, between two places. What cutNumber answers: the number that bytes begin with, and what is behind; it only reads. What appendNumber does: a number's bytes, behind what the call owns. What Clone and cutPiece answer: new memory that reads as what was handed in; the piece that bytes begin with, and what is behind. Nothing that was there is turned. Pieces behind a slice value: three cells each. Laws for append where what comes out may pass 2^47 bytes a little: how long it is, that nothing else was turned, and, where it does not pass, what it reads as. What the document's Num answers: a number's bytes, in new memory. What Read answers: the pieces whose bytes were handed in, in new memory; or which error.
  What appendPiece does: a piece's bytes behind what the call owns; or which error. What Write answers: the bytes of pieces, in new memory; or which error, and where. What the document's Write answers: the bytes of pieces, in new memory; or which error, and where.
-/
import Derived.Test.YtnoaohlajllngaaDoorbbMemB
import Derived.OwnWalk
import Derived.Deep.RegionHeld3
import Derived.Deep.RegionWith
import Derived.Laws.Cover3
import Derived.Deep.RegionLaw
import Derived.Deep.RegionHeldLaw
namespace Go.Proofs.YtnoaohlajllngaaDoor

/-- a number's bytes, in so many at most, and one more -/
def numF : Nat → Nat → List (BitVec 8)
  | 0, n => [BitVec.ofNat 8 n]
  | f + 1, n => if n < 128 then [BitVec.ofNat 8 n] else BitVec.ofNat 8 (128 + n % 128) :: numF f (n / 128)
/-- a number's bytes -/
def numB (n : Nat) : List (BitVec 8) := numF n n




/-- a piece: its kind, its number, its bytes -/
structure Pc where
  k : Int
  n : Nat
  b : List (BitVec 8)
/-- a piece's bytes, if it is of a kind -/
def Pc.wr (p : Pc) : List (BitVec 8) := if p.k = 1 then 0 :: numB p.n else 1 :: (numB p.b.length ++ p.b)
/-- a piece has a number of 64 bits -/
def Pc.ok (p : Pc) : Prop := p.n < 18446744073709551616




/-- all pieces' bytes, one behind the other -/
def wrs (l : List Pc) : List (BitVec 8) := (l.map Pc.wr).flatten
end Go.Proofs.YtnoaohlajllngaaDoor
namespace Go.Proofs.YtnoaohlajllngaaDoor
open Go.RowKit

end Go.Proofs.YtnoaohlajllngaaDoor
namespace Go.Proofs.YtnoaohlajllngaaDoor
open Go.RowKit


end Go.Proofs.YtnoaohlajllngaaDoor
namespace Go.Proofs.YtnoaohlajllngaaDoor
open Go.RowKit

end Go.Proofs.YtnoaohlajllngaaDoor
namespace Go.Proofs.YtnoaohlajllngaaDoor
open Go.RowKit


end Go.Proofs.YtnoaohlajllngaaDoor
namespace Go.Proofs.YtnoaohlajllngaaDoor
open Go.RowKit

/-- what bounds a piece's parts: a kind of 64 bits, a number of 64 bits, bytes as many as the reach lets -/
def Pc.fits (p : Pc) : Prop := p.ok ∧ p.b.length ≤ 140737488351232
end Go.Proofs.YtnoaohlajllngaaDoor
namespace Go.Proofs.YtnoaohlajllngaaDoor
open Go.RowKit

end Go.Proofs.YtnoaohlajllngaaDoor
namespace Go.Proofs.YtnoaohlajllngaaDoor
open Go.RowKit

end Go.Proofs.YtnoaohlajllngaaDoor
namespace Go.Proofs.YtnoaohlajllngaaDoor
open Go.RowKit


end Go.Proofs.YtnoaohlajllngaaDoor
namespace Go.Proofs.YtnoaohlajllngaaDoor
open Go.RowKit

end Go.Proofs.YtnoaohlajllngaaDoor
namespace Go.Proofs.YtnoaohlajllngaaDoor
open Go.RowKit


end Go.Proofs.YtnoaohlajllngaaDoor
namespace Go.Proofs.YtnoaohlajllngaaDoor
open Go.RowKit

end Go.Proofs.YtnoaohlajllngaaDoor
