/-
  Plain mathematics of books: bytes in order, pairs by their keys, doings, and what stands under a key; a book knows no past. No program is named here. What a key's place in a book says: what stands under it, what dropping it, and setting it, makes. No program is named here.
  Plain mathematics of proofs: the way from the root of a tree to a place, what stands on its other sides, what is reckoned from a leaf upwards; where two reckonings meet, what is beneath is the same, or two lists of bytes have one digest. No program is named here.
  Proofs and gaps as values: what their cells read as. No function of the program is named here.
  Plain mathematics of what a proof's digests are of: layers from the root down to the pair. Where two proofs of one root part first, two lists of bytes have one digest. No program is named here.
  What math/bits.Len of small numbers, and package book's split, answer.
  What the document's Join and Four answer: bytes one behind the other, in new memory; a number in four bytes.
-/
import Derived.Test.YtnoaohlajllngaaDoorbbMemB
import Derived.Lib.Walk
import Derived.Lib.BitFns
namespace Go.Proofs.YtnoaohlajllngaaDoor

/-- bytes in order: byte by byte; one that begins another one is less -/
def lessB : List (BitVec 8) → List (BitVec 8) → Bool
  | [], [] => false
  | [], _ :: _ => true
  | _ :: _, [] => false
  | x :: a, y :: b => if x = y then lessB a b else decide (x.toNat < y.toNat)

/-- a pair of a book -/
structure Pr where
  key : List (BitVec 8)
  val : List (BitVec 8)
/-- a doing with a book -/
structure Dg where
  key : List (BitVec 8)
  val : List (BitVec 8)
  gone : Bool
/-- those ahead of a key, and the others -/
def ahead (k : List (BitVec 8)) : List Pr → List Pr
  | [] => []
  | p :: r => if lessB p.key k = true then p :: ahead k r else []
def behind (k : List (BitVec 8)) : List Pr → List Pr
  | [] => []
  | p :: r => if lessB p.key k = true then behind k r else p :: r


/-- a book's own pairs as doings, from the last one on -/
def back (x : List Pr) : List Dg := (x.map fun p => (⟨p.key, p.val, false⟩ : Dg)).reverse

end Go.Proofs.YtnoaohlajllngaaDoor
namespace Go.Proofs.YtnoaohlajllngaaDoor

end Go.Proofs.YtnoaohlajllngaaDoor
namespace Go.Proofs.YtnoaohlajllngaaDoor

end Go.Proofs.YtnoaohlajllngaaDoor
namespace Go.Proofs.YtnoaohlajllngaaDoor
open Go.RowKit

end Go.Proofs.YtnoaohlajllngaaDoor
namespace Go.Proofs.YtnoaohlajllngaaDoor

end Go.Proofs.YtnoaohlajllngaaDoor
namespace Go.Proofs.YtnoaohlajllngaaDoor
open Go.RowKit

end Go.Proofs.YtnoaohlajllngaaDoor
namespace Go.Proofs.YtnoaohlajllngaaDoor
open Go.RowKit

end Go.Proofs.YtnoaohlajllngaaDoor
