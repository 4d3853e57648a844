/-
  Plain mathematics of books: bytes in order, pairs by their keys, doings, and what stands under a key; a book knows no past. No program is named here. What a key's place in a book says: what stands under it, what dropping it, and setting it, makes. No program is named here.
  Plain mathematics of proofs: the way from the root of a tree to a place, what stands on its other sides, what is reckoned from a leaf upwards; where two reckonings meet, what is beneath is the same, or two lists of bytes have one digest. No program is named here.
  Proofs and gaps as values: what their cells read as. No function of the program is named here.
  Plain mathematics of what a proof's digests are of: layers from the root down to the pair. Where two proofs of one root part first, two lists of bytes have one digest. No program is named here.
  What math/bits.Len of small numbers, and package book's split, answer.
  What the document's Join and Four answer: bytes one behind the other, in new memory; a number in four bytes.
-/
import Derived.Test.YtbjlfhabnjpdmaaGreatDoorlaMemB
import Derived.Lib.Walk
import Derived.Lib.BitFns
namespace Go.Proofs.YtbjlfhabnjpdmaaGreatDoor

/-- bytes in order: byte by byte; one that begins another one is less -/
def lessB : List (BitVec 8) → List (BitVec 8) → Bool
  | [], [] => false
  | [], _ :: _ => true
  | _ :: _, [] => false
  | x :: a, y :: b => if x = y then lessB a b else decide (x.toNat < y.toNat)

/-- a pair of a book -/
structure Pr where
  key : List (BitVec 8)
  val : List (BitVec 8)
/-- a doing with a book -/
structure Dg where
  key : List (BitVec 8)
  val : List (BitVec 8)
  gone : Bool
/-- those ahead of a key, and the others -/
def ahead (k : List (BitVec 8)) : List Pr → List Pr
  | [] => []
  | p :: r => if lessB p.key k = true then p :: ahead k r else []
def behind (k : List (BitVec 8)) : List Pr → List Pr
  | [] => []
  | p :: r => if lessB p.key k = true then behind k r else p :: r



end Go.Proofs.YtbjlfhabnjpdmaaGreatDoor
namespace Go.Proofs.YtbjlfhabnjpdmaaGreatDoor

end Go.Proofs.YtbjlfhabnjpdmaaGreatDoor
namespace Go.Proofs.YtbjlfhabnjpdmaaGreatDoor

/-- a proof -/
structure Prf where
  index : Int
  size : Int
  key : List (BitVec 8)
  val : List (BitVec 8)
  path : List (List (BitVec 8))
def Prf.none : Prf := ⟨0, 0, [], [], []⟩
/-- a gap -/
structure Gp where
  hasL : Bool
  hasR : Bool
  left : Prf
  right : Prf
def Gp.none : Gp := ⟨false, false, Prf.none, Prf.none⟩
end Go.Proofs.YtbjlfhabnjpdmaaGreatDoor
namespace Go.Proofs.YtbjlfhabnjpdmaaGreatDoor
open Go.RowKit

/-- as many bytes as the reach lets -/
def Prf.fits (p : Prf) : Prop := p.key.length ≤ 140737488351232 ∧ p.val.length ≤ 140737488351232 ∧ p.path.length < 2305843009213693952 ∧ ∀ d ∈ p.path, d.length ≤ 140737488351232
def Gp.fits (g : Gp) : Prop := g.left.fits ∧ g.right.fits
end Go.Proofs.YtbjlfhabnjpdmaaGreatDoor
namespace Go.Proofs.YtbjlfhabnjpdmaaGreatDoor

end Go.Proofs.YtbjlfhabnjpdmaaGreatDoor
namespace Go.Proofs.YtbjlfhabnjpdmaaGreatDoor
open Go.RowKit

end Go.Proofs.YtbjlfhabnjpdmaaGreatDoor
namespace Go.Proofs.YtbjlfhabnjpdmaaGreatDoor
open Go.RowKit

end Go.Proofs.YtbjlfhabnjpdmaaGreatDoor
