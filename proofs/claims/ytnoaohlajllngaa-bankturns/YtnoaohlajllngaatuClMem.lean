/-
  Rows of records of one type that a call owns: appended to, inserted into, deleted from. (Made by rec/mkrec.py.)
  Plain mathematics of clients: what is wrong with them, what they know, believe and learn. No function of the program is named here.
  Plain mathematics of the laws of clients: what is followed twice, by way of another block, or voted for. No function of the program is named here.
  What clients know, in memory: records of four cells behind a slice value; clients and updates as values; rows of what is known that a call owns. No function of the program is named here.
-/
import Derived.Test.YtnoaohlajllngaatuHdMems
import Derived.Test.YtnoaohlajllngaatuMemB
namespace Go.Proofs.Ytnoaohlajllngaa
open Go.RowKit

end Go.Proofs.Ytnoaohlajllngaa
namespace Go.Proofs.Ytnoaohlajllngaa

/-- what is known of a block -/
structure Kn where
  height : Int
  time : Int
  root : List (BitVec 8)
  next : List (BitVec 8)
/-- a client -/
structure Cl where
  chain : ByteArray
  trust : Int
  frozen : Bool
  known : List Kn
def Kn.none : Kn := ⟨0, 0, [], []⟩
def Cl.none : Cl := ⟨⟨#[]⟩, 0, false, []⟩
/-- as many bytes as the reach lets -/
def Kn.fits (k : Kn) : Prop := k.root.length ≤ 140737488351232 ∧ k.next.length ≤ 140737488351232
def Cl.fits (c : Cl) : Prop := c.chain.size ≤ 140737488351232 ∧ c.known.length < 2305843009213693952 ∧ ∀ k ∈ c.known, k.fits








end Go.Proofs.Ytnoaohlajllngaa
namespace Go.Proofs.Ytnoaohlajllngaa

end Go.Proofs.Ytnoaohlajllngaa
namespace Go.Proofs.Ytnoaohlajllngaa
open Go.RowKit

theorem Row.four {w : World} {g : Nat} {t : TypeId} {a b c d : Value} (h : Row w g t [a, b, c, d]) :
    (w.cell? ⟨g, 0, none⟩ = some a ∧ w.cell? ⟨g, 1, none⟩ = some b ∧ w.cell? ⟨g, 2, none⟩ = some c ∧ w.cell? ⟨g, 3, none⟩ = some d) ∧ w.frozen? ⟨g, 0, none⟩ = false ∧ w.frozen? ⟨g, 1, none⟩ = false ∧ w.frozen? ⟨g, 2, none⟩ = false ∧ w.frozen? ⟨g, 3, none⟩ = false :=
  ⟨⟨h.cell 0, h.cell 1, h.cell 2, h.cell 3⟩, h.frozen 0, h.frozen 1, h.frozen 2, h.frozen 3⟩
end Go.Proofs.Ytnoaohlajllngaa
