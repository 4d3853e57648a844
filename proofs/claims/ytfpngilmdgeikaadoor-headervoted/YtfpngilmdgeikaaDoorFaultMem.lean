/-
  Faults as values; a row of two cells that is written once.
-/
import Derived.Test.YtfpngilmdgeikaaDoorMemB
namespace Go.Proofs.YtfpngilmdgeikaaDoor
open Go.RowKit

def okV : Value := .agg #[.int .i64 0, .int .i64 0]
def faultV (c : Int) (i : Nat) : Value := .agg #[.int .i64 c, .int .i64 (i : Int)]
theorem Row.two {w : World} {g : Nat} {t : TypeId} {a b : Value} (h : Row w g t [a, b]) :
    w.cell? ⟨g, 0, none⟩ = some a ∧ w.cell? ⟨g, 1, none⟩ = some b ∧ w.frozen? ⟨g, 0, none⟩ = false ∧ w.frozen? ⟨g, 1, none⟩ = false :=
  ⟨h.cell 0, h.cell 1, h.frozen 0, h.frozen 1⟩
theorem Row.set2 {w : World} {g : Nat} {t : TypeId} {a b : Value} (h : Row w g t [a, b]) (x y : Value) :
    ((w.setCell ⟨g, 0, none⟩ x).setCell ⟨g, 1, none⟩ y).cell? ⟨g, 0, none⟩ = some x ∧
    ((w.setCell ⟨g, 0, none⟩ x).setCell ⟨g, 1, none⟩ y).cell? ⟨g, 1, none⟩ = some y :=
  have h3 := (h.set 0 x).set 1 y
  ⟨h3.cell 0, h3.cell 1⟩
theorem below_set2 {B : Nat} {a w : World} (h : Below B a w) {g : Nat} (hg : B ≤ g) (x y : Value) : Below B a ((w.setCell ⟨g, 0, none⟩ x).setCell ⟨g, 1, none⟩ y) :=
  (h.setCell hg _).setCell hg _
end Go.Proofs.YtfpngilmdgeikaaDoor
