/-
  That the document's Play and Get answer what the statements' walks ask of package book's.
-/
import Derived.Test.YtgpainbnldghkaaDoorBookFace
import Derived.Test.YtgpainbnldghkaaDoorRef4P
namespace Go.Proofs.YtgpainbnldghkaaDoor
open Go.RowKit

theorem refPlayC : PlayC 8 := by
  intro l sv N w hb hN hlen hfit
  refine (refPlay_any l sv N w hb hN hlen hfit).mono ?_
  rintro e w' ⟨h1, ⟨x, v, h2, rfl, h3⟩ | ⟨c, i, h2, rfl⟩⟩
  · obtain ⟨ov, cv, rfl, _⟩ := h3.shape
    refine ⟨h1, ov, _, cv, by simp only [pcode, h2]; rfl, ?_⟩
    simp only [pout, h2]
    exact h3
  · refine ⟨h1, none, 0, 0, by simp only [pcode, h2], ?_⟩
    simp only [pout, h2]
    exact Pairs.nil _ _
theorem refGetC : GetC 16 := by
  intro l k sv kv N w hN hl hk _ hf hn hkl
  refine (refGet_any l k sv kv N w hN hl hk (by omega) (fits_of hf) hkl).mono ?_
  rintro e w' ⟨h1, ⟨h2, rfl⟩ | ⟨x, ov, nv, cv, h2, rfl, h3⟩⟩
  · refine ⟨h1, none, 0, 0, by rw [h2]; rfl, ?_⟩
    rw [h2]
    exact .inl ⟨rfl, rfl⟩
  · refine ⟨h1, ov, nv, cv, by rw [h2]; rfl, ?_⟩
    rw [h2]
    exact (h3.below (h1.mono hN)).mono (Nat.le_trans hN h1.size)
end Go.Proofs.YtgpainbnldghkaaDoor
