/-
  What a call owns reads as bytes; what reads as bytes is a source of cells; bytes in a new block.
-/
import Derived.Test.YtedjmhiocmefiaaDoorShaBase
namespace Go.Proofs.YtedjmhiocmefiaaDoor
open Go.RowKit

/-- what a call owns reads as bytes -/
theorem ownsRow_bytes {w : World} {base n : Nat} {v : Value} {l : List (BitVec 8)} (h : w.ownsRow base 5 1 v n (l.map V)) : Bytes w w.heap.size v l := by
  obtain ⟨h1, h2⟩ := h
  have hl : l.length = n := by simpa using h1
  subst hl
  rcases h2 with ⟨rfl, h3⟩ | ⟨g, cap, cur, rfl, _, hg, hn, _, hc, hx⟩
  · exact .inl ⟨rfl, List.length_eq_zero_iff.1 h3⟩
  · refine .inr (.inr ⟨g, 0, cap, rfl, hn, fun i hi => ⟨(Array.getElem?_eq_some_iff.1 hg).1, ?_⟩⟩)
    rw [Nat.zero_add, cell_of_row w g i cur _ _ hg]
    have h4 : (cur.toList.take (l.length * 1))[i]? = (l.map V)[i]? := by rw [hx]
    rw [Nat.mul_one, List.getElem?_take, if_pos hi] at h4
    rw [← Array.getElem?_toList, h4, List.getElem?_map, getD_some l i 0 hi]
    rfl
/-- a slice that reads as l, as a source of cells -/
theorem bytes_source {w : World} {N : Nat} {x : Value} {l : List (BitVec 8)} (h : Bytes w N x l) :
    (x = .slice none 0 0 ∧ l = []) ∨ ∃ ad cap, x = .slice (some ad) l.length cap ∧ ∀ j v, (l.map V)[j]? = some v → w.cell? (ad.add j) = some v := by
  rcases h with h | ⟨a, cap, rfl, rfl⟩ | ⟨b, off, cap, rfl, _, hc⟩
  · exact .inl h
  · exact .inr ⟨a, cap, rfl, fun j v hv => by simp at hv⟩
  · refine .inr ⟨_, cap, rfl, fun j v hv => ?_⟩
    have hj : j < l.length := by have := (List.getElem?_eq_some_iff.1 hv).1; simpa using this
    have hadd : (⟨b, off, none⟩ : Addr).add j = ⟨b, off + j, none⟩ := by unfold Addr.add; split <;> simp_all
    rw [hadd, (hc j hj).2, ← hv, List.getElem?_map, getD_some l j 0 hj]
    rfl

theorem ownsRow_shape {w : World} {base e n : Nat} {v : Value} {xs : List Value} (h : w.ownsRow base e 1 v n xs) : ∃ oa cap, v = .slice oa n cap ∧ n ≤ cap ∧
    (0 < n → ∃ g, oa = some ⟨g, 0, none⟩ ∧ base ≤ g ∧ g < w.heap.size ∧ ∀ j, j < n → w.cell? ⟨g, j, none⟩ = xs[j]? ∧ w.frozen? ⟨g, j, none⟩ = false) := by
  obtain ⟨h1, h2⟩ := h
  rcases h2 with ⟨rfl, rfl⟩ | ⟨g, cap, cur, rfl, hb, hg, hc, _, hs, hx⟩
  · exact ⟨none, 0, rfl, Nat.le_refl _, fun h => absurd h (by omega)⟩
  · refine ⟨_, cap, rfl, hc, fun _ => ⟨g, rfl, hb, (Array.getElem?_eq_some_iff.1 hg).1, fun j hj => ⟨?_, frozen_of_row w g j cur e hg⟩⟩⟩
    rw [cell_of_row w g j cur _ _ hg, ← hx, Nat.mul_one, List.getElem?_take, if_pos hj, Array.getElem?_toList]
/-- bytes in a new block, of whatever frozen range -/
theorem bytes_new (w : World) (l : List (BitVec 8)) (t : TypeId) (fr : Nat × Nat) (cap : Nat) (hc : l.length ≤ cap) : Bytes (w.alloc (.cells (l.map V).toArray t fr)) (w.heap.size + 1) (.slice (some ⟨w.heap.size, 0, none⟩) l.length cap) l := by
  refine .inr (.inr ⟨w.heap.size, 0, cap, rfl, hc, fun i hi => ⟨by omega, ?_⟩⟩)
  rw [cell_of_row _ _ _ _ _ _ (heap_alloc_new w _), Nat.zero_add]
  simp only [List.getElem?_toArray, List.getElem?_map]
  rw [getD_some l i 0 hi]
  rfl
end Go.Proofs.YtedjmhiocmefiaaDoor
