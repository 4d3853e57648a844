/-
  Slices of slices of bytes, in memory. No function of the program is named here.
-/
import Derived.Test.YtgpainbnldghkaaDoorMemB
namespace Go.Proofs.YtgpainbnldghkaaDoor
open Go.RowKit

/-- sv is a slice of slices that read as ls -/
def Lists (w : World) (N : Nat) (sv : Value) (ls : List (List (BitVec 8))) : Prop :=
  (sv = .slice none 0 0 ∧ ls = []) ∨ (∃ a cap, sv = .slice (some a) 0 cap ∧ ls = []) ∨ ∃ b off cap, sv = .slice (some ⟨b, off, none⟩) ls.length cap ∧ ls.length ≤ cap ∧
    ∀ i, i < ls.length → b < N ∧ ∃ x, w.cell? ⟨b, off + i, none⟩ = some x ∧ Bytes w N x (ls.getD i [])
theorem Lists.shape {w : World} {N : Nat} {sv : Value} {ls : List (List (BitVec 8))} (h : Lists w N sv ls) : ∃ oa cap, sv = .slice oa ls.length cap ∧ ls.length ≤ cap := by
  rcases h with ⟨rfl, rfl⟩ | ⟨a, cap, rfl, rfl⟩ | ⟨b, off, cap, rfl, hc, _⟩
  · exact ⟨none, 0, rfl, Nat.le_refl _⟩
  · exact ⟨_, cap, rfl, Nat.zero_le _⟩
  · exact ⟨_, cap, rfl, hc⟩
theorem Lists.some {w : World} {N : Nat} {oa : Option Addr} {cap : Nat} {ls : List (List (BitVec 8))} (h : Lists w N (.slice oa ls.length cap) ls) (hl : 0 < ls.length) :
    ∃ b off, oa = some ⟨b, off, none⟩ ∧ ∀ i, i < ls.length → b < N ∧ ∃ x, w.cell? ⟨b, off + i, none⟩ = some x ∧ Bytes w N x (ls.getD i []) := by
  rcases h with ⟨_, rfl⟩ | ⟨_, _, _, rfl⟩ | ⟨b, off, c, h1, _, h3⟩
  · simp at hl
  · simp at hl
  · simp at h1
    exact ⟨b, off, h1.1, h3⟩
theorem Lists.below {w w' : World} {N : Nat} {sv : Value} {ls : List (List (BitVec 8))} (h : Lists w N sv ls) (hg : Below N w w') : Lists w' N sv ls := by
  rcases h with h | h | ⟨b, off, cap, h1, h2, h3⟩
  · exact .inl h
  · exact .inr (.inl h)
  · refine .inr (.inr ⟨b, off, cap, h1, h2, fun i hi => ?_⟩)
    obtain ⟨h4, x, h5, h6⟩ := h3 i hi
    exact ⟨h4, x, (hg.cell h4).trans h5, h6.below hg⟩
theorem flatten_take_succ (ls : List (List (BitVec 8))) (k : Nat) (h : k < ls.length) : (ls.take (k + 1)).flatten = (ls.take k).flatten ++ ls.getD k [] := by
  have e : ls.getD k [] = ls[k] := by simp [h]
  have e2 : [ls[k]].flatten = ls[k] := by simp
  rw [List.take_succ_eq_append_getElem h, List.flatten_append, e, e2]
theorem flatten_take_le (ls : List (List (BitVec 8))) : ∀ k, (ls.take k).flatten.length ≤ ls.flatten.length := by
  induction ls with
  | nil => intro k; simp
  | cons x r ih =>
    intro k
    cases k with
    | zero => simp
    | succ k => have := ih k; simp at this ⊢; omega

theorem lists_new (w : World) (t : TypeId) (xs : List Value) (ls : List (List (BitVec 8))) (h : ∀ i, i < ls.length → ∃ x, xs[i]? = some x ∧ Bytes w w.heap.size x (ls.getD i [])) :
    Lists (w.alloc (.cells xs.toArray t)) (w.heap.size + 1) (.slice (some ⟨w.heap.size, 0, none⟩) ls.length ls.length) ls := by
  refine .inr (.inr ⟨w.heap.size, 0, ls.length, rfl, Nat.le_refl _, fun i hi => ⟨by omega, ?_⟩⟩)
  obtain ⟨x, hx, hb⟩ := h i hi
  refine ⟨x, ?_, (hb.below ((Below.refl _ _).alloc (Nat.le_refl _) _)).mono (by omega)⟩
  rw [cell_of_row _ _ _ _ _ _ (heap_alloc_new w _), Nat.zero_add]
  simpa using hx

theorem lists2 {w : World} {t : TypeId} {x y : Value} {a b : List (BitVec 8)} (hx : Bytes w w.heap.size x a) (hy : Bytes w w.heap.size y b) : Lists (w.alloc (.cells #[x, y] t)) (w.heap.size + 1) (.slice (some ⟨w.heap.size, 0, none⟩) 2 2) [a, b] :=
  lists_new w t [x, y] [a, b] (fun i hi => by
    obtain rfl | rfl : i = 0 ∨ i = 1 := by simp at hi; omega
    · exact ⟨x, rfl, hx⟩
    · exact ⟨y, rfl, hy⟩)
theorem lists3 {w : World} {t : TypeId} {x y z : Value} {a b c : List (BitVec 8)} (hx : Bytes w w.heap.size x a) (hy : Bytes w w.heap.size y b) (hz : Bytes w w.heap.size z c) : Lists (w.alloc (.cells #[x, y, z] t)) (w.heap.size + 1) (.slice (some ⟨w.heap.size, 0, none⟩) 3 3) [a, b, c] :=
  lists_new w t [x, y, z] [a, b, c] (fun i hi => by
    obtain rfl | rfl | rfl : i = 0 ∨ i = 1 ∨ i = 2 := by simp at hi; omega
    · exact ⟨x, rfl, hx⟩
    · exact ⟨y, rfl, hy⟩
    · exact ⟨z, rfl, hz⟩)
theorem flat2 (a b : List (BitVec 8)) : [a, b].flatten = a ++ b := by simp
theorem flat3 (a b c : List (BitVec 8)) : [a, b, c].flatten = a ++ (b ++ c) := by simp

theorem lists4 {w : World} {t : TypeId} {x y z u : Value} {a b c d : List (BitVec 8)} (hx : Bytes w w.heap.size x a) (hy : Bytes w w.heap.size y b) (hz : Bytes w w.heap.size z c) (hu : Bytes w w.heap.size u d) : Lists (w.alloc (.cells #[x, y, z, u] t)) (w.heap.size + 1) (.slice (some ⟨w.heap.size, 0, none⟩) 4 4) [a, b, c, d] :=
  lists_new w t [x, y, z, u] [a, b, c, d] (fun i hi => by
    obtain rfl | rfl | rfl | rfl : i = 0 ∨ i = 1 ∨ i = 2 ∨ i = 3 := by simp at hi; omega
    · exact ⟨x, rfl, hx⟩
    · exact ⟨y, rfl, hy⟩
    · exact ⟨z, rfl, hz⟩
    · exact ⟨u, rfl, hu⟩)
theorem flat4 (a b c d : List (BitVec 8)) : [a, b, c, d].flatten = a ++ (b ++ (c ++ d)) := by simp
end Go.Proofs.YtgpainbnldghkaaDoor
