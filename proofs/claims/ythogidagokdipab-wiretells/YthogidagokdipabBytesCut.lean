/-
  Slices of what reads as bytes: from a place on, up to a place, between two places.
-/
import Derived.Test.YthogidagokdipabBytesMem
namespace Go.Proofs.Ythogidagokdipab
open Go.RowKit

theorem elemB : Try.prog.underlying 23 = some (.slice (Try.prog.elem 23)) := by kernel_rfl
theorem sizeB (w : World) : (sizeOf (Try.prog.elem 23)).run Try.prog w = .ok 1 w := by kernel_rfl
theorem bytes_between {w : World} {N : Nat} {oa : Option Addr} {n ca : Nat} {l : List (BitVec 8)} (h : Bytes w N (.slice oa n ca) l) (i j : Nat) (hij : i ≤ j) (hj : j ≤ n) : Bytes w N (sliced oa i j ca 1) ((l.drop i).take (j - i)) := by
  obtain ⟨oa', ca', he, hc⟩ := h.shape
  obtain ⟨rfl, hn, rfl⟩ : oa = oa' ∧ n = l.length ∧ ca = ca' := by simpa using he
  subst hn
  by_cases h0 : i = j
  · subst h0
    have e : (l.drop i).take (i - i) = [] := by simp
    rw [e]
    cases oa with
    | none =>
      rcases h with ⟨h1, h2⟩ | ⟨a, cap, h1, _⟩ | ⟨b, off, cap, h1, _, _⟩
      · obtain ⟨h3, rfl⟩ : l.length = 0 ∧ ca = 0 := by simpa using h1
        left
        have : i = 0 := by omega
        subst this
        simp [sliced]
      · simp at h1
      · simp at h1
    | some a =>
      right; left
      refine ⟨if ca = i then a else a.add (i * 1), ca - i, ?_, rfl⟩
      simp only [sliced, Nat.sub_self]
      split <;> simp
  · obtain ⟨b, o, rfl, c1⟩ := h.some (by omega)
    have hne : ¬ ca = i := by omega
    right; right
    refine ⟨b, o + i, ca - i, ?_, ?_, ?_⟩
    · have hl : ((l.drop i).take (j - i)).length = j - i := by simp; omega
      rw [hl]
      simp [sliced, hne, Addr.add]
    · simp; omega
    · intro q hq
      simp at hq
      have := c1 (i + q) (by omega)
      refine ⟨this.1, ?_⟩
      rw [Nat.add_assoc, this.2]
      simp [show q < j - i by omega]
/-- from a place on -/
theorem slice_from {w : World} {N : Nat} {oa : Option Addr} {n ca : Nat} {l : List (BitVec 8)} (h : Bytes w N (.slice oa n ca) l) (kd : IntKind) (i : Nat) (hi : i ≤ n) :
    ∃ v, (∀ w', (Instr.sliceAt 23 (.slice oa n ca) (some (.int kd (i : Int))) none none).run Try.prog w' = .ok v w') ∧ Bytes w N v (l.drop i) := by
  have hn : n = l.length := by obtain ⟨oa', ca', he, _⟩ := h.shape; simp at he; exact he.2.1
  refine ⟨sliced oa i n ca 1, fun w' => ?_, ?_⟩
  · rw [run_sliceAt_slice w' _ _ _ _ _ elemB, run_slice_l w' _ _ _ _ elemB kd (i : Int) (by omega) (by omega), sizeB]
    rfl
  · have := bytes_between h i n hi (Nat.le_refl _)
    rwa [List.take_of_length_le (by simp; omega)] at this
/-- up to a place -/
theorem slice_to {w : World} {N : Nat} {oa : Option Addr} {n ca : Nat} {l : List (BitVec 8)} (h : Bytes w N (.slice oa n ca) l) (kd : IntKind) (j : Nat) (hj : j ≤ n) :
    ∃ v, (∀ w', (Instr.sliceAt 23 (.slice oa n ca) none (some (.int kd (j : Int))) none).run Try.prog w' = .ok v w') ∧ Bytes w N v (l.take j) := by
  have hc : n ≤ ca := by obtain ⟨oa', ca', he, hc⟩ := h.shape; simp at he; omega
  refine ⟨sliced oa 0 j ca 1, fun w' => ?_, ?_⟩
  · rw [run_sliceAt_slice w' _ _ _ _ _ elemB, run_slice_h w' _ _ _ _ elemB kd (j : Int) (by omega) (by omega), sizeB]
    rfl
  · have := bytes_between h 0 j (Nat.zero_le _) hj
    simpa using this
/-- between two places -/
theorem slice_lh {w : World} {N : Nat} {oa : Option Addr} {n ca : Nat} {l : List (BitVec 8)} (h : Bytes w N (.slice oa n ca) l) (kd ke : IntKind) (i j : Nat) (hij : i ≤ j) (hj : j ≤ n) :
    ∃ v, (∀ w', (Instr.sliceAt 23 (.slice oa n ca) (some (.int kd (i : Int))) (some (.int ke (j : Int))) none).run Try.prog w' = .ok v w') ∧ Bytes w N v ((l.drop i).take (j - i)) := by
  have hc : n ≤ ca := by obtain ⟨oa', ca', he, hc⟩ := h.shape; simp at he; omega
  refine ⟨sliced oa i j ca 1, fun w' => ?_, bytes_between h i j hij hj⟩
  rw [run_sliceAt_slice w' _ _ _ _ _ elemB, run_slice_lh w' _ _ _ _ elemB kd ke (i : Int) (j : Int) (by omega) (by omega) (by omega), sizeB]
  rfl
end Go.Proofs.Ythogidagokdipab
