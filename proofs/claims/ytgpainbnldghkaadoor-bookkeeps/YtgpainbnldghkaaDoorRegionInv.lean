/-
  A region that draws its order, by an invariant: of what has come up, the frame and the world; each operation that may come up keeps it, whatever came ahead. Where several operations make memory beside calls, the orders need not be told apart.
-/
import Derived.StillTailTactics
import Derived.Deep.QuietTactic
namespace Go.Proofs.YtgpainbnldghkaaDoor

section
variable {P : Program} {ops : Array Oper} {md : Region.Mode}
/-- how many have not come up -/
def leftB (s : Array Bool) : Nat := s.toList.count false
theorem leftB_set (s : Array Bool) (i : Nat) (h : s.getD i true = false) : leftB (s.setIfInBounds i true) + 1 = leftB s := by
  have hi : i < s.size := by
    rcases Nat.lt_or_ge i s.size with h' | h'
    · exact h'
    · simp [Array.getD, Nat.not_lt.2 h'] at h
  have hv : s[i] = false := by simpa [Array.getD, hi] using h
  unfold leftB
  rw [Array.toList_setIfInBounds, List.count_set (by simpa using hi)]
  have h1 : s.toList[i]'(by simpa using hi) = false := by simpa using hv
  have h2 : 0 < s.toList.count false := List.count_pos_iff.2 (by rw [← h1]; exact List.getElem_mem _)
  rw [h1, if_pos (by rfl), if_neg (by decide)]
  omega
theorem any_inv {Q : Exit → Act → World → Prop} (Inv : Array Bool → Act → World → Prop)
    (hstep : ∀ s a w, Inv s a w → ∀ i ∈ Region.ready md ops s, wpOp P ops Q i (Inv (s.setIfInBounds i true)) a w)
    (hend : ∀ s a w, Inv s a w → Region.ready md ops s = [] → Q .normal a w) :
    ∀ (f : Nat) (s : Array Bool) (a : Act) (w : World), leftB s ≤ f → Inv s a w → wpAny P md ops Q f s a w
  | 0, s, a, w, hf, h => by
    have hr : Region.ready md ops s = [] := by
      cases hr : Region.ready md ops s with
      | nil => rfl
      | cons i r =>
        have hm : i ∈ Region.ready md ops s := by rw [hr]; simp
        have := leftB_set s i (mem_ready.1 hm).1
        omega
    exact ⟨hr, hend s a w h hr⟩
  | f + 1, s, a, w, hf, h => by
    refine ⟨fun hr => hend s a w h hr, fun i hi => wpOp_mono (fun a' w' h' => ?_) (hstep s a w h i hi)⟩
    have := leftB_set s i (mem_ready.1 hi).1
    exact any_inv Inv hstep hend f _ a' w' (by omega) h'
theorem region_inv {id : Nat} {Q : Exit → Act → World → Prop} {a : Act} {w : World} (hm : P.follows .mixedOrders = true) (Inv : Array Bool → Act → World → Prop)
    (h0 : Inv (Array.replicate ops.size false) a w.drew)
    (hstep : ∀ s a w, Inv s a w → ∀ i ∈ Region.ready .any ops s, wpOp P ops Q i (Inv (s.setIfInBounds i true)) a w)
    (hend : ∀ s a w, Inv s a w → Region.ready .any ops s = [] → Q .normal a w) : (Code.region id ops true).wp P Q a w :=
  wp_region_any hm (any_inv Inv hstep hend _ _ _ _ (by simp [leftB]) h0)
end
end Go.Proofs.YtgpainbnldghkaaDoor
