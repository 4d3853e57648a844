/-
  What a key's place in a book says: what stands under it, what dropping it, and setting it, makes. No program is named here.
-/
import Derived.Test.YtgpainbnldghkaaDoorBookMath
namespace Go.Proofs.YtgpainbnldghkaaDoor

/-- where a key stands, or would; whether it does -/
def At (k : List (BitVec 8)) (l : List Pr) (i : Nat) (fd : Bool) : Prop :=
  i ≤ l.length ∧ (∀ j p, j < i → l[j]? = some p → lessB p.key k = true) ∧ (∀ j p, i ≤ j → l[j]? = some p → lessB p.key k = false) ∧ (fd = true ↔ ∃ p, l[i]? = some p ∧ p.key = k)
theorem sorted_lt {l : List Pr} (h : Sorted l) {i j : Nat} {p q : Pr} (hij : i < j) (hp : l[i]? = some p) (hq : l[j]? = some q) : lessB p.key q.key = true := by
  obtain ⟨hi, rfl⟩ := List.getElem?_eq_some_iff.1 hp
  obtain ⟨hj, rfl⟩ := List.getElem?_eq_some_iff.1 hq
  exact List.pairwise_iff_getElem.1 h i j hi hj hij
theorem At.found {k : List (BitVec 8)} {l : List Pr} {i : Nat} (h : At k l i true) : ∃ p, l[i]? = some p ∧ p.key = k := h.2.2.2.1 rfl
theorem At.not_found {k : List (BitVec 8)} {l : List Pr} {i : Nat} (h : At k l i false) (p : Pr) (hp : l[i]? = some p) : p.key ≠ k := fun e => by
  have := h.2.2.2.2 ⟨p, hp, e⟩
  cases this
/-- every other pair has another key -/
theorem At.others {k : List (BitVec 8)} {l : List Pr} {i : Nat} {fd : Bool} (h : At k l i fd) (hs : Sorted l) (j : Nat) (p : Pr) (hp : l[j]? = some p) (hne : j ≠ i) : p.key ≠ k := by
  rcases Nat.lt_or_gt_of_ne hne with hlt | hgt
  · exact lessB_ne (h.2.1 j p hlt hp)
  · rintro rfl
    obtain ⟨hj, _⟩ := List.getElem?_eq_some_iff.1 hp
    have hi : l[i]? = some (l[i]'(by omega)) := List.getElem?_eq_getElem _
    have h1 := sorted_lt hs hgt hi hp
    rw [h.2.2.1 i _ (Nat.le_refl _) hi] at h1
    cases h1
theorem filter_all {α : Type} (f : α → Bool) (l : List α) (h : ∀ (j : Nat) (p : α), l[j]? = some p → f p = true) : l.filter f = l :=
  List.filter_eq_self.2 fun p hp => by
    obtain ⟨j, hj, rfl⟩ := List.getElem_of_mem hp
    exact h j _ (List.getElem?_eq_getElem hj)
theorem At.split {k : List (BitVec 8)} {l : List Pr} {i : Nat} (h : At k l i true) : ∃ p, l[i]? = some p ∧ p.key = k ∧ l = l.take i ++ p :: l.drop (i + 1) := by
  obtain ⟨p, hp, hk⟩ := h.found
  obtain ⟨hi, he⟩ := List.getElem?_eq_some_iff.1 hp
  refine ⟨p, hp, hk, ?_⟩
  rw [← he, ← List.drop_eq_getElem_cons hi, List.take_append_drop]
theorem drop_get_some {l : List Pr} {n j : Nat} {p : Pr} (h : (l.drop n)[j]? = some p) : l[n + j]? = some p := by rwa [List.getElem?_drop] at h
theorem take_get_some {l : List Pr} {n j : Nat} {p : Pr} (h : (l.take n)[j]? = some p) : j < n ∧ l[j]? = some p := by
  rw [List.getElem?_take] at h
  split at h
  · exact ⟨by assumption, h⟩
  · cases h
theorem At.drop_found {k : List (BitVec 8)} {l : List Pr} {i : Nat} (h : At k l i true) (hs : Sorted l) : dropK k l = l.take i ++ l.drop (i + 1) := by
  obtain ⟨p, hp, hk, he⟩ := h.split
  have e : dropK k l = dropK k (l.take i ++ p :: l.drop (i + 1)) := by rw [← he]
  rw [e]
  unfold dropK
  rw [List.filter_append, List.filter_cons, if_neg (by simp [hk])]
  rw [filter_all _ _ fun j q hq => ?_, filter_all _ _ fun j q hq => ?_]
  · have := drop_get_some hq
    exact decide_eq_true (h.others hs _ q this (by omega))
  · have := take_get_some hq
    exact decide_eq_true (h.others hs _ q this.2 (by omega))
theorem At.drop_not {k : List (BitVec 8)} {l : List Pr} {i : Nat} (h : At k l i false) (hs : Sorted l) : dropK k l = l := by
  unfold dropK
  refine filter_all _ _ fun j q hq => decide_eq_true ?_
  by_cases e : j = i
  · subst e
    exact h.not_found q hq
  · exact h.others hs j q hq e
theorem ahead_of (k : List (BitVec 8)) : ∀ (a b : List Pr), (∀ (j : Nat) p, a[j]? = some p → lessB p.key k = true) → (∀ p, b[0]? = some p → lessB p.key k = false) → ahead k (a ++ b) = a ∧ behind k (a ++ b) = b
  | [], [], _, _ => ⟨rfl, rfl⟩
  | [], q :: r, _, hb => by
    have := hb q rfl
    rw [List.nil_append, ahead, behind, if_neg (by simp [this]), if_neg (by simp [this])]
    exact ⟨rfl, rfl⟩
  | p :: a, b, ha, hb => by
    have h0 := ha 0 p rfl
    have ih := ahead_of k a b (fun j q hq => ha (j + 1) q (by simpa using hq)) hb
    rw [List.cons_append, ahead, behind, if_pos h0, if_pos h0, ih.1, ih.2]
    exact ⟨rfl, rfl⟩
theorem At.set_found {k : List (BitVec 8)} {l : List Pr} {i : Nat} (h : At k l i true) (hs : Sorted l) (v : List (BitVec 8)) : setP ⟨k, v⟩ l = l.take i ++ ⟨k, v⟩ :: l.drop (i + 1) := by
  unfold setP
  rw [show (⟨k, v⟩ : Pr).key = k from rfl, h.drop_found hs]
  obtain ⟨h1, h2⟩ := ahead_of k (l.take i) (l.drop (i + 1)) (fun j p hp => h.2.1 j p (take_get_some hp).1 (take_get_some hp).2) (fun p hp => h.2.2.1 (i + 1 + 0) p (by omega) (drop_get_some hp))
  rw [h1, h2]
theorem At.set_not {k : List (BitVec 8)} {l : List Pr} {i : Nat} (h : At k l i false) (hs : Sorted l) (v : List (BitVec 8)) : setP ⟨k, v⟩ l = l.take i ++ ⟨k, v⟩ :: l.drop i := by
  unfold setP
  rw [show (⟨k, v⟩ : Pr).key = k from rfl, h.drop_not hs]
  obtain ⟨h1, h2⟩ := ahead_of k (l.take i) (l.drop i) (fun j p hp => h.2.1 j p (take_get_some hp).1 (take_get_some hp).2) (fun p hp => h.2.2.1 (i + 0) p (by omega) (drop_get_some hp))
  rw [List.take_append_drop] at h1 h2
  rw [h1, h2]
theorem At.get_found {k : List (BitVec 8)} {l : List Pr} {i : Nat} (h : At k l i true) (hs : Sorted l) : ∃ p, l[i]? = some p ∧ getL k l = some p.val := by
  obtain ⟨p, hp, hk, he⟩ := h.split
  refine ⟨p, hp, ?_⟩
  have e : getL k l = getL k (l.take i ++ p :: l.drop (i + 1)) := by rw [← he]
  rw [e, getL_append, getL_none, Option.none_or, getL, if_pos hk]
  intro q hq
  obtain ⟨j, hj, rfl⟩ := List.getElem_of_mem hq
  have := take_get_some (List.getElem?_eq_getElem hj)
  exact h.others hs j _ this.2 (by omega)
theorem At.get_not {k : List (BitVec 8)} {l : List Pr} {i : Nat} (h : At k l i false) (hs : Sorted l) : getL k l = none := by
  refine getL_none fun q hq => ?_
  obtain ⟨j, hj, rfl⟩ := List.getElem_of_mem hq
  have hp : l[j]? = some l[j] := List.getElem?_eq_getElem hj
  by_cases e : j = i
  · subst e
    exact h.not_found _ hp
  · exact h.others hs j _ hp e
end Go.Proofs.YtgpainbnldghkaaDoor
