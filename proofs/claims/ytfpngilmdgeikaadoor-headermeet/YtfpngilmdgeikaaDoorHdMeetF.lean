/-
  Plain facts: two majorities of more than two thirds have more than a third in common; who votes for a header overlaps its own validators.
-/
import Derived.Test.YtfpngilmdgeikaaDoorHdFindOver
import Derived.Test.YtfpngilmdgeikaaDoorHdCheck
import Derived.Test.YtfpngilmdgeikaaDoorHdFacts
namespace Go.Proofs.YtfpngilmdgeikaaDoor

theorem sumIx_and (p q : Nat → Bool) : ∀ (l : List Vl) (k : Nat), sumIx p k l + sumIx q k l ≤ sumIx (fun i => p i && q i) k l + allP l
  | [], _ => by simp [sumIx]
  | v :: l, k => by
    have ih := sumIx_and p q l (k + 1)
    have e : allP (v :: l) = v.power + allP l := by simp [allP]
    rw [sumIx, sumIx, sumIx, e]
    cases p k <;> cases q k <;> simp <;> omega
theorem yes_sum (l : List Vl) (ts : List Vt) (h : ts.length = l.length) : sumIx (isAt ts) 0 l = yesP l ts :=
  sumIx_yes l ts 0 (isAt ts) h (fun i t ht => by rw [Nat.zero_add]; exact isAt_some ht)
/-- what both have voted for -/
def bothIx (s t : List Vt) : Nat → Bool := fun i => isAt s i && isAt t i
theorem meet_both {l : List Vl} {s t : List Vt} (hs : s.length = l.length) (ht : t.length = l.length) (h1 : 2 * allP l < 3 * yesP l s) (h2 : 2 * allP l < 3 * yesP l t) : allP l < 3 * sumIx (bothIx s t) 0 l := by
  have := sumIx_and (isAt s) (isAt t) l 0
  rw [yes_sum l s hs, yes_sum l t ht] at this
  show allP l < 3 * sumIx (fun i => isAt s i && isAt t i) 0 l
  omega
theorem over_self {s : Sg} (hv : valsN s.vals = 0) (hl : s.votes.length = s.vals.length) : overP s s.vals = yesP s.vals s.votes := by
  rw [← yes_sum s.vals s.votes hl]
  symm
  refine sumIx_over s s.vals 0 (isAt s.votes) fun i v hi => ?_
  rw [Nat.zero_add]
  have hil : i < s.vals.length := (List.getElem?_eq_some_iff.1 hi).1
  obtain ⟨t, ht⟩ : ∃ t, s.votes[i]? = some t := ⟨s.votes[i]'(by omega), List.getElem?_eq_getElem _⟩
  rw [isAt_some ht]
  have hp := (valsN_ok hv).2.2.2
  cases e : t.is with
  | true => exact ((votedB_iff v.key s.vals s.votes).2 ⟨i, v, t, hi, ht, rfl, e⟩).symm
  | false =>
    cases e2 : votedB v.key s.vals s.votes with
    | false => rfl
    | true =>
      exfalso
      obtain ⟨j, v', t', hj, ht', hk, hi'⟩ := (votedB_iff v.key s.vals s.votes).1 e2
      obtain ⟨hjl, rfl⟩ := List.getElem?_eq_some_iff.1 hj
      obtain ⟨_, rfl⟩ := List.getElem?_eq_some_iff.1 hi
      have hij : i = j := by
        rcases Nat.lt_trichotomy i j with h | h | h
        · have := List.pairwise_iff_getElem.1 hp i j hil hjl h
          omega
        · exact h
        · have := List.pairwise_iff_getElem.1 hp j i hjl hil h
          omega
      subst hij
      rw [ht] at ht'
      obtain rfl : t = t' := by simpa using ht'
      rw [e] at hi'
      cases hi'
theorem over_good {s : Sg} (e : checkN s = 0) : overB s.vals s = true := by
  obtain ⟨h1, h2, _, h4⟩ := checkN_ok e
  unfold overB
  rw [over_self (togetherN_ok h1).2.1 h2]
  simp
  omega
end Go.Proofs.YtfpngilmdgeikaaDoor
