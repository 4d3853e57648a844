/-
  What may follow a state by a step of a channel.
-/
import Derived.Test.YtbgdpfeobklnhaaGreatDoorgoChMath
import Derived.Test.YtbgdpfeobklnhaaGreatDoorgoCoMath
import Derived.Test.YtbgdpfeobklnhaaGreatDoorgoStWrong
namespace Go.Proofs.YtbgdpfeobklnhaaGreatDoor
open Go.RowKit

/-- what may follow a state: right, all but channels as before; of these each goes one way, and all but one stay -/
structure FollowsC (s : St) (i : Int) (t : St) : Prop where
  right : wrongS t = 0
  fit : t.fits
  rest : ({ t with chans := s.chans } : St) = s
  len : s.chans.length ≤ t.chans.length
  each : ∀ (k : Nat) (c : Ch), s.chans[k]? = some c → ∃ d, t.chans[k]? = some d ∧ d.conn = c.conn ∧ d.ordered = c.ordered ∧ (c.state = 4 → d = c) ∧ c.state ≤ d.state ∧ ((k : Int) ≠ i → d = c)
theorem wrongS_moreCh {s : St} {l : List Ch} (h : wrongS s = 0) (hl : l.length ≤ 8) (hc : ∀ c ∈ l, wrongCh c = 0) : wrongS { s with chans := l } = 0 := by
  obtain ⟨h1, h2, h3, h4⟩ := wrongS_name h
  have h5 := of_decide_eq_false (show decide _ = false from h3)
  unfold wrongS
  rw [if_neg (by simp [h1]), if_neg (by simp [h2.1, h2.2]), if_neg (by simp [manyB]; omega)]
  have h' := (orN_iff _).1 h4
  simp only [List.mem_cons, List.not_mem_nil, or_false, forall_eq_or_imp, forall_eq] at h'
  refine (orN_iff _).2 ?_
  simp only [List.mem_cons, List.not_mem_nil, or_false, forall_eq_or_imp, forall_eq]
  exact ⟨h'.1, h'.2.1, (firstW_iff _ _).2 hc, h'.2.2.2⟩
theorem chans_fits {s : St} {l : List Ch} (hf : s.fits) (hl : l.length < 2305843009213693952) : ({ s with chans := l } : St).fits := ⟨hf.1, hf.2.1, hf.2.2.1, hl, hf.2.2.2.2⟩
theorem follows_addCh {s : St} {i : Int} {c : Ch} (hf : s.fits) (hw : wrongS s = 0) (hl : s.chans.length < 8) (hc : wrongCh c = 0) : FollowsC s i (addCh s 0 c) := by
  have e : addCh s 0 c = { s with chans := s.chans ++ [c] } := if_pos rfl
  rw [e]
  refine ⟨wrongS_moreCh hw (by simp; omega) ?_, chans_fits hf (by simp; omega), rfl, by simp, ?_⟩
  · intro x hx
    rcases List.mem_append.1 hx with hx | hx
    · exact (wrongS_right hw).chans x hx
    · simp at hx
      rw [hx]
      exact hc
  · intro k x hx
    refine ⟨x, ?_, rfl, rfl, fun _ => rfl, Int.le_refl _, fun _ => rfl⟩
    simp only
    rw [List.getElem?_append_left (List.getElem?_eq_some_iff.1 hx).1]
    exact hx
theorem follows_putCh {s : St} {i : Int} {x : Ch} {st q : Int} (hf : s.fits) (hw : wrongS s = 0) (hi : 0 ≤ i) (hx : s.chans[i.toNat]? = some x) (h4 : x.state ≠ 4) (h5 : x.state ≤ st) (hc : wrongCh (x.turned st q) = 0) : FollowsC s i (putCh s 0 i (x.turned st q)) := by
  have e : putCh s 0 i (x.turned st q) = { s with chans := s.chans.set i.toNat (x.turned st q) } := if_pos rfl
  have h8 : s.chans.length ≤ 8 := by
    have := (wrongS_name hw).2.2.1
    unfold manyB at this
    have := of_decide_eq_false this
    omega
  rw [e]
  refine ⟨wrongS_moreCh hw (by simpa using h8) ?_, chans_fits hf (by simp; omega), rfl, by simp, ?_⟩
  · intro y hy
    rcases List.mem_or_eq_of_mem_set hy with hy | hy
    · exact (wrongS_right hw).chans y hy
    · rw [hy]
      exact hc
  · intro k y hy
    by_cases hki : i.toNat = k
    · subst hki
      rw [hx] at hy
      cases hy
      refine ⟨x.turned st q, ?_, rfl, rfl, fun h => absurd h h4, h5, fun h => absurd (show ((i.toNat : Nat) : Int) = i by omega) h⟩
      simp only
      rw [List.getElem?_set_self (List.getElem?_eq_some_iff.1 hx).1]
    · refine ⟨y, ?_, rfl, rfl, fun _ => rfl, Int.le_refl _, fun _ => rfl⟩
      simp only
      rw [List.getElem?_set_ne hki]
      exact hy
theorem wrongCh_of {c : Ch} (h1 : 1 ≤ c.state ∧ c.state ≤ 4) (h2 : 0 ≤ c.conn ∧ c.conn ≤ 1000000000000) (h3 : -1 ≤ c.ochan ∧ c.ochan ≤ 1000000000000) (h4 : (1 ≤ c.send ∧ c.send ≤ 1000000000000) ∧ (1 ≤ c.recv ∧ c.recv ≤ 1000000000000) ∧ (1 ≤ c.ack ∧ c.ack ≤ 1000000000000)) : wrongCh c = 0 := by
  unfold wrongCh
  rw [if_neg (by omega), if_neg]
  simp [fromB]
  omega
theorem manyChN_ok {s : St} (h : manyChN s = 0) : s.chans.length < 8 := by
  unfold manyChN at h
  split at h
  · cases h
  · omega
theorem cend_at {s : St} {i st : Int} (h : cendN s i st = 0) : wrongS s = 0 ∧ 0 ≤ i ∧ ∃ x, s.chans[i.toNat]? = some x ∧ chAt s i = x ∧ x.state = st ∧ wrongCh x = 0 := by
  obtain ⟨h1, h2, h3, -⟩ := cendN_ok h
  obtain ⟨k, rfl⟩ : ∃ k : Nat, i = (k : Int) := ⟨i.toNat, by omega⟩
  obtain ⟨x, hx⟩ : ∃ x, s.chans[k]? = some x := ⟨_, List.getElem?_eq_getElem (by omega)⟩
  rw [chAt_some hx] at h3
  exact ⟨h1, h2.1, x, hx, chAt_some hx, h3, (wrongS_right h1).chans x (List.mem_of_getElem? hx)⟩
theorem few_conns {s : St} (h : wrongS s = 0) : s.conns.length ≤ 100 := (wrongS_few h).2.1
theorem follows_cinit {s : St} {i j : Int} {o : Bool} (hf : s.fits) (h : cinitN s i = 0) : FollowsC s j (cinitS s i o) := by
  unfold cinitS
  rw [h]
  unfold cinitN at h
  split at h
  · rename_i h1; exact absurd h h1
  rename_i h1
  obtain ⟨h2, h3⟩ := cstartN_ok (by simpa using h1)
  have h4 := overN_ok h3
  have := few_conns h2
  exact follows_addCh hf h2 (manyChN_ok h) (wrongCh_of (by simp) (by simp; omega) (by simp) (by simp))
theorem follows_ctry {s : St} {i j q z : Int} {o : Bool} (hf : s.fits) (h : ctryN s i q z = 0) : FollowsC s j (ctryS s i o q z) := by
  unfold ctryS
  rw [h]
  unfold ctryN at h
  split at h
  · rename_i h1; exact absurd h h1
  rename_i h1
  split at h
  · cases h
  rename_i hq
  split at h
  · rename_i h2; exact absurd h h2
  obtain ⟨h2, h3⟩ := cstartN_ok (by simpa using h1)
  have h4 := overN_ok h3
  have := few_conns h2
  have hq' := (fromB_iff _ _).1 (show fromB 0 q = true by simpa using hq)
  exact follows_addCh hf h2 (manyChN_ok h) (wrongCh_of (by simp) (by simp; omega) (by simp; omega) (by simp))
theorem follows_cack {s : St} {i q z : Int} (hf : s.fits) (h : cackN s i q z = 0) : FollowsC s i (cackS s i q z) := by
  unfold cackS
  rw [h]
  unfold cackN at h
  split at h
  · rename_i h1; exact absurd h h1
  rename_i h1
  split at h
  · cases h
  rename_i hq
  obtain ⟨hw, hi, x, hx, e, hs, hc⟩ := cend_at (show cendN s i 1 = 0 by simpa using h1)
  have hq' := (fromB_iff _ _).1 (show fromB 0 q = true by simpa using hq)
  have ho := wrongCh_ok hc
  rw [e]
  exact follows_putCh hf hw hi hx (by omega) (by omega) (wrongCh_of (by simp [Ch.turned]) (by simp [Ch.turned]; omega) (by simp [Ch.turned]; omega) (by simp [Ch.turned]; omega))
theorem follows_along {s : St} {i st te z : Int} (hf : s.fits) (h1 : st ≠ 4) (h2 : st ≤ te) (h3 : 1 ≤ te ∧ te ≤ 4) (h : alongN s i st z = 0) : FollowsC s i (alongS s i st z te) := by
  unfold alongS
  rw [h]
  unfold alongN at h
  split at h
  · rename_i h1; exact absurd h h1
  rename_i h4
  split at h
  · cases h
  obtain ⟨hw, hi, x, hx, e, hs, hc⟩ := cend_at (show cendN s i st = 0 by simpa using h4)
  have ho := wrongCh_ok hc
  rw [e]
  exact follows_putCh hf hw hi hx (by omega) (by omega) (wrongCh_of (by simp [Ch.turned]; omega) (by simp [Ch.turned]; omega) (by simp [Ch.turned]; omega) (by simp [Ch.turned]; omega))
theorem follows_close {s : St} {i : Int} (hf : s.fits) (h : cendN s i 3 = 0) : FollowsC s i (closeS s i) := by
  unfold closeS
  rw [h]
  obtain ⟨hw, hi, x, hx, e, hs, hc⟩ := cend_at h
  have ho := wrongCh_ok hc
  rw [e]
  exact follows_putCh hf hw hi hx (by omega) (by omega) (wrongCh_of (by simp [Ch.turned]) (by simp [Ch.turned]; omega) (by simp [Ch.turned]; omega) (by simp [Ch.turned]; omega))
end Go.Proofs.YtbgdpfeobklnhaaGreatDoor
