/-
  What may follow a state by a step of a channel.
-/
import Derived.Test.YtclhcjiblfokaaaGreatDoorppChMath
import Derived.Test.YtclhcjiblfokaaaGreatDoorppCoMath
import Derived.Test.YtclhcjiblfokaaaGreatDoorppStWrong
namespace Go.Proofs.YtclhcjiblfokaaaGreatDoor
open Go.RowKit

theorem wrongS_moreCh {s : St} {l : List Ch} (h : wrongS s = 0) (hl : l.length ≤ 8) (hc : ∀ c ∈ l, wrongCh c = 0) : wrongS { s with chans := l } = 0 := by
  obtain ⟨h1, h2, h3, h4⟩ := wrongS_name h
  have h5 := of_decide_eq_false (show decide _ = false from h3)
  unfold wrongS
  rw [if_neg (by simp [h1]), if_neg (by simp [h2.1, h2.2]), if_neg (by simp [manyB]; omega)]
  have h' := (orN_iff _).1 h4
  simp only [List.mem_cons, List.not_mem_nil, or_false, forall_eq_or_imp, forall_eq] at h'
  refine (orN_iff _).2 ?_
  simp only [List.mem_cons, List.not_mem_nil, or_false, forall_eq_or_imp, forall_eq]
  exact ⟨h'.1, h'.2.1, (firstW_iff _ _).2 hc, h'.2.2.2⟩
theorem chans_fits {s : St} {l : List Ch} (hf : s.fits) (hl : l.length < 2305843009213693952) : ({ s with chans := l } : St).fits := ⟨hf.1, hf.2.1, hf.2.2.1, hl, hf.2.2.2.2⟩
theorem wrongCh_of {c : Ch} (h1 : 1 ≤ c.state ∧ c.state ≤ 4) (h2 : 0 ≤ c.conn ∧ c.conn ≤ 1000000000000) (h3 : -1 ≤ c.ochan ∧ c.ochan ≤ 1000000000000) (h4 : (1 ≤ c.send ∧ c.send ≤ 1000000000000) ∧ (1 ≤ c.recv ∧ c.recv ≤ 1000000000000) ∧ (1 ≤ c.ack ∧ c.ack ≤ 1000000000000)) : wrongCh c = 0 := by
  unfold wrongCh
  rw [if_neg (by omega), if_neg]
  simp [fromB]
  omega
end Go.Proofs.YtclhcjiblfokaaaGreatDoor
