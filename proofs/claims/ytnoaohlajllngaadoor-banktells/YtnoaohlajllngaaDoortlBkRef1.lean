/-
  The document's purses: Word, Amount, Supply.
-/
import Derived.Test.YtnoaohlajllngaaDoortlBkSup
import Derived.Test.YtnoaohlajllngaaDoortlStOne
namespace Go.Proofs.YtnoaohlajllngaaDoor
open Go.RowKit

theorem rword_any (s : ByteArray) (w : World) : Calls Tryd.prog 40 #[.string s] w fun e w' => e = .returned (.bool (wordB s)) ∧ w' = w := by
  unfold wordB
  by_cases h1 : 1 ≤ s.size
  · have e1 : decide ((1 : Int) ≤ (s.size : Int)) = true := by simp; omega
    have e1' : decide (1 ≤ s.size) = true := by simpa using h1
    by_cases h2 : s.size ≤ 40
    · have e2 : decide ((s.size : Int) ≤ 40) = true := by simp; omega
      have e2' : decide (s.size ≤ 40) = true := by simpa using h2
      clear h1 h2
      go_enter Tryd.func40, Tryd.ntmps40
      go_wp2
      go_ret
      exact ⟨by rw [e1', e2']; first | done | rfl, rfl⟩
    · have e2 : decide ((s.size : Int) ≤ 40) = false := by simp; omega
      have e2' : decide (s.size ≤ 40) = false := by simpa using h2
      clear h1 h2
      go_enter Tryd.func40, Tryd.ntmps40
      go_wp2
      go_ret
      exact ⟨by rw [e1', e2']; first | done | rfl, rfl⟩
  · have e1 : decide ((1 : Int) ≤ (s.size : Int)) = false := by simp; omega
    have e1' : decide (1 ≤ s.size) = false := by simpa using h1
    clear h1
    go_enter Tryd.func40, Tryd.ntmps40
    go_wp2
    go_ret
    exact ⟨by rw [e1']; first | done | rfl, rfl⟩
theorem str_ne10 {a b : ByteArray} (h : a ≠ b) : (a.toList == b.toList) = false := by simp; exact fun e => h (toList_inj e)
theorem amt_first {l : List Pu} (hs : SortU l) {o d : ByteArray} {p : Pu} (hp : p ∈ l) (h1 : p.owner = o) (h2 : p.denom = d) : amtU l o d = p.amount := by
  rw [amt_same hs]
  have hm : p ∈ l.filter (isU o d) := List.mem_filter.2 ⟨hp, by simp [isU, h1, h2]⟩
  rcases (split_same l o d hs).2 with h | ⟨n, h, -⟩
  · rw [h] at hm; cases hm
  · rw [h] at hm ⊢
    obtain rfl := List.mem_singleton.1 hm
    simp [amtU, isU]
set_option maxRecDepth 100000 in
set_option maxHeartbeats 4000000 in
theorem ramount_any (l : List Pu) (o d : ByteArray) (sv : Value) (N : Nat) (w : World) (hN : N ≤ w.heap.size) (hl : Many PuR 3 w N sv l) (hs : SortU l) (hlen : l.length ≤ 1000000) :
    Calls Tryd.prog 13 #[sv, .string o, .string d] w fun e w' => e = .returned (.int .u64 (amtU l o d : Int)) ∧ Below w.heap.size w w' := by
  obtain ⟨oa, ca, rfl, -⟩ := hl.shape
  have HL := hid hl
  have HS := hid hs
  clear hl hs
  generalize hn : l.length = n at *
  have HN := hid hn
  clear hn
  go_enter Tryd.func13, Tryd.ntmps13
  go_wp2_with fail
  go_loopw [11] (fun s11 wr => ∃ k : Nat, k ≤ n ∧ s11 = .int .i64 k ∧ Hid (∀ p ∈ l.take k, ¬ (p.owner = o ∧ p.denom = d)) ∧ Hid (Below w.heap.size w wr)) (fun s11 _ => n - (intOf s11).toNat)
  case atStart => exact ⟨0, Nat.zero_le _, rfl, fun _ h => by simp at h, Below.refl _ _⟩
  case round =>
    obtain ⟨k, hk, rfl, HT, HB⟩ := hrel
    by_cases hlt : k < n
    · obtain ⟨p, hp⟩ : ∃ p, l[k]? = some p := ⟨l[k]'(by rw [HN.out]; exact hlt), List.getElem?_eq_getElem _⟩
      obtain ⟨b, f, rfl, hbN, c0, c1, c2⟩ := HL.out.purse (by omega) hp (HB.out.mono hN)
      have hlt' : (k : Int) < (n : Int) := by omega
      have hsz := HB.out.size
      have hbs : b < wr.heap.size := by omega
      have HPM := hid (List.mem_of_getElem? hp)
      have HTK := hid (show l.take (k + 1) = l.take k ++ [p] by rw [List.take_add_one, hp]; rfl)
      clear hp
      go_upto_region 4 with fail
      refine boxK ?_
      intro w1 hr1 hb1
      have HB1 := hid (HB.out.trans (hb1.mono hsz))
      obtain ⟨k0, k1, k2⟩ := hr1.k3
      clear c0 c1 c2 hr1 hb1 hbs
      by_cases h1 : p.owner = o
      · by_cases h2 : p.denom = d
        · have HA := hid (amt_first HS.out HPM.out h1 h2)
          subst h1 h2
          go_wp2
          go_ret
          exact ⟨by rw [HA.out]; rfl, HB1.out⟩
        · have e2 := str_ne10 h2
          subst h1
          go_wp2_with fail
          refine ⟨⟨k + 1, by omega, by go_num, hid ?_, HB1.out⟩, by simp [intOf]; omega⟩
          intro q hq
          rw [HTK.out] at hq
          rcases List.mem_append.1 hq with hq | hq
          · exact HT.out q hq
          · obtain rfl := List.mem_singleton.1 hq
            exact fun h => h2 h.2
      · have e1 := str_ne10 h1
        go_wp2_with fail
        refine ⟨⟨k + 1, by omega, by go_num, hid ?_, HB1.out⟩, by simp [intOf]; omega⟩
        intro q hq
        rw [HTK.out] at hq
        rcases List.mem_append.1 hq with hq | hq
        · exact HT.out q hq
        · obtain rfl := List.mem_singleton.1 hq
          exact fun h => h1 h.1
    · obtain rfl : k = n := by omega
      have hlt' : decide ((k : Int) < (k : Int)) = false := by simp
      have HA := hid (show amtU l o d = 0 from by
        have := HT.out
        rw [← HN.out, List.take_length] at this
        exact amtU_none _ _ _ this)
      go_wp2
      go_ret
      exact ⟨by rw [HA.out]; rfl, HB.out⟩
set_option maxRecDepth 100000 in
set_option maxHeartbeats 4000000 in
theorem rsupply_any (l : List Pu) (d : ByteArray) (sv : Value) (N : Nat) (w : World) (hN : N ≤ w.heap.size) (hl : Many PuR 3 w N sv l) (hf : ∀ p ∈ l, p.amount < 18446744073709551616) (hlen : l.length < 2305843009213693952) :
    Calls Tryd.prog 11 #[sv, .string d] w fun e w' => e = .returned (supE l d) ∧ Below w.heap.size w w' := by
  obtain ⟨oa, ca, rfl, hca⟩ := hl.shape
  have HL := hid hl
  have HF := hid hf
  clear hl hf
  generalize hn : l.length = n at *
  have HN := hid hn
  clear hn
  go_enter Tryd.func11, Tryd.ntmps11
  go_wp2_with fail
  go_loopw [6, 11] (fun s6 s11 wr => ∃ k S : Nat, k ≤ n ∧ s11 = .int .i64 k ∧ s6 = .int .u64 S ∧ S < 18446744073709551616 ∧ Hid (supU (l.take k) d = S) ∧ Hid (Below w.heap.size w wr)) (fun _ s11 _ => n - (intOf s11).toNat)
  case atStart => exact ⟨0, 0, Nat.zero_le _, rfl, rfl, by decide, rfl, Below.refl _ _⟩
  case round =>
    obtain ⟨k, S, hk, rfl, rfl, hS, HS, HB⟩ := hrel
    by_cases hlt : k < n
    · obtain ⟨p, hp⟩ : ∃ p, l[k]? = some p := ⟨l[k]'(by rw [HN.out]; exact hlt), List.getElem?_eq_getElem _⟩
      obtain ⟨b, f, rfl, hbN, c0, c1, c2⟩ := HL.out.purse (by omega) hp (HB.out.mono hN)
      have HT := hid (sup_take hp d)
      have hpa := HF.out p (List.mem_of_getElem? hp)
      have hlt' : (k : Int) < (n : Int) := by omega
      have hsz := HB.out.size
      have hbs : b < wr.heap.size := by omega
      clear hp
      go_upto_region 5 with fail
      refine boxK ?_
      intro w1 hr1 hb1
      have HB1 := hid (HB.out.trans (hb1.mono hsz))
      obtain ⟨k0, k1, k2⟩ := hr1.k3
      clear c0 c1 c2 hr1 hb1 hbs
      by_cases hd : p.denom = d
      · subst hd
        rw [if_pos rfl] at HT
        by_cases hov : S + p.amount < 18446744073709551616
        · have ha : IntKind.u64.wrap ((S : Int) + (p.amount : Int)) = ((S + p.amount : Nat) : Int) := by rw [IntKind.wrap_u64]; omega
          obtain ⟨X, hX⟩ : ∃ X, S + p.amount = X := ⟨_, rfl⟩
          rw [hX] at ha
          have q1 : decide ((X : Int) < (S : Int)) = false := by simp; omega
          have q2 : decide (X < S) = false := by simp; omega
          have HX := hid hX
          clear hX
          go_wp2_with fail
          refine ⟨⟨k + 1, X, by omega, by go_num, rfl, by have := HX.out; omega, hid ?_, HB1.out⟩, by simp [intOf]; omega⟩
          rw [HT.out, HS.out]
          exact HX.out
        · obtain ⟨X, hX⟩ : ∃ X, S + p.amount - 18446744073709551616 = X := ⟨_, rfl⟩
          have ha : IntKind.u64.wrap ((S : Int) + (p.amount : Int)) = (X : Int) := by rw [IntKind.wrap_u64]; omega
          have q1 : decide ((X : Int) < (S : Int)) = true := by simp; omega
          have q2 : decide (X < S) = true := by simp; omega
          have HX := hid (sup_take_le l (k + 1) p.denom)
          clear hX
          go_wp2
          go_ret2
          have := HT.out
          have := HX.out
          have := HS.out
          refine ⟨?_, HB1.out⟩
          unfold supE
          rw [if_neg (by omega), decide_eq_true (by omega : 18446744073709551616 ≤ supU l p.denom)]
          rfl
      · rw [if_neg hd, Nat.add_zero] at HT
        have hd' := str_ne10 hd
        clear hd
        go_wp2_with fail
        refine ⟨⟨k + 1, S, by omega, by go_num, rfl, hS, by rw [← HS.out]; exact HT.out, HB1.out⟩, by simp [intOf]; omega⟩
    · obtain rfl : k = n := by omega
      have hlt' : decide ((k : Int) < (k : Int)) = false := by simp
      go_wp2
      go_ret2
      have := HS.out
      rw [← HN.out, List.take_length] at this
      refine ⟨?_, HB.out⟩
      unfold supE
      rw [this, if_pos hS, decide_eq_false (by omega : ¬ 18446744073709551616 ≤ S)]
      rfl
end Go.Proofs.YtnoaohlajllngaaDoor
