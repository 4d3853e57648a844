/-
  The document's purses: Mint, Burn and Move.
-/
import Derived.Test.YtnoaohlajllngaaDoortlBkRef2
namespace Go.Proofs.YtnoaohlajllngaaDoor
open Go.RowKit

set_option maxRecDepth 100000 in
set_option maxHeartbeats 4000000 in
theorem rburn_any (l : List Pu) (o d : ByteArray) (n : Nat) (sv : Value) (N : Nat) (w : World) (hN : N ≤ w.heap.size) (hl : Many PuR 3 w N sv l) (hr : RightU l) (hlen : l.length ≤ 60) :
    Calls Tryd.prog 27 #[sv, .string o, .string d, .int .u64 (n : Int)] w fun e w' => Below w.heap.size w w' ∧ ∃ v, e = .returned (.tuple #[v, .int .i64 (burnE l o d n)]) ∧ Many PuR 3 w' w'.heap.size v (burnL l o d n) := by
  have HE0 := hid (show (wordB o && wordB d) = false → burnE l o d n = 4 from fun h => if_pos h)
  have HE1 := hid (show (wordB o && wordB d) = false → burnL l o d n = [] from fun h => by unfold burnL; rw [HE0.out h]; rfl)
  obtain ⟨oa, ca, rfl, -⟩ := hl.shape
  have HL := hid hl
  have HRU := hid hr
  have HN60 := hid hlen
  have HW1 := hid (rword_any o)
  have HW2 := hid (rword_any d)
  generalize hln : l.length = m at *
  have HM := hid hln
  clear hl hr hln hlen
  go_enter Tryd.func27, Tryd.ntmps27
  by_cases e1 : wordB o = false
  · rw [e1] at HW1
    go_wp2_with fail
    refine (HW1.out _).mono ?_
    rintro e wx ⟨rfl, hwx⟩
    obtain rfl := hwx.symm
    go_wp2
    go_ret2
    exact ⟨Below.refl _ _, _, by rw [HE0.out (by simp [e1])]; rfl, by rw [HE1.out (by simp [e1])]; exact Many.nil _ _ _ _⟩
  have hw1 : wordB o = true := by simpa using e1
  clear e1
  by_cases e2 : wordB d = false
  · rw [hw1] at HW1
    rw [e2] at HW2
    go_wp2_with fail
    refine (HW1.out _).mono ?_
    rintro e wx ⟨rfl, hwx⟩
    obtain rfl := hwx.symm
    go_wp2_with fail
    refine (HW2.out _).mono ?_
    rintro e wx ⟨rfl, hwx⟩
    obtain rfl := hwx.symm
    go_wp2
    go_ret2
    exact ⟨Below.refl _ _, _, by rw [HE0.out (by simp [e2])]; rfl, by rw [HE1.out (by simp [e2])]; exact Many.nil _ _ _ _⟩
  have hw2 : wordB d = true := by simpa using e2
  clear e2
  rw [hw1] at HW1
  rw [hw2] at HW2
  have HWW := hid (show ¬ (wordB o && wordB d) = false by simp [hw1, hw2])
  clear hw1 hw2
  go_wp2_with fail
  refine (HW1.out _).mono ?_
  rintro e wx ⟨rfl, hwx⟩
  obtain rfl := hwx.symm
  go_wp2_with fail
  refine (HW2.out _).mono ?_
  rintro e wx ⟨rfl, hwx⟩
  obtain rfl := hwx.symm
  have HAM := hid (ramount_any l o d _ N w hN HL.out HRU.out.sort (by have := HN60.out; have := HM.out; omega))
  have hab := amt_bound HRU.out o d
  have HX0 := hid (show burnE l o d n = if amtU l o d < n then 8 else 0 from if_neg HWW.out)
  have HX1 := hid (show burnL l o d n = if burnE l o d n ≠ 0 then [] else putU l o d (amtU l o d - n) from rfl)
  generalize ea : amtU l o d = a at *
  go_wp2_with fail
  refine HAM.out.mono ?_
  rintro e w1 ⟨rfl, hb1⟩
  have HB1 := hid hb1
  clear hb1
  by_cases hlt : a < n
  · have e1 : decide (a < n) = true := by simpa using hlt
    rw [if_pos hlt] at HX0
    go_wp2
    go_ret2
    exact ⟨HB1.out, _, by rw [HX0.out]; rfl, by rw [HX1.out, if_pos (by rw [HX0.out]; decide)]; exact Many.nil _ _ _ _⟩
  · have e1 : decide (a < n) = false := by simpa using hlt
    rw [if_neg hlt] at HX0
    obtain ⟨b, hb⟩ : ∃ b, a - n = b := ⟨_, rfl⟩
    have hx : IntKind.u64.wrap ((a : Int) - (n : Int)) = (b : Int) := by rw [IntKind.wrap_u64]; omega
    rw [hb] at HX1
    have HY := hid (rput_any l o d b _ N w1 (Nat.le_trans hN HB1.out.size) (HL.out.below PuR.stays (HB1.out.mono hN)) HRU.out.sort (by have := HN60.out; have := HM.out; omega))
    clear hb
    go_wp2_with fail
    refine HY.out.mono ?_
    rintro e w2 ⟨hb2, v, rfl, hv⟩
    have HV := hid hv
    have HB2 := hid (HB1.out.trans (hb2.mono HB1.out.size))
    clear hv hb2
    go_wp2
    go_ret2
    exact ⟨HB2.out, v, by rw [HX0.out]; rfl, by rw [HX1.out, if_neg (by rw [HX0.out]; decide)]; exact HV.out⟩
set_option maxRecDepth 100000 in
set_option maxHeartbeats 4000000 in
theorem rmint_any (l : List Pu) (o d : ByteArray) (n : Nat) (sv : Value) (N : Nat) (w : World) (hN : N ≤ w.heap.size) (hl : Many PuR 3 w N sv l) (hr : RightU l) (hlen : l.length ≤ 60) (hn : n < 18446744073709551616) :
    Calls Tryd.prog 26 #[sv, .string o, .string d, .int .u64 (n : Int)] w fun e w' => Below w.heap.size w w' ∧ ∃ v, e = .returned (.tuple #[v, .int .i64 (mintE l o d n)]) ∧ Many PuR 3 w' w'.heap.size v (mintL l o d n) := by
  have HE0 := hid (show (wordB o && wordB d) = false → mintE l o d n = 4 from fun h => if_pos h)
  have HE1 := hid (show (wordB o && wordB d) = false → mintL l o d n = [] from fun h => by unfold mintL; rw [HE0.out h]; rfl)
  obtain ⟨oa, ca, rfl, -⟩ := hl.shape
  have HL := hid hl
  have HRU := hid hr
  have HN60 := hid hlen
  have HW1 := hid (rword_any o)
  have HW2 := hid (rword_any d)
  generalize hln : l.length = m at *
  have HM := hid hln
  clear hl hr hln hlen
  go_enter Tryd.func26, Tryd.ntmps26
  by_cases e1 : wordB o = false
  · rw [e1] at HW1
    go_wp2_with fail
    refine (HW1.out _).mono ?_
    rintro e wx ⟨rfl, hwx⟩
    obtain rfl := hwx.symm
    go_wp2
    go_ret2
    exact ⟨Below.refl _ _, _, by rw [HE0.out (by simp [e1])]; rfl, by rw [HE1.out (by simp [e1])]; exact Many.nil _ _ _ _⟩
  have hw1 : wordB o = true := by simpa using e1
  clear e1
  by_cases e2 : wordB d = false
  · rw [hw1] at HW1
    rw [e2] at HW2
    go_wp2_with fail
    refine (HW1.out _).mono ?_
    rintro e wx ⟨rfl, hwx⟩
    obtain rfl := hwx.symm
    go_wp2_with fail
    refine (HW2.out _).mono ?_
    rintro e wx ⟨rfl, hwx⟩
    obtain rfl := hwx.symm
    go_wp2
    go_ret2
    exact ⟨Below.refl _ _, _, by rw [HE0.out (by simp [e2])]; rfl, by rw [HE1.out (by simp [e2])]; exact Many.nil _ _ _ _⟩
  have hw2 : wordB d = true := by simpa using e2
  clear e2
  rw [hw1] at HW1
  rw [hw2] at HW2
  have HWW := hid (show ¬ (wordB o && wordB d) = false by simp [hw1, hw2])
  clear hw1 hw2
  go_wp2_with fail
  refine (HW1.out _).mono ?_
  rintro e wx ⟨rfl, hwx⟩
  obtain rfl := hwx.symm
  go_wp2_with fail
  refine (HW2.out _).mono ?_
  rintro e wx ⟨rfl, hwx⟩
  obtain rfl := hwx.symm
  have HX0 := hid (show mintE l o d n = if n = 0 then 0 else if 18446744073709551616 ≤ supU l d + n then 3 else if 60 ≤ l.length ∧ amtU l o d = 0 then 5 else 0 from if_neg HWW.out)
  have HX1 := hid (show mintL l o d n = if mintE l o d n ≠ 0 then [] else if n = 0 then l else putU l o d (amtU l o d + n) from rfl)
  have HSU := hid (rsupply_any l d _ N w hN HL.out (fun p hp => (HRU.out.ok p hp).2.2.2) (by have := HN60.out; have := HM.out; omega))
  have HAM := hid (fun W (hb : Below w.heap.size w W) => ramount_any l o d _ N W (Nat.le_trans hN hb.size) (HL.out.below PuR.stays (hb.mono hN)) HRU.out.sort (by have := HN60.out; have := HM.out; omega))
  have HAS := hid (amt_le_sup l o d)
  by_cases hn0 : n = 0
  · subst hn0
    rw [if_pos rfl] at HX0
    go_wp2
    go_ret2
    exact ⟨Below.refl _ _, _, by rw [HX0.out]; rfl, by rw [HX1.out, if_neg (by rw [HX0.out]; decide), if_pos (by trivial)]; exact HL.out.mono PuR.stays hN⟩
  have b0 : ((n : Int) == 0) = false := by simp; exact hn0
  have b0' : (n == 0) = false := by simpa using hn0
  rw [if_neg hn0] at HX0 HX1
  unfold supE at HSU
  generalize es : supU l d = s at *
  generalize ea : amtU l o d = a at *
  have HNZ := hid hn0
  clear hn0
  by_cases hov : 18446744073709551616 ≤ s
  · rw [decide_eq_true hov] at HSU
    rw [if_pos (by omega)] at HX0
    go_wp2_with fail
    refine HSU.out.mono ?_
    rintro e w2 ⟨rfl, hb2⟩
    have HB2 := hid hb2
    clear hb2
    go_wp2
    go_ret2
    exact ⟨HB2.out, _, by rw [HX0.out]; rfl, by rw [HX1.out, if_pos (by rw [HX0.out]; decide)]; exact Many.nil _ _ _ _⟩
  rw [decide_eq_false hov, if_pos (by omega)] at HSU
  obtain ⟨sn, hsn⟩ : ∃ sn, (s + n) % 18446744073709551616 = sn := ⟨_, rfl⟩
  have hx : IntKind.u64.wrap ((s : Int) + (n : Int)) = (sn : Int) := by rw [IntKind.wrap_u64]; omega
  by_cases hov2 : 18446744073709551616 ≤ s + n
  · have q0 : decide (sn < s) = true := by simp; omega
    rw [if_pos hov2] at HX0
    clear hsn
    go_wp2_with fail
    refine HSU.out.mono ?_
    rintro e w2 ⟨rfl, hb2⟩
    have HB2 := hid hb2
    clear hb2
    go_wp2
    go_ret2
    exact ⟨HB2.out, _, by rw [HX0.out]; rfl, by rw [HX1.out, if_pos (by rw [HX0.out]; decide)]; exact Many.nil _ _ _ _⟩
  have q0 : decide (sn < s) = false := by simp; omega
  rw [if_neg hov2, HM.out] at HX0
  have HNO := hid hov2
  clear hsn hov hov2
  go_wp2_with fail
  refine HSU.out.mono ?_
  rintro e w2 ⟨rfl, hb2⟩
  have HB2 := hid hb2
  clear hb2
  go_wp2_with fail
  refine (HAM.out _ HB2.out).mono ?_
  rintro e w3 ⟨rfl, hb3⟩
  have HB3 := hid (HB2.out.trans (hb3.mono HB2.out.size))
  clear hb3
  have hy : IntKind.u64.wrap ((a : Int) + (n : Int)) = ((a + n : Nat) : Int) := by rw [IntKind.wrap_u64]; have := HAS.out; have := HNO.out; omega
  have HY := hid (rput_any l o d (a + n) _ N w3 (Nat.le_trans hN HB3.out.size) (HL.out.below PuR.stays (HB3.out.mono hN)) HRU.out.sort (by have := HN60.out; have := HM.out; omega))
  generalize a + n = an at *
  by_cases ha0 : a = 0
  · have q3 : ((a : Int) == 0) = true := by simp; exact ha0
    have q4 : (a == 0) = true := by simpa using ha0
    by_cases h60 : 60 ≤ m
    · have q1 : decide ((60 : Int) ≤ (m : Int)) = true := by simp; omega
      have q2 : decide (60 ≤ m) = true := by simpa using h60
      rw [if_pos ⟨h60, ha0⟩] at HX0
      clear ha0
      go_wp2
      go_ret2
      exact ⟨HB3.out, _, by rw [HX0.out]; rfl, by rw [HX1.out, if_pos (by rw [HX0.out]; decide)]; exact Many.nil _ _ _ _⟩
    · rw [if_neg (fun h => h60 h.1)] at HX0
      have q1 : decide ((60 : Int) ≤ (m : Int)) = false := by simp; omega
      have q2 : decide (60 ≤ m) = false := by simpa using h60
      clear ha0
      go_wp2_with fail
      refine HY.out.mono ?_
      rintro e w4 ⟨hb4, v, rfl, hv⟩
      have HV := hid hv
      have HB4 := hid (HB3.out.trans (hb4.mono HB3.out.size))
      clear hv hb4
      go_wp2
      go_ret2
      exact ⟨HB4.out, v, by rw [HX0.out]; rfl, by rw [HX1.out, if_neg (by rw [HX0.out]; decide)]; exact HV.out⟩
  · rw [if_neg (fun h => ha0 h.2)] at HX0
    have q3 : ((a : Int) == 0) = false := by simp; exact ha0
    have q4 : (a == 0) = false := by simpa using ha0
    go_wp2_with fail
    refine HY.out.mono ?_
    rintro e w4 ⟨hb4, v, rfl, hv⟩
    have HV := hid hv
    have HB4 := hid (HB3.out.trans (hb4.mono HB3.out.size))
    clear hv hb4
    go_wp2
    go_ret2
    exact ⟨HB4.out, v, by rw [HX0.out]; rfl, by rw [HX1.out, if_neg (by rw [HX0.out]; decide)]; exact HV.out⟩
set_option maxRecDepth 100000 in
set_option maxHeartbeats 4000000 in
theorem rmove_any (l : List Pu) (a b d : ByteArray) (n : Nat) (sv : Value) (N : Nat) (w : World) (hN : N ≤ w.heap.size) (hl : Many PuR 3 w N sv l) (hr : RightU l) (hlen : l.length ≤ 60) (hn : n < 18446744073709551616) :
    Calls Tryd.prog 28 #[sv, .string a, .string b, .string d, .int .u64 (n : Int)] w fun e w' => Below w.heap.size w w' ∧ ∃ v, e = .returned (.tuple #[v, .int .i64 (moveE l a b d n)]) ∧ Many PuR 3 w' w'.heap.size v (moveL l a b d n) := by
  have HC := hid (rburn_any l a d n sv N w hN hl hr hlen)
  obtain ⟨oa, ca, rfl, -⟩ := hl.shape
  have HR := hid hr
  have HE := hid (show moveE l a b d n = if burnE l a d n ≠ 0 then burnE l a d n else mintE (burnL l a d n) b d n from rfl)
  have HL := hid (show moveL l a b d n = if burnE l a d n ≠ 0 then [] else mintL (burnL l a d n) b d n from rfl)
  have HOK := hid (fun h => (burn_ok (n := n) (o := a) (d := d) hr h).right)
  have HOL := hid (fun h => Nat.le_trans (burn_ok (n := n) (o := a) (d := d) hr h).len hlen)
  clear hl hr hlen
  generalize l.length = m at *
  go_enter Tryd.func28, Tryd.ntmps28
  go_wp2_with fail
  refine HC.out.mono ?_
  rintro e w1 ⟨hb1, v, rfl, hv⟩
  generalize burnE l a d n = be at *
  have HB1 := hid hb1
  have HV := hid hv
  obtain ⟨o1, c1, rfl, -⟩ := hv.shape
  clear hb1 hv HC
  by_cases h0 : be = 0
  · subst h0
    rw [if_neg (by simp)] at HE HL
    have HM := hid (rmint_any (burnL l a d n) b d n _ _ w1 (Nat.le_refl _) HV.out (HOK.out rfl) (HOL.out rfl) hn)
    generalize (burnL l a d n).length = m1 at *
    go_wp2_with fail
    refine HM.out.mono ?_
    rintro e w2 ⟨hb2, v2, rfl, hv2⟩
    have HV2 := hid hv2
    have HB2 := hid (HB1.out.trans (hb2.mono HB1.out.size))
    clear hb2 hv2
    go_wp2
    go_ret2
    exact ⟨HB2.out, v2, by rw [HE.out]; rfl, by rw [HL.out]; exact HV2.out⟩
  · have q1 : (be != 0) = true := by simpa using h0
    rw [if_pos h0] at HE HL
    go_wp2
    go_ret2
    exact ⟨HB1.out, _, by rw [HE.out]; rfl, by rw [HL.out]; exact Many.nil _ _ _ _⟩
end Go.Proofs.YtnoaohlajllngaaDoor
