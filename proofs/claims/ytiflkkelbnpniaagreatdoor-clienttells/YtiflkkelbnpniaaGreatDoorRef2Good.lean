/-
  What the document's Good answers: whether a seal is good. It turns nothing that was there.
-/
import Derived.Test.YtiflkkelbnpniaaGreatDoorRef2Key
import Derived.Test.YtiflkkelbnpniaaGreatDoorSealGood
import Derived.Deep.RegionHeld3
namespace Go.Proofs.YtiflkkelbnpniaaGreatDoor
open Go.RowKit

theorem refPower_order2 (k : Nat) (w : World) (hk : k < 18446744073709551616) :
    Calls Tryz.prog 124 #[.int .u64 (k : Int), .int .u64 (576460752303424853 : Int), .int .u64 (1152921504606849707 : Int)] w fun e w' => e = .returned (.int .u64 (powQ k : Int)) ∧ w' = w := by
  have h := refPower_any k qQ pP (powQ k) w (by decide) (by decide) hk (by decide) rfl
  rw [show ((qQ : Nat) : Int) = (576460752303424853 : Int) from by decide, show ((pP : Nat) : Int) = (1152921504606849707 : Int) from by decide] at h
  exact h

set_option maxRecDepth 100000 in
set_option maxHeartbeats 1000000 in
theorem refGood_any (key : Nat) (m : List (BitVec 8)) (r s : Nat) (mv : Value) (N : Nat) (w : World) (hk : key < 18446744073709551616) (hr : r < 18446744073709551616) (hs : s < 18446744073709551616) (hN : N ≤ w.heap.size) (hm : Bytes w N mv m) (hlen : m.length ≤ 140737488351232) :
    Calls Tryz.prog 98 #[.int .u64 (key : Int), mv, .agg #[.int .u64 (r : Int), .int .u64 (s : Int)]] w fun e w' => ∃ b : Bool, e = .returned (.bool b) ∧ (b = true ↔ goodN key m r s) ∧ Below w.heap.size w w' := by
  obtain ⟨w1, hw1⟩ : ∃ w1, w.alloc (.cells #[.int .u64 (r : Int), .int .u64 (s : Int)] 84) = w1 := ⟨_, rfl⟩
  have hsz1 : w1.heap.size = w.heap.size + 1 := by rw [← hw1]; simp
  have hb1 : Below w.heap.size w w1 := by rw [← hw1]; exact (Below.refl _ _).alloc (Nat.le_refl _) _
  have hrow1 : Row w1 w.heap.size 84 [.int .u64 (r : Int), .int .u64 (s : Int)] := by rw [← hw1]; exact Row.new _ _ _
  have c0 : w1.cell? ⟨w.heap.size, 0, none⟩ = some (.int .u64 (r : Int)) := hrow1.cell 0
  have c1 : w1.cell? ⟨w.heap.size, 1, none⟩ = some (.int .u64 (s : Int)) := hrow1.cell 1
  have HB1 := hid hb1
  have HM1 := hid (hm.below (hb1.mono hN))
  clear hb1 hrow1 hm
  by_cases h1 : key = 0
  · have d1 : ((key : Int) == 0) = true := by rw [beq_iff_eq]; omega
    have HE := hid (show (false = true ↔ goodN key m r s) from ⟨fun h => by simp at h, fun h => by have := h.1.1; omega⟩)
    clear h1
    go_enter Tryz.func98, Tryz.ntmps98
    go_wp2
    go_ret
    exact ⟨false, rfl, HE.out, HB1.out⟩
  have d1 : ((key : Int) == 0) = false := by rw [beq_eq_false_iff_ne]; omega
  by_cases h2 : 1152921504606849707 ≤ key
  · have d2 : decide ((1152921504606849707 : Int) ≤ (key : Int)) = true := by simp; omega
    have HE := hid (show (false = true ↔ goodN key m r s) from ⟨fun h => by simp at h, fun h => by have := h.1.2; omega⟩)
    clear h1 h2
    go_enter Tryz.func98, Tryz.ntmps98
    go_wp2
    go_ret
    exact ⟨false, rfl, HE.out, HB1.out⟩
  have d2 : decide ((1152921504606849707 : Int) ≤ (key : Int)) = false := by simp; omega
  by_cases h3 : r = 0
  · have d3 : ((r : Int) == 0) = true := by rw [beq_iff_eq]; omega
    have HE := hid (show (false = true ↔ goodN key m r s) from ⟨fun h => by simp at h, fun h => by have := h.2.1.1; omega⟩)
    clear h1 h2 h3
    go_enter Tryz.func98, Tryz.ntmps98
    go_wp2
    go_ret
    exact ⟨false, rfl, HE.out, HB1.out⟩
  have d3 : ((r : Int) == 0) = false := by rw [beq_eq_false_iff_ne]; omega
  by_cases h4 : 1152921504606849707 ≤ r
  · have d4 : decide ((1152921504606849707 : Int) ≤ (r : Int)) = true := by simp; omega
    have HE := hid (show (false = true ↔ goodN key m r s) from ⟨fun h => by simp at h, fun h => by have := h.2.1.2; omega⟩)
    clear h1 h2 h3 h4
    go_enter Tryz.func98, Tryz.ntmps98
    go_wp2
    go_ret
    exact ⟨false, rfl, HE.out, HB1.out⟩
  have d4 : decide ((1152921504606849707 : Int) ≤ (r : Int)) = false := by simp; omega
  by_cases h5 : 576460752303424853 ≤ s
  · have d5 : decide ((576460752303424853 : Int) ≤ (s : Int)) = true := by simp; omega
    have HE := hid (show (false = true ↔ goodN key m r s) from ⟨fun h => by simp at h, fun h => by have := h.2.2.1; omega⟩)
    clear h1 h2 h3 h4 h5
    go_enter Tryz.func98, Tryz.ntmps98
    go_wp2
    go_ret
    exact ⟨false, rfl, HE.out, HB1.out⟩
  have d5 : decide ((576460752303424853 : Int) ≤ (s : Int)) = false := by simp; omega
  have HH := hid (show (1 ≤ key ∧ key < 1152921504606849707) ∧ (1 ≤ r ∧ r < 1152921504606849707) ∧ s < 576460752303424853 by omega)
  clear h1 h2 h3 h4 h5
  have HP1 := hid (fun w => refPower_order2 key w hk)
  obtain ⟨z, hz⟩ : ∃ z, powQ key = z := ⟨_, rfl⟩
  rw [hz] at HP1
  have HZ := hid hz
  clear hz
  by_cases h6 : z = 1
  · subst h6
    have HC := hid (fun (wx : World) (hx : Below w1.heap.size w1 wx) => refAsk_any r key m mv N wx hr hk (by have := hx.size; omega) (HM1.out.below (hx.mono (by omega))) hlen)
    obtain ⟨c, hc⟩ : ∃ c, askN r key m = c := ⟨_, rfl⟩
    have hcl := askN_lt r key m
    rw [hc] at HC hcl
    obtain ⟨a, ha⟩ : ∃ a, powP 4 s = a := ⟨_, rfl⟩
    obtain ⟨b, hb⟩ : ∃ b, powP key c = b := ⟨_, rfl⟩
    obtain ⟨d, hd⟩ : ∃ d, mulP r b = d := ⟨_, rfl⟩
    have hbl := powP_lt key c
    rw [hb] at hbl
    have HPA := hid (fun w => refPower_four s w hs)
    have HPB := hid (fun w => refPower_p key c w hk (by omega))
    have HPD := hid (fun w => refTimes_p r b w (by omega))
    rw [ha] at HPA
    rw [hb] at HPB
    rw [hd] at HPD
    have HE := hid (show (decide (a = d) = true ↔ goodN key m r s) by
      have h := HH.out
      have hz := HZ.out
      unfold goodN
      rw [decide_eq_true_iff, hc, hb, hd, ha]
      exact ⟨fun e => ⟨h.1, h.2.1, h.2.2, hz, e⟩, fun e => e.2.2.2.2⟩)
    clear hc ha hb hd HZ HH
    go_enter Tryz.func98, Tryz.ntmps98
    go_wp2_with fail
    refine (HP1.out _).mono ?_
    rintro e w4 ⟨rfl, hw4⟩
    obtain rfl := hw4.symm
    go_wp2_with fail
    have g0 : w1.drew.cell? ⟨w.heap.size, 0, none⟩ = some (.int .u64 (r : Int)) := c0
    have g1 : w1.drew.cell? ⟨w.heap.size, 1, none⟩ = some (.int .u64 (s : Int)) := c1
    have HBD : Hid (Below w1.heap.size w1 w1.drew) := hid ((Below.refl _ _).drew)
    go_region_held3 (fun wx => wx.cell? ⟨w.heap.size, 0, none⟩ = some (.int .u64 (r : Int)) ∧ wx.cell? ⟨w.heap.size, 1, none⟩ = some (.int .u64 (s : Int)) ∧ Hid (Below w1.heap.size w1 wx)) (first | assumption | (refine ⟨?_, ?_, ?_⟩ <;> assumption))
      (first
        | (go_at_call_of 124 (Value.int .u64 (s : Int)); refine (HPA.out _).mono ?_; rintro e wa ⟨rfl, rfl⟩)
        | (go_at_call_of 124 (Value.int .u64 (c : Int)); refine (HPB.out _).mono ?_; rintro e wb ⟨rfl, rfl⟩)
        | (go_at_call 125; refine (HPD.out _).mono ?_; rintro e wd ⟨rfl, rfl⟩)
        | (go_at_call 126; refine (HC.out _ (Hid.out ?_)).mono ?_; assumption; rintro e w5 ⟨rfl, hb5⟩; have HB5 : Hid (Below w1.heap.size w1 w5) := hid ((Hid.out HBD).trans hb5); have f0 := (HB5.out.cell (p := ⟨w.heap.size, 0, none⟩) (by show w.heap.size < w1.heap.size; omega)).trans c0; have f1 := (HB5.out.cell (p := ⟨w.heap.size, 1, none⟩) (by show w.heap.size < w1.heap.size; omega)).trans c1; clear hb5))
    all_goals
      go_wp2
      go_ret
      have hfin : (((a : Int) == (d : Int)) = true ↔ goodN key m r s) := by
        rw [beq_iff_eq, Int.ofNat_inj]
        exact decide_eq_true_iff.symm.trans HE.out
      exact ⟨_, rfl, hfin, HB1.out.trans (HB5.out.mono (by omega))⟩
  · have d6 : ((z : Int) != 1) = true := by simp; omega
    have HE := hid (show (false = true ↔ goodN key m r s) by
      refine ⟨fun h => by simp at h, fun h => ?_⟩
      have := HZ.out
      exact absurd (this.symm.trans h.2.2.2.1) h6)
    clear HZ HH HM1
    go_enter Tryz.func98, Tryz.ntmps98
    go_wp2_with fail
    refine (HP1.out _).mono ?_
    rintro e w4 ⟨rfl, hw4⟩
    obtain rfl := hw4.symm
    go_wp2
    go_ret
    exact ⟨false, rfl, HE.out, HB1.out⟩
end Go.Proofs.YtiflkkelbnpniaaGreatDoor
