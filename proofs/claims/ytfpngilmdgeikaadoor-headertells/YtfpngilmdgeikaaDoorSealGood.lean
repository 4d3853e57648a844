/-
  What Good answers: whether a seal is good. It turns nothing that was there.
-/
import Derived.Test.YtfpngilmdgeikaaDoorSealSign
import Derived.BigQuiet
import Derived.Deep.QuietTactic
import Derived.Deep.RegionWith
namespace Go.Proofs.YtfpngilmdgeikaaDoor
open Go.RowKit

/-- a key to the order -/
def powQ (k : Nat) : Nat := powP k qQ
theorem power_order (k : Nat) (w : World) (hk : k < 18446744073709551616) :
    Calls Tryd.prog 137 #[.int .u64 (k : Int), .int .u64 (576460752303424853 : Int), .int .u64 (1152921504606849707 : Int)] w fun e w' => e = .returned (.int .u64 (powQ k : Int)) ∧ ∃ n, w' = w.drewN n := by
  have h := power_p k qQ w hk (by decide)
  rw [show ((qQ : Nat) : Int) = (576460752303424853 : Int) from by decide] at h
  exact h
theorem power_four (e : Nat) (w : World) (he : e < 18446744073709551616) :
    Calls Tryd.prog 137 #[.int .u64 (4 : Int), .int .u64 (e : Int), .int .u64 (1152921504606849707 : Int)] w fun e' w' => e' = .returned (.int .u64 (powP 4 e : Int)) ∧ ∃ n, w' = w.drewN n :=
  power_p 4 e w (by omega) he
/-- a seal is good -/
def goodN (key : Nat) (m : List (BitVec 8)) (r s : Nat) : Prop :=
  (1 ≤ key ∧ key < 1152921504606849707) ∧ (1 ≤ r ∧ r < 1152921504606849707) ∧ s < 576460752303424853 ∧ powQ key = 1 ∧ powP 4 s = mulP r (powP key (askN r key m))

theorem inGroup_yes (x : Nat) (w : World) (h : 1 ≤ x ∧ x < 1152921504606849707) : Calls Tryd.prog 136 #[.int .u64 (x : Int)] w fun e w' => e = .returned (.bool true) ∧ w' = w := by
  have h1 : decide ((1 : Int) ≤ (x : Int)) = true := by simp; omega
  have h2 : decide ((x : Int) < (1152921504606849707 : Int)) = true := by simp; omega
  go_enter Tryd.func136, Tryd.ntmps136
  go_wp2
  go_ret
  exact ⟨rfl, rfl⟩
theorem inGroup_no (x : Nat) (w : World) (h : ¬ (1 ≤ x ∧ x < 1152921504606849707)) : Calls Tryd.prog 136 #[.int .u64 (x : Int)] w fun e w' => e = .returned (.bool false) ∧ w' = w := by
  by_cases h1 : 1 ≤ x
  · have d1 : decide ((1 : Int) ≤ (x : Int)) = true := by simp; omega
    have d2 : decide ((x : Int) < (1152921504606849707 : Int)) = false := by simp; omega
    clear h
    go_enter Tryd.func136, Tryd.ntmps136
    go_wp2
    go_ret
    exact ⟨rfl, rfl⟩
  · have d1 : decide ((1 : Int) ≤ (x : Int)) = false := by simp; omega
    clear h
    go_enter Tryd.func136, Tryd.ntmps136
    go_wp2
    go_ret
    exact ⟨rfl, rfl⟩

set_option maxRecDepth 100000 in
set_option maxHeartbeats 1000000 in
theorem good_any (key : Nat) (m : List (BitVec 8)) (r s : Nat) (mv : Value) (N : Nat) (w : World) (hk : key < 18446744073709551616) (hr : r < 18446744073709551616) (hs : s < 18446744073709551616) (hN : N ≤ w.heap.size) (hm : Bytes w N mv m) (hK : tableAt w) (hlen : m.length ≤ 140737488351232) :
    Calls Tryd.prog 92 #[.int .u64 (key : Int), mv, .agg #[.int .u64 (r : Int), .int .u64 (s : Int)]] w fun e w' => ∃ b : Bool, e = .returned (.bool b) ∧ (b = true ↔ goodN key m r s) ∧ Below w.heap.size w w' := by
  by_cases h1 : 1 ≤ key ∧ key < 1152921504606849707
  · by_cases h2 : 1 ≤ r ∧ r < 1152921504606849707
    · by_cases h3 : s < 576460752303424853
      · have HI1 := hid (fun w => inGroup_yes key w h1)
        have HI2 := hid (fun w => inGroup_yes r w h2)
        have d3 : decide ((576460752303424853 : Int) ≤ (s : Int)) = false := by simp; omega
        have HP1 := hid (fun w => power_order key w hk)
        obtain ⟨z, hz⟩ : ∃ z, powQ key = z := ⟨_, rfl⟩
        rw [hz] at HP1
        have HZ := hid hz
        obtain ⟨w1, hw1⟩ : ∃ w1, w.alloc (.cells #[.int .u64 (r : Int), .int .u64 (s : Int)] 49) = w1 := ⟨_, rfl⟩
        have hsz1 : w1.heap.size = w.heap.size + 1 := by rw [← hw1]; simp
        have hb1 : Below w.heap.size w w1 := by rw [← hw1]; exact (Below.refl _ _).alloc (Nat.le_refl _) _
        have hrow1 : Row w1 w.heap.size 49 [.int .u64 (r : Int), .int .u64 (s : Int)] := by rw [← hw1]; exact Row.new _ _ _
        have c0 : w1.cell? ⟨w.heap.size, 0, none⟩ = some (.int .u64 (r : Int)) := hrow1.cell 0
        have c1 : w1.cell? ⟨w.heap.size, 1, none⟩ = some (.int .u64 (s : Int)) := hrow1.cell 1
        have HR1 := hid hrow1
        have HB1 := hid hb1
        have HM1 := hid (hm.below (hb1.mono hN))
        have HK1 := hid (hK.below hb1 hK.lt)
        have HH := hid (show (1 ≤ key ∧ key < 1152921504606849707) ∧ (1 ≤ r ∧ r < 1152921504606849707) ∧ s < 576460752303424853 from ⟨h1, h2, h3⟩)
        clear hz hrow1 hb1 hm hK h1 h2 h3
        by_cases h4 : z = 1
        · subst h4
          have HC := hid (fun n => challenge_any r key m mv N (w1.drewN n) hr hk (by show N ≤ w1.heap.size; omega) (HM1.out.below (below_drewN _ _ _)) (HK1.out.below (below_drewN _ _ _) HK1.out.lt) hlen)
          obtain ⟨c, hc⟩ : ∃ c, askN r key m = c := ⟨_, rfl⟩
          have hcl := askN_lt r key m
          rw [hc] at HC hcl
          obtain ⟨a, ha⟩ : ∃ a, powP 4 s = a := ⟨_, rfl⟩
          obtain ⟨b, hb⟩ : ∃ b, powP key c = b := ⟨_, rfl⟩
          obtain ⟨d, hd⟩ : ∃ d, mulP r b = d := ⟨_, rfl⟩
          have hbl := powP_lt key c
          rw [hb] at hbl
          have HPA := hid (fun w => power_four s w hs)
          have HPB := hid (fun w => power_p key c w hk (by omega))
          have HPD := hid (fun w => times_p r b w hr (by omega))
          rw [ha] at HPA
          rw [hb] at HPB
          rw [hd] at HPD
          have HE := hid (show (decide (a = d) = true ↔ goodN key m r s) by
            have h := HH.out
            have hz := HZ.out
            unfold goodN
            rw [decide_eq_true_iff, hc, hb, hd, ha]
            exact ⟨fun e => ⟨h.1, h.2.1, h.2.2, hz, e⟩, fun e => e.2.2.2.2⟩)
          clear hc ha hb hd HZ HH
          go_enter Tryd.func92, Tryd.ntmps92
          go_wp2_with fail
          refine (HI1.out _).mono ?_
          rintro e w2 ⟨rfl, hw2⟩
          obtain rfl := hw2.symm
          go_wp2_with fail
          refine (HI2.out _).mono ?_
          rintro e w3 ⟨rfl, hw3⟩
          obtain rfl := hw3.symm
          go_wp2_with fail
          refine (HP1.out _).mono ?_
          rintro e w4 ⟨rfl, n4, rfl⟩
          go_wp2_with fail
          refine (HC.out n4).mono ?_
          rintro e w5 ⟨rfl, hb5⟩
          have hb15 : Below w1.heap.size w1 w5 := (below_drewN w1 n4 _).trans hb5
          have e0 : w5.cell? ⟨w.heap.size, 0, none⟩ = some (.int .u64 (r : Int)) := (hb15.cell (by show w.heap.size < w1.heap.size; omega)).trans c0
          have e1 : w5.cell? ⟨w.heap.size, 1, none⟩ = some (.int .u64 (s : Int)) := (hb15.cell (by show w.heap.size < w1.heap.size; omega)).trans c1
          have HB5 := hid (HB1.out.trans (hb15.mono (by omega)))
          clear hb5 hb15 c0 c1 HR1 HB1 HM1 HK1 HP1 HC HI1 HI2 hw1 d3
          go_wp2_with fail
          go_quiet (first
            | (go_at_call_of 137 (Value.int .u64 (s : Int)); exact Calls.quiet_of (HPA.out _))
            | (go_at_call_of 137 (Value.int .u64 (c : Int)); exact Calls.quiet_of (HPB.out _))
            | (go_at_call 139; exact Calls.quiet_of (HPD.out _)))
          go_wp2
          go_ret
          have hfin : (((a : Int) == (d : Int)) = true ↔ goodN key m r s) := by
            rw [beq_iff_eq, Int.ofNat_inj]
            exact decide_eq_true_iff.symm.trans HE.out
          exact ⟨_, rfl, hfin, HB5.out.trans (below_drewN w5 nq _)⟩
        · have d4 : ((z : Int) != 1) = true := by simp; omega
          have HE := hid (show (false = true ↔ goodN key m r s) by
            refine ⟨fun h => by simp at h, fun h => ?_⟩
            have := HZ.out
            exact absurd (this.symm.trans h.2.2.2.1) h4)
          clear HZ HH HM1 HK1 HR1
          go_enter Tryd.func92, Tryd.ntmps92
          go_wp2_with fail
          refine (HI1.out _).mono ?_
          rintro e w2 ⟨rfl, hw2⟩
          obtain rfl := hw2.symm
          go_wp2_with fail
          refine (HI2.out _).mono ?_
          rintro e w3 ⟨rfl, hw3⟩
          obtain rfl := hw3.symm
          go_wp2_with fail
          refine (HP1.out _).mono ?_
          rintro e w4 ⟨rfl, n4, rfl⟩
          go_wp2
          go_ret
          exact ⟨false, rfl, HE.out, HB1.out.trans (below_drewN w1 n4 _)⟩
      · have HI1 := hid (fun w => inGroup_yes key w h1)
        have HI2 := hid (fun w => inGroup_yes r w h2)
        have d3 : decide ((576460752303424853 : Int) ≤ (s : Int)) = true := by simp; omega
        have HE := hid (show (false = true ↔ goodN key m r s) from ⟨fun h => by simp at h, fun h => absurd h.2.2.1 h3⟩)
        obtain ⟨w1, hw1⟩ : ∃ w1, w.alloc (.cells #[.int .u64 (r : Int), .int .u64 (s : Int)] 49) = w1 := ⟨_, rfl⟩
        have hb1 : Below w.heap.size w w1 := by rw [← hw1]; exact (Below.refl _ _).alloc (Nat.le_refl _) _
        have hrow1 : Row w1 w.heap.size 49 [.int .u64 (r : Int), .int .u64 (s : Int)] := by rw [← hw1]; exact Row.new _ _ _
        have c0 : w1.cell? ⟨w.heap.size, 0, none⟩ = some (.int .u64 (r : Int)) := hrow1.cell 0
        have c1 : w1.cell? ⟨w.heap.size, 1, none⟩ = some (.int .u64 (s : Int)) := hrow1.cell 1
        have HB1 := hid hb1
        clear hb1 hrow1 hm hK
        go_enter Tryd.func92, Tryd.ntmps92
        go_wp2_with fail
        refine (HI1.out _).mono ?_
        rintro e w2 ⟨rfl, hw2⟩
        obtain rfl := hw2.symm
        go_wp2_with fail
        refine (HI2.out _).mono ?_
        rintro e w3 ⟨rfl, hw3⟩
        obtain rfl := hw3.symm
        go_wp2
        go_ret
        exact ⟨false, rfl, HE.out, HB1.out⟩
    · have HI1 := hid (fun w => inGroup_yes key w h1)
      have HI2 := hid (fun w => inGroup_no r w h2)
      have HE := hid (show (false = true ↔ goodN key m r s) from ⟨fun h => by simp at h, fun h => absurd h.2.1 h2⟩)
      obtain ⟨w1, hw1⟩ : ∃ w1, w.alloc (.cells #[.int .u64 (r : Int), .int .u64 (s : Int)] 49) = w1 := ⟨_, rfl⟩
      have hb1 : Below w.heap.size w w1 := by rw [← hw1]; exact (Below.refl _ _).alloc (Nat.le_refl _) _
      have hrow1 : Row w1 w.heap.size 49 [.int .u64 (r : Int), .int .u64 (s : Int)] := by rw [← hw1]; exact Row.new _ _ _
      have c0 : w1.cell? ⟨w.heap.size, 0, none⟩ = some (.int .u64 (r : Int)) := hrow1.cell 0
      have c1 : w1.cell? ⟨w.heap.size, 1, none⟩ = some (.int .u64 (s : Int)) := hrow1.cell 1
      have HB1 := hid hb1
      clear hb1 hrow1 hm hK
      go_enter Tryd.func92, Tryd.ntmps92
      go_wp2_with fail
      refine (HI1.out _).mono ?_
      rintro e w2 ⟨rfl, hw2⟩
      obtain rfl := hw2.symm
      go_wp2_with fail
      refine (HI2.out _).mono ?_
      rintro e w3 ⟨rfl, hw3⟩
      obtain rfl := hw3.symm
      go_wp2
      go_ret
      exact ⟨false, rfl, HE.out, HB1.out⟩
  · have HI1 := hid (fun w => inGroup_no key w h1)
    have HE := hid (show (false = true ↔ goodN key m r s) from ⟨fun h => by simp at h, fun h => absurd h.1 h1⟩)
    obtain ⟨w1, hw1⟩ : ∃ w1, w.alloc (.cells #[.int .u64 (r : Int), .int .u64 (s : Int)] 49) = w1 := ⟨_, rfl⟩
    have hb1 : Below w.heap.size w w1 := by rw [← hw1]; exact (Below.refl _ _).alloc (Nat.le_refl _) _
    have hrow1 : Row w1 w.heap.size 49 [.int .u64 (r : Int), .int .u64 (s : Int)] := by rw [← hw1]; exact Row.new _ _ _
    have c0 : w1.cell? ⟨w.heap.size, 0, none⟩ = some (.int .u64 (r : Int)) := hrow1.cell 0
    have c1 : w1.cell? ⟨w.heap.size, 1, none⟩ = some (.int .u64 (s : Int)) := hrow1.cell 1
    have HB1 := hid hb1
    clear hb1 hrow1 hm hK
    go_enter Tryd.func92, Tryd.ntmps92
    go_wp2_with fail
    refine (HI1.out _).mono ?_
    rintro e w2 ⟨rfl, hw2⟩
    obtain rfl := hw2.symm
    go_wp2
    go_ret
    exact ⟨false, rfl, HE.out, HB1.out⟩
end Go.Proofs.YtfpngilmdgeikaaDoor
