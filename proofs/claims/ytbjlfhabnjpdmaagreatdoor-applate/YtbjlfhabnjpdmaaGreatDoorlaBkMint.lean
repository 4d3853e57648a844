/-
  What is minted, burnt and moved: package bank's Mint, Burn and Move.
-/
import Derived.Test.YtbjlfhabnjpdmaaGreatDoorlaBkPut
import Derived.Test.YtbjlfhabnjpdmaaGreatDoorlaStOne
namespace Go.Proofs.YtbjlfhabnjpdmaaGreatDoor
open Go.RowKit

theorem Row.k1 {w : World} {g : Nat} {t : TypeId} {x0 : Value} (h : Row w g t [x0]) : w.cell? ⟨g, 0, none⟩ = some x0 := h.cell 0
set_option maxRecDepth 100000 in
set_option maxHeartbeats 4000000 in
theorem more_any (a n g : Nat) (w : World) (hr : Row w g 47 [.int .u64 (n : Int)]) (h : a + n < 18446744073709551616) : Calls Tryz.prog 251 #[.int .u64 (a : Int), .pointer (some ⟨g, 0, none⟩)] w fun e w' => e = .returned (.int .u64 ((a + n : Nat) : Int)) ∧ Below w.heap.size w w' := by
  have k := hr.k1
  have hx : IntKind.u64.wrap ((a : Int) + (n : Int)) = ((a + n : Nat) : Int) := by rw [IntKind.wrap_u64]; omega
  clear hr
  go_enter Tryz.func251, Tryz.ntmps251
  go_wp2
  go_ret
  exact ⟨by first | rfl | simp, Below.refl _ _⟩
set_option maxRecDepth 100000 in
set_option maxHeartbeats 4000000 in
theorem less_any (a n g : Nat) (w : World) (hr : Row w g 47 [.int .u64 (n : Int)]) (ha : a < 18446744073709551616) (h : n ≤ a) : Calls Tryz.prog 238 #[.int .u64 (a : Int), .pointer (some ⟨g, 0, none⟩)] w fun e w' => e = .returned (.int .u64 ((a - n : Nat) : Int)) ∧ Below w.heap.size w w' := by
  have k := hr.k1
  obtain ⟨b, hb⟩ : ∃ b, a - n = b := ⟨_, rfl⟩
  have hx : IntKind.u64.wrap ((a : Int) - (n : Int)) = (b : Int) := by rw [IntKind.wrap_u64]; omega
  rw [hb]
  clear hr hb
  go_enter Tryz.func238, Tryz.ntmps238
  go_wp2
  go_ret
  exact ⟨rfl, Below.refl _ _⟩
set_option maxRecDepth 100000 in
set_option maxHeartbeats 4000000 in
theorem burn_new (l : List Pu) (o d : ByteArray) (n : Nat) (sv : Value) (N : Nat) (w : World) (hN : N ≤ w.heap.size) (hl : Many PuR 3 w N sv l) (hr : RightU l) (hlen : l.length ≤ 60) :
    Calls Tryz.prog 184 #[sv, .string o, .string d, .int .u64 (n : Int)] w fun e w' => Below w.heap.size w w' ∧ ∃ v, e = .returned (.tuple #[v, .int .i64 (burnE l o d n)]) ∧ NewU w.heap.size w' v (burnL l o d n) := by
  have HE0 := hid (show (wordB o && wordB d) = false → burnE l o d n = 4 from fun h => if_pos h)
  have HE1 := hid (show (wordB o && wordB d) = false → burnL l o d n = [] from fun h => by unfold burnL; rw [HE0.out h]; rfl)
  obtain ⟨oa, ca, rfl, -⟩ := hl.shape
  have HL := hid hl
  have HRU := hid hr
  have HN60 := hid hlen
  have HW1 := hid (isWord_any o)
  have HW2 := hid (isWord_any d)
  generalize hln : l.length = m at *
  have HM := hid hln
  clear hl hr hln hlen
  go_enter Tryz.func184, Tryz.ntmps184
  go_upto_region 1 with fail
  refine fbox1 ?_
  intro w0 F hs0
  have HB := hid F.b
  have HG := hid (fun W (hb : Below w0.heap.size w0 W) => (F.go hb).r0)
  have hk := F.r0.k1
  replace HL := hid (HL.out.below PuR.stays (F.b.mono hN))
  replace hN := Nat.le_trans hN F.b.size
  clear F hs0
  by_cases e1 : wordB o = false
  · rw [e1] at HW1
    go_wp2_with fail
    refine (HW1.out _).mono ?_
    rintro e wx ⟨rfl, hwx⟩
    obtain rfl := hwx.symm
    go_wp2
    go_ret2
    exact ⟨HB.out, _, by rw [HE0.out (by simp [e1])]; rfl, by rw [HE1.out (by simp [e1])]; exact NewU.nil _ _⟩
  have hw1 : wordB o = true := by simpa using e1
  clear e1
  by_cases e2 : wordB d = false
  · rw [hw1] at HW1
    rw [e2] at HW2
    go_wp2_with fail
    refine (HW1.out _).mono ?_
    rintro e wx ⟨rfl, hwx⟩
    obtain rfl := hwx.symm
    go_wp2_with fail
    refine (HW2.out _).mono ?_
    rintro e wx ⟨rfl, hwx⟩
    obtain rfl := hwx.symm
    go_wp2
    go_ret2
    exact ⟨HB.out, _, by rw [HE0.out (by simp [e2])]; rfl, by rw [HE1.out (by simp [e2])]; exact NewU.nil _ _⟩
  have hw2 : wordB d = true := by simpa using e2
  clear e2
  rw [hw1] at HW1
  rw [hw2] at HW2
  have HWW := hid (show ¬ (wordB o && wordB d) = false by simp [hw1, hw2])
  clear hw1 hw2
  go_wp2_with fail
  refine (HW1.out _).mono ?_
  rintro e wx ⟨rfl, hwx⟩
  obtain rfl := hwx.symm
  go_wp2_with fail
  refine (HW2.out _).mono ?_
  rintro e wx ⟨rfl, hwx⟩
  obtain rfl := hwx.symm
  have HAM := hid (fun W (hb : Below w0.heap.size w0 W) => amount_any l o d _ N W (Nat.le_trans hN hb.size) (HL.out.below PuR.stays (hb.mono hN)) HRU.out.sort (by have := HN60.out; have := HM.out; omega))
  have hab := amt_bound HRU.out o d
  have HAD := hid (fun W x fid cap (hb : Below w0.heap.size w0 W) => amended_new l o d x fid cap _ N W (Nat.le_trans hN hb.size) (HL.out.below PuR.stays (hb.mono hN)) HRU.out.sort (by have := HN60.out; have := HM.out; omega))
  have HX0 := hid (show burnE l o d n = if amtU l o d < n then 8 else 0 from if_neg HWW.out)
  have HX1 := hid (show burnL l o d n = if burnE l o d n ≠ 0 then [] else putU l o d (amtU l o d - n) from rfl)
  generalize ea : amtU l o d = a at *
  go_upto_region 3 with fail
  apply region_go (by kernel_rfl) (fun W hb => (HG.out W hb).k1) (by kernel_rfl)
  · intro σ; simp [slotAll]; exact rfl
  iterate 3 (apply RK.val rfl; · intro σ W hb hc hd; simp [Has, Fresh, Region.binds] at hd; go_simp; exact rfl)
  apply RK.callV rfl
  · intro σ W hb hc hd; simp [Has, Fresh, Region.binds] at hd; go_simp; exact ⟨rfl, rfl⟩
  · intro W hb _; exact HAM.out W hb
  iterate 3 (apply RK.val rfl; · intro σ W hb hc hd; simp [Has, Fresh, Region.binds] at hd; go_simp; exact rfl)
  intro σ W hb _ hF; simp [AllF] at hF; go_simp; clear hF
  have HB1 := hid (HB.out.trans (hb.mono HB.out.size))
  by_cases hlt : a < n
  · have e1 : decide (a < n) = true := by simpa using hlt
    rw [if_pos hlt] at HX0
    go_wp2
    go_ret2
    exact ⟨HB1.out, _, by rw [HX0.out]; rfl, by rw [HX1.out, if_pos (by rw [HX0.out]; decide)]; exact NewU.nil _ _⟩
  · have e1 : decide (a < n) = false := by simpa using hlt
    rw [if_neg hlt] at HX0
    have HY := hid (HAD.out W (a - n) 238 (.pointer (some ⟨w.heap.size, 0, none⟩)) hb (fun _ _ => rfl) (fun X hX => by
      exact less_any a n w.heap.size X (HG.out X (hb.trans (hX.mono hb.size))) hab (by omega)))
    clear hb
    go_wp2_with fail
    refine HY.out.mono ?_
    rintro e w2 ⟨hb2, v, rfl, hv⟩
    have HV := hid (hv.down HB1.out.size)
    have HB2 := hid (HB1.out.trans (hb2.mono HB1.out.size))
    clear hv hb2
    go_wp2
    go_ret2
    exact ⟨HB2.out, v, by rw [HX0.out]; rfl, by rw [HX1.out, if_neg (by rw [HX0.out]; decide)]; exact HV.out⟩
set_option maxRecDepth 100000 in
set_option maxHeartbeats 4000000 in
theorem mint_new (l : List Pu) (o d : ByteArray) (n : Nat) (sv : Value) (N : Nat) (w : World) (hN : N ≤ w.heap.size) (hl : Many PuR 3 w N sv l) (hr : RightU l) (hlen : l.length ≤ 60) (hn : n < 18446744073709551616) :
    Calls Tryz.prog 195 #[sv, .string o, .string d, .int .u64 (n : Int)] w fun e w' => Below w.heap.size w w' ∧ ∃ v, e = .returned (.tuple #[v, .int .i64 (mintE l o d n)]) ∧ NewU w.heap.size w' v (mintL l o d n) := by
  have HE0 := hid (show (wordB o && wordB d) = false → mintE l o d n = 4 from fun h => if_pos h)
  have HE1 := hid (show (wordB o && wordB d) = false → mintL l o d n = [] from fun h => by unfold mintL; rw [HE0.out h]; rfl)
  obtain ⟨oa, ca, rfl, -⟩ := hl.shape
  have HL := hid hl
  have HRU := hid hr
  have HN60 := hid hlen
  have HW1 := hid (isWord_any o)
  have HW2 := hid (isWord_any d)
  generalize hln : l.length = m at *
  have HM := hid hln
  clear hl hr hln hlen
  go_enter Tryz.func195, Tryz.ntmps195
  go_upto_region 1 with fail
  refine fbox1 ?_
  intro w0 F hs0
  have HB := hid F.b
  have HG := hid (fun W (hb : Below w0.heap.size w0 W) => (F.go hb).r0)
  have hk := F.r0.k1
  replace HL := hid (HL.out.below PuR.stays (F.b.mono hN))
  replace hN := Nat.le_trans hN F.b.size
  clear F hs0
  by_cases e1 : wordB o = false
  · rw [e1] at HW1
    go_wp2_with fail
    refine (HW1.out _).mono ?_
    rintro e wx ⟨rfl, hwx⟩
    obtain rfl := hwx.symm
    go_wp2
    go_ret2
    exact ⟨HB.out, _, by rw [HE0.out (by simp [e1])]; rfl, by rw [HE1.out (by simp [e1])]; exact NewU.nil _ _⟩
  have hw1 : wordB o = true := by simpa using e1
  clear e1
  by_cases e2 : wordB d = false
  · rw [hw1] at HW1
    rw [e2] at HW2
    go_wp2_with fail
    refine (HW1.out _).mono ?_
    rintro e wx ⟨rfl, hwx⟩
    obtain rfl := hwx.symm
    go_wp2_with fail
    refine (HW2.out _).mono ?_
    rintro e wx ⟨rfl, hwx⟩
    obtain rfl := hwx.symm
    go_wp2
    go_ret2
    exact ⟨HB.out, _, by rw [HE0.out (by simp [e2])]; rfl, by rw [HE1.out (by simp [e2])]; exact NewU.nil _ _⟩
  have hw2 : wordB d = true := by simpa using e2
  clear e2
  rw [hw1] at HW1
  rw [hw2] at HW2
  have HWW := hid (show ¬ (wordB o && wordB d) = false by simp [hw1, hw2])
  clear hw1 hw2
  go_wp2_with fail
  refine (HW1.out _).mono ?_
  rintro e wx ⟨rfl, hwx⟩
  obtain rfl := hwx.symm
  go_wp2_with fail
  refine (HW2.out _).mono ?_
  rintro e wx ⟨rfl, hwx⟩
  obtain rfl := hwx.symm
  have HX0 := hid (show mintE l o d n = if n = 0 then 0 else if 18446744073709551616 ≤ supU l d + n then 3 else if 60 ≤ l.length ∧ amtU l o d = 0 then 5 else 0 from if_neg HWW.out)
  have HX1 := hid (show mintL l o d n = if mintE l o d n ≠ 0 then [] else if n = 0 then l else putU l o d (amtU l o d + n) from rfl)
  have HCL := hid (clonePu (rowsU l) _ N w0 HL.out.recsU hN (rowsU_ok l) (by have := HN60.out; have := HM.out; simp [rowsU]; omega))
  have HBY := hid (beyond_any l d n _ N w0 hN HL.out (fun p hp => (HRU.out.ok p hp).2.2.2) (by have := HN60.out; have := HM.out; omega) hn)
  have HAM := hid (fun W (hb : Below w0.heap.size w0 W) => amount_any l o d _ N W (Nat.le_trans hN hb.size) (HL.out.below PuR.stays (hb.mono hN)) HRU.out.sort (by have := HN60.out; have := HM.out; omega))
  have HAD := hid (fun W x fid cap (hb : Below w0.heap.size w0 W) => amended_new l o d x fid cap _ N W (Nat.le_trans hN hb.size) (HL.out.below PuR.stays (hb.mono hN)) HRU.out.sort (by have := HN60.out; have := HM.out; omega))
  have HAS := hid (amt_le_sup l o d)
  by_cases hn0 : n = 0
  · subst hn0
    rw [if_pos rfl] at HX0
    go_wp2_with fail
    refine HCL.out.mono ?_
    rintro e w2 ⟨hb2, v, rfl, hv⟩
    have HV := hid (NewU.down (show NewU w0.heap.size w2 v l from hv) HB.out.size)
    have HB2 := hid (HB.out.trans (hb2.mono HB.out.size))
    clear hv hb2
    go_wp2
    go_ret2
    exact ⟨HB2.out, v, by rw [HX0.out]; rfl, by rw [HX1.out, if_neg (by rw [HX0.out]; decide), if_pos (by trivial)]; exact HV.out⟩
  have b0 : ((n : Int) == 0) = false := by simp; exact hn0
  have b0' : (n == 0) = false := by simpa using hn0
  rw [if_neg hn0] at HX0 HX1
  generalize es : supU l d = s at *
  generalize ea : amtU l o d = a at *
  have HNZ := hid hn0
  clear hn0
  by_cases hov : 18446744073709551616 ≤ s + n
  · rw [decide_eq_true hov] at HBY
    rw [if_pos hov] at HX0
    go_wp2_with fail
    refine HBY.out.mono ?_
    rintro e w2 ⟨rfl, hb2⟩
    have HB2 := hid (HB.out.trans (hb2.mono HB.out.size))
    clear hb2
    go_wp2
    go_ret2
    exact ⟨HB2.out, _, by rw [HX0.out]; rfl, by rw [HX1.out, if_pos (by rw [HX0.out]; decide)]; exact NewU.nil _ _⟩
  rw [decide_eq_false hov] at HBY
  rw [if_neg hov, HM.out] at HX0
  go_wp2_with fail
  refine HBY.out.mono ?_
  rintro e w2 ⟨rfl, hb2⟩
  have HB2 := hid (HB.out.trans (hb2.mono HB.out.size))
  have HBB := hid hb2
  clear hb2
  have GO := hid (show ∀ W, Below w2.heap.size w2 W → Calls Tryz.prog 237 #[.slice oa m ca, .string o, .string d, .func (.func 251) #[] #[.pointer (some ⟨w.heap.size, 0, none⟩)]] W fun e w' => Below W.heap.size W w' ∧ ∃ v, e = .returned v ∧ NewU W.heap.size w' v (putU l o d (a + n)) from fun W hb =>
    HAD.out W (a + n) 251 _ (HBB.out.trans (hb.mono HBB.out.size)) (fun _ _ => rfl) (fun X hX => by
      exact more_any a n w.heap.size X (HG.out X ((HBB.out.trans (hb.mono HBB.out.size)).trans (hX.mono (HBB.out.trans (hb.mono HBB.out.size)).size))) (by have := HAS.out; omega)))
  by_cases h60 : 60 ≤ m
  · have q1 : decide ((60 : Int) ≤ (m : Int)) = true := by simp; omega
    have q2 : decide (60 ≤ m) = true := by simpa using h60
    go_wp2_with fail
    refine (HAM.out _ HBB.out).mono ?_
    rintro e w3 ⟨rfl, hb3⟩
    have HB3 := hid (HB2.out.trans (hb3.mono HB2.out.size))
    have HG3 := hid (GO.out w3 hb3)
    clear hb3
    by_cases ha0 : a = 0
    · subst ha0
      rw [if_pos ⟨h60, rfl⟩] at HX0
      go_wp2
      go_ret2
      exact ⟨HB3.out, _, by rw [HX0.out]; rfl, by rw [HX1.out, if_pos (by rw [HX0.out]; decide)]; exact NewU.nil _ _⟩
    · rw [if_neg (fun h => ha0 h.2)] at HX0
      have q3 : ((a : Int) == 0) = false := by simp; exact ha0
      have q4 : (a == 0) = false := by simpa using ha0
      go_wp2_with fail
      refine HG3.out.mono ?_
      rintro e w4 ⟨hb4, v, rfl, hv⟩
      have HV := hid (hv.down HB3.out.size)
      have HB4 := hid (HB3.out.trans (hb4.mono HB3.out.size))
      clear hv hb4
      go_wp2
      go_ret2
      exact ⟨HB4.out, v, by rw [HX0.out]; rfl, by rw [HX1.out, if_neg (by rw [HX0.out]; decide)]; exact HV.out⟩
  · rw [if_neg (fun h => h60 h.1)] at HX0
    have q1 : decide ((60 : Int) ≤ (m : Int)) = false := by simp; omega
    have q2 : decide (60 ≤ m) = false := by simpa using h60
    have HG3 := hid (GO.out w2 (Below.refl _ _))
    go_wp2_with fail
    refine HG3.out.mono ?_
    rintro e w4 ⟨hb4, v, rfl, hv⟩
    have HV := hid (hv.down HB2.out.size)
    have HB4 := hid (HB2.out.trans (hb4.mono HB2.out.size))
    clear hv hb4
    go_wp2
    go_ret2
    exact ⟨HB4.out, v, by rw [HX0.out]; rfl, by rw [HX1.out, if_neg (by rw [HX0.out]; decide)]; exact HV.out⟩
set_option maxRecDepth 100000 in
set_option maxHeartbeats 4000000 in
theorem move_new (l : List Pu) (a b d : ByteArray) (n : Nat) (sv : Value) (N : Nat) (w : World) (hN : N ≤ w.heap.size) (hl : Many PuR 3 w N sv l) (hr : RightU l) (hlen : l.length ≤ 60) (hn : n < 18446744073709551616) :
    Calls Tryz.prog 124 #[sv, .string a, .string b, .string d, .int .u64 (n : Int)] w fun e w' => Below w.heap.size w w' ∧ ∃ v, e = .returned (.tuple #[v, .int .i64 (moveE l a b d n)]) ∧ NewU w.heap.size w' v (moveL l a b d n) := by
  have HC := hid (burn_new l a d n sv N w hN hl hr hlen)
  obtain ⟨oa, ca, rfl, -⟩ := hl.shape
  have HR := hid hr
  have HE := hid (show moveE l a b d n = if burnE l a d n ≠ 0 then burnE l a d n else mintE (burnL l a d n) b d n from rfl)
  have HL := hid (show moveL l a b d n = if burnE l a d n ≠ 0 then [] else mintL (burnL l a d n) b d n from rfl)
  have HOK := hid (fun h => (burn_ok (n := n) (o := a) (d := d) hr h).right)
  have HOL := hid (fun h => Nat.le_trans (burn_ok (n := n) (o := a) (d := d) hr h).len hlen)
  clear hl hr hlen
  generalize l.length = m at *
  go_enter Tryz.func124, Tryz.ntmps124
  go_wp2_with fail
  refine HC.out.mono ?_
  rintro e w1 ⟨hb1, v, rfl, hv⟩
  generalize burnE l a d n = be at *
  have HB1 := hid hb1
  have HV := hid hv.now
  obtain ⟨o1, c1, rfl, -⟩ := hv.shape
  clear hb1 hv HC
  by_cases h0 : be = 0
  · subst h0
    rw [if_neg (by simp)] at HE HL
    have HM := hid (mint_new (burnL l a d n) b d n _ _ w1 (Nat.le_refl _) HV.out (HOK.out rfl) (HOL.out rfl) hn)
    generalize (burnL l a d n).length = m1 at *
    go_wp2_with fail
    refine HM.out.mono ?_
    rintro e w2 ⟨hb2, v2, rfl, hv2⟩
    have HV2 := hid (hv2.down HB1.out.size)
    have HB2 := hid (HB1.out.trans (hb2.mono HB1.out.size))
    clear hb2 hv2
    go_wp2
    go_ret2
    exact ⟨HB2.out, v2, by rw [HE.out]; rfl, by rw [HL.out]; exact HV2.out⟩
  · have q1 : (be != 0) = true := by simpa using h0
    rw [if_pos h0] at HE HL
    go_wp2
    go_ret2
    exact ⟨HB1.out, _, by rw [HE.out]; rfl, by rw [HL.out]; exact NewU.nil _ _⟩
end Go.Proofs.YtbjlfhabnjpdmaaGreatDoor
