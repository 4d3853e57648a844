/-
  BankBack: the walk.
-/
import Derived.Test.YtnoaohlajllngaaDoorbbBkLaw
import Derived.Test.YtnoaohlajllngaaDoorbbBkBackM
import Derived.Test.YtnoaohlajllngaaDoorbbBkCame
import Derived.Test.YtnoaohlajllngaaDoorbbBkParse
namespace Go.Proofs.YtnoaohlajllngaaDoor
open Go.RowKit

set_option maxRecDepth 100000 in
set_option maxHeartbeats 16000000 in
theorem bankBack_any (l : List Pu) (zc zo : Int) (t : Tr) (sv : Value) (N : Nat) (w : World) (hp : powAt w) (hN : N ≤ w.heap.size) (hl : Many PuR 3 w N sv l) (hf : ∀ p ∈ l, p.fits) (hlen : l.length < 2305843009213693952) (ht : t.fits) (hz1 : zc ≤ 9223372036854775807) (hz2 : zo ≤ 9223372036854775807) :
    Calls Tryd.prog 4 #[sv, .int .i64 zc, .int .i64 zo, .agg #[.string t.denom, .int .u64 (t.amount : Int), .string t.sender, .string t.reader]] w fun e w' => e = .returned (.bool true) ∧ Below w.heap.size w w' := by
  have HAL := hid alive12
  have HRT := hid (fun W (hb : Below w.heap.size w W) => right12 l sv N W (Nat.le_trans hN hb.size) (hl.below PuR.stays (hb.mono hN)) hf hlen)
  have HSU := hid (fun W (hb : Below w.heap.size w W) => supply_any l t.denom sv N W (Nat.le_trans hN hb.size) (hl.below PuR.stays (hb.mono hN)) (fun p hp => (hf p hp).2.2) hlen)
  have HRI := hid (rightB_iff (l := l) fun p hp => (hf p hp).2.2)
  have HL := hid hl
  have HP := hid (fun W (hb : Below w.heap.size w W) => hp.below hb)
  obtain ⟨oa, ca, rfl, -⟩ := hl.shape
  have hta := ht.2.1
  have htd := ht.1
  clear hl hf hlen hp ht
  generalize hm : l.length = m at *
  have HM := hid hm
  clear hm
  go_enter Tryd.func4, Tryd.ntmps4
  go_upto_region 1 with fail
  refine fbox1 ?_
  intro w0 F0 hs
  clear hs
  go_wp2_with fail
  refine (HAL.out w0).mono ?_
  rintro e w1 ⟨rfl, hb1⟩
  have F1 := F0.go hb1
  clear hb1 F0
  obtain ⟨k0, k1, k2, k3⟩ := F1.r0.k4
  go_wp2_with fail
  refine (HSU.out w1 F1.b).mono ?_
  rintro e w2 ⟨rfl, hb2⟩
  have F2 := F1.go hb2
  clear hb2 F1 k0 k1 k2 k3
  rw [show supE l t.denom = .tuple #[.int .u64 ((if supU l t.denom < 18446744073709551616 then supU l t.denom else 0 : Nat) : Int), .bool (decide (18446744073709551616 ≤ supU l t.denom))] from rfl]
  generalize (if supU l t.denom < 18446744073709551616 then supU l t.denom else 0 : Nat) = sn at *
  go_wp2_with fail
  refine (HRT.out w2 F2.b).mono ?_
  rintro e w3 ⟨rfl, hb3⟩
  have F3 := F2.go hb3
  clear hb3 F2 HAL HRT HSU
  obtain ⟨k0, k1, k2, k3⟩ := F3.r0.k4
  by_cases hrt : rightB l = false
  · rw [hrt]
    have HB3 := hid F3.b
    clear F3
    go_wp2
    go_ret
    exact ⟨rfl, HB3.out⟩
  have hrt' : rightB l = true := by simpa using hrt
  obtain ⟨h60, hR⟩ := HRI.out.1 hrt'
  have HR := hid hR
  have H60 := hid h60
  rw [hrt']
  clear hrt hrt' hR h60 HRI
  by_cases h1 : zc < 0
  · have q1 : decide (zc < 0) = true := by simpa using h1
    have HB3 := hid F3.b
    clear F3
    go_wp2
    go_ret
    exact ⟨rfl, HB3.out⟩
  by_cases h2 : zo < 0
  · have q1 : decide (zc < 0) = false := by simpa using h1
    have q2 : decide (zo < 0) = true := by simpa using h2
    have HB3 := hid F3.b
    clear F3
    go_wp2
    go_ret
    exact ⟨rfl, HB3.out⟩
  obtain ⟨ch, rfl⟩ : ∃ ch : Nat, zc = (ch : Int) := ⟨zc.toNat, by omega⟩
  obtain ⟨ot, rfl⟩ : ∃ ot : Nat, zo = (ot : Int) := ⟨zo.toNat, by omega⟩
  have hch : ch ≤ 9223372036854775807 := by omega
  have hot : ot ≤ 9223372036854775807 := by omega
  clear h1 h2 hz1 hz2
  by_cases h3 : t.amount = 0
  · have q3 : ((t.amount : Int) == 0) = true := by simp [h3]
    have q3' : (t.amount == 0) = true := by simp [h3]
    clear h3
    have HB3 := hid F3.b
    clear F3
    go_wp2
    go_ret
    exact ⟨rfl, HB3.out⟩
  have q3 : ((t.amount : Int) == 0) = false := by simp; exact h3
  have q3' : (t.amount == 0) = false := by simp; exact h3
  have hpos : 0 < t.amount := by omega
  clear h3
  by_cases h4 : 18446744073709551616 ≤ supU l t.denom
  · rw [decide_eq_true h4]
    clear h4
    have HB3 := hid F3.b
    clear F3
    go_wp2
    go_ret
    exact ⟨rfl, HB3.out⟩
  rw [decide_eq_false h4]
  have HLB := hid (fun h => leave_back (ch := ch) HR.out (by rw [HM.out]; exact H60.out) hpos hta (by omega) h)
  have HC3 := hid (leave_any l ch t _ N w3 (HP.out w3 F3.b) (Nat.le_trans hN F3.b.size) (HL.out.below PuR.stays (F3.b.mono hN)) HR.out (by rw [HM.out]; exact H60.out) hta hch)
  generalize leaveE l ch t = e3 at *
  generalize leaveL l ch t = q3l at *
  clear h4
  go_wp2_with fail
  refine HC3.out.mono ?_
  rintro e w4 ⟨hb4, v4, rfl, hv4⟩
  have F4 := F3.go hb4
  have HV4 := hid hv4
  obtain ⟨o4, c4, rfl, -⟩ := hv4.shape
  clear hb4 hv4 k0 k1 k2 k3 F3 HC3 q3 q3'
  by_cases he3 : e3 = 0
  · subst he3
    obtain ⟨g1, g2, g3⟩ := HLB.out rfl
    have HG := hid g3
    have HC4 := hid (back_any q3l ch t _ _ w4 (HP.out w4 F4.b) (Nat.le_refl _) HV4.out g1 g2 hta hch)
    generalize hbe : backE q3l ch t = e4 at *
    generalize hbl : backL q3l ch t = q4 at *
    clear hbe hbl g1 g2 g3 HLB
    generalize hgl : q3l.length = q3n at *
    clear hgl
    obtain ⟨k0, k1, k2, k3⟩ := F4.r0.k4
    go_wp2_with fail
    refine HC4.out.mono ?_
    rintro e wc ⟨hbc, vc, rfl, hvc⟩
    have FC := F4.go hbc
    have HVC := hid hvc
    obtain ⟨oc, cc, rfl, -⟩ := hvc.shape
    clear hbc hvc k0 k1 k2 k3 F4 HC4
    rcases HG.out with ⟨rfl, hq4⟩ | ⟨rfl, rfl⟩
    · have HS := hid (sameU_eq l (.slice oa m ca) (.slice oc q4.length cc) N wc.heap.size wc (Nat.le_trans hN FC.b.size) (Nat.le_refl _) (HL.out.below PuR.stays (FC.b.mono hN)) (by have := HVC.out; rw [hq4] at this ⊢; exact this) (by have := HM.out; have := H60.out; omega))
      clear hq4 HG
      generalize q4.length = q4n at *
      go_wp2_with fail
      refine HS.out.mono ?_
      rintro e wd ⟨rfl, hbd⟩
      have FD := FC.go hbd
      clear hbd FC HS HVC HV4
      have HC5 := hid (come_any l ch ot t _ N wd (HP.out wd FD.b) (Nat.le_trans hN FD.b.size) (HL.out.below PuR.stays (FD.b.mono hN)) HR.out (by rw [HM.out]; exact H60.out) hta hch hot htd)
      generalize hCE : comeE l ch ot t = e5 at *
      generalize hCL : comeL l ch ot t = q at *
      obtain ⟨k0, k1, k2, k3⟩ := FD.r0.k4
      go_wp2_with fail
      refine HC5.out.mono ?_
      rintro e w5 ⟨hb5, v5, rfl, hv5⟩
      have F5 := FD.go hb5
      have HV5 := hid hv5
      obtain ⟨o5, c5, rfl, -⟩ := hv5.shape
      clear hb5 hv5 k0 k1 k2 k3 FD HC5
      by_cases he5 : e5 ≠ 0
      · have e5' : (e5 != 0) = true := by simpa using he5
        have HB5 := hid F5.b
        clear F5
        generalize q.length = ql at *
        go_wp2
        go_ret
        exact ⟨rfl, HB5.out⟩
      obtain rfl : e5 = 0 := by omega
      have HQR := hid (show RightU q ∧ q.length ≤ 60 by rw [← hCL]; exact come_right HR.out (by rw [HM.out]; exact H60.out) hta hCE)
      have HHM := hid (fun h1 h2 => home_leave (ch := ch) (other := ot) (t := t) HR.out (by rw [HM.out]; exact H60.out) (by omega) hta hCE h1 h2)
      have HAB := hid (fun h1 => abroad_leave (ch := ch) (other := ot) (t := t) HR.out (by rw [HM.out]; exact H60.out) hta hCE h1)
      rw [hCL] at HHM HAB
      generalize hql : q.length = ql at *
      have HQL := hid hql
      clear hql hCE hCL he5
      obtain ⟨k0, k1, k2, k3⟩ := F5.r0.k4
      go_upto_region 17 with fail
      refine F5.box ?_
      intro w6 F6 hs6 hb6
      have HB6 := hid hb6
      clear hs6 hb6 F5 k0 k1 k2 k3
      obtain ⟨k0, k1, k2, k3⟩ := F6.r0.k4
      obtain ⟨c0, c1, c2, c3, z0, z1, z2, z3⟩ := F6.r1.f4
      go_upto_region 18 with fail
      refine F6.cell 1 rfl ?_
      intro w7 F7 O7
      have HB7 := hid (O7.down HB6.out (Nat.le_refl _))
      clear F6 O7 HB6 k0 k1 k2 k3 c0 c1 c2 c3 z0 z1 z2 z3
      obtain ⟨k0, k1, k2, k3⟩ := F7.r0.k4
      go_wp2_with fail
      refine (came_any t.denom ot hot w7).mono ?_
      rintro e w8 ⟨rfl, hb8⟩
      have F8 := F7.go hb8
      have HB8 := hid (HB7.out.trans (hb8.mono HB7.out.size))
      clear hb8 k0 k1 k2 k3 F7 HB7
      by_cases hco : cameB t.denom ot = true
      · simp only [hco, if_true]
        obtain ⟨c0, c1, c2, c3, z0, z1, z2, z3⟩ := F8.r1.f4
        go_upto_region 21 with fail
        refine F8.cell 1 rfl ?_
        intro wa FA OA
        have HBA := hid (OA.down HB8.out (Nat.le_refl _))
        clear F8 OA HB8 c0 c1 c2 c3 z0 z1 z2 z3
        go_wp2_with fail
        refine (came_any (cutS t.denom ot) ch hch wa).mono ?_
        rintro e wb ⟨rfl, hbb⟩
        have FB := FA.go hbb
        have HBB := hid (HBA.out.trans (hbb.mono HBA.out.size))
        clear hbb FA HBA
        by_cases hc2 : cameB (cutS t.denom ot) ch = true
        · have HBZ := hid FB.b
          clear FB
          simp only [hc2, if_true]
          go_wp2
          go_ret
          exact ⟨rfl, HBZ.out⟩
        have hc2' : cameB (cutS t.denom ot) ch = false := by simpa using hc2
        have HLV := hid (HHM.out hco hc2')
        simp only [hc2', Bool.false_eq_true, if_false]
        clear hc2 hc2' hco HHM HAB
        go_upto_region 25 with fail
        generalize hEE : leaveE q ch ⟨cutS t.denom ot, t.amount, t.reader, t.reader⟩ = e8 at *
        generalize hQQ : leaveL q ch ⟨cutS t.denom ot, t.amount, t.reader, t.reader⟩ = q8 at *
        have HC8 := hid (leave_any q ch ⟨cutS t.denom ot, t.amount, t.reader, t.reader⟩ (.slice o5 ql c5) w5.heap.size wb (HP.out wb FB.b) HBB.out.size (HV5.out.below PuR.stays HBB.out) HQR.out.1 (by rw [HQL.out]; exact HQR.out.2) hta hch)
        rw [hEE, hQQ] at HC8
        clear hEE hQQ
        obtain ⟨k0, k1, k2, k3⟩ := FB.r1.k4
        go_wp2_with fail
        refine HC8.out.mono ?_
        rintro e w9 ⟨hb9, v9, rfl, hv9⟩
        have HB9 := hid (FB.go hb9).b
        have HV9 := hid hv9
        obtain ⟨o9, c9, rfl, -⟩ := hv9.shape
        clear hb9 hv9 k0 k1 k2 k3 FB HC8
        rcases HLV.out with ⟨rfl, hql⟩ | rfl
        · have HS := hid (sameU_eq l (.slice oa m ca) (.slice o9 q8.length c9) N w9.heap.size w9 (Nat.le_trans hN HB9.out.size) (Nat.le_refl _) (HL.out.below PuR.stays (HB9.out.mono hN)) (by have := HV9.out; rw [hql] at this ⊢; exact this) (by have := HM.out; have := H60.out; omega))
          clear hql
          generalize q8.length = q8l at *
          go_wp2_with fail
          refine HS.out.mono ?_
          rintro e wa ⟨rfl, hba⟩
          have HBA := hid (HB9.out.trans (hba.mono HB9.out.size))
          clear hba
          go_wp2
          go_ret
          exact ⟨rfl, HBA.out⟩
        · generalize q8.length = q8l at *
          go_wp2
          go_ret
          exact ⟨rfl, HB9.out⟩
      · have hcf : cameB t.denom ot = false := by simpa using hco
        simp only [hcf, Bool.false_eq_true, if_false]
        have HLV := hid (HAB.out hcf)
        clear hco hcf HHM HAB
        have HF8 := hid F8
        clear F8
        have hq1 : ∀ W : World, (Op.stringOp .add (digS ch) ⟨#[47]⟩).run Tryd.prog W = .ok (.string (cameS ch)) W := fun W => run_string_add_sum W _ _ (by have := digS_size ch hch; show _ + 1 ≤ _; omega)
        have hq2 : ∀ W : World, (Op.stringOp .add (cameS ch) t.denom).run Tryd.prog W = .ok (.string (cameS ch ++ t.denom)) W := fun W => run_string_add_sum W _ _ (by have := cameS_size ch hch; omega)
        go_upto_region 24 with fail
        apply region_goT 7 (by kernel_rfl) (fun W hb => (HF8.out.go hb).r0.k4) (by kernel_rfl)
        · intro σ; simp [slotAll]; exact rfl
        apply RK.val rfl
        · intro σ W hb hc ⟨hd, hu⟩; simp [Fresh, Region.binds] at hd hu; go_simp; exact rfl
        apply RK.callV rfl
        · intro σ W hb hc ⟨hd, hu⟩; simp [Fresh, Region.binds] at hd hu; go_simp; exact ⟨rfl, rfl⟩
        · intro W hb _; exact rdig_any ch hch W
        iterate 5 (apply RK.val rfl; · intro σ W hb hc ⟨hd, hu⟩; simp [Fresh, Region.binds] at hd hu; go_simp; exact rfl)
        intro σ W hb _
        simp only [AllF, List.nil_append, List.cons_append, Nat.reduceAdd]
        intro hF
        have FA := HF8.out.go hb
        have HBA := hid (HB8.out.trans (hb.mono HB8.out.size))
        obtain ⟨c0, c1, c2, c3, z0, z1, z2, z3⟩ := FA.r1.f4
        simp only [List.drop_succ_cons, List.drop_zero, hF]
        clear hF hb HF8 HB8 hq1 hq2
        go_upto_region 25 with fail
        refine FA.cell 1 rfl ?_
        intro wb FB OB
        have HBB := hid (OB.down HBA.out (Nat.le_refl _))
        clear FA OB HBA c0 c1 c2 c3 z0 z1 z2 z3
        generalize hEE : leaveE q ch ⟨cameS ch ++ t.denom, t.amount, t.reader, t.reader⟩ = e8 at *
        generalize hQQ : leaveL q ch ⟨cameS ch ++ t.denom, t.amount, t.reader, t.reader⟩ = q8 at *
        have HC8 := hid (leave_any q ch ⟨cameS ch ++ t.denom, t.amount, t.reader, t.reader⟩ (.slice o5 ql c5) w5.heap.size wb (HP.out wb FB.b) HBB.out.size (HV5.out.below PuR.stays HBB.out) HQR.out.1 (by rw [HQL.out]; exact HQR.out.2) hta hch)
        rw [hEE, hQQ] at HC8
        clear hEE hQQ
        obtain ⟨k0, k1, k2, k3⟩ := FB.r1.k4
        go_wp2_with fail
        refine HC8.out.mono ?_
        rintro e w9 ⟨hb9, v9, rfl, hv9⟩
        have HB9 := hid (FB.go hb9).b
        have HV9 := hid hv9
        obtain ⟨o9, c9, rfl, -⟩ := hv9.shape
        clear hb9 hv9 k0 k1 k2 k3 FB HC8
        obtain ⟨rfl, hql⟩ := HLV.out
        have HS := hid (sameU_eq l (.slice oa m ca) (.slice o9 q8.length c9) N w9.heap.size w9 (Nat.le_trans hN HB9.out.size) (Nat.le_refl _) (HL.out.below PuR.stays (HB9.out.mono hN)) (by have := HV9.out; rw [hql] at this ⊢; exact this) (by have := HM.out; have := H60.out; omega))
        clear hql
        generalize q8.length = q8l at *
        go_wp2_with fail
        refine HS.out.mono ?_
        rintro e wa ⟨rfl, hba⟩
        have HBA := hid (HB9.out.trans (hba.mono HB9.out.size))
        clear hba
        go_wp2
        go_ret
        exact ⟨rfl, HBA.out⟩
    · have HBC := hid FC.b
      clear FC
      generalize q4.length = q4n at *
      go_wp2
      go_ret
      exact ⟨rfl, HBC.out⟩
  · have e3' : (e3 == 0) = false := by simpa using he3
    clear HLB he3 HV4
    generalize q3l.length = q3n at *
    have HC5 := hid (come_any l ch ot t _ N w4 (HP.out w4 F4.b) (Nat.le_trans hN F4.b.size) (HL.out.below PuR.stays (F4.b.mono hN)) HR.out (by rw [HM.out]; exact H60.out) hta hch hot htd)
    generalize hCE : comeE l ch ot t = e5 at *
    generalize hCL : comeL l ch ot t = q at *
    obtain ⟨k0, k1, k2, k3⟩ := F4.r0.k4
    go_wp2_with fail
    refine HC5.out.mono ?_
    rintro e w5 ⟨hb5, v5, rfl, hv5⟩
    have F5 := F4.go hb5
    have HV5 := hid hv5
    obtain ⟨o5, c5, rfl, -⟩ := hv5.shape
    clear hb5 hv5 k0 k1 k2 k3 F4 HC5
    by_cases he5 : e5 ≠ 0
    · have e5' : (e5 != 0) = true := by simpa using he5
      have HB5 := hid F5.b
      clear F5
      generalize q.length = ql at *
      go_wp2
      go_ret
      exact ⟨rfl, HB5.out⟩
    obtain rfl : e5 = 0 := by omega
    have HQR := hid (show RightU q ∧ q.length ≤ 60 by rw [← hCL]; exact come_right HR.out (by rw [HM.out]; exact H60.out) hta hCE)
    have HHM := hid (fun h1 h2 => home_leave (ch := ch) (other := ot) (t := t) HR.out (by rw [HM.out]; exact H60.out) (by omega) hta hCE h1 h2)
    have HAB := hid (fun h1 => abroad_leave (ch := ch) (other := ot) (t := t) HR.out (by rw [HM.out]; exact H60.out) hta hCE h1)
    rw [hCL] at HHM HAB
    generalize hql : q.length = ql at *
    have HQL := hid hql
    clear hql hCE hCL he5
    obtain ⟨k0, k1, k2, k3⟩ := F5.r0.k4
    go_upto_region 17 with fail
    refine F5.box ?_
    intro w6 F6 hs6 hb6
    have HB6 := hid hb6
    clear hs6 hb6 F5 k0 k1 k2 k3
    obtain ⟨k0, k1, k2, k3⟩ := F6.r0.k4
    obtain ⟨c0, c1, c2, c3, z0, z1, z2, z3⟩ := F6.r1.f4
    go_upto_region 18 with fail
    refine F6.cell 1 rfl ?_
    intro w7 F7 O7
    have HB7 := hid (O7.down HB6.out (Nat.le_refl _))
    clear F6 O7 HB6 k0 k1 k2 k3 c0 c1 c2 c3 z0 z1 z2 z3
    obtain ⟨k0, k1, k2, k3⟩ := F7.r0.k4
    go_wp2_with fail
    refine (came_any t.denom ot hot w7).mono ?_
    rintro e w8 ⟨rfl, hb8⟩
    have F8 := F7.go hb8
    have HB8 := hid (HB7.out.trans (hb8.mono HB7.out.size))
    clear hb8 k0 k1 k2 k3 F7 HB7
    by_cases hco : cameB t.denom ot = true
    · simp only [hco, if_true]
      obtain ⟨c0, c1, c2, c3, z0, z1, z2, z3⟩ := F8.r1.f4
      go_upto_region 21 with fail
      refine F8.cell 1 rfl ?_
      intro wa FA OA
      have HBA := hid (OA.down HB8.out (Nat.le_refl _))
      clear F8 OA HB8 c0 c1 c2 c3 z0 z1 z2 z3
      go_wp2_with fail
      refine (came_any (cutS t.denom ot) ch hch wa).mono ?_
      rintro e wb ⟨rfl, hbb⟩
      have FB := FA.go hbb
      have HBB := hid (HBA.out.trans (hbb.mono HBA.out.size))
      clear hbb FA HBA
      by_cases hc2 : cameB (cutS t.denom ot) ch = true
      · have HBZ := hid FB.b
        clear FB
        simp only [hc2, if_true]
        go_wp2
        go_ret
        exact ⟨rfl, HBZ.out⟩
      have hc2' : cameB (cutS t.denom ot) ch = false := by simpa using hc2
      have HLV := hid (HHM.out hco hc2')
      simp only [hc2', Bool.false_eq_true, if_false]
      clear hc2 hc2' hco HHM HAB
      go_upto_region 25 with fail
      generalize hEE : leaveE q ch ⟨cutS t.denom ot, t.amount, t.reader, t.reader⟩ = e8 at *
      generalize hQQ : leaveL q ch ⟨cutS t.denom ot, t.amount, t.reader, t.reader⟩ = q8 at *
      have HC8 := hid (leave_any q ch ⟨cutS t.denom ot, t.amount, t.reader, t.reader⟩ (.slice o5 ql c5) w5.heap.size wb (HP.out wb FB.b) HBB.out.size (HV5.out.below PuR.stays HBB.out) HQR.out.1 (by rw [HQL.out]; exact HQR.out.2) hta hch)
      rw [hEE, hQQ] at HC8
      clear hEE hQQ
      obtain ⟨k0, k1, k2, k3⟩ := FB.r1.k4
      go_wp2_with fail
      refine HC8.out.mono ?_
      rintro e w9 ⟨hb9, v9, rfl, hv9⟩
      have HB9 := hid (FB.go hb9).b
      have HV9 := hid hv9
      obtain ⟨o9, c9, rfl, -⟩ := hv9.shape
      clear hb9 hv9 k0 k1 k2 k3 FB HC8
      rcases HLV.out with ⟨rfl, hql⟩ | rfl
      · have HS := hid (sameU_eq l (.slice oa m ca) (.slice o9 q8.length c9) N w9.heap.size w9 (Nat.le_trans hN HB9.out.size) (Nat.le_refl _) (HL.out.below PuR.stays (HB9.out.mono hN)) (by have := HV9.out; rw [hql] at this ⊢; exact this) (by have := HM.out; have := H60.out; omega))
        clear hql
        generalize q8.length = q8l at *
        go_wp2_with fail
        refine HS.out.mono ?_
        rintro e wa ⟨rfl, hba⟩
        have HBA := hid (HB9.out.trans (hba.mono HB9.out.size))
        clear hba
        go_wp2
        go_ret
        exact ⟨rfl, HBA.out⟩
      · generalize q8.length = q8l at *
        go_wp2
        go_ret
        exact ⟨rfl, HB9.out⟩
    · have hcf : cameB t.denom ot = false := by simpa using hco
      simp only [hcf, Bool.false_eq_true, if_false]
      have HLV := hid (HAB.out hcf)
      clear hco hcf HHM HAB
      have HF8 := hid F8
      clear F8
      have hq1 : ∀ W : World, (Op.stringOp .add (digS ch) ⟨#[47]⟩).run Tryd.prog W = .ok (.string (cameS ch)) W := fun W => run_string_add_sum W _ _ (by have := digS_size ch hch; show _ + 1 ≤ _; omega)
      have hq2 : ∀ W : World, (Op.stringOp .add (cameS ch) t.denom).run Tryd.prog W = .ok (.string (cameS ch ++ t.denom)) W := fun W => run_string_add_sum W _ _ (by have := cameS_size ch hch; omega)
      go_upto_region 24 with fail
      apply region_goT 7 (by kernel_rfl) (fun W hb => (HF8.out.go hb).r0.k4) (by kernel_rfl)
      · intro σ; simp [slotAll]; exact rfl
      apply RK.val rfl
      · intro σ W hb hc ⟨hd, hu⟩; simp [Fresh, Region.binds] at hd hu; go_simp; exact rfl
      apply RK.callV rfl
      · intro σ W hb hc ⟨hd, hu⟩; simp [Fresh, Region.binds] at hd hu; go_simp; exact ⟨rfl, rfl⟩
      · intro W hb _; exact rdig_any ch hch W
      iterate 5 (apply RK.val rfl; · intro σ W hb hc ⟨hd, hu⟩; simp [Fresh, Region.binds] at hd hu; go_simp; exact rfl)
      intro σ W hb _
      simp only [AllF, List.nil_append, List.cons_append, Nat.reduceAdd]
      intro hF
      have FA := HF8.out.go hb
      have HBA := hid (HB8.out.trans (hb.mono HB8.out.size))
      obtain ⟨c0, c1, c2, c3, z0, z1, z2, z3⟩ := FA.r1.f4
      simp only [List.drop_succ_cons, List.drop_zero, hF]
      clear hF hb HF8 HB8 hq1 hq2
      go_upto_region 25 with fail
      refine FA.cell 1 rfl ?_
      intro wb FB OB
      have HBB := hid (OB.down HBA.out (Nat.le_refl _))
      clear FA OB HBA c0 c1 c2 c3 z0 z1 z2 z3
      generalize hEE : leaveE q ch ⟨cameS ch ++ t.denom, t.amount, t.reader, t.reader⟩ = e8 at *
      generalize hQQ : leaveL q ch ⟨cameS ch ++ t.denom, t.amount, t.reader, t.reader⟩ = q8 at *
      have HC8 := hid (leave_any q ch ⟨cameS ch ++ t.denom, t.amount, t.reader, t.reader⟩ (.slice o5 ql c5) w5.heap.size wb (HP.out wb FB.b) HBB.out.size (HV5.out.below PuR.stays HBB.out) HQR.out.1 (by rw [HQL.out]; exact HQR.out.2) hta hch)
      rw [hEE, hQQ] at HC8
      clear hEE hQQ
      obtain ⟨k0, k1, k2, k3⟩ := FB.r1.k4
      go_wp2_with fail
      refine HC8.out.mono ?_
      rintro e w9 ⟨hb9, v9, rfl, hv9⟩
      have HB9 := hid (FB.go hb9).b
      have HV9 := hid hv9
      obtain ⟨o9, c9, rfl, -⟩ := hv9.shape
      clear hb9 hv9 k0 k1 k2 k3 FB HC8
      obtain ⟨rfl, hql⟩ := HLV.out
      have HS := hid (sameU_eq l (.slice oa m ca) (.slice o9 q8.length c9) N w9.heap.size w9 (Nat.le_trans hN HB9.out.size) (Nat.le_refl _) (HL.out.below PuR.stays (HB9.out.mono hN)) (by have := HV9.out; rw [hql] at this ⊢; exact this) (by have := HM.out; have := H60.out; omega))
      clear hql
      generalize q8.length = q8l at *
      go_wp2_with fail
      refine HS.out.mono ?_
      rintro e wa ⟨rfl, hba⟩
      have HBA := hid (HB9.out.trans (hba.mono HB9.out.size))
      clear hba
      go_wp2
      go_ret
      exact ⟨rfl, HBA.out⟩
end Go.Proofs.YtnoaohlajllngaaDoor
