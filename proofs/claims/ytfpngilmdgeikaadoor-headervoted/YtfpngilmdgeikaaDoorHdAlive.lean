/-
  What the laws of headers ask first: alive answers true.
-/
import Derived.Test.YtfpngilmdgeikaaDoorHdAliveR
namespace Go.Proofs.YtfpngilmdgeikaaDoor
open Go.RowKit

theorem three_good : checkN (signS (blockH (fourV 1 4)) (fourV 1 4) [[0], [1], [2]]) = 0 := by rw [signS_ok block_together]; exact block_three
theorem two_short : checkN (signS (blockH (fourV 1 4)) (fourV 1 4) [[0], [1]]) = 10 := by rw [signS_ok block_together]; exact block_two
set_option maxRecDepth 100000 in
set_option maxHeartbeats 4000000 in
theorem aliveC6 : AliveC6 29 := by
  intro w htab
  have HTAB := hid htab
  clear htab
  go_enter Tryd.func29, Tryd.ntmps29
  go_wp2_with fail
  refine (four_any w).mono ?_
  rintro e w1 ⟨lv, sv, rfl, hl, hs, hb1⟩
  have HL := hid hl
  have HB1 := hid hb1
  have HOK := hid (fourV_ok 4)
  have hlen := fourV_length 1 4
  have HTG := hid block_together
  obtain ⟨os, cs, rfl, _⟩ := hs.shape
  have e3 : (((bsV 4).map fun b => [b]).take 3) = [[0], [1], [2]] := rfl
  have e2 : (((bsV 4).map fun b => [b]).take 2) = [[0], [1]] := rfl
  obtain ⟨v3, hrun3, hp3⟩ := lists_to hs .i64 3 (by decide) (by decide)
  obtain ⟨v2, hrun2, hp2⟩ := lists_to hs .i64 2 (by decide) (by decide)
  rw [e3] at hp3
  rw [e2] at hp2
  have HR3 := hid hrun3
  have HR2 := hid hrun2
  have HP3 := hid hp3
  have HP2 := hid hp2
  have C3 := hid three_good
  have C2 := hid two_short
  have F3 := hid (signS_fitsA (blockH (fourV 1 4)) (fourV 1 4) [[0], [1], [2]] (blockH_fits _) HOK.out)
  have F2 := hid (signS_fitsA (blockH (fourV 1 4)) (fourV 1 4) [[0], [1]] (blockH_fits _) HOK.out)
  have hl10 : (fourV 1 4).length ≤ 10 := by omega
  clear hl hb1 hs hrun3 hrun2 hp3 hp2 e3 e2 hlen
  generalize fourV 1 4 = V at *
  go_wp2_with fail
  refine aliveRegion2 V [[0], [1], [2]] lv _ v3 (hid (HTAB.out.below HB1.out HTAB.out.lt)) HL HP3 HR3 hl10 HOK (by decide) (hid (by simp)) HTG _ (hid ?_)
  intro σ w2 s hs hb2 hrow h11
  obtain ⟨g, rv, vv, nv, lw, tv, h9, hr, hsg⟩ := hrow
  have HS := hid hs
  have HR := hid hr
  have HSG := hid hsg
  have HB2 := hid (HB1.out.trans (hb2.mono HB1.out.size))
  rw [h9, h11]
  have HL2 := hid ((HL.out.below hb2).mono hb2.size)
  have HP := hid ((HP2.out.below hb2).up hb2.size)
  clear hs hr hsg hb2 h9 h11
  go_wp2_with fail
  refine aliveRegion3 V [[0], [1]] lv _ v2 (hid (HTAB.out.below HB2.out HTAB.out.lt)) HL2 HP HR2 hl10 HOK (by decide) (hid (by simp)) HTG _ (hid ?_)
  intro σ' w3 t ht hb3 hrow h11
  obtain ⟨g', rv', vv', nv', lw', tv', h9, hr', hsg'⟩ := hrow
  have HT := hid ht
  have HB3 := hid (HB2.out.trans (hb3.mono HB2.out.size))
  have HRs := hid (HR.out.below hb3 HR.out.lt)
  have HSGs := hid ((HSG.out.below hb3).mono hb3.size)
  have HR' := hid hr'
  have HSG' := hid hsg'
  have HCA := hid (checkC s _ w3.heap.size w3 (HTAB.out.below HB3.out HTAB.out.lt) (Nat.le_refl _) HSGs.out (by rw [HS.out]; exact F3.out))
  rw [show checkN s = 0 by rw [HS.out]; exact C3.out] at HCA
  obtain ⟨k0, k1, k2, k3, k4, k5, k6, k7⟩ := HRs.out.eight
  rw [h9, h11]
  clear ht hb3 hr' hsg' h9 h11
  go_wp2_with fail
  refine HCA.out.mono ?_
  rintro e w4 ⟨rfl, hb4⟩
  have HB4 := hid (HB3.out.trans (hb4.mono HB3.out.size))
  have HR4 := hid (HR'.out.below hb4 HR'.out.lt)
  have HCB := hid (checkC t _ w4.heap.size w4 (HTAB.out.below HB4.out HTAB.out.lt) (Nat.le_refl _) ((HSG'.out.below hb4).mono hb4.size) (by rw [HT.out]; exact F2.out))
  rw [show checkN t = 10 by rw [HT.out]; exact C2.out] at HCB
  clear hb4 HCA k0 k1 k2 k3 k4 k5 k6 k7
  obtain ⟨k0, k1, k2, k3, k4, k5, k6, k7⟩ := HR4.out.eight
  go_wp2_with fail
  refine HCB.out.mono ?_
  rintro e w5 ⟨rfl, hb5⟩
  have HB5 := hid (HB4.out.trans (hb5.mono HB4.out.size))
  clear hb5
  go_wp2
  go_ret
  exact ⟨rfl, HB5.out⟩
end Go.Proofs.YtfpngilmdgeikaaDoor
