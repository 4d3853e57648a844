/-
  ProofGood answers true of all pairs and every key, given what package book's Root and Get and package proof's functions answer; it turns nothing that was there.
-/
import Derived.Test.YtdlcjhigmdgbcaaDoorProofFace
import Derived.Test.YtdlcjhigmdgbcaaDoorBookTree
import Derived.Test.YtdlcjhigmdgbcaaDoorSameB
import Derived.Deep.QuietTactic
import Derived.BigQuiet
namespace Go.Proofs.YtdlcjhigmdgbcaaDoor
open Go.RowKit

theorem gapAt_fits (l : List Pr) (i : Nat) (hf : Fits l) (hn : l.length ≤ 200) : (gapAt l i).fits := by
  unfold gapAt Gp.fits
  constructor
  · simp only
    split
    · split
      · rename_i p hp
        exact proofAt_fits l _ p hp hf hn
      · exact prf_none_fits
    · exact prf_none_fits
  · simp only
    split
    · rename_i p hp
      exact proofAt_fits l _ p hp hf hn
    · exact prf_none_fits
theorem absent_of_at (l : List Pr) (i : Nat) (k : List (BitVec 8)) (h : At k l i false) (hs : Sorted l) (hf : Fits l) (hn : l.length ≤ 200) : absentB (rootD l) k (gapAt l i) := by
  refine absent_at l i k h.1 h.2.1 (fun j p hj hp => ?_) hf hn
  have h1 := h.2.2.1 j p hj hp
  have h2 : p.key ≠ k := by
    by_cases e : j = i
    · subst e
      exact h.not_found p hp
    · exact h.others hs j p hp e
  exact lessB_total p.key k h2 h1
set_option maxRecDepth 100000 in
set_option maxHeartbeats 4000000 in
theorem proofGood_any (HALC : AliveC 9) (HRC : RootC 10) (HGC : GetC 11) (HWC : ShowC 12) (HPC : ShowGapC 13) (HSC : ShownC 14) (HNC : AbsentC 16)
    (l : List Pr) (k : List (BitVec 8)) (sv kv : Value) (N : Nat) (w : World) (hK : tableAt w) (hN : N ≤ w.heap.size) (hl : Pairs w N sv l) (hk : Bytes w N kv k) (hlen : l.length < 2305843009213693952) (hfl : ∀ p ∈ l, p.fits) (hkl : k.length ≤ 140737488351232) :
    Calls Tryd.prog 3 #[sv, kv] w fun e w' => e = .returned (.bool true) ∧ Below w.heap.size w w' := by
  obtain ⟨oa, ca, rfl, hca⟩ := hl.shape
  obtain ⟨ob, cb, rfl, hcb⟩ := hk.shape
  have HAL := hid (HALC w hK)
  have HR := hid (show RootC 10 from HRC)
  have HG := hid (show GetC 11 from HGC)
  have HW := hid (show ShowC 12 from HWC)
  have HP := hid (show ShowGapC 13 from HPC)
  have HS := hid (show ShownC 14 from HSC)
  have HNA := hid (show AbsentC 16 from HNC)
  have HK := hid hK
  have HL := hid hl
  have HKB := hid hk
  have HFL := hid hfl
  have HKL := hid hkl
  clear hK hl hk hfl HALC HRC HSC HGC HWC HPC HNC hkl
  go_enter Tryd.func3, Tryd.ntmps3
  go_wp2_with fail
  refine HAL.out.mono ?_
  rintro e w1 ⟨rfl, hb1⟩
  have hsz1 := hb1.size
  have HB1 := hid hb1
  have HC1 := hid (HR.out l (.slice oa l.length ca) N w1 (HK.out.past HB1.out) (HL.out.below (HB1.out.mono hN)) (by omega) hlen HFL.out)
  obtain ⟨wc, hwc⟩ : ∃ wc, (wrongL l).1 = wc := ⟨_, rfl⟩
  obtain ⟨wi, hwi⟩ : ∃ wi, (wrongL l).2 = wi := ⟨_, rfl⟩
  rw [hwc, hwi] at HC1
  unfold faultV at HC1
  have HWCE := hid hwc
  clear hb1 HAL hwi hwc
  go_wp2_with fail
  refine HC1.out.mono ?_
  rintro e w2 ⟨hb2, o4, n4, c4, rfl, hx2⟩
  have hsz2 := hb2.size
  obtain ⟨w3, hw3⟩ : ∃ w3, w2.alloc (.cells #[.int .i64 wc, .int .i64 (wi : Int)] 27) = w3 := ⟨_, rfl⟩
  have hsz3 : w3.heap.size = w2.heap.size + 1 := by rw [← hw3]; simp
  have hb23 : Below w2.heap.size w2 w3 := by rw [← hw3]; exact (Below.refl _ _).alloc (Nat.le_refl _) _
  have HB3 := hid (HB1.out.trans ((hb2.trans (hb23.mono (by omega))).mono (by omega)))
  have HX3 := hid (hx2.below hb23)
  have f0 : w3.cell? ⟨w2.heap.size, 0, none⟩ = some (.int .i64 wc) := by rw [← hw3]; exact (Row.new w2 27 [.int .i64 wc, .int .i64 (wi : Int)]).cell 0
  clear hb2 hb23 hx2 HC1
  by_cases hwc0 : wc = 0
  · subst hwc0
    have HBK := hid (wrongL_sorted l HWCE.out)
    have HRT := hid (rout_root l HWCE.out)
    rw [HRT.out] at HX3
    have HC3 := hid (HG.out l k (.slice oa l.length ca) (.slice ob k.length cb) N w3 (by omega) (HL.out.below (HB3.out.mono hN)) (HKB.out.below (HB3.out.mono hN)) HBK.out.1 HBK.out.2.1 HBK.out.2.2 HKL.out)
    go_wp2_with fail
    clear hw3
    refine HC3.out.mono ?_
    rintro e w4 ⟨hb4, o5, n5, c5, rfl, hv4⟩
    have hsz4 := hb4.size
    have HB4 := hid (HB3.out.trans (hb4.mono (by omega)))
    have HX4 := hid (HX3.out.below (hb4.mono (by omega)))
    have HV4 := hid hv4
    have HSW := hid (HW.out l k (.slice oa l.length ca) (.slice ob k.length cb) N w4 (HK.out.past HB4.out) (by omega) (HL.out.below (HB4.out.mono hN)) (HKB.out.below (HB4.out.mono hN)) hlen HFL.out HKL.out)
    clear hb4 hv4 f0 HC3
    go_wp2_with fail
    refine HSW.out.mono ?_
    rintro e w5 ⟨hb5, k5, v5, p5, c, p, rfl, hpk, hpv, hpp, hsb⟩
    have hsz5 := hb5.size
    obtain ⟨o6, c6, rfl, _⟩ := hpk.shape
    obtain ⟨o7, c7, rfl, _⟩ := hpv.shape
    obtain ⟨o8, c8, rfl, _⟩ := hpp.shape
    obtain ⟨w6, hw6⟩ : ∃ w6, w5.alloc (.cells #[.int .i64 p.index, .int .i64 p.size, .slice o6 p.key.length c6, .slice o7 p.val.length c7, .slice o8 p.path.length c8] 34) = w6 := ⟨_, rfl⟩
    have hsz6 : w6.heap.size = w5.heap.size + 1 := by rw [← hw6]; simp
    have hb56 : Below w5.heap.size w5 w6 := by rw [← hw6]; exact (Below.refl _ _).alloc (Nat.le_refl _) _
    have hb46 : Below w4.heap.size w4 w6 := hb5.trans (hb56.mono (by omega))
    have HB6 := hid (HB4.out.trans (hb46.mono (by omega)))
    have HX6 := hid (HX4.out.below (hb46.mono (by omega)))
    have HV6 := hid (HV4.out.below hb46)
    have HP6 := hid (show Row w6 w5.heap.size 34 [.int .i64 p.index, .int .i64 p.size, .slice o6 p.key.length c6, .slice o7 p.val.length c7, .slice o8 p.path.length c8] by rw [← hw6]; exact Row.new _ _ _)
    have HPK := hid (hpk.below hb56)
    have HPV := hid (hpv.below hb56)
    have HPP := hid (hpp.below hb56)
    have HSB := hid hsb
    have HSG := hid (HP.out l k (.slice oa l.length ca) (.slice ob k.length cb) N w6 (HK.out.past HB6.out) (by omega) (HL.out.below (HB6.out.mono hN)) (HKB.out.below (HB6.out.mono hN)) hlen HFL.out HKL.out)
    clear hb5 hb56 hb46 hpk hpv hpp hsb HSW
    go_wp2_with fail
    clear hw6
    refine HSG.out.mono ?_
    rintro e w7 ⟨hb7, vg, c', g, rfl, hgv, hgb⟩
    have hsz7 := hb7.size
    obtain ⟨k1, v1, p1, k2, v2, p2, rfl, hg1, hg2, hg3, hg4, hg5, hg6⟩ := hgv
    obtain ⟨q1, d1, rfl, _⟩ := hg1.shape
    obtain ⟨q2, d2, rfl, _⟩ := hg2.shape
    obtain ⟨q3, d3, rfl, _⟩ := hg3.shape
    obtain ⟨q4, d4, rfl, _⟩ := hg4.shape
    obtain ⟨q5, d5, rfl, _⟩ := hg5.shape
    obtain ⟨q6, d6, rfl, _⟩ := hg6.shape
    obtain ⟨gc, hgc⟩ : ∃ gc : List Value, gc = [.bool g.hasL, .bool g.hasR, .int .i64 g.left.index, .int .i64 g.left.size, .slice q1 g.left.key.length d1, .slice q2 g.left.val.length d2, .slice q3 g.left.path.length d3, .int .i64 g.right.index, .int .i64 g.right.size, .slice q4 g.right.key.length d4, .slice q5 g.right.val.length d5, .slice q6 g.right.path.length d6] := ⟨_, rfl⟩
    obtain ⟨w8, hw8⟩ : ∃ w8, w7.alloc (.cells #[.bool g.hasL, .bool g.hasR, .int .i64 g.left.index, .int .i64 g.left.size, .slice q1 g.left.key.length d1, .slice q2 g.left.val.length d2, .slice q3 g.left.path.length d3, .int .i64 g.right.index, .int .i64 g.right.size, .slice q4 g.right.key.length d4, .slice q5 g.right.val.length d5, .slice q6 g.right.path.length d6] 38) = w8 := ⟨_, rfl⟩
    have hsz8 : w8.heap.size = w7.heap.size + 1 := by rw [← hw8]; simp
    have hb78 : Below w7.heap.size w7 w8 := by rw [← hw8]; exact (Below.refl _ _).alloc (Nat.le_refl _) _
    have hb68 : Below w6.heap.size w6 w8 := hb7.trans (hb78.mono (by omega))
    have HB8 := hid (HB6.out.trans (hb68.mono (by omega)))
    have HX8 := hid (HX6.out.below (hb68.mono (by omega)))
    have HV8 := hid (HV6.out.below (hb68.mono (by omega)))
    have HP8 := hid (HP6.out.below hb68 (by omega))
    have HPK8 := hid (HPK.out.below (hb68.mono (by omega)))
    have HPV8 := hid (HPV.out.below (hb68.mono (by omega)))
    have HPP8 := hid (HPP.out.below (hb68.mono (by omega)))
    have HG8 := hid (show Row w8 w7.heap.size 38 gc by rw [← hw8, hgc]; exact Row.new _ _ _)
    have HGV8 := hid (show GpV w8 w7.heap.size (.agg #[.bool g.hasL, .bool g.hasR, .int .i64 g.left.index, .int .i64 g.left.size, .slice q1 g.left.key.length d1, .slice q2 g.left.val.length d2, .slice q3 g.left.path.length d3, .int .i64 g.right.index, .int .i64 g.right.size, .slice q4 g.right.key.length d4, .slice q5 g.right.val.length d5, .slice q6 g.right.path.length d6]) g from
      ⟨_, _, _, _, _, _, rfl, hg1.below hb78, hg2.below hb78, hg3.below hb78, hg4.below hb78, hg5.below hb78, hg6.below hb78⟩)
    have HGB := hid hgb
    have r0 := HP8.out.cell 0
    have r1 := HP8.out.cell 1
    have r2 := HP8.out.cell 2
    have r3 := HP8.out.cell 3
    have r4 := HP8.out.cell 4
    clear hb7 hb78 hb68 hg1 hg2 hg3 hg4 hg5 hg6 hgb HSG
    cases hgt : (getL k l) with
    | some x =>
      obtain ⟨i, q, hq, hpe, hqk, hqv⟩ : ∃ i q, l[i]? = some q ∧ p = proofAt l i q ∧ q.key = k ∧ q.val = x := by
        rcases HSB.out with ⟨h, _⟩ | ⟨_, i, ⟨h, _⟩ | ⟨h1, _, q, h2, h3⟩⟩
        · exact absurd HWCE.out h
        · have := h.get_not HBK.out.1
          rw [hgt] at this
          cases this
        · obtain ⟨q', hq', hk'⟩ := h1.found
          rw [h2] at hq'
          obtain rfl : q = q' := by simpa using hq'
          obtain ⟨q2, hq2, hv2⟩ := h1.get_found HBK.out.1
          rw [h2] at hq2
          obtain rfl : q = q2 := by simpa using hq2
          rw [hgt] at hv2
          exact ⟨i, q, h2, h3, hk', by simpa using hv2.symm⟩
      have hc0 : c = 0 := by
        rcases HSB.out with ⟨h, _⟩ | ⟨_, i, ⟨h, _⟩ | ⟨_, h, _⟩⟩
        · exact absurd HWCE.out h
        · have := h.get_not HBK.out.1
          rw [hgt] at this
          cases this
        · exact h
      have hc7 : c' = 7 := by
        rcases HGB.out with ⟨h, _⟩ | ⟨_, i, ⟨_, h, _⟩ | ⟨h, _⟩⟩
        · exact absurd HWCE.out h
        · exact h
        · have := h.get_not HBK.out.1
          rw [hgt] at this
          cases this
      subst hc0
      subst hc7
      rw [hgt] at HV8
      have HPF := hid (show p.fits by rw [hpe]; exact proofAt_fits l i q hq HBK.out.2.1 HBK.out.2.2)
      have HSHN := hid (show shownB (rootD l) p by rw [hpe]; exact shown_at l i q hq HBK.out.2.1 HBK.out.2.2)
      have HPKV := hid (show p.key = k ∧ p.val = x by rw [hpe]; exact ⟨hqk, hqv⟩)
      have HSH := hid (HS.out (rootD l) p (.slice o4 n4 c4) (.agg #[.int .i64 p.index, .int .i64 p.size, .slice o6 p.key.length c6, .slice o7 p.val.length c7, .slice o8 p.path.length c8]) w5.heap.size w8 (HK.out.past HB8.out) (by omega) (HX8.out.mono (by omega)) ⟨_, _, _, rfl, HPK8.out, HPV8.out, HPP8.out⟩ HPF.out (by rw [rootD_len]; decide))
      clear hq hpe hqk hqv hgc
      clear hgt
      go_wp2_with fail
      clear hw8
      refine HSH.out.mono ?_
      rintro e w9 ⟨hb9, bb, rfl, hbb⟩
      obtain rfl : bb = true := hbb.2 HSHN.out
      have hsz9 := hb9.size
      have HB9 := hid (HB8.out.trans (hb9.mono (by omega)))
      have HP9 := hid (HP8.out.below hb9 (by omega))
      have HPK9 := hid (HPK8.out.below (hb9.mono (by omega)))
      have HPV9 := hid (HPV8.out.below (hb9.mono (by omega)))
      have HV9 := hid (HV8.out.below (hb9.mono (by omega)))
      have HS9 := hid (sameB_any p.key k (.slice o6 p.key.length c6) (.slice ob k.length cb) w5.heap.size N w9 HPK9.out (HKB.out.below (HB9.out.mono hN)) (by have := HPF.out.1; omega) (by have := HKL.out; omega))
      rw [decide_eq_true HPKV.out.1] at HS9
      clear hb9 hbb r0 r1 r2 r3 r4 HSH
      have r2 := HP9.out.cell 2
      have r3 := HP9.out.cell 3
      go_wp2_with fail
      refine HS9.out.mono ?_
      rintro e w10 ⟨rfl, q10, hw10⟩
      have hb10 : Below w9.heap.size w9 w10 := by rw [hw10]; exact drewN_belowC _ _ _
      have hsz10 := hb10.size
      have HB10 := hid (HB9.out.trans (hb10.mono (by omega)))
      have HP10 := hid (HP9.out.below hb10 (by omega))
      have HS10 := hid (sameB_any p.val x (.slice o7 p.val.length c7) (.slice o5 n5 c5) w5.heap.size w4.heap.size w10 (HPV9.out.below (hb10.mono (by omega))) (HV9.out.below (hb10.mono (by omega))) (by have := HPF.out.2.1; omega) (by have := HPF.out.2.1; rw [← HPKV.out.2]; omega))
      rw [decide_eq_true HPKV.out.2] at HS10
      clear hb10 hw10 r2 r3 HS9
      have r3 := HP10.out.cell 3
      go_wp2_with fail
      refine HS10.out.mono ?_
      rintro e w11 ⟨rfl, q11, rfl⟩
      go_wp2
      go_ret
      exact ⟨rfl, HB10.out.trans (drewN_belowC _ _ _)⟩
    | none =>
      have hc6 : c = 6 := by
        rcases HSB.out with ⟨h, _⟩ | ⟨_, i, ⟨_, h, _⟩ | ⟨h, _⟩⟩
        · exact absurd HWCE.out h
        · exact h
        · obtain ⟨_, _, hv⟩ := h.get_found HBK.out.1
          rw [hgt] at hv
          cases hv
      obtain ⟨i, hc0, hat, hge⟩ : ∃ i, c' = 0 ∧ At k l i false ∧ g = gapAt l i := by
        rcases HGB.out with ⟨h, _⟩ | ⟨_, i, ⟨h, _⟩ | ⟨h1, h2, h3⟩⟩
        · exact absurd HWCE.out h
        · obtain ⟨_, _, hv⟩ := h.get_found HBK.out.1
          rw [hgt] at hv
          cases hv
        · exact ⟨i, h2, h1, h3⟩
      subst hc6
      subst hc0
      have HABS := hid (show absentB (rootD l) k g by rw [hge]; exact absent_of_at l i k hat HBK.out.1 HBK.out.2.1 HBK.out.2.2)
      have HGF := hid (show g.fits by rw [hge]; exact gapAt_fits l i HBK.out.2.1 HBK.out.2.2)
      have HAB := hid (HNA.out (rootD l) k g (.slice o4 n4 c4) (.slice ob k.length cb) _ w7.heap.size w8 (HK.out.past HB8.out) (by omega) (HX8.out.mono (by omega)) ((HKB.out.below (HB8.out.mono hN)).mono (by omega)) HGV8.out HGF.out (by rw [rootD_len]; decide) HKL.out)
      rw [hgc] at HG8
      have s0 := HG8.out.cell 0
      have s1 := HG8.out.cell 1
      have s2 := HG8.out.cell 2
      have s3 := HG8.out.cell 3
      have s4 := HG8.out.cell 4
      have s5 := HG8.out.cell 5
      have s6 := HG8.out.cell 6
      have s7 := HG8.out.cell 7
      have s8 := HG8.out.cell 8
      have s9 := HG8.out.cell 9
      have s10 := HG8.out.cell 10
      have s11 := HG8.out.cell 11
      clear hat hge hgt hgc r0 r1 r2 r3 r4
      by_cases hk60 : 60 < k.length
      · have e3 : decide ((60 : Int) < (k.length : Int)) = true := by simp; omega
        go_wp2
        go_ret
        exact ⟨rfl, HB8.out⟩
      · have e3 : decide ((60 : Int) < (k.length : Int)) = false := by simp; omega
        go_wp2_with fail
        clear hw8
        refine HAB.out.mono ?_
        rintro e w9 ⟨hb9, bb, rfl, hbb⟩
        obtain rfl : bb = true := hbb.2 HABS.out
        have HB9 := hid (HB8.out.trans (hb9.mono (by omega)))
        clear hb9 hbb
        go_wp2
        go_ret
        exact ⟨rfl, HB9.out⟩
  · have e1 : (wc != 0) = true := by simpa using hwc0
    go_wp2
    go_ret
    exact ⟨rfl, HB3.out⟩
end Go.Proofs.YtdlcjhigmdgbcaaDoor
