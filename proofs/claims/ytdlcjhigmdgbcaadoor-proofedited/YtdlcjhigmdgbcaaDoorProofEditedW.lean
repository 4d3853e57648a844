/-
  ProofEdited answers true of all pairs, every key and every value, given what package book's Root and package proof's functions answer; it turns nothing that was there.
-/
import Derived.Test.YtdlcjhigmdgbcaaDoorProofFace
import Derived.Test.YtdlcjhigmdgbcaaDoorBookTree
import Derived.Test.YtdlcjhigmdgbcaaDoorSameB
import Derived.Deep.QuietTactic
import Derived.BigQuiet
namespace Go.Proofs.YtdlcjhigmdgbcaaDoor
open Go.RowKit

set_option maxRecDepth 100000 in
set_option maxHeartbeats 4000000 in
theorem proofEdited_any (HALC : AliveC 9) (HRC : RootC 10) (HWC : ShowC 12) (HSC : ShownC 14) (HCC : ClashC 17)
    (l : List Pr) (k u : List (BitVec 8)) (sv kv uv : Value) (N : Nat) (w : World) (hK : tableAt w) (hN : N ≤ w.heap.size) (hl : Pairs w N sv l) (hk : Bytes w N kv k) (hu : Bytes w N uv u) (hlen : l.length < 2305843009213693952) (hfl : ∀ p ∈ l, p.fits) (hkl : k.length ≤ 140737488351232) (hul : u.length ≤ 140737488351232) :
    Calls Tryd.prog 7 #[sv, kv, uv] w fun e w' => e = .returned (.bool true) ∧ Below w.heap.size w w' := by
  obtain ⟨oa, ca, rfl, hca⟩ := hl.shape
  obtain ⟨ob, cb, rfl, hcb⟩ := hk.shape
  obtain ⟨ou, cu, rfl, hcu⟩ := hu.shape
  have HAL := hid (HALC w hK)
  have HR := hid (show RootC 10 from HRC)
  have HW := hid (show ShowC 12 from HWC)
  have HS := hid (show ShownC 14 from HSC)
  have HC := hid (show ClashC 17 from HCC)
  have HK := hid hK
  have HL := hid hl
  have HKB := hid hk
  have HUB := hid hu
  have HFL := hid hfl
  have HKL := hid hkl
  have HUL := hid hul
  clear hK hl hk hu hfl HALC HRC HSC HCC HWC hkl hul
  go_enter Tryd.func7, Tryd.ntmps7
  go_wp2_with fail
  refine HAL.out.mono ?_
  rintro e w1 ⟨rfl, hb1⟩
  have hsz1 := hb1.size
  have HB1 := hid hb1
  have HC1 := hid (HR.out l (.slice oa l.length ca) N w1 (HK.out.past HB1.out) (HL.out.below (HB1.out.mono hN)) (by omega) hlen HFL.out)
  obtain ⟨wc, hwc⟩ : ∃ wc, (wrongL l).1 = wc := ⟨_, rfl⟩
  obtain ⟨wi, hwi⟩ : ∃ wi, (wrongL l).2 = wi := ⟨_, rfl⟩
  rw [hwc, hwi] at HC1
  unfold faultV at HC1
  have HWCE := hid hwc
  clear hb1 HAL hwi hwc
  go_wp2_with fail
  refine HC1.out.mono ?_
  rintro e w2 ⟨hb2, o4, n4, c4, rfl, hx2⟩
  have hsz2 := hb2.size
  obtain ⟨w3, hw3⟩ : ∃ w3, w2.alloc (.cells #[.int .i64 wc, .int .i64 (wi : Int)] 27) = w3 := ⟨_, rfl⟩
  have hsz3 : w3.heap.size = w2.heap.size + 1 := by rw [← hw3]; simp
  have hb23 : Below w2.heap.size w2 w3 := by rw [← hw3]; exact (Below.refl _ _).alloc (Nat.le_refl _) _
  have HB3 := hid (HB1.out.trans ((hb2.trans (hb23.mono (by omega))).mono (by omega)))
  have HF3 := hid (show Row w3 w2.heap.size 27 [.int .i64 wc, .int .i64 (wi : Int)] by rw [← hw3]; exact Row.new _ _ _)
  have HX3 := hid (hx2.below hb23)
  have HSW := hid (HW.out l k (.slice oa l.length ca) (.slice ob k.length cb) N w3 (HK.out.past HB3.out) (by omega) (HL.out.below (HB3.out.mono hN)) (HKB.out.below (HB3.out.mono hN)) hlen HFL.out HKL.out)
  clear hb2 hb23 hx2 HC1
  go_wp2_with fail
  clear hw3
  refine HSW.out.mono ?_
  rintro e w4 ⟨hb4, k4, v4, p4, c, p, rfl, hpk, hpv, hpp, hsb⟩
  have hsz4 := hb4.size
  obtain ⟨o5, c5, rfl, _⟩ := hpk.shape
  obtain ⟨o6, c6, rfl, _⟩ := hpv.shape
  obtain ⟨o7, c7, rfl, _⟩ := hpp.shape
  obtain ⟨w5, hw5⟩ : ∃ w5, w4.alloc (.cells #[.int .i64 p.index, .int .i64 p.size, .slice o5 p.key.length c5, .slice o6 p.val.length c6, .slice o7 p.path.length c7] 34) = w5 := ⟨_, rfl⟩
  have hsz5 : w5.heap.size = w4.heap.size + 1 := by rw [← hw5]; simp
  have hb45 : Below w4.heap.size w4 w5 := by rw [← hw5]; exact (Below.refl _ _).alloc (Nat.le_refl _) _
  have HB5 := hid (HB3.out.trans ((hb4.trans (hb45.mono (by omega))).mono (by omega)))
  have HF5 := hid (HF3.out.below (hb4.trans (hb45.mono (by omega))) (by omega))
  have HX5 := hid (HX3.out.below ((hb4.trans (hb45.mono (by omega))).mono (by omega)))
  have HP5 := hid (show Row w5 w4.heap.size 34 [.int .i64 p.index, .int .i64 p.size, .slice o5 p.key.length c5, .slice o6 p.val.length c6, .slice o7 p.path.length c7] by rw [← hw5]; exact Row.new _ _ _)
  have HPK := hid (hpk.below hb45)
  have HPV := hid (hpv.below hb45)
  have HPP := hid (hpp.below hb45)
  have HSB := hid hsb
  have f0 := HF5.out.cell 0
  have q3 := HP5.out.cell 3
  clear hb4 hb45 hpk hpv hpp hsb HSW
  by_cases hwc0 : wc = 0
  · subst hwc0
    by_cases hc0 : c = 0
    · subst hc0
      obtain ⟨i, q, hat, hq, hpe⟩ : ∃ i q, At k l i true ∧ l[i]? = some q ∧ p = proofAt l i q := by
        rcases HSB.out with ⟨h, _⟩ | ⟨_, i, ⟨_, h, _⟩ | ⟨h1, _, q, h2, h3⟩⟩
        · exact absurd HWCE.out h
        · exact absurd h (by decide)
        · exact ⟨i, q, h1, h2, h3⟩
      have HBK := hid (wrongL_sorted l HWCE.out)
      have HPF := hid (show p.fits by rw [hpe]; exact proofAt_fits l i q hq HBK.out.2.1 HBK.out.2.2)
      have HS5 := hid (sameB_any p.val u (.slice o6 p.val.length c6) (.slice ou u.length cu) w4.heap.size N w5 HPV.out (HUB.out.below (HB5.out.mono hN)) (by have := HPF.out.2.1; omega) (by have := HUL.out; omega))
      have HRT := hid (rout_root l HWCE.out)
      have HQV := hid (show p.val = q.val ∧ p.index = (i : Int) ∧ l[i]? = some q by rw [hpe]; exact ⟨rfl, rfl, hq⟩)
      clear hat hq hpe
      by_cases hpu : p.val = u
      · rw [decide_eq_true hpu] at HS5
        clear hpu
        go_wp2_with fail
        refine HS5.out.mono ?_
        rintro e w6 ⟨rfl, q6, rfl⟩
        go_wp2
        go_ret
        exact ⟨rfl, HB5.out.trans (drewN_belowC _ _ _)⟩
      · rw [decide_eq_false hpu] at HS5
        have HNE := hid hpu
        clear hpu
        go_wp2_with fail
        clear hw5
        refine HS5.out.mono ?_
        rintro e w6 ⟨rfl, q6, hw6⟩
        have hb6 : Below w5.heap.size w5 w6 := by rw [hw6]; exact drewN_belowC _ _ _
        have hsz6 : w6.heap.size = w5.heap.size := by rw [hw6]; rfl
        have HP6 := hid (HP5.out.below hb6 (by omega))
        have z3 := HP6.out.frozen 3
        have y3 := HP6.out.cell 3
        obtain ⟨w7, hw7⟩ : ∃ w7, w6.setCell ⟨w4.heap.size, 3, none⟩ (.slice ou u.length cu) = w7 := ⟨_, rfl⟩
        have hsz7 : w7.heap.size = w6.heap.size := by rw [← hw7]; simp [World.setCell]
        have HP7 := hid (show Row w7 w4.heap.size 34 [.int .i64 p.index, .int .i64 p.size, .slice o5 p.key.length c5, .slice ou u.length cu, .slice o7 p.path.length c7] by rw [← hw7]; exact HP6.out.set 3 _)
        have hb7 : Below w4.heap.size w5 w7 := by rw [← hw7]; exact (hb6.mono (show w4.heap.size ≤ w5.heap.size by omega)).setCell (Nat.le_refl _) _
        have HB7 := hid (HB5.out.trans (hb7.mono (by omega)))
        have HX7 := hid (HX5.out.below (hb7.mono (show w2.heap.size ≤ w4.heap.size by omega)))
        have HPR7 := hid (show PrfV w7 w4.heap.size (.agg #[.int .i64 p.index, .int .i64 p.size, .slice o5 p.key.length c5, .slice ou u.length cu, .slice o7 p.path.length c7]) ⟨p.index, p.size, p.key, u, p.path⟩ from
          ⟨_, _, _, rfl, HPK.out.below hb7, (HUB.out.below (HB7.out.mono hN)).mono (by omega), HPP.out.below hb7⟩)
        have HF7 := hid (show (⟨p.index, p.size, p.key, u, p.path⟩ : Prf).fits from ⟨HPF.out.1, HUL.out, HPF.out.2.2⟩)
        rw [HRT.out] at HX7
        have HSH := hid (HS.out (rootD l) ⟨p.index, p.size, p.key, u, p.path⟩ (.slice o4 n4 c4) _ w4.heap.size w7 (HK.out.past HB7.out) (by omega) (HX7.out.mono (by omega)) HPR7.out HF7.out (by rw [rootD_len]; decide))
        have t0 := HP7.out.cell 0
        have t1 := HP7.out.cell 1
        have t2 := HP7.out.cell 2
        have t3 := HP7.out.cell 3
        have t4 := HP7.out.cell 4
        clear hb6 hw6 HS5 f0 q3
        go_wp2_with fail
        clear hw7
        refine HSH.out.mono ?_
        rintro e w8 ⟨hb8, bb, rfl, hbb⟩
        have hsz8 := hb8.size
        have HB8 := hid (HB7.out.trans (hb8.mono (by omega)))
        have HP8 := hid (HP7.out.below hb8 (by omega))
        have HBB := hid hbb
        have HPR8 := hid (HPR7.out.below (hb8.mono (by omega)))
        clear hb8 hbb t0 t1 t2 t3 t4 z3 y3 HSH hb7
        have t0 := HP8.out.cell 0
        have t1 := HP8.out.cell 1
        have t2 := HP8.out.cell 2
        have t3 := HP8.out.cell 3
        have t4 := HP8.out.cell 4
        cases bb with
        | false =>
          go_wp2
          go_ret
          exact ⟨rfl, HB8.out⟩
        | true =>
          have HCL := hid (HC.out l ⟨p.index, p.size, p.key, u, p.path⟩ (.slice oa l.length ca) _ w4.heap.size w8 (HK.out.past HB8.out) (by omega) ((HL.out.below (HB8.out.mono hN)).mono (by omega)) HPR8.out hlen HFL.out HF7.out)
          have HNS := hid (show ¬ soB l ⟨p.index, p.size, p.key, u, p.path⟩ from fun ⟨_, _, q', hq', _, hv'⟩ => by
            obtain ⟨e1, e2, e3⟩ := HQV.out
            simp only [e2, Int.toNat_natCast] at hq'
            rw [e3] at hq'
            obtain rfl : q = q' := by simpa using hq'
            exact HNE.out (e1.trans hv'))
          go_wp2_with fail
          refine HCL.out.mono ?_
          rintro e w9 ⟨hb9, oA, nA, cA, oB, nB, cB, ok, a, b, rfl, hba, hbb, hcl⟩
          have hsz9 := hb9.size
          have HB9 := hid (HB8.out.trans (hb9.mono (by omega)))
          obtain rfl : ok = true := hcl.2.2 ⟨HWCE.out, HBB.out.1 (by trivial), HNS.out⟩
          obtain ⟨hne, hsh, hla, hlb⟩ := hcl.1 rfl
          have HBA := hid hba
          have HBB2 := hid hbb
          have HS9 := hid (sameB_any a b (.slice oA nA cA) (.slice oB nB cB) w9.heap.size w9.heap.size w9 HBA.out HBB2.out (by omega) (by omega))
          rw [decide_eq_false hne] at HS9
          have HSH2 := hid hsh
          have HLA := hid hla
          have HLB := hid hlb
          clear hne hsh hla hlb hb9 hba hbb hcl HCL t0 t1 t2 t3 t4
          go_wp2_with fail
          refine HS9.out.mono ?_
          rintro e w10 ⟨rfl, q10, hw10⟩
          have hb10 : Below w9.heap.size w9 w10 := by rw [hw10]; exact drewN_belowC _ _ _
          have hsz10 := hb10.size
          have HB10 := hid (HB9.out.trans (hb10.mono (by omega)))
          have HBA10 := hid (HBA.out.below hb10)
          have HBB10 := hid (HBB2.out.below hb10)
          have HSA := hid (sumC a (.slice oA nA cA) w9.heap.size w10 hsz10 HBA10.out (HK.out.past HB10.out) HLA.out)
          clear hb10 hw10 HS9
          go_wp2_with fail
          refine HSA.out.mono ?_
          rintro e w11 ⟨oD, cD, rfl, hown11, hb11⟩
          have hsz11 := hb11.size
          have HB11 := hid (HB10.out.trans (hb11.mono (by omega)))
          have HD11 := hid hown11
          have HSB2 := hid (sumC b (.slice oB nB cB) w9.heap.size w11 (by omega) (HBB10.out.below (hb11.mono (by omega))) (HK.out.past HB11.out) HLB.out)
          clear hb11 hown11 HSA
          go_wp2_with fail
          refine HSB2.out.mono ?_
          rintro e w12 ⟨oE, cE, rfl, hown12, hb12⟩
          have hsz12 := hb12.size
          have HB12 := hid (HB11.out.trans (hb12.mono (by omega)))
          have HS12 := hid (sameB_any (sha a) (sha b) (.slice oD 32 cD) (.slice oE 32 cE) w11.heap.size w12.heap.size w12 (HD11.out.bytes.below hb12) hown12.bytes (by rw [sha_length]; decide) (by rw [sha_length]; decide))
          rw [decide_eq_true HSH2.out] at HS12
          clear hb12 hown12 HSB2
          go_wp2_with fail
          refine HS12.out.mono ?_
          rintro e w13 ⟨rfl, q13, rfl⟩
          go_wp2
          go_ret
          exact ⟨rfl, HB12.out.trans (drewN_belowC _ _ _)⟩
    · have e2 : (c != 0) = true := by simpa using hc0
      go_wp2
      go_ret
      exact ⟨rfl, HB5.out⟩
  · have e1 : (wc != 0) = true := by simpa using hwc0
    go_wp2
    go_ret
    exact ⟨rfl, HB5.out⟩
end Go.Proofs.YtdlcjhigmdgbcaaDoor
