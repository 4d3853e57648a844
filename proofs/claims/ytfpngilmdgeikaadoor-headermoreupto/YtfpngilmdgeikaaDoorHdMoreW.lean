/-
  HeaderMore answers true, of seeds that append can join, and turns nothing that was there.
-/
import Derived.Test.YtfpngilmdgeikaaDoorHdMoreR
namespace Go.Proofs.YtfpngilmdgeikaaDoor
open Go.RowKit

theorem hasKey_more (seeds more : List (List (BitVec 8))) (k : Nat) (h : hasKey seeds k = true) : hasKey (seeds ++ more) k = true := by
  unfold hasKey at h ⊢
  rw [List.any_append, h, Bool.true_or]
theorem keyP_more (seeds more : List (List (BitVec 8))) : ∀ l : List Vl, keyP seeds l ≤ keyP (seeds ++ more) l
  | [] => Nat.le_refl _
  | v :: l => by
    have ih := keyP_more seeds more l
    rw [keyP, keyP]
    cases h : hasKey seeds v.key with
    | true => rw [hasKey_more seeds more v.key h]; simp; omega
    | false =>
      rw [if_neg (by simp)]
      omega
theorem more_good {h : Hd} {l : List Vl} (seeds more : List (List (BitVec 8))) (e : togetherN h l = 0) (hc : checkN (signS h l seeds) = 0) : checkN (signS h l (seeds ++ more)) = 0 := by
  rw [signS_ok e, check_sign _ e, yes_keys] at hc ⊢
  have := keyP_more seeds more l
  split at hc
  · cases hc
  · rw [if_neg (by omega)]
set_option maxRecDepth 100000 in
set_option maxHeartbeats 8000000 in
theorem headerMore_any (hal : AliveC6 29) (l : List Vl) (h : Hd) (seeds more : List (List (BitVec 8))) (lv hv sv mv : Value) (N : Nat) (w : World) (htab : tableAt w) (hN : N ≤ w.heap.size) (hl : Vals w N lv l) (hhv : HdV w N hv h) (hs : Lists w N sv seeds) (hm : Lists w N mv more)
    (hll : l.length < 2305843009213693952) (hok : ∀ v ∈ l, v.ok) (hf : h.fits) (hsl : seeds.length ≤ 35184372088832) (hsf : ∀ s ∈ seeds, s.length ≤ 140737488351232) (hmf : ∀ s ∈ more, s.length ≤ 140737488351232) (hsm : seeds.length + more.length ≤ 3000000) :
    Calls Tryd.prog 7 #[lv, hv, sv, mv] w fun e w' => e = .returned (.bool true) ∧ Below w.heap.size w w' := by
  have HL := hid hl
  have HV := hid hhv
  have HS := hid hs
  have HTAB := hid htab
  have HSF := hid hsf
  have HOK := hid hok
  obtain ⟨rv, vv, nv, rfl, h1, h2, h3⟩ := hhv
  obtain ⟨o1, c1, rfl, _⟩ := h1.shape
  obtain ⟨o2, c2, rfl, _⟩ := h2.shape
  obtain ⟨o3, c3, rfl, _⟩ := h3.shape
  obtain ⟨ol, cl, rfl, _⟩ := hl.shape
  obtain ⟨os, cs, rfl, _⟩ := hs.shape
  have HMM := hid hm
  have HMF := hid hmf
  obtain ⟨om, cm, rfl, _⟩ := hm.shape
  clear hm hmf
  obtain ⟨w1, hw1⟩ : ∃ w1, w.alloc (.cells #[.string h.chain, .int .i64 h.height, .int .i64 h.time, .slice o1 h.root.length c1, .slice o2 h.vals.length c2, .slice o3 h.next.length c3] 25) = w1 := ⟨_, rfl⟩
  have HB1 := hid (show Below w.heap.size w w1 by rw [← hw1]; exact (Below.refl _ _).alloc (Nat.le_refl _) _)
  have HR1 := hid (show Row w1 w.heap.size 25 [.string h.chain, .int .i64 h.height, .int .i64 h.time, .slice o1 h.root.length c1, .slice o2 h.vals.length c2, .slice o3 h.next.length c3] by rw [← hw1]; exact Row.new _ _ _)
  have HAL := hid (hal w1 (htab.below HB1.out htab.lt))
  clear h1 h2 h3 hl hs htab hsf hok hal
  go_enter Tryd.func7, Tryd.ntmps7
  go_wp2_with fail
  refine HAL.out.mono ?_
  rintro e w2 ⟨rfl, hb2⟩
  have HB2 := hid (HB1.out.trans (hb2.mono HB1.out.size))
  have HR2 := hid (HR1.out.below hb2 HR1.out.lt)
  obtain ⟨k0, k1, k2, k3, k4, k5⟩ := HR2.out.six
  have HSA := hid (signC h l seeds _ _ _ N w2 (HTAB.out.below HB2.out HTAB.out.lt) (Nat.le_trans hN HB2.out.size) (HV.out.below (HB2.out.mono hN)) hf (HL.out.below (HB2.out.mono hN)) hll HOK.out (HS.out.below (HB2.out.mono hN)) hsl HSF.out)
  have HFIT := hid (signS_fitsA h l seeds hf HOK.out)
  clear hb2 HAL hw1
  generalize hSg : signS h l seeds = S at *
  have HSS := hid hSg
  clear hSg
  generalize htg : togetherN h l = tg at *
  have HTG := hid htg
  clear htg
  go_wp2_with fail
  refine HSA.out.mono ?_
  rintro e w3 ⟨va, rfl, hva, hb3⟩
  have HB3 := hid (HB2.out.trans (hb3.mono HB2.out.size))
  have HVA := hid hva
  have HR3 := hid (HR2.out.below hb3 HR2.out.lt)
  obtain ⟨a1, a2, a3, a4, a5, rfl, x1, x2, x3, x4, x5⟩ := hva
  obtain ⟨q1, e1, rfl, _⟩ := x1.shape
  obtain ⟨q2, e2, rfl, _⟩ := x2.shape
  obtain ⟨q3, e3, rfl, _⟩ := x3.shape
  obtain ⟨q4, e4, rfl, _⟩ := x4.shape
  obtain ⟨q5, e5, rfl, _⟩ := x5.shape
  obtain ⟨w4, hw4⟩ : ∃ w4, w3.alloc (.cells #[.string S.hd.chain, .int .i64 S.hd.height, .int .i64 S.hd.time, .slice q1 S.hd.root.length e1, .slice q2 S.hd.vals.length e2, .slice q3 S.hd.next.length e3, .slice q4 S.vals.length e4, .slice q5 S.votes.length e5] 29) = w4 := ⟨_, rfl⟩
  have hb4 : Below w3.heap.size w3 w4 := by rw [← hw4]; exact (Below.refl _ _).alloc (Nat.le_refl _) _
  obtain ⟨ga, hga⟩ : ∃ ga, w3.heap.size = ga := ⟨_, rfl⟩
  have HA4 := hid (show Row w4 ga 29 [.string S.hd.chain, .int .i64 S.hd.height, .int .i64 S.hd.time, .slice q1 S.hd.root.length e1, .slice q2 S.hd.vals.length e2, .slice q3 S.hd.next.length e3, .slice q4 S.vals.length e4, .slice q5 S.votes.length e5] by rw [← hw4, ← hga]; exact Row.new _ _ _)
  have HB4 := hid (HB3.out.trans (hb4.mono HB3.out.size))
  have HVA4 := hid ((HVA.out.below hb4).mono hb4.size)
  have HR4 := hid (HR3.out.below hb4 HR3.out.lt)
  clear hb3 x1 x2 x3 x4 x5 hb4 HSA k0 k1 k2 k3 k4 k5
  have HTAB4 := hid (HTAB.out.below HB4.out HTAB.out.lt)
  have HV4 := hid ((HV.out.below (HB4.out.mono hN)).mono (Nat.le_trans hN HB4.out.size))
  have HL4 := hid ((HL.out.below (HB4.out.mono hN)).mono (Nat.le_trans hN HB4.out.size))
  obtain ⟨xs, hx1, hx2, hx3⟩ := lists_cells ((HS.out.below (HB4.out.mono hN)).up (Nat.le_trans hN HB4.out.size))
  obtain ⟨ys, hy1, hy2, hy3⟩ := lists_cells ((HMM.out.below (HB4.out.mono hN)).up (Nat.le_trans hN HB4.out.size))
  have X3 := hid hx3
  have Y3 := hid hy3
  have O1 := hid (show ∀ u ∈ xs, u.oneCell' = true from fun u hu => by obtain ⟨i, hi⟩ := List.mem_iff_getElem?.1 hu; exact bytes_one (hx2 i u hi))
  have O2 := hid (show ∀ u ∈ ys, u.oneCell' = true from fun u hu => by obtain ⟨i, hi⟩ := List.mem_iff_getElem?.1 hu; exact bytes_one (hy2 i u hi))
  have HLN := hid (show (xs ++ ys).length = (seeds ++ more).length by rw [List.length_append, List.length_append, hx1, hy1])
  have HBY := hid (show ∀ i x, (xs ++ ys)[i]? = some x → Bytes w4 w4.heap.size x ((seeds ++ more).getD i []) from fun i x hi => by
    by_cases hlt : i < xs.length
    · rw [List.getElem?_append_left hlt] at hi
      have := hx2 i x hi
      rwa [show (seeds ++ more).getD i [] = seeds.getD i [] by unfold List.getD; rw [List.getElem?_append_left (by omega)]]
    · rw [List.getElem?_append_right (by omega)] at hi
      have := hy2 _ x hi
      rwa [show (seeds ++ more).getD i [] = more.getD (i - xs.length) [] by unfold List.getD; rw [List.getElem?_append_right (by omega), hx1]])
  have HSFM := hid (show ∀ s ∈ seeds ++ more, s.length ≤ 140737488351232 from fun s hs => by
    rcases List.mem_append.1 hs with h | h
    · exact HSF.out s h
    · exact HMF.out s h)
  have hxy : xs.length + ys.length ≤ 3000000 := by omega
  have hlm : (seeds ++ more).length ≤ 35184372088832 := by rw [List.length_append]; omega
  have HFT := hid (signS_fitsA h l (seeds ++ more) hf HOK.out)
  clear hx1 hx2 hx3 hy1 hy2 hy3
  go_wp2_with fail
  refine moreRegion h l (seeds ++ more) xs ys _ _ _ tg o1 o2 o3 c1 c2 c3 HTAB4 HR4 HV4 hf HL4 hll HOK X3 Y3 O1 O2 hxy HLN HBY hlm HSFM HTG _ (hid ?_)
  intro σ w5 T hT hb5 hrow h13
  obtain ⟨gc, rv, vv, nv, lw, tv, h11, hrT, hsT⟩ := hrow
  have HT := hid hT
  have HB5 := hid (HB4.out.trans (hb5.mono HB4.out.size))
  have HA5 := hid (HA4.out.below hb5 HA4.out.lt)
  have HVA5 := hid ((HVA4.out.below hb5).mono hb5.size)
  have HRT := hid hrT
  have HST := hid hsT
  rw [h11, h13]
  clear hT hb5 h11 h13 hrT hsT hw4
  by_cases hz : tg = 0
  · have ez : (tg != 0) = false := by simp [hz]
    have HZ := hid (HTG.out.trans hz)
    clear hz
    obtain ⟨k0, k1, k2, k3, k4, k5, k6, k7⟩ := HA5.out.eight
    have HCA := hid (checkC S _ w5.heap.size w5 (HTAB.out.below HB5.out HTAB.out.lt) (Nat.le_refl _) HVA5.out HFIT.out)
    obtain ⟨zs, hzs⟩ : ∃ z, checkN S = z := ⟨_, rfl⟩
    rw [hzs] at HCA
    have HZS := hid hzs
    clear hzs
    go_wp2_with fail
    refine HCA.out.mono ?_
    rintro e w6 ⟨rfl, hb6⟩
    have HB6 := hid (HB5.out.trans (hb6.mono HB5.out.size))
    have HRT6 := hid (HRT.out.below hb6 HRT.out.lt)
    have HST6 := hid ((HST.out.below hb6).mono hb6.size)
    clear hb6 HCA k0 k1 k2 k3 k4 k5 k6 k7
    by_cases hx : zs = 0
    · have ex : (zs != 0) = false := by simp [hx]
      have HC0 := hid (show checkN T = 0 by rw [HT.out]; exact more_good seeds more HZ.out (by rw [HSS.out]; exact HZS.out.trans hx))
      clear hx
      obtain ⟨k0, k1, k2, k3, k4, k5, k6, k7⟩ := HRT6.out.eight
      have HCB := hid (checkC T _ w6.heap.size w6 (HTAB.out.below HB6.out HTAB.out.lt) (Nat.le_refl _) HST6.out (by rw [HT.out]; exact HFT.out))
      rw [HC0.out] at HCB
      go_wp2_with fail
      refine HCB.out.mono ?_
      rintro e w7 ⟨rfl, hb7⟩
      have HB7 := hid (HB6.out.trans (hb7.mono HB6.out.size))
      clear hb7
      go_wp2
      go_ret
      exact ⟨rfl, HB7.out⟩
    · have ex : (zs != 0) = true := by simp [hx]
      clear hx
      go_wp2
      go_ret
      exact ⟨rfl, HB6.out⟩
  · have ez : (tg != 0) = true := by simp [hz]
    have ee : (tg == tg) = true := by simp
    clear hz
    go_wp2
    go_ret
    exact ⟨rfl, HB5.out⟩
end Go.Proofs.YtfpngilmdgeikaaDoor
