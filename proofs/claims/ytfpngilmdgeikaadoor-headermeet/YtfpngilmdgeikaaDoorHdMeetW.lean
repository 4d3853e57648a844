/-
  HeaderMeet answers true, whatever it is handed, and turns nothing that was there.
-/
import Derived.Test.YtfpngilmdgeikaaDoorHdBlock
import Derived.Test.YtfpngilmdgeikaaDoorHdMeetF
namespace Go.Proofs.YtfpngilmdgeikaaDoor
open Go.RowKit

set_option maxRecDepth 100000 in
set_option maxHeartbeats 8000000 in
theorem headerMeet_any (hal : AliveC6 29) (l : List Vl) (a b : Hd) (one two : List (List (BitVec 8))) (lv av bv ov tv : Value) (N : Nat) (w : World) (htab : tableAt w) (hN : N ≤ w.heap.size) (hl : Vals w N lv l) (ha : HdV w N av a) (hb : HdV w N bv b) (ho : Lists w N ov one) (ht : Lists w N tv two)
    (hll : l.length < 2305843009213693952) (hok : ∀ v ∈ l, v.ok) (hfa : a.fits) (hfb : b.fits) (hol : one.length ≤ 35184372088832) (hof : ∀ s ∈ one, s.length ≤ 140737488351232) (htl : two.length ≤ 35184372088832) (htf : ∀ s ∈ two, s.length ≤ 140737488351232) :
    Calls Tryd.prog 6 #[lv, av, bv, ov, tv] w fun e w' => e = .returned (.bool true) ∧ Below w.heap.size w w' := by
  have HL := hid hl
  have HA := hid ha
  have HB := hid hb
  have HO := hid ho
  have HTT := hid ht
  have HTAB := hid htab
  have HOF := hid hof
  have HTF := hid htf
  have HOK := hid hok
  obtain ⟨rv, vv, nv, rfl, h1, h2, h3⟩ := ha
  obtain ⟨rv', vv', nv', rfl, g1, g2, g3⟩ := hb
  obtain ⟨o1, c1, rfl, _⟩ := h1.shape
  obtain ⟨o2, c2, rfl, _⟩ := h2.shape
  obtain ⟨o3, c3, rfl, _⟩ := h3.shape
  obtain ⟨p1, d1, rfl, _⟩ := g1.shape
  obtain ⟨p2, d2, rfl, _⟩ := g2.shape
  obtain ⟨p3, d3, rfl, _⟩ := g3.shape
  obtain ⟨ol, cl, rfl, _⟩ := hl.shape
  obtain ⟨oo, co, rfl, _⟩ := ho.shape
  obtain ⟨ot, ct, rfl, _⟩ := ht.shape
  obtain ⟨w0, hw0⟩ : ∃ w0, w.alloc (.cells #[.string a.chain, .int .i64 a.height, .int .i64 a.time, .slice o1 a.root.length c1, .slice o2 a.vals.length c2, .slice o3 a.next.length c3] 25) = w0 := ⟨_, rfl⟩
  have hb0 : Below w.heap.size w w0 := by rw [← hw0]; exact (Below.refl _ _).alloc (Nat.le_refl _) _
  have hr0 : Row w0 w.heap.size 25 [.string a.chain, .int .i64 a.height, .int .i64 a.time, .slice o1 a.root.length c1, .slice o2 a.vals.length c2, .slice o3 a.next.length c3] := by rw [← hw0]; exact Row.new _ _ _
  have hsz0 : w0.heap.size = w.heap.size + 1 := by rw [← hw0]; simp
  obtain ⟨w1, hw1⟩ : ∃ w1, w0.alloc (.cells #[.string b.chain, .int .i64 b.height, .int .i64 b.time, .slice p1 b.root.length d1, .slice p2 b.vals.length d2, .slice p3 b.next.length d3] 25) = w1 := ⟨_, rfl⟩
  have hb1 : Below w0.heap.size w0 w1 := by rw [← hw1]; exact (Below.refl _ _).alloc (Nat.le_refl _) _
  have HR1 := hid (hr0.below hb1 hr0.lt)
  have HS1 := hid (show Row w1 (w.heap.size + 1) 25 [.string b.chain, .int .i64 b.height, .int .i64 b.time, .slice p1 b.root.length d1, .slice p2 b.vals.length d2, .slice p3 b.next.length d3] by rw [← hw1, ← hsz0]; exact Row.new _ _ _)
  have HB1 := hid (hb0.trans (hb1.mono hb0.size))
  have HAL := hid (hal w1 (htab.below HB1.out htab.lt))
  clear h1 h2 h3 g1 g2 g3 hl ho ht htab hof htf hok hb0 hr0 hb1 hal
  go_enter Tryd.func6, Tryd.ntmps6
  go_wp2_with fail
  refine HAL.out.mono ?_
  rintro e w2 ⟨rfl, hb2⟩
  have HB2 := hid (HB1.out.trans (hb2.mono HB1.out.size))
  have HR2 := hid (HR1.out.below hb2 HR1.out.lt)
  have HS2 := hid (HS1.out.below hb2 HS1.out.lt)
  obtain ⟨k0, k1, k2, k3, k4, k5⟩ := HR2.out.six
  have HSA := hid (signC a l one _ _ _ N w2 (HTAB.out.below HB2.out HTAB.out.lt) (Nat.le_trans hN HB2.out.size) (HA.out.below (HB2.out.mono hN)) hfa (HL.out.below (HB2.out.mono hN)) hll HOK.out (HO.out.below (HB2.out.mono hN)) hol HOF.out)
  have HFS := hid (signS_fitsA a l one hfa HOK.out)
  have HFT := hid (signS_fitsA b l two hfb HOK.out)
  clear hb2 HAL hw0 hw1
  generalize hSg : signS a l one = S at *
  have HSS := hid hSg
  clear hSg
  generalize hTg : signS b l two = T at *
  have HST := hid hTg
  clear hTg
  generalize htg : togetherN a l = za at *
  have HZA := hid htg
  clear htg
  go_wp2_with fail
  refine HSA.out.mono ?_
  rintro e w3 ⟨va, rfl, hva, hb3⟩
  have HB3 := hid (HB2.out.trans (hb3.mono HB2.out.size))
  have HS3 := hid (HS2.out.below hb3 HS2.out.lt)
  have HVA := hid hva
  obtain ⟨a1, a2, a3, a4, a5, rfl, x1, x2, x3, x4, x5⟩ := hva
  obtain ⟨q1, e1, rfl, _⟩ := x1.shape
  obtain ⟨q2, e2, rfl, _⟩ := x2.shape
  obtain ⟨q3, e3, rfl, _⟩ := x3.shape
  obtain ⟨q4, e4, rfl, _⟩ := x4.shape
  obtain ⟨q5, e5, rfl, _⟩ := x5.shape
  obtain ⟨w4, hw4⟩ : ∃ w4, w3.alloc (.cells #[.string S.hd.chain, .int .i64 S.hd.height, .int .i64 S.hd.time, .slice q1 S.hd.root.length e1, .slice q2 S.hd.vals.length e2, .slice q3 S.hd.next.length e3, .slice q4 S.vals.length e4, .slice q5 S.votes.length e5] 29) = w4 := ⟨_, rfl⟩
  have hb4 : Below w3.heap.size w3 w4 := by rw [← hw4]; exact (Below.refl _ _).alloc (Nat.le_refl _) _
  obtain ⟨ga, hga⟩ : ∃ ga, w3.heap.size = ga := ⟨_, rfl⟩
  have HA4 := hid (show Row w4 ga 29 [.string S.hd.chain, .int .i64 S.hd.height, .int .i64 S.hd.time, .slice q1 S.hd.root.length e1, .slice q2 S.hd.vals.length e2, .slice q3 S.hd.next.length e3, .slice q4 S.vals.length e4, .slice q5 S.votes.length e5] by rw [← hw4, ← hga]; exact Row.new _ _ _)
  have HB4 := hid (HB3.out.trans (hb4.mono HB3.out.size))
  have HS4 := hid (HS3.out.below hb4 HS3.out.lt)
  have HVA4 := hid ((HVA.out.below hb4).mono hb4.size)
  have HSB := hid (signC b l two _ _ _ N w4 (HTAB.out.below HB4.out HTAB.out.lt) (Nat.le_trans hN HB4.out.size) (HB.out.below (HB4.out.mono hN)) hfb (HL.out.below (HB4.out.mono hN)) hll HOK.out (HTT.out.below (HB4.out.mono hN)) htl HTF.out)
  rw [HST.out] at HSB
  generalize htg : togetherN b l = zb at *
  have HZB := hid htg
  clear htg
  clear hb3 x1 x2 x3 x4 x5 hb4 HSA k0 k1 k2 k3 k4 k5
  obtain ⟨k0, k1, k2, k3, k4, k5⟩ := HS4.out.six
  go_wp2_with fail
  refine HSB.out.mono ?_
  rintro e w5 ⟨vb, rfl, hvb, hb5⟩
  have HB5 := hid (HB4.out.trans (hb5.mono HB4.out.size))
  have HA5 := hid (HA4.out.below hb5 HA4.out.lt)
  have HVA5 := hid ((HVA4.out.below hb5).mono hb5.size)
  have HVB := hid hvb
  obtain ⟨b1, b2, b3, b4, b5, rfl, y1, y2, y3, y4, y5⟩ := hvb
  obtain ⟨r1, f1, rfl, _⟩ := y1.shape
  obtain ⟨r2, f2, rfl, _⟩ := y2.shape
  obtain ⟨r3, f3, rfl, _⟩ := y3.shape
  obtain ⟨r4, f4, rfl, _⟩ := y4.shape
  obtain ⟨r5, f5, rfl, _⟩ := y5.shape
  obtain ⟨w6, hw6⟩ : ∃ w6, w5.alloc (.cells #[.string T.hd.chain, .int .i64 T.hd.height, .int .i64 T.hd.time, .slice r1 T.hd.root.length f1, .slice r2 T.hd.vals.length f2, .slice r3 T.hd.next.length f3, .slice r4 T.vals.length f4, .slice r5 T.votes.length f5] 29) = w6 := ⟨_, rfl⟩
  have hb6 : Below w5.heap.size w5 w6 := by rw [← hw6]; exact (Below.refl _ _).alloc (Nat.le_refl _) _
  obtain ⟨gc, hgc⟩ : ∃ gc, w5.heap.size = gc := ⟨_, rfl⟩
  have HC6 := hid (show Row w6 gc 29 [.string T.hd.chain, .int .i64 T.hd.height, .int .i64 T.hd.time, .slice r1 T.hd.root.length f1, .slice r2 T.hd.vals.length f2, .slice r3 T.hd.next.length f3, .slice r4 T.vals.length f4, .slice r5 T.votes.length f5] by rw [← hw6, ← hgc]; exact Row.new _ _ _)
  have HB6 := hid (HB5.out.trans (hb6.mono HB5.out.size))
  have HA6 := hid (HA5.out.below hb6 HA5.out.lt)
  have HVA6 := hid ((HVA5.out.below hb6).mono hb6.size)
  have HVB6 := hid ((HVB.out.below hb6).mono hb6.size)
  clear hb5 y1 y2 y3 y4 y5 hb6 HSB k0 k1 k2 k3 k4 k5
  by_cases hz : za = 0
  · have ez : (za != 0) = false := by simp [hz]
    have HZ := hid (HZA.out.trans hz)
    clear hz
    by_cases hy : zb = 0
    · have ey : (zb != 0) = false := by simp [hy]
      have HY := hid (HZB.out.trans hy)
      clear hy
      obtain ⟨k0, k1, k2, k3, k4, k5, k6, k7⟩ := HA6.out.eight
      have HCA := hid (checkC S _ w6.heap.size w6 (HTAB.out.below HB6.out HTAB.out.lt) (Nat.le_refl _) HVA6.out HFS.out)
      obtain ⟨cs, hcs⟩ : ∃ z, checkN S = z := ⟨_, rfl⟩
      rw [hcs] at HCA
      have HCS := hid hcs
      clear hcs
      go_wp2_with fail
      refine HCA.out.mono ?_
      rintro e w7 ⟨rfl, hb7⟩
      have HB7 := hid (HB6.out.trans (hb7.mono HB6.out.size))
      have HA7 := hid (HA6.out.below hb7 HA6.out.lt)
      have HC7 := hid (HC6.out.below hb7 HC6.out.lt)
      have HVA7 := hid ((HVA6.out.below hb7).mono hb7.size)
      have HVB7 := hid ((HVB6.out.below hb7).mono hb7.size)
      clear hb7 HCA k0 k1 k2 k3 k4 k5 k6 k7
      by_cases hx : cs = 0
      · have ex : (cs != 0) = false := by simp [hx]
        have HX := hid (HCS.out.trans hx)
        clear hx
        obtain ⟨k0, k1, k2, k3, k4, k5, k6, k7⟩ := HC7.out.eight
        have HCB := hid (checkC T _ w7.heap.size w7 (HTAB.out.below HB7.out HTAB.out.lt) (Nat.le_refl _) HVB7.out HFT.out)
        obtain ⟨ds, hds⟩ : ∃ z, checkN T = z := ⟨_, rfl⟩
        rw [hds] at HCB
        have HDS := hid hds
        clear hds
        go_wp2_with fail
        refine HCB.out.mono ?_
        rintro e w8 ⟨rfl, hb8⟩
        have HB8 := hid (HB7.out.trans (hb8.mono HB7.out.size))
        have HA8 := hid (HA7.out.below hb8 HA7.out.lt)
        have HC8 := hid (HC7.out.below hb8 HC7.out.lt)
        have HVA8 := hid ((HVA7.out.below hb8).mono hb8.size)
        have HVB8 := hid ((HVB7.out.below hb8).mono hb8.size)
        clear hb8 HCB k0 k1 k2 k3 k4 k5 k6 k7
        by_cases hu : ds = 0
        · have eu : (ds != 0) = false := by simp [hu]
          have HU := hid (HDS.out.trans hu)
          clear hu
          have HSE := hid (show S = ⟨a, l, votesOf one (bytesH a) l⟩ by rw [← HSS.out]; exact signS_ok HZ.out)
          have HTE := hid (show T = ⟨b, l, votesOf two (bytesH b) l⟩ by rw [← HST.out]; exact signS_ok HY.out)
          have HSV := hid (show S.vals = l by rw [HSE.out])
          have HTV := hid (show T.vals = l by rw [HTE.out])
          have HVO := hid (valsN_ok (togetherN_ok HZ.out).2.1)
          have HLV := hid (togetherN_ok HZ.out).2.1
          have hl10 := HVO.out.2.1
          have HP := hid (fun v hv => (HVO.out.2.2.1 v hv).2)
          have HSL := hid (show S.votes.length = l.length by rw [HSE.out]; exact votesOf_length _ _ _)
          have HTL := hid (show T.votes.length = l.length by rw [HTE.out]; exact votesOf_length _ _ _)
          have HMB := hid (show allP l < 3 * sumIx (bothIx S.votes T.votes) 0 l from meet_both HSL.out HTL.out (by have := (checkN_ok HX.out).2.2.2; rwa [HSV.out] at this) (by have := (checkN_ok HU.out).2.2.2; rwa [HTV.out] at this))
          have HOS := hid (show overB l S = true by have := over_good HX.out; rwa [HSV.out] at this)
          have HOT := hid (show overB l T = true by have := over_good HU.out; rwa [HTV.out] at this)
          obtain ⟨n, hn⟩ : ∃ n, l.length = n := ⟨_, rfl⟩
          have HN := hid hn
          rw [hn] at hl10 hll HL
          rw [hn]
          rw [HSL.out, hn] at HA8
          rw [HTL.out, hn] at HC8
          have HVX := hid HVA8.out
          have HVY := hid HVB8.out
          rw [HSL.out, hn] at HVX
          rw [HTL.out, hn] at HVY
          clear hn
          go_wp2_with fail
          go_loopw [15, 16, 17, 18, 53] (fun s15 s16 _ _ i wr => ∃ k : Nat, k ≤ n ∧ i = .int .i64 (k : Int) ∧ s15 = .int .u64 (allP (l.take k) : Int) ∧ s16 = .int .u64 (sumIx (bothIx S.votes T.votes) 0 (l.take k) : Int) ∧ Hid (Below w8.heap.size w8 wr)) (fun _ _ _ _ i _ => n - (intOf i).toNat)
          case atStart => exact ⟨0, by omega, rfl, rfl, rfl, hid (Below.refl _ _)⟩
          case round =>
            obtain ⟨k, hk, rfl, rfl, rfl, HT⟩ := hrel
            have hszr := HT.out.size
            have HBr := hid (HB8.out.trans (HT.out.mono HB8.out.size))
            have hpa : allP (l.take k) ≤ 10000000 := by
              have h1 := allP_le (l.take k) (fun v hv => HP.out v (List.mem_of_mem_take hv))
              have h2 : (l.take k).length ≤ 10 := by rw [List.length_take, HN.out]; omega
              omega
            have hps := sumIx_le (bothIx S.votes T.votes) (l.take k) 0
            by_cases hlt : k < n
            · obtain ⟨v, hv⟩ : ∃ v, l[k]? = some v := ⟨l[k]'(by rw [HN.out]; exact hlt), List.getElem?_eq_getElem _⟩
              obtain ⟨bb, bo, rfl, hcells⟩ := HL.out.spot (by omega)
              obtain ⟨hbN, i0, i1⟩ := hcells k v hv
              have hbl : bb < w.heap.size := by omega
              have j0 := (HBr.out.cell (p := ⟨bb, bo + k * 2, none⟩) hbl).trans i0
              have j1 := (HBr.out.cell (p := ⟨bb, bo + k * 2 + 1, none⟩) hbl).trans i1
              have hlt' : (k : Int) < (n : Int) := by omega
              have hvp := HP.out v (List.mem_of_getElem? hv)
              obtain ⟨wo, hwo⟩ : ∃ wo, wr.alloc (.cells #[.int .u64 (v.key : Int), .int .u64 (v.power : Int)] 45) = wo := ⟨_, rfl⟩
              have hb2 : Below wr.heap.size wr wo := by rw [← hwo]; exact (Below.refl _ _).alloc (Nat.le_refl _) _
              have HB2 := hid (HT.out.trans (hb2.mono hszr))
              have m1 := (show Row wo wr.heap.size 45 [.int .u64 (v.key : Int), .int .u64 (v.power : Int)] by rw [← hwo]; exact Row.new _ _ _).cell 1
              obtain ⟨t1, ht1⟩ : ∃ t, S.votes[k]? = some t := ⟨S.votes[k]'(by rw [HSL.out, HN.out]; exact hlt), List.getElem?_eq_getElem _⟩
              obtain ⟨t2, ht2⟩ : ∃ t, T.votes[k]? = some t := ⟨T.votes[k]'(by rw [HTL.out, HN.out]; exact hlt), List.getElem?_eq_getElem _⟩
              obtain ⟨_, _, _, _, _, hE1, _, _, _, _, hvt1⟩ := HVX.out
              obtain ⟨_, _, _, _, _, hE2, _, _, _, _, hvt2⟩ := HVY.out
              simp at hE1 hE2
              obtain ⟨_, _, _, _, rfl⟩ := hE1
              obtain ⟨_, _, _, _, rfl⟩ := hE2
              obtain ⟨b5, of5, rfl, hc5⟩ := hvt1.spot (by omega)
              obtain ⟨b6, of6, rfl, hc6⟩ := hvt2.spot (by omega)
              obtain ⟨hb5N, u5, _⟩ := hc5 k t1 ht1
              obtain ⟨hb6N, u6, _⟩ := hc6 k t2 ht2
              have v5 := (HB2.out.cell (p := ⟨b5, of5 + k * 3, none⟩) hb5N).trans u5
              have v6 := (HB2.out.cell (p := ⟨b6, of6 + k * 3, none⟩) hb6N).trans u6
              have n7 := (HA8.out.below HB2.out HA8.out.lt).cell 7
              have m7 := (HC8.out.below HB2.out HC8.out.lt).cell 7
              simp at n7 m7
              have HAP := hid (allP_take l k v hv)
              have HSI := hid (sumIx_take (bothIx S.votes T.votes) l k v hv)
              have HPK := hid (show bothIx S.votes T.votes k = (t1.is && t2.is) by unfold bothIx; rw [isAt_some ht1, isAt_some ht2])
              clear i0 i1 hcells hb2 hv ht1 ht2 hvt1 hvt2 hc5 hc6 u5 u6
              generalize allP (l.take k) = aa at *
              generalize sumIx (bothIx S.votes T.votes) 0 (l.take k) = ss at *
              have hwa : IntKind.u64.wrap ((aa : Int) + (v.power : Int)) = ((aa + v.power : Nat) : Int) := w64_add aa v.power (by omega)
              have hws : IntKind.u64.wrap ((ss : Int) + (v.power : Int)) = ((ss + v.power : Nat) : Int) := w64_add ss v.power (by omega)
              generalize t1.is = i1 at *
              generalize t2.is = i2 at *
              cases i1 with
              | true =>
                cases i2 with
                | true =>
                  go_wp2_with fail
                  go_roundw
                  case rel => exact ⟨k + 1, by omega, by go_num, by rw [HAP.out]; first | rfl | go_num, by rw [HSI.out, HPK.out]; simp, hid HB2.out⟩
                  case measure => simp [intOf]; omega
                | false =>
                  go_wp2_with fail
                  go_roundw
                  case rel => exact ⟨k + 1, by omega, by go_num, by rw [HAP.out]; first | rfl | go_num, by rw [HSI.out, HPK.out]; simp, hid HB2.out⟩
                  case measure => simp [intOf]; omega
              | false =>
                go_wp2_with fail
                go_roundw
                case rel => exact ⟨k + 1, by omega, by go_num, by rw [HAP.out]; first | rfl | go_num, by rw [HSI.out, HPK.out]; simp, hid HB2.out⟩
                case measure => simp [intOf]; omega
            · have hge : decide ((k : Int) < (n : Int)) = false := by simp; omega
              have HK := hid (show l.take k = l from List.take_of_length_le (by rw [HN.out]; omega))
              rw [HK.out] at hpa hps
              rw [HK.out]
              generalize allP l = aa at *
              generalize sumIx (bothIx S.votes T.votes) 0 l = ss at *
              have hmb := HMB.out
              have hw3 : IntKind.u64.wrap (3 * (ss : Int)) = 3 * (ss : Int) := by simp [IntKind.wrap, IntKind.bits, IntKind.signed]; omega
              have e3 : decide ((aa : Int) < 3 * (ss : Int)) = true := by simp; omega
              have HA9 := hid (HA8.out.below HT.out HA8.out.lt)
              have HVA9 := hid ((HVX.out.below HT.out).mono hszr)
              have HVB9 := hid ((HVY.out.below HT.out).mono hszr)
              have HC9 := hid (HC8.out.below HT.out HC8.out.lt)
              obtain ⟨k0, k1, k2, k3, k4, k5, k6, k7⟩ := HA9.out.eight
              have HOA := hid (overC l S _ _ wr.heap.size wr (Nat.le_refl _) ((HL.out.below (HBr.out.mono hN)).mono (Nat.le_trans hN HBr.out.size)) HVA9.out HLV.out HOK.out (by rw [HSV.out]; exact HLV.out) (by rw [HSL.out, HSV.out]))
              rw [HOS.out] at HOA
              go_wp2_with fail
              refine HOA.out.mono ?_
              rintro e wu ⟨rfl, hbu⟩
              have HBu := hid (HBr.out.trans (hbu.mono HBr.out.size))
              have HCu := hid (HC9.out.below hbu HC9.out.lt)
              have HOB := hid (overC l T _ _ wu.heap.size wu (Nat.le_refl _) ((HL.out.below (HBu.out.mono hN)).mono (Nat.le_trans hN HBu.out.size)) ((HVB9.out.below hbu).mono hbu.size) HLV.out HOK.out (by rw [HTV.out]; exact HLV.out) (by rw [HTL.out, HTV.out]))
              rw [HOT.out] at HOB
              clear k0 k1 k2 k3 k4 k5 k6 k7 hbu HOA
              obtain ⟨k0, k1, k2, k3, k4, k5, k6, k7⟩ := HCu.out.eight
              go_wp2_with fail
              refine HOB.out.mono ?_
              rintro e wv ⟨rfl, hbv⟩
              have HBv := hid (HBu.out.trans (hbv.mono HBu.out.size))
              clear hbv
              go_wp2
              go_ret
              exact ⟨rfl, HBv.out⟩
        · have eu : (ds != 0) = true := by simp [hu]
          clear hu
          go_wp2
          go_ret
          exact ⟨rfl, HB8.out⟩
      · have ex : (cs != 0) = true := by simp [hx]
        clear hx
        go_wp2
        go_ret
        exact ⟨rfl, HB7.out⟩
    · have ey : (zb != 0) = true := by simp [hy]
      clear hy
      go_wp2
      go_ret
      exact ⟨rfl, HB6.out⟩
  · have ez : (za != 0) = true := by simp [hz]
    clear hz
    go_wp2
    go_ret
    exact ⟨rfl, HB6.out⟩
end Go.Proofs.YtfpngilmdgeikaaDoor
