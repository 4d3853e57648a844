/-
  ClientKeeps returns true, whatever a client, an update and a time read as.
-/
import Derived.Test.YtiflkkelbnpniaaDoorClFollow
import Derived.Test.YtiflkkelbnpniaaDoorClAsk
import Derived.Test.YtiflkkelbnpniaaDoorClWaysW
import Derived.Test.YtiflkkelbnpniaaDoorClMem
namespace Go.Proofs.YtiflkkelbnpniaaDoor
open Go.RowKit

set_option maxRecDepth 100000 in
set_option maxHeartbeats 8000000 in
theorem clientKeeps_any (c : Cl) (u : Up) (now : Int) (cv uv : Value) (N : Nat) (w : World) (htab : tableAt w) (hN : N ≤ w.heap.size) (hcv : ClV w N cv c) (huv : UpV w N uv u) (hcf : c.fits) (huf : u.fits) :
    Calls Tryd.prog 4 #[cv, uv, .int .i64 now] w fun e w' => e = .returned (.bool true) ∧ Below w.heap.size w w' := by
  have HF1 := hid (show ∀ wx, Below w.heap.size w wx → _ from fun wx hx => clFollowC c u now cv uv N wx (htab.below hx htab.lt) (Nat.le_trans hN hx.size) (hcv.below (hx.mono hN)) (huv.below (hx.mono hN)) hcf huf)
  have HCF := hid hcf
  have HUF := hid huf
  have HDF := hid (follow_fits (now := now) hcf huf)
  obtain ⟨kv, rfl, hk⟩ := hcv
  obtain ⟨oa, ca, rfl, hca⟩ := hk.shape
  have HK := hid hk
  obtain ⟨o1, c1, o2, c2, o3, c3, o4, c4, o5, c5, o6, c6, rfl, g1, -, g3, -, -, -⟩ := huv.open
  have HG1 := hid g1
  have HG3 := hid g3
  obtain ⟨w0, hw0⟩ : ∃ w0, (w.alloc (.cells #[.string c.chain, .int .i64 c.trust, .bool c.frozen, .slice oa c.known.length ca] 24)).alloc (.cells #[.int .i64 u.frm, .string u.sg.hd.chain, .int .i64 u.sg.hd.height, .int .i64 u.sg.hd.time, .slice o1 u.sg.hd.root.length c1, .slice o2 u.sg.hd.vals.length c2, .slice o3 u.sg.hd.next.length c3, .slice o4 u.sg.vals.length c4, .slice o5 u.sg.votes.length c5, .slice o6 u.trusted.length c6] 42) = w0 := ⟨_, rfl⟩
  have HB0 := hid (show Below w.heap.size w w0 by rw [← hw0]; exact ((Below.refl _ _).alloc (Nat.le_refl _) _).alloc (by simp) _)
  have HRC0 := hid (show Row w0 w.heap.size 24 [.string c.chain, .int .i64 c.trust, .bool c.frozen, .slice oa c.known.length ca] by rw [← hw0]; exact (Row.new _ _ _).alloc _)
  have HRU0 := hid (show Row w0 (w.heap.size + 1) 42 [.int .i64 u.frm, .string u.sg.hd.chain, .int .i64 u.sg.hd.height, .int .i64 u.sg.hd.time, .slice o1 u.sg.hd.root.length c1, .slice o2 u.sg.hd.vals.length c2, .slice o3 u.sg.hd.next.length c3, .slice o4 u.sg.vals.length c4, .slice o5 u.sg.votes.length c5, .slice o6 u.trusted.length c6] by rw [← hw0]; exact Row.newAt _ _ _ _ (by simp))
  have HW0 := hid hw0
  clear htab hcf huf hk huv hw0 hca g1 g3
  go_enter Tryd.func4, Tryd.ntmps4
  go_wp2_with fail
  rw [HW0.out]
  refine (alive7_any w0).mono ?_
  rintro e w1 ⟨rfl, hb1⟩
  have HB1 := hid (HB0.out.trans (hb1.mono HB0.out.size))
  have HRC1 := hid (HRC0.out.below hb1 HRC0.out.lt)
  have HRU1 := hid (HRU0.out.below hb1 HRU0.out.lt)
  obtain ⟨⟨a0, a1, a2, a3⟩, _⟩ := HRC1.out.four
  obtain ⟨⟨i0, i1, i2, i3, i4⟩, i5, i6, i7, i8, i9⟩ := HRU1.out.ten
  clear hb1
  go_wp2_with fail
  refine (HF1.out _ HB1.out).mono ?_
  rintro e w2 ⟨hb2, od, nd, md, rfl, hkd⟩
  have HB2 := hid (HB1.out.trans (hb2.mono HB1.out.size))
  have HRC2 := hid (HRC1.out.below hb2 HRC1.out.lt)
  have HRU2 := hid (HRU1.out.below hb2 HRU1.out.lt)
  have HKD := hid hkd
  clear hb2 hkd a0 a1 a2 a3 i0 i1 i2 i3 i4 i5 i6 i7 i8 i9
  by_cases he : followE c u now = 0
  · rw [he]
    have HE := hid he
    have HKP := hid (fun (x : Kn) (i : Nat) (hx : c.known[i]? = some x) => follow_keeps he hx)
    have HTH := hid (follow_there he)
    have HSC := hid (follow_same he).1
    have HST := hid (follow_same he).2
    have HWR := hid (follow_right he).2.2
    clear he
    generalize hd : followC c u now = d at *
    have HD := hid hd
    clear hd
    obtain ⟨w3, hw3⟩ : ∃ w3, w2.alloc (.cells #[.string d.chain, .int .i64 d.trust, .bool d.frozen, .slice od nd md] 24) = w3 := ⟨_, rfl⟩
    have hb3 : Below w2.heap.size w2 w3 := by rw [← hw3]; exact (Below.refl _ _).alloc (Nat.le_refl _) _
    have HB3 := hid (HB2.out.trans (hb3.mono HB2.out.size))
    have HRD3 := hid (show Row w3 w2.heap.size 24 [.string d.chain, .int .i64 d.trust, .bool d.frozen, .slice od nd md] by rw [← hw3]; exact Row.new _ _ _)
    have HRC3 := hid (HRC2.out.below hb3 HRC2.out.lt)
    have HRU3 := hid (HRU2.out.below hb3 HRU2.out.lt)
    have HDV := hid (show ClV w3 w3.heap.size (.agg #[.string d.chain, .int .i64 d.trust, .bool d.frozen, .slice od nd md]) d from ⟨_, rfl, (HKD.out.below hb3).mono hb3.size⟩)
    have HWC := hid (clWrongC d (.agg #[.string d.chain, .int .i64 d.trust, .bool d.frozen, .slice od nd md]) w3.heap.size w3 HDV.out (Nat.le_refl _) HDF.out)
    have HAT := hid (show ∀ (h : Int) (wx : World), Below w3.heap.size w3 wx → Calls Tryd.prog 13 #[.agg #[.string d.chain, .int .i64 d.trust, .bool d.frozen, .slice od nd md], .int .i64 h] wx _ from fun h wx hx => atC d h (.agg #[.string d.chain, .int .i64 d.trust, .bool d.frozen, .slice od nd md]) w3.heap.size wx (HDV.out.below hx) hx.size HDF.out)
    have HW3 := hid hw3
    have ec1 : (d.chain.toList == c.chain.toList) = true := by rw [HSC.out]; simp
    have ec2 : (d.chain.toList != c.chain.toList) = false := by rw [HSC.out]; simp
    have et1 : (d.trust != c.trust) = false := by rw [HST.out]; simp
    clear hb3 hw3
    go_wp2_with fail
    rw [HW3.out]
    refine HWC.out.mono ?_
    rintro e w4 ⟨rfl, hb4⟩
    rw [HWR.out]
    have HQ4 := hid hb4
    have HB4 := hid (HB3.out.trans (hb4.mono HB3.out.size))
    have HRD4 := hid (HRD3.out.below hb4 HRD3.out.lt)
    have HRC4 := hid (HRC3.out.below hb4 HRC3.out.lt)
    have HRU4 := hid (HRU3.out.below hb4 HRU3.out.lt)
    clear hb4
    obtain ⟨⟨a0, a1, a2, a3⟩, _⟩ := HRC4.out.four
    obtain ⟨⟨b0, b1, b2, b3⟩, _⟩ := HRD4.out.four
    have h30 : c.known.length ≤ 30 := by have := (wrongCl_iff c).1 (follow_right HE.out).1; exact this.2.2.1.2
    obtain ⟨n, hn⟩ : ∃ n, c.known.length = n := ⟨_, rfl⟩
    have HN := hid hn
    rw [hn] at a3 HRC4 HK h30
    rw [hn]
    clear hn
    go_wp2_with fail
    go_loopw [9, 10, 11, 12, 51] (fun _ _ _ _ i wr => ∃ k : Nat, k ≤ n ∧ i = .int .i64 (k : Int) ∧ Hid (Below w4.heap.size w4 wr)) (fun _ _ _ _ i _ => n - (intOf i).toNat)
    case atStart => exact ⟨0, by omega, rfl, hid (Below.refl _ _)⟩
    case round =>
      obtain ⟨k, hk, rfl, HT⟩ := hrel
      have HQR := hid (HQ4.out.trans (HT.out.mono HQ4.out.size))
      have HBW := hid (HB4.out.trans (HT.out.mono HB4.out.size))
      have HRDr := hid (HRD4.out.below HT.out HRD4.out.lt)
      have HRCr := hid (HRC4.out.below HT.out HRC4.out.lt)
      have HRUr := hid (HRU4.out.below HT.out HRU4.out.lt)
      clear a0 a1 a2 a3 b0 b1 b2 b3
      obtain ⟨⟨a0, a1, a2, a3⟩, _⟩ := HRCr.out.four
      obtain ⟨⟨b0, b1, b2, b3⟩, _⟩ := HRDr.out.four
      by_cases hlt : k < n
      · obtain ⟨x, hx⟩ : ∃ x, c.known[k]? = some x := ⟨c.known[k]'(by rw [HN.out]; exact hlt), List.getElem?_eq_getElem _⟩
        obtain ⟨b, o, rfl, hcells⟩ := HK.out.spot (by omega)
        obtain ⟨hbN, vr, vn, f0, f1, f2, f3, g2, g3⟩ := hcells k x hx
        obtain ⟨r3, s3, rfl, _⟩ := g2.shape
        obtain ⟨r4, s4, rfl, _⟩ := g3.shape
        have hbl : b < w.heap.size := by omega
        have c0 := (HBW.out.cell (p := ⟨b, o + k * 4, none⟩) hbl).trans f0
        have c1' := (HBW.out.cell (p := ⟨b, o + k * 4 + 1, none⟩) hbl).trans f1
        have c2' := (HBW.out.cell (p := ⟨b, o + k * 4 + 2, none⟩) hbl).trans f2
        have c3' := (HBW.out.cell (p := ⟨b, o + k * 4 + 3, none⟩) hbl).trans f3
        have hlt' : (k : Int) < (n : Int) := by omega
        have HKX := hid (HKP.out x k hx)
        have HXF := hid (HCF.out.2.2 x (List.mem_of_getElem? hx))
        have HG2 := hid g2
        have HG3x := hid g3
        obtain ⟨w5, hw5⟩ : ∃ w5, wr.alloc (.cells #[.int .i64 x.height, .int .i64 x.time, .slice r3 x.root.length s3, .slice r4 x.next.length s4] 48) = w5 := ⟨_, rfl⟩
        have hb5 : Below wr.heap.size wr w5 := by rw [← hw5]; exact (Below.refl _ _).alloc (Nat.le_refl _) _
        have HQ5 := hid (HQR.out.trans (hb5.mono HQR.out.size))
        have HT5 := hid (HT.out.trans (hb5.mono HT.out.size))
        have HRX5 := hid (show Row w5 wr.heap.size 48 [.int .i64 x.height, .int .i64 x.time, .slice r3 x.root.length s3, .slice r4 x.next.length s4] by rw [← hw5]; exact Row.new _ _ _)
        have HW5 := hid hw5
        have m1 : w2.heap.size < wr.heap.size := HRDr.out.lt
        have m2 : w2.heap.size ≠ wr.heap.size := by omega
        have m3 : w.heap.size < wr.heap.size := HRCr.out.lt
        have m4 : w.heap.size ≠ wr.heap.size := by omega
        clear hcells f0 f1 f2 f3 g2 g3 hx hb5 hw5
        go_wp2_with fail
        rw [HW5.out]
        refine (HAT.out x.height _ HQ5.out).mono ?_
        rintro e w6 ⟨hb6, p1, d1, p2, d2, rfl, hx1, hx2⟩
        have HT6 := hid (HT5.out.trans (hb6.mono HT5.out.size))
        have HRX6 := hid (HRX5.out.below hb6 HRX5.out.lt)
        have HRC6 := hid (HRC4.out.below HT6.out HRC4.out.lt)
        clear a0 a1 a2 a3 b0 b1 b2 b3 c0 c1' c2' c3' m1 m2 m3 m4
        rcases HKX.out with hat | ⟨hat, hk0, h30'⟩
        · rw [knAt_some hat, hat]
          rw [knAt_some hat] at hx1 hx2
          simp only [Option.isSome]
          obtain ⟨w7, hw7⟩ : ∃ w7, w6.alloc (.cells #[.int .i64 x.height, .int .i64 x.time, .slice p1 x.root.length d1, .slice p2 x.next.length d2] 48) = w7 := ⟨_, rfl⟩
          have hb7 : Below w6.heap.size w6 w7 := by rw [← hw7]; exact (Below.refl _ _).alloc (Nat.le_refl _) _
          have HT7 := hid (HT6.out.trans (hb7.mono HT6.out.size))
          have HBW7 := hid (HB4.out.trans (HT7.out.mono HB4.out.size))
          have HRX7 := hid (HRX6.out.below hb7 HRX6.out.lt)
          have HRO7 := hid (show Row w7 w6.heap.size 48 [.int .i64 x.height, .int .i64 x.time, .slice p1 x.root.length d1, .slice p2 x.next.length d2] by rw [← hw7]; exact Row.new _ _ _)
          have HS1 := hid (sameBB ((hx1.below hb7).mono hb7.size) ((HG2.out.below (HBW7.out.mono hN)).mono (Nat.le_trans hN HBW7.out.size)) HXF.out.1)
          have HS2 := hid (show ∀ wx, Below w7.heap.size w7 wx → Calls Tryd.prog 14 #[.slice p2 x.next.length d2, .slice r4 x.next.length s4] wx fun e w' => e = .returned (.bool true) ∧ Below wx.heap.size wx w' from fun wx hx => sameBB (((hx2.below hb7).mono hb7.size).below hx) (((HG3x.out.below (HBW7.out.mono hN)).mono (Nat.le_trans hN HBW7.out.size)).below hx) HXF.out.2)
          have HW7 := hid hw7
          have t1 : (x.time != x.time) = false := by simp
          obtain ⟨⟨a0, a1, a2, a3⟩, _⟩ := HRX6.out.four
          have m1 : wr.heap.size < w6.heap.size := HRX6.out.lt
          have m2 : wr.heap.size ≠ w6.heap.size := by omega
          clear hat hb6 hx1 hx2 hb7 hw7
          go_wp2_with fail
          rw [HW7.out]
          refine HS1.out.mono ?_
          rintro e w8 ⟨rfl, hb8⟩
          have HQ8 := hid hb8
          have HT8 := hid (HT7.out.trans (hb8.mono HT7.out.size))
          have HRX8 := hid (HRX7.out.below hb8 HRX7.out.lt)
          have HRO8 := hid (HRO7.out.below hb8 HRO7.out.lt)
          clear hb8 a0 a1 a2 a3 m1 m2
          obtain ⟨⟨a0, a1, a2, a3⟩, _⟩ := HRX8.out.four
          obtain ⟨⟨b0, b1, b2, b3⟩, _⟩ := HRO8.out.four
          go_wp2_with fail
          refine (HS2.out _ HQ8.out).mono ?_
          rintro e w9 ⟨rfl, hb9⟩
          have HT9 := hid (HT8.out.trans (hb9.mono HT8.out.size))
          clear hb9
          go_wp2
          go_roundw
          case rel => exact ⟨k + 1, by omega, by go_num, hid HT9.out⟩
          case measure => simp [intOf]; omega
        · rw [hat]
          subst hk0
          simp only [Option.isSome]
          generalize knAt d.known x.height = y at *
          have hn30 : n = 30 := by rw [← HN.out]; exact h30'
          have HN30 := hid hn30
          obtain ⟨⟨a0, a1, a2, a3⟩, _⟩ := HRC6.out.four
          have m3 : w.heap.size < w6.heap.size := HRC6.out.lt
          have m4 : w.heap.size ≠ w6.heap.size := by omega
          have e30 : decide ((n : Int) < 30) = false := decide_eq_false (by omega)
          have e30' : decide (n < 30) = false := decide_eq_false (by omega)
          have HT7 := hid (HT6.out.alloc HT6.out.size (.cells #[.int .i64 y.height, .int .i64 y.time, .slice p1 y.root.length d1, .slice p2 y.next.length d2] 48))
          clear hat hb6 hx1 hx2 h30' hn30
          go_wp2
          go_roundw
          case rel => exact ⟨1, by omega, by go_num, hid HT7.out⟩
          case measure => simp [intOf]; omega
      · have hge : decide ((k : Int) < (n : Int)) = false := by simp; omega
        obtain ⟨⟨i0, i1, i2, i3, i4⟩, i5, i6, i7, i8, i9⟩ := HRUr.out.ten
        have m1 : w2.heap.size < wr.heap.size := HRDr.out.lt
        have m2 : w2.heap.size ≠ wr.heap.size := by omega
        have m3 : w.heap.size < wr.heap.size := HRCr.out.lt
        have m4 : w.heap.size ≠ wr.heap.size := by omega
        obtain ⟨w5, hw5⟩ : ∃ w5, wr.alloc (.cells #[.string u.sg.hd.chain, .int .i64 u.sg.hd.height, .int .i64 u.sg.hd.time, .slice o1 u.sg.hd.root.length c1, .slice o2 u.sg.hd.vals.length c2, .slice o3 u.sg.hd.next.length c3] 36) = w5 := ⟨_, rfl⟩
        have hb5 : Below wr.heap.size wr w5 := by rw [← hw5]; exact (Below.refl _ _).alloc (Nat.le_refl _) _
        have HQ5 := hid (HQR.out.trans (hb5.mono HQR.out.size))
        have HBW5 := hid (HBW.out.trans (hb5.mono HBW.out.size))
        have HRH5 := hid (show Row w5 wr.heap.size 36 [.string u.sg.hd.chain, .int .i64 u.sg.hd.height, .int .i64 u.sg.hd.time, .slice o1 u.sg.hd.root.length c1, .slice o2 u.sg.hd.vals.length c2, .slice o3 u.sg.hd.next.length c3] by rw [← hw5]; exact Row.new _ _ _)
        have HRD5 := hid (HRDr.out.below hb5 HRDr.out.lt)
        have HRC5 := hid (HRCr.out.below hb5 HRCr.out.lt)
        have HW5 := hid hw5
        clear hb5 hw5
        go_wp2_with fail
        rw [HW5.out]
        refine (HAT.out u.sg.hd.height _ HQ5.out).mono ?_
        rintro e w6 ⟨hb6, p1, d1, p2, d2, rfl, hx1, hx2⟩
        have HBW6 := hid (HBW5.out.trans (hb6.mono HBW5.out.size))
        have HRH6 := hid (HRH5.out.below hb6 HRH5.out.lt)
        have HRD6 := hid (HRD5.out.below hb6 HRD5.out.lt)
        have HRC6 := hid (HRC5.out.below hb6 HRC5.out.lt)
        clear hb6 a0 a1 a2 a3 b0 b1 b2 b3 m1 m2 m3 m4 i0 i1 i2 i3 i4 i5 i6 i7 i8 i9
        obtain ⟨⟨a0, a1, a2, a3⟩, _⟩ := HRC6.out.four
        obtain ⟨⟨b0, b1, b2, b3⟩, _⟩ := HRD6.out.four
        have m1 : w2.heap.size < w6.heap.size := HRD6.out.lt
        have m2 : w2.heap.size ≠ w6.heap.size := by omega
        have m3 : w.heap.size < w6.heap.size := HRC6.out.lt
        have m4 : w.heap.size ≠ w6.heap.size := by omega
        cases hfz : d.frozen with
        | true =>
          rw [hfz] at b2
          generalize knAt d.known u.sg.hd.height = y at *
          generalize (atK d.known u.sg.hd.height).isSome = ys at *
          clear hfz
          go_wp2
          go_ret
          exact ⟨by first | done | rfl, HBW6.out.alloc HBW6.out.size _⟩
        | false =>
          rw [hfz] at b2
          rcases HTH.out with ht | ht | ⟨ht, hn30⟩
          · rw [hfz] at ht; cases ht
          · rw [knAt_some ht, ht]
            rw [knAt_some ht] at hx1 hx2
            simp only [knOf] at hx1 hx2
            simp only [Option.isSome, knOf]
            obtain ⟨w7, hw7⟩ : ∃ w7, w6.alloc (.cells #[.int .i64 u.sg.hd.height, .int .i64 u.sg.hd.time, .slice p1 u.sg.hd.root.length d1, .slice p2 u.sg.hd.next.length d2] 48) = w7 := ⟨_, rfl⟩
            have hb7 : Below w6.heap.size w6 w7 := by rw [← hw7]; exact (Below.refl _ _).alloc (Nat.le_refl _) _
            have HBW7 := hid (HBW6.out.trans (hb7.mono HBW6.out.size))
            have HRH7 := hid (HRH6.out.below hb7 HRH6.out.lt)
            have HRO7 := hid (show Row w7 w6.heap.size 48 [.int .i64 u.sg.hd.height, .int .i64 u.sg.hd.time, .slice p1 u.sg.hd.root.length d1, .slice p2 u.sg.hd.next.length d2] by rw [← hw7]; exact Row.new _ _ _)
            have HS1 := hid (show Calls Tryd.prog 14 #[.slice p1 u.sg.hd.root.length d1, .slice o1 u.sg.hd.root.length c1] w7 fun e w' => e = .returned (.bool true) ∧ Below w7.heap.size w7 w' from sameBB ((hx1.below hb7).mono hb7.size) ((HG1.out.below (HBW7.out.mono hN)).mono (Nat.le_trans hN HBW7.out.size)) HUF.out.1.1.2.1)
            have HS2 := hid (show ∀ wx, Below w7.heap.size w7 wx → Calls Tryd.prog 14 #[.slice p2 u.sg.hd.next.length d2, .slice o3 u.sg.hd.next.length c3] wx fun e w' => e = .returned (.bool true) ∧ Below wx.heap.size wx w' from fun wx hx => sameBB (((hx2.below hb7).mono hb7.size).below hx) (((HG3.out.below (HBW7.out.mono hN)).mono (Nat.le_trans hN HBW7.out.size)).below hx) HUF.out.1.1.2.2.2)
            have HW7 := hid hw7
            have t1 : (u.sg.hd.time == u.sg.hd.time) = true := by simp
            obtain ⟨k0, k1, k2, k3, k4, k5⟩ := HRH6.out.six
            have m5 : wr.heap.size < w6.heap.size := HRH6.out.lt
            have m6 : wr.heap.size ≠ w6.heap.size := by omega
            clear ht hx1 hx2 hb7 hw7 hfz
            by_cases h3 : n = 30
            all_goals
              have HN3 := hid h3
              first
                | (have e3 : ((n : Int) == 30) = true := by simp; omega)
                | (have e3 : ((n : Int) == 30) = false := by simp; omega)
              clear h3
              go_wp2_with fail
              rw [HW7.out]
              refine HS1.out.mono ?_
              rintro e w8 ⟨rfl, hb8⟩
              have HQ8 := hid hb8
              have HBW8 := hid (HBW7.out.trans (hb8.mono HBW7.out.size))
              have HRH8 := hid (HRH7.out.below hb8 HRH7.out.lt)
              have HRO8 := hid (HRO7.out.below hb8 HRO7.out.lt)
              clear hb8 a0 a1 a2 a3 b0 b1 b2 b3 k0 k1 k2 k3 k4 k5 m1 m2 m3 m4 m5 m6
              obtain ⟨⟨a0, a1, a2, a3⟩, _⟩ := HRO8.out.four
              obtain ⟨k0, k1, k2, k3, k4, k5⟩ := HRH8.out.six
              go_wp2_with fail
              refine (HS2.out _ HQ8.out).mono ?_
              rintro e w9 ⟨rfl, hb9⟩
              have HBW9 := hid (HBW8.out.trans (hb9.mono HBW8.out.size))
              clear hb9
              go_wp2
              go_ret
              exact ⟨by first | done | rfl, HBW9.out⟩
          · rw [ht]
            simp only [Option.isSome]
            generalize knAt d.known u.sg.hd.height = y at *
            have h3 : n = 30 := by rw [← HN.out]; exact hn30
            have e3 : ((n : Int) == 30) = true := by simp; omega
            have HN3 := hid h3
            clear ht hn30 h3 hfz
            go_wp2
            go_ret
            exact ⟨by first | done | rfl, HBW6.out.alloc HBW6.out.size _⟩
  · rw [follow_no he] at HKD
    obtain ⟨od', md', e0, _⟩ := HKD.out.shape
    simp [Cl.none] at e0
    obtain ⟨rfl, rfl, rfl⟩ := e0
    have e1 : (followE c u now != 0) = true := by simpa using he
    generalize followE c u now = z at *
    generalize followC c u now = d at *
    clear he
    go_wp2
    go_ret
    exact ⟨by first | done | rfl, HB2.out.alloc HB2.out.size _⟩
end Go.Proofs.YtiflkkelbnpniaaDoor
