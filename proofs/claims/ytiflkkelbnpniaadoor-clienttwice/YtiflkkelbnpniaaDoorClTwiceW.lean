/-
  ClientTwice returns true, whatever a client, an update and a time read as.
-/
import Derived.Test.YtiflkkelbnpniaaDoorClFollow
import Derived.Test.YtiflkkelbnpniaaDoorClAsk
import Derived.Test.YtiflkkelbnpniaaDoorClSame
import Derived.Test.YtiflkkelbnpniaaDoorClMem
namespace Go.Proofs.YtiflkkelbnpniaaDoor
open Go.RowKit

set_option maxRecDepth 100000 in
set_option maxHeartbeats 8000000 in
theorem clientTwice_any (c : Cl) (u : Up) (now : Int) (cv uv : Value) (N : Nat) (w : World) (htab : tableAt w) (hN : N ≤ w.heap.size) (hcv : ClV w N cv c) (huv : UpV w N uv u) (hcf : c.fits) (huf : u.fits) :
    Calls Tryd.prog 5 #[cv, uv, .int .i64 now] w fun e w' => e = .returned (.bool true) ∧ Below w.heap.size w w' := by
  have HF1 := hid (show ∀ wx, Below w.heap.size w wx → _ from fun wx hx => clFollowC c u now cv uv N wx (htab.below hx htab.lt) (Nat.le_trans hN hx.size) (hcv.below (hx.mono hN)) (huv.below (hx.mono hN)) hcf huf)
  have HUV := hid huv
  have HTAB := hid htab
  have HCF := hid hcf
  have HUF := hid huf
  have HDF := hid (follow_fits (now := now) hcf huf)
  obtain ⟨kv, rfl, hk⟩ := hcv
  obtain ⟨oa, ca, rfl, hca⟩ := hk.shape
  obtain ⟨o1, c1, o2, c2, o3, c3, o4, c4, o5, c5, o6, c6, rfl, -, -, -, -, -, -⟩ := huv.open
  obtain ⟨w0, hw0⟩ : ∃ w0, (w.alloc (.cells #[.string c.chain, .int .i64 c.trust, .bool c.frozen, .slice oa c.known.length ca] 24)).alloc (.cells #[.int .i64 u.frm, .string u.sg.hd.chain, .int .i64 u.sg.hd.height, .int .i64 u.sg.hd.time, .slice o1 u.sg.hd.root.length c1, .slice o2 u.sg.hd.vals.length c2, .slice o3 u.sg.hd.next.length c3, .slice o4 u.sg.vals.length c4, .slice o5 u.sg.votes.length c5, .slice o6 u.trusted.length c6] 42) = w0 := ⟨_, rfl⟩
  have HB0 := hid (show Below w.heap.size w w0 by rw [← hw0]; exact ((Below.refl _ _).alloc (Nat.le_refl _) _).alloc (by simp) _)
  have HRC0 := hid (show Row w0 w.heap.size 24 [.string c.chain, .int .i64 c.trust, .bool c.frozen, .slice oa c.known.length ca] by rw [← hw0]; exact (Row.new _ _ _).alloc _)
  have HRU0 := hid (show Row w0 (w.heap.size + 1) 42 [.int .i64 u.frm, .string u.sg.hd.chain, .int .i64 u.sg.hd.height, .int .i64 u.sg.hd.time, .slice o1 u.sg.hd.root.length c1, .slice o2 u.sg.hd.vals.length c2, .slice o3 u.sg.hd.next.length c3, .slice o4 u.sg.vals.length c4, .slice o5 u.sg.votes.length c5, .slice o6 u.trusted.length c6] by rw [← hw0]; exact Row.newAt _ _ _ _ (by simp))
  have HW0 := hid hw0
  clear htab hcf huf hk huv hw0 hca
  go_enter Tryd.func5, Tryd.ntmps5
  go_wp2_with fail
  rw [HW0.out]
  refine (alive7_any w0).mono ?_
  rintro e w1 ⟨rfl, hb1⟩
  have HB1 := hid (HB0.out.trans (hb1.mono HB0.out.size))
  have HRC1 := hid (HRC0.out.below hb1 HRC0.out.lt)
  have HRU1 := hid (HRU0.out.below hb1 HRU0.out.lt)
  obtain ⟨⟨a0, a1, a2, a3⟩, _⟩ := HRC1.out.four
  obtain ⟨⟨i0, i1, i2, i3, i4⟩, i5, i6, i7, i8, i9⟩ := HRU1.out.ten
  clear hb1
  go_wp2_with fail
  refine (HF1.out _ HB1.out).mono ?_
  rintro e w2 ⟨hb2, od, nd, md, rfl, hkd⟩
  have HB2 := hid (HB1.out.trans (hb2.mono HB1.out.size))
  have HRU2 := hid (HRU1.out.below hb2 HRU1.out.lt)
  have HKD := hid hkd
  clear hb2 hkd a0 a1 a2 a3 i0 i1 i2 i3 i4 i5 i6 i7 i8 i9
  by_cases he : followE c u now = 0
  · rw [he]
    have HE := hid he
    clear he
    obtain ⟨w3, hw3⟩ : ∃ w3, w2.alloc (.cells #[.string (followC c u now).chain, .int .i64 (followC c u now).trust, .bool (followC c u now).frozen, .slice od nd md] 24) = w3 := ⟨_, rfl⟩
    have hb3 : Below w2.heap.size w2 w3 := by rw [← hw3]; exact (Below.refl _ _).alloc (Nat.le_refl _) _
    have HB3 := hid (HB2.out.trans (hb3.mono HB2.out.size))
    have HRD3 := hid (show Row w3 w2.heap.size 24 [.string (followC c u now).chain, .int .i64 (followC c u now).trust, .bool (followC c u now).frozen, .slice od nd md] by rw [← hw3]; exact Row.new _ _ _)
    have HRU3 := hid (HRU2.out.below hb3 HRU2.out.lt)
    have HDV := hid (show ClV w3 w3.heap.size (.agg #[.string (followC c u now).chain, .int .i64 (followC c u now).trust, .bool (followC c u now).frozen, .slice od nd md]) (followC c u now) from ⟨_, rfl, (HKD.out.below hb3).mono hb3.size⟩)
    have HTW := hid (follow_twice (c := c) (u := u) (now := now) HE.out)
    have HW3 := hid hw3
    have hlt2 : w.heap.size + 1 < w2.heap.size := HRU2.out.lt
    have hne2 : w.heap.size + 1 ≠ w2.heap.size := by omega
    clear hb3 hw3
    generalize hd : followC c u now = d at *
    have HD := hid hd
    clear hd
    by_cases hfz : d.frozen = true
    · have HFZ := hid hfz
      rw [HFZ.out]
      clear hfz
      go_wp2
      go_ret
      exact ⟨by first | done | rfl, HB2.out.alloc HB2.out.size _⟩
    · have hfz' : d.frozen = false := by simpa using hfz
      have HFZ := hid hfz'
      have HTW2 := hid (HTW.out hfz')
      clear hfz hfz' HTW
      rw [HFZ.out] at HDV HRD3 HW3
      rw [HFZ.out]
      have HAT := hid (show ∀ (h : Int) (wx : World), Below w3.heap.size w3 wx → Calls Tryd.prog 13 #[.agg #[.string d.chain, .int .i64 d.trust, .bool false, .slice od nd md], .int .i64 h] wx _ from fun h wx hx => atC d h (.agg #[.string d.chain, .int .i64 d.trust, .bool false, .slice od nd md]) w3.heap.size wx (HDV.out.below hx) hx.size HDF.out)
      have HF2 := hid (show ∀ wx, Below w3.heap.size w3 wx → Calls Tryd.prog 11 #[.agg #[.string d.chain, .int .i64 d.trust, .bool false, .slice od nd md], .agg #[.int .i64 u.frm, .string u.sg.hd.chain, .int .i64 u.sg.hd.height, .int .i64 u.sg.hd.time, .slice o1 u.sg.hd.root.length c1, .slice o2 u.sg.hd.vals.length c2, .slice o3 u.sg.hd.next.length c3, .slice o4 u.sg.vals.length c4, .slice o5 u.sg.votes.length c5, .slice o6 u.trusted.length c6], .int .i64 now] wx _ from fun wx hx => by
        have hbw := HB3.out.trans (hx.mono HB3.out.size)
        exact clFollowC d u now _ _ w3.heap.size wx (HTAB.out.below hbw HTAB.out.lt) hx.size (HDV.out.below hx) ((HUV.out.below (hbw.mono hN)).mono (Nat.le_trans hN HB3.out.size)) HDF.out HUF.out)
      obtain ⟨⟨i0, i1, i2, i3, i4⟩, i5, i6, i7, i8, i9⟩ := HRU2.out.ten
      go_wp2_with fail
      rw [HW3.out]
      refine (HAT.out u.sg.hd.height _ (Below.refl _ _)).mono ?_
      rintro e w4 ⟨hb4, p1, d1, p2, d2, rfl, -, -⟩
      have HQ4 := hid hb4
      have HB4 := hid (HB3.out.trans (hb4.mono HB3.out.size))
      clear hb4 hlt2 hne2 i0 i1 i2 i3 i4 i5 i6 i7 i8 i9
      generalize knAt d.known u.sg.hd.height = k1 at *
      cases hs : (atK d.known u.sg.hd.height).isSome with
      | false =>
        clear hs
        go_wp2
        go_ret
        exact ⟨by first | done | rfl, HB4.out.alloc HB4.out.size _⟩
      | true =>
        have HTW3 := hid (HTW2.out hs)
        clear hs HTW2
        obtain ⟨w5, hw5⟩ : ∃ w5, w4.alloc (.cells #[.int .i64 k1.height, .int .i64 k1.time, .slice p1 k1.root.length d1, .slice p2 k1.next.length d2] 48) = w5 := ⟨_, rfl⟩
        have hb5 : Below w4.heap.size w4 w5 := by rw [← hw5]; exact (Below.refl _ _).alloc (Nat.le_refl _) _
        have HQ5 := hid (HQ4.out.trans (hb5.mono HQ4.out.size))
        have HB5 := hid (HB3.out.trans (HQ5.out.mono HB3.out.size))
        have HRD4 := hid (HRD3.out.below HQ4.out HRD3.out.lt)
        have HRU4 := hid (HRU3.out.below HQ4.out HRU3.out.lt)
        have HRD5 := hid (HRD3.out.below HQ5.out HRD3.out.lt)
        have HRU5 := hid (HRU3.out.below HQ5.out HRU3.out.lt)
        have HW5 := hid hw5
        obtain ⟨⟨a0, a1, a2, a3⟩, _⟩ := HRD4.out.four
        obtain ⟨⟨i0, i1, i2, i3, i4⟩, i5, i6, i7, i8, i9⟩ := HRU4.out.ten
        have hl1 : w2.heap.size < w4.heap.size := HRD4.out.lt
        have hl2 : w.heap.size + 1 < w4.heap.size := HRU4.out.lt
        have hn1 : w2.heap.size ≠ w4.heap.size := by omega
        have hn2 : w.heap.size + 1 ≠ w4.heap.size := by omega
        clear hb5 hw5
        go_wp2_with fail
        rw [HW5.out]
        refine (HF2.out _ HQ5.out).mono ?_
        rintro e w6 ⟨hb6, oe, ne, me, rfl, hke⟩
        have HQ6 := hid (HQ5.out.trans (hb6.mono HQ5.out.size))
        have HB6 := hid (HB3.out.trans (HQ6.out.mono HB3.out.size))
        have HKE := hid hke
        clear hb6 hke hl1 hl2 hn1 hn2 a0 a1 a2 a3 i0 i1 i2 i3 i4 i5 i6 i7 i8 i9
        obtain ⟨f, hf⟩ : ∃ f, followC d u now = f := ⟨_, rfl⟩
        rw [hf] at HKE
        rw [hf]
        obtain ⟨w7, hw7⟩ : ∃ w7, w6.alloc (.cells #[.string f.chain, .int .i64 f.trust, .bool f.frozen, .slice oe ne me] 24) = w7 := ⟨_, rfl⟩
        have hb7 : Below w6.heap.size w6 w7 := by rw [← hw7]; exact (Below.refl _ _).alloc (Nat.le_refl _) _
        have HQ7 := hid (HQ6.out.trans (hb7.mono HQ6.out.size))
        have HB7 := hid (HB3.out.trans (HQ7.out.mono HB3.out.size))
        have HRF7 := hid (show Row w7 w6.heap.size 24 [.string f.chain, .int .i64 f.trust, .bool f.frozen, .slice oe ne me] by rw [← hw7]; exact Row.new _ _ _)
        have HKE7 := hid ((HKE.out.below hb7).mono hb7.size)
        have HRD6 := hid (HRD3.out.below HQ6.out HRD3.out.lt)
        have HRU6 := hid (HRU3.out.below HQ6.out HRU3.out.lt)
        have HW7 := hid hw7
        obtain ⟨⟨a0, a1, a2, a3⟩, _⟩ := HRD6.out.four
        obtain ⟨⟨i0, i1, i2, i3, i4⟩, i5, i6, i7, i8, i9⟩ := HRU6.out.ten
        have hl1 : w2.heap.size < w6.heap.size := HRD6.out.lt
        have hl2 : w.heap.size + 1 < w6.heap.size := HRU6.out.lt
        have hn1 : w2.heap.size ≠ w6.heap.size := by omega
        have hn2 : w.heap.size + 1 ≠ w6.heap.size := by omega
        have HFE := hid hf
        clear hb7 hw7 hf
        cases hs : atK d.known u.frm with
        | none =>
          have HFF := hid (HTW3.out.1 hs)
          rw [HFF.out]
          have HSN := hid hs
          clear hs
          go_wp2_with fail
          rw [HW7.out]
          refine (HAT.out u.frm _ HQ7.out).mono ?_
          rintro e w8 ⟨hb8, p3, d3, p4, d4, rfl, -, -⟩
          rw [HSN.out]
          have HB8 := hid (HB7.out.trans (hb8.mono HB7.out.size))
          clear hb8
          generalize knAt d.known u.frm = k2 at *
          simp only [Option.isSome]
          go_wp2
          go_ret
          exact ⟨by first | done | rfl, HB8.out.alloc HB8.out.size _⟩
        | some x =>
          obtain ⟨hz, hfd⟩ := HTW3.out.2 (by rw [hs]; rfl)
          rw [hz]
          have HSN := hid hs
          have hfd' : f = d := by rw [← HFE.out]; exact hfd
          subst hfd'
          have HZ := hid hz
          have HSM := hid (show ∀ wx, Below w7.heap.size w7 wx → Calls Tryd.prog 15 #[.agg #[.string f.chain, .int .i64 f.trust, .bool false, .slice od nd md], .agg #[.string f.chain, .int .i64 f.trust, .bool f.frozen, .slice oe ne me]] wx fun e w' => e = .returned (.bool true) ∧ Below wx.heap.size wx w' from fun wx hx =>
            sameCl_any f _ _ w7.heap.size wx hx.size ((HDV.out.below (HQ7.out.trans (hx.mono HQ7.out.size))).mono HQ7.out.size) ⟨_, rfl, HKE7.out.below hx⟩ HDF.out)
          clear hs hfd hz
          go_wp2_with fail
          rw [HW7.out]
          refine (HAT.out u.frm _ HQ7.out).mono ?_
          rintro e w8 ⟨hb8, p3, d3, p4, d4, rfl, -, -⟩
          rw [HSN.out]
          have HB8 := hid (HB7.out.trans (hb8.mono HB7.out.size))
          have HQ8 := hid hb8
          have HRD8 := hid ((HRD3.out.below HQ7.out HRD3.out.lt).below hb8 (Nat.lt_of_lt_of_le HRD3.out.lt HQ7.out.size))
          have HRF8 := hid (HRF7.out.below hb8 HRF7.out.lt)
          generalize knAt f.known u.frm = k2 at *
          obtain ⟨w9, hw9⟩ : ∃ w9, w8.alloc (.cells #[.int .i64 k2.height, .int .i64 k2.time, .slice p3 k2.root.length d3, .slice p4 k2.next.length d4] 48) = w9 := ⟨_, rfl⟩
          have hb9 : Below w8.heap.size w8 w9 := by rw [← hw9]; exact (Below.refl _ _).alloc (Nat.le_refl _) _
          have HQ9 := hid (HQ8.out.trans (hb9.mono HQ8.out.size))
          have HB9 := hid (HB7.out.trans (HQ9.out.mono HB7.out.size))
          have HW9 := hid hw9
          clear hb8 hb9 hw9 hl1 hl2 hn1 hn2 a0 a1 a2 a3 i0 i1 i2 i3 i4 i5 i6 i7 i8 i9
          obtain ⟨⟨a0, a1, a2, a3⟩, _⟩ := HRD8.out.four
          obtain ⟨⟨b0, b1, b2, b3⟩, _⟩ := HRF8.out.four
          have hl1 : w2.heap.size < w8.heap.size := HRD8.out.lt
          have hl2 : w6.heap.size < w8.heap.size := HRF8.out.lt
          have hn1 : w2.heap.size ≠ w8.heap.size := by omega
          have hn2 : w6.heap.size ≠ w8.heap.size := by omega
          simp only [Option.isSome]
          go_wp2_with fail
          rw [HW9.out]
          refine (HSM.out _ HQ9.out).mono ?_
          rintro e w10 ⟨rfl, hb10⟩
          have HB10 := hid (HB9.out.trans (hb10.mono HB9.out.size))
          clear hb10
          go_wp2
          go_ret
          exact ⟨by first | done | rfl, HB10.out⟩
  · have e1 : (followE c u now != 0) = true := by simpa using he
    generalize followE c u now = z at *
    generalize followC c u now = d at *
    clear he
    go_wp2
    go_ret
    exact ⟨by first | done | rfl, HB2.out.alloc HB2.out.size _⟩
end Go.Proofs.YtiflkkelbnpniaaDoor
