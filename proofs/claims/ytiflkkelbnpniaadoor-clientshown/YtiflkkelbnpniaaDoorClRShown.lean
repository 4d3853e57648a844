/-
  What the document's Member and Missing answer.
-/
import Derived.Test.YtiflkkelbnpniaaDoorClRAsk
import Derived.Test.YtiflkkelbnpniaaDoorClShown
import Derived.Test.YtiflkkelbnpniaaDoorRef5Abs
namespace Go.Proofs.YtiflkkelbnpniaaDoor
open Go.RowKit

set_option maxRecDepth 100000 in
set_option maxHeartbeats 4000000 in
theorem refMemberC : MemberC 7 := by
  intro c now height key val p cv kv vv pv N w htab hN hcv hk hv hp hcf hkl hvl hpf
  have HSS := hid (show ∀ wx, Below w.heap.size w wx → ∀ (root : List (BitVec 8)) (rv : Value), Bytes wx wx.heap.size rv root → root.length ≤ 140737488351232 → _ from fun wx hx root rv hr hrl => refShownC root p rv pv wx.heap.size wx (htab.below hx htab.lt) (Nat.le_refl _) hr ((hp.below (hx.mono hN)).mono (Nat.le_trans hN hx.size)) hpf hrl)
  have HP := hid hp
  have HKK := hid hk
  have HV := hid hv
  obtain ⟨x1, x2, x3, rfl, h1, h2, h3⟩ := hp
  have HE1 := hid (show ∀ wx, Below w.heap.size w wx → _ from fun wx hx => sameB_any p.key key x1 kv N N wx (h1.below (hx.mono hN)) (hk.below (hx.mono hN)) (by have := hpf.1; omega) (by omega))
  have HE2 := hid (show ∀ wx, Below w.heap.size w wx → _ from fun wx hx => sameB_any p.val val x2 vv N N wx (h2.below (hx.mono hN)) (hv.below (hx.mono hN)) (by have := hpf.2.1; omega) (by omega))
  obtain ⟨q1, y1, rfl, -⟩ := h1.shape
  obtain ⟨q2, y2, rfl, -⟩ := h2.shape
  obtain ⟨q3, y3, rfl, -⟩ := h3.shape
  obtain ⟨o1, c1, rfl, -⟩ := hk.shape
  obtain ⟨o2, c2, rfl, -⟩ := hv.shape
  clear h1 h2 h3 hk hv hpf hkl hvl
  have HAS := hid (show ∀ wx, Below w.heap.size w wx → _ from fun wx hx => refAskedC c now cv N wx (hcv.below (hx.mono hN)) (Nat.le_trans hN hx.size) hcf)
  have HFI := hid (show ∀ wx, Below w.heap.size w wx → _ from fun wx hx => refAtC c height cv N wx (hcv.below (hx.mono hN)) (Nat.le_trans hN hx.size) hcf)
  have HCV := hid hcv
  have HCF := hid hcf
  obtain ⟨xv, rfl, hkn⟩ := hcv
  obtain ⟨oa, ca, rfl, hca⟩ := hkn.shape
  obtain ⟨w0, hw0⟩ : ∃ w0, (w.alloc (.cells #[.string c.chain, .int .i64 c.trust, .bool c.frozen, .slice oa c.known.length ca] 24)).alloc (.cells #[.int .i64 p.index, .int .i64 p.size, .slice q1 p.key.length y1, .slice q2 p.val.length y2, .slice q3 p.path.length y3] 28) = w0 := ⟨_, rfl⟩
  have HB0 := hid (show Below w.heap.size w w0 by rw [← hw0]; exact ((Below.refl _ _).alloc (Nat.le_refl _) _).alloc (by simp) _)
  have HR0 := hid (show Row w0 w.heap.size 24 [.string c.chain, .int .i64 c.trust, .bool c.frozen, .slice oa c.known.length ca] by rw [← hw0]; exact (Row.new _ _ _).alloc _)
  have HP0 := hid (show Row w0 (w.heap.size + 1) 28 [.int .i64 p.index, .int .i64 p.size, .slice q1 p.key.length y1, .slice q2 p.val.length y2, .slice q3 p.path.length y3] by rw [← hw0]; exact Row.newAt _ _ _ _ (by simp))
  have HW0 := hid hw0
  obtain ⟨⟨a0, a1, a2, a3⟩, -⟩ := HR0.out.four
  clear hw0 hkn hcf hca htab
  go_enter Tryd.func7, Tryd.ntmps7
  go_wp2_with fail
  rw [HW0.out]
  refine (HAS.out _ HB0.out).mono ?_
  rintro e w1 ⟨rfl, hb1⟩
  have HB1 := hid (HB0.out.trans (hb1.mono HB0.out.size))
  have HR1 := hid (HR0.out.below hb1 HR0.out.lt)
  have HP1 := hid (HP0.out.below hb1 HP0.out.lt)
  clear hb1 a0 a1 a2 a3
  obtain ⟨⟨a0, a1, a2, a3⟩, -⟩ := HR1.out.four
  by_cases hask : askedN c now = 0
  · rw [hask]
    have HASK := hid hask
    have HAC := hid (show ∀ wx, Below w.heap.size w wx → Calls Tryd.prog 22 #[.agg #[.string c.chain, .int .i64 c.trust, .bool c.frozen, .slice oa c.known.length ca], .int .i64 now] wx _ from fun wx hx => refActiveC c now _ N wx (HCV.out.below (hx.mono hN)) (Nat.le_trans hN hx.size) (askedN_ok HASK.out).1 (askedN_ok HASK.out).2.1)
    clear hask
    go_wp2_with fail
    refine (HFI.out _ HB1.out).mono ?_
    rintro e w2 ⟨hb2, p1, d1, p2, d2, rfl, hx1, hx2⟩
    have HB2 := hid (HB1.out.trans (hb2.mono HB1.out.size))
    have HR2 := hid (HR1.out.below hb2 HR1.out.lt)
    have HP2 := hid (HP1.out.below hb2 HP1.out.lt)
    clear hb2 a0 a1 a2 a3
    obtain ⟨⟨a0, a1, a2, a3⟩, -⟩ := HR2.out.four
    have m1 : w.heap.size < w2.heap.size := HR2.out.lt
    have m2 : w.heap.size ≠ w2.heap.size := by omega
    cases hat : atK c.known height with
    | none =>
      have HAT := hid hat
      clear hat hx1 hx2
      simp only [Option.isSome]
      generalize knAt c.known height = k at *
      go_wp2
      go_ret
      exact ⟨HB2.out.alloc HB2.out.size _, _, rfl, .inr (.inl ⟨HASK.out, HAT.out, rfl⟩)⟩
    | some k =>
      have HAT := hid hat
      rw [knAt_some hat] at hx1
      rw [knAt_some hat]
      simp only [Option.isSome]
      obtain ⟨w3, hw3⟩ : ∃ w3, w2.alloc (.cells #[.int .i64 k.height, .int .i64 k.time, .slice p1 k.root.length d1, .slice p2 k.next.length d2] 48) = w3 := ⟨_, rfl⟩
      have hb3 : Below w2.heap.size w2 w3 := by rw [← hw3]; exact (Below.refl _ _).alloc (Nat.le_refl _) _
      have HB3 := hid (HB2.out.trans (hb3.mono HB2.out.size))
      have HRK3 := hid (show Row w3 w2.heap.size 48 [.int .i64 k.height, .int .i64 k.time, .slice p1 k.root.length d1, .slice p2 k.next.length d2] by rw [← hw3]; exact Row.new _ _ _)
      have HP3 := hid (HP2.out.below hb3 HP2.out.lt)
      have HX1 := hid ((hx1.below hb3).mono hb3.size)
      have HKF := hid (HCF.out.2.2 k (atK_some hat).1)
      have HW3 := hid hw3
      clear hat hx1 hx2 hb3 hw3
      go_wp2_with fail
      rw [HW3.out]
      refine (HAC.out _ HB3.out).mono ?_
      rintro e w4 ⟨rfl, hb4⟩
      have HB4 := hid (HB3.out.trans (hb4.mono HB3.out.size))
      have HRK4 := hid (HRK3.out.below hb4 HRK3.out.lt)
      have HP4 := hid (HP3.out.below hb4 HP3.out.lt)
      have HX4 := hid ((HX1.out.below hb4).mono hb4.size)
      clear hb4 a0 a1 a2 a3 m1 m2
      obtain ⟨⟨a0, a1, a2, a3⟩, -⟩ := HRK4.out.four
      obtain ⟨b0, b1, b2, b3, b4⟩ := Row.five HP4.out
      cases hac : activeB c now with
      | false =>
        have HACT := hid hac
        clear hac
        go_wp2
        go_ret
        exact ⟨HB4.out, _, rfl, .inr (.inr ⟨HASK.out, k, HAT.out, .inl ⟨HACT.out, rfl⟩⟩)⟩
      | true =>
        have HACT := hid hac
        clear hac
        by_cases e1 : p.key = key
        · rw [decide_eq_true e1] at HE1
          have HQ1 := hid e1
          clear e1
          go_wp2_with fail
          refine (HE1.out _ HB4.out).mono ?_
          rintro e w5 ⟨rfl, hdr⟩
          have hb5 : Below w4.heap.size w4 w5 := by obtain ⟨q, hq⟩ := hdr; rw [hq]; exact below_drewH _ _ _
          clear hdr
          have HB5 := hid (HB4.out.trans (hb5.mono HB4.out.size))
          have HRK5 := hid (HRK4.out.below hb5 HRK4.out.lt)
          have HP5 := hid (HP4.out.below hb5 HP4.out.lt)
          have HX5 := hid ((HX4.out.below hb5).mono hb5.size)
          clear hb5 a0 a1 a2 a3 b0 b1 b2 b3 b4
          obtain ⟨⟨a0, a1, a2, a3⟩, -⟩ := HRK5.out.four
          obtain ⟨b0, b1, b2, b3, b4⟩ := Row.five HP5.out
          by_cases e2 : p.val = val
          · rw [decide_eq_true e2] at HE2
            have HQ2 := hid e2
            clear e2
            go_wp2_with fail
            refine (HE2.out _ HB5.out).mono ?_
            rintro e w6 ⟨rfl, hdr⟩
            have hb6 : Below w5.heap.size w5 w6 := by obtain ⟨q, hq⟩ := hdr; rw [hq]; exact below_drewH _ _ _
            clear hdr
            have HB6 := hid (HB5.out.trans (hb6.mono HB5.out.size))
            have HRK6 := hid (HRK5.out.below hb6 HRK5.out.lt)
            have HP6 := hid (HP5.out.below hb6 HP5.out.lt)
            have HX6 := hid ((HX5.out.below hb6).mono hb6.size)
            clear hb6 a0 a1 a2 a3 b0 b1 b2 b3 b4
            obtain ⟨⟨a0, a1, a2, a3⟩, -⟩ := HRK6.out.four
            obtain ⟨b0, b1, b2, b3, b4⟩ := Row.five HP6.out
            go_wp2_with fail
            refine (HSS.out w6 HB6.out k.root _ HX6.out HKF.out.1).mono ?_
            rintro e w9 ⟨hb9, bb, rfl, hbb⟩
            have HB9 := hid (HB6.out.trans (hb9.mono HB6.out.size))
            have HBB := hid hbb
            clear hb9 hbb
            cases bb with
            | true =>
              go_wp2
              go_ret
              exact ⟨HB9.out, _, rfl, .inr (.inr ⟨HASK.out, k, HAT.out, .inr ⟨HACT.out, .inl ⟨⟨HQ1.out, HQ2.out, HBB.out.1 (by simp)⟩, rfl⟩⟩⟩)⟩
            | false =>
              go_wp2
              go_ret
              exact ⟨HB9.out, _, rfl, .inr (.inr ⟨HASK.out, k, HAT.out, .inr ⟨HACT.out, .inr ⟨fun h => absurd (HBB.out.2 h.2.2) (by simp), rfl⟩⟩⟩)⟩
          · rw [decide_eq_false e2] at HE2
            have HQ2 := hid e2
            clear e2
            go_wp2_with fail
            refine (HE2.out _ HB5.out).mono ?_
            rintro e w6 ⟨rfl, hdr⟩
            have hb6 : Below w5.heap.size w5 w6 := by obtain ⟨q, hq⟩ := hdr; rw [hq]; exact below_drewH _ _ _
            clear hdr
            have HB6 := hid (HB5.out.trans (hb6.mono HB5.out.size))
            have HRK6 := hid (HRK5.out.below hb6 HRK5.out.lt)
            have HP6 := hid (HP5.out.below hb6 HP5.out.lt)
            have HX6 := hid ((HX5.out.below hb6).mono hb6.size)
            clear hb6 a0 a1 a2 a3 b0 b1 b2 b3 b4
            obtain ⟨⟨a0, a1, a2, a3⟩, -⟩ := HRK6.out.four
            obtain ⟨b0, b1, b2, b3, b4⟩ := Row.five HP6.out
            go_wp2
            go_ret
            exact ⟨HB6.out, _, rfl, .inr (.inr ⟨HASK.out, k, HAT.out, .inr ⟨HACT.out, .inr ⟨fun h => HQ2.out h.2.1, rfl⟩⟩⟩)⟩
        · rw [decide_eq_false e1] at HE1
          have HQ1 := hid e1
          clear e1
          go_wp2_with fail
          refine (HE1.out _ HB4.out).mono ?_
          rintro e w5 ⟨rfl, hdr⟩
          have hb5 : Below w4.heap.size w4 w5 := by obtain ⟨q, hq⟩ := hdr; rw [hq]; exact below_drewH _ _ _
          clear hdr
          have HB5 := hid (HB4.out.trans (hb5.mono HB4.out.size))
          have HRK5 := hid (HRK4.out.below hb5 HRK4.out.lt)
          have HP5 := hid (HP4.out.below hb5 HP4.out.lt)
          have HX5 := hid ((HX4.out.below hb5).mono hb5.size)
          clear hb5 a0 a1 a2 a3 b0 b1 b2 b3 b4
          obtain ⟨⟨a0, a1, a2, a3⟩, -⟩ := HRK5.out.four
          obtain ⟨b0, b1, b2, b3, b4⟩ := Row.five HP5.out
          go_wp2
          go_ret
          exact ⟨HB5.out, _, rfl, .inr (.inr ⟨HASK.out, k, HAT.out, .inr ⟨HACT.out, .inr ⟨fun h => HQ1.out h.1, rfl⟩⟩⟩)⟩
  · have HASK := hid hask
    have e1 : (askedN c now != 0) = true := by simpa using hask
    clear hask
    generalize hz : askedN c now = z at *
    have HZ := hid hz
    clear hz
    go_wp2
    go_ret
    exact ⟨HB1.out, _, rfl, .inl ⟨by rw [HZ.out]; exact HASK.out, HZ.out.symm⟩⟩
set_option maxRecDepth 100000 in
set_option maxHeartbeats 4000000 in
theorem refMissingC : MissingC 9 := by
  intro c now height key g cv kv gv N w htab hN hcv hk hg hcf hkl hgf
  have HSS := hid (show ∀ wx, Below w.heap.size w wx → ∀ (root : List (BitVec 8)) (rv : Value), Bytes wx wx.heap.size rv root → root.length ≤ 140737488351232 → _ from fun wx hx root rv hr hrl => refAbsentC root key g rv kv gv wx.heap.size wx (htab.below hx htab.lt) (Nat.le_refl _) hr ((hk.below (hx.mono hN)).mono (Nat.le_trans hN hx.size)) ((hg.below (hx.mono hN)).mono (Nat.le_trans hN hx.size)) hgf hrl hkl)
  obtain ⟨k1, v1, t1, k2, v2, t2, rfl, h1, h2, h3, h4, h5, h6⟩ := hg
  obtain ⟨q1, y1, rfl, -⟩ := h1.shape
  obtain ⟨q2, y2, rfl, -⟩ := h2.shape
  obtain ⟨q3, y3, rfl, -⟩ := h3.shape
  obtain ⟨q4, y4, rfl, -⟩ := h4.shape
  obtain ⟨q5, y5, rfl, -⟩ := h5.shape
  obtain ⟨q6, y6, rfl, -⟩ := h6.shape
  obtain ⟨o1, c1, rfl, -⟩ := hk.shape
  clear h1 h2 h3 h4 h5 h6 hk hgf hkl
  have HAS := hid (show ∀ wx, Below w.heap.size w wx → _ from fun wx hx => refAskedC c now cv N wx (hcv.below (hx.mono hN)) (Nat.le_trans hN hx.size) hcf)
  have HFI := hid (show ∀ wx, Below w.heap.size w wx → _ from fun wx hx => refAtC c height cv N wx (hcv.below (hx.mono hN)) (Nat.le_trans hN hx.size) hcf)
  have HCV := hid hcv
  have HCF := hid hcf
  obtain ⟨xv, rfl, hkn⟩ := hcv
  obtain ⟨oa, ca, rfl, hca⟩ := hkn.shape
  obtain ⟨w0, hw0⟩ : ∃ w0, (w.alloc (.cells #[.string c.chain, .int .i64 c.trust, .bool c.frozen, .slice oa c.known.length ca] 24)).alloc (.cells #[.bool g.hasL, .bool g.hasR, .int .i64 g.left.index, .int .i64 g.left.size, .slice q1 g.left.key.length y1, .slice q2 g.left.val.length y2, .slice q3 g.left.path.length y3, .int .i64 g.right.index, .int .i64 g.right.size, .slice q4 g.right.key.length y4, .slice q5 g.right.val.length y5, .slice q6 g.right.path.length y6] 30) = w0 := ⟨_, rfl⟩
  have HB0 := hid (show Below w.heap.size w w0 by rw [← hw0]; exact ((Below.refl _ _).alloc (Nat.le_refl _) _).alloc (by simp) _)
  have HR0 := hid (show Row w0 w.heap.size 24 [.string c.chain, .int .i64 c.trust, .bool c.frozen, .slice oa c.known.length ca] by rw [← hw0]; exact (Row.new _ _ _).alloc _)
  have HP0 := hid (show Row w0 (w.heap.size + 1) 30 [.bool g.hasL, .bool g.hasR, .int .i64 g.left.index, .int .i64 g.left.size, .slice q1 g.left.key.length y1, .slice q2 g.left.val.length y2, .slice q3 g.left.path.length y3, .int .i64 g.right.index, .int .i64 g.right.size, .slice q4 g.right.key.length y4, .slice q5 g.right.val.length y5, .slice q6 g.right.path.length y6] by rw [← hw0]; exact Row.newAt _ _ _ _ (by simp))
  have HW0 := hid hw0
  obtain ⟨⟨a0, a1, a2, a3⟩, -⟩ := HR0.out.four
  clear hw0 hkn hcf hca htab
  go_enter Tryd.func9, Tryd.ntmps9
  go_wp2_with fail
  rw [HW0.out]
  refine (HAS.out _ HB0.out).mono ?_
  rintro e w1 ⟨rfl, hb1⟩
  have HB1 := hid (HB0.out.trans (hb1.mono HB0.out.size))
  have HR1 := hid (HR0.out.below hb1 HR0.out.lt)
  have HP1 := hid (HP0.out.below hb1 HP0.out.lt)
  clear hb1 a0 a1 a2 a3
  obtain ⟨⟨a0, a1, a2, a3⟩, -⟩ := HR1.out.four
  by_cases hask : askedN c now = 0
  · rw [hask]
    have HASK := hid hask
    have HAC := hid (show ∀ wx, Below w.heap.size w wx → Calls Tryd.prog 22 #[.agg #[.string c.chain, .int .i64 c.trust, .bool c.frozen, .slice oa c.known.length ca], .int .i64 now] wx _ from fun wx hx => refActiveC c now _ N wx (HCV.out.below (hx.mono hN)) (Nat.le_trans hN hx.size) (askedN_ok HASK.out).1 (askedN_ok HASK.out).2.1)
    clear hask
    go_wp2_with fail
    refine (HFI.out _ HB1.out).mono ?_
    rintro e w2 ⟨hb2, p1, d1, p2, d2, rfl, hx1, hx2⟩
    have HB2 := hid (HB1.out.trans (hb2.mono HB1.out.size))
    have HR2 := hid (HR1.out.below hb2 HR1.out.lt)
    have HP2 := hid (HP1.out.below hb2 HP1.out.lt)
    clear hb2 a0 a1 a2 a3
    obtain ⟨⟨a0, a1, a2, a3⟩, -⟩ := HR2.out.four
    have m1 : w.heap.size < w2.heap.size := HR2.out.lt
    have m2 : w.heap.size ≠ w2.heap.size := by omega
    cases hat : atK c.known height with
    | none =>
      have HAT := hid hat
      clear hat hx1 hx2
      simp only [Option.isSome]
      generalize knAt c.known height = k at *
      go_wp2
      go_ret
      exact ⟨HB2.out.alloc HB2.out.size _, _, rfl, .inr (.inl ⟨HASK.out, HAT.out, rfl⟩)⟩
    | some k =>
      have HAT := hid hat
      rw [knAt_some hat] at hx1
      rw [knAt_some hat]
      simp only [Option.isSome]
      obtain ⟨w3, hw3⟩ : ∃ w3, w2.alloc (.cells #[.int .i64 k.height, .int .i64 k.time, .slice p1 k.root.length d1, .slice p2 k.next.length d2] 48) = w3 := ⟨_, rfl⟩
      have hb3 : Below w2.heap.size w2 w3 := by rw [← hw3]; exact (Below.refl _ _).alloc (Nat.le_refl _) _
      have HB3 := hid (HB2.out.trans (hb3.mono HB2.out.size))
      have HRK3 := hid (show Row w3 w2.heap.size 48 [.int .i64 k.height, .int .i64 k.time, .slice p1 k.root.length d1, .slice p2 k.next.length d2] by rw [← hw3]; exact Row.new _ _ _)
      have HP3 := hid (HP2.out.below hb3 HP2.out.lt)
      have HX1 := hid ((hx1.below hb3).mono hb3.size)
      have HKF := hid (HCF.out.2.2 k (atK_some hat).1)
      have HW3 := hid hw3
      clear hat hx1 hx2 hb3 hw3
      go_wp2_with fail
      rw [HW3.out]
      refine (HAC.out _ HB3.out).mono ?_
      rintro e w4 ⟨rfl, hb4⟩
      have HB4 := hid (HB3.out.trans (hb4.mono HB3.out.size))
      have HRK4 := hid (HRK3.out.below hb4 HRK3.out.lt)
      have HP4 := hid (HP3.out.below hb4 HP3.out.lt)
      have HX4 := hid ((HX1.out.below hb4).mono hb4.size)
      clear hb4 a0 a1 a2 a3 m1 m2
      obtain ⟨⟨a0, a1, a2, a3⟩, -⟩ := HRK4.out.four
      have b0 := HP4.out.cell 0
      have b1 := HP4.out.cell 1
      have b2 := HP4.out.cell 2
      have b3 := HP4.out.cell 3
      have b4 := HP4.out.cell 4
      have b5 := HP4.out.cell 5
      have b6 := HP4.out.cell 6
      have b7 := HP4.out.cell 7
      have b8 := HP4.out.cell 8
      have b9 := HP4.out.cell 9
      have b10 := HP4.out.cell 10
      have b11 := HP4.out.cell 11
      simp only [List.getElem?_cons_zero, List.getElem?_cons_succ] at b0 b1 b2 b3 b4 b5 b6 b7 b8 b9 b10 b11
      cases hac : activeB c now with
      | false =>
        have HACT := hid hac
        clear hac
        go_wp2
        go_ret
        exact ⟨HB4.out, _, rfl, .inr (.inr ⟨HASK.out, k, HAT.out, .inl ⟨HACT.out, rfl⟩⟩)⟩
      | true =>
        have HACT := hid hac
        clear hac
        go_wp2_with fail
        refine (HSS.out w4 HB4.out k.root _ HX4.out HKF.out.1).mono ?_
        rintro e w9 ⟨hb9, bb, rfl, hbb⟩
        have HB9 := hid (HB4.out.trans (hb9.mono HB4.out.size))
        have HBB := hid hbb
        clear hb9 hbb
        cases bb with
        | true =>
          go_wp2
          go_ret
          exact ⟨HB9.out, _, rfl, .inr (.inr ⟨HASK.out, k, HAT.out, .inr ⟨HACT.out, .inl ⟨HBB.out.1 (by simp), rfl⟩⟩⟩)⟩
        | false =>
          go_wp2
          go_ret
          exact ⟨HB9.out, _, rfl, .inr (.inr ⟨HASK.out, k, HAT.out, .inr ⟨HACT.out, .inr ⟨fun h => absurd (HBB.out.2 h) (by simp), rfl⟩⟩⟩)⟩
  · have HASK := hid hask
    have e1 : (askedN c now != 0) = true := by simpa using hask
    clear hask
    generalize hz : askedN c now = z at *
    have HZ := hid hz
    clear hz
    go_wp2
    go_ret
    exact ⟨HB1.out, _, rfl, .inl ⟨by rw [HZ.out]; exact HASK.out, HZ.out.symm⟩⟩
end Go.Proofs.YtiflkkelbnpniaaDoor
