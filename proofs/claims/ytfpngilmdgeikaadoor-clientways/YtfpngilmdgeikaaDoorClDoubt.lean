/-
  What package client's doubts answers: why a client does not believe a header.
-/
import Derived.Test.YtfpngilmdgeikaaDoorClBelieve
namespace Go.Proofs.YtfpngilmdgeikaaDoor
open Go.RowKit

theorem bel_check {c : Cl} {u : Up} {now : Int} (h : checkN u.sg ≠ 0) : believeN c u now = checkN u.sg := by unfold believeN; rw [if_pos h]
theorem bel_none {c : Cl} {u : Up} {now : Int} (h : checkN u.sg = 0) (h2 : atK c.known u.frm = none) : believeN c u now = 6 := by unfold believeN; rw [if_neg (by omega), h2]
theorem bel_some {c : Cl} {u : Up} {now : Int} {k : Kn} (h : checkN u.sg = 0) (h2 : atK c.known u.frm = some k) : believeN c u now = believeAt c k u now := by unfold believeN; rw [if_neg (by omega), h2]
theorem bel_chain {c : Cl} {k : Kn} {u : Up} {now : Int} (h : u.sg.hd.chain ≠ c.chain) : believeAt c k u now = 7 := by unfold believeAt; rw [if_pos h]
theorem bel_old {c : Cl} {k : Kn} {u : Up} {now : Int} (h : u.sg.hd.chain = c.chain) (h2 : c.trust ≤ now - k.time) : believeAt c k u now = 11 := by unfold believeAt; rw [if_neg (by simp [h]), if_pos h2]
theorem bel_low {c : Cl} {k : Kn} {u : Up} {now : Int} (h : u.sg.hd.chain = c.chain) (h2 : ¬ c.trust ≤ now - k.time) (h3 : u.sg.hd.height ≤ k.height) : believeAt c k u now = 3 := by unfold believeAt; rw [if_neg (by simp [h]), if_neg h2, if_pos h3]
theorem bel_time {c : Cl} {k : Kn} {u : Up} {now : Int} (h : u.sg.hd.chain = c.chain) (h2 : ¬ c.trust ≤ now - k.time) (h3 : ¬ u.sg.hd.height ≤ k.height) (h4 : u.sg.hd.time ≤ k.time ∨ 10 < u.sg.hd.time - now) : believeAt c k u now = 11 := by unfold believeAt; rw [if_neg (by simp [h]), if_neg h2, if_neg h3, if_pos h4]
theorem bel_next {c : Cl} {k : Kn} {u : Up} {now : Int} (h : u.sg.hd.chain = c.chain) (h2 : ¬ c.trust ≤ now - k.time) (h3 : ¬ u.sg.hd.height ≤ k.height) (h4 : ¬ (u.sg.hd.time ≤ k.time ∨ 10 < u.sg.hd.time - now)) (h5 : u.sg.hd.height = k.height + 1) : believeAt c k u now = fitN u.sg.hd.vals k.next := by unfold believeAt fitN; rw [if_neg (by simp [h]), if_neg h2, if_neg h3, if_neg h4, if_pos h5]
theorem bel_leap {c : Cl} {k : Kn} {u : Up} {now : Int} (h : u.sg.hd.chain = c.chain) (h2 : ¬ c.trust ≤ now - k.time) (h3 : ¬ u.sg.hd.height ≤ k.height) (h4 : ¬ (u.sg.hd.time ≤ k.time ∨ 10 < u.sg.hd.time - now)) (h5 : ¬ u.sg.hd.height = k.height + 1) : believeAt c k u now = leapN k u := by unfold believeAt leapN; rw [if_neg (by simp [h]), if_neg h2, if_neg h3, if_neg h4, if_neg h5]
theorem str_ne {s t : ByteArray} (h : s ≠ t) : (s.toList == t.toList) = false := by
  rw [beq_eq_false_iff_ne]
  intro e
  exact h (by
    rw [Go.ByteArray.toList_eq, Go.ByteArray.toList_eq] at e
    obtain ⟨x⟩ := s
    obtain ⟨y⟩ := t
    simp at e
    rw [e])
set_option maxRecDepth 100000 in
set_option maxHeartbeats 8000000 in
theorem doubt_any (c : Cl) (u : Up) (now : Int) (gc gn : Nat) (oa : Option Addr) (ca : Nat) (uv : Value) (N : Nat) (w : World) (htab : tableAt w) (hN : N ≤ w.heap.size) (hrc : Row w gc 59 [.string c.chain, .int .i64 c.trust, .bool c.frozen, .slice oa c.known.length ca]) (hrn : Row w gn 3 [.int .i64 now])
    (hk : Knowns w N (.slice oa c.known.length ca) c.known) (hu : UpV w N uv u) (hcf : c.fits) (huf : u.fits) (hask : askedN c now = 0) :
    Calls Tryd.prog 125 #[uv, .pointer (some ⟨gc, 0, none⟩), .pointer (some ⟨gn, 0, none⟩)] w fun e w' => e = .returned (.int .i64 (believeN c u now)) ∧ Below w.heap.size w w' := by
  have HUV := hid hu
  obtain ⟨o1, c1, o2, c2, o3, c3, o4, c4, o5, c5, o6, c6, rfl, h1, h2, h3, h4, h5, h6⟩ := hu.open
  obtain ⟨hcw, hnow, -⟩ := askedN_ok hask
  obtain ⟨w0, hw0⟩ : ∃ w0, w.alloc (.cells #[.int .i64 u.frm, .string u.sg.hd.chain, .int .i64 u.sg.hd.height, .int .i64 u.sg.hd.time, .slice o1 u.sg.hd.root.length c1, .slice o2 u.sg.hd.vals.length c2, .slice o3 u.sg.hd.next.length c3, .slice o4 u.sg.vals.length c4, .slice o5 u.sg.votes.length c5, .slice o6 u.trusted.length c6] 68) = w0 := ⟨_, rfl⟩
  have hb0 : Below w.heap.size w w0 := by rw [← hw0]; exact (Below.refl _ _).alloc (Nat.le_refl _) _
  have hr1 : Row w0 w.heap.size 68 [.int .i64 u.frm, .string u.sg.hd.chain, .int .i64 u.sg.hd.height, .int .i64 u.sg.hd.time, .slice o1 u.sg.hd.root.length c1, .slice o2 u.sg.hd.vals.length c2, .slice o3 u.sg.hd.next.length c3, .slice o4 u.sg.vals.length c4, .slice o5 u.sg.votes.length c5, .slice o6 u.trusted.length c6] := by rw [← hw0]; exact Row.new _ _ _
  have hsg : SgV w N (.agg #[.string u.sg.hd.chain, .int .i64 u.sg.hd.height, .int .i64 u.sg.hd.time, .slice o1 u.sg.hd.root.length c1, .slice o2 u.sg.hd.vals.length c2, .slice o3 u.sg.hd.next.length c3, .slice o4 u.sg.vals.length c4, .slice o5 u.sg.votes.length c5]) u.sg := ⟨_, _, _, _, _, rfl, h1, h2, h3, h4, h5⟩
  have HCH := hid (checkC u.sg _ N w0 (htab.below hb0 htab.lt) (Nat.le_trans hN hb0.size) (hsg.below (hb0.mono hN)) huf.1)
  have HFI := hid (show ∀ wx, Below w.heap.size w wx → Calls Tryd.prog 90 #[.agg #[.string c.chain, .int .i64 c.trust, .bool c.frozen, .slice oa c.known.length ca], .int .i64 u.frm] wx _ from fun wx hx => findC c u.frm (.agg #[.string c.chain, .int .i64 c.trust, .bool c.frozen, .slice oa c.known.length ca]) N wx ⟨_, rfl, hk.below (hx.mono hN)⟩ (Nat.le_trans hN hx.size) hcf)
  have HK := hid hk
  have HV2 := hid h2
  have HTAB := hid htab
  have HB0 := hid hb0
  have HR1 := hid hr1
  have HRC := hid hrc
  have HRN := hid hrn
  have HUF := hid huf
  have HCW := hid hcw
  have HW0 := hid hw0
  obtain ⟨⟨i0, i1, i2, i3, i4⟩, i5, i6, i7, i8, i9⟩ := hr1.ten
  clear hsg h1 h2 h3 h4 h5 h6 htab hb0 hr1 hrc hrn hk hu hcf huf hask hcw hw0
  go_enter Tryd.func125, Tryd.ntmps125
  go_wp2_with fail
  rw [HW0.out]
  refine HCH.out.mono ?_
  rintro e w1 ⟨rfl, hb1⟩
  have HB1 := hid (HB0.out.trans (hb1.mono HB0.out.size))
  have HR11 := hid (HR1.out.below hb1 HR1.out.lt)
  have HRC1 := hid (HRC.out.below HB1.out HRC.out.lt)
  clear hb1 i0 i1 i2 i3 i4 i5 i6 i7 i8 i9
  obtain ⟨⟨a0, a1, a2, a3⟩, _⟩ := HRC1.out.four
  obtain ⟨⟨i0, i1, i2, i3, i4⟩, i5, i6, i7, i8, i9⟩ := HR11.out.ten
  by_cases hck : checkN u.sg = 0
  · rw [hck]
    have HCK := hid hck
    have HHR := hid (wrongH_ok (checkN_right hck).1).2.1
    clear hck
    go_wp2_with fail
    refine (HFI.out _ HB1.out).mono ?_
    rintro e w2 ⟨hb2, p1, d1, p2, d2, rfl, hx1, hx2⟩
    have HB2 := hid (HB1.out.trans (hb2.mono HB1.out.size))
    have HR12 := hid (HR11.out.below hb2 HR11.out.lt)
    have HRC2 := hid (HRC1.out.below hb2 HRC1.out.lt)
    have HX1 := hid hx1
    have HX2 := hid hx2
    clear hb2 a0 a1 a2 a3 i0 i1 i2 i3 i4 i5 i6 i7 i8 i9 hx1 hx2
    cases hat : atK c.known u.frm with
    | none =>
      have HBL := hid (bel_none (now := now) HCK.out hat)
      simp only [Option.isSome]
      clear hat
      generalize knAt c.known u.frm = k at *
      go_wp2
      go_ret
      exact ⟨by rw [HBL.out]; first | done | rfl, HB2.out.alloc HB2.out.size _⟩
    | some k =>
      have HKA := hid (knAt_some hat)
      have HKM := hid (atK_some hat)
      have hkr := ((wrongK_iff k).1 (((wrongCl_iff c).1 HCW.out).2.2.2.1 k (atK_some hat).1)).1
      have HKR := hid hkr
      have HBS := hid (bel_some (now := now) HCK.out hat)
      rw [HKA.out] at HX1 HX2
      rw [HKA.out]
      simp only [Option.isSome]
      obtain ⟨w4, hw4⟩ : ∃ w4, (w2.alloc (.cells #[.int .i64 k.height, .int .i64 k.time, .slice p1 k.root.length d1, .slice p2 k.next.length d2] 73)).alloc (.cells #[.string u.sg.hd.chain, .int .i64 u.sg.hd.height, .int .i64 u.sg.hd.time, .slice o1 u.sg.hd.root.length c1, .slice o2 u.sg.hd.vals.length c2, .slice o3 u.sg.hd.next.length c3] 25) = w4 := ⟨_, rfl⟩
      have hb4 : Below w2.heap.size w2 w4 := by rw [← hw4]; exact ((Below.refl _ _).alloc (Nat.le_refl _) _).alloc (by simp) _
      have HQ4 := hid hb4
      have HB4 := hid (HB2.out.trans (hb4.mono HB2.out.size))
      have HRK4 := hid (show Row w4 w2.heap.size 73 [.int .i64 k.height, .int .i64 k.time, .slice p1 k.root.length d1, .slice p2 k.next.length d2] by rw [← hw4]; exact (Row.new _ _ _).alloc _)
      have HRH4 := hid (show Row w4 (w2.heap.size + 1) 25 [.string u.sg.hd.chain, .int .i64 u.sg.hd.height, .int .i64 u.sg.hd.time, .slice o1 u.sg.hd.root.length c1, .slice o2 u.sg.hd.vals.length c2, .slice o3 u.sg.hd.next.length c3] by rw [← hw4]; exact Row.newAt _ _ _ _ (by simp))
      have HRC4 := hid (HRC2.out.below hb4 HRC2.out.lt)
      have HRU4 := hid (HR12.out.below hb4 HR12.out.lt)
      have HRN4 := hid (HRN.out.below HB4.out HRN.out.lt)
      have HX14 := hid (HX1.out.below hb4)
      have HX24 := hid (HX2.out.below hb4)
      have HW4 := hid hw4
      have hg1 : gc < w2.heap.size := HRC2.out.lt
      have hg2 : gc ≠ w2.heap.size := by omega
      have hg3 : gc ≠ w2.heap.size + 1 := by omega
      obtain ⟨⟨a0, a1, a2, a3⟩, _⟩ := HRC2.out.four
      obtain ⟨⟨i0, i1, i2, i3, i4⟩, i5, i6, i7, i8, i9⟩ := HR12.out.ten
      have hwl : w.heap.size < w2.heap.size := HR12.out.lt
      have HRN2 := hid (HRN.out.below HB2.out HRN.out.lt)
      have n0 := HRN2.out.cell 0
      simp only [List.getElem?_cons_zero] at n0
      have hn1 : gn < w2.heap.size := HRN2.out.lt
      have hn2 : gn ≠ w2.heap.size := by omega
      have hn3 : gn ≠ w2.heap.size + 1 := by omega
      clear hw4 hb4 hat hkr
      by_cases hch : u.sg.hd.chain = c.chain
      · have HCHN := hid hch
        have e1 : (u.sg.hd.chain.toList == c.chain.toList) = true := by simp [hch]
        have e1' : (u.sg.hd.chain.toList != c.chain.toList) = false := by simp [hch]
        have HTR := hid (trusts_any c k now (.agg #[.string c.chain, .int .i64 c.trust, .bool c.frozen, .slice oa c.known.length ca]) (.agg #[.int .i64 k.height, .int .i64 k.time, .slice p1 k.root.length d1, .slice p2 k.next.length d2]) w2.heap.size w4 ⟨_, rfl, (HK.out.below (HB4.out.mono hN)).mono (Nat.le_trans hN HB2.out.size)⟩ ⟨_, _, rfl, HX14.out, HX24.out⟩ hnow (by have := HKR.out; omega))
        clear hch
        go_wp2_with fail
        rw [HW4.out]
        refine HTR.out.mono ?_
        rintro e w5 ⟨rfl, hb5⟩
        have HQ5 := hid (HQ4.out.trans (hb5.mono HQ4.out.size))
        have HB5 := hid (HB4.out.trans (hb5.mono HB4.out.size))
        have HRK5 := hid (HRK4.out.below hb5 HRK4.out.lt)
        have HRH5 := hid (HRH4.out.below hb5 HRH4.out.lt)
        have HRU5 := hid (HRU4.out.below hb5 HRU4.out.lt)
        have HRN5 := hid (HRN4.out.below hb5 HRN4.out.lt)
        have HX15 := hid (HX14.out.below (hb5.mono HQ4.out.size))
        have HX25 := hid (HX24.out.below (hb5.mono HQ4.out.size))
        clear a0 a1 a2 a3 i0 i1 i2 i3 i4 i5 i6 i7 i8 i9 n0 hb5 hg1 hg2 hg3 hn1 hn2 hn3 hwl
        obtain ⟨⟨a0, a1, a2, a3⟩, _⟩ := HRK5.out.four
        obtain ⟨j0, j1, j2, j3, j4, j5⟩ := HRH5.out.six
        obtain ⟨⟨i0, i1, i2, i3, i4⟩, i5, i6, i7, i8, i9⟩ := HRU5.out.ten
        have n0 := HRN5.out.cell 0
        simp only [List.getElem?_cons_zero] at n0
        by_cases ht : c.trust ≤ now - k.time
        · have HBL := hid (show believeN c u now = 11 by rw [HBS.out, bel_old HCHN.out ht])
          have e2 : decide (now - k.time < c.trust) = false := by simp; omega
          rw [e2]
          clear ht e2
          go_wp2
          go_ret
          exact ⟨by rw [HBL.out]; first | done | rfl, HB5.out⟩
        · have e2 : decide (now - k.time < c.trust) = true := by simp; omega
          rw [e2]
          clear e2
          by_cases hh : u.sg.hd.height ≤ k.height
          · have HBL := hid (show believeN c u now = 3 by rw [HBS.out, bel_low HCHN.out ht hh])
            have e3 : decide (u.sg.hd.height ≤ k.height) = true := by simpa using hh
            clear ht hh
            go_wp2
            go_ret
            exact ⟨by rw [HBL.out]; first | done | rfl, HB5.out⟩
          · have e3 : decide (u.sg.hd.height ≤ k.height) = false := by simpa using hh
            have ww : IntKind.i64.wrap (u.sg.hd.time - now) = u.sg.hd.time - now := by have := HHR.out; rw [IntKind.wrap_i64]; omega
            by_cases h4 : u.sg.hd.time ≤ k.time ∨ 10 < u.sg.hd.time - now
            · have HBL := hid (show believeN c u now = 11 by rw [HBS.out, bel_time HCHN.out ht hh h4])
              by_cases h4a : u.sg.hd.time ≤ k.time
              · have e4 : decide (u.sg.hd.time ≤ k.time) = true := by simpa using h4a
                clear ht hh h4 h4a
                go_wp2
                go_ret
                exact ⟨by rw [HBL.out]; first | done | rfl, HB5.out⟩
              · have e4 : decide (u.sg.hd.time ≤ k.time) = false := by simpa using h4a
                have e5 : decide (10 < u.sg.hd.time - now) = true := by simp; omega
                clear ht hh h4 h4a
                go_wp2
                go_ret
                exact ⟨by rw [HBL.out]; first | done | rfl, HB5.out⟩
            · have e4 : decide (u.sg.hd.time ≤ k.time) = false := by simp; omega
              have e5 : decide (10 < u.sg.hd.time - now) = false := by simp; omega
              have w1' : IntKind.i64.wrap (k.height + 1) = k.height + 1 := by have := HKR.out; rw [IntKind.wrap_i64]; omega
              by_cases h5 : u.sg.hd.height = k.height + 1
              · have HBL := hid (show believeN c u now = fitN u.sg.hd.vals k.next by rw [HBS.out, bel_next HCHN.out ht hh h4 h5])
                have e6 : (u.sg.hd.height == k.height + 1) = true := by simpa using h5
                have HFT := hid (fit_any u.sg.hd.vals k.next (.slice o2 u.sg.hd.vals.length c2) (.slice p2 k.next.length d2) N w2.heap.size w5 (HV2.out.below (HB5.out.mono hN)) HX25.out)
                clear ht hh h4 h5
                generalize fitN u.sg.hd.vals k.next = z at *
                go_wp2_with fail
                refine HFT.out.mono ?_
                rintro e w6 ⟨rfl, hw6⟩
                obtain rfl := hw6.symm
                go_wp2
                go_ret
                exact ⟨by rw [HBL.out]; first | done | rfl, HB5.out⟩
              · have HBL := hid (show believeN c u now = leapN k u by rw [HBS.out, bel_leap HCHN.out ht hh h4 h5])
                have e6 : (u.sg.hd.height == k.height + 1) = false := by simpa using h5
                have HLP := hid (leap_any k u (.agg #[.int .i64 k.height, .int .i64 k.time, .slice p1 k.root.length d1, .slice p2 k.next.length d2]) _ w2.heap.size w5 (HTAB.out.below HB5.out HTAB.out.lt) HQ5.out.size ⟨_, _, rfl, HX15.out, HX25.out⟩ ((HUV.out.below (HB5.out.mono hN)).mono (Nat.le_trans hN HB2.out.size)) HUF.out HCK.out)
                clear ht hh h4 h5
                generalize leapN k u = z at *
                go_wp2_with fail
                refine HLP.out.mono ?_
                rintro e w6 ⟨rfl, hb6⟩
                have HB6 := hid (HB5.out.trans (hb6.mono HB5.out.size))
                clear hb6
                go_wp2
                go_ret
                exact ⟨by rw [HBL.out]; first | done | rfl, HB6.out⟩
      · have HBL := hid (show believeN c u now = 7 by rw [HBS.out, bel_chain hch])
        have e1 := str_ne hch
        have e1' : (u.sg.hd.chain.toList != c.chain.toList) = true := by rw [bne, e1]; rfl
        clear hch
        go_wp2
        go_ret
        rw [HW4.out]
        exact ⟨by rw [HBL.out]; first | done | rfl, HB4.out⟩
  · have HBL := hid (bel_check (c := c) (now := now) hck)
    have e1 : (checkN u.sg != 0) = true := by simpa using hck
    clear hck
    generalize checkN u.sg = z at *
    go_wp2
    go_ret
    exact ⟨by rw [HBL.out]; first | done | rfl, HB1.out⟩
end Go.Proofs.YtfpngilmdgeikaaDoor
