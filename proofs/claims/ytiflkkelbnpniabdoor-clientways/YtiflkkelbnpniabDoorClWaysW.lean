/-
  ClientWays returns true, whatever a client, two updates and a time read as.
-/
import Derived.Test.YtiflkkelbnpniabDoorClFollow
import Derived.Test.YtiflkkelbnpniabDoorClAsk
import Derived.Test.YtiflkkelbnpniabDoorSameB
import Derived.Test.YtiflkkelbnpniabDoorClMem
namespace Go.Proofs.YtiflkkelbnpniabDoor
open Go.RowKit

/-- ten cells, the first one set -/
theorem sameBB {x : List (BitVec 8)} {v u : Value} {M : Nat} {w : World} (h1 : Bytes w M v x) (h2 : Bytes w M u x) (hl : x.length ≤ 140737488351232) : Calls Tryd.prog 7 #[v, u] w fun e w' => e = .returned (.bool true) ∧ Below w.heap.size w w' := by
  refine (sameB_any x x v u M M w h1 h2 (by omega) (by omega)).mono ?_
  rintro e w' ⟨rfl, q, rfl⟩
  exact ⟨by simp, below_drewH _ _ _⟩
set_option maxRecDepth 100000 in
set_option maxHeartbeats 8000000 in
theorem clientWays_any (c : Cl) (a b : Up) (now : Int) (cv av bv : Value) (N : Nat) (w : World) (htab : tableAt w) (hN : N ≤ w.heap.size) (hcv : ClV w N cv c) (hav : UpV w N av a) (hbv : UpV w N bv b) (hcf : c.fits) (haf : a.fits) (hbf : b.fits) :
    Calls Tryd.prog 3 #[cv, av, bv, .int .i64 now] w fun e w' => e = .returned (.bool true) ∧ Below w.heap.size w w' := by
  have HF1 := hid (show ∀ wx, Below w.heap.size w wx → _ from fun wx hx => clFollowC c a now cv av N wx (htab.below hx htab.lt) (Nat.le_trans hN hx.size) (hcv.below (hx.mono hN)) (hav.below (hx.mono hN)) hcf haf)
  have HF3 := hid (show ∀ wx, Below w.heap.size w wx → _ from fun wx hx => clFollowC c b now cv bv N wx (htab.below hx htab.lt) (Nat.le_trans hN hx.size) (hcv.below (hx.mono hN)) (hbv.below (hx.mono hN)) hcf hbf)
  have HTAB := hid htab
  have HBF := hid hbf
  have HXF := hid (follow_fits (now := now) hcf haf)
  have HZF := hid (follow_fits (now := now) hcf hbf)
  have hclen : c.known.length < 2305843009213693952 := hcf.2.1
  obtain ⟨kv, rfl, hk⟩ := hcv
  obtain ⟨oa, ca, rfl, hca⟩ := hk.shape
  obtain ⟨o1, c1, o2, c2, o3, c3, o4, c4, o5, c5, o6, c6, rfl, -, -, -, -, -, -⟩ := hav.open
  obtain ⟨q1, y1, q2, y2, q3, y3, q4, y4, q5, y5, q6, y6, rfl, g1, g2, g3, g4, g5, g6⟩ := hbv.open
  have HBY := hid (show UpV w N (.agg #[.int .i64 a.sg.hd.height, .string b.sg.hd.chain, .int .i64 b.sg.hd.height, .int .i64 b.sg.hd.time, .slice q1 b.sg.hd.root.length y1, .slice q2 b.sg.hd.vals.length y2, .slice q3 b.sg.hd.next.length y3, .slice q4 b.sg.vals.length y4, .slice q5 b.sg.votes.length y5, .slice q6 b.trusted.length y6]) { b with frm := a.sg.hd.height } from ⟨_, _, _, _, _, _, _, _, _, rfl, ⟨_, _, _, _, _, rfl, g1, g2, g3, g4, g5⟩, g6⟩)
  obtain ⟨w0, hw0⟩ : ∃ w0, ((w.alloc (.cells #[.string c.chain, .int .i64 c.trust, .bool c.frozen, .slice oa c.known.length ca] 24)).alloc (.cells #[.int .i64 a.frm, .string a.sg.hd.chain, .int .i64 a.sg.hd.height, .int .i64 a.sg.hd.time, .slice o1 a.sg.hd.root.length c1, .slice o2 a.sg.hd.vals.length c2, .slice o3 a.sg.hd.next.length c3, .slice o4 a.sg.vals.length c4, .slice o5 a.sg.votes.length c5, .slice o6 a.trusted.length c6] 33)).alloc (.cells #[.int .i64 b.frm, .string b.sg.hd.chain, .int .i64 b.sg.hd.height, .int .i64 b.sg.hd.time, .slice q1 b.sg.hd.root.length y1, .slice q2 b.sg.hd.vals.length y2, .slice q3 b.sg.hd.next.length y3, .slice q4 b.sg.vals.length y4, .slice q5 b.sg.votes.length y5, .slice q6 b.trusted.length y6] 33) = w0 := ⟨_, rfl⟩
  have HB0 := hid (show Below w.heap.size w w0 by rw [← hw0]; exact (((Below.refl _ _).alloc (Nat.le_refl _) _).alloc (by simp) _).alloc (by simp; omega) _)
  have HRC0 := hid (show Row w0 w.heap.size 24 [.string c.chain, .int .i64 c.trust, .bool c.frozen, .slice oa c.known.length ca] by rw [← hw0]; exact ((Row.new _ _ _).alloc _).alloc _)
  have HRA0 := hid (show Row w0 (w.heap.size + 1) 33 [.int .i64 a.frm, .string a.sg.hd.chain, .int .i64 a.sg.hd.height, .int .i64 a.sg.hd.time, .slice o1 a.sg.hd.root.length c1, .slice o2 a.sg.hd.vals.length c2, .slice o3 a.sg.hd.next.length c3, .slice o4 a.sg.vals.length c4, .slice o5 a.sg.votes.length c5, .slice o6 a.trusted.length c6] by rw [← hw0]; exact (Row.newAt _ _ _ _ (by simp)).alloc _)
  have HRB0 := hid (show Row w0 (w.heap.size + 1 + 1) 33 [.int .i64 b.frm, .string b.sg.hd.chain, .int .i64 b.sg.hd.height, .int .i64 b.sg.hd.time, .slice q1 b.sg.hd.root.length y1, .slice q2 b.sg.hd.vals.length y2, .slice q3 b.sg.hd.next.length y3, .slice q4 b.sg.vals.length y4, .slice q5 b.sg.votes.length y5, .slice q6 b.trusted.length y6] by rw [← hw0]; exact Row.newAt _ _ _ _ (by simp))
  have HW0 := hid hw0
  clear htab hcf haf hbf hk hav hbv hw0 hca g1 g2 g3 g4 g5 g6
  go_enter Tryd.func3, Tryd.ntmps3
  go_wp2_with fail
  rw [HW0.out]
  refine (alive7_any w0).mono ?_
  rintro e w1 ⟨rfl, hb1⟩
  have HB1 := hid (HB0.out.trans (hb1.mono HB0.out.size))
  have HRC1 := hid (HRC0.out.below hb1 HRC0.out.lt)
  have HRA1 := hid (HRA0.out.below hb1 HRA0.out.lt)
  have HRB1 := hid (HRB0.out.below hb1 HRB0.out.lt)
  obtain ⟨⟨a0, a1, a2, a3⟩, _⟩ := HRC1.out.four
  obtain ⟨⟨i0, i1, i2, i3, i4⟩, i5, i6, i7, i8, i9⟩ := HRA1.out.ten
  clear hb1
  go_wp2_with fail
  refine (HF1.out _ HB1.out).mono ?_
  rintro e w2 ⟨hb2, od, nd, md, rfl, hkd⟩
  have HB2 := hid (HB1.out.trans (hb2.mono HB1.out.size))
  have HRC2 := hid (HRC1.out.below hb2 HRC1.out.lt)
  have HRA2 := hid (HRA1.out.below hb2 HRA1.out.lt)
  have HRB2 := hid (HRB1.out.below hb2 HRB1.out.lt)
  have HKD := hid hkd
  clear hb2 hkd a0 a1 a2 a3 i0 i1 i2 i3 i4 i5 i6 i7 i8 i9
  by_cases he : followE c a now = 0
  · rw [he]
    have HE := hid he
    clear he
    have HWAY := hid (follow_ways (c := c) (a := a) (b := b) (now := now) HE.out)
    generalize hd : followC c a now = d at *
    have HD := hid hd
    clear hd
    have hlt2 : w.heap.size < w2.heap.size := HRC2.out.lt
    have hne2 : w.heap.size ≠ w2.heap.size := by omega
    have hlt3 : w.heap.size + 1 < w2.heap.size := HRA2.out.lt
    have hne3 : w.heap.size + 1 ≠ w2.heap.size := by omega
    have hlt4 : w.heap.size + 1 + 1 < w2.heap.size := HRB2.out.lt
    have hne4 : w.heap.size + 1 + 1 ≠ w2.heap.size := by omega
    obtain ⟨⟨a0, a1, a2, a3⟩, _⟩ := HRC2.out.four
    by_cases hfz : d.frozen = true
    · have HFZ := hid hfz
      rw [HFZ.out]
      clear hfz
      go_wp2
      go_ret
      exact ⟨by first | done | rfl, HB2.out.alloc HB2.out.size _⟩
    · have hfz' : d.frozen = false := by simpa using hfz
      have HFZ := hid hfz'
      clear hfz hfz'
      have hw2' : IntKind.i64.wrap ((c.known.length : Int) + 2) = (c.known.length : Int) + 2 := by rw [IntKind.wrap_i64]; omega
      by_cases hm : 30 < c.known.length + 2
      · have e3 : decide ((30 : Int) < (c.known.length : Int) + 2) = true := decide_eq_true (by omega)
        rw [HFZ.out]
        clear hm
        go_wp2
        go_ret
        exact ⟨by first | done | rfl, HB2.out.alloc HB2.out.size _⟩
      · have e3 : decide ((30 : Int) < (c.known.length : Int) + 2) = false := decide_eq_false (by omega)
        have HM := hid (show c.known.length + 2 ≤ 30 by omega)
        clear hm
        rw [HFZ.out]
        obtain ⟨w3, hw3⟩ : ∃ w3, (w2.alloc (.cells #[.string d.chain, .int .i64 d.trust, .bool false, .slice od nd md] 24)).alloc (.cells #[.int .i64 a.sg.hd.height, .string b.sg.hd.chain, .int .i64 b.sg.hd.height, .int .i64 b.sg.hd.time, .slice q1 b.sg.hd.root.length y1, .slice q2 b.sg.hd.vals.length y2, .slice q3 b.sg.hd.next.length y3, .slice q4 b.sg.vals.length y4, .slice q5 b.sg.votes.length y5, .slice q6 b.trusted.length y6] 33) = w3 := ⟨_, rfl⟩
        have hb3 : Below w2.heap.size w2 w3 := by rw [← hw3]; exact ((Below.refl _ _).alloc (Nat.le_refl _) _).alloc (by simp) _
        have HB3 := hid (HB2.out.trans (hb3.mono HB2.out.size))
        have HQ3 := hid hb3
        have HRC3 := hid (HRC2.out.below hb3 HRC2.out.lt)
        have HRB3 := hid (HRB2.out.below hb3 HRB2.out.lt)
        have HDV := hid (show ClV w3 w3.heap.size (.agg #[.string d.chain, .int .i64 d.trust, .bool false, .slice od nd md]) d from ⟨_, by rw [HFZ.out], (HKD.out.below hb3).mono hb3.size⟩)
        have HYF := hid (follow_fits (now := now) (u := { b with frm := a.sg.hd.height }) HXF.out HBF.out)
        have HF2 := hid (show ∀ wx, Below w3.heap.size w3 wx → Calls Tryd.prog 5 #[.agg #[.string d.chain, .int .i64 d.trust, .bool false, .slice od nd md], .agg #[.int .i64 a.sg.hd.height, .string b.sg.hd.chain, .int .i64 b.sg.hd.height, .int .i64 b.sg.hd.time, .slice q1 b.sg.hd.root.length y1, .slice q2 b.sg.hd.vals.length y2, .slice q3 b.sg.hd.next.length y3, .slice q4 b.sg.vals.length y4, .slice q5 b.sg.votes.length y5, .slice q6 b.trusted.length y6], .int .i64 now] wx _ from fun wx hx => by
          have hbw := HB3.out.trans (hx.mono HB3.out.size)
          exact clFollowC d { b with frm := a.sg.hd.height } now _ _ w3.heap.size wx (HTAB.out.below hbw HTAB.out.lt) hx.size (HDV.out.below hx) ((HBY.out.below (hbw.mono hN)).mono (Nat.le_trans hN HB3.out.size)) HXF.out HBF.out)
        have HW3 := hid hw3
        obtain ⟨⟨i0, i1, i2, i3, i4⟩, i5, i6, i7, i8, i9⟩ := HRA2.out.ten
        obtain ⟨⟨j0, j1, j2, j3, j4⟩, j5, j6, j7, j8, j9⟩ := HRB2.out.ten
        clear hb3 hw3
        go_wp2_with fail
        rw [HW3.out]
        refine (HF2.out _ (Below.refl _ _)).mono ?_
        rintro e w4 ⟨hb4, oy, ny, my, rfl, hky⟩
        obtain ⟨y, hy⟩ : ∃ y, followC d { b with frm := a.sg.hd.height } now = y := ⟨_, rfl⟩
        obtain ⟨ey, hey⟩ : ∃ ey, followE d { b with frm := a.sg.hd.height } now = ey := ⟨_, rfl⟩
        rw [hy] at hky HYF HWAY
        rw [hey] at HWAY
        rw [hy, hey]
        have HB4 := hid (HB3.out.trans (hb4.mono HB3.out.size))
        obtain ⟨w5, hw5⟩ : ∃ w5, w4.alloc (.cells #[.string y.chain, .int .i64 y.trust, .bool y.frozen, .slice oy ny my] 24) = w5 := ⟨_, rfl⟩
        have hb5 : Below w4.heap.size w4 w5 := by rw [← hw5]; exact (Below.refl _ _).alloc (Nat.le_refl _) _
        have HB5 := hid (HB4.out.trans (hb5.mono HB4.out.size))
        have HRY5 := hid (show Row w5 w4.heap.size 24 [.string y.chain, .int .i64 y.trust, .bool y.frozen, .slice oy ny my] by rw [← hw5]; exact Row.new _ _ _)
        have HYV := hid (show ClV w5 w5.heap.size (.agg #[.string y.chain, .int .i64 y.trust, .bool y.frozen, .slice oy ny my]) y from ⟨_, rfl, (hky.below hb5).mono hb5.size⟩)
        have HRC4 := hid (HRC3.out.below hb4 HRC3.out.lt)
        have HRB4 := hid (HRB3.out.below hb4 HRB3.out.lt)
        have HRB5 := hid (HRB4.out.below hb5 HRB4.out.lt)
        have HW5 := hid hw5
        have HHY := hid (And.intro hy hey)
        clear hb4 hb5 hw5 hky hy hey a0 a1 a2 a3 i0 i1 i2 i3 i4 i5 i6 i7 i8 i9 j0 j1 j2 j3 j4 j5 j6 j7 j8 j9 hlt2 hne2 hlt3 hne3 hlt4 hne4
        obtain ⟨⟨a0, a1, a2, a3⟩, _⟩ := HRC4.out.four
        obtain ⟨⟨j0, j1, j2, j3, j4⟩, j5, j6, j7, j8, j9⟩ := HRB4.out.ten
        have hlt2 : w.heap.size < w4.heap.size := HRC4.out.lt
        have hne2 : w.heap.size ≠ w4.heap.size := by omega
        have hlt4 : w.heap.size + 1 + 1 < w4.heap.size := HRB4.out.lt
        have hne4 : w.heap.size + 1 + 1 ≠ w4.heap.size := by omega
        go_wp2_with fail
        rw [HW5.out]
        refine (HF3.out _ HB5.out).mono ?_
        rintro e w6 ⟨hb6, oz, nz, mz, rfl, hkz⟩
        obtain ⟨z, hz⟩ : ∃ z, followC c b now = z := ⟨_, rfl⟩
        obtain ⟨ez, hez⟩ : ∃ ez, followE c b now = ez := ⟨_, rfl⟩
        rw [hz] at hkz HZF HWAY
        rw [hez] at HWAY
        rw [hz, hez]
        have HB6 := hid (HB5.out.trans (hb6.mono HB5.out.size))
        have HRY6 := hid (HRY5.out.below hb6 HRY5.out.lt)
        have HRB6 := hid (HRB5.out.below hb6 HRB5.out.lt)
        have HYV6 := hid ((HYV.out.below hb6).mono hb6.size)
        have HKZ := hid hkz
        have HHZ := hid (And.intro hz hez)
        clear hb6 hkz hz hez a0 a1 a2 a3 j0 j1 j2 j3 j4 j5 j6 j7 j8 j9 hlt2 hne2 hlt4 hne4
        obtain ⟨⟨a0, a1, a2, a3⟩, _⟩ := HRY6.out.four
        obtain ⟨⟨j0, j1, j2, j3, j4⟩, j5, j6, j7, j8, j9⟩ := HRB6.out.ten
        have hlt2 : w4.heap.size < w6.heap.size := HRY6.out.lt
        have hne2 : w4.heap.size ≠ w6.heap.size := by omega
        have hlt4 : w.heap.size + 1 + 1 < w6.heap.size := HRB6.out.lt
        have hne4 : w.heap.size + 1 + 1 ≠ w6.heap.size := by omega
        by_cases h1 : ey = 0
        · by_cases h2 : ez = 0
          · subst h1
            subst h2
            by_cases f2 : y.frozen = true
            · simp only [f2] at a2 ⊢
              clear f2
              go_wp2
              go_ret
              exact ⟨by first | done | rfl, HB6.out.alloc HB6.out.size _⟩
            · have f2' : y.frozen = false := by simpa using f2
              by_cases f3 : z.frozen = true
              · have HF3 := hid f3
                have HF2' := hid f2'
                rw [HF2'.out] at a2
                rw [HF3.out]
                clear f2 f3 f2'
                go_wp2
                go_ret
                exact ⟨by first | done | rfl, HB6.out.alloc HB6.out.size _⟩
              · have f3' : z.frozen = false := by simpa using f3
                obtain ⟨hy1, hz1⟩ := HWAY.out HM.out rfl rfl f2' f3'
                have HY1 := hid hy1
                have HZ1 := hid hz1
                have HF3' := hid f3'
                have HF2' := hid f2'
                rw [HF2'.out] at a2 HRY6 HYV6
                rw [HF3'.out]
                clear f2 f3 f2' f3' hy1 hz1
                obtain ⟨w7, hw7⟩ : ∃ w7, w6.alloc (.cells #[.string z.chain, .int .i64 z.trust, .bool false, .slice oz nz mz] 24) = w7 := ⟨_, rfl⟩
                have hb7 : Below w6.heap.size w6 w7 := by rw [← hw7]; exact (Below.refl _ _).alloc (Nat.le_refl _) _
                have HB7 := hid (HB6.out.trans (hb7.mono HB6.out.size))
                have HRZ7 := hid (show Row w7 w6.heap.size 24 [.string z.chain, .int .i64 z.trust, .bool false, .slice oz nz mz] by rw [← hw7]; exact Row.new _ _ _)
                have HRB7 := hid (HRB6.out.below hb7 HRB6.out.lt)
                have HAY := hid (atC y b.sg.hd.height (.agg #[.string y.chain, .int .i64 y.trust, .bool false, .slice oy ny my]) w6.heap.size w7 (HYV6.out.below hb7) hb7.size HYF.out)
                have HAZ := hid (show ∀ wx, Below w7.heap.size w7 wx → Calls Tryd.prog 6 #[.agg #[.string z.chain, .int .i64 z.trust, .bool false, .slice oz nz mz], .int .i64 b.sg.hd.height] wx _ from fun wx hx => atC z b.sg.hd.height (.agg #[.string z.chain, .int .i64 z.trust, .bool false, .slice oz nz mz]) w7.heap.size wx ⟨_, by rw [HF3'.out], ((HKZ.out.below hb7).mono hb7.size).below hx⟩ hx.size HZF.out)
                rw [knAt_some HY1.out, HY1.out] at HAY
                have HAZ2 := hid HAZ.out
                simp only [knAt_some HZ1.out, HZ1.out] at HAZ2
                have HW7 := hid hw7
                clear hb7 hw7 HAZ
                obtain ⟨k, hk⟩ : ∃ k, knOf b.sg.hd = k := ⟨_, rfl⟩
                have HKF := hid (knOf_fits HBF.out.1.1)
                rw [hk] at HAY HAZ2 HKF
                have HKK := hid hk
                clear hk
                go_wp2_with fail
                rw [HW7.out]
                refine HAY.out.mono ?_
                rintro e w8 ⟨hb8, p1, d1, p2, d2, rfl, hx1, hx2⟩
                simp only [Option.isSome]
                have HB8 := hid (HB7.out.trans (hb8.mono HB7.out.size))
                have HQ8 := hid hb8
                obtain ⟨w9, hw9⟩ : ∃ w9, w8.alloc (.cells #[.int .i64 k.height, .int .i64 k.time, .slice p1 k.root.length d1, .slice p2 k.next.length d2] 39) = w9 := ⟨_, rfl⟩
                have hb9 : Below w8.heap.size w8 w9 := by rw [← hw9]; exact (Below.refl _ _).alloc (Nat.le_refl _) _
                have HQ9 := hid (HQ8.out.trans (hb9.mono HQ8.out.size))
                have HB9 := hid (HB7.out.trans (HQ9.out.mono HB7.out.size))
                have HRP9 := hid (show Row w9 w8.heap.size 39 [.int .i64 k.height, .int .i64 k.time, .slice p1 k.root.length d1, .slice p2 k.next.length d2] by rw [← hw9]; exact Row.new _ _ _)
                have HX1 := hid ((hx1.below hb9).mono hb9.size)
                have HX2 := hid ((hx2.below hb9).mono hb9.size)
                have HRZ8 := hid (HRZ7.out.below hb8 HRZ7.out.lt)
                have HRB8 := hid (HRB7.out.below hb8 HRB7.out.lt)
                have HW9 := hid hw9
                clear hb8 hb9 hw9 hx1 hx2 a0 a1 a2 a3 j0 j1 j2 j3 j4 j5 j6 j7 j8 j9 hlt2 hne2 hlt4 hne4
                obtain ⟨⟨a0, a1, a2, a3⟩, _⟩ := HRZ8.out.four
                obtain ⟨⟨j0, j1, j2, j3, j4⟩, j5, j6, j7, j8, j9⟩ := HRB8.out.ten
                have hlt2 : w6.heap.size < w8.heap.size := HRZ8.out.lt
                have hne2 : w6.heap.size ≠ w8.heap.size := by omega
                have hlt4 : w.heap.size + 1 + 1 < w8.heap.size := HRB8.out.lt
                have hne4 : w.heap.size + 1 + 1 ≠ w8.heap.size := by omega
                go_wp2_with fail
                rw [HW9.out]
                refine (HAZ2.out _ HQ9.out).mono ?_
                rintro e w10 ⟨hb10, p3, d3, p4, d4, rfl, hx3, hx4⟩
                simp only [Option.isSome]
                obtain ⟨w11, hw11⟩ : ∃ w11, w10.alloc (.cells #[.int .i64 k.height, .int .i64 k.time, .slice p3 k.root.length d3, .slice p4 k.next.length d4] 39) = w11 := ⟨_, rfl⟩
                have hb11 : Below w10.heap.size w10 w11 := by rw [← hw11]; exact (Below.refl _ _).alloc (Nat.le_refl _) _
                have hq11 : Below w9.heap.size w9 w11 := hb10.trans (hb11.mono hb10.size)
                have HB11 := hid (HB9.out.trans (hq11.mono HB9.out.size))
                have HRP10 := hid (HRP9.out.below hb10 HRP9.out.lt)
                have HRP11 := hid (HRP9.out.below hq11 HRP9.out.lt)
                have HRQ11 := hid (show Row w11 w10.heap.size 39 [.int .i64 k.height, .int .i64 k.time, .slice p3 k.root.length d3, .slice p4 k.next.length d4] by rw [← hw11]; exact Row.new _ _ _)
                have HS1 := hid (sameBB ((HX1.out.below hq11).mono hq11.size) ((hx3.below hb11).mono hb11.size) HKF.out.1)
                have HS2 := hid (show ∀ wx, Below w11.heap.size w11 wx → Calls Tryd.prog 7 #[.slice p2 k.next.length d2, .slice p4 k.next.length d4] wx fun e w' => e = .returned (.bool true) ∧ Below wx.heap.size wx w' from fun wx hx => sameBB (((HX2.out.below hq11).mono hq11.size).below hx) (((hx4.below hb11).mono hb11.size).below hx) HKF.out.2)
                have HW11 := hid hw11
                clear hb10 hb11 hw11 hq11 hx3 hx4 a0 a1 a2 a3 j0 j1 j2 j3 j4 j5 j6 j7 j8 j9 hlt2 hne2 hlt4 hne4
                obtain ⟨⟨a0, a1, a2, a3⟩, _⟩ := HRP10.out.four
                have hlt2 : w8.heap.size < w10.heap.size := HRP10.out.lt
                have hne2 : w8.heap.size ≠ w10.heap.size := by omega
                have t1 : (k.time == k.time) = true := by simp
                go_wp2_with fail
                rw [HW11.out]
                refine HS1.out.mono ?_
                rintro e w12 ⟨rfl, hb12⟩
                have HB12 := hid (HB11.out.trans (hb12.mono HB11.out.size))
                have HQ12 := hid hb12
                have HRP12 := hid (HRP11.out.below hb12 HRP11.out.lt)
                have HRQ12 := hid (HRQ11.out.below hb12 HRQ11.out.lt)
                clear hb12 a0 a1 a2 a3 hlt2 hne2
                obtain ⟨⟨a0, a1, a2, a3⟩, _⟩ := HRP12.out.four
                obtain ⟨⟨b0, b1, b2, b3⟩, _⟩ := HRQ12.out.four
                go_wp2_with fail
                refine (HS2.out _ HQ12.out).mono ?_
                rintro e w13 ⟨rfl, hb13⟩
                have HB13 := hid (HB12.out.trans (hb13.mono HB12.out.size))
                clear hb13
                go_wp2
                go_ret
                exact ⟨by first | done | rfl, HB13.out⟩
          · have e2 : (ez != 0) = true := by simpa using h2
            subst h1
            clear h2
            go_wp2
            go_ret
            exact ⟨by first | done | rfl, HB6.out.alloc HB6.out.size _⟩
        · have e2 : (ey != 0) = true := by simpa using h1
          clear h1
          go_wp2
          go_ret
          exact ⟨by first | done | rfl, HB6.out.alloc HB6.out.size _⟩
  · have e1 : (followE c a now != 0) = true := by simpa using he
    generalize followE c a now = z at *
    generalize followC c a now = d at *
    clear he
    go_wp2
    go_ret
    exact ⟨by first | done | rfl, HB2.out.alloc HB2.out.size _⟩
end Go.Proofs.YtiflkkelbnpniabDoor
