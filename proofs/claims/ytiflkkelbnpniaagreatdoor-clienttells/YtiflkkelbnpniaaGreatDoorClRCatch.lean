/-
  What the document's Catch answers.
-/
import Derived.Test.YtiflkkelbnpniaaGreatDoorClRNew
namespace Go.Proofs.YtiflkkelbnpniaaGreatDoor
open Go.RowKit

set_option maxRecDepth 100000 in
set_option maxHeartbeats 8000000 in
theorem refCatchC : CatchC 17 := by
  intro c a b now cv av bv N w htab hN hcv hav hbv hcf haf hbf
  have HAV := hid hav
  have HBV := hid hbv
  have HCV := hid hcv
  obtain ⟨kv, rfl, hk⟩ := hcv
  obtain ⟨oa, ca, rfl, hca⟩ := hk.shape
  obtain ⟨o1, c1, o2, c2, o3, c3, o4, c4, o5, c5, o6, c6, rfl, f1, f2, f3, -, -, -⟩ := hav.open
  obtain ⟨r1, s1, r2, s2, r3, s3, r4, s4, r5, s5, r6, s6, rfl, g1, g2, g3, -, -, -⟩ := hbv.open
  have HHA := hid (show HdV w N (.agg #[.string a.sg.hd.chain, .int .i64 a.sg.hd.height, .int .i64 a.sg.hd.time, .slice o1 a.sg.hd.root.length c1, .slice o2 a.sg.hd.vals.length c2, .slice o3 a.sg.hd.next.length c3]) a.sg.hd from ⟨_, _, _, rfl, f1, f2, f3⟩)
  have HHB := hid (show HdV w N (.agg #[.string b.sg.hd.chain, .int .i64 b.sg.hd.height, .int .i64 b.sg.hd.time, .slice r1 b.sg.hd.root.length s1, .slice r2 b.sg.hd.vals.length s2, .slice r3 b.sg.hd.next.length s3]) b.sg.hd from ⟨_, _, _, rfl, g1, g2, g3⟩)
  obtain ⟨w0, hw0⟩ : ∃ w0, (((w.alloc (.cells #[.string c.chain, .int .i64 c.trust, .bool c.frozen, .slice oa c.known.length ca] 24)).alloc (.cells #[.int .i64 a.frm, .string a.sg.hd.chain, .int .i64 a.sg.hd.height, .int .i64 a.sg.hd.time, .slice o1 a.sg.hd.root.length c1, .slice o2 a.sg.hd.vals.length c2, .slice o3 a.sg.hd.next.length c3, .slice o4 a.sg.vals.length c4, .slice o5 a.sg.votes.length c5, .slice o6 a.trusted.length c6] 35)).alloc (.cells #[.int .i64 b.frm, .string b.sg.hd.chain, .int .i64 b.sg.hd.height, .int .i64 b.sg.hd.time, .slice r1 b.sg.hd.root.length s1, .slice r2 b.sg.hd.vals.length s2, .slice r3 b.sg.hd.next.length s3, .slice r4 b.sg.vals.length s4, .slice r5 b.sg.votes.length s5, .slice r6 b.trusted.length s6] 35)).alloc (.cells #[.string ⟨#[]⟩, .int .i64 0, .bool false, .slice none 0 0] 24) = w0 := ⟨_, rfl⟩
  have hb0 : Below w.heap.size w w0 := by rw [← hw0]; exact ((((Below.refl _ _).alloc (Nat.le_refl _) _).alloc (by simp) _).alloc (by simp; omega) _).alloc (by simp; omega) _
  have HRC0 := hid (show Row w0 (w.heap.size) 24 [.string c.chain, .int .i64 c.trust, .bool c.frozen, .slice oa c.known.length ca] by rw [← hw0]; exact (((Row.new _ _ _).alloc _).alloc _).alloc _)
  have HRA0 := hid (show Row w0 (w.heap.size + 1) 35 [.int .i64 a.frm, .string a.sg.hd.chain, .int .i64 a.sg.hd.height, .int .i64 a.sg.hd.time, .slice o1 a.sg.hd.root.length c1, .slice o2 a.sg.hd.vals.length c2, .slice o3 a.sg.hd.next.length c3, .slice o4 a.sg.vals.length c4, .slice o5 a.sg.votes.length c5, .slice o6 a.trusted.length c6] by rw [← hw0]; exact ((Row.newAt _ _ _ _ (by simp)).alloc _).alloc _)
  have HRB0 := hid (show Row w0 (w.heap.size + 1 + 1) 35 [.int .i64 b.frm, .string b.sg.hd.chain, .int .i64 b.sg.hd.height, .int .i64 b.sg.hd.time, .slice r1 b.sg.hd.root.length s1, .slice r2 b.sg.hd.vals.length s2, .slice r3 b.sg.hd.next.length s3, .slice r4 b.sg.vals.length s4, .slice r5 b.sg.votes.length s5, .slice r6 b.trusted.length s6] by rw [← hw0]; exact (Row.newAt _ _ _ _ (by simp)).alloc _)
  have HRZ0 := hid (show Row w0 (w.heap.size + 1 + 1 + 1) 24 [.string ⟨#[]⟩, .int .i64 0, .bool false, .slice none 0 0] by rw [← hw0]; exact Row.newAt _ _ _ _ (by simp))
  have HAS := hid (refAskedC c now (.agg #[.string c.chain, .int .i64 c.trust, .bool c.frozen, .slice oa c.known.length ca]) N w0 ⟨_, rfl, hk.below (hb0.mono hN)⟩ (Nat.le_trans hN hb0.size) hcf)
  have HK := hid hk
  have HTAB := hid htab
  have HB0 := hid hb0
  have HCF := hid hcf
  have HAF := hid haf
  have HBF := hid hbf
  have HW0 := hid hw0
  obtain ⟨⟨a0, a1, a2, a3⟩, -⟩ := HRC0.out.four
  clear hk htab hb0 hcf haf hbf hw0 f1 f2 f3 g1 g2 g3 hav hbv
  by_cases hask : askedN c now = 0
  · have HASK := hid hask
    obtain ⟨-, -, hfz⟩ := askedN_ok hask
    have HFZ := hid hfz
    have HDA := hid (show ∀ wx, Below w.heap.size w wx → Calls Tryz.prog 37 #[.agg #[.string c.chain, .int .i64 c.trust, .bool c.frozen, .slice oa c.known.length ca], .agg #[.int .i64 a.frm, .string a.sg.hd.chain, .int .i64 a.sg.hd.height, .int .i64 a.sg.hd.time, .slice o1 a.sg.hd.root.length c1, .slice o2 a.sg.hd.vals.length c2, .slice o3 a.sg.hd.next.length c3, .slice o4 a.sg.vals.length c4, .slice o5 a.sg.votes.length c5, .slice o6 a.trusted.length c6], .int .i64 now] wx _ from fun wx hx =>
      refBelieveC c a now _ _ N wx (HTAB.out.below hx HTAB.out.lt) (Nat.le_trans hN hx.size) (HCV.out.below (hx.mono hN)) (HAV.out.below (hx.mono hN)) HCF.out HAF.out HASK.out)
    have HDB := hid (show ∀ wx, Below w.heap.size w wx → Calls Tryz.prog 37 #[.agg #[.string c.chain, .int .i64 c.trust, .bool c.frozen, .slice oa c.known.length ca], .agg #[.int .i64 b.frm, .string b.sg.hd.chain, .int .i64 b.sg.hd.height, .int .i64 b.sg.hd.time, .slice r1 b.sg.hd.root.length s1, .slice r2 b.sg.hd.vals.length s2, .slice r3 b.sg.hd.next.length s3, .slice r4 b.sg.vals.length s4, .slice r5 b.sg.votes.length s5, .slice r6 b.trusted.length s6], .int .i64 now] wx _ from fun wx hx =>
      refBelieveC c b now _ _ N wx (HTAB.out.below hx HTAB.out.lt) (Nat.le_trans hN hx.size) (HCV.out.below (hx.mono hN)) (HBV.out.below (hx.mono hN)) HCF.out HBF.out HASK.out)
    rw [HFZ.out] at HAS HDA HDB HRC0
    simp only [hfz] at a2
    have HW0' := hid HW0.out
    rw [HFZ.out] at HW0'
    rw [HFZ.out]
    clear hask hfz hca HW0 HCV
    generalize hn : c.known.length = n at *
    clear hn
    go_enter Tryz.func17, Tryz.ntmps17
    go_wp2_with fail
    rw [HW0'.out]
    refine HAS.out.mono ?_
    rintro e w1 ⟨rfl, hb1⟩
    rw [HASK.out]
    have HB1 := hid (HB0.out.trans (hb1.mono HB0.out.size))
    have HRC1 := hid (HRC0.out.below hb1 HRC0.out.lt)
    have HRA1 := hid (HRA0.out.below hb1 HRA0.out.lt)
    have HRB1 := hid (HRB0.out.below hb1 HRB0.out.lt)
    have HRZ1 := hid (HRZ0.out.below hb1 HRZ0.out.lt)
    clear hb1 a0 a1 a2 a3
    obtain ⟨⟨a0, a1, a2, a3⟩, -⟩ := HRC1.out.four
    obtain ⟨⟨i0, i1, i2, i3, i4⟩, i5, i6, i7, i8, i9⟩ := HRA1.out.ten
    go_wp2_with fail
    refine (HDA.out _ HB1.out).mono ?_
    rintro e w2 ⟨rfl, hb2⟩
    have HB2 := hid (HB1.out.trans (hb2.mono HB1.out.size))
    have HRC2 := hid (HRC1.out.below hb2 HRC1.out.lt)
    have HRA2 := hid (HRA1.out.below hb2 HRA1.out.lt)
    have HRB2 := hid (HRB1.out.below hb2 HRB1.out.lt)
    have HRZ2 := hid (HRZ1.out.below hb2 HRZ1.out.lt)
    clear hb2 a0 a1 a2 a3 i0 i1 i2 i3 i4 i5 i6 i7 i8 i9
    by_cases hbl : believeN c a now = 0
    · have HBA := hid hbl
      rw [hbl]
      clear hbl
      obtain ⟨⟨a0, a1, a2, a3⟩, -⟩ := HRC2.out.four
      obtain ⟨⟨j0, j1, j2, j3, j4⟩, j5, j6, j7, j8, j9⟩ := HRB2.out.ten
      go_wp2_with fail
      refine (HDB.out _ HB2.out).mono ?_
      rintro e w3 ⟨rfl, hb3⟩
      have HB3 := hid (HB2.out.trans (hb3.mono HB2.out.size))
      have HRC3 := hid (HRC2.out.below hb3 HRC2.out.lt)
      have HRA3 := hid (HRA2.out.below hb3 HRA2.out.lt)
      have HRB3 := hid (HRB2.out.below hb3 HRB2.out.lt)
      have HRZ3 := hid (HRZ2.out.below hb3 HRZ2.out.lt)
      clear hb3 a0 a1 a2 a3 j0 j1 j2 j3 j4 j5 j6 j7 j8 j9
      by_cases hbl : believeN c b now = 0
      · have HBB := hid hbl
        rw [hbl]
        clear hbl
        have HFE := hid (show catchE c a b now = if a.sg.hd.height ≠ b.sg.hd.height ∨ sameH a.sg.hd b.sg.hd = true then 8 else 0 by
          unfold catchE
          rw [if_neg (fun h => h HASK.out), if_neg (fun h => h HBA.out), if_neg (fun h => h HBB.out)])
        have HSH := hid (sameHeader_any a.sg.hd b.sg.hd _ _ N w3 (Nat.le_trans hN HB3.out.size) (HHA.out.below (HB3.out.mono hN)) (HHB.out.below (HB3.out.mono hN)) HAF.out.1.1 HBF.out.1.1)
        obtain ⟨⟨i0, i1, i2, i3, i4⟩, i5, i6, i7, i8, i9⟩ := HRA3.out.ten
        obtain ⟨⟨j0, j1, j2, j3, j4⟩, j5, j6, j7, j8, j9⟩ := HRB3.out.ten
        by_cases hh : a.sg.hd.height = b.sg.hd.height
        · have e1 : (a.sg.hd.height != b.sg.hd.height) = false := by simpa using hh
          have HH0 := hid hh
          clear hh
          go_wp2_with fail
          refine HSH.out.mono ?_
          rintro e w6 ⟨⟨rr, rfl, hrr⟩, hb6⟩
          have HRR := hid hrr
          have HB6 := hid (HB3.out.trans (hb6.mono HB3.out.size))
          have HRC6 := hid (HRC3.out.below hb6 HRC3.out.lt)
          have HRA6 := hid (HRA3.out.below hb6 HRA3.out.lt)
          have HRB6 := hid (HRB3.out.below hb6 HRB3.out.lt)
          have HRZ6 := hid (HRZ3.out.below hb6 HRZ3.out.lt)
          clear hb6 hrr i0 i1 i2 i3 i4 i5 i6 i7 i8 i9 j0 j1 j2 j3 j4 j5 j6 j7 j8 j9
          cases rr with
          | true =>
            have HE8 := hid (show catchE c a b now = 8 by rw [HFE.out, if_pos (.inr ((sameH_iff _ _).2 (HRR.out.1 (by simp))))])
            have HFC := hid (show catchC c a b now = Cl.none by unfold catchC; rw [HE8.out, if_neg (by decide)])
            obtain ⟨⟨x0, x1, x2, x3⟩, z0, z1, z2, z3⟩ := HRZ6.out.four
            go_wp2
            have hrz := set4_row HRZ6.out (.string ⟨#[]⟩) (.int .i64 0) (.bool false) (.slice none 0 0)
            obtain ⟨⟨u0, u1, u2, u3⟩, -⟩ := hrz.four
            have hbz := set4_below HB6.out (show w.heap.size ≤ w.heap.size + 1 + 1 + 1 by omega) (.string ⟨#[]⟩) (.int .i64 0) (.bool false) (.slice none 0 0)
            unfold set4 at u0 u1 u2 u3
            refine bodyPost_ret (v := .tuple #[.agg #[.string ⟨#[]⟩, .int .i64 0, .bool false, .slice none 0 0], .int .i64 8]) (by simp [results, Tryz.results17, go_sem, u0, u1, u2, u3]) rfl ⟨hbz, none, 0, 0, ?_⟩
            rw [HFC.out, HE8.out]
            exact ⟨rfl, Knowns.nil _ _⟩
          | false =>
            have HE0 := hid (show catchE c a b now = 0 by
              rw [HFE.out, if_neg]
              intro h
              rcases h with h | h
              · exact h HH0.out
              · have := HRR.out.2 ((sameH_iff _ _).1 h); simp at this)
            have HFC := hid (show catchC c a b now = { c with frozen := true } by unfold catchC; rw [if_pos HE0.out])
            obtain ⟨⟨a0, a1, a2, a3⟩, y0, y1, y2, y3⟩ := HRC6.out.four
            have hne : w.heap.size + 1 + 1 + 1 ≠ w.heap.size := by omega
            obtain ⟨wB, hwB⟩ : ∃ wB, w6.setCell ⟨w.heap.size, 2, none⟩ (.bool true) = wB := ⟨_, rfl⟩
            have HBB' := hid (show Below w.heap.size w wB by rw [← hwB]; exact HB6.out.setCell (Nat.le_refl _) _)
            have HRCB := hid (show Row wB (w.heap.size) 24 [.string c.chain, .int .i64 c.trust, .bool true, .slice oa n ca] by rw [← hwB]; exact HRC6.out.set 2 (.bool true))
            have HRZB := hid (show Row wB (w.heap.size + 1 + 1 + 1) 24 [.string ⟨#[]⟩, .int .i64 0, .bool false, .slice none 0 0] by rw [← hwB]; exact setCell_row HRZ6.out _ _ hne)
            obtain ⟨⟨b0, b1, b2, b3⟩, -⟩ := HRCB.out.four
            obtain ⟨⟨x0, x1, x2, x3⟩, z0, z1, z2, z3⟩ := HRZB.out.four
            go_wp2
            have hrz := set4_row HRZB.out (.string c.chain) (.int .i64 c.trust) (.bool true) (.slice oa n ca)
            obtain ⟨⟨u0, u1, u2, u3⟩, -⟩ := hrz.four
            have hbz := set4_below HBB'.out (show w.heap.size ≤ w.heap.size + 1 + 1 + 1 by omega) (.string c.chain) (.int .i64 c.trust) (.bool true) (.slice oa n ca)
            have hkz := (HK.out.below (hbz.mono hN)).mono (Nat.le_trans hN hbz.size)
            unfold set4 at u0 u1 u2 u3
            refine bodyPost_ret (v := .tuple #[.agg #[.string c.chain, .int .i64 c.trust, .bool true, .slice oa n ca], .int .i64 0]) (by simp [results, Tryz.results17, go_sem, u0, u1, u2, u3]) rfl ⟨hbz, oa, n, ca, ?_⟩
            rw [HFC.out, HE0.out]
            exact ⟨rfl, hkz⟩
        · have e1 : (a.sg.hd.height != b.sg.hd.height) = true := by simpa using hh
          have HE8 := hid (show catchE c a b now = 8 by rw [HFE.out, if_pos (.inl hh)])
          have HFC := hid (show catchC c a b now = Cl.none by unfold catchC; rw [HE8.out, if_neg (by decide)])
          clear hh
          obtain ⟨⟨x0, x1, x2, x3⟩, z0, z1, z2, z3⟩ := HRZ3.out.four
          go_wp2
          have hrz := set4_row HRZ3.out (.string ⟨#[]⟩) (.int .i64 0) (.bool false) (.slice none 0 0)
          obtain ⟨⟨u0, u1, u2, u3⟩, -⟩ := hrz.four
          have hbz := set4_below HB3.out (show w.heap.size ≤ w.heap.size + 1 + 1 + 1 by omega) (.string ⟨#[]⟩) (.int .i64 0) (.bool false) (.slice none 0 0)
          unfold set4 at u0 u1 u2 u3
          refine bodyPost_ret (v := .tuple #[.agg #[.string ⟨#[]⟩, .int .i64 0, .bool false, .slice none 0 0], .int .i64 8]) (by simp [results, Tryz.results17, go_sem, u0, u1, u2, u3]) rfl ⟨hbz, none, 0, 0, ?_⟩
          rw [HFC.out, HE8.out]
          exact ⟨rfl, Knowns.nil _ _⟩
      · skip
        have HFE := hid (show catchE c a b now = believeN c b now by unfold catchE; rw [if_neg (fun h => h HASK.out), if_neg (fun h => h HBA.out), if_pos hbl])
        have HFC := hid (show catchC c a b now = Cl.none by unfold catchC; rw [HFE.out, if_neg hbl])
        have e1 : (believeN c b now != 0) = true := by simpa using hbl
        clear hbl
        generalize believeN c b now = z at *
        obtain ⟨⟨x0, x1, x2, x3⟩, z0, z1, z2, z3⟩ := HRZ3.out.four
        go_wp2
        have hrz := set4_row HRZ3.out (.string ⟨#[]⟩) (.int .i64 0) (.bool false) (.slice none 0 0)
        obtain ⟨⟨u0, u1, u2, u3⟩, -⟩ := hrz.four
        have hbz := set4_below HB3.out (show w.heap.size ≤ w.heap.size + 1 + 1 + 1 by omega) (.string ⟨#[]⟩) (.int .i64 0) (.bool false) (.slice none 0 0)
        unfold set4 at u0 u1 u2 u3
        refine bodyPost_ret (v := .tuple #[.agg #[.string ⟨#[]⟩, .int .i64 0, .bool false, .slice none 0 0], .int .i64 z]) (by simp [results, Tryz.results17, go_sem, u0, u1, u2, u3]) rfl ⟨hbz, none, 0, 0, ?_⟩
        rw [HFC.out, HFE.out]
        exact ⟨rfl, Knowns.nil _ _⟩
    · skip
      have HFE := hid (show catchE c a b now = believeN c a now by unfold catchE; rw [if_neg (fun h => h HASK.out), if_pos hbl])
      have HFC := hid (show catchC c a b now = Cl.none by unfold catchC; rw [HFE.out, if_neg hbl])
      have e1 : (believeN c a now != 0) = true := by simpa using hbl
      clear hbl
      generalize believeN c a now = z at *
      obtain ⟨⟨x0, x1, x2, x3⟩, z0, z1, z2, z3⟩ := HRZ2.out.four
      go_wp2
      have hrz := set4_row HRZ2.out (.string ⟨#[]⟩) (.int .i64 0) (.bool false) (.slice none 0 0)
      obtain ⟨⟨u0, u1, u2, u3⟩, -⟩ := hrz.four
      have hbz := set4_below HB2.out (show w.heap.size ≤ w.heap.size + 1 + 1 + 1 by omega) (.string ⟨#[]⟩) (.int .i64 0) (.bool false) (.slice none 0 0)
      unfold set4 at u0 u1 u2 u3
      refine bodyPost_ret (v := .tuple #[.agg #[.string ⟨#[]⟩, .int .i64 0, .bool false, .slice none 0 0], .int .i64 z]) (by simp [results, Tryz.results17, go_sem, u0, u1, u2, u3]) rfl ⟨hbz, none, 0, 0, ?_⟩
      rw [HFC.out, HFE.out]
      exact ⟨rfl, Knowns.nil _ _⟩
  · have HFE := hid (show catchE c a b now = askedN c now by unfold catchE; rw [if_pos hask])
    have HFC := hid (show catchC c a b now = Cl.none by unfold catchC; rw [HFE.out, if_neg hask])
    have e1 : (askedN c now != 0) = true := by simpa using hask
    clear hask
    generalize askedN c now = z at *
    go_enter Tryz.func17, Tryz.ntmps17
    go_wp2_with fail
    rw [HW0.out]
    refine HAS.out.mono ?_
    rintro e w1 ⟨rfl, hb1⟩
    have HB1 := hid (HB0.out.trans (hb1.mono HB0.out.size))
    have HRZ1 := hid (HRZ0.out.below hb1 HRZ0.out.lt)
    clear hb1 a0 a1 a2 a3
    obtain ⟨⟨x0, x1, x2, x3⟩, z0, z1, z2, z3⟩ := HRZ1.out.four
    go_wp2
    have hrz := set4_row HRZ1.out (.string ⟨#[]⟩) (.int .i64 0) (.bool false) (.slice none 0 0)
    obtain ⟨⟨u0, u1, u2, u3⟩, -⟩ := hrz.four
    have hbz := set4_below HB1.out (show w.heap.size ≤ w.heap.size + 1 + 1 + 1 by omega) (.string ⟨#[]⟩) (.int .i64 0) (.bool false) (.slice none 0 0)
    unfold set4 at u0 u1 u2 u3
    refine bodyPost_ret (v := .tuple #[.agg #[.string ⟨#[]⟩, .int .i64 0, .bool false, .slice none 0 0], .int .i64 z]) (by simp [results, Tryz.results17, go_sem, u0, u1, u2, u3]) rfl ⟨hbz, none, 0, 0, ?_⟩
    rw [HFC.out, HFE.out]
    exact ⟨rfl, Knowns.nil _ _⟩
end Go.Proofs.YtiflkkelbnpniaaGreatDoor
