/-
  What the document's Absent answers: whether a gap shows that a key does not stand in the book with a root.
-/
import Derived.Test.YtjfhhlgblmjonaaDoorRef5Shown
import Derived.Test.YtjfhhlgblmjonaaDoorProofAbsW
namespace Go.Proofs.YtjfhhlgblmjonaaDoor
open Go.RowKit

set_option maxRecDepth 100000 in
set_option maxHeartbeats 4000000 in
theorem refAbsentC : AbsentC 13 := by
  intro r k g rv kv v N w _ hN hr hk hg hf hrl hkl
  obtain ⟨orr, cr, rfl, _⟩ := hr.shape
  obtain ⟨ok, ck, rfl, _⟩ := hk.shape
  obtain ⟨k1, v1, p1, k2, v2, p2, rfl, hk1, hv1, hp1, hk2, hv2, hp2⟩ := hg
  obtain ⟨a1, b1, rfl, _⟩ := hk1.shape
  obtain ⟨a2, b2, rfl, _⟩ := hv1.shape
  obtain ⟨a3, b3, rfl, _⟩ := hp1.shape
  obtain ⟨a4, b4, rfl, _⟩ := hk2.shape
  obtain ⟨a5, b5, rfl, _⟩ := hv2.shape
  obtain ⟨a6, b6, rfl, _⟩ := hp2.shape
  obtain ⟨L, hL⟩ : ∃ L, g.hasL = L := ⟨_, rfl⟩
  obtain ⟨R, hR⟩ : ∃ R, g.hasR = R := ⟨_, rfl⟩
  have HAB := hid (show absentB r k g ↔ if L = false ∧ R = false then r = topD 0 [] else (L = true → shownB r g.left ∧ lessB g.left.key k = true) ∧ (R = true → shownB r g.right ∧ lessB k g.right.key = true) ∧
      ((L = true → R = true → g.right.size = g.left.size ∧ g.left.index + 1 = g.right.index) ∧ (L = true → R = false → g.left.index + 1 = g.left.size) ∧ (L = false → R = true → g.right.index = 0)) by
    unfold absentB
    rw [hL, hR])
  rw [hL, hR]
  obtain ⟨w1, hw1⟩ : ∃ w1, w.alloc (.cells #[.bool L, .bool R, .int .i64 g.left.index, .int .i64 g.left.size, .slice a1 g.left.key.length b1, .slice a2 g.left.val.length b2, .slice a3 g.left.path.length b3, .int .i64 g.right.index, .int .i64 g.right.size, .slice a4 g.right.key.length b4, .slice a5 g.right.val.length b5, .slice a6 g.right.path.length b6] 28) = w1 := ⟨_, rfl⟩
  have hsz1 : w1.heap.size = w.heap.size + 1 := by rw [← hw1]; simp
  have hb1 : Below w.heap.size w w1 := by rw [← hw1]; exact (Below.refl _ _).alloc (Nat.le_refl _) _
  have hrow1 : Row w1 w.heap.size 28 [.bool L, .bool R, .int .i64 g.left.index, .int .i64 g.left.size, .slice a1 g.left.key.length b1, .slice a2 g.left.val.length b2, .slice a3 g.left.path.length b3, .int .i64 g.right.index, .int .i64 g.right.size, .slice a4 g.right.key.length b4, .slice a5 g.right.val.length b5, .slice a6 g.right.path.length b6] := by rw [← hw1]; exact Row.new _ _ _
  have HBX := hid (show ∀ wx, Below w1.heap.size w1 wx → Below w.heap.size w wx from fun wx hx => hb1.trans (hx.mono (by omega)))
  have HRX := hid (show ∀ wx, Below w1.heap.size w1 wx → Row wx w.heap.size 28 [.bool L, .bool R, .int .i64 g.left.index, .int .i64 g.left.size, .slice a1 g.left.key.length b1, .slice a2 g.left.val.length b2, .slice a3 g.left.path.length b3, .int .i64 g.right.index, .int .i64 g.right.size, .slice a4 g.right.key.length b4, .slice a5 g.right.val.length b5, .slice a6 g.right.path.length b6] from fun wx hx => hrow1.below hx (by omega))
  have HSL := hid (show ∀ wx, Below w1.heap.size w1 wx → Calls Tryd.prog 11 #[.slice orr r.length cr, .agg #[.int .i64 g.left.index, .int .i64 g.left.size, .slice a1 g.left.key.length b1, .slice a2 g.left.val.length b2, .slice a3 g.left.path.length b3]] wx fun e w' => Below wx.heap.size wx w' ∧ Tells (shownB r g.left) e from fun wx hx =>
    have hb := HBX.out wx hx
    refShown_any r g.left _ _ N wx (Nat.le_trans hN hb.size) (hr.below (hb.mono hN)) ⟨_, _, _, rfl, hk1.below (hb.mono hN), hv1.below (hb.mono hN), hp1.below (hb.mono hN)⟩ hf.1 hrl)
  have HSR := hid (show ∀ wx, Below w1.heap.size w1 wx → Calls Tryd.prog 11 #[.slice orr r.length cr, .agg #[.int .i64 g.right.index, .int .i64 g.right.size, .slice a4 g.right.key.length b4, .slice a5 g.right.val.length b5, .slice a6 g.right.path.length b6]] wx fun e w' => Below wx.heap.size wx w' ∧ Tells (shownB r g.right) e from fun wx hx =>
    have hb := HBX.out wx hx
    refShown_any r g.right _ _ N wx (Nat.le_trans hN hb.size) (hr.below (hb.mono hN)) ⟨_, _, _, rfl, hk2.below (hb.mono hN), hv2.below (hb.mono hN), hp2.below (hb.mono hN)⟩ hf.2 hrl)
  have HCL := hid (show ∀ wx, Below w1.heap.size w1 wx → Calls Tryd.prog 32 #[.slice a1 g.left.key.length b1, .slice ok k.length ck] wx fun e w' => e = .returned (.bool (lessB g.left.key k)) ∧ Below wx.heap.size wx w' from fun wx hx =>
    have hb := HBX.out wx hx
    (refLess_any _ _ _ _ N N wx (hk1.below (hb.mono hN)) (hk.below (hb.mono hN)) (by have := hf.1.1; omega) (by omega)).mono fun e w' ⟨h1, n, h2⟩ => ⟨h1, by rw [h2]; exact drewN_belowS _ _ _⟩)
  have HCR := hid (show ∀ wx, Below w1.heap.size w1 wx → Calls Tryd.prog 32 #[.slice ok k.length ck, .slice a4 g.right.key.length b4] wx fun e w' => e = .returned (.bool (lessB k g.right.key)) ∧ Below wx.heap.size wx w' from fun wx hx =>
    have hb := HBX.out wx hx
    (refLess_any _ _ _ _ N N wx (hk.below (hb.mono hN)) (hk2.below (hb.mono hN)) (by omega) (by have := hf.2.1; omega)).mono fun e w' ⟨h1, n, h2⟩ => ⟨h1, by rw [h2]; exact drewN_belowS _ _ _⟩)
  have HRT := hid hr
  have q0 := hrow1.cell 0
  have q1 := hrow1.cell 1
  have q2 := hrow1.cell 2
  have q3 := hrow1.cell 3
  have q4 := hrow1.cell 4
  have q5 := hrow1.cell 5
  have q6 := hrow1.cell 6
  have q7 := hrow1.cell 7
  have q8 := hrow1.cell 8
  have q9 := hrow1.cell 9
  have q10 := hrow1.cell 10
  have q11 := hrow1.cell 11
  clear hk1 hv1 hp1 hk2 hv2 hp2 hL hR hb1 hrow1 hr hk hf
  go_enter Tryd.func13, Tryd.ntmps13
  have HB11 := hid (Below.refl w1.heap.size w1)
  cases L with
  | false =>
    cases R with
    | false =>
      have HTP := hid (refTop_any 0 [] (.slice none 0 0) w1.heap.size w1 (Nat.le_refl _) (.inl ⟨rfl, rfl⟩) (by decide) (by decide))
      go_wp2_with fail
      refine HTP.out.mono ?_
      rintro e w2 ⟨o2, c2, rfl, hown2, hb2⟩
      have HB2 := hid hb2
      have HSM := hid (sameB_any r (topD 0 []) (.slice orr r.length cr) (.slice o2 32 c2) N w2.heap.size w2 (HRT.out.below ((HBX.out w2 hb2).mono hN)) hown2.bytes (by omega) (by unfold topD; rw [sha_length]; decide))
      clear hown2 hb2
      go_wp2_with fail
      refine HSM.out.mono ?_
      rintro e w3 ⟨rfl, n3, rfl⟩
      go_wp2
      go_ret
      refine ⟨(HBX.out w2 HB2.out).trans (drewN_belowS _ _ _), _, rfl, ?_⟩
      rw [decide_eq_true_iff, HAB.out, if_pos (by simp)]
    | true =>
      go_wp2_with fail
      refine (HSR.out w1 HB11.out).mono ?_
      rintro e w3 ⟨hbw, bb, rfl, hbb⟩
      have HTR := hid hbb
      have HB3 := hid (HB11.out.trans (hbw.mono HB11.out.size))
      clear hbw hbb
      clear q0 q1 q2 q3 q4 q5 q6 q7 q8 q9 q10 q11
      have q0 := (HRX.out w3 HB3.out).cell 0
      have q1 := (HRX.out w3 HB3.out).cell 1
      have q2 := (HRX.out w3 HB3.out).cell 2
      have q3 := (HRX.out w3 HB3.out).cell 3
      have q4 := (HRX.out w3 HB3.out).cell 4
      have q5 := (HRX.out w3 HB3.out).cell 5
      have q6 := (HRX.out w3 HB3.out).cell 6
      have q7 := (HRX.out w3 HB3.out).cell 7
      have q8 := (HRX.out w3 HB3.out).cell 8
      have q9 := (HRX.out w3 HB3.out).cell 9
      have q10 := (HRX.out w3 HB3.out).cell 10
      have q11 := (HRX.out w3 HB3.out).cell 11
      cases bb with
      | false =>
        go_wp2
        go_ret
        refine ⟨HBX.out _ HB3.out, Tells.no (fun h => ?_)⟩
        have h := HAB.out.1 h
        rw [if_neg (by simp)] at h
        exact absurd (HTR.out.2 (h.2.1 (by trivial)).1) (by simp)
      | true =>
        have HSRR := hid (HTR.out.1 rfl)
        cases hcR : lessB k g.right.key with
        | false =>
          rw [hcR] at HCR
          have HNR := hid hcR
          clear hcR
          go_wp2_with fail
          refine (HCR.out w3 HB3.out).mono ?_
          rintro e w4 ⟨rfl, hbz⟩
          have HB4 := hid (HB3.out.trans (hbz.mono HB3.out.size))
          clear hbz
          go_wp2
          go_ret
          refine ⟨HBX.out _ HB4.out, Tells.no (fun h => ?_)⟩
          have h := HAB.out.1 h
          rw [if_neg (by simp)] at h
          exact absurd (HNR.out.symm.trans (h.2.1 (by trivial)).2) (by simp)
        | true =>
          rw [hcR] at HCR
          have HYR := hid hcR
          clear hcR
          go_wp2_with fail
          refine (HCR.out w3 HB3.out).mono ?_
          rintro e w4 ⟨rfl, hbz⟩
          have HB4 := hid (HB3.out.trans (hbz.mono HB3.out.size))
          clear hbz
          clear q0 q1 q2 q3 q4 q5 q6 q7 q8 q9 q10 q11
          have q0 := (HRX.out w4 HB4.out).cell 0
          have q1 := (HRX.out w4 HB4.out).cell 1
          have q2 := (HRX.out w4 HB4.out).cell 2
          have q3 := (HRX.out w4 HB4.out).cell 3
          have q4 := (HRX.out w4 HB4.out).cell 4
          have q5 := (HRX.out w4 HB4.out).cell 5
          have q6 := (HRX.out w4 HB4.out).cell 6
          have q7 := (HRX.out w4 HB4.out).cell 7
          have q8 := (HRX.out w4 HB4.out).cell 8
          have q9 := (HRX.out w4 HB4.out).cell 9
          have q10 := (HRX.out w4 HB4.out).cell 10
          have q11 := (HRX.out w4 HB4.out).cell 11
          go_wp2
          go_ret
          refine ⟨HBX.out _ HB4.out, _, rfl, ?_⟩
          rw [HAB.out, if_neg (by simp)]
          constructor
          · intro h
            have h := of_decide_eq_true h
            exact ⟨fun h => absurd h (by simp), fun _ => ⟨HSRR.out, HYR.out⟩, fun h => absurd h (by simp), fun h => absurd h (by simp), fun _ _ => by omega⟩
          · rintro ⟨_, _, _, _, h⟩
            have := h (by trivial) (by trivial)
            exact decide_eq_true (by omega)
  | true =>
    cases R with
    | false =>
      go_wp2_with fail
      refine (HSL.out w1 HB11.out).mono ?_
      rintro e w2 ⟨hbw, bb, rfl, hbb⟩
      have HTL := hid hbb
      have HB2 := hid (HB11.out.trans (hbw.mono HB11.out.size))
      clear hbw hbb
      clear q0 q1 q2 q3 q4 q5 q6 q7 q8 q9 q10 q11
      have q0 := (HRX.out w2 HB2.out).cell 0
      have q1 := (HRX.out w2 HB2.out).cell 1
      have q2 := (HRX.out w2 HB2.out).cell 2
      have q3 := (HRX.out w2 HB2.out).cell 3
      have q4 := (HRX.out w2 HB2.out).cell 4
      have q5 := (HRX.out w2 HB2.out).cell 5
      have q6 := (HRX.out w2 HB2.out).cell 6
      have q7 := (HRX.out w2 HB2.out).cell 7
      have q8 := (HRX.out w2 HB2.out).cell 8
      have q9 := (HRX.out w2 HB2.out).cell 9
      have q10 := (HRX.out w2 HB2.out).cell 10
      have q11 := (HRX.out w2 HB2.out).cell 11
      cases bb with
      | false =>
        go_wp2
        go_ret
        refine ⟨HBX.out _ HB2.out, Tells.no (fun h => ?_)⟩
        have h := HAB.out.1 h
        rw [if_neg (by simp)] at h
        exact absurd (HTL.out.2 (h.1 (by trivial)).1) (by simp)
      | true =>
        have HSLL := hid (HTL.out.1 rfl)
        cases hcL : lessB g.left.key k with
        | false =>
          rw [hcL] at HCL
          have HNL := hid hcL
          clear hcL
          go_wp2_with fail
          refine (HCL.out w2 HB2.out).mono ?_
          rintro e w3 ⟨rfl, hbz⟩
          have HB3 := hid (HB2.out.trans (hbz.mono HB2.out.size))
          clear hbz
          go_wp2
          go_ret
          refine ⟨HBX.out _ HB3.out, Tells.no (fun h => ?_)⟩
          have h := HAB.out.1 h
          rw [if_neg (by simp)] at h
          exact absurd (HNL.out.symm.trans (h.1 (by trivial)).2) (by simp)
        | true =>
          rw [hcL] at HCL
          have HYL := hid hcL
          clear hcL
          go_wp2_with fail
          refine (HCL.out w2 HB2.out).mono ?_
          rintro e w3 ⟨rfl, hbz⟩
          have HB3 := hid (HB2.out.trans (hbz.mono HB2.out.size))
          clear hbz
          clear q0 q1 q2 q3 q4 q5 q6 q7 q8 q9 q10 q11
          have q0 := (HRX.out w3 HB3.out).cell 0
          have q1 := (HRX.out w3 HB3.out).cell 1
          have q2 := (HRX.out w3 HB3.out).cell 2
          have q3 := (HRX.out w3 HB3.out).cell 3
          have q4 := (HRX.out w3 HB3.out).cell 4
          have q5 := (HRX.out w3 HB3.out).cell 5
          have q6 := (HRX.out w3 HB3.out).cell 6
          have q7 := (HRX.out w3 HB3.out).cell 7
          have q8 := (HRX.out w3 HB3.out).cell 8
          have q9 := (HRX.out w3 HB3.out).cell 9
          have q10 := (HRX.out w3 HB3.out).cell 10
          have q11 := (HRX.out w3 HB3.out).cell 11
          have hbd : 1 ≤ g.left.size ∧ g.left.size ≤ 200 ∧ 0 ≤ g.left.index ∧ g.left.index < g.left.size := ⟨HSLL.out.1, HSLL.out.2.1, HSLL.out.2.2.1, HSLL.out.2.2.2.1⟩
          go_wp2_with fail
          go_region
          all_goals
            go_wp2
            go_ret
            refine ⟨HBX.out _ HB3.out.drew, _, rfl, ?_⟩
            rw [HAB.out, if_neg (by simp)]
            constructor
            · intro h
              have h := of_decide_eq_true h
              exact ⟨fun _ => ⟨HSLL.out, HYL.out⟩, fun h => absurd h (by simp), fun _ h => absurd h (by simp), fun _ _ => by omega, fun h => absurd h (by simp)⟩
            · rintro ⟨_, _, _, h, _⟩
              have := h (by trivial) (by trivial)
              exact decide_eq_true (by omega)
    | true =>
      go_wp2_with fail
      refine (HSL.out w1 HB11.out).mono ?_
      rintro e w2 ⟨hbw, bb, rfl, hbb⟩
      have HTL := hid hbb
      have HB2 := hid (HB11.out.trans (hbw.mono HB11.out.size))
      clear hbw hbb
      clear q0 q1 q2 q3 q4 q5 q6 q7 q8 q9 q10 q11
      have q0 := (HRX.out w2 HB2.out).cell 0
      have q1 := (HRX.out w2 HB2.out).cell 1
      have q2 := (HRX.out w2 HB2.out).cell 2
      have q3 := (HRX.out w2 HB2.out).cell 3
      have q4 := (HRX.out w2 HB2.out).cell 4
      have q5 := (HRX.out w2 HB2.out).cell 5
      have q6 := (HRX.out w2 HB2.out).cell 6
      have q7 := (HRX.out w2 HB2.out).cell 7
      have q8 := (HRX.out w2 HB2.out).cell 8
      have q9 := (HRX.out w2 HB2.out).cell 9
      have q10 := (HRX.out w2 HB2.out).cell 10
      have q11 := (HRX.out w2 HB2.out).cell 11
      cases bb with
      | false =>
        go_wp2
        go_ret
        refine ⟨HBX.out _ HB2.out, Tells.no (fun h => ?_)⟩
        have h := HAB.out.1 h
        rw [if_neg (by simp)] at h
        exact absurd (HTL.out.2 (h.1 (by trivial)).1) (by simp)
      | true =>
        have HSLL := hid (HTL.out.1 rfl)
        cases hcL : lessB g.left.key k with
        | false =>
          rw [hcL] at HCL
          have HNL := hid hcL
          clear hcL
          go_wp2_with fail
          refine (HCL.out w2 HB2.out).mono ?_
          rintro e w3 ⟨rfl, hbz⟩
          have HB3 := hid (HB2.out.trans (hbz.mono HB2.out.size))
          clear hbz
          go_wp2
          go_ret
          refine ⟨HBX.out _ HB3.out, Tells.no (fun h => ?_)⟩
          have h := HAB.out.1 h
          rw [if_neg (by simp)] at h
          exact absurd (HNL.out.symm.trans (h.1 (by trivial)).2) (by simp)
        | true =>
          rw [hcL] at HCL
          have HYL := hid hcL
          clear hcL
          go_wp2_with fail
          refine (HCL.out w2 HB2.out).mono ?_
          rintro e w3 ⟨rfl, hbz⟩
          have HB3 := hid (HB2.out.trans (hbz.mono HB2.out.size))
          clear hbz
          clear q0 q1 q2 q3 q4 q5 q6 q7 q8 q9 q10 q11
          have q0 := (HRX.out w3 HB3.out).cell 0
          have q1 := (HRX.out w3 HB3.out).cell 1
          have q2 := (HRX.out w3 HB3.out).cell 2
          have q3 := (HRX.out w3 HB3.out).cell 3
          have q4 := (HRX.out w3 HB3.out).cell 4
          have q5 := (HRX.out w3 HB3.out).cell 5
          have q6 := (HRX.out w3 HB3.out).cell 6
          have q7 := (HRX.out w3 HB3.out).cell 7
          have q8 := (HRX.out w3 HB3.out).cell 8
          have q9 := (HRX.out w3 HB3.out).cell 9
          have q10 := (HRX.out w3 HB3.out).cell 10
          have q11 := (HRX.out w3 HB3.out).cell 11
          have hbd : 1 ≤ g.left.size ∧ g.left.size ≤ 200 ∧ 0 ≤ g.left.index ∧ g.left.index < g.left.size := ⟨HSLL.out.1, HSLL.out.2.1, HSLL.out.2.2.1, HSLL.out.2.2.2.1⟩
          have HBD := hid (show Below w1.heap.size w1 w3.drew from HB3.out.drew)
          obtain ⟨w4, hw4⟩ : ∃ w4, w3.drew = w4 := ⟨_, rfl⟩
          rw [hw4] at HBD
          have x2 := (HRX.out w4 HBD.out).cell 2
          have x3 := (HRX.out w4 HBD.out).cell 3
          go_wp2_with fail
          go_region
          try rw [hw4]
          clear hw4 x2 x3
          clear q0 q1 q2 q3 q4 q5 q6 q7 q8 q9 q10 q11
          have q0 := (HRX.out w4 HBD.out).cell 0
          have q1 := (HRX.out w4 HBD.out).cell 1
          have q2 := (HRX.out w4 HBD.out).cell 2
          have q3 := (HRX.out w4 HBD.out).cell 3
          have q4 := (HRX.out w4 HBD.out).cell 4
          have q5 := (HRX.out w4 HBD.out).cell 5
          have q6 := (HRX.out w4 HBD.out).cell 6
          have q7 := (HRX.out w4 HBD.out).cell 7
          have q8 := (HRX.out w4 HBD.out).cell 8
          have q9 := (HRX.out w4 HBD.out).cell 9
          have q10 := (HRX.out w4 HBD.out).cell 10
          have q11 := (HRX.out w4 HBD.out).cell 11
          go_wp2_with fail
          refine (HSR.out w4 HBD.out).mono ?_
          rintro e w5 ⟨hbw, bb, rfl, hbb⟩
          have HTR := hid hbb
          have HB5 := hid (HBD.out.trans (hbw.mono HBD.out.size))
          clear hbw hbb
          clear q0 q1 q2 q3 q4 q5 q6 q7 q8 q9 q10 q11
          have q0 := (HRX.out w5 HB5.out).cell 0
          have q1 := (HRX.out w5 HB5.out).cell 1
          have q2 := (HRX.out w5 HB5.out).cell 2
          have q3 := (HRX.out w5 HB5.out).cell 3
          have q4 := (HRX.out w5 HB5.out).cell 4
          have q5 := (HRX.out w5 HB5.out).cell 5
          have q6 := (HRX.out w5 HB5.out).cell 6
          have q7 := (HRX.out w5 HB5.out).cell 7
          have q8 := (HRX.out w5 HB5.out).cell 8
          have q9 := (HRX.out w5 HB5.out).cell 9
          have q10 := (HRX.out w5 HB5.out).cell 10
          have q11 := (HRX.out w5 HB5.out).cell 11
          cases bb with
          | false =>
            go_wp2
            go_ret
            refine ⟨HBX.out _ HB5.out, Tells.no (fun h => ?_)⟩
            have h := HAB.out.1 h
            rw [if_neg (by simp)] at h
            exact absurd (HTR.out.2 (h.2.1 (by trivial)).1) (by simp)
          | true =>
            have HSRR := hid (HTR.out.1 rfl)
            cases hcR : lessB k g.right.key with
            | false =>
              rw [hcR] at HCR
              have HNR := hid hcR
              clear hcR
              go_wp2_with fail
              refine (HCR.out w5 HB5.out).mono ?_
              rintro e w6 ⟨rfl, hbz⟩
              have HB6 := hid (HB5.out.trans (hbz.mono HB5.out.size))
              clear hbz
              go_wp2
              go_ret
              refine ⟨HBX.out _ HB6.out, Tells.no (fun h => ?_)⟩
              have h := HAB.out.1 h
              rw [if_neg (by simp)] at h
              exact absurd (HNR.out.symm.trans (h.2.1 (by trivial)).2) (by simp)
            | true =>
              rw [hcR] at HCR
              have HYR := hid hcR
              clear hcR
              go_wp2_with fail
              refine (HCR.out w5 HB5.out).mono ?_
              rintro e w6 ⟨rfl, hbz⟩
              have HB6 := hid (HB5.out.trans (hbz.mono HB5.out.size))
              clear hbz
              clear q0 q1 q2 q3 q4 q5 q6 q7 q8 q9 q10 q11
              have q0 := (HRX.out w6 HB6.out).cell 0
              have q1 := (HRX.out w6 HB6.out).cell 1
              have q2 := (HRX.out w6 HB6.out).cell 2
              have q3 := (HRX.out w6 HB6.out).cell 3
              have q4 := (HRX.out w6 HB6.out).cell 4
              have q5 := (HRX.out w6 HB6.out).cell 5
              have q6 := (HRX.out w6 HB6.out).cell 6
              have q7 := (HRX.out w6 HB6.out).cell 7
              have q8 := (HRX.out w6 HB6.out).cell 8
              have q9 := (HRX.out w6 HB6.out).cell 9
              have q10 := (HRX.out w6 HB6.out).cell 10
              have q11 := (HRX.out w6 HB6.out).cell 11
              by_cases hs : g.right.size = g.left.size
              · have es : (g.right.size != g.left.size) = false := by simpa using hs
                have HSZ := hid hs
                clear hs
                go_wp2
                go_ret
                refine ⟨HBX.out _ HB6.out, _, rfl, ?_⟩
                rw [HAB.out, if_neg (by simp)]
                constructor
                · intro h
                  have h := of_decide_eq_true h
                  exact ⟨fun _ => ⟨HSLL.out, HYL.out⟩, fun _ => ⟨HSRR.out, HYR.out⟩, fun _ _ => ⟨HSZ.out, by omega⟩, fun _ h => absurd h (by simp), fun h => absurd h (by simp)⟩
                · rintro ⟨_, _, h, _, _⟩
                  have := h (by trivial) (by trivial)
                  exact decide_eq_true (by omega)
              · have es : (g.right.size != g.left.size) = true := by simpa using hs
                have HSZ := hid hs
                clear hs
                go_wp2
                go_ret
                refine ⟨HBX.out _ HB6.out, Tells.no (fun h => ?_)⟩
                have h := HAB.out.1 h
                rw [if_neg (by simp)] at h
                exact absurd (h.2.2.1 (by trivial) (by trivial)).1 HSZ.out
theorem refShownC : ShownC 11 := fun r p rv v N w _ hN hr hp hf hrl => refShown_any r p rv v N w hN hr hp hf hrl
end Go.Proofs.YtjfhhlgblmjonaaDoor
