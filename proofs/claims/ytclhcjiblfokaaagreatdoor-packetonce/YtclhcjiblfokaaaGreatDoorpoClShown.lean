/-
  What package proof's sideBySide and Absent answer: whether a gap shows that a key does not stand in the book with a root.
  What package client's Member and Missing answer: whether a proof, or a gap, shows something of what a client knows.
-/
import Derived.Test.YtclhcjiblfokaaaGreatDoorpoProofShownW
import Derived.Test.YtclhcjiblfokaaaGreatDoorpoBookGet
import Derived.Test.YtclhcjiblfokaaaGreatDoorpoClAsk
namespace Go.Proofs.YtclhcjiblfokaaaGreatDoor
open Go.RowKit

/-- whether what is there stands side by side, or at an end -/
def sideB (g : Gp) : Prop := (g.hasL = true → g.hasR = true → g.right.size = g.left.size ∧ g.left.index + 1 = g.right.index) ∧ (g.hasL = true → g.hasR = false → g.left.index + 1 = g.left.size) ∧ (g.hasL = false → g.hasR = true → g.right.index = 0)
set_option maxRecDepth 100000 in
set_option maxHeartbeats 4000000 in
theorem sideBySide_any (g : Gp) (a1 a2 a3 a4 a5 a6 : Option Addr) (b1 b2 b3 b4 b5 b6 : Nat) (w : World) (hne : g.hasL = true ∨ g.hasR = true) (hl : g.hasL = true → 1 ≤ g.left.size ∧ g.left.size ≤ 200 ∧ 0 ≤ g.left.index ∧ g.left.index < g.left.size) :
    Calls Tryz.prog 180 #[.agg #[.bool g.hasL, .bool g.hasR, .int .i64 g.left.index, .int .i64 g.left.size, .slice a1 g.left.key.length b1, .slice a2 g.left.val.length b2, .slice a3 g.left.path.length b3, .int .i64 g.right.index, .int .i64 g.right.size, .slice a4 g.right.key.length b4, .slice a5 g.right.val.length b5, .slice a6 g.right.path.length b6]] w fun e w' => Below w.heap.size w w' ∧ Tells (sideB g) e := by
  obtain ⟨w1, hw1⟩ : ∃ w1, w.alloc (.cells #[.bool g.hasL, .bool g.hasR, .int .i64 g.left.index, .int .i64 g.left.size, .slice a1 g.left.key.length b1, .slice a2 g.left.val.length b2, .slice a3 g.left.path.length b3, .int .i64 g.right.index, .int .i64 g.right.size, .slice a4 g.right.key.length b4, .slice a5 g.right.val.length b5, .slice a6 g.right.path.length b6] 36) = w1 := ⟨_, rfl⟩
  have hb1 : Below w.heap.size w w1 := by rw [← hw1]; exact (Below.refl _ _).alloc (Nat.le_refl _) _
  have hrow1 : Row w1 w.heap.size 36 [.bool g.hasL, .bool g.hasR, .int .i64 g.left.index, .int .i64 g.left.size, .slice a1 g.left.key.length b1, .slice a2 g.left.val.length b2, .slice a3 g.left.path.length b3, .int .i64 g.right.index, .int .i64 g.right.size, .slice a4 g.right.key.length b4, .slice a5 g.right.val.length b5, .slice a6 g.right.path.length b6] := by rw [← hw1]; exact Row.new _ _ _
  have HB1 := hid hb1
  have q0 := hrow1.cell 0
  have q1 := hrow1.cell 1
  have q2 := hrow1.cell 2
  have q3 := hrow1.cell 3
  have q4 := hrow1.cell 4
  have q5 := hrow1.cell 5
  have q6 := hrow1.cell 6
  have q7 := hrow1.cell 7
  have q8 := hrow1.cell 8
  have q9 := hrow1.cell 9
  have q10 := hrow1.cell 10
  have q11 := hrow1.cell 11
  clear hb1 hrow1
  obtain ⟨L, hL⟩ : ∃ L, g.hasL = L := ⟨_, rfl⟩
  obtain ⟨R, hR⟩ : ∃ R, g.hasR = R := ⟨_, rfl⟩
  have HSB := hid (show sideB g ↔ ((L = true → R = true → g.right.size = g.left.size ∧ g.left.index + 1 = g.right.index) ∧ (L = true → R = false → g.left.index + 1 = g.left.size) ∧ (L = false → R = true → g.right.index = 0)) by rw [← hL, ← hR]; exact Iff.rfl)
  rw [hL, hR] at hne
  rw [hL] at hl
  rw [hL, hR] at hw1
  rw [hL] at q0
  rw [hR] at q1
  rw [hL, hR]
  clear hL hR
  go_enter Tryz.func180, Tryz.ntmps180
  cases R with
  | false =>
    obtain rfl : L = true := by simpa using hne
    have hll := hl rfl
    have HLL := hid hll
    clear hl hne
    go_wp2
    go_ret
    refine ⟨HB1.out, _, rfl, ?_⟩
    have := HLL.out
    rw [HSB.out]
    simp
    omega
  | true =>
    cases L with
    | false =>
      clear hl hne
      go_wp2
      go_ret
      refine ⟨HB1.out, _, rfl, ?_⟩
      rw [HSB.out]
      simp
    | true =>
      have hll := hl rfl
      have HLL := hid hll
      clear hl hne
      by_cases hs : g.left.size = g.right.size
      · have e1 : (g.left.size == g.right.size) = true := by simpa using hs
        have HS := hid hs
        clear hs
        go_wp2
        go_ret
        refine ⟨HB1.out, _, rfl, ?_⟩
        have := HLL.out
        have := HS.out
        rw [HSB.out]
        simp
        omega
      · have e1 : (g.left.size == g.right.size) = false := by simpa using hs
        go_wp2
        go_ret
        refine ⟨HB1.out, Tells.no (fun h => ?_)⟩
        have := (HSB.out.1 h).1 (by trivial) (by trivial)
        omega
set_option maxRecDepth 100000 in
set_option maxHeartbeats 4000000 in
theorem absentC : AbsentC 148 := by
  intro r k g rv kv v N w hT hN hr hk hg hf hrl hkl
  obtain ⟨orr, cr, rfl, _⟩ := hr.shape
  obtain ⟨ok, ck, rfl, _⟩ := hk.shape
  obtain ⟨k1, v1, p1, k2, v2, p2, rfl, hk1, hv1, hp1, hk2, hv2, hp2⟩ := hg
  obtain ⟨a1, b1, rfl, _⟩ := hk1.shape
  obtain ⟨a2, b2, rfl, _⟩ := hv1.shape
  obtain ⟨a3, b3, rfl, _⟩ := hp1.shape
  obtain ⟨a4, b4, rfl, _⟩ := hk2.shape
  obtain ⟨a5, b5, rfl, _⟩ := hv2.shape
  obtain ⟨a6, b6, rfl, _⟩ := hp2.shape
  obtain ⟨L, hL⟩ : ∃ L, g.hasL = L := ⟨_, rfl⟩
  obtain ⟨R, hR⟩ : ∃ R, g.hasR = R := ⟨_, rfl⟩
  have HSB := hid (show (L = true ∨ R = true) → (L = true → 1 ≤ g.left.size ∧ g.left.size ≤ 200 ∧ 0 ≤ g.left.index ∧ g.left.index < g.left.size) → ∀ wx, Calls Tryz.prog 180 #[.agg #[.bool L, .bool R, .int .i64 g.left.index, .int .i64 g.left.size, .slice a1 g.left.key.length b1, .slice a2 g.left.val.length b2, .slice a3 g.left.path.length b3, .int .i64 g.right.index, .int .i64 g.right.size, .slice a4 g.right.key.length b4, .slice a5 g.right.val.length b5, .slice a6 g.right.path.length b6]] wx fun e w' => Below wx.heap.size wx w' ∧ Tells (sideB g) e from fun h1 h2 wx => by
    have := sideBySide_any g a1 a2 a3 a4 a5 a6 b1 b2 b3 b4 b5 b6 wx (by rw [hL, hR]; exact h1) (by rw [hL]; exact h2)
    rw [hL, hR] at this
    exact this)
  have HAB := hid (show absentB r k g ↔ if L = false ∧ R = false then r = topD 0 [] else (L = true → shownB r g.left ∧ lessB g.left.key k = true) ∧ (R = true → shownB r g.right ∧ lessB k g.right.key = true) ∧ sideB g by
    unfold absentB sideB
    rw [hL, hR])
  rw [hL, hR]
  obtain ⟨w1, hw1⟩ : ∃ w1, w.alloc (.cells #[.bool L, .bool R, .int .i64 g.left.index, .int .i64 g.left.size, .slice a1 g.left.key.length b1, .slice a2 g.left.val.length b2, .slice a3 g.left.path.length b3, .int .i64 g.right.index, .int .i64 g.right.size, .slice a4 g.right.key.length b4, .slice a5 g.right.val.length b5, .slice a6 g.right.path.length b6] 36) = w1 := ⟨_, rfl⟩
  have hsz1 : w1.heap.size = w.heap.size + 1 := by rw [← hw1]; simp
  have hb1 : Below w.heap.size w w1 := by rw [← hw1]; exact (Below.refl _ _).alloc (Nat.le_refl _) _
  have hrow1 : Row w1 w.heap.size 36 [.bool L, .bool R, .int .i64 g.left.index, .int .i64 g.left.size, .slice a1 g.left.key.length b1, .slice a2 g.left.val.length b2, .slice a3 g.left.path.length b3, .int .i64 g.right.index, .int .i64 g.right.size, .slice a4 g.right.key.length b4, .slice a5 g.right.val.length b5, .slice a6 g.right.path.length b6] := by rw [← hw1]; exact Row.new _ _ _
  have HB1 := hid hb1
  have HBX := hid (show ∀ wx, Below w1.heap.size w1 wx → Below w.heap.size w wx from fun wx hx => hb1.trans (hx.mono (by omega)))
  have HRX := hid (show ∀ wx, Below w1.heap.size w1 wx → Row wx w.heap.size 36 [.bool L, .bool R, .int .i64 g.left.index, .int .i64 g.left.size, .slice a1 g.left.key.length b1, .slice a2 g.left.val.length b2, .slice a3 g.left.path.length b3, .int .i64 g.right.index, .int .i64 g.right.size, .slice a4 g.right.key.length b4, .slice a5 g.right.val.length b5, .slice a6 g.right.path.length b6] from fun wx hx => hrow1.below hx (by omega))
  have HSL := hid (show ∀ wx, Below w1.heap.size w1 wx → Calls Tryz.prog 98 #[.slice orr r.length cr, .agg #[.int .i64 g.left.index, .int .i64 g.left.size, .slice a1 g.left.key.length b1, .slice a2 g.left.val.length b2, .slice a3 g.left.path.length b3]] wx fun e w' => Below wx.heap.size wx w' ∧ Tells (shownB r g.left) e from fun wx hx =>
    have hb := HBX.out wx hx
    shownC r g.left _ _ N wx (hT.past hb) (Nat.le_trans hN hb.size) (hr.below (hb.mono hN)) ⟨_, _, _, rfl, hk1.below (hb.mono hN), hv1.below (hb.mono hN), hp1.below (hb.mono hN)⟩ hf.1 hrl)
  have HSR := hid (show ∀ wx, Below w1.heap.size w1 wx → Calls Tryz.prog 98 #[.slice orr r.length cr, .agg #[.int .i64 g.right.index, .int .i64 g.right.size, .slice a4 g.right.key.length b4, .slice a5 g.right.val.length b5, .slice a6 g.right.path.length b6]] wx fun e w' => Below wx.heap.size wx w' ∧ Tells (shownB r g.right) e from fun wx hx =>
    have hb := HBX.out wx hx
    shownC r g.right _ _ N wx (hT.past hb) (Nat.le_trans hN hb.size) (hr.below (hb.mono hN)) ⟨_, _, _, rfl, hk2.below (hb.mono hN), hv2.below (hb.mono hN), hp2.below (hb.mono hN)⟩ hf.2 hrl)
  have HCL := hid (show ∀ wx, Below w1.heap.size w1 wx → Calls Tryz.prog 179 #[.slice a1 g.left.key.length b1, .slice ok k.length ck] wx fun e w' => e = .returned (.int .i64 (cmpB g.left.key k)) ∧ w' = wx from fun wx hx =>
    have hb := HBX.out wx hx
    compare_any _ _ _ _ N N wx (hk1.below (hb.mono hN)) (hk.below (hb.mono hN)))
  have HCR := hid (show ∀ wx, Below w1.heap.size w1 wx → Calls Tryz.prog 179 #[.slice ok k.length ck, .slice a4 g.right.key.length b4] wx fun e w' => e = .returned (.int .i64 (cmpB k g.right.key)) ∧ w' = wx from fun wx hx =>
    have hb := HBX.out wx hx
    compare_any _ _ _ _ N N wx (hk.below (hb.mono hN)) (hk2.below (hb.mono hN)))
  have HRT := hid hr
  have HT := hid hT
  have q0 := hrow1.cell 0
  have q1 := hrow1.cell 1
  have q2 := hrow1.cell 2
  have q3 := hrow1.cell 3
  have q4 := hrow1.cell 4
  have q5 := hrow1.cell 5
  have q6 := hrow1.cell 6
  have q7 := hrow1.cell 7
  have q8 := hrow1.cell 8
  have q9 := hrow1.cell 9
  have q10 := hrow1.cell 10
  have q11 := hrow1.cell 11
  clear hk1 hv1 hp1 hk2 hv2 hp2 hL hR hb1 hrow1 hT hr hk hf
  go_enter Tryz.func148, Tryz.ntmps148
  have HB11 := hid (Below.refl w1.heap.size w1)
  cases L with
  | false =>
    cases R with
    | false =>
      have HBK := hid (bookBytes_any 0 [] (.slice none 0 0) w1.heap.size w1 (Nat.le_refl _) (.inl ⟨rfl, rfl⟩) (by decide) (by decide))
      go_wp2_with fail
      refine HBK.out.mono ?_
      rintro e w2 ⟨o2, n2, c2, rfl, hown2, hb2⟩
      have hz2 := hb2.size
      have HB2 := hid hb2
      have HSM := hid (sumC _ (.slice o2 n2 c2) w2.heap.size w2 (Nat.le_refl _) hown2.bytes (HT.out.past (HBX.out w2 hb2)) (by decide))
      clear hown2 hb2
      go_wp2_with fail
      refine HSM.out.mono ?_
      rintro e w3 ⟨o3, c3, rfl, hown3, hb3⟩
      have HB3 := hid (HB2.out.trans (hb3.mono hz2))
      have HEQ := hid (equal_any _ r (.slice o3 32 c3) (.slice orr r.length cr) w3.heap.size N w3 hown3.bytes (HRT.out.below ((HBX.out w3 HB3.out).mono hN)))
      clear hown3 hb3
      go_wp2_with fail
      refine HEQ.out.mono ?_
      rintro e w4 ⟨rfl, hw4⟩
      obtain rfl := hw4.symm
      go_wp2
      go_ret
      refine ⟨HBX.out _ HB3.out, _, rfl, ?_⟩
      rw [decide_eq_true_iff, HAB.out, if_pos (by simp)]
      exact ⟨fun h => h.symm, fun h => h.symm⟩
    | true =>
      go_wp2_with fail
      refine (HSR.out w1 HB11.out).mono ?_
      rintro e w3 ⟨hbw3, bb, rfl, hbb⟩
      have HTw3 := hid hbb
      have HB3 := hid (HB11.out.trans (hbw3.mono HB11.out.size))
      clear hbw3 hbb q0 q1 q2 q3 q4 q5 q6 q7 q8 q9 q10 q11
      have q0 := (HRX.out w3 HB3.out).cell 0
      have q1 := (HRX.out w3 HB3.out).cell 1
      have q2 := (HRX.out w3 HB3.out).cell 2
      have q3 := (HRX.out w3 HB3.out).cell 3
      have q4 := (HRX.out w3 HB3.out).cell 4
      have q5 := (HRX.out w3 HB3.out).cell 5
      have q6 := (HRX.out w3 HB3.out).cell 6
      have q7 := (HRX.out w3 HB3.out).cell 7
      have q8 := (HRX.out w3 HB3.out).cell 8
      have q9 := (HRX.out w3 HB3.out).cell 9
      have q10 := (HRX.out w3 HB3.out).cell 10
      have q11 := (HRX.out w3 HB3.out).cell 11
      cases bb with
      | false =>
        go_wp2
        go_ret
        refine ⟨HBX.out w3 HB3.out, Tells.no (fun h => ?_)⟩
        have h := HAB.out.1 h
        rw [if_neg (by simp)] at h
        exact absurd (HTw3.out.2 (h.2.1 (by trivial)).1) (by simp)
      | true =>
        have HSRR := hid (HTw3.out.1 rfl)
        by_cases hcR : cmpB k g.right.key < 0
        · have ecR : decide (cmpB k g.right.key < 0) = true := by simpa using hcR
          have HCRR := hid ((cmpB_neg _ _).1 hcR)
          go_wp2_with fail
          refine (HCR.out w3 HB3.out).mono ?_
          rintro e wz ⟨rfl, hwz⟩
          obtain rfl := hwz.symm
          clear hcR
          go_wp2_with fail
          refine (HSB.out (by simp) (fun h => absurd h (by simp)) w3).mono ?_
          rintro e we ⟨hbe, be, rfl, hbe2⟩
          have HE := hid hbe2
          have HBE := hid (HB3.out.trans (hbe.mono HB3.out.size))
          clear hbe hbe2
          go_wp2
          go_ret
          refine ⟨HBX.out we HBE.out, be, rfl, HE.out.trans ?_⟩
          rw [HAB.out, if_neg (by simp)]
          exact ⟨fun h => ⟨fun h => absurd h (by simp), fun _ => ⟨HSRR.out, HCRR.out⟩, h⟩, fun h => h.2.2⟩
        · have ecR : decide (cmpB k g.right.key < 0) = false := by simpa using hcR
          go_wp2_with fail
          refine (HCR.out w3 HB3.out).mono ?_
          rintro e wz ⟨rfl, hwz⟩
          obtain rfl := hwz.symm
          go_wp2
          go_ret
          refine ⟨HBX.out w3 HB3.out, Tells.no (fun h => ?_)⟩
          have h := HAB.out.1 h
          rw [if_neg (by simp)] at h
          exact absurd ((cmpB_neg _ _).2 (h.2.1 (by trivial)).2) (by omega)
  | true =>
    cases R with
    | false =>
      go_wp2_with fail
      refine (HSL.out w1 HB11.out).mono ?_
      rintro e w2 ⟨hbw2, bb, rfl, hbb⟩
      have HTw2 := hid hbb
      have HB2 := hid (HB11.out.trans (hbw2.mono HB11.out.size))
      clear hbw2 hbb q0 q1 q2 q3 q4 q5 q6 q7 q8 q9 q10 q11
      have q0 := (HRX.out w2 HB2.out).cell 0
      have q1 := (HRX.out w2 HB2.out).cell 1
      have q2 := (HRX.out w2 HB2.out).cell 2
      have q3 := (HRX.out w2 HB2.out).cell 3
      have q4 := (HRX.out w2 HB2.out).cell 4
      have q5 := (HRX.out w2 HB2.out).cell 5
      have q6 := (HRX.out w2 HB2.out).cell 6
      have q7 := (HRX.out w2 HB2.out).cell 7
      have q8 := (HRX.out w2 HB2.out).cell 8
      have q9 := (HRX.out w2 HB2.out).cell 9
      have q10 := (HRX.out w2 HB2.out).cell 10
      have q11 := (HRX.out w2 HB2.out).cell 11
      cases bb with
      | false =>
        go_wp2
        go_ret
        refine ⟨HBX.out w2 HB2.out, Tells.no (fun h => ?_)⟩
        have h := HAB.out.1 h
        rw [if_neg (by simp)] at h
        exact absurd (HTw2.out.2 (h.1 (by trivial)).1) (by simp)
      | true =>
        have HSLL := hid (HTw2.out.1 rfl)
        by_cases hcL : cmpB g.left.key k < 0
        · have ecL : decide (cmpB g.left.key k < 0) = true := by simpa using hcL
          have HCLL := hid ((cmpB_neg _ _).1 hcL)
          go_wp2_with fail
          refine (HCL.out w2 HB2.out).mono ?_
          rintro e wz ⟨rfl, hwz⟩
          obtain rfl := hwz.symm
          clear hcL
          go_wp2_with fail
          refine (HSB.out (by simp) (fun _ => ⟨HSLL.out.1, HSLL.out.2.1, HSLL.out.2.2.1, HSLL.out.2.2.2.1⟩) w2).mono ?_
          rintro e we ⟨hbe, be, rfl, hbe2⟩
          have HE := hid hbe2
          have HBE := hid (HB2.out.trans (hbe.mono HB2.out.size))
          clear hbe hbe2
          go_wp2
          go_ret
          refine ⟨HBX.out we HBE.out, be, rfl, HE.out.trans ?_⟩
          rw [HAB.out, if_neg (by simp)]
          exact ⟨fun h => ⟨fun _ => ⟨HSLL.out, HCLL.out⟩, fun h => absurd h (by simp), h⟩, fun h => h.2.2⟩
        · have ecL : decide (cmpB g.left.key k < 0) = false := by simpa using hcL
          go_wp2_with fail
          refine (HCL.out w2 HB2.out).mono ?_
          rintro e wz ⟨rfl, hwz⟩
          obtain rfl := hwz.symm
          go_wp2
          go_ret
          refine ⟨HBX.out w2 HB2.out, Tells.no (fun h => ?_)⟩
          have h := HAB.out.1 h
          rw [if_neg (by simp)] at h
          exact absurd ((cmpB_neg _ _).2 (h.1 (by trivial)).2) (by omega)
    | true =>
      go_wp2_with fail
      refine (HSL.out w1 HB11.out).mono ?_
      rintro e w2 ⟨hbw2, bb, rfl, hbb⟩
      have HTw2 := hid hbb
      have HB2 := hid (HB11.out.trans (hbw2.mono HB11.out.size))
      clear hbw2 hbb q0 q1 q2 q3 q4 q5 q6 q7 q8 q9 q10 q11
      have q0 := (HRX.out w2 HB2.out).cell 0
      have q1 := (HRX.out w2 HB2.out).cell 1
      have q2 := (HRX.out w2 HB2.out).cell 2
      have q3 := (HRX.out w2 HB2.out).cell 3
      have q4 := (HRX.out w2 HB2.out).cell 4
      have q5 := (HRX.out w2 HB2.out).cell 5
      have q6 := (HRX.out w2 HB2.out).cell 6
      have q7 := (HRX.out w2 HB2.out).cell 7
      have q8 := (HRX.out w2 HB2.out).cell 8
      have q9 := (HRX.out w2 HB2.out).cell 9
      have q10 := (HRX.out w2 HB2.out).cell 10
      have q11 := (HRX.out w2 HB2.out).cell 11
      cases bb with
      | false =>
        go_wp2
        go_ret
        refine ⟨HBX.out w2 HB2.out, Tells.no (fun h => ?_)⟩
        have h := HAB.out.1 h
        rw [if_neg (by simp)] at h
        exact absurd (HTw2.out.2 (h.1 (by trivial)).1) (by simp)
      | true =>
        have HSLL := hid (HTw2.out.1 rfl)
        by_cases hcL : cmpB g.left.key k < 0
        · have ecL : decide (cmpB g.left.key k < 0) = true := by simpa using hcL
          have HCLL := hid ((cmpB_neg _ _).1 hcL)
          go_wp2_with fail
          refine (HCL.out w2 HB2.out).mono ?_
          rintro e wz ⟨rfl, hwz⟩
          obtain rfl := hwz.symm
          clear hcL
          go_wp2_with fail
          refine (HSR.out w2 HB2.out).mono ?_
          rintro e w3 ⟨hbw3, bb, rfl, hbb⟩
          have HTw3 := hid hbb
          have HB3 := hid (HB2.out.trans (hbw3.mono HB2.out.size))
          clear hbw3 hbb q0 q1 q2 q3 q4 q5 q6 q7 q8 q9 q10 q11
          have q0 := (HRX.out w3 HB3.out).cell 0
          have q1 := (HRX.out w3 HB3.out).cell 1
          have q2 := (HRX.out w3 HB3.out).cell 2
          have q3 := (HRX.out w3 HB3.out).cell 3
          have q4 := (HRX.out w3 HB3.out).cell 4
          have q5 := (HRX.out w3 HB3.out).cell 5
          have q6 := (HRX.out w3 HB3.out).cell 6
          have q7 := (HRX.out w3 HB3.out).cell 7
          have q8 := (HRX.out w3 HB3.out).cell 8
          have q9 := (HRX.out w3 HB3.out).cell 9
          have q10 := (HRX.out w3 HB3.out).cell 10
          have q11 := (HRX.out w3 HB3.out).cell 11
          cases bb with
          | false =>
            go_wp2
            go_ret
            refine ⟨HBX.out w3 HB3.out, Tells.no (fun h => ?_)⟩
            have h := HAB.out.1 h
            rw [if_neg (by simp)] at h
            exact absurd (HTw3.out.2 (h.2.1 (by trivial)).1) (by simp)
          | true =>
            have HSRR := hid (HTw3.out.1 rfl)
            by_cases hcR : cmpB k g.right.key < 0
            · have ecR : decide (cmpB k g.right.key < 0) = true := by simpa using hcR
              have HCRR := hid ((cmpB_neg _ _).1 hcR)
              go_wp2_with fail
              refine (HCR.out w3 HB3.out).mono ?_
              rintro e wz ⟨rfl, hwz⟩
              obtain rfl := hwz.symm
              clear hcR
              go_wp2_with fail
              refine (HSB.out (by simp) (fun _ => ⟨HSLL.out.1, HSLL.out.2.1, HSLL.out.2.2.1, HSLL.out.2.2.2.1⟩) w3).mono ?_
              rintro e we ⟨hbe, be, rfl, hbe2⟩
              have HE := hid hbe2
              have HBE := hid (HB3.out.trans (hbe.mono HB3.out.size))
              clear hbe hbe2
              go_wp2
              go_ret
              refine ⟨HBX.out we HBE.out, be, rfl, HE.out.trans ?_⟩
              rw [HAB.out, if_neg (by simp)]
              exact ⟨fun h => ⟨fun _ => ⟨HSLL.out, HCLL.out⟩, fun _ => ⟨HSRR.out, HCRR.out⟩, h⟩, fun h => h.2.2⟩
            · have ecR : decide (cmpB k g.right.key < 0) = false := by simpa using hcR
              go_wp2_with fail
              refine (HCR.out w3 HB3.out).mono ?_
              rintro e wz ⟨rfl, hwz⟩
              obtain rfl := hwz.symm
              go_wp2
              go_ret
              refine ⟨HBX.out w3 HB3.out, Tells.no (fun h => ?_)⟩
              have h := HAB.out.1 h
              rw [if_neg (by simp)] at h
              exact absurd ((cmpB_neg _ _).2 (h.2.1 (by trivial)).2) (by omega)
        · have ecL : decide (cmpB g.left.key k < 0) = false := by simpa using hcL
          go_wp2_with fail
          refine (HCL.out w2 HB2.out).mono ?_
          rintro e wz ⟨rfl, hwz⟩
          obtain rfl := hwz.symm
          go_wp2
          go_ret
          refine ⟨HBX.out w2 HB2.out, Tells.no (fun h => ?_)⟩
          have h := HAB.out.1 h
          rw [if_neg (by simp)] at h
          exact absurd ((cmpB_neg _ _).2 (h.1 (by trivial)).2) (by omega)
end Go.Proofs.YtclhcjiblfokaaaGreatDoor
namespace Go.Proofs.YtclhcjiblfokaaaGreatDoor
open Go.RowKit

/-- why something is not shown -/
def ShownN (c : Cl) (now height : Int) (P : List (BitVec 8) → Prop) (z : Int) : Prop :=
  (askedN c now ≠ 0 ∧ z = askedN c now) ∨ (askedN c now = 0 ∧ atK c.known height = none ∧ z = 6) ∨ (askedN c now = 0 ∧ ∃ k, atK c.known height = some k ∧ ((activeB c now = false ∧ z = 11) ∨ (activeB c now = true ∧ ((P k.root ∧ z = 0) ∨ (¬ P k.root ∧ z = 9)))))
theorem ShownN.eq {c : Cl} {now height : Int} {P : List (BitVec 8) → Prop} {z y : Int} (h : ShownN c now height P z) (g : ShownN c now height P y) : z = y := by
  rcases h with ⟨h1, rfl⟩ | ⟨h1, h2, rfl⟩ | ⟨h1, k, h2, h3⟩
  · rcases g with ⟨_, rfl⟩ | ⟨g1, _⟩ | ⟨g1, _⟩
    · rfl
    · exact absurd g1 h1
    · exact absurd g1 h1
  · rcases g with ⟨g1, _⟩ | ⟨_, _, rfl⟩ | ⟨_, k, g2, _⟩
    · exact absurd h1 g1
    · rfl
    · rw [h2] at g2; cases g2
  · rcases g with ⟨g1, _⟩ | ⟨_, g2, _⟩ | ⟨_, k', g2, g3⟩
    · exact absurd h1 g1
    · rw [h2] at g2; cases g2
    · rw [h2] at g2
      obtain rfl : k = k' := by simpa using g2
      rcases h3 with ⟨a1, rfl⟩ | ⟨a1, a2⟩
      · rcases g3 with ⟨_, rfl⟩ | ⟨b1, _⟩
        · rfl
        · rw [a1] at b1; cases b1
      · rcases g3 with ⟨b1, _⟩ | ⟨_, b2⟩
        · rw [a1] at b1; cases b1
        · rcases a2 with ⟨a3, rfl⟩ | ⟨a3, rfl⟩
          · rcases b2 with ⟨_, rfl⟩ | ⟨b3, _⟩
            · rfl
            · exact absurd a3 b3
          · rcases b2 with ⟨b3, _⟩ | ⟨_, rfl⟩
            · exact absurd b3 a3
            · rfl
theorem ShownN.frozen {c : Cl} {now height : Int} {P : List (BitVec 8) → Prop} {z : Int} (h : ShownN c now height P z) (ha : askedN c now = 12) : z = 12 := by
  rcases h with ⟨_, rfl⟩ | ⟨h1, _⟩ | ⟨h1, _⟩
  · exact ha
  · omega
  · omega
theorem Row.five {w : World} {g : Nat} {t : TypeId} {a b c d e : Value} (h : Row w g t [a, b, c, d, e]) : w.cell? ⟨g, 0, none⟩ = some a ∧ w.cell? ⟨g, 1, none⟩ = some b ∧ w.cell? ⟨g, 2, none⟩ = some c ∧ w.cell? ⟨g, 3, none⟩ = some d ∧ w.cell? ⟨g, 4, none⟩ = some e :=
  ⟨h.cell 0, h.cell 1, h.cell 2, h.cell 3, h.cell 4⟩
set_option maxRecDepth 100000 in
set_option maxHeartbeats 4000000 in
theorem member1_any (p : Prf) (key val root : List (BitVec 8)) (gp gk gv : Nat) (pv kv vv rv : Value) (N : Nat) (w : World) (htab : tableAt w) (hN : N ≤ w.heap.size) (hp : PrfV w N pv p) (hk : Bytes w N kv key) (hv : Bytes w N vv val) (hr : Bytes w w.heap.size rv root) (hf : p.fits) (hrl : root.length ≤ 140737488351232)
    (hrp : ∃ cs, pv = .agg cs ∧ Row w gp 34 cs.toList) (hrk : Row w gk 29 [kv]) (hrv : Row w gv 29 [vv]) :
    Calls Tryz.prog 96 #[rv, .pointer (some ⟨gp, 0, none⟩), .pointer (some ⟨gk, 0, none⟩), .pointer (some ⟨gv, 0, none⟩)] w fun e w' => Below w.heap.size w w' ∧ Tells (p.key = key ∧ p.val = val ∧ shownB root p) e := by
  have HS := hid (shownC root p rv pv w.heap.size w htab (Nat.le_refl _) hr (hp.mono hN) hf hrl)
  obtain ⟨x1, x2, x3, rfl, h1, h2, h3⟩ := hp
  have HE1 := hid (equal_any p.key key x1 kv N N w h1 hk)
  have HE2 := hid (equal_any p.val val x2 vv N N w h2 hv)
  obtain ⟨q1, y1, rfl, _⟩ := h1.shape
  obtain ⟨q2, y2, rfl, _⟩ := h2.shape
  obtain ⟨q3, y3, rfl, _⟩ := h3.shape
  obtain ⟨o1, c1, rfl, _⟩ := hk.shape
  obtain ⟨o2, c2, rfl, _⟩ := hv.shape
  obtain ⟨o3, c3, rfl, _⟩ := hr.shape
  obtain ⟨cs, hcs, hrow⟩ := hrp
  obtain rfl : cs = #[.int .i64 p.index, .int .i64 p.size, .slice q1 p.key.length y1, .slice q2 p.val.length y2, .slice q3 p.path.length y3] := by simpa using hcs.symm
  obtain ⟨i0, i1, i2, i3, i4⟩ := Row.five hrow
  have k0 := hrk.cell 0
  have k1 := hrv.cell 0
  simp only [List.getElem?_cons_zero] at k0 k1
  clear h1 h2 h3 hk hv hr hcs hrow hrk hrv htab
  by_cases e1 : p.key = key
  · rw [decide_eq_true e1] at HE1
    have HQ1 := hid e1
    clear e1
    by_cases e2 : p.val = val
    · rw [decide_eq_true e2] at HE2
      have HQ2 := hid e2
      clear e2
      generalize p.key.length = n1 at *
      generalize p.val.length = n2 at *
      generalize p.path.length = n3 at *
      generalize key.length = n4 at *
      generalize val.length = n5 at *
      generalize hn6 : root.length = n6 at *
      clear hn6
      go_enter Tryz.func96, Tryz.ntmps96
      go_wp2_with fail
      refine HE1.out.mono ?_
      rintro e w2 ⟨rfl, hw2⟩
      obtain rfl := hw2.symm
      go_wp2_with fail
      refine HE2.out.mono ?_
      rintro e w2 ⟨rfl, hw2⟩
      obtain rfl := hw2.symm
      go_wp2_with fail
      refine HS.out.mono ?_
      rintro e w3 ⟨hb3, bb, rfl, hbb⟩
      have HB3 := hid hb3
      have HBB := hid hbb
      clear hb3 hbb
      go_wp2
      go_ret
      exact ⟨HB3.out, bb, rfl, fun h => ⟨HQ1.out, HQ2.out, HBB.out.1 h⟩, fun h => HBB.out.2 h.2.2⟩
    · rw [decide_eq_false e2] at HE2
      have HQ2 := hid e2
      clear e2
      generalize p.key.length = n1 at *
      generalize p.val.length = n2 at *
      generalize key.length = n4 at *
      generalize val.length = n5 at *
      go_enter Tryz.func96, Tryz.ntmps96
      go_wp2_with fail
      refine HE1.out.mono ?_
      rintro e w2 ⟨rfl, hw2⟩
      obtain rfl := hw2.symm
      go_wp2_with fail
      refine HE2.out.mono ?_
      rintro e w2 ⟨rfl, hw2⟩
      obtain rfl := hw2.symm
      go_wp2
      go_ret
      exact ⟨Below.refl _ _, Tells.no (fun h => HQ2.out h.2.1)⟩
  · rw [decide_eq_false e1] at HE1
    have HQ1 := hid e1
    clear e1
    generalize p.key.length = n1 at *
    generalize key.length = n4 at *
    go_enter Tryz.func96, Tryz.ntmps96
    go_wp2_with fail
    refine HE1.out.mono ?_
    rintro e w2 ⟨rfl, hw2⟩
    obtain rfl := hw2.symm
    go_wp2
    go_ret
    exact ⟨Below.refl _ _, Tells.no (fun h => HQ1.out h.1)⟩
set_option maxRecDepth 100000 in
set_option maxHeartbeats 4000000 in
theorem missing1_any (g : Gp) (key root : List (BitVec 8)) (gk gg : Nat) (gv kv rv : Value) (N : Nat) (w : World) (htab : tableAt w) (hN : N ≤ w.heap.size) (hg : GpV w N gv g) (hk : Bytes w N kv key) (hr : Bytes w w.heap.size rv root) (hf : g.fits) (hkl : key.length ≤ 140737488351232) (hrl : root.length ≤ 140737488351232)
    (hrg : ∃ cs, gv = .agg cs ∧ Row w gg 36 cs.toList) (hrk : Row w gk 29 [kv]) :
    Calls Tryz.prog 147 #[rv, .pointer (some ⟨gk, 0, none⟩), .pointer (some ⟨gg, 0, none⟩)] w fun e w' => Below w.heap.size w w' ∧ Tells (absentB root key g) e := by
  have HS := hid (absentC root key g rv kv gv w.heap.size w htab (Nat.le_refl _) hr (hk.mono hN) (hg.mono hN) hf hrl hkl)
  obtain ⟨k1, v1, t1, k2, v2, t2, rfl, h1, h2, h3, h4, h5, h6⟩ := hg
  obtain ⟨q1, y1, rfl, _⟩ := h1.shape
  obtain ⟨q2, y2, rfl, _⟩ := h2.shape
  obtain ⟨q3, y3, rfl, _⟩ := h3.shape
  obtain ⟨q4, y4, rfl, _⟩ := h4.shape
  obtain ⟨q5, y5, rfl, _⟩ := h5.shape
  obtain ⟨q6, y6, rfl, _⟩ := h6.shape
  obtain ⟨o1, c1, rfl, _⟩ := hk.shape
  obtain ⟨o3, c3, rfl, _⟩ := hr.shape
  obtain ⟨cs, hcs, hrow⟩ := hrg
  obtain rfl := (Value.agg.inj hcs).symm
  have i0 := hrow.cell 0
  have i1 := hrow.cell 1
  have i2 := hrow.cell 2
  have i3 := hrow.cell 3
  have i4 := hrow.cell 4
  have i5 := hrow.cell 5
  have i6 := hrow.cell 6
  have i7 := hrow.cell 7
  have i8 := hrow.cell 8
  have i9 := hrow.cell 9
  have i10 := hrow.cell 10
  have i11 := hrow.cell 11
  have j0 := hrk.cell 0
  simp only [List.getElem?_cons_zero, List.getElem?_cons_succ] at i0 i1 i2 i3 i4 i5 i6 i7 i8 i9 i10 i11 j0
  clear h1 h2 h3 h4 h5 h6 hk hr hcs hrow hrk htab
  go_enter Tryz.func147, Tryz.ntmps147
  go_wp2_with fail
  refine HS.out.mono ?_
  rintro e w3 ⟨hb3, bb, rfl, hbb⟩
  have HB3 := hid hb3
  have HBB := hid hbb
  clear hb3 hbb
  go_wp2
  go_ret
  exact ⟨HB3.out, bb, rfl, HBB.out⟩
set_option maxRecDepth 100000 in
set_option maxHeartbeats 4000000 in
theorem shownM_any (P : List (BitVec 8) → Prop) (c : Cl) (now height : Int) (gp gk gv : Nat) (cv : Value) (N : Nat) (w : World) (hN : N ≤ w.heap.size) (hcv : ClV w N cv c) (hcf : c.fits)
    (hh : ∀ (wx : World) (root : List (BitVec 8)) (rv : Value), Below w.heap.size w wx → Bytes wx wx.heap.size rv root → root.length ≤ 140737488351232 → Calls Tryz.prog 96 #[rv, .pointer (some ⟨gp, 0, none⟩), .pointer (some ⟨gk, 0, none⟩), .pointer (some ⟨gv, 0, none⟩)] wx fun e w' => Below wx.heap.size wx w' ∧ Tells (P root) e) :
    Calls Tryz.prog 95 #[cv, .int .i64 now, .int .i64 height, .func (.func 96) #[] #[.pointer (some ⟨gp, 0, none⟩), .pointer (some ⟨gk, 0, none⟩), .pointer (some ⟨gv, 0, none⟩)]] w fun e w' => Below w.heap.size w w' ∧ ∃ z, e = .returned (.int .i64 z) ∧ ShownN c now height P z := by
  have HAS := hid (show ∀ wx, Below w.heap.size w wx → _ from fun wx hx => askedC c now cv N wx (hcv.below (hx.mono hN)) (Nat.le_trans hN hx.size) hcf)
  have HFI := hid (show ∀ wx, Below w.heap.size w wx → _ from fun wx hx => findC c height cv N wx (hcv.below (hx.mono hN)) (Nat.le_trans hN hx.size) hcf)
  have HCV := hid hcv
  have HHH := hid hh
  have HCF := hid hcf
  obtain ⟨kv, rfl, hk⟩ := hcv
  obtain ⟨oa, ca, rfl, hca⟩ := hk.shape
  obtain ⟨w0, hw0⟩ : ∃ w0, w.alloc (.cells #[.string c.chain, .int .i64 c.trust, .bool c.frozen, .slice oa c.known.length ca] 79) = w0 := ⟨_, rfl⟩
  have HB0 := hid (show Below w.heap.size w w0 by rw [← hw0]; exact (Below.refl _ _).alloc (Nat.le_refl _) _)
  have HR0 := hid (show Row w0 w.heap.size 79 [.string c.chain, .int .i64 c.trust, .bool c.frozen, .slice oa c.known.length ca] by rw [← hw0]; exact Row.new _ _ _)
  have HW0 := hid hw0
  obtain ⟨⟨a0, a1, a2, a3⟩, _⟩ := HR0.out.four
  clear hw0 hk hh hcf hca
  go_enter Tryz.func95, Tryz.ntmps95
  go_wp2_with fail
  rw [HW0.out]
  refine (HAS.out _ HB0.out).mono ?_
  rintro e w1 ⟨rfl, hb1⟩
  have HB1 := hid (HB0.out.trans (hb1.mono HB0.out.size))
  have HR1 := hid (HR0.out.below hb1 HR0.out.lt)
  clear hb1 a0 a1 a2 a3
  obtain ⟨⟨a0, a1, a2, a3⟩, _⟩ := HR1.out.four
  by_cases hask : askedN c now = 0
  · rw [hask]
    have HASK := hid hask
    have HAC := hid (show ∀ wx, Below w.heap.size w wx → Calls Tryz.prog 139 #[.agg #[.string c.chain, .int .i64 c.trust, .bool c.frozen, .slice oa c.known.length ca], .int .i64 now] wx _ from fun wx hx => activeC c now _ N wx (HCV.out.below (hx.mono hN)) (Nat.le_trans hN hx.size) (askedN_ok HASK.out).1 (askedN_ok HASK.out).2.1)
    clear hask
    go_wp2_with fail
    refine (HFI.out _ HB1.out).mono ?_
    rintro e w2 ⟨hb2, p1, d1, p2, d2, rfl, hx1, hx2⟩
    have HB2 := hid (HB1.out.trans (hb2.mono HB1.out.size))
    have HR2 := hid (HR1.out.below hb2 HR1.out.lt)
    clear hb2 a0 a1 a2 a3
    obtain ⟨⟨a0, a1, a2, a3⟩, _⟩ := HR2.out.four
    have m1 : w.heap.size < w2.heap.size := HR2.out.lt
    have m2 : w.heap.size ≠ w2.heap.size := by omega
    cases hat : atK c.known height with
    | none =>
      have HAT := hid hat
      clear hat hx1 hx2
      simp only [Option.isSome]
      generalize knAt c.known height = k at *
      go_wp2
      go_ret
      exact ⟨HB2.out.alloc HB2.out.size _, _, rfl, .inr (.inl ⟨HASK.out, HAT.out, rfl⟩)⟩
    | some k =>
      have HAT := hid hat
      rw [knAt_some hat] at hx1
      rw [knAt_some hat]
      simp only [Option.isSome]
      obtain ⟨w3, hw3⟩ : ∃ w3, w2.alloc (.cells #[.int .i64 k.height, .int .i64 k.time, .slice p1 k.root.length d1, .slice p2 k.next.length d2] 93) = w3 := ⟨_, rfl⟩
      have hb3 : Below w2.heap.size w2 w3 := by rw [← hw3]; exact (Below.refl _ _).alloc (Nat.le_refl _) _
      have HB3 := hid (HB2.out.trans (hb3.mono HB2.out.size))
      have HRK3 := hid (show Row w3 w2.heap.size 93 [.int .i64 k.height, .int .i64 k.time, .slice p1 k.root.length d1, .slice p2 k.next.length d2] by rw [← hw3]; exact Row.new _ _ _)
      have HX1 := hid ((hx1.below hb3).mono hb3.size)
      have HKF := hid (HCF.out.2.2 k (atK_some hat).1)
      have HW3 := hid hw3
      clear hat hx1 hx2 hb3 hw3
      go_wp2_with fail
      rw [HW3.out]
      refine (HAC.out _ HB3.out).mono ?_
      rintro e w4 ⟨rfl, hb4⟩
      have HB4 := hid (HB3.out.trans (hb4.mono HB3.out.size))
      have HRK4 := hid (HRK3.out.below hb4 HRK3.out.lt)
      have HX4 := hid ((HX1.out.below hb4).mono hb4.size)
      clear hb4 a0 a1 a2 a3 m1 m2
      obtain ⟨⟨a0, a1, a2, a3⟩, _⟩ := HRK4.out.four
      cases hac : activeB c now with
      | false =>
        have HACT := hid hac
        clear hac
        go_wp2
        go_ret
        exact ⟨HB4.out, _, rfl, .inr (.inr ⟨HASK.out, k, HAT.out, .inl ⟨HACT.out, rfl⟩⟩)⟩
      | true =>
        have HACT := hid hac
        clear hac
        go_wp2_with fail
        refine (HHH.out w4 k.root _ HB4.out HX4.out HKF.out.1).mono ?_
        rintro e w5 ⟨hb5, bb, rfl, hbb⟩
        have HB5 := hid (HB4.out.trans (hb5.mono HB4.out.size))
        have HBB := hid hbb
        clear hb5 hbb
        cases bb with
        | true =>
          go_wp2
          go_ret
          exact ⟨HB5.out, _, rfl, .inr (.inr ⟨HASK.out, k, HAT.out, .inr ⟨HACT.out, .inl ⟨HBB.out.1 (by simp), rfl⟩⟩⟩)⟩
        | false =>
          go_wp2
          go_ret
          exact ⟨HB5.out, _, rfl, .inr (.inr ⟨HASK.out, k, HAT.out, .inr ⟨HACT.out, .inr ⟨fun h => absurd (HBB.out.2 h) (by simp), rfl⟩⟩⟩)⟩
  · have HASK := hid hask
    have e1 : (askedN c now != 0) = true := by simpa using hask
    clear hask
    generalize hz : askedN c now = z at *
    have HZ := hid hz
    clear hz
    go_wp2
    go_ret
    exact ⟨HB1.out, _, rfl, .inl ⟨by rw [HZ.out]; exact HASK.out, HZ.out.symm⟩⟩
set_option maxRecDepth 100000 in
set_option maxHeartbeats 4000000 in
theorem shownG_any (P : List (BitVec 8) → Prop) (c : Cl) (now height : Int) (gk gg : Nat) (cv : Value) (N : Nat) (w : World) (hN : N ≤ w.heap.size) (hcv : ClV w N cv c) (hcf : c.fits)
    (hh : ∀ (wx : World) (root : List (BitVec 8)) (rv : Value), Below w.heap.size w wx → Bytes wx wx.heap.size rv root → root.length ≤ 140737488351232 → Calls Tryz.prog 147 #[rv, .pointer (some ⟨gk, 0, none⟩), .pointer (some ⟨gg, 0, none⟩)] wx fun e w' => Below wx.heap.size wx w' ∧ Tells (P root) e) :
    Calls Tryz.prog 95 #[cv, .int .i64 now, .int .i64 height, .func (.func 147) #[] #[.pointer (some ⟨gk, 0, none⟩), .pointer (some ⟨gg, 0, none⟩)]] w fun e w' => Below w.heap.size w w' ∧ ∃ z, e = .returned (.int .i64 z) ∧ ShownN c now height P z := by
  have HAS := hid (show ∀ wx, Below w.heap.size w wx → _ from fun wx hx => askedC c now cv N wx (hcv.below (hx.mono hN)) (Nat.le_trans hN hx.size) hcf)
  have HFI := hid (show ∀ wx, Below w.heap.size w wx → _ from fun wx hx => findC c height cv N wx (hcv.below (hx.mono hN)) (Nat.le_trans hN hx.size) hcf)
  have HCV := hid hcv
  have HHH := hid hh
  have HCF := hid hcf
  obtain ⟨kv, rfl, hk⟩ := hcv
  obtain ⟨oa, ca, rfl, hca⟩ := hk.shape
  obtain ⟨w0, hw0⟩ : ∃ w0, w.alloc (.cells #[.string c.chain, .int .i64 c.trust, .bool c.frozen, .slice oa c.known.length ca] 79) = w0 := ⟨_, rfl⟩
  have HB0 := hid (show Below w.heap.size w w0 by rw [← hw0]; exact (Below.refl _ _).alloc (Nat.le_refl _) _)
  have HR0 := hid (show Row w0 w.heap.size 79 [.string c.chain, .int .i64 c.trust, .bool c.frozen, .slice oa c.known.length ca] by rw [← hw0]; exact Row.new _ _ _)
  have HW0 := hid hw0
  obtain ⟨⟨a0, a1, a2, a3⟩, _⟩ := HR0.out.four
  clear hw0 hk hh hcf hca
  go_enter Tryz.func95, Tryz.ntmps95
  go_wp2_with fail
  rw [HW0.out]
  refine (HAS.out _ HB0.out).mono ?_
  rintro e w1 ⟨rfl, hb1⟩
  have HB1 := hid (HB0.out.trans (hb1.mono HB0.out.size))
  have HR1 := hid (HR0.out.below hb1 HR0.out.lt)
  clear hb1 a0 a1 a2 a3
  obtain ⟨⟨a0, a1, a2, a3⟩, _⟩ := HR1.out.four
  by_cases hask : askedN c now = 0
  · rw [hask]
    have HASK := hid hask
    have HAC := hid (show ∀ wx, Below w.heap.size w wx → Calls Tryz.prog 139 #[.agg #[.string c.chain, .int .i64 c.trust, .bool c.frozen, .slice oa c.known.length ca], .int .i64 now] wx _ from fun wx hx => activeC c now _ N wx (HCV.out.below (hx.mono hN)) (Nat.le_trans hN hx.size) (askedN_ok HASK.out).1 (askedN_ok HASK.out).2.1)
    clear hask
    go_wp2_with fail
    refine (HFI.out _ HB1.out).mono ?_
    rintro e w2 ⟨hb2, p1, d1, p2, d2, rfl, hx1, hx2⟩
    have HB2 := hid (HB1.out.trans (hb2.mono HB1.out.size))
    have HR2 := hid (HR1.out.below hb2 HR1.out.lt)
    clear hb2 a0 a1 a2 a3
    obtain ⟨⟨a0, a1, a2, a3⟩, _⟩ := HR2.out.four
    have m1 : w.heap.size < w2.heap.size := HR2.out.lt
    have m2 : w.heap.size ≠ w2.heap.size := by omega
    cases hat : atK c.known height with
    | none =>
      have HAT := hid hat
      clear hat hx1 hx2
      simp only [Option.isSome]
      generalize knAt c.known height = k at *
      go_wp2
      go_ret
      exact ⟨HB2.out.alloc HB2.out.size _, _, rfl, .inr (.inl ⟨HASK.out, HAT.out, rfl⟩)⟩
    | some k =>
      have HAT := hid hat
      rw [knAt_some hat] at hx1
      rw [knAt_some hat]
      simp only [Option.isSome]
      obtain ⟨w3, hw3⟩ : ∃ w3, w2.alloc (.cells #[.int .i64 k.height, .int .i64 k.time, .slice p1 k.root.length d1, .slice p2 k.next.length d2] 93) = w3 := ⟨_, rfl⟩
      have hb3 : Below w2.heap.size w2 w3 := by rw [← hw3]; exact (Below.refl _ _).alloc (Nat.le_refl _) _
      have HB3 := hid (HB2.out.trans (hb3.mono HB2.out.size))
      have HRK3 := hid (show Row w3 w2.heap.size 93 [.int .i64 k.height, .int .i64 k.time, .slice p1 k.root.length d1, .slice p2 k.next.length d2] by rw [← hw3]; exact Row.new _ _ _)
      have HX1 := hid ((hx1.below hb3).mono hb3.size)
      have HKF := hid (HCF.out.2.2 k (atK_some hat).1)
      have HW3 := hid hw3
      clear hat hx1 hx2 hb3 hw3
      go_wp2_with fail
      rw [HW3.out]
      refine (HAC.out _ HB3.out).mono ?_
      rintro e w4 ⟨rfl, hb4⟩
      have HB4 := hid (HB3.out.trans (hb4.mono HB3.out.size))
      have HRK4 := hid (HRK3.out.below hb4 HRK3.out.lt)
      have HX4 := hid ((HX1.out.below hb4).mono hb4.size)
      clear hb4 a0 a1 a2 a3 m1 m2
      obtain ⟨⟨a0, a1, a2, a3⟩, _⟩ := HRK4.out.four
      cases hac : activeB c now with
      | false =>
        have HACT := hid hac
        clear hac
        go_wp2
        go_ret
        exact ⟨HB4.out, _, rfl, .inr (.inr ⟨HASK.out, k, HAT.out, .inl ⟨HACT.out, rfl⟩⟩)⟩
      | true =>
        have HACT := hid hac
        clear hac
        go_wp2_with fail
        refine (HHH.out w4 k.root _ HB4.out HX4.out HKF.out.1).mono ?_
        rintro e w5 ⟨hb5, bb, rfl, hbb⟩
        have HB5 := hid (HB4.out.trans (hb5.mono HB4.out.size))
        have HBB := hid hbb
        clear hb5 hbb
        cases bb with
        | true =>
          go_wp2
          go_ret
          exact ⟨HB5.out, _, rfl, .inr (.inr ⟨HASK.out, k, HAT.out, .inr ⟨HACT.out, .inl ⟨HBB.out.1 (by simp), rfl⟩⟩⟩)⟩
        | false =>
          go_wp2
          go_ret
          exact ⟨HB5.out, _, rfl, .inr (.inr ⟨HASK.out, k, HAT.out, .inr ⟨HACT.out, .inr ⟨fun h => absurd (HBB.out.2 h) (by simp), rfl⟩⟩⟩)⟩
  · have HASK := hid hask
    have e1 : (askedN c now != 0) = true := by simpa using hask
    clear hask
    generalize hz : askedN c now = z at *
    have HZ := hid hz
    clear hz
    go_wp2
    go_ret
    exact ⟨HB1.out, _, rfl, .inl ⟨by rw [HZ.out]; exact HASK.out, HZ.out.symm⟩⟩
/-- what Member is to answer -/
def MemberC (f : FuncId) : Prop := ∀ (c : Cl) (now height : Int) (key val : List (BitVec 8)) (p : Prf) (cv kv vv pv : Value) (N : Nat) (w : World), tableAt w → N ≤ w.heap.size → ClV w N cv c → Bytes w N kv key → Bytes w N vv val → PrfV w N pv p → c.fits → key.length ≤ 140737488351232 → val.length ≤ 140737488351232 → p.fits →
  Calls Tryz.prog f #[cv, .int .i64 now, .int .i64 height, kv, vv, pv] w fun e w' => Below w.heap.size w w' ∧ ∃ z, e = .returned (.int .i64 z) ∧ ShownN c now height (fun r => p.key = key ∧ p.val = val ∧ shownB r p) z
/-- what Missing is to answer -/
def MissingC (f : FuncId) : Prop := ∀ (c : Cl) (now height : Int) (key : List (BitVec 8)) (g : Gp) (cv kv gv : Value) (N : Nat) (w : World), tableAt w → N ≤ w.heap.size → ClV w N cv c → Bytes w N kv key → GpV w N gv g → c.fits → key.length ≤ 140737488351232 → g.fits →
  Calls Tryz.prog f #[cv, .int .i64 now, .int .i64 height, kv, gv] w fun e w' => Below w.heap.size w w' ∧ ∃ z, e = .returned (.int .i64 z) ∧ ShownN c now height (fun r => absentB r key g) z
set_option maxRecDepth 100000 in
set_option maxHeartbeats 4000000 in
theorem memberC : MemberC 45 := by
  intro c now height key val p cv kv vv pv N w htab hN hcv hk hv hp hcf hkl hvl hpf
  have HCV := hid hcv
  have HP := hid hp
  have HK := hid hk
  have HV := hid hv
  have HTAB := hid htab
  obtain ⟨xv, rfl, hkn⟩ := hcv
  obtain ⟨oa, ca, rfl, hca⟩ := hkn.shape
  obtain ⟨o1, c1, rfl, _⟩ := hk.shape
  obtain ⟨o2, c2, rfl, _⟩ := hv.shape
  obtain ⟨x1, x2, x3, rfl, h1, h2, h3⟩ := hp
  obtain ⟨q1, y1, rfl, _⟩ := h1.shape
  obtain ⟨q2, y2, rfl, _⟩ := h2.shape
  obtain ⟨q3, y3, rfl, _⟩ := h3.shape
  obtain ⟨w0, hw0⟩ : ∃ w0, (((w.alloc (.cells #[.string c.chain, .int .i64 c.trust, .bool c.frozen, .slice oa c.known.length ca] 79)).alloc (.cells #[.slice o1 key.length c1] 29)).alloc (.cells #[.slice o2 val.length c2] 29)).alloc (.cells #[.int .i64 p.index, .int .i64 p.size, .slice q1 p.key.length y1, .slice q2 p.val.length y2, .slice q3 p.path.length y3] 34) = w0 := ⟨_, rfl⟩
  have hb0 : Below w.heap.size w w0 := by rw [← hw0]; exact ((((Below.refl _ _).alloc (Nat.le_refl _) _).alloc (by simp) _).alloc (by simp; omega) _).alloc (by simp; omega) _
  have hr0 : Row w0 w.heap.size 79 [.string c.chain, .int .i64 c.trust, .bool c.frozen, .slice oa c.known.length ca] := by rw [← hw0]; exact (((Row.new _ _ _).alloc _).alloc _).alloc _
  have hr1 : Row w0 (w.heap.size + 1) 29 [.slice o1 key.length c1] := by rw [← hw0]; exact ((Row.newAt _ _ _ _ (by simp)).alloc _).alloc _
  have hr2 : Row w0 (w.heap.size + 1 + 1) 29 [.slice o2 val.length c2] := by rw [← hw0]; exact (Row.newAt _ _ _ _ (by simp)).alloc _
  have hr3 : Row w0 (w.heap.size + 1 + 1 + 1) 34 [.int .i64 p.index, .int .i64 p.size, .slice q1 p.key.length y1, .slice q2 p.val.length y2, .slice q3 p.path.length y3] := by rw [← hw0]; exact Row.newAt _ _ _ _ (by simp)
  have HSH := hid (shownM_any (fun r => p.key = key ∧ p.val = val ∧ shownB r p) c now height (w.heap.size + 1 + 1 + 1) (w.heap.size + 1) (w.heap.size + 1 + 1) (.agg #[.string c.chain, .int .i64 c.trust, .bool c.frozen, .slice oa c.known.length ca]) N w0 (Nat.le_trans hN hb0.size) (HCV.out.below (hb0.mono hN)) hcf
    (fun wx root rv hx hr hrl => by
      have hbx := hb0.trans (hx.mono hb0.size)
      exact member1_any p key val root _ _ _ _ _ _ rv N wx (HTAB.out.below hbx HTAB.out.lt) (Nat.le_trans hN hbx.size) (HP.out.below (hbx.mono hN)) (HK.out.below (hbx.mono hN)) (HV.out.below (hbx.mono hN)) hr hpf hrl ⟨_, rfl, hr3.below hx hr3.lt⟩ (hr1.below hx hr1.lt) (hr2.below hx hr2.lt)))
  have HB0 := hid hb0
  have HW0 := hid hw0
  obtain ⟨⟨a0, a1, a2, a3⟩, _⟩ := hr0.four
  clear hkn hk hv h1 h2 h3 hw0 hb0 hr0 hr1 hr2 hr3 htab hcf hpf
  go_enter Tryz.func45, Tryz.ntmps45
  go_wp2_with fail
  rw [HW0.out]
  refine HSH.out.mono ?_
  rintro e w1 ⟨hb1, z, rfl, hz⟩
  have HB1 := hid (HB0.out.trans (hb1.mono HB0.out.size))
  have HZ := hid hz
  clear hb1 hz
  go_wp2
  go_ret
  exact ⟨HB1.out, z, rfl, HZ.out⟩
set_option maxRecDepth 100000 in
set_option maxHeartbeats 4000000 in
theorem missingC : MissingC 108 := by
  intro c now height key g cv kv gv N w htab hN hcv hk hg hcf hkl hgf
  have HCV := hid hcv
  have HG := hid hg
  have HK := hid hk
  have HTAB := hid htab
  obtain ⟨xv, rfl, hkn⟩ := hcv
  obtain ⟨oa, ca, rfl, hca⟩ := hkn.shape
  obtain ⟨o1, c1, rfl, _⟩ := hk.shape
  obtain ⟨k1, v1, t1, k2, v2, t2, rfl, h1, h2, h3, h4, h5, h6⟩ := hg
  obtain ⟨q1, y1, rfl, _⟩ := h1.shape
  obtain ⟨q2, y2, rfl, _⟩ := h2.shape
  obtain ⟨q3, y3, rfl, _⟩ := h3.shape
  obtain ⟨q4, y4, rfl, _⟩ := h4.shape
  obtain ⟨q5, y5, rfl, _⟩ := h5.shape
  obtain ⟨q6, y6, rfl, _⟩ := h6.shape
  obtain ⟨gs, hgs⟩ : ∃ gs : List Value, gs = [.bool g.hasL, .bool g.hasR, .int .i64 g.left.index, .int .i64 g.left.size, .slice q1 g.left.key.length y1, .slice q2 g.left.val.length y2, .slice q3 g.left.path.length y3, .int .i64 g.right.index, .int .i64 g.right.size, .slice q4 g.right.key.length y4, .slice q5 g.right.val.length y5, .slice q6 g.right.path.length y6] := ⟨_, rfl⟩
  obtain ⟨w0, hw0⟩ : ∃ w0, ((w.alloc (.cells #[.string c.chain, .int .i64 c.trust, .bool c.frozen, .slice oa c.known.length ca] 79)).alloc (.cells #[.slice o1 key.length c1] 29)).alloc (.cells #[.bool g.hasL, .bool g.hasR, .int .i64 g.left.index, .int .i64 g.left.size, .slice q1 g.left.key.length y1, .slice q2 g.left.val.length y2, .slice q3 g.left.path.length y3, .int .i64 g.right.index, .int .i64 g.right.size, .slice q4 g.right.key.length y4, .slice q5 g.right.val.length y5, .slice q6 g.right.path.length y6] 36) = w0 := ⟨_, rfl⟩
  have hb0 : Below w.heap.size w w0 := by rw [← hw0]; exact (((Below.refl _ _).alloc (Nat.le_refl _) _).alloc (by simp) _).alloc (by simp; omega) _
  have hr0 : Row w0 w.heap.size 79 [.string c.chain, .int .i64 c.trust, .bool c.frozen, .slice oa c.known.length ca] := by rw [← hw0]; exact ((Row.new _ _ _).alloc _).alloc _
  have hr1 : Row w0 (w.heap.size + 1) 29 [.slice o1 key.length c1] := by rw [← hw0]; exact (Row.newAt _ _ _ _ (by simp)).alloc _
  have hr2 : Row w0 (w.heap.size + 1 + 1) 36 gs := by rw [← hw0, hgs]; exact Row.newAt _ _ _ _ (by simp)
  have HSH := hid (shownG_any (fun r => absentB r key g) c now height (w.heap.size + 1) (w.heap.size + 1 + 1) (.agg #[.string c.chain, .int .i64 c.trust, .bool c.frozen, .slice oa c.known.length ca]) N w0 (Nat.le_trans hN hb0.size) (HCV.out.below (hb0.mono hN)) hcf
    (fun wx root rv hx hr hrl => by
      have hbx := hb0.trans (hx.mono hb0.size)
      exact missing1_any g key root _ _ _ _ rv N wx (HTAB.out.below hbx HTAB.out.lt) (Nat.le_trans hN hbx.size) (HG.out.below (hbx.mono hN)) (HK.out.below (hbx.mono hN)) hr hgf hkl hrl ⟨_, rfl, by have := hr2.below hx hr2.lt; rw [hgs] at this; exact this⟩ (hr1.below hx hr1.lt)))
  have HB0 := hid hb0
  have HW0 := hid hw0
  obtain ⟨⟨a0, a1, a2, a3⟩, _⟩ := hr0.four
  clear hkn hk h1 h2 h3 h4 h5 h6 hw0 hb0 hr0 hr1 hr2 htab hcf hgf hgs
  go_enter Tryz.func108, Tryz.ntmps108
  go_wp2_with fail
  rw [HW0.out]
  refine HSH.out.mono ?_
  rintro e w1 ⟨hb1, z, rfl, hz⟩
  have HB1 := hid (HB0.out.trans (hb1.mono HB0.out.size))
  have HZ := hid hz
  clear hb1 hz
  go_wp2
  go_ret
  exact ⟨HB1.out, z, rfl, HZ.out⟩
theorem ShownN.some (c : Cl) (now height : Int) (P : List (BitVec 8) → Prop) : ∃ z, ShownN c now height P z := by
  by_cases h1 : askedN c now = 0
  · cases h2 : atK c.known height with
    | none => exact ⟨6, .inr (.inl ⟨h1, h2, rfl⟩)⟩
    | some k =>
      cases h3 : activeB c now with
      | false => exact ⟨11, .inr (.inr ⟨h1, k, h2, .inl ⟨h3, rfl⟩⟩)⟩
      | true =>
        by_cases h4 : P k.root
        · exact ⟨0, .inr (.inr ⟨h1, k, h2, .inr ⟨h3, .inl ⟨h4, rfl⟩⟩⟩)⟩
        · exact ⟨9, .inr (.inr ⟨h1, k, h2, .inr ⟨h3, .inr ⟨h4, rfl⟩⟩⟩)⟩
  · exact ⟨askedN c now, .inl ⟨h1, rfl⟩⟩
theorem MemberC.z {f : FuncId} (h : MemberC f) (c : Cl) (now height : Int) (key val : List (BitVec 8)) (p : Prf) (cv kv vv pv : Value) (N : Nat) (w : World) (h1 : tableAt w) (h2 : N ≤ w.heap.size) (h3 : ClV w N cv c) (h4 : Bytes w N kv key) (h5 : Bytes w N vv val) (h6 : PrfV w N pv p) (h7 : c.fits) (h8 : key.length ≤ 140737488351232) (h9 : val.length ≤ 140737488351232) (h10 : p.fits) {zm : Int} (hz : ShownN c now height (fun r => p.key = key ∧ p.val = val ∧ shownB r p) zm) :
    Calls Tryz.prog f #[cv, .int .i64 now, .int .i64 height, kv, vv, pv] w fun e w' => e = .returned (.int .i64 zm) ∧ Below w.heap.size w w' := by
  refine (h c now height key val p cv kv vv pv N w h1 h2 h3 h4 h5 h6 h7 h8 h9 h10).mono ?_
  rintro e w' ⟨hb, z, rfl, hz'⟩
  exact ⟨by rw [hz'.eq hz], hb⟩
theorem MissingC.z {f : FuncId} (h : MissingC f) (c : Cl) (now height : Int) (key : List (BitVec 8)) (g : Gp) (cv kv gv : Value) (N : Nat) (w : World) (h1 : tableAt w) (h2 : N ≤ w.heap.size) (h3 : ClV w N cv c) (h4 : Bytes w N kv key) (h6 : GpV w N gv g) (h7 : c.fits) (h8 : key.length ≤ 140737488351232) (h10 : g.fits) {za : Int} (hz : ShownN c now height (fun r => absentB r key g) za) :
    Calls Tryz.prog f #[cv, .int .i64 now, .int .i64 height, kv, gv] w fun e w' => e = .returned (.int .i64 za) ∧ Below w.heap.size w w' := by
  refine (h c now height key g cv kv gv N w h1 h2 h3 h4 h6 h7 h8 h10).mono ?_
  rintro e w' ⟨hb, z, rfl, hz'⟩
  exact ⟨by rw [hz'.eq hz], hb⟩
end Go.Proofs.YtclhcjiblfokaaaGreatDoor
