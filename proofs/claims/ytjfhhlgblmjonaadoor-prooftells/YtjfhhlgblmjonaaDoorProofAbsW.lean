/-
  What package proof's sideBySide and Absent answer: whether a gap shows that a key does not stand in the book with a root.
-/
import Derived.Test.YtjfhhlgblmjonaaDoorProofShownW
import Derived.Test.YtjfhhlgblmjonaaDoorBookFind
namespace Go.Proofs.YtjfhhlgblmjonaaDoor
open Go.RowKit

/-- whether what is there stands side by side, or at an end -/
def sideB (g : Gp) : Prop := (g.hasL = true → g.hasR = true → g.right.size = g.left.size ∧ g.left.index + 1 = g.right.index) ∧ (g.hasL = true → g.hasR = false → g.left.index + 1 = g.left.size) ∧ (g.hasL = false → g.hasR = true → g.right.index = 0)
set_option maxRecDepth 100000 in
set_option maxHeartbeats 4000000 in
theorem sideBySide_any (g : Gp) (a1 a2 a3 a4 a5 a6 : Option Addr) (b1 b2 b3 b4 b5 b6 : Nat) (w : World) (hne : g.hasL = true ∨ g.hasR = true) (hl : g.hasL = true → 1 ≤ g.left.size ∧ g.left.size ≤ 200 ∧ 0 ≤ g.left.index ∧ g.left.index < g.left.size) :
    Calls Tryd.prog 31 #[.agg #[.bool g.hasL, .bool g.hasR, .int .i64 g.left.index, .int .i64 g.left.size, .slice a1 g.left.key.length b1, .slice a2 g.left.val.length b2, .slice a3 g.left.path.length b3, .int .i64 g.right.index, .int .i64 g.right.size, .slice a4 g.right.key.length b4, .slice a5 g.right.val.length b5, .slice a6 g.right.path.length b6]] w fun e w' => Below w.heap.size w w' ∧ Tells (sideB g) e := by
  obtain ⟨w1, hw1⟩ : ∃ w1, w.alloc (.cells #[.bool g.hasL, .bool g.hasR, .int .i64 g.left.index, .int .i64 g.left.size, .slice a1 g.left.key.length b1, .slice a2 g.left.val.length b2, .slice a3 g.left.path.length b3, .int .i64 g.right.index, .int .i64 g.right.size, .slice a4 g.right.key.length b4, .slice a5 g.right.val.length b5, .slice a6 g.right.path.length b6] 28) = w1 := ⟨_, rfl⟩
  have hb1 : Below w.heap.size w w1 := by rw [← hw1]; exact (Below.refl _ _).alloc (Nat.le_refl _) _
  have hrow1 : Row w1 w.heap.size 28 [.bool g.hasL, .bool g.hasR, .int .i64 g.left.index, .int .i64 g.left.size, .slice a1 g.left.key.length b1, .slice a2 g.left.val.length b2, .slice a3 g.left.path.length b3, .int .i64 g.right.index, .int .i64 g.right.size, .slice a4 g.right.key.length b4, .slice a5 g.right.val.length b5, .slice a6 g.right.path.length b6] := by rw [← hw1]; exact Row.new _ _ _
  have HB1 := hid hb1
  have q0 := hrow1.cell 0
  have q1 := hrow1.cell 1
  have q2 := hrow1.cell 2
  have q3 := hrow1.cell 3
  have q4 := hrow1.cell 4
  have q5 := hrow1.cell 5
  have q6 := hrow1.cell 6
  have q7 := hrow1.cell 7
  have q8 := hrow1.cell 8
  have q9 := hrow1.cell 9
  have q10 := hrow1.cell 10
  have q11 := hrow1.cell 11
  clear hb1 hrow1
  obtain ⟨L, hL⟩ : ∃ L, g.hasL = L := ⟨_, rfl⟩
  obtain ⟨R, hR⟩ : ∃ R, g.hasR = R := ⟨_, rfl⟩
  have HSB := hid (show sideB g ↔ ((L = true → R = true → g.right.size = g.left.size ∧ g.left.index + 1 = g.right.index) ∧ (L = true → R = false → g.left.index + 1 = g.left.size) ∧ (L = false → R = true → g.right.index = 0)) by rw [← hL, ← hR]; exact Iff.rfl)
  rw [hL, hR] at hne
  rw [hL] at hl
  rw [hL, hR] at hw1
  rw [hL] at q0
  rw [hR] at q1
  rw [hL, hR]
  clear hL hR
  go_enter Tryd.func31, Tryd.ntmps31
  cases R with
  | false =>
    obtain rfl : L = true := by simpa using hne
    have hll := hl rfl
    have HLL := hid hll
    clear hl hne
    go_wp2
    go_ret
    refine ⟨HB1.out, _, rfl, ?_⟩
    have := HLL.out
    rw [HSB.out]
    simp
    omega
  | true =>
    cases L with
    | false =>
      clear hl hne
      go_wp2
      go_ret
      refine ⟨HB1.out, _, rfl, ?_⟩
      rw [HSB.out]
      simp
    | true =>
      have hll := hl rfl
      have HLL := hid hll
      clear hl hne
      by_cases hs : g.left.size = g.right.size
      · have e1 : (g.left.size == g.right.size) = true := by simpa using hs
        have HS := hid hs
        clear hs
        go_wp2
        go_ret
        refine ⟨HB1.out, _, rfl, ?_⟩
        have := HLL.out
        have := HS.out
        rw [HSB.out]
        simp
        omega
      · have e1 : (g.left.size == g.right.size) = false := by simpa using hs
        go_wp2
        go_ret
        refine ⟨HB1.out, Tells.no (fun h => ?_)⟩
        have := (HSB.out.1 h).1 (by trivial) (by trivial)
        omega
set_option maxRecDepth 100000 in
set_option maxHeartbeats 4000000 in
theorem absentC : AbsentC 12 := by
  intro r k g rv kv v N w hT hN hr hk hg hf hrl hkl
  obtain ⟨orr, cr, rfl, _⟩ := hr.shape
  obtain ⟨ok, ck, rfl, _⟩ := hk.shape
  obtain ⟨k1, v1, p1, k2, v2, p2, rfl, hk1, hv1, hp1, hk2, hv2, hp2⟩ := hg
  obtain ⟨a1, b1, rfl, _⟩ := hk1.shape
  obtain ⟨a2, b2, rfl, _⟩ := hv1.shape
  obtain ⟨a3, b3, rfl, _⟩ := hp1.shape
  obtain ⟨a4, b4, rfl, _⟩ := hk2.shape
  obtain ⟨a5, b5, rfl, _⟩ := hv2.shape
  obtain ⟨a6, b6, rfl, _⟩ := hp2.shape
  obtain ⟨L, hL⟩ : ∃ L, g.hasL = L := ⟨_, rfl⟩
  obtain ⟨R, hR⟩ : ∃ R, g.hasR = R := ⟨_, rfl⟩
  have HSB := hid (show (L = true ∨ R = true) → (L = true → 1 ≤ g.left.size ∧ g.left.size ≤ 200 ∧ 0 ≤ g.left.index ∧ g.left.index < g.left.size) → ∀ wx, Calls Tryd.prog 31 #[.agg #[.bool L, .bool R, .int .i64 g.left.index, .int .i64 g.left.size, .slice a1 g.left.key.length b1, .slice a2 g.left.val.length b2, .slice a3 g.left.path.length b3, .int .i64 g.right.index, .int .i64 g.right.size, .slice a4 g.right.key.length b4, .slice a5 g.right.val.length b5, .slice a6 g.right.path.length b6]] wx fun e w' => Below wx.heap.size wx w' ∧ Tells (sideB g) e from fun h1 h2 wx => by
    have := sideBySide_any g a1 a2 a3 a4 a5 a6 b1 b2 b3 b4 b5 b6 wx (by rw [hL, hR]; exact h1) (by rw [hL]; exact h2)
    rw [hL, hR] at this
    exact this)
  have HAB := hid (show absentB r k g ↔ if L = false ∧ R = false then r = topD 0 [] else (L = true → shownB r g.left ∧ lessB g.left.key k = true) ∧ (R = true → shownB r g.right ∧ lessB k g.right.key = true) ∧ sideB g by
    unfold absentB sideB
    rw [hL, hR])
  rw [hL, hR]
  obtain ⟨w1, hw1⟩ : ∃ w1, w.alloc (.cells #[.bool L, .bool R, .int .i64 g.left.index, .int .i64 g.left.size, .slice a1 g.left.key.length b1, .slice a2 g.left.val.length b2, .slice a3 g.left.path.length b3, .int .i64 g.right.index, .int .i64 g.right.size, .slice a4 g.right.key.length b4, .slice a5 g.right.val.length b5, .slice a6 g.right.path.length b6] 28) = w1 := ⟨_, rfl⟩
  have hsz1 : w1.heap.size = w.heap.size + 1 := by rw [← hw1]; simp
  have hb1 : Below w.heap.size w w1 := by rw [← hw1]; exact (Below.refl _ _).alloc (Nat.le_refl _) _
  have hrow1 : Row w1 w.heap.size 28 [.bool L, .bool R, .int .i64 g.left.index, .int .i64 g.left.size, .slice a1 g.left.key.length b1, .slice a2 g.left.val.length b2, .slice a3 g.left.path.length b3, .int .i64 g.right.index, .int .i64 g.right.size, .slice a4 g.right.key.length b4, .slice a5 g.right.val.length b5, .slice a6 g.right.path.length b6] := by rw [← hw1]; exact Row.new _ _ _
  have HB1 := hid hb1
  have HBX := hid (show ∀ wx, Below w1.heap.size w1 wx → Below w.heap.size w wx from fun wx hx => hb1.trans (hx.mono (by omega)))
  have HRX := hid (show ∀ wx, Below w1.heap.size w1 wx → Row wx w.heap.size 28 [.bool L, .bool R, .int .i64 g.left.index, .int .i64 g.left.size, .slice a1 g.left.key.length b1, .slice a2 g.left.val.length b2, .slice a3 g.left.path.length b3, .int .i64 g.right.index, .int .i64 g.right.size, .slice a4 g.right.key.length b4, .slice a5 g.right.val.length b5, .slice a6 g.right.path.length b6] from fun wx hx => hrow1.below hx (by omega))
  have HSL := hid (show ∀ wx, Below w1.heap.size w1 wx → Calls Tryd.prog 10 #[.slice orr r.length cr, .agg #[.int .i64 g.left.index, .int .i64 g.left.size, .slice a1 g.left.key.length b1, .slice a2 g.left.val.length b2, .slice a3 g.left.path.length b3]] wx fun e w' => Below wx.heap.size wx w' ∧ Tells (shownB r g.left) e from fun wx hx =>
    have hb := HBX.out wx hx
    shownC r g.left _ _ N wx (hT.past hb) (Nat.le_trans hN hb.size) (hr.below (hb.mono hN)) ⟨_, _, _, rfl, hk1.below (hb.mono hN), hv1.below (hb.mono hN), hp1.below (hb.mono hN)⟩ hf.1 hrl)
  have HSR := hid (show ∀ wx, Below w1.heap.size w1 wx → Calls Tryd.prog 10 #[.slice orr r.length cr, .agg #[.int .i64 g.right.index, .int .i64 g.right.size, .slice a4 g.right.key.length b4, .slice a5 g.right.val.length b5, .slice a6 g.right.path.length b6]] wx fun e w' => Below wx.heap.size wx w' ∧ Tells (shownB r g.right) e from fun wx hx =>
    have hb := HBX.out wx hx
    shownC r g.right _ _ N wx (hT.past hb) (Nat.le_trans hN hb.size) (hr.below (hb.mono hN)) ⟨_, _, _, rfl, hk2.below (hb.mono hN), hv2.below (hb.mono hN), hp2.below (hb.mono hN)⟩ hf.2 hrl)
  have HCL := hid (show ∀ wx, Below w1.heap.size w1 wx → Calls Tryd.prog 30 #[.slice a1 g.left.key.length b1, .slice ok k.length ck] wx fun e w' => e = .returned (.int .i64 (cmpB g.left.key k)) ∧ w' = wx from fun wx hx =>
    have hb := HBX.out wx hx
    compare_any _ _ _ _ N N wx (hk1.below (hb.mono hN)) (hk.below (hb.mono hN)))
  have HCR := hid (show ∀ wx, Below w1.heap.size w1 wx → Calls Tryd.prog 30 #[.slice ok k.length ck, .slice a4 g.right.key.length b4] wx fun e w' => e = .returned (.int .i64 (cmpB k g.right.key)) ∧ w' = wx from fun wx hx =>
    have hb := HBX.out wx hx
    compare_any _ _ _ _ N N wx (hk.below (hb.mono hN)) (hk2.below (hb.mono hN)))
  have HRT := hid hr
  have HT := hid hT
  have q0 := hrow1.cell 0
  have q1 := hrow1.cell 1
  have q2 := hrow1.cell 2
  have q3 := hrow1.cell 3
  have q4 := hrow1.cell 4
  have q5 := hrow1.cell 5
  have q6 := hrow1.cell 6
  have q7 := hrow1.cell 7
  have q8 := hrow1.cell 8
  have q9 := hrow1.cell 9
  have q10 := hrow1.cell 10
  have q11 := hrow1.cell 11
  clear hk1 hv1 hp1 hk2 hv2 hp2 hL hR hb1 hrow1 hT hr hk hf
  go_enter Tryd.func12, Tryd.ntmps12
  have HB11 := hid (Below.refl w1.heap.size w1)
  cases L with
  | false =>
    cases R with
    | false =>
      have HBK := hid (bookBytes_any 0 [] (.slice none 0 0) w1.heap.size w1 (Nat.le_refl _) (.inl ⟨rfl, rfl⟩) (by decide) (by decide))
      go_wp2_with fail
      refine HBK.out.mono ?_
      rintro e w2 ⟨o2, n2, c2, rfl, hown2, hb2⟩
      have hz2 := hb2.size
      have HB2 := hid hb2
      have HSM := hid (sumC _ (.slice o2 n2 c2) w2.heap.size w2 (Nat.le_refl _) hown2.bytes (HT.out.past (HBX.out w2 hb2)) (by decide))
      clear hown2 hb2
      go_wp2_with fail
      refine HSM.out.mono ?_
      rintro e w3 ⟨o3, c3, rfl, hown3, hb3⟩
      have HB3 := hid (HB2.out.trans (hb3.mono hz2))
      have HEQ := hid (equal_any _ r (.slice o3 32 c3) (.slice orr r.length cr) w3.heap.size N w3 hown3.bytes (HRT.out.below ((HBX.out w3 HB3.out).mono hN)))
      clear hown3 hb3
      go_wp2_with fail
      refine HEQ.out.mono ?_
      rintro e w4 ⟨rfl, hw4⟩
      obtain rfl := hw4.symm
      go_wp2
      go_ret
      refine ⟨HBX.out _ HB3.out, _, rfl, ?_⟩
      rw [decide_eq_true_iff, HAB.out, if_pos (by simp)]
      exact ⟨fun h => h.symm, fun h => h.symm⟩
    | true =>
      go_wp2_with fail
      refine (HSR.out w1 HB11.out).mono ?_
      rintro e w3 ⟨hbw3, bb, rfl, hbb⟩
      have HTw3 := hid hbb
      have HB3 := hid (HB11.out.trans (hbw3.mono HB11.out.size))
      clear hbw3 hbb q0 q1 q2 q3 q4 q5 q6 q7 q8 q9 q10 q11
      have q0 := (HRX.out w3 HB3.out).cell 0
      have q1 := (HRX.out w3 HB3.out).cell 1
      have q2 := (HRX.out w3 HB3.out).cell 2
      have q3 := (HRX.out w3 HB3.out).cell 3
      have q4 := (HRX.out w3 HB3.out).cell 4
      have q5 := (HRX.out w3 HB3.out).cell 5
      have q6 := (HRX.out w3 HB3.out).cell 6
      have q7 := (HRX.out w3 HB3.out).cell 7
      have q8 := (HRX.out w3 HB3.out).cell 8
      have q9 := (HRX.out w3 HB3.out).cell 9
      have q10 := (HRX.out w3 HB3.out).cell 10
      have q11 := (HRX.out w3 HB3.out).cell 11
      cases bb with
      | false =>
        go_wp2
        go_ret
        refine ⟨HBX.out w3 HB3.out, Tells.no (fun h => ?_)⟩
        have h := HAB.out.1 h
        rw [if_neg (by simp)] at h
        exact absurd (HTw3.out.2 (h.2.1 (by trivial)).1) (by simp)
      | true =>
        have HSRR := hid (HTw3.out.1 rfl)
        by_cases hcR : cmpB k g.right.key < 0
        · have ecR : decide (cmpB k g.right.key < 0) = true := by simpa using hcR
          have HCRR := hid ((cmpB_neg _ _).1 hcR)
          go_wp2_with fail
          refine (HCR.out w3 HB3.out).mono ?_
          rintro e wz ⟨rfl, hwz⟩
          obtain rfl := hwz.symm
          clear hcR
          go_wp2_with fail
          refine (HSB.out (by simp) (fun h => absurd h (by simp)) w3).mono ?_
          rintro e we ⟨hbe, be, rfl, hbe2⟩
          have HE := hid hbe2
          have HBE := hid (HB3.out.trans (hbe.mono HB3.out.size))
          clear hbe hbe2
          go_wp2
          go_ret
          refine ⟨HBX.out we HBE.out, be, rfl, HE.out.trans ?_⟩
          rw [HAB.out, if_neg (by simp)]
          exact ⟨fun h => ⟨fun h => absurd h (by simp), fun _ => ⟨HSRR.out, HCRR.out⟩, h⟩, fun h => h.2.2⟩
        · have ecR : decide (cmpB k g.right.key < 0) = false := by simpa using hcR
          go_wp2_with fail
          refine (HCR.out w3 HB3.out).mono ?_
          rintro e wz ⟨rfl, hwz⟩
          obtain rfl := hwz.symm
          go_wp2
          go_ret
          refine ⟨HBX.out w3 HB3.out, Tells.no (fun h => ?_)⟩
          have h := HAB.out.1 h
          rw [if_neg (by simp)] at h
          exact absurd ((cmpB_neg _ _).2 (h.2.1 (by trivial)).2) (by omega)
  | true =>
    cases R with
    | false =>
      go_wp2_with fail
      refine (HSL.out w1 HB11.out).mono ?_
      rintro e w2 ⟨hbw2, bb, rfl, hbb⟩
      have HTw2 := hid hbb
      have HB2 := hid (HB11.out.trans (hbw2.mono HB11.out.size))
      clear hbw2 hbb q0 q1 q2 q3 q4 q5 q6 q7 q8 q9 q10 q11
      have q0 := (HRX.out w2 HB2.out).cell 0
      have q1 := (HRX.out w2 HB2.out).cell 1
      have q2 := (HRX.out w2 HB2.out).cell 2
      have q3 := (HRX.out w2 HB2.out).cell 3
      have q4 := (HRX.out w2 HB2.out).cell 4
      have q5 := (HRX.out w2 HB2.out).cell 5
      have q6 := (HRX.out w2 HB2.out).cell 6
      have q7 := (HRX.out w2 HB2.out).cell 7
      have q8 := (HRX.out w2 HB2.out).cell 8
      have q9 := (HRX.out w2 HB2.out).cell 9
      have q10 := (HRX.out w2 HB2.out).cell 10
      have q11 := (HRX.out w2 HB2.out).cell 11
      cases bb with
      | false =>
        go_wp2
        go_ret
        refine ⟨HBX.out w2 HB2.out, Tells.no (fun h => ?_)⟩
        have h := HAB.out.1 h
        rw [if_neg (by simp)] at h
        exact absurd (HTw2.out.2 (h.1 (by trivial)).1) (by simp)
      | true =>
        have HSLL := hid (HTw2.out.1 rfl)
        by_cases hcL : cmpB g.left.key k < 0
        · have ecL : decide (cmpB g.left.key k < 0) = true := by simpa using hcL
          have HCLL := hid ((cmpB_neg _ _).1 hcL)
          go_wp2_with fail
          refine (HCL.out w2 HB2.out).mono ?_
          rintro e wz ⟨rfl, hwz⟩
          obtain rfl := hwz.symm
          clear hcL
          go_wp2_with fail
          refine (HSB.out (by simp) (fun _ => ⟨HSLL.out.1, HSLL.out.2.1, HSLL.out.2.2.1, HSLL.out.2.2.2.1⟩) w2).mono ?_
          rintro e we ⟨hbe, be, rfl, hbe2⟩
          have HE := hid hbe2
          have HBE := hid (HB2.out.trans (hbe.mono HB2.out.size))
          clear hbe hbe2
          go_wp2
          go_ret
          refine ⟨HBX.out we HBE.out, be, rfl, HE.out.trans ?_⟩
          rw [HAB.out, if_neg (by simp)]
          exact ⟨fun h => ⟨fun _ => ⟨HSLL.out, HCLL.out⟩, fun h => absurd h (by simp), h⟩, fun h => h.2.2⟩
        · have ecL : decide (cmpB g.left.key k < 0) = false := by simpa using hcL
          go_wp2_with fail
          refine (HCL.out w2 HB2.out).mono ?_
          rintro e wz ⟨rfl, hwz⟩
          obtain rfl := hwz.symm
          go_wp2
          go_ret
          refine ⟨HBX.out w2 HB2.out, Tells.no (fun h => ?_)⟩
          have h := HAB.out.1 h
          rw [if_neg (by simp)] at h
          exact absurd ((cmpB_neg _ _).2 (h.1 (by trivial)).2) (by omega)
    | true =>
      go_wp2_with fail
      refine (HSL.out w1 HB11.out).mono ?_
      rintro e w2 ⟨hbw2, bb, rfl, hbb⟩
      have HTw2 := hid hbb
      have HB2 := hid (HB11.out.trans (hbw2.mono HB11.out.size))
      clear hbw2 hbb q0 q1 q2 q3 q4 q5 q6 q7 q8 q9 q10 q11
      have q0 := (HRX.out w2 HB2.out).cell 0
      have q1 := (HRX.out w2 HB2.out).cell 1
      have q2 := (HRX.out w2 HB2.out).cell 2
      have q3 := (HRX.out w2 HB2.out).cell 3
      have q4 := (HRX.out w2 HB2.out).cell 4
      have q5 := (HRX.out w2 HB2.out).cell 5
      have q6 := (HRX.out w2 HB2.out).cell 6
      have q7 := (HRX.out w2 HB2.out).cell 7
      have q8 := (HRX.out w2 HB2.out).cell 8
      have q9 := (HRX.out w2 HB2.out).cell 9
      have q10 := (HRX.out w2 HB2.out).cell 10
      have q11 := (HRX.out w2 HB2.out).cell 11
      cases bb with
      | false =>
        go_wp2
        go_ret
        refine ⟨HBX.out w2 HB2.out, Tells.no (fun h => ?_)⟩
        have h := HAB.out.1 h
        rw [if_neg (by simp)] at h
        exact absurd (HTw2.out.2 (h.1 (by trivial)).1) (by simp)
      | true =>
        have HSLL := hid (HTw2.out.1 rfl)
        by_cases hcL : cmpB g.left.key k < 0
        · have ecL : decide (cmpB g.left.key k < 0) = true := by simpa using hcL
          have HCLL := hid ((cmpB_neg _ _).1 hcL)
          go_wp2_with fail
          refine (HCL.out w2 HB2.out).mono ?_
          rintro e wz ⟨rfl, hwz⟩
          obtain rfl := hwz.symm
          clear hcL
          go_wp2_with fail
          refine (HSR.out w2 HB2.out).mono ?_
          rintro e w3 ⟨hbw3, bb, rfl, hbb⟩
          have HTw3 := hid hbb
          have HB3 := hid (HB2.out.trans (hbw3.mono HB2.out.size))
          clear hbw3 hbb q0 q1 q2 q3 q4 q5 q6 q7 q8 q9 q10 q11
          have q0 := (HRX.out w3 HB3.out).cell 0
          have q1 := (HRX.out w3 HB3.out).cell 1
          have q2 := (HRX.out w3 HB3.out).cell 2
          have q3 := (HRX.out w3 HB3.out).cell 3
          have q4 := (HRX.out w3 HB3.out).cell 4
          have q5 := (HRX.out w3 HB3.out).cell 5
          have q6 := (HRX.out w3 HB3.out).cell 6
          have q7 := (HRX.out w3 HB3.out).cell 7
          have q8 := (HRX.out w3 HB3.out).cell 8
          have q9 := (HRX.out w3 HB3.out).cell 9
          have q10 := (HRX.out w3 HB3.out).cell 10
          have q11 := (HRX.out w3 HB3.out).cell 11
          cases bb with
          | false =>
            go_wp2
            go_ret
            refine ⟨HBX.out w3 HB3.out, Tells.no (fun h => ?_)⟩
            have h := HAB.out.1 h
            rw [if_neg (by simp)] at h
            exact absurd (HTw3.out.2 (h.2.1 (by trivial)).1) (by simp)
          | true =>
            have HSRR := hid (HTw3.out.1 rfl)
            by_cases hcR : cmpB k g.right.key < 0
            · have ecR : decide (cmpB k g.right.key < 0) = true := by simpa using hcR
              have HCRR := hid ((cmpB_neg _ _).1 hcR)
              go_wp2_with fail
              refine (HCR.out w3 HB3.out).mono ?_
              rintro e wz ⟨rfl, hwz⟩
              obtain rfl := hwz.symm
              clear hcR
              go_wp2_with fail
              refine (HSB.out (by simp) (fun _ => ⟨HSLL.out.1, HSLL.out.2.1, HSLL.out.2.2.1, HSLL.out.2.2.2.1⟩) w3).mono ?_
              rintro e we ⟨hbe, be, rfl, hbe2⟩
              have HE := hid hbe2
              have HBE := hid (HB3.out.trans (hbe.mono HB3.out.size))
              clear hbe hbe2
              go_wp2
              go_ret
              refine ⟨HBX.out we HBE.out, be, rfl, HE.out.trans ?_⟩
              rw [HAB.out, if_neg (by simp)]
              exact ⟨fun h => ⟨fun _ => ⟨HSLL.out, HCLL.out⟩, fun _ => ⟨HSRR.out, HCRR.out⟩, h⟩, fun h => h.2.2⟩
            · have ecR : decide (cmpB k g.right.key < 0) = false := by simpa using hcR
              go_wp2_with fail
              refine (HCR.out w3 HB3.out).mono ?_
              rintro e wz ⟨rfl, hwz⟩
              obtain rfl := hwz.symm
              go_wp2
              go_ret
              refine ⟨HBX.out w3 HB3.out, Tells.no (fun h => ?_)⟩
              have h := HAB.out.1 h
              rw [if_neg (by simp)] at h
              exact absurd ((cmpB_neg _ _).2 (h.2.1 (by trivial)).2) (by omega)
        · have ecL : decide (cmpB g.left.key k < 0) = false := by simpa using hcL
          go_wp2_with fail
          refine (HCL.out w2 HB2.out).mono ?_
          rintro e wz ⟨rfl, hwz⟩
          obtain rfl := hwz.symm
          go_wp2
          go_ret
          refine ⟨HBX.out w2 HB2.out, Tells.no (fun h => ?_)⟩
          have h := HAB.out.1 h
          rw [if_neg (by simp)] at h
          exact absurd ((cmpB_neg _ _).2 (h.1 (by trivial)).2) (by omega)
end Go.Proofs.YtjfhhlgblmjonaaDoor
