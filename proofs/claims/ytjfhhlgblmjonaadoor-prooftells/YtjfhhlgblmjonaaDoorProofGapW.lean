/-
  What package proof's ShowGap answers: the pairs beside where a key would stand; or what is wrong.
-/
import Derived.Test.YtjfhhlgblmjonaaDoorProofShowW
namespace Go.Proofs.YtjfhhlgblmjonaaDoor
open Go.RowKit

theorem gap_set {w : World} {B : Nat} {t : TypeId} {r0 r1 r2 r3 r4 r5 r6 r7 r8 r9 r10 r11 : Value} (h : Row w B t [r0, r1, r2, r3, r4, r5, r6, r7, r8, r9, r10, r11]) (x0 x1 x2 x3 x4 x5 x6 x7 x8 x9 x10 x11 : Value) :
    ∃ w', ((((((((((((w).setCell ⟨B, 0, none⟩ x0).setCell ⟨B, 1, none⟩ x1).setCell ⟨B, 2, none⟩ x2).setCell ⟨B, 3, none⟩ x3).setCell ⟨B, 4, none⟩ x4).setCell ⟨B, 5, none⟩ x5).setCell ⟨B, 6, none⟩ x6).setCell ⟨B, 7, none⟩ x7).setCell ⟨B, 8, none⟩ x8).setCell ⟨B, 9, none⟩ x9).setCell ⟨B, 10, none⟩ x10).setCell ⟨B, 11, none⟩ x11 = w' ∧ Row w' B t [x0, x1, x2, x3, x4, x5, x6, x7, x8, x9, x10, x11] ∧ Below B w w' ∧ KeepT t w w' ∧ w'.heap.size = w.heap.size :=
  ⟨_, rfl, ((((((((((((h.set 0 x0).set 1 x1).set 2 x2).set 3 x3).set 4 x4).set 5 x5).set 6 x6).set 7 x7).set 8 x8).set 9 x9).set 10 x10).set 11 x11), (((((((((((((Below.refl B w).setCell (Nat.le_refl _) _).setCell (Nat.le_refl _) _).setCell (Nat.le_refl _) _).setCell (Nat.le_refl _) _).setCell (Nat.le_refl _) _).setCell (Nat.le_refl _) _).setCell (Nat.le_refl _) _).setCell (Nat.le_refl _) _).setCell (Nat.le_refl _) _).setCell (Nat.le_refl _) _).setCell (Nat.le_refl _) _).setCell (Nat.le_refl _) _), ((((((((((((keepT_set h 0 x0).trans (keepT_set (h.set 0 x0) 1 x1)).trans (keepT_set ((h.set 0 x0).set 1 x1) 2 x2)).trans (keepT_set (((h.set 0 x0).set 1 x1).set 2 x2) 3 x3)).trans (keepT_set ((((h.set 0 x0).set 1 x1).set 2 x2).set 3 x3) 4 x4)).trans (keepT_set (((((h.set 0 x0).set 1 x1).set 2 x2).set 3 x3).set 4 x4) 5 x5)).trans (keepT_set ((((((h.set 0 x0).set 1 x1).set 2 x2).set 3 x3).set 4 x4).set 5 x5) 6 x6)).trans (keepT_set (((((((h.set 0 x0).set 1 x1).set 2 x2).set 3 x3).set 4 x4).set 5 x5).set 6 x6) 7 x7)).trans (keepT_set ((((((((h.set 0 x0).set 1 x1).set 2 x2).set 3 x3).set 4 x4).set 5 x5).set 6 x6).set 7 x7) 8 x8)).trans (keepT_set (((((((((h.set 0 x0).set 1 x1).set 2 x2).set 3 x3).set 4 x4).set 5 x5).set 6 x6).set 7 x7).set 8 x8) 9 x9)).trans (keepT_set ((((((((((h.set 0 x0).set 1 x1).set 2 x2).set 3 x3).set 4 x4).set 5 x5).set 6 x6).set 7 x7).set 8 x8).set 9 x9) 10 x10)).trans (keepT_set (((((((((((h.set 0 x0).set 1 x1).set 2 x2).set 3 x3).set 4 x4).set 5 x5).set 6 x6).set 7 x7).set 8 x8).set 9 x9).set 10 x10) 11 x11)), by simp⟩
theorem left_set {w : World} {B : Nat} {t : TypeId} {r0 r1 r2 r3 r4 r5 r6 r7 r8 r9 r10 r11 : Value} (h : Row w B t [r0, r1, r2, r3, r4, r5, r6, r7, r8, r9, r10, r11]) (x2 x3 x4 x5 x6 : Value) :
    ∃ w', ((((((w).setCell ⟨B, 0, none⟩ (.bool true)).setCell ⟨B, 2, none⟩ x2).setCell ⟨B, 3, none⟩ x3).setCell ⟨B, 4, none⟩ x4).setCell ⟨B, 5, none⟩ x5).setCell ⟨B, 6, none⟩ x6 = w' ∧ Row w' B t [.bool true, r1, x2, x3, x4, x5, x6, r7, r8, r9, r10, r11] ∧ Below B w w' ∧ KeepT t w w' ∧ w'.heap.size = w.heap.size :=
  ⟨_, rfl, ((((((h.set 0 (.bool true)).set 2 x2).set 3 x3).set 4 x4).set 5 x5).set 6 x6), (((((((Below.refl B w).setCell (Nat.le_refl _) _).setCell (Nat.le_refl _) _).setCell (Nat.le_refl _) _).setCell (Nat.le_refl _) _).setCell (Nat.le_refl _) _).setCell (Nat.le_refl _) _), ((((((keepT_set h 0 (.bool true)).trans (keepT_set (h.set 0 (.bool true)) 2 x2)).trans (keepT_set ((h.set 0 (.bool true)).set 2 x2) 3 x3)).trans (keepT_set (((h.set 0 (.bool true)).set 2 x2).set 3 x3) 4 x4)).trans (keepT_set ((((h.set 0 (.bool true)).set 2 x2).set 3 x3).set 4 x4) 5 x5)).trans (keepT_set (((((h.set 0 (.bool true)).set 2 x2).set 3 x3).set 4 x4).set 5 x5) 6 x6)), by simp⟩
theorem right_set {w : World} {B : Nat} {t : TypeId} {r0 r1 r2 r3 r4 r5 r6 r7 r8 r9 r10 r11 : Value} (h : Row w B t [r0, r1, r2, r3, r4, r5, r6, r7, r8, r9, r10, r11]) (x7 x8 x9 x10 x11 : Value) :
    ∃ w', ((((((w).setCell ⟨B, 1, none⟩ (.bool true)).setCell ⟨B, 7, none⟩ x7).setCell ⟨B, 8, none⟩ x8).setCell ⟨B, 9, none⟩ x9).setCell ⟨B, 10, none⟩ x10).setCell ⟨B, 11, none⟩ x11 = w' ∧ Row w' B t [r0, .bool true, r2, r3, r4, r5, r6, x7, x8, x9, x10, x11] ∧ Below B w w' ∧ KeepT t w w' ∧ w'.heap.size = w.heap.size :=
  ⟨_, rfl, ((((((h.set 1 (.bool true)).set 7 x7).set 8 x8).set 9 x9).set 10 x10).set 11 x11), (((((((Below.refl B w).setCell (Nat.le_refl _) _).setCell (Nat.le_refl _) _).setCell (Nat.le_refl _) _).setCell (Nat.le_refl _) _).setCell (Nat.le_refl _) _).setCell (Nat.le_refl _) _), ((((((keepT_set h 1 (.bool true)).trans (keepT_set (h.set 1 (.bool true)) 7 x7)).trans (keepT_set ((h.set 1 (.bool true)).set 7 x7) 8 x8)).trans (keepT_set (((h.set 1 (.bool true)).set 7 x7).set 8 x8) 9 x9)).trans (keepT_set ((((h.set 1 (.bool true)).set 7 x7).set 8 x8).set 9 x9) 10 x10)).trans (keepT_set (((((h.set 1 (.bool true)).set 7 x7).set 8 x8).set 9 x9).set 10 x10) 11 x11)), by simp⟩
theorem gapAt_parts (l : List Pr) (j : Nat) (p0 p1 : Prf) (h0 : 0 < j → ∃ q, l[j - 1]? = some q ∧ p0 = proofAt l (j - 1) q) (h0' : ¬ 0 < j → p0 = Prf.none) (h1 : j < l.length → ∃ q, l[j]? = some q ∧ p1 = proofAt l j q) (h1' : ¬ j < l.length → p1 = Prf.none) :
    gapAt l j = ⟨decide (0 < j), decide (j < l.length), p0, p1⟩ := by
  unfold gapAt
  congr 1
  · by_cases h : 0 < j
    · rw [if_pos h]
      obtain ⟨q, hq, rfl⟩ := h0 h
      rw [hq]
    · rw [if_neg h, h0' h]
  · by_cases h : j < l.length
    · obtain ⟨q, hq, rfl⟩ := h1 h
      rw [hq]
    · rw [h1' h, List.getElem?_eq_none (by omega)]
set_option maxRecDepth 100000 in
set_option maxHeartbeats 4000000 in
theorem showGapC : ShowGapC 7 := by
  intro l k sv kv N w hT hN hb hk hlen hfit hkl
  obtain ⟨oa, ca, rfl, hca⟩ := hb.shape
  obtain ⟨ob, cb, rfl, hcb⟩ := hk.shape
  obtain ⟨w0, hw0⟩ : ∃ w0, w.alloc (.cells #[.bool false, .bool false, .int .i64 0, .int .i64 0, .slice none 0 0, .slice none 0 0, .slice none 0 0, .int .i64 0, .int .i64 0, .slice none 0 0, .slice none 0 0, .slice none 0 0] 28) = w0 := ⟨_, rfl⟩
  have hsz0 : w0.heap.size = w.heap.size + 1 := by rw [← hw0]; simp
  have hb0 : Below w.heap.size w w0 := by rw [← hw0]; exact (Below.refl _ _).alloc (Nat.le_refl _) _
  have hrow0 : Row w0 w.heap.size 28 [.bool false, .bool false, .int .i64 0, .int .i64 0, .slice none 0 0, .slice none 0 0, .slice none 0 0, .int .i64 0, .int .i64 0, .slice none 0 0, .slice none 0 0, .slice none 0 0] := by rw [← hw0]; exact Row.new _ _ _
  have HWR := hid (wrongC l _ N w0 (hb.below (hb0.mono hN)) (by omega) hlen hfit)
  have HB := hid hb
  have HK := hid hk
  have HB0 := hid hb0
  have HR0 := hid hrow0
  have HT := hid hT
  obtain ⟨c, hc⟩ : ∃ c, (wrongL l).1 = c := ⟨_, rfl⟩
  obtain ⟨i, hi⟩ : ∃ i, (wrongL l).2 = i := ⟨_, rfl⟩
  rw [hc, hi] at HWR
  have HC := hid hc
  unfold faultV at HWR
  clear hb hk hb0 hrow0 hc hi hT hfit hlen hkl
  go_enter Tryd.func7, Tryd.ntmps7
  go_wp2_with fail
  refine HWR.out.mono ?_
  rintro e w1 ⟨hb1, rfl⟩
  have hsz1 := hb1.size
  obtain ⟨w2, hw2⟩ : ∃ w2, w1.alloc (.cells #[.int .i64 c, .int .i64 (i : Int)] 40) = w2 := ⟨_, rfl⟩
  have hsz2 : w2.heap.size = w1.heap.size + 1 := by rw [← hw2]; simp
  have hb12 : Below w1.heap.size w1 w2 := by rw [← hw2]; exact (Below.refl _ _).alloc (Nat.le_refl _) _
  have hb02 : Below w0.heap.size w0 w2 := hb1.trans (hb12.mono (by omega))
  have HB2 := hid hb02
  have HBW2 := hid (HB0.out.trans (hb02.mono (by omega)))
  have HR2 := hid (HR0.out.below hb02 (by omega))
  have hrf : Row w2 w1.heap.size 40 [.int .i64 c, .int .i64 (i : Int)] := by rw [← hw2]; exact Row.new _ _ _
  have f0 := hrf.cell 0
  have HRF := hid hrf
  clear hb1 hb12 hb02 HWR hrf hw0
  by_cases hc0 : c = 0
  · subst hc0
    obtain ⟨hs, hft, hl2⟩ := wrongL_sorted l HC.out
    have HFD := hid (find_any l k _ _ N w2 (by omega) (HB.out.below (HBW2.out.mono hN)) (HK.out.below (HBW2.out.mono hN)) hs (by omega))
    have HFT := hid hft
    have HL2 := hid hl2
    clear hs hft hl2
    go_wp2_with fail
    refine HFD.out.mono ?_
    rintro e w3 ⟨hb3, j, fd, hat, rfl⟩
    have hsz3 := hb3.size
    have HB3 := hid (HBW2.out.trans (hb3.mono (by omega)))
    have HR3 := hid (HR2.out.below hb3 (by omega))
    clear hb3 HFD f0 hw2
    cases fd with
    | true =>
      have HAT := hid hat
      clear hat
      obtain ⟨w4, hw4, hr4, hb4, hk4, hz4⟩ := gap_set HR3.out (.bool false) (.bool false) (.int .i64 0) (.int .i64 0) (.slice none 0 0) (.slice none 0 0) (.slice none 0 0) (.int .i64 0) (.int .i64 0) (.slice none 0 0) (.slice none 0 0) (.slice none 0 0)
      have y0 := HR3.out.cell 0
      have y1 := HR3.out.cell 1
      have y2 := HR3.out.cell 2
      have y3 := HR3.out.cell 3
      have y4 := HR3.out.cell 4
      have y5 := HR3.out.cell 5
      have y6 := HR3.out.cell 6
      have y7 := HR3.out.cell 7
      have y8 := HR3.out.cell 8
      have y9 := HR3.out.cell 9
      have y10 := HR3.out.cell 10
      have y11 := HR3.out.cell 11
      have z0 := HR3.out.frozen 0
      have z1 := HR3.out.frozen 1
      have z2 := HR3.out.frozen 2
      have z3 := HR3.out.frozen 3
      have z4 := HR3.out.frozen 4
      have z5 := HR3.out.frozen 5
      have z6 := HR3.out.frozen 6
      have z7 := HR3.out.frozen 7
      have z8 := HR3.out.frozen 8
      have z9 := HR3.out.frozen 9
      have z10 := HR3.out.frozen 10
      have z11 := HR3.out.frozen 11
      have u0 := hr4.cell 0
      have u1 := hr4.cell 1
      have u2 := hr4.cell 2
      have u3 := hr4.cell 3
      have u4 := hr4.cell 4
      have u5 := hr4.cell 5
      have u6 := hr4.cell 6
      have u7 := hr4.cell 7
      have u8 := hr4.cell 8
      have u9 := hr4.cell 9
      have u10 := hr4.cell 10
      have u11 := hr4.cell 11
      have HB4 := hid (HB3.out.trans hb4)
      clear hr4 hb4 hk4 hz4
      go_wp2_with fail
      refine bodyPost_ret (v := .tuple #[.agg #[.bool false, .bool false, .int .i64 0, .int .i64 0, .slice none 0 0, .slice none 0 0, .slice none 0 0, .int .i64 0, .int .i64 0, .slice none 0 0, .slice none 0 0, .slice none 0 0], .int .i64 7]) (by simp [results, Tryd.results7, go_sem, u0, u1, u2, u3, u4, u5, u6, u7, u8, u9, u10, u11]) rfl ⟨HB4.out, _, 7, Gp.none, rfl, ⟨_, _, _, _, _, _, rfl, .inl ⟨rfl, rfl⟩, .inl ⟨rfl, rfl⟩, .inl ⟨rfl, rfl⟩, .inl ⟨rfl, rfl⟩, .inl ⟨rfl, rfl⟩, .inl ⟨rfl, rfl⟩⟩, .inr ⟨HC.out, j, .inl ⟨HAT.out, rfl, rfl⟩⟩⟩
    | false =>
      have hjl := hat.1
      have HAT := hid hat
      obtain ⟨w4, hw4⟩ : ∃ w4, w3.alloc (.cells #[.bool false, .bool false, .int .i64 0, .int .i64 0, .slice none 0 0, .slice none 0 0, .slice none 0 0, .int .i64 0, .int .i64 0, .slice none 0 0, .slice none 0 0, .slice none 0 0] 28) = w4 := ⟨_, rfl⟩
      have hsz4 : w4.heap.size = w3.heap.size + 1 := by rw [← hw4]; simp
      have hb4 : Below w3.heap.size w3 w4 := by rw [← hw4]; exact (Below.refl _ _).alloc (Nat.le_refl _) _
      have hr4 : Row w4 w3.heap.size 28 [.bool false, .bool false, .int .i64 0, .int .i64 0, .slice none 0 0, .slice none 0 0, .slice none 0 0, .int .i64 0, .int .i64 0, .slice none 0 0, .slice none 0 0, .slice none 0 0] := by rw [← hw4]; exact Row.new _ _ _
      have HR4 := hid (HR3.out.below hb4 (by omega))
      have HG4 := hid hr4
      have HB4 := hid (HB3.out.trans (hb4.mono (by omega)))
      have HFIN := hid (show ∀ (p0 p1 : Prf) (wx wy : World) (a2 a3 a4 a7 a8 a9 : Value), (0 < j → ∃ q, l[j - 1]? = some q ∧ p0 = proofAt l (j - 1) q) → (¬ 0 < j → p0 = Prf.none) → (j < l.length → ∃ q, l[j]? = some q ∧ p1 = proofAt l j q) → (¬ j < l.length → p1 = Prf.none) → Below w.heap.size w wx → Below w.heap.size wx wy → KeepT 28 wx wy →
          OwnB wx w.heap.size a2 p0.key → OwnB wx w.heap.size a3 p0.val → OwnL wx w.heap.size a4 p0.path → OwnB wx w.heap.size a7 p1.key → OwnB wx w.heap.size a8 p1.val → OwnL wx w.heap.size a9 p1.path →
          Below w.heap.size w wy ∧ ∃ v c g, (Value.tuple #[.agg #[.bool (decide (0 < j)), .bool (decide (j < l.length)), .int .i64 p0.index, .int .i64 p0.size, a2, a3, a4, .int .i64 p1.index, .int .i64 p1.size, a7, a8, a9], .int .i64 0]) = Value.tuple #[v, .int .i64 c] ∧ GpV wy wy.heap.size v g ∧ gapB l k c g from by
        intro p0 p1 wx wy a2 a3 a4 a7 a8 a9 h0 h0' h1 h1' hbx hby hk t2 t3 t4 t7 t8 t9
        refine ⟨hbx.trans hby, _, 0, ⟨decide (0 < j), decide (j < l.length), p0, p1⟩, rfl, ⟨_, _, _, _, _, _, rfl, (show OwnB wy _ _ _ from hk.owns t2 (by decide)).bytes, (show OwnB wy _ _ _ from hk.owns t3 (by decide)).bytes, (t4.keep hk (by decide) (by decide)).lists, (show OwnB wy _ _ _ from hk.owns t7 (by decide)).bytes, (show OwnB wy _ _ _ from hk.owns t8 (by decide)).bytes, (t9.keep hk (by decide) (by decide)).lists⟩, .inr ⟨HC.out, j, .inr ⟨HAT.out, rfl, ?_⟩⟩⟩
        exact (gapAt_parts l j p0 p1 h0 h0' h1 h1').symm)
      clear hat hb4 hr4
      have HPA := hid (show ∀ (wx : World) (t : Nat), Below w.heap.size w wx → t < l.length → ∃ q, l[t]? = some q ∧ Calls Tryd.prog 16 #[.slice oa l.length ca, .int .i64 (t : Int)] wx fun e w' => Below wx.heap.size wx w' ∧ ∃ o1 n1 c1 o2 n2 c2 o3 n3 c3, e = .returned (.agg #[.int .i64 (t : Int), .int .i64 (l.length : Int), .slice o1 n1 c1, .slice o2 n2 c2, .slice o3 n3 c3]) ∧
          OwnB w' wx.heap.size (.slice o1 n1 c1) q.key ∧ OwnB w' wx.heap.size (.slice o2 n2 c2) q.val ∧ OwnL w' wx.heap.size (.slice o3 n3 c3) (proofAt l t q).path from fun wx t hx ht => by
        have hq : l[t]? = some l[t] := List.getElem?_eq_getElem ht
        have := hx.size
        exact ⟨l[t], hq, proofAt_any l t l[t] _ N wx (HT.out.past hx) (by omega) (HB.out.below (hx.mono hN)) hq HFT.out HL2.out⟩)
      generalize hL : l.length = L at *
      have HLL := hid hL
      clear hL
      by_cases hj0 : 0 < j
      · have e1 : decide ((0 : Int) < (j : Int)) = true := by simp; omega
        obtain ⟨q, hq, hcall⟩ := HPA.out w4 (j - 1) HB4.out (by omega)
        have HQ := hid hq
        have HCALL := hid hcall
        clear hq hcall
        obtain ⟨j1, hj1⟩ : ∃ j1, j - 1 = j1 := ⟨_, rfl⟩
        rw [hj1] at HCALL HQ HFIN
        have ej : (j : Int) - 1 = (j1 : Int) := by omega
        have HJ1 := hid hj1
        have EW := hid (show wrap64 (j1 : Int) = (j1 : Int) by have := HL2.out; unfold wrap64; omega)
        clear hj1
        go_wp2_with fail
        rw [EW.out]
        refine HCALL.out.mono ?_
        rintro e w5 ⟨hb5, o1, n1, c1, o2, n2, c2, o3, n3, c3, rfl, hk5, hv5, hp5⟩
        have hsz5 := hb5.size
        have hg5 := HG4.out.below hb5 (by omega)
        have hr5 := HR4.out.below hb5 (by omega)
        have y0 := hg5.cell 0
        have y1 := hg5.cell 1
        have y2 := hg5.cell 2
        have y3 := hg5.cell 3
        have y4 := hg5.cell 4
        have y5 := hg5.cell 5
        have y6 := hg5.cell 6
        have y7 := hg5.cell 7
        have y8 := hg5.cell 8
        have y9 := hg5.cell 9
        have y10 := hg5.cell 10
        have y11 := hg5.cell 11
        have z0 := hg5.frozen 0
        have z1 := hg5.frozen 1
        have z2 := hg5.frozen 2
        have z3 := hg5.frozen 3
        have z4 := hg5.frozen 4
        have z5 := hg5.frozen 5
        have z6 := hg5.frozen 6
        have z7 := hg5.frozen 7
        have z8 := hg5.frozen 8
        have z9 := hg5.frozen 9
        have z10 := hg5.frozen 10
        have z11 := hg5.frozen 11
        obtain ⟨w6, hw6, hg6, hb6, hk6, hz6⟩ := left_set hg5 (.int .i64 (j1 : Int)) (.int .i64 (L : Int)) (.slice o1 n1 c1) (.slice o2 n2 c2) (.slice o3 n3 c3)
        have HG6 := hid hg6
        have HR6 := hid (hr5.below hb6 (by omega))
        have HB6 := hid ((HB4.out.trans (hb5.mono (by omega))).trans (hb6.mono (by omega)))
        have hk5' := hk5.mono (show w.heap.size ≤ w4.heap.size by omega)
        have hv5' := hv5.mono (show w.heap.size ≤ w4.heap.size by omega)
        have HK6 := hid (show OwnB w6 _ _ _ from hk6.owns hk5' (by decide))
        have HV6 := hid (show OwnB w6 _ _ _ from hk6.owns hv5' (by decide))
        have HP6 := hid ((hp5.mono (show w.heap.size ≤ w4.heap.size by omega)).keep hk6 (by decide) (by decide))
        clear hb5 hk5 hv5 hk5' hv5' hp5 hg5 hr5 hg6 hb6 hk6 HCALL
        by_cases hjL : j < L
        · have e2 : decide ((j : Int) < (L : Int)) = true := by simp; omega
          obtain ⟨q2, hq2, hcall⟩ := HPA.out w6 j HB6.out hjL
          have HQ2 := hid hq2
          have HCALL := hid hcall
          clear hq2 hcall
          go_wp2_with fail
          refine HCALL.out.mono ?_
          rintro e w7 ⟨hb7, p1, m1, d1, p2, m2, d2, p3, m3, d3, rfl, hk7, hv7, hp7⟩
          have hsz7 := hb7.size

          have hg7 := HG6.out.below hb7 (by omega)
          have hr7 := HR6.out.below hb7 (by omega)
          have y0 := hg7.cell 0
          have y1 := hg7.cell 1
          have y2 := hg7.cell 2
          have y3 := hg7.cell 3
          have y4 := hg7.cell 4
          have y5 := hg7.cell 5
          have y6 := hg7.cell 6
          have y7 := hg7.cell 7
          have y8 := hg7.cell 8
          have y9 := hg7.cell 9
          have y10 := hg7.cell 10
          have y11 := hg7.cell 11
          have z0 := hg7.frozen 0
          have z1 := hg7.frozen 1
          have z2 := hg7.frozen 2
          have z3 := hg7.frozen 3
          have z4 := hg7.frozen 4
          have z5 := hg7.frozen 5
          have z6 := hg7.frozen 6
          have z7 := hg7.frozen 7
          have z8 := hg7.frozen 8
          have z9 := hg7.frozen 9
          have z10 := hg7.frozen 10
          have z11 := hg7.frozen 11
          obtain ⟨w8, hw8, hg8, hb8, hk8, hz8⟩ := right_set hg7 (.int .i64 (j : Int)) (.int .i64 (L : Int)) (.slice p1 m1 d1) (.slice p2 m2 d2) (.slice p3 m3 d3)
          have hr8 := hr7.below hb8 (by omega)
          have HG8 := hid hg8
          have HR8 := hid hr8
          have HB8 := hid ((HB6.out.trans (hb7.mono (by omega))).trans (hb8.mono (by omega)))
          have hk7' := hk7.mono (show w.heap.size ≤ w6.heap.size by omega)
          have hv7' := hv7.mono (show w.heap.size ≤ w6.heap.size by omega)
          have HK8 := hid (show OwnB w8 _ _ _ from hk8.owns hk7' (by decide))
          have HV8 := hid (show OwnB w8 _ _ _ from hk8.owns hv7' (by decide))
          have HP8 := hid ((hp7.mono (show w.heap.size ≤ w6.heap.size by omega)).keep hk8 (by decide) (by decide))
          have HK68 := hid (show OwnB w8 _ _ _ from hk8.owns (HK6.out.below hb7) (by decide))
          have HV68 := hid (show OwnB w8 _ _ _ from hk8.owns (HV6.out.below hb7) (by decide))
          have HP68 := hid ((HP6.out.below hb7).keep hk8 (by decide) (by decide))
          clear hb7 hk7 hv7 hk7' hv7' hp7 hg7 hr7 hg8 hb8 hk8 HCALL hr8
          have v0 := HG8.out.cell 0
          have v1 := HG8.out.cell 1
          have v2 := HG8.out.cell 2
          have v3 := HG8.out.cell 3
          have v4 := HG8.out.cell 4
          have v5 := HG8.out.cell 5
          have v6 := HG8.out.cell 6
          have v7 := HG8.out.cell 7
          have v8 := HG8.out.cell 8
          have v9 := HG8.out.cell 9
          have v10 := HG8.out.cell 10
          have v11 := HG8.out.cell 11
          have y0 := HR8.out.cell 0
          have y1 := HR8.out.cell 1
          have y2 := HR8.out.cell 2
          have y3 := HR8.out.cell 3
          have y4 := HR8.out.cell 4
          have y5 := HR8.out.cell 5
          have y6 := HR8.out.cell 6
          have y7 := HR8.out.cell 7
          have y8 := HR8.out.cell 8
          have y9 := HR8.out.cell 9
          have y10 := HR8.out.cell 10
          have y11 := HR8.out.cell 11
          have z0 := HR8.out.frozen 0
          have z1 := HR8.out.frozen 1
          have z2 := HR8.out.frozen 2
          have z3 := HR8.out.frozen 3
          have z4 := HR8.out.frozen 4
          have z5 := HR8.out.frozen 5
          have z6 := HR8.out.frozen 6
          have z7 := HR8.out.frozen 7
          have z8 := HR8.out.frozen 8
          have z9 := HR8.out.frozen 9
          have z10 := HR8.out.frozen 10
          have z11 := HR8.out.frozen 11
          obtain ⟨w9, hwy, hry, hby, hky, hzy⟩ := gap_set HR8.out (.bool true) (.bool true) (.int .i64 (j1 : Int)) (.int .i64 (L : Int)) (.slice o1 n1 c1) (.slice o2 n2 c2) (.slice o3 n3 c3) (.int .i64 (j : Int)) (.int .i64 (L : Int)) (.slice p1 m1 d1) (.slice p2 m2 d2) (.slice p3 m3 d3)
          have u0 := hry.cell 0
          have u1 := hry.cell 1
          have u2 := hry.cell 2
          have u3 := hry.cell 3
          have u4 := hry.cell 4
          have u5 := hry.cell 5
          have u6 := hry.cell 6
          have u7 := hry.cell 7
          have u8 := hry.cell 8
          have u9 := hry.cell 9
          have u10 := hry.cell 10
          have u11 := hry.cell 11
          have hf := HFIN.out (proofAt l j1 q) (proofAt l j q2) w8 w9 (.slice o1 n1 c1) (.slice o2 n2 c2) (.slice o3 n3 c3) (.slice p1 m1 d1) (.slice p2 m2 d2) (.slice p3 m3 d3) (fun _ => ⟨q, HQ.out, rfl⟩) (fun h => absurd hj0 h) (fun _ => ⟨q2, HQ2.out, rfl⟩) (fun h => absurd hjL h) HB8.out hby hky (HK68.out) (HV68.out) (HP68.out) (HK8.out) (HV8.out) (HP8.out)
          rw [decide_eq_true hj0, decide_eq_true hjL] at hf
          have HF := hid hf
          clear hry hby hky hzy hf
          go_wp2_with fail
          obtain ⟨hbf, vf, cf, gf, he, hg, hgb⟩ := HF.out
          refine bodyPost_ret (v := .tuple #[.agg #[.bool true, .bool true, .int .i64 (j1 : Int), .int .i64 (L : Int), .slice o1 n1 c1, .slice o2 n2 c2, .slice o3 n3 c3, .int .i64 (j : Int), .int .i64 (L : Int), .slice p1 m1 d1, .slice p2 m2 d2, .slice p3 m3 d3], .int .i64 0]) (by simp [results, Tryd.results7, go_sem, u0, u1, u2, u3, u4, u5, u6, u7, u8, u9, u10, u11]) rfl ⟨hbf, vf, cf, gf, congrArg Ending.returned (Eq.trans ?_ he), hg, hgb⟩
          simp [proofAt, HLL.out]
        · have e2 : decide ((j : Int) < (L : Int)) = false := by simp; omega
          have v0 := HG6.out.cell 0
          have v1 := HG6.out.cell 1
          have v2 := HG6.out.cell 2
          have v3 := HG6.out.cell 3
          have v4 := HG6.out.cell 4
          have v5 := HG6.out.cell 5
          have v6 := HG6.out.cell 6
          have v7 := HG6.out.cell 7
          have v8 := HG6.out.cell 8
          have v9 := HG6.out.cell 9
          have v10 := HG6.out.cell 10
          have v11 := HG6.out.cell 11
          have y0 := HR6.out.cell 0
          have y1 := HR6.out.cell 1
          have y2 := HR6.out.cell 2
          have y3 := HR6.out.cell 3
          have y4 := HR6.out.cell 4
          have y5 := HR6.out.cell 5
          have y6 := HR6.out.cell 6
          have y7 := HR6.out.cell 7
          have y8 := HR6.out.cell 8
          have y9 := HR6.out.cell 9
          have y10 := HR6.out.cell 10
          have y11 := HR6.out.cell 11
          have z0 := HR6.out.frozen 0
          have z1 := HR6.out.frozen 1
          have z2 := HR6.out.frozen 2
          have z3 := HR6.out.frozen 3
          have z4 := HR6.out.frozen 4
          have z5 := HR6.out.frozen 5
          have z6 := HR6.out.frozen 6
          have z7 := HR6.out.frozen 7
          have z8 := HR6.out.frozen 8
          have z9 := HR6.out.frozen 9
          have z10 := HR6.out.frozen 10
          have z11 := HR6.out.frozen 11
          obtain ⟨w9, hwy, hry, hby, hky, hzy⟩ := gap_set HR6.out (.bool true) (.bool false) (.int .i64 (j1 : Int)) (.int .i64 (L : Int)) (.slice o1 n1 c1) (.slice o2 n2 c2) (.slice o3 n3 c3) (.int .i64 0) (.int .i64 0) (.slice none 0 0) (.slice none 0 0) (.slice none 0 0)
          have u0 := hry.cell 0
          have u1 := hry.cell 1
          have u2 := hry.cell 2
          have u3 := hry.cell 3
          have u4 := hry.cell 4
          have u5 := hry.cell 5
          have u6 := hry.cell 6
          have u7 := hry.cell 7
          have u8 := hry.cell 8
          have u9 := hry.cell 9
          have u10 := hry.cell 10
          have u11 := hry.cell 11
          have hf := HFIN.out (proofAt l j1 q) (Prf.none) w6 w9 (.slice o1 n1 c1) (.slice o2 n2 c2) (.slice o3 n3 c3) (.slice none 0 0) (.slice none 0 0) (.slice none 0 0) (fun _ => ⟨q, HQ.out, rfl⟩) (fun h => absurd hj0 h) (fun h => absurd h hjL) (fun _ => rfl) HB6.out hby hky (HK6.out) (HV6.out) (HP6.out) (OwnB.nil _ _) (OwnB.nil _ _) (OwnL.nil _ _)
          rw [decide_eq_true hj0, decide_eq_false hjL] at hf
          have HF := hid hf
          clear hry hby hky hzy hf
          go_wp2_with fail
          obtain ⟨hbf, vf, cf, gf, he, hg, hgb⟩ := HF.out
          refine bodyPost_ret (v := .tuple #[.agg #[.bool true, .bool false, .int .i64 (j1 : Int), .int .i64 (L : Int), .slice o1 n1 c1, .slice o2 n2 c2, .slice o3 n3 c3, .int .i64 0, .int .i64 0, .slice none 0 0, .slice none 0 0, .slice none 0 0], .int .i64 0]) (by simp [results, Tryd.results7, go_sem, u0, u1, u2, u3, u4, u5, u6, u7, u8, u9, u10, u11]) rfl ⟨hbf, vf, cf, gf, congrArg Ending.returned (Eq.trans ?_ he), hg, hgb⟩
          simp [proofAt, Prf.none, HLL.out]
      · have e1 : decide ((0 : Int) < (j : Int)) = false := by simp; omega
        by_cases hjL : j < L
        · have e2 : decide ((j : Int) < (L : Int)) = true := by simp; omega
          obtain ⟨q2, hq2, hcall⟩ := HPA.out w4 j HB4.out hjL
          have HQ2 := hid hq2
          have HCALL := hid hcall
          clear hq2 hcall
          go_wp2_with fail
          refine HCALL.out.mono ?_
          rintro e w5 ⟨hb5, p1, m1, d1, p2, m2, d2, p3, m3, d3, rfl, hk5, hv5, hp5⟩
          have hsz5 := hb5.size
          have hg5 := HG4.out.below hb5 (by omega)
          have hr5 := HR4.out.below hb5 (by omega)
          have y0 := hg5.cell 0
          have y1 := hg5.cell 1
          have y2 := hg5.cell 2
          have y3 := hg5.cell 3
          have y4 := hg5.cell 4
          have y5 := hg5.cell 5
          have y6 := hg5.cell 6
          have y7 := hg5.cell 7
          have y8 := hg5.cell 8
          have y9 := hg5.cell 9
          have y10 := hg5.cell 10
          have y11 := hg5.cell 11
          have z0 := hg5.frozen 0
          have z1 := hg5.frozen 1
          have z2 := hg5.frozen 2
          have z3 := hg5.frozen 3
          have z4 := hg5.frozen 4
          have z5 := hg5.frozen 5
          have z6 := hg5.frozen 6
          have z7 := hg5.frozen 7
          have z8 := hg5.frozen 8
          have z9 := hg5.frozen 9
          have z10 := hg5.frozen 10
          have z11 := hg5.frozen 11
          obtain ⟨w6, hw6, hg6, hb6, hk6, hz6⟩ := right_set hg5 (.int .i64 (j : Int)) (.int .i64 (L : Int)) (.slice p1 m1 d1) (.slice p2 m2 d2) (.slice p3 m3 d3)
          have HG6 := hid hg6
          have HR6 := hid (hr5.below hb6 (by omega))
          have HB6 := hid ((HB4.out.trans (hb5.mono (by omega))).trans (hb6.mono (by omega)))
          have hk5' := hk5.mono (show w.heap.size ≤ w4.heap.size by omega)
          have hv5' := hv5.mono (show w.heap.size ≤ w4.heap.size by omega)
          have HK6 := hid (show OwnB w6 _ _ _ from hk6.owns hk5' (by decide))
          have HV6 := hid (show OwnB w6 _ _ _ from hk6.owns hv5' (by decide))
          have HP6 := hid ((hp5.mono (show w.heap.size ≤ w4.heap.size by omega)).keep hk6 (by decide) (by decide))
          clear hb5 hk5 hv5 hk5' hv5' hp5 hg5 hr5 hg6 hb6 hk6 HCALL
          have v0 := HG6.out.cell 0
          have v1 := HG6.out.cell 1
          have v2 := HG6.out.cell 2
          have v3 := HG6.out.cell 3
          have v4 := HG6.out.cell 4
          have v5 := HG6.out.cell 5
          have v6 := HG6.out.cell 6
          have v7 := HG6.out.cell 7
          have v8 := HG6.out.cell 8
          have v9 := HG6.out.cell 9
          have v10 := HG6.out.cell 10
          have v11 := HG6.out.cell 11
          have y0 := HR6.out.cell 0
          have y1 := HR6.out.cell 1
          have y2 := HR6.out.cell 2
          have y3 := HR6.out.cell 3
          have y4 := HR6.out.cell 4
          have y5 := HR6.out.cell 5
          have y6 := HR6.out.cell 6
          have y7 := HR6.out.cell 7
          have y8 := HR6.out.cell 8
          have y9 := HR6.out.cell 9
          have y10 := HR6.out.cell 10
          have y11 := HR6.out.cell 11
          have z0 := HR6.out.frozen 0
          have z1 := HR6.out.frozen 1
          have z2 := HR6.out.frozen 2
          have z3 := HR6.out.frozen 3
          have z4 := HR6.out.frozen 4
          have z5 := HR6.out.frozen 5
          have z6 := HR6.out.frozen 6
          have z7 := HR6.out.frozen 7
          have z8 := HR6.out.frozen 8
          have z9 := HR6.out.frozen 9
          have z10 := HR6.out.frozen 10
          have z11 := HR6.out.frozen 11
          obtain ⟨w9, hwy, hry, hby, hky, hzy⟩ := gap_set HR6.out (.bool false) (.bool true) (.int .i64 0) (.int .i64 0) (.slice none 0 0) (.slice none 0 0) (.slice none 0 0) (.int .i64 (j : Int)) (.int .i64 (L : Int)) (.slice p1 m1 d1) (.slice p2 m2 d2) (.slice p3 m3 d3)
          have u0 := hry.cell 0
          have u1 := hry.cell 1
          have u2 := hry.cell 2
          have u3 := hry.cell 3
          have u4 := hry.cell 4
          have u5 := hry.cell 5
          have u6 := hry.cell 6
          have u7 := hry.cell 7
          have u8 := hry.cell 8
          have u9 := hry.cell 9
          have u10 := hry.cell 10
          have u11 := hry.cell 11
          have hf := HFIN.out (Prf.none) (proofAt l j q2) w6 w9 (.slice none 0 0) (.slice none 0 0) (.slice none 0 0) (.slice p1 m1 d1) (.slice p2 m2 d2) (.slice p3 m3 d3) (fun h => absurd h hj0) (fun _ => rfl) (fun _ => ⟨q2, HQ2.out, rfl⟩) (fun h => absurd hjL h) HB6.out hby hky (OwnB.nil _ _) (OwnB.nil _ _) (OwnL.nil _ _) (HK6.out) (HV6.out) (HP6.out)
          rw [decide_eq_false hj0, decide_eq_true hjL] at hf
          have HF := hid hf
          clear hry hby hky hzy hf
          go_wp2_with fail
          obtain ⟨hbf, vf, cf, gf, he, hg, hgb⟩ := HF.out
          refine bodyPost_ret (v := .tuple #[.agg #[.bool false, .bool true, .int .i64 0, .int .i64 0, .slice none 0 0, .slice none 0 0, .slice none 0 0, .int .i64 (j : Int), .int .i64 (L : Int), .slice p1 m1 d1, .slice p2 m2 d2, .slice p3 m3 d3], .int .i64 0]) (by simp [results, Tryd.results7, go_sem, u0, u1, u2, u3, u4, u5, u6, u7, u8, u9, u10, u11]) rfl ⟨hbf, vf, cf, gf, congrArg Ending.returned (Eq.trans ?_ he), hg, hgb⟩
          simp [proofAt, Prf.none, HLL.out]
        · have e2 : decide ((j : Int) < (L : Int)) = false := by simp; omega
          have v0 := HG4.out.cell 0
          have v1 := HG4.out.cell 1
          have v2 := HG4.out.cell 2
          have v3 := HG4.out.cell 3
          have v4 := HG4.out.cell 4
          have v5 := HG4.out.cell 5
          have v6 := HG4.out.cell 6
          have v7 := HG4.out.cell 7
          have v8 := HG4.out.cell 8
          have v9 := HG4.out.cell 9
          have v10 := HG4.out.cell 10
          have v11 := HG4.out.cell 11
          have y0 := HR4.out.cell 0
          have y1 := HR4.out.cell 1
          have y2 := HR4.out.cell 2
          have y3 := HR4.out.cell 3
          have y4 := HR4.out.cell 4
          have y5 := HR4.out.cell 5
          have y6 := HR4.out.cell 6
          have y7 := HR4.out.cell 7
          have y8 := HR4.out.cell 8
          have y9 := HR4.out.cell 9
          have y10 := HR4.out.cell 10
          have y11 := HR4.out.cell 11
          have z0 := HR4.out.frozen 0
          have z1 := HR4.out.frozen 1
          have z2 := HR4.out.frozen 2
          have z3 := HR4.out.frozen 3
          have z4 := HR4.out.frozen 4
          have z5 := HR4.out.frozen 5
          have z6 := HR4.out.frozen 6
          have z7 := HR4.out.frozen 7
          have z8 := HR4.out.frozen 8
          have z9 := HR4.out.frozen 9
          have z10 := HR4.out.frozen 10
          have z11 := HR4.out.frozen 11
          obtain ⟨w9, hwy, hry, hby, hky, hzy⟩ := gap_set HR4.out (.bool false) (.bool false) (.int .i64 0) (.int .i64 0) (.slice none 0 0) (.slice none 0 0) (.slice none 0 0) (.int .i64 0) (.int .i64 0) (.slice none 0 0) (.slice none 0 0) (.slice none 0 0)
          have u0 := hry.cell 0
          have u1 := hry.cell 1
          have u2 := hry.cell 2
          have u3 := hry.cell 3
          have u4 := hry.cell 4
          have u5 := hry.cell 5
          have u6 := hry.cell 6
          have u7 := hry.cell 7
          have u8 := hry.cell 8
          have u9 := hry.cell 9
          have u10 := hry.cell 10
          have u11 := hry.cell 11
          have hf := HFIN.out (Prf.none) (Prf.none) w4 w9 (.slice none 0 0) (.slice none 0 0) (.slice none 0 0) (.slice none 0 0) (.slice none 0 0) (.slice none 0 0) (fun h => absurd h hj0) (fun _ => rfl) (fun h => absurd h hjL) (fun _ => rfl) HB4.out hby hky (OwnB.nil _ _) (OwnB.nil _ _) (OwnL.nil _ _) (OwnB.nil _ _) (OwnB.nil _ _) (OwnL.nil _ _)
          rw [decide_eq_false hj0, decide_eq_false hjL] at hf
          have HF := hid hf
          clear hry hby hky hzy hf
          go_wp2_with fail
          obtain ⟨hbf, vf, cf, gf, he, hg, hgb⟩ := HF.out
          refine bodyPost_ret (v := .tuple #[.agg #[.bool false, .bool false, .int .i64 0, .int .i64 0, .slice none 0 0, .slice none 0 0, .slice none 0 0, .int .i64 0, .int .i64 0, .slice none 0 0, .slice none 0 0, .slice none 0 0], .int .i64 0]) (by simp [results, Tryd.results7, go_sem, u0, u1, u2, u3, u4, u5, u6, u7, u8, u9, u10, u11]) rfl ⟨hbf, vf, cf, gf, congrArg Ending.returned (Eq.trans ?_ he), hg, hgb⟩
          simp [Prf.none]
  · have e1 : (c != 0) = true := by simpa using hc0
    obtain ⟨w4, hw4, hr4, hb4, hk4, hz4⟩ := gap_set HR2.out (.bool false) (.bool false) (.int .i64 0) (.int .i64 0) (.slice none 0 0) (.slice none 0 0) (.slice none 0 0) (.int .i64 0) (.int .i64 0) (.slice none 0 0) (.slice none 0 0) (.slice none 0 0)
    have y0 := HR2.out.cell 0
    have y1 := HR2.out.cell 1
    have y2 := HR2.out.cell 2
    have y3 := HR2.out.cell 3
    have y4 := HR2.out.cell 4
    have y5 := HR2.out.cell 5
    have y6 := HR2.out.cell 6
    have y7 := HR2.out.cell 7
    have y8 := HR2.out.cell 8
    have y9 := HR2.out.cell 9
    have y10 := HR2.out.cell 10
    have y11 := HR2.out.cell 11
    have z0 := HR2.out.frozen 0
    have z1 := HR2.out.frozen 1
    have z2 := HR2.out.frozen 2
    have z3 := HR2.out.frozen 3
    have z4 := HR2.out.frozen 4
    have z5 := HR2.out.frozen 5
    have z6 := HR2.out.frozen 6
    have z7 := HR2.out.frozen 7
    have z8 := HR2.out.frozen 8
    have z9 := HR2.out.frozen 9
    have z10 := HR2.out.frozen 10
    have z11 := HR2.out.frozen 11
    have u0 := hr4.cell 0
    have u1 := hr4.cell 1
    have u2 := hr4.cell 2
    have u3 := hr4.cell 3
    have u4 := hr4.cell 4
    have u5 := hr4.cell 5
    have u6 := hr4.cell 6
    have u7 := hr4.cell 7
    have u8 := hr4.cell 8
    have u9 := hr4.cell 9
    have u10 := hr4.cell 10
    have u11 := hr4.cell 11
    have f4 := (hk4.row HRF.out (by decide)).cell 0
    have HB4 := hid (HBW2.out.trans hb4)
    clear hr4 hb4 hk4 hz4
    go_wp2_with fail
    go_region
    go_wp2_with fail
    refine bodyPost_ret (v := .tuple #[.agg #[.bool false, .bool false, .int .i64 0, .int .i64 0, .slice none 0 0, .slice none 0 0, .slice none 0 0, .int .i64 0, .int .i64 0, .slice none 0 0, .slice none 0 0, .slice none 0 0], .int .i64 c]) (by simp [results, Tryd.results7, go_sem, u0, u1, u2, u3, u4, u5, u6, u7, u8, u9, u10, u11]) rfl ⟨HB4.out.drew, _, c, Gp.none, rfl, ⟨_, _, _, _, _, _, rfl, .inl ⟨rfl, rfl⟩, .inl ⟨rfl, rfl⟩, .inl ⟨rfl, rfl⟩, .inl ⟨rfl, rfl⟩, .inl ⟨rfl, rfl⟩, .inl ⟨rfl, rfl⟩⟩, .inl ⟨by rw [HC.out]; exact hc0, HC.out.symm, rfl⟩⟩
end Go.Proofs.YtjfhhlgblmjonaaDoor
