/-
  alive of chapter 5 answers true, given what package book's Root and package proof's Show and Shown answer, and turns nothing that was there.
-/
import Derived.Test.YtdlcjhigmdgbcaaDoorProofFace
import Derived.Test.YtdlcjhigmdgbcaaDoorBookTree
import Derived.Test.YtdlcjhigmdgbcaaDoorConstB
import Derived.Deep.QuietTactic
import Derived.BigQuiet
namespace Go.Proofs.YtdlcjhigmdgbcaaDoor
open Go.RowKit

def lP5 : List Pr := [⟨[97], [49]⟩, ⟨[98], [50]⟩]
theorem wrong_lP5 : wrongL lP5 = (0, 0) := rfl
theorem sorted_lP5 : Sorted lP5 := (wrongL_sorted lP5 (by rw [wrong_lP5])).1
theorem fits_lP5 : Fits lP5 := (wrongL_sorted lP5 (by rw [wrong_lP5])).2.1
theorem edit_al : topD 2 (nodeD (leafD [97] [49]) (leafD [98] [51])) ≠ topD 2 (nodeD (leafD [97] [49]) (leafD [98] [50])) := by decide +kernel
theorem root_lP5 : rootD lP5 = topD 2 (nodeD (leafD [97] [49]) (leafD [98] [50])) := by
  unfold rootD
  rw [treeD_more lP5 (by simp [lP5]), show halfN lP5.length = 1 from rfl, show lP5.take 1 = [⟨[97], [49]⟩] from rfl, show lP5.drop 1 = [⟨[98], [50]⟩] from rfl, treeD_one, treeD_one]
  rfl
def pP5 : Prf := proofAt lP5 1 ⟨[98], [50]⟩
theorem show_lP5 (c : Int) (p : Prf) (h : showB lP5 [98] c p) : c = 0 ∧ p = pP5 := by
  rcases h with ⟨h, _⟩ | ⟨_, i, ⟨h, _⟩ | ⟨h1, h2, q, h3, h4⟩⟩
  · exact absurd rfl h
  · have := h.get_not sorted_lP5
    cases this
  · obtain ⟨q', hq', hk'⟩ := h1.found
    match i, h3, hq' with
    | 0, _, hq' =>
      obtain rfl : (⟨[97], [49]⟩ : Pr) = q' := by simpa [lP5] using hq'
      exact absurd hk' (by decide)
    | 1, h3, _ =>
      obtain rfl : (⟨[98], [50]⟩ : Pr) = q := by simpa [lP5] using h3
      exact ⟨h2, h4⟩
    | i + 2, h3, _ => simp [lP5] at h3
theorem path_pP5 : pP5.path = [leafD [97] [49]] := by
  unfold pP5 proofAt
  simp only
  rw [show lP5.length = 2 from rfl, wayL_right 1 2 0 (by decide) (by decide), wayL_one _ _ _ (by decide), List.map_cons, List.map_nil, List.reverse_singleton]
  unfold sideD
  simp only
  rw [show (lP5.drop 0).take (halfN 2) = [⟨[97], [49]⟩] from rfl, treeD_one]
theorem not_shown_P5 : ¬ shownB (rootD lP5) ⟨pP5.index, pP5.size, pP5.key, [51], pP5.path⟩ := by
  rintro ⟨_, _, _, _, _, _, _, _, h⟩
  simp only at h
  rw [path_pP5, show pP5.index.toNat = 1 from rfl, show pP5.size.toNat = 2 from rfl, show pP5.key = [98] from rfl, wayL_right 1 2 0 (by decide) (by decide), wayL_one _ _ _ (by decide), List.reverse_singleton, upD, if_pos rfl, upD, root_lP5] at h
  · exact edit_al h
  · simp
theorem shown_P5 : shownB (rootD lP5) pP5 := shown_at lP5 1 ⟨[98], [50]⟩ rfl fits_lP5 (by simp [lP5])
theorem fits_P5 : pP5.fits := proofAt_fits lP5 1 ⟨[98], [50]⟩ rfl fits_lP5 (by simp [lP5])
theorem fits_P5e : (⟨pP5.index, pP5.size, pP5.key, [51], pP5.path⟩ : Prf).fits := ⟨fits_P5.1, by simp, fits_P5.2.2⟩
/-- a proof's row holds no letters: what is read elsewhere stays -/
theorem Bytes.setP {w : World} {g N n m k n' m' k' : Nat} {o o' o'' : Option Addr} {t : TypeId} {a c : Int} {sv : Value} {l : List (BitVec 8)} (h : Bytes w N sv l) (hr : Row w g t [.int .i64 a, .int .i64 c, .slice o n n', .slice o' m m', .slice o'' k k']) (x : Value) :
    Bytes (w.setCell ⟨g, 3, none⟩ x) N sv l := by
  rcases h with h | h | ⟨b, off, cap, h1, h2, h3⟩
  · exact .inl h
  · exact .inr (.inl h)
  · refine .inr (.inr ⟨b, off, cap, h1, h2, fun i hi => ⟨(h3 i hi).1, ?_⟩⟩)
    have hc := (h3 i hi).2
    have hbg : b ≠ g := by
      rintro rfl
      rw [hr.cell] at hc
      match off + i, hc with
      | 0, hc => simp at hc
      | 1, hc => simp at hc
      | 2, hc => simp at hc
      | 3, hc => simp at hc
      | 4, hc => simp at hc
      | j + 5, hc => simp at hc
    rw [← hc]
    exact World.cell?_of_block (by rw [heap_setCell_other _ _ _ _ (show b ≠ g from hbg)])
set_option maxRecDepth 100000 in
set_option maxHeartbeats 4000000 in
theorem aliveC5 (HRC : RootC 10) (HWC : ShowC 12) (HSC : ShownC 14) : AliveC 9 := by
  intro w hK
  have hcv := conv_constB
  obtain ⟨w1, hw1⟩ : ∃ w1, w.alloc (.cells #[Value.int .u8 97] 5 (1, 2)) = w1 := ⟨_, rfl⟩
  obtain ⟨s1, b1, x1⟩ := one_newB w 97 _ rfl w1 hw1
  obtain ⟨w2, hw2⟩ : ∃ w2, w1.alloc (.cells #[Value.int .u8 49] 5 (1, 2)) = w2 := ⟨_, rfl⟩
  obtain ⟨s2, b2, x2⟩ := one_newB w1 49 _ rfl w2 hw2
  obtain ⟨w3, hw3⟩ : ∃ w3, w2.alloc (.cells #[Value.int .u8 98] 5 (1, 2)) = w3 := ⟨_, rfl⟩
  obtain ⟨s3, b3, x3⟩ := one_newB w2 98 _ rfl w3 hw3
  obtain ⟨w4, hw4⟩ : ∃ w4, w3.alloc (.cells #[Value.int .u8 50] 5 (1, 2)) = w4 := ⟨_, rfl⟩
  obtain ⟨s4, b4, x4⟩ := one_newB w3 50 _ rfl w4 hw4
  obtain ⟨w5, hw5⟩ : ∃ w5, w4.alloc (.cells #[.slice (some ⟨w.heap.size, 0, none⟩) 1 1, .slice (some ⟨w1.heap.size, 0, none⟩) 1 1, .slice (some ⟨w2.heap.size, 0, none⟩) 1 1, .slice (some ⟨w3.heap.size, 0, none⟩) 1 1] 49) = w5 := ⟨_, rfl⟩
  have s5 : w5.heap.size = w4.heap.size + 1 := by rw [← hw5]; simp
  have b5 : Below w4.heap.size w4 w5 := by rw [← hw5]; exact (Below.refl _ _).alloc (Nat.le_refl _) _
  have r5 : Row w5 w4.heap.size 49 [.slice (some ⟨w.heap.size, 0, none⟩) 1 1, .slice (some ⟨w1.heap.size, 0, none⟩) 1 1, .slice (some ⟨w2.heap.size, 0, none⟩) 1 1, .slice (some ⟨w3.heap.size, 0, none⟩) 1 1] := by rw [← hw5]; exact Row.new _ _ _
  have b35 : Below w3.heap.size w3 w5 := b4.trans (b5.mono (by omega))
  have b25 : Below w2.heap.size w2 w5 := b3.trans (b35.mono (by omega))
  have b15 : Below w1.heap.size w1 w5 := b2.trans (b25.mono (by omega))
  have b05 : Below w.heap.size w w5 := b1.trans (b15.mono (by omega))
  have hd : Pairs w5 w5.heap.size (.slice (some ⟨w4.heap.size, 0, none⟩) 2 2) lP5 := by
    refine .inr (.inr ⟨w4.heap.size, 0, 2, rfl, by simp [lP5], fun i d hd => ⟨by omega, ?_⟩⟩)
    match i, hd with
    | 0, hd =>
      obtain rfl : (⟨[97], [49]⟩ : Pr) = d := by simpa [lP5] using hd
      exact ⟨_, _, r5.cell 0, r5.cell 1, (x1.below b15).mono (by omega), (x2.below b25).mono (by omega)⟩
    | 1, hd =>
      obtain rfl : (⟨[98], [50]⟩ : Pr) = d := by simpa [lP5] using hd
      exact ⟨_, _, r5.cell 2, r5.cell 3, (x3.below b35).mono (by omega), (x4.below b5).mono (by omega)⟩
    | i + 2, hd => simp [lP5] at hd
  have HFL := hid (fits_of fits_lP5)
  have HC1 := hid (HRC lP5 _ w5.heap.size w5 (hK.past b05) hd (Nat.le_refl _) (by simp [lP5]) HFL.out)
  rw [wrong_lP5] at HC1
  unfold faultV at HC1
  have HB5 := hid b05
  have HK := hid hK
  have HD := hid hd
  have HW := hid (show ShowC 12 from HWC)
  have HS := hid (show ShownC 14 from HSC)
  have HZ := hid (show w.heap.size ≤ w5.heap.size by omega)
  clear x1 x2 x3 x4 b1 b2 b3 b4 b5 b35 b25 b15 b05 r5 hd hK HRC HWC HSC s1 s2 s3 s4 s5
  go_enter Tryd.func9, Tryd.ntmps9
  go_wp2_with fail
  refine HC1.out.mono ?_
  rintro e w6 ⟨hb6, o6, n6, c6, rfl, hx6⟩
  have hsz6 := hb6.size
  obtain ⟨w7, hw7⟩ : ∃ w7, w6.alloc (.cells #[.int .i64 0, .int .i64 0] 27) = w7 := ⟨_, rfl⟩
  have hsz7 : w7.heap.size = w6.heap.size + 1 := by rw [← hw7]; simp
  have hb67 : Below w6.heap.size w6 w7 := by rw [← hw7]; exact (Below.refl _ _).alloc (Nat.le_refl _) _
  obtain ⟨w8, hw8⟩ : ∃ w8, w7.alloc (.cells #[Value.int .u8 98] 5 (1, 2)) = w8 := ⟨_, rfl⟩
  obtain ⟨s8, b8', x8⟩ := one_newB w7 98 _ rfl w8 hw8
  have hb68 : Below w6.heap.size w6 w8 := hb67.trans (b8'.mono (by omega))
  have hb58 : Below w5.heap.size w5 w8 := hb6.trans (hb68.mono (by omega))
  have HR8 := hid ((show Row w7 w6.heap.size 27 [.int .i64 0, .int .i64 0] by rw [← hw7]; exact Row.new _ _ _).below b8' (by omega))
  have HB8 := hid (HB5.out.trans (hb58.mono HZ.out))
  have HX8 := hid (hx6.below hb68)
  have HSW := hid (HW.out lP5 [98] (.slice (some ⟨w4.heap.size, 0, none⟩) 2 2) (.slice (some ⟨w7.heap.size, 0, none⟩) 1 1) w8.heap.size w8 (HK.out.past HB8.out) (Nat.le_refl _) ((HD.out.below hb58).mono hb58.size) x8 (by simp [lP5]) HFL.out (by simp))
  rw [hsz7] at HSW
  have hcv7 : ∀ (C : Array Value) (n c : Nat), (convert 23 23 (.slice (some ⟨w6.heap.size + 1, 0, none⟩) n c)).run Tryd.prog ((w6.alloc (.cells #[.int .i64 0, .int .i64 0] 27)).alloc (.cells C 5)) = .ok (.slice (some ⟨w6.heap.size + 1, 0, none⟩) n c) ((w6.alloc (.cells #[.int .i64 0, .int .i64 0] 27)).alloc (.cells C 5 (C.size, C.size + 1))) := fun C n c => by
    have h := conv_constB (w6.alloc (.cells #[.int .i64 0, .int .i64 0] 27)) C n c
    rw [show (w6.alloc (.cells #[.int .i64 0, .int .i64 0] 27)).heap.size = w6.heap.size + 1 by simp] at h
    exact h
  have HW7 := hid hw7
  have HW8 := hid hw8
  clear hb6 hb67 hb68 hb58 hx6 b8' x8 HC1 hw1 hw2 hw3 hw4 hw5 hw7 hw8
  go_wp2_with fail
  rw [HW7.out, HW8.out]
  refine HSW.out.mono ?_
  rintro e w9 ⟨hb9, k9, v9, p9, c, p, rfl, hpk, hpv, hpp, hsb⟩
  have hsz9 := hb9.size
  obtain ⟨rfl, rfl⟩ := show_lP5 c p hsb
  obtain ⟨ok, ck, rfl, _⟩ := hpk.shape
  obtain ⟨ov, cv, rfl, _⟩ := hpv.shape
  obtain ⟨op, cp, rfl, _⟩ := hpp.shape
  obtain ⟨w10, hw10⟩ : ∃ w10, w9.alloc (.cells #[.int .i64 pP5.index, .int .i64 pP5.size, .slice ok pP5.key.length ck, .slice ov pP5.val.length cv, .slice op pP5.path.length cp] 34) = w10 := ⟨_, rfl⟩
  have hsz10 : w10.heap.size = w9.heap.size + 1 := by rw [← hw10]; simp
  have hb910 : Below w9.heap.size w9 w10 := by rw [← hw10]; exact (Below.refl _ _).alloc (Nat.le_refl _) _
  have hr10 : Row w10 w9.heap.size 34 [.int .i64 pP5.index, .int .i64 pP5.size, .slice ok pP5.key.length ck, .slice ov pP5.val.length cv, .slice op pP5.path.length cp] := by rw [← hw10]; exact Row.new _ _ _
  obtain ⟨w11, hw11⟩ : ∃ w11, w10.alloc (.cells #[.int .i64 pP5.index, .int .i64 pP5.size, .slice ok pP5.key.length ck, .slice ov pP5.val.length cv, .slice op pP5.path.length cp] 34) = w11 := ⟨_, rfl⟩
  have hsz11 : w11.heap.size = w9.heap.size + 1 + 1 := by rw [← hw11]; simp [hsz10]
  have hb1011 : Below w10.heap.size w10 w11 := by rw [← hw11]; exact (Below.refl _ _).alloc (Nat.le_refl _) _
  have hr11 : Row w11 (w9.heap.size + 1) 34 [.int .i64 pP5.index, .int .i64 pP5.size, .slice ok pP5.key.length ck, .slice ov pP5.val.length cv, .slice op pP5.path.length cp] := by rw [← hw11, ← hsz10]; exact Row.new _ _ _
  obtain ⟨w12, hw12⟩ : ∃ w12, w11.alloc (.cells #[Value.int .u8 51] 5 (1, 2)) = w12 := ⟨_, rfl⟩
  obtain ⟨s12, b12, x12⟩ := one_newB w11 51 _ rfl w12 hw12
  rw [hsz11] at x12 s12
  have hr12 := hr11.below b12 (by omega)
  obtain ⟨w13, hw13⟩ : ∃ w13, w12.setCell ⟨w9.heap.size + 1, 3, none⟩ (.slice (some ⟨w9.heap.size + 1 + 1, 0, none⟩) 1 1) = w13 := ⟨_, rfl⟩
  have hsz13 : w13.heap.size = w12.heap.size := by rw [← hw13]; simp [World.setCell]
  have hr13 : Row w13 (w9.heap.size + 1) 34 [.int .i64 pP5.index, .int .i64 pP5.size, .slice ok pP5.key.length ck, .slice (some ⟨w9.heap.size + 1 + 1, 0, none⟩) 1 1, .slice op pP5.path.length cp] := by rw [← hw13]; exact hr12.set 3 _
  have hb1013 : Below w10.heap.size w10 w13 := by
    rw [← hw13]
    exact (hb1011.trans (b12.mono (by omega))).setCell (show w10.heap.size ≤ w9.heap.size + 1 by omega) _
  have hb913 : Below w9.heap.size w9 w13 := hb910.trans (hb1013.mono (by omega))
  have hp13 := hr10.below hb1013 (by omega)
  have HB13 := hid (HB8.out.trans ((hb9.trans (hb913.mono (by omega))).mono HB8.out.size))
  have HX13 := hid (HX8.out.below ((hb9.trans (hb913.mono (by omega))).mono (by omega)))
  have HF13 := hid (HR8.out.below (hb9.trans (hb913.mono (by omega))) (by omega))
  have HPV13 := hid (hpv.below hb913)
  have HPK13 := hid (hpk.below hb913)
  have HPP13 := hid (hpp.below hb913)
  have HPR1 := hid (show PrfV w13 w9.heap.size (.agg #[.int .i64 pP5.index, .int .i64 pP5.size, .slice ok pP5.key.length ck, .slice ov pP5.val.length cv, .slice op pP5.path.length cp]) pP5 from ⟨_, _, _, rfl, HPK13.out, HPV13.out, HPP13.out⟩)
  have HPR2 := hid (show PrfV w13 w13.heap.size (.agg #[.int .i64 pP5.index, .int .i64 pP5.size, .slice ok pP5.key.length ck, .slice (some ⟨w9.heap.size + 1 + 1, 0, none⟩) 1 1, .slice op pP5.path.length cp]) ⟨pP5.index, pP5.size, pP5.key, [51], pP5.path⟩ from
    ⟨_, _, _, rfl, HPK13.out.mono (by omega), by rw [hsz13, ← hw13]; exact x12.setP hr12 _, HPP13.out.mono (by omega)⟩)
  rw [rout_root lP5 (by rw [wrong_lP5])] at HX13
  have HSH1 := hid (HS.out (rootD lP5) pP5 (.slice o6 n6 c6) _ w9.heap.size w13 (HK.out.past HB13.out) (by omega) (HX13.out.mono (by omega)) HPR1.out fits_P5 (by rw [rootD_len]; decide))
  have hcv10 : ∀ (C : Array Value) (n c : Nat), (convert 23 23 (.slice (some ⟨w9.heap.size + 1 + 1, 0, none⟩) n c)).run Tryd.prog (w11.alloc (.cells C 5)) = .ok (.slice (some ⟨w9.heap.size + 1 + 1, 0, none⟩) n c) (w11.alloc (.cells C 5 (C.size, C.size + 1))) := fun C n c => by
    have h := conv_constB w11 C n c
    rw [hsz11] at h
    exact h
  have f0 := HF13.out.cell 0
  have z3 := hr12.frozen 3
  have y3 := hr12.cell 3
  have t0 := hp13.cell 0
  have t1 := hp13.cell 1
  have t2 := hp13.cell 2
  have t3 := hp13.cell 3
  have t4 := hp13.cell 4
  have u0 := hr10.cell 0
  have u1 := hr10.cell 1
  have u2 := hr10.cell 2
  have u3 := hr10.cell 3
  have u4 := hr10.cell 4
  have HQ13 := hid hr13
  clear hb9 hb910 hpk hpv hpp hsb hr10 hr11 hr12 hr13 hp13 hb1011 hb1013 hb913 b12 x12 HSW hcv7
  go_wp2_with fail
  clear t0 t1 t2 t3 t4 u0 u1 u2 u3 u4 z3 y3 f0 hw10 hw11 hw12 hw13 hcv10 hcv
  refine HSH1.out.mono ?_
  rintro e w14 ⟨hb14, bb, rfl, hbb⟩
  obtain rfl : bb = true := hbb.2 shown_P5
  have hsz14 := hb14.size
  have HB14 := hid (HB13.out.trans (hb14.mono (HB13.out.size)))
  have HQ14 := hid (HQ13.out.below hb14 (by omega))
  have HSH2 := hid (HS.out (rootD lP5) ⟨pP5.index, pP5.size, pP5.key, [51], pP5.path⟩ (.slice o6 n6 c6) _ w13.heap.size w14 (HK.out.past HB14.out) hsz14 ((HX13.out.mono (by omega)).below hb14) (HPR2.out.below hb14) fits_P5e (by rw [rootD_len]; decide))
  have t0 := HQ14.out.cell 0
  have t1 := HQ14.out.cell 1
  have t2 := HQ14.out.cell 2
  have t3 := HQ14.out.cell 3
  have t4 := HQ14.out.cell 4
  clear hb14 hbb HSH1
  go_wp2_with fail
  clear t0 t1 t2 t3 t4
  refine HSH2.out.mono ?_
  rintro e w15 ⟨hb15, bb, rfl, hbb⟩
  obtain rfl : bb = false := by
    cases bb with
    | false => rfl
    | true => exact absurd (hbb.1 rfl) not_shown_P5
  have hsz15 := hb15.size
  have HB15 := hid (HB14.out.trans (hb15.mono (HB14.out.size)))
  have HSA := hid (sumC [] (.slice none 0 0) w15.heap.size w15 (Nat.le_refl _) (.inl ⟨rfl, rfl⟩) (HK.out.past HB15.out) (by simp))
  clear hb15 hbb HSH2
  go_wp2_with fail
  refine HSA.out.mono ?_
  rintro e w16 ⟨oD, cD, rfl, _, hb16⟩
  have HB16 := hid (HB15.out.trans (hb16.mono (HB15.out.size)))
  clear hb16 HSA
  go_wp2
  go_ret
  exact ⟨rfl, HB16.out⟩
end Go.Proofs.YtdlcjhigmdgbcaaDoor
