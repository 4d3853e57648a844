/-
  BookTells answers true of all doings, all pairs and all bytes, given what package book's functions answer; it turns nothing that was there.
-/
import Derived.Test.YtgpainbnldghkaaDoorBookFaceP
namespace Go.Proofs.YtgpainbnldghkaaDoor
open Go.RowKit

theorem drewN_belowB (w : World) (n N : Nat) : Below N w (w.drewN n) := ⟨rfl, rfl, rfl, Nat.le_refl _, fun _ _ => rfl⟩
theorem getL_len (l : List Pr) (h : Fits l) (k x : List (BitVec 8)) (hx : getL k l = some x) : x.length ≤ 200 := by
  induction l with
  | nil => cases hx
  | cons p r ih =>
    rw [getL] at hx
    split at hx
    · have := (h p (by simp)).2
      obtain rfl : p.val = x := by simpa using hx
      exact this
    · exact ih (fun q hq => h q (by simp [hq])) hx
/-- a fault's row holds no letters: what is read elsewhere stays -/
theorem Bytes.set2 {w : World} {g N : Nat} {t : TypeId} {a c : Int} {sv : Value} {l : List (BitVec 8)} (h : Bytes w N sv l) (hr : Row w g t [.int .i64 a, .int .i64 c]) (x y : Value) :
    Bytes ((w.setCell ⟨g, 0, none⟩ x).setCell ⟨g, 1, none⟩ y) N sv l := by
  rcases h with h | h | ⟨b, off, cap, h1, h2, h3⟩
  · exact .inl h
  · exact .inr (.inl h)
  · refine .inr (.inr ⟨b, off, cap, h1, h2, fun i hi => ⟨(h3 i hi).1, ?_⟩⟩)
    have hc := (h3 i hi).2
    have hbg : b ≠ g := by
      rintro rfl
      rw [hr.cell] at hc
      match off + i, hc with
      | 0, hc => simp at hc
      | 1, hc => simp at hc
      | j + 2, hc => simp at hc
    rw [← hc]
    exact World.cell?_of_block (by rw [heap_setCell_other _ _ _ _ (show b ≠ g from hbg), heap_setCell_other _ _ _ _ (show b ≠ g from hbg)])
theorem Row.both {w : World} {g : Nat} {t : TypeId} {a b : Value} (h : Row w g t [a, b]) (x y : Value) : Row ((w.setCell ⟨g, 0, none⟩ x).setCell ⟨g, 1, none⟩ y) g t [x, y] := (h.set 0 x).set 1 y
theorem size_set2 (w : World) (g : Nat) (x y : Value) : ((w.setCell ⟨g, 0, none⟩ x).setCell ⟨g, 1, none⟩ y).heap.size = w.heap.size := by simp [World.setCell]
set_option maxRecDepth 100000 in
set_option maxHeartbeats 4000000 in
theorem bookTells_any (HPC : PlayC 7) (HWC : WrongC 10) (HGC : GetC 15) (HRC : RootC 12)
    (l : List Dg) (b : List Pr) (k : List (BitVec 8)) (sa sb sk : Value) (N : Nat) (w : World) (hK : tableAt w) (hN : N ≤ w.heap.size) (ha : Doings w N sa l) (hb : Pairs w N sb b) (hk : Bytes w N sk k)
    (hlen : l.length < 2305843009213693952) (hfl : ∀ d ∈ l, d.fits) (hblen : b.length < 2305843009213693952) (hfb : ∀ p ∈ b, p.fits) (hkl : k.length ≤ 140737488351232) :
    Calls Tryd.prog 3 #[sa, sb, sk] w fun e w' => e = .returned (.bool true) ∧ Below w.heap.size w w' := by
  have HP := hid (show PlayC 7 from HPC)
  have HW := hid (show WrongC 10 from HWC)
  have HG := hid (show GetC 15 from HGC)
  have HR := hid (show RootC 12 from HRC)
  have HA := hid ha
  have HB := hid hb
  have HKK := hid hk
  have HFL := hid hfl
  have HFB := hid hfb
  have HK := hid hK
  have HC1 := hid (HPC l sa N w ha hN hlen hfl)
  clear ha hb hk hfl hfb hK HPC HWC HGC HRC
  obtain ⟨pc, hpc⟩ : ∃ pc, (pcode l).1 = pc := ⟨_, rfl⟩
  obtain ⟨pi, hpi⟩ : ∃ pi, (pcode l).2 = pi := ⟨_, rfl⟩
  rw [hpc, hpi] at HC1
  unfold faultV at HC1
  go_enter Tryd.func3, Tryd.ntmps3
  go_wp2_with fail
  refine HC1.out.mono ?_
  rintro e w1 ⟨hb1, o1, n1, c1, rfl, hx1⟩
  have hsz1 := hb1.size
  obtain ⟨w2, hw2⟩ : ∃ w2, w1.alloc (.cells #[.int .i64 pc, .int .i64 (pi : Int)] 27) = w2 := ⟨_, rfl⟩
  have hsz2 : w2.heap.size = w1.heap.size + 1 := by rw [← hw2]; simp
  have hb12 : Below w1.heap.size w1 w2 := by rw [← hw2]; exact (Below.refl _ _).alloc (Nat.le_refl _) _
  have hrow2 : Row w2 w1.heap.size 27 [.int .i64 pc, .int .i64 (pi : Int)] := by rw [← hw2]; exact Row.new _ _ _
  have hb2 : Below w.heap.size w w2 := hb1.trans (hb12.mono hsz1)
  have HC2 := hid (refPlayC l sa N w2 (HA.out.below (hb2.mono hN)) (by omega) hlen HFL.out)
  rw [hpc, hpi] at HC2
  unfold faultV at HC2
  have HX1 := hid (hx1.below hb12)
  have HB2 := hid hb2
  have HR2 := hid hrow2
  have HW2 := hid hw2
  clear hw2 hb1 hb12 hb2 hrow2 hx1 HC1 hpc hpi
  go_wp2_with fail
  rw [HW2.out]
  refine HC2.out.mono ?_
  rintro e w3 ⟨hb3, o3, n3, c3, rfl, hx3⟩
  have hsz3 := hb3.size
  obtain ⟨w4, hw4⟩ : ∃ w4, w3.alloc (.cells #[.int .i64 pc, .int .i64 (pi : Int)] 27) = w4 := ⟨_, rfl⟩
  have hsz4 : w4.heap.size = w3.heap.size + 1 := by rw [← hw4]; simp
  have hb34 : Below w3.heap.size w3 w4 := by rw [← hw4]; exact (Below.refl _ _).alloc (Nat.le_refl _) _
  have hb24 : Below w2.heap.size w2 w4 := hb3.trans (hb34.mono (by omega))
  have hrow4 : Row w4 w3.heap.size 27 [.int .i64 pc, .int .i64 (pi : Int)] := by rw [← hw4]; exact Row.new _ _ _
  have hrow2' := HR2.out.below hb24 (show w1.heap.size < w2.heap.size by omega)
  have f0 : (w3.alloc (.cells #[.int .i64 pc, .int .i64 (pi : Int)] 27)).cell? ⟨w1.heap.size, 0, none⟩ = some (.int .i64 pc) := by rw [hw4]; exact hrow2'.cell 0
  have f1 : (w3.alloc (.cells #[.int .i64 pc, .int .i64 (pi : Int)] 27)).cell? ⟨w1.heap.size, 1, none⟩ = some (.int .i64 (pi : Int)) := by rw [hw4]; exact hrow2'.cell 1
  have hne : w1.heap.size ≠ w3.heap.size := by omega
  have HS := hid (samePr_any (pout l) (pout l) _ _ _ _ w4 (HX1.out.below (hb24.mono (by omega))) (hx3.below hb34) (by have := (pout_book l).2.2; omega) (fits_of (pout_book l).2.1) (fits_of (pout_book l).2.1))
  have HB4 := hid (HB2.out.trans (hb24.mono (by omega)))
  have HRA := hid hrow2'
  have HRB := hid hrow4
  have HW4 := hid hw4
  clear hw4 hb3 hb34 hb24 hrow4 hrow2' hx3 HC2 HX1 HB2 HR2
  go_wp2_with fail
  rw [HW4.out]
  refine HS.out.mono ?_
  rintro e w5 ⟨bb, rfl, hbb, q, rfl⟩
  obtain rfl : bb = true := hbb.2 (by trivial)
  clear hbb HS
  obtain ⟨w5, hw5⟩ : ∃ w5, w4.drewN q = w5 := ⟨_, rfl⟩
  rw [hw5]
  have hb45 : Below w4.heap.size w4 w5 := by rw [← hw5]; exact drewN_belowB _ _ _
  have hsz5 : w5.heap.size = w4.heap.size := by rw [← hw5]; rfl
  have HB5 := hid (HB4.out.trans (hb45.mono (by omega)))
  have HRA5 := hid (HRA.out.below hb45 (by omega))
  have HRB5 := hid (HRB.out.below hb45 (by omega))
  obtain ⟨wc, hwc⟩ : ∃ wc, (wrongL b).1 = wc := ⟨_, rfl⟩
  obtain ⟨wi, hwi⟩ : ∃ wi, (wrongL b).2 = wi := ⟨_, rfl⟩
  have HC3 := hid (HW.out b sb N w5 (HB.out.below (HB5.out.mono hN)) (by omega) hblen HFB.out)
  rw [hwc, hwi] at HC3
  unfold faultV at HC3
  clear hw5 hb45 HB4 HRA HRB f0 f1 hne
  go_wp2_with fail
  refine HC3.out.mono ?_
  rintro e w6 ⟨hb6, rfl⟩
  have hsz6 := hb6.size
  have HB6 := hid (HB5.out.trans (hb6.mono (by omega)))
  have HRA6 := hid (HRA5.out.below hb6 (by omega))
  have HRB6 := hid (HRB5.out.below hb6 (by omega))
  have HC4 := hid (refWrongC b sb N w6 (HB.out.below (HB6.out.mono hN)) (by omega) hblen HFB.out)
  rw [hwc, hwi] at HC4
  unfold faultV at HC4
  clear hb6 HC3 HRA5 HRB5 HB5
  go_wp2_with fail
  refine HC4.out.mono ?_
  rintro e w7 ⟨hb7, rfl⟩
  have hsz7 := hb7.size
  have HB7 := hid (HB6.out.trans (hb7.mono (by omega)))
  have HRA7 := hid (HRA6.out.below hb7 (by omega))
  have HRB7 := hid (HRB6.out.below hb7 (by omega))
  have HC5 := hid (HR.out b sb N w7 (HK.out.below HB7.out HK.out.lt) (HB.out.below (HB7.out.mono hN)) (by omega) hblen HFB.out)
  rw [hwc, hwi] at HC5
  unfold faultV at HC5
  clear hb7 HC4 HRA6 HRB6 HB6
  go_wp2_with fail
  refine HC5.out.mono ?_
  rintro e w8 ⟨hb8, o8, n8, c8, rfl, hx8⟩
  have hsz8 := hb8.size
  have HB8 := hid (HB7.out.trans (hb8.mono (by omega)))
  have HRA8 := hid (HRA7.out.below hb8 (by omega))
  have HRB8 := hid (HRB7.out.below hb8 (by omega))
  have HX8 := hid hx8
  clear hb8 hx8 HC5 HRA7 HRB7 HB7
  obtain ⟨w9, hw9⟩ : ∃ w9, (w8.setCell ⟨w1.heap.size, 0, none⟩ (.int .i64 wc)).setCell ⟨w1.heap.size, 1, none⟩ (.int .i64 (wi : Int)) = w9 := ⟨_, rfl⟩
  have hsz9 : w9.heap.size = w8.heap.size := by rw [← hw9]; exact size_set2 _ _ _ _
  have HB9 := hid (show Below w.heap.size w w9 by rw [← hw9]; exact below_set2 HB8.out (by omega) _ _)
  have HRA9 := hid (show Row w9 w1.heap.size 27 [.int .i64 wc, .int .i64 (wi : Int)] by rw [← hw9]; exact HRA8.out.both _ _)
  have HRB9 := hid (show Row w9 w3.heap.size 27 [.int .i64 pc, .int .i64 (pi : Int)] by rw [← hw9]; exact (HRB8.out.other _ (show w3.heap.size ≠ w1.heap.size by omega)).other _ (show w3.heap.size ≠ w1.heap.size by omega))
  have HX9 := hid (show Bytes w9 w9.heap.size (.slice o8 n8 c8) (rout b) by rw [hsz9, ← hw9]; exact HX8.out.set2 HRA8.out _ _)
  obtain ⟨k0, k1, z0, z1⟩ := HRA8.out.two
  have HC6 := hid (refRootC b sb N w9 (HK.out.below HB9.out HK.out.lt) (HB.out.below (HB9.out.mono hN)) (by omega) hblen HFB.out)
  rw [hwc, hwi] at HC6
  unfold faultV at HC6
  go_wp2_with fail
  refine HC6.out.mono ?_
  rintro e w10 ⟨hb10, o10, n10, c10, rfl, hx10⟩
  have hsz10 := hb10.size
  have HB10 := hid (HB9.out.trans (hb10.mono (by omega)))
  have HRA10 := hid (HRA9.out.below hb10 (by omega))
  have HRB10 := hid (HRB9.out.below hb10 (by omega))
  have HX10 := hid ((HX9.out.below hb10).mono hsz10)
  have HY10 := hid hx10
  clear hb10 hx10 HC6 HRA8 HRB8 HB8 HX8 k0 k1 z0 z1 hw9 HRA9 HRB9 HX9 HB9
  obtain ⟨w11, hw11⟩ : ∃ w11, (w10.setCell ⟨w3.heap.size, 0, none⟩ (.int .i64 wc)).setCell ⟨w3.heap.size, 1, none⟩ (.int .i64 (wi : Int)) = w11 := ⟨_, rfl⟩
  have hsz11 : w11.heap.size = w10.heap.size := by rw [← hw11]; exact size_set2 _ _ _ _
  have HB11 := hid (show Below w.heap.size w w11 by rw [← hw11]; exact below_set2 HB10.out (by omega) _ _)
  have HRA11 := hid (show Row w11 w1.heap.size 27 [.int .i64 wc, .int .i64 (wi : Int)] by rw [← hw11]; exact (HRA10.out.other _ (show w1.heap.size ≠ w3.heap.size by omega)).other _ (show w1.heap.size ≠ w3.heap.size by omega))
  have HRB11 := hid (show Row w11 w3.heap.size 27 [.int .i64 wc, .int .i64 (wi : Int)] by rw [← hw11]; exact HRB10.out.both _ _)
  have HX11 := hid (show Bytes w11 w11.heap.size (.slice o8 n8 c8) (rout b) by rw [hsz11, ← hw11]; exact HX10.out.set2 HRB10.out _ _)
  have HY11 := hid (show Bytes w11 w11.heap.size (.slice o10 n10 c10) (rout b) by rw [hsz11, ← hw11]; exact HY10.out.set2 HRB10.out _ _)
  obtain ⟨k0, k1, z0, z1⟩ := HRB10.out.two
  obtain ⟨a0, a1, _, _⟩ := HRA11.out.two
  obtain ⟨t0, t1, _, _⟩ := HRB11.out.two
  have hrl : (rout b).length ≤ 32 := by
    unfold rout
    split
    · unfold topD; rw [sha_length]; exact Nat.le_refl _
    · simp
  have HS2 := hid (sameB_any (rout b) (rout b) _ _ _ _ w11 HX11.out HY11.out (by omega) (by omega))
  rw [decide_eq_true (show rout b = rout b from rfl)] at HS2
  go_wp2_with fail
  refine HS2.out.mono ?_
  rintro e w12 ⟨rfl, q2, rfl⟩
  have HB12 := hid (HB11.out.trans (drewN_belowB w11 q2 _))
  clear hrl HS2 HX11 HY11 HX10 HY10 HRA10 HRB10 HB10 k0 k1 z0 z1 hw11
  by_cases hw0 : wc = 0
  · subst hw0
    obtain ⟨hso, hfi, hbl⟩ := wrongL_sorted b hwc
    have HC7 := hid (HG.out b k sb sk N (w11.drewN q2) (by show N ≤ w11.heap.size; omega) (HB.out.below (HB12.out.mono hN)) (HKK.out.below (HB12.out.mono hN)) hso hfi hbl hkl)
    obtain ⟨gg, hgg⟩ : ∃ gg, getL k b = gg := ⟨_, rfl⟩
    rw [hgg] at HC7
    go_wp2_with fail
    refine HC7.out.mono ?_
    rintro e w13 ⟨hb13, o13, n13, c13, rfl, hx13⟩
    have hsz13 : w11.heap.size ≤ w13.heap.size := hb13.size
    have HB13 := hid (HB12.out.trans (hb13.mono (by show w.heap.size ≤ w11.heap.size; omega)))
    have HX13 := hid hx13
    have HC8 := hid (refGetC b k sb sk N w13 (by omega) (HB.out.below (HB13.out.mono hN)) (HKK.out.below (HB13.out.mono hN)) hso hfi hbl hkl)
    rw [hgg] at HC8
    clear hb13 hx13 HC7
    go_wp2_with fail
    refine HC8.out.mono ?_
    rintro e w14 ⟨hb14, o14, n14, c14, rfl, hx14⟩
    have hvl : (gg.getD []).length < 2305843009213693952 := by
      rw [← hgg]
      cases hgl : getL k b with
      | none => simp
      | some x =>
        have := getL_len b hfi k x hgl
        simp; omega
    have HS3 := hid (sameB_any (gg.getD []) (gg.getD []) _ _ _ _ w14 (HX13.out.below hb14) hx14 hvl hvl)
    rw [decide_eq_true (show gg.getD [] = gg.getD [] from rfl)] at HS3
    have HB14 := hid (HB13.out.trans (hb14.mono (by omega)))
    obtain ⟨is, his⟩ : ∃ is, gg.isSome = is := ⟨_, rfl⟩
    have e9 : (is == is) = true := by cases is <;> rfl
    clear hb14 hx14 HC8 hgg hvl
    go_wp2_with fail
    refine HS3.out.mono ?_
    rintro e w15 ⟨rfl, q5, rfl⟩
    go_wp2
    go_ret
    exact ⟨rfl, HB14.out.trans (drewN_belowB _ _ _)⟩
  · have e9 : (wc != 0) = true := by simpa using hw0
    go_wp2
    go_ret
    exact ⟨rfl, HB12.out⟩
end Go.Proofs.YtgpainbnldghkaaDoor
