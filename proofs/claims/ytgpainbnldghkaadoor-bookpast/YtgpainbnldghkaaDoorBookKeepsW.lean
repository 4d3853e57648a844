/-
  BookKeeps answers true of all doings, one more, and all bytes, given what package book's functions answer; it turns nothing that was there.
-/
import Derived.Test.YtgpainbnldghkaaDoorBookRootW
import Derived.Test.YtgpainbnldghkaaDoorBookKeepsR
namespace Go.Proofs.YtgpainbnldghkaaDoor
open Go.RowKit

theorem field_fault (w : World) : (Instr.field 27 (.agg #[.int .i64 0, .int .i64 0]) 0).run Tryd.prog w = .ok (.int .i64 0) w := by kernel_rfl
theorem get_short {b : List Pr} (h : Fits b) (k : List (BitVec 8)) : ((getL k b).getD []).length ≤ 200 := by
  induction b with
  | nil => simp [getL]
  | cons p r ih =>
    rw [getL]
    split
    · exact (h p (by simp)).2
    · exact ih fun q hq => h q (by simp [hq])
theorem playGo_code : ∀ (l : List Dg) (i : Nat) (out : List Pr) (e : Int × Nat), playGo i out l = .error e → e.1 ≠ 0 := by
  intro l
  induction l with
  | nil => intro i out e h; cases h
  | cons d r ih =>
    intro i out e h
    rw [playGo_cons] at h
    split at h
    · obtain rfl : (4, i) = e := by simpa using h
      simp
    · split at h
      · obtain rfl : (5, i) = e := by simpa using h
        simp
      · exact ih _ _ e h
theorem playL_code (l : List Dg) (e : Int × Nat) (h : playL l = .error e) : e.1 ≠ 0 := playGo_code l 0 [] e h
set_option maxRecDepth 100000 in
set_option maxHeartbeats 4000000 in
theorem bookKeeps_any (HWC : WrongC 10) (HGC : GetC 15) (HRC : RootC 12)
    (l : List Dg) (d : Dg) (k : List (BitVec 8)) (sa dk dv sk : Value) (N : Nat) (w : World) (hK : tableAt w) (hN : N ≤ w.heap.size) (ha : Doings w N sa l) (hdk : Bytes w N dk d.key) (hdv : Bytes w N dv d.val) (hk : Bytes w N sk k)
    (hlen : l.length * 56 ≤ 140737488351232) (hfl : ∀ d ∈ l, d.fits) (hfd : d.fits) (hkl : k.length ≤ 140737488351232) :
    Calls Tryd.prog 4 #[sa, .agg #[dk, dv, .bool d.gone], sk] w fun e w' => e = .returned (.bool true) ∧ Below w.heap.size w w' := by
  have hfld := field_fault
  obtain ⟨o1, c1, rfl, _⟩ := hdk.shape
  obtain ⟨o2, c2, rfl, _⟩ := hdv.shape
  obtain ⟨w0, hw0⟩ : ∃ w0, w.alloc (.cells #[.slice o1 d.key.length c1, .slice o2 d.val.length c2, .bool d.gone] 39) = w0 := ⟨_, rfl⟩
  have hsz0 : w0.heap.size = w.heap.size + 1 := by rw [← hw0]; simp
  have hb0 : Below w.heap.size w w0 := by rw [← hw0]; exact (Below.refl _ _).alloc (Nat.le_refl _) _
  have hrow0 : Row w0 w.heap.size 39 [.slice o1 d.key.length c1, .slice o2 d.val.length c2, .bool d.gone] := by rw [← hw0]; exact Row.new _ _ _
  have HAL := hid (alive4_any playC HRC w0 (hK.below hb0 hK.lt))
  have HP := hid (show PlayC 7 from playC)
  have HW := hid (show WrongC 10 from HWC)
  have HG := hid (show GetC 15 from HGC)
  have HA := hid ha
  have HDK := hid hdk
  have HDV := hid hdv
  have HKK := hid hk
  have HFL := hid hfl
  have HB0 := hid hb0
  have HR0 := hid hrow0
  clear ha hdk hdv hk hfl hK HWC HGC HRC hb0 hrow0
  go_enter Tryd.func4, Tryd.ntmps4
  go_wp2_with fail
  refine HAL.out.mono ?_
  rintro e w1 ⟨rfl, hb1⟩
  have hsz1 := hb1.size
  have HB1 := hid (HB0.out.trans (hb1.mono (by omega)))
  have HR1 := hid (HR0.out.below hb1 (by omega))
  have HC1 := hid (HP.out l sa N w1 (HA.out.below (HB1.out.mono hN)) (by omega) (by omega) HFL.out)
  obtain ⟨pc, hpc⟩ : ∃ pc, (pcode l).1 = pc := ⟨_, rfl⟩
  obtain ⟨pi, hpi⟩ : ∃ pi, (pcode l).2 = pi := ⟨_, rfl⟩
  rw [hpc, hpi] at HC1
  unfold faultV at HC1
  clear hb1 HAL hw0
  go_wp2_with fail
  refine HC1.out.mono ?_
  rintro e w2 ⟨hb2, o2', n2, c2', rfl, hx2⟩
  have hsz2 := hb2.size
  obtain ⟨w3, hw3⟩ : ∃ w3, w2.alloc (.cells #[.int .i64 pc, .int .i64 (pi : Int)] 27) = w3 := ⟨_, rfl⟩
  have hsz3 : w3.heap.size = w2.heap.size + 1 := by rw [← hw3]; simp
  have hb23 : Below w2.heap.size w2 w3 := by rw [← hw3]; exact (Below.refl _ _).alloc (Nat.le_refl _) _
  have HF3 := hid (show Row w3 w2.heap.size 27 [.int .i64 pc, .int .i64 (pi : Int)] by rw [← hw3]; exact Row.new _ _ _)
  have HB3 := hid (HB1.out.trans ((hb2.trans (hb23.mono (by omega))).mono (by omega)))
  have HR3 := hid (HR1.out.below (hb2.trans (hb23.mono (by omega))) (by omega))
  have HX3 := hid (hx2.below hb23)
  have HW3 := hid hw3
  clear hb2 hb23 hx2 hw3 HC1
  obtain ⟨qs, hqs, hsrcq, hokq⟩ := doings_src HA.out
  have hb03 := HB3.out.mono hN
  obtain ⟨lr, hlr⟩ : ∃ lr, l ++ [d] = lr := ⟨_, rfl⟩
  obtain ⟨qc, hqc⟩ : ∃ qc, (pcode lr).1 = qc := ⟨_, rfl⟩
  obtain ⟨qi, hqi⟩ : ∃ qi, (pcode lr).2 = qi := ⟨_, rfl⟩
  have HG1 := hid (show lr = (qs ++ [(⟨d, .slice o1 d.key.length c1, .slice o2 d.val.length c2⟩ : DgV)]).map (·.d) by rw [List.map_append, hqs, ← hlr]; rfl)
  have HG2 := hid (hsrcq.below hb03)
  have HG3 := hid (show ∀ q ∈ qs ++ [(⟨d, .slice o1 d.key.length c1, .slice o2 d.val.length c2⟩ : DgV)], q.ok w3 N from fun q hq => by
    rcases List.mem_append.1 hq with hq | hq
    · exact (hokq q hq).below hb03
    · obtain rfl : q = ⟨d, .slice o1 d.key.length c1, .slice o2 d.val.length c2⟩ := by simpa using hq
      exact ⟨HDK.out.below hb03, HDV.out.below hb03⟩)
  have HG4 := hid (show (qs.length + 1) * 56 ≤ 140737488355328 by have : qs.length = l.length := by rw [← hqs]; simp
                                                                  omega)
  clear hqs hsrcq hokq hb03
  go_wp2_with fail
  rw [HW3.out]
  refine keepsRegion qs ⟨d, .slice o1 d.key.length c1, .slice o2 d.val.length c2⟩ lr N N HG1 HG2 (by omega) (by omega) HG3 HG4 HR3 _ (hid ?_)
  intro xmk0 xsrc xapp xld0 xmkN xapp2 xplay xtup xe0 xe1 vb g w4 ps hown4 hmap4 hrow4 hgb4 hb34
  rw [hqc, hqi] at hrow4
  have hsz4 := hb34.size
  have hx4 := hown4.pairs
  rw [hmap4] at hx4
  obtain ⟨o4, c4, rfl, hc4⟩ := hown4.1.shape
  have HX4 := hid hx4
  have HB4 := hid (HB3.out.trans (hb34.mono (by omega)))
  have HR4 := hid (HR3.out.below hb34 (by omega))
  have HF4 := hid (HF3.out.below hb34 (by omega))
  have HH4 := hid hrow4
  have HX4a := hid (HX3.out.below (hb34.mono (by omega)))
  have f0 := HF4.out.cell 0
  have h0 := HH4.out.cell 0
  clear hown4 hrow4 hb34 HX3 HF3 HR3 HB3
  dsimp only
  have HPK := hid (show pc ≠ 0 ∨ qc ≠ 0 ∨ ∃ a b, playL l = .ok a ∧ playL lr = .ok b ∧ pout l = a ∧ pout lr = b from by
    rw [← hpc, ← hqc]
    unfold pcode pout
    cases h1 : playL l with
    | error e =>
      left
      simp only
      exact playL_code l e h1
    | ok a =>
      right
      cases h2 : playL lr with
      | error e =>
        left
        simp only
        exact playL_code lr e h2
      | ok b => exact .inr ⟨a, b, rfl, rfl, rfl, rfl⟩)
  clear hpc hpi hqc hqi
  by_cases hpc0 : pc = 0
  · subst hpc0
    by_cases hqc0 : qc = 0
    · subst hqc0
      obtain ⟨a, b, hpa, hpb, hoa, hob⟩ : ∃ a b, playL l = .ok a ∧ playL lr = .ok b ∧ pout l = a ∧ pout lr = b := by
        rcases HPK.out with h | h | h
        · exact absurd rfl h
        · exact absurd rfl h
        · exact h
      rw [hoa] at HX4a
      rw [hob] at HX4
      have hbd : b = doOne d a := play_snoc l d a b hpa (by rw [hlr]; exact hpb)
      have HBA := hid (playL_book l a hpa)
      have HBB := hid (playL_book lr b hpb)
      have HGS := hid (show getL d.key b = if d.gone = true then none else some d.val by rw [hbd]; exact get_do_same d a)
      have HGO := hid (show ∀ k', k' ≠ d.key → getL k' b = getL k' a from fun k' hk' => by rw [hbd]; exact get_do_other d k' hk' a)
      clear HPK hpa hpb hoa hob hbd
      have HSH := hid (show ∀ k', ((getL k' b).getD []).length ≤ 200 ∧ ((getL k' a).getD []).length ≤ 200 from fun k' => ⟨get_short HBB.out.2.1 k', get_short HBA.out.2.1 k'⟩)
      have HC5 := hid (HG.out b d.key (.slice o4 ps.length c4) (.slice o1 d.key.length c1) w4.heap.size w4 (Nat.le_refl _) HX4.out ((HDK.out.below (HB4.out.mono hN)).mono (by omega)) HBB.out.1 HBB.out.2.1 HBB.out.2.2 hfd.1)
      have r0 := HR4.out.cell 0
      have HWC0 := hid (wrongL_book b HBB.out.1 HBB.out.2.1 HBB.out.2.2)
      go_wp2_with fail
      refine HC5.out.mono ?_
      rintro e w5 ⟨hb5, o5, n5, c5, rfl, hx5⟩
      have hsz5 := hb5.size
      have HB5 := hid (HB4.out.trans (hb5.mono (by omega)))
      have HR5 := hid (HR4.out.below hb5 (by omega))
      have HX5 := hid (HX4.out.below hb5)
      have HX5a := hid (HX4a.out.below (hb5.mono (by omega)))
      have HV5 := hid hx5
      clear hb5 hx5 HC5 r0 f0 h0
      have r1 := HR5.out.cell 1
      have r2 := HR5.out.cell 2
      have HFW := hid (show ∀ w6, Below w5.heap.size w5 w6 → Calls Tryd.prog 10 #[.slice o4 ps.length c4] w6 (fun e w' => Below w6.heap.size w6 w' ∧ e = .returned (.agg #[.int .i64 0, .int .i64 0])) from fun w6 hb6 => by
        refine (HW.out b (.slice o4 ps.length c4) w4.heap.size w6 (HX5.out.below (hb6.mono (by omega))) (Nat.le_trans hsz5 hb6.size) (by have := HBB.out.2.2; omega) (fits_of HBB.out.2.1)).mono ?_
        rintro e w' ⟨h1, rfl⟩
        rw [HWC0.out]
        exact ⟨h1, rfl⟩)
      cases hg : d.gone with
      | true =>
        rw [hg] at HGS r2
        rw [if_pos rfl] at HGS
        rw [HGS.out]
        clear HV5 HGS hg
        have HB56 := hid (Below.refl w5.heap.size w5)
        go_wp2_with fail
        refine (HFW.out w5 (Below.refl _ _)).mono ?_
        rintro e w6 ⟨hb6, rfl⟩
        have hsz6 := hb6.size
        have HBX := hid (HB5.out.trans (HB56.out.trans (hb6.mono HB56.out.size) |>.mono (by omega)))
        have HR6 := hid ((HR5.out.below HB56.out (by omega)).below hb6 (by have := HB56.out.size; omega))
        have HX6 := hid ((HX5.out.below (HB56.out.mono (by omega))).below (hb6.mono (by have := HB56.out.size; omega)))
        have HX6a := hid ((HX5a.out.below (HB56.out.mono (by omega))).below (hb6.mono (by have := HB56.out.size; omega)))
        have HSZ6 := hid (show w5.heap.size ≤ w6.heap.size from Nat.le_trans HB56.out.size hb6.size)
        clear hb6 r1 r2
        have r0 := HR6.out.cell 0
        have HS7 := hid (sameB_any k d.key sk (.slice o1 d.key.length c1) N N w6 (HKK.out.below (HBX.out.mono hN)) (HDK.out.below (HBX.out.mono hN)) (by omega) (by have := hfd.1; omega))
        by_cases hkd : k = d.key
        · rw [decide_eq_true hkd] at HS7
          clear hkd
          go_wp2_with fail
          refine HS7.out.mono ?_
          rintro e w7 ⟨rfl, q7, rfl⟩
          go_wp2
          go_ret
          exact ⟨rfl, HBX.out.trans (drewN_belowB _ _ _)⟩
        · rw [decide_eq_false hkd] at HS7
          have HGE := hid (HGO.out k hkd)
          clear hkd
          go_wp2_with fail
          refine HS7.out.mono ?_
          rintro e w7 ⟨rfl, q7, hw7⟩
          have hb7 : Below w6.heap.size w6 w7 := by rw [hw7]; exact drewN_belowB _ _ _
          have hsz7 := hb7.size
          have HB7 := hid (HBX.out.trans (hb7.mono (by have := HSZ6.out; omega)))
          have HX7 := hid (HX6.out.below (hb7.mono (by have := HSZ6.out; omega)))
          have HX7a := hid (HX6a.out.below (hb7.mono (by have := HSZ6.out; omega)))
          have HC8 := hid (HG.out a k (.slice o2' n2 c2') sk w2.heap.size w7 (by have := HSZ6.out; omega) HX7a.out ((HKK.out.below (HB7.out.mono hN)).mono (by omega)) HBA.out.1 HBA.out.2.1 HBA.out.2.2 hkl)
          obtain ⟨i1, hi1⟩ : ∃ i1, (getL k a).isSome = i1 := ⟨_, rfl⟩
          obtain ⟨m1, hm1⟩ : ∃ m1, (getL k a).getD [] = m1 := ⟨_, rfl⟩
          have HM1 := hid (show m1.length ≤ 200 by rw [← hm1]; exact (HSH.out k).2)
          rw [hi1, hm1] at HC8
          clear hb7 hw7 HS7 r0
          go_wp2_with fail
          refine HC8.out.mono ?_
          rintro e w8 ⟨hb8, o8, n8, c8, rfl, hx8⟩
          have hsz8 := hb8.size
          have HB8 := hid (HB7.out.trans (hb8.mono (by have := HSZ6.out; omega)))
          have HX8 := hid (HX7.out.below (hb8.mono (by have := HSZ6.out; omega)))
          have HV8 := hid hx8
          have HC9 := hid (HG.out b k (.slice o4 ps.length c4) sk w4.heap.size w8 (by have := HSZ6.out; omega) HX8.out ((HKK.out.below (HB8.out.mono hN)).mono (by omega)) HBB.out.1 HBB.out.2.1 HBB.out.2.2 hkl)
          rw [HGE.out, hi1, hm1] at HC9
          clear hb8 hx8 HC8 hi1 hm1
          go_wp2_with fail
          refine HC9.out.mono ?_
          rintro e w9 ⟨hb9, o9, n9, c9, rfl, hx9⟩
          have HB9 := hid (HB8.out.trans (hb9.mono (by have := HSZ6.out; omega)))
          have HS9 := hid (sameB_any m1 m1 (.slice o8 n8 c8) (.slice o9 n9 c9) w8.heap.size w9.heap.size w9 (HV8.out.below hb9) hx9 (by have := HM1.out; omega) (by have := HM1.out; omega))
          rw [decide_eq_true rfl] at HS9
          have ei : (i1 == i1) = true := by cases i1 <;> rfl
          clear hb9 hx9 HC9
          go_wp2_with fail
          refine HS9.out.mono ?_
          rintro e w10 ⟨rfl, q10, rfl⟩
          go_wp2
          go_ret
          exact ⟨rfl, HB9.out.trans (drewN_belowB _ _ _)⟩
      | false =>
        rw [hg] at HGS r2
        rw [if_neg (by decide)] at HGS
        rw [HGS.out] at HV5 ⊢
        have HS5 := hid (sameB_any d.val d.val (.slice o5 n5 c5) (.slice o2 d.val.length c2) w5.heap.size N w5 HV5.out (HDV.out.below (HB5.out.mono hN)) (by have := hfd.2; omega) (by have := hfd.2; omega))
        rw [decide_eq_true rfl] at HS5
        clear HV5 HGS hg
        go_wp2_with fail
        refine HS5.out.mono ?_
        rintro e w5b ⟨rfl, q5, hw5b⟩
        have HB56 := hid (show Below w5.heap.size w5 w5b by rw [hw5b]; exact drewN_belowB _ _ _)
        clear hw5b HS5
        go_wp2_with fail
        refine (HFW.out w5b HB56.out).mono ?_
        rintro e w6 ⟨hb6, rfl⟩
        have hsz6 := hb6.size
        have HBX := hid (HB5.out.trans (HB56.out.trans (hb6.mono HB56.out.size) |>.mono (by omega)))
        have HR6 := hid ((HR5.out.below HB56.out (by omega)).below hb6 (by have := HB56.out.size; omega))
        have HX6 := hid ((HX5.out.below (HB56.out.mono (by omega))).below (hb6.mono (by have := HB56.out.size; omega)))
        have HX6a := hid ((HX5a.out.below (HB56.out.mono (by omega))).below (hb6.mono (by have := HB56.out.size; omega)))
        have HSZ6 := hid (show w5.heap.size ≤ w6.heap.size from Nat.le_trans HB56.out.size hb6.size)
        clear hb6 r1 r2
        have r0 := HR6.out.cell 0
        have HS7 := hid (sameB_any k d.key sk (.slice o1 d.key.length c1) N N w6 (HKK.out.below (HBX.out.mono hN)) (HDK.out.below (HBX.out.mono hN)) (by omega) (by have := hfd.1; omega))
        by_cases hkd : k = d.key
        · rw [decide_eq_true hkd] at HS7
          clear hkd
          go_wp2_with fail
          refine HS7.out.mono ?_
          rintro e w7 ⟨rfl, q7, rfl⟩
          go_wp2
          go_ret
          exact ⟨rfl, HBX.out.trans (drewN_belowB _ _ _)⟩
        · rw [decide_eq_false hkd] at HS7
          have HGE := hid (HGO.out k hkd)
          clear hkd
          go_wp2_with fail
          refine HS7.out.mono ?_
          rintro e w7 ⟨rfl, q7, hw7⟩
          have hb7 : Below w6.heap.size w6 w7 := by rw [hw7]; exact drewN_belowB _ _ _
          have hsz7 := hb7.size
          have HB7 := hid (HBX.out.trans (hb7.mono (by have := HSZ6.out; omega)))
          have HX7 := hid (HX6.out.below (hb7.mono (by have := HSZ6.out; omega)))
          have HX7a := hid (HX6a.out.below (hb7.mono (by have := HSZ6.out; omega)))
          have HC8 := hid (HG.out a k (.slice o2' n2 c2') sk w2.heap.size w7 (by have := HSZ6.out; omega) HX7a.out ((HKK.out.below (HB7.out.mono hN)).mono (by omega)) HBA.out.1 HBA.out.2.1 HBA.out.2.2 hkl)
          obtain ⟨i1, hi1⟩ : ∃ i1, (getL k a).isSome = i1 := ⟨_, rfl⟩
          obtain ⟨m1, hm1⟩ : ∃ m1, (getL k a).getD [] = m1 := ⟨_, rfl⟩
          have HM1 := hid (show m1.length ≤ 200 by rw [← hm1]; exact (HSH.out k).2)
          rw [hi1, hm1] at HC8
          clear hb7 hw7 HS7 r0
          go_wp2_with fail
          refine HC8.out.mono ?_
          rintro e w8 ⟨hb8, o8, n8, c8, rfl, hx8⟩
          have hsz8 := hb8.size
          have HB8 := hid (HB7.out.trans (hb8.mono (by have := HSZ6.out; omega)))
          have HX8 := hid (HX7.out.below (hb8.mono (by have := HSZ6.out; omega)))
          have HV8 := hid hx8
          have HC9 := hid (HG.out b k (.slice o4 ps.length c4) sk w4.heap.size w8 (by have := HSZ6.out; omega) HX8.out ((HKK.out.below (HB8.out.mono hN)).mono (by omega)) HBB.out.1 HBB.out.2.1 HBB.out.2.2 hkl)
          rw [HGE.out, hi1, hm1] at HC9
          clear hb8 hx8 HC8 hi1 hm1
          go_wp2_with fail
          refine HC9.out.mono ?_
          rintro e w9 ⟨hb9, o9, n9, c9, rfl, hx9⟩
          have HB9 := hid (HB8.out.trans (hb9.mono (by have := HSZ6.out; omega)))
          have HS9 := hid (sameB_any m1 m1 (.slice o8 n8 c8) (.slice o9 n9 c9) w8.heap.size w9.heap.size w9 (HV8.out.below hb9) hx9 (by have := HM1.out; omega) (by have := HM1.out; omega))
          rw [decide_eq_true rfl] at HS9
          have ei : (i1 == i1) = true := by cases i1 <;> rfl
          clear hb9 hx9 HC9
          go_wp2_with fail
          refine HS9.out.mono ?_
          rintro e w10 ⟨rfl, q10, rfl⟩
          go_wp2
          go_ret
          exact ⟨rfl, HB9.out.trans (drewN_belowB _ _ _)⟩
    · have e2 : (qc != 0) = true := by simpa using hqc0
      go_wp2
      go_ret
      exact ⟨rfl, HB4.out⟩
  · have e1 : (pc != 0) = true := by simpa using hpc0
    go_wp2
    go_ret
    exact ⟨rfl, HB4.out⟩
end Go.Proofs.YtgpainbnldghkaaDoor
