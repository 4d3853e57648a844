/-
  BookPast answers true of all doings and of two more, given what package book's Root answers; it turns nothing that was there.
-/
import Derived.Test.YtgpainbnldghkaaDoorBookRootW
import Derived.Test.YtgpainbnldghkaaDoorBookPastR
import Derived.Test.YtgpainbnldghkaaDoorBookPastS
import Derived.Test.YtgpainbnldghkaaDoorBookKeepsW
namespace Go.Proofs.YtgpainbnldghkaaDoor
open Go.RowKit

/-- a book's own pairs as doings, from the last one on, with their slices -/
def backV (ps : List PrV) : List DgV := (ps.map fun q => (⟨⟨q.p.key, q.p.val, false⟩, q.k, q.v⟩ : DgV)).reverse
theorem backV_map (ps : List PrV) : (backV ps).map (·.d) = back (ps.map (·.p)) := by
  unfold backV back
  rw [List.map_reverse, List.map_map, List.map_map]
  rfl
theorem backV_step (ps : List PrV) (j : Nat) (q : PrV) (h : ps[j]? = some q) : backV (ps.drop j) = backV (ps.drop (j + 1)) ++ [⟨⟨q.p.key, q.p.val, false⟩, q.k, q.v⟩] := by
  obtain ⟨hj, he⟩ := List.getElem?_eq_some_iff.1 h
  rw [List.drop_eq_getElem_cons hj, he]
  unfold backV
  simp
theorem mem_backV {ps : List PrV} {d : DgV} (h : d ∈ backV ps) : ∃ q ∈ ps, d = ⟨⟨q.p.key, q.p.val, false⟩, q.k, q.v⟩ := by
  unfold backV at h
  rw [List.mem_reverse, List.mem_map] at h
  obtain ⟨q, hq, rfl⟩ := h
  exact ⟨q, hq, rfl⟩
set_option maxRecDepth 100000 in
set_option maxHeartbeats 4000000 in
theorem bookPast_any (HRC : RootC 12)
    (l : List Dg) (a b : Dg) (sa ak av bk bv : Value) (N : Nat) (w : World) (hK : tableAt w) (hN : N ≤ w.heap.size) (ha : Doings w N sa l) (hak : Bytes w N ak a.key) (hav : Bytes w N av a.val) (hbk : Bytes w N bk b.key) (hbv : Bytes w N bv b.val)
    (hlen : l.length * 56 ≤ 140737488351232) (hfa : a.fits) (hfb : b.fits) :
    Calls Tryd.prog 5 #[sa, .agg #[ak, av, .bool a.gone], .agg #[bk, bv, .bool b.gone]] w fun e w' => e = .returned (.bool true) ∧ Below w.heap.size w w' := by
  obtain ⟨o1, c1, rfl, _⟩ := hak.shape
  obtain ⟨o2, c2, rfl, _⟩ := hav.shape
  obtain ⟨o3, c3, rfl, _⟩ := hbk.shape
  obtain ⟨o4, c4, rfl, _⟩ := hbv.shape
  obtain ⟨wa, hwa⟩ : ∃ wa, w.alloc (.cells #[.slice o1 a.key.length c1, .slice o2 a.val.length c2, .bool a.gone] 39) = wa := ⟨_, rfl⟩
  have hsza : wa.heap.size = w.heap.size + 1 := by rw [← hwa]; simp
  obtain ⟨w0, hw0⟩ : ∃ w0, wa.alloc (.cells #[.slice o3 b.key.length c3, .slice o4 b.val.length c4, .bool b.gone] 39) = w0 := ⟨_, rfl⟩
  have hsz0 : w0.heap.size = wa.heap.size + 1 := by rw [← hw0]; simp
  have hb0 : Below w.heap.size w w0 := by rw [← hw0, ← hwa]; exact ((Below.refl _ _).alloc (Nat.le_refl _) _).alloc (by simp) _
  have hrowa : Row w0 w.heap.size 39 [.slice o1 a.key.length c1, .slice o2 a.val.length c2, .bool a.gone] := by
    have := (Row.new w 39 [.slice o1 a.key.length c1, .slice o2 a.val.length c2, .bool a.gone]).alloc (.cells #[.slice o3 b.key.length c3, .slice o4 b.val.length c4, .bool b.gone] 39)
    rw [← hw0, ← hwa]
    exact this
  have hrowb : Row w0 (w.heap.size + 1) 39 [.slice o3 b.key.length c3, .slice o4 b.val.length c4, .bool b.gone] := by rw [← hw0, ← hsza]; exact Row.new _ _ _
  have HAL := hid (alive4_any playC HRC w0 (hK.below hb0 hK.lt))
  have HA := hid ha
  have HAK := hid hak
  have HAV := hid hav
  have HBK := hid hbk
  have HBV := hid hbv
  have HB0 := hid hb0
  have HRA := hid hrowa
  have HRB := hid hrowb
  have HW0 := hid hw0
  clear ha hak hav hbk hbv hK HRC hb0 hrowa hrowb hw0
  go_enter Tryd.func5, Tryd.ntmps5
  go_wp2_with fail
  rw [HW0.out]
  refine HAL.out.mono ?_
  rintro e w1 ⟨rfl, hb1⟩
  have hsz1 := hb1.size
  have HB1 := hid (HB0.out.trans (hb1.mono (by omega)))
  have HRA1 := hid (HRA.out.below hb1 (by omega))
  have HRB1 := hid (HRB.out.below hb1 (by omega))
  obtain ⟨qs, hqs, hsrcq, hokq⟩ := doings_src HA.out
  have HSQ := hid hsrcq
  have HOQ := hid hokq
  obtain ⟨da, hda⟩ : ∃ da : DgV, da = ⟨a, .slice o1 a.key.length c1, .slice o2 a.val.length c2⟩ := ⟨_, rfl⟩
  obtain ⟨db, hdb⟩ : ∃ db : DgV, db = ⟨b, .slice o3 b.key.length c3, .slice o4 b.val.length c4⟩ := ⟨_, rfl⟩
  have HOK := hid (show ∀ w', Below w.heap.size w w' → ∀ q, q ∈ qs ∨ q = da ∨ q = db → q.ok w' N from fun w' hw' q hq => by
    rcases hq with hq | rfl | rfl
    · exact (HOQ.out q hq).below (hw'.mono hN)
    · rw [hda]
      exact ⟨HAK.out.below (hw'.mono hN), HAV.out.below (hw'.mono hN)⟩
    · rw [hdb]
      exact ⟨HBK.out.below (hw'.mono hN), HBV.out.below (hw'.mono hN)⟩)
  have HLQ := hid (show (qs.length + 2) * 56 ≤ 140737488355328 by
    have : qs.length = l.length := by rw [← hqs]; simp
    omega)
  obtain ⟨l1, hl1⟩ : ∃ l1, l ++ [a, b] = l1 := ⟨_, rfl⟩
  obtain ⟨l2, hl2⟩ : ∃ l2, l ++ [b, a] = l2 := ⟨_, rfl⟩
  obtain ⟨pc, hpc⟩ : ∃ pc, (pcode l1).1 = pc := ⟨_, rfl⟩
  obtain ⟨pi, hpi⟩ : ∃ pi, (pcode l1).2 = pi := ⟨_, rfl⟩
  obtain ⟨qc, hqc⟩ : ∃ qc, (pcode l2).1 = qc := ⟨_, rfl⟩
  obtain ⟨qi, hqi⟩ : ∃ qi, (pcode l2).2 = qi := ⟨_, rfl⟩
  have HG1 := hid (show l1 = (qs ++ [da, db]).map (·.d) by rw [List.map_append, hqs, ← hl1, hda, hdb]; rfl)
  have HG2 := hid (show l2 = (qs ++ [db, da]).map (·.d) by rw [List.map_append, hqs, ← hl2, hda, hdb]; rfl)
  have HRA1' := hid (show Row w1 w.heap.size 39 [da.k, da.v, .bool da.d.gone] by rw [hda]; exact HRA1.out)
  have HRB1' := hid (show Row w1 (w.heap.size + 1) 39 [db.k, db.v, .bool db.d.gone] by rw [hdb]; exact HRB1.out)
  have HS1 := hid (HSQ.out.below (HB1.out.mono hN))
  have HO1 := hid (show ∀ q ∈ qs ++ [da, db], q.ok w1 N from fun q hq => HOK.out w1 HB1.out q (by simpa using hq))
  clear hqs hsrcq hokq hb1 HAL hwa
  go_wp2_with fail
  refine pastRegion3 qs da db l1 N N HG1 HS1 (by omega) (by omega) HO1 HLQ HRA1' HRB1' _ (hid ?_)
  intro xmk0 xsrc xapp xld0 xld1 xmkN xapp2 xplay xtup xe0 xe1 vx gx w2 psx hown2 hmap2 hrow2 hgb2 hb12
  rw [hpc, hpi] at hrow2
  have hsz2 := hb12.size
  obtain ⟨ox, cx, rfl, hcx⟩ := hown2.1.shape
  have HX2 := hid hown2
  have HB2 := hid (HB1.out.trans (hb12.mono (by omega)))
  have HRA2 := hid (HRA1.out.below hb12 (by omega))
  have HRB2 := hid (HRB1.out.below hb12 (by omega))
  have HRA2' := hid (HRA1'.out.below hb12 (by omega))
  have HRB2' := hid (HRB1'.out.below hb12 (by omega))
  have HF2 := hid hrow2
  have HS2 := hid (HSQ.out.below (HB2.out.mono hN))
  have HO2 := hid (show ∀ q ∈ qs ++ [db, da], q.ok w2 N from fun q hq => HOK.out w2 HB2.out q (by
    rcases List.mem_append.1 hq with hq | hq
    · exact .inl hq
    · simp at hq
      rcases hq with hq | hq
      · exact .inr (.inr hq)
      · exact .inr (.inl hq)))
  clear hown2 hrow2 hb12
  dsimp only
  go_wp2_with fail
  refine pastRegion4 qs da db l2 N N HG2 HS2 (by omega) (by omega) HO2 HLQ HRA2' HRB2' _ (hid ?_)
  intro ymk0 ysrc yapp yld0 yld1 ymkN yapp2 yplay ytup ye0 ye1 vy gy w3 psy hown3 hmap3 hrow3 hgb3 hb23
  rw [hqc, hqi] at hrow3
  have hsz3 := hb23.size
  obtain ⟨oy, cy, rfl, hcy⟩ := hown3.1.shape
  have hgx : gx < w2.heap.size := HF2.out.lt
  have HX3 := hid (HX2.out.below hb23)
  have HY3 := hid hown3
  have HB3 := hid (HB2.out.trans (hb23.mono (by omega)))
  have HRA3 := hid (HRA2.out.below hb23 (by omega))
  have HRB3 := hid (HRB2.out.below hb23 (by omega))
  have HF3 := hid (HF2.out.below hb23 hgx)
  have HH3 := hid hrow3
  have f0 := HF3.out.cell 0
  have h0 := HH3.out.cell 0
  have a0 := HRA3.out.cell 0
  have b0 := HRB3.out.cell 0
  clear hown3 hrow3 hb23 HX2 HF2 HRA1 HRB1 HRA2 HRB2 HRA1' HRB1' HRA2' HRB2' HS1 HS2 HO1 HO2 HG1 HG2
  dsimp only
  have HPK := hid (show pc ≠ 0 ∨ qc ≠ 0 ∨ ∃ x y, playL l1 = .ok x ∧ playL l2 = .ok y ∧ pout l1 = x ∧ pout l2 = y from by
    rw [← hpc, ← hqc]
    unfold pcode pout
    cases h1 : playL l1 with
    | error e =>
      left
      simp only
      exact playL_code l1 e h1
    | ok x =>
      right
      cases h2 : playL l2 with
      | error e =>
        left
        simp only
        exact playL_code l2 e h2
      | ok y => exact .inr ⟨x, y, rfl, rfl, rfl, rfl⟩)
  clear hpc hpi hqc hqi
  generalize hnx : psx.length = n at *
  have HNX := hid hnx
  clear hnx
  by_cases hpc0 : pc = 0
  · subst hpc0
    by_cases hqc0 : qc = 0
    · subst hqc0
      obtain ⟨x, y, hpx, hpy, hox, hoy⟩ : ∃ x y, playL l1 = .ok x ∧ playL l2 = .ok y ∧ pout l1 = x ∧ pout l2 = y := by
        rcases HPK.out with h | h | h
        · exact absurd rfl h
        · exact absurd rfl h
        · exact h
      rw [hox] at hmap2
      rw [hoy] at hmap3
      have HMX := hid hmap2
      have HMY := hid hmap3
      have HBX := hid (playL_book l1 x hpx)
      have HBY := hid (playL_book l2 y hpy)
      have HXY := hid (show a.key ≠ b.key → x = y from fun hk => play_past l a b x y (by rw [hl1]; exact hpx) (by rw [hl2]; exact hpy) hk)
      have hn200 : n ≤ 200 := by have := HBX.out.2.2; rw [← HMX.out, List.length_map, HNX.out] at this; exact this
      have HS4 := hid (sameB_any a.key b.key (.slice o1 a.key.length c1) (.slice o3 b.key.length c3) N N w3 (HAK.out.below (HB3.out.mono hN)) (HBK.out.below (HB3.out.mono hN)) (by have := hfa.1; omega) (by have := hfb.1; omega))
      clear HPK hpx hpy hox hoy hmap2 hmap3
      by_cases hkk : a.key = b.key
      · rw [decide_eq_true hkk] at HS4
        clear hkk
        go_wp2_with fail
        refine HS4.out.mono ?_
        rintro e w4 ⟨rfl, q4, hw4⟩
        have HB34 := hid (show Below w3.heap.size w3 w4 by rw [hw4]; exact drewN_belowB _ _ _)
        clear hw4 HS4
        have hsz4 := HB34.out.size
        have HB4 := hid (HB3.out.trans (HB34.out.mono (by omega)))
        have HX4 := hid (HX3.out.below HB34.out)
        have HF4 := hid (HF3.out.below HB34.out (by omega))
        clear f0 h0 a0 b0
        go_wp2_with fail
        go_loopw [11, 12] (fun y i wr => ∃ k : Nat, k ≤ n ∧ i = .int .i64 ((k : Int) - 1) ∧ Hid (RowDg wr w4.heap.size y (backV (psx.drop k)) ∧ Below w4.heap.size w4 wr)) (fun _ i _ => (intOf i + 1).toNat)
        case atStart =>
          refine ⟨n, Nat.le_refl _, by go_num, ?_⟩
          refine hid ⟨?_, Below.refl _ _⟩
          rw [List.drop_eq_nil_of_le (by rw [HNX.out]; exact Nat.le_refl _)]
          exact RowDg.nil _ _
        case round =>
          obtain ⟨k, hk, hi, HR⟩ := hrel
          have hszr := HR.out.2.size
          cases k with
          | zero =>
            obtain rfl : u12 = .int .i64 (-1) := hi
            have HBR := hid (HB4.out.trans (HR.out.2.mono (by omega)))
            have HXR := hid (HX4.out.below HR.out.2)
            have HFR := hid (HF4.out.below HR.out.2 (by omega))
            have HPL := hid (playO (back x) u11 wr.heap.size wr (by
              have h1 := HR.out.1
              rw [List.drop_zero] at h1
              have h2 := h1.doings (N := w4.heap.size) hszr (fun q hq => by
                obtain ⟨p, hp, rfl⟩ := mem_backV hq
                have hp' := HX4.out.2 p hp
                exact ⟨hp'.1.bytes.below HR.out.2, hp'.2.bytes.below HR.out.2⟩)
              rw [backV_map, HMX.out] at h2
              exact h2) (Nat.le_refl _) (by have := HBX.out.2.2; unfold back; simp; omega))
            have HPB := hid (play_back x 0 HBX.out.1 HBX.out.2.1 HBX.out.2.2)
            have e1 : pcode (back x) = (0, 0) := by unfold pcode playL; rw [HPB.out]
            have e2 : pout (back x) = x := by unfold pout playL; rw [HPB.out]
            rw [e1, e2] at HPL
            unfold faultV at HPL
            clear e1 e2
            go_wp2_with fail
            refine HPL.out.mono ?_
            rintro e w6 ⟨hb6, vz, rfl, psz, hown6, hmap6⟩
            have hsz6 := hb6.size
            have HF6 := hid (HFR.out.below hb6 (by omega))
            have HX6 := hid (HXR.out.below hb6)
            have HB6 := hid (HBR.out.trans (hb6.mono (by omega)))
            have HZ6 := hid hown6
            have HMZ := hid hmap6
            obtain ⟨oz, cz, rfl, hcz⟩ := hown6.1.shape
            obtain ⟨g0, g1, z0, z1⟩ := HF6.out.two
            obtain ⟨w7, hw7⟩ : ∃ w7, (w6.setCell ⟨gx, 0, none⟩ (.int .i64 0)).setCell ⟨gx, 1, none⟩ (.int .i64 0) = w7 := ⟨_, rfl⟩
            have hg7 : w6.grownBy w7 (some gx) := by rw [← hw7]; exact grown_trans (grown_set _ _ _ _) (grown_set _ _ _ _)
            have HX7 := hid (HX6.out.store HF6.out hg7)
            have HZ7 := hid (HZ6.out.store HF6.out hg7)
            have HF7 := hid (show Row w7 gx 27 [.int .i64 0, .int .i64 0] by rw [← hw7]; exact ((HF6.out.set 0 _).set 1 _))
            have HB7 := hid (show Below w.heap.size w w7 by rw [← hw7]; exact below_set2 HB6.out (by omega) _ _)
            have HS7 := hid (samePr_any x x (.slice ox n cx) (.slice oz psz.length cz) w7.heap.size w7.heap.size w7 (by rw [← HMX.out]; exact HX7.out.pairs) (by rw [← HMZ.out]; exact HZ7.out.pairs) (by have := HBX.out.2.2; omega) (fits_of HBX.out.2.1) (fits_of HBX.out.2.1))
            have k0 := HF7.out.cell 0
            have HW7 := hid hw7
            have k0' : ((w6.setCell ⟨gx, 0, none⟩ (.int .i64 0)).setCell ⟨gx, 1, none⟩ (.int .i64 0)).cell? ⟨gx, 0, none⟩ = some (.int .i64 0) := by rw [hw7]; exact k0
            clear hb6 hown6 hmap6 hg7 hw7 HPL
            go_wp2_with fail
            rw [HW7.out]
            refine HS7.out.mono ?_
            rintro e w8 ⟨bb, rfl, hbb, q8, rfl⟩
            obtain rfl : bb = true := hbb.2 (by trivial)
            clear hbb
            go_wp2
            go_ret
            exact ⟨rfl, HB7.out.trans (drewN_belowB _ _ _)⟩
          | succ j =>
            obtain rfl : u12 = .int .i64 (j : Int) := by rw [hi]; congr 1; omega
            obtain ⟨q, hq⟩ : ∃ q, psx[j]? = some q := ⟨psx[j]'(by rw [HNX.out]; omega), List.getElem?_eq_getElem _⟩
            have HXR := hid (HX4.out.below HR.out.2)
            obtain ⟨gr, rfl, _, hgr, hcells⟩ := HXR.out.1.get (by omega)
            obtain ⟨d0, d1⟩ := hcells j q hq
            have HST := hid (backV_step psx j q hq)
            have HQ4 := hid (HX4.out.2 q (List.mem_of_getElem? hq))
            obtain ⟨oq1, cq1, eq1, _⟩ := HQ4.out.1.shape
            obtain ⟨oq2, cq2, eq2, _⟩ := HQ4.out.2.shape
            rw [eq1] at d0
            rw [eq2] at d1
            have HBL := hid (show (backV (psx.drop (j + 1))).length ≤ 200 by unfold backV; simp; rw [HNX.out]; omega)
            have hjn : (j : Int) < (n : Int) := by omega
            have d0' : wr.drew.cell? ⟨gr, j * 2, none⟩ = some (.slice oq1 q.p.key.length cq1) := d0
            have d1' : wr.drew.cell? ⟨gr, j * 2 + 1, none⟩ = some (.slice oq2 q.p.val.length cq2) := d1
            obtain ⟨wb, hwb⟩ : ∃ wb, (wr.alloc (.cells #[.slice oq1 q.p.key.length cq1, .slice oq2 q.p.val.length cq2, .bool false] 39)).drew = wb := ⟨_, rfl⟩
            have hbb : Below wr.heap.size wr wb := by rw [← hwb]; exact ((Below.refl _ _).alloc (Nat.le_refl _) _).drew
            have HSRC := hid (show SrcDg wb (wr.heap.size + 1) (.slice (some ⟨wr.heap.size, 0, none⟩) 1 1) [⟨⟨q.p.key, q.p.val, false⟩, q.k, q.v⟩] by
              have hrw : Row wb wr.heap.size 39 [.slice oq1 q.p.key.length cq1, .slice oq2 q.p.val.length cq2, .bool false] := by rw [← hwb]; exact (Row.new wr _ _).drew
              exact srcDg_one (by rw [eq1]; exact hrw.cell 0) (by rw [eq2]; exact hrw.cell 1) (hrw.cell 2))
            have HRO := hid (HR.out.1.below hbb)
            have HBW := hid (HR.out.2.trans (hbb.mono (by omega)))
            have HONE := hid (show ∀ z ∈ [(⟨⟨q.p.key, q.p.val, false⟩, q.k, q.v⟩ : DgV)], z.k.oneCell' = true ∧ z.v.oneCell' = true from fun z hz => by
              obtain rfl : z = ⟨⟨q.p.key, q.p.val, false⟩, q.k, q.v⟩ := by simpa using hz
              exact ⟨HQ4.out.1.one, HQ4.out.2.one⟩)
            have HWB := hid hwb
            have HNUM := hid (show ((backV (psx.drop (j + 1))).length + 1) * 56 ≤ 140737488355328 by have := HBL.out; omega)
            have HSZB := hid HBW.out.size
            have HSC := hid (show ∀ W, Below wr.heap.size wr W → W.cell? ⟨gr, j * 2, none⟩ = some (.slice oq1 q.p.key.length cq1) ∧ W.cell? ⟨gr, j * 2 + 1, none⟩ = some (.slice oq2 q.p.val.length cq2) from fun W hW => ⟨(hW.cell (p := ⟨gr, j * 2, none⟩) hgr).trans d0, (hW.cell (p := ⟨gr, j * 2 + 1, none⟩) hgr).trans d1⟩)
            have HSD := hid (show ∀ W, Below w4.heap.size wb W → W.cell? ⟨gr, j * 2, none⟩ = some (.slice oq1 q.p.key.length cq1) ∧ W.cell? ⟨gr, j * 2 + 1, none⟩ = some (.slice oq2 q.p.val.length cq2) from fun W hW => by
              have hg4 : gr < w4.heap.size := (HX4.out.1.get (by omega)).elim fun g4 h4 => by
                have he := h4.1
                simp at he
                rw [he]
                exact h4.2.2.1
              have s1 := HSC.out wb hbb
              exact ⟨(hW.cell (p := ⟨gr, j * 2, none⟩) hg4).trans s1.1, (hW.cell (p := ⟨gr, j * 2 + 1, none⟩) hg4).trans s1.2⟩)
            have s0 := HSC.out wr.drew (Below.refl _ _).drew
            have s1 := HSC.out wb hbb
            rw [← hwb] at HSRC HRO HBW HSZB HSD s1
            clear hcells hq eq1 eq2 hbb hwb d0 d1 d0' d1'
            go_wp2_with fail
            go_region_held3 (fun W => W.cell? ⟨gr, j * 2, none⟩ = some (.slice oq1 q.p.key.length cq1) ∧ W.cell? ⟨gr, j * 2 + 1, none⟩ = some (.slice oq2 q.p.val.length cq2)) (first | assumption) (first
              | (refine step_append_dgs rfl (.tmp 65) (.tmp 77) rfl w4.heap.size u11 (backV (psx.drop (j + 1))) ?_ HRO.out (.slice (some ⟨wr.heap.size, 0, none⟩) 1 1) [⟨⟨q.p.key, q.p.val, false⟩, q.k, q.v⟩] ?_ HSRC.out HONE.out HNUM.out HSZB.out ?_; rfl; rfl; intro v5 w5 hr5 hb5 hg5; have HR5 := hid hr5; have HB5 := hid (HBW.out.trans hb5); have s5 := HSD.out _ hb5; clear hr5 hb5 hg5))
            all_goals
              go_wp2_with fail
              exact ⟨⟨j, by omega, rfl, hid ⟨by rw [HST.out]; exact HR5.out, HB5.out⟩⟩, by simp [intOf]⟩
      · rw [decide_eq_false hkk] at HS4
        have hxy := HXY.out hkk
        clear hkk
        subst hxy
        go_wp2_with fail
        refine HS4.out.mono ?_
        rintro e w3b ⟨rfl, q4, hw3b⟩
        have hb3b : Below w3.heap.size w3 w3b := by rw [hw3b]; exact drewN_belowB _ _ _
        have HXB := hid (HX3.out.below hb3b)
        have HYB := hid (HY3.out.below hb3b)
        have HS5 := hid (samePr_any x x (.slice ox n cx) (.slice oy psy.length cy) w3b.heap.size w3b.heap.size w3b (by rw [← HMX.out]; exact HXB.out.pairs) (by rw [← HMY.out]; exact HYB.out.pairs) (by have := HBX.out.2.2; omega) (fits_of HBX.out.2.1) (fits_of HBX.out.2.1))
        have HB3B := hid hb3b
        clear hb3b hw3b HS4
        go_wp2_with fail
        refine HS5.out.mono ?_
        rintro e w4 ⟨bb, rfl, hbb, q5, hw4⟩
        obtain rfl : bb = true := hbb.2 (by trivial)
        have HB34 := hid (show Below w3.heap.size w3 w4 from HB3B.out.trans (by rw [hw4]; exact drewN_belowB _ _ _))
        clear hw4 hbb HS5
        have hsz4 := HB34.out.size
        have HB4 := hid (HB3.out.trans (HB34.out.mono (by omega)))
        have HX4 := hid (HX3.out.below HB34.out)
        have HF4 := hid (HF3.out.below HB34.out (by omega))
        clear f0 h0 a0 b0
        go_wp2_with fail
        go_loopw [11, 12] (fun y i wr => ∃ k : Nat, k ≤ n ∧ i = .int .i64 ((k : Int) - 1) ∧ Hid (RowDg wr w4.heap.size y (backV (psx.drop k)) ∧ Below w4.heap.size w4 wr)) (fun _ i _ => (intOf i + 1).toNat)
        case atStart =>
          refine ⟨n, Nat.le_refl _, by go_num, ?_⟩
          refine hid ⟨?_, Below.refl _ _⟩
          rw [List.drop_eq_nil_of_le (by rw [HNX.out]; exact Nat.le_refl _)]
          exact RowDg.nil _ _
        case round =>
          obtain ⟨k, hk, hi, HR⟩ := hrel
          have hszr := HR.out.2.size
          cases k with
          | zero =>
            obtain rfl : u12 = .int .i64 (-1) := hi
            have HBR := hid (HB4.out.trans (HR.out.2.mono (by omega)))
            have HXR := hid (HX4.out.below HR.out.2)
            have HFR := hid (HF4.out.below HR.out.2 (by omega))
            have HPL := hid (playO (back x) u11 wr.heap.size wr (by
              have h1 := HR.out.1
              rw [List.drop_zero] at h1
              have h2 := h1.doings (N := w4.heap.size) hszr (fun q hq => by
                obtain ⟨p, hp, rfl⟩ := mem_backV hq
                have hp' := HX4.out.2 p hp
                exact ⟨hp'.1.bytes.below HR.out.2, hp'.2.bytes.below HR.out.2⟩)
              rw [backV_map, HMX.out] at h2
              exact h2) (Nat.le_refl _) (by have := HBX.out.2.2; unfold back; simp; omega))
            have HPB := hid (play_back x 0 HBX.out.1 HBX.out.2.1 HBX.out.2.2)
            have e1 : pcode (back x) = (0, 0) := by unfold pcode playL; rw [HPB.out]
            have e2 : pout (back x) = x := by unfold pout playL; rw [HPB.out]
            rw [e1, e2] at HPL
            unfold faultV at HPL
            clear e1 e2
            go_wp2_with fail
            refine HPL.out.mono ?_
            rintro e w6 ⟨hb6, vz, rfl, psz, hown6, hmap6⟩
            have hsz6 := hb6.size
            have HF6 := hid (HFR.out.below hb6 (by omega))
            have HX6 := hid (HXR.out.below hb6)
            have HB6 := hid (HBR.out.trans (hb6.mono (by omega)))
            have HZ6 := hid hown6
            have HMZ := hid hmap6
            obtain ⟨oz, cz, rfl, hcz⟩ := hown6.1.shape
            obtain ⟨g0, g1, z0, z1⟩ := HF6.out.two
            obtain ⟨w7, hw7⟩ : ∃ w7, (w6.setCell ⟨gx, 0, none⟩ (.int .i64 0)).setCell ⟨gx, 1, none⟩ (.int .i64 0) = w7 := ⟨_, rfl⟩
            have hg7 : w6.grownBy w7 (some gx) := by rw [← hw7]; exact grown_trans (grown_set _ _ _ _) (grown_set _ _ _ _)
            have HX7 := hid (HX6.out.store HF6.out hg7)
            have HZ7 := hid (HZ6.out.store HF6.out hg7)
            have HF7 := hid (show Row w7 gx 27 [.int .i64 0, .int .i64 0] by rw [← hw7]; exact ((HF6.out.set 0 _).set 1 _))
            have HB7 := hid (show Below w.heap.size w w7 by rw [← hw7]; exact below_set2 HB6.out (by omega) _ _)
            have HS7 := hid (samePr_any x x (.slice ox n cx) (.slice oz psz.length cz) w7.heap.size w7.heap.size w7 (by rw [← HMX.out]; exact HX7.out.pairs) (by rw [← HMZ.out]; exact HZ7.out.pairs) (by have := HBX.out.2.2; omega) (fits_of HBX.out.2.1) (fits_of HBX.out.2.1))
            have k0 := HF7.out.cell 0
            have HW7 := hid hw7
            have k0' : ((w6.setCell ⟨gx, 0, none⟩ (.int .i64 0)).setCell ⟨gx, 1, none⟩ (.int .i64 0)).cell? ⟨gx, 0, none⟩ = some (.int .i64 0) := by rw [hw7]; exact k0
            clear hb6 hown6 hmap6 hg7 hw7 HPL
            go_wp2_with fail
            rw [HW7.out]
            refine HS7.out.mono ?_
            rintro e w8 ⟨bb, rfl, hbb, q8, rfl⟩
            obtain rfl : bb = true := hbb.2 (by trivial)
            clear hbb
            go_wp2
            go_ret
            exact ⟨rfl, HB7.out.trans (drewN_belowB _ _ _)⟩
          | succ j =>
            obtain rfl : u12 = .int .i64 (j : Int) := by rw [hi]; congr 1; omega
            obtain ⟨q, hq⟩ : ∃ q, psx[j]? = some q := ⟨psx[j]'(by rw [HNX.out]; omega), List.getElem?_eq_getElem _⟩
            have HXR := hid (HX4.out.below HR.out.2)
            obtain ⟨gr, rfl, _, hgr, hcells⟩ := HXR.out.1.get (by omega)
            obtain ⟨d0, d1⟩ := hcells j q hq
            have HST := hid (backV_step psx j q hq)
            have HQ4 := hid (HX4.out.2 q (List.mem_of_getElem? hq))
            obtain ⟨oq1, cq1, eq1, _⟩ := HQ4.out.1.shape
            obtain ⟨oq2, cq2, eq2, _⟩ := HQ4.out.2.shape
            rw [eq1] at d0
            rw [eq2] at d1
            have HBL := hid (show (backV (psx.drop (j + 1))).length ≤ 200 by unfold backV; simp; rw [HNX.out]; omega)
            have hjn : (j : Int) < (n : Int) := by omega
            have d0' : wr.drew.cell? ⟨gr, j * 2, none⟩ = some (.slice oq1 q.p.key.length cq1) := d0
            have d1' : wr.drew.cell? ⟨gr, j * 2 + 1, none⟩ = some (.slice oq2 q.p.val.length cq2) := d1
            obtain ⟨wb, hwb⟩ : ∃ wb, (wr.alloc (.cells #[.slice oq1 q.p.key.length cq1, .slice oq2 q.p.val.length cq2, .bool false] 39)).drew = wb := ⟨_, rfl⟩
            have hbb : Below wr.heap.size wr wb := by rw [← hwb]; exact ((Below.refl _ _).alloc (Nat.le_refl _) _).drew
            have HSRC := hid (show SrcDg wb (wr.heap.size + 1) (.slice (some ⟨wr.heap.size, 0, none⟩) 1 1) [⟨⟨q.p.key, q.p.val, false⟩, q.k, q.v⟩] by
              have hrw : Row wb wr.heap.size 39 [.slice oq1 q.p.key.length cq1, .slice oq2 q.p.val.length cq2, .bool false] := by rw [← hwb]; exact (Row.new wr _ _).drew
              exact srcDg_one (by rw [eq1]; exact hrw.cell 0) (by rw [eq2]; exact hrw.cell 1) (hrw.cell 2))
            have HRO := hid (HR.out.1.below hbb)
            have HBW := hid (HR.out.2.trans (hbb.mono (by omega)))
            have HONE := hid (show ∀ z ∈ [(⟨⟨q.p.key, q.p.val, false⟩, q.k, q.v⟩ : DgV)], z.k.oneCell' = true ∧ z.v.oneCell' = true from fun z hz => by
              obtain rfl : z = ⟨⟨q.p.key, q.p.val, false⟩, q.k, q.v⟩ := by simpa using hz
              exact ⟨HQ4.out.1.one, HQ4.out.2.one⟩)
            have HWB := hid hwb
            have HNUM := hid (show ((backV (psx.drop (j + 1))).length + 1) * 56 ≤ 140737488355328 by have := HBL.out; omega)
            have HSZB := hid HBW.out.size
            have HSC := hid (show ∀ W, Below wr.heap.size wr W → W.cell? ⟨gr, j * 2, none⟩ = some (.slice oq1 q.p.key.length cq1) ∧ W.cell? ⟨gr, j * 2 + 1, none⟩ = some (.slice oq2 q.p.val.length cq2) from fun W hW => ⟨(hW.cell (p := ⟨gr, j * 2, none⟩) hgr).trans d0, (hW.cell (p := ⟨gr, j * 2 + 1, none⟩) hgr).trans d1⟩)
            have HSD := hid (show ∀ W, Below w4.heap.size wb W → W.cell? ⟨gr, j * 2, none⟩ = some (.slice oq1 q.p.key.length cq1) ∧ W.cell? ⟨gr, j * 2 + 1, none⟩ = some (.slice oq2 q.p.val.length cq2) from fun W hW => by
              have hg4 : gr < w4.heap.size := (HX4.out.1.get (by omega)).elim fun g4 h4 => by
                have he := h4.1
                simp at he
                rw [he]
                exact h4.2.2.1
              have s1 := HSC.out wb hbb
              exact ⟨(hW.cell (p := ⟨gr, j * 2, none⟩) hg4).trans s1.1, (hW.cell (p := ⟨gr, j * 2 + 1, none⟩) hg4).trans s1.2⟩)
            have s0 := HSC.out wr.drew (Below.refl _ _).drew
            have s1 := HSC.out wb hbb
            rw [← hwb] at HSRC HRO HBW HSZB HSD s1
            clear hcells hq eq1 eq2 hbb hwb d0 d1 d0' d1'
            go_wp2_with fail
            go_region_held3 (fun W => W.cell? ⟨gr, j * 2, none⟩ = some (.slice oq1 q.p.key.length cq1) ∧ W.cell? ⟨gr, j * 2 + 1, none⟩ = some (.slice oq2 q.p.val.length cq2)) (first | assumption) (first
              | (refine step_append_dgs rfl (.tmp 65) (.tmp 77) rfl w4.heap.size u11 (backV (psx.drop (j + 1))) ?_ HRO.out (.slice (some ⟨wr.heap.size, 0, none⟩) 1 1) [⟨⟨q.p.key, q.p.val, false⟩, q.k, q.v⟩] ?_ HSRC.out HONE.out HNUM.out HSZB.out ?_; rfl; rfl; intro v5 w5 hr5 hb5 hg5; have HR5 := hid hr5; have HB5 := hid (HBW.out.trans hb5); have s5 := HSD.out _ hb5; clear hr5 hb5 hg5))
            all_goals
              go_wp2_with fail
              exact ⟨⟨j, by omega, rfl, hid ⟨by rw [HST.out]; exact HR5.out, HB5.out⟩⟩, by simp [intOf]⟩
    · have e2 : (qc != 0) = true := by simpa using hqc0
      go_wp2
      go_ret
      exact ⟨rfl, HB3.out⟩
  · have e1 : (pc != 0) = true := by simpa using hpc0
    go_wp2
    go_ret
    exact ⟨rfl, HB3.out⟩
end Go.Proofs.YtgpainbnldghkaaDoor
