/-
  What the document's At answers: a book's proof of the pair at a place.
-/
import Derived.Test.YtjfhhlgblmjonaaDoorProofAtW
import Derived.Test.YtjfhhlgblmjonaaDoorRef4B
import Derived.Deep.RegionLaw
namespace Go.Proofs.YtjfhhlgblmjonaaDoor
open Go.RowKit

theorem src_lh {w : World} {M : Nat} {oa : Option Addr} {n ca : Nat} {ps : List PrV} (h : SrcPr w M (.slice oa n ca) ps) (kd ke : IntKind) (i j : Nat) (hij : i ≤ j) (hj : j ≤ n) :
    ∃ v, (∀ w', (Instr.sliceAt 22 (.slice oa n ca) (some (.int kd (i : Int))) (some (.int ke (j : Int))) none).run Tryd.prog w' = .ok v w') ∧ SrcPr w M v ((ps.drop i).take (j - i)) := by
  have hc : n ≤ ca := by obtain ⟨oa', ca', he, hc⟩ := h.shape; simp at he; omega
  refine ⟨sliced oa i j ca 2, fun w' => ?_, src_between h i j hij hj⟩
  rw [run_sliceAt_slice w' _ _ _ _ _ elemPr, run_slice_lh w' _ _ _ _ elemPr kd ke (i : Int) (j : Int) (by omega) (by omega) (by omega), sizePr]
  rfl
theorem KeepT.tn {t : TypeId} {w w' : World} (h : KeepT t w w') {base : Nat} {v : Value} {ts : List Tn} (ho : RowTn w base v ts) (ht : 53 ≠ t) : RowTn w' base v ts := by
  obtain ⟨h1, h2⟩ := ho
  refine ⟨h1, ?_⟩
  rcases h2 with h2 | ⟨g, cap, cur, h3, h4, h5, h6⟩
  · exact .inl h2
  · exact .inr ⟨g, cap, cur, h3, h4, (h g _ _ _ h5 ht).trans h5, h6⟩
theorem wayL_in : ∀ (n i a : Nat), ∀ t ∈ wayL i n a, t.frm + t.n ≤ a + n := by
  intro n
  induction n using Nat.strongRecOn with
  | _ n ih =>
    intro i a t ht
    by_cases h1 : 1 < n
    · have hh := halfN_lt n h1
      by_cases hik : i < halfN n
      · rw [wayL_left i n a h1 hik] at ht
        rcases List.mem_cons.1 ht with rfl | ht
        · simp
          omega
        · have := ih (halfN n) (by omega) i a t ht
          omega
      · rw [wayL_right i n a h1 hik] at ht
        rcases List.mem_cons.1 ht with rfl | ht
        · simp
          omega
        · have := ih (n - halfN n) (by omega) (i - halfN n) (a + halfN n) t ht
          omega
    · rw [wayL_one i n a h1] at ht
      cases ht
/-- the digests beside the way, the lowest first: so many of them -/
def pathK (l : List Pr) (ws : List Tn) (j : Nat) : List (List (BitVec 8)) := (ws.reverse.take j).map (sideD l)
theorem pathK_zero (l : List Pr) (ws : List Tn) : pathK l ws 0 = [] := by unfold pathK; simp
theorem pathK_succ (l : List Pr) (ws : List Tn) (j : Nat) (t : Tn) (hj : j < ws.length) (ht : ws[ws.length - 1 - j]? = some t) : pathK l ws (j + 1) = pathK l ws j ++ [sideD l t] := by
  unfold pathK
  rw [List.take_add_one, List.getElem?_reverse hj, ht]
  simp
theorem pathK_all (l : List Pr) (ws : List Tn) : pathK l ws ws.length = (ws.map (sideD l)).reverse := by
  unfold pathK
  rw [List.take_of_length_le (by simp), List.map_reverse]
theorem pathK_len (l : List Pr) (ws : List Tn) (j : Nat) (hj : j ≤ ws.length) : (pathK l ws j).length = j := by
  unfold pathK
  simp
  omega
set_option maxRecDepth 100000 in
set_option maxHeartbeats 4000000 in
theorem refAt_any (l : List Pr) (i : Nat) (q : Pr) (sv : Value) (N : Nat) (w : World) (hN : N ≤ w.heap.size) (hb : Pairs w N sv l) (hq : l[i]? = some q) (hf : Fits l) (hn : l.length ≤ 200) :
    Calls Tryd.prog 19 #[sv, .int .i64 (i : Int)] w fun e w' => Below w.heap.size w w' ∧ ∃ o1 n1 c1 o2 n2 c2 o3 n3 c3, e = .returned (.agg #[.int .i64 (i : Int), .int .i64 (l.length : Int), .slice o1 n1 c1, .slice o2 n2 c2, .slice o3 n3 c3]) ∧
      Bytes w' N (.slice o1 n1 c1) q.key ∧ Bytes w' N (.slice o2 n2 c2) q.val ∧ OwnL w' w.heap.size (.slice o3 n3 c3) (proofAt l i q).path := by
  have hil : i < l.length := (List.getElem?_eq_some_iff.1 hq).1
  obtain ⟨ps, hps, hsrc, hok⟩ := pairs_src hb
  have hpl : ps.length = l.length := by rw [← hps]; simp
  obtain ⟨oa, ca, rfl, hca⟩ := hb.shape
  obtain ⟨b, o, rfl, hcells⟩ := hb.some (by omega)
  obtain ⟨hbN, vk, vv, d0, d1, hvk, hvv⟩ := hcells i q hq
  obtain ⟨o1, c1, rfl, _⟩ := hvk.shape
  obtain ⟨o2, c2, rfl, _⟩ := hvv.shape
  obtain ⟨w0, hw0⟩ : ∃ w0, w.alloc (.cells #[.int .i64 0, .int .i64 0, .slice none 0 0, .slice none 0 0, .slice none 0 0] 26) = w0 := ⟨_, rfl⟩
  have hsz0 : w0.heap.size = w.heap.size + 1 := by rw [← hw0]; simp
  have hb0 : Below w.heap.size w w0 := by rw [← hw0]; exact (Below.refl _ _).alloc (Nat.le_refl _) _
  have hr0 : Row w0 w.heap.size 26 [.int .i64 0, .int .i64 0, .slice none 0 0, .slice none 0 0, .slice none 0 0] := by rw [← hw0]; exact Row.new _ _ _
  have e0 := (hb0.cell (p := ⟨b, o + i * 2, none⟩) (show b < w.heap.size by omega)).trans d0
  have e1 := (hb0.cell (p := ⟨b, o + i * 2 + 1, none⟩) (show b < w.heap.size by omega)).trans d1
  have hax : ∀ (ob : Obj) (x : Addr), x.block < w0.heap.size → (w0.alloc ob).cell? x = w0.cell? x := fun ob x hx => ((Below.refl w0.heap.size w0).alloc (Nat.le_refl _) ob).cell hx
  have e2 := fun ob => (hax ob ⟨b, o + i * 2, none⟩ (show b < w0.heap.size by omega)).trans e0
  have e3 := fun ob => (hax ob ⟨b, o + i * 2 + 1, none⟩ (show b < w0.heap.size by omega)).trans e1
  generalize hL : l.length = L at *
  have hiL : (i : Int) < (L : Int) := by omega
  have HLL := hid hL
  have HQ := hid hq
  have HF := hid hf
  have HPS := hid hps
  have HSRC := hid hsrc
  have HOK := hid hok
  have HVK := hid hvk
  have HVV := hid hvv
  have HB0 := hid hb0
  have HR0 := hid hr0
  have HPL := hid hpl
  clear hax hL hq hf hps hsrc hok hvk hvv hb0 hr0 hb hcells d0 d1 hpl
  go_enter Tryd.func19, Tryd.ntmps19
  go_wp2_with fail
  go_region
  obtain ⟨w1, hw1⟩ : ∃ w1, (w0.alloc (.cells #[.int .i64 (i : Int), .int .i64 (L : Int), .slice o1 q.key.length c1, .slice o2 q.val.length c2, .slice none 0 0] 26)).drew = w1 := ⟨_, rfl⟩
  have hsz1 : w1.heap.size = w.heap.size + 2 := by rw [← hw1]; simp [hsz0]
  have hb1 : Below w0.heap.size w0 w1 := by rw [← hw1]; exact ((Below.refl _ _).alloc (Nat.le_refl _) _).drew
  have hr1 : Row w1 (w.heap.size + 1) 26 [.int .i64 (i : Int), .int .i64 (L : Int), .slice o1 q.key.length c1, .slice o2 q.val.length c2, .slice none 0 0] := by rw [← hw1, ← hsz0]; exact (Row.new _ _ _).drew
  have HR1 := hid hr1
  have HR01 := hid (HR0.out.below hb1 (by omega))
  have HB1 := hid (HB0.out.trans (hb1.mono (by omega)))
  have HWY := hid (refWay_any i L w1 (by omega) (by omega))
  obtain ⟨ws, hws⟩ : ∃ ws, wayL i L 0 = ws := ⟨_, rfl⟩
  rw [hws] at HWY
  have HWS := hid hws
  have HWL := hid (show ws.length ≤ 8 by rw [← hws]; exact wayL_short 8 _ _ _ (by omega))
  clear hws hb1 hr1 e0 e1 e2 e3 hw0 hbN
  go_wp2_with fail
  refine HWY.out.mono ?_
  rintro e w2 ⟨vw, rfl, hrw, hb2⟩
  have hsz2 := hb2.size
  obtain ⟨ow, cw, rfl, hcw⟩ := hrw.shape
  have HRW := hid hrw
  have HB2 := hid (HB1.out.trans (hb2.mono (by omega)))
  have HR2 := hid (HR1.out.below hb2 (by omega))
  have HR02 := hid (HR01.out.below hb2 (by omega))
  clear hrw hb2 HWY hw1
  generalize hm : ws.length = m at *
  have HM := hid hm
  have hm8 : m ≤ 8 := HWL.out
  clear hm
  go_wp2_with fail
  go_loopw [7] (fun s7 wr => ∃ (j : Nat) (x : Int), j ≤ m ∧ s7 = .int .i64 x ∧ x = (m : Int) - 1 - (j : Int) ∧ Hid (Below w.heap.size w wr ∧ w2.heap.size ≤ wr.heap.size ∧ Row wr w.heap.size 26 [.int .i64 0, .int .i64 0, .slice none 0 0, .slice none 0 0, .slice none 0 0] ∧ RowTn wr w1.heap.size (.slice ow m cw) ws ∧
    ∃ op np cp, Row wr (w.heap.size + 1) 26 [.int .i64 (i : Int), .int .i64 (L : Int), .slice o1 q.key.length c1, .slice o2 q.val.length c2, .slice op np cp] ∧ OwnL wr w.heap.size (.slice op np cp) (pathK l ws j))) (fun s7 _ => (intOf s7 + 1).toNat)
  case atStart => exact ⟨0, _, Nat.zero_le _, rfl, by go_num, hid ⟨HB2.out, Nat.le_refl _, HR02.out, HRW.out, _, _, _, HR2.out, by rw [pathK_zero]; exact OwnL.nil _ _⟩⟩
  case round =>
    obtain ⟨j, x, hj, rfl, hx, HR⟩ := hrel
    obtain ⟨op, np, cp, hrp, hown⟩ := HR.out.2.2.2.2
    have HRP := hid hrp
    have HOW := hid hown
    have HRZ := hid HR.out.2.2.1
    have HBR := hid HR.out.1
    have HRT := hid HR.out.2.2.2.1
    have hszr := HR.out.2.1
    clear hrp hown
    by_cases hlt : j < m
    · obtain ⟨t, ht⟩ : ∃ t, ws[m - 1 - j]? = some t := ⟨ws[m - 1 - j]'(by rw [HM.out]; omega), List.getElem?_eq_getElem _⟩
      obtain ⟨gw, rfl, _, hgw, hcw2⟩ := HRT.out.get (by omega)
      obtain ⟨_, t1, t2⟩ := hcw2 (m - 1 - j) t ht
      have hin := wayL_in L i 0 t (by rw [HWS.out]; exact List.mem_of_getElem? ht)
      have HPK := hid (pathK_succ l ws j t (by rw [HM.out]; exact hlt) (by rw [HM.out]; exact ht))
      have HLN := hid (show (pathK l ws j).length ≤ 1000000 by rw [pathK_len l ws j (by rw [HM.out]; omega)]; omega)
      obtain ⟨jj, hjj⟩ : ∃ jj, m - 1 - j = jj := ⟨_, rfl⟩
      rw [hjj] at t1 t2
      obtain rfl : x = (jj : Int) := by omega
      obtain ⟨vs, hsl, hvs⟩ := src_lh HSRC.out .i64 .i64 t.frm (t.frm + t.n) (by omega) (by omega)
      rw [Nat.add_sub_cancel_left] at hvs
      rw [Int.natCast_add] at hsl
      obtain ⟨o3, c3, hv3, _⟩ := hvs.shape
      generalize hn3 : ((ps.drop t.frm).take t.n).length = n3 at hv3
      subst hv3
      have HBD := hid (show Below w.heap.size w wr.drew from HBR.out.drew)
      have HTR := hid (show Calls Tryd.prog 41 #[.slice o3 n3 c3] wr.drew (fun e w' => ∃ oa nv cap, e = .returned (.slice oa nv cap) ∧ OwnB w' wr.heap.size (.slice oa nv cap) (sideD l t) ∧ Below wr.heap.size wr w') from by
        have h := refTree_any ((ps.drop t.frm).take t.n).length ((ps.drop t.frm).take t.n) (.slice o3 n3 c3) N N wr.drew (Nat.le_refl _) (Nat.le_trans hN HBD.out.size) (Nat.le_trans hN HBD.out.size) (hvs.below (HBD.out.mono hN)) (fun p hp => (HOK.out p (List.mem_of_mem_drop (List.mem_of_mem_take hp))).below (HBD.out.mono hN)) (fun p hp => by
          have := HF.out p.p (by rw [← HPS.out]; exact List.mem_map_of_mem (List.mem_of_mem_drop (List.mem_of_mem_take hp)))
          exact ⟨by omega, by omega⟩) (by have := HPL.out; simp; omega)
        refine h.mono ?_
        rintro e w' ⟨a1, a2, a3, rfl, h1, h2⟩
        refine ⟨a1, a2, a3, rfl, ?_, (Below.refl wr.heap.size wr).drew.trans h2⟩
        rw [List.map_take, List.map_drop, HPS.out] at h1
        exact h1)
      obtain ⟨y, hy⟩ : ∃ y, sideD l t = y := ⟨_, rfl⟩
      rw [hy] at HTR HPK
      have p4 := HRP.out.cell 4
      have j2 : IntKind.i64.wrap ((t.frm : Int) + (t.n : Int)) = (t.frm : Int) + (t.n : Int) := by rw [IntKind.wrap_i64]; omega
      have j4 : (jj : Int) < (m : Int) := by omega
      have hge : decide ((0 : Int) ≤ (jj : Int)) = true := by simp
      have HSZ := hid (show w.heap.size ≤ wr.heap.size ∧ w.heap.size + 1 < wr.heap.size ∧ w2.heap.size ≤ wr.heap.size by omega)
      have HFIN := hid (show ∀ (wx : World) (x : Value), Below w.heap.size w wx → Row wx w.heap.size 26 [.int .i64 0, .int .i64 0, .slice none 0 0, .slice none 0 0, .slice none 0 0] → Row wx (w.heap.size + 1) 26 [.int .i64 (i : Int), .int .i64 (L : Int), .slice o1 q.key.length c1, .slice o2 q.val.length c2, .slice op np cp] → OwnL wx w.heap.size x (pathK l ws j ++ [y]) → RowTn wx w1.heap.size (.slice (some ⟨gw, 0, none⟩) m cw) ws →
          Below w.heap.size w (wx.setCell ⟨w.heap.size + 1, 4, none⟩ x) ∧ Row (wx.setCell ⟨w.heap.size + 1, 4, none⟩ x) w.heap.size 26 [.int .i64 0, .int .i64 0, .slice none 0 0, .slice none 0 0, .slice none 0 0] ∧ Row (wx.setCell ⟨w.heap.size + 1, 4, none⟩ x) (w.heap.size + 1) 26 [.int .i64 (i : Int), .int .i64 (L : Int), .slice o1 q.key.length c1, .slice o2 q.val.length c2, x] ∧ OwnL (wx.setCell ⟨w.heap.size + 1, 4, none⟩ x) w.heap.size x (pathK l ws j ++ [y]) ∧ RowTn (wx.setCell ⟨w.heap.size + 1, 4, none⟩ x) w1.heap.size (.slice (some ⟨gw, 0, none⟩) m cw) ws from fun wx x hb h0 h2 h3 h4 =>
        ⟨hb.setCell (Nat.le_succ _) _, h0.other _ (by simp), h2.set 4 x, h3.keep (keepT_set h2 4 x) (by decide) (by decide), (keepT_set h2 4 x).tn h4 (by decide)⟩)
      clear hcw2 ht hvs hy hn3 hin hszr hgw HR hx hsz1 hsz2
      go_wp2_with fail
      go_region_law (first
        | (refine step_append_L rfl (.tmp 34) (.tmp 54) rfl w.heap.size (.slice op np cp) (pathK l ws j) ?_ HO5.out w4.heap.size (.slice o4 n4 c4) y ?_ HN5.out HY5.out HLN.out HB5.out.size ?_; rfl; rfl; intro v6 w6 ho6 hb6 hk6; obtain ⟨o6, c6, hv6, _⟩ := ho6.shape; generalize (pathK l ws j ++ [y]).length = n6 at hv6; subst hv6; have HRP6 := hid (hk6.row HRP5.out (by decide)); have q4 := HRP6.out.cell 4; have q5 := HRP6.out.frozen 4; obtain ⟨w7, hw7⟩ : ∃ w7, w6.setCell ⟨w.heap.size + 1, 4, none⟩ (.slice o6 n6 c6) = w7 := ⟨_, rfl⟩; have HF7 := hid (HFIN.out w6 (.slice o6 n6 c6) (HB5.out.trans hb6) (hk6.row HRZ5.out (by decide)) HRP6.out ho6 (hk6.tn HRT5.out (by decide))); rw [hw7] at HF7; have HS7 := hid (show wr.heap.size ≤ w7.heap.size by rw [← hw7]; simp; exact Nat.le_trans HS5.out hb6.size); clear ho6 hb6 hk6)
        | (go_simp; go_at_call 41; refine HTR.out.mono ?_; rintro e w4 ⟨o4, n4, c4, rfl, hown4, hb4⟩; have hz4 := hb4.size; have HRP4 := hid (HRP.out.below hb4 HSZ.out.2.1); have HRZ4 := hid (HRZ.out.below hb4 (by have := HSZ.out; omega)); have HO4 := hid (HOW.out.below hb4); have HRT4 := hid (HRT.out.below hb4); have HY4 := hid (hown4.mono HSZ.out.1); have HB4 := hid (HBR.out.trans (hb4.mono HSZ.out.1)); have r4 := HRP4.out.cell 4; obtain ⟨w5, hw5⟩ : ∃ w5, w4.alloc (.cells #[.slice o4 n4 c4] 23) = w5 := ⟨_, rfl⟩; have hb5 : Below w4.heap.size w4 w5 := (by rw [← hw5]; exact (Below.refl _ _).alloc (Nat.le_refl _) _); have HN5 := hid (show Row w5 w4.heap.size 23 [.slice o4 n4 c4] by rw [← hw5]; exact Row.new _ _ _); have hz5 := hb5.size; have HRP5 := hid (HRP4.out.below hb5 (by have := HSZ.out; omega)); have HRZ5 := hid (HRZ4.out.below hb5 (by have := HSZ.out; omega)); have HO5 := hid (HO4.out.below hb5); have HRT5 := hid (HRT4.out.below hb5); have HY5 := hid (HY4.out.below hb5); have HB5 := hid (HB4.out.trans (hb5.mono (by have := HSZ.out; omega))); have HS5 := hid (Nat.le_trans hz4 hz5); have r5 := HRP5.out.cell 4; clear hown4 hb4 hb5))
      all_goals
        go_wp2_with fail
        have h7 := HF7.out
        exact ⟨⟨j + 1, _, by omega, rfl, by go_num, hid ⟨h7.1, Nat.le_trans HSZ.out.2.2 HS7.out, h7.2.1, h7.2.2.2.2, _, _, _, h7.2.2.1, by rw [HPK.out]; exact h7.2.2.2.1⟩⟩, by simp [intOf]⟩
    · obtain rfl : x = -1 := by omega
      obtain rfl : j = m := by omega
      obtain ⟨w3, hw3, hr3, hb3, hk3, hz3⟩ := five_set HRZ.out (.int .i64 (i : Int)) (.int .i64 (L : Int)) (.slice o1 q.key.length c1) (.slice o2 q.val.length c2) (.slice op np cp)
      have y0 := HRZ.out.cell 0
      have y1 := HRZ.out.cell 1
      have y2 := HRZ.out.cell 2
      have y3 := HRZ.out.cell 3
      have y4 := HRZ.out.cell 4
      have z0 := HRZ.out.frozen 0
      have z1 := HRZ.out.frozen 1
      have z2 := HRZ.out.frozen 2
      have z3 := HRZ.out.frozen 3
      have z4 := HRZ.out.frozen 4
      have p0 := HRP.out.cell 0
      have p1 := HRP.out.cell 1
      have p2 := HRP.out.cell 2
      have p3 := HRP.out.cell 3
      have p4 := HRP.out.cell 4
      have u0 := hr3.cell 0
      have u1 := hr3.cell 1
      have u2 := hr3.cell 2
      have u3 := hr3.cell 3
      have u4 := hr3.cell 4
      have HB3 := hid (HBR.out.trans hb3)
      have HP3 := hid (HOW.out.keep hk3 (by decide) (by decide))
      have HPE := hid (show pathK l ws j = (proofAt l i q).path by
        rw [← HM.out, pathK_all, ← HWS.out, ← HLL.out]
        rfl)
      rw [HPE.out] at HP3
      clear hr3 hb3 hk3 hz3 hx hszr HR
      go_wp2_with fail
      refine bodyPost_ret (v := .agg #[.int .i64 (i : Int), .int .i64 (L : Int), .slice o1 q.key.length c1, .slice o2 q.val.length c2, .slice op np cp]) (by simp [results, Tryd.results19, go_sem, u0, u1, u2, u3, u4]) rfl ⟨HB3.out, _, _, _, _, _, _, _, _, _, rfl, HVK.out.below (HB3.out.mono hN), HVV.out.below (HB3.out.mono hN), HP3.out⟩
end Go.Proofs.YtjfhhlgblmjonaaDoor
