/-
  What the document's Get and Drop answer of pairs.
  What the document's Set answers: pairs in a new row, one pair in the place of that with its key.
  What the document's Play answers: what doings make; or which error, and where.
  What the document's Same answers of two slices of pairs: whether they read alike; it only reads.
-/
import Derived.Test.YtooemgkjkngpcaaGreatDoorTaPairsAll
import Derived.Test.YtooemgkjkngpcaaGreatDoorTaSameB
import Derived.Test.YtooemgkjkngpcaaGreatDoorTaMemB
import Derived.Deep.QuietTactic
import Derived.BigQuiet
import Derived.Deep.RegionHeld3
import Derived.Deep.RegionWith
namespace Go.Proofs.YtooemgkjkngpcaaGreatDoor
open Go.RowKit

theorem drewN_belowD (w : World) (n N : Nat) : Below N w (w.drewN n) := ⟨rfl, rfl, rfl, Nat.le_refl _, fun _ _ => rfl⟩
/-- append of one pair, in a row of its own, onto what is owned -/
theorem wpList_append_pr {ops : Array Oper} {rest : List Oper} {o : Oper} {a : Act} {W : World} {Q : Exit → Act → World → Prop} (hgd : o.guard = none) (s x : Operand)
    (ho : o.op = .call { callee := .builtin .append, args := #[s, x], argTypes := #[31, 31] })
    (base : Nat) (v : Value) (ps : List PrV) (hs : a.eval s = v) (hown : RowPr W base v ps) (q : PrV) (g N : Nat) (hq : q.ok W N)
    (hx : a.eval x = .slice (some ⟨g, 0, none⟩) 1 1) (h0 : W.cell? ⟨g, 0, none⟩ = some q.k) (h1 : W.cell? ⟨g, 1, none⟩ = some q.v) (hl : ps.length ≤ 1000000) (hbase : base ≤ W.heap.size)
    (h : ∀ v' w', RowPr w' base v' (ps ++ [q]) → Below base W w' → wpList Tryz.prog ops Q rest (a.put o.dst v') w') :
    wpList Tryz.prog ops Q (o :: rest) a W := by
  obtain ⟨i0, hi0, hz0, hz1, hz2⟩ := info_parts info_pair
  obtain ⟨o1, c1, e1, _⟩ := hq.1.shape
  obtain ⟨o2, c2, e2, _⟩ := hq.2.shape
  refine wpList_append_own _ hgd s x 31 ho base 103 i0 _ 2 48 Tryz.underlying31 hi0 hz0 hz1 hz2 rfl (by decide) v ps.length (ps.flatMap prCells) hs hown ⟨g, 0, none⟩ 1 1
    [q.k, q.v] hx rfl ?_ ?_ (by unfold maxLen; omega) (by omega) hbase ?_
  · intro j u hj
    have hadd : (⟨g, 0, none⟩ : Addr).add j = ⟨g, j, none⟩ := by unfold Addr.add; split <;> simp_all
    rw [hadd]
    match j, hj with
    | 0, hj => rw [h0]; simpa using hj
    | 1, hj => rw [h1]; simpa using hj
    | j + 2, hj => simp at hj
  · rw [e1, e2]
    simp [Value.oneCell']
  · intro v' w' h1 h2 _
    refine h v' w' ?_ ((Below.refl base W).grown h2 hbase (fun k hk => (World.ownsRow.lt hown k hk).1))
    unfold RowPr
    rw [List.length_append, List.flatMap_append]
    exact h1
set_option maxRecDepth 100000 in
set_option maxHeartbeats 1000000 in
theorem refDrop_any (ps : List PrV) (k : List (BitVec 8)) (sv kv : Value) (N M : Nat) (w : World) (hN : N ≤ w.heap.size) (hM : M ≤ w.heap.size) (hs : SrcPr w M sv ps) (hok : ∀ q ∈ ps, q.ok w N) (hfit : ∀ q ∈ ps, q.p.fits) (hk : Bytes w N kv k) (hlen : ps.length ≤ 1000) (hkl : k.length ≤ 140737488351232) :
    Calls Tryz.prog 89 #[sv, kv] w fun e w' => Below w.heap.size w w' ∧ ∃ v, e = .returned v ∧ RowPr w' w.heap.size v (dropV k ps) := by
  obtain ⟨oa, ca, rfl, hca⟩ := hs.shape
  have HL := hid hs
  have HK := hid hk
  have HF := hid hfit
  have HOK := hid hok
  clear hs hk hfit hok
  generalize hn : ps.length = n at *
  have HN := hid hn
  clear hn
  go_enter Tryz.func89, Tryz.ntmps89
  go_wp2_with fail
  go_loopw [5, 10] (fun y i wr => ∃ j : Nat, j ≤ n ∧ i = .int .i64 (j : Int) ∧ Hid (Below w.heap.size w wr ∧ RowPr wr w.heap.size y (dropV k (ps.take j)))) (fun _ i _ => n - (intOf i).toNat)
  case atStart => exact ⟨0, by omega, rfl, Below.refl _ _, RowPr.nil _ _⟩
  case round =>
    obtain ⟨j, hj, rfl, HR⟩ := hrel
    obtain ⟨oz, cz, rfl, hcz⟩ := HR.out.2.shape
    have HDL := hid (show (dropV k (ps.take j)).length ≤ 1000000 by
      have h1 : (dropV k (ps.take j)).length ≤ (ps.take j).length := List.length_filter_le _ _
      rw [List.length_take, HN.out] at h1
      omega)
    by_cases hlt : j < n
    · obtain ⟨q, hq⟩ : ∃ q, ps[j]? = some q := ⟨ps[j]'(by rw [HN.out]; exact hlt), List.getElem?_eq_getElem _⟩
      obtain ⟨b, o, rfl, hcells⟩ := HL.out.some (by omega)
      obtain ⟨hbN, d0, d1⟩ := hcells j q hq
      have hqm := List.mem_of_getElem? hq
      have hqo := HOK.out q hqm
      obtain ⟨o1, c1, e1, hc1⟩ := hqo.1.shape
      obtain ⟨o2, c2, e2, hc2⟩ := hqo.2.shape
      have hfp := HF.out q hqm
      have HT := hid (dropV_take k ps j q hq)
      obtain ⟨p, vk, vv⟩ := q
      simp only at d0 d1 hqo e1 e2 hc1 hc2 hfp HT
      subst e1
      subst e2
      have hbl : b < w.heap.size := by omega
      have f0 := (HR.out.1.cell (p := ⟨b, o + j * 2, none⟩) hbl).trans d0
      have f1 := (HR.out.1.cell (p := ⟨b, o + j * 2 + 1, none⟩) hbl).trans d1
      have hszr := HR.out.1.size
      obtain ⟨w2, hw2⟩ : ∃ w2, wr.alloc (.cells #[.slice o1 p.key.length c1, .slice o2 p.val.length c2] 103) = w2 := ⟨_, rfl⟩
      have hsz2 : w2.heap.size = wr.heap.size + 1 := by rw [← hw2]; simp
      have hbr2 : Below wr.heap.size wr w2 := by rw [← hw2]; exact (Below.refl _ _).alloc (Nat.le_refl _) _
      have hb2 : Below w.heap.size w w2 := HR.out.1.trans (hbr2.mono hszr)
      have hrow2 : Row w2 wr.heap.size 103 [.slice o1 p.key.length c1, .slice o2 p.val.length c2] := by rw [← hw2]; exact Row.new _ _ _
      have g0 := hrow2.cell 0
      have g1 := hrow2.cell 1
      have HS := hid (sameB_any p.key k _ _ N N w2 (hqo.1.below (hb2.mono hN)) (HK.out.below (hb2.mono hN)) (by have := hfp.1; omega) (by omega))
      have HQ := hid (show PrV.ok w2 N ⟨p, .slice o1 p.key.length c1, .slice o2 p.val.length c2⟩ from ⟨hqo.1.below (hb2.mono hN), hqo.2.below (hb2.mono hN)⟩)
      have HB2 := hid hb2
      have HW2 := hid hw2
      have HRW := hid (HR.out.2.below hbr2)
      clear d0 d1 hcells hb2 hbr2 hrow2 hfp hq hw2 hqm hqo
      have hlt' : (j : Int) < (n : Int) := by omega
      by_cases he : p.key = k
      · rw [decide_eq_true he] at HS
        have HT2 := hid (HT.out.trans (if_pos he))
        clear he
        go_wp2_with fail
        rw [HW2.out]
        refine HS.out.mono ?_
        rintro e w3 ⟨rfl, q, rfl⟩
        go_wp2_with fail
        exact ⟨⟨j + 1, by omega, by go_num, HB2.out.trans (drewN_belowD _ _ _), by rw [HT2.out]; exact HRW.out.below (drewN_belowD _ _ _)⟩, by simp [intOf]; omega⟩
      · rw [decide_eq_false he] at HS
        have HT2 := hid (HT.out.trans (if_neg he))
        clear he
        go_wp2_with fail
        rw [HW2.out]
        refine HS.out.mono ?_
        rintro e w3 ⟨rfl, q, rfl⟩
        obtain ⟨w4, hw4⟩ : ∃ w4, (w2.drewN q).alloc (.cells #[.slice o1 p.key.length c1, .slice o2 p.val.length c2] 103) = w4 := ⟨_, rfl⟩
        have hb24 : Below w2.heap.size w2 w4 := by rw [← hw4]; exact (drewN_belowD w2 q _).alloc (Nat.le_refl _) _
        have hrow4 : Row w4 w2.heap.size 103 [.slice o1 p.key.length c1, .slice o2 p.val.length c2] := by rw [← hw4]; exact Row.new (w2.drewN q) _ _
        have HB4 := hid (HB2.out.trans (hb24.mono (by omega)))
        have HP := hid (show RowPr w4 w.heap.size _ (dropV k (ps.take j)) from HRW.out.below hb24)
        have HQ4 := hid (HQ.out.below (hb24.mono (show N ≤ w2.heap.size by omega)))
        have HC0 := hid (hrow4.cell 0)
        have HC1 := hid (hrow4.cell 1)
        have HSZ := hid (show w.heap.size ≤ w4.heap.size from HB4.out.size)
        clear hb24 hrow4 hsz2
        go_wp2_with (at_builtin; refine wpList_append_pr rfl (.tmp 19) (.tmp 21) rfl w.heap.size _ (dropV k (ps.take j)) rfl HP.out ⟨p, .slice o1 p.key.length c1, .slice o2 p.val.length c2⟩ w2.heap.size N HQ4.out ?_ HC0.out HC1.out HDL.out HSZ.out ?_; rfl; intro v' w5 hown5 hb5)
        go_roundw
        case rel => exact ⟨j + 1, by omega, by go_num, HB4.out.trans hb5, by rw [HT2.out]; exact hown5⟩
        case measure => simp [intOf]; omega
    · have hge : decide ((j : Int) < (n : Int)) = false := by simp; omega
      have HT2 := hid (show dropV k (ps.take j) = dropV k ps by rw [List.take_of_length_le (by rw [HN.out]; omega)])
      go_wp2
      go_ret
      exact ⟨HR.out.1, _, rfl, by rw [← HT2.out]; exact HR.out.2⟩
end Go.Proofs.YtooemgkjkngpcaaGreatDoor
namespace Go.Proofs.YtooemgkjkngpcaaGreatDoor
open Go.RowKit

theorem ahead_take (k : List (BitVec 8)) (l : List Pr) : l.take (ahead k l).length = ahead k l := by
  conv => lhs; rw [← ahead_behind k l]
  rw [ahead_behind]
  conv => lhs; arg 2; rw [← ahead_behind k l]
  exact List.take_left
theorem behind_drop (k : List (BitVec 8)) (l : List Pr) : l.drop (ahead k l).length = behind k l := by
  conv => lhs; arg 2; rw [← ahead_behind k l]
  exact List.drop_left
/-- how many pairs are ahead of a key -/
def rankV (k : List (BitVec 8)) (d : List PrV) : Nat := (ahead k (d.map (·.p))).length
/-- a pair comes, in the place of one with its key -/
def setV (q : PrV) (ps : List PrV) : List PrV := (dropV q.p.key ps).take (rankV q.p.key (dropV q.p.key ps)) ++ q :: (dropV q.p.key ps).drop (rankV q.p.key (dropV q.p.key ps))
theorem setV_map (q : PrV) (ps : List PrV) : (setV q ps).map (·.p) = setP q.p (ps.map (·.p)) := by
  unfold setV setP rankV
  rw [List.map_append, List.map_cons, List.map_take, List.map_drop, dropV_map, ahead_take, behind_drop]
theorem mem_setV {q x : PrV} {ps : List PrV} (h : x ∈ setV q ps) : x = q ∨ x ∈ ps := by
  unfold setV at h
  rcases List.mem_append.1 h with h | h
  · exact .inr (mem_dropV (List.mem_of_mem_take h))
  · rcases List.mem_cons.1 h with h | h
    · exact .inl h
    · exact .inr (mem_dropV (List.mem_of_mem_drop h))
theorem rank_step (k : List (BitVec 8)) (d : List PrV) (j : Nat) (q : PrV) (h : d[j]? = some q) : rankV k (d.drop j) = if lessB q.p.key k = true then rankV k (d.drop (j + 1)) + 1 else 0 := by
  obtain ⟨hj, he⟩ := List.getElem?_eq_some_iff.1 h
  unfold rankV
  rw [List.drop_eq_getElem_cons hj, List.map_cons, ahead, he]
  split
  · rfl
  · rfl
theorem heap_new_at (w : World) (o : Obj) (n : Nat) (h : w.heap.size = n) : (w.alloc o).heap[n]? = some o := by subst h; exact heap_alloc_new w o
set_option maxRecDepth 100000 in
set_option maxHeartbeats 4000000 in
theorem refSet_any (ps : List PrV) (x : PrV) (sv : Value) (N M : Nat) (w : World) (hN : N ≤ w.heap.size) (hM : M ≤ w.heap.size) (hs : SrcPr w M sv ps) (hok : ∀ q ∈ ps, q.ok w N) (hfit : ∀ q ∈ ps, q.p.fits) (hx : x.ok w N) (hxf : x.p.fits) (hlen : ps.length ≤ 1000) :
    Calls Tryz.prog 49 #[sv, .agg #[x.k, x.v]] w fun e w' => Below w.heap.size w w' ∧ ∃ v, e = .returned v ∧ RowPr w' w.heap.size v (setV x ps) := by
  obtain ⟨p, vk, vv⟩ := x
  simp only at hx hxf ⊢
  obtain ⟨o1, c1, e1, hc1⟩ := hx.1.shape
  obtain ⟨o2, c2, e2, hc2⟩ := hx.2.shape
  simp only at e1 e2 hc1 hc2
  subst e1
  subst e2
  obtain ⟨w0, hw0⟩ : ∃ w0, w.alloc (.cells #[.slice o1 p.key.length c1, .slice o2 p.val.length c2] 103) = w0 := ⟨_, rfl⟩
  have hsz0 : w0.heap.size = w.heap.size + 1 := by rw [← hw0]; simp
  have hb0 : Below w.heap.size w w0 := by rw [← hw0]; exact (Below.refl _ _).alloc (Nat.le_refl _) _
  have hrow0 : Row w0 w.heap.size 103 [.slice o1 p.key.length c1, .slice o2 p.val.length c2] := by rw [← hw0]; exact Row.new _ _ _
  have q0 := hrow0.cell 0
  have HD := hid (refDrop_any ps p.key sv (.slice o1 p.key.length c1) N M w0 (by omega) (by omega) (hs.below (hb0.mono hM)) (fun q hq => (hok q hq).below (hb0.mono hN)) hfit (hx.1.below (hb0.mono hN)) hlen hxf.1)
  have HX := hid hx
  have HOK := hid hok
  have HFIT := hid hfit
  have HB0 := hid hb0
  have HR0 := hid hrow0
  clear hs hok hx hb0 hrow0 hfit
  go_enter Tryz.func49, Tryz.ntmps49
  go_wp2_with fail
  refine HD.out.mono ?_
  rintro e w1 ⟨hb1, v1, rfl, hrow1⟩
  have hsz1 := hb1.size
  obtain ⟨d, hd⟩ : ∃ d, dropV p.key ps = d := ⟨_, rfl⟩
  rw [hd] at hrow1
  have hdl : d.length ≤ 1000 := by rw [← hd]; exact Nat.le_trans (List.length_filter_le _ _) hlen
  have HDE := hid hd
  have HDM := hid (show ∀ q ∈ d, q.ok w N ∧ q.p.fits from fun q hq => by rw [← hd] at hq; exact ⟨HOK.out q (mem_dropV hq), HFIT.out q (mem_dropV hq)⟩)
  obtain ⟨oz, cz, rfl, hcz⟩ := hrow1.shape
  have HROW := hid hrow1
  have HB1 := hid (HB0.out.trans (hb1.mono (show w.heap.size ≤ w0.heap.size by omega)))
  have hbox := HR0.out.below hb1 (show w.heap.size < w0.heap.size by omega)
  have HBOX := hid hbox
  have b0 := hbox.cell 0
  have b1 := hbox.cell 1
  clear hrow1 hb1 hd hbox HD q0 hw0
  generalize hn : d.length = n at *
  have HN := hid hn
  clear hn
  go_wp2_with fail
  go_loopw [6] (fun i wr => ∃ k q : Nat, k ≤ n ∧ i = .int .i64 (k : Int) ∧ wr = w1.drewN q ∧ Hid (rankV p.key d = k + rankV p.key (d.drop k))) (fun i _ => n - (intOf i).toNat)
  case atStart => exact ⟨0, 0, by omega, rfl, rfl, hid (by rw [List.drop_zero, Nat.zero_add])⟩
  case round =>
    obtain ⟨k, q, hk, rfl, rfl, HT⟩ := hrel
    by_cases hlt : k < n
    · have e1 : decide ((k : Int) < (n : Int)) = true := by simp; omega
      have hlt' : (k : Int) < (n : Int) := by omega
      obtain ⟨y, hy⟩ : ∃ y, d[k]? = some y := ⟨d[k]'(by rw [HN.out]; exact hlt), List.getElem?_eq_getElem _⟩
      obtain ⟨g, rfl, hg1, hg2, hcell⟩ := HROW.out.get (by omega)
      obtain ⟨d0, d1⟩ := hcell k y hy
      have hyd := HDM.out y (List.mem_of_getElem? hy)
      have HRS := hid (rank_step p.key d k y hy)
      have HL := hid (fun wq : Nat => show Calls Tryz.prog 90 #[y.k, .slice o1 p.key.length c1] (w1.drewN (q + wq)) (fun e w' => e = .returned (.bool (lessB y.p.key p.key)) ∧ ∃ n, w' = w1.drewN (q + n)) from
        (refLess_any y.p.key p.key _ _ N N (w1.drewN (q + wq)) (hyd.1.1.below ((HB1.out.trans (drewN_belowD _ _ _)).mono hN)) (HX.out.1.below ((HB1.out.trans (drewN_belowD _ _ _)).mono hN)) (by have := hyd.2.1; omega) (by have := hxf.1; omega)).mono fun e w' ⟨h1, n', h2⟩ => ⟨h1, wq + n', by rw [h2, World.drewN_drewN, Nat.add_assoc]⟩)
      obtain ⟨yp, yk, yv⟩ := y
      simp only at d0 d1 HL HRS
      clear hcell hyd hy
      cases hls : lessB yp.key p.key with
      | true =>
        have HLS := hid hls
        rw [hls] at HL
        clear hls
        go_wp2_with fail
        go_quiet (first | (go_at_call 90; exact HL.out _))
        go_wp2
        go_roundw
        case rel =>
          refine ⟨k + 1, q + nq, by omega, by go_num, rfl, ?_⟩
          show rankV p.key d = k + 1 + rankV p.key (d.drop (k + 1))
          rw [HT.out, HRS.out, if_pos HLS.out]
          omega
        case measure => simp [intOf]; omega
      | false =>
        have HRK := hid (show rankV p.key d = k by rw [HT.out, HRS.out, if_neg (by rw [hls]; simp)]; omega)
        rw [hls] at HL
        clear hls
        go_wp2_with fail
        go_quiet (first | (go_at_call 90; exact HL.out _))
        go_wp2_with fail
        obtain ⟨wx, hwx⟩ : ∃ wx, (w1.drewN q).drewN nq = wx := ⟨_, rfl⟩
        rw [hwx]
        have hbx : Below w1.heap.size w1 wx := by rw [← hwx]; exact (drewN_belowD w1 q _).trans (drewN_belowD _ _ _)
        have hszx : wx.heap.size = w1.heap.size := by rw [← hwx]; rfl
        have hsrc := (HROW.out.below hbx).src
        obtain ⟨v30, hsl30, hs30⟩ := src_to hsrc .i64 k hk
        obtain ⟨v37, hsl37, hs37⟩ := src_from hsrc .i64 k hk
        have HSA := hid (show ∀ W, Below wx.heap.size wx W → SrcPr W wx.heap.size v30 (d.take k) ∧ SrcPr W wx.heap.size v37 (d.drop k) from fun W hW => ⟨hs30.below hW, hs37.below hW⟩)
        have HSB := hid (show ∀ W, Below wx.heap.size wx W → W.cell? ⟨w.heap.size, 0, none⟩ = some (.slice o1 p.key.length c1) ∧ W.cell? ⟨w.heap.size, 1, none⟩ = some (.slice o2 p.val.length c2) from fun W hW => ⟨((HBOX.out.below hbx (by omega)).below hW (by omega)).cell 0, ((HBOX.out.below hbx (by omega)).below hW (by omega)).cell 1⟩)
        have HONE := hid (show ∀ q ∈ d, q.k.oneCell' = true ∧ q.v.oneCell' = true from fun q hq => ((HDM.out q hq).1).one)
        have HONT := hid (show ∀ q ∈ d.take k, q.k.oneCell' = true ∧ q.v.oneCell' = true from fun q hq => HONE.out q (List.mem_of_mem_take hq))
        have HOND := hid (show ∀ q ∈ d.drop k, q.k.oneCell' = true ∧ q.v.oneCell' = true from fun q hq => HONE.out q (List.mem_of_mem_drop hq))
        have HONX := hid (show ∀ q ∈ [(⟨p, .slice o1 p.key.length c1, .slice o2 p.val.length c2⟩ : PrV)], q.k.oneCell' = true ∧ q.v.oneCell' = true from fun q hq => by obtain rfl := List.mem_singleton.1 hq; exact HX.out.one)
        have HL1 := hid (show ([] : List PrV).length + (d.take k).length ≤ 1000000 by simp; omega)
        have HL2 := hid (show (d.take k).length + [(⟨p, .slice o1 p.key.length c1, .slice o2 p.val.length c2⟩ : PrV)].length ≤ 1000000 by simp; omega)
        have HL3 := hid (show (d.take k ++ [(⟨p, .slice o1 p.key.length c1, .slice o2 p.val.length c2⟩ : PrV)]).length + (d.drop k).length ≤ 1000000 by simp [HN.out]; omega)
        have BA : Hid (Below wx.heap.size wx (wx.alloc (.cells #[] 103)).drew) := hid (((Below.refl _ _).alloc (Nat.le_refl _) _).drew)
        have BP : Hid (Below wx.heap.size wx (wx.alloc (.cells #[.slice o1 p.key.length c1, .slice o2 p.val.length c2] 103)).drew) := hid (((Below.refl _ _).alloc (Nat.le_refl _) _).drew)
        have BB : Hid (Below wx.heap.size wx ((wx.alloc (.cells #[] 103)).alloc (.cells #[.slice o1 p.key.length c1, .slice o2 p.val.length c2] 103)).drew) := hid ((((Below.refl _ _).alloc (Nat.le_refl _) _).alloc (by simp) _).drew)
        have BC : Hid (Below wx.heap.size wx ((wx.alloc (.cells #[.slice o1 p.key.length c1, .slice o2 p.val.length c2] 103)).alloc (.cells #[] 103)).drew) := hid ((((Below.refl _ _).alloc (Nat.le_refl _) _).alloc (by simp) _).drew)
        have s0 := HSB.out wx.drew ((Below.refl _ _).drew)
        have sA := HSB.out _ BA.out
        have sP := HSB.out _ BP.out
        have sB := HSB.out _ BB.out
        have sC := HSB.out _ BC.out
        have RA := hid (show RowPr (wx.alloc (.cells #[] 103)).drew wx.heap.size (.slice (some ⟨wx.heap.size, 0, none⟩) 0 0) [] from row_none (heap_alloc_new wx _) (Nat.le_refl _))
        have RB := hid (show RowPr ((wx.alloc (.cells #[] 103)).alloc (.cells #[.slice o1 p.key.length c1, .slice o2 p.val.length c2] 103)).drew wx.heap.size (.slice (some ⟨wx.heap.size, 0, none⟩) 0 0) [] from row_none ((Below.heap_alloc (wx.alloc (.cells #[] 103)) _ wx.heap.size (by simp)).trans (heap_alloc_new wx _)) (Nat.le_refl _))
        have RC := hid (show RowPr ((wx.alloc (.cells #[.slice o1 p.key.length c1, .slice o2 p.val.length c2] 103)).alloc (.cells #[] 103)).drew wx.heap.size (.slice (some ⟨wx.heap.size + 1, 0, none⟩) 0 0) [] from row_none (g := wx.heap.size + 1) (heap_new_at (wx.alloc (.cells #[.slice o1 p.key.length c1, .slice o2 p.val.length c2] 103)) (.cells #[] 103) (wx.heap.size + 1) (by simp)) (by omega))
        have PB := hid (show Row ((wx.alloc (.cells #[] 103)).alloc (.cells #[.slice o1 p.key.length c1, .slice o2 p.val.length c2] 103)).drew (wx.heap.size + 1) 103 [.slice o1 p.key.length c1, .slice o2 p.val.length c2] from Row.newAt (wx.alloc (.cells #[] 103)) 103 [.slice o1 p.key.length c1, .slice o2 p.val.length c2] (wx.heap.size + 1) (by simp))
        have PC := hid (show Row ((wx.alloc (.cells #[.slice o1 p.key.length c1, .slice o2 p.val.length c2] 103)).alloc (.cells #[] 103)).drew wx.heap.size 103 [.slice o1 p.key.length c1, .slice o2 p.val.length c2] from (Row.new wx 103 [.slice o1 p.key.length c1, .slice o2 p.val.length c2]).alloc _)
        have SZA := hid (show wx.heap.size ≤ (wx.alloc (.cells #[] 103)).drew.heap.size from BA.out.size)
        have SZB := hid (show wx.heap.size ≤ ((wx.alloc (.cells #[] 103)).alloc (.cells #[.slice o1 p.key.length c1, .slice o2 p.val.length c2] 103)).drew.heap.size from BB.out.size)
        have SZC := hid (show wx.heap.size ≤ ((wx.alloc (.cells #[.slice o1 p.key.length c1, .slice o2 p.val.length c2] 103)).alloc (.cells #[] 103)).drew.heap.size from BC.out.size)
        have HBX := hid (HB1.out.trans (hbx.mono (show w.heap.size ≤ w1.heap.size by omega)))
        have HSX := hid (show w.heap.size ≤ wx.heap.size by omega)
        clear hwx hbx hsrc hs30 hs37 b0 b1 hszx
        go_region_held3 (fun W => W.cell? ⟨w.heap.size, 0, none⟩ = some (.slice o1 p.key.length c1) ∧ W.cell? ⟨w.heap.size, 1, none⟩ = some (.slice o2 p.val.length c2)) (first | assumption) (first
          | (refine step_append_prs rfl (.tmp 27) (.tmp 30) rfl wx.heap.size (.slice (some ⟨wx.heap.size, 0, none⟩) 0 0) [] ?_ RA.out v30 (d.take k) ?_ (HSA.out _ BA.out).1 HONT.out HL1.out SZA.out ?_; rfl; rfl; intro v2 w2 hr2 hb2 hg2; have H2 := hid hr2; have B2 := hid (BA.out.trans hb2); have s2 := HSB.out _ B2.out; have s2' := HSB.out _ (B2.out.alloc B2.out.size (.cells #[.slice o1 p.key.length c1, .slice o2 p.val.length c2] 103)); clear hr2 hb2 hg2)
          | (refine step_append_prs rfl (.tmp 27) (.tmp 30) rfl wx.heap.size (.slice (some ⟨wx.heap.size, 0, none⟩) 0 0) [] ?_ RB.out v30 (d.take k) ?_ (HSA.out _ BB.out).1 HONT.out HL1.out SZB.out ?_; rfl; rfl; intro v2 w2 hr2 hb2 hg2; have H2 := hid hr2; have B2 := hid (BB.out.trans hb2); have s2 := HSB.out _ B2.out; have P2 := hid (PB.out.grown hg2 (by simp [Value.ownBlock])); clear hr2 hb2 hg2)
          | (refine step_append_prs rfl (.tmp 27) (.tmp 30) rfl wx.heap.size (.slice (some ⟨wx.heap.size + 1, 0, none⟩) 0 0) [] ?_ RC.out v30 (d.take k) ?_ (HSA.out _ BC.out).1 HONT.out HL1.out SZC.out ?_; rfl; rfl; intro v2 w2 hr2 hb2 hg2; have H2 := hid hr2; have B2 := hid (BC.out.trans hb2); have s2 := HSB.out _ B2.out; have P2c := hid (PC.out.grown hg2 (by simp [Value.ownBlock])); clear hr2 hb2 hg2)
          | (refine step_append_prs rfl (.tmp 31) (.tmp 33) rfl wx.heap.size v2 (d.take k) ?_ ((RowPr.below H2.out ((Below.refl _ _).alloc (Nat.le_refl _) (.cells #[.slice o1 p.key.length c1, .slice o2 p.val.length c2] 103)))) (.slice (some ⟨w2.heap.size, 0, none⟩) 1 1) [⟨p, .slice o1 p.key.length c1, .slice o2 p.val.length c2⟩] ?_ (src_one ((Row.new w2 103 [.slice o1 p.key.length c1, .slice o2 p.val.length c2]).cell 0) ((Row.new w2 103 [.slice o1 p.key.length c1, .slice o2 p.val.length c2]).cell 1)) HONX.out HL2.out (B2.out.alloc B2.out.size _).size ?_; rfl; rfl; intro v3 w3 hr3 hb3 hg3; have H3 := hid hr3; have B3 := hid ((B2.out.alloc B2.out.size (.cells #[.slice o1 p.key.length c1, .slice o2 p.val.length c2] 103)).trans hb3); have s3 := HSB.out _ B3.out; clear hr3 hb3 hg3)
          | (refine step_append_prs rfl (.tmp 31) (.tmp 33) rfl wx.heap.size v2 (d.take k) ?_ H2.out (.slice (some ⟨wx.heap.size + 1, 0, none⟩) 1 1) [⟨p, .slice o1 p.key.length c1, .slice o2 p.val.length c2⟩] ?_ (src_one (P2.out.cell 0) (P2.out.cell 1)) HONX.out HL2.out B2.out.size ?_; rfl; rfl; intro v3 w3 hr3 hb3 hg3; have H3 := hid hr3; have B3 := hid (B2.out.trans hb3); have s3 := HSB.out _ B3.out; clear hr3 hb3 hg3)
          | (refine step_append_prs rfl (.tmp 31) (.tmp 33) rfl wx.heap.size v2 (d.take k) ?_ H2.out (.slice (some ⟨wx.heap.size, 0, none⟩) 1 1) [⟨p, .slice o1 p.key.length c1, .slice o2 p.val.length c2⟩] ?_ (src_one (P2c.out.cell 0) (P2c.out.cell 1)) HONX.out HL2.out B2.out.size ?_; rfl; rfl; intro v3 w3 hr3 hb3 hg3; have H3 := hid hr3; have B3 := hid (B2.out.trans hb3); have s3 := HSB.out _ B3.out; clear hr3 hb3 hg3)
          | (refine step_append_prs rfl (.tmp 34) (.tmp 37) rfl wx.heap.size v3 (d.take k ++ [⟨p, .slice o1 p.key.length c1, .slice o2 p.val.length c2⟩]) ?_ H3.out v37 (d.drop k) ?_ (HSA.out _ B3.out).2 HOND.out HL3.out B3.out.size ?_; rfl; rfl; intro v4 w4 hr4 hb4 hg4; have H4 := hid hr4; have B4 := hid (B3.out.trans hb4); have s4 := HSB.out _ B4.out; clear hr4 hb4 hg4))
        all_goals
          go_wp2
          go_ret
          refine ⟨HBX.out.trans (B4.out.mono HSX.out), _, rfl, ?_⟩
          have hsv : setV ⟨p, .slice o1 p.key.length c1, .slice o2 p.val.length c2⟩ ps = d.take k ++ [⟨p, .slice o1 p.key.length c1, .slice o2 p.val.length c2⟩] ++ d.drop k := by
            unfold setV
            rw [HDE.out, HRK.out]
            simp
          rw [hsv]
          exact H4.out.mono HSX.out
    · have e1 : decide ((k : Int) < (n : Int)) = false := by simp; omega
      have HRK := hid (show rankV p.key d = k by rw [HT.out, List.drop_eq_nil_of_le (by rw [HN.out]; omega)]; rfl)
      go_wp2_with fail
      go_quiet (fail)
      go_wp2_with fail
      obtain ⟨wx, hwx⟩ : ∃ wx, (w1.drewN q).drewN nq = wx := ⟨_, rfl⟩
      rw [hwx]
      have hbx : Below w1.heap.size w1 wx := by rw [← hwx]; exact (drewN_belowD w1 q _).trans (drewN_belowD _ _ _)
      have hszx : wx.heap.size = w1.heap.size := by rw [← hwx]; rfl
      have hsrc := (HROW.out.below hbx).src
      obtain ⟨v30, hsl30, hs30⟩ := src_to hsrc .i64 k hk
      obtain ⟨v37, hsl37, hs37⟩ := src_from hsrc .i64 k hk
      have HSA := hid (show ∀ W, Below wx.heap.size wx W → SrcPr W wx.heap.size v30 (d.take k) ∧ SrcPr W wx.heap.size v37 (d.drop k) from fun W hW => ⟨hs30.below hW, hs37.below hW⟩)
      have HSB := hid (show ∀ W, Below wx.heap.size wx W → W.cell? ⟨w.heap.size, 0, none⟩ = some (.slice o1 p.key.length c1) ∧ W.cell? ⟨w.heap.size, 1, none⟩ = some (.slice o2 p.val.length c2) from fun W hW => ⟨((HBOX.out.below hbx (by omega)).below hW (by omega)).cell 0, ((HBOX.out.below hbx (by omega)).below hW (by omega)).cell 1⟩)
      have HONE := hid (show ∀ q ∈ d, q.k.oneCell' = true ∧ q.v.oneCell' = true from fun q hq => ((HDM.out q hq).1).one)
      have HONT := hid (show ∀ q ∈ d.take k, q.k.oneCell' = true ∧ q.v.oneCell' = true from fun q hq => HONE.out q (List.mem_of_mem_take hq))
      have HOND := hid (show ∀ q ∈ d.drop k, q.k.oneCell' = true ∧ q.v.oneCell' = true from fun q hq => HONE.out q (List.mem_of_mem_drop hq))
      have HONX := hid (show ∀ q ∈ [(⟨p, .slice o1 p.key.length c1, .slice o2 p.val.length c2⟩ : PrV)], q.k.oneCell' = true ∧ q.v.oneCell' = true from fun q hq => by obtain rfl := List.mem_singleton.1 hq; exact HX.out.one)
      have HL1 := hid (show ([] : List PrV).length + (d.take k).length ≤ 1000000 by simp; omega)
      have HL2 := hid (show (d.take k).length + [(⟨p, .slice o1 p.key.length c1, .slice o2 p.val.length c2⟩ : PrV)].length ≤ 1000000 by simp; omega)
      have HL3 := hid (show (d.take k ++ [(⟨p, .slice o1 p.key.length c1, .slice o2 p.val.length c2⟩ : PrV)]).length + (d.drop k).length ≤ 1000000 by simp [HN.out]; omega)
      have BA : Hid (Below wx.heap.size wx (wx.alloc (.cells #[] 103)).drew) := hid (((Below.refl _ _).alloc (Nat.le_refl _) _).drew)
      have BP : Hid (Below wx.heap.size wx (wx.alloc (.cells #[.slice o1 p.key.length c1, .slice o2 p.val.length c2] 103)).drew) := hid (((Below.refl _ _).alloc (Nat.le_refl _) _).drew)
      have BB : Hid (Below wx.heap.size wx ((wx.alloc (.cells #[] 103)).alloc (.cells #[.slice o1 p.key.length c1, .slice o2 p.val.length c2] 103)).drew) := hid ((((Below.refl _ _).alloc (Nat.le_refl _) _).alloc (by simp) _).drew)
      have BC : Hid (Below wx.heap.size wx ((wx.alloc (.cells #[.slice o1 p.key.length c1, .slice o2 p.val.length c2] 103)).alloc (.cells #[] 103)).drew) := hid ((((Below.refl _ _).alloc (Nat.le_refl _) _).alloc (by simp) _).drew)
      have s0 := HSB.out wx.drew ((Below.refl _ _).drew)
      have sA := HSB.out _ BA.out
      have sP := HSB.out _ BP.out
      have sB := HSB.out _ BB.out
      have sC := HSB.out _ BC.out
      have RA := hid (show RowPr (wx.alloc (.cells #[] 103)).drew wx.heap.size (.slice (some ⟨wx.heap.size, 0, none⟩) 0 0) [] from row_none (heap_alloc_new wx _) (Nat.le_refl _))
      have RB := hid (show RowPr ((wx.alloc (.cells #[] 103)).alloc (.cells #[.slice o1 p.key.length c1, .slice o2 p.val.length c2] 103)).drew wx.heap.size (.slice (some ⟨wx.heap.size, 0, none⟩) 0 0) [] from row_none ((Below.heap_alloc (wx.alloc (.cells #[] 103)) _ wx.heap.size (by simp)).trans (heap_alloc_new wx _)) (Nat.le_refl _))
      have RC := hid (show RowPr ((wx.alloc (.cells #[.slice o1 p.key.length c1, .slice o2 p.val.length c2] 103)).alloc (.cells #[] 103)).drew wx.heap.size (.slice (some ⟨wx.heap.size + 1, 0, none⟩) 0 0) [] from row_none (g := wx.heap.size + 1) (heap_new_at (wx.alloc (.cells #[.slice o1 p.key.length c1, .slice o2 p.val.length c2] 103)) (.cells #[] 103) (wx.heap.size + 1) (by simp)) (by omega))
      have PB := hid (show Row ((wx.alloc (.cells #[] 103)).alloc (.cells #[.slice o1 p.key.length c1, .slice o2 p.val.length c2] 103)).drew (wx.heap.size + 1) 103 [.slice o1 p.key.length c1, .slice o2 p.val.length c2] from Row.newAt (wx.alloc (.cells #[] 103)) 103 [.slice o1 p.key.length c1, .slice o2 p.val.length c2] (wx.heap.size + 1) (by simp))
      have PC := hid (show Row ((wx.alloc (.cells #[.slice o1 p.key.length c1, .slice o2 p.val.length c2] 103)).alloc (.cells #[] 103)).drew wx.heap.size 103 [.slice o1 p.key.length c1, .slice o2 p.val.length c2] from (Row.new wx 103 [.slice o1 p.key.length c1, .slice o2 p.val.length c2]).alloc _)
      have SZA := hid (show wx.heap.size ≤ (wx.alloc (.cells #[] 103)).drew.heap.size from BA.out.size)
      have SZB := hid (show wx.heap.size ≤ ((wx.alloc (.cells #[] 103)).alloc (.cells #[.slice o1 p.key.length c1, .slice o2 p.val.length c2] 103)).drew.heap.size from BB.out.size)
      have SZC := hid (show wx.heap.size ≤ ((wx.alloc (.cells #[.slice o1 p.key.length c1, .slice o2 p.val.length c2] 103)).alloc (.cells #[] 103)).drew.heap.size from BC.out.size)
      have HBX := hid (HB1.out.trans (hbx.mono (show w.heap.size ≤ w1.heap.size by omega)))
      have HSX := hid (show w.heap.size ≤ wx.heap.size by omega)
      clear hwx hbx hsrc hs30 hs37 b0 b1 hszx
      go_region_held3 (fun W => W.cell? ⟨w.heap.size, 0, none⟩ = some (.slice o1 p.key.length c1) ∧ W.cell? ⟨w.heap.size, 1, none⟩ = some (.slice o2 p.val.length c2)) (first | assumption) (first
        | (refine step_append_prs rfl (.tmp 27) (.tmp 30) rfl wx.heap.size (.slice (some ⟨wx.heap.size, 0, none⟩) 0 0) [] ?_ RA.out v30 (d.take k) ?_ (HSA.out _ BA.out).1 HONT.out HL1.out SZA.out ?_; rfl; rfl; intro v2 w2 hr2 hb2 hg2; have H2 := hid hr2; have B2 := hid (BA.out.trans hb2); have s2 := HSB.out _ B2.out; have s2' := HSB.out _ (B2.out.alloc B2.out.size (.cells #[.slice o1 p.key.length c1, .slice o2 p.val.length c2] 103)); clear hr2 hb2 hg2)
        | (refine step_append_prs rfl (.tmp 27) (.tmp 30) rfl wx.heap.size (.slice (some ⟨wx.heap.size, 0, none⟩) 0 0) [] ?_ RB.out v30 (d.take k) ?_ (HSA.out _ BB.out).1 HONT.out HL1.out SZB.out ?_; rfl; rfl; intro v2 w2 hr2 hb2 hg2; have H2 := hid hr2; have B2 := hid (BB.out.trans hb2); have s2 := HSB.out _ B2.out; have P2 := hid (PB.out.grown hg2 (by simp [Value.ownBlock])); clear hr2 hb2 hg2)
        | (refine step_append_prs rfl (.tmp 27) (.tmp 30) rfl wx.heap.size (.slice (some ⟨wx.heap.size + 1, 0, none⟩) 0 0) [] ?_ RC.out v30 (d.take k) ?_ (HSA.out _ BC.out).1 HONT.out HL1.out SZC.out ?_; rfl; rfl; intro v2 w2 hr2 hb2 hg2; have H2 := hid hr2; have B2 := hid (BC.out.trans hb2); have s2 := HSB.out _ B2.out; have P2c := hid (PC.out.grown hg2 (by simp [Value.ownBlock])); clear hr2 hb2 hg2)
        | (refine step_append_prs rfl (.tmp 31) (.tmp 33) rfl wx.heap.size v2 (d.take k) ?_ ((RowPr.below H2.out ((Below.refl _ _).alloc (Nat.le_refl _) (.cells #[.slice o1 p.key.length c1, .slice o2 p.val.length c2] 103)))) (.slice (some ⟨w2.heap.size, 0, none⟩) 1 1) [⟨p, .slice o1 p.key.length c1, .slice o2 p.val.length c2⟩] ?_ (src_one ((Row.new w2 103 [.slice o1 p.key.length c1, .slice o2 p.val.length c2]).cell 0) ((Row.new w2 103 [.slice o1 p.key.length c1, .slice o2 p.val.length c2]).cell 1)) HONX.out HL2.out (B2.out.alloc B2.out.size _).size ?_; rfl; rfl; intro v3 w3 hr3 hb3 hg3; have H3 := hid hr3; have B3 := hid ((B2.out.alloc B2.out.size (.cells #[.slice o1 p.key.length c1, .slice o2 p.val.length c2] 103)).trans hb3); have s3 := HSB.out _ B3.out; clear hr3 hb3 hg3)
        | (refine step_append_prs rfl (.tmp 31) (.tmp 33) rfl wx.heap.size v2 (d.take k) ?_ H2.out (.slice (some ⟨wx.heap.size + 1, 0, none⟩) 1 1) [⟨p, .slice o1 p.key.length c1, .slice o2 p.val.length c2⟩] ?_ (src_one (P2.out.cell 0) (P2.out.cell 1)) HONX.out HL2.out B2.out.size ?_; rfl; rfl; intro v3 w3 hr3 hb3 hg3; have H3 := hid hr3; have B3 := hid (B2.out.trans hb3); have s3 := HSB.out _ B3.out; clear hr3 hb3 hg3)
        | (refine step_append_prs rfl (.tmp 31) (.tmp 33) rfl wx.heap.size v2 (d.take k) ?_ H2.out (.slice (some ⟨wx.heap.size, 0, none⟩) 1 1) [⟨p, .slice o1 p.key.length c1, .slice o2 p.val.length c2⟩] ?_ (src_one (P2c.out.cell 0) (P2c.out.cell 1)) HONX.out HL2.out B2.out.size ?_; rfl; rfl; intro v3 w3 hr3 hb3 hg3; have H3 := hid hr3; have B3 := hid (B2.out.trans hb3); have s3 := HSB.out _ B3.out; clear hr3 hb3 hg3)
        | (refine step_append_prs rfl (.tmp 34) (.tmp 37) rfl wx.heap.size v3 (d.take k ++ [⟨p, .slice o1 p.key.length c1, .slice o2 p.val.length c2⟩]) ?_ H3.out v37 (d.drop k) ?_ (HSA.out _ B3.out).2 HOND.out HL3.out B3.out.size ?_; rfl; rfl; intro v4 w4 hr4 hb4 hg4; have H4 := hid hr4; have B4 := hid (B3.out.trans hb4); have s4 := HSB.out _ B4.out; clear hr4 hb4 hg4))
      all_goals
        go_wp2
        go_ret
        refine ⟨HBX.out.trans (B4.out.mono HSX.out), _, rfl, ?_⟩
        have hsv : setV ⟨p, .slice o1 p.key.length c1, .slice o2 p.val.length c2⟩ ps = d.take k ++ [⟨p, .slice o1 p.key.length c1, .slice o2 p.val.length c2⟩] ++ d.drop k := by
          unfold setV
          rw [HDE.out, HRK.out]
          simp
        rw [hsv]
        exact H4.out.mono HSX.out
end Go.Proofs.YtooemgkjkngpcaaGreatDoor
namespace Go.Proofs.YtooemgkjkngpcaaGreatDoor
open Go.RowKit

end Go.Proofs.YtooemgkjkngpcaaGreatDoor
namespace Go.Proofs.YtooemgkjkngpcaaGreatDoor
open Go.RowKit

theorem drewN_belowQ (w : World) (n N : Nat) : Below N w (w.drewN n) := ⟨rfl, rfl, rfl, Nat.le_refl _, fun _ _ => rfl⟩
theorem pr_take (l m : List Pr) (k : Nat) (x y : Pr) (hx : l[k]? = some x) (hy : m[k]? = some y) (h : l.take k = m.take k) (hk : x.key = y.key) (hv : x.val = y.val) : l.take (k + 1) = m.take (k + 1) := by
  obtain ⟨hl, rfl⟩ := List.getElem?_eq_some_iff.1 hx
  obtain ⟨hm, rfl⟩ := List.getElem?_eq_some_iff.1 hy
  rw [List.take_succ_eq_append_getElem hl, List.take_succ_eq_append_getElem hm, h]
  congr 2
  cases hlk : l[k]
  cases hmk : m[k]
  rw [hlk, hmk] at hk hv
  simp at hk hv
  rw [hk, hv]
theorem pr_ne (l m : List Pr) (k : Nat) (x y : Pr) (hx : l[k]? = some x) (hy : m[k]? = some y) (h : x.key ≠ y.key ∨ x.val ≠ y.val) : l ≠ m := by
  rintro rfl
  rw [hx] at hy
  obtain rfl : x = y := by simpa using hy
  rcases h with h | h <;> exact h rfl
set_option maxRecDepth 100000 in
set_option maxHeartbeats 4000000 in
theorem samePr_any (l m : List Pr) (sa sb : Value) (Na Nb : Nat) (w : World) (ha : Pairs w Na sa l) (hb : Pairs w Nb sb m) (hlen : l.length < 2305843009213693952)
    (hfl : ∀ p ∈ l, p.fits) (hfm : ∀ p ∈ m, p.fits) :
    Calls Tryz.prog 11 #[sa, sb] w fun e w' => ∃ bb, e = .returned (.bool bb) ∧ (bb = true ↔ l = m) ∧ ∃ n, w' = w.drewN n := by
  obtain ⟨oa, ca, rfl, hca⟩ := ha.shape
  obtain ⟨ob, cb, rfl, hcb⟩ := hb.shape
  by_cases hne : l.length = m.length
  · have HA := hid ha
    have HB := hid hb
    have HFL := hid hfl
    have HFM := hid hfm
    clear ha hb hfl hfm
    rw [← hne] at HB hcb ⊢
    have HE := hid hne
    clear hne
    generalize hn : l.length = n at *
    have HN := hid hn
    clear hn
    have hnn : ((n : Int) != (n : Int)) = false := by simp
    go_enter Tryz.func11, Tryz.ntmps11
    go_wp2_with fail
    go_loopw [13] (fun i wr => ∃ k q : Nat, k ≤ n ∧ i = .int .i64 k ∧ wr = w.drewN q ∧ Hid (l.take k = m.take k)) (fun i _ => n - (intOf i).toNat)
    case atStart => exact ⟨0, 0, by omega, rfl, rfl, rfl⟩
    case round =>
      obtain ⟨k, q, hk, rfl, rfl, HT⟩ := hrel
      by_cases hlt : k < n
      · obtain ⟨x, hx⟩ : ∃ p, l[k]? = some p := ⟨l[k]'(by rw [HN.out]; exact hlt), List.getElem?_eq_getElem _⟩
        obtain ⟨y, hy⟩ : ∃ p, m[k]? = some p := ⟨m[k]'(by rw [← HE.out]; exact hlt), List.getElem?_eq_getElem _⟩
        obtain ⟨b1, p1, rfl, cx⟩ := HA.out.some (by omega)
        obtain ⟨b2, p2, rfl, cy⟩ := HB.out.some (by omega)
        obtain ⟨_, xk, xv, x0, x1, hxk, hxv⟩ := cx k x hx
        obtain ⟨_, yk, yv, y0, y1, hyk, hyv⟩ := cy k y hy
        obtain ⟨o1, c1, rfl, _⟩ := hxk.shape
        obtain ⟨o2, c2, rfl, _⟩ := hxv.shape
        obtain ⟨o3, c3, rfl, _⟩ := hyk.shape
        obtain ⟨o4, c4, rfl, _⟩ := hyv.shape
        have hlt' : (k : Int) < (n : Int) := by omega
        have HX := hid hx
        have HY := hid hy
        have hfx := HFL.out x (List.mem_of_getElem? hx)
        have hfy := HFM.out y (List.mem_of_getElem? hy)
        clear cx cy hx hy
        have HSK := hid (fun wq : Nat => show Calls Tryz.prog 14 #[.slice o1 x.key.length c1, .slice o3 y.key.length c3] (w.drewN (q + wq)) (fun e w' => e = .returned (.bool (decide (x.key = y.key))) ∧ ∃ n, w' = w.drewN (q + n)) from
          (sameB_any x.key y.key _ _ Na Nb (w.drewN (q + wq)) (hxk.below (drewN_belowQ _ _ _)) (hyk.below (drewN_belowQ _ _ _)) (by have := hfx.1; omega) (by have := hfy.1; omega)).mono fun e w' ⟨h1, n', h2⟩ => ⟨h1, wq + n', by rw [h2, World.drewN_drewN, Nat.add_assoc]⟩)
        have HSV := hid (fun wq : Nat => show Calls Tryz.prog 14 #[.slice o2 x.val.length c2, .slice o4 y.val.length c4] (w.drewN (q + wq)) (fun e w' => e = .returned (.bool (decide (x.val = y.val))) ∧ ∃ n, w' = w.drewN (q + n)) from
          (sameB_any x.val y.val _ _ Na Nb (w.drewN (q + wq)) (hxv.below (drewN_belowQ _ _ _)) (hyv.below (drewN_belowQ _ _ _)) (by have := hfx.2; omega) (by have := hfy.2; omega)).mono fun e w' ⟨h1, n', h2⟩ => ⟨h1, wq + n', by rw [h2, World.drewN_drewN, Nat.add_assoc]⟩)
        clear hxk hxv hyk hyv hfx hfy
        by_cases hkk : x.key = y.key
        · have HKK := hid hkk
          rw [decide_eq_true hkk] at HSK
          clear hkk
          by_cases hvv : x.val = y.val
          · have HEQ := hid (pr_take l m k x y HX.out HY.out HT.out HKK.out hvv)
            rw [decide_eq_true hvv] at HSV
            clear hvv
            go_wp2_with fail
            go_quiet (first | (go_at_call_of 14 (Value.slice o1 x.key.length c1); exact HSK.out _) | (go_at_call_of 14 (Value.slice o2 x.val.length c2); exact HSV.out _))
            go_wp2
            go_roundw
            case rel => exact ⟨k + 1, q + nq, by omega, by go_num, rfl, HEQ⟩
            case measure => simp [intOf]; omega
          · have HNE := hid (pr_ne l m k x y HX.out HY.out (.inr hvv))
            rw [decide_eq_false hvv] at HSV
            clear hvv
            go_wp2_with fail
            go_quiet (first | (go_at_call_of 14 (Value.slice o1 x.key.length c1); exact HSK.out _) | (go_at_call_of 14 (Value.slice o2 x.val.length c2); exact HSV.out _))
            go_wp2
            go_ret
            exact ⟨false, rfl, ⟨fun h => by simp at h, fun h => absurd h HNE.out⟩, q + nq, World.drewN_drewN _ _ _⟩
        · have HNE := hid (pr_ne l m k x y HX.out HY.out (.inl hkk))
          rw [decide_eq_false hkk] at HSK
          clear hkk
          go_wp2_with fail
          go_quiet (first | (go_at_call_of 14 (Value.slice o1 x.key.length c1); exact HSK.out _))
          go_wp2
          go_ret
          exact ⟨false, rfl, ⟨fun h => by simp at h, fun h => absurd h HNE.out⟩, q + nq, World.drewN_drewN _ _ _⟩
      · have HEQ := hid (show l = m by
          have := HT.out
          rwa [List.take_of_length_le (by rw [HN.out]; omega), List.take_of_length_le (by rw [← HE.out]; omega)] at this)
        go_wp2
        go_ret
        exact ⟨true, rfl, ⟨fun _ => HEQ.out, fun _ => rfl⟩, q, rfl⟩
  · have hnn : ((l.length : Int) != (m.length : Int)) = true := by simp; omega
    have HNE := hid (show ¬ l = m from fun h => hne (by rw [h]))
    clear ha hb hfl hfm
    go_enter Tryz.func11, Tryz.ntmps11
    go_wp2
    go_ret
    exact ⟨false, rfl, ⟨fun h => by simp at h, fun h => absurd h HNE.out⟩, 0, rfl⟩
end Go.Proofs.YtooemgkjkngpcaaGreatDoor
