/-
  What package book's do makes of one doing, of a row of pairs that the call owns.
-/
import Derived.Test.YtooemgkjkngpcaaGreatDoorTaBookRow
import Derived.Test.YtooemgkjkngpcaaGreatDoorTaBookGet
import Derived.Test.YtooemgkjkngpcaaGreatDoorTaBookIns
import Derived.Deep.RegionHeld3
namespace Go.Proofs.YtooemgkjkngpcaaGreatDoor
open Go.RowKit

set_option maxRecDepth 100000 in
set_option maxHeartbeats 2000000 in
theorem delete_any (ps : List PrV) (i base : Nat) (v : Value) (w : World) (h : RowPr w base v ps) (hone : ∀ q ∈ ps, q.k.oneCell' = true ∧ q.v.oneCell' = true) (hi : i < ps.length) (j : Nat) (hj : j = i + 1) :
    Calls Tryz.prog 111 #[v, .int .i64 (i : Int), .int .i64 (j : Int)] w fun e w' => w.grownBy w' v.ownBlock ∧ ∃ v', e = .returned v' ∧ RowPr w' base v' (ps.take i ++ ps.drop (i + 1)) := by
  obtain ⟨g, c, cs, rfl, hbase, hrow, hnc, hcm, hcl, htk⟩ := h.row (by omega)
  obtain ⟨i0, hi0, hz0, hz1, hz2⟩ := info_parts info_pair
  obtain ⟨news, hnews⟩ : ∃ news, news = (ps.drop j).flatMap prCells := ⟨_, rfl⟩
  have hnl : news.length = (ps.length - j) * 2 := by rw [hnews, flatPr_len]; simp
  have hcell : ∀ j, w.drew.cell? ⟨g, j, none⟩ = cs[j]? := fun j => hrow.drew.cell j
  obtain ⟨A, hA, hsrc⟩ : ∃ A : Addr, (if c = j then some (⟨g, 0, none⟩ : Addr) else some ⟨g, j * 2, none⟩) = some A ∧ Hid (∀ t u, news[t]? = some u → w.drew.cell? (A.add t) = some u) := by
    by_cases hc : c = j
    · refine ⟨⟨g, 0, none⟩, by simp [hc], fun t u hu => ?_⟩
      have h0 : news.length = 0 := by rw [hnl]; omega
      rw [List.length_eq_zero_iff.1 h0] at hu
      simp at hu
    · refine ⟨⟨g, j * 2, none⟩, by simp [hc], fun t u hu => ?_⟩
      have hadd : (⟨g, j * 2, none⟩ : Addr).add t = ⟨g, j * 2 + t, none⟩ := by unfold Addr.add; split <;> simp_all
      rw [hadd, hcell]
      rw [hnews, flat_drop, List.getElem?_drop] at hu
      exact flat_get_some htk _ u hu
  have s2 := hid (show ∀ u ∈ news, u.oneCell' = true by
    rw [hnews]
    exact flat_one fun q hq => hone q (List.mem_of_mem_drop hq))
  have s3 := hid (show ∀ t, t < news.length → (w.drew.cell? ⟨g, 0 + i * 2 + t, none⟩).isSome = true ∧ w.drew.frozen? ⟨g, 0 + i * 2 + t, none⟩ = false by
    intro t ht
    rw [hnl] at ht
    rw [hcell]
    refine ⟨?_, hrow.drew.frozen _⟩
    rw [List.getElem?_eq_getElem (by omega)]
    rfl)
  obtain ⟨W1, hW1⟩ : ∃ W1, W1 = w.drew.setCells g (0 + i * 2) news := ⟨_, rfl⟩
  have hr1 : Row W1 g 103 (putL cs (i * 2) news) := by
    rw [hW1, Nat.zero_add]
    exact Row.setCells news (i * 2) _ _ hrow.drew (by rw [hnl]; omega)
  have hl1 : (putL cs (i * 2) news).length = c * 2 := by rw [putL_length _ _ _ (by rw [hnl]; omega), hcl]
  obtain ⟨nz, hnz⟩ : ∃ nz : Value, nz = .slice none 0 0 := ⟨_, rfl⟩
  have hg1 : w.grownBy W1 (some g) := by rw [hW1]; exact grown_trans (⟨rfl, rfl, rfl, Nat.le_refl _, fun _ _ _ => rfl⟩ : w.grownBy w.drew _) (grown_setCells g _ _ w.drew)
  obtain ⟨n, hn⟩ : ∃ n, ps.length = n := ⟨_, rfl⟩
  have hcl2 := hid (show ∀ ty (x y : Nat), x = n - 1 → (Builtin.clear_ #[31] ty #[.slice (some ⟨g, x * 2, none⟩) (n - x) y]).run Tryz.prog W1 = .ok (.tuple #[]) (W1.setCells g (x * 2) [.slice none 0 0, .slice none 0 0]) from fun ty x y hx => by
    have hst := run_storeCells_cells (P := Tryz.prog) g (x * 2) [.slice none 0 0, .slice none 0 0] 0 W1 (fun j hj => by
        rw [hr1.cell, List.getElem?_eq_getElem (by rw [hl1]; simp at hj; omega)]
        rfl) (fun j hj => hr1.frozen _) (fun u hu => by simp at hu; rw [hu]; rfl)
    simp only [Nat.add_zero] at hst
    have e1 : n - x = 0 + 1 := by omega
    rw [e1]
    have hzv : ∀ w, (zeroValue 103).run Tryz.prog w = .ok (.agg #[.slice none 0 0, .slice none 0 0]) w := by intro w; kernel_rfl
    have hzc : (Builtin.zeroCells (Value.agg #[.slice none 0 0, .slice none 0 0]).cells (0 + 1)).toList = [.slice none 0 0, .slice none 0 0] := by kernel_rfl
    simp [Builtin.clear_, run_underlying Tryz.underlying31, hzv, hzc, hst])
  have FIN := hid (show ∀ x m : Nat, x = n - 1 → m = n - 1 → w.grownBy (W1.setCells g (x * 2) [.slice none 0 0, .slice none 0 0]) (some g) ∧ RowPr (W1.setCells g (x * 2) [.slice none 0 0, .slice none 0 0]) base (.slice (some ⟨g, 0, none⟩) m c) (ps.take i ++ ps.drop j) from fun x m hx hm => by
    refine ⟨grown_trans hg1 (grown_setCells g _ _ _), RowPr.of_row hbase (Row.setCells _ _ _ _ hr1 (by rw [hl1]; simp; omega)) (by simp; omega) (by omega) hcm (by rw [putL_length _ _ _ (by rw [hl1]; simp; omega), hl1]) ?_⟩
    rw [putL_take_le _ _ _ (by rw [hl1]; omega) _ (by omega), putL_take cs (i * 2) news (by omega) _ (by rw [hnl]; omega), hnl, show m * 2 - (i * 2 + (ps.length - j) * 2) = 0 by omega]
    rw [List.take_zero, List.append_nil, List.flatMap_append, hnews, flat_take, ← htk, List.take_take, Nat.min_eq_left (by omega)])
  have HN := hid hn
  have HJ := hid hj
  have hnl2 := hid (show news.length = (n - j) * 2 by rw [hnl, hn])
  have hin : i < n := by omega
  rw [hn] at hnc
  have hc63 : c ≤ 9223372036854775807 := by unfold maxLen at hcm; omega
  have hW := hid hW1
  clear hW1 hr1 hl1 hg1 hcell hnl hnews hrow htk h hone hi hcl hcm
  rw [hn]
  clear hn
  have f1 : i ≤ c := by omega
  have f2 : j ≤ c := by omega
  have f3 : (i : Int) ≤ (n : Int) := by omega
  have f4 : ((j : Nat) : Int) ≤ (n : Int) := by omega
  have f5 : (i : Int) ≤ ((j : Nat) : Int) := by omega
  have f7 : ¬ ((i : Int) = ((j : Nat) : Int)) := by omega
  obtain ⟨m, hm⟩ : ∃ m, i + (n - j) = m := ⟨_, rfl⟩
  have hmn : m = n - 1 := by omega
  have f8 : (m : Int) ≤ (n : Int) := by omega
  have f9 : ¬ c = m := by omega
  have f10 : n ≤ c := by omega
  have f11 : (n : Int) ≤ (c : Int) := by omega
  have hclr : ∀ ty, (Builtin.clear_ #[31] ty #[.slice (some ⟨g, m * 2, none⟩) (n - m) (c - m)]).run Tryz.prog W1 = .ok (.tuple #[]) (W1.setCells g (m * 2) [.slice none 0 0, .slice none 0 0]) := fun ty => hcl2.out ty m (c - m) hmn
  have HM := hid hm
  have HMN := hid hmn
  clear hj hmn
  go_enter Tryz.func111, Tryz.ntmps111
  go_wp2_with fail
  go_region_law (refine step_append_room rfl (.tmp 22) (.tmp 25) 31 rfl 103 i0 2 Tryz.underlying31 hi0 hz1 g 0 i c (by simp [Act.eval, Act.put]) A (n - j) (c - j) news (by simp [Act.eval, Act.put]) hnl2.out hsrc.out s2.out (by omega) s3.out ?_; rw [← hW.out])
  go_wp2
  go_ret
  obtain ⟨r1, r2⟩ := FIN.out m m HMN.out HMN.out
  exact ⟨r1, .slice (some ⟨g, 0, none⟩) m c, rfl, by rw [← HJ.out]; exact r2⟩
end Go.Proofs.YtooemgkjkngpcaaGreatDoor
namespace Go.Proofs.YtooemgkjkngpcaaGreatDoor
open Go.RowKit

/-- a row of pairs, all of it owned -/
def OwnPr (w : World) (base : Nat) (v : Value) (ps : List PrV) : Prop := RowPr w base v ps ∧ ∀ q ∈ ps, OwnB w base q.k q.p.key ∧ OwnB w base q.v q.p.val
theorem OwnB.below' {w w' : World} {base : Nat} {v : Value} {l : List (BitVec 8)} (h : OwnB w base v l) (hg : Below w.heap.size w w') : OwnB w' base v l := ownsRow_belowP h hg
theorem OwnPr.one {w : World} {base : Nat} {v : Value} {ps : List PrV} (h : OwnPr w base v ps) : ∀ q ∈ ps, q.k.oneCell' = true ∧ q.v.oneCell' = true := fun q hq => ⟨(h.2 q hq).1.one, (h.2 q hq).2.one⟩
theorem OwnPr.below {w w' : World} {base : Nat} {v : Value} {ps : List PrV} (h : OwnPr w base v ps) (hg : Below w.heap.size w w') : OwnPr w' base v ps := ⟨h.1.below hg, fun q hq => ⟨(h.2 q hq).1.below' hg, (h.2 q hq).2.below' hg⟩⟩
theorem OwnPr.pairs {w : World} {base : Nat} {v : Value} {ps : List PrV} (h : OwnPr w base v ps) : Pairs w w.heap.size v (ps.map (·.p)) := h.1.pairs (Nat.le_refl _) fun q hq => ⟨(h.2 q hq).1.bytes, (h.2 q hq).2.bytes⟩
theorem OwnPr.nil (w : World) (base : Nat) : OwnPr w base (.slice none 0 0) [] := ⟨RowPr.nil _ _, fun _ h => by cases h⟩
/-- what is done with the row leaves its bytes -/
theorem OwnPr.past {w w' : World} {base : Nat} {v v' : Value} {ps ps' : List PrV} (h : OwnPr w base v ps) (hg : w.grownBy w' v.ownBlock) (hr : RowPr w' base v' ps') (hm : ∀ q ∈ ps', q ∈ ps ∨ (OwnB w base q.k q.p.key ∧ OwnB w base q.v q.p.val)) : OwnPr w' base v' ps' := by
  refine ⟨hr, fun q hq => ?_⟩
  rcases hm q hq with h1 | h1
  · exact ⟨(h.2 q h1).1.past h.1 hg, (h.2 q h1).2.past h.1 hg⟩
  · exact ⟨h1.1.past h.1 hg, h1.2.past h.1 hg⟩
/-- a value is set, in its place -/
theorem RowPr.setVal {w : World} {base g n c : Nat} {ps : List PrV} {i : Nat} {q : PrV} (h : RowPr w base (.slice (some ⟨g, 0, none⟩) n c) ps) (hq : ps[i]? = some q) (q' : PrV) (hk : q'.k = q.k) : RowPr (w.setCell ⟨g, i * 2 + 1, none⟩ q'.v) base (.slice (some ⟨g, 0, none⟩) n c) (ps.set i q') := by
  have hi : i < ps.length := (List.getElem?_eq_some_iff.1 hq).1
  obtain ⟨g', c', cs, he, hb, hrow, hnc, hcm, hcl, htk⟩ := h.row (by omega)
  obtain ⟨rfl, rfl, rfl⟩ : g = g' ∧ n = ps.length ∧ c = c' := by simpa using he
  refine RowPr.of_row hb (hrow.set _ _) (by simp) hnc hcm (by simpa using hcl) ?_
  apply List.ext_getElem?
  intro j
  rw [List.getElem?_take, List.getElem?_set]
  by_cases hj : j < ps.length * 2
  · rw [if_pos hj]
    by_cases he2 : i * 2 + 1 = j
    · subst he2
      rw [if_pos rfl, if_pos (by omega), flatPr_get (ps.set i q') i 1 q' (by rw [List.getElem?_set]; simp [hi]) (by omega)]
      rfl
    · rw [if_neg he2]
      have hj2 : cs[j]? = (ps.flatMap prCells)[j]? := by rw [← htk, List.getElem?_take, if_pos hj]
      rw [hj2]
      obtain ⟨x, hx⟩ : ∃ x, ps[j / 2]? = some x := ⟨ps[j / 2]'(by omega), List.getElem?_eq_getElem _⟩
      have e1 := flatPr_get ps (j / 2) (j % 2) x hx (by omega)
      rw [show j / 2 * 2 + j % 2 = j by omega] at e1
      rw [e1]
      by_cases hi2 : i = j / 2
      · subst hi2
        have e2 := flatPr_get (ps.set (j / 2) q') (j / 2) (j % 2) q' (by rw [List.getElem?_set]; simp [hi]) (by omega)
        rw [show j / 2 * 2 + j % 2 = j by omega] at e2
        rw [e2]
        rw [hq] at hx
        obtain rfl : q = x := by simpa using hx
        have : j % 2 = 0 := by omega
        rw [this]
        simp [prCells, hk]
      · have e2 := flatPr_get (ps.set i q') (j / 2) (j % 2) x (by rw [List.getElem?_set, if_neg hi2]; exact hx) (by omega)
        rw [show j / 2 * 2 + j % 2 = j by omega] at e2
        rw [e2]
  · rw [if_neg hj, List.getElem?_eq_none (by rw [flatPr_len]; simp; omega)]
theorem RowPr.apart {w : World} {base g : Nat} {v : Value} {ps : List PrV} {t : TypeId} {cs : List Value} (h : RowPr w base v ps) (hr : Row w g t cs) (ht : t ≠ 103) : some g ≠ v.ownBlock := by
  intro he
  rcases h.2 with ⟨rfl, _⟩ | ⟨g', c', cur', rfl, _, h8, _⟩
  · simp [Value.ownBlock] at he
  · obtain rfl : g = g' := by simpa [Value.ownBlock] using he
    unfold Row at hr
    rw [hr] at h8
    simp at h8
    exact ht h8.2
theorem map_del (ps : List PrV) (i : Nat) : (ps.take i ++ ps.drop (i + 1)).map (·.p) = (ps.map (·.p)).take i ++ (ps.map (·.p)).drop (i + 1) := by
  rw [List.map_append, List.map_take, List.map_drop]
theorem map_ins (ps : List PrV) (i : Nat) (q : PrV) : (insV ps i q).map (·.p) = (ps.map (·.p)).take i ++ q.p :: (ps.map (·.p)).drop i := by
  unfold insV
  rw [List.map_append, List.map_cons, List.map_take, List.map_drop]
theorem map_set (ps : List PrV) (i : Nat) (hi : i < ps.length) (q : PrV) : (ps.set i q).map (·.p) = (ps.map (·.p)).take i ++ q.p :: (ps.map (·.p)).drop (i + 1) := by
  rw [List.map_set, List.set_eq_take_append_cons_drop, if_pos (by simpa using hi)]
/-- what a doing is answered by -/
def DoneBy (ps : List PrV) (d : Dg) (base : Nat) (w : World) (e : Ending) (w' : World) : Prop :=
  Below base w w' ∧ (((60 < d.key.length ∨ 200 < d.val.length) ∧ e = .returned (.tuple #[.slice none 0 0, .int .i64 4])) ∨
    (¬ (60 < d.key.length ∨ 200 < d.val.length) ∧ (d.gone = false ∧ 200 < (doOne d (ps.map (·.p))).length) ∧ e = .returned (.tuple #[.slice none 0 0, .int .i64 5])) ∨
    (¬ (60 < d.key.length ∨ 200 < d.val.length) ∧ ¬ (d.gone = false ∧ 200 < (doOne d (ps.map (·.p))).length) ∧ ∃ v' ps', e = .returned (.tuple #[v', .int .i64 0]) ∧ OwnPr w' base v' ps' ∧ ps'.map (·.p) = doOne d (ps.map (·.p))))
set_option maxRecDepth 100000 in
set_option maxHeartbeats 2000000 in
theorem do_any (ps : List PrV) (d : Dg) (v kv vv : Value) (base N : Nat) (w : World) (h : OwnPr w base v ps) (hb : base ≤ w.heap.size) (hN : N ≤ base) (hk : Bytes w N kv d.key) (hv : Bytes w N vv d.val) (hs : Sorted (ps.map (·.p))) (hl : ps.length ≤ 200) :
    Calls Tryz.prog 81 #[v, .agg #[kv, vv, .bool d.gone]] w (DoneBy ps d base w) := by
  obtain ⟨oa, c, rfl, hnc⟩ := h.1.shape
  obtain ⟨o1, c1, rfl, hc1⟩ := hk.shape
  obtain ⟨o2, c2, rfl, hc2⟩ := hv.shape
  obtain ⟨w1, hw1⟩ : ∃ w1, w.alloc (.cells #[.slice o1 d.key.length c1, .slice o2 d.val.length c2, .bool d.gone] 140) = w1 := ⟨_, rfl⟩
  have hsz1 : w1.heap.size = w.heap.size + 1 := by rw [← hw1]; simp
  have hb1 : Below w.heap.size w w1 := by rw [← hw1]; exact (Below.refl _ _).alloc (Nat.le_refl _) _
  have hrow1 : Row w1 w.heap.size 140 [.slice o1 d.key.length c1, .slice o2 d.val.length c2, .bool d.gone] := by rw [← hw1]; exact Row.new _ _ _
  have HO1 := hid (h.below hb1)
  have HK1 := hid (hk.below (hb1.mono (by omega)))
  have HV1 := hid (hv.below (hb1.mono (by omega)))
  have HB1 := hid hb1
  have HR1 := hid hrow1
  have HW1 := hid hw1
  have HS := hid hs
  clear h hk hv hb1 hrow1 hs
  have HTM := hid (tooMuch_any d.key.length d.val.length o1 o2 c1 c2 w1)
  generalize hn : ps.length = n at *
  have HN := hid hn
  clear hn
  have q0 := HR1.out.cell 0
  have q1 := HR1.out.cell 1
  by_cases hmuch : 60 < d.key.length ∨ 200 < d.val.length
  · rw [show (decide (60 < d.key.length) || decide (200 < d.val.length)) = true by simpa using hmuch] at HTM
    have HM := hid hmuch
    clear hmuch hw1
    go_enter Tryz.func81, Tryz.ntmps81
    go_wp2_with fail
    rw [HW1.out]
    refine HTM.out.mono ?_
    rintro e w3 ⟨rfl, hw3⟩
    obtain rfl := hw3.symm
    go_wp2
    go_ret2
    exact ⟨HB1.out.mono hb, .inl ⟨HM.out, rfl⟩⟩
  · rw [show (decide (60 < d.key.length) || decide (200 < d.val.length)) = false by simpa using hmuch] at HTM
    have HM := hid hmuch
    have HLN := hid (show d.key.length ≤ 60 ∧ d.val.length ≤ 200 by omega)
    have HF := hid (find_any (ps.map (·.p)) d.key (.slice oa n c) (.slice o1 d.key.length c1) w1.heap.size w1 (Nat.le_refl _) HO1.out.pairs (HK1.out.mono (by omega)) HS.out (by rw [List.length_map, HN.out]; omega))
    clear hmuch hw1
    go_enter Tryz.func81, Tryz.ntmps81
    go_wp2_with fail
    rw [HW1.out]
    refine HTM.out.mono ?_
    rintro e w3 ⟨rfl, hw3⟩
    obtain rfl := hw3.symm
    go_wp2_with fail
    refine HF.out.mono ?_
    rintro e w2 ⟨hb2, i, fd, hat, rfl⟩
    have HO2 := hid (HO1.out.below hb2)
    have HR2 := hid (HR1.out.below hb2 (by omega))
    have HB2 := hid (HB1.out.trans (hb2.mono (by omega)))
    have HK2 := hid (HK1.out.below (hb2.mono (by omega)))
    have HV2 := hid (HV1.out.below (hb2.mono (by omega)))
    have HSZ2 := hid (show w1.heap.size ≤ w2.heap.size from hb2.size)
    have HA := hid hat
    clear hb2 hat
    have g0 := HR2.out.cell 0
    have g1 := HR2.out.cell 1
    have g2 := HR2.out.cell 2
    clear q0 q1
    cases hg : d.gone with
    | true =>
      rw [hg] at g2
      have HG := hid hg
      clear hg
      cases fd with
      | true =>
        have HI := hid (show i < ps.length by obtain ⟨p, hp, _⟩ := HA.out.found; have := (List.getElem?_eq_some_iff.1 hp).1; simpa using this)
        have HD := hid (delete_any ps i base (.slice oa n c) w2 HO2.out.1 HO2.out.one HI.out (i + 1) rfl)
        rw [show ((i + 1 : Nat) : Int) = (i : Int) + 1 by omega] at HD
        have hi := HI.out
        rw [HN.out] at hi
        go_wp2_with fail
        refine HD.out.mono ?_
        rintro e w4 ⟨hg4, v4, rfl, hr4⟩
        have HE := hid (show OwnPr w4 base v4 (ps.take i ++ ps.drop (i + 1)) from HO2.out.past hg4 hr4 fun q hq => .inl (by
          rcases List.mem_append.1 hq with hq | hq
          · exact List.mem_of_mem_take hq
          · exact List.mem_of_mem_drop hq))
        have HB4 := hid ((HB2.out.mono hb).trans (HO2.out.1.below_of (by have := HSZ2.out; omega) hg4))
        clear hg4 hr4
        go_wp2
        go_ret2
        refine ⟨HB4.out, .inr (.inr ⟨HM.out, fun hh => (by rw [HG.out] at hh; cases hh.1), _, _, rfl, HE.out, ?_⟩)⟩
        unfold doOne
        rw [if_pos HG.out, HA.out.drop_found HS.out, map_del]
      | false =>
        go_wp2
        go_ret2
        refine ⟨HB2.out.mono hb, .inr (.inr ⟨HM.out, fun hh => (by rw [HG.out] at hh; cases hh.1), _, _, rfl, HO2.out, ?_⟩)⟩
        unfold doOne
        rw [if_pos HG.out, HA.out.drop_not HS.out]
    | false =>
      rw [hg] at g2
      have HG := hid hg
      clear hg
      cases fd with
      | true =>
        obtain ⟨p, hp, hpk⟩ := HA.out.found
        obtain ⟨q, hq, hqp⟩ : ∃ q, ps[i]? = some q ∧ q.p = p := by simpa using hp
        have hi : i < n := by rw [← HN.out]; exact (List.getElem?_eq_some_iff.1 hq).1
        obtain ⟨g, hoa, hbg, hgl, hcells⟩ := HO2.out.1.get (by omega)
        subst hoa
        have hi' : (i : Int) < (n : Int) := by omega
        have HCL := hid (cloneB_any d.val (.slice o2 d.val.length c2) N w2 HV2.out (by have := HLN.out; omega))
        have HQ := hid hq
        have HQK := hid (show q.p.key = d.key by rw [hqp]; exact hpk)
        clear hp hpk hq hqp hcells
        go_wp2_with fail
        refine HCL.out.mono ?_
        rintro e w3 ⟨hb3, v3, rfl, hown3⟩
        have HO3 := hid (HO2.out.below hb3)
        have HV3 := hid hown3
        have HB3 := hid ((HB2.out.mono hb).trans (hb3.mono (by have := HSZ2.out; omega)))
        have HSZ3 := hid (show w2.heap.size ≤ w3.heap.size from hb3.size)
        obtain ⟨o3, c3, rfl, hc3⟩ := hown3.shape
        clear hb3 hown3
        have HV3b := hid (HV3.out.mono (show base ≤ w2.heap.size by have := HSZ2.out; omega))
        have HRS := hid (HO3.out.1.setVal HQ.out ⟨⟨d.key, d.val⟩, q.k, .slice o3 d.val.length c3⟩ rfl)
        obtain ⟨g', c', cs, he, _, hrow3, hnc3, _, hcl3, _⟩ := HO3.out.1.row (by rw [HN.out]; omega)
        obtain ⟨rfl, hn', rfl⟩ : g = g' ∧ n = ps.length ∧ c = c' := by simpa using he
        have s0 : w3.cell? ⟨g, i * 2 + 1, none⟩ = some (cs[i * 2 + 1]'(by rw [hcl3]; omega)) := by rw [hrow3.cell, List.getElem?_eq_getElem]
        have s1 := hrow3.frozen (i * 2 + 1)
        generalize cs[i * 2 + 1]'(by rw [hcl3]; omega) = old at s0
        clear hrow3 he hcl3 hn' hnc3
        go_wp2
        go_ret2
        refine ⟨HB3.out.trans (HO3.out.1.below_of (by have := HSZ2.out; have := HSZ3.out; omega) (grown_set w3 g _ _)), .inr (.inr ⟨HM.out, ?_, _, _, rfl, HO3.out.past (grown_set w3 g _ _) HRS.out ?_, ?_⟩)⟩
        · intro hh
          have h2 := hh.2
          unfold doOne at h2
          rw [if_neg (by rw [HG.out]; simp), HA.out.set_found HS.out] at h2
          simp at h2
          rw [HN.out] at h2
          omega
        · intro x hx
          rcases List.mem_or_eq_of_mem_set hx with hx | rfl
          · exact .inl hx
          · exact .inr ⟨by rw [show (⟨⟨d.key, d.val⟩, q.k, .slice o3 d.val.length c3⟩ : PrV).p.key = q.p.key from HQK.out.symm]; exact (HO3.out.2 q (List.mem_of_getElem? HQ.out)).1, HV3b.out⟩
        · unfold doOne
          rw [if_neg (by rw [HG.out]; simp), HA.out.set_found HS.out, map_set _ _ (by rw [HN.out]; exact hi)]
      | false =>
        have HDO := hid (show doOne d (ps.map (·.p)) = (ps.map (·.p)).take i ++ ⟨d.key, d.val⟩ :: (ps.map (·.p)).drop i by
          unfold doOne
          rw [if_neg (by rw [HG.out]; simp), HA.out.set_not HS.out])
        have HLE := hid (show i ≤ ps.length by have := HA.out.1; simpa using this)
        have HDL := hid (show (doOne d (ps.map (·.p))).length = n + 1 by
          have := HLE.out
          rw [HDO.out, ← HN.out]
          simp
          omega)
        by_cases hmany : 200 ≤ n
        · have e1 : decide ((200 : Int) ≤ (n : Int)) = true := by simp; omega
          go_wp2
          go_ret2
          exact ⟨HB2.out.mono hb, .inr (.inl ⟨HM.out, ⟨HG.out, by rw [HDL.out]; omega⟩, rfl⟩)⟩
        · have e1 : decide ((200 : Int) ≤ (n : Int)) = false := by simp; omega
          have HCK := hid (fun wx (hx : Below w2.heap.size w2 wx) => cloneB_any d.key (.slice o1 d.key.length c1) N wx (HK2.out.below (hx.mono (by have := HSZ2.out; omega))) (by have := HLN.out; omega))
          have HCV := hid (fun wx (hx : Below w2.heap.size w2 wx) => cloneB_any d.val (.slice o2 d.val.length c2) N wx (HV2.out.below (hx.mono (by have := HSZ2.out; omega))) (by have := HLN.out; omega))
          have HBC := hid (show ∀ wx, Below w2.heap.size w2 wx → wx.cell? ⟨w.heap.size, 0, none⟩ = some (.slice o1 d.key.length c1) ∧ wx.cell? ⟨w.heap.size, 1, none⟩ = some (.slice o2 d.val.length c2) from fun wx hx => by
            have hr := HR2.out.below hx (by have := HSZ2.out; omega)
            exact ⟨hr.cell 0, hr.cell 1⟩)
          have HBD := hid (show Below w2.heap.size w2 w2.drew from (Below.refl _ _).drew)
          have s0 : w2.drew.cell? ⟨w.heap.size, 0, none⟩ = some (.slice o1 d.key.length c1) ∧ w2.drew.cell? ⟨w.heap.size, 1, none⟩ = some (.slice o2 d.val.length c2) := HBC.out _ HBD.out
          have HINS := hid (show ∀ (w4 : World) (o3 o4 : Option Addr) (c3 c4 : Nat), Below w2.heap.size w2 w4 → OwnB w4 base (.slice o3 d.key.length c3) d.key → OwnB w4 base (.slice o4 d.val.length c4) d.val →
              Calls Tryz.prog 113 #[.slice oa n c, .int .i64 (i : Int), .slice (some ⟨w4.heap.size, 0, none⟩) 1 1] (w4.alloc (.cells #[.slice o3 d.key.length c3, .slice o4 d.val.length c4] 103))
                (fun e w' => Below base w w' ∧ ∃ ov nv cv, e = .returned (.slice ov nv cv) ∧ (w'.cell? ⟨w.heap.size, 0, none⟩ = some (.slice o1 d.key.length c1) ∧ w'.cell? ⟨w.heap.size, 1, none⟩ = some (.slice o2 d.val.length c2)) ∧ OwnPr w' base (.slice ov nv cv) (insV ps i ⟨⟨d.key, d.val⟩, .slice o3 d.key.length c3, .slice o4 d.val.length c4⟩)) from by
            intro w4 o3 o4 c3 c4 hb4 hk4 hv4
            have hsz := HSZ2.out
            have hb5 : Below w4.heap.size w4 (w4.alloc (.cells #[.slice o3 d.key.length c3, .slice o4 d.val.length c4] 103)) := (Below.refl _ _).alloc (Nat.le_refl _) _
            have ho5 := (HO2.out.below hb4).below hb5
            have hbase5 : base ≤ (w4.alloc (.cells #[.slice o3 d.key.length c3, .slice o4 d.val.length c4] 103)).heap.size := by have := hb4.size; have := hb5.size; omega
            refine (insert_any ps i ⟨⟨d.key, d.val⟩, .slice o3 d.key.length c3, .slice o4 d.val.length c4⟩ base w4.heap.size (.slice oa n c) _ ho5.1 hbase5 ho5.one (Row.new _ _ _) ⟨rfl, rfl⟩ ?_ HLE.out (by rw [HN.out]; omega)).mono ?_
            · intro g hg he
              have h1 := World.ownsRow.lt (HO2.out.below hb4).1 g hg
              omega
            · rintro e w' ⟨hg6, v6, rfl, hr6⟩
              obtain ⟨ov, cv, rfl, _⟩ := hr6.shape
              refine ⟨(((HB2.out.mono hb).trans (hb4.mono (by omega))).trans (hb5.mono (by have := hb4.size; omega))).trans (ho5.1.below_of hbase5 hg6), ov, _, cv, rfl, ?_, ho5.past hg6 hr6 ?_⟩
              · have hr5 := (HR2.out.below hb4 (by omega)).alloc (.cells #[.slice o3 d.key.length c3, .slice o4 d.val.length c4] 103)
                have hr7 := hr5.grown hg6 (ho5.1.apart hr5 (by decide))
                exact ⟨hr7.cell 0, hr7.cell 1⟩
              intro x hx
              unfold insV at hx
              rcases List.mem_append.1 hx with hx | hx
              · exact .inl (List.mem_of_mem_take hx)
              · rcases List.mem_cons.1 hx with rfl | hx
                · exact .inr ⟨hk4.below' hb5, hv4.below' hb5⟩
                · exact .inl (List.mem_of_mem_drop hx))
          have HBS := hid (show base ≤ w2.heap.size by have := HSZ2.out; omega)
          go_wp2_with fail
          go_region_held3 (fun W => W.cell? ⟨w.heap.size, 0, none⟩ = some (.slice o1 d.key.length c1) ∧ W.cell? ⟨w.heap.size, 1, none⟩ = some (.slice o2 d.val.length c2)) (first | assumption) (first
            | (go_at_call_of 112 (Value.slice o1 d.key.length c1); refine (HCK.out _ HBD.out).mono ?_; rintro e w3 ⟨hb3, v3, rfl, hown3⟩; obtain ⟨o3, c3, rfl, hc3⟩ := hown3.shape; have HB3 := hid (HBD.out.trans hb3); have HK3 := hid (hown3.mono HBS.out); have s3 := HBC.out _ HB3.out; clear hb3 hown3 hc3)
            | (go_at_call_of 112 (Value.slice o2 d.val.length c2); refine (HCV.out _ HB3.out).mono ?_; rintro e w4 ⟨hb4, v4, rfl, hown4⟩; obtain ⟨o4, c4, rfl, hc4⟩ := hown4.shape; have HB4 := hid (HB3.out.trans (hb4.mono HB3.out.size)); have HK4 := hid (HK3.out.below' hb4); have HV4 := hid (hown4.mono (Nat.le_trans HBS.out HB3.out.size)); have s4 := HBC.out _ HB4.out; have s5 := HBC.out _ (HB4.out.alloc HB4.out.size (.cells #[.slice o3 d.key.length c3, .slice o4 d.val.length c4] 103)); clear hb4 hown4 hc4)
            | (go_at_call 113; refine (HINS.out w4 o3 o4 c3 c4 HB4.out HK4.out HV4.out).mono ?_; rintro e w6 ⟨hb6, o6, n6, c6, rfl, s6, hown6⟩; have HB6 := hid hb6; have HO6 := hid hown6; clear hb6 hown6))
          all_goals
            go_wp2
            go_ret2
            refine ⟨HB6.out, .inr (.inr ⟨HM.out, fun hh => ?_, _, _, rfl, HO6.out, by rw [map_ins, HDO.out]⟩)⟩
            have h2 := hh.2
            rw [HDL.out] at h2
            omega
end Go.Proofs.YtooemgkjkngpcaaGreatDoor
