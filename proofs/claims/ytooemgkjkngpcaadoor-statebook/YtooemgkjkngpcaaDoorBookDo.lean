/-
  What package book's do makes of one doing, of a row of pairs that the call owns.
-/
import Derived.Test.YtooemgkjkngpcaaDoorBookGet
import Derived.Test.YtooemgkjkngpcaaDoorBookDel
import Derived.Test.YtooemgkjkngpcaaDoorBookIns
import Derived.Deep.RegionHeld3
namespace Go.Proofs.YtooemgkjkngpcaaDoor
open Go.RowKit

/-- a row of pairs, all of it owned -/
def OwnPr (w : World) (base : Nat) (v : Value) (ps : List PrV) : Prop := RowPr w base v ps ∧ ∀ q ∈ ps, OwnB w base q.k q.p.key ∧ OwnB w base q.v q.p.val
theorem OwnB.below' {w w' : World} {base : Nat} {v : Value} {l : List (BitVec 8)} (h : OwnB w base v l) (hg : Below w.heap.size w w') : OwnB w' base v l := ownsRow_belowP h hg
theorem OwnPr.one {w : World} {base : Nat} {v : Value} {ps : List PrV} (h : OwnPr w base v ps) : ∀ q ∈ ps, q.k.oneCell' = true ∧ q.v.oneCell' = true := fun q hq => ⟨(h.2 q hq).1.one, (h.2 q hq).2.one⟩
theorem OwnPr.below {w w' : World} {base : Nat} {v : Value} {ps : List PrV} (h : OwnPr w base v ps) (hg : Below w.heap.size w w') : OwnPr w' base v ps := ⟨h.1.below hg, fun q hq => ⟨(h.2 q hq).1.below' hg, (h.2 q hq).2.below' hg⟩⟩
theorem OwnPr.pairs {w : World} {base : Nat} {v : Value} {ps : List PrV} (h : OwnPr w base v ps) : Pairs w w.heap.size v (ps.map (·.p)) := h.1.pairs (Nat.le_refl _) fun q hq => ⟨(h.2 q hq).1.bytes, (h.2 q hq).2.bytes⟩
theorem OwnPr.nil (w : World) (base : Nat) : OwnPr w base (.slice none 0 0) [] := ⟨RowPr.nil _ _, fun _ h => by cases h⟩
/-- what is done with the row leaves its bytes -/
theorem OwnPr.past {w w' : World} {base : Nat} {v v' : Value} {ps ps' : List PrV} (h : OwnPr w base v ps) (hg : w.grownBy w' v.ownBlock) (hr : RowPr w' base v' ps') (hm : ∀ q ∈ ps', q ∈ ps ∨ (OwnB w base q.k q.p.key ∧ OwnB w base q.v q.p.val)) : OwnPr w' base v' ps' := by
  refine ⟨hr, fun q hq => ?_⟩
  rcases hm q hq with h1 | h1
  · exact ⟨(h.2 q h1).1.past h.1 hg, (h.2 q h1).2.past h.1 hg⟩
  · exact ⟨h1.1.past h.1 hg, h1.2.past h.1 hg⟩
/-- a value is set, in its place -/
theorem RowPr.setVal {w : World} {base g n c : Nat} {ps : List PrV} {i : Nat} {q : PrV} (h : RowPr w base (.slice (some ⟨g, 0, none⟩) n c) ps) (hq : ps[i]? = some q) (q' : PrV) (hk : q'.k = q.k) : RowPr (w.setCell ⟨g, i * 2 + 1, none⟩ q'.v) base (.slice (some ⟨g, 0, none⟩) n c) (ps.set i q') := by
  have hi : i < ps.length := (List.getElem?_eq_some_iff.1 hq).1
  obtain ⟨g', c', cs, he, hb, hrow, hnc, hcm, hcl, htk⟩ := h.row (by omega)
  obtain ⟨rfl, rfl, rfl⟩ : g = g' ∧ n = ps.length ∧ c = c' := by simpa using he
  refine RowPr.of_row hb (hrow.set _ _) (by simp) hnc hcm (by simpa using hcl) ?_
  apply List.ext_getElem?
  intro j
  rw [List.getElem?_take, List.getElem?_set]
  by_cases hj : j < ps.length * 2
  · rw [if_pos hj]
    by_cases he2 : i * 2 + 1 = j
    · subst he2
      rw [if_pos rfl, if_pos (by omega), flatPr_get (ps.set i q') i 1 q' (by rw [List.getElem?_set]; simp [hi]) (by omega)]
      rfl
    · rw [if_neg he2]
      have hj2 : cs[j]? = (ps.flatMap prCells)[j]? := by rw [← htk, List.getElem?_take, if_pos hj]
      rw [hj2]
      obtain ⟨x, hx⟩ : ∃ x, ps[j / 2]? = some x := ⟨ps[j / 2]'(by omega), List.getElem?_eq_getElem _⟩
      have e1 := flatPr_get ps (j / 2) (j % 2) x hx (by omega)
      rw [show j / 2 * 2 + j % 2 = j by omega] at e1
      rw [e1]
      by_cases hi2 : i = j / 2
      · subst hi2
        have e2 := flatPr_get (ps.set (j / 2) q') (j / 2) (j % 2) q' (by rw [List.getElem?_set]; simp [hi]) (by omega)
        rw [show j / 2 * 2 + j % 2 = j by omega] at e2
        rw [e2]
        rw [hq] at hx
        obtain rfl : q = x := by simpa using hx
        have : j % 2 = 0 := by omega
        rw [this]
        simp [prCells, hk]
      · have e2 := flatPr_get (ps.set i q') (j / 2) (j % 2) x (by rw [List.getElem?_set, if_neg hi2]; exact hx) (by omega)
        rw [show j / 2 * 2 + j % 2 = j by omega] at e2
        rw [e2]
  · rw [if_neg hj, List.getElem?_eq_none (by rw [flatPr_len]; simp; omega)]
theorem RowPr.apart {w : World} {base g : Nat} {v : Value} {ps : List PrV} {t : TypeId} {cs : List Value} (h : RowPr w base v ps) (hr : Row w g t cs) (ht : t ≠ 48) : some g ≠ v.ownBlock := by
  intro he
  rcases h.2 with ⟨rfl, _⟩ | ⟨g', c', cur', rfl, _, h8, _⟩
  · simp [Value.ownBlock] at he
  · obtain rfl : g = g' := by simpa [Value.ownBlock] using he
    unfold Row at hr
    rw [hr] at h8
    simp at h8
    exact ht h8.2
theorem map_del (ps : List PrV) (i : Nat) : (ps.take i ++ ps.drop (i + 1)).map (·.p) = (ps.map (·.p)).take i ++ (ps.map (·.p)).drop (i + 1) := by
  rw [List.map_append, List.map_take, List.map_drop]
theorem map_ins (ps : List PrV) (i : Nat) (q : PrV) : (insV ps i q).map (·.p) = (ps.map (·.p)).take i ++ q.p :: (ps.map (·.p)).drop i := by
  unfold insV
  rw [List.map_append, List.map_cons, List.map_take, List.map_drop]
theorem map_set (ps : List PrV) (i : Nat) (hi : i < ps.length) (q : PrV) : (ps.set i q).map (·.p) = (ps.map (·.p)).take i ++ q.p :: (ps.map (·.p)).drop (i + 1) := by
  rw [List.map_set, List.set_eq_take_append_cons_drop, if_pos (by simpa using hi)]
/-- what a doing is answered by -/
def DoneBy (ps : List PrV) (d : Dg) (base : Nat) (w : World) (e : Ending) (w' : World) : Prop :=
  Below base w w' ∧ (((60 < d.key.length ∨ 200 < d.val.length) ∧ e = .returned (.tuple #[.slice none 0 0, .int .i64 4])) ∨
    (¬ (60 < d.key.length ∨ 200 < d.val.length) ∧ (d.gone = false ∧ 200 < (doOne d (ps.map (·.p))).length) ∧ e = .returned (.tuple #[.slice none 0 0, .int .i64 5])) ∨
    (¬ (60 < d.key.length ∨ 200 < d.val.length) ∧ ¬ (d.gone = false ∧ 200 < (doOne d (ps.map (·.p))).length) ∧ ∃ v' ps', e = .returned (.tuple #[v', .int .i64 0]) ∧ OwnPr w' base v' ps' ∧ ps'.map (·.p) = doOne d (ps.map (·.p))))
set_option maxRecDepth 100000 in
set_option maxHeartbeats 2000000 in
theorem do_any (ps : List PrV) (d : Dg) (v kv vv : Value) (base N : Nat) (w : World) (h : OwnPr w base v ps) (hb : base ≤ w.heap.size) (hN : N ≤ base) (hk : Bytes w N kv d.key) (hv : Bytes w N vv d.val) (hs : Sorted (ps.map (·.p))) (hl : ps.length ≤ 200) :
    Calls Tryd.prog 37 #[v, .agg #[kv, vv, .bool d.gone]] w (DoneBy ps d base w) := by
  obtain ⟨oa, c, rfl, hnc⟩ := h.1.shape
  obtain ⟨o1, c1, rfl, hc1⟩ := hk.shape
  obtain ⟨o2, c2, rfl, hc2⟩ := hv.shape
  obtain ⟨w1, hw1⟩ : ∃ w1, w.alloc (.cells #[.slice o1 d.key.length c1, .slice o2 d.val.length c2, .bool d.gone] 83) = w1 := ⟨_, rfl⟩
  have hsz1 : w1.heap.size = w.heap.size + 1 := by rw [← hw1]; simp
  have hb1 : Below w.heap.size w w1 := by rw [← hw1]; exact (Below.refl _ _).alloc (Nat.le_refl _) _
  have hrow1 : Row w1 w.heap.size 83 [.slice o1 d.key.length c1, .slice o2 d.val.length c2, .bool d.gone] := by rw [← hw1]; exact Row.new _ _ _
  have HO1 := hid (h.below hb1)
  have HK1 := hid (hk.below (hb1.mono (by omega)))
  have HV1 := hid (hv.below (hb1.mono (by omega)))
  have HB1 := hid hb1
  have HR1 := hid hrow1
  have HW1 := hid hw1
  have HS := hid hs
  clear h hk hv hb1 hrow1 hs
  have HTM := hid (tooMuch_any d.key.length d.val.length o1 o2 c1 c2 w1)
  generalize hn : ps.length = n at *
  have HN := hid hn
  clear hn
  have q0 := HR1.out.cell 0
  have q1 := HR1.out.cell 1
  by_cases hmuch : 60 < d.key.length ∨ 200 < d.val.length
  · rw [show (decide (60 < d.key.length) || decide (200 < d.val.length)) = true by simpa using hmuch] at HTM
    have HM := hid hmuch
    clear hmuch hw1
    go_enter Tryd.func37, Tryd.ntmps37
    go_wp2_with fail
    rw [HW1.out]
    refine HTM.out.mono ?_
    rintro e w3 ⟨rfl, hw3⟩
    obtain rfl := hw3.symm
    go_wp2
    go_ret2
    exact ⟨HB1.out.mono hb, .inl ⟨HM.out, rfl⟩⟩
  · rw [show (decide (60 < d.key.length) || decide (200 < d.val.length)) = false by simpa using hmuch] at HTM
    have HM := hid hmuch
    have HLN := hid (show d.key.length ≤ 60 ∧ d.val.length ≤ 200 by omega)
    have HF := hid (find_any (ps.map (·.p)) d.key (.slice oa n c) (.slice o1 d.key.length c1) w1.heap.size w1 (Nat.le_refl _) HO1.out.pairs (HK1.out.mono (by omega)) HS.out (by rw [List.length_map, HN.out]; omega))
    clear hmuch hw1
    go_enter Tryd.func37, Tryd.ntmps37
    go_wp2_with fail
    rw [HW1.out]
    refine HTM.out.mono ?_
    rintro e w3 ⟨rfl, hw3⟩
    obtain rfl := hw3.symm
    go_wp2_with fail
    refine HF.out.mono ?_
    rintro e w2 ⟨hb2, i, fd, hat, rfl⟩
    have HO2 := hid (HO1.out.below hb2)
    have HR2 := hid (HR1.out.below hb2 (by omega))
    have HB2 := hid (HB1.out.trans (hb2.mono (by omega)))
    have HK2 := hid (HK1.out.below (hb2.mono (by omega)))
    have HV2 := hid (HV1.out.below (hb2.mono (by omega)))
    have HSZ2 := hid (show w1.heap.size ≤ w2.heap.size from hb2.size)
    have HA := hid hat
    clear hb2 hat
    have g0 := HR2.out.cell 0
    have g1 := HR2.out.cell 1
    have g2 := HR2.out.cell 2
    clear q0 q1
    cases hg : d.gone with
    | true =>
      rw [hg] at g2
      have HG := hid hg
      clear hg
      cases fd with
      | true =>
        have HI := hid (show i < ps.length by obtain ⟨p, hp, _⟩ := HA.out.found; have := (List.getElem?_eq_some_iff.1 hp).1; simpa using this)
        have HD := hid (delete_any ps i base (.slice oa n c) w2 HO2.out.1 HO2.out.one HI.out (i + 1) rfl)
        rw [show ((i + 1 : Nat) : Int) = (i : Int) + 1 by omega] at HD
        have hi := HI.out
        rw [HN.out] at hi
        go_wp2_with fail
        refine HD.out.mono ?_
        rintro e w4 ⟨hg4, v4, rfl, hr4⟩
        have HE := hid (show OwnPr w4 base v4 (ps.take i ++ ps.drop (i + 1)) from HO2.out.past hg4 hr4 fun q hq => .inl (by
          rcases List.mem_append.1 hq with hq | hq
          · exact List.mem_of_mem_take hq
          · exact List.mem_of_mem_drop hq))
        have HB4 := hid ((HB2.out.mono hb).trans (HO2.out.1.below_of (by have := HSZ2.out; omega) hg4))
        clear hg4 hr4
        go_wp2
        go_ret2
        refine ⟨HB4.out, .inr (.inr ⟨HM.out, fun hh => (by rw [HG.out] at hh; cases hh.1), _, _, rfl, HE.out, ?_⟩)⟩
        unfold doOne
        rw [if_pos HG.out, HA.out.drop_found HS.out, map_del]
      | false =>
        go_wp2
        go_ret2
        refine ⟨HB2.out.mono hb, .inr (.inr ⟨HM.out, fun hh => (by rw [HG.out] at hh; cases hh.1), _, _, rfl, HO2.out, ?_⟩)⟩
        unfold doOne
        rw [if_pos HG.out, HA.out.drop_not HS.out]
    | false =>
      rw [hg] at g2
      have HG := hid hg
      clear hg
      cases fd with
      | true =>
        obtain ⟨p, hp, hpk⟩ := HA.out.found
        obtain ⟨q, hq, hqp⟩ : ∃ q, ps[i]? = some q ∧ q.p = p := by simpa using hp
        have hi : i < n := by rw [← HN.out]; exact (List.getElem?_eq_some_iff.1 hq).1
        obtain ⟨g, hoa, hbg, hgl, hcells⟩ := HO2.out.1.get (by omega)
        subst hoa
        have hi' : (i : Int) < (n : Int) := by omega
        have HCL := hid (cloneB_any d.val (.slice o2 d.val.length c2) N w2 HV2.out (by have := HLN.out; omega))
        have HQ := hid hq
        have HQK := hid (show q.p.key = d.key by rw [hqp]; exact hpk)
        clear hp hpk hq hqp hcells
        go_wp2_with fail
        refine HCL.out.mono ?_
        rintro e w3 ⟨hb3, v3, rfl, hown3⟩
        have HO3 := hid (HO2.out.below hb3)
        have HV3 := hid hown3
        have HB3 := hid ((HB2.out.mono hb).trans (hb3.mono (by have := HSZ2.out; omega)))
        have HSZ3 := hid (show w2.heap.size ≤ w3.heap.size from hb3.size)
        obtain ⟨o3, c3, rfl, hc3⟩ := hown3.shape
        clear hb3 hown3
        have HV3b := hid (HV3.out.mono (show base ≤ w2.heap.size by have := HSZ2.out; omega))
        have HRS := hid (HO3.out.1.setVal HQ.out ⟨⟨d.key, d.val⟩, q.k, .slice o3 d.val.length c3⟩ rfl)
        obtain ⟨g', c', cs, he, _, hrow3, hnc3, _, hcl3, _⟩ := HO3.out.1.row (by rw [HN.out]; omega)
        obtain ⟨rfl, hn', rfl⟩ : g = g' ∧ n = ps.length ∧ c = c' := by simpa using he
        have s0 : w3.cell? ⟨g, i * 2 + 1, none⟩ = some (cs[i * 2 + 1]'(by rw [hcl3]; omega)) := by rw [hrow3.cell, List.getElem?_eq_getElem]
        have s1 := hrow3.frozen (i * 2 + 1)
        generalize cs[i * 2 + 1]'(by rw [hcl3]; omega) = old at s0
        clear hrow3 he hcl3 hn' hnc3
        go_wp2
        go_ret2
        refine ⟨HB3.out.trans (HO3.out.1.below_of (by have := HSZ2.out; have := HSZ3.out; omega) (grown_set w3 g _ _)), .inr (.inr ⟨HM.out, ?_, _, _, rfl, HO3.out.past (grown_set w3 g _ _) HRS.out ?_, ?_⟩)⟩
        · intro hh
          have h2 := hh.2
          unfold doOne at h2
          rw [if_neg (by rw [HG.out]; simp), HA.out.set_found HS.out] at h2
          simp at h2
          rw [HN.out] at h2
          omega
        · intro x hx
          rcases List.mem_or_eq_of_mem_set hx with hx | rfl
          · exact .inl hx
          · exact .inr ⟨by rw [show (⟨⟨d.key, d.val⟩, q.k, .slice o3 d.val.length c3⟩ : PrV).p.key = q.p.key from HQK.out.symm]; exact (HO3.out.2 q (List.mem_of_getElem? HQ.out)).1, HV3b.out⟩
        · unfold doOne
          rw [if_neg (by rw [HG.out]; simp), HA.out.set_found HS.out, map_set _ _ (by rw [HN.out]; exact hi)]
      | false =>
        have HDO := hid (show doOne d (ps.map (·.p)) = (ps.map (·.p)).take i ++ ⟨d.key, d.val⟩ :: (ps.map (·.p)).drop i by
          unfold doOne
          rw [if_neg (by rw [HG.out]; simp), HA.out.set_not HS.out])
        have HLE := hid (show i ≤ ps.length by have := HA.out.1; simpa using this)
        have HDL := hid (show (doOne d (ps.map (·.p))).length = n + 1 by
          have := HLE.out
          rw [HDO.out, ← HN.out]
          simp
          omega)
        by_cases hmany : 200 ≤ n
        · have e1 : decide ((200 : Int) ≤ (n : Int)) = true := by simp; omega
          go_wp2
          go_ret2
          exact ⟨HB2.out.mono hb, .inr (.inl ⟨HM.out, ⟨HG.out, by rw [HDL.out]; omega⟩, rfl⟩)⟩
        · have e1 : decide ((200 : Int) ≤ (n : Int)) = false := by simp; omega
          have HCK := hid (fun wx (hx : Below w2.heap.size w2 wx) => cloneB_any d.key (.slice o1 d.key.length c1) N wx (HK2.out.below (hx.mono (by have := HSZ2.out; omega))) (by have := HLN.out; omega))
          have HCV := hid (fun wx (hx : Below w2.heap.size w2 wx) => cloneB_any d.val (.slice o2 d.val.length c2) N wx (HV2.out.below (hx.mono (by have := HSZ2.out; omega))) (by have := HLN.out; omega))
          have HBC := hid (show ∀ wx, Below w2.heap.size w2 wx → wx.cell? ⟨w.heap.size, 0, none⟩ = some (.slice o1 d.key.length c1) ∧ wx.cell? ⟨w.heap.size, 1, none⟩ = some (.slice o2 d.val.length c2) from fun wx hx => by
            have hr := HR2.out.below hx (by have := HSZ2.out; omega)
            exact ⟨hr.cell 0, hr.cell 1⟩)
          have HBD := hid (show Below w2.heap.size w2 w2.drew from (Below.refl _ _).drew)
          have s0 : w2.drew.cell? ⟨w.heap.size, 0, none⟩ = some (.slice o1 d.key.length c1) ∧ w2.drew.cell? ⟨w.heap.size, 1, none⟩ = some (.slice o2 d.val.length c2) := HBC.out _ HBD.out
          have HINS := hid (show ∀ (w4 : World) (o3 o4 : Option Addr) (c3 c4 : Nat), Below w2.heap.size w2 w4 → OwnB w4 base (.slice o3 d.key.length c3) d.key → OwnB w4 base (.slice o4 d.val.length c4) d.val →
              Calls Tryd.prog 57 #[.slice oa n c, .int .i64 (i : Int), .slice (some ⟨w4.heap.size, 0, none⟩) 1 1] (w4.alloc (.cells #[.slice o3 d.key.length c3, .slice o4 d.val.length c4] 48))
                (fun e w' => Below base w w' ∧ ∃ ov nv cv, e = .returned (.slice ov nv cv) ∧ (w'.cell? ⟨w.heap.size, 0, none⟩ = some (.slice o1 d.key.length c1) ∧ w'.cell? ⟨w.heap.size, 1, none⟩ = some (.slice o2 d.val.length c2)) ∧ OwnPr w' base (.slice ov nv cv) (insV ps i ⟨⟨d.key, d.val⟩, .slice o3 d.key.length c3, .slice o4 d.val.length c4⟩)) from by
            intro w4 o3 o4 c3 c4 hb4 hk4 hv4
            have hsz := HSZ2.out
            have hb5 : Below w4.heap.size w4 (w4.alloc (.cells #[.slice o3 d.key.length c3, .slice o4 d.val.length c4] 48)) := (Below.refl _ _).alloc (Nat.le_refl _) _
            have ho5 := (HO2.out.below hb4).below hb5
            have hbase5 : base ≤ (w4.alloc (.cells #[.slice o3 d.key.length c3, .slice o4 d.val.length c4] 48)).heap.size := by have := hb4.size; have := hb5.size; omega
            refine (insert_any ps i ⟨⟨d.key, d.val⟩, .slice o3 d.key.length c3, .slice o4 d.val.length c4⟩ base w4.heap.size (.slice oa n c) _ ho5.1 hbase5 ho5.one (Row.new _ _ _) ⟨rfl, rfl⟩ ?_ HLE.out (by rw [HN.out]; omega)).mono ?_
            · intro g hg he
              have h1 := World.ownsRow.lt (HO2.out.below hb4).1 g hg
              omega
            · rintro e w' ⟨hg6, v6, rfl, hr6⟩
              obtain ⟨ov, cv, rfl, _⟩ := hr6.shape
              refine ⟨(((HB2.out.mono hb).trans (hb4.mono (by omega))).trans (hb5.mono (by have := hb4.size; omega))).trans (ho5.1.below_of hbase5 hg6), ov, _, cv, rfl, ?_, ho5.past hg6 hr6 ?_⟩
              · have hr5 := (HR2.out.below hb4 (by omega)).alloc (.cells #[.slice o3 d.key.length c3, .slice o4 d.val.length c4] 48)
                have hr7 := hr5.grown hg6 (ho5.1.apart hr5 (by decide))
                exact ⟨hr7.cell 0, hr7.cell 1⟩
              intro x hx
              unfold insV at hx
              rcases List.mem_append.1 hx with hx | hx
              · exact .inl (List.mem_of_mem_take hx)
              · rcases List.mem_cons.1 hx with rfl | hx
                · exact .inr ⟨hk4.below' hb5, hv4.below' hb5⟩
                · exact .inl (List.mem_of_mem_drop hx))
          have HBS := hid (show base ≤ w2.heap.size by have := HSZ2.out; omega)
          go_wp2_with fail
          go_region_held3 (fun W => W.cell? ⟨w.heap.size, 0, none⟩ = some (.slice o1 d.key.length c1) ∧ W.cell? ⟨w.heap.size, 1, none⟩ = some (.slice o2 d.val.length c2)) (first | assumption) (first
            | (go_at_call_of 56 (Value.slice o1 d.key.length c1); refine (HCK.out _ HBD.out).mono ?_; rintro e w3 ⟨hb3, v3, rfl, hown3⟩; obtain ⟨o3, c3, rfl, hc3⟩ := hown3.shape; have HB3 := hid (HBD.out.trans hb3); have HK3 := hid (hown3.mono HBS.out); have s3 := HBC.out _ HB3.out; clear hb3 hown3 hc3)
            | (go_at_call_of 56 (Value.slice o2 d.val.length c2); refine (HCV.out _ HB3.out).mono ?_; rintro e w4 ⟨hb4, v4, rfl, hown4⟩; obtain ⟨o4, c4, rfl, hc4⟩ := hown4.shape; have HB4 := hid (HB3.out.trans (hb4.mono HB3.out.size)); have HK4 := hid (HK3.out.below' hb4); have HV4 := hid (hown4.mono (Nat.le_trans HBS.out HB3.out.size)); have s4 := HBC.out _ HB4.out; have s5 := HBC.out _ (HB4.out.alloc HB4.out.size (.cells #[.slice o3 d.key.length c3, .slice o4 d.val.length c4] 48)); clear hb4 hown4 hc4)
            | (go_at_call 57; refine (HINS.out w4 o3 o4 c3 c4 HB4.out HK4.out HV4.out).mono ?_; rintro e w6 ⟨hb6, o6, n6, c6, rfl, s6, hown6⟩; have HB6 := hid hb6; have HO6 := hid hown6; clear hb6 hown6))
          all_goals
            go_wp2
            go_ret2
            refine ⟨HB6.out, .inr (.inr ⟨HM.out, fun hh => ?_, _, _, rfl, HO6.out, by rw [map_ins, HDO.out]⟩)⟩
            have h2 := hh.2
            rw [HDL.out] at h2
            omega
end Go.Proofs.YtooemgkjkngpcaaDoor
