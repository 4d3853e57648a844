/-
  What allGood answers: whether each vote that is one is good, of the header's bytes, by its validator's key.
-/
import Derived.Test.YtfpngilmdgeikaaDoorHdBytes
import Derived.Test.YtfpngilmdgeikaaDoorHdMems
import Derived.Test.YtfpngilmdgeikaaDoorHdNameVals
import Derived.Test.YtfpngilmdgeikaaDoorSealGood
namespace Go.Proofs.YtfpngilmdgeikaaDoor
open Go.RowKit

theorem goodAll_at (m : List (BitVec 8)) : ∀ (vs : List Vl) (ts : List Vt) (k : Nat) (v : Vl) (t : Vt), vs[k]? = some v → ts[k]? = some t → goodAll m (vs.drop k) (ts.drop k) = ((!t.is || goodB v.key m t.r t.s) && goodAll m (vs.drop (k + 1)) (ts.drop (k + 1))) := by
  intro vs ts k v t hv ht
  obtain ⟨h1, rfl⟩ := List.getElem?_eq_some_iff.1 hv
  obtain ⟨h2, rfl⟩ := List.getElem?_eq_some_iff.1 ht
  rw [List.drop_eq_getElem_cons h1, List.drop_eq_getElem_cons h2, goodAll]
theorem goodAll_end (m : List (BitVec 8)) (vs : List Vl) (ts : List Vt) (k : Nat) (h : ts.length ≤ k) : goodAll m (vs.drop k) (ts.drop k) = true := by
  rw [List.drop_eq_nil_of_le h]
  unfold goodAll
  split <;> first | rfl | (rename_i h; cases h)
set_option maxRecDepth 100000 in
set_option maxHeartbeats 4000000 in
theorem allGood_any (s : Sg) (v : Value) (N : Nat) (w : World) (htab : tableAt w) (hN : N ≤ w.heap.size) (hv : SgV w N v s) (hw : wrongH s.hd = 0) (hlen : s.votes.length = s.vals.length) (h10 : s.vals.length ≤ 10) (hok : ∀ v ∈ s.vals, v.ok) (hot : ∀ t ∈ s.votes, t.ok) :
    Calls Tryd.prog 46 #[v] w fun e w' => e = .returned (.bool (goodAll (bytesH s.hd) s.vals s.votes)) ∧ Below w.heap.size w w' := by
  obtain ⟨rv, vv, nv, lv, tv, rfl, h1, h2, h3, h4, h5⟩ := hv
  obtain ⟨o1, c1, rfl, _⟩ := h1.shape
  obtain ⟨o2, c2, rfl, _⟩ := h2.shape
  obtain ⟨o3, c3, rfl, _⟩ := h3.shape
  have HL := hid h4
  have HT := hid h5
  obtain ⟨o4, c4, rfl, _⟩ := h4.shape
  obtain ⟨o5, c5, rfl, _⟩ := h5.shape
  have HHV := hid (show HdV w N (.agg #[.string s.hd.chain, .int .i64 s.hd.height, .int .i64 s.hd.time, .slice o1 s.hd.root.length c1, .slice o2 s.hd.vals.length c2, .slice o3 s.hd.next.length c3]) s.hd from ⟨_, _, _, rfl, h1, h2, h3⟩)
  have HTAB := hid htab
  have HOK := hid hok
  have HOT := hid hot
  obtain ⟨w0, hw0⟩ : ∃ w0, w.alloc (.cells #[.string s.hd.chain, .int .i64 s.hd.height, .int .i64 s.hd.time, .slice o1 s.hd.root.length c1, .slice o2 s.hd.vals.length c2, .slice o3 s.hd.next.length c3, .slice o4 s.vals.length c4, .slice o5 s.votes.length c5] 29) = w0 := ⟨_, rfl⟩
  have HB0 := hid (show Below w.heap.size w w0 by rw [← hw0]; exact (Below.refl _ _).alloc (Nat.le_refl _) _)
  have hr0 : Row w0 w.heap.size 29 [.string s.hd.chain, .int .i64 s.hd.height, .int .i64 s.hd.time, .slice o1 s.hd.root.length c1, .slice o2 s.hd.vals.length c2, .slice o3 s.hd.next.length c3, .slice o4 s.vals.length c4, .slice o5 s.votes.length c5] := by rw [← hw0]; exact Row.new _ _ _
  have HR0 := hid hr0
  obtain ⟨k0, k1, k2, k3, k4, k5, k6, k7⟩ := hr0.eight
  have HBY := hid (bytesC s.hd _ N w0 (HHV.out.below (HB0.out.mono hN)) (Nat.le_trans hN HB0.out.size) hw)
  have HML := hid (wrs_head s.hd hw)
  clear h1 h2 h3 h4 h5 htab hok hot hr0 hw
  generalize hm : bytesH s.hd = m at *
  generalize hvs : s.vals = vs at *
  generalize hts : s.votes = ts at *
  clear hm hvs hts
  generalize hn : vs.length = nv at *
  generalize hnt : ts.length = n at *
  subst hlen
  have HN := hid hn
  have HNT := hid hnt
  clear hn hnt
  go_enter Tryd.func46, Tryd.ntmps46
  go_wp2_with fail
  refine HBY.out.mono ?_
  rintro e w1 ⟨x, rfl, hx, hb1⟩
  obtain ⟨ox, cx, rfl, _⟩ := hx.shape
  have HX := hid hx
  have HB1 := hid (HB0.out.trans (hb1.mono HB0.out.size))
  have HR1 := hid (HR0.out.below hb1 HR0.out.lt)
  obtain ⟨j0, j1, j2, j3, j4, j5, j6, j7⟩ := HR1.out.eight
  generalize hnm : m.length = nm at *
  have HNM := hid hnm
  clear hnm hx hb1 HBY hw0
  go_wp2_with fail
  go_loopw [4, 5, 12] (fun _ _ i wr => ∃ k : Nat, k ≤ n ∧ i = .int .i64 (k : Int) ∧ Hid (Below w1.heap.size w1 wr ∧ goodAll m vs ts = goodAll m (vs.drop k) (ts.drop k))) (fun _ _ i _ => n - (intOf i).toNat)
  case atStart => exact ⟨0, by omega, rfl, hid ⟨Below.refl _ _, rfl⟩⟩
  case round =>
    obtain ⟨k, hk, rfl, HI⟩ := hrel
    have hszr := HI.out.1.size
    have HBW := hid (HB1.out.trans (HI.out.1.mono HB1.out.size))
    by_cases hlt : k < n
    · obtain ⟨v, hv⟩ : ∃ v, vs[k]? = some v := ⟨vs[k]'(by rw [HN.out]; exact hlt), List.getElem?_eq_getElem _⟩
      obtain ⟨t, ht⟩ : ∃ t, ts[k]? = some t := ⟨ts[k]'(by rw [HNT.out]; exact hlt), List.getElem?_eq_getElem _⟩
      obtain ⟨b, o, rfl, hcells⟩ := HL.out.spot (by omega)
      obtain ⟨b2, p, rfl, hcells2⟩ := HT.out.spot (by omega)
      obtain ⟨hbN, d0, d1⟩ := hcells k v hv
      obtain ⟨hbN2, a0, a1, a2⟩ := hcells2 k t ht
      have hbl : b < w.heap.size := by omega
      have hbl2 : b2 < w.heap.size := by omega
      have f0 := (HBW.out.cell (p := ⟨b2, p + k * 3, none⟩) hbl2).trans a0
      have f1 := (HBW.out.cell (p := ⟨b2, p + k * 3 + 1, none⟩) hbl2).trans a1
      have f2 := (HBW.out.cell (p := ⟨b2, p + k * 3 + 2, none⟩) hbl2).trans a2
      have hlt' : (k : Int) < (n : Int) := by omega
      obtain ⟨w2, hw2⟩ : ∃ w2, wr.alloc (.cells #[.bool t.is, .int .u64 (t.r : Int), .int .u64 (t.s : Int)] 51) = w2 := ⟨_, rfl⟩
      have hb2 : Below wr.heap.size wr w2 := by rw [← hw2]; exact (Below.refl _ _).alloc (Nat.le_refl _) _
      have HB2 := hid (HBW.out.trans (hb2.mono HBW.out.size))
      have HI2 := hid (HI.out.1.trans (hb2.mono hszr))
      have hr2 : Row w2 wr.heap.size 51 [.bool t.is, .int .u64 (t.r : Int), .int .u64 (t.s : Int)] := by rw [← hw2]; exact Row.new _ _ _
      obtain ⟨q0, q1, q2, _, _, _⟩ := hr2.three
      have g0 := (HB2.out.cell (p := ⟨b, o + k * 2, none⟩) hbl).trans d0
      obtain ⟨_, _, _, _, _, _, m6, m7⟩ := (HR1.out.below HI2.out HR1.out.lt).eight
      have HW2 := hid hw2
      have HGA := hid (goodAll_at m vs ts k v t hv ht)
      have hvk := (HOK.out v (List.mem_of_getElem? hv)).1
      have htk := HOT.out t (List.mem_of_getElem? ht)
      have htr := htk.1
      have hts := htk.2
      have HG := hid (show ∀ wq : World, Below w1.heap.size w1 wq → Calls Tryd.prog 92 #[.int .u64 (v.key : Int), .slice ox nm cx, .agg #[.int .u64 (t.r : Int), .int .u64 (t.s : Int)]] wq fun e w' => e = .returned (.bool (goodB v.key m t.r t.s)) ∧ Below wq.heap.size wq w' from fun wq hq =>
        (good_any v.key m t.r t.s _ w1.heap.size wq hvk htr hts hq.size (HX.out.below hq) (HTAB.out.below (HB1.out.trans (hq.mono HB1.out.size)) HTAB.out.lt) (by rw [HNM.out]; have := HML.out; omega)).mono fun e w' ⟨b, h1, h2, h3⟩ => ⟨by rw [h1, goodB_of h2], h3⟩)
      clear d0 d1 a0 a1 a2 hcells hcells2 hb2 hw2 hr2 hv ht htk
      generalize goodB v.key m t.r t.s = gb at *
      generalize hti : t.is = ti at *
      have HTI := hid hti
      clear hti
      cases ti with
      | true =>
        go_wp2_with fail
        rw [HW2.out]
        go_wp2_with fail
        refine region_tail 12 (by kernel_rfl) (by kernel_rfl) ?_
        simp only [List.take_succ_cons, List.take_zero, List.drop_succ_cons, List.drop_zero]
        repeat still_step
        refine wpStill_nil ?_
        go_wp2_with fail
        refine (HG.out _ (HI2.out.drew)).mono ?_
        rintro e w3 ⟨rfl, hb3⟩
        have HB3 := hid (HI2.out.trans ((below_drewH w2 1 _).trans (hb3.mono HI2.out.size)))
        clear hb3
        cases gb with
        | true =>
          go_wp2_with fail
          go_roundw
          case rel => exact ⟨k + 1, by omega, by go_num, hid ⟨HB3.out, by rw [HI.out.2, HGA.out]; simp⟩⟩
          case measure => simp [intOf]; omega
        | false =>
          go_wp2
          go_ret
          exact ⟨by rw [HI.out.2, HGA.out]; simp; first | done | rfl, HB1.out.trans (HB3.out.mono HB1.out.size)⟩
      | false =>
        go_wp2_with fail
        rw [HW2.out]
        go_wp2_with fail
        go_quiet (fail)
        go_wp2_with fail
        go_roundw
        case rel => exact ⟨k + 1, by omega, by go_num, hid ⟨HI2.out.trans (below_drewH _ _ _), by rw [HI.out.2, HGA.out]; simp⟩⟩
        case measure => simp [intOf]; omega
    · have hge : decide ((k : Int) < (n : Int)) = false := by simp; omega
      go_wp2
      go_ret
      exact ⟨by rw [HI.out.2, goodAll_end m vs ts k (by rw [HNT.out]; omega)]; first | done | rfl, HBW.out⟩
end Go.Proofs.YtfpngilmdgeikaaDoor
