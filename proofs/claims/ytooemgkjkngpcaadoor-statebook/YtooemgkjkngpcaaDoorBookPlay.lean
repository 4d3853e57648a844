/-
  What package book's Play answers: what doings make; or which error, and where.
-/
import Derived.Test.YtooemgkjkngpcaaDoorBookDo
namespace Go.Proofs.YtooemgkjkngpcaaDoor
open Go.RowKit

theorem OwnPr.mono {w : World} {base base' : Nat} {v : Value} {ps : List PrV} (h : OwnPr w base v ps) (hb : base' ≤ base) : OwnPr w base' v ps := ⟨h.1.mono hb, fun q hq => ⟨(h.2 q hq).1.mono hb, (h.2 q hq).2.mono hb⟩⟩
set_option maxRecDepth 100000 in
set_option maxHeartbeats 2000000 in
theorem playO (l : List Dg) (sv : Value) (N : Nat) (w : World) (hb : Doings w N sv l) (hN : N ≤ w.heap.size) (hlen : l.length < 2305843009213693952) :
    Calls Tryd.prog 12 #[sv] w fun e w' => Below w.heap.size w w' ∧ ∃ v, e = .returned (.tuple #[v, faultV (pcode l).1 (pcode l).2]) ∧ ∃ ps, OwnPr w' w.heap.size v ps ∧ ps.map (·.p) = pout l := by
  obtain ⟨oa, ca, rfl, hca⟩ := hb.shape
  obtain ⟨w0, hw0⟩ : ∃ w0, w.alloc (.cells #[.int .i64 0, .int .i64 0] 36) = w0 := ⟨_, rfl⟩
  have hsz0 : w0.heap.size = w.heap.size + 1 := by rw [← hw0]; simp
  have hb0 : Below w.heap.size w w0 := by rw [← hw0]; exact (Below.refl _ _).alloc (Nat.le_refl _) _
  have hrow0 : Row w0 w.heap.size 36 [.int .i64 0, .int .i64 0] := by rw [← hw0]; exact Row.new _ _ _
  have HB := hid (hb.below (hb0.mono hN))
  have HB0 := hid hb0
  have HR0 := hid hrow0
  clear hb hb0 hrow0
  generalize hn : l.length = n at *
  have HN := hid hn
  clear hn
  go_enter Tryd.func12, Tryd.ntmps12
  go_wp2_with fail
  clear hw0
  go_loopw [4, 10] (fun y i wr => ∃ (k : Nat) (ps : List PrV), k ≤ n ∧ ps.length ≤ 200 ∧ i = .int .i64 (k : Int) ∧ Hid (OwnPr wr w0.heap.size y ps ∧ Below w0.heap.size w0 wr ∧ Sorted (ps.map (·.p)) ∧ playL l = playGo k (ps.map (·.p)) (l.drop k))) (fun _ i _ => n - (intOf i).toNat)
  case atStart => exact ⟨0, [], by omega, by simp, rfl, OwnPr.nil _ _, Below.refl _ _, List.Pairwise.nil, rfl⟩
  case round =>
    obtain ⟨k, ps, hk, hps, rfl, HR⟩ := hrel
    obtain ⟨oy, cy, rfl, hcy⟩ := HR.out.1.1.shape
    have hszr := HR.out.2.1.size
    have hlt0 : w.heap.size < wr.heap.size := by omega
    have hne0 : w.heap.size ≠ wr.heap.size := by omega
    have hne1 : wr.heap.size ≠ w.heap.size := by omega
    by_cases hlt : k < n
    · obtain ⟨d, hd⟩ : ∃ d, l[k]? = some d := ⟨l[k]'(by rw [HN.out]; exact hlt), List.getElem?_eq_getElem _⟩
      obtain ⟨b, o, rfl, hcells⟩ := HB.out.some (by omega)
      obtain ⟨hbN, vk, vv, d0, d1, d2, hvk, hvv⟩ := hcells k d hd
      obtain ⟨o1, c1, rfl, hc1⟩ := hvk.shape
      obtain ⟨o2, c2, rfl, hc2⟩ := hvv.shape
      have hbl : b < w0.heap.size := by omega
      have f0 := (HR.out.2.1.cell (p := ⟨b, o + k * 3, none⟩) hbl).trans d0
      have f1 := (HR.out.2.1.cell (p := ⟨b, o + k * 3 + 1, none⟩) hbl).trans d1
      have f2 := (HR.out.2.1.cell (p := ⟨b, o + k * 3 + 2, none⟩) hbl).trans d2
      have HST := hid (play_step k (ps.map (·.p)) l d hd)
      obtain ⟨w2, hw2⟩ : ∃ w2, wr.alloc (.cells #[.slice o1 d.key.length c1, .slice o2 d.val.length c2, .bool d.gone] 83) = w2 := ⟨_, rfl⟩
      have hsz2 : w2.heap.size = wr.heap.size + 1 := by rw [← hw2]; simp
      have hbr2 : Below wr.heap.size wr w2 := by rw [← hw2]; exact (Below.refl _ _).alloc (Nat.le_refl _) _
      have hb2 : Below w0.heap.size w0 w2 := HR.out.2.1.trans (hbr2.mono hszr)
      have hrow2 : Row w2 wr.heap.size 83 [.slice o1 d.key.length c1, .slice o2 d.val.length c2, .bool d.gone] := by rw [← hw2]; exact Row.new _ _ _
      have q0 := hrow2.cell 0
      have q1 := hrow2.cell 1
      have q2 := hrow2.cell 2
      have HDO := hid (do_any ps d (.slice oy ps.length cy) (.slice o1 d.key.length c1) (.slice o2 d.val.length c2) w0.heap.size N w2 (HR.out.1.below hbr2) (by omega) (by omega) (hvk.below (hb2.mono (by omega))) (hvv.below (hb2.mono (by omega))) HR.out.2.2.1 hps)
      have HB2 := hid hb2
      have HW2 := hid hw2
      clear d0 d1 d2 hvk hvv hcells hb2 hbr2 hd hw2 hrow2
      have hlt' : (k : Int) < (n : Int) := by omega
      go_wp2_with fail
      rw [HW2.out]
      refine HDO.out.mono ?_
      rintro e w3 ⟨hb3, ⟨hm, rfl⟩ | ⟨hm, hmany, rfl⟩ | ⟨hm, hmany, v3, ps', rfl, hown3, hmap⟩⟩
      · have HB3 := hid (HB2.out.trans hb3)
        have HPL := hid (show playL l = .error (4, k) by rw [HR.out.2.2.2, HST.out, if_pos hm])
        have HRR := hid (HR0.out.below HB3.out (by omega))
        obtain ⟨c0, c1', z0, z1⟩ := HRR.out.two
        clear hb3 hm
        go_wp2
        obtain ⟨g0, g1⟩ := HRR.out.set2 (.int .i64 4) (.int .i64 (k : Int))
        refine bodyPost_ret (v := .tuple #[.slice none 0 0, faultV 4 k]) (by simp [results, Tryd.results12, go_sem, g0, g1, faultV]) rfl ⟨below_set2 (HB0.out.trans (HB3.out.mono (by omega))) (Nat.le_refl _) _ _, .slice none 0 0, ?_, [], OwnPr.nil _ _, ?_⟩
        · simp only [pcode, HPL.out]
        · simp only [pout, HPL.out]
          rfl
      · have HB3 := hid (HB2.out.trans hb3)
        have HPL := hid (show playL l = .error (5, k) by rw [HR.out.2.2.2, HST.out, if_neg hm, if_pos hmany])
        have HRR := hid (HR0.out.below HB3.out (by omega))
        obtain ⟨c0, c1', z0, z1⟩ := HRR.out.two
        clear hb3 hm hmany
        go_wp2
        obtain ⟨g0, g1⟩ := HRR.out.set2 (.int .i64 5) (.int .i64 (k : Int))
        refine bodyPost_ret (v := .tuple #[.slice none 0 0, faultV 5 k]) (by simp [results, Tryd.results12, go_sem, g0, g1, faultV]) rfl ⟨below_set2 (HB0.out.trans (HB3.out.mono (by omega))) (Nat.le_refl _) _ _, .slice none 0 0, ?_, [], OwnPr.nil _ _, ?_⟩
        · simp only [pcode, HPL.out]
        · simp only [pout, HPL.out]
          rfl
      · have HB3 := hid (HB2.out.trans hb3)
        have HPL := hid (show playL l = playGo (k + 1) (ps'.map (·.p)) (l.drop (k + 1)) by rw [HR.out.2.2.2, HST.out, if_neg hm, if_neg hmany, hmap])
        have HSO := hid (show Sorted (ps'.map (·.p)) by rw [hmap]; exact sorted_do _ _ HR.out.2.2.1)
        have HLE := hid (show ps'.length ≤ 200 by
          have e : ps'.length = (doOne d (ps.map (·.p))).length := by rw [← hmap, List.length_map]
          rw [e]
          cases hg : d.gone with
          | false => exact Nat.le_of_not_lt fun h => hmany ⟨hg, h⟩
          | true =>
            unfold doOne
            rw [if_pos hg]
            exact Nat.le_trans (List.length_filter_le _ _) (by simpa using hps))
        have HO3 := hid hown3
        clear hb3 hm hmany hmap hown3
        go_wp2_with fail
        refine ⟨⟨k + 1, ps', by omega, HLE.out, by go_num, HO3.out, HB3.out, HSO.out, HPL.out⟩, by simp [intOf]; omega⟩
    · have hge : decide ((k : Int) < (n : Int)) = false := by simp; omega
      have HRR := hid (HR0.out.below HR.out.2.1 (by omega))
      obtain ⟨c0, c1, z0, z1⟩ := HRR.out.two
      have HPL := hid (show playL l = .ok (ps.map (·.p)) by rw [HR.out.2.2.2, List.drop_eq_nil_of_le (by rw [HN.out]; omega), playGo])
      go_wp2
      obtain ⟨g0, g1⟩ := HRR.out.set2 (.int .i64 0) (.int .i64 0)
      have hbs : Below w.heap.size w0 ((wr.setCell ⟨w.heap.size, 0, none⟩ (.int .i64 0)).setCell ⟨w.heap.size, 1, none⟩ (.int .i64 0)) := below_set2 (HR.out.2.1.mono (by omega)) (Nat.le_refl _) _ _
      have hown : OwnPr ((wr.setCell ⟨w.heap.size, 0, none⟩ (.int .i64 0)).setCell ⟨w.heap.size, 1, none⟩ (.int .i64 0)) w0.heap.size (.slice oy ps.length cy) ps := by
        have hkeep : ∀ g, w0.heap.size ≤ g → ((wr.setCell ⟨w.heap.size, 0, none⟩ (.int .i64 0)).setCell ⟨w.heap.size, 1, none⟩ (.int .i64 0)).heap[g]? = wr.heap[g]? := fun g hg => by
          rw [heap_setCell_other _ _ _ _ (show g ≠ w.heap.size by omega), heap_setCell_other _ _ _ _ (show g ≠ w.heap.size by omega)]
        exact ⟨HR.out.1.1.keep hkeep, fun q hq => ⟨(HR.out.1.2 q hq).1.keep hkeep, (HR.out.1.2 q hq).2.keep hkeep⟩⟩
      refine bodyPost_ret (v := .tuple #[.slice oy ps.length cy, okV]) (by simp [results, Tryd.results12, go_sem, g0, g1, okV]) rfl ⟨HB0.out.trans hbs, .slice oy ps.length cy, ?_, ps, hown.mono (show w.heap.size ≤ w0.heap.size by omega), ?_⟩
      · simp only [pcode, HPL.out]
        rfl
      · simp only [pout, HPL.out]
/-- Play's answer -/
theorem playC : PlayC 12 := by
  intro l sv N w hb hN hlen _
  refine (playO l sv N w hb hN hlen).mono ?_
  rintro e w' ⟨h1, v, rfl, ps, h2, h3⟩
  obtain ⟨ov, cv, rfl, _⟩ := h2.1.shape
  refine ⟨h1, ov, _, cv, rfl, ?_⟩
  rw [← h3]
  exact h2.pairs
end Go.Proofs.YtooemgkjkngpcaaDoor
