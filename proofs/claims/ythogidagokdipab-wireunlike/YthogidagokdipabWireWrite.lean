/-
  What Write answers: the bytes of pieces, in new memory; or which error, and where.
-/
import Derived.Test.YthogidagokdipabWireApp
import Derived.Test.YthogidagokdipabPiecesMem
import Derived.Test.YthogidagokdipabFaultMem
namespace Go.Proofs.Ythogidagokdipab
open Go.RowKit

theorem wrGo_cons (k : Nat) (m : List (BitVec 8)) (l : List Pc) (p : Pc) (h : l[k]? = some p) : wrGo k m (l.drop k) =
    if p.k ≠ 1 ∧ p.k ≠ 2 then .error (1, k) else if 20000 < (m ++ p.wr).length then .error (4, k) else wrGo (k + 1) (m ++ p.wr) (l.drop (k + 1)) := by
  obtain ⟨hk, he⟩ := List.getElem?_eq_some_iff.1 h
  rw [List.drop_eq_getElem_cons hk, wrGo, he]
theorem OwnB.set2 {w : World} {base g : Nat} {v : Value} {l : List (BitVec 8)} (h : OwnB w base v l) (hg : g < base) (x y : Value) : OwnB ((w.setCell ⟨g, 0, none⟩ x).setCell ⟨g, 1, none⟩ y) base v l :=
  h.keep fun k hk => by rw [heap_setCell_other _ _ _ _ (show k ≠ g by omega), heap_setCell_other _ _ _ _ (show k ≠ g by omega)]

set_option maxRecDepth 100000 in
set_option maxHeartbeats 2000000 in
theorem write_any (l : List Pc) (sv : Value) (N : Nat) (w : World) (hb : Pieces w N sv l) (hN : N ≤ w.heap.size) (hlen : l.length < 2305843009213693952) (hfit : ∀ p ∈ l, p.fits) :
    Calls Try.prog 6 #[sv] w fun e w' => Below w.heap.size w w' ∧
      ((∃ x v, wrAll l = .ok x ∧ e = .returned (.tuple #[v, okV]) ∧ OwnB w' w.heap.size v x) ∨
       ∃ c i, wrAll l = .error (c, i) ∧ e = .returned (.tuple #[.slice none 0 0, faultV c i])) := by
  obtain ⟨oa, ca, rfl, hca⟩ := hb.shape
  obtain ⟨w0, hw0⟩ : ∃ w0, w.alloc (.cells #[.int .i64 0, .int .i64 0] 26) = w0 := ⟨_, rfl⟩
  have hsz0 : w0.heap.size = w.heap.size + 1 := by rw [← hw0]; simp
  have hb0 : Below w.heap.size w w0 := by rw [← hw0]; exact (Below.refl _ _).alloc (Nat.le_refl _) _
  have hrow0 : Row w0 w.heap.size 26 [.int .i64 0, .int .i64 0] := by rw [← hw0]; exact Row.new _ _ _
  have HB := hid (hb.below (hb0.mono hN))
  have HB0 := hid hb0
  have HR0 := hid hrow0
  have HFIT := hid hfit
  clear hb hb0 hrow0 hfit
  generalize hn : l.length = n at *
  have HN := hid hn
  clear hn
  by_cases hmany : 200 < n
  · have e1 : decide ((200 : Int) < (n : Int)) = true := by simp; omega
    obtain ⟨c0, c1, z0, z1⟩ := HR0.out.two
    go_enter Try.func6, Try.ntmps6
    go_wp2
    obtain ⟨d0, d1⟩ := HR0.out.set2 (.int .i64 5) (.int .i64 0)
    refine bodyPost_ret (v := .tuple #[.slice none 0 0, faultV 5 0]) (by simp [results, Try.results6, go_sem, d0, d1, faultV]) rfl ⟨?_, .inr ⟨5, 0, by unfold wrAll; rw [HN.out, if_pos hmany], rfl⟩⟩
    exact below_set2 HB0.out (Nat.le_refl _) _ _
  · have e1 : decide ((200 : Int) < (n : Int)) = false := by simp; omega
    have hwn : IntKind.u64.wrap (n : Int) = (n : Int) := wrap64 _ (by omega)
    have HAN := hid (appendNumber_any n [] (.slice none 0 0) w0.heap.size w0 (by omega) (Nat.le_refl _) (OwnB.nil _ _) (by simp))
    go_enter Try.func6, Try.ntmps6
    go_wp2_with fail
    refine HAN.out.mono ?_
    rintro e w1 ⟨v1, rfl, hown1, hb1, _⟩
    have HS := hid (show OwnB w1 w0.heap.size v1 (numB n) ∧ Below w0.heap.size w0 w1 from ⟨hown1, hb1⟩)
    clear hown1 hb1 HAN hw0
    go_wp2_with fail
    go_loopw [4, 18] (fun y i wr => ∃ (k : Nat) (m : List (BitVec 8)), k ≤ n ∧ m.length ≤ 20000 ∧ i = .int .i64 (k : Int) ∧ Hid (OwnB wr w0.heap.size y m ∧ Below w0.heap.size w0 wr ∧ wrAll l = wrGo k m (l.drop k))) (fun _ i _ => n - (intOf i).toNat)
    case atStart => exact ⟨0, numB n, by omega, by have := numB_ten n (by omega); omega, rfl, HS.out.1, HS.out.2, by unfold wrAll; rw [HN.out, if_neg hmany]; rfl⟩
    case round =>
      obtain ⟨k, m, hk, hm, rfl, HR⟩ := hrel
      obtain ⟨oy, cy, rfl, hcy⟩ := HR.out.1.shape
      by_cases hlt : k < n
      · obtain ⟨p, hp⟩ : ∃ p, l[k]? = some p := ⟨l[k]'(by rw [HN.out]; exact hlt), List.getElem?_eq_getElem _⟩
        obtain ⟨b, o, rfl, hcells⟩ := HB.out.some (by omega)
        obtain ⟨hbN, vb, d0, d1, d2, hvb⟩ := hcells k p hp
        obtain ⟨ob, cb, rfl, hcb⟩ := hvb.shape
        have hbl : b < w0.heap.size := by omega
        have f0 := (HR.out.2.1.cell (p := ⟨b, o + k * 3, none⟩) hbl).trans d0
        have f1 := (HR.out.2.1.cell (p := ⟨b, o + k * 3 + 1, none⟩) hbl).trans d1
        have f2 := (HR.out.2.1.cell (p := ⟨b, o + k * 3 + 2, none⟩) hbl).trans d2
        have hszr := HR.out.2.1.size
        have hfp := HFIT.out p (List.mem_of_getElem? hp)
        have HVB := hid (hvb.below (HR.out.2.1.mono (show N ≤ w0.heap.size by omega)))
        have HWG := hid (wrGo_cons k m l p hp)
        obtain ⟨w2, hw2⟩ : ∃ w2, wr.alloc (.cells #[.int .i64 p.k, .int .u64 (p.n : Int), .slice ob p.b.length cb] 38) = w2 := ⟨_, rfl⟩
        have hb2 : Below w0.heap.size wr w2 := by rw [← hw2]; exact (Below.refl _ _).alloc hszr _
        have hown2 : OwnB w2 w0.heap.size (.slice oy m.length cy) m := by rw [← hw2]; exact HR.out.1.alloc _
        have HAP := hid (appendPiece_any p m (.slice oy m.length cy) (.slice ob p.b.length cb) w0.heap.size N w2 (Nat.le_trans hszr hb2.size) hown2 hm hfp.1 (HVB.out.below (hb2.mono (by omega))) (by omega) hfp.2)
        have HB2 := hid (HR.out.2.1.trans hb2)
        have HW2 := hid hw2
        unfold pcV at HAP
        clear d0 d1 d2 hvb hcells hb2 hown2 hfp hp hw2
        have hlt' : (k : Int) < (n : Int) := by omega
        go_wp2_with fail
        rw [HW2.out]
        refine HAP.out.mono ?_
        rintro e w3 ⟨hb3, ⟨hkk, rfl⟩ | ⟨hkk, hbig, rfl⟩ | ⟨hkk, hsm, v', rfl, hown3⟩⟩
        · have HB3 := hid (HB2.out.trans hb3)
          have HR3 := hid (HR0.out.below HB3.out (by omega))
          obtain ⟨c0, c1, z0, z1⟩ := HR3.out.two
          go_wp2
          obtain ⟨d0, d1⟩ := HR3.out.set2 (.int .i64 1) (.int .i64 (k : Int))
          refine bodyPost_ret (v := .tuple #[.slice none 0 0, faultV 1 k]) (by simp [results, Try.results6, go_sem, d0, d1, faultV]) rfl ⟨?_, .inr ⟨1, k, by rw [HR.out.2.2, HWG.out, if_pos (by omega)], rfl⟩⟩
          exact below_set2 (HB0.out.trans (HB3.out.mono (by omega))) (Nat.le_refl _) _ _
        · have HB3 := hid (HB2.out.trans hb3)
          have HR3 := hid (HR0.out.below HB3.out (by omega))
          obtain ⟨c0, c1, z0, z1⟩ := HR3.out.two
          have HBIG := hid hbig
          clear hbig
          go_wp2
          obtain ⟨d0, d1⟩ := HR3.out.set2 (.int .i64 4) (.int .i64 (k : Int))
          refine bodyPost_ret (v := .tuple #[.slice none 0 0, faultV 4 k]) (by simp [results, Try.results6, go_sem, d0, d1, faultV]) rfl ⟨?_, .inr ⟨4, k, by rw [HR.out.2.2, HWG.out, if_neg (by omega), if_pos HBIG.out], rfl⟩⟩
          exact below_set2 (HB0.out.trans (HB3.out.mono (by omega))) (Nat.le_refl _) _ _
        · have HB3 := hid (HB2.out.trans hb3)
          have HO3 := hid hown3
          have HSM := hid hsm
          clear hown3 hb3 hsm
          go_wp2_with fail
          refine ⟨⟨k + 1, m ++ p.wr, by omega, HSM.out, by go_num, HO3.out, HB3.out, ?_⟩, by simp [intOf]; omega⟩
          rw [HR.out.2.2, HWG.out, if_neg (by omega), if_neg (by have := HSM.out; omega)]
      · have hge : decide ((k : Int) < (n : Int)) = false := by simp; omega
        have HR3 := hid (HR0.out.below HR.out.2.1 (by omega))
        obtain ⟨c0, c1, z0, z1⟩ := HR3.out.two
        go_wp2
        obtain ⟨d0, d1⟩ := HR3.out.set2 (.int .i64 0) (.int .i64 0)
        refine bodyPost_ret (v := .tuple #[.slice oy m.length cy, okV]) (by simp [results, Try.results6, go_sem, d0, d1, okV]) rfl ⟨?_, .inl ⟨m, _, by rw [HR.out.2.2, List.drop_eq_nil_of_le (by rw [HN.out]; omega), wrGo], rfl, ?_⟩⟩
        · exact below_set2 (HB0.out.trans (HR.out.2.1.mono (by omega))) (Nat.le_refl _) _ _
        · exact (OwnB.set2 HR.out.1 (show w.heap.size < w0.heap.size by omega) _ _).mono (by omega)
end Go.Proofs.Ythogidagokdipab
