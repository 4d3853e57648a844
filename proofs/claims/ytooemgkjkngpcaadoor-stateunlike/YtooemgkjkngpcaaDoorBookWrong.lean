/-
  What package book's Wrong answers: what is wrong with pairs, and where.
-/
import Derived.Test.YtooemgkjkngpcaaDoorBookGet
import Derived.Test.YtooemgkjkngpcaaDoorPairsAll
import Derived.Deep.QuietTactic
import Derived.BigQuiet
namespace Go.Proofs.YtooemgkjkngpcaaDoor
open Go.RowKit

set_option maxRecDepth 100000 in
set_option maxHeartbeats 2000000 in
theorem wrongC : WrongC 8 := by
  intro l sv N w hb hN hlen hfit
  obtain ⟨oa, ca, rfl, hca⟩ := hb.shape
  obtain ⟨w0, hw0⟩ : ∃ w0, w.alloc (.cells #[.int .i64 0, .int .i64 0] 36) = w0 := ⟨_, rfl⟩
  have hsz0 : w0.heap.size = w.heap.size + 1 := by rw [← hw0]; simp
  have hb0 : Below w.heap.size w w0 := by rw [← hw0]; exact (Below.refl _ _).alloc (Nat.le_refl _) _
  have hrow0 : Row w0 w.heap.size 36 [.int .i64 0, .int .i64 0] := by rw [← hw0]; exact Row.new _ _ _
  have HB := hid (hb.below (hb0.mono hN))
  have HB0 := hid hb0
  have HR0 := hid hrow0
  have HFIT := hid hfit
  clear hb hb0 hrow0 hfit
  generalize hn : l.length = n at *
  have HN := hid hn
  clear hn
  have FIN := hid (show ∀ (c : Int) (i : Nat) (wf : World), Below w0.heap.size w0 wf → wrongL l = (c, i) → ((wf.setCell ⟨w.heap.size, 0, none⟩ (.int .i64 c)).setCell ⟨w.heap.size, 1, none⟩ (.int .i64 (i : Int))).cell? ⟨w.heap.size, 0, none⟩ = some (.int .i64 c) ∧
      ((wf.setCell ⟨w.heap.size, 0, none⟩ (.int .i64 c)).setCell ⟨w.heap.size, 1, none⟩ (.int .i64 (i : Int))).cell? ⟨w.heap.size, 1, none⟩ = some (.int .i64 (i : Int)) ∧
      Below w.heap.size w ((wf.setCell ⟨w.heap.size, 0, none⟩ (.int .i64 c)).setCell ⟨w.heap.size, 1, none⟩ (.int .i64 (i : Int))) ∧ (wrongL l).1 = c ∧ (wrongL l).2 = i from fun c i wf hwf h => by
    obtain ⟨g0, g1⟩ := (HR0.out.below hwf (by omega)).set2 (.int .i64 c) (.int .i64 (i : Int))
    exact ⟨g0, g1, below_set2 (HB0.out.trans (hwf.mono (by omega))) (Nat.le_refl _) _ _, by rw [h], by rw [h]⟩)
  by_cases hmany : 200 < n
  · have e1 : decide ((200 : Int) < (n : Int)) = true := by simp; omega
    obtain ⟨c0, c1, z0, z1⟩ := HR0.out.two
    go_enter Tryd.func8, Tryd.ntmps8
    go_wp2
    obtain ⟨g0, g1, g2, g3, g4⟩ := FIN.out 5 0 w0 (Below.refl _ _) (by unfold wrongL; rw [HN.out, if_pos hmany])
    rw [g3, g4]
    exact bodyPost_ret (v := faultV 5 0) (by have h0 := g0; have h1 := g1; simp at h0 h1; simp [results, Tryd.results8, go_sem, h0, h1, faultV]) rfl ⟨g2, rfl⟩
  · have e1 : decide ((200 : Int) < (n : Int)) = false := by simp; omega
    go_enter Tryd.func8, Tryd.ntmps8
    go_wp2_with fail
    clear hw0
    go_loopw [11] (fun i wr => ∃ k : Nat, k ≤ n ∧ i = .int .i64 (k : Int) ∧ Hid (Below w0.heap.size w0 wr ∧ wrongL l = wrongGo k (prevK l k) (l.drop k))) (fun i _ => n - (intOf i).toNat)
    case atStart => exact ⟨0, by omega, rfl, hid ⟨Below.refl _ _, by unfold wrongL; rw [HN.out, if_neg hmany]; rfl⟩⟩
    case round =>
      obtain ⟨k, hk, rfl, HT⟩ := hrel
      have hszr := HT.out.1.size
      have hlt0 : w.heap.size < wr.heap.size := by omega
      have hne0 : w.heap.size ≠ wr.heap.size := by omega
      have hne1 : wr.heap.size ≠ w.heap.size := by omega
      by_cases hlt : k < n
      · obtain ⟨p, hp⟩ : ∃ p, l[k]? = some p := ⟨l[k]'(by rw [HN.out]; exact hlt), List.getElem?_eq_getElem _⟩
        obtain ⟨b, o, rfl, hcells⟩ := HB.out.some (by omega)
        obtain ⟨hbN, vk, vv, d0, d1, hvk, hvv⟩ := hcells k p hp
        obtain ⟨o1, c1, rfl, hc1⟩ := hvk.shape
        obtain ⟨o2, c2, rfl, hc2⟩ := hvv.shape
        have hbl : b < w0.heap.size := by omega
        have f0 := (HT.out.1.cell (p := ⟨b, o + k * 2, none⟩) hbl).trans d0
        have f1 := (HT.out.1.cell (p := ⟨b, o + k * 2 + 1, none⟩) hbl).trans d1
        have HST := hid (wrong_step l k p hp)
        have hlt' : (k : Int) < (n : Int) := by omega
        obtain ⟨w2, hw2⟩ : ∃ w2, wr.alloc (.cells #[.slice o1 p.key.length c1, .slice o2 p.val.length c2] 48) = w2 := ⟨_, rfl⟩
        have hsz2 : w2.heap.size = wr.heap.size + 1 := by rw [← hw2]; simp
        have hbr2 : Below wr.heap.size wr w2 := by rw [← hw2]; exact (Below.refl _ _).alloc (Nat.le_refl _) _
        have hb2 : Below w0.heap.size w0 w2 := HT.out.1.trans (hbr2.mono hszr)
        have hrow2 : Row w2 wr.heap.size 48 [.slice o1 p.key.length c1, .slice o2 p.val.length c2] := by rw [← hw2]; exact Row.new _ _ _
        have q0 := hrow2.cell 0
        have q1 := hrow2.cell 1
        have HB2 := hid hb2
        have HW2 := hid hw2
        have HVK := hid (hvk.below (hb2.mono (show N ≤ w0.heap.size by omega)))
        clear d0 d1 hbr2 hb2 hrow2 hw2 hvk hvv
        obtain ⟨r0, r1, z0, z1⟩ := (HR0.out.below HB2.out (by omega)).two
        by_cases hmuch : 60 < p.key.length ∨ 200 < p.val.length
        · have HPL := hid (show wrongL l = (4, k) by rw [HT.out.2, HST.out, if_pos hmuch])
          have HTM := hid (tooMuch_any p.key.length p.val.length o1 o2 c1 c2 w2)
          rw [show (decide (60 < p.key.length) || decide (200 < p.val.length)) = true by simpa using hmuch] at HTM
          clear hcells hmuch
          go_wp2_with fail
          rw [HW2.out]
          refine HTM.out.mono ?_
          rintro e w3 ⟨rfl, hw3⟩
          obtain rfl := hw3.symm
          go_wp2
          obtain ⟨g0, g1, g2, g3, g4⟩ := FIN.out 4 k w2 HB2.out HPL.out
          rw [g3, g4]
          exact bodyPost_ret (v := faultV 4 k) (by simp [results, Tryd.results8, go_sem, g0, g1, faultV]) rfl ⟨g2, rfl⟩
        · have HST2 := hid (HST.out.trans (if_neg hmuch))
          have HTM := hid (tooMuch_any p.key.length p.val.length o1 o2 c1 c2 w2)
          rw [show (decide (60 < p.key.length) || decide (200 < p.val.length)) = false by simpa using hmuch] at HTM
          clear hmuch HST
          cases k with
          | zero =>
            have HPL := hid (show wrongL l = wrongGo 1 (prevK l 1) (l.drop 1) by rw [HT.out.2, HST2.out, if_neg (by simp [prevK, okPrev])])
            have f0' : wr.cell? ⟨b, o, none⟩ = some (.slice o1 p.key.length c1) := by simpa using f0
            have f1' : wr.cell? ⟨b, o + 1, none⟩ = some (.slice o2 p.val.length c2) := by simpa using f1
            clear hcells
            go_wp2_with fail
            rw [HW2.out]
            refine HTM.out.mono ?_
            rintro e w3 ⟨rfl, hw3⟩
            obtain rfl := hw3.symm
            go_wp2_with fail
            go_quiet (fail)
            go_wp2
            go_roundw
            case rel => exact ⟨1, by omega, by go_num, hid ⟨HB2.out.trans (drewN_belowW _ _ _), HPL.out⟩⟩
            case measure => simp [intOf]; omega
          | succ j =>
            obtain ⟨y, hy⟩ : ∃ y, l[j]? = some y := ⟨l[j]'(by rw [HN.out]; omega), List.getElem?_eq_getElem _⟩
            obtain ⟨_, yk, yv, t0, t1, hyk, hyv⟩ := hcells j y hy
            obtain ⟨o3, c3, rfl, hc3⟩ := hyk.shape
            have t0' := (HB2.out.cell (p := ⟨b, o + j * 2, none⟩) hbl).trans t0
            have HL := hid (fun wq : Nat => show Calls Tryd.prog 33 #[.slice o3 y.key.length c3, .slice o1 p.key.length c1] (w2.drewN wq) (fun e w' => e = .returned (.int .i64 (cmpB y.key p.key)) ∧ ∃ n, w' = w2.drewN n) from
              (compare_any y.key p.key _ _ N N (w2.drewN wq) ((hyk.below (HB2.out.mono (by omega))).below (drewN_belowW _ _ _)) (HVK.out.below (drewN_belowW _ _ _))).mono fun e w' ⟨h1, h2⟩ => ⟨h1, wq, h2⟩)
            have HPV := hid (prev_some l j y hy)
            have hj1 : ((j + 1 : Nat) : Int) - 1 = (j : Int) := by omega
            have hj2 : IntKind.i64.wrap (((j + 1 : Nat) : Int) - 1) = (j : Int) := by rw [hj1]; simp [IntKind.wrap, IntKind.bits, IntKind.signed]; split <;> omega
            have hjn : (j : Int) < (n : Int) := by omega
            have e4 : decide ((0 : Int) < ((j + 1 : Nat) : Int)) = true := decide_eq_true (by omega)
            clear hcells hyk hyv hy t0
            have HCN := hid (cmpB_neg y.key p.key)
            cases hls : lessB y.key p.key with
            | true =>
              have hcc := HCN.out.2 hls
              have HPL := hid (show wrongL l = wrongGo (j + 2) (prevK l (j + 2)) (l.drop (j + 2)) by rw [HT.out.2, HST2.out, HPV.out, if_neg (by simp [okPrev, hls])])
              clear hls
              generalize cmpB y.key p.key = cc at *
              have hcc' : decide ((0 : Int) ≤ cc) = false := by simp; omega
              go_wp2_with fail
              rw [HW2.out]
              refine HTM.out.mono ?_
              rintro e w3 ⟨rfl, hw3⟩
              obtain rfl := hw3.symm
              go_wp2_with fail
              go_quiet (first | (go_at_call 33; exact HL.out _))
              go_wp2
              go_roundw
              case rel => exact ⟨j + 2, by omega, by go_num, hid ⟨HB2.out.trans (drewN_belowW _ _ _), HPL.out⟩⟩
              case measure => simp [intOf]; omega
            | false =>
              have hcc : ¬ cmpB y.key p.key < 0 := fun h => by have := HCN.out.1 h; rw [hls] at this; cases this
              have HPL := hid (show wrongL l = (2, j + 1) by rw [HT.out.2, HST2.out, HPV.out, if_pos (by simp [okPrev, hls])])
              clear hls
              generalize cmpB y.key p.key = cc at *
              have hcc' : decide ((0 : Int) ≤ cc) = true := by simp; omega
              go_wp2_with fail
              rw [HW2.out]
              refine HTM.out.mono ?_
              rintro e w3 ⟨rfl, hw3⟩
              obtain rfl := hw3.symm
              go_wp2_with fail
              go_quiet (first | (go_at_call 33; exact HL.out _))
              have HBF := hid (HB2.out.trans (drewN_belowW w2 nq _))
              obtain ⟨r0, r1, z0, z1⟩ := (HR0.out.below HBF.out (by omega)).two
              go_wp2
              obtain ⟨g0, g1, g2, g3, g4⟩ := FIN.out 2 (j + 1) _ HBF.out HPL.out
              rw [g3, g4]
              exact bodyPost_ret (v := faultV 2 (j + 1)) (by have h0 := g0; have h1 := g1; simp at h0 h1; simp [results, Tryd.results8, go_sem, h0, h1, faultV]) rfl ⟨g2, rfl⟩
      · have hge : decide ((k : Int) < (n : Int)) = false := by simp; omega
        have HPL := hid (show wrongL l = (0, 0) by rw [HT.out.2, List.drop_eq_nil_of_le (by rw [HN.out]; omega), wrongGo])
        obtain ⟨r0, r1, z0, z1⟩ := (HR0.out.below HT.out.1 (by omega)).two
        go_wp2
        obtain ⟨g0, g1, g2, g3, g4⟩ := FIN.out 0 0 wr HT.out.1 HPL.out
        rw [g3, g4]
        exact bodyPost_ret (v := faultV 0 0) (by have h0 := g0; have h1 := g1; simp at h0 h1; simp [results, Tryd.results8, go_sem, h0, h1, faultV]) rfl ⟨g2, rfl⟩
end Go.Proofs.YtooemgkjkngpcaaDoor
