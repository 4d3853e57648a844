/-
  What the document's Less, Half and Four answer.
  What the document's Wrong answers: what is wrong with pairs, and where.
-/
import Derived.Test.YtjfhhlgblmjonaaDoorBookMath
import Derived.Test.YtjfhhlgblmjonaaDoorMemB
import Derived.Test.YtjfhhlgblmjonaaDoorPairsAll
import Derived.Test.YtjfhhlgblmjonaaDoorFaultMem
import Derived.Deep.QuietTactic
import Derived.BigQuiet
namespace Go.Proofs.YtjfhhlgblmjonaaDoor
open Go.RowKit

theorem lessB_nil_left (b : List (BitVec 8)) : lessB [] b = decide (0 < b.length) := by cases b <;> simp [lessB]
theorem lessB_nil_right (a : List (BitVec 8)) : lessB a [] = false := by cases a <;> rfl
theorem drop_getD (l : List (BitVec 8)) (k : Nat) (h : k < l.length) : l.drop k = l.getD k 0 :: l.drop (k + 1) := by
  rw [List.drop_eq_getElem_cons h]; simp [h]
set_option maxRecDepth 100000 in
set_option maxHeartbeats 1000000 in
theorem refLess_any (l m : List (BitVec 8)) (sa sb : Value) (Na Nb : Nat) (w : World) (ha : Bytes w Na sa l) (hb : Bytes w Nb sb m) (hlen : l.length < 2305843009213693952) (hlem : m.length < 2305843009213693952) :
    Calls Tryd.prog 32 #[sa, sb] w fun e w' => e = .returned (.bool (lessB l m)) ∧ ∃ n, w' = w.drewN n := by
  obtain ⟨oa, ca, rfl, hca⟩ := ha.shape
  obtain ⟨ob, cb, rfl, hcb⟩ := hb.shape
  have HA := hid ha
  have HB := hid hb
  clear ha hb
  generalize hn : l.length = n at *
  generalize hn' : m.length = n' at *
  have HN := hid hn
  have HN' := hid hn'
  clear hn hn'
  go_enter Tryd.func32, Tryd.ntmps32
  go_wp2_with fail
  go_loopw [5] (fun i wr => ∃ k q : Nat, k ≤ n ∧ k ≤ n' ∧ i = .int .i64 k ∧ wr = w.drewN q ∧ Hid (lessB l m = lessB (l.drop k) (m.drop k))) (fun i _ => n - (intOf i).toNat)
  case atStart => exact ⟨0, 0, by omega, by omega, rfl, rfl, rfl⟩
  case round =>
    obtain ⟨k, q, hk, hk', rfl, rfl, HT⟩ := hrel
    by_cases hlt : k < n
    · have e1 : decide ((k : Int) < (n : Int)) = true := by simp; omega
      have hlt' : (k : Int) < (n : Int) := by omega
      by_cases hlt2 : k < n'
      · have e2 : decide ((k : Int) < (n' : Int)) = true := by simp; omega
        have hlt2' : (k : Int) < (n' : Int) := by omega
        have h1 : Bytes w Na (.slice oa l.length ca) l := by rw [HN.out]; exact HA.out
        have h2 : Bytes w Nb (.slice ob m.length cb) m := by rw [HN'.out]; exact HB.out
        obtain ⟨b1, o1, rfl, c1⟩ := h1.some (by rw [HN.out]; omega)
        obtain ⟨b2, o2, rfl, c2⟩ := h2.some (by rw [HN'.out]; omega)
        have d1 := (c1 k (by rw [HN.out]; exact hlt)).2
        have d2 := (c2 k (by rw [HN'.out]; exact hlt2)).2
        obtain ⟨x, hx⟩ : ∃ x, l.getD k 0 = x := ⟨_, rfl⟩
        obtain ⟨y, hy⟩ : ∃ y, m.getD k 0 = y := ⟨_, rfl⟩
        rw [hx] at d1
        rw [hy] at d2
        have HS := hid (show lessB l m = if x = y then lessB (l.drop (k + 1)) (m.drop (k + 1)) else decide (x.toNat < y.toNat) by
          rw [HT.out, drop_getD l k (by rw [HN.out]; exact hlt), drop_getD m k (by rw [HN'.out]; exact hlt2), hx, hy, lessB])
        clear h1 h2 c1 c2 hx hy HT
        by_cases hxy : x = y
        · have HS2 := hid (HS.out.trans (if_pos hxy))
          subst hxy
          have hnx : (b8 x != b8 x) = false := by simp
          go_wp2_with fail
          refine region_still (by kernel_rfl) (by kernel_rfl) ?_
          repeat still_step
          refine wpStill_nil ?_
          go_wp2
          go_roundw
          case rel => exact ⟨k + 1, q + 1, by omega, by omega, by go_num, rfl, HS2⟩
          case measure => simp [intOf]; omega
        · have hnx : (b8 x != b8 y) = true := by
            simp only [bne_iff_ne, ne_eq]
            intro h
            exact hxy (b8_inj h)
          obtain ⟨bb, hbb⟩ : ∃ bb, decide (b8 x < b8 y) = bb := ⟨_, rfl⟩
          have HR := hid (show lessB l m = bb by
            rw [HS.out, if_neg hxy, ← hbb]
            unfold b8
            rw [decide_eq_decide]
            omega)
          clear hxy
          go_wp2_with fail
          refine region_still (by kernel_rfl) (by kernel_rfl) ?_
          repeat still_step
          refine wpStill_nil ?_
          go_wp2_with fail
          refine region_still (by kernel_rfl) (by kernel_rfl) ?_
          repeat still_step
          refine wpStill_nil ?_
          go_wp2
          go_ret
          exact ⟨by rw [HR.out]; rfl, q + 1 + 1, rfl⟩
      · have e2 : decide ((k : Int) < (n' : Int)) = false := by simp; omega
        have HR := hid (show lessB l m = decide (n < n') by rw [HT.out, show m.drop k = [] from List.drop_eq_nil_of_le (by rw [HN'.out]; omega), lessB_nil_right, decide_eq_false (show ¬ n < n' by omega)])
        go_wp2
        go_ret
        exact ⟨by rw [HR.out]; rfl, q, rfl⟩
    · have e1 : decide ((k : Int) < (n : Int)) = false := by simp; omega
      have HR := hid (show lessB l m = decide (n < n') by
        rw [HT.out, show l.drop k = [] from List.drop_eq_nil_of_le (by rw [HN.out]; omega), lessB_nil_left, List.length_drop, HN'.out, decide_eq_decide]
        omega)
      go_wp2
      go_ret
      exact ⟨by rw [HR.out]; rfl, q, rfl⟩
set_option maxHeartbeats 1000000 in
theorem refHalf_any (n : Nat) (w : World) (hn : n < 1000000) : Calls Tryd.prog 50 #[.int .i64 (n : Int)] w fun e w' => e = .returned (.int .i64 (halfN n : Int)) ∧ w' = w := by
  go_enter Tryd.func50, Tryd.ntmps50
  go_wp2_with fail
  go_loopw [3] (fun i wr => ∃ k : Nat, 0 < k ∧ k < 1000000 ∧ i = .int .i64 (k : Int) ∧ wr = w ∧ Hid (halfN n = halfGo k n)) (fun i _ => n - (intOf i).toNat)
  case atStart => exact ⟨1, by omega, by omega, rfl, rfl, rfl⟩
  case round =>
    obtain ⟨k, hk, hk', rfl, rfl, HT⟩ := hrel
    by_cases hle : n ≤ 2 * k
    · have e1 : decide ((n : Int) ≤ 2 * (k : Int)) = true := by simp; omega
      have HR := hid (show halfN n = k by rw [HT.out, halfGo_eq, if_pos (.inl hle)])
      go_wp2
      go_ret
      exact ⟨by rw [HR.out]; rfl, rfl⟩
    · have e1 : decide ((n : Int) ≤ 2 * (k : Int)) = false := by simp; omega
      go_wp2_with fail
      exact ⟨⟨2 * k, by omega, by omega, by go_num, trivial, by rw [HT.out, halfGo_eq, if_neg (by omega)]; exact hid rfl⟩, by simp [intOf]; omega⟩
end Go.Proofs.YtjfhhlgblmjonaaDoor
namespace Go.Proofs.YtjfhhlgblmjonaaDoor
open Go.RowKit

theorem drewN_belowW (w : World) (n N : Nat) : Below N w (w.drewN n) := ⟨rfl, rfl, rfl, Nat.le_refl _, fun _ _ => rfl⟩
/-- the key ahead of a place, if there is one -/
def prevK (l : List Pr) : Nat → Option (List (BitVec 8))
  | 0 => none
  | k + 1 => (l[k]?).map (·.key)
theorem wrong_step (l : List Pr) (k : Nat) (p : Pr) (h : l[k]? = some p) : wrongGo k (prevK l k) (l.drop k) =
    if 60 < p.key.length ∨ 200 < p.val.length then (4, k) else if okPrev (prevK l k) p.key = false then (2, k) else wrongGo (k + 1) (prevK l (k + 1)) (l.drop (k + 1)) := by
  obtain ⟨hk, he⟩ := List.getElem?_eq_some_iff.1 h
  rw [List.drop_eq_getElem_cons hk, he, wrongGo, show prevK l (k + 1) = some p.key by simp [prevK, h]]
theorem prev_some (l : List Pr) (k : Nat) (p : Pr) (h : l[k]? = some p) : prevK l (k + 1) = some p.key := by simp [prevK, h]
set_option maxRecDepth 100000 in
set_option maxHeartbeats 2000000 in
theorem refWrong_any (l : List Pr) (sv : Value) (N : Nat) (w : World) (hb : Pairs w N sv l) (hN : N ≤ w.heap.size) (hlen : l.length < 2305843009213693952) (hfit : ∀ p ∈ l, p.fits) :
    Calls Tryd.prog 17 #[sv] w fun e w' => Below w.heap.size w w' ∧ e = .returned (faultV (wrongL l).1 (wrongL l).2) := by
  obtain ⟨oa, ca, rfl, hca⟩ := hb.shape
  obtain ⟨w0, hw0⟩ : ∃ w0, w.alloc (.cells #[.int .i64 0, .int .i64 0] 40) = w0 := ⟨_, rfl⟩
  have hsz0 : w0.heap.size = w.heap.size + 1 := by rw [← hw0]; simp
  have hb0 : Below w.heap.size w w0 := by rw [← hw0]; exact (Below.refl _ _).alloc (Nat.le_refl _) _
  have hrow0 : Row w0 w.heap.size 40 [.int .i64 0, .int .i64 0] := by rw [← hw0]; exact Row.new _ _ _
  have HB := hid (hb.below (hb0.mono hN))
  have HB0 := hid hb0
  have HR0 := hid hrow0
  have HFIT := hid hfit
  clear hb hb0 hrow0 hfit
  generalize hn : l.length = n at *
  have HN := hid hn
  clear hn
  have FIN := hid (show ∀ (c : Int) (i q : Nat), wrongL l = (c, i) → (((w0.drewN q).setCell ⟨w.heap.size, 0, none⟩ (.int .i64 c)).setCell ⟨w.heap.size, 1, none⟩ (.int .i64 (i : Int))).cell? ⟨w.heap.size, 0, none⟩ = some (.int .i64 c) ∧
      (((w0.drewN q).setCell ⟨w.heap.size, 0, none⟩ (.int .i64 c)).setCell ⟨w.heap.size, 1, none⟩ (.int .i64 (i : Int))).cell? ⟨w.heap.size, 1, none⟩ = some (.int .i64 (i : Int)) ∧
      Below w.heap.size w (((w0.drewN q).setCell ⟨w.heap.size, 0, none⟩ (.int .i64 c)).setCell ⟨w.heap.size, 1, none⟩ (.int .i64 (i : Int))) ∧ (wrongL l).1 = c ∧ (wrongL l).2 = i from fun c i q h => by
    obtain ⟨g0, g1⟩ := (HR0.out.drewN q).set2 (.int .i64 c) (.int .i64 (i : Int))
    exact ⟨g0, g1, below_set2 (HB0.out.trans (drewN_belowW _ _ _)) (Nat.le_refl _) _ _, by rw [h], by rw [h]⟩)
  by_cases hmany : 200 < n
  · have e1 : decide ((200 : Int) < (n : Int)) = true := by simp; omega
    obtain ⟨c0, c1, z0, z1⟩ := HR0.out.two
    go_enter Tryd.func17, Tryd.ntmps17
    go_wp2
    obtain ⟨g0, g1, g2, g3, g4⟩ := FIN.out 5 0 0 (by unfold wrongL; rw [HN.out, if_pos hmany])
    rw [g3, g4]
    exact bodyPost_ret (v := faultV 5 0) (by have h0 := g0; have h1 := g1; simp [World.drewN] at h0 h1; simp [results, Tryd.results17, go_sem, h0, h1, faultV]) rfl ⟨g2, rfl⟩
  · have e1 : decide ((200 : Int) < (n : Int)) = false := by simp; omega
    go_enter Tryd.func17, Tryd.ntmps17
    go_wp2_with fail
    go_loopw [10] (fun i wr => ∃ k q : Nat, k ≤ n ∧ i = .int .i64 (k : Int) ∧ wr = w0.drewN q ∧ Hid (wrongL l = wrongGo k (prevK l k) (l.drop k))) (fun i _ => n - (intOf i).toNat)
    case atStart => exact ⟨0, 0, by omega, rfl, rfl, hid (by unfold wrongL; rw [HN.out, if_neg hmany]; rfl)⟩
    case round =>
      obtain ⟨k, q, hk, rfl, rfl, HT⟩ := hrel
      by_cases hlt : k < n
      · obtain ⟨p, hp⟩ : ∃ p, l[k]? = some p := ⟨l[k]'(by rw [HN.out]; exact hlt), List.getElem?_eq_getElem _⟩
        obtain ⟨b, o, rfl, hcells⟩ := HB.out.some (by omega)
        obtain ⟨hbN, vk, vv, d0, d1, hvk, hvv⟩ := hcells k p hp
        obtain ⟨o1, c1, rfl, hc1⟩ := hvk.shape
        obtain ⟨o2, c2, rfl, hc2⟩ := hvv.shape
        have hfp := HFIT.out p (List.mem_of_getElem? hp)
        have HST := hid (wrong_step l k p hp)
        have hlt' : (k : Int) < (n : Int) := by omega
        obtain ⟨r0, r1, z0, z1⟩ := (HR0.out.drewN q).two
        by_cases hmuch : 60 < p.key.length ∨ 200 < p.val.length
        · have HPL := hid (show wrongL l = (4, k) by rw [HT.out, HST.out, if_pos hmuch])
          clear hcells hvk hvv
          by_cases hk60 : 60 < p.key.length
          · have e2 : decide ((60 : Int) < (p.key.length : Int)) = true := by simp; omega
            clear hmuch
            go_wp2
            obtain ⟨g0, g1, g2, g3, g4⟩ := FIN.out 4 k q HPL.out
            rw [g3, g4]
            exact bodyPost_ret (v := faultV 4 k) (by simp [results, Tryd.results17, go_sem, g0, g1, faultV]) rfl ⟨g2, rfl⟩
          · have e2 : decide ((60 : Int) < (p.key.length : Int)) = false := by simp; omega
            have e3 : decide ((200 : Int) < (p.val.length : Int)) = true := by simp; omega
            clear hmuch
            go_wp2
            obtain ⟨g0, g1, g2, g3, g4⟩ := FIN.out 4 k q HPL.out
            rw [g3, g4]
            exact bodyPost_ret (v := faultV 4 k) (by simp [results, Tryd.results17, go_sem, g0, g1, faultV]) rfl ⟨g2, rfl⟩
        · have e2 : decide ((60 : Int) < (p.key.length : Int)) = false := by simp; omega
          have e3 : decide ((200 : Int) < (p.val.length : Int)) = false := by simp; omega
          have HST2 := hid (HST.out.trans (if_neg hmuch))
          clear hmuch HST
          cases k with
          | zero =>
            have HPL := hid (show wrongL l = wrongGo 1 (prevK l 1) (l.drop 1) by rw [HT.out, HST2.out, if_neg (by simp [prevK, okPrev])])
            have d0' : w0.cell? ⟨b, o, none⟩ = some (.slice o1 p.key.length c1) := by simpa using d0
            have d1' : w0.cell? ⟨b, o + 1, none⟩ = some (.slice o2 p.val.length c2) := by simpa using d1
            clear hcells hvk hvv
            go_wp2_with fail
            go_quiet (fail)
            go_wp2
            go_roundw
            case rel => exact ⟨1, q + nq, by omega, by go_num, rfl, HPL⟩
            case measure => simp [intOf]; omega
          | succ j =>
            obtain ⟨y, hy⟩ : ∃ y, l[j]? = some y := ⟨l[j]'(by rw [HN.out]; omega), List.getElem?_eq_getElem _⟩
            obtain ⟨_, yk, yv, t0, t1, hyk, hyv⟩ := hcells j y hy
            obtain ⟨o3, c3, rfl, hc3⟩ := hyk.shape
            have hfy := HFIT.out y (List.mem_of_getElem? hy)
            have HL := hid (fun wq : Nat => show Calls Tryd.prog 32 #[.slice o3 y.key.length c3, .slice o1 p.key.length c1] (w0.drewN (q + wq)) (fun e w' => e = .returned (.bool (lessB y.key p.key)) ∧ ∃ n, w' = w0.drewN (q + n)) from
              (refLess_any y.key p.key _ _ N N (w0.drewN (q + wq)) (hyk.below (drewN_belowW _ _ _)) (hvk.below (drewN_belowW _ _ _)) (by have := hfy.1; omega) (by have := hfp.1; omega)).mono fun e w' ⟨h1, n', h2⟩ => ⟨h1, wq + n', by rw [h2, World.drewN_drewN, Nat.add_assoc]⟩)
            have HPV := hid (prev_some l j y hy)
            have hj1 : ((j + 1 : Nat) : Int) - 1 = (j : Int) := by omega
            have hj2 : IntKind.i64.wrap (((j + 1 : Nat) : Int) - 1) = (j : Int) := by rw [hj1]; simp [IntKind.wrap, IntKind.bits, IntKind.signed]; split <;> omega
            have hjn : (j : Int) < (n : Int) := by omega
            have e4 : decide ((0 : Int) < ((j + 1 : Nat) : Int)) = true := decide_eq_true (by omega)
            clear hcells hvk hvv hyk hyv hy
            cases hls : lessB y.key p.key with
            | true =>
              have HPL := hid (show wrongL l = wrongGo (j + 2) (prevK l (j + 2)) (l.drop (j + 2)) by rw [HT.out, HST2.out, HPV.out, if_neg (by simp [okPrev, hls])])
              rw [hls] at HL
              clear hls
              go_wp2_with fail
              go_quiet (first | (go_at_call 32; exact HL.out _))
              go_wp2
              go_roundw
              case rel => exact ⟨j + 2, q + nq, by omega, by go_num, rfl, HPL⟩
              case measure => simp [intOf]; omega
            | false =>
              have HPL := hid (show wrongL l = (2, j + 1) by rw [HT.out, HST2.out, HPV.out, if_pos (by simp [okPrev, hls])])
              rw [hls] at HL
              clear hls
              go_wp2_with fail
              go_quiet (first | (go_at_call 32; exact HL.out _))
              obtain ⟨r0, r1, z0, z1⟩ := (HR0.out.drewN (q + nq)).two
              go_wp2
              obtain ⟨g0, g1, g2, g3, g4⟩ := FIN.out 2 (j + 1) (q + nq) HPL.out
              rw [g3, g4]
              exact bodyPost_ret (v := faultV 2 (j + 1)) (by have h0 := g0; have h1 := g1; simp at h0 h1; simp [results, Tryd.results17, go_sem, h0, h1, faultV]) rfl ⟨g2, rfl⟩
      · have hge : decide ((k : Int) < (n : Int)) = false := by simp; omega
        have HPL := hid (show wrongL l = (0, 0) by rw [HT.out, List.drop_eq_nil_of_le (by rw [HN.out]; omega), wrongGo])
        obtain ⟨r0, r1, z0, z1⟩ := (HR0.out.drewN q).two
        go_wp2
        obtain ⟨g0, g1, g2, g3, g4⟩ := FIN.out 0 0 q HPL.out
        rw [g3, g4]
        exact bodyPost_ret (v := faultV 0 0) (by have h0 := g0; have h1 := g1; simp at h0 h1; simp [results, Tryd.results17, go_sem, h0, h1, faultV]) rfl ⟨g2, rfl⟩
end Go.Proofs.YtjfhhlgblmjonaaDoor
