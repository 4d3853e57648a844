/-
  What the document's Same answers of two slices of bytes: whether they read alike; it only reads.
-/
import Derived.Test.YtfpngilmdgeikaaDoorMemB
namespace Go.Proofs.YtfpngilmdgeikaaDoor
open Go.RowKit

theorem take_succ_eq (l m : List (BitVec 8)) (k : Nat) (hl : k < l.length) (hm : k < m.length) (h : l.take k = m.take k) (hx : l.getD k 0 = m.getD k 0) : l.take (k + 1) = m.take (k + 1) := by
  rw [List.take_succ_eq_append_getElem hl, List.take_succ_eq_append_getElem hm, h]
  simp [hl, hm] at hx
  rw [hx]
set_option maxRecDepth 100000 in
set_option maxHeartbeats 1000000 in
theorem sameB_any (l m : List (BitVec 8)) (sa sb : Value) (Na Nb : Nat) (w : World) (ha : Bytes w Na sa l) (hb : Bytes w Nb sb m) (hlen : l.length < 2305843009213693952) (hlem : m.length < 2305843009213693952) :
    Calls Tryd.prog 22 #[sa, sb] w fun e w' => e = .returned (.bool (decide (l = m))) ∧ ∃ n, w' = w.drewN n := by
  obtain ⟨oa, ca, rfl, hca⟩ := ha.shape
  obtain ⟨ob, cb, rfl, hcb⟩ := hb.shape
  by_cases hne : l.length = m.length
  · have HA := hid ha
    have HB := hid hb
    clear ha hb
    rw [← hne] at HB hcb hlem ⊢
    have HE := hid hne
    clear hne
    generalize hn : l.length = n at *
    have HN := hid hn
    clear hn
    have hnn : ((n : Int) != (n : Int)) = false := by simp
    go_enter Tryd.func22, Tryd.ntmps22
    go_wp2_with fail
    go_loopw [13] (fun i wr => ∃ k q : Nat, k ≤ n ∧ i = .int .i64 k ∧ wr = w.drewN q ∧ Hid (l.take k = m.take k)) (fun i _ => n - (intOf i).toNat)
    case atStart => exact ⟨0, 0, by omega, rfl, rfl, rfl⟩
    case round =>
      obtain ⟨k, q, hk, rfl, rfl, HT⟩ := hrel
      by_cases hlt : k < n
      · have h1 : Bytes w Na (.slice oa l.length ca) l := by rw [HN.out]; exact HA.out
        have h2 : Bytes w Nb (.slice ob m.length cb) m := by rw [← HE.out]; exact HB.out
        obtain ⟨b1, o1, rfl, c1⟩ := h1.some (by rw [HN.out]; omega)
        obtain ⟨b2, o2, rfl, c2⟩ := h2.some (by rw [← HE.out]; omega)
        have d1 := (c1 k (by rw [HN.out]; exact hlt)).2
        have d2 := (c2 k (by rw [← HE.out]; exact hlt)).2
        obtain ⟨x, hx⟩ : ∃ x, l.getD k 0 = x := ⟨_, rfl⟩
        obtain ⟨y, hy⟩ : ∃ y, m.getD k 0 = y := ⟨_, rfl⟩
        rw [hx] at d1
        rw [hy] at d2
        have HX := hid hx
        have HY := hid hy
        clear h1 h2 c1 c2 hx hy
        have hlt' : (k : Int) < (n : Int) := by omega
        by_cases hxy : x = y
        · subst hxy
          have hnx : (b8 x != b8 x) = false := by simp
          go_wp2_with fail
          refine region_still (by kernel_rfl) (by kernel_rfl) ?_
          repeat still_step
          refine wpStill_nil ?_
          go_wp2
          go_roundw
          case rel => exact ⟨k + 1, q + 1, by omega, by go_num, rfl, take_succ_eq l m k (by rw [HN.out]; exact hlt) (by rw [← HE.out]; exact hlt) HT.out (HX.out.trans HY.out.symm)⟩
          case measure => simp [intOf]; omega
        · have hnx : (b8 x != b8 y) = true := by
            simp only [bne_iff_ne, ne_eq]
            intro h
            exact hxy (b8_inj h)
          have HNE := hid (show decide (l = m) = false by
            apply decide_eq_false
            rintro rfl
            exact hxy (HX.out.symm.trans HY.out))
          clear hxy
          go_wp2_with fail
          refine region_still (by kernel_rfl) (by kernel_rfl) ?_
          repeat still_step
          refine wpStill_nil ?_
          go_wp2
          go_ret
          exact ⟨by rw [HNE.out]; rfl, q + 1, rfl⟩
      · have HEQ := hid (show decide (l = m) = true by
          apply decide_eq_true
          have := HT.out
          rwa [List.take_of_length_le (by rw [HN.out]; omega), List.take_of_length_le (by rw [← HE.out]; omega)] at this)
        go_wp2
        go_ret
        exact ⟨by rw [HEQ.out]; rfl, q, rfl⟩
  · have hnn : ((l.length : Int) != (m.length : Int)) = true := by simp; omega
    have HNE := hid (show decide (l = m) = false by apply decide_eq_false; rintro rfl; exact hne rfl)
    clear ha hb
    go_enter Tryd.func22, Tryd.ntmps22
    go_wp2
    go_ret
    exact ⟨by rw [HNE.out]; rfl, 0, rfl⟩
end Go.Proofs.YtfpngilmdgeikaaDoor
