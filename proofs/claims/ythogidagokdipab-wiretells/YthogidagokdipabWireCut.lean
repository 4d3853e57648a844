/-
  What cutNumber answers: the number that bytes begin with, and what is behind; it only reads.
-/
import Derived.Test.YthogidagokdipabWireMath
import Derived.Test.YthogidagokdipabBytesCut
import Derived.OwnWalk
namespace Go.Proofs.Ythogidagokdipab
open Go.RowKit

theorem drop_cons (l : List (BitVec 8)) (k : Nat) (h : k < l.length) : l.drop k = l.getD k 0 :: l.drop (k + 1) := by
  rw [List.drop_eq_getElem_cons h]; simp [h]
theorem wrap64 (n : Nat) (h : n < 18446744073709551616) : IntKind.u64.wrap (n : Int) = (n : Int) := by
  simp [IntKind.wrap, IntKind.bits, IntKind.signed]; omega
theorem or_shift (m k : Nat) (x : BitVec 8) (hk : k ≤ 9) (hm : m < 128 ^ k) (h9 : k = 9 → x.toNat ≤ 1) :
    bits .or .u64 (m : Int) (IntKind.u64.wrap (IntKind.u64.wrap (bits .and .u8 (b8 x) 127) * 2 ^ (7 * k))) = ((m + x.toNat % 128 * 128 ^ k : Nat) : Int) ∧ m + x.toNat % 128 * 128 ^ k < 18446744073709551616 := by
  have hx := x.isLt
  have h1 : bits .and .u8 (b8 x) 127 = ((x.toNat % 128 : Nat) : Int) := by
    unfold b8
    rw [show (127 : Int) = ((127 : Nat) : Int) from rfl, u8_and_nat _ _ hx (by omega), nat_mask7]
  have hp : (128 : Nat) ^ k = 2 ^ (7 * k) := by rw [show (128 : Nat) = 2 ^ 7 from rfl, ← Nat.pow_mul]
  have hlt : x.toNat % 128 * 128 ^ k + 128 ^ k ≤ 18446744073709551616 := by
    rw [← Nat.succ_mul]
    by_cases h : k = 9
    · have := h9 h
      subst h
      have h2 : (x.toNat % 128).succ ≤ 2 := by omega
      exact Nat.le_trans (Nat.mul_le_mul_right _ h2) (by decide)
    · have h8 : 128 ^ k ≤ 128 ^ 8 := Nat.pow_le_pow_right (by omega) (by omega)
      exact Nat.le_trans (Nat.mul_le_mul (show (x.toNat % 128).succ ≤ 128 by omega) h8) (by decide)
  have h2 : IntKind.u64.wrap ((x.toNat % 128 : Nat) : Int) = ((x.toNat % 128 : Nat) : Int) := wrap64 _ (by omega)
  have hpos : 0 < 128 ^ k := Nat.pow_pos (by omega)
  have h3 : IntKind.u64.wrap (((x.toNat % 128 : Nat) : Int) * 2 ^ (7 * k)) = ((x.toNat % 128 * 128 ^ k : Nat) : Int) := by
    rw [show ((x.toNat % 128 : Nat) : Int) * 2 ^ (7 * k) = ((x.toNat % 128 * 128 ^ k : Nat) : Int) by rw [hp]; simp]
    exact wrap64 _ (by omega)
  refine ⟨?_, by omega⟩
  rw [h1, h2, h3, u64_or_nat _ _ (by omega) (by omega)]
  have h4 := Nat.two_pow_add_eq_or_of_lt (i := 7 * k) (show m < 2 ^ (7 * k) by rw [← hp]; exact hm) (x.toNat % 128)
  rw [Nat.or_comm, Nat.mul_comm (x.toNat % 128), hp, ← h4, Nat.add_comm]

set_option maxRecDepth 100000 in
set_option maxHeartbeats 2000000 in
theorem cutNumber_any (l : List (BitVec 8)) (sv : Value) (N : Nat) (w : World) (hb : Bytes w N sv l) (hlen : l.length < 2305843009213693952) :
    Calls Try.prog 16 #[sv] w fun e w' => (∃ q, w' = w.drewN q) ∧
      ((cutN l = none ∧ e = .returned (.tuple #[.int .u64 0, .slice none 0 0, .bool false])) ∨
       ∃ (m : Nat) (r : List (BitVec 8)) (v : Value), cutN l = some (m, r) ∧ e = .returned (.tuple #[.int .u64 (m : Int), v, .bool true]) ∧ Bytes w N v r) := by
  obtain ⟨oa, ca, rfl, hca⟩ := hb.shape
  have HB := hid hb
  clear hb
  generalize hn : l.length = n at *
  have HN := hid hn
  clear hn
  go_enter Try.func16, Try.ntmps16
  go_wp2_with fail
  go_loopw [5, 10] (fun y i wr => ∃ k m : Nat, k ≤ n ∧ k ≤ 9 ∧ m < 128 ^ k ∧ y = .int .u64 (m : Int) ∧ i = .int .i64 (k : Int) ∧ wr = w ∧ Hid (cutN l = cutA k m (l.drop k))) (fun _ i _ => n - (intOf i).toNat)
  case atStart => exact ⟨0, 0, by omega, by omega, by simp, rfl, rfl, rfl, rfl⟩
  case round =>
    obtain ⟨k, m, hk, hk9, hm, rfl, rfl, rfl, HC⟩ := hrel
    by_cases hlt : k < n
    · have h1 : Bytes wr N (.slice oa l.length ca) l := by rw [HN.out]; exact HB.out
      obtain ⟨b, o, rfl, c1⟩ := h1.some (by rw [HN.out]; omega)
      have d1 := (c1 k (by rw [HN.out]; exact hlt)).2
      obtain ⟨x, hx⟩ : ∃ x, l.getD k 0 = x := ⟨_, rfl⟩
      rw [hx] at d1
      have HD := hid (show l.drop k = x :: l.drop (k + 1) by rw [← hx]; exact drop_cons l k (by rw [HN.out]; exact hlt))
      obtain ⟨vt, hsl, hvt⟩ := slice_from HB.out .i64 (k + 1) (by omega)
      have HT := hid hvt
      rw [show ((k + 1 : Nat) : Int) = (k : Int) + 1 by omega] at hsl
      clear hvt
      clear h1 c1 hx
      have hlt' : (k : Int) < (n : Int) := by omega
      have hx8 := x.isLt
      have HM := hid hm
      clear hm
      by_cases h9 : k = 9 ∧ 1 < x.toNat
      · obtain ⟨rfl, hx1⟩ := h9
        have e2 : decide ((1 : Int) < b8 x) = true := by unfold b8; simp; omega
        go_wp2_with fail
        go_ret3
        exact ⟨⟨0, rfl⟩, .inl ⟨by rw [HC.out, HD.out, cutA, if_pos ⟨rfl, hx1⟩], rfl⟩⟩
      · obtain ⟨hor0, hm64⟩ := or_shift m k x hk9 HM.out (fun h => by omega)
        obtain ⟨m', hm'⟩ : ∃ m', m + x.toNat % 128 * 128 ^ k = m' := ⟨_, rfl⟩
        rw [hm'] at hor0 hm64
        have HC' := hid (show cutN l = if 128 ≤ x.toNat then cutA (k + 1) m' (l.drop (k + 1)) else if x.toNat = 0 ∧ 0 < k then none else some (m', l.drop (k + 1)) by
          rw [HC.out, HD.out, cutA, if_neg h9, hm'])
        have HM' := hid hm'
        clear hm' HC
        by_cases h7 : 128 ≤ x.toNat
        · have e1 : ((k : Int) == 9) = false := by simp; omega
          have e2 : decide ((128 : Int) ≤ b8 x) = true := by unfold b8; simp; omega
          go_wp2_with fail
          refine ⟨⟨k + 1, m', by omega, by omega, ?_, rfl, by go_num, trivial, ?_⟩, by simp [intOf]; omega⟩
          · have := HM.out
            rw [← HM'.out, Nat.pow_succ]
            have : x.toNat % 128 * 128 ^ k + 128 ^ k ≤ 128 * 128 ^ k := by rw [← Nat.succ_mul]; exact Nat.mul_le_mul_right _ (by omega)
            omega
          · rw [HC'.out, if_pos h7]; exact hid rfl
        · have e2 : decide ((128 : Int) ≤ b8 x) = false := by unfold b8; simp; omega
          by_cases h0 : x.toNat = 0 ∧ 0 < k
          · have e3 : (b8 x == 0) = true := by unfold b8; simp; omega
            have e4 : decide ((0 : Int) < (k : Int)) = true := by simp; omega
            have e5 : decide ((1 : Int) < b8 x) = false := by unfold b8; simp; omega
            go_wp2_with fail
            all_goals go_ret3
            all_goals exact ⟨⟨0, rfl⟩, .inl ⟨by rw [HC'.out, if_neg h7, if_pos h0], rfl⟩⟩
          · have e4 : (b8 x == 0 && decide ((0 : Int) < (k : Int))) = false := by unfold b8; simp; omega
            have hres := hid (show cutN l = some (m', l.drop (k + 1)) by rw [HC'.out, if_neg h7, if_neg h0])
            have hk1 : (k : Int) + 1 ≤ (n : Int) := by omega
            have hkw : IntKind.i64.wrap ((k : Int) + 1) = (k : Int) + 1 := by simp [IntKind.wrap, IntKind.bits, IntKind.signed]; split <;> omega
            by_cases hx0 : x.toNat = 0
            · have e3 : (b8 x == 0) = true := by unfold b8; simp; omega
              have e1 : ((k : Int) == 9) = false := by simp; omega
              have e5 : decide ((0 : Int) < (k : Int)) = false := by simp; omega
              go_wp2_with fail
              refine region_still (by kernel_rfl) (by kernel_rfl) ?_
              repeat still_step
              refine wpStill_nil ?_
              go_wp2
              go_ret3
              exact ⟨⟨1, rfl⟩, .inr ⟨m', _, _, hres.out, rfl, HT.out⟩⟩
            · have e3 : (b8 x == 0) = false := by unfold b8; simp; omega
              by_cases hk9' : k = 9
              · have e5 : decide ((1 : Int) < b8 x) = false := by unfold b8; simp; omega
                have e1 : ((k : Int) == 9) = true := by simp; omega
                clear hk9'
                go_wp2_with fail
                refine region_still (by kernel_rfl) (by kernel_rfl) ?_
                repeat still_step
                refine wpStill_nil ?_
                go_wp2
                go_ret3
                exact ⟨⟨1, rfl⟩, .inr ⟨m', _, _, hres.out, rfl, HT.out⟩⟩
              · have e1 : ((k : Int) == 9) = false := by simp; omega
                go_wp2_with fail
                refine region_still (by kernel_rfl) (by kernel_rfl) ?_
                repeat still_step
                refine wpStill_nil ?_
                go_wp2
                go_ret3
                exact ⟨⟨1, rfl⟩, .inr ⟨m', _, _, hres.out, rfl, HT.out⟩⟩
    · have hge : decide ((k : Int) < (n : Int)) = false := by simp; omega
      go_wp2_with fail
      go_ret3
      exact ⟨⟨0, rfl⟩, .inl ⟨by rw [HC.out, List.drop_eq_nil_of_le (by rw [HN.out]; omega), cutA], rfl⟩⟩
end Go.Proofs.Ythogidagokdipab
