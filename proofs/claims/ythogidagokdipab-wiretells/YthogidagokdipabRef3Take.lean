/-
  What the document's Take answers: the number that bytes begin with, and how many bytes it has; it only reads.
-/
import Derived.Test.YthogidagokdipabWireMath
import Derived.Test.YthogidagokdipabBytesMem
namespace Go.Proofs.Ythogidagokdipab
open Go.RowKit

theorem drop_consT (l : List (BitVec 8)) (k : Nat) (h : k < l.length) : l.drop k = l.getD k 0 :: l.drop (k + 1) := by
  rw [List.drop_eq_getElem_cons h]; simp [h]
theorem wrap64T (n : Nat) (h : n < 18446744073709551616) : IntKind.u64.wrap (n : Int) = (n : Int) := by
  simp [IntKind.wrap, IntKind.bits, IntKind.signed]; omega
theorem low_lt (m k : Nat) (x : BitVec 8) (hk : k ≤ 9) (hm : m < 128 ^ k) (h9 : k = 9 → x.toNat ≤ 1) : m + x.toNat % 128 * 128 ^ k < 18446744073709551616 := by
  have hlt : x.toNat % 128 * 128 ^ k + 128 ^ k ≤ 18446744073709551616 := by
    rw [← Nat.succ_mul]
    by_cases h : k = 9
    · have := h9 h
      subst h
      have h2 : (x.toNat % 128).succ ≤ 2 := by omega
      exact Nat.le_trans (Nat.mul_le_mul_right _ h2) (by decide)
    · have h8 : 128 ^ k ≤ 128 ^ 8 := Nat.pow_le_pow_right (by omega) (by omega)
      exact Nat.le_trans (Nat.mul_le_mul (show (x.toNat % 128).succ ≤ 128 by omega) h8) (by decide)
  omega
set_option maxRecDepth 100000 in
set_option maxHeartbeats 2000000 in
theorem refTake_any (l : List (BitVec 8)) (sv : Value) (N : Nat) (w : World) (hb : Bytes w N sv l) (hlen : l.length < 2305843009213693952) :
    Calls Try.prog 18 #[sv] w fun e w' => w' = w ∧
      ((cutN l = none ∧ e = .returned (.tuple #[.int .u64 0, .int .i64 0])) ∨
       ∃ (m k : Nat), cutN l = some (m, l.drop k) ∧ 0 < k ∧ k ≤ l.length ∧ e = .returned (.tuple #[.int .u64 (m : Int), .int .i64 (k : Int)])) := by
  obtain ⟨oa, ca, rfl, hca⟩ := hb.shape
  have HB := hid hb
  clear hb
  generalize hn : l.length = n at *
  have HN := hid hn
  clear hn
  go_enter Try.func18, Try.ntmps18
  go_wp2_with fail
  go_loopw [4, 5, 6] (fun y u i wr => ∃ k m : Nat, k ≤ n ∧ k ≤ 9 ∧ m < 128 ^ k ∧ y = .int .u64 (m : Int) ∧ u = .int .u64 ((128 ^ k : Nat) : Int) ∧ i = .int .i64 (k : Int) ∧ wr = w ∧ Hid (cutN l = cutA k m (l.drop k))) (fun _ _ i _ => n - (intOf i).toNat)
  case atStart => exact ⟨0, 0, by omega, by omega, by simp, rfl, rfl, rfl, rfl, rfl⟩
  case round =>
    obtain ⟨k, m, hk, hk9, hm, rfl, rfl, rfl, rfl, HC⟩ := hrel
    have hk10 : decide ((k : Int) < 10) = true := by simp; omega
    by_cases hlt : k < n
    · have h1 : Bytes wr N (.slice oa l.length ca) l := by rw [HN.out]; exact HB.out
      obtain ⟨b, o, rfl, c1⟩ := h1.some (by rw [HN.out]; omega)
      have d1 := (c1 k (by rw [HN.out]; exact hlt)).2
      obtain ⟨x, hx⟩ : ∃ x, l.getD k 0 = x := ⟨_, rfl⟩
      rw [hx] at d1
      have HD := hid (show l.drop k = x :: l.drop (k + 1) by rw [← hx]; exact drop_consT l k (by rw [HN.out]; exact hlt))
      clear h1 c1 hx
      have hlt' : decide ((k : Int) < (n : Int)) = true := by simp; omega
      have hlt2 : (k : Int) < (n : Int) := by omega
      have hx8 := x.isLt
      have HM := hid hm
      clear hm
      by_cases h9 : k = 9 ∧ 1 < x.toNat
      · obtain ⟨rfl, hx1⟩ := h9
        have e2 : decide ((1 : Int) < b8 x) = true := by unfold b8; simp; omega
        go_wp2_with fail
        go_ret2
        exact ⟨rfl, .inl ⟨by rw [HC.out, HD.out, cutA, if_pos ⟨rfl, hx1⟩], rfl⟩⟩
      · have HC' := hid (show cutN l = if 128 ≤ x.toNat then cutA (k + 1) (m + x.toNat % 128 * 128 ^ k) (l.drop (k + 1)) else if x.toNat = 0 ∧ 0 < k then none else some (m + x.toNat % 128 * 128 ^ k, l.drop (k + 1)) by
          rw [HC.out, HD.out, cutA, if_neg h9])
        obtain ⟨u, hu⟩ : ∃ u, 128 ^ k = u := ⟨_, rfl⟩
        have hm64 := low_lt m k x hk9 HM.out (fun h => by omega)
        rw [hu] at HC' hm64 ⊢
        have HU := hid hu
        clear hu HC
        by_cases h0 : x.toNat = 0 ∧ 0 < k
        · have e3 : (b8 x == 0) = true := by unfold b8; simp; omega
          have e5 : decide ((1 : Int) < b8 x) = false := by unfold b8; simp; omega
          have HR := hid (show cutN l = none by rw [HC'.out, if_neg (by omega), if_pos h0])
          by_cases hk' : k = 9
          · subst hk'
            go_wp2_with fail
            go_ret2
            exact ⟨rfl, .inl ⟨HR.out, rfl⟩⟩
          · have e1 : ((k : Int) == 9) = false := by simp; omega
            have e4 : decide ((0 : Int) < (k : Int)) = true := by simp; omega
            have e4' : 0 < k := h0.2
            clear h0 h9 hk'
            go_wp2_with fail
            go_ret2
            exact ⟨rfl, .inl ⟨HR.out, rfl⟩⟩
        · obtain ⟨m', hm'⟩ : ∃ m', m + x.toNat % 128 * u = m' := ⟨_, rfl⟩
          have hval : IntKind.u64.wrap ((m : Int) + IntKind.u64.wrap (IntKind.u64.wrap ((b8 x).tmod 128) * (u : Int))) = (m' : Int) := by
            have t1 : (b8 x).tmod 128 = ((x.toNat % 128 : Nat) : Int) := by unfold b8; rw [Int.tmod_eq_emod_of_nonneg (by omega)]; omega
            obtain ⟨y, hy⟩ : ∃ y, x.toNat % 128 * u = y := ⟨_, rfl⟩
            rw [hy] at hm' hm64
            rw [t1, wrap64T _ (by omega), ← Int.natCast_mul, hy, wrap64T _ (by omega), ← Int.natCast_add, wrap64T _ (by omega), hm']
          rw [hm'] at HC' hm64
          have HM' := hid hm'
          clear hm'
          by_cases h7 : 128 ≤ x.toNat
          · have e1 : ((k : Int) == 9) = false := by simp; omega
            have e2 : decide (b8 x < (128 : Int)) = false := by unfold b8; simp; omega
            have e3 : (b8 x == 0) = false := by unfold b8; simp; omega
            have hu8 : u * 128 < 18446744073709551616 := by
              rw [← HU.out]
              have h8 : 128 ^ k ≤ 128 ^ 8 := Nat.pow_le_pow_right (by omega) (by omega)
              have := Nat.mul_le_mul_right 128 h8
              simp at this; omega
            have huv : IntKind.u64.wrap ((u : Int) * 128) = ((u * 128 : Nat) : Int) := by rw [show (u : Int) * 128 = ((u * 128 : Nat) : Int) by omega, wrap64T _ hu8]
            obtain ⟨u2, hu2⟩ : ∃ u2, u * 128 = u2 := ⟨_, rfl⟩
            rw [hu2] at huv
            have HU2 := hid hu2
            clear hu2
            have HREL := hid (show m' < 128 ^ (k + 1) ∧ u2 = 128 ^ (k + 1) by
              rw [Nat.pow_succ, HU.out, ← HU2.out, ← HM'.out]
              have h1 := HM.out
              rw [HU.out] at h1
              have : x.toNat % 128 * u + u ≤ 128 * u := by rw [← Nat.succ_mul]; exact Nat.mul_le_mul_right _ (by omega)
              exact ⟨by omega, rfl⟩)
            have HC2 := hid (show cutN l = cutA (k + 1) m' (l.drop (k + 1)) by rw [HC'.out, if_pos h7])
            go_wp2_with fail
            all_goals exact ⟨⟨k + 1, m', by omega, by omega, HREL.out.1, rfl, by rw [HREL.out.2], by go_num, trivial, HC2⟩, by simp [intOf]; omega⟩
          · have e2 : decide (b8 x < (128 : Int)) = true := by unfold b8; simp; omega
            have HC2 := hid (show cutN l = some (m', l.drop (k + 1)) by rw [HC'.out, if_neg h7, if_neg h0])
            by_cases hk' : k = 9
            · subst hk'
              have e5 : decide ((1 : Int) < b8 x) = false := by unfold b8; simp; omega
              have e3 : (b8 x == 0) = false := by unfold b8; simp; omega
              go_wp2_with fail
              go_ret2
              exact ⟨rfl, .inr ⟨m', 10, HC2.out, by omega, by omega, rfl⟩⟩
            · have e1 : ((k : Int) == 9) = false := by simp; omega
              have e4 : (decide ((0 : Int) < (k : Int)) && (b8 x == 0)) = false := by unfold b8; simp; omega
              by_cases hk0 : k = 0
              · subst hk0
                have d1' : wr.cell? ⟨b, o, none⟩ = some (.int .u8 (b8 x)) := by simpa using d1
                go_wp2_with fail
                go_ret2
                exact ⟨rfl, .inr ⟨m', 1, HC2.out, by omega, by omega, rfl⟩⟩
              · have e6 : decide ((0 : Int) < (k : Int)) = true := by simp; omega
                have e3 : (b8 x == 0) = false := by unfold b8; simp; omega
                have e6' : 0 < k := by omega
                clear hk0 hk'
                go_wp2_with fail
                go_ret2
                exact ⟨rfl, .inr ⟨m', k + 1, HC2.out, by omega, by omega, by go_num⟩⟩
    · have hge : decide ((k : Int) < (n : Int)) = false := by simp; omega
      go_wp2_with fail
      go_ret2
      exact ⟨rfl, .inl ⟨by rw [HC.out, List.drop_eq_nil_of_le (by rw [HN.out]; omega), cutA], rfl⟩⟩
end Go.Proofs.Ythogidagokdipab
