/-
  What Rem64 answers, of the two moduli of seals: the rest of a number of two words. It turns no memory.
-/
import Derived.Test.YtedjmhiocmefiaaDoorSealDiv
namespace Go.Proofs.YtedjmhiocmefiaaDoor
open Go.RowKit

set_option maxHeartbeats 400000 in
theorem div_zero_p (lo : Nat) (w : World) (hlo : lo < 18446744073709551616) :
    Calls Tryd.prog 55 #[.int .u64 0, .int .u64 (lo : Int), .int .u64 (1152921504606849707 : Int)] w fun e w' =>
      ∃ q : Int, e = .returned (.tuple #[.int .u64 q, .int .u64 ((lo % 1152921504606849707 : Nat) : Int)]) ∧ ∃ n, w' = w.drewN n := by
  have hl0 : (0 : Int) ≤ (lo : Int) := by omega
  have hl1 : (lo : Int) < 18446744073709551616 := by omega
  obtain ⟨r, hr⟩ : ∃ r, lo % 1152921504606849707 = r := ⟨_, rfl⟩
  have e1 : (lo : Int).tmod 1152921504606849707 = (r : Int) := by rw [← hr, Int.tmod_eq_emod_of_nonneg hl0]; omega
  have HR := hid hr
  clear hr
  go_enter Tryd.func55, Tryd.ntmps55
  go_wp2_with fail
  refine region_still (by kernel_rfl) (by kernel_rfl) ?_
  repeat still_step
  refine wpStill_nil ?_
  go_wp2
  go_ret2
  rw [HR.out]
  exact ⟨IntKind.u64.wrap ((lo : Int) / 1152921504606849707), rfl, 1, rfl⟩

set_option maxHeartbeats 400000 in
theorem div_zero_q (lo : Nat) (w : World) (hlo : lo < 18446744073709551616) :
    Calls Tryd.prog 55 #[.int .u64 0, .int .u64 (lo : Int), .int .u64 (576460752303424853 : Int)] w fun e w' =>
      ∃ q : Int, e = .returned (.tuple #[.int .u64 q, .int .u64 ((lo % 576460752303424853 : Nat) : Int)]) ∧ ∃ n, w' = w.drewN n := by
  have hl0 : (0 : Int) ≤ (lo : Int) := by omega
  have hl1 : (lo : Int) < 18446744073709551616 := by omega
  obtain ⟨r, hr⟩ : ∃ r, lo % 576460752303424853 = r := ⟨_, rfl⟩
  have e1 : (lo : Int).tmod 576460752303424853 = (r : Int) := by rw [← hr, Int.tmod_eq_emod_of_nonneg hl0]; omega
  have HR := hid hr
  clear hr
  go_enter Tryd.func55, Tryd.ntmps55
  go_wp2_with fail
  refine region_still (by kernel_rfl) (by kernel_rfl) ?_
  repeat still_step
  refine wpStill_nil ?_
  go_wp2
  go_ret2
  rw [HR.out]
  exact ⟨IntKind.u64.wrap ((lo : Int) / 576460752303424853), rfl, 1, rfl⟩

theorem div_p (hi lo : Nat) (w : World) (hhi : hi < 1152921504606849707) (h0 : hi ≠ 0) (hlo : lo < 18446744073709551616) :
    Calls Tryd.prog 55 #[.int .u64 (hi : Int), .int .u64 (lo : Int), .int .u64 (1152921504606849707 : Int)] w fun e w' =>
      ∃ q : Int, e = .returned (.tuple #[.int .u64 q, .int .u64 (((hi * 18446744073709551616 + lo) % 1152921504606849707 : Nat) : Int)]) ∧ w' = w := by
  have h5 : ∀ n : Nat, (n : Int) / (4294967296 : Int) = ((n / 4294967296 : Nat) : Int) := fun n => by omega
  have h6 : (lo : Int) / (2305843009213693952 : Int) = ((lo / 2305843009213693952 : Nat) : Int) := by omega
  have hor : bits .or .u64 ((hi * 8 : Nat) : Int) ((lo / 2305843009213693952 : Nat) : Int) = ((hi * 8 + lo / 2305843009213693952 : Nat) : Int) := by
    rw [u64_or_nat _ _ (by omega) (by omega)]
    have := Nat.two_pow_add_eq_or_of_lt (i := 3) (show lo / 2305843009213693952 < 2 ^ 3 by omega) hi
    rw [show (2 : Nat) ^ 3 = 8 from rfl, Nat.mul_comm 8 hi] at this
    rw [this]
  have hmul : lo * 8 % 18446744073709551616 < 18446744073709551616 := Nat.mod_lt _ (by omega)
  refine (div64_3 hi lo 1152921504606849707 9223372036854797656 2147483648 21848 (hi * 8) (lo / 2305843009213693952) (hi * 8 + lo / 2305843009213693952) (lo * 8 % 18446744073709551616) (lo * 8 % 18446744073709551616 / 4294967296) (lo * 8 % 18446744073709551616 % 4294967296) w (by omega) hhi h0 (hid (fun w => lz_p w))
    (by decide +kernel) (by decide +kernel) (by decide +kernel) (w64_mul hi 8 (by omega)) h6 hor (by omega) (by omega) (by omega) (by omega) (by omega) (by decide +kernel) (by omega) (w64_mulmod lo 8) (h5 _) (w64_low _ hmul)).mono ?_
  rintro e w' ⟨q, rfl, rfl⟩
  refine ⟨q, ?_, rfl⟩
  have hr := rest_shift hi lo 1152921504606849707 8 (by omega)
  have e1 : (hi * 8 + lo / 2305843009213693952) * 18446744073709551616 + lo * 8 % 18446744073709551616 / 4294967296 * 4294967296 + lo * 8 % 18446744073709551616 % 4294967296 = hi * 8 * 18446744073709551616 + lo * 8 := by omega
  rw [e1, show 2147483648 * 4294967296 + 21848 = 1152921504606849707 * 8 from rfl, hr]
theorem rem64_p (hi lo : Nat) (w : World) (hhi : hi < 18446744073709551616) (hlo : lo < 18446744073709551616) :
    Calls Tryd.prog 48 #[.int .u64 (hi : Int), .int .u64 (lo : Int), .int .u64 (1152921504606849707 : Int)] w fun e w' =>
      e = .returned (.int .u64 (((hi * 18446744073709551616 + lo) % 1152921504606849707 : Nat) : Int)) ∧ ∃ n, w' = w.drewN n := by
  have e1 : IntKind.u64.wrap ((hi : Int) % 1152921504606849707) = ((hi % 1152921504606849707 : Nat) : Int) := by
    rw [show (hi : Int) % 1152921504606849707 = ((hi % 1152921504606849707 : Nat) : Int) by omega]; exact w64 _ (by omega)
  have e2 : (hi : Int) % 1152921504606849707 = ((hi % 1152921504606849707 : Nat) : Int) := by omega
  have hr : (hi % 1152921504606849707 * 18446744073709551616 + lo) % 1152921504606849707 = (hi * 18446744073709551616 + lo) % 1152921504606849707 := by
    rw [Nat.add_mod, Nat.mul_mod, Nat.mod_mod, ← Nat.mul_mod, ← Nat.add_mod]
  have hlt : hi % 1152921504606849707 < 1152921504606849707 := Nat.mod_lt _ (by omega)
  obtain ⟨h, hh⟩ : ∃ h, hi % 1152921504606849707 = h := ⟨_, rfl⟩
  rw [hh] at e1 e2 hr hlt
  have HR := hid hr
  clear hr hh
  by_cases h0 : h = 0
  · subst h0
    have HD := hid (fun w => div_zero_p lo w hlo)
    go_enter Tryd.func48, Tryd.ntmps48
    go_wp2_with (go_at_call 55; refine (HD.out _).mono ?_; rintro e w' ⟨q, rfl, n, rfl⟩)
    go_ret
    refine ⟨?_, n, rfl⟩
    rw [← HR.out]
    show Ending.returned (Value.int .u64 _) = _
    simp
  · have HD := hid (fun w => div_p h lo w hlt h0 hlo)
    go_enter Tryd.func48, Tryd.ntmps48
    go_wp2_with (go_at_call 55; refine (HD.out _).mono ?_; rintro e w' ⟨q, rfl, rfl⟩)
    go_ret
    refine ⟨?_, 0, rfl⟩
    rw [← HR.out]
    rfl

theorem div_q (hi lo : Nat) (w : World) (hhi : hi < 576460752303424853) (h0 : hi ≠ 0) (hlo : lo < 18446744073709551616) :
    Calls Tryd.prog 55 #[.int .u64 (hi : Int), .int .u64 (lo : Int), .int .u64 (576460752303424853 : Int)] w fun e w' =>
      ∃ q : Int, e = .returned (.tuple #[.int .u64 q, .int .u64 (((hi * 18446744073709551616 + lo) % 576460752303424853 : Nat) : Int)]) ∧ w' = w := by
  have h5 : ∀ n : Nat, (n : Int) / (4294967296 : Int) = ((n / 4294967296 : Nat) : Int) := fun n => by omega
  have h6 : (lo : Int) / (1152921504606846976 : Int) = ((lo / 1152921504606846976 : Nat) : Int) := by omega
  have hor : bits .or .u64 ((hi * 16 : Nat) : Int) ((lo / 1152921504606846976 : Nat) : Int) = ((hi * 16 + lo / 1152921504606846976 : Nat) : Int) := by
    rw [u64_or_nat _ _ (by omega) (by omega)]
    have := Nat.two_pow_add_eq_or_of_lt (i := 4) (show lo / 1152921504606846976 < 2 ^ 4 by omega) hi
    rw [show (2 : Nat) ^ 4 = 16 from rfl, Nat.mul_comm 16 hi] at this
    rw [this]
  have hmul : lo * 16 % 18446744073709551616 < 18446744073709551616 := Nat.mod_lt _ (by omega)
  refine (div64_4 hi lo 576460752303424853 9223372036854797648 2147483648 21840 (hi * 16) (lo / 1152921504606846976) (hi * 16 + lo / 1152921504606846976) (lo * 16 % 18446744073709551616) (lo * 16 % 18446744073709551616 / 4294967296) (lo * 16 % 18446744073709551616 % 4294967296) w (by omega) hhi h0 (hid (fun w => lz_q w))
    (by decide +kernel) (by decide +kernel) (by decide +kernel) (w64_mul hi 16 (by omega)) h6 hor (by omega) (by omega) (by omega) (by omega) (by omega) (by decide +kernel) (by omega) (w64_mulmod lo 16) (h5 _) (w64_low _ hmul)).mono ?_
  rintro e w' ⟨q, rfl, rfl⟩
  refine ⟨q, ?_, rfl⟩
  have hr := rest_shift hi lo 576460752303424853 16 (by omega)
  have e1 : (hi * 16 + lo / 1152921504606846976) * 18446744073709551616 + lo * 16 % 18446744073709551616 / 4294967296 * 4294967296 + lo * 16 % 18446744073709551616 % 4294967296 = hi * 16 * 18446744073709551616 + lo * 16 := by omega
  rw [e1, show 2147483648 * 4294967296 + 21840 = 576460752303424853 * 16 from rfl, hr]
theorem rem64_q (hi lo : Nat) (w : World) (hhi : hi < 18446744073709551616) (hlo : lo < 18446744073709551616) :
    Calls Tryd.prog 48 #[.int .u64 (hi : Int), .int .u64 (lo : Int), .int .u64 (576460752303424853 : Int)] w fun e w' =>
      e = .returned (.int .u64 (((hi * 18446744073709551616 + lo) % 576460752303424853 : Nat) : Int)) ∧ ∃ n, w' = w.drewN n := by
  have e1 : IntKind.u64.wrap ((hi : Int) % 576460752303424853) = ((hi % 576460752303424853 : Nat) : Int) := by
    rw [show (hi : Int) % 576460752303424853 = ((hi % 576460752303424853 : Nat) : Int) by omega]; exact w64 _ (by omega)
  have e2 : (hi : Int) % 576460752303424853 = ((hi % 576460752303424853 : Nat) : Int) := by omega
  have hr : (hi % 576460752303424853 * 18446744073709551616 + lo) % 576460752303424853 = (hi * 18446744073709551616 + lo) % 576460752303424853 := by
    rw [Nat.add_mod, Nat.mul_mod, Nat.mod_mod, ← Nat.mul_mod, ← Nat.add_mod]
  have hlt : hi % 576460752303424853 < 576460752303424853 := Nat.mod_lt _ (by omega)
  obtain ⟨h, hh⟩ : ∃ h, hi % 576460752303424853 = h := ⟨_, rfl⟩
  rw [hh] at e1 e2 hr hlt
  have HR := hid hr
  clear hr hh
  by_cases h0 : h = 0
  · subst h0
    have HD := hid (fun w => div_zero_q lo w hlo)
    go_enter Tryd.func48, Tryd.ntmps48
    go_wp2_with (go_at_call 55; refine (HD.out _).mono ?_; rintro e w' ⟨q, rfl, n, rfl⟩)
    go_ret
    refine ⟨?_, n, rfl⟩
    rw [← HR.out]
    show Ending.returned (Value.int .u64 _) = _
    simp
  · have HD := hid (fun w => div_q h lo w hlt h0 hlo)
    go_enter Tryd.func48, Tryd.ntmps48
    go_wp2_with (go_at_call 55; refine (HD.out _).mono ?_; rintro e w' ⟨q, rfl, rfl⟩)
    go_ret
    refine ⟨?_, 0, rfl⟩
    rw [← HR.out]
    rfl
end Go.Proofs.YtedjmhiocmefiaaDoor
