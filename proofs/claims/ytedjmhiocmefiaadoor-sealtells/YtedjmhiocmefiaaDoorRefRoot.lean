/-
  What Root answers: the bits of a root, one by one; what Primes answers: the first 64 primes.
-/
import Derived.Test.YtedjmhiocmefiaaDoorRefAbove
namespace Go.Proofs.YtedjmhiocmefiaaDoor
open Go.RowKit

/-- the bits that j steps have found, from bit 40 down -/
def rootTo (p : Nat) (two : Bool) : Nat → Nat
  | 0 => 0
  | j + 1 => if aboveN (rootTo p two j ||| 2 ^ (40 - j)) p two then rootTo p two j else rootTo p two j ||| 2 ^ (40 - j)
theorem rootTo_lt (p : Nat) (two : Bool) : ∀ j, rootTo p two j < 2 ^ 41
  | 0 => by simp [rootTo]
  | j + 1 => by
    unfold rootTo
    split
    · exact rootTo_lt p two j
    · exact Nat.or_lt_two_pow (rootTo_lt p two j) (Nat.pow_lt_pow_right (by omega) (by omega))
def rootWord (p : Nat) (two : Bool) : BitVec 32 := BitVec.ofNat 32 (rootTo p two 41)

set_option maxHeartbeats 1000000 in
theorem root_any (p : Nat) (two : Bool) (hp : p < 4294967296) (w : World) :
    Calls Tryd.prog 26 #[.int .u64 (p : Int), .bool two] w fun e w' => e = .returned (.int .u32 (u (rootWord p two))) ∧ w' = w := by
  have HP := hid hp
  clear hp
  go_enter Tryd.func26, Tryd.ntmps26
  go_wp2_with fail
  go_loopw [5, 6] (fun v i wr => ∃ j x : Nat, j ≤ 41 ∧ i = .int .i64 ((40 : Int) - (j : Int)) ∧ v = .int .u64 (x : Int) ∧ Hid (x = rootTo p two j) ∧ w = wr) (fun _ i _ => (intOf i + 1).toNat)
  case atStart => exact ⟨0, 0, by omega, by go_num, rfl, rfl, rfl⟩
  case round =>
    obtain ⟨j, x, hj, rfl, rfl, HX, rfl⟩ := hrel
    by_cases hlt : j < 41
    · have hxl : x < 2199023255552 := by rw [HX.out]; exact rootTo_lt p two j
      have e1 : ((40 : Int) - (j : Int)).toNat = 40 - j := by omega
      have h0 : (0 : Int) ≤ (40 : Int) - (j : Int) := by omega
      have h0' : (j : Int) ≤ 40 := by omega
      obtain ⟨y, hy⟩ : ∃ y, x ||| 2 ^ (40 - j) = y := ⟨_, rfl⟩
      have hyl : y < 2199023255552 := by rw [← hy]; exact Nat.or_lt_two_pow (n := 41) hxl (Nat.pow_lt_pow_right (by omega) (by omega))
      have HY := hid hy
      have HYL := hid hyl
      have hor : bits .or .u64 (x : Int) (IntKind.u64.wrap ((2 : Int) ^ (40 - j))) = (y : Int) := by
        have hpw : (2 : Nat) ^ (40 - j) < 18446744073709551616 := Nat.lt_of_lt_of_le (Nat.pow_lt_pow_right (by omega) (show 40 - j < 41 by omega)) (by decide)
        have e : ((2 : Int) ^ (40 - j)) = (((2 : Nat) ^ (40 - j) : Nat) : Int) := by simp
        rw [e, w64 _ hpw, u64_or_nat _ _ (by omega) hpw, HY.out]
      have hstep := hid (show rootTo p two (j + 1) = if aboveN y p two then x else y by rw [← HY.out, HX.out]; rfl)
      obtain ⟨b, hb⟩ : ∃ b, aboveN y p two = b := ⟨_, rfl⟩
      have habove := above_any y p two hyl HP.out
      rw [hb] at habove
      have HA := hid habove
      have HBB := hid hb
      clear hy hyl habove hb hxl
      cases b
      · go_wp2_with (go_at_call 45; refine (HA.out _).mono ?_; rintro e w' ⟨rfl, rfl⟩)
        go_roundw
        case rel => exact ⟨j + 1, y, by omega, by congr 1; omega, rfl, (by show _ = _; rw [hstep.out, HBB.out]; rfl), by trivial⟩
        case measure => simp [intOf]; omega
      · go_wp2_with (go_at_call 45; refine (HA.out _).mono ?_; rintro e w' ⟨rfl, rfl⟩)
        go_roundw
        case rel => exact ⟨j + 1, x, by omega, by congr 1; omega, rfl, (by show _ = _; rw [hstep.out, HBB.out]; rfl), by trivial⟩
        case measure => simp [intOf]; omega
    · obtain rfl : j = 41 := by omega
      have hw : IntKind.u32.wrap (x : Int) = u (rootWord p two) := by
        rw [wrap_nat32]; unfold u rootWord; rw [← HX.out]; simp
      go_wp2
      go_ret
      exact ⟨rfl, rfl⟩
end Go.Proofs.YtedjmhiocmefiaaDoor
