/-
  Numbers of 64 bits, and what Mul64 answers: a product's two words.
-/
import Derived.Test.YtfpngilmdgeikaaDoorProg
import Derived.Test.YtfpngilmdgeikaaDoorMemB
import Derived.WalkLawsBesides
import Derived.WalkSpells
import Derived.Lib.Mul64
namespace Go.Proofs.YtfpngilmdgeikaaDoor
open Go.RowKit

/-- numbers of 64 bits -/
theorem w64 (n : Nat) (h : n < 18446744073709551616) : IntKind.u64.wrap (n : Int) = (n : Int) := by
  simp [IntKind.wrap, IntKind.bits, IntKind.signed]; omega
theorem w64_mul (a b : Nat) (h : a * b < 18446744073709551616) : IntKind.u64.wrap ((a : Int) * (b : Int)) = ((a * b : Nat) : Int) := by
  rw [← Int.natCast_mul]; exact w64 _ h
theorem w64_add (a b : Nat) (h : a + b < 18446744073709551616) : IntKind.u64.wrap ((a : Int) + (b : Int)) = ((a + b : Nat) : Int) := by
  rw [← Int.natCast_add]; exact w64 _ h
theorem w64_low (a : Nat) (h : a < 18446744073709551616) : bits .and .u64 (a : Int) (4294967295 : Int) = ((a % 4294967296 : Nat) : Int) := by
  rw [show (4294967295 : Int) = ((4294967295 : Nat) : Int) from rfl, u64_and_nat _ _ h (by omega), nat_mask32]
theorem w64_mulmod (a b : Nat) : IntKind.u64.wrap ((a : Int) * (b : Int)) = ((a * b % 18446744073709551616 : Nat) : Int) := by
  rw [← Int.natCast_mul]
  simp [IntKind.wrap, IntKind.bits, IntKind.signed]

set_option maxHeartbeats 400000 in
theorem mul64_core (x y x0 x1 y0 y1 w0 b w0h t tl th c w1 a a2 w1h hi lo : Nat) (w : World)
    (f1 : bits .and .u64 (x : Int) (4294967295 : Int) = (x0 : Int)) (f2 : (x : Int) / (4294967296 : Int) = (x1 : Int)) (f3 : bits .and .u64 (y : Int) (4294967295 : Int) = (y0 : Int)) (f4 : (y : Int) / (4294967296 : Int) = (y1 : Int))
    (e1 : IntKind.u64.wrap ((x0 : Int) * (y0 : Int)) = (w0 : Int)) (e2 : IntKind.u64.wrap ((x1 : Int) * (y0 : Int)) = (b : Int)) (e3 : (w0 : Int) / (4294967296 : Int) = (w0h : Int))
    (e4 : IntKind.u64.wrap ((b : Int) + (w0h : Int)) = (t : Int)) (e5 : bits .and .u64 (t : Int) (4294967295 : Int) = (tl : Int)) (e6 : (t : Int) / (4294967296 : Int) = (th : Int))
    (e7 : IntKind.u64.wrap ((x0 : Int) * (y1 : Int)) = (c : Int)) (e8 : IntKind.u64.wrap ((tl : Int) + (c : Int)) = (w1 : Int)) (e9 : IntKind.u64.wrap ((x1 : Int) * (y1 : Int)) = (a : Int))
    (e10 : IntKind.u64.wrap ((a : Int) + (th : Int)) = (a2 : Int)) (e11 : (w1 : Int) / (4294967296 : Int) = (w1h : Int)) (e12 : IntKind.u64.wrap ((a2 : Int) + (w1h : Int)) = (hi : Int))
    (e13 : IntKind.u64.wrap ((x : Int) * (y : Int)) = (lo : Int)) :
    Calls Tryd.prog 165 #[.int .u64 (x : Int), .int .u64 (y : Int)] w fun e w' => e = .returned (.tuple #[.int .u64 (hi : Int), .int .u64 (lo : Int)]) ∧ w' = w := by
  go_enter Tryd.func165, Tryd.ntmps165
  go_wp2
  go_ret2
  exact ⟨rfl, rfl⟩
theorem mul64_any (x y : Nat) (hx : x < 18446744073709551616) (hy : y < 18446744073709551616) (w : World) :
    Calls Tryd.prog 165 #[.int .u64 (x : Int), .int .u64 (y : Int)] w fun e w' => e = .returned (.tuple #[.int .u64 ((x * y / 18446744073709551616 : Nat) : Int), .int .u64 ((x * y % 18446744073709551616 : Nat) : Int)]) ∧ w' = w := by
  obtain ⟨h1, h2, h3, h4⟩ := Lib.mul64_hi x y hx hy
  have ha := Lib.half_mul_le (a := x / 4294967296) (b := y / 4294967296) (by omega) (by omega)
  have hb := Lib.half_mul_le (a := x / 4294967296) (b := y % 4294967296) (by omega) (by omega)
  have hc := Lib.half_mul_le (a := x % 4294967296) (b := y / 4294967296) (by omega) (by omega)
  have hh : x * y / 18446744073709551616 < 18446744073709551616 := by
    apply Nat.div_lt_of_lt_mul
    exact Nat.mul_lt_mul'' hx hy
  rw [← h4] at hh
  rw [← h4]
  have h5 : ∀ n : Nat, (n : Int) / (4294967296 : Int) = ((n / 4294967296 : Nat) : Int) := fun n => by omega
  refine mul64_core x y (x % 4294967296) (x / 4294967296) (y % 4294967296) (y / 4294967296) _ _ _ _ _ _ _ _ _ _ _ _ _ w (w64_low x hx) (h5 x) (w64_low y hy) (h5 y)
    (w64_mul _ _ h1) (w64_mul _ _ (by omega)) (h5 _) (w64_add _ _ h2) (w64_low _ h2) (h5 _) (w64_mul _ _ (by omega)) (w64_add _ _ h3) (w64_mul _ _ (by omega)) (w64_add _ _ (by omega)) (h5 _) (w64_add _ _ hh) (w64_mulmod x y)
end Go.Proofs.YtfpngilmdgeikaaDoor
