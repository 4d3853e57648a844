/-
  What above and Root answer: whether a power is more than a shifted number; the bits of a root.
-/
import Derived.Test.YtedjmhiocmefiaaDoorRefTurn
namespace Go.Proofs.YtedjmhiocmefiaaDoor
open Go.RowKit

set_option maxHeartbeats 400000 in
theorem above2_core (x p h l : Nat) (w : World) (hm : Hid (∀ w : World, Calls Tryd.prog 47 #[.int .u64 (x : Int), .int .u64 (x : Int)] w fun e w' => e = .returned (.tuple #[.int .u64 (h : Int), .int .u64 (l : Int)]) ∧ w' = w)) :
    Calls Tryd.prog 45 #[.int .u64 (x : Int), .int .u64 (p : Int), .bool true] w fun e w' => e = .returned (.bool (decide (p < h ∨ (h = p ∧ 0 < l)))) ∧ w' = w := by
  rcases Nat.lt_trichotomy p h with h1 | h1 | h1
  · have d1 : decide ((p : Int) < (h : Int)) = true := by simp; omega
    have hr := hid (show decide (p < h ∨ (h = p ∧ 0 < l)) = true by simp; omega)
    go_enter Tryd.func45, Tryd.ntmps45
    go_wp2_with (go_at_call 47; refine (hm.out _).mono ?_; rintro e w' ⟨rfl, rfl⟩)
    go_ret
    exact ⟨by rw [hr.out]; rfl, rfl⟩
  · subst h1
    by_cases hl : 0 < l
    · have d2 : decide ((0 : Int) < (l : Int)) = true := by simp; omega
      have hr := hid (show decide (p < p ∨ (p = p ∧ 0 < l)) = true by simp; omega)
      go_enter Tryd.func45, Tryd.ntmps45
      go_wp2_with (go_at_call 47; refine (hm.out _).mono ?_; rintro e w' ⟨rfl, rfl⟩)
      go_ret
      exact ⟨by rw [hr.out]; rfl, rfl⟩
    · have hl0 : l = 0 := by omega
      subst hl0
      have hr := hid (show decide (p < p ∨ (p = p ∧ 0 < 0)) = false by simp)
      go_enter Tryd.func45, Tryd.ntmps45
      go_wp2_with (go_at_call 47; refine (hm.out _).mono ?_; rintro e w' ⟨rfl, rfl⟩)
      go_ret
      exact ⟨by rw [hr.out]; rfl, rfl⟩
  · have d1 : decide ((p : Int) < (h : Int)) = false := by simp; omega
    have d2 : ((h : Int) == (p : Int)) = false := by simp; omega
    have d3 : decide (p < h) = false := by simp; omega
    have hr := hid (show decide (p < h ∨ (h = p ∧ 0 < l)) = false by simp; omega)
    go_enter Tryd.func45, Tryd.ntmps45
    go_wp2_with (go_at_call 47; refine (hm.out _).mono ?_; rintro e w' ⟨rfl, rfl⟩)
    go_ret
    exact ⟨by rw [hr.out]; rfl, rfl⟩

set_option maxHeartbeats 1000000 in
theorem above3_core (x p h l a b c d mid carry top wt wm : Nat) (w : World)
    (hm1 : Hid (∀ w : World, Calls Tryd.prog 47 #[.int .u64 (x : Int), .int .u64 (x : Int)] w fun e w' => e = .returned (.tuple #[.int .u64 (h : Int), .int .u64 (l : Int)]) ∧ w' = w))
    (hm2 : Hid (∀ w : World, Calls Tryd.prog 47 #[.int .u64 (l : Int), .int .u64 (x : Int)] w fun e w' => e = .returned (.tuple #[.int .u64 (a : Int), .int .u64 (b : Int)]) ∧ w' = w))
    (hm3 : Hid (∀ w : World, Calls Tryd.prog 47 #[.int .u64 (h : Int), .int .u64 (x : Int)] w fun e w' => e = .returned (.tuple #[.int .u64 (c : Int), .int .u64 (d : Int)]) ∧ w' = w))
    (ha : ∀ w : World, (callFunc 54 #[.int .u64 (a : Int), .int .u64 (d : Int), .int .u64 0]).run Tryd.prog w = .ok (.value (.tuple #[.int .u64 (mid : Int), .int .u64 (carry : Int)])) w)
    (ht : IntKind.u64.wrap ((c : Int) + (carry : Int)) = (top : Int)) (hwt : (p : Int) / (4294967296 : Int) = (wt : Int)) (hwm : IntKind.u64.wrap ((p : Int) * (4294967296 : Int)) = (wm : Int)) :
    Calls Tryd.prog 45 #[.int .u64 (x : Int), .int .u64 (p : Int), .bool false] w fun e w' => e = .returned (.bool (decide (wt < top ∨ (top = wt ∧ (wm < mid ∨ (mid = wm ∧ 0 < b)))))) ∧ w' = w := by
  rcases Nat.lt_trichotomy wt top with h1 | h1 | h1
  · have d1 : decide ((wt : Int) < (top : Int)) = true := by simp; omega
    have d1' : decide (wt < top) = true := by simp; omega
    have hr := hid (show decide (wt < top ∨ (top = wt ∧ (wm < mid ∨ (mid = wm ∧ 0 < b)))) = true by simp; omega)
    go_enter Tryd.func45, Tryd.ntmps45
    go_wp2_with fail
    refine (hm1.out _).mono ?_
    rintro e w' ⟨rfl, rfl⟩
    go_wp2_with fail
    refine (hm2.out _).mono ?_
    rintro e w' ⟨rfl, rfl⟩
    go_wp2_with fail
    refine (hm3.out _).mono ?_
    rintro e w' ⟨rfl, rfl⟩
    go_wp2
    go_ret
    exact ⟨by rw [hr.out]; rfl, rfl⟩
  · subst h1
    rcases Nat.lt_trichotomy wm mid with h2 | h2 | h2
    · have d1 : decide ((wm : Int) < (mid : Int)) = true := by simp; omega
      have d1' : decide (wm < mid) = true := by simp; omega
      have hr := hid (show decide (wt < wt ∨ (wt = wt ∧ (wm < mid ∨ (mid = wm ∧ 0 < b)))) = true by simp; omega)
      go_enter Tryd.func45, Tryd.ntmps45
      go_wp2_with fail
      refine (hm1.out _).mono ?_
      rintro e w' ⟨rfl, rfl⟩
      go_wp2_with fail
      refine (hm2.out _).mono ?_
      rintro e w' ⟨rfl, rfl⟩
      go_wp2_with fail
      refine (hm3.out _).mono ?_
      rintro e w' ⟨rfl, rfl⟩
      go_wp2
      go_ret
      exact ⟨by rw [hr.out]; rfl, rfl⟩
    · subst h2
      by_cases hb : 0 < b
      · have d1 : decide ((0 : Int) < (b : Int)) = true := by simp; omega
        have d1' : decide (0 < b) = true := by simp; omega
        have hr := hid (show decide (wt < wt ∨ (wt = wt ∧ (wm < wm ∨ (wm = wm ∧ 0 < b)))) = true by simp; omega)
        go_enter Tryd.func45, Tryd.ntmps45
        go_wp2_with fail
        refine (hm1.out _).mono ?_
        rintro e w' ⟨rfl, rfl⟩
        go_wp2_with fail
        refine (hm2.out _).mono ?_
        rintro e w' ⟨rfl, rfl⟩
        go_wp2_with fail
        refine (hm3.out _).mono ?_
        rintro e w' ⟨rfl, rfl⟩
        go_wp2
        go_ret
        exact ⟨by rw [hr.out]; rfl, rfl⟩
      · obtain rfl : b = 0 := by omega
        have hr := hid (show decide (wt < wt ∨ (wt = wt ∧ (wm < wm ∨ (wm = wm ∧ 0 < 0)))) = false by simp)
        go_enter Tryd.func45, Tryd.ntmps45
        go_wp2_with fail
        refine (hm1.out _).mono ?_
        rintro e w' ⟨rfl, rfl⟩
        go_wp2_with fail
        refine (hm2.out _).mono ?_
        rintro e w' ⟨rfl, rfl⟩
        go_wp2_with fail
        refine (hm3.out _).mono ?_
        rintro e w' ⟨rfl, rfl⟩
        go_wp2
        go_ret
        exact ⟨by rw [hr.out]; rfl, rfl⟩
    · have d1 : decide ((wm : Int) < (mid : Int)) = false := by simp; omega
      have d1' : decide (wm < mid) = false := by simp; omega
      have d2 : ((mid : Int) == (wm : Int)) = false := by simp; omega
      have hr := hid (show decide (wt < wt ∨ (wt = wt ∧ (wm < mid ∨ (mid = wm ∧ 0 < b)))) = false by simp; omega)
      go_enter Tryd.func45, Tryd.ntmps45
      go_wp2_with fail
      refine (hm1.out _).mono ?_
      rintro e w' ⟨rfl, rfl⟩
      go_wp2_with fail
      refine (hm2.out _).mono ?_
      rintro e w' ⟨rfl, rfl⟩
      go_wp2_with fail
      refine (hm3.out _).mono ?_
      rintro e w' ⟨rfl, rfl⟩
      go_wp2
      go_ret
      exact ⟨by rw [hr.out]; rfl, rfl⟩
  · have d1 : decide ((wt : Int) < (top : Int)) = false := by simp; omega
    have d1' : decide (wt < top) = false := by simp; omega
    have d2 : ((top : Int) == (wt : Int)) = false := by simp; omega
    have hr := hid (show decide (wt < top ∨ (top = wt ∧ (wm < mid ∨ (mid = wm ∧ 0 < b)))) = false by simp; omega)
    go_enter Tryd.func45, Tryd.ntmps45
    go_wp2_with fail
    refine (hm1.out _).mono ?_
    rintro e w' ⟨rfl, rfl⟩
    go_wp2_with fail
    refine (hm2.out _).mono ?_
    rintro e w' ⟨rfl, rfl⟩
    go_wp2_with fail
    refine (hm3.out _).mono ?_
    rintro e w' ⟨rfl, rfl⟩
    go_wp2
    go_ret
    exact ⟨by rw [hr.out]; rfl, rfl⟩

/-- whether x's square, or cube, is more than p, moved left by 64, or 96 bits -/
def aboveN (x p : Nat) (two : Bool) : Bool := if two then decide (p * 18446744073709551616 < x * x) else decide (p * 79228162514264337593543950336 < x * x * x)
theorem above_any (x p : Nat) (two : Bool) (hx : x < 2199023255552) (hp : p < 4294967296) (w : World) :
    Calls Tryd.prog 45 #[.int .u64 (x : Int), .int .u64 (p : Int), .bool two] w fun e w' => e = .returned (.bool (aboveN x p two)) ∧ w' = w := by
  have hX : x * x < 4835703278458516698824704 := Nat.mul_lt_mul'' hx hx
  cases two with
  | true =>
    have h := above2_core x p (x * x / 18446744073709551616) (x * x % 18446744073709551616) w (hid (mul64_any x x (by omega) (by omega)))
    refine h.mono ?_
    rintro e w' ⟨rfl, rfl⟩
    refine ⟨?_, rfl⟩
    congr 2
    unfold aboveN
    generalize x * x = X at *
    simp only [if_true]
    rw [decide_eq_decide]
    omega
  | false =>
    have hh : x * x / 18446744073709551616 < 262144 := by omega
    have hU : x * x / 18446744073709551616 * x < 262144 * 2199023255552 := Nat.mul_lt_mul'' hh hx
    have h3 : x * x * x = (x * x / 18446744073709551616 * x) * 18446744073709551616 + x * x % 18446744073709551616 * x := by
      have e := Nat.div_add_mod (x * x) 18446744073709551616
      have e2 : x * x * x = (18446744073709551616 * (x * x / 18446744073709551616) + x * x % 18446744073709551616) * x := by rw [e]
      rw [e2, Nat.add_mul, Nat.mul_assoc, Nat.mul_comm]
    have hl : x * x % 18446744073709551616 < 18446744073709551616 := by omega
    have m1 := mul64_any x x (by omega) (by omega)
    have m2 := mul64_any (x * x % 18446744073709551616) x hl (by omega)
    have m3 := mul64_any (x * x / 18446744073709551616) x (by omega) (by omega)
    have hV : x * x % 18446744073709551616 * x < 18446744073709551616 * 2199023255552 := Nat.mul_lt_mul'' hl hx
    unfold aboveN
    rw [h3]
    generalize x * x / 18446744073709551616 * x = U at *
    generalize x * x % 18446744073709551616 * x = V at *
    generalize x * x / 18446744073709551616 = h at *
    generalize x * x % 18446744073709551616 = l at *
    have ha : ∀ w : World, (callFunc 54 #[.int .u64 ((V / 18446744073709551616 : Nat) : Int), .int .u64 ((U % 18446744073709551616 : Nat) : Int), .int .u64 0]).run Tryd.prog w =
        .ok (.value (.tuple #[.int .u64 (((V / 18446744073709551616 + U % 18446744073709551616) % 18446744073709551616 : Nat) : Int), .int .u64 (((V / 18446744073709551616 + U % 18446744073709551616) / 18446744073709551616 : Nat) : Int)])) w := fun w => by
      rw [run_callFunc_extern Tryd.func54 (by kernel_rfl) (by kernel_rfl) (by kernel_rfl) (e := add64Entry) (by kernel_rfl), run_add64 _ _ 0 (by omega) (by omega) (by omega) (by omega)]
      simp only [Result.andThen]
      congr 5 <;> omega
    have hc := above3_core x p h l (V / 18446744073709551616) (V % 18446744073709551616) (U / 18446744073709551616) (U % 18446744073709551616) _ _ (U / 18446744073709551616 + (V / 18446744073709551616 + U % 18446744073709551616) / 18446744073709551616) (p / 4294967296) (p * 4294967296 % 18446744073709551616) w
      (hid m1) (hid m2) (hid m3) ha (w64_add _ _ (by omega)) (by omega) (by rw [show ((p : Int) * (4294967296 : Int)) = (p : Int) * ((4294967296 : Nat) : Int) from rfl]; exact w64_mulmod p 4294967296)
    refine hc.mono ?_
    rintro e w' ⟨rfl, rfl⟩
    refine ⟨?_, rfl⟩
    congr 2
    simp only [Bool.false_eq_true, if_false]
    rw [decide_eq_decide]
    omega
end Go.Proofs.YtedjmhiocmefiaaDoor
