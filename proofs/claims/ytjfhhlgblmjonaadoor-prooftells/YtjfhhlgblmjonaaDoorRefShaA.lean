/-
  What the document's answer's small functions give: a turned word; a product of two words of 64 bits; whether a power is more than a shifted number; a root's bits.
  What above and Root answer: whether a power is more than a shifted number; the bits of a root.
  What Root answers: the bits of a root, one by one; what Primes answers: the first 64 primes.
  What Primes answers of 64: the first 64 primes, in new memory.
  Laws and plain facts for the document's Sum: the two tables of roots, the message's padding, four bytes as a word.
-/
import Derived.Test.YtjfhhlgblmjonaaDoorWords
import Derived.WalkLawsBesides
import Derived.WalkSpells
import Derived.Test.YtjfhhlgblmjonaaDoorShaAll
import Derived.Test.YtjfhhlgblmjonaaDoorMemB
import Derived.Test.YtjfhhlgblmjonaaDoorAppendB
import Derived.Deep.AppendLies
namespace Go.Proofs.YtjfhhlgblmjonaaDoor
open Go.RowKit
attribute [local go_sem] u_or

set_option maxHeartbeats 400000 in
theorem turn_any (x : BitVec 32) (n : Nat) (hn : n < 32) (h0 : 0 < n) (w : World) :
    Calls Tryd.prog 66 #[.int .u32 (u x), .int .i64 (n : Int)] w fun e w' => e = .returned (.int .u32 (u (rotr x n))) ∧ w' = w.drew := by
  have hn' : (n : Int) < 32 := by omega
  have hw : IntKind.i64.wrap (32 - (n : Int)) = ((32 - n : Nat) : Int) := by simp [IntKind.wrap, IntKind.bits, IntKind.signed]; split <;> omega
  have hnn : (0 : Int) ≤ (n : Int) := by omega
  have hnn2 : (0 : Int) ≤ ((32 - n : Nat) : Int) := by omega
  go_enter Tryd.func66, Tryd.ntmps66
  go_wp2_with fail
  refine region_still (by kernel_rfl) (by kernel_rfl) ?_
  repeat still_step
  refine wpStill_nil ?_
  go_wp2
  go_ret
  refine ⟨?_, rfl⟩
  show Ending.returned (Value.int .u32 (bits .or .u32 (u x / 2 ^ n) (IntKind.u32.wrap (u x * 2 ^ (32 - n))))) = _
  rw [IntKind.wrap_u32', u_shl, u_shr, u_or]
  unfold rotr
  rw [BitVec.or_comm]

end Go.Proofs.YtjfhhlgblmjonaaDoor
namespace Go.Proofs.YtjfhhlgblmjonaaDoor
open Go.RowKit

set_option maxHeartbeats 400000 in
theorem above2_core (x p h l : Nat) (w : World) (hm : Hid (∀ w : World, Calls Tryd.prog 80 #[.int .u64 (x : Int), .int .u64 (x : Int)] w fun e w' => e = .returned (.tuple #[.int .u64 (h : Int), .int .u64 (l : Int)]) ∧ w' = w)) :
    Calls Tryd.prog 74 #[.int .u64 (x : Int), .int .u64 (p : Int), .bool true] w fun e w' => e = .returned (.bool (decide (p < h ∨ (h = p ∧ 0 < l)))) ∧ w' = w := by
  rcases Nat.lt_trichotomy p h with h1 | h1 | h1
  · have d1 : decide ((p : Int) < (h : Int)) = true := by simp; omega
    have hr := hid (show decide (p < h ∨ (h = p ∧ 0 < l)) = true by simp; omega)
    go_enter Tryd.func74, Tryd.ntmps74
    go_wp2_with (go_at_call 80; refine (hm.out _).mono ?_; rintro e w' ⟨rfl, rfl⟩)
    go_ret
    exact ⟨by rw [hr.out]; rfl, rfl⟩
  · subst h1
    by_cases hl : 0 < l
    · have d2 : decide ((0 : Int) < (l : Int)) = true := by simp; omega
      have hr := hid (show decide (p < p ∨ (p = p ∧ 0 < l)) = true by simp; omega)
      go_enter Tryd.func74, Tryd.ntmps74
      go_wp2_with (go_at_call 80; refine (hm.out _).mono ?_; rintro e w' ⟨rfl, rfl⟩)
      go_ret
      exact ⟨by rw [hr.out]; rfl, rfl⟩
    · have hl0 : l = 0 := by omega
      subst hl0
      have hr := hid (show decide (p < p ∨ (p = p ∧ 0 < 0)) = false by simp)
      go_enter Tryd.func74, Tryd.ntmps74
      go_wp2_with (go_at_call 80; refine (hm.out _).mono ?_; rintro e w' ⟨rfl, rfl⟩)
      go_ret
      exact ⟨by rw [hr.out]; rfl, rfl⟩
  · have d1 : decide ((p : Int) < (h : Int)) = false := by simp; omega
    have d2 : ((h : Int) == (p : Int)) = false := by simp; omega
    have d3 : decide (p < h) = false := by simp; omega
    have hr := hid (show decide (p < h ∨ (h = p ∧ 0 < l)) = false by simp; omega)
    go_enter Tryd.func74, Tryd.ntmps74
    go_wp2_with (go_at_call 80; refine (hm.out _).mono ?_; rintro e w' ⟨rfl, rfl⟩)
    go_ret
    exact ⟨by rw [hr.out]; rfl, rfl⟩

set_option maxHeartbeats 1000000 in
theorem above3_core (x p h l a b c d mid carry top wt wm : Nat) (w : World)
    (hm1 : Hid (∀ w : World, Calls Tryd.prog 80 #[.int .u64 (x : Int), .int .u64 (x : Int)] w fun e w' => e = .returned (.tuple #[.int .u64 (h : Int), .int .u64 (l : Int)]) ∧ w' = w))
    (hm2 : Hid (∀ w : World, Calls Tryd.prog 80 #[.int .u64 (l : Int), .int .u64 (x : Int)] w fun e w' => e = .returned (.tuple #[.int .u64 (a : Int), .int .u64 (b : Int)]) ∧ w' = w))
    (hm3 : Hid (∀ w : World, Calls Tryd.prog 80 #[.int .u64 (h : Int), .int .u64 (x : Int)] w fun e w' => e = .returned (.tuple #[.int .u64 (c : Int), .int .u64 (d : Int)]) ∧ w' = w))
    (ha : ∀ w : World, (callFunc 81 #[.int .u64 (a : Int), .int .u64 (d : Int), .int .u64 0]).run Tryd.prog w = .ok (.value (.tuple #[.int .u64 (mid : Int), .int .u64 (carry : Int)])) w)
    (ht : IntKind.u64.wrap ((c : Int) + (carry : Int)) = (top : Int)) (hwt : (p : Int) / (4294967296 : Int) = (wt : Int)) (hwm : IntKind.u64.wrap ((p : Int) * (4294967296 : Int)) = (wm : Int)) :
    Calls Tryd.prog 74 #[.int .u64 (x : Int), .int .u64 (p : Int), .bool false] w fun e w' => e = .returned (.bool (decide (wt < top ∨ (top = wt ∧ (wm < mid ∨ (mid = wm ∧ 0 < b)))))) ∧ w' = w := by
  rcases Nat.lt_trichotomy wt top with h1 | h1 | h1
  · have d1 : decide ((wt : Int) < (top : Int)) = true := by simp; omega
    have d1' : decide (wt < top) = true := by simp; omega
    have hr := hid (show decide (wt < top ∨ (top = wt ∧ (wm < mid ∨ (mid = wm ∧ 0 < b)))) = true by simp; omega)
    go_enter Tryd.func74, Tryd.ntmps74
    go_wp2_with fail
    refine (hm1.out _).mono ?_
    rintro e w' ⟨rfl, rfl⟩
    go_wp2_with fail
    refine (hm2.out _).mono ?_
    rintro e w' ⟨rfl, rfl⟩
    go_wp2_with fail
    refine (hm3.out _).mono ?_
    rintro e w' ⟨rfl, rfl⟩
    go_wp2
    go_ret
    exact ⟨by rw [hr.out]; rfl, rfl⟩
  · subst h1
    rcases Nat.lt_trichotomy wm mid with h2 | h2 | h2
    · have d1 : decide ((wm : Int) < (mid : Int)) = true := by simp; omega
      have d1' : decide (wm < mid) = true := by simp; omega
      have hr := hid (show decide (wt < wt ∨ (wt = wt ∧ (wm < mid ∨ (mid = wm ∧ 0 < b)))) = true by simp; omega)
      go_enter Tryd.func74, Tryd.ntmps74
      go_wp2_with fail
      refine (hm1.out _).mono ?_
      rintro e w' ⟨rfl, rfl⟩
      go_wp2_with fail
      refine (hm2.out _).mono ?_
      rintro e w' ⟨rfl, rfl⟩
      go_wp2_with fail
      refine (hm3.out _).mono ?_
      rintro e w' ⟨rfl, rfl⟩
      go_wp2
      go_ret
      exact ⟨by rw [hr.out]; rfl, rfl⟩
    · subst h2
      by_cases hb : 0 < b
      · have d1 : decide ((0 : Int) < (b : Int)) = true := by simp; omega
        have d1' : decide (0 < b) = true := by simp; omega
        have hr := hid (show decide (wt < wt ∨ (wt = wt ∧ (wm < wm ∨ (wm = wm ∧ 0 < b)))) = true by simp; omega)
        go_enter Tryd.func74, Tryd.ntmps74
        go_wp2_with fail
        refine (hm1.out _).mono ?_
        rintro e w' ⟨rfl, rfl⟩
        go_wp2_with fail
        refine (hm2.out _).mono ?_
        rintro e w' ⟨rfl, rfl⟩
        go_wp2_with fail
        refine (hm3.out _).mono ?_
        rintro e w' ⟨rfl, rfl⟩
        go_wp2
        go_ret
        exact ⟨by rw [hr.out]; rfl, rfl⟩
      · obtain rfl : b = 0 := by omega
        have hr := hid (show decide (wt < wt ∨ (wt = wt ∧ (wm < wm ∨ (wm = wm ∧ 0 < 0)))) = false by simp)
        go_enter Tryd.func74, Tryd.ntmps74
        go_wp2_with fail
        refine (hm1.out _).mono ?_
        rintro e w' ⟨rfl, rfl⟩
        go_wp2_with fail
        refine (hm2.out _).mono ?_
        rintro e w' ⟨rfl, rfl⟩
        go_wp2_with fail
        refine (hm3.out _).mono ?_
        rintro e w' ⟨rfl, rfl⟩
        go_wp2
        go_ret
        exact ⟨by rw [hr.out]; rfl, rfl⟩
    · have d1 : decide ((wm : Int) < (mid : Int)) = false := by simp; omega
      have d1' : decide (wm < mid) = false := by simp; omega
      have d2 : ((mid : Int) == (wm : Int)) = false := by simp; omega
      have hr := hid (show decide (wt < wt ∨ (wt = wt ∧ (wm < mid ∨ (mid = wm ∧ 0 < b)))) = false by simp; omega)
      go_enter Tryd.func74, Tryd.ntmps74
      go_wp2_with fail
      refine (hm1.out _).mono ?_
      rintro e w' ⟨rfl, rfl⟩
      go_wp2_with fail
      refine (hm2.out _).mono ?_
      rintro e w' ⟨rfl, rfl⟩
      go_wp2_with fail
      refine (hm3.out _).mono ?_
      rintro e w' ⟨rfl, rfl⟩
      go_wp2
      go_ret
      exact ⟨by rw [hr.out]; rfl, rfl⟩
  · have d1 : decide ((wt : Int) < (top : Int)) = false := by simp; omega
    have d1' : decide (wt < top) = false := by simp; omega
    have d2 : ((top : Int) == (wt : Int)) = false := by simp; omega
    have hr := hid (show decide (wt < top ∨ (top = wt ∧ (wm < mid ∨ (mid = wm ∧ 0 < b)))) = false by simp; omega)
    go_enter Tryd.func74, Tryd.ntmps74
    go_wp2_with fail
    refine (hm1.out _).mono ?_
    rintro e w' ⟨rfl, rfl⟩
    go_wp2_with fail
    refine (hm2.out _).mono ?_
    rintro e w' ⟨rfl, rfl⟩
    go_wp2_with fail
    refine (hm3.out _).mono ?_
    rintro e w' ⟨rfl, rfl⟩
    go_wp2
    go_ret
    exact ⟨by rw [hr.out]; rfl, rfl⟩

/-- whether x's square, or cube, is more than p, moved left by 64, or 96 bits -/
def aboveN (x p : Nat) (two : Bool) : Bool := if two then decide (p * 18446744073709551616 < x * x) else decide (p * 79228162514264337593543950336 < x * x * x)
theorem above_any (x p : Nat) (two : Bool) (hx : x < 2199023255552) (hp : p < 4294967296) (w : World) :
    Calls Tryd.prog 74 #[.int .u64 (x : Int), .int .u64 (p : Int), .bool two] w fun e w' => e = .returned (.bool (aboveN x p two)) ∧ w' = w := by
  have hX : x * x < 4835703278458516698824704 := Nat.mul_lt_mul'' hx hx
  cases two with
  | true =>
    have h := above2_core x p (x * x / 18446744073709551616) (x * x % 18446744073709551616) w (hid (mul64_any x x (by omega) (by omega)))
    refine h.mono ?_
    rintro e w' ⟨rfl, rfl⟩
    refine ⟨?_, rfl⟩
    congr 2
    unfold aboveN
    generalize x * x = X at *
    simp only [if_true]
    rw [decide_eq_decide]
    omega
  | false =>
    have hh : x * x / 18446744073709551616 < 262144 := by omega
    have hU : x * x / 18446744073709551616 * x < 262144 * 2199023255552 := Nat.mul_lt_mul'' hh hx
    have h3 : x * x * x = (x * x / 18446744073709551616 * x) * 18446744073709551616 + x * x % 18446744073709551616 * x := by
      have e := Nat.div_add_mod (x * x) 18446744073709551616
      have e2 : x * x * x = (18446744073709551616 * (x * x / 18446744073709551616) + x * x % 18446744073709551616) * x := by rw [e]
      rw [e2, Nat.add_mul, Nat.mul_assoc, Nat.mul_comm]
    have hl : x * x % 18446744073709551616 < 18446744073709551616 := by omega
    have m1 := mul64_any x x (by omega) (by omega)
    have m2 := mul64_any (x * x % 18446744073709551616) x hl (by omega)
    have m3 := mul64_any (x * x / 18446744073709551616) x (by omega) (by omega)
    have hV : x * x % 18446744073709551616 * x < 18446744073709551616 * 2199023255552 := Nat.mul_lt_mul'' hl hx
    unfold aboveN
    rw [h3]
    generalize x * x / 18446744073709551616 * x = U at *
    generalize x * x % 18446744073709551616 * x = V at *
    generalize x * x / 18446744073709551616 = h at *
    generalize x * x % 18446744073709551616 = l at *
    have ha : ∀ w : World, (callFunc 81 #[.int .u64 ((V / 18446744073709551616 : Nat) : Int), .int .u64 ((U % 18446744073709551616 : Nat) : Int), .int .u64 0]).run Tryd.prog w =
        .ok (.value (.tuple #[.int .u64 (((V / 18446744073709551616 + U % 18446744073709551616) % 18446744073709551616 : Nat) : Int), .int .u64 (((V / 18446744073709551616 + U % 18446744073709551616) / 18446744073709551616 : Nat) : Int)])) w := fun w => by
      rw [run_callFunc_extern Tryd.func81 (by kernel_rfl) (by kernel_rfl) (by kernel_rfl) (e := add64Entry) (by kernel_rfl), run_add64 _ _ 0 (by omega) (by omega) (by omega) (by omega)]
      simp only [Result.andThen]
      congr 5 <;> omega
    have hc := above3_core x p h l (V / 18446744073709551616) (V % 18446744073709551616) (U / 18446744073709551616) (U % 18446744073709551616) _ _ (U / 18446744073709551616 + (V / 18446744073709551616 + U % 18446744073709551616) / 18446744073709551616) (p / 4294967296) (p * 4294967296 % 18446744073709551616) w
      (hid m1) (hid m2) (hid m3) ha (w64_add _ _ (by omega)) (by omega) (by rw [show ((p : Int) * (4294967296 : Int)) = (p : Int) * ((4294967296 : Nat) : Int) from rfl]; exact w64_mulmod p 4294967296)
    refine hc.mono ?_
    rintro e w' ⟨rfl, rfl⟩
    refine ⟨?_, rfl⟩
    congr 2
    simp only [Bool.false_eq_true, if_false]
    rw [decide_eq_decide]
    omega
end Go.Proofs.YtjfhhlgblmjonaaDoor
namespace Go.Proofs.YtjfhhlgblmjonaaDoor
open Go.RowKit

/-- the bits that j steps have found, from bit 40 down -/
def rootTo (p : Nat) (two : Bool) : Nat → Nat
  | 0 => 0
  | j + 1 => if aboveN (rootTo p two j ||| 2 ^ (40 - j)) p two then rootTo p two j else rootTo p two j ||| 2 ^ (40 - j)
theorem rootTo_lt (p : Nat) (two : Bool) : ∀ j, rootTo p two j < 2 ^ 41
  | 0 => by simp [rootTo]
  | j + 1 => by
    unfold rootTo
    split
    · exact rootTo_lt p two j
    · exact Nat.or_lt_two_pow (rootTo_lt p two j) (Nat.pow_lt_pow_right (by omega) (by omega))
def rootWord (p : Nat) (two : Bool) : BitVec 32 := BitVec.ofNat 32 (rootTo p two 41)

set_option maxHeartbeats 1000000 in
theorem root_any (p : Nat) (two : Bool) (hp : p < 4294967296) (w : World) :
    Calls Tryd.prog 65 #[.int .u64 (p : Int), .bool two] w fun e w' => e = .returned (.int .u32 (u (rootWord p two))) ∧ w' = w := by
  have HP := hid hp
  clear hp
  go_enter Tryd.func65, Tryd.ntmps65
  go_wp2_with fail
  go_loopw [5, 6] (fun v i wr => ∃ j x : Nat, j ≤ 41 ∧ i = .int .i64 ((40 : Int) - (j : Int)) ∧ v = .int .u64 (x : Int) ∧ Hid (x = rootTo p two j) ∧ w = wr) (fun _ i _ => (intOf i + 1).toNat)
  case atStart => exact ⟨0, 0, by omega, by go_num, rfl, rfl, rfl⟩
  case round =>
    obtain ⟨j, x, hj, rfl, rfl, HX, rfl⟩ := hrel
    by_cases hlt : j < 41
    · have hxl : x < 2199023255552 := by rw [HX.out]; exact rootTo_lt p two j
      have e1 : ((40 : Int) - (j : Int)).toNat = 40 - j := by omega
      have h0 : (0 : Int) ≤ (40 : Int) - (j : Int) := by omega
      have h0' : (j : Int) ≤ 40 := by omega
      obtain ⟨y, hy⟩ : ∃ y, x ||| 2 ^ (40 - j) = y := ⟨_, rfl⟩
      have hyl : y < 2199023255552 := by rw [← hy]; exact Nat.or_lt_two_pow (n := 41) hxl (Nat.pow_lt_pow_right (by omega) (by omega))
      have HY := hid hy
      have HYL := hid hyl
      have hor : bits .or .u64 (x : Int) (IntKind.u64.wrap ((2 : Int) ^ (40 - j))) = (y : Int) := by
        have hpw : (2 : Nat) ^ (40 - j) < 18446744073709551616 := Nat.lt_of_lt_of_le (Nat.pow_lt_pow_right (by omega) (show 40 - j < 41 by omega)) (by decide)
        have e : ((2 : Int) ^ (40 - j)) = (((2 : Nat) ^ (40 - j) : Nat) : Int) := by simp
        rw [e, w64 _ hpw, u64_or_nat _ _ (by omega) hpw, HY.out]
      have hstep := hid (show rootTo p two (j + 1) = if aboveN y p two then x else y by rw [← HY.out, HX.out]; rfl)
      obtain ⟨b, hb⟩ : ∃ b, aboveN y p two = b := ⟨_, rfl⟩
      have habove := above_any y p two hyl HP.out
      rw [hb] at habove
      have HA := hid habove
      have HBB := hid hb
      clear hy hyl habove hb hxl
      cases b
      · go_wp2_with (go_at_call 74; refine (HA.out _).mono ?_; rintro e w' ⟨rfl, rfl⟩)
        go_roundw
        case rel => exact ⟨j + 1, y, by omega, by congr 1; omega, rfl, (by show _ = _; rw [hstep.out, HBB.out]; rfl), by trivial⟩
        case measure => simp [intOf]; omega
      · go_wp2_with (go_at_call 74; refine (HA.out _).mono ?_; rintro e w' ⟨rfl, rfl⟩)
        go_roundw
        case rel => exact ⟨j + 1, x, by omega, by congr 1; omega, rfl, (by show _ = _; rw [hstep.out, HBB.out]; rfl), by trivial⟩
        case measure => simp [intOf]; omega
    · obtain rfl : j = 41 := by omega
      have hw : IntKind.u32.wrap (x : Int) = u (rootWord p two) := by
        rw [wrap_nat32]; unfold u rootWord; rw [← HX.out]; simp
      go_wp2
      go_ret
      exact ⟨rfl, rfl⟩
end Go.Proofs.YtjfhhlgblmjonaaDoor
namespace Go.Proofs.YtjfhhlgblmjonaaDoor
open Go.RowKit

def P64 (n : Nat) : Value := .int .u64 (n : Int)
/-- what is found among the numbers from 2 on, k of them -/
def primesTo : Nat → List Nat
  | 0 => []
  | k + 1 => if (primesTo k).all (fun q => (2 + k) % q != 0) then primesTo k ++ [2 + k] else primesTo k
theorem primesTo_mem : ∀ k, ∀ q ∈ primesTo k, 2 ≤ q ∧ q < 2 + k
  | 0, q, h => by simp [primesTo] at h
  | k + 1, q, h => by
    unfold primesTo at h
    split at h
    · rcases List.mem_append.1 h with h | h
      · have := primesTo_mem k q h; omega
      · simp at h; omega
    · have := primesTo_mem k q h; omega
theorem primesTo_mono (k : Nat) : (primesTo k).length ≤ (primesTo (k + 1)).length := by
  show _ ≤ (if _ then _ else _ : List Nat).length
  split
  · simp
  · exact Nat.le_refl _
theorem primesTo_le (k m : Nat) (h : k ≤ m) : (primesTo k).length ≤ (primesTo m).length := by
  induction m with
  | zero => obtain rfl : k = 0 := by omega
            exact Nat.le_refl _
  | succ m ih =>
    by_cases e : k = m + 1
    · subst e; exact Nat.le_refl _
    · exact Nat.le_trans (ih (by omega)) (primesTo_mono m)
theorem primes_309 : (primesTo 309).length = 63 := by decide +kernel
theorem primes_310 : (primesTo 310).length = 64 := by decide +kernel
theorem info_u64 : (Tryd.prog.info? 72).map (fun i => (i.zero, i.size, i.bytes)) = some (some (.int .u64 0), 1, 8) := by kernel_rfl

set_option maxHeartbeats 1000000 in
theorem primes_any (w : World) :
    Calls Tryd.prog 64 #[.int .i64 64] w fun e w' => ∃ v, e = .returned v ∧ w'.ownsRow w.heap.size 72 1 v 64 ((primesTo 310).map P64) ∧ Below w.heap.size w w' := by
  obtain ⟨i0, hi0, hz0, hz1, hz2⟩ := info_parts info_u64
  go_enter Tryd.func64, Tryd.ntmps64
  go_wp2_with fail
  go_loopw [3, 4] (fun v pv wr => ∃ k : Nat, k ≤ 310 ∧ pv = .int .u64 (2 + (k : Int)) ∧ wr.ownsRow w.heap.size 72 1 v (primesTo k).length ((primesTo k).map P64) ∧ Below w.heap.size w wr) (fun _ pv _ => 312 - (intOf pv).toNat)
  case atStart => exact ⟨0, by omega, by go_num, World.ownsRow_nil _ _ _ _, Below.refl _ _⟩
  case round =>
    obtain ⟨k, hk, rfl, hown, hbe⟩ := hrel
    have hszr := hbe.size
    obtain ⟨oa, cap, rfl, hcap, hsome⟩ := ownsRow_shape hown
    by_cases hlt : k < 310
    · have hlen : (primesTo k).length < 64 := by have h1 := primesTo_le k 309 (by omega); rw [primes_309] at h1; omega
      have hmem := primesTo_mem k
      have HO := hid hown
      have HB := hid hbe
      have HS := hid hsome
      have hnext := hid (show primesTo (k + 1) = if (primesTo k).all (fun q => (2 + k) % q != 0) then primesTo k ++ [2 + k] else primesTo k from rfl)
      obtain ⟨l, hl⟩ : ∃ l, primesTo k = l := ⟨_, rfl⟩
      rw [hl] at HO HS hlen hmem hcap hnext ⊢
      have HMEM := hid hmem
      clear hown hbe hsome hmem hl
      generalize hn : l.length = n at *
      have HN := hid hn
      have hn64 : (n : Int) < 64 := by omega
      clear hn
      go_wp2_with fail
      go_loopw [5, 16] (fun ok iv w' => ∃ j : Nat, j ≤ n ∧ iv = .int .i64 j ∧ ok = .bool ((l.take j).all (fun q => (2 + k) % q != 0)) ∧ wr = w') (fun _ iv _ => n - (intOf iv).toNat)
      case atStart => exact ⟨0, by omega, rfl, rfl, rfl⟩
      case round =>
        obtain ⟨j, hj, rfl, rfl, rfl⟩ := hrel
        by_cases hjn : j < n
        · obtain ⟨g, rfl, hg, hgl, hc⟩ := HS.out (by omega)
          have dj := (hc j hjn).1
          rw [List.getElem?_map, getD_some l j 0 (by rw [HN.out]; exact hjn)] at dj
          obtain ⟨q, hq⟩ : ∃ q, l.getD j 0 = q := ⟨_, rfl⟩
          have hqm := HMEM.out q (by rw [← hq]; simp [show j < l.length by rw [HN.out]; exact hjn])
          have dq : wr.cell? ⟨g, j, none⟩ = some (.int .u64 (q : Int)) := by rw [← hq]; exact dj
          have hall := hid (show (l.take (j + 1)).all (fun q => (2 + k) % q != 0) = ((l.take j).all (fun q => (2 + k) % q != 0) && ((2 + k) % q != 0)) by
            rw [List.take_succ_eq_append_getElem (by rw [HN.out]; exact hjn), List.all_append, ← hq]
            simp [show j < l.length by rw [HN.out]; exact hjn])
          clear dj hc hq
          have hq0 : (0 : Int) < (q : Int) := by omega
          have hqne : ((q : Int) == 0) = false := by simp; omega
          have hjl : (j : Int) < (n : Int) := by omega
          generalize (l.take j).all (fun q => (2 + k) % q != 0) = ok at *
          cases ok
          · go_wp2_with fail
            exact ⟨⟨j + 1, by omega, by go_num, by rw [hall.out]; rfl, trivial⟩, by simp [intOf]; omega⟩
          · have hbn : ((2 + (k : Int)) % (q : Int) != 0) = ((2 + k) % q != 0) := by
              have e : (2 + (k : Int)) % (q : Int) = (((2 + k) % q : Nat) : Int) := by simp
              rw [e, Bool.eq_iff_iff]
              simp only [bne_iff_ne, ne_eq]
              omega
            have HBN := hid hbn
            clear hbn
            go_wp2_with fail
            exact ⟨⟨j + 1, by omega, by go_num, by rw [hall.out, HBN.out]; rfl, trivial⟩, by simp [intOf]; omega⟩
        · have hjn2 : l.take j = l := List.take_of_length_le (by rw [HN.out]; omega)
          rw [hjn2]
          have hpw : IntKind.u64.wrap (2 + (k : Int) + 1) = 2 + (k : Int) + 1 := by simp [IntKind.wrap, IntKind.bits, IntKind.signed]; omega
          generalize hok : l.all (fun q => (2 + k) % q != 0) = ok at *
          clear hok hjn2
          cases ok
          · go_wp2_with fail
            go_roundw
            case rel =>
              have hnx := hnext.out
              simp only [Bool.false_eq_true, if_false] at hnx
              exact ⟨k + 1, by omega, by rw [show 2 + ((k + 1 : Nat) : Int) = 2 + (k : Int) + 1 by omega], by rw [hnx, HN.out]; exact HO.out, HB.out⟩
            case measure => simp [intOf]; omega
          · go_wp2_with (at_builtin; refine wpList_append_own _ rfl (.tmp 29) (.tmp 31) 86 rfl w.heap.size 72 i0 (.int .u64 0) 1 8 Tryd.underlying86 hi0 hz0 hz1 hz2 rfl (by decide) _ _ _ rfl (HO.out.alloc _) ⟨wr.heap.size, 0, none⟩ 1 1 [.int .u64 (2 + (k : Int))] rfl rfl (cells_new _ _ _) (by simp [Value.oneCell']) (by unfold maxLen; omega) (by omega) (by simp; omega) ?_; intro v' w1 hown' hgrow hnil)
            go_roundw
            case rel =>
              have hnx := hnext.out
              simp only [if_true] at hnx
              refine ⟨k + 1, by omega, by rw [show 2 + ((k + 1 : Nat) : Int) = 2 + (k : Int) + 1 by omega], ?_, (HB.out.alloc hszr _).grown hgrow (by simp; omega) (fun q hq => (HO.out.lt q hq).1)⟩
              rw [hnx, List.length_append, HN.out, List.map_append]
              exact hown'
            case measure => simp [intOf]; omega
    · obtain rfl : k = 310 := by omega
      rw [primes_310] at hown hcap ⊢
      have HO := hid hown
      have HB := hid hbe
      clear hown hbe hsome
      go_wp2_with fail
      go_ret
      exact ⟨_, rfl, HO.out, HB.out⟩
end Go.Proofs.YtjfhhlgblmjonaaDoor
namespace Go.Proofs.YtjfhhlgblmjonaaDoor
open Go.RowKit
theorem info_u32 : (Tryd.prog.info? 69).map (fun i => (i.zero, i.size, i.bytes)) = some (some (.int .u32 0), 1, 4) := by kernel_rfl
def kTo (t : Nat) : List (BitVec 32) := ((primesTo 310).take t).map fun p => rootWord p false
def hTo (t : Nat) : List (BitVec 32) := ((primesTo 310).take t).map fun p => rootWord p true
theorem kTo_all : kTo 64 = kTab := by decide +kernel
theorem hTo_all : hTo 8 = hTab.list := by decide +kernel
theorem kTo_succ (t : Nat) (h : t < 64) : kTo (t + 1) = kTo t ++ [rootWord ((primesTo 310).getD t 0) false] := by
  have hl : t < (primesTo 310).length := by rw [primes_310]; exact h
  have e : (primesTo 310).getD t 0 = (primesTo 310)[t] := by simp [hl]
  unfold kTo
  rw [List.take_succ_eq_append_getElem hl, e, List.map_append]
  rfl
theorem hTo_succ (t : Nat) (h : t < 64) : hTo (t + 1) = hTo t ++ [rootWord ((primesTo 310).getD t 0) true] := by
  have hl : t < (primesTo 310).length := by rw [primes_310]; exact h
  have e : (primesTo 310).getD t 0 = (primesTo 310)[t] := by simp [hl]
  unfold hTo
  rw [List.take_succ_eq_append_getElem hl, e, List.map_append]
  rfl
theorem prime_lt (t : Nat) (h : t < 64) : (primesTo 310).getD t 0 < 4294967296 := by
  have hl : t < (primesTo 310).length := by rw [primes_310]; exact h
  have := primesTo_mem 310 ((primesTo 310).getD t 0) (by simp [hl])
  omega
/-- two values that own no block in common -/
def Apart (v v' : Value) : Prop := ∀ g, v.ownBlock = some g → v'.ownBlock ≠ some g
theorem apart_nil (v : Value) : Apart (.slice none 0 0) v := fun g h => by cases h
theorem Apart.ne {v v' : Value} (h : Apart v v') : v.ownBlock = none ∨ v.ownBlock ≠ v'.ownBlock := by
  cases hv : v.ownBlock with
  | none => exact .inl rfl
  | some g => exact .inr (fun e => h g hv e.symm)
theorem Apart.symm {v v' : Value} (h : Apart v v') : Apart v' v := fun g h1 h2 => h g h2 h1
/-- behind an append to v: the old row or a new block -/
theorem Apart.app {v v' : Value} {g n cap H : Nat} (h : Apart v v') (hat : v.ownBlock = some g ∨ g = H) (hv : ∀ k, v'.ownBlock = some k → k < H) : Apart (.slice (some ⟨g, 0, none⟩) n cap) v' := by
  intro k hk h2
  have : g = k := Option.some.inj hk
  subst this
  rcases hat with h3 | h3
  · exact h g h3 h2
  · have := hv g h2; omega
theorem below_app {B : Nat} {a w w' : World} {v : Value} {e n : Nat} {xs : List Value} (h : Below B a w) (hB : B ≤ w.heap.size) (ho : w.ownsRow B e 1 v n xs) (o : Obj) (hg : (w.alloc o).grownBy w' v.ownBlock) : Below B a w' :=
  (h.alloc hB o).grown hg (by simp; omega) (fun k hk => (ho.lt k hk).1)

/-- the message, r of the size's bytes written -/
def padTo (l : List (BitVec 8)) (z r : Nat) : List (BitVec 8) := l ++ [128] ++ List.replicate z 0 ++ (be8 (8 * l.length)).take r
theorem padTo_zero (l : List (BitVec 8)) (z : Nat) : padTo l (z + 1) 0 = padTo l z 0 ++ [0] := by
  simp [padTo, List.replicate_succ']
theorem padTo_length (l : List (BitVec 8)) (z r : Nat) (h : r ≤ 8) : (padTo l z r).length = l.length + 1 + z + r := by
  simp [padTo, be8]; omega
theorem padTo_size (l : List (BitVec 8)) (z r : Nat) (h : r < 8) : padTo l z (r + 1) = padTo l z r ++ [BitVec.ofNat 8 (8 * l.length / 2 ^ (8 * (7 - r)))] := by
  unfold padTo
  have hl : r < (be8 (8 * l.length)).length := by simp [be8]; omega
  have hb := be8_at (8 * l.length) r h
  rw [List.getElem?_eq_getElem hl] at hb
  rw [List.take_succ_eq_append_getElem hl, Option.some.inj hb]
  simp
theorem padTo_all (l : List (BitVec 8)) : padTo l (zeros l.length) 8 = padded l := by
  simp [padTo, padded, be8]
theorem pad_more (n z : Nat) (h : z < zeros n) : (((n + 1 + z : Nat) : Int) % 64 != 56) = true := by
  unfold zeros at h; rw [bne_iff_ne]; omega
theorem pad_done (n : Nat) : (((n + 1 + zeros n : Nat) : Int) % 64 != 56) = false := by
  unfold zeros; rw [bne_eq_false_iff_eq]; omega

/-- r of four bytes, the high one first -/
def fold4 (b : List (BitVec 8)) (i : Nat) : Nat → BitVec 32
  | 0 => 0
  | r + 1 => fold4 b i r * 256 + (b.getD (4 * i + r) 0).setWidth 32
theorem u_mul256 (x : BitVec 32) : IntKind.u32.wrap (u x * (256 : Int)) = u (x * 256) := by
  unfold u
  have e : (x.toNat : Int) * (256 : Int) = ((x.toNat * 256 : Nat) : Int) := by simp
  rw [e, wrap_nat32]
  simp
theorem fold4_be4 (b : List (BitVec 8)) (i : Nat) : fold4 b i 4 = be4 (b.getD (4 * i) 0) (b.getD (4 * i + 1) 0) (b.getD (4 * i + 2) 0) (b.getD (4 * i + 3) 0) := by
  unfold fold4 fold4 fold4 fold4 fold4 be4
  generalize b.getD (4 * i) 0 = p
  generalize b.getD (4 * i + 1) 0 = q
  generalize b.getD (4 * i + 2) 0 = r
  generalize b.getD (4 * i + 3) 0 = s
  have hp := p.isLt
  have hq := q.isLt
  have hr := r.isLt
  have hs := s.isLt
  apply BitVec.eq_of_toNat_eq
  have e1 : (p.setWidth 32 <<< 24).toNat = p.toNat * 16777216 := by
    rw [BitVec.toNat_shiftLeft, BitVec.toNat_setWidth, Nat.shiftLeft_eq]; omega
  have e2 : (q.setWidth 32 <<< 16).toNat = q.toNat * 65536 := by
    rw [BitVec.toNat_shiftLeft, BitVec.toNat_setWidth, Nat.shiftLeft_eq]; omega
  have e3 : (r.setWidth 32 <<< 8).toNat = r.toNat * 256 := by
    rw [BitVec.toNat_shiftLeft, BitVec.toNat_setWidth, Nat.shiftLeft_eq]; omega
  have e4 : (s.setWidth 32).toNat = s.toNat := by rw [BitVec.toNat_setWidth]; omega
  rw [BitVec.toNat_or, BitVec.toNat_or, BitVec.toNat_or, e1, e2, e3, e4]
  rw [nat_join 24 (p.toNat * 16777216) (q.toNat * 65536) (by omega) (by omega), nat_join 16 (p.toNat * 16777216 + q.toNat * 65536) (r.toNat * 256) (by omega) (by omega),
    nat_join 8 (p.toNat * 16777216 + q.toNat * 65536 + r.toNat * 256) s.toNat (by omega) (by omega)]
  simp
  omega
theorem chs_or (e f g : BitVec 32) : (f &&& e) ||| (g &&& ~~~e) = chs e f g := by
  unfold chs
  ext i
  simp
  cases e[i] <;> cases f[i] <;> cases g[i] <;> rfl
theorem maj_or (a b c : BitVec 32) : ((a &&& b) ||| (a &&& c)) ||| (b &&& c) = maj a b c := by
  unfold maj
  ext i
  simp
  cases a[i] <;> cases b[i] <;> cases c[i] <;> rfl
theorem turn_q (x : BitVec 32) (n : Nat) (z : Int) (hz : z = (n : Int)) (hn : n < 32) (h0 : 0 < n) (w : World) (k : Nat) :
    Calls Tryd.prog 66 #[.int .u32 (u x), .int .i64 z] (w.drewN k) fun e w' => e = .returned (.int .u32 (u (rotr x n))) ∧ ∃ m, w' = w.drewN m := by
  rw [hz]
  exact Calls.quiet_of ((turn_any x n hn h0 (w.drewN k)).mono fun e w' h => ⟨h.1, 1, h.2⟩)
theorem sched_sum (a b c d : BitVec 32) : a + b + c + d = d + c + b + a := by
  rw [BitVec.add_comm d c, BitVec.add_comm (c + d) b, BitVec.add_comm (b + (c + d)) a, BitVec.add_assoc, BitVec.add_assoc]
/-- what stands inside a block of a function's code -/
def inBlock (id : Nat) : Code → Option Code
  | .block i c => if i = id then some c else inBlock id c
  | .seq a b => match inBlock id a with
    | some c => some c
    | none => inBlock id b
  | .loop c => inBlock id c
  | .scope c => inBlock id c
  | .cond _ a b => match inBlock id a with
    | some c => some c
    | none => inBlock id b
  | _ => none
end Go.Proofs.YtjfhhlgblmjonaaDoor
