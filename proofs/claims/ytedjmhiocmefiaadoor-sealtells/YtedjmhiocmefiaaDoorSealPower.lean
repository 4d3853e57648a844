/-
  What times and power answer: a product and a power under the two moduli. They turn no memory.
-/
import Derived.Test.YtedjmhiocmefiaaDoorSealRem
namespace Go.Proofs.YtedjmhiocmefiaaDoor
open Go.RowKit

def mulP (a b : Nat) : Nat := a * b % pP
def mulQ (a b : Nat) : Nat := a * b % qQ
def powP (b e : Nat) : Nat := b ^ e % pP
theorem mulP_lt (a b : Nat) : mulP a b < 1152921504606849707 := Nat.mod_lt _ (by decide)
theorem mulQ_lt (a b : Nat) : mulQ a b < 576460752303424853 := Nat.mod_lt _ (by decide)
theorem powP_lt (a b : Nat) : powP a b < 1152921504606849707 := Nat.mod_lt _ (by decide)
theorem drewN_add (w : World) (a b : Nat) : (w.drewN a).drewN b = w.drewN (a + b) := by
  simp [World.drewN, Nat.add_assoc]

theorem times_p (a b : Nat) (w : World) (ha : a < 18446744073709551616) (hb : b < 18446744073709551616) :
    Calls Tryd.prog 35 #[.int .u64 (a : Int), .int .u64 (b : Int), .int .u64 (1152921504606849707 : Int)] w fun e w' =>
      e = .returned (.int .u64 (mulP a b : Int)) ∧ ∃ n, w' = w.drewN n := by
  have hh : a * b / 18446744073709551616 < 18446744073709551616 := by
    apply Nat.div_lt_of_lt_mul
    exact Nat.mul_lt_mul'' ha hb
  have hl : a * b % 18446744073709551616 < 18446744073709551616 := Nat.mod_lt _ (by omega)
  have hm : (a * b / 18446744073709551616 * 18446744073709551616 + a * b % 18446744073709551616) % 1152921504606849707 = mulP a b := by
    rw [show a * b / 18446744073709551616 * 18446744073709551616 + a * b % 18446744073709551616 = a * b by omega]; rfl
  have HM := hid (fun w => mul64_any a b ha hb w)
  obtain ⟨x, hx⟩ : ∃ x, a * b / 18446744073709551616 = x := ⟨_, rfl⟩
  obtain ⟨y, hy⟩ : ∃ y, a * b % 18446744073709551616 = y := ⟨_, rfl⟩
  rw [hx] at hh hm HM
  rw [hy] at hl hm HM
  have HR := hid (fun w => rem64_p x y w hh hl)
  rw [hm] at HR
  clear hm hx hy hh hl
  go_enter Tryd.func35, Tryd.ntmps35
  go_wp2_with (first | (go_at_call 47; refine (HM.out _).mono ?_; rintro e w' ⟨rfl, rfl⟩) | (go_at_call 48; refine (HR.out _).mono ?_; rintro e w' ⟨rfl, n, rfl⟩))
  go_ret
  exact ⟨rfl, n, rfl⟩
theorem times_q (a b : Nat) (w : World) (ha : a < 18446744073709551616) (hb : b < 18446744073709551616) :
    Calls Tryd.prog 35 #[.int .u64 (a : Int), .int .u64 (b : Int), .int .u64 (576460752303424853 : Int)] w fun e w' =>
      e = .returned (.int .u64 (mulQ a b : Int)) ∧ ∃ n, w' = w.drewN n := by
  have hh : a * b / 18446744073709551616 < 18446744073709551616 := by
    apply Nat.div_lt_of_lt_mul
    exact Nat.mul_lt_mul'' ha hb
  have hl : a * b % 18446744073709551616 < 18446744073709551616 := Nat.mod_lt _ (by omega)
  have hm : (a * b / 18446744073709551616 * 18446744073709551616 + a * b % 18446744073709551616) % 576460752303424853 = mulQ a b := by
    rw [show a * b / 18446744073709551616 * 18446744073709551616 + a * b % 18446744073709551616 = a * b by omega]; rfl
  have HM := hid (fun w => mul64_any a b ha hb w)
  obtain ⟨x, hx⟩ : ∃ x, a * b / 18446744073709551616 = x := ⟨_, rfl⟩
  obtain ⟨y, hy⟩ : ∃ y, a * b % 18446744073709551616 = y := ⟨_, rfl⟩
  rw [hx] at hh hm HM
  rw [hy] at hl hm HM
  have HR := hid (fun w => rem64_q x y w hh hl)
  rw [hm] at HR
  clear hm hx hy hh hl
  go_enter Tryd.func35, Tryd.ntmps35
  go_wp2_with (first | (go_at_call 47; refine (HM.out _).mono ?_; rintro e w' ⟨rfl, rfl⟩) | (go_at_call 48; refine (HR.out _).mono ?_; rintro e w' ⟨rfl, n, rfl⟩))
  go_ret
  exact ⟨rfl, n, rfl⟩

/-- what a power by squaring keeps -/
def PowAt (b e o x k : Nat) : Prop := o < 1152921504606849707 ∧ x < 18446744073709551616 ∧ k < 18446744073709551616 ∧ o * x ^ k % pP = powP b e
theorem powAt_start {b e : Nat} (hb : b < 18446744073709551616) (he : e < 18446744073709551616) : PowAt b e 1 b e := ⟨by omega, hb, he, by rw [Nat.one_mul]; rfl⟩
theorem powAt_odd {b e o x k : Nat} (h : PowAt b e o x k) (hk : k % 2 = 1) : PowAt b e (mulP o x) (mulP x x) (k / 2) := by
  obtain ⟨h1, h2, h3, h4⟩ := h
  refine ⟨mulP_lt _ _, by have := mulP_lt x x; omega, by omega, ?_⟩
  rw [← h4]
  have e1 : x ^ k = x * (x * x) ^ (k / 2) := by
    rw [← Nat.pow_two, ← Nat.pow_mul, ← Nat.pow_succ', show (2 * (k / 2)).succ = k by omega]
  rw [e1, ← Nat.mul_assoc]
  exact mulmod (Nat.mod_mod _ _) (powmod (Nat.mod_mod _ _) _)
theorem powAt_even {b e o x k : Nat} (h : PowAt b e o x k) (hk : k % 2 = 0) : PowAt b e o (mulP x x) (k / 2) := by
  obtain ⟨h1, h2, h3, h4⟩ := h
  refine ⟨h1, by have := mulP_lt x x; omega, by omega, ?_⟩
  rw [← h4]
  have e1 : x ^ k = (x * x) ^ (k / 2) := by
    rw [← Nat.pow_two, ← Nat.pow_mul, show 2 * (k / 2) = k by omega]
  rw [e1]
  exact mulmod rfl (powmod (Nat.mod_mod _ _) _)
theorem powAt_end {b e o x : Nat} (h : PowAt b e o x 0) : o = powP b e := by
  obtain ⟨h1, _, _, h4⟩ := h
  rw [← h4, Nat.pow_zero, Nat.mul_one]
  exact (Nat.mod_eq_of_lt h1).symm

set_option maxRecDepth 100000 in
set_option maxHeartbeats 1000000 in
theorem power_p (b e : Nat) (w : World) (hb : b < 18446744073709551616) (he : e < 18446744073709551616) :
    Calls Tryd.prog 28 #[.int .u64 (b : Int), .int .u64 (e : Int), .int .u64 (1152921504606849707 : Int)] w fun e' w' =>
      e' = .returned (.int .u64 (powP b e : Int)) ∧ ∃ n, w' = w.drewN n := by
  have HST := hid (powAt_start hb he)
  clear hb he
  go_enter Tryd.func28, Tryd.ntmps28
  go_wp2_with fail
  go_loopw [0, 1, 7] (fun x k o wr => ∃ x' k' o' : Nat, x = .int .u64 (x' : Int) ∧ k = .int .u64 (k' : Int) ∧ o = .int .u64 (o' : Int) ∧ PowAt b e o' x' k' ∧ ∃ n, wr = w.drewN n) (fun _ k _ _ => (intOf k).toNat)
  case atStart => exact ⟨_, _, _, rfl, rfl, rfl, HST.out, 0, rfl⟩
  case round =>
    obtain ⟨x, k, o, rfl, rfl, rfl, hp, n, rfl⟩ := hrel
    by_cases hk : k = 0
    · subst hk
      have ho := powAt_end hp
      have HO := hid ho
      clear hp ho HST
      go_wp2
      go_ret
      rw [← HO.out]
      exact ⟨rfl, n, rfl⟩
    · have g1 : decide ((0 : Int) < (k : Int)) = true := by simp; omega
      have g1' : decide (0 < k) = true := by simp; omega
      have g2 : (k : Int) / 2 = ((k / 2 : Nat) : Int) := by omega
      have g3 : bits .and .u64 (k : Int) 1 = ((k % 2 : Nat) : Int) := by
        rw [show (1 : Int) = ((1 : Nat) : Int) from rfl, u64_and_nat _ _ hp.2.2.1 (by omega), nat_mask1]
      have hlt : k / 2 < k := by omega
      obtain ⟨k2, hk2⟩ : ∃ k2, k / 2 = k2 := ⟨_, rfl⟩
      have ho := hp.1
      have hx := hp.2.1
      have HSQ := hid (fun w => times_p x x w hx hx)
      have HML := hid (fun w => times_p o x w (by omega) hx)
      rcases (show k % 2 = 1 ∨ k % 2 = 0 by omega) with hpar | hpar
      · have hn := powAt_odd hp hpar
        rw [hpar] at g3
        rw [hk2] at g2 hlt hn
        have g3' : bits .and .u64 (k : Int) 1 = 1 := g3
        have HN := hid hn
        clear hn hp hk2 hpar HST ho hx g3
        go_wp2_with fail
        refine (HML.out _).mono ?_
        rintro e1 w1 ⟨rfl, n1, rfl⟩
        go_wp2_with fail
        refine (HSQ.out _).mono ?_
        rintro e2 w2 ⟨rfl, n2, rfl⟩
        go_wp2
        go_roundw
        case rel => exact ⟨_, _, _, rfl, rfl, rfl, HN.out, n + n1 + n2, rfl⟩
        case measure => simp [intOf]; omega
      · have hn := powAt_even hp hpar
        rw [hpar] at g3
        rw [hk2] at g2 hlt hn
        have g3' : bits .and .u64 (k : Int) 1 = 0 := g3
        have HN := hid hn
        clear hn hp hk2 hpar HST ho hx g3
        go_wp2_with fail
        refine (HSQ.out _).mono ?_
        rintro e2 w2 ⟨rfl, n2, rfl⟩
        go_wp2
        go_roundw
        case rel => exact ⟨_, _, _, rfl, rfl, rfl, HN.out, n + n2, rfl⟩
        case measure => simp [intOf]; omega
end Go.Proofs.YtedjmhiocmefiaaDoor
