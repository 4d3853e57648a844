/-
  What the document's Times and Power answer: a product by doubling, a power bit by bit, under a modulus. They turn nothing.
-/
import Derived.Test.YtiflkkelbnpniaaGreatDoorMemB
import Derived.Test.YtiflkkelbnpniaaGreatDoorSealGood
namespace Go.Proofs.YtiflkkelbnpniaaGreatDoor
open Go.RowKit

/-- what a product by doubling keeps -/
def MulAt (a b m r x k : Nat) : Prop := r < m ∧ x < m ∧ k < 18446744073709551616 ∧ (r + x * k) % m = a * b % m
theorem mulAt_start {a b m : Nat} (hm : 0 < m) (hb : b < 18446744073709551616) : MulAt a b m 0 (a % m) b := by
  refine ⟨hm, Nat.mod_lt _ hm, hb, ?_⟩
  rw [Nat.zero_add]
  exact mulmod (Nat.mod_mod _ _) rfl
theorem mulAt_odd {a b m r x k : Nat} (h : MulAt a b m r x k) (hk : k % 2 = 1) : MulAt a b m ((r + x) % m) ((x + x) % m) (k / 2) := by
  obtain ⟨h1, h2, h3, h4⟩ := h
  refine ⟨Nat.mod_lt _ (by omega), Nat.mod_lt _ (by omega), by omega, ?_⟩
  rw [← h4, Nat.add_mod, mulmod (Nat.mod_mod (x + x) m) (rfl : (k / 2) % m = (k / 2) % m), Nat.mod_mod, ← Nat.add_mod]
  have e : x * k = x + (x + x) * (k / 2) := by
    have : k = 1 + 2 * (k / 2) := by omega
    rw (occs := .pos [1]) [this]
    rw [Nat.mul_add, Nat.mul_one, ← Nat.mul_assoc, Nat.mul_two]
  rw [e, Nat.add_assoc]
theorem mulAt_even {a b m r x k : Nat} (h : MulAt a b m r x k) (hk : k % 2 = 0) : MulAt a b m r ((x + x) % m) (k / 2) := by
  obtain ⟨h1, h2, h3, h4⟩ := h
  refine ⟨h1, Nat.mod_lt _ (by omega), by omega, ?_⟩
  rw [← h4, Nat.add_mod, mulmod (Nat.mod_mod (x + x) m) (rfl : (k / 2) % m = (k / 2) % m), ← Nat.add_mod]
  have e : x * k = (x + x) * (k / 2) := by
    have : k = 2 * (k / 2) := by omega
    rw (occs := .pos [1]) [this]
    rw [← Nat.mul_assoc, Nat.mul_two]
  rw [e]
theorem mulAt_end {a b m r x : Nat} (h : MulAt a b m r x 0) : r = a * b % m := by
  obtain ⟨h1, _, _, h4⟩ := h
  rw [Nat.mul_zero, Nat.add_zero, Nat.mod_eq_of_lt h1] at h4
  exact h4

set_option maxRecDepth 100000 in
set_option maxHeartbeats 1000000 in
theorem refTimes_any (a b m z : Nat) (w : World) (hm : 0 < m) (hm' : m ≤ 4611686018427387904) (hb : b < 18446744073709551616) (hz : a * b % m = z) :
    Calls Tryz.prog 125 #[.int .u64 (a : Int), .int .u64 (b : Int), .int .u64 (m : Int)] w fun e w' => e = .returned (.int .u64 (z : Int)) ∧ w' = w := by
  have HST := hid (mulAt_start (a := a) hm hb)
  have g0 : ((m : Int) == 0) = false := by simp; omega
  obtain ⟨a1, ha1⟩ : ∃ a1, a % m = a1 := ⟨_, rfl⟩
  have g1 : (a : Int).tmod (m : Int) = (a1 : Int) := by rw [Int.tmod_eq_emod_of_nonneg (by omega), ← Int.natCast_emod, ha1]
  rw [ha1] at HST
  have HZ := hid hz
  clear ha1 hz
  go_enter Tryz.func125, Tryz.ntmps125
  go_wp2_with fail
  go_loop [0, 1, 7] (fun x k r => ∃ x' k' r' : Nat, x = .int .u64 (x' : Int) ∧ k = .int .u64 (k' : Int) ∧ r = .int .u64 (r' : Int) ∧ MulAt a b m r' x' k') (fun _ k _ => (intOf k).toNat)
  case atStart => exact ⟨_, _, _, rfl, rfl, rfl, HST.out⟩
  case round =>
    obtain ⟨x, k, r, rfl, rfl, rfl, hp⟩ := hrel
    clear HST g1
    by_cases hk : k = 0
    · subst hk
      have HE := hid (mulAt_end hp)
      clear hp
      go_wp2
      go_ret
      rw [← HZ.out, ← HE.out]
      exact ⟨rfl, rfl⟩
    · have d1 : decide ((0 : Int) < (k : Int)) = true := by simp; omega
      have d1' : decide (0 < k) = true := by simp; omega
      have hr := hp.1
      have hx := hp.2.1
      obtain ⟨k2, hk2⟩ : ∃ k2, k / 2 = k2 := ⟨_, rfl⟩
      have g2 : (k : Int) / 2 = (k2 : Int) := by omega
      have g2' : IntKind.u64.wrap (k2 : Int) = (k2 : Int) := w64 _ (by have := hp.2.2.1; omega)
      have g3 : (k : Int) % 2 = ((k % 2 : Nat) : Int) := by omega
      obtain ⟨x2, hx2⟩ : ∃ x2, x + x = x2 := ⟨_, rfl⟩
      obtain ⟨x3, hx3⟩ : ∃ x3, x2 % m = x3 := ⟨_, rfl⟩
      have g4 : IntKind.u64.wrap ((x : Int) + (x : Int)) = (x2 : Int) := by rw [w64_add _ _ (by omega), hx2]
      have g5 : (x2 : Int).tmod (m : Int) = (x3 : Int) := by rw [Int.tmod_eq_emod_of_nonneg (by omega), ← Int.natCast_emod, hx3]
      have HLT := hid (show k2 < k by omega)
      rcases (show k % 2 = 1 ∨ k % 2 = 0 by omega) with hpar | hpar
      · have hn := mulAt_odd hp hpar
        obtain ⟨r2, hr2⟩ : ∃ r2, r + x = r2 := ⟨_, rfl⟩
        obtain ⟨r3, hr3⟩ : ∃ r3, r2 % m = r3 := ⟨_, rfl⟩
        have g6 : IntKind.u64.wrap ((r : Int) + (x : Int)) = (r2 : Int) := by rw [w64_add _ _ (by omega), hr2]
        have g7 : (r2 : Int).tmod (m : Int) = (r3 : Int) := by rw [Int.tmod_eq_emod_of_nonneg (by omega), ← Int.natCast_emod, hr3]
        rw [hr2, hr3, hx2, hx3, hk2] at hn
        rw [hpar] at g3
        have g3' : (k : Int) % 2 = 1 := g3
        have HN := hid hn
        clear hn hp hr2 hr3 hx2 hx3 hk2 hpar g3 hr hx
        go_wp2
        go_round
        case rel => exact ⟨_, _, _, rfl, rfl, rfl, HN.out⟩
        case measure => have := HLT.out; simp [intOf]; omega
      · have hn := mulAt_even hp hpar
        rw [hx2, hx3, hk2] at hn
        rw [hpar] at g3
        have g3' : (k : Int) % 2 = 0 := g3
        have HN := hid hn
        clear hn hp hx2 hx3 hk2 hpar g3 hr hx
        go_wp2
        go_round
        case rel => exact ⟨_, _, _, rfl, rfl, rfl, HN.out⟩
        case measure => have := HLT.out; simp [intOf]; omega

/-- one bit more of the exponent -/
theorem bit_next (e t : Nat) : e / 2 ^ t = 2 * (e / 2 ^ (t + 1)) + e / 2 ^ t % 2 := by
  rw [Nat.pow_succ, ← Nat.div_div_eq_div_mul]; omega
theorem pow_odd (b e t m : Nat) (h : e / 2 ^ t % 2 = 1) : b ^ (e / 2 ^ t) % m = (b ^ (e / 2 ^ (t + 1)) % m) * (b ^ (e / 2 ^ (t + 1)) % m) % m * b % m := by
  have h1 := bit_next e t
  rw [h] at h1
  rw [h1]
  have e1 : b ^ (2 * (e / 2 ^ (t + 1)) + 1) = b ^ (e / 2 ^ (t + 1)) * b ^ (e / 2 ^ (t + 1)) * b := by
    rw [Nat.pow_succ, Nat.two_mul, Nat.pow_add]
  rw [e1]
  exact mulmod ((mulmod (Nat.mod_mod _ m) (Nat.mod_mod _ m)).symm.trans (Nat.mod_mod _ m).symm) rfl
theorem pow_even (b e t m : Nat) (h : e / 2 ^ t % 2 = 0) : b ^ (e / 2 ^ t) % m = (b ^ (e / 2 ^ (t + 1)) % m) * (b ^ (e / 2 ^ (t + 1)) % m) % m := by
  have h1 := bit_next e t
  rw [h] at h1
  rw [h1, Nat.add_zero, Nat.two_mul, Nat.pow_add]
  exact (mulmod (Nat.mod_mod _ m) (Nat.mod_mod _ m)).symm

set_option maxRecDepth 100000 in
set_option maxHeartbeats 1000000 in
theorem refPower_any (b e m z : Nat) (w : World) (hm : 1 < m) (hm' : m ≤ 4611686018427387904) (hb : b < 18446744073709551616) (he : e < 18446744073709551616) (hz : b ^ e % m = z) :
    Calls Tryz.prog 124 #[.int .u64 (b : Int), .int .u64 (e : Int), .int .u64 (m : Int)] w fun e' w' => e' = .returned (.int .u64 (z : Int)) ∧ w' = w := by
  have HZ := hid hz
  have HST := hid (show 1 = b ^ (e / 2 ^ 64) % m by rw [Nat.div_eq_of_lt he, Nat.pow_zero, Nat.mod_eq_of_lt hm])
  clear hz
  go_enter Tryz.func124, Tryz.ntmps124
  go_wp2_with fail
  go_loopw [7, 8] (fun r k wr => ∃ t r' : Nat, t ≤ 64 ∧ k = .int .i64 ((t : Int) - 1) ∧ r = .int .u64 (r' : Int) ∧ r' = b ^ (e / 2 ^ t) % m ∧ wr = w) (fun _ k _ => (intOf k + 1).toNat)
  case atStart => exact ⟨64, 1, by omega, rfl, rfl, HST.out, rfl⟩
  case round =>
    obtain ⟨t, r, ht, rfl, rfl, hr, rfl⟩ := hrel
    clear HST
    by_cases ht0 : t = 0
    · subst ht0
      rw [Nat.pow_zero, Nat.div_one] at hr
      have HR := hid hr
      clear hr
      go_wp2
      go_ret
      rw [← HZ.out, ← HR.out]
      exact ⟨rfl, rfl⟩
    · obtain ⟨t, rfl⟩ : ∃ k, t = k + 1 := ⟨t - 1, by omega⟩
      rw [show (((t + 1 : Nat) : Int) - 1) = (t : Int) by omega]
      have hrl : r < m := by rw [hr]; exact Nat.mod_lt _ (by omega)
      have hnn : (0 : Int) ≤ (t : Int) := by omega
      have ht' : (t : Int) < 64 := by omega
      obtain ⟨s, hs⟩ : ∃ s, r * r % m = s := ⟨_, rfl⟩
      obtain ⟨y, hy⟩ : ∃ y, e / 2 ^ t = y := ⟨_, rfl⟩
      have g1 : (e : Int) / 2 ^ t = (y : Int) := by rw [← hy]; simp
      have HT1 := hid (fun w => refTimes_any r r m s w (by omega) hm' (by omega) hs)
      rcases (show y % 2 = 1 ∨ y % 2 = 0 by omega) with hpar | hpar
      · obtain ⟨v, hv⟩ : ∃ v, s * b % m = v := ⟨_, rfl⟩
        have g2 : (y : Int) % 2 = 1 := by omega
        have HT2 := hid (fun w => refTimes_any s b m v w (by omega) hm' hb hv)
        have HN := hid (show v = b ^ (e / 2 ^ t) % m by rw [pow_odd b e t m (by rw [hy]; exact hpar), ← hr, hs, hv])
        clear hr hs hy hv hpar
        go_wp2_with fail
        refine (HT1.out _).mono ?_
        rintro e1 w1 ⟨rfl, rfl⟩
        go_wp2_with fail
        refine (HT2.out _).mono ?_
        rintro e2 w2 ⟨rfl, rfl⟩
        go_wp2
        go_roundw
        case rel => exact ⟨t, v, by omega, rfl, rfl, HN.out, by trivial⟩
        case measure => simp [intOf]
      · have g2 : (y : Int) % 2 = 0 := by omega
        have HN := hid (show s = b ^ (e / 2 ^ t) % m by rw [pow_even b e t m (by rw [hy]; exact hpar), ← hr, hs])
        clear hr hs hy hpar
        go_wp2_with fail
        refine (HT1.out _).mono ?_
        rintro e1 w1 ⟨rfl, rfl⟩
        go_wp2
        go_roundw
        case rel => exact ⟨t, s, by omega, rfl, rfl, HN.out, by trivial⟩
        case measure => simp [intOf]
end Go.Proofs.YtiflkkelbnpniaaGreatDoor
