/-
  What Parts answers: SHA-256 of all that its parts read as, one behind the other, in new memory; nothing that was there turns.
  Plain mathematics of a long division by a number of two halves, the high one at least half of what it may be: two guesses, each corrected at most twice. No program is named here. Plain mathematics of powers under a modulus: powers by squaring; the order is a prime (Pocklington's criterion, in a form that wants no order of an element); the base has that order. No program is named here. What Rem64 answers, of the two moduli of seals: the rest of a number of two words. It turns no memory. What Rem64 answers, of the two moduli of seals: the rest of a number of two words. It turns no memory. What times and power answer: a product and a power under the two moduli. They turn no memory.
  What eight, number, exponent, secret, challenge and Key answer: a number's eight bytes; the number that a digest of parts begins with; a secret; what is asked; a key. They turn nothing that was there.
  What exponent, secret, challenge and Key answer. They turn nothing that was there.
  What Sign answers: the seal. It turns nothing that was there.
  What Good answers: whether a seal is good. It turns nothing that was there.
-/
import Derived.Test.YtooemgkjkngpcaaDoorShaAll
import Derived.Test.YtooemgkjkngpcaaDoorMemB
import Derived.BigQuiet
import Derived.Deep.CutBlock
import Derived.Lib.SlBytesConst
import Derived.Deep.QuietTactic
import Derived.Deep.RegionWith
namespace Go.Proofs.YtooemgkjkngpcaaDoor
open Go.RowKit

end Go.Proofs.YtooemgkjkngpcaaDoor
namespace Go.Proofs.YtooemgkjkngpcaaDoor

/-- a guess q of (u, u1) / (v1, v0) that is not too small, with what is left of u -/
def Guess (u u1 v1 v0 q r : Nat) : Prop := u = q * v1 + r ∧ q ≤ 4294967297 ∧ r < 4294967296 ∧ u * 4294967296 + u1 < (q + 1) * (v1 * 4294967296 + v0)
/-- the quotient itself -/
def Quot (u u1 v1 v0 q : Nat) : Prop := q * (v1 * 4294967296 + v0) ≤ u * 4294967296 + u1 ∧ u * 4294967296 + u1 < (q + 1) * (v1 * 4294967296 + v0) ∧ q < 4294967296

theorem guess_expand (q v1 v0 : Nat) : q * (v1 * 4294967296 + v0) = q * v1 * 4294967296 + q * v0 := by rw [Nat.mul_add, ← Nat.mul_assoc]
theorem guess_start (u u1 v1 v0 : Nat) (h1 : 2147483648 ≤ v1) (h1' : v1 < 4294967296) (hu1 : u1 < 4294967296) (hv0 : v0 < 4294967296) (hu : u < v1 * 4294967296 + v0) : Guess u u1 v1 v0 (u / v1) (u % v1) := by
  have hd : u = u / v1 * v1 + u % v1 := by rw [Nat.mul_comm]; exact (Nat.div_add_mod u v1).symm
  have hr : u % v1 < v1 := Nat.mod_lt _ (by omega)
  refine ⟨hd, ?_, by omega, ?_⟩
  · refine Nat.le_of_not_lt fun hc => ?_
    have := Nat.mul_le_mul (show 4294967298 ≤ u / v1 from hc) (Nat.le_refl v1)
    omega
  · rw [guess_expand, Nat.add_mul, Nat.one_mul]
    omega
theorem guess_great {u u1 v1 v0 q r : Nat} (hg : Guess u u1 v1 v0 q r) (hu1 : u1 < 4294967296) (hu : u < v1 * 4294967296 + v0) (h : 4294967296 ≤ q ∨ 4294967296 * r + u1 < q * v0) : 0 < q ∧ u * 4294967296 + u1 < q * (v1 * 4294967296 + v0) := by
  have hlt : u * 4294967296 + u1 < q * (v1 * 4294967296 + v0) := by
    rcases h with h | h
    · have := Nat.mul_le_mul h (Nat.le_refl (v1 * 4294967296 + v0))
      omega
    · obtain ⟨h1, _⟩ := hg
      rw [guess_expand]
      omega
  refine ⟨?_, hlt⟩
  rcases Nat.eq_zero_or_pos q with h0 | h0
  · subst h0; omega
  · exact h0
theorem guess_done {u u1 v1 v0 q r : Nat} (hg : Guess u u1 v1 v0 q r) (h : q < 4294967296) (h' : q * v0 ≤ 4294967296 * r + u1) : Quot u u1 v1 v0 q := by
  obtain ⟨h1, _, _, h4⟩ := hg
  refine ⟨?_, h4, h⟩
  rw [guess_expand]
  omega
theorem guess_next {u u1 v1 v0 q r : Nat} (hg : Guess u u1 v1 v0 q r) (hu1 : u1 < 4294967296) (hu : u < v1 * 4294967296 + v0) (h : 4294967296 ≤ q ∨ 4294967296 * r + u1 < q * v0) (hr : r + v1 < 4294967296) : Guess u u1 v1 v0 (q - 1) (r + v1) := by
  obtain ⟨h0, hlt⟩ := guess_great hg hu1 hu h
  obtain ⟨h1, h2, h3, h4⟩ := hg
  obtain ⟨k, rfl⟩ : ∃ k, q = k + 1 := ⟨q - 1, by omega⟩
  rw [Nat.add_sub_cancel]
  rw [Nat.add_mul, Nat.one_mul] at h1
  exact ⟨by omega, by omega, hr, hlt⟩
theorem guess_break {u u1 v1 v0 q r : Nat} (hg : Guess u u1 v1 v0 q r) (hu1 : u1 < 4294967296) (hv0 : v0 < 4294967296) (hu : u < v1 * 4294967296 + v0) (h : 4294967296 ≤ q ∨ 4294967296 * r + u1 < q * v0) (hr : 4294967296 ≤ r + v1) : Quot u u1 v1 v0 (q - 1) := by
  obtain ⟨h0, hlt⟩ := guess_great hg hu1 hu h
  obtain ⟨h1, h2, h3, h4⟩ := hg
  obtain ⟨k, rfl⟩ : ∃ k, q = k + 1 := ⟨q - 1, by omega⟩
  rw [Nat.add_sub_cancel]
  rw [Nat.add_mul, Nat.one_mul] at h1
  have hk := Nat.mul_le_mul (show k ≤ 4294967296 by omega) (show v0 ≤ 4294967295 by omega)
  have hle : k * (v1 * 4294967296 + v0) ≤ u * 4294967296 + u1 := by
    rw [guess_expand]; omega
  refine ⟨hle, hlt, ?_⟩
  refine Nat.lt_of_not_le fun hc => ?_
  have := Nat.mul_le_mul hc (Nat.le_refl (v1 * 4294967296 + v0))
  omega
/-- what is left behind a quotient's word -/
theorem quot_left {u u1 v1 v0 q : Nat} (h : Quot u u1 v1 v0 q) : u * 4294967296 + u1 - q * (v1 * 4294967296 + v0) < v1 * 4294967296 + v0 := by
  obtain ⟨h1, h2, _⟩ := h
  rw [Nat.add_mul, Nat.one_mul] at h2
  omega
theorem both_words {u u1 u0 q q0 Y R : Nat} (h1 : q * Y ≤ u * 4294967296 + u1) (hR : R = u * 4294967296 + u1 - q * Y) (h2 : q0 * Y ≤ R * 4294967296 + u0) (hl : R * 4294967296 + u0 - q0 * Y < Y) :
    R * 4294967296 + u0 - q0 * Y = (u * 18446744073709551616 + u1 * 4294967296 + u0) % Y := by
  have e : u * 18446744073709551616 + u1 * 4294967296 + u0 = (R * 4294967296 + u0 - q0 * Y) + Y * (q * 4294967296 + q0) := by
    have : Y * (q * 4294967296 + q0) = q * Y * 4294967296 + q0 * Y := by rw [Nat.mul_add, ← Nat.mul_assoc, Nat.mul_comm Y q, Nat.mul_comm Y q0]
    omega
  exact ((congrArg (fun n => n % Y) e).trans ((Nat.add_mul_mod_self_left _ _ _).trans (Nat.mod_eq_of_lt hl))).symm
/-- both words of the quotient, and the rest -/
theorem quot_both {u u1 u0 v1 v0 q q0 : Nat} (h : Quot u u1 v1 v0 q) (h0 : Quot (u * 4294967296 + u1 - q * (v1 * 4294967296 + v0)) u0 v1 v0 q0) :
    (u * 4294967296 + u1 - q * (v1 * 4294967296 + v0)) * 4294967296 + u0 - q0 * (v1 * 4294967296 + v0) = (u * 18446744073709551616 + u1 * 4294967296 + u0) % (v1 * 4294967296 + v0) :=
  both_words h.1 rfl h0.1 (quot_left h0)
/-- a rest of shifted numbers is the shifted rest -/
theorem rest_shift (hi lo y T : Nat) (hT : 0 < T) : (hi * T * 18446744073709551616 + lo * T) % (y * T) / T = (hi * 18446744073709551616 + lo) % y := by
  have e : hi * T * 18446744073709551616 + lo * T = (hi * 18446744073709551616 + lo) * T := by
    rw [Nat.add_mul, Nat.mul_right_comm]
  rw [e, Nat.mul_mod_mul_right, Nat.mul_div_cancel _ hT]
end Go.Proofs.YtooemgkjkngpcaaDoor
namespace Go.Proofs.YtooemgkjkngpcaaDoor

def pP : Nat := 1152921504606849707
def qQ : Nat := 576460752303424853

theorem mulmod {n a a' b b' : Nat} (h1 : a % n = a' % n) (h2 : b % n = b' % n) : a * b % n = a' * b' % n := by
  rw [Nat.mul_mod, h1, h2, ← Nat.mul_mod]
theorem powmod {n a a' : Nat} (h : a % n = a' % n) (e : Nat) : a ^ e % n = a' ^ e % n := by
  rw [Nat.pow_mod, h, ← Nat.pow_mod]
theorem pow_mod_dvd {n l a b : Nat} (hl : l ∣ n) (h : a % n = b % n) : a % l = b % l := by
  rw [← Nat.mod_mod_of_dvd a hl, h, Nat.mod_mod_of_dvd b hl]

/-- a power under a modulus, by squaring: for the kernel -/
def powm (m : Nat) : Nat → Nat → Nat → Nat
  | 0, _, _ => 1 % m
  | f + 1, b, e => if e = 0 then 1 % m else if e % 2 = 1 then b * powm m f (b * b % m) (e / 2) % m else powm m f (b * b % m) (e / 2)
theorem powm_eq (m : Nat) : ∀ f b e, e < 2 ^ f → powm m f b e = b ^ e % m := by
  intro f
  induction f with
  | zero => intro b e h; have : e = 0 := by simpa using h
            subst this; rfl
  | succ f ih =>
    intro b e h
    unfold powm
    have hsq : powm m f (b * b % m) (e / 2) = (b * b) ^ (e / 2) % m := by
      rw [ih _ _ (by rw [Nat.pow_succ] at h; omega)]
      exact powmod (Nat.mod_mod _ _) _
    by_cases h0 : e = 0
    · rw [if_pos h0, h0]; rfl
    · rw [if_neg h0]
      by_cases h1 : e % 2 = 1
      · rw [if_pos h1, hsq]
        have e2 : b ^ e = b * (b * b) ^ (e / 2) := by
          rw [← Nat.pow_two, ← Nat.pow_mul, ← Nat.pow_succ', show (2 * (e / 2)).succ = e by omega]
        rw [e2]
        exact mulmod rfl (Nat.mod_mod _ _)
      · rw [if_neg h1, hsq]
        rw [← Nat.pow_two, ← Nat.pow_mul, show 2 * (e / 2) = e by omega]

theorem pow_rem {b l m n : Nat} (hm : b ^ m % l = 1 % l) : b ^ n % l = b ^ (n % m) % l := by
  have e : b ^ n = (b ^ m) ^ (n / m) * b ^ (n % m) := by rw [← Nat.pow_mul, ← Nat.pow_add, Nat.div_add_mod]
  rw [e]
  have h1 : (b ^ m) ^ (n / m) % l = 1 % l := by rw [powmod hm, Nat.one_pow]
  rw [mulmod h1 (rfl : b ^ (n % m) % l = b ^ (n % m) % l), Nat.one_mul]
theorem pow_gcd {b l : Nat} : ∀ m n : Nat, b ^ m % l = 1 % l → b ^ n % l = 1 % l → b ^ (Nat.gcd m n) % l = 1 % l := by
  intro m n
  refine Nat.gcd.induction (P := fun m n => b ^ m % l = 1 % l → b ^ n % l = 1 % l → b ^ (Nat.gcd m n) % l = 1 % l) m n ?_ ?_
  · intro n _ h; simpa using h
  · intro m n _ ih h1 h2
    rw [Nat.gcd_rec]
    exact ih (by rw [← pow_rem h1]; exact h2) h1
theorem pow_less {b l F i j : Nat} (hF : b ^ F % l = 1 % l) (hi : i ≤ F) (hij : i ≤ j) (h : b ^ i % l = b ^ j % l) : b ^ (j - i) % l = 1 % l := by
  have h1 := mulmod h (rfl : b ^ (F - i) % l = b ^ (F - i) % l)
  rw [← Nat.pow_add, ← Nat.pow_add, show i + (F - i) = F by omega, show j + (F - i) = (j - i) + F by omega, Nat.pow_add, hF,
    mulmod (rfl : b ^ (j - i) % l = b ^ (j - i) % l) hF, Nat.mul_one] at h1
  exact h1.symm

theorem pigeon : ∀ (n : Nat) (g : Nat → Nat), (∀ i, i ≤ n → g i < n) → ∃ i j, i < j ∧ j ≤ n ∧ g i = g j := by
  intro n
  induction n with
  | zero => intro g h; exact absurd (h 0 (Nat.le_refl _)) (by omega)
  | succ n ih =>
    intro g h
    by_cases hex : ∃ i, i ≤ n ∧ g i = g (n + 1)
    · obtain ⟨i, hi, he⟩ := hex
      exact ⟨i, n + 1, by omega, Nat.le_refl _, he⟩
    · have hne : ∀ i, i ≤ n → g i ≠ g (n + 1) := fun i hi he => hex ⟨i, hi, he⟩
      obtain ⟨i, j, hij, hj, he⟩ := ih (fun i => if g i = n then g (n + 1) else g i) (fun i hi => by
        have h1 := h i (by omega)
        have h2 := h (n + 1) (Nat.le_refl _)
        have h3 := hne i hi
        by_cases hg : g i = n
        · show (if g i = n then g (n + 1) else g i) < n
          rw [if_pos hg]; omega
        · show (if g i = n then g (n + 1) else g i) < n
          rw [if_neg hg]; omega)
      have hi' := hne i (by omega)
      have hj' := hne j hj
      refine ⟨i, j, hij, by omega, ?_⟩
      have he : (if g i = n then g (n + 1) else g i) = (if g j = n then g (n + 1) else g j) := he
      by_cases h1 : g i = n
      · by_cases h2 : g j = n
        · omega
        · rw [if_pos h1, if_neg h2] at he; exact absurd he.symm hj'
      · by_cases h2 : g j = n
        · rw [if_neg h1, if_pos h2] at he; exact absurd he hi'
        · rw [if_neg h1, if_neg h2] at he; exact he

/-- no number from 2 up to this one is a divisor -/
def noDiv (n : Nat) : Nat → Bool
  | 0 => true
  | d + 1 => (d == 0 || n % (d + 1) != 0) && noDiv n d
theorem noDiv_spec (n : Nat) : ∀ k, noDiv n k = true → ∀ d, 2 ≤ d → d ≤ k → ¬ d ∣ n := by
  intro k
  induction k with
  | zero => intro _ d h1 h2; omega
  | succ k ih =>
    intro h d h1 h2 hd
    unfold noDiv at h
    rw [Bool.and_eq_true] at h
    by_cases hk : d = k + 1
    · have h3 := h.1
      rw [← hk, Nat.mod_eq_zero_of_dvd hd] at h3
      have : k ≠ 0 := by omega
      simp [this] at h3
    · exact ih h.2 d h1 (by omega) hd
theorem prime_of_noDiv {n k : Nat} (hn : 0 < n) (hk : n < (k + 1) * (k + 1)) (h : noDiv n k = true) : ∀ d, d ∣ n → d = 1 ∨ d = n := by
  intro d hd
  obtain ⟨c, hc⟩ := hd
  have hs := noDiv_spec n k h
  by_cases h1 : d = 1
  · exact .inl h1
  by_cases h2 : c = 1
  · exact .inr (by rw [hc, h2, Nat.mul_one])
  have hd0 : d ≠ 0 := by intro h0; rw [h0, Nat.zero_mul] at hc; omega
  have hc0 : c ≠ 0 := by intro h0; rw [h0, Nat.mul_zero] at hc; omega
  exfalso
  by_cases h3 : d ≤ k
  · exact hs d (by omega) h3 ⟨c, hc⟩
  · by_cases h4 : c ≤ k
    · exact hs c (by omega) h4 ⟨d, by rw [hc, Nat.mul_comm]⟩
    · have := Nat.mul_le_mul (show k + 1 ≤ d by omega) (show k + 1 ≤ c by omega)
      omega

/-- the two prime factors of one less than the order that are used, and an element of their product's order -/
def f1 : Nat := 23
def f2 : Nat := 62196263
def bB : Nat := 266917589997394052
theorem f1_prime : ∀ d, d ∣ f1 → d = 1 ∨ d = f1 := prime_of_noDiv (k := 4) (by decide) (by decide) (by decide)
theorem f2_prime : ∀ d, d ∣ f2 → d = 1 ∨ d = f2 := prime_of_noDiv (k := 7886) (by decide) (by decide) (by decide +kernel)
theorem bB_F : bB ^ (f1 * f2) % qQ = 1 % qQ := by
  rw [← powm_eq qQ 40 _ _ (by decide)]; decide +kernel
theorem bB_1 : Nat.gcd (bB ^ f1 % qQ + (qQ - 1)) qQ = 1 := by
  rw [← powm_eq qQ 40 _ _ (by decide)]; decide +kernel
theorem bB_2 : Nat.gcd (bB ^ f2 % qQ + (qQ - 1)) qQ = 1 := by
  rw [← powm_eq qQ 40 _ _ (by decide)]; decide +kernel

theorem not_one {l e : Nat} (hl : 1 < l) (hd : l ∣ qQ) (hg : Nat.gcd (bB ^ e % qQ + (qQ - 1)) qQ = 1) : bB ^ e % l ≠ 1 % l := by
  intro h
  have h1 : (bB ^ e % qQ) % l = 1 % l := by rw [Nat.mod_mod_of_dvd _ hd]; exact h
  have h2 : l ∣ bB ^ e % qQ + (qQ - 1) := by
    refine Nat.dvd_of_mod_eq_zero ?_
    rw [Nat.add_mod, h1, ← Nat.add_mod, show 1 + (qQ - 1) = qQ from rfl]
    exact Nat.mod_eq_zero_of_dvd hd
  have h3 := Nat.dvd_gcd h2 hd
  rw [hg] at h3
  have := Nat.le_of_dvd (by omega) h3
  omega
theorem dvd_cases {g : Nat} (h : g ∣ f1 * f2) : g = f1 * f2 ∨ g ∣ f1 ∨ g ∣ f2 := by
  rcases f1_prime _ (Nat.gcd_dvd_right g f1) with h1 | h1
  · exact .inr (.inr (Nat.Coprime.dvd_of_dvd_mul_left h1 h))
  · have hd : f1 ∣ g := by rw [← h1]; exact Nat.gcd_dvd_left g f1
    obtain ⟨c, rfl⟩ := hd
    have hc : c ∣ f2 := Nat.dvd_of_mul_dvd_mul_left (by decide) h
    rcases f2_prime c hc with rfl | rfl
    · exact .inr (.inl (by rw [Nat.mul_one]; exact Nat.dvd_refl _))
    · exact .inl rfl
/-- each divisor of the order but 1 is great -/
theorem divisor_great {l : Nat} (hl : 1 < l) (hd : l ∣ qQ) : f1 * f2 ≤ l := by
  refine Nat.le_of_not_lt fun hlt => ?_
  have hF : bB ^ (f1 * f2) % l = 1 % l := pow_mod_dvd hd bB_F
  obtain ⟨i, j, hij, hj, he⟩ := pigeon l (fun i => bB ^ i % l) (fun i _ => Nat.mod_lt _ (by omega))
  have h1 := pow_less hF (show i ≤ f1 * f2 by omega) (show i ≤ j by omega) he
  have hg := pow_gcd _ _ h1 hF
  have hgd := Nat.gcd_dvd_right (j - i) (f1 * f2)
  have hgl := Nat.le_of_dvd (by omega) (Nat.gcd_dvd_left (j - i) (f1 * f2))
  generalize Nat.gcd (j - i) (f1 * f2) = g at *
  rcases dvd_cases hgd with h | ⟨c, hc⟩ | ⟨c, hc⟩
  · omega
  · refine not_one hl hd bB_1 ?_
    rw [hc, Nat.pow_mul, powmod hg, Nat.one_pow]
  · refine not_one hl hd bB_2 ?_
    rw [hc, Nat.pow_mul, powmod hg, Nat.one_pow]
theorem q_prime {d : Nat} (h : d ∣ qQ) : d = 1 ∨ d = qQ := by
  obtain ⟨c, hc⟩ := h
  have hd0 : d ≠ 0 := by intro h0; rw [h0, Nat.zero_mul] at hc; exact absurd hc (by decide)
  have hc0 : c ≠ 0 := by intro h0; rw [h0, Nat.mul_zero] at hc; exact absurd hc (by decide)
  by_cases h1 : d = 1
  · exact .inl h1
  by_cases h2 : c = 1
  · exact .inr (by rw [hc, h2, Nat.mul_one])
  have g1 := divisor_great (show 1 < d by omega) ⟨c, hc⟩
  have g2 := divisor_great (show 1 < c by omega) ⟨d, by rw [hc, Nat.mul_comm]⟩
  have := Nat.mul_le_mul g1 g2
  rw [← hc] at this
  exact absurd this (by decide)
theorem coprime_q {d : Nat} (h0 : 0 < d) (h1 : d < qQ) : Nat.gcd d qQ = 1 := by
  rcases q_prime (Nat.gcd_dvd_right d qQ) with h | h
  · exact h
  · have := Nat.le_of_dvd h0 (Nat.gcd_dvd_left d qQ)
    omega

/-- the base to the order is 1 -/
theorem four_q : 4 ^ qQ % pP = 1 % pP := by
  rw [← powm_eq pP 60 _ _ (by decide)]; decide +kernel
theorem four_order {d : Nat} (h0 : 0 < d) (h1 : d < qQ) : 4 ^ d % pP ≠ 1 % pP := by
  intro h
  have := pow_gcd _ _ h four_q
  rw [coprime_q h0 h1] at this
  exact absurd this (by decide)
theorem four_inj {s t : Nat} (hs : s < qQ) (ht : t < qQ) (h : 4 ^ s % pP = 4 ^ t % pP) : s = t := by
  rcases Nat.lt_trichotomy s t with hl | hl | hl
  · exact absurd (pow_less four_q (by omega) (by omega) h) (four_order (by omega) (by omega))
  · exact hl
  · exact absurd (pow_less four_q (by omega) (by omega) h.symm) (four_order (by omega) (by omega))
theorem four_not_zero (e : Nat) : 4 ^ e % pP ≠ 0 := by
  intro h
  have h1 : 4 ^ e * 4 ^ (qQ * e - e + 0) % pP = 0 := by rw [Nat.mul_mod, h, Nat.zero_mul, Nat.zero_mod]
  rw [← Nat.pow_add, show e + (qQ * e - e + 0) = qQ * e by
    have := Nat.le_mul_of_pos_left e (show 0 < qQ by decide); omega, Nat.pow_mul, powmod four_q, Nat.one_pow] at h1
  exact absurd h1 (by decide)
end Go.Proofs.YtooemgkjkngpcaaDoor
namespace Go.Proofs.YtooemgkjkngpcaaDoor
open Go.RowKit

set_option maxRecDepth 100000 in
set_option maxHeartbeats 400000 in
theorem len64_p (w : World) : Calls Tryd.prog 79 #[.int .u64 (1152921504606849707 : Int)] w fun e w' => e = .returned (.int .i64 61) ∧ w' = w := by
  go_enter Tryd.func79, Tryd.ntmps79
  go_wp2
  go_ret
  exact ⟨by kernel_rfl, rfl⟩
set_option maxRecDepth 100000 in
set_option maxHeartbeats 400000 in
theorem len64_q (w : World) : Calls Tryd.prog 79 #[.int .u64 (576460752303424853 : Int)] w fun e w' => e = .returned (.int .i64 60) ∧ w' = w := by
  go_enter Tryd.func79, Tryd.ntmps79
  go_wp2
  go_ret
  exact ⟨by kernel_rfl, rfl⟩

theorem w64_sub (a b : Nat) (h : b ≤ a) (h' : a < 18446744073709551616) : IntKind.u64.wrap ((a : Int) - (b : Int)) = ((a - b : Nat) : Int) := by
  rw [← Int.ofNat_sub h]; exact w64 _ (by omega)
theorem w64_div (a b : Nat) (h : a < 18446744073709551616) : IntKind.u64.wrap ((a : Int) / (b : Int)) = ((a / b : Nat) : Int) := by
  rw [← Int.natCast_ediv]; exact w64 _ (Nat.lt_of_le_of_lt (Nat.div_le_self _ _) h)
theorem w64_mod3 (a b c : Nat) (h : c ≤ a * 4294967296 + b) (h' : a * 4294967296 + b - c < 18446744073709551616) :
    IntKind.u64.wrap (((a * 4294967296 % 18446744073709551616 + b) % 18446744073709551616 : Nat) - ((c % 18446744073709551616 : Nat) : Int)) = ((a * 4294967296 + b - c : Nat) : Int) := by
  simp only [IntKind.wrap, IntKind.bits, IntKind.signed]
  simp
  omega
theorem w64_mullit (a : Nat) : IntKind.u64.wrap ((a : Int) * 4294967296) = ((a * 4294967296 % 18446744073709551616 : Nat) : Int) := w64_mulmod a 4294967296
theorem w64_addmod (a b : Nat) : IntKind.u64.wrap ((a : Int) + (b : Int)) = (((a + b) % 18446744073709551616 : Nat) : Int) := by
  rw [← Int.natCast_add]
  simp [IntKind.wrap, IntKind.bits, IntKind.signed]
theorem guess_lt {k v0 : Nat} (h : k < 4294967296) (h' : v0 < 4294967296) : k * v0 < 18446744073709551616 := by
  have := Nat.mul_le_mul (show k ≤ 4294967295 by omega) (show v0 ≤ 4294967295 by omega)
  omega
/-- what the walk must know of a guess ahead of its round's test -/
theorem test_facts {k m v0 u1 : Nat} (hm : m < 4294967296) (hu1 : u1 < 4294967296) (hv0 : v0 < 4294967296) (hk : k < 4294967296) : ∃ a b c : Nat, IntKind.u64.wrap ((k : Int) * (v0 : Int)) = (a : Int) ∧ IntKind.u64.wrap (4294967296 * (m : Int)) = (b : Int) ∧ IntKind.u64.wrap ((b : Int) + (u1 : Int)) = (c : Int) ∧ a = k * v0 ∧ c = 4294967296 * m + u1 :=
  ⟨k * v0, 4294967296 * m, 4294967296 * m + u1, w64_mul _ _ (guess_lt hk hv0), w64_mul 4294967296 m (by omega), w64_add _ _ (by omega), rfl, rfl⟩
/-- and of a guess that is made -/
theorem start_facts {u v1 : Nat} (h : u < 18446744073709551616) : ∃ q x r : Nat, IntKind.u64.wrap ((u : Int) / (v1 : Int)) = (q : Int) ∧ IntKind.u64.wrap ((q : Int) * (v1 : Int)) = (x : Int) ∧ IntKind.u64.wrap ((u : Int) - (x : Int)) = (r : Int) ∧ q = u / v1 ∧ r = u % v1 := by
  have h1 : u / v1 * v1 ≤ u := Nat.div_mul_le_self u v1
  refine ⟨u / v1, u / v1 * v1, u - u / v1 * v1, w64_div _ _ h, w64_mul _ _ (by omega), w64_sub _ _ h1 h, rfl, ?_⟩
  have := Nat.div_add_mod u v1
  rw [Nat.mul_comm] at this
  omega
/-- and of what is left behind a word of the quotient -/
theorem left_facts {u u1 k v1 v0 Y : Nat} (hq : Quot u u1 v1 v0 k) (hY : Y = v1 * 4294967296 + v0) (hY' : Y < 18446744073709551616) :
    ∃ a1 a2 a3 R : Nat, IntKind.u64.wrap ((u : Int) * 4294967296) = (a1 : Int) ∧ IntKind.u64.wrap ((a1 : Int) + (u1 : Int)) = (a2 : Int) ∧ IntKind.u64.wrap ((k : Int) * (Y : Int)) = (a3 : Int) ∧ IntKind.u64.wrap ((a2 : Int) - (a3 : Int)) = (R : Int) ∧ R = u * 4294967296 + u1 - k * (v1 * 4294967296 + v0) ∧ R < v1 * 4294967296 + v0 := by
  subst hY
  have hl := quot_left hq
  exact ⟨_, _, _, u * 4294967296 + u1 - k * (v1 * 4294967296 + v0), w64_mullit u, w64_addmod _ u1, w64_mulmod k _, w64_mod3 _ _ _ hq.1 (by omega), rfl, hl⟩


end Go.Proofs.YtooemgkjkngpcaaDoor
namespace Go.Proofs.YtooemgkjkngpcaaDoor
open Go.RowKit




end Go.Proofs.YtooemgkjkngpcaaDoor
namespace Go.Proofs.YtooemgkjkngpcaaDoor
open Go.RowKit

def mulP (a b : Nat) : Nat := a * b % pP
def mulQ (a b : Nat) : Nat := a * b % qQ
def powP (b e : Nat) : Nat := b ^ e % pP
theorem mulP_lt (a b : Nat) : mulP a b < 1152921504606849707 := Nat.mod_lt _ (by decide)
theorem mulQ_lt (a b : Nat) : mulQ a b < 576460752303424853 := Nat.mod_lt _ (by decide)
theorem powP_lt (a b : Nat) : powP a b < 1152921504606849707 := Nat.mod_lt _ (by decide)
theorem drewN_add (w : World) (a b : Nat) : (w.drewN a).drewN b = w.drewN (a + b) := by
  simp [World.drewN, Nat.add_assoc]


/-- what a power by squaring keeps -/
def PowAt (b e o x k : Nat) : Prop := o < 1152921504606849707 ∧ x < 18446744073709551616 ∧ k < 18446744073709551616 ∧ o * x ^ k % pP = powP b e
theorem powAt_start {b e : Nat} (hb : b < 18446744073709551616) (he : e < 18446744073709551616) : PowAt b e 1 b e := ⟨by omega, hb, he, by rw [Nat.one_mul]; rfl⟩
theorem powAt_odd {b e o x k : Nat} (h : PowAt b e o x k) (hk : k % 2 = 1) : PowAt b e (mulP o x) (mulP x x) (k / 2) := by
  obtain ⟨h1, h2, h3, h4⟩ := h
  refine ⟨mulP_lt _ _, by have := mulP_lt x x; omega, by omega, ?_⟩
  rw [← h4]
  have e1 : x ^ k = x * (x * x) ^ (k / 2) := by
    rw [← Nat.pow_two, ← Nat.pow_mul, ← Nat.pow_succ', show (2 * (k / 2)).succ = k by omega]
  rw [e1, ← Nat.mul_assoc]
  exact mulmod (Nat.mod_mod _ _) (powmod (Nat.mod_mod _ _) _)
theorem powAt_even {b e o x k : Nat} (h : PowAt b e o x k) (hk : k % 2 = 0) : PowAt b e o (mulP x x) (k / 2) := by
  obtain ⟨h1, h2, h3, h4⟩ := h
  refine ⟨h1, by have := mulP_lt x x; omega, by omega, ?_⟩
  rw [← h4]
  have e1 : x ^ k = (x * x) ^ (k / 2) := by
    rw [← Nat.pow_two, ← Nat.pow_mul, show 2 * (k / 2) = k by omega]
  rw [e1]
  exact mulmod rfl (powmod (Nat.mod_mod _ _) _)
theorem powAt_end {b e o x : Nat} (h : PowAt b e o x 0) : o = powP b e := by
  obtain ⟨h1, _, _, h4⟩ := h
  rw [← h4, Nat.pow_zero, Nat.mul_one]
  exact (Nat.mod_eq_of_lt h1).symm

end Go.Proofs.YtooemgkjkngpcaaDoor
namespace Go.Proofs.YtooemgkjkngpcaaDoor
open Go.RowKit

/-- bytes as a number, the high one first -/
def numL (l : List (BitVec 8)) : Nat := l.foldl (fun n b => n * 256 + b.toNat) 0
theorem numL_snoc (l : List (BitVec 8)) (b : BitVec 8) : numL (l ++ [b]) = numL l * 256 + b.toNat := by simp [numL]
theorem numL_lt : ∀ n (l : List (BitVec 8)), l.length = n → numL l < 256 ^ n := by
  intro n
  induction n with
  | zero => intro l h; rw [List.length_eq_zero_iff.1 h]; decide
  | succ n ih =>
    intro l h
    obtain ⟨r, b, rfl⟩ : ∃ r b, l = r ++ [b] := ⟨l.dropLast, l.getLast (by intro h0; rw [h0] at h; simp at h), (List.dropLast_concat_getLast _).symm⟩
    rw [numL_snoc, Nat.pow_succ]
    have h1 := ih r (by simpa using h)
    have := b.isLt
    omega
/-- the number that a digest begins with -/
def shaN (l : List (BitVec 8)) : Nat := numL ((sha l).take 8)
theorem shaN_lt (l : List (BitVec 8)) : shaN l < 18446744073709551616 := by
  exact numL_lt 8 _ (by rw [List.length_take, sha_length]; rfl)

/-- new lists of what is there -/
theorem or_byte (n : Nat) (b : BitVec 8) (hn : n < 72057594037927936) : bits .or .u64 (IntKind.u64.wrap ((n : Int) * 256)) (b8 b) = ((n * 256 + b.toNat : Nat) : Int) := by
  have hb := b.isLt
  have h1 : IntKind.u64.wrap ((n : Int) * 256) = ((n * 256 : Nat) : Int) := w64_mul n 256 (by omega)
  have h2 : b8 b = ((b.toNat : Nat) : Int) := rfl
  rw [h1, h2, u64_or_nat _ _ (by omega) (by omega)]
  have := Nat.two_pow_add_eq_or_of_lt (i := 8) (show b.toNat < 2 ^ 8 by omega) n
  rw [show (2 : Nat) ^ 8 = 256 from rfl, Nat.mul_comm 256 n] at this
  rw [this]

end Go.Proofs.YtooemgkjkngpcaaDoor
namespace Go.Proofs.YtooemgkjkngpcaaDoor
open Go.RowKit

def keyB : List (BitVec 8) := [107, 101, 121]
def onceB : List (BitVec 8) := [111, 110, 99, 101]
def expN (l : List (BitVec 8)) : Nat := 1 + shaN l % (qQ - 1)
def askN (r k : Nat) (m : List (BitVec 8)) : Nat := shaN (be8 r ++ (be8 k ++ m)) % qQ
def secretN (seed : List (BitVec 8)) : Nat := expN (keyB ++ seed)
def keyN (seed : List (BitVec 8)) : Nat := powP 4 (secretN seed)
theorem expN_pos (l : List (BitVec 8)) : 0 < expN l := by unfold expN; omega
theorem expN_lt (l : List (BitVec 8)) : expN l < 576460752303424853 := by
  unfold expN
  have : shaN l % (qQ - 1) < 576460752303424852 := Nat.mod_lt _ (by decide)
  omega
theorem askN_lt (r k : Nat) (m : List (BitVec 8)) : askN r k m < 576460752303424853 := Nat.mod_lt _ (by decide)
theorem be8_length (n : Nat) : (be8 n).length = 8 := rfl

/-- a constant text turned to bytes -/
theorem conv_const (w : World) (C : Array Value) (n c : Nat) : (convert 46 46 (.slice (some ⟨w.heap.size, 0, none⟩) n c)).run Tryd.prog (w.alloc (.cells C 5)) = .ok (.slice (some ⟨w.heap.size, 0, none⟩) n c) (w.alloc (.cells C 5 (C.size, C.size + 1))) :=
  Lib.run_convert_bytes_const w 46 5 C n c Tryd.underlying46 Tryd.underlying5

end Go.Proofs.YtooemgkjkngpcaaDoor
namespace Go.Proofs.YtooemgkjkngpcaaDoor
open Go.RowKit

def onceN (seed m : List (BitVec 8)) : Nat := expN (onceB ++ (be8 (secretN seed) ++ m))
def sealR (seed m : List (BitVec 8)) : Nat := powP 4 (onceN seed m)
def sealE (seed m : List (BitVec 8)) : Nat := askN (sealR seed m) (keyN seed) m
def sealS (seed m : List (BitVec 8)) : Nat := (onceN seed m + mulQ (sealE seed m) (secretN seed)) % qQ
theorem secretN_lt (l : List (BitVec 8)) : secretN l < 576460752303424853 := expN_lt _
theorem onceN_lt (l m : List (BitVec 8)) : onceN l m < 576460752303424853 := expN_lt _
theorem keyN_lt (l : List (BitVec 8)) : keyN l < 1152921504606849707 := powP_lt _ _
theorem sealR_lt (l m : List (BitVec 8)) : sealR l m < 1152921504606849707 := powP_lt _ _
theorem sealE_lt (l m : List (BitVec 8)) : sealE l m < 576460752303424853 := askN_lt _ _ _
theorem sealS_lt (l m : List (BitVec 8)) : sealS l m < 576460752303424853 := Nat.mod_lt _ (by decide)
theorem below_drewN (w : World) (n N : Nat) : Below N w (w.drewN n) := ⟨rfl, rfl, rfl, Nat.le_refl _, fun _ _ => rfl⟩

end Go.Proofs.YtooemgkjkngpcaaDoor
namespace Go.Proofs.YtooemgkjkngpcaaDoor
open Go.RowKit

/-- a key to the order -/
def powQ (k : Nat) : Nat := powP k qQ
/-- a seal is good -/
def goodN (key : Nat) (m : List (BitVec 8)) (r s : Nat) : Prop :=
  (1 ≤ key ∧ key < 1152921504606849707) ∧ (1 ≤ r ∧ r < 1152921504606849707) ∧ s < 576460752303424853 ∧ powQ key = 1 ∧ powP 4 s = mulP r (powP key (askN r key m))


end Go.Proofs.YtooemgkjkngpcaaDoor
