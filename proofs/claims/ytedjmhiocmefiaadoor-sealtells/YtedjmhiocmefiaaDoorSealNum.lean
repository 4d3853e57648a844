/-
  Plain mathematics of powers under a modulus: powers by squaring; the order is a prime (Pocklington's criterion, in a form that wants no order of an element); the base has that order. No program is named here.
-/
namespace Go.Proofs.YtedjmhiocmefiaaDoor

def pP : Nat := 1152921504606849707
def qQ : Nat := 576460752303424853

theorem mulmod {n a a' b b' : Nat} (h1 : a % n = a' % n) (h2 : b % n = b' % n) : a * b % n = a' * b' % n := by
  rw [Nat.mul_mod, h1, h2, ← Nat.mul_mod]
theorem powmod {n a a' : Nat} (h : a % n = a' % n) (e : Nat) : a ^ e % n = a' ^ e % n := by
  rw [Nat.pow_mod, h, ← Nat.pow_mod]
theorem pow_mod_dvd {n l a b : Nat} (hl : l ∣ n) (h : a % n = b % n) : a % l = b % l := by
  rw [← Nat.mod_mod_of_dvd a hl, h, Nat.mod_mod_of_dvd b hl]

/-- a power under a modulus, by squaring: for the kernel -/
def powm (m : Nat) : Nat → Nat → Nat → Nat
  | 0, _, _ => 1 % m
  | f + 1, b, e => if e = 0 then 1 % m else if e % 2 = 1 then b * powm m f (b * b % m) (e / 2) % m else powm m f (b * b % m) (e / 2)
theorem powm_eq (m : Nat) : ∀ f b e, e < 2 ^ f → powm m f b e = b ^ e % m := by
  intro f
  induction f with
  | zero => intro b e h; have : e = 0 := by simpa using h
            subst this; rfl
  | succ f ih =>
    intro b e h
    unfold powm
    have hsq : powm m f (b * b % m) (e / 2) = (b * b) ^ (e / 2) % m := by
      rw [ih _ _ (by rw [Nat.pow_succ] at h; omega)]
      exact powmod (Nat.mod_mod _ _) _
    by_cases h0 : e = 0
    · rw [if_pos h0, h0]; rfl
    · rw [if_neg h0]
      by_cases h1 : e % 2 = 1
      · rw [if_pos h1, hsq]
        have e2 : b ^ e = b * (b * b) ^ (e / 2) := by
          rw [← Nat.pow_two, ← Nat.pow_mul, ← Nat.pow_succ', show (2 * (e / 2)).succ = e by omega]
        rw [e2]
        exact mulmod rfl (Nat.mod_mod _ _)
      · rw [if_neg h1, hsq]
        rw [← Nat.pow_two, ← Nat.pow_mul, show 2 * (e / 2) = e by omega]

theorem pow_rem {b l m n : Nat} (hm : b ^ m % l = 1 % l) : b ^ n % l = b ^ (n % m) % l := by
  have e : b ^ n = (b ^ m) ^ (n / m) * b ^ (n % m) := by rw [← Nat.pow_mul, ← Nat.pow_add, Nat.div_add_mod]
  rw [e]
  have h1 : (b ^ m) ^ (n / m) % l = 1 % l := by rw [powmod hm, Nat.one_pow]
  rw [mulmod h1 (rfl : b ^ (n % m) % l = b ^ (n % m) % l), Nat.one_mul]
theorem pow_gcd {b l : Nat} : ∀ m n : Nat, b ^ m % l = 1 % l → b ^ n % l = 1 % l → b ^ (Nat.gcd m n) % l = 1 % l := by
  intro m n
  refine Nat.gcd.induction (P := fun m n => b ^ m % l = 1 % l → b ^ n % l = 1 % l → b ^ (Nat.gcd m n) % l = 1 % l) m n ?_ ?_
  · intro n _ h; simpa using h
  · intro m n _ ih h1 h2
    rw [Nat.gcd_rec]
    exact ih (by rw [← pow_rem h1]; exact h2) h1
theorem pow_less {b l F i j : Nat} (hF : b ^ F % l = 1 % l) (hi : i ≤ F) (hij : i ≤ j) (h : b ^ i % l = b ^ j % l) : b ^ (j - i) % l = 1 % l := by
  have h1 := mulmod h (rfl : b ^ (F - i) % l = b ^ (F - i) % l)
  rw [← Nat.pow_add, ← Nat.pow_add, show i + (F - i) = F by omega, show j + (F - i) = (j - i) + F by omega, Nat.pow_add, hF,
    mulmod (rfl : b ^ (j - i) % l = b ^ (j - i) % l) hF, Nat.mul_one] at h1
  exact h1.symm

theorem pigeon : ∀ (n : Nat) (g : Nat → Nat), (∀ i, i ≤ n → g i < n) → ∃ i j, i < j ∧ j ≤ n ∧ g i = g j := by
  intro n
  induction n with
  | zero => intro g h; exact absurd (h 0 (Nat.le_refl _)) (by omega)
  | succ n ih =>
    intro g h
    by_cases hex : ∃ i, i ≤ n ∧ g i = g (n + 1)
    · obtain ⟨i, hi, he⟩ := hex
      exact ⟨i, n + 1, by omega, Nat.le_refl _, he⟩
    · have hne : ∀ i, i ≤ n → g i ≠ g (n + 1) := fun i hi he => hex ⟨i, hi, he⟩
      obtain ⟨i, j, hij, hj, he⟩ := ih (fun i => if g i = n then g (n + 1) else g i) (fun i hi => by
        have h1 := h i (by omega)
        have h2 := h (n + 1) (Nat.le_refl _)
        have h3 := hne i hi
        by_cases hg : g i = n
        · show (if g i = n then g (n + 1) else g i) < n
          rw [if_pos hg]; omega
        · show (if g i = n then g (n + 1) else g i) < n
          rw [if_neg hg]; omega)
      have hi' := hne i (by omega)
      have hj' := hne j hj
      refine ⟨i, j, hij, by omega, ?_⟩
      have he : (if g i = n then g (n + 1) else g i) = (if g j = n then g (n + 1) else g j) := he
      by_cases h1 : g i = n
      · by_cases h2 : g j = n
        · omega
        · rw [if_pos h1, if_neg h2] at he; exact absurd he.symm hj'
      · by_cases h2 : g j = n
        · rw [if_neg h1, if_pos h2] at he; exact absurd he hi'
        · rw [if_neg h1, if_neg h2] at he; exact he

/-- no number from 2 up to this one is a divisor -/
def noDiv (n : Nat) : Nat → Bool
  | 0 => true
  | d + 1 => (d == 0 || n % (d + 1) != 0) && noDiv n d
theorem noDiv_spec (n : Nat) : ∀ k, noDiv n k = true → ∀ d, 2 ≤ d → d ≤ k → ¬ d ∣ n := by
  intro k
  induction k with
  | zero => intro _ d h1 h2; omega
  | succ k ih =>
    intro h d h1 h2 hd
    unfold noDiv at h
    rw [Bool.and_eq_true] at h
    by_cases hk : d = k + 1
    · have h3 := h.1
      rw [← hk, Nat.mod_eq_zero_of_dvd hd] at h3
      have : k ≠ 0 := by omega
      simp [this] at h3
    · exact ih h.2 d h1 (by omega) hd
theorem prime_of_noDiv {n k : Nat} (hn : 0 < n) (hk : n < (k + 1) * (k + 1)) (h : noDiv n k = true) : ∀ d, d ∣ n → d = 1 ∨ d = n := by
  intro d hd
  obtain ⟨c, hc⟩ := hd
  have hs := noDiv_spec n k h
  by_cases h1 : d = 1
  · exact .inl h1
  by_cases h2 : c = 1
  · exact .inr (by rw [hc, h2, Nat.mul_one])
  have hd0 : d ≠ 0 := by intro h0; rw [h0, Nat.zero_mul] at hc; omega
  have hc0 : c ≠ 0 := by intro h0; rw [h0, Nat.mul_zero] at hc; omega
  exfalso
  by_cases h3 : d ≤ k
  · exact hs d (by omega) h3 ⟨c, hc⟩
  · by_cases h4 : c ≤ k
    · exact hs c (by omega) h4 ⟨d, by rw [hc, Nat.mul_comm]⟩
    · have := Nat.mul_le_mul (show k + 1 ≤ d by omega) (show k + 1 ≤ c by omega)
      omega

/-- the two prime factors of one less than the order that are used, and an element of their product's order -/
def f1 : Nat := 23
def f2 : Nat := 62196263
def bB : Nat := 266917589997394052
theorem f1_prime : ∀ d, d ∣ f1 → d = 1 ∨ d = f1 := prime_of_noDiv (k := 4) (by decide) (by decide) (by decide)
theorem f2_prime : ∀ d, d ∣ f2 → d = 1 ∨ d = f2 := prime_of_noDiv (k := 7886) (by decide) (by decide) (by decide +kernel)
theorem bB_F : bB ^ (f1 * f2) % qQ = 1 % qQ := by
  rw [← powm_eq qQ 40 _ _ (by decide)]; decide +kernel
theorem bB_1 : Nat.gcd (bB ^ f1 % qQ + (qQ - 1)) qQ = 1 := by
  rw [← powm_eq qQ 40 _ _ (by decide)]; decide +kernel
theorem bB_2 : Nat.gcd (bB ^ f2 % qQ + (qQ - 1)) qQ = 1 := by
  rw [← powm_eq qQ 40 _ _ (by decide)]; decide +kernel

theorem not_one {l e : Nat} (hl : 1 < l) (hd : l ∣ qQ) (hg : Nat.gcd (bB ^ e % qQ + (qQ - 1)) qQ = 1) : bB ^ e % l ≠ 1 % l := by
  intro h
  have h1 : (bB ^ e % qQ) % l = 1 % l := by rw [Nat.mod_mod_of_dvd _ hd]; exact h
  have h2 : l ∣ bB ^ e % qQ + (qQ - 1) := by
    refine Nat.dvd_of_mod_eq_zero ?_
    rw [Nat.add_mod, h1, ← Nat.add_mod, show 1 + (qQ - 1) = qQ from rfl]
    exact Nat.mod_eq_zero_of_dvd hd
  have h3 := Nat.dvd_gcd h2 hd
  rw [hg] at h3
  have := Nat.le_of_dvd (by omega) h3
  omega
theorem dvd_cases {g : Nat} (h : g ∣ f1 * f2) : g = f1 * f2 ∨ g ∣ f1 ∨ g ∣ f2 := by
  rcases f1_prime _ (Nat.gcd_dvd_right g f1) with h1 | h1
  · exact .inr (.inr (Nat.Coprime.dvd_of_dvd_mul_left h1 h))
  · have hd : f1 ∣ g := by rw [← h1]; exact Nat.gcd_dvd_left g f1
    obtain ⟨c, rfl⟩ := hd
    have hc : c ∣ f2 := Nat.dvd_of_mul_dvd_mul_left (by decide) h
    rcases f2_prime c hc with rfl | rfl
    · exact .inr (.inl (by rw [Nat.mul_one]; exact Nat.dvd_refl _))
    · exact .inl rfl
/-- each divisor of the order but 1 is great -/
theorem divisor_great {l : Nat} (hl : 1 < l) (hd : l ∣ qQ) : f1 * f2 ≤ l := by
  refine Nat.le_of_not_lt fun hlt => ?_
  have hF : bB ^ (f1 * f2) % l = 1 % l := pow_mod_dvd hd bB_F
  obtain ⟨i, j, hij, hj, he⟩ := pigeon l (fun i => bB ^ i % l) (fun i _ => Nat.mod_lt _ (by omega))
  have h1 := pow_less hF (show i ≤ f1 * f2 by omega) (show i ≤ j by omega) he
  have hg := pow_gcd _ _ h1 hF
  have hgd := Nat.gcd_dvd_right (j - i) (f1 * f2)
  have hgl := Nat.le_of_dvd (by omega) (Nat.gcd_dvd_left (j - i) (f1 * f2))
  generalize Nat.gcd (j - i) (f1 * f2) = g at *
  rcases dvd_cases hgd with h | ⟨c, hc⟩ | ⟨c, hc⟩
  · omega
  · refine not_one hl hd bB_1 ?_
    rw [hc, Nat.pow_mul, powmod hg, Nat.one_pow]
  · refine not_one hl hd bB_2 ?_
    rw [hc, Nat.pow_mul, powmod hg, Nat.one_pow]
theorem q_prime {d : Nat} (h : d ∣ qQ) : d = 1 ∨ d = qQ := by
  obtain ⟨c, hc⟩ := h
  have hd0 : d ≠ 0 := by intro h0; rw [h0, Nat.zero_mul] at hc; exact absurd hc (by decide)
  have hc0 : c ≠ 0 := by intro h0; rw [h0, Nat.mul_zero] at hc; exact absurd hc (by decide)
  by_cases h1 : d = 1
  · exact .inl h1
  by_cases h2 : c = 1
  · exact .inr (by rw [hc, h2, Nat.mul_one])
  have g1 := divisor_great (show 1 < d by omega) ⟨c, hc⟩
  have g2 := divisor_great (show 1 < c by omega) ⟨d, by rw [hc, Nat.mul_comm]⟩
  have := Nat.mul_le_mul g1 g2
  rw [← hc] at this
  exact absurd this (by decide)
theorem coprime_q {d : Nat} (h0 : 0 < d) (h1 : d < qQ) : Nat.gcd d qQ = 1 := by
  rcases q_prime (Nat.gcd_dvd_right d qQ) with h | h
  · exact h
  · have := Nat.le_of_dvd h0 (Nat.gcd_dvd_left d qQ)
    omega

/-- the base to the order is 1 -/
theorem four_q : 4 ^ qQ % pP = 1 % pP := by
  rw [← powm_eq pP 60 _ _ (by decide)]; decide +kernel
theorem four_order {d : Nat} (h0 : 0 < d) (h1 : d < qQ) : 4 ^ d % pP ≠ 1 % pP := by
  intro h
  have := pow_gcd _ _ h four_q
  rw [coprime_q h0 h1] at this
  exact absurd this (by decide)
theorem four_inj {s t : Nat} (hs : s < qQ) (ht : t < qQ) (h : 4 ^ s % pP = 4 ^ t % pP) : s = t := by
  rcases Nat.lt_trichotomy s t with hl | hl | hl
  · exact absurd (pow_less four_q (by omega) (by omega) h) (four_order (by omega) (by omega))
  · exact hl
  · exact absurd (pow_less four_q (by omega) (by omega) h.symm) (four_order (by omega) (by omega))
theorem four_not_zero (e : Nat) : 4 ^ e % pP ≠ 0 := by
  intro h
  have h1 : 4 ^ e * 4 ^ (qQ * e - e + 0) % pP = 0 := by rw [Nat.mul_mod, h, Nat.zero_mul, Nat.zero_mod]
  rw [← Nat.pow_add, show e + (qQ * e - e + 0) = qQ * e by
    have := Nat.le_mul_of_pos_left e (show 0 < qQ by decide); omega, Nat.pow_mul, powmod four_q, Nat.one_pow] at h1
  exact absurd h1 (by decide)
end Go.Proofs.YtedjmhiocmefiaaDoor
