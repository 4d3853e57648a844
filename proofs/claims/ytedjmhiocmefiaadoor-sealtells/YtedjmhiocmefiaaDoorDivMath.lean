/-
  Plain mathematics of a long division by a number of two halves, the high one at least half of what it may be: two guesses, each corrected at most twice. No program is named here.
-/
namespace Go.Proofs.YtedjmhiocmefiaaDoor

/-- a guess q of (u, u1) / (v1, v0) that is not too small, with what is left of u -/
def Guess (u u1 v1 v0 q r : Nat) : Prop := u = q * v1 + r ∧ q ≤ 4294967297 ∧ r < 4294967296 ∧ u * 4294967296 + u1 < (q + 1) * (v1 * 4294967296 + v0)
/-- the quotient itself -/
def Quot (u u1 v1 v0 q : Nat) : Prop := q * (v1 * 4294967296 + v0) ≤ u * 4294967296 + u1 ∧ u * 4294967296 + u1 < (q + 1) * (v1 * 4294967296 + v0) ∧ q < 4294967296

theorem guess_expand (q v1 v0 : Nat) : q * (v1 * 4294967296 + v0) = q * v1 * 4294967296 + q * v0 := by rw [Nat.mul_add, ← Nat.mul_assoc]
theorem guess_start (u u1 v1 v0 : Nat) (h1 : 2147483648 ≤ v1) (h1' : v1 < 4294967296) (hu1 : u1 < 4294967296) (hv0 : v0 < 4294967296) (hu : u < v1 * 4294967296 + v0) : Guess u u1 v1 v0 (u / v1) (u % v1) := by
  have hd : u = u / v1 * v1 + u % v1 := by rw [Nat.mul_comm]; exact (Nat.div_add_mod u v1).symm
  have hr : u % v1 < v1 := Nat.mod_lt _ (by omega)
  refine ⟨hd, ?_, by omega, ?_⟩
  · refine Nat.le_of_not_lt fun hc => ?_
    have := Nat.mul_le_mul (show 4294967298 ≤ u / v1 from hc) (Nat.le_refl v1)
    omega
  · rw [guess_expand, Nat.add_mul, Nat.one_mul]
    omega
theorem guess_great {u u1 v1 v0 q r : Nat} (hg : Guess u u1 v1 v0 q r) (hu1 : u1 < 4294967296) (hu : u < v1 * 4294967296 + v0) (h : 4294967296 ≤ q ∨ 4294967296 * r + u1 < q * v0) : 0 < q ∧ u * 4294967296 + u1 < q * (v1 * 4294967296 + v0) := by
  have hlt : u * 4294967296 + u1 < q * (v1 * 4294967296 + v0) := by
    rcases h with h | h
    · have := Nat.mul_le_mul h (Nat.le_refl (v1 * 4294967296 + v0))
      omega
    · obtain ⟨h1, _⟩ := hg
      rw [guess_expand]
      omega
  refine ⟨?_, hlt⟩
  rcases Nat.eq_zero_or_pos q with h0 | h0
  · subst h0; omega
  · exact h0
theorem guess_done {u u1 v1 v0 q r : Nat} (hg : Guess u u1 v1 v0 q r) (h : q < 4294967296) (h' : q * v0 ≤ 4294967296 * r + u1) : Quot u u1 v1 v0 q := by
  obtain ⟨h1, _, _, h4⟩ := hg
  refine ⟨?_, h4, h⟩
  rw [guess_expand]
  omega
theorem guess_next {u u1 v1 v0 q r : Nat} (hg : Guess u u1 v1 v0 q r) (hu1 : u1 < 4294967296) (hu : u < v1 * 4294967296 + v0) (h : 4294967296 ≤ q ∨ 4294967296 * r + u1 < q * v0) (hr : r + v1 < 4294967296) : Guess u u1 v1 v0 (q - 1) (r + v1) := by
  obtain ⟨h0, hlt⟩ := guess_great hg hu1 hu h
  obtain ⟨h1, h2, h3, h4⟩ := hg
  obtain ⟨k, rfl⟩ : ∃ k, q = k + 1 := ⟨q - 1, by omega⟩
  rw [Nat.add_sub_cancel]
  rw [Nat.add_mul, Nat.one_mul] at h1
  exact ⟨by omega, by omega, hr, hlt⟩
theorem guess_break {u u1 v1 v0 q r : Nat} (hg : Guess u u1 v1 v0 q r) (hu1 : u1 < 4294967296) (hv0 : v0 < 4294967296) (hu : u < v1 * 4294967296 + v0) (h : 4294967296 ≤ q ∨ 4294967296 * r + u1 < q * v0) (hr : 4294967296 ≤ r + v1) : Quot u u1 v1 v0 (q - 1) := by
  obtain ⟨h0, hlt⟩ := guess_great hg hu1 hu h
  obtain ⟨h1, h2, h3, h4⟩ := hg
  obtain ⟨k, rfl⟩ : ∃ k, q = k + 1 := ⟨q - 1, by omega⟩
  rw [Nat.add_sub_cancel]
  rw [Nat.add_mul, Nat.one_mul] at h1
  have hk := Nat.mul_le_mul (show k ≤ 4294967296 by omega) (show v0 ≤ 4294967295 by omega)
  have hle : k * (v1 * 4294967296 + v0) ≤ u * 4294967296 + u1 := by
    rw [guess_expand]; omega
  refine ⟨hle, hlt, ?_⟩
  refine Nat.lt_of_not_le fun hc => ?_
  have := Nat.mul_le_mul hc (Nat.le_refl (v1 * 4294967296 + v0))
  omega
/-- what is left behind a quotient's word -/
theorem quot_left {u u1 v1 v0 q : Nat} (h : Quot u u1 v1 v0 q) : u * 4294967296 + u1 - q * (v1 * 4294967296 + v0) < v1 * 4294967296 + v0 := by
  obtain ⟨h1, h2, _⟩ := h
  rw [Nat.add_mul, Nat.one_mul] at h2
  omega
theorem both_words {u u1 u0 q q0 Y R : Nat} (h1 : q * Y ≤ u * 4294967296 + u1) (hR : R = u * 4294967296 + u1 - q * Y) (h2 : q0 * Y ≤ R * 4294967296 + u0) (hl : R * 4294967296 + u0 - q0 * Y < Y) :
    R * 4294967296 + u0 - q0 * Y = (u * 18446744073709551616 + u1 * 4294967296 + u0) % Y := by
  have e : u * 18446744073709551616 + u1 * 4294967296 + u0 = (R * 4294967296 + u0 - q0 * Y) + Y * (q * 4294967296 + q0) := by
    have : Y * (q * 4294967296 + q0) = q * Y * 4294967296 + q0 * Y := by rw [Nat.mul_add, ← Nat.mul_assoc, Nat.mul_comm Y q, Nat.mul_comm Y q0]
    omega
  exact ((congrArg (fun n => n % Y) e).trans ((Nat.add_mul_mod_self_left _ _ _).trans (Nat.mod_eq_of_lt hl))).symm
/-- both words of the quotient, and the rest -/
theorem quot_both {u u1 u0 v1 v0 q q0 : Nat} (h : Quot u u1 v1 v0 q) (h0 : Quot (u * 4294967296 + u1 - q * (v1 * 4294967296 + v0)) u0 v1 v0 q0) :
    (u * 4294967296 + u1 - q * (v1 * 4294967296 + v0)) * 4294967296 + u0 - q0 * (v1 * 4294967296 + v0) = (u * 18446744073709551616 + u1 * 4294967296 + u0) % (v1 * 4294967296 + v0) :=
  both_words h.1 rfl h0.1 (quot_left h0)
/-- a rest of shifted numbers is the shifted rest -/
theorem rest_shift (hi lo y T : Nat) (hT : 0 < T) : (hi * T * 18446744073709551616 + lo * T) % (y * T) / T = (hi * 18446744073709551616 + lo) % y := by
  have e : hi * T * 18446744073709551616 + lo * T = (hi * 18446744073709551616 + lo) * T := by
    rw [Nat.add_mul, Nat.mul_right_comm]
  rw [e, Nat.mul_mod_mul_right, Nat.mul_div_cancel _ hT]
end Go.Proofs.YtedjmhiocmefiaaDoor
