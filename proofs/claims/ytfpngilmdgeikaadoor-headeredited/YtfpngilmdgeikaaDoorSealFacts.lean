/-
  Plain facts of seals: who seals is believed; one answer alone is good; keys are powers of the base; a seal that is not good.
-/
import Derived.Test.YtfpngilmdgeikaaDoorSealGood
namespace Go.Proofs.YtfpngilmdgeikaaDoor
open Go.RowKit

theorem powP_pos (e : Nat) : 1 ≤ powP 4 e := by have := four_not_zero e; unfold powP; omega
theorem powQ_four (e : Nat) : powQ (powP 4 e) = 1 := by
  show (4 ^ e % pP) ^ qQ % pP = 1
  rw [powmod (Nat.mod_mod (4 ^ e) pP), ← Nat.pow_mul, Nat.mul_comm, Nat.pow_mul, powmod four_q, Nat.one_pow]
  decide
theorem powP_mod (n : Nat) : powP 4 (n % qQ) = powP 4 n := (pow_rem four_q).symm
/-- the equation of a seal -/
theorem seal_eq (k x e : Nat) : powP 4 ((k + mulQ e x) % qQ) = mulP (powP 4 k) (powP (powP 4 x) e) := by
  have h1 : powP 4 ((k + mulQ e x) % qQ) = powP 4 (k + e * x) := by
    rw [powP_mod, ← powP_mod (k + e * x)]
    rw [← powP_mod (k + mulQ e x)]
    have : (k + mulQ e x) % qQ = (k + e * x) % qQ := by unfold mulQ; rw [Nat.add_mod, Nat.mod_mod, ← Nat.add_mod]
    rw [this]
  rw [h1]
  show 4 ^ (k + e * x) % pP = (4 ^ k % pP) * ((4 ^ x % pP) ^ e % pP) % pP
  rw [mulmod (Nat.mod_mod (4 ^ k) pP) ((Nat.mod_mod _ pP).trans (powmod (Nat.mod_mod (4 ^ x) pP) e)), ← Nat.pow_mul, ← Nat.pow_add, Nat.mul_comm x e]
theorem good_sign (l m : List (BitVec 8)) : goodN (keyN l) m (sealR l m) (sealS l m) :=
  ⟨⟨powP_pos _, powP_lt _ _⟩, ⟨powP_pos _, powP_lt _ _⟩, sealS_lt l m, powQ_four _, seal_eq _ _ _⟩
theorem good_one (l m : List (BitVec 8)) (s : Nat) (h : goodN (keyN l) m (sealR l m) s) : s = sealS l m :=
  four_inj h.2.2.1 (sealS_lt l m) (h.2.2.2.2.trans (good_sign l m).2.2.2.2.symm)
theorem key_great (l : List (BitVec 8)) : 1 < keyN l := by
  have h1 : 1 ≤ keyN l := powP_pos _
  have h2 : keyN l ≠ 1 := fun h => four_order (expN_pos (keyB ++ l)) (secretN_lt l) h
  omega

theorem mulP_one (b e : Nat) : mulP 1 (powP b e) = powP b e := by unfold mulP powP; rw [Nat.one_mul, Nat.mod_mod]
theorem secret_a : secretN [97] = 119896289774408667 := by decide +kernel
theorem powP_powm (b e : Nat) (he : e < 2 ^ 60) : powP b e = powm pP 60 b e := (powm_eq pP 60 b e he).symm
theorem key_a : keyN [97] = 989415349059111807 := by
  unfold keyN
  rw [secret_a, powP_powm _ _ (by decide)]
  decide +kernel
theorem ask_a : askN 1 989415349059111807 [109] = 395260861623597640 := by decide +kernel
theorem not_good_a : ¬ goodN (keyN [97]) [109] 1 1 := by
  intro h
  have h1 := h.2.2.2.2
  rw [key_a, ask_a] at h1
  have h2 : powP 4 1 = 4 := by decide
  have h3 : mulP 1 (powP 989415349059111807 395260861623597640) = powm pP 60 989415349059111807 395260861623597640 := by
    rw [← powP_powm _ _ (by decide)]
    exact mulP_one _ _
  rw [h2, h3] at h1
  exact absurd h1 (by decide +kernel)
end Go.Proofs.YtfpngilmdgeikaaDoor
