/-
  What Parts answers: SHA-256 of all that its parts read as, one behind the other, in new memory; nothing that was there turns.
  Plain mathematics of a long division by a number of two halves, the high one at least half of what it may be: two guesses, each corrected at most twice. No program is named here. Plain mathematics of powers under a modulus: powers by squaring; the order is a prime (Pocklington's criterion, in a form that wants no order of an element); the base has that order. No program is named here. What Rem64 answers, of the two moduli of seals: the rest of a number of two words. It turns no memory. What Rem64 answers, of the two moduli of seals: the rest of a number of two words. It turns no memory. What times and power answer: a product and a power under the two moduli. They turn no memory.
  What eight, number, exponent, secret, challenge and Key answer: a number's eight bytes; the number that a digest of parts begins with; a secret; what is asked; a key. They turn nothing that was there.
  What exponent, secret, challenge and Key answer. They turn nothing that was there.
  What Sign answers: the seal. It turns nothing that was there.
  What Good answers: whether a seal is good. It turns nothing that was there.
-/
import Derived.Test.YtiflkkelbnpniaaGreatDoorShaAll
import Derived.Test.YtiflkkelbnpniaaGreatDoorMemB
import Derived.BigQuiet
import Derived.Deep.CutBlock
import Derived.Lib.SlBytesConst
import Derived.Deep.QuietTactic
import Derived.Deep.RegionWith
namespace Go.Proofs.YtiflkkelbnpniaaGreatDoor
open Go.RowKit

set_option maxRecDepth 100000 in
set_option maxHeartbeats 1000000 in
theorem parts_any (ls : List (List (BitVec 8))) (sv : Value) (N : Nat) (w : World) (hN : N ≤ w.heap.size) (hb : Lists w N sv ls) (hK : tableAt w) (hlen : ls.flatten.length < 2305843009213693952) (hn : ls.length < 2305843009213693952) :
    Calls Tryz.prog 149 #[sv] w fun e w' =>
      ∃ v, e = .returned v ∧ w'.ownsRow w.heap.size 5 1 v 32 ((sha ls.flatten).map V) ∧ Below w.heap.size w w' := by
  obtain ⟨oa, cap, rfl, hcap⟩ := hb.shape
  have hzv := zero_dig
  have HBY := hid hb
  have HK := hid hK
  have HLEN := hid hlen
  clear hb hK hlen
  go_enter Tryz.func149, Tryz.ntmps149
  go_wp2_with fail
  refine (begin_any _).mono ?_
  rintro e w1 ⟨rfl, hb1⟩
  have HB1 := hid hb1
  clear hb1
  go_wp2_with (refine wpList_store_row rfl 150 _ _ rfl w1.heap.size dig0.toArray rfl rfl 150 digZ.toArray (heap_alloc_new _ _) info_dig0 digZ_dig0 dig0_all ?_)
  obtain ⟨w2, hw2⟩ : ∃ w2, World.setRow (w1.alloc (.cells digZ.toArray 150)) w1.heap.size dig0.toArray = w2 := ⟨_, rfl⟩
  rw [hw2]
  have hrow2 : Row w2 w1.heap.size 150 (digOf [] (List.replicate 64 0)) := by
    rw [← hw2, digOf_nil]; exact setRow_heap _ _ digZ.toArray _ _ _ (heap_alloc_new _ _)
  have hbel2 : Below w1.heap.size w1 w2 := by
    rw [← hw2]; exact ((Below.refl _ _).alloc (Nat.le_refl _) _).trans ⟨rfl, rfl, rfl, by simp, fun k hk => setRow_other _ _ _ _ (by omega)⟩
  have hsz1 := HB1.out.size
  have hbel02 : Below w.heap.size w w2 := HB1.out.trans (hbel2.mono hsz1)
  have hne : w1.heap.size ≠ 1 := by have := HK.out.lt; omega
  have HR2 := hid hrow2
  have HB02 := hid hbel02
  have HNE := hid hne
  clear hbel02 hrow2 hbel2 hw2 hne
  generalize hn0 : ls.length = n at *
  have HN0 := hid hn0
  clear hn0
  go_loopw [9] (fun i wr => ∃ (k : Nat) (R' : List (BitVec 8)), k ≤ n ∧ i = .int .i64 k ∧ Abs (ls.take k).flatten R' ∧ Row wr w1.heap.size 150 (digOf (ls.take k).flatten R') ∧ w2.grownBy wr (some w1.heap.size)) (fun i _ => n - (intOf i).toNat)
  case atStart => exact ⟨0, _, by omega, rfl, abs_nil, HR2.out, grown_refl _ _⟩
  case round =>
    obtain ⟨k, R', hk, rfl, hA, hrow, hgr⟩ := hrel
    have hltr := hrow.lt
    have hltb := HR2.out.lt
    have hbelr : Below w.heap.size w wr := HB02.out.trans (below_grown hgr hsz1 (by omega))
    by_cases hlt : k < n
    · have h1 : Lists w N (.slice oa ls.length cap) ls := by rw [HN0.out]; exact HBY.out
      obtain ⟨b, off, rfl, hc⟩ := h1.some (by rw [HN0.out]; omega)
      obtain ⟨hbN, x, hx, hbx⟩ := hc k (by rw [HN0.out]; exact hlt)
      have hxr : wr.cell? ⟨b, off + k, none⟩ = some x := (hbelr.cell (by show b < w.heap.size; omega)).trans hx
      have hfl := flatten_take_succ ls k (by rw [HN0.out]; exact hlt)
      have hle := flatten_take_le ls (k + 1)
      have htake := take_any (ls.take k).flatten (ls.getD k []) R' x N w1.heap.size wr hA hrow (by omega) HNE.out (hbx.below (hbelr.mono hN)) (HK.out.below hbelr HK.out.lt) (by have h2 := HLEN.out; rw [hfl, List.length_append] at hle; omega)
      rw [← hfl] at htake
      have HTK := hid htake
      have HG := hid hgr
      clear htake hle hfl hbx hx hA hrow hgr h1 hc hbelr
      have hlt' : (k : Int) < (n : Int) := by omega
      go_wp2_with (go_at_call 114; refine HTK.out.mono ?_; rintro e w5 ⟨rfl, hg5, R5, hA5, hrow5⟩)
      go_roundw
      case rel => exact ⟨k + 1, R5, by omega, by go_num, hA5, hrow5, grown_trans HG.out hg5⟩
      case measure => simp [intOf]; omega
    · have hkn : k = n := by omega
      subst hkn
      have hall : ls.take k = ls := List.take_of_length_le (by rw [HN0.out]; omega)
      rw [hall] at hA hrow
      have hfin := finish_any ls.flatten R' w1.heap.size wr hA hrow HNE.out (HK.out.below hbelr HK.out.lt) HLEN.out
      have HFIN := hid hfin
      have HBR := hid hbelr
      clear hfin hA hrow hgr hbelr hall
      go_wp2_with fail
      refine HFIN.out.mono ?_
      rintro e w6 ⟨v, rfl, hown, hg6⟩
      go_wp2
      go_ret
      have hsr := HBR.out.size
      exact ⟨_, rfl, ownsRow_mono hown hsr, HBR.out.trans (below_grown hg6 hsz1 hsr)⟩
end Go.Proofs.YtiflkkelbnpniaaGreatDoor
namespace Go.Proofs.YtiflkkelbnpniaaGreatDoor

/-- a guess q of (u, u1) / (v1, v0) that is not too small, with what is left of u -/
def Guess (u u1 v1 v0 q r : Nat) : Prop := u = q * v1 + r ∧ q ≤ 4294967297 ∧ r < 4294967296 ∧ u * 4294967296 + u1 < (q + 1) * (v1 * 4294967296 + v0)
/-- the quotient itself -/
def Quot (u u1 v1 v0 q : Nat) : Prop := q * (v1 * 4294967296 + v0) ≤ u * 4294967296 + u1 ∧ u * 4294967296 + u1 < (q + 1) * (v1 * 4294967296 + v0) ∧ q < 4294967296

theorem guess_expand (q v1 v0 : Nat) : q * (v1 * 4294967296 + v0) = q * v1 * 4294967296 + q * v0 := by rw [Nat.mul_add, ← Nat.mul_assoc]
theorem guess_start (u u1 v1 v0 : Nat) (h1 : 2147483648 ≤ v1) (h1' : v1 < 4294967296) (hu1 : u1 < 4294967296) (hv0 : v0 < 4294967296) (hu : u < v1 * 4294967296 + v0) : Guess u u1 v1 v0 (u / v1) (u % v1) := by
  have hd : u = u / v1 * v1 + u % v1 := by rw [Nat.mul_comm]; exact (Nat.div_add_mod u v1).symm
  have hr : u % v1 < v1 := Nat.mod_lt _ (by omega)
  refine ⟨hd, ?_, by omega, ?_⟩
  · refine Nat.le_of_not_lt fun hc => ?_
    have := Nat.mul_le_mul (show 4294967298 ≤ u / v1 from hc) (Nat.le_refl v1)
    omega
  · rw [guess_expand, Nat.add_mul, Nat.one_mul]
    omega
theorem guess_great {u u1 v1 v0 q r : Nat} (hg : Guess u u1 v1 v0 q r) (hu1 : u1 < 4294967296) (hu : u < v1 * 4294967296 + v0) (h : 4294967296 ≤ q ∨ 4294967296 * r + u1 < q * v0) : 0 < q ∧ u * 4294967296 + u1 < q * (v1 * 4294967296 + v0) := by
  have hlt : u * 4294967296 + u1 < q * (v1 * 4294967296 + v0) := by
    rcases h with h | h
    · have := Nat.mul_le_mul h (Nat.le_refl (v1 * 4294967296 + v0))
      omega
    · obtain ⟨h1, _⟩ := hg
      rw [guess_expand]
      omega
  refine ⟨?_, hlt⟩
  rcases Nat.eq_zero_or_pos q with h0 | h0
  · subst h0; omega
  · exact h0
theorem guess_done {u u1 v1 v0 q r : Nat} (hg : Guess u u1 v1 v0 q r) (h : q < 4294967296) (h' : q * v0 ≤ 4294967296 * r + u1) : Quot u u1 v1 v0 q := by
  obtain ⟨h1, _, _, h4⟩ := hg
  refine ⟨?_, h4, h⟩
  rw [guess_expand]
  omega
theorem guess_next {u u1 v1 v0 q r : Nat} (hg : Guess u u1 v1 v0 q r) (hu1 : u1 < 4294967296) (hu : u < v1 * 4294967296 + v0) (h : 4294967296 ≤ q ∨ 4294967296 * r + u1 < q * v0) (hr : r + v1 < 4294967296) : Guess u u1 v1 v0 (q - 1) (r + v1) := by
  obtain ⟨h0, hlt⟩ := guess_great hg hu1 hu h
  obtain ⟨h1, h2, h3, h4⟩ := hg
  obtain ⟨k, rfl⟩ : ∃ k, q = k + 1 := ⟨q - 1, by omega⟩
  rw [Nat.add_sub_cancel]
  rw [Nat.add_mul, Nat.one_mul] at h1
  exact ⟨by omega, by omega, hr, hlt⟩
theorem guess_break {u u1 v1 v0 q r : Nat} (hg : Guess u u1 v1 v0 q r) (hu1 : u1 < 4294967296) (hv0 : v0 < 4294967296) (hu : u < v1 * 4294967296 + v0) (h : 4294967296 ≤ q ∨ 4294967296 * r + u1 < q * v0) (hr : 4294967296 ≤ r + v1) : Quot u u1 v1 v0 (q - 1) := by
  obtain ⟨h0, hlt⟩ := guess_great hg hu1 hu h
  obtain ⟨h1, h2, h3, h4⟩ := hg
  obtain ⟨k, rfl⟩ : ∃ k, q = k + 1 := ⟨q - 1, by omega⟩
  rw [Nat.add_sub_cancel]
  rw [Nat.add_mul, Nat.one_mul] at h1
  have hk := Nat.mul_le_mul (show k ≤ 4294967296 by omega) (show v0 ≤ 4294967295 by omega)
  have hle : k * (v1 * 4294967296 + v0) ≤ u * 4294967296 + u1 := by
    rw [guess_expand]; omega
  refine ⟨hle, hlt, ?_⟩
  refine Nat.lt_of_not_le fun hc => ?_
  have := Nat.mul_le_mul hc (Nat.le_refl (v1 * 4294967296 + v0))
  omega
/-- what is left behind a quotient's word -/
theorem quot_left {u u1 v1 v0 q : Nat} (h : Quot u u1 v1 v0 q) : u * 4294967296 + u1 - q * (v1 * 4294967296 + v0) < v1 * 4294967296 + v0 := by
  obtain ⟨h1, h2, _⟩ := h
  rw [Nat.add_mul, Nat.one_mul] at h2
  omega
theorem both_words {u u1 u0 q q0 Y R : Nat} (h1 : q * Y ≤ u * 4294967296 + u1) (hR : R = u * 4294967296 + u1 - q * Y) (h2 : q0 * Y ≤ R * 4294967296 + u0) (hl : R * 4294967296 + u0 - q0 * Y < Y) :
    R * 4294967296 + u0 - q0 * Y = (u * 18446744073709551616 + u1 * 4294967296 + u0) % Y := by
  have e : u * 18446744073709551616 + u1 * 4294967296 + u0 = (R * 4294967296 + u0 - q0 * Y) + Y * (q * 4294967296 + q0) := by
    have : Y * (q * 4294967296 + q0) = q * Y * 4294967296 + q0 * Y := by rw [Nat.mul_add, ← Nat.mul_assoc, Nat.mul_comm Y q, Nat.mul_comm Y q0]
    omega
  exact ((congrArg (fun n => n % Y) e).trans ((Nat.add_mul_mod_self_left _ _ _).trans (Nat.mod_eq_of_lt hl))).symm
/-- both words of the quotient, and the rest -/
theorem quot_both {u u1 u0 v1 v0 q q0 : Nat} (h : Quot u u1 v1 v0 q) (h0 : Quot (u * 4294967296 + u1 - q * (v1 * 4294967296 + v0)) u0 v1 v0 q0) :
    (u * 4294967296 + u1 - q * (v1 * 4294967296 + v0)) * 4294967296 + u0 - q0 * (v1 * 4294967296 + v0) = (u * 18446744073709551616 + u1 * 4294967296 + u0) % (v1 * 4294967296 + v0) :=
  both_words h.1 rfl h0.1 (quot_left h0)
/-- a rest of shifted numbers is the shifted rest -/
theorem rest_shift (hi lo y T : Nat) (hT : 0 < T) : (hi * T * 18446744073709551616 + lo * T) % (y * T) / T = (hi * 18446744073709551616 + lo) % y := by
  have e : hi * T * 18446744073709551616 + lo * T = (hi * 18446744073709551616 + lo) * T := by
    rw [Nat.add_mul, Nat.mul_right_comm]
  rw [e, Nat.mul_mod_mul_right, Nat.mul_div_cancel _ hT]
end Go.Proofs.YtiflkkelbnpniaaGreatDoor
namespace Go.Proofs.YtiflkkelbnpniaaGreatDoor

def pP : Nat := 1152921504606849707
def qQ : Nat := 576460752303424853

theorem mulmod {n a a' b b' : Nat} (h1 : a % n = a' % n) (h2 : b % n = b' % n) : a * b % n = a' * b' % n := by
  rw [Nat.mul_mod, h1, h2, ← Nat.mul_mod]
theorem powmod {n a a' : Nat} (h : a % n = a' % n) (e : Nat) : a ^ e % n = a' ^ e % n := by
  rw [Nat.pow_mod, h, ← Nat.pow_mod]
theorem pow_mod_dvd {n l a b : Nat} (hl : l ∣ n) (h : a % n = b % n) : a % l = b % l := by
  rw [← Nat.mod_mod_of_dvd a hl, h, Nat.mod_mod_of_dvd b hl]

/-- a power under a modulus, by squaring: for the kernel -/
def powm (m : Nat) : Nat → Nat → Nat → Nat
  | 0, _, _ => 1 % m
  | f + 1, b, e => if e = 0 then 1 % m else if e % 2 = 1 then b * powm m f (b * b % m) (e / 2) % m else powm m f (b * b % m) (e / 2)
theorem powm_eq (m : Nat) : ∀ f b e, e < 2 ^ f → powm m f b e = b ^ e % m := by
  intro f
  induction f with
  | zero => intro b e h; have : e = 0 := by simpa using h
            subst this; rfl
  | succ f ih =>
    intro b e h
    unfold powm
    have hsq : powm m f (b * b % m) (e / 2) = (b * b) ^ (e / 2) % m := by
      rw [ih _ _ (by rw [Nat.pow_succ] at h; omega)]
      exact powmod (Nat.mod_mod _ _) _
    by_cases h0 : e = 0
    · rw [if_pos h0, h0]; rfl
    · rw [if_neg h0]
      by_cases h1 : e % 2 = 1
      · rw [if_pos h1, hsq]
        have e2 : b ^ e = b * (b * b) ^ (e / 2) := by
          rw [← Nat.pow_two, ← Nat.pow_mul, ← Nat.pow_succ', show (2 * (e / 2)).succ = e by omega]
        rw [e2]
        exact mulmod rfl (Nat.mod_mod _ _)
      · rw [if_neg h1, hsq]
        rw [← Nat.pow_two, ← Nat.pow_mul, show 2 * (e / 2) = e by omega]

theorem pow_rem {b l m n : Nat} (hm : b ^ m % l = 1 % l) : b ^ n % l = b ^ (n % m) % l := by
  have e : b ^ n = (b ^ m) ^ (n / m) * b ^ (n % m) := by rw [← Nat.pow_mul, ← Nat.pow_add, Nat.div_add_mod]
  rw [e]
  have h1 : (b ^ m) ^ (n / m) % l = 1 % l := by rw [powmod hm, Nat.one_pow]
  rw [mulmod h1 (rfl : b ^ (n % m) % l = b ^ (n % m) % l), Nat.one_mul]
theorem pow_gcd {b l : Nat} : ∀ m n : Nat, b ^ m % l = 1 % l → b ^ n % l = 1 % l → b ^ (Nat.gcd m n) % l = 1 % l := by
  intro m n
  refine Nat.gcd.induction (P := fun m n => b ^ m % l = 1 % l → b ^ n % l = 1 % l → b ^ (Nat.gcd m n) % l = 1 % l) m n ?_ ?_
  · intro n _ h; simpa using h
  · intro m n _ ih h1 h2
    rw [Nat.gcd_rec]
    exact ih (by rw [← pow_rem h1]; exact h2) h1
theorem pow_less {b l F i j : Nat} (hF : b ^ F % l = 1 % l) (hi : i ≤ F) (hij : i ≤ j) (h : b ^ i % l = b ^ j % l) : b ^ (j - i) % l = 1 % l := by
  have h1 := mulmod h (rfl : b ^ (F - i) % l = b ^ (F - i) % l)
  rw [← Nat.pow_add, ← Nat.pow_add, show i + (F - i) = F by omega, show j + (F - i) = (j - i) + F by omega, Nat.pow_add, hF,
    mulmod (rfl : b ^ (j - i) % l = b ^ (j - i) % l) hF, Nat.mul_one] at h1
  exact h1.symm

theorem pigeon : ∀ (n : Nat) (g : Nat → Nat), (∀ i, i ≤ n → g i < n) → ∃ i j, i < j ∧ j ≤ n ∧ g i = g j := by
  intro n
  induction n with
  | zero => intro g h; exact absurd (h 0 (Nat.le_refl _)) (by omega)
  | succ n ih =>
    intro g h
    by_cases hex : ∃ i, i ≤ n ∧ g i = g (n + 1)
    · obtain ⟨i, hi, he⟩ := hex
      exact ⟨i, n + 1, by omega, Nat.le_refl _, he⟩
    · have hne : ∀ i, i ≤ n → g i ≠ g (n + 1) := fun i hi he => hex ⟨i, hi, he⟩
      obtain ⟨i, j, hij, hj, he⟩ := ih (fun i => if g i = n then g (n + 1) else g i) (fun i hi => by
        have h1 := h i (by omega)
        have h2 := h (n + 1) (Nat.le_refl _)
        have h3 := hne i hi
        by_cases hg : g i = n
        · show (if g i = n then g (n + 1) else g i) < n
          rw [if_pos hg]; omega
        · show (if g i = n then g (n + 1) else g i) < n
          rw [if_neg hg]; omega)
      have hi' := hne i (by omega)
      have hj' := hne j hj
      refine ⟨i, j, hij, by omega, ?_⟩
      have he : (if g i = n then g (n + 1) else g i) = (if g j = n then g (n + 1) else g j) := he
      by_cases h1 : g i = n
      · by_cases h2 : g j = n
        · omega
        · rw [if_pos h1, if_neg h2] at he; exact absurd he.symm hj'
      · by_cases h2 : g j = n
        · rw [if_neg h1, if_pos h2] at he; exact absurd he hi'
        · rw [if_neg h1, if_neg h2] at he; exact he

/-- no number from 2 up to this one is a divisor -/
def noDiv (n : Nat) : Nat → Bool
  | 0 => true
  | d + 1 => (d == 0 || n % (d + 1) != 0) && noDiv n d
theorem noDiv_spec (n : Nat) : ∀ k, noDiv n k = true → ∀ d, 2 ≤ d → d ≤ k → ¬ d ∣ n := by
  intro k
  induction k with
  | zero => intro _ d h1 h2; omega
  | succ k ih =>
    intro h d h1 h2 hd
    unfold noDiv at h
    rw [Bool.and_eq_true] at h
    by_cases hk : d = k + 1
    · have h3 := h.1
      rw [← hk, Nat.mod_eq_zero_of_dvd hd] at h3
      have : k ≠ 0 := by omega
      simp [this] at h3
    · exact ih h.2 d h1 (by omega) hd
theorem prime_of_noDiv {n k : Nat} (hn : 0 < n) (hk : n < (k + 1) * (k + 1)) (h : noDiv n k = true) : ∀ d, d ∣ n → d = 1 ∨ d = n := by
  intro d hd
  obtain ⟨c, hc⟩ := hd
  have hs := noDiv_spec n k h
  by_cases h1 : d = 1
  · exact .inl h1
  by_cases h2 : c = 1
  · exact .inr (by rw [hc, h2, Nat.mul_one])
  have hd0 : d ≠ 0 := by intro h0; rw [h0, Nat.zero_mul] at hc; omega
  have hc0 : c ≠ 0 := by intro h0; rw [h0, Nat.mul_zero] at hc; omega
  exfalso
  by_cases h3 : d ≤ k
  · exact hs d (by omega) h3 ⟨c, hc⟩
  · by_cases h4 : c ≤ k
    · exact hs c (by omega) h4 ⟨d, by rw [hc, Nat.mul_comm]⟩
    · have := Nat.mul_le_mul (show k + 1 ≤ d by omega) (show k + 1 ≤ c by omega)
      omega

/-- the two prime factors of one less than the order that are used, and an element of their product's order -/
def f1 : Nat := 23
def f2 : Nat := 62196263
def bB : Nat := 266917589997394052
theorem f1_prime : ∀ d, d ∣ f1 → d = 1 ∨ d = f1 := prime_of_noDiv (k := 4) (by decide) (by decide) (by decide)
theorem f2_prime : ∀ d, d ∣ f2 → d = 1 ∨ d = f2 := prime_of_noDiv (k := 7886) (by decide) (by decide) (by decide +kernel)
theorem bB_F : bB ^ (f1 * f2) % qQ = 1 % qQ := by
  rw [← powm_eq qQ 40 _ _ (by decide)]; decide +kernel
theorem bB_1 : Nat.gcd (bB ^ f1 % qQ + (qQ - 1)) qQ = 1 := by
  rw [← powm_eq qQ 40 _ _ (by decide)]; decide +kernel
theorem bB_2 : Nat.gcd (bB ^ f2 % qQ + (qQ - 1)) qQ = 1 := by
  rw [← powm_eq qQ 40 _ _ (by decide)]; decide +kernel

theorem not_one {l e : Nat} (hl : 1 < l) (hd : l ∣ qQ) (hg : Nat.gcd (bB ^ e % qQ + (qQ - 1)) qQ = 1) : bB ^ e % l ≠ 1 % l := by
  intro h
  have h1 : (bB ^ e % qQ) % l = 1 % l := by rw [Nat.mod_mod_of_dvd _ hd]; exact h
  have h2 : l ∣ bB ^ e % qQ + (qQ - 1) := by
    refine Nat.dvd_of_mod_eq_zero ?_
    rw [Nat.add_mod, h1, ← Nat.add_mod, show 1 + (qQ - 1) = qQ from rfl]
    exact Nat.mod_eq_zero_of_dvd hd
  have h3 := Nat.dvd_gcd h2 hd
  rw [hg] at h3
  have := Nat.le_of_dvd (by omega) h3
  omega
theorem dvd_cases {g : Nat} (h : g ∣ f1 * f2) : g = f1 * f2 ∨ g ∣ f1 ∨ g ∣ f2 := by
  rcases f1_prime _ (Nat.gcd_dvd_right g f1) with h1 | h1
  · exact .inr (.inr (Nat.Coprime.dvd_of_dvd_mul_left h1 h))
  · have hd : f1 ∣ g := by rw [← h1]; exact Nat.gcd_dvd_left g f1
    obtain ⟨c, rfl⟩ := hd
    have hc : c ∣ f2 := Nat.dvd_of_mul_dvd_mul_left (by decide) h
    rcases f2_prime c hc with rfl | rfl
    · exact .inr (.inl (by rw [Nat.mul_one]; exact Nat.dvd_refl _))
    · exact .inl rfl
/-- each divisor of the order but 1 is great -/
theorem divisor_great {l : Nat} (hl : 1 < l) (hd : l ∣ qQ) : f1 * f2 ≤ l := by
  refine Nat.le_of_not_lt fun hlt => ?_
  have hF : bB ^ (f1 * f2) % l = 1 % l := pow_mod_dvd hd bB_F
  obtain ⟨i, j, hij, hj, he⟩ := pigeon l (fun i => bB ^ i % l) (fun i _ => Nat.mod_lt _ (by omega))
  have h1 := pow_less hF (show i ≤ f1 * f2 by omega) (show i ≤ j by omega) he
  have hg := pow_gcd _ _ h1 hF
  have hgd := Nat.gcd_dvd_right (j - i) (f1 * f2)
  have hgl := Nat.le_of_dvd (by omega) (Nat.gcd_dvd_left (j - i) (f1 * f2))
  generalize Nat.gcd (j - i) (f1 * f2) = g at *
  rcases dvd_cases hgd with h | ⟨c, hc⟩ | ⟨c, hc⟩
  · omega
  · refine not_one hl hd bB_1 ?_
    rw [hc, Nat.pow_mul, powmod hg, Nat.one_pow]
  · refine not_one hl hd bB_2 ?_
    rw [hc, Nat.pow_mul, powmod hg, Nat.one_pow]
theorem q_prime {d : Nat} (h : d ∣ qQ) : d = 1 ∨ d = qQ := by
  obtain ⟨c, hc⟩ := h
  have hd0 : d ≠ 0 := by intro h0; rw [h0, Nat.zero_mul] at hc; exact absurd hc (by decide)
  have hc0 : c ≠ 0 := by intro h0; rw [h0, Nat.mul_zero] at hc; exact absurd hc (by decide)
  by_cases h1 : d = 1
  · exact .inl h1
  by_cases h2 : c = 1
  · exact .inr (by rw [hc, h2, Nat.mul_one])
  have g1 := divisor_great (show 1 < d by omega) ⟨c, hc⟩
  have g2 := divisor_great (show 1 < c by omega) ⟨d, by rw [hc, Nat.mul_comm]⟩
  have := Nat.mul_le_mul g1 g2
  rw [← hc] at this
  exact absurd this (by decide)
theorem coprime_q {d : Nat} (h0 : 0 < d) (h1 : d < qQ) : Nat.gcd d qQ = 1 := by
  rcases q_prime (Nat.gcd_dvd_right d qQ) with h | h
  · exact h
  · have := Nat.le_of_dvd h0 (Nat.gcd_dvd_left d qQ)
    omega

/-- the base to the order is 1 -/
theorem four_q : 4 ^ qQ % pP = 1 % pP := by
  rw [← powm_eq pP 60 _ _ (by decide)]; decide +kernel
theorem four_order {d : Nat} (h0 : 0 < d) (h1 : d < qQ) : 4 ^ d % pP ≠ 1 % pP := by
  intro h
  have := pow_gcd _ _ h four_q
  rw [coprime_q h0 h1] at this
  exact absurd this (by decide)
theorem four_inj {s t : Nat} (hs : s < qQ) (ht : t < qQ) (h : 4 ^ s % pP = 4 ^ t % pP) : s = t := by
  rcases Nat.lt_trichotomy s t with hl | hl | hl
  · exact absurd (pow_less four_q (by omega) (by omega) h) (four_order (by omega) (by omega))
  · exact hl
  · exact absurd (pow_less four_q (by omega) (by omega) h.symm) (four_order (by omega) (by omega))
theorem four_not_zero (e : Nat) : 4 ^ e % pP ≠ 0 := by
  intro h
  have h1 : 4 ^ e * 4 ^ (qQ * e - e + 0) % pP = 0 := by rw [Nat.mul_mod, h, Nat.zero_mul, Nat.zero_mod]
  rw [← Nat.pow_add, show e + (qQ * e - e + 0) = qQ * e by
    have := Nat.le_mul_of_pos_left e (show 0 < qQ by decide); omega, Nat.pow_mul, powmod four_q, Nat.one_pow] at h1
  exact absurd h1 (by decide)
end Go.Proofs.YtiflkkelbnpniaaGreatDoor
namespace Go.Proofs.YtiflkkelbnpniaaGreatDoor
open Go.RowKit

set_option maxRecDepth 100000 in
set_option maxHeartbeats 400000 in
theorem len64_p (w : World) : Calls Tryz.prog 162 #[.int .u64 (1152921504606849707 : Int)] w fun e w' => e = .returned (.int .i64 61) ∧ w' = w := by
  go_enter Tryz.func162, Tryz.ntmps162
  go_wp2
  go_ret
  exact ⟨by kernel_rfl, rfl⟩
theorem lz_p (w : World) : Calls Tryz.prog 157 #[.int .u64 (1152921504606849707 : Int)] w fun e w' => e = .returned (.int .i64 3) ∧ w' = w := by
  go_enter Tryz.func157, Tryz.ntmps157
  go_wp2_with (go_at_call 162; refine (len64_p _).mono ?_; rintro e w' ⟨rfl, rfl⟩)
  go_ret
  exact ⟨rfl, rfl⟩
set_option maxRecDepth 100000 in
set_option maxHeartbeats 400000 in
theorem len64_q (w : World) : Calls Tryz.prog 162 #[.int .u64 (576460752303424853 : Int)] w fun e w' => e = .returned (.int .i64 60) ∧ w' = w := by
  go_enter Tryz.func162, Tryz.ntmps162
  go_wp2
  go_ret
  exact ⟨by kernel_rfl, rfl⟩
theorem lz_q (w : World) : Calls Tryz.prog 157 #[.int .u64 (576460752303424853 : Int)] w fun e w' => e = .returned (.int .i64 4) ∧ w' = w := by
  go_enter Tryz.func157, Tryz.ntmps157
  go_wp2_with (go_at_call 162; refine (len64_q _).mono ?_; rintro e w' ⟨rfl, rfl⟩)
  go_ret
  exact ⟨rfl, rfl⟩

theorem w64_sub (a b : Nat) (h : b ≤ a) (h' : a < 18446744073709551616) : IntKind.u64.wrap ((a : Int) - (b : Int)) = ((a - b : Nat) : Int) := by
  rw [← Int.ofNat_sub h]; exact w64 _ (by omega)
theorem w64_div (a b : Nat) (h : a < 18446744073709551616) : IntKind.u64.wrap ((a : Int) / (b : Int)) = ((a / b : Nat) : Int) := by
  rw [← Int.natCast_ediv]; exact w64 _ (Nat.lt_of_le_of_lt (Nat.div_le_self _ _) h)
theorem w64_mod3 (a b c : Nat) (h : c ≤ a * 4294967296 + b) (h' : a * 4294967296 + b - c < 18446744073709551616) :
    IntKind.u64.wrap (((a * 4294967296 % 18446744073709551616 + b) % 18446744073709551616 : Nat) - ((c % 18446744073709551616 : Nat) : Int)) = ((a * 4294967296 + b - c : Nat) : Int) := by
  simp only [IntKind.wrap, IntKind.bits, IntKind.signed]
  simp
  omega
theorem w64_mullit (a : Nat) : IntKind.u64.wrap ((a : Int) * 4294967296) = ((a * 4294967296 % 18446744073709551616 : Nat) : Int) := w64_mulmod a 4294967296
theorem w64_addmod (a b : Nat) : IntKind.u64.wrap ((a : Int) + (b : Int)) = (((a + b) % 18446744073709551616 : Nat) : Int) := by
  rw [← Int.natCast_add]
  simp [IntKind.wrap, IntKind.bits, IntKind.signed]
theorem guess_lt {k v0 : Nat} (h : k < 4294967296) (h' : v0 < 4294967296) : k * v0 < 18446744073709551616 := by
  have := Nat.mul_le_mul (show k ≤ 4294967295 by omega) (show v0 ≤ 4294967295 by omega)
  omega
/-- what the walk must know of a guess ahead of its round's test -/
theorem test_facts {k m v0 u1 : Nat} (hm : m < 4294967296) (hu1 : u1 < 4294967296) (hv0 : v0 < 4294967296) (hk : k < 4294967296) : ∃ a b c : Nat, IntKind.u64.wrap ((k : Int) * (v0 : Int)) = (a : Int) ∧ IntKind.u64.wrap (4294967296 * (m : Int)) = (b : Int) ∧ IntKind.u64.wrap ((b : Int) + (u1 : Int)) = (c : Int) ∧ a = k * v0 ∧ c = 4294967296 * m + u1 :=
  ⟨k * v0, 4294967296 * m, 4294967296 * m + u1, w64_mul _ _ (guess_lt hk hv0), w64_mul 4294967296 m (by omega), w64_add _ _ (by omega), rfl, rfl⟩
/-- and of a guess that is made -/
theorem start_facts {u v1 : Nat} (h : u < 18446744073709551616) : ∃ q x r : Nat, IntKind.u64.wrap ((u : Int) / (v1 : Int)) = (q : Int) ∧ IntKind.u64.wrap ((q : Int) * (v1 : Int)) = (x : Int) ∧ IntKind.u64.wrap ((u : Int) - (x : Int)) = (r : Int) ∧ q = u / v1 ∧ r = u % v1 := by
  have h1 : u / v1 * v1 ≤ u := Nat.div_mul_le_self u v1
  refine ⟨u / v1, u / v1 * v1, u - u / v1 * v1, w64_div _ _ h, w64_mul _ _ (by omega), w64_sub _ _ h1 h, rfl, ?_⟩
  have := Nat.div_add_mod u v1
  rw [Nat.mul_comm] at this
  omega
/-- and of what is left behind a word of the quotient -/
theorem left_facts {u u1 k v1 v0 Y : Nat} (hq : Quot u u1 v1 v0 k) (hY : Y = v1 * 4294967296 + v0) (hY' : Y < 18446744073709551616) :
    ∃ a1 a2 a3 R : Nat, IntKind.u64.wrap ((u : Int) * 4294967296) = (a1 : Int) ∧ IntKind.u64.wrap ((a1 : Int) + (u1 : Int)) = (a2 : Int) ∧ IntKind.u64.wrap ((k : Int) * (Y : Int)) = (a3 : Int) ∧ IntKind.u64.wrap ((a2 : Int) - (a3 : Int)) = (R : Int) ∧ R = u * 4294967296 + u1 - k * (v1 * 4294967296 + v0) ∧ R < v1 * 4294967296 + v0 := by
  subst hY
  have hl := quot_left hq
  exact ⟨_, _, _, u * 4294967296 + u1 - k * (v1 * 4294967296 + v0), w64_mullit u, w64_addmod _ u1, w64_mulmod k _, w64_mod3 _ _ _ hq.1 (by omega), rfl, hl⟩

set_option maxRecDepth 100000 in
set_option maxHeartbeats 1000000 in
theorem div64_3 (hi lo y Y v1 v0 hs ls u un10 u1 u0 : Nat) (w : World) (hy : 0 < y) (hhi : hi < y) (h0 : hi ≠ 0)
    (hlz : Hid (∀ w : World, Calls Tryz.prog 157 #[.int .u64 (y : Int)] w fun e w' => e = .returned (.int .i64 3) ∧ w' = w))
    (e1 : IntKind.u64.wrap ((y : Int) * 8) = (Y : Int)) (e2 : (Y : Int) / (4294967296 : Int) = (v1 : Int)) (e3 : bits .and .u64 (Y : Int) (4294967295 : Int) = (v0 : Int))
    (e4 : IntKind.u64.wrap ((hi : Int) * 8) = (hs : Int)) (e5 : (lo : Int) / (2305843009213693952 : Int) = (ls : Int)) (e6 : bits .or .u64 (hs : Int) (ls : Int) = (u : Int))
    (hv1 : 2147483648 ≤ v1) (hv1' : v1 < 4294967296) (hv0 : v0 < 4294967296) (hu1 : u1 < 4294967296) (hu0 : u0 < 4294967296) (hY : Y = v1 * 4294967296 + v0) (hu : u < v1 * 4294967296 + v0)
    (e7 : IntKind.u64.wrap ((lo : Int) * 8) = (un10 : Int)) (e8 : (un10 : Int) / (4294967296 : Int) = (u1 : Int)) (e9 : bits .and .u64 (un10 : Int) (4294967295 : Int) = (u0 : Int)) :
    Calls Tryz.prog 150 #[.int .u64 (hi : Int), .int .u64 (lo : Int), .int .u64 (y : Int)] w fun e w' =>
      ∃ q : Int, e = .returned (.tuple #[.int .u64 q, .int .u64 (((u * 18446744073709551616 + u1 * 4294967296 + u0) % (v1 * 4294967296 + v0) / 8 : Nat) : Int)]) ∧ w' = w := by
  have d1 : ((y : Int) == 0) = false := by simp; omega
  have d2 : decide ((y : Int) ≤ (hi : Int)) = false := by simp; omega
  have d3 : ((hi : Int) == 0) = false := by simp; omega
  have d4 : ((v1 : Int) == 0) = false := by simp; omega
  obtain ⟨q, x, r, d5, d6, d7, hq, hr⟩ := start_facts (u := u) (v1 := v1) (by omega)
  have hst := guess_start u u1 v1 v0 hv1 hv1' hu1 hv0 hu
  rw [← hq, ← hr] at hst
  have HG := hid hst
  have HY := hid hY
  have Hu := hid hu
  clear hst hY hu hq hr
  go_enter Tryz.func150, Tryz.ntmps150
  go_upto_block 0 with (go_at_call 157; refine (hlz.out _).mono ?_; rintro e w' ⟨rfl, rfl⟩)
  go_cut [15, 16] from 67 to 85 (fun x _ wx => ∃ k : Nat, x = .int .u64 (k : Int) ∧ Quot u u1 v1 v0 k ∧ wx = w')
  case first =>
    go_wp2_with fail
    go_loop [15, 16] (fun a b => ∃ k m : Nat, a = .int .u64 (k : Int) ∧ b = .int .u64 (m : Int) ∧ Guess u u1 v1 v0 k m) (fun a _ => (intOf a).toNat)
    case atStart => exact ⟨_, _, rfl, rfl, HG.out⟩
    case round =>
      obtain ⟨k, m, rfl, rfl, hg⟩ := hrel
      have hm := hg.2.2.1
      have hk2 := hg.2.1
      by_cases hA : k < 4294967296 ∧ k * v0 ≤ 4294967296 * m + u1
      · obtain ⟨hk, hle⟩ := hA
        obtain ⟨a, b, c, g1, g2, g3, ha, hc⟩ := test_facts hm hu1 hv0 hk
        have g4 : decide ((4294967296 : Int) ≤ (k : Int)) = false := by simp; omega
        have g5 : decide ((c : Int) < (a : Int)) = false := by simp; omega
        have g5' : decide (c < a) = false := by simp; omega
        have HQ := hid (guess_done hg hk hle)
        clear ha hc hle hg
        go_wp2
        go_meet
        exact ⟨_, rfl, HQ.out, rfl⟩
      · have hB : 4294967296 ≤ k ∨ 4294967296 * m + u1 < k * v0 := by omega
        have hgr := guess_great hg hu1 Hu.out hB
        have g6 : IntKind.u64.wrap ((k : Int) - 1) = ((k - 1 : Nat) : Int) := w64_sub k 1 hgr.1 (by omega)
        have g7 : IntKind.u64.wrap ((m : Int) + (v1 : Int)) = ((m + v1 : Nat) : Int) := w64_add _ _ (by omega)
        have hk0 := hgr.1
        by_cases hr : m + v1 < 4294967296
        · have hn := guess_next hg hu1 Hu.out hB hr
          obtain ⟨k1, hk1⟩ : ∃ k1, k - 1 = k1 := ⟨_, rfl⟩
          obtain ⟨m1, hm1⟩ : ∃ m1, m + v1 = m1 := ⟨_, rfl⟩
          rw [hk1] at hn g6
          rw [hm1] at hn g7
          have g8 : decide ((4294967296 : Int) ≤ (m1 : Int)) = false := by simp; omega
          have HN := hid hn
          have HK1 := hid hk1
          clear hn hg hk1 hm1 hr hgr hA
          by_cases hk : k < 4294967296
          · have hlt : 4294967296 * m + u1 < k * v0 := by omega
            obtain ⟨a, b, c, g1, g2, g3, ha, hc⟩ := test_facts hm hu1 hv0 hk
            have g4 : decide ((4294967296 : Int) ≤ (k : Int)) = false := by simp; omega
            have g5 : decide ((c : Int) < (a : Int)) = true := by simp; omega
            have g5' : decide (c < a) = true := by simp; omega
            clear ha hc hlt hB
            go_wp2
            go_round
            case rel => exact ⟨_, _, rfl, rfl, HN.out⟩
            case measure => have := HK1.out; simp [intOf]; omega
          · have g4 : decide ((4294967296 : Int) ≤ (k : Int)) = true := by simp; omega
            clear hB
            go_wp2
            go_round
            case rel => exact ⟨_, _, rfl, rfl, HN.out⟩
            case measure => have := HK1.out; simp [intOf]; omega
        · have hq := guess_break hg hu1 hv0 Hu.out hB (by omega)
          obtain ⟨k1, hk1⟩ : ∃ k1, k - 1 = k1 := ⟨_, rfl⟩
          obtain ⟨m1, hm1⟩ : ∃ m1, m + v1 = m1 := ⟨_, rfl⟩
          rw [hk1] at hq g6
          rw [hm1] at g7
          have g8 : decide ((4294967296 : Int) ≤ (m1 : Int)) = true := by simp; omega
          have HQ := hid hq
          clear hq hg hk1 hm1 hr hgr hA
          by_cases hk : k < 4294967296
          · have hlt : 4294967296 * m + u1 < k * v0 := by omega
            obtain ⟨a, b, c, g1, g2, g3, ha, hc⟩ := test_facts hm hu1 hv0 hk
            have g4 : decide ((4294967296 : Int) ≤ (k : Int)) = false := by simp; omega
            have g5 : decide ((c : Int) < (a : Int)) = true := by simp; omega
            have g5' : decide (c < a) = true := by simp; omega
            clear ha hc hlt hB
            go_wp2
            go_meet
            exact ⟨_, rfl, HQ.out, rfl⟩
          · have g4 : decide ((4294967296 : Int) ≤ (k : Int)) = true := by simp; omega
            clear hB
            go_wp2
            go_meet
            exact ⟨_, rfl, HQ.out, rfl⟩

  case rest =>
    obtain ⟨k, rfl, hk, rfl⟩ := hcut
    clear d5 d6 d7 HG
    obtain ⟨a1, a2, a3, R, f1, f2, f3, f4, hR, hRl⟩ := left_facts hk HY.out (by have := HY.out; omega)
    obtain ⟨q2, x2, r2, d5, d6, d7, hq2, hr2⟩ := start_facts (u := R) (v1 := v1) (by omega)
    have hst := guess_start R u0 v1 v0 hv1 hv1' hu0 hv0 hRl
    rw [← hq2, ← hr2] at hst
    have HG := hid hst
    have HR := hid hRl
    have HRE := hid hR
    have HK := hid hk
    clear hst hR hRl hk hq2 hr2 Hu
    go_upto_block 2 with fail
    go_cut [18, 16] from 102 to 120 (fun x _ wx => ∃ k : Nat, x = .int .u64 (k : Int) ∧ Quot R u0 v1 v0 k ∧ wx = wc)
    case first =>
      go_wp2_with fail
      go_loop [18, 16] (fun a b => ∃ k m : Nat, a = .int .u64 (k : Int) ∧ b = .int .u64 (m : Int) ∧ Guess R u0 v1 v0 k m) (fun a _ => (intOf a).toNat)
      case atStart => exact ⟨_, _, rfl, rfl, HG.out⟩
      case round =>
        obtain ⟨k, m, rfl, rfl, hg⟩ := hrel
        have hm := hg.2.2.1
        have hk2 := hg.2.1
        by_cases hA : k < 4294967296 ∧ k * v0 ≤ 4294967296 * m + u0
        · obtain ⟨hk, hle⟩ := hA
          obtain ⟨a, b, c, g1, g2, g3, ha, hc⟩ := test_facts hm hu0 hv0 hk
          have g4 : decide ((4294967296 : Int) ≤ (k : Int)) = false := by simp; omega
          have g5 : decide ((c : Int) < (a : Int)) = false := by simp; omega
          have g5' : decide (c < a) = false := by simp; omega
          have HQ := hid (guess_done hg hk hle)
          clear ha hc hle hg
          go_wp2
          go_meet
          exact ⟨_, rfl, HQ.out, rfl⟩
        · have hB : 4294967296 ≤ k ∨ 4294967296 * m + u0 < k * v0 := by omega
          have hgr := guess_great hg hu0 HR.out hB
          have g6 : IntKind.u64.wrap ((k : Int) - 1) = ((k - 1 : Nat) : Int) := w64_sub k 1 hgr.1 (by omega)
          have g7 : IntKind.u64.wrap ((m : Int) + (v1 : Int)) = ((m + v1 : Nat) : Int) := w64_add _ _ (by omega)
          have hk0 := hgr.1
          by_cases hr : m + v1 < 4294967296
          · have hn := guess_next hg hu0 HR.out hB hr
            obtain ⟨k1, hk1⟩ : ∃ k1, k - 1 = k1 := ⟨_, rfl⟩
            obtain ⟨m1, hm1⟩ : ∃ m1, m + v1 = m1 := ⟨_, rfl⟩
            rw [hk1] at hn g6
            rw [hm1] at hn g7
            have g8 : decide ((4294967296 : Int) ≤ (m1 : Int)) = false := by simp; omega
            have HN := hid hn
            have HK1 := hid hk1
            clear hn hg hk1 hm1 hr hgr hA
            by_cases hk : k < 4294967296
            · have hlt : 4294967296 * m + u0 < k * v0 := by omega
              obtain ⟨a, b, c, g1, g2, g3, ha, hc⟩ := test_facts hm hu0 hv0 hk
              have g4 : decide ((4294967296 : Int) ≤ (k : Int)) = false := by simp; omega
              have g5 : decide ((c : Int) < (a : Int)) = true := by simp; omega
              have g5' : decide (c < a) = true := by simp; omega
              clear ha hc hlt hB
              go_wp2
              go_round
              case rel => exact ⟨_, _, rfl, rfl, HN.out⟩
              case measure => have := HK1.out; simp [intOf]; omega
            · have g4 : decide ((4294967296 : Int) ≤ (k : Int)) = true := by simp; omega
              clear hB
              go_wp2
              go_round
              case rel => exact ⟨_, _, rfl, rfl, HN.out⟩
              case measure => have := HK1.out; simp [intOf]; omega
          · have hq := guess_break hg hu0 hv0 HR.out hB (by omega)
            obtain ⟨k1, hk1⟩ : ∃ k1, k - 1 = k1 := ⟨_, rfl⟩
            obtain ⟨m1, hm1⟩ : ∃ m1, m + v1 = m1 := ⟨_, rfl⟩
            rw [hk1] at hq g6
            rw [hm1] at g7
            have g8 : decide ((4294967296 : Int) ≤ (m1 : Int)) = true := by simp; omega
            have HQ := hid hq
            clear hq hg hk1 hm1 hr hgr hA
            by_cases hk : k < 4294967296
            · have hlt : 4294967296 * m + u0 < k * v0 := by omega
              obtain ⟨a, b, c, g1, g2, g3, ha, hc⟩ := test_facts hm hu0 hv0 hk
              have g4 : decide ((4294967296 : Int) ≤ (k : Int)) = false := by simp; omega
              have g5 : decide ((c : Int) < (a : Int)) = true := by simp; omega
              have g5' : decide (c < a) = true := by simp; omega
              clear ha hc hlt hB
              go_wp2
              go_meet
              exact ⟨_, rfl, HQ.out, rfl⟩
            · have g4 : decide ((4294967296 : Int) ≤ (k : Int)) = true := by simp; omega
              clear hB
              go_wp2
              go_meet
              exact ⟨_, rfl, HQ.out, rfl⟩

    case rest =>
      obtain ⟨k2, rfl, hk2, rfl⟩ := hcut
      clear f1 f2 f3 f4 d5 d6 d7 HG
      obtain ⟨a1, a2, a3, R2, f1, f2, f3, f4, hR2, hRl2⟩ := left_facts hk2 HY.out (by have := HY.out; omega)
      have hfin : R2 / 8 = (u * 18446744073709551616 + u1 * 4294967296 + u0) % (v1 * 4294967296 + v0) / 8 := by
        have h3 := HK.out
        have h4 := HRE.out
        rw [h4] at hk2 hR2
        rw [hR2, quot_both h3 hk2]
      have g1 : (R2 : Int) / 8 = ((R2 / 8 : Nat) : Int) := by omega
      obtain ⟨z, hz⟩ : ∃ z, R2 / 8 = z := ⟨_, rfl⟩
      rw [hz] at g1 hfin
      have HF := hid hfin
      clear hfin hz hR2 hRl2 hk2
      go_wp2
      go_ret2
      exact ⟨_, by rw [← HF.out]; rfl, rfl⟩

set_option maxRecDepth 100000 in
set_option maxHeartbeats 1000000 in
theorem div64_4 (hi lo y Y v1 v0 hs ls u un10 u1 u0 : Nat) (w : World) (hy : 0 < y) (hhi : hi < y) (h0 : hi ≠ 0)
    (hlz : Hid (∀ w : World, Calls Tryz.prog 157 #[.int .u64 (y : Int)] w fun e w' => e = .returned (.int .i64 4) ∧ w' = w))
    (e1 : IntKind.u64.wrap ((y : Int) * 16) = (Y : Int)) (e2 : (Y : Int) / (4294967296 : Int) = (v1 : Int)) (e3 : bits .and .u64 (Y : Int) (4294967295 : Int) = (v0 : Int))
    (e4 : IntKind.u64.wrap ((hi : Int) * 16) = (hs : Int)) (e5 : (lo : Int) / (1152921504606846976 : Int) = (ls : Int)) (e6 : bits .or .u64 (hs : Int) (ls : Int) = (u : Int))
    (hv1 : 2147483648 ≤ v1) (hv1' : v1 < 4294967296) (hv0 : v0 < 4294967296) (hu1 : u1 < 4294967296) (hu0 : u0 < 4294967296) (hY : Y = v1 * 4294967296 + v0) (hu : u < v1 * 4294967296 + v0)
    (e7 : IntKind.u64.wrap ((lo : Int) * 16) = (un10 : Int)) (e8 : (un10 : Int) / (4294967296 : Int) = (u1 : Int)) (e9 : bits .and .u64 (un10 : Int) (4294967295 : Int) = (u0 : Int)) :
    Calls Tryz.prog 150 #[.int .u64 (hi : Int), .int .u64 (lo : Int), .int .u64 (y : Int)] w fun e w' =>
      ∃ q : Int, e = .returned (.tuple #[.int .u64 q, .int .u64 (((u * 18446744073709551616 + u1 * 4294967296 + u0) % (v1 * 4294967296 + v0) / 16 : Nat) : Int)]) ∧ w' = w := by
  have d1 : ((y : Int) == 0) = false := by simp; omega
  have d2 : decide ((y : Int) ≤ (hi : Int)) = false := by simp; omega
  have d3 : ((hi : Int) == 0) = false := by simp; omega
  have d4 : ((v1 : Int) == 0) = false := by simp; omega
  obtain ⟨q, x, r, d5, d6, d7, hq, hr⟩ := start_facts (u := u) (v1 := v1) (by omega)
  have hst := guess_start u u1 v1 v0 hv1 hv1' hu1 hv0 hu
  rw [← hq, ← hr] at hst
  have HG := hid hst
  have HY := hid hY
  have Hu := hid hu
  clear hst hY hu hq hr
  go_enter Tryz.func150, Tryz.ntmps150
  go_upto_block 0 with (go_at_call 157; refine (hlz.out _).mono ?_; rintro e w' ⟨rfl, rfl⟩)
  go_cut [15, 16] from 67 to 85 (fun x _ wx => ∃ k : Nat, x = .int .u64 (k : Int) ∧ Quot u u1 v1 v0 k ∧ wx = w')
  case first =>
    go_wp2_with fail
    go_loop [15, 16] (fun a b => ∃ k m : Nat, a = .int .u64 (k : Int) ∧ b = .int .u64 (m : Int) ∧ Guess u u1 v1 v0 k m) (fun a _ => (intOf a).toNat)
    case atStart => exact ⟨_, _, rfl, rfl, HG.out⟩
    case round =>
      obtain ⟨k, m, rfl, rfl, hg⟩ := hrel
      have hm := hg.2.2.1
      have hk2 := hg.2.1
      by_cases hA : k < 4294967296 ∧ k * v0 ≤ 4294967296 * m + u1
      · obtain ⟨hk, hle⟩ := hA
        obtain ⟨a, b, c, g1, g2, g3, ha, hc⟩ := test_facts hm hu1 hv0 hk
        have g4 : decide ((4294967296 : Int) ≤ (k : Int)) = false := by simp; omega
        have g5 : decide ((c : Int) < (a : Int)) = false := by simp; omega
        have g5' : decide (c < a) = false := by simp; omega
        have HQ := hid (guess_done hg hk hle)
        clear ha hc hle hg
        go_wp2
        go_meet
        exact ⟨_, rfl, HQ.out, rfl⟩
      · have hB : 4294967296 ≤ k ∨ 4294967296 * m + u1 < k * v0 := by omega
        have hgr := guess_great hg hu1 Hu.out hB
        have g6 : IntKind.u64.wrap ((k : Int) - 1) = ((k - 1 : Nat) : Int) := w64_sub k 1 hgr.1 (by omega)
        have g7 : IntKind.u64.wrap ((m : Int) + (v1 : Int)) = ((m + v1 : Nat) : Int) := w64_add _ _ (by omega)
        have hk0 := hgr.1
        by_cases hr : m + v1 < 4294967296
        · have hn := guess_next hg hu1 Hu.out hB hr
          obtain ⟨k1, hk1⟩ : ∃ k1, k - 1 = k1 := ⟨_, rfl⟩
          obtain ⟨m1, hm1⟩ : ∃ m1, m + v1 = m1 := ⟨_, rfl⟩
          rw [hk1] at hn g6
          rw [hm1] at hn g7
          have g8 : decide ((4294967296 : Int) ≤ (m1 : Int)) = false := by simp; omega
          have HN := hid hn
          have HK1 := hid hk1
          clear hn hg hk1 hm1 hr hgr hA
          by_cases hk : k < 4294967296
          · have hlt : 4294967296 * m + u1 < k * v0 := by omega
            obtain ⟨a, b, c, g1, g2, g3, ha, hc⟩ := test_facts hm hu1 hv0 hk
            have g4 : decide ((4294967296 : Int) ≤ (k : Int)) = false := by simp; omega
            have g5 : decide ((c : Int) < (a : Int)) = true := by simp; omega
            have g5' : decide (c < a) = true := by simp; omega
            clear ha hc hlt hB
            go_wp2
            go_round
            case rel => exact ⟨_, _, rfl, rfl, HN.out⟩
            case measure => have := HK1.out; simp [intOf]; omega
          · have g4 : decide ((4294967296 : Int) ≤ (k : Int)) = true := by simp; omega
            clear hB
            go_wp2
            go_round
            case rel => exact ⟨_, _, rfl, rfl, HN.out⟩
            case measure => have := HK1.out; simp [intOf]; omega
        · have hq := guess_break hg hu1 hv0 Hu.out hB (by omega)
          obtain ⟨k1, hk1⟩ : ∃ k1, k - 1 = k1 := ⟨_, rfl⟩
          obtain ⟨m1, hm1⟩ : ∃ m1, m + v1 = m1 := ⟨_, rfl⟩
          rw [hk1] at hq g6
          rw [hm1] at g7
          have g8 : decide ((4294967296 : Int) ≤ (m1 : Int)) = true := by simp; omega
          have HQ := hid hq
          clear hq hg hk1 hm1 hr hgr hA
          by_cases hk : k < 4294967296
          · have hlt : 4294967296 * m + u1 < k * v0 := by omega
            obtain ⟨a, b, c, g1, g2, g3, ha, hc⟩ := test_facts hm hu1 hv0 hk
            have g4 : decide ((4294967296 : Int) ≤ (k : Int)) = false := by simp; omega
            have g5 : decide ((c : Int) < (a : Int)) = true := by simp; omega
            have g5' : decide (c < a) = true := by simp; omega
            clear ha hc hlt hB
            go_wp2
            go_meet
            exact ⟨_, rfl, HQ.out, rfl⟩
          · have g4 : decide ((4294967296 : Int) ≤ (k : Int)) = true := by simp; omega
            clear hB
            go_wp2
            go_meet
            exact ⟨_, rfl, HQ.out, rfl⟩

  case rest =>
    obtain ⟨k, rfl, hk, rfl⟩ := hcut
    clear d5 d6 d7 HG
    obtain ⟨a1, a2, a3, R, f1, f2, f3, f4, hR, hRl⟩ := left_facts hk HY.out (by have := HY.out; omega)
    obtain ⟨q2, x2, r2, d5, d6, d7, hq2, hr2⟩ := start_facts (u := R) (v1 := v1) (by omega)
    have hst := guess_start R u0 v1 v0 hv1 hv1' hu0 hv0 hRl
    rw [← hq2, ← hr2] at hst
    have HG := hid hst
    have HR := hid hRl
    have HRE := hid hR
    have HK := hid hk
    clear hst hR hRl hk hq2 hr2 Hu
    go_upto_block 2 with fail
    go_cut [18, 16] from 102 to 120 (fun x _ wx => ∃ k : Nat, x = .int .u64 (k : Int) ∧ Quot R u0 v1 v0 k ∧ wx = wc)
    case first =>
      go_wp2_with fail
      go_loop [18, 16] (fun a b => ∃ k m : Nat, a = .int .u64 (k : Int) ∧ b = .int .u64 (m : Int) ∧ Guess R u0 v1 v0 k m) (fun a _ => (intOf a).toNat)
      case atStart => exact ⟨_, _, rfl, rfl, HG.out⟩
      case round =>
        obtain ⟨k, m, rfl, rfl, hg⟩ := hrel
        have hm := hg.2.2.1
        have hk2 := hg.2.1
        by_cases hA : k < 4294967296 ∧ k * v0 ≤ 4294967296 * m + u0
        · obtain ⟨hk, hle⟩ := hA
          obtain ⟨a, b, c, g1, g2, g3, ha, hc⟩ := test_facts hm hu0 hv0 hk
          have g4 : decide ((4294967296 : Int) ≤ (k : Int)) = false := by simp; omega
          have g5 : decide ((c : Int) < (a : Int)) = false := by simp; omega
          have g5' : decide (c < a) = false := by simp; omega
          have HQ := hid (guess_done hg hk hle)
          clear ha hc hle hg
          go_wp2
          go_meet
          exact ⟨_, rfl, HQ.out, rfl⟩
        · have hB : 4294967296 ≤ k ∨ 4294967296 * m + u0 < k * v0 := by omega
          have hgr := guess_great hg hu0 HR.out hB
          have g6 : IntKind.u64.wrap ((k : Int) - 1) = ((k - 1 : Nat) : Int) := w64_sub k 1 hgr.1 (by omega)
          have g7 : IntKind.u64.wrap ((m : Int) + (v1 : Int)) = ((m + v1 : Nat) : Int) := w64_add _ _ (by omega)
          have hk0 := hgr.1
          by_cases hr : m + v1 < 4294967296
          · have hn := guess_next hg hu0 HR.out hB hr
            obtain ⟨k1, hk1⟩ : ∃ k1, k - 1 = k1 := ⟨_, rfl⟩
            obtain ⟨m1, hm1⟩ : ∃ m1, m + v1 = m1 := ⟨_, rfl⟩
            rw [hk1] at hn g6
            rw [hm1] at hn g7
            have g8 : decide ((4294967296 : Int) ≤ (m1 : Int)) = false := by simp; omega
            have HN := hid hn
            have HK1 := hid hk1
            clear hn hg hk1 hm1 hr hgr hA
            by_cases hk : k < 4294967296
            · have hlt : 4294967296 * m + u0 < k * v0 := by omega
              obtain ⟨a, b, c, g1, g2, g3, ha, hc⟩ := test_facts hm hu0 hv0 hk
              have g4 : decide ((4294967296 : Int) ≤ (k : Int)) = false := by simp; omega
              have g5 : decide ((c : Int) < (a : Int)) = true := by simp; omega
              have g5' : decide (c < a) = true := by simp; omega
              clear ha hc hlt hB
              go_wp2
              go_round
              case rel => exact ⟨_, _, rfl, rfl, HN.out⟩
              case measure => have := HK1.out; simp [intOf]; omega
            · have g4 : decide ((4294967296 : Int) ≤ (k : Int)) = true := by simp; omega
              clear hB
              go_wp2
              go_round
              case rel => exact ⟨_, _, rfl, rfl, HN.out⟩
              case measure => have := HK1.out; simp [intOf]; omega
          · have hq := guess_break hg hu0 hv0 HR.out hB (by omega)
            obtain ⟨k1, hk1⟩ : ∃ k1, k - 1 = k1 := ⟨_, rfl⟩
            obtain ⟨m1, hm1⟩ : ∃ m1, m + v1 = m1 := ⟨_, rfl⟩
            rw [hk1] at hq g6
            rw [hm1] at g7
            have g8 : decide ((4294967296 : Int) ≤ (m1 : Int)) = true := by simp; omega
            have HQ := hid hq
            clear hq hg hk1 hm1 hr hgr hA
            by_cases hk : k < 4294967296
            · have hlt : 4294967296 * m + u0 < k * v0 := by omega
              obtain ⟨a, b, c, g1, g2, g3, ha, hc⟩ := test_facts hm hu0 hv0 hk
              have g4 : decide ((4294967296 : Int) ≤ (k : Int)) = false := by simp; omega
              have g5 : decide ((c : Int) < (a : Int)) = true := by simp; omega
              have g5' : decide (c < a) = true := by simp; omega
              clear ha hc hlt hB
              go_wp2
              go_meet
              exact ⟨_, rfl, HQ.out, rfl⟩
            · have g4 : decide ((4294967296 : Int) ≤ (k : Int)) = true := by simp; omega
              clear hB
              go_wp2
              go_meet
              exact ⟨_, rfl, HQ.out, rfl⟩

    case rest =>
      obtain ⟨k2, rfl, hk2, rfl⟩ := hcut
      clear f1 f2 f3 f4 d5 d6 d7 HG
      obtain ⟨a1, a2, a3, R2, f1, f2, f3, f4, hR2, hRl2⟩ := left_facts hk2 HY.out (by have := HY.out; omega)
      have hfin : R2 / 16 = (u * 18446744073709551616 + u1 * 4294967296 + u0) % (v1 * 4294967296 + v0) / 16 := by
        have h3 := HK.out
        have h4 := HRE.out
        rw [h4] at hk2 hR2
        rw [hR2, quot_both h3 hk2]
      have g1 : (R2 : Int) / 16 = ((R2 / 16 : Nat) : Int) := by omega
      obtain ⟨z, hz⟩ : ∃ z, R2 / 16 = z := ⟨_, rfl⟩
      rw [hz] at g1 hfin
      have HF := hid hfin
      clear hfin hz hR2 hRl2 hk2
      go_wp2
      go_ret2
      exact ⟨_, by rw [← HF.out]; rfl, rfl⟩
end Go.Proofs.YtiflkkelbnpniaaGreatDoor
namespace Go.Proofs.YtiflkkelbnpniaaGreatDoor
open Go.RowKit

set_option maxHeartbeats 400000 in
theorem div_zero_p (lo : Nat) (w : World) (hlo : lo < 18446744073709551616) :
    Calls Tryz.prog 150 #[.int .u64 0, .int .u64 (lo : Int), .int .u64 (1152921504606849707 : Int)] w fun e w' =>
      ∃ q : Int, e = .returned (.tuple #[.int .u64 q, .int .u64 ((lo % 1152921504606849707 : Nat) : Int)]) ∧ ∃ n, w' = w.drewN n := by
  have hl0 : (0 : Int) ≤ (lo : Int) := by omega
  have hl1 : (lo : Int) < 18446744073709551616 := by omega
  obtain ⟨r, hr⟩ : ∃ r, lo % 1152921504606849707 = r := ⟨_, rfl⟩
  have e1 : (lo : Int).tmod 1152921504606849707 = (r : Int) := by rw [← hr, Int.tmod_eq_emod_of_nonneg hl0]; omega
  have HR := hid hr
  clear hr
  go_enter Tryz.func150, Tryz.ntmps150
  go_wp2_with fail
  refine region_still (by kernel_rfl) (by kernel_rfl) ?_
  repeat still_step
  refine wpStill_nil ?_
  go_wp2
  go_ret2
  rw [HR.out]
  exact ⟨IntKind.u64.wrap ((lo : Int) / 1152921504606849707), rfl, 1, rfl⟩

set_option maxHeartbeats 400000 in
theorem div_zero_q (lo : Nat) (w : World) (hlo : lo < 18446744073709551616) :
    Calls Tryz.prog 150 #[.int .u64 0, .int .u64 (lo : Int), .int .u64 (576460752303424853 : Int)] w fun e w' =>
      ∃ q : Int, e = .returned (.tuple #[.int .u64 q, .int .u64 ((lo % 576460752303424853 : Nat) : Int)]) ∧ ∃ n, w' = w.drewN n := by
  have hl0 : (0 : Int) ≤ (lo : Int) := by omega
  have hl1 : (lo : Int) < 18446744073709551616 := by omega
  obtain ⟨r, hr⟩ : ∃ r, lo % 576460752303424853 = r := ⟨_, rfl⟩
  have e1 : (lo : Int).tmod 576460752303424853 = (r : Int) := by rw [← hr, Int.tmod_eq_emod_of_nonneg hl0]; omega
  have HR := hid hr
  clear hr
  go_enter Tryz.func150, Tryz.ntmps150
  go_wp2_with fail
  refine region_still (by kernel_rfl) (by kernel_rfl) ?_
  repeat still_step
  refine wpStill_nil ?_
  go_wp2
  go_ret2
  rw [HR.out]
  exact ⟨IntKind.u64.wrap ((lo : Int) / 576460752303424853), rfl, 1, rfl⟩

theorem div_p (hi lo : Nat) (w : World) (hhi : hi < 1152921504606849707) (h0 : hi ≠ 0) (hlo : lo < 18446744073709551616) :
    Calls Tryz.prog 150 #[.int .u64 (hi : Int), .int .u64 (lo : Int), .int .u64 (1152921504606849707 : Int)] w fun e w' =>
      ∃ q : Int, e = .returned (.tuple #[.int .u64 q, .int .u64 (((hi * 18446744073709551616 + lo) % 1152921504606849707 : Nat) : Int)]) ∧ w' = w := by
  have h5 : ∀ n : Nat, (n : Int) / (4294967296 : Int) = ((n / 4294967296 : Nat) : Int) := fun n => by omega
  have h6 : (lo : Int) / (2305843009213693952 : Int) = ((lo / 2305843009213693952 : Nat) : Int) := by omega
  have hor : bits .or .u64 ((hi * 8 : Nat) : Int) ((lo / 2305843009213693952 : Nat) : Int) = ((hi * 8 + lo / 2305843009213693952 : Nat) : Int) := by
    rw [u64_or_nat _ _ (by omega) (by omega)]
    have := Nat.two_pow_add_eq_or_of_lt (i := 3) (show lo / 2305843009213693952 < 2 ^ 3 by omega) hi
    rw [show (2 : Nat) ^ 3 = 8 from rfl, Nat.mul_comm 8 hi] at this
    rw [this]
  have hmul : lo * 8 % 18446744073709551616 < 18446744073709551616 := Nat.mod_lt _ (by omega)
  refine (div64_3 hi lo 1152921504606849707 9223372036854797656 2147483648 21848 (hi * 8) (lo / 2305843009213693952) (hi * 8 + lo / 2305843009213693952) (lo * 8 % 18446744073709551616) (lo * 8 % 18446744073709551616 / 4294967296) (lo * 8 % 18446744073709551616 % 4294967296) w (by omega) hhi h0 (hid (fun w => lz_p w))
    (by decide +kernel) (by decide +kernel) (by decide +kernel) (w64_mul hi 8 (by omega)) h6 hor (by omega) (by omega) (by omega) (by omega) (by omega) (by decide +kernel) (by omega) (w64_mulmod lo 8) (h5 _) (w64_low _ hmul)).mono ?_
  rintro e w' ⟨q, rfl, rfl⟩
  refine ⟨q, ?_, rfl⟩
  have hr := rest_shift hi lo 1152921504606849707 8 (by omega)
  have e1 : (hi * 8 + lo / 2305843009213693952) * 18446744073709551616 + lo * 8 % 18446744073709551616 / 4294967296 * 4294967296 + lo * 8 % 18446744073709551616 % 4294967296 = hi * 8 * 18446744073709551616 + lo * 8 := by omega
  rw [e1, show 2147483648 * 4294967296 + 21848 = 1152921504606849707 * 8 from rfl, hr]
theorem rem64_p (hi lo : Nat) (w : World) (hhi : hi < 18446744073709551616) (hlo : lo < 18446744073709551616) :
    Calls Tryz.prog 134 #[.int .u64 (hi : Int), .int .u64 (lo : Int), .int .u64 (1152921504606849707 : Int)] w fun e w' =>
      e = .returned (.int .u64 (((hi * 18446744073709551616 + lo) % 1152921504606849707 : Nat) : Int)) ∧ ∃ n, w' = w.drewN n := by
  have e1 : IntKind.u64.wrap ((hi : Int) % 1152921504606849707) = ((hi % 1152921504606849707 : Nat) : Int) := by
    rw [show (hi : Int) % 1152921504606849707 = ((hi % 1152921504606849707 : Nat) : Int) by omega]; exact w64 _ (by omega)
  have e2 : (hi : Int) % 1152921504606849707 = ((hi % 1152921504606849707 : Nat) : Int) := by omega
  have hr : (hi % 1152921504606849707 * 18446744073709551616 + lo) % 1152921504606849707 = (hi * 18446744073709551616 + lo) % 1152921504606849707 := by
    rw [Nat.add_mod, Nat.mul_mod, Nat.mod_mod, ← Nat.mul_mod, ← Nat.add_mod]
  have hlt : hi % 1152921504606849707 < 1152921504606849707 := Nat.mod_lt _ (by omega)
  obtain ⟨h, hh⟩ : ∃ h, hi % 1152921504606849707 = h := ⟨_, rfl⟩
  rw [hh] at e1 e2 hr hlt
  have HR := hid hr
  clear hr hh
  by_cases h0 : h = 0
  · subst h0
    have HD := hid (fun w => div_zero_p lo w hlo)
    go_enter Tryz.func134, Tryz.ntmps134
    go_wp2_with (go_at_call 150; refine (HD.out _).mono ?_; rintro e w' ⟨q, rfl, n, rfl⟩)
    go_ret
    refine ⟨?_, n, rfl⟩
    rw [← HR.out]
    show Ending.returned (Value.int .u64 _) = _
    simp
  · have HD := hid (fun w => div_p h lo w hlt h0 hlo)
    go_enter Tryz.func134, Tryz.ntmps134
    go_wp2_with (go_at_call 150; refine (HD.out _).mono ?_; rintro e w' ⟨q, rfl, rfl⟩)
    go_ret
    refine ⟨?_, 0, rfl⟩
    rw [← HR.out]
    rfl

theorem div_q (hi lo : Nat) (w : World) (hhi : hi < 576460752303424853) (h0 : hi ≠ 0) (hlo : lo < 18446744073709551616) :
    Calls Tryz.prog 150 #[.int .u64 (hi : Int), .int .u64 (lo : Int), .int .u64 (576460752303424853 : Int)] w fun e w' =>
      ∃ q : Int, e = .returned (.tuple #[.int .u64 q, .int .u64 (((hi * 18446744073709551616 + lo) % 576460752303424853 : Nat) : Int)]) ∧ w' = w := by
  have h5 : ∀ n : Nat, (n : Int) / (4294967296 : Int) = ((n / 4294967296 : Nat) : Int) := fun n => by omega
  have h6 : (lo : Int) / (1152921504606846976 : Int) = ((lo / 1152921504606846976 : Nat) : Int) := by omega
  have hor : bits .or .u64 ((hi * 16 : Nat) : Int) ((lo / 1152921504606846976 : Nat) : Int) = ((hi * 16 + lo / 1152921504606846976 : Nat) : Int) := by
    rw [u64_or_nat _ _ (by omega) (by omega)]
    have := Nat.two_pow_add_eq_or_of_lt (i := 4) (show lo / 1152921504606846976 < 2 ^ 4 by omega) hi
    rw [show (2 : Nat) ^ 4 = 16 from rfl, Nat.mul_comm 16 hi] at this
    rw [this]
  have hmul : lo * 16 % 18446744073709551616 < 18446744073709551616 := Nat.mod_lt _ (by omega)
  refine (div64_4 hi lo 576460752303424853 9223372036854797648 2147483648 21840 (hi * 16) (lo / 1152921504606846976) (hi * 16 + lo / 1152921504606846976) (lo * 16 % 18446744073709551616) (lo * 16 % 18446744073709551616 / 4294967296) (lo * 16 % 18446744073709551616 % 4294967296) w (by omega) hhi h0 (hid (fun w => lz_q w))
    (by decide +kernel) (by decide +kernel) (by decide +kernel) (w64_mul hi 16 (by omega)) h6 hor (by omega) (by omega) (by omega) (by omega) (by omega) (by decide +kernel) (by omega) (w64_mulmod lo 16) (h5 _) (w64_low _ hmul)).mono ?_
  rintro e w' ⟨q, rfl, rfl⟩
  refine ⟨q, ?_, rfl⟩
  have hr := rest_shift hi lo 576460752303424853 16 (by omega)
  have e1 : (hi * 16 + lo / 1152921504606846976) * 18446744073709551616 + lo * 16 % 18446744073709551616 / 4294967296 * 4294967296 + lo * 16 % 18446744073709551616 % 4294967296 = hi * 16 * 18446744073709551616 + lo * 16 := by omega
  rw [e1, show 2147483648 * 4294967296 + 21840 = 576460752303424853 * 16 from rfl, hr]
theorem rem64_q (hi lo : Nat) (w : World) (hhi : hi < 18446744073709551616) (hlo : lo < 18446744073709551616) :
    Calls Tryz.prog 134 #[.int .u64 (hi : Int), .int .u64 (lo : Int), .int .u64 (576460752303424853 : Int)] w fun e w' =>
      e = .returned (.int .u64 (((hi * 18446744073709551616 + lo) % 576460752303424853 : Nat) : Int)) ∧ ∃ n, w' = w.drewN n := by
  have e1 : IntKind.u64.wrap ((hi : Int) % 576460752303424853) = ((hi % 576460752303424853 : Nat) : Int) := by
    rw [show (hi : Int) % 576460752303424853 = ((hi % 576460752303424853 : Nat) : Int) by omega]; exact w64 _ (by omega)
  have e2 : (hi : Int) % 576460752303424853 = ((hi % 576460752303424853 : Nat) : Int) := by omega
  have hr : (hi % 576460752303424853 * 18446744073709551616 + lo) % 576460752303424853 = (hi * 18446744073709551616 + lo) % 576460752303424853 := by
    rw [Nat.add_mod, Nat.mul_mod, Nat.mod_mod, ← Nat.mul_mod, ← Nat.add_mod]
  have hlt : hi % 576460752303424853 < 576460752303424853 := Nat.mod_lt _ (by omega)
  obtain ⟨h, hh⟩ : ∃ h, hi % 576460752303424853 = h := ⟨_, rfl⟩
  rw [hh] at e1 e2 hr hlt
  have HR := hid hr
  clear hr hh
  by_cases h0 : h = 0
  · subst h0
    have HD := hid (fun w => div_zero_q lo w hlo)
    go_enter Tryz.func134, Tryz.ntmps134
    go_wp2_with (go_at_call 150; refine (HD.out _).mono ?_; rintro e w' ⟨q, rfl, n, rfl⟩)
    go_ret
    refine ⟨?_, n, rfl⟩
    rw [← HR.out]
    show Ending.returned (Value.int .u64 _) = _
    simp
  · have HD := hid (fun w => div_q h lo w hlt h0 hlo)
    go_enter Tryz.func134, Tryz.ntmps134
    go_wp2_with (go_at_call 150; refine (HD.out _).mono ?_; rintro e w' ⟨q, rfl, rfl⟩)
    go_ret
    refine ⟨?_, 0, rfl⟩
    rw [← HR.out]
    rfl
end Go.Proofs.YtiflkkelbnpniaaGreatDoor
namespace Go.Proofs.YtiflkkelbnpniaaGreatDoor
open Go.RowKit

def mulP (a b : Nat) : Nat := a * b % pP
def mulQ (a b : Nat) : Nat := a * b % qQ
def powP (b e : Nat) : Nat := b ^ e % pP
theorem mulP_lt (a b : Nat) : mulP a b < 1152921504606849707 := Nat.mod_lt _ (by decide)
theorem mulQ_lt (a b : Nat) : mulQ a b < 576460752303424853 := Nat.mod_lt _ (by decide)
theorem powP_lt (a b : Nat) : powP a b < 1152921504606849707 := Nat.mod_lt _ (by decide)
theorem drewN_add (w : World) (a b : Nat) : (w.drewN a).drewN b = w.drewN (a + b) := by
  simp [World.drewN, Nat.add_assoc]

theorem times_p (a b : Nat) (w : World) (ha : a < 18446744073709551616) (hb : b < 18446744073709551616) :
    Calls Tryz.prog 106 #[.int .u64 (a : Int), .int .u64 (b : Int), .int .u64 (1152921504606849707 : Int)] w fun e w' =>
      e = .returned (.int .u64 (mulP a b : Int)) ∧ ∃ n, w' = w.drewN n := by
  have hh : a * b / 18446744073709551616 < 18446744073709551616 := by
    apply Nat.div_lt_of_lt_mul
    exact Nat.mul_lt_mul'' ha hb
  have hl : a * b % 18446744073709551616 < 18446744073709551616 := Nat.mod_lt _ (by omega)
  have hm : (a * b / 18446744073709551616 * 18446744073709551616 + a * b % 18446744073709551616) % 1152921504606849707 = mulP a b := by
    rw [show a * b / 18446744073709551616 * 18446744073709551616 + a * b % 18446744073709551616 = a * b by omega]; rfl
  have HM := hid (fun w => mul64_any a b ha hb w)
  obtain ⟨x, hx⟩ : ∃ x, a * b / 18446744073709551616 = x := ⟨_, rfl⟩
  obtain ⟨y, hy⟩ : ∃ y, a * b % 18446744073709551616 = y := ⟨_, rfl⟩
  rw [hx] at hh hm HM
  rw [hy] at hl hm HM
  have HR := hid (fun w => rem64_p x y w hh hl)
  rw [hm] at HR
  clear hm hx hy hh hl
  go_enter Tryz.func106, Tryz.ntmps106
  go_wp2_with (first | (go_at_call 133; refine (HM.out _).mono ?_; rintro e w' ⟨rfl, rfl⟩) | (go_at_call 134; refine (HR.out _).mono ?_; rintro e w' ⟨rfl, n, rfl⟩))
  go_ret
  exact ⟨rfl, n, rfl⟩
theorem times_q (a b : Nat) (w : World) (ha : a < 18446744073709551616) (hb : b < 18446744073709551616) :
    Calls Tryz.prog 106 #[.int .u64 (a : Int), .int .u64 (b : Int), .int .u64 (576460752303424853 : Int)] w fun e w' =>
      e = .returned (.int .u64 (mulQ a b : Int)) ∧ ∃ n, w' = w.drewN n := by
  have hh : a * b / 18446744073709551616 < 18446744073709551616 := by
    apply Nat.div_lt_of_lt_mul
    exact Nat.mul_lt_mul'' ha hb
  have hl : a * b % 18446744073709551616 < 18446744073709551616 := Nat.mod_lt _ (by omega)
  have hm : (a * b / 18446744073709551616 * 18446744073709551616 + a * b % 18446744073709551616) % 576460752303424853 = mulQ a b := by
    rw [show a * b / 18446744073709551616 * 18446744073709551616 + a * b % 18446744073709551616 = a * b by omega]; rfl
  have HM := hid (fun w => mul64_any a b ha hb w)
  obtain ⟨x, hx⟩ : ∃ x, a * b / 18446744073709551616 = x := ⟨_, rfl⟩
  obtain ⟨y, hy⟩ : ∃ y, a * b % 18446744073709551616 = y := ⟨_, rfl⟩
  rw [hx] at hh hm HM
  rw [hy] at hl hm HM
  have HR := hid (fun w => rem64_q x y w hh hl)
  rw [hm] at HR
  clear hm hx hy hh hl
  go_enter Tryz.func106, Tryz.ntmps106
  go_wp2_with (first | (go_at_call 133; refine (HM.out _).mono ?_; rintro e w' ⟨rfl, rfl⟩) | (go_at_call 134; refine (HR.out _).mono ?_; rintro e w' ⟨rfl, n, rfl⟩))
  go_ret
  exact ⟨rfl, n, rfl⟩

/-- what a power by squaring keeps -/
def PowAt (b e o x k : Nat) : Prop := o < 1152921504606849707 ∧ x < 18446744073709551616 ∧ k < 18446744073709551616 ∧ o * x ^ k % pP = powP b e
theorem powAt_start {b e : Nat} (hb : b < 18446744073709551616) (he : e < 18446744073709551616) : PowAt b e 1 b e := ⟨by omega, hb, he, by rw [Nat.one_mul]; rfl⟩
theorem powAt_odd {b e o x k : Nat} (h : PowAt b e o x k) (hk : k % 2 = 1) : PowAt b e (mulP o x) (mulP x x) (k / 2) := by
  obtain ⟨h1, h2, h3, h4⟩ := h
  refine ⟨mulP_lt _ _, by have := mulP_lt x x; omega, by omega, ?_⟩
  rw [← h4]
  have e1 : x ^ k = x * (x * x) ^ (k / 2) := by
    rw [← Nat.pow_two, ← Nat.pow_mul, ← Nat.pow_succ', show (2 * (k / 2)).succ = k by omega]
  rw [e1, ← Nat.mul_assoc]
  exact mulmod (Nat.mod_mod _ _) (powmod (Nat.mod_mod _ _) _)
theorem powAt_even {b e o x k : Nat} (h : PowAt b e o x k) (hk : k % 2 = 0) : PowAt b e o (mulP x x) (k / 2) := by
  obtain ⟨h1, h2, h3, h4⟩ := h
  refine ⟨h1, by have := mulP_lt x x; omega, by omega, ?_⟩
  rw [← h4]
  have e1 : x ^ k = (x * x) ^ (k / 2) := by
    rw [← Nat.pow_two, ← Nat.pow_mul, show 2 * (k / 2) = k by omega]
  rw [e1]
  exact mulmod rfl (powmod (Nat.mod_mod _ _) _)
theorem powAt_end {b e o x : Nat} (h : PowAt b e o x 0) : o = powP b e := by
  obtain ⟨h1, _, _, h4⟩ := h
  rw [← h4, Nat.pow_zero, Nat.mul_one]
  exact (Nat.mod_eq_of_lt h1).symm

set_option maxRecDepth 100000 in
set_option maxHeartbeats 1000000 in
theorem power_p (b e : Nat) (w : World) (hb : b < 18446744073709551616) (he : e < 18446744073709551616) :
    Calls Tryz.prog 104 #[.int .u64 (b : Int), .int .u64 (e : Int), .int .u64 (1152921504606849707 : Int)] w fun e' w' =>
      e' = .returned (.int .u64 (powP b e : Int)) ∧ ∃ n, w' = w.drewN n := by
  have HST := hid (powAt_start hb he)
  clear hb he
  go_enter Tryz.func104, Tryz.ntmps104
  go_wp2_with fail
  go_loopw [0, 1, 7] (fun x k o wr => ∃ x' k' o' : Nat, x = .int .u64 (x' : Int) ∧ k = .int .u64 (k' : Int) ∧ o = .int .u64 (o' : Int) ∧ PowAt b e o' x' k' ∧ ∃ n, wr = w.drewN n) (fun _ k _ _ => (intOf k).toNat)
  case atStart => exact ⟨_, _, _, rfl, rfl, rfl, HST.out, 0, rfl⟩
  case round =>
    obtain ⟨x, k, o, rfl, rfl, rfl, hp, n, rfl⟩ := hrel
    by_cases hk : k = 0
    · subst hk
      have ho := powAt_end hp
      have HO := hid ho
      clear hp ho HST
      go_wp2
      go_ret
      rw [← HO.out]
      exact ⟨rfl, n, rfl⟩
    · have g1 : decide ((0 : Int) < (k : Int)) = true := by simp; omega
      have g1' : decide (0 < k) = true := by simp; omega
      have g2 : (k : Int) / 2 = ((k / 2 : Nat) : Int) := by omega
      have g3 : bits .and .u64 (k : Int) 1 = ((k % 2 : Nat) : Int) := by
        rw [show (1 : Int) = ((1 : Nat) : Int) from rfl, u64_and_nat _ _ hp.2.2.1 (by omega), nat_mask1]
      have hlt : k / 2 < k := by omega
      obtain ⟨k2, hk2⟩ : ∃ k2, k / 2 = k2 := ⟨_, rfl⟩
      have ho := hp.1
      have hx := hp.2.1
      have HSQ := hid (fun w => times_p x x w hx hx)
      have HML := hid (fun w => times_p o x w (by omega) hx)
      rcases (show k % 2 = 1 ∨ k % 2 = 0 by omega) with hpar | hpar
      · have hn := powAt_odd hp hpar
        rw [hpar] at g3
        rw [hk2] at g2 hlt hn
        have g3' : bits .and .u64 (k : Int) 1 = 1 := g3
        have HN := hid hn
        clear hn hp hk2 hpar HST ho hx g3
        go_wp2_with fail
        refine (HML.out _).mono ?_
        rintro e1 w1 ⟨rfl, n1, rfl⟩
        go_wp2_with fail
        refine (HSQ.out _).mono ?_
        rintro e2 w2 ⟨rfl, n2, rfl⟩
        go_wp2
        go_roundw
        case rel => exact ⟨_, _, _, rfl, rfl, rfl, HN.out, n + n1 + n2, rfl⟩
        case measure => simp [intOf]; omega
      · have hn := powAt_even hp hpar
        rw [hpar] at g3
        rw [hk2] at g2 hlt hn
        have g3' : bits .and .u64 (k : Int) 1 = 0 := g3
        have HN := hid hn
        clear hn hp hk2 hpar HST ho hx g3
        go_wp2_with fail
        refine (HSQ.out _).mono ?_
        rintro e2 w2 ⟨rfl, n2, rfl⟩
        go_wp2
        go_roundw
        case rel => exact ⟨_, _, _, rfl, rfl, rfl, HN.out, n + n2, rfl⟩
        case measure => simp [intOf]; omega
end Go.Proofs.YtiflkkelbnpniaaGreatDoor
namespace Go.Proofs.YtiflkkelbnpniaaGreatDoor
open Go.RowKit

/-- bytes as a number, the high one first -/
def numL (l : List (BitVec 8)) : Nat := l.foldl (fun n b => n * 256 + b.toNat) 0
theorem numL_snoc (l : List (BitVec 8)) (b : BitVec 8) : numL (l ++ [b]) = numL l * 256 + b.toNat := by simp [numL]
theorem numL_lt : ∀ n (l : List (BitVec 8)), l.length = n → numL l < 256 ^ n := by
  intro n
  induction n with
  | zero => intro l h; rw [List.length_eq_zero_iff.1 h]; decide
  | succ n ih =>
    intro l h
    obtain ⟨r, b, rfl⟩ : ∃ r b, l = r ++ [b] := ⟨l.dropLast, l.getLast (by intro h0; rw [h0] at h; simp at h), (List.dropLast_concat_getLast _).symm⟩
    rw [numL_snoc, Nat.pow_succ]
    have h1 := ih r (by simpa using h)
    have := b.isLt
    omega
/-- the number that a digest begins with -/
def shaN (l : List (BitVec 8)) : Nat := numL ((sha l).take 8)
theorem shaN_lt (l : List (BitVec 8)) : shaN l < 18446744073709551616 := by
  exact numL_lt 8 _ (by rw [List.length_take, sha_length]; rfl)

/-- a number's eight bytes -/
theorem eight_any (n : Nat) (w : World) (hn : n < 18446744073709551616) :
    Calls Tryz.prog 132 #[.int .u64 (n : Int)] w fun e w' =>
      e = .returned (.slice (some ⟨w.heap.size, 0, none⟩) 8 8) ∧ w' = w.alloc (.cells ((be8 n).map V).toArray 5) := by
  go_enter Tryz.func132, Tryz.ntmps132
  go_wp2
  go_ret
  refine ⟨rfl, congrArg (fun a => w.alloc (.cells a 5)) ?_⟩
  simp [be8, V, b8]
  omega
/-- new lists of what is there -/
theorem or_byte (n : Nat) (b : BitVec 8) (hn : n < 72057594037927936) : bits .or .u64 (IntKind.u64.wrap ((n : Int) * 256)) (b8 b) = ((n * 256 + b.toNat : Nat) : Int) := by
  have hb := b.isLt
  have h1 : IntKind.u64.wrap ((n : Int) * 256) = ((n * 256 : Nat) : Int) := w64_mul n 256 (by omega)
  have h2 : b8 b = ((b.toNat : Nat) : Int) := rfl
  rw [h1, h2, u64_or_nat _ _ (by omega) (by omega)]
  have := Nat.two_pow_add_eq_or_of_lt (i := 8) (show b.toNat < 2 ^ 8 by omega) n
  rw [show (2 : Nat) ^ 8 = 256 from rfl, Nat.mul_comm 256 n] at this
  rw [this]

set_option maxRecDepth 100000 in
set_option maxHeartbeats 1000000 in
theorem number_any (ls : List (List (BitVec 8))) (sv : Value) (N : Nat) (w : World) (hN : N ≤ w.heap.size) (hb : Lists w N sv ls) (hK : tableAt w) (hlen : ls.flatten.length < 2305843009213693952) (hn : ls.length < 2305843009213693952) :
    Calls Tryz.prog 131 #[sv] w fun e w' => e = .returned (.int .u64 (shaN ls.flatten : Int)) ∧ Below w.heap.size w w' := by
  have HP := hid (parts_any ls sv N w hN hb hK hlen hn)
  clear hb hK hlen hn
  go_enter Tryz.func131, Tryz.ntmps131
  go_wp2_with fail
  refine HP.out.mono ?_
  rintro e w1 ⟨v, rfl, hown, hb1⟩
  obtain ⟨ov, capv, rfl, hcap, hsv⟩ := ownsRow_shape hown
  obtain ⟨gv, rfl, _, _, hcell⟩ := hsv (by omega)
  have hc : ∀ k, k < 8 → w1.cell? ⟨gv, k, none⟩ = some (.int .u8 (b8 ((sha ls.flatten).getD k 0))) := by
    intro k hk
    rw [(hcell k (by omega)).1, List.getElem?_map, getD_some _ k 0 (by rw [sha_length]; omega)]
    rfl
  have hcap8 : (8 : Int) ≤ (capv : Int) := by omega
  have HC := hid hc
  have HB1 := hid hb1
  have hsl := sha_length ls.flatten
  obtain ⟨l, hl⟩ : ∃ l, sha ls.flatten = l := ⟨_, rfl⟩
  have HSH := hid (show shaN ls.flatten = numL (l.take 8) by rw [← hl]; rfl)
  rw [hl] at hsl HC
  have HL := hid hsl
  clear hsv hcell hc hb1 hown HP hsl hl
  go_wp2_with fail
  go_loop [3, 10] (fun n i => ∃ k : Nat, k ≤ 8 ∧ i = .int .i64 k ∧ n = .int .u64 (numL (l.take k) : Int)) (fun _ i => 8 - (intOf i).toNat)
  case atStart => exact ⟨0, by omega, rfl, rfl⟩
  case round =>
    obtain ⟨k, hk, rfl, rfl⟩ := hrel
    by_cases hlt : k < 8
    · have hck := HC.out k hlt
      have hlt' : (k : Int) < 8 := by omega
      have hkl : k < l.length := by rw [HL.out]; omega
      have hnx : numL (l.take (k + 1)) = numL (l.take k) * 256 + (l.getD k 0).toNat := by
        rw [List.take_succ_eq_append_getElem hkl, numL_snoc]; simp [hkl]
      have hsm : numL (l.take k) < 72057594037927936 := by
        have h1 := numL_lt k (l.take k) (by rw [List.length_take]; omega)
        have h2 := Nat.pow_le_pow_right (show 0 < 256 by omega) (show k ≤ 7 by omega)
        omega
      have hor := or_byte (numL (l.take k)) (l.getD k 0) hsm
      rw [← hnx] at hor
      obtain ⟨b, hb⟩ : ∃ b, l.getD k 0 = b := ⟨_, rfl⟩
      obtain ⟨n0, hn0⟩ : ∃ n0, numL (l.take k) = n0 := ⟨_, rfl⟩
      obtain ⟨n1, hn1⟩ : ∃ n1, numL (l.take (k + 1)) = n1 := ⟨_, rfl⟩
      rw [hb] at hck hor
      rw [hn0, hn1] at hor
      rw [hn0]
      have HN1 := hid hn1
      have hw8 : IntKind.u64.wrap (b8 b) = b8 b := by
        have h1 : b8 b = ((b.toNat : Nat) : Int) := rfl
        have := b.isLt
        rw [h1]; exact w64 _ (by omega)
      have hb0 := b8_lo b
      have hb1 := b8_hi b
      clear hn0 hn1 hb hnx hsm HC
      go_wp2
      go_round
      case rel => exact ⟨k + 1, by omega, by go_num, by rw [HN1.out]⟩
      case measure => simp [intOf]; omega
    · have hk8 : k = 8 := by omega
      subst hk8
      go_wp2
      go_ret
      rw [HSH.out]
      exact ⟨rfl, HB1.out⟩
end Go.Proofs.YtiflkkelbnpniaaGreatDoor
namespace Go.Proofs.YtiflkkelbnpniaaGreatDoor
open Go.RowKit

def keyB : List (BitVec 8) := [107, 101, 121]
def onceB : List (BitVec 8) := [111, 110, 99, 101]
def expN (l : List (BitVec 8)) : Nat := 1 + shaN l % (qQ - 1)
def askN (r k : Nat) (m : List (BitVec 8)) : Nat := shaN (be8 r ++ (be8 k ++ m)) % qQ
def secretN (seed : List (BitVec 8)) : Nat := expN (keyB ++ seed)
def keyN (seed : List (BitVec 8)) : Nat := powP 4 (secretN seed)
theorem expN_pos (l : List (BitVec 8)) : 0 < expN l := by unfold expN; omega
theorem expN_lt (l : List (BitVec 8)) : expN l < 576460752303424853 := by
  unfold expN
  have : shaN l % (qQ - 1) < 576460752303424852 := Nat.mod_lt _ (by decide)
  omega
theorem askN_lt (r k : Nat) (m : List (BitVec 8)) : askN r k m < 576460752303424853 := Nat.mod_lt _ (by decide)
theorem be8_length (n : Nat) : (be8 n).length = 8 := rfl

/-- a constant text turned to bytes -/
theorem conv_const (w : World) (C : Array Value) (n c : Nat) : (convert 25 25 (.slice (some ⟨w.heap.size, 0, none⟩) n c)).run Tryz.prog (w.alloc (.cells C 5)) = .ok (.slice (some ⟨w.heap.size, 0, none⟩) n c) (w.alloc (.cells C 5 (C.size, C.size + 1))) :=
  Lib.run_convert_bytes_const w 25 5 C n c Tryz.underlying25 Tryz.underlying5

set_option maxHeartbeats 1000000 in
theorem challenge_any (r k : Nat) (m : List (BitVec 8)) (sv : Value) (N : Nat) (w : World) (hr : r < 18446744073709551616) (hk : k < 18446744073709551616) (hN : N ≤ w.heap.size) (hb : Bytes w N sv m) (hK : tableAt w) (hlen : m.length ≤ 140737488351232) :
    Calls Tryz.prog 105 #[.int .u64 (r : Int), .int .u64 (k : Int), sv] w fun e w' => e = .returned (.int .u64 (askN r k m : Int)) ∧ Below w.heap.size w w' := by
  obtain ⟨oa, cap, rfl, _⟩ := hb.shape
  have hz := shaN_lt (be8 r ++ (be8 k ++ m))
  have hex : askN r k m = shaN (be8 r ++ (be8 k ++ m)) % 576460752303424853 := rfl
  obtain ⟨w1, hw1⟩ : ∃ w1, w.alloc (.cells ((be8 r).map V).toArray 5) = w1 := ⟨_, rfl⟩
  have hsz1 : w1.heap.size = w.heap.size + 1 := by rw [← hw1]; simp
  have hb1 : Below w.heap.size w w1 := by rw [← hw1]; exact (Below.refl _ _).alloc (Nat.le_refl _) _
  have hr8 : Bytes w1 w1.heap.size (.slice (some ⟨w.heap.size, 0, none⟩) 8 8) (be8 r) := by rw [hsz1, ← hw1]; exact bytes_new w (be8 r) 5 (0, 0) 8 (by simp [be8_length])
  obtain ⟨w2, hw2⟩ : ∃ w2, w1.alloc (.cells ((be8 k).map V).toArray 5) = w2 := ⟨_, rfl⟩
  have hsz2 : w2.heap.size = w.heap.size + 2 := by rw [← hw2]; simp; omega
  have hb2 : Below w1.heap.size w1 w2 := by rw [← hw2]; exact (Below.refl _ _).alloc (Nat.le_refl _) _
  have hk8 : Bytes w2 w2.heap.size (.slice (some ⟨w1.heap.size, 0, none⟩) 8 8) (be8 k) := by rw [show w2.heap.size = w1.heap.size + 1 by omega, ← hw2]; exact bytes_new w1 (be8 k) 5 (0, 0) 8 (by simp [be8_length])
  have hr8' : Bytes w2 w2.heap.size (.slice (some ⟨w.heap.size, 0, none⟩) 8 8) (be8 r) := (hr8.below hb2).mono (by omega)
  have hb12 : Below w.heap.size w w2 := hb1.trans (hb2.mono (by omega))
  have hs : Bytes w2 w2.heap.size (.slice oa m.length cap) m := (hb.below (hb12.mono hN)).mono (by omega)
  have hli := lists3 (t := 25) hr8' hk8 hs
  have hb3 : Below w2.heap.size w2 (w2.alloc (.cells #[.slice (some ⟨w.heap.size, 0, none⟩) 8 8, .slice (some ⟨w1.heap.size, 0, none⟩) 8 8, .slice oa m.length cap] 25)) := (Below.refl _ _).alloc (Nat.le_refl _) _
  have hnum := number_any [be8 r, be8 k, m] _ _ _ (by simp) hli (hK.below (hb12.trans (hb3.mono (by omega))) hK.lt) (by rw [flat3]; simp [be8_length]; omega) (by simp)
  rw [flat3, hsz1, hsz2] at hnum
  obtain ⟨z, hz0⟩ : ∃ z, shaN (be8 r ++ (be8 k ++ m)) = z := ⟨_, rfl⟩
  rw [hz0] at hnum hz hex
  obtain ⟨q, hq⟩ : ∃ q, z % 576460752303424853 = q := ⟨_, rfl⟩
  have e1 : (z : Int) % 576460752303424853 = (q : Int) := by omega
  rw [hq] at hex
  have HE1 := hid (eight_any r w hr)
  have HE2 := hid (eight_any k w1 hk)
  rw [hw1] at HE1
  rw [hw2, hsz1] at HE2
  have HNUM := hid hnum
  have HEX := hid hex
  have HB12 := hid hb12
  rw [hsz1] at hb3
  have HB3 := hid hb3
  clear hnum hex hb12 hb3 hb1 hb2 hr8 hk8 hr8' hs hli hb hK hz0 hq hw1 hw2
  go_enter Tryz.func105, Tryz.ntmps105
  go_wp2_with fail
  refine HE1.out.mono ?_
  rintro e w3 ⟨rfl, rfl⟩
  go_wp2_with fail
  refine HE2.out.mono ?_
  rintro e w4 ⟨rfl, rfl⟩
  go_wp2_with fail
  refine HNUM.out.mono ?_
  rintro e w5 ⟨rfl, hb5⟩
  go_wp2
  go_ret
  rw [HEX.out, ← e1]
  have h3 := HB3.out.mono (show w.heap.size ≤ _ by omega)
  have h5 := hb5.mono (show w.heap.size ≤ _ by simp; omega)
  exact ⟨rfl, HB12.out.trans (h3.trans h5)⟩
end Go.Proofs.YtiflkkelbnpniaaGreatDoor
namespace Go.Proofs.YtiflkkelbnpniaaGreatDoor
open Go.RowKit

def onceN (seed m : List (BitVec 8)) : Nat := expN (onceB ++ (be8 (secretN seed) ++ m))
def sealR (seed m : List (BitVec 8)) : Nat := powP 4 (onceN seed m)
def sealE (seed m : List (BitVec 8)) : Nat := askN (sealR seed m) (keyN seed) m
def sealS (seed m : List (BitVec 8)) : Nat := (onceN seed m + mulQ (sealE seed m) (secretN seed)) % qQ
theorem secretN_lt (l : List (BitVec 8)) : secretN l < 576460752303424853 := expN_lt _
theorem onceN_lt (l m : List (BitVec 8)) : onceN l m < 576460752303424853 := expN_lt _
theorem keyN_lt (l : List (BitVec 8)) : keyN l < 1152921504606849707 := powP_lt _ _
theorem sealR_lt (l m : List (BitVec 8)) : sealR l m < 1152921504606849707 := powP_lt _ _
theorem sealE_lt (l m : List (BitVec 8)) : sealE l m < 576460752303424853 := askN_lt _ _ _
theorem sealS_lt (l m : List (BitVec 8)) : sealS l m < 576460752303424853 := Nat.mod_lt _ (by decide)
theorem below_drewN (w : World) (n N : Nat) : Below N w (w.drewN n) := ⟨rfl, rfl, rfl, Nat.le_refl _, fun _ _ => rfl⟩

end Go.Proofs.YtiflkkelbnpniaaGreatDoor
namespace Go.Proofs.YtiflkkelbnpniaaGreatDoor
open Go.RowKit

/-- a key to the order -/
def powQ (k : Nat) : Nat := powP k qQ
theorem power_order (k : Nat) (w : World) (hk : k < 18446744073709551616) :
    Calls Tryz.prog 104 #[.int .u64 (k : Int), .int .u64 (576460752303424853 : Int), .int .u64 (1152921504606849707 : Int)] w fun e w' => e = .returned (.int .u64 (powQ k : Int)) ∧ ∃ n, w' = w.drewN n := by
  have h := power_p k qQ w hk (by decide)
  rw [show ((qQ : Nat) : Int) = (576460752303424853 : Int) from by decide] at h
  exact h
theorem power_four (e : Nat) (w : World) (he : e < 18446744073709551616) :
    Calls Tryz.prog 104 #[.int .u64 (4 : Int), .int .u64 (e : Int), .int .u64 (1152921504606849707 : Int)] w fun e' w' => e' = .returned (.int .u64 (powP 4 e : Int)) ∧ ∃ n, w' = w.drewN n :=
  power_p 4 e w (by omega) he
/-- a seal is good -/
def goodN (key : Nat) (m : List (BitVec 8)) (r s : Nat) : Prop :=
  (1 ≤ key ∧ key < 1152921504606849707) ∧ (1 ≤ r ∧ r < 1152921504606849707) ∧ s < 576460752303424853 ∧ powQ key = 1 ∧ powP 4 s = mulP r (powP key (askN r key m))

theorem inGroup_yes (x : Nat) (w : World) (h : 1 ≤ x ∧ x < 1152921504606849707) : Calls Tryz.prog 103 #[.int .u64 (x : Int)] w fun e w' => e = .returned (.bool true) ∧ w' = w := by
  have h1 : decide ((1 : Int) ≤ (x : Int)) = true := by simp; omega
  have h2 : decide ((x : Int) < (1152921504606849707 : Int)) = true := by simp; omega
  go_enter Tryz.func103, Tryz.ntmps103
  go_wp2
  go_ret
  exact ⟨rfl, rfl⟩
theorem inGroup_no (x : Nat) (w : World) (h : ¬ (1 ≤ x ∧ x < 1152921504606849707)) : Calls Tryz.prog 103 #[.int .u64 (x : Int)] w fun e w' => e = .returned (.bool false) ∧ w' = w := by
  by_cases h1 : 1 ≤ x
  · have d1 : decide ((1 : Int) ≤ (x : Int)) = true := by simp; omega
    have d2 : decide ((x : Int) < (1152921504606849707 : Int)) = false := by simp; omega
    clear h
    go_enter Tryz.func103, Tryz.ntmps103
    go_wp2
    go_ret
    exact ⟨rfl, rfl⟩
  · have d1 : decide ((1 : Int) ≤ (x : Int)) = false := by simp; omega
    clear h
    go_enter Tryz.func103, Tryz.ntmps103
    go_wp2
    go_ret
    exact ⟨rfl, rfl⟩

set_option maxRecDepth 100000 in
set_option maxHeartbeats 1000000 in
theorem good_any (key : Nat) (m : List (BitVec 8)) (r s : Nat) (mv : Value) (N : Nat) (w : World) (hk : key < 18446744073709551616) (hr : r < 18446744073709551616) (hs : s < 18446744073709551616) (hN : N ≤ w.heap.size) (hm : Bytes w N mv m) (hK : tableAt w) (hlen : m.length ≤ 140737488351232) :
    Calls Tryz.prog 79 #[.int .u64 (key : Int), mv, .agg #[.int .u64 (r : Int), .int .u64 (s : Int)]] w fun e w' => ∃ b : Bool, e = .returned (.bool b) ∧ (b = true ↔ goodN key m r s) ∧ Below w.heap.size w w' := by
  by_cases h1 : 1 ≤ key ∧ key < 1152921504606849707
  · by_cases h2 : 1 ≤ r ∧ r < 1152921504606849707
    · by_cases h3 : s < 576460752303424853
      · have HI1 := hid (fun w => inGroup_yes key w h1)
        have HI2 := hid (fun w => inGroup_yes r w h2)
        have d3 : decide ((576460752303424853 : Int) ≤ (s : Int)) = false := by simp; omega
        have HP1 := hid (fun w => power_order key w hk)
        obtain ⟨z, hz⟩ : ∃ z, powQ key = z := ⟨_, rfl⟩
        rw [hz] at HP1
        have HZ := hid hz
        obtain ⟨w1, hw1⟩ : ∃ w1, w.alloc (.cells #[.int .u64 (r : Int), .int .u64 (s : Int)] 84) = w1 := ⟨_, rfl⟩
        have hsz1 : w1.heap.size = w.heap.size + 1 := by rw [← hw1]; simp
        have hb1 : Below w.heap.size w w1 := by rw [← hw1]; exact (Below.refl _ _).alloc (Nat.le_refl _) _
        have hrow1 : Row w1 w.heap.size 84 [.int .u64 (r : Int), .int .u64 (s : Int)] := by rw [← hw1]; exact Row.new _ _ _
        have c0 : w1.cell? ⟨w.heap.size, 0, none⟩ = some (.int .u64 (r : Int)) := hrow1.cell 0
        have c1 : w1.cell? ⟨w.heap.size, 1, none⟩ = some (.int .u64 (s : Int)) := hrow1.cell 1
        have HR1 := hid hrow1
        have HB1 := hid hb1
        have HM1 := hid (hm.below (hb1.mono hN))
        have HK1 := hid (hK.below hb1 hK.lt)
        have HH := hid (show (1 ≤ key ∧ key < 1152921504606849707) ∧ (1 ≤ r ∧ r < 1152921504606849707) ∧ s < 576460752303424853 from ⟨h1, h2, h3⟩)
        clear hz hrow1 hb1 hm hK h1 h2 h3
        by_cases h4 : z = 1
        · subst h4
          have HC := hid (fun n => challenge_any r key m mv N (w1.drewN n) hr hk (by show N ≤ w1.heap.size; omega) (HM1.out.below (below_drewN _ _ _)) (HK1.out.below (below_drewN _ _ _) HK1.out.lt) hlen)
          obtain ⟨c, hc⟩ : ∃ c, askN r key m = c := ⟨_, rfl⟩
          have hcl := askN_lt r key m
          rw [hc] at HC hcl
          obtain ⟨a, ha⟩ : ∃ a, powP 4 s = a := ⟨_, rfl⟩
          obtain ⟨b, hb⟩ : ∃ b, powP key c = b := ⟨_, rfl⟩
          obtain ⟨d, hd⟩ : ∃ d, mulP r b = d := ⟨_, rfl⟩
          have hbl := powP_lt key c
          rw [hb] at hbl
          have HPA := hid (fun w => power_four s w hs)
          have HPB := hid (fun w => power_p key c w hk (by omega))
          have HPD := hid (fun w => times_p r b w hr (by omega))
          rw [ha] at HPA
          rw [hb] at HPB
          rw [hd] at HPD
          have HE := hid (show (decide (a = d) = true ↔ goodN key m r s) by
            have h := HH.out
            have hz := HZ.out
            unfold goodN
            rw [decide_eq_true_iff, hc, hb, hd, ha]
            exact ⟨fun e => ⟨h.1, h.2.1, h.2.2, hz, e⟩, fun e => e.2.2.2.2⟩)
          clear hc ha hb hd HZ HH
          go_enter Tryz.func79, Tryz.ntmps79
          go_wp2_with fail
          refine (HI1.out _).mono ?_
          rintro e w2 ⟨rfl, hw2⟩
          obtain rfl := hw2.symm
          go_wp2_with fail
          refine (HI2.out _).mono ?_
          rintro e w3 ⟨rfl, hw3⟩
          obtain rfl := hw3.symm
          go_wp2_with fail
          refine (HP1.out _).mono ?_
          rintro e w4 ⟨rfl, n4, rfl⟩
          go_wp2_with fail
          refine (HC.out n4).mono ?_
          rintro e w5 ⟨rfl, hb5⟩
          have hb15 : Below w1.heap.size w1 w5 := (below_drewN w1 n4 _).trans hb5
          have e0 : w5.cell? ⟨w.heap.size, 0, none⟩ = some (.int .u64 (r : Int)) := (hb15.cell (by show w.heap.size < w1.heap.size; omega)).trans c0
          have e1 : w5.cell? ⟨w.heap.size, 1, none⟩ = some (.int .u64 (s : Int)) := (hb15.cell (by show w.heap.size < w1.heap.size; omega)).trans c1
          have HB5 := hid (HB1.out.trans (hb15.mono (by omega)))
          clear hb5 hb15 c0 c1 HR1 HB1 HM1 HK1 HP1 HC HI1 HI2 hw1 d3
          go_wp2_with fail
          go_quiet (first
            | (go_at_call_of 104 (Value.int .u64 (s : Int)); exact Calls.quiet_of (HPA.out _))
            | (go_at_call_of 104 (Value.int .u64 (c : Int)); exact Calls.quiet_of (HPB.out _))
            | (go_at_call 106; exact Calls.quiet_of (HPD.out _)))
          go_wp2
          go_ret
          have hfin : (((a : Int) == (d : Int)) = true ↔ goodN key m r s) := by
            rw [beq_iff_eq, Int.ofNat_inj]
            exact decide_eq_true_iff.symm.trans HE.out
          exact ⟨_, rfl, hfin, HB5.out.trans (below_drewN w5 nq _)⟩
        · have d4 : ((z : Int) != 1) = true := by simp; omega
          have HE := hid (show (false = true ↔ goodN key m r s) by
            refine ⟨fun h => by simp at h, fun h => ?_⟩
            have := HZ.out
            exact absurd (this.symm.trans h.2.2.2.1) h4)
          clear HZ HH HM1 HK1 HR1
          go_enter Tryz.func79, Tryz.ntmps79
          go_wp2_with fail
          refine (HI1.out _).mono ?_
          rintro e w2 ⟨rfl, hw2⟩
          obtain rfl := hw2.symm
          go_wp2_with fail
          refine (HI2.out _).mono ?_
          rintro e w3 ⟨rfl, hw3⟩
          obtain rfl := hw3.symm
          go_wp2_with fail
          refine (HP1.out _).mono ?_
          rintro e w4 ⟨rfl, n4, rfl⟩
          go_wp2
          go_ret
          exact ⟨false, rfl, HE.out, HB1.out.trans (below_drewN w1 n4 _)⟩
      · have HI1 := hid (fun w => inGroup_yes key w h1)
        have HI2 := hid (fun w => inGroup_yes r w h2)
        have d3 : decide ((576460752303424853 : Int) ≤ (s : Int)) = true := by simp; omega
        have HE := hid (show (false = true ↔ goodN key m r s) from ⟨fun h => by simp at h, fun h => absurd h.2.2.1 h3⟩)
        obtain ⟨w1, hw1⟩ : ∃ w1, w.alloc (.cells #[.int .u64 (r : Int), .int .u64 (s : Int)] 84) = w1 := ⟨_, rfl⟩
        have hb1 : Below w.heap.size w w1 := by rw [← hw1]; exact (Below.refl _ _).alloc (Nat.le_refl _) _
        have hrow1 : Row w1 w.heap.size 84 [.int .u64 (r : Int), .int .u64 (s : Int)] := by rw [← hw1]; exact Row.new _ _ _
        have c0 : w1.cell? ⟨w.heap.size, 0, none⟩ = some (.int .u64 (r : Int)) := hrow1.cell 0
        have c1 : w1.cell? ⟨w.heap.size, 1, none⟩ = some (.int .u64 (s : Int)) := hrow1.cell 1
        have HB1 := hid hb1
        clear hb1 hrow1 hm hK
        go_enter Tryz.func79, Tryz.ntmps79
        go_wp2_with fail
        refine (HI1.out _).mono ?_
        rintro e w2 ⟨rfl, hw2⟩
        obtain rfl := hw2.symm
        go_wp2_with fail
        refine (HI2.out _).mono ?_
        rintro e w3 ⟨rfl, hw3⟩
        obtain rfl := hw3.symm
        go_wp2
        go_ret
        exact ⟨false, rfl, HE.out, HB1.out⟩
    · have HI1 := hid (fun w => inGroup_yes key w h1)
      have HI2 := hid (fun w => inGroup_no r w h2)
      have HE := hid (show (false = true ↔ goodN key m r s) from ⟨fun h => by simp at h, fun h => absurd h.2.1 h2⟩)
      obtain ⟨w1, hw1⟩ : ∃ w1, w.alloc (.cells #[.int .u64 (r : Int), .int .u64 (s : Int)] 84) = w1 := ⟨_, rfl⟩
      have hb1 : Below w.heap.size w w1 := by rw [← hw1]; exact (Below.refl _ _).alloc (Nat.le_refl _) _
      have hrow1 : Row w1 w.heap.size 84 [.int .u64 (r : Int), .int .u64 (s : Int)] := by rw [← hw1]; exact Row.new _ _ _
      have c0 : w1.cell? ⟨w.heap.size, 0, none⟩ = some (.int .u64 (r : Int)) := hrow1.cell 0
      have c1 : w1.cell? ⟨w.heap.size, 1, none⟩ = some (.int .u64 (s : Int)) := hrow1.cell 1
      have HB1 := hid hb1
      clear hb1 hrow1 hm hK
      go_enter Tryz.func79, Tryz.ntmps79
      go_wp2_with fail
      refine (HI1.out _).mono ?_
      rintro e w2 ⟨rfl, hw2⟩
      obtain rfl := hw2.symm
      go_wp2_with fail
      refine (HI2.out _).mono ?_
      rintro e w3 ⟨rfl, hw3⟩
      obtain rfl := hw3.symm
      go_wp2
      go_ret
      exact ⟨false, rfl, HE.out, HB1.out⟩
  · have HI1 := hid (fun w => inGroup_no key w h1)
    have HE := hid (show (false = true ↔ goodN key m r s) from ⟨fun h => by simp at h, fun h => absurd h.1 h1⟩)
    obtain ⟨w1, hw1⟩ : ∃ w1, w.alloc (.cells #[.int .u64 (r : Int), .int .u64 (s : Int)] 84) = w1 := ⟨_, rfl⟩
    have hb1 : Below w.heap.size w w1 := by rw [← hw1]; exact (Below.refl _ _).alloc (Nat.le_refl _) _
    have hrow1 : Row w1 w.heap.size 84 [.int .u64 (r : Int), .int .u64 (s : Int)] := by rw [← hw1]; exact Row.new _ _ _
    have c0 : w1.cell? ⟨w.heap.size, 0, none⟩ = some (.int .u64 (r : Int)) := hrow1.cell 0
    have c1 : w1.cell? ⟨w.heap.size, 1, none⟩ = some (.int .u64 (s : Int)) := hrow1.cell 1
    have HB1 := hid hb1
    clear hb1 hrow1 hm hK
    go_enter Tryz.func79, Tryz.ntmps79
    go_wp2_with fail
    refine (HI1.out _).mono ?_
    rintro e w2 ⟨rfl, hw2⟩
    obtain rfl := hw2.symm
    go_wp2
    go_ret
    exact ⟨false, rfl, HE.out, HB1.out⟩
end Go.Proofs.YtiflkkelbnpniaaGreatDoor
