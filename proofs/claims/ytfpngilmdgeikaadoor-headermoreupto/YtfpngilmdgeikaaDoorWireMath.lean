/-
  Plain mathematics of pieces written as bytes: numbers by sevens of bits, pieces, lists of pieces; what is written is read, in one way alone. No program is named here.
-/
import Derived.Test.YtfpngilmdgeikaaDoorShaMath
namespace Go.Proofs.YtfpngilmdgeikaaDoor

/-- a number's bytes, in so many at most, and one more -/
def numF : Nat → Nat → List (BitVec 8)
  | 0, n => [BitVec.ofNat 8 n]
  | f + 1, n => if n < 128 then [BitVec.ofNat 8 n] else BitVec.ofNat 8 (128 + n % 128) :: numF f (n / 128)
/-- a number's bytes -/
def numB (n : Nat) : List (BitVec 8) := numF n n
theorem numF_small (f : Nat) {n : Nat} (h : n < 128) : numF f n = [BitVec.ofNat 8 n] := by
  cases f with
  | zero => rfl
  | succ f => rw [numF, if_pos h]
theorem numF_any : ∀ (f f' n : Nat), n ≤ f → n ≤ f' → numF f n = numF f' n := by
  intro f
  induction f with
  | zero => intro f' n h _; rw [numF_small 0 (by omega), numF_small f' (by omega)]
  | succ f ih =>
    intro f' n h h'
    by_cases hs : n < 128
    · rw [numF_small _ hs, numF_small _ hs]
    · cases f' with
      | zero => omega
      | succ f' => rw [numF, numF, if_neg hs, if_neg hs, ih f' (n / 128) (by omega) (by omega)]
theorem numB_small {n : Nat} (h : n < 128) : numB n = [BitVec.ofNat 8 n] := numF_small n h
theorem numB_big {n : Nat} (h : 128 ≤ n) : numB n = BitVec.ofNat 8 (128 + n % 128) :: numB (n / 128) := by
  unfold numB
  obtain ⟨m, rfl⟩ : ∃ m, n = m + 1 := ⟨n - 1, by omega⟩
  rw [numF, if_neg (by omega), numF_any m ((m + 1) / 128) _ (by omega) (Nat.le_refl _)]
theorem numB_pos (n : Nat) : 0 < (numB n).length := by
  by_cases h : n < 128
  · rw [numB_small h]; simp
  · rw [numB_big (by omega)]; simp
theorem numB_length : ∀ (k n : Nat), n < 128 ^ k → 0 < k → (numB n).length ≤ k := by
  intro k
  induction k with
  | zero => intro n _ h; omega
  | succ k ih =>
    intro n h _
    by_cases hs : n < 128
    · rw [numB_small hs]; simp
    · rw [numB_big (by omega)]
      have hk : 0 < k := by
        rcases Nat.eq_zero_or_pos k with rfl | h'
        · simp at h; omega
        · exact h'
      have h2 : n / 128 < 128 ^ k := by
        rw [Nat.pow_succ] at h
        exact Nat.div_lt_of_lt_mul (by rw [Nat.mul_comm]; exact h)
      have := ih (n / 128) h2 hk
      simp; omega
theorem numB_ten (n : Nat) (h : n < 18446744073709551616) : (numB n).length ≤ 10 := numB_length 10 n (by simp; omega) (by omega)

/-- the number that bytes begin with, of which i bytes were met, which gave n; and what is behind -/
def cutA : Nat → Nat → List (BitVec 8) → Option (Nat × List (BitVec 8))
  | _, _, [] => none
  | i, n, x :: r =>
    if i = 9 ∧ 1 < x.toNat then none
    else if 128 ≤ x.toNat then cutA (i + 1) (n + x.toNat % 128 * 128 ^ i) r
    else if x.toNat = 0 ∧ 0 < i then none
    else some (n + x.toNat % 128 * 128 ^ i, r)
def cutN (l : List (BitVec 8)) : Option (Nat × List (BitVec 8)) := cutA 0 0 l

theorem cutA_num : ∀ (k i a n : Nat) (r : List (BitVec 8)), n < k → i ≤ 9 → n * 128 ^ i < 18446744073709551616 → (0 < i → 0 < n) → cutA i a (numB n ++ r) = some (a + n * 128 ^ i, r) := by
  intro k
  induction k with
  | zero => intro i a n r h; omega
  | succ k ih =>
    intro i a n r hk hi hlt hp
    have h9 : i = 9 → n ≤ 1 := by rintro rfl; simp at hlt; omega
    by_cases hs : n < 128
    · rw [numB_small hs]
      have e : (BitVec.ofNat 8 n).toNat = n := by simp; omega
      show cutA i a (BitVec.ofNat 8 n :: r) = _
      rw [cutA, e, if_neg (by rintro ⟨h, h'⟩; have := h9 h; omega), if_neg (by omega), if_neg (by rintro ⟨h, h'⟩; have := hp h'; omega), Nat.mod_eq_of_lt hs]
    · rw [numB_big (by omega)]
      have e : (BitVec.ofNat 8 (128 + n % 128)).toNat = 128 + n % 128 := by simp; omega
      show cutA i a (BitVec.ofNat 8 (128 + n % 128) :: (numB (n / 128) ++ r)) = _
      have hi8 : i ≠ 9 := fun h => by have := h9 h; omega
      have hmul : n / 128 * 128 ^ (i + 1) + n % 128 * 128 ^ i = n * 128 ^ i := by
        rw [Nat.pow_succ, Nat.mul_comm (128 ^ i) 128, ← Nat.mul_assoc, ← Nat.add_mul]
        congr 1; omega
      rw [cutA, e, if_neg (by rintro ⟨h, _⟩; exact hi8 h), if_pos (by omega), ih (i + 1) _ (n / 128) r (by omega) (by omega) (by omega) (fun _ => by omega)]
      have : (128 + n % 128) % 128 = n % 128 := by omega
      rw [this, Nat.add_assoc, Nat.add_comm (n % 128 * 128 ^ i), hmul]
theorem cutN_num (n : Nat) (r : List (BitVec 8)) (h : n < 18446744073709551616) : cutN (numB n ++ r) = some (n, r) := by
  unfold cutN
  rw [cutA_num (n + 1) 0 0 n r (by omega) (by omega) (by simpa using h) (by omega)]
  simp

theorem ofNat_toNat8 (x : BitVec 8) (n : Nat) (h : x.toNat = n) : BitVec.ofNat 8 n = x := by subst h; simp
theorem cutA_some : ∀ (l : List (BitVec 8)) (i a m : Nat) (r : List (BitVec 8)), cutA i a l = some (m, r) → i ≤ 9 → ∃ n, l = numB n ++ r ∧ m = a + n * 128 ^ i ∧ (0 < i → 0 < n) ∧ n * 128 ^ i < 18446744073709551616 := by
  intro l
  induction l with
  | nil => intro i a m r h; simp [cutA] at h
  | cons x l ih =>
    intro i a m r h hi
    rw [cutA] at h
    by_cases h1 : i = 9 ∧ 1 < x.toNat
    · rw [if_pos h1] at h; cases h
    rw [if_neg h1] at h
    by_cases h2 : 128 ≤ x.toNat
    · rw [if_pos h2] at h
      have hi8 : i ≠ 9 := fun e => h1 ⟨e, by omega⟩
      obtain ⟨n, rfl, rfl, hp, hlt⟩ := ih _ _ _ _ h (by omega)
      have hx := x.isLt
      have hn := hp (by omega)
      have hmul : n * 128 ^ (i + 1) + x.toNat % 128 * 128 ^ i = (n * 128 + x.toNat % 128) * 128 ^ i := by
        rw [Nat.pow_succ, Nat.add_mul, Nat.mul_comm (128 ^ i) 128, ← Nat.mul_assoc]
      refine ⟨n * 128 + x.toNat % 128, ?_, ?_, fun _ => by omega, ?_⟩
      · rw [numB_big (n := n * 128 + x.toNat % 128) (by omega)]
        rw [show (n * 128 + x.toNat % 128) / 128 = n by omega, ofNat_toNat8 x _ (by omega)]
        rfl
      · rw [← hmul]; omega
      · have hb : i ≤ 8 := by omega
        have hlow : x.toNat % 128 * 128 ^ i + 128 ^ i ≤ 128 ^ (i + 1) := by
          rw [Nat.pow_succ, Nat.mul_comm (128 ^ i) 128, ← Nat.succ_mul]
          exact Nat.mul_le_mul_right _ (by omega)
        have hpos : 0 < 128 ^ i := Nat.pow_pos (by omega)
        rw [← hmul]
        obtain ⟨e, he⟩ : ∃ e, 18446744073709551616 = e * 128 ^ (i + 1) ∨ (i = 9) := by
          refine ⟨2 ^ (64 - 7 * (i + 1)), ?_⟩
          have hc : i = 0 ∨ i = 1 ∨ i = 2 ∨ i = 3 ∨ i = 4 ∨ i = 5 ∨ i = 6 ∨ i = 7 ∨ i = 8 := by omega
          rcases hc with rfl | rfl | rfl | rfl | rfl | rfl | rfl | rfl | rfl <;> decide
        rcases he with he | he
        · rw [he] at hlt ⊢
          have hne : n < e := Nat.lt_of_mul_lt_mul_right hlt
          have : (n + 1) * 128 ^ (i + 1) ≤ e * 128 ^ (i + 1) := Nat.mul_le_mul_right _ hne
          rw [Nat.succ_mul] at this
          omega
        · exact absurd he hi8
    · rw [if_neg h2] at h
      by_cases h3 : x.toNat = 0 ∧ 0 < i
      · rw [if_pos h3] at h; cases h
      rw [if_neg h3] at h
      obtain ⟨rfl, rfl⟩ : a + x.toNat % 128 * 128 ^ i = m ∧ l = r := by simpa using h
      rw [Nat.mod_eq_of_lt (show x.toNat < 128 by omega)]
      refine ⟨x.toNat, ?_, rfl, fun h0 => ?_, ?_⟩
      · rw [numB_small (by omega), ofNat_toNat8 x _ rfl]; rfl
      · rcases Nat.eq_zero_or_pos x.toNat with e | e
        · exact absurd ⟨e, h0⟩ h3
        · exact e
      · by_cases e : i = 9
        · subst e
          have : x.toNat ≤ 1 := by
            rcases Nat.lt_or_ge 1 x.toNat with h' | h'
            · exact absurd ⟨rfl, h'⟩ h1
            · exact h'
          simp; omega
        · have h8 : 128 ^ i ≤ 128 ^ 8 := Nat.pow_le_pow_right (by omega) (by omega)
          have : x.toNat * 128 ^ i ≤ 127 * 128 ^ 8 := Nat.mul_le_mul (by omega) h8
          simp at this ⊢; omega
theorem cutN_some {l r : List (BitVec 8)} {m : Nat} (h : cutN l = some (m, r)) : l = numB m ++ r ∧ m < 18446744073709551616 := by
  obtain ⟨n, h1, h2, _, h4⟩ := cutA_some l 0 0 m r h (by omega)
  simp at h2 h4
  subst h2
  exact ⟨h1, h4⟩

/-- a piece: its kind, its number, its bytes -/
structure Pc where
  k : Int
  n : Nat
  b : List (BitVec 8)
/-- what a piece's kind has -/
def Pc.norm (p : Pc) : Pc := if p.k = 1 then ⟨1, p.n, []⟩ else if p.k = 2 then ⟨2, 0, p.b⟩ else ⟨p.k, 0, []⟩
/-- a piece's bytes, if it is of a kind -/
def Pc.wr (p : Pc) : List (BitVec 8) := if p.k = 1 then 0 :: numB p.n else 1 :: (numB p.b.length ++ p.b)
/-- a piece has a number of 64 bits -/
def Pc.ok (p : Pc) : Prop := p.n < 18446744073709551616
/-- the bytes of pieces, from the i-th on, behind what is out; or which error, and where -/
def wrGo (i : Nat) (out : List (BitVec 8)) : List Pc → Except (Int × Nat) (List (BitVec 8))
  | [] => .ok out
  | p :: r => if p.k ≠ 1 ∧ p.k ≠ 2 then .error (1, i) else if 20000 < (out ++ p.wr).length then .error (4, i) else wrGo (i + 1) (out ++ p.wr) r
def wrAll (l : List Pc) : Except (Int × Nat) (List (BitVec 8)) := if 200 < l.length then .error (5, 0) else wrGo 0 (numB l.length) l

/-- the piece that bytes begin with, and what is behind -/
def cutP : List (BitVec 8) → Option (Pc × List (BitVec 8))
  | [] => none
  | x :: r => if 1 < x.toNat then none else
    match cutN r with
    | none => none
    | some (n, r') => if x.toNat = 0 then some (⟨1, n, []⟩, r') else if r'.length < n then none else some (⟨2, 0, r'.take n⟩, r'.drop n)
/-- so many pieces, and nothing behind, after those that were met -/
def rdGo : Nat → List Pc → List (BitVec 8) → Option (List Pc)
  | 0, acc, b => if b.length = 0 then some acc else none
  | c + 1, acc, b => match cutP b with
    | none => none
    | some (p, r) => rdGo c (acc ++ [p]) r
def rdAll (b : List (BitVec 8)) : Except Int (List Pc) :=
  if 20000 < b.length then .error 4 else
  match cutN b with
  | none => .error 2
  | some (n, r) => if 200 < n then .error 2 else
    match rdGo n [] r with
    | none => .error 2
    | some l => .ok l

theorem Pc.norm_k (p : Pc) : p.norm.k = p.k := by
  unfold Pc.norm; split
  · simp_all
  · split <;> simp_all
theorem Pc.norm_wr (p : Pc) (h : p.k = 1 ∨ p.k = 2) : p.norm.wr = p.wr := by
  rcases h with h | h <;> simp [Pc.norm, Pc.wr, h]
theorem Pc.norm_ok (p : Pc) (h : p.ok) : p.norm.ok := by
  unfold Pc.norm Pc.ok at *; split
  · exact h
  · split <;> simp
theorem wrGo_norm : ∀ (l : List Pc) (i : Nat) (out : List (BitVec 8)), wrGo i out (l.map Pc.norm) = wrGo i out l := by
  intro l
  induction l with
  | nil => intro i out; rfl
  | cons p r ih =>
    intro i out
    simp only [List.map_cons, wrGo, Pc.norm_k]
    by_cases h : p.k ≠ 1 ∧ p.k ≠ 2
    · rw [if_pos h, if_pos h]
    · rw [if_neg h, if_neg h, Pc.norm_wr p (by omega), ih]
theorem wrAll_norm (l : List Pc) : wrAll (l.map Pc.norm) = wrAll l := by
  unfold wrAll; rw [List.length_map, wrGo_norm]

theorem cutP_wr (p : Pc) (r : List (BitVec 8)) (hk : p.k = 1 ∨ p.k = 2) (hn : p.ok) (hb : p.b.length < 18446744073709551616) : cutP (p.wr ++ r) = some (p.norm, r) := by
  rcases hk with h | h
  · have e : p.wr ++ r = 0 :: (numB p.n ++ r) := by simp [Pc.wr, h]
    rw [e]
    simp [cutP, cutN_num p.n r hn, Pc.norm, h]
  · have e : p.wr ++ r = 1 :: (numB p.b.length ++ (p.b ++ r)) := by simp [Pc.wr, h]
    rw [e]
    simp [cutP, cutN_num p.b.length (p.b ++ r) hb, Pc.norm, h]
theorem cutP_some {l r : List (BitVec 8)} {p : Pc} (h : cutP l = some (p, r)) : l = p.wr ++ r ∧ (p.k = 1 ∨ p.k = 2) ∧ p.ok ∧ p.norm = p := by
  cases l with
  | nil => simp [cutP] at h
  | cons x l =>
    rw [cutP] at h
    by_cases h1 : 1 < x.toNat
    · rw [if_pos h1] at h; cases h
    rw [if_neg h1] at h
    cases hc : cutN l with
    | none => rw [hc] at h; cases h
    | some y =>
      obtain ⟨n, r'⟩ := y
      rw [hc] at h
      obtain ⟨rfl, hn⟩ := cutN_some hc
      simp only at h
      by_cases h0 : x.toNat = 0
      · rw [if_pos h0] at h
        obtain ⟨rfl, rfl⟩ : (⟨1, n, []⟩ : Pc) = p ∧ r' = r := by simpa using h
        have hx : x = 0 := BitVec.eq_of_toNat_eq (by simpa using h0)
        subst hx
        exact ⟨by simp [Pc.wr], .inl rfl, hn, rfl⟩
      · rw [if_neg h0] at h
        by_cases h2 : r'.length < n
        · rw [if_pos h2] at h; cases h
        · rw [if_neg h2] at h
          obtain ⟨rfl, rfl⟩ : (⟨2, 0, r'.take n⟩ : Pc) = p ∧ r'.drop n = r := by simpa using h
          have hx : x = 1 := BitVec.eq_of_toNat_eq (by simp; omega)
          subst hx
          have hl : (r'.take n).length = n := by simp; omega
          refine ⟨?_, .inr rfl, by simp [Pc.ok], rfl⟩
          unfold Pc.wr
          rw [if_neg (by simp)]
          simp only [hl, List.cons_append, List.append_assoc, List.take_append_drop]

/-- all pieces' bytes, one behind the other -/
def wrs (l : List Pc) : List (BitVec 8) := (l.map Pc.wr).flatten
theorem wrGo_ok : ∀ (l : List Pc) (i : Nat) (out x : List (BitVec 8)), wrGo i out l = .ok x → x = out ++ wrs l ∧ (∀ p ∈ l, p.k = 1 ∨ p.k = 2) ∧ (out.length ≤ 20000 → x.length ≤ 20000) := by
  intro l
  induction l with
  | nil => intro i out x h; simp [wrGo] at h; subst h; simp [wrs]
  | cons p r ih =>
    intro i out x h
    rw [wrGo] at h
    by_cases h1 : p.k ≠ 1 ∧ p.k ≠ 2
    · rw [if_pos h1] at h; cases h
    rw [if_neg h1] at h
    by_cases h2 : 20000 < (out ++ p.wr).length
    · rw [if_pos h2] at h; cases h
    rw [if_neg h2] at h
    obtain ⟨e1, e2, e3⟩ := ih _ _ _ h
    refine ⟨by rw [e1]; simp [wrs], ?_, fun _ => e3 (by omega)⟩
    intro q hq
    rcases List.mem_cons.1 hq with rfl | hq
    · omega
    · exact e2 q hq
theorem wrGo_of : ∀ (l : List Pc) (i : Nat) (out : List (BitVec 8)), (∀ p ∈ l, p.k = 1 ∨ p.k = 2) → (out ++ wrs l).length ≤ 20000 → wrGo i out l = .ok (out ++ wrs l) := by
  intro l
  induction l with
  | nil => intro i out _ _; simp [wrGo, wrs]
  | cons p r ih =>
    intro i out hk hl
    have e : out ++ wrs (p :: r) = (out ++ p.wr) ++ wrs r := by simp [wrs]
    rw [e] at hl ⊢
    have hp := hk p (by simp)
    rw [wrGo, if_neg (by omega), if_neg (by rw [List.length_append] at hl; omega), ih _ _ (fun q hq => hk q (by simp [hq])) hl]
theorem rdGo_of : ∀ (l acc : List Pc), (∀ p ∈ l, p.k = 1 ∨ p.k = 2) → (∀ p ∈ l, p.ok) → (∀ p ∈ l, p.b.length < 18446744073709551616 ∨ p.k = 1) → rdGo l.length acc (wrs l) = some (acc ++ l.map Pc.norm) := by
  intro l
  induction l with
  | nil => intro acc _ _ _; simp [rdGo, wrs]
  | cons p r ih =>
    intro acc hk ho hb
    have e : wrs (p :: r) = p.wr ++ wrs r := by simp [wrs]
    have hcut : cutP (p.wr ++ wrs r) = some (p.norm, wrs r) := by
      have hkp := hk p (by simp)
      rcases hb p (by simp) with h | h
      · exact cutP_wr p _ hkp (ho p (by simp)) h
      · have hw : p.wr = p.norm.wr := (Pc.norm_wr p hkp).symm
        have hnn : p.norm.norm = p.norm := by simp [Pc.norm, h]
        rw [hw, cutP_wr p.norm _ (by rw [Pc.norm_k]; exact hkp) (Pc.norm_ok p (ho p (by simp))) (by simp [Pc.norm, h]), hnn]
    rw [e, List.length_cons, rdGo, hcut]
    simp only
    rw [ih _ (fun q hq => hk q (by simp [hq])) (fun q hq => ho q (by simp [hq])) (fun q hq => hb q (by simp [hq]))]
    simp
theorem rdGo_some : ∀ (c : Nat) (acc m : List Pc) (b : List (BitVec 8)), rdGo c acc b = some m → ∃ l, m = acc ++ l ∧ l.length = c ∧ b = wrs l ∧ (∀ p ∈ l, (p.k = 1 ∨ p.k = 2) ∧ p.ok ∧ p.norm = p) := by
  intro c
  induction c with
  | zero =>
    intro acc m b h
    rw [rdGo] at h
    by_cases h0 : b.length = 0
    · rw [if_pos h0] at h
      obtain rfl : acc = m := by simpa using h
      exact ⟨[], by simp, rfl, by simpa [wrs] using h0, by simp⟩
    · rw [if_neg h0] at h; cases h
  | succ c ih =>
    intro acc m b h
    rw [rdGo] at h
    cases hc : cutP b with
    | none => rw [hc] at h; cases h
    | some y =>
      obtain ⟨p, r⟩ := y
      rw [hc] at h
      obtain ⟨rfl, h2⟩ := cutP_some hc
      obtain ⟨l, rfl, h3, rfl, h4⟩ := ih _ _ _ h
      refine ⟨p :: l, by simp, by simp [h3], by simp [wrs], ?_⟩
      intro q hq
      rcases List.mem_cons.1 hq with rfl | hq
      · exact h2
      · exact h4 q hq
theorem mem_wrs (l : List Pc) (p : Pc) (h : p ∈ l) (hk : p.k = 2) : p.b.length ≤ (wrs l).length := by
  induction l with
  | nil => simp at h
  | cons q r ih =>
    have e : wrs (q :: r) = q.wr ++ wrs r := by simp [wrs]
    rw [e, List.length_append]
    rcases List.mem_cons.1 h with rfl | h
    · have : p.b.length ≤ p.wr.length := by simp [Pc.wr, hk]; omega
      omega
    · have := ih h; omega
/-- what is written is read -/
theorem rd_wr (l : List Pc) (x : List (BitVec 8)) (ho : ∀ p ∈ l, p.ok) (h : wrAll l = .ok x) : rdAll x = .ok (l.map Pc.norm) := by
  unfold wrAll at h
  by_cases h2 : 200 < l.length
  · rw [if_pos h2] at h; cases h
  rw [if_neg h2] at h
  obtain ⟨rfl, hk, hlen⟩ := wrGo_ok _ _ _ _ h
  have hn := numB_length 10 l.length (by simp; omega) (by omega)
  have hl := hlen (by omega)
  unfold rdAll
  rw [if_neg (by omega), cutN_num l.length _ (by omega)]
  simp only
  rw [if_neg h2, rdGo_of l [] hk ho]
  · simp
  · intro p hp
    rcases hk p hp with h1 | h1
    · exact .inr h1
    · left
      have := mem_wrs l p hp h1
      rw [List.length_append] at hl
      omega
/-- what is read is what its pieces are written as -/
theorem wr_rd (b : List (BitVec 8)) (m : List Pc) (h : rdAll b = .ok m) : wrAll m = .ok b ∧ m.length ≤ 200 ∧ (∀ p ∈ m, p.ok ∧ p.norm = p) := by
  unfold rdAll at h
  by_cases h1 : 20000 < b.length
  · rw [if_pos h1] at h; cases h
  rw [if_neg h1] at h
  cases hc : cutN b with
  | none => rw [hc] at h; cases h
  | some y =>
    obtain ⟨n, r⟩ := y
    rw [hc] at h
    simp only at h
    by_cases h2 : 200 < n
    · rw [if_pos h2] at h; cases h
    rw [if_neg h2] at h
    cases hg : rdGo n [] r with
    | none => rw [hg] at h; cases h
    | some l =>
      rw [hg] at h
      obtain rfl : l = m := by simpa using h
      obtain ⟨rfl, _⟩ := cutN_some hc
      obtain ⟨l', h3, rfl, rfl, h4⟩ := rdGo_some _ _ _ _ hg
      rw [List.nil_append] at h3
      subst h3
      refine ⟨?_, by omega, fun p hp => (h4 p hp).2⟩
      unfold wrAll
      rw [if_neg h2, wrGo_of _ _ _ (fun p hp => (h4 p hp).1) (by omega)]
theorem map_norm_self (m : List Pc) (h : ∀ p ∈ m, p.norm = p) : m.map Pc.norm = m := by
  rw [List.map_congr_left h]; simp
/-- what is unlike is written unlike -/
theorem wr_inj (l m : List Pc) (a b : List (BitVec 8)) (hl : ∀ p ∈ l, p.ok) (hm : ∀ p ∈ m, p.ok) (h1 : wrAll l = .ok a) (h2 : wrAll m = .ok b) : a = b ↔ l.map Pc.norm = m.map Pc.norm := by
  constructor
  · rintro rfl
    have e1 := rd_wr l a hl h1
    have e2 := rd_wr m a hm h2
    rw [e1] at e2
    simpa using e2
  · intro h
    rw [← wrAll_norm, h, wrAll_norm, h2] at h1
    simpa using h1.symm
end Go.Proofs.YtfpngilmdgeikaaDoor
