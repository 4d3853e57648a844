/-
  Plain mathematics of pieces written as bytes: numbers by sevens of bits, pieces, lists of pieces; what is written is read, in one way alone. No program is named here.
  Slices of what reads as bytes: from a place on, up to a place, between two places. What cutNumber answers: the number that bytes begin with, and what is behind; it only reads. What appendNumber does: a number's bytes, behind what the call owns. What Clone and cutPiece answer: new memory that reads as what was handed in; the piece that bytes begin with, and what is behind. Nothing that was there is turned. Pieces behind a slice value: three cells each. Laws for append where what comes out may pass 2^47 bytes a little: how long it is, that nothing else was turned, and, where it does not pass, what it reads as. What the document's Num answers: a number's bytes, in new memory. What Read answers: the pieces whose bytes were handed in, in new memory; or which error.
  What appendPiece does: a piece's bytes behind what the call owns; or which error. What Write answers: the bytes of pieces, in new memory; or which error, and where. What the document's Write answers: the bytes of pieces, in new memory; or which error, and where.
-/
import Derived.Test.YtbjlfhabnjpdmaaGreatDoorlaMemB
import Derived.OwnWalk
import Derived.Deep.RegionHeld3
import Derived.Deep.RegionWith
import Derived.Laws.Cover3
import Derived.Deep.RegionLaw
import Derived.Deep.RegionHeldLaw
namespace Go.Proofs.YtbjlfhabnjpdmaaGreatDoor

/-- a number's bytes, in so many at most, and one more -/
def numF : Nat → Nat → List (BitVec 8)
  | 0, n => [BitVec.ofNat 8 n]
  | f + 1, n => if n < 128 then [BitVec.ofNat 8 n] else BitVec.ofNat 8 (128 + n % 128) :: numF f (n / 128)
/-- a number's bytes -/
def numB (n : Nat) : List (BitVec 8) := numF n n
theorem numF_small (f : Nat) {n : Nat} (h : n < 128) : numF f n = [BitVec.ofNat 8 n] := by
  cases f with
  | zero => rfl
  | succ f => rw [numF, if_pos h]
theorem numF_any : ∀ (f f' n : Nat), n ≤ f → n ≤ f' → numF f n = numF f' n := by
  intro f
  induction f with
  | zero => intro f' n h _; rw [numF_small 0 (by omega), numF_small f' (by omega)]
  | succ f ih =>
    intro f' n h h'
    by_cases hs : n < 128
    · rw [numF_small _ hs, numF_small _ hs]
    · cases f' with
      | zero => omega
      | succ f' => rw [numF, numF, if_neg hs, if_neg hs, ih f' (n / 128) (by omega) (by omega)]
theorem numB_small {n : Nat} (h : n < 128) : numB n = [BitVec.ofNat 8 n] := numF_small n h
theorem numB_big {n : Nat} (h : 128 ≤ n) : numB n = BitVec.ofNat 8 (128 + n % 128) :: numB (n / 128) := by
  unfold numB
  obtain ⟨m, rfl⟩ : ∃ m, n = m + 1 := ⟨n - 1, by omega⟩
  rw [numF, if_neg (by omega), numF_any m ((m + 1) / 128) _ (by omega) (Nat.le_refl _)]
theorem numB_length : ∀ (k n : Nat), n < 128 ^ k → 0 < k → (numB n).length ≤ k := by
  intro k
  induction k with
  | zero => intro n _ h; omega
  | succ k ih =>
    intro n h _
    by_cases hs : n < 128
    · rw [numB_small hs]; simp
    · rw [numB_big (by omega)]
      have hk : 0 < k := by
        rcases Nat.eq_zero_or_pos k with rfl | h'
        · simp at h; omega
        · exact h'
      have h2 : n / 128 < 128 ^ k := by
        rw [Nat.pow_succ] at h
        exact Nat.div_lt_of_lt_mul (by rw [Nat.mul_comm]; exact h)
      have := ih (n / 128) h2 hk
      simp; omega
theorem numB_ten (n : Nat) (h : n < 18446744073709551616) : (numB n).length ≤ 10 := numB_length 10 n (by simp; omega) (by omega)

/-- the number that bytes begin with, of which i bytes were met, which gave n; and what is behind -/
def cutA : Nat → Nat → List (BitVec 8) → Option (Nat × List (BitVec 8))
  | _, _, [] => none
  | i, n, x :: r =>
    if i = 9 ∧ 1 < x.toNat then none
    else if 128 ≤ x.toNat then cutA (i + 1) (n + x.toNat % 128 * 128 ^ i) r
    else if x.toNat = 0 ∧ 0 < i then none
    else some (n + x.toNat % 128 * 128 ^ i, r)
def cutN (l : List (BitVec 8)) : Option (Nat × List (BitVec 8)) := cutA 0 0 l


theorem ofNat_toNat8 (x : BitVec 8) (n : Nat) (h : x.toNat = n) : BitVec.ofNat 8 n = x := by subst h; simp
theorem cutA_some : ∀ (l : List (BitVec 8)) (i a m : Nat) (r : List (BitVec 8)), cutA i a l = some (m, r) → i ≤ 9 → ∃ n, l = numB n ++ r ∧ m = a + n * 128 ^ i ∧ (0 < i → 0 < n) ∧ n * 128 ^ i < 18446744073709551616 := by
  intro l
  induction l with
  | nil => intro i a m r h; simp [cutA] at h
  | cons x l ih =>
    intro i a m r h hi
    rw [cutA] at h
    by_cases h1 : i = 9 ∧ 1 < x.toNat
    · rw [if_pos h1] at h; cases h
    rw [if_neg h1] at h
    by_cases h2 : 128 ≤ x.toNat
    · rw [if_pos h2] at h
      have hi8 : i ≠ 9 := fun e => h1 ⟨e, by omega⟩
      obtain ⟨n, rfl, rfl, hp, hlt⟩ := ih _ _ _ _ h (by omega)
      have hx := x.isLt
      have hn := hp (by omega)
      have hmul : n * 128 ^ (i + 1) + x.toNat % 128 * 128 ^ i = (n * 128 + x.toNat % 128) * 128 ^ i := by
        rw [Nat.pow_succ, Nat.add_mul, Nat.mul_comm (128 ^ i) 128, ← Nat.mul_assoc]
      refine ⟨n * 128 + x.toNat % 128, ?_, ?_, fun _ => by omega, ?_⟩
      · rw [numB_big (n := n * 128 + x.toNat % 128) (by omega)]
        rw [show (n * 128 + x.toNat % 128) / 128 = n by omega, ofNat_toNat8 x _ (by omega)]
        rfl
      · rw [← hmul]; omega
      · have hb : i ≤ 8 := by omega
        have hlow : x.toNat % 128 * 128 ^ i + 128 ^ i ≤ 128 ^ (i + 1) := by
          rw [Nat.pow_succ, Nat.mul_comm (128 ^ i) 128, ← Nat.succ_mul]
          exact Nat.mul_le_mul_right _ (by omega)
        have hpos : 0 < 128 ^ i := Nat.pow_pos (by omega)
        rw [← hmul]
        obtain ⟨e, he⟩ : ∃ e, 18446744073709551616 = e * 128 ^ (i + 1) ∨ (i = 9) := by
          refine ⟨2 ^ (64 - 7 * (i + 1)), ?_⟩
          have hc : i = 0 ∨ i = 1 ∨ i = 2 ∨ i = 3 ∨ i = 4 ∨ i = 5 ∨ i = 6 ∨ i = 7 ∨ i = 8 := by omega
          rcases hc with rfl | rfl | rfl | rfl | rfl | rfl | rfl | rfl | rfl <;> decide
        rcases he with he | he
        · rw [he] at hlt ⊢
          have hne : n < e := Nat.lt_of_mul_lt_mul_right hlt
          have : (n + 1) * 128 ^ (i + 1) ≤ e * 128 ^ (i + 1) := Nat.mul_le_mul_right _ hne
          rw [Nat.succ_mul] at this
          omega
        · exact absurd he hi8
    · rw [if_neg h2] at h
      by_cases h3 : x.toNat = 0 ∧ 0 < i
      · rw [if_pos h3] at h; cases h
      rw [if_neg h3] at h
      obtain ⟨rfl, rfl⟩ : a + x.toNat % 128 * 128 ^ i = m ∧ l = r := by simpa using h
      rw [Nat.mod_eq_of_lt (show x.toNat < 128 by omega)]
      refine ⟨x.toNat, ?_, rfl, fun h0 => ?_, ?_⟩
      · rw [numB_small (by omega), ofNat_toNat8 x _ rfl]; rfl
      · rcases Nat.eq_zero_or_pos x.toNat with e | e
        · exact absurd ⟨e, h0⟩ h3
        · exact e
      · by_cases e : i = 9
        · subst e
          have : x.toNat ≤ 1 := by
            rcases Nat.lt_or_ge 1 x.toNat with h' | h'
            · exact absurd ⟨rfl, h'⟩ h1
            · exact h'
          simp; omega
        · have h8 : 128 ^ i ≤ 128 ^ 8 := Nat.pow_le_pow_right (by omega) (by omega)
          have : x.toNat * 128 ^ i ≤ 127 * 128 ^ 8 := Nat.mul_le_mul (by omega) h8
          simp at this ⊢; omega
theorem cutN_some {l r : List (BitVec 8)} {m : Nat} (h : cutN l = some (m, r)) : l = numB m ++ r ∧ m < 18446744073709551616 := by
  obtain ⟨n, h1, h2, _, h4⟩ := cutA_some l 0 0 m r h (by omega)
  simp at h2 h4
  subst h2
  exact ⟨h1, h4⟩

/-- a piece: its kind, its number, its bytes -/
structure Pc where
  k : Int
  n : Nat
  b : List (BitVec 8)
/-- what a piece's kind has -/
def Pc.norm (p : Pc) : Pc := if p.k = 1 then ⟨1, p.n, []⟩ else if p.k = 2 then ⟨2, 0, p.b⟩ else ⟨p.k, 0, []⟩
/-- a piece's bytes, if it is of a kind -/
def Pc.wr (p : Pc) : List (BitVec 8) := if p.k = 1 then 0 :: numB p.n else 1 :: (numB p.b.length ++ p.b)
/-- a piece has a number of 64 bits -/
def Pc.ok (p : Pc) : Prop := p.n < 18446744073709551616
/-- the bytes of pieces, from the i-th on, behind what is out; or which error, and where -/
def wrGo (i : Nat) (out : List (BitVec 8)) : List Pc → Except (Int × Nat) (List (BitVec 8))
  | [] => .ok out
  | p :: r => if p.k ≠ 1 ∧ p.k ≠ 2 then .error (1, i) else if 20000 < (out ++ p.wr).length then .error (4, i) else wrGo (i + 1) (out ++ p.wr) r
def wrAll (l : List Pc) : Except (Int × Nat) (List (BitVec 8)) := if 200 < l.length then .error (5, 0) else wrGo 0 (numB l.length) l

/-- the piece that bytes begin with, and what is behind -/
def cutP : List (BitVec 8) → Option (Pc × List (BitVec 8))
  | [] => none
  | x :: r => if 1 < x.toNat then none else
    match cutN r with
    | none => none
    | some (n, r') => if x.toNat = 0 then some (⟨1, n, []⟩, r') else if r'.length < n then none else some (⟨2, 0, r'.take n⟩, r'.drop n)
/-- so many pieces, and nothing behind, after those that were met -/
def rdGo : Nat → List Pc → List (BitVec 8) → Option (List Pc)
  | 0, acc, b => if b.length = 0 then some acc else none
  | c + 1, acc, b => match cutP b with
    | none => none
    | some (p, r) => rdGo c (acc ++ [p]) r
def rdAll (b : List (BitVec 8)) : Except Int (List Pc) :=
  if 20000 < b.length then .error 4 else
  match cutN b with
  | none => .error 2
  | some (n, r) => if 200 < n then .error 2 else
    match rdGo n [] r with
    | none => .error 2
    | some l => .ok l


theorem cutP_some {l r : List (BitVec 8)} {p : Pc} (h : cutP l = some (p, r)) : l = p.wr ++ r ∧ (p.k = 1 ∨ p.k = 2) ∧ p.ok ∧ p.norm = p := by
  cases l with
  | nil => simp [cutP] at h
  | cons x l =>
    rw [cutP] at h
    by_cases h1 : 1 < x.toNat
    · rw [if_pos h1] at h; cases h
    rw [if_neg h1] at h
    cases hc : cutN l with
    | none => rw [hc] at h; cases h
    | some y =>
      obtain ⟨n, r'⟩ := y
      rw [hc] at h
      obtain ⟨rfl, hn⟩ := cutN_some hc
      simp only at h
      by_cases h0 : x.toNat = 0
      · rw [if_pos h0] at h
        obtain ⟨rfl, rfl⟩ : (⟨1, n, []⟩ : Pc) = p ∧ r' = r := by simpa using h
        have hx : x = 0 := BitVec.eq_of_toNat_eq (by simpa using h0)
        subst hx
        exact ⟨by simp [Pc.wr], .inl rfl, hn, rfl⟩
      · rw [if_neg h0] at h
        by_cases h2 : r'.length < n
        · rw [if_pos h2] at h; cases h
        · rw [if_neg h2] at h
          obtain ⟨rfl, rfl⟩ : (⟨2, 0, r'.take n⟩ : Pc) = p ∧ r'.drop n = r := by simpa using h
          have hx : x = 1 := BitVec.eq_of_toNat_eq (by simp; omega)
          subst hx
          have hl : (r'.take n).length = n := by simp; omega
          refine ⟨?_, .inr rfl, by simp [Pc.ok], rfl⟩
          unfold Pc.wr
          rw [if_neg (by simp)]
          simp only [hl, List.cons_append, List.append_assoc, List.take_append_drop]

/-- all pieces' bytes, one behind the other -/
def wrs (l : List Pc) : List (BitVec 8) := (l.map Pc.wr).flatten
theorem wrGo_ok : ∀ (l : List Pc) (i : Nat) (out x : List (BitVec 8)), wrGo i out l = .ok x → x = out ++ wrs l ∧ (∀ p ∈ l, p.k = 1 ∨ p.k = 2) ∧ (out.length ≤ 20000 → x.length ≤ 20000) := by
  intro l
  induction l with
  | nil => intro i out x h; simp [wrGo] at h; subst h; simp [wrs]
  | cons p r ih =>
    intro i out x h
    rw [wrGo] at h
    by_cases h1 : p.k ≠ 1 ∧ p.k ≠ 2
    · rw [if_pos h1] at h; cases h
    rw [if_neg h1] at h
    by_cases h2 : 20000 < (out ++ p.wr).length
    · rw [if_pos h2] at h; cases h
    rw [if_neg h2] at h
    obtain ⟨e1, e2, e3⟩ := ih _ _ _ h
    refine ⟨by rw [e1]; simp [wrs], ?_, fun _ => e3 (by omega)⟩
    intro q hq
    rcases List.mem_cons.1 hq with rfl | hq
    · omega
    · exact e2 q hq
theorem wrGo_of : ∀ (l : List Pc) (i : Nat) (out : List (BitVec 8)), (∀ p ∈ l, p.k = 1 ∨ p.k = 2) → (out ++ wrs l).length ≤ 20000 → wrGo i out l = .ok (out ++ wrs l) := by
  intro l
  induction l with
  | nil => intro i out _ _; simp [wrGo, wrs]
  | cons p r ih =>
    intro i out hk hl
    have e : out ++ wrs (p :: r) = (out ++ p.wr) ++ wrs r := by simp [wrs]
    rw [e] at hl ⊢
    have hp := hk p (by simp)
    rw [wrGo, if_neg (by omega), if_neg (by rw [List.length_append] at hl; omega), ih _ _ (fun q hq => hk q (by simp [hq])) hl]
theorem rdGo_some : ∀ (c : Nat) (acc m : List Pc) (b : List (BitVec 8)), rdGo c acc b = some m → ∃ l, m = acc ++ l ∧ l.length = c ∧ b = wrs l ∧ (∀ p ∈ l, (p.k = 1 ∨ p.k = 2) ∧ p.ok ∧ p.norm = p) := by
  intro c
  induction c with
  | zero =>
    intro acc m b h
    rw [rdGo] at h
    by_cases h0 : b.length = 0
    · rw [if_pos h0] at h
      obtain rfl : acc = m := by simpa using h
      exact ⟨[], by simp, rfl, by simpa [wrs] using h0, by simp⟩
    · rw [if_neg h0] at h; cases h
  | succ c ih =>
    intro acc m b h
    rw [rdGo] at h
    cases hc : cutP b with
    | none => rw [hc] at h; cases h
    | some y =>
      obtain ⟨p, r⟩ := y
      rw [hc] at h
      obtain ⟨rfl, h2⟩ := cutP_some hc
      obtain ⟨l, rfl, h3, rfl, h4⟩ := ih _ _ _ h
      refine ⟨p :: l, by simp, by simp [h3], by simp [wrs], ?_⟩
      intro q hq
      rcases List.mem_cons.1 hq with rfl | hq
      · exact h2
      · exact h4 q hq
/-- what is read is what its pieces are written as -/
theorem wr_rd (b : List (BitVec 8)) (m : List Pc) (h : rdAll b = .ok m) : wrAll m = .ok b ∧ m.length ≤ 200 ∧ (∀ p ∈ m, p.ok ∧ p.norm = p) := by
  unfold rdAll at h
  by_cases h1 : 20000 < b.length
  · rw [if_pos h1] at h; cases h
  rw [if_neg h1] at h
  cases hc : cutN b with
  | none => rw [hc] at h; cases h
  | some y =>
    obtain ⟨n, r⟩ := y
    rw [hc] at h
    simp only at h
    by_cases h2 : 200 < n
    · rw [if_pos h2] at h; cases h
    rw [if_neg h2] at h
    cases hg : rdGo n [] r with
    | none => rw [hg] at h; cases h
    | some l =>
      rw [hg] at h
      obtain rfl : l = m := by simpa using h
      obtain ⟨rfl, _⟩ := cutN_some hc
      obtain ⟨l', h3, rfl, rfl, h4⟩ := rdGo_some _ _ _ _ hg
      rw [List.nil_append] at h3
      subst h3
      refine ⟨?_, by omega, fun p hp => (h4 p hp).2⟩
      unfold wrAll
      rw [if_neg h2, wrGo_of _ _ _ (fun p hp => (h4 p hp).1) (by omega)]
end Go.Proofs.YtbjlfhabnjpdmaaGreatDoor
namespace Go.Proofs.YtbjlfhabnjpdmaaGreatDoor
open Go.RowKit

theorem elemB : Tryz.prog.underlying 29 = some (.slice (Tryz.prog.elem 29)) := by kernel_rfl
theorem sizeB (w : World) : (sizeOf (Tryz.prog.elem 29)).run Tryz.prog w = .ok 1 w := by kernel_rfl
theorem bytes_between {w : World} {N : Nat} {oa : Option Addr} {n ca : Nat} {l : List (BitVec 8)} (h : Bytes w N (.slice oa n ca) l) (i j : Nat) (hij : i ≤ j) (hj : j ≤ n) : Bytes w N (sliced oa i j ca 1) ((l.drop i).take (j - i)) := by
  obtain ⟨oa', ca', he, hc⟩ := h.shape
  obtain ⟨rfl, hn, rfl⟩ : oa = oa' ∧ n = l.length ∧ ca = ca' := by simpa using he
  subst hn
  by_cases h0 : i = j
  · subst h0
    have e : (l.drop i).take (i - i) = [] := by simp
    rw [e]
    cases oa with
    | none =>
      rcases h with ⟨h1, h2⟩ | ⟨a, cap, h1, _⟩ | ⟨b, off, cap, h1, _, _⟩
      · obtain ⟨h3, rfl⟩ : l.length = 0 ∧ ca = 0 := by simpa using h1
        left
        have : i = 0 := by omega
        subst this
        simp [sliced]
      · simp at h1
      · simp at h1
    | some a =>
      right; left
      refine ⟨if ca = i then a else a.add (i * 1), ca - i, ?_, rfl⟩
      simp only [sliced, Nat.sub_self]
      split <;> simp
  · obtain ⟨b, o, rfl, c1⟩ := h.some (by omega)
    have hne : ¬ ca = i := by omega
    right; right
    refine ⟨b, o + i, ca - i, ?_, ?_, ?_⟩
    · have hl : ((l.drop i).take (j - i)).length = j - i := by simp; omega
      rw [hl]
      simp [sliced, hne, Addr.add]
    · simp; omega
    · intro q hq
      simp at hq
      have := c1 (i + q) (by omega)
      refine ⟨this.1, ?_⟩
      rw [Nat.add_assoc, this.2]
      simp [show q < j - i by omega]
/-- from a place on -/
theorem slice_from {w : World} {N : Nat} {oa : Option Addr} {n ca : Nat} {l : List (BitVec 8)} (h : Bytes w N (.slice oa n ca) l) (kd : IntKind) (i : Nat) (hi : i ≤ n) :
    ∃ v, (∀ w', (Instr.sliceAt 29 (.slice oa n ca) (some (.int kd (i : Int))) none none).run Tryz.prog w' = .ok v w') ∧ Bytes w N v (l.drop i) := by
  have hn : n = l.length := by obtain ⟨oa', ca', he, _⟩ := h.shape; simp at he; exact he.2.1
  refine ⟨sliced oa i n ca 1, fun w' => ?_, ?_⟩
  · rw [run_sliceAt_slice w' _ _ _ _ _ elemB, run_slice_l w' _ _ _ _ elemB kd (i : Int) (by omega) (by omega), sizeB]
    rfl
  · have := bytes_between h i n hi (Nat.le_refl _)
    rwa [List.take_of_length_le (by simp; omega)] at this
/-- up to a place -/
theorem slice_to {w : World} {N : Nat} {oa : Option Addr} {n ca : Nat} {l : List (BitVec 8)} (h : Bytes w N (.slice oa n ca) l) (kd : IntKind) (j : Nat) (hj : j ≤ n) :
    ∃ v, (∀ w', (Instr.sliceAt 29 (.slice oa n ca) none (some (.int kd (j : Int))) none).run Tryz.prog w' = .ok v w') ∧ Bytes w N v (l.take j) := by
  have hc : n ≤ ca := by obtain ⟨oa', ca', he, hc⟩ := h.shape; simp at he; omega
  refine ⟨sliced oa 0 j ca 1, fun w' => ?_, ?_⟩
  · rw [run_sliceAt_slice w' _ _ _ _ _ elemB, run_slice_h w' _ _ _ _ elemB kd (j : Int) (by omega) (by omega), sizeB]
    rfl
  · have := bytes_between h 0 j (Nat.zero_le _) hj
    simpa using this
end Go.Proofs.YtbjlfhabnjpdmaaGreatDoor
namespace Go.Proofs.YtbjlfhabnjpdmaaGreatDoor
open Go.RowKit

theorem drop_cons (l : List (BitVec 8)) (k : Nat) (h : k < l.length) : l.drop k = l.getD k 0 :: l.drop (k + 1) := by
  rw [List.drop_eq_getElem_cons h]; simp [h]
theorem wrap64 (n : Nat) (h : n < 18446744073709551616) : IntKind.u64.wrap (n : Int) = (n : Int) := by
  simp [IntKind.wrap, IntKind.bits, IntKind.signed]; omega
theorem or_shift (m k : Nat) (x : BitVec 8) (hk : k ≤ 9) (hm : m < 128 ^ k) (h9 : k = 9 → x.toNat ≤ 1) :
    bits .or .u64 (m : Int) (IntKind.u64.wrap (IntKind.u64.wrap (bits .and .u8 (b8 x) 127) * 2 ^ (7 * k))) = ((m + x.toNat % 128 * 128 ^ k : Nat) : Int) ∧ m + x.toNat % 128 * 128 ^ k < 18446744073709551616 := by
  have hx := x.isLt
  have h1 : bits .and .u8 (b8 x) 127 = ((x.toNat % 128 : Nat) : Int) := by
    unfold b8
    rw [show (127 : Int) = ((127 : Nat) : Int) from rfl, u8_and_nat _ _ hx (by omega), nat_mask7]
  have hp : (128 : Nat) ^ k = 2 ^ (7 * k) := by rw [show (128 : Nat) = 2 ^ 7 from rfl, ← Nat.pow_mul]
  have hlt : x.toNat % 128 * 128 ^ k + 128 ^ k ≤ 18446744073709551616 := by
    rw [← Nat.succ_mul]
    by_cases h : k = 9
    · have := h9 h
      subst h
      have h2 : (x.toNat % 128).succ ≤ 2 := by omega
      exact Nat.le_trans (Nat.mul_le_mul_right _ h2) (by decide)
    · have h8 : 128 ^ k ≤ 128 ^ 8 := Nat.pow_le_pow_right (by omega) (by omega)
      exact Nat.le_trans (Nat.mul_le_mul (show (x.toNat % 128).succ ≤ 128 by omega) h8) (by decide)
  have h2 : IntKind.u64.wrap ((x.toNat % 128 : Nat) : Int) = ((x.toNat % 128 : Nat) : Int) := wrap64 _ (by omega)
  have hpos : 0 < 128 ^ k := Nat.pow_pos (by omega)
  have h3 : IntKind.u64.wrap (((x.toNat % 128 : Nat) : Int) * 2 ^ (7 * k)) = ((x.toNat % 128 * 128 ^ k : Nat) : Int) := by
    rw [show ((x.toNat % 128 : Nat) : Int) * 2 ^ (7 * k) = ((x.toNat % 128 * 128 ^ k : Nat) : Int) by rw [hp]; simp]
    exact wrap64 _ (by omega)
  refine ⟨?_, by omega⟩
  rw [h1, h2, h3, u64_or_nat _ _ (by omega) (by omega)]
  have h4 := Nat.two_pow_add_eq_or_of_lt (i := 7 * k) (show m < 2 ^ (7 * k) by rw [← hp]; exact hm) (x.toNat % 128)
  rw [Nat.or_comm, Nat.mul_comm (x.toNat % 128), hp, ← h4, Nat.add_comm]

set_option maxRecDepth 100000 in
set_option maxHeartbeats 2000000 in
theorem cutNumber_any (l : List (BitVec 8)) (sv : Value) (N : Nat) (w : World) (hb : Bytes w N sv l) (hlen : l.length < 2305843009213693952) :
    Calls Tryz.prog 277 #[sv] w fun e w' => (∃ q, w' = w.drewN q) ∧
      ((cutN l = none ∧ e = .returned (.tuple #[.int .u64 0, .slice none 0 0, .bool false])) ∨
       ∃ (m : Nat) (r : List (BitVec 8)) (v : Value), cutN l = some (m, r) ∧ e = .returned (.tuple #[.int .u64 (m : Int), v, .bool true]) ∧ Bytes w N v r) := by
  obtain ⟨oa, ca, rfl, hca⟩ := hb.shape
  have HB := hid hb
  clear hb
  generalize hn : l.length = n at *
  have HN := hid hn
  clear hn
  go_enter Tryz.func277, Tryz.ntmps277
  go_wp2_with fail
  go_loopw [5, 10] (fun y i wr => ∃ k m : Nat, k ≤ n ∧ k ≤ 9 ∧ m < 128 ^ k ∧ y = .int .u64 (m : Int) ∧ i = .int .i64 (k : Int) ∧ wr = w ∧ Hid (cutN l = cutA k m (l.drop k))) (fun _ i _ => n - (intOf i).toNat)
  case atStart => exact ⟨0, 0, by omega, by omega, by simp, rfl, rfl, rfl, rfl⟩
  case round =>
    obtain ⟨k, m, hk, hk9, hm, rfl, rfl, rfl, HC⟩ := hrel
    by_cases hlt : k < n
    · have h1 : Bytes wr N (.slice oa l.length ca) l := by rw [HN.out]; exact HB.out
      obtain ⟨b, o, rfl, c1⟩ := h1.some (by rw [HN.out]; omega)
      have d1 := (c1 k (by rw [HN.out]; exact hlt)).2
      obtain ⟨x, hx⟩ : ∃ x, l.getD k 0 = x := ⟨_, rfl⟩
      rw [hx] at d1
      have HD := hid (show l.drop k = x :: l.drop (k + 1) by rw [← hx]; exact drop_cons l k (by rw [HN.out]; exact hlt))
      obtain ⟨vt, hsl, hvt⟩ := slice_from HB.out .i64 (k + 1) (by omega)
      have HT := hid hvt
      rw [show ((k + 1 : Nat) : Int) = (k : Int) + 1 by omega] at hsl
      clear hvt
      clear h1 c1 hx
      have hlt' : (k : Int) < (n : Int) := by omega
      have hx8 := x.isLt
      have HM := hid hm
      clear hm
      by_cases h9 : k = 9 ∧ 1 < x.toNat
      · obtain ⟨rfl, hx1⟩ := h9
        have e2 : decide ((1 : Int) < b8 x) = true := by unfold b8; simp; omega
        go_wp2_with fail
        go_ret3
        exact ⟨⟨0, rfl⟩, .inl ⟨by rw [HC.out, HD.out, cutA, if_pos ⟨rfl, hx1⟩], rfl⟩⟩
      · obtain ⟨hor0, hm64⟩ := or_shift m k x hk9 HM.out (fun h => by omega)
        obtain ⟨m', hm'⟩ : ∃ m', m + x.toNat % 128 * 128 ^ k = m' := ⟨_, rfl⟩
        rw [hm'] at hor0 hm64
        have HC' := hid (show cutN l = if 128 ≤ x.toNat then cutA (k + 1) m' (l.drop (k + 1)) else if x.toNat = 0 ∧ 0 < k then none else some (m', l.drop (k + 1)) by
          rw [HC.out, HD.out, cutA, if_neg h9, hm'])
        have HM' := hid hm'
        clear hm' HC
        by_cases h7 : 128 ≤ x.toNat
        · have e1 : ((k : Int) == 9) = false := by simp; omega
          have e2 : decide ((128 : Int) ≤ b8 x) = true := by unfold b8; simp; omega
          go_wp2_with fail
          refine ⟨⟨k + 1, m', by omega, by omega, ?_, rfl, by go_num, trivial, ?_⟩, by simp [intOf]; omega⟩
          · have := HM.out
            rw [← HM'.out, Nat.pow_succ]
            have : x.toNat % 128 * 128 ^ k + 128 ^ k ≤ 128 * 128 ^ k := by rw [← Nat.succ_mul]; exact Nat.mul_le_mul_right _ (by omega)
            omega
          · rw [HC'.out, if_pos h7]; exact hid rfl
        · have e2 : decide ((128 : Int) ≤ b8 x) = false := by unfold b8; simp; omega
          by_cases h0 : x.toNat = 0 ∧ 0 < k
          · have e3 : (b8 x == 0) = true := by unfold b8; simp; omega
            have e4 : decide ((0 : Int) < (k : Int)) = true := by simp; omega
            have e5 : decide ((1 : Int) < b8 x) = false := by unfold b8; simp; omega
            go_wp2_with fail
            all_goals go_ret3
            all_goals exact ⟨⟨0, rfl⟩, .inl ⟨by rw [HC'.out, if_neg h7, if_pos h0], rfl⟩⟩
          · have e4 : (b8 x == 0 && decide ((0 : Int) < (k : Int))) = false := by unfold b8; simp; omega
            have hres := hid (show cutN l = some (m', l.drop (k + 1)) by rw [HC'.out, if_neg h7, if_neg h0])
            have hk1 : (k : Int) + 1 ≤ (n : Int) := by omega
            have hkw : IntKind.i64.wrap ((k : Int) + 1) = (k : Int) + 1 := by simp [IntKind.wrap, IntKind.bits, IntKind.signed]; split <;> omega
            by_cases hx0 : x.toNat = 0
            · have e3 : (b8 x == 0) = true := by unfold b8; simp; omega
              have e1 : ((k : Int) == 9) = false := by simp; omega
              have e5 : decide ((0 : Int) < (k : Int)) = false := by simp; omega
              go_wp2_with fail
              refine region_still (by kernel_rfl) (by kernel_rfl) ?_
              repeat still_step
              refine wpStill_nil ?_
              go_wp2
              go_ret3
              exact ⟨⟨1, rfl⟩, .inr ⟨m', _, _, hres.out, rfl, HT.out⟩⟩
            · have e3 : (b8 x == 0) = false := by unfold b8; simp; omega
              by_cases hk9' : k = 9
              · have e5 : decide ((1 : Int) < b8 x) = false := by unfold b8; simp; omega
                have e1 : ((k : Int) == 9) = true := by simp; omega
                clear hk9'
                go_wp2_with fail
                refine region_still (by kernel_rfl) (by kernel_rfl) ?_
                repeat still_step
                refine wpStill_nil ?_
                go_wp2
                go_ret3
                exact ⟨⟨1, rfl⟩, .inr ⟨m', _, _, hres.out, rfl, HT.out⟩⟩
              · have e1 : ((k : Int) == 9) = false := by simp; omega
                go_wp2_with fail
                refine region_still (by kernel_rfl) (by kernel_rfl) ?_
                repeat still_step
                refine wpStill_nil ?_
                go_wp2
                go_ret3
                exact ⟨⟨1, rfl⟩, .inr ⟨m', _, _, hres.out, rfl, HT.out⟩⟩
    · have hge : decide ((k : Int) < (n : Int)) = false := by simp; omega
      go_wp2_with fail
      go_ret3
      exact ⟨⟨0, rfl⟩, .inl ⟨by rw [HC.out, List.drop_eq_nil_of_le (by rw [HN.out]; omega), cutA], rfl⟩⟩
end Go.Proofs.YtbjlfhabnjpdmaaGreatDoor
namespace Go.Proofs.YtbjlfhabnjpdmaaGreatDoor
open Go.RowKit

theorem and_low (k : Nat) (hk : k < 18446744073709551616) : bits .and .u64 (k : Int) 127 = ((k % 128 : Nat) : Int) := by
  rw [show (127 : Int) = ((127 : Nat) : Int) from rfl, u64_and_nat _ _ hk (by omega), nat_mask7]
theorem or_more (k : Nat) (hk : k < 18446744073709551616) : bits .or .u8 (bits .and .u64 (k : Int) 127 % 256) 128 = b8 (BitVec.ofNat 8 (128 + k % 128)) := by
  have h1 : k % 128 < 128 := Nat.mod_lt _ (by omega)
  rw [and_low k hk, show (((k % 128 : Nat) : Int)) % 256 = ((k % 128 : Nat) : Int) by omega, show (128 : Int) = ((128 : Nat) : Int) from rfl, u8_or_nat _ _ (by omega) (by omega), Nat.or_comm]
  have := Nat.two_pow_add_eq_or_of_lt (i := 7) (show k % 128 < 2 ^ 7 by omega) 1
  rw [show (2 : Nat) ^ 7 * 1 = 128 from rfl] at this
  rw [← this]
  unfold b8; simp; omega
set_option maxRecDepth 100000 in
set_option maxHeartbeats 1000000 in
theorem appendNumber_any (n : Nat) (l : List (BitVec 8)) (v : Value) (base : Nat) (w : World) (hn : n < 18446744073709551616) (hb : base ≤ w.heap.size) (hown : OwnB w base v l) (hl : l.length ≤ 1000000) :
    Calls Tryz.prog 232 #[v, .int .u64 (n : Int)] w fun e w' => ∃ v', e = .returned v' ∧ OwnB w' base v' (l ++ numB n) ∧ Below base w w' ∧ Keeps w w' := by
  have HO := hid hown
  clear hown
  go_enter Tryz.func232, Tryz.ntmps232
  go_wp2_with fail
  go_loopw [0, 1] (fun x y wr => ∃ (k : Nat) (m : List (BitVec 8)), y = .int .u64 (k : Int) ∧ k < 18446744073709551616 ∧ Hid (OwnB wr base x m ∧ Below base w wr ∧ l ++ numB n = m ++ numB k ∧ Keeps w wr)) (fun _ y _ => (intOf y).toNat)
  case atStart => exact ⟨n, l, rfl, hn, HO.out, Below.refl _ _, rfl, Keeps.refl _⟩
  case round =>
    obtain ⟨k, m, rfl, hk, HR⟩ := hrel
    have hm : m.length ≤ 1000020 := by
      have h1 := congrArg List.length HR.out.2.2.1
      have h2 := numB_ten n hn
      simp at h1; omega
    have hs : base ≤ wr.heap.size := Nat.le_trans hb HR.out.2.1.size
    by_cases hbig : k < 128
    · have hgt : decide ((127 : Int) < (k : Int)) = false := by simp; omega
      have hy := hid (show (k : Int) = b8 (BitVec.ofNat 8 k) by unfold b8; simp; omega)
      go_wp2_with (at_builtin; refine wpList_append_one rfl (.tmp 16) (.tmp 19) rfl base _ m rfl HR.out.1 _ _ hy.out rfl (by omega) hs ?_; intro v' w1 hown' hbe' hke')
      go_ret
      exact ⟨_, rfl, by rw [HR.out.2.2.1, numB_small hbig]; exact hown', HR.out.2.1.trans hbe', HR.out.2.2.2.trans hke'⟩
    · have hgt : decide ((127 : Int) < (k : Int)) = true := by simp; omega
      have hy : bits .or .u8 (bits .and .u64 (k : Int) 127 % 256) 128 = b8 (BitVec.ofNat 8 (128 + k % 128)) := or_more k hk
      go_wp2_with (at_builtin; refine wpList_append_one rfl (.tmp 7) (.tmp 12) rfl base _ m rfl HR.out.1 _ _ rfl rfl (by omega) hs ?_; intro v' w1 hown' hbe' hke')
      go_roundw
      case rel => exact ⟨k / 128, m ++ [BitVec.ofNat 8 (128 + k % 128)], by go_num, by omega, hown', HR.out.2.1.trans hbe', by rw [HR.out.2.2.1, numB_big (by omega)]; simp, HR.out.2.2.2.trans hke'⟩
      case measure => simp [intOf]; omega
end Go.Proofs.YtbjlfhabnjpdmaaGreatDoor
namespace Go.Proofs.YtbjlfhabnjpdmaaGreatDoor
open Go.RowKit

theorem own_none (w : World) : (w.alloc (.cells #[] 5)).ownsRow w.heap.size 5 1 (.slice (some ⟨w.heap.size, 0, none⟩) 0 0) 0 [] :=
  ⟨rfl, .inr ⟨w.heap.size, 0, #[], rfl, Nat.le_refl _, heap_alloc_new w _, Nat.le_refl _, by simp [maxLen], rfl, rfl⟩⟩
set_option maxRecDepth 100000 in
set_option maxHeartbeats 1000000 in
theorem clone_any (l : List (BitVec 8)) (sv : Value) (N : Nat) (w : World) (hb : Bytes w N sv l) (hN : N ≤ w.heap.size) (hlen : l.length ≤ 140737488355328) :
    Calls Tryz.prog 127 #[sv] w fun e w' => ∃ v, e = .returned v ∧ OwnB w' w.heap.size v l ∧ Below w.heap.size w w' := by
  obtain ⟨oa, ca, rfl, hca⟩ := hb.shape
  have HB := hid hb
  clear hb
  have hnil : ∀ (a : Option Addr) (n c : Nat) (w : World), (binOp .eql 29 (.slice a n c) (.slice none 0 0)).run Tryz.prog w = .ok (.bool a.isNone) w := fun a n c w => by
    simp only [binOp]
    simp [run_equal_slice_nil w _ _ a n c elemB]
  cases oa with
  | none =>
    have h0 : l = [] := by
      rcases HB.out with ⟨_, h⟩ | ⟨_, _, h, _⟩ | ⟨_, _, _, h, _⟩
      · exact h
      · simp at h
      · simp at h
    subst h0
    go_enter Tryz.func127, Tryz.ntmps127
    go_wp2
    go_ret
    have hz : ca = 0 := by
      rcases HB.out with ⟨h, _⟩ | ⟨_, _, h, _⟩ | ⟨_, _, _, h, _⟩
      · simp at h; exact h
      · simp at h
      · simp at h
    subst hz
    exact ⟨_, rfl, OwnB.nil _ _, Below.refl _ _⟩
  | some a =>
    have hbe : Below w.heap.size w (w.alloc (.cells #[] 5)) := (Below.refl _ _).alloc (Nat.le_refl _) _
    have HBE := hid hbe
    have HB' := hid (HB.out.below (hbe.mono hN))
    clear hbe
    have HOW := hid (own_none w)
    go_enter Tryz.func127, Tryz.ntmps127
    go_wp2_with (at_builtin; refine wpList_append_bytes rfl (.tmp 5) (.tmp 6) rfl w.heap.size _ 0 [] rfl HOW.out _ l rfl HB'.out ?_ ?_ ?_; (rw [Nat.zero_add]; exact hlen); exact HBE.out.size; intro v' w1 hown' hbe')
    go_ret
    refine ⟨_, rfl, ?_, HBE.out.trans hbe'⟩
    rw [Nat.zero_add, List.nil_append] at hown'
    unfold OwnB
    exact hown'
theorem Row.three {w : World} {g : Nat} {t : TypeId} {a b c : Value} (h : Row w g t [a, b, c]) :
    w.cell? ⟨g, 0, none⟩ = some a ∧ w.cell? ⟨g, 1, none⟩ = some b ∧ w.cell? ⟨g, 2, none⟩ = some c ∧ w.frozen? ⟨g, 0, none⟩ = false ∧ w.frozen? ⟨g, 1, none⟩ = false ∧ w.frozen? ⟨g, 2, none⟩ = false :=
  ⟨h.cell 0, h.cell 1, h.cell 2, h.frozen 0, h.frozen 1, h.frozen 2⟩
theorem Row.set3 {w : World} {g : Nat} {t : TypeId} {a b c : Value} (h : Row w g t [a, b, c]) (x y z : Value) :
    (((w.setCell ⟨g, 0, none⟩ x).setCell ⟨g, 1, none⟩ y).setCell ⟨g, 2, none⟩ z).cell? ⟨g, 0, none⟩ = some x ∧
    (((w.setCell ⟨g, 0, none⟩ x).setCell ⟨g, 1, none⟩ y).setCell ⟨g, 2, none⟩ z).cell? ⟨g, 1, none⟩ = some y ∧
    (((w.setCell ⟨g, 0, none⟩ x).setCell ⟨g, 1, none⟩ y).setCell ⟨g, 2, none⟩ z).cell? ⟨g, 2, none⟩ = some z :=
  have h3 := ((h.set 0 x).set 1 y).set 2 z
  ⟨h3.cell 0, h3.cell 1, h3.cell 2⟩
theorem below_set3 {B : Nat} {a w : World} (h : Below B a w) {g : Nat} (hg : B ≤ g) (x y z : Value) : Below B a (((w.setCell ⟨g, 0, none⟩ x).setCell ⟨g, 1, none⟩ y).setCell ⟨g, 2, none⟩ z) :=
  ((h.setCell hg _).setCell hg _).setCell hg _
theorem drewN_below (w : World) (n N : Nat) : Below N w (w.drewN n) := ⟨rfl, rfl, rfl, Nat.le_refl _, fun _ _ => rfl⟩
/-- what is read in a world that is no more than the old one, with blocks added, is read in the old one -/
theorem Bytes.above {w w' : World} {N : Nat} {sv : Value} {l : List (BitVec 8)} (h : Bytes w' N sv l) (hg : Below w.heap.size w w') (hN : N ≤ w.heap.size) : Bytes w N sv l := by
  rcases h with h | h | ⟨b, off, cap, h1, h2, h3⟩
  · exact .inl h
  · exact .inr (.inl h)
  · refine .inr (.inr ⟨b, off, cap, h1, h2, fun i hi => ⟨(h3 i hi).1, ?_⟩⟩)
    have hb := (h3 i hi).1
    rw [← (h3 i hi).2]
    exact (hg.cell (show b < w.heap.size by omega)).symm
theorem OwnB.set3 {w : World} {base g : Nat} {v : Value} {l : List (BitVec 8)} (h : OwnB w base v l) (hg : g < base) (x y z : Value) : OwnB (((w.setCell ⟨g, 0, none⟩ x).setCell ⟨g, 1, none⟩ y).setCell ⟨g, 2, none⟩ z) base v l :=
  h.keep fun k hk => by
    rw [heap_setCell_other _ _ _ _ (show k ≠ g by omega), heap_setCell_other _ _ _ _ (show k ≠ g by omega), heap_setCell_other _ _ _ _ (show k ≠ g by omega)]
/-- a piece as a value -/
def pcV (p : Pc) (vb : Value) : Value := .agg #[.int .i64 p.k, .int .u64 (p.n : Int), vb]
theorem cutP_far (x : BitVec 8) (r : List (BitVec 8)) (h : 1 < x.toNat) : cutP (x :: r) = none := by rw [cutP, if_pos h]
theorem cutP_none (x : BitVec 8) (r : List (BitVec 8)) (h : cutN r = none) : cutP (x :: r) = none := by rw [cutP, h]; split <;> rfl
theorem cutP_num (x : BitVec 8) (r r' : List (BitVec 8)) (n : Nat) (h0 : x.toNat = 0) (h : cutN r = some (n, r')) : cutP (x :: r) = some (⟨1, n, []⟩, r') := by rw [cutP, if_neg (by omega), h]; simp [h0]
theorem cutP_bytes (x : BitVec 8) (r r' : List (BitVec 8)) (n : Nat) (h0 : x.toNat = 1) (h : cutN r = some (n, r')) : cutP (x :: r) = if r'.length < n then none else some (⟨2, 0, r'.take n⟩, r'.drop n) := by rw [cutP, if_neg (by omega), h]; simp [h0]

set_option maxRecDepth 100000 in
set_option maxHeartbeats 2000000 in
theorem cutPiece_any (l : List (BitVec 8)) (sv : Value) (N : Nat) (w : World) (hb : Bytes w N sv l) (hN : N ≤ w.heap.size) (hlen : l.length ≤ 140737488355328) :
    Calls Tryz.prog 278 #[sv] w fun e w' => Below w.heap.size w w' ∧
      ((cutP l = none ∧ e = .returned (.tuple #[pcV ⟨0, 0, []⟩ (.slice none 0 0), .slice none 0 0, .bool false])) ∨
       ∃ (p : Pc) (r : List (BitVec 8)) (vb vr : Value), cutP l = some (p, r) ∧ e = .returned (.tuple #[pcV p vb, vr, .bool true]) ∧ OwnB w' w.heap.size vb p.b ∧ Bytes w N vr r) := by
  obtain ⟨oa, ca, rfl, hca⟩ := hb.shape
  obtain ⟨w0, hw0⟩ : ∃ w0, w.alloc (.cells #[.int .i64 0, .int .u64 0, .slice none 0 0] 194) = w0 := ⟨_, rfl⟩
  have hsz0 : w0.heap.size = w.heap.size + 1 := by rw [← hw0]; simp
  have hb0 : Below w.heap.size w w0 := by rw [← hw0]; exact (Below.refl _ _).alloc (Nat.le_refl _) _
  have hrow0 : Row w0 w.heap.size 194 [.int .i64 0, .int .u64 0, .slice none 0 0] := by rw [← hw0]; exact Row.new _ _ _
  have HB := hid hb
  have HB0 := hid hb0
  have HR0 := hid hrow0
  have HW0 := hid hb0
  clear hb hb0 hrow0
  cases l with
  | nil =>
    obtain ⟨c0, c1, c2, z0, z1, z2⟩ := HR0.out.three
    go_enter Tryz.func278, Tryz.ntmps278
    go_wp2
    obtain ⟨d0, d1, d2⟩ := HR0.out.set3 (.int .i64 0) (.int .u64 0) (.slice none 0 0)
    refine bodyPost_ret (v := .tuple #[pcV ⟨0, 0, []⟩ (.slice none 0 0), .slice none 0 0, .bool false]) (by simp [results, Tryz.results278, go_sem, d0, d1, d2, pcV]) rfl ⟨?_, .inl ⟨rfl, rfl⟩⟩
    exact below_set3 HB0.out (Nat.le_refl _) _ _ _
  | cons x l =>
    obtain ⟨b, o, rfl, c1⟩ := HB.out.some (by simp)
    have hx0 : w0.cell? ⟨b, o, none⟩ = some (.int .u8 (b8 x)) := by
      have := c1 0 (by simp)
      rw [HB0.out.cell (by show b < w.heap.size; omega)]
      simpa using this.2
    have hx8 := x.isLt
    obtain ⟨vt, hsl, hvt⟩ := slice_from HB.out .i64 1 (by simp)
    have HVT := hid (show Bytes w N vt l by simpa using hvt)
    generalize hn : (x :: l).length = n at *
    have HN := hid hn
    have hn0 : 0 < n := by rw [← hn]; simp
    have hne : ((n : Int) == 0) = false := by simp; omega
    have hsl1 : ∀ w' : World, (Instr.sliceAt 29 (.slice (some ⟨b, o, none⟩) n ca) (some (.int .i64 1)) none none).run Tryz.prog w' = .ok vt w' := hsl
    clear c1 hvt hn hsl
    by_cases hfar : 1 < x.toNat
    · have e1 : decide ((1 : Int) < b8 x) = true := by unfold b8; simp; omega
      obtain ⟨c0, c1, c2, z0, z1, z2⟩ := HR0.out.three
      go_enter Tryz.func278, Tryz.ntmps278
      go_wp2
      obtain ⟨d0, d1, d2⟩ := HR0.out.set3 (.int .i64 0) (.int .u64 0) (.slice none 0 0)
      refine bodyPost_ret (v := .tuple #[pcV ⟨0, 0, []⟩ (.slice none 0 0), .slice none 0 0, .bool false]) (by simp [results, Tryz.results278, go_sem, d0, d1, d2, pcV]) rfl ⟨?_, .inl ⟨cutP_far x l hfar, rfl⟩⟩
      exact below_set3 HB0.out (Nat.le_refl _) _ _ _
    · have e1 : decide ((1 : Int) < b8 x) = false := by unfold b8; simp; omega
      have HC := hid (cutNumber_any l vt N w0 (HVT.out.below (HB0.out.mono hN)) (by have := HN.out; simp at this; omega))
      go_enter Tryz.func278, Tryz.ntmps278
      go_wp2_with fail
      refine HC.out.mono ?_
      rintro e w1 ⟨⟨q, rfl⟩, ⟨hc, rfl⟩ | ⟨m, r, v, hc, rfl, hv⟩⟩
      · obtain ⟨c0, c1, c2, z0, z1, z2⟩ := (HR0.out.drewN q).three
        go_wp2
        obtain ⟨d0, d1, d2⟩ := (HR0.out.drewN q).set3 (.int .i64 0) (.int .u64 0) (.slice none 0 0)
        refine bodyPost_ret (v := .tuple #[pcV ⟨0, 0, []⟩ (.slice none 0 0), .slice none 0 0, .bool false]) (by simp [results, Tryz.results278, go_sem, d0, d1, d2, pcV]) rfl ⟨?_, .inl ⟨cutP_none x l hc, rfl⟩⟩
        exact below_set3 (HB0.out.trans (drewN_below w0 q _)) (Nat.le_refl _) _ _ _
      · obtain ⟨rfl, hm64⟩ := cutN_some hc
        have HV := hid hv
        have HCN := hid hc
        obtain ⟨ov, cv, rfl, hcv⟩ := hv.shape
        have hxq : (w0.drewN q).cell? ⟨b, o, none⟩ = some (.int .u8 (b8 x)) := hx0
        clear hv hc hx0
        by_cases hx1 : x.toNat = 0
        · have e2 : (b8 x == 0) = true := by unfold b8; simp; omega
          obtain ⟨c0, c1, c2, z0, z1, z2⟩ := (HR0.out.drewN q).three
          go_wp2
          obtain ⟨d0, d1, d2⟩ := (HR0.out.drewN q).set3 (.int .i64 1) (.int .u64 (m : Int)) (.slice none 0 0)
          refine bodyPost_ret (v := .tuple #[pcV ⟨1, m, []⟩ (.slice none 0 0), .slice ov r.length cv, .bool true]) (by simp [results, Tryz.results278, go_sem, d0, d1, d2, pcV]) rfl ⟨?_, .inr ⟨_, r, _, _, cutP_num x _ r m hx1 HCN.out, rfl, OwnB.nil _ _, HV.out.above HB0.out hN⟩⟩
          exact below_set3 (HB0.out.trans (drewN_below w0 q _)) (Nat.le_refl _) _ _ _
        · have e2 : (b8 x == 0) = false := by unfold b8; simp; omega
          have HCP := hid (cutP_bytes x _ r m (by omega) HCN.out)
          have hrl : r.length ≤ 140737488355328 := by have := HN.out; simp at this; omega
          have hwr : IntKind.u64.wrap (r.length : Int) = (r.length : Int) := wrap64 _ (by omega)
          by_cases hgt : r.length < m
          · have e3 : decide ((r.length : Int) < (m : Int)) = true := by simp; omega
            obtain ⟨c0, c1, c2, z0, z1, z2⟩ := (HR0.out.drewN q).three
            go_wp2
            obtain ⟨d0, d1, d2⟩ := (HR0.out.drewN q).set3 (.int .i64 0) (.int .u64 0) (.slice none 0 0)
            refine bodyPost_ret (v := .tuple #[pcV ⟨0, 0, []⟩ (.slice none 0 0), .slice none 0 0, .bool false]) (by simp [results, Tryz.results278, go_sem, d0, d1, d2, pcV]) rfl ⟨?_, .inl ⟨by rw [HCP.out, if_pos hgt], rfl⟩⟩
            exact below_set3 (HB0.out.trans (drewN_below w0 q _)) (Nat.le_refl _) _ _ _
          · have e3 : decide ((r.length : Int) < (m : Int)) = false := by simp; omega
            obtain ⟨v1, hs1, hv1⟩ := slice_to HV.out .u64 m (by omega)
            obtain ⟨v2, hs2, hv2⟩ := slice_from HV.out .u64 m (by omega)
            have HV2 := hid (hv2.above HB0.out hN)
            obtain ⟨t, ht⟩ : ∃ t, r.take m = t := ⟨_, rfl⟩
            rw [ht] at hv1
            have htl : t.length ≤ 140737488355328 := by rw [← ht]; simp; omega
            have HT := hid (show cutP (x :: (numB m ++ r)) = some (⟨2, 0, t⟩, r.drop m) by rw [HCP.out, if_neg hgt, ht])
            clear ht
            have HCL := hid (fun (k : Nat) => clone_any t v1 N (w0.drewN k) (hv1.below (drewN_below _ _ _)) (by show N ≤ w0.heap.size; omega) htl)
            clear hv1 hv2
            go_wp2_with fail
            have HBD : Hid (Below w0.heap.size w0 (w0.drewN (q + 1))) := hid (drewN_below _ _ _)
            go_region_with (go_at_call 127; refine (HCL.out _).mono ?_; rintro e wc ⟨vc, rfl, hvc, hbc⟩; obtain ⟨ovc, cvc, rfl, hcvc⟩ := hvc.shape; have hrow := hid (HR0.out.below ((drewN_below w0 _ _).trans hbc) (Nat.lt_of_lt_of_eq (Nat.lt_succ_self _) hsz0.symm)); have hbc' := (drewN_below w0 _ _).trans hbc; have HBC := hid hbc'; have HVC := hid hvc; obtain ⟨c0, c1, c2, z0, z1, z2⟩ := (HR0.out.below hbc' (Nat.lt_of_lt_of_eq (Nat.lt_succ_self _) hsz0.symm)).three; clear hbc hbc' hvc)
            go_wp2
            obtain ⟨d0, d1, d2⟩ := hrow.out.set3 (.int .i64 2) (.int .u64 0) (.slice ovc t.length cvc)
            refine bodyPost_ret (v := .tuple #[pcV ⟨2, 0, t⟩ (.slice ovc t.length cvc), v2, .bool true]) (by simp [results, Tryz.results278, go_sem, d0, d1, d2, pcV]) rfl ⟨?_, .inr ⟨_, _, _, _, HT.out, rfl, ?_, HV2.out⟩⟩
            · exact below_set3 (HB0.out.trans (HBC.out.mono (show w.heap.size ≤ w0.heap.size by omega))) (Nat.le_refl _) _ _ _
            · refine (OwnB.set3 HVC.out (show w.heap.size < w0.heap.size by omega) _ _ _).mono (show w.heap.size ≤ w0.heap.size by omega)
end Go.Proofs.YtbjlfhabnjpdmaaGreatDoor
namespace Go.Proofs.YtbjlfhabnjpdmaaGreatDoor
open Go.RowKit

/-- sv is a slice that reads as l, nil, empty or neither; its cells, and its pieces' bytes, lie below block number N -/
def Pieces (w : World) (N : Nat) (sv : Value) (l : List Pc) : Prop :=
  (sv = .slice none 0 0 ∧ l = []) ∨ (∃ a cap, sv = .slice (some a) 0 cap ∧ l = []) ∨
  ∃ b off cap, sv = .slice (some ⟨b, off, none⟩) l.length cap ∧ l.length ≤ cap ∧ ∀ i p, l[i]? = some p → b < N ∧ ∃ vb,
    w.cell? ⟨b, off + i * 3, none⟩ = some (.int .i64 p.k) ∧ w.cell? ⟨b, off + i * 3 + 1, none⟩ = some (.int .u64 (p.n : Int)) ∧ w.cell? ⟨b, off + i * 3 + 2, none⟩ = some vb ∧ Bytes w N vb p.b
theorem Pieces.shape {w : World} {N : Nat} {sv : Value} {l : List Pc} (h : Pieces w N sv l) : ∃ oa cap, sv = .slice oa l.length cap ∧ l.length ≤ cap := by
  rcases h with ⟨rfl, rfl⟩ | ⟨a, cap, rfl, rfl⟩ | ⟨b, off, cap, rfl, hc, _⟩
  · exact ⟨none, 0, rfl, Nat.le_refl _⟩
  · exact ⟨_, cap, rfl, Nat.zero_le _⟩
  · exact ⟨_, cap, rfl, hc⟩
theorem Pieces.some {w : World} {N : Nat} {oa : Option Addr} {n cap : Nat} {l : List Pc} (h : Pieces w N (.slice oa n cap) l) (hl : 0 < n) :
    ∃ b off, oa = some ⟨b, off, none⟩ ∧ ∀ i p, l[i]? = some p → b < N ∧ ∃ vb,
    w.cell? ⟨b, off + i * 3, none⟩ = some (.int .i64 p.k) ∧ w.cell? ⟨b, off + i * 3 + 1, none⟩ = some (.int .u64 (p.n : Int)) ∧ w.cell? ⟨b, off + i * 3 + 2, none⟩ = some vb ∧ Bytes w N vb p.b := by
  rcases h with ⟨h1, _⟩ | ⟨_, _, h1, _⟩ | ⟨b, off, c, h1, _, h3⟩
  · simp at h1; omega
  · simp at h1; omega
  · simp at h1
    exact ⟨b, off, h1.1, h3⟩
theorem Pieces.below {w w' : World} {N : Nat} {sv : Value} {l : List Pc} (h : Pieces w N sv l) (hg : Below N w w') : Pieces w' N sv l := by
  rcases h with h | h | ⟨b, off, cap, h1, h2, h3⟩
  · exact .inl h
  · exact .inr (.inl h)
  · refine .inr (.inr ⟨b, off, cap, h1, h2, fun i p hp => ?_⟩)
    obtain ⟨hb, vb, d0, d1, d2, d3⟩ := h3 i p hp
    exact ⟨hb, vb, (hg.cell hb).trans d0, (hg.cell hb).trans d1, (hg.cell hb).trans d2, d3.below hg⟩
theorem Pieces.mono {w : World} {N M : Nat} {sv : Value} {l : List Pc} (h : Pieces w N sv l) (hN : N ≤ M) : Pieces w M sv l := by
  rcases h with h | h | ⟨b, off, cap, h1, h2, h3⟩
  · exact .inl h
  · exact .inr (.inl h)
  · refine .inr (.inr ⟨b, off, cap, h1, h2, fun i p hp => ?_⟩)
    obtain ⟨hb, vb, d0, d1, d2, d3⟩ := h3 i p hp
    exact ⟨Nat.lt_of_lt_of_le hb hN, vb, d0, d1, d2, d3.mono hN⟩
/-- what bounds a piece's parts: a kind of 64 bits, a number of 64 bits, bytes as many as the reach lets -/
def Pc.fits (p : Pc) : Prop := p.ok ∧ p.b.length ≤ 140737488351232
end Go.Proofs.YtbjlfhabnjpdmaaGreatDoor
namespace Go.Proofs.YtbjlfhabnjpdmaaGreatDoor
open Go.RowKit

end Go.Proofs.YtbjlfhabnjpdmaaGreatDoor
namespace Go.Proofs.YtbjlfhabnjpdmaaGreatDoor
open Go.RowKit

end Go.Proofs.YtbjlfhabnjpdmaaGreatDoor
namespace Go.Proofs.YtbjlfhabnjpdmaaGreatDoor
open Go.RowKit

theorem info_piece : (Tryz.prog.info? 194).map (fun i => (i.zero, i.size, i.bytes)) = some (some (.agg #[.int .i64 0, .int .u64 0, .slice none 0 0]), 3, 40) := by kernel_rfl
/-- a piece's cells -/
def pcCells (q : Pc × Value) : List Value := [.int .i64 q.1.k, .int .u64 (q.1.n : Int), q.2]
/-- pieces that a call owns: their row, and each one's bytes -/
def OwnP (w : World) (base : Nat) (v : Value) (ps : List (Pc × Value)) : Prop :=
  w.ownsRow base 194 3 v ps.length (ps.flatMap pcCells) ∧ ∀ q ∈ ps, OwnB w base q.2 q.1.b
theorem OwnP.nil (w : World) (base : Nat) : OwnP w base (.slice none 0 0) [] := ⟨World.ownsRow_nil w base 194 3, fun _ h => by simp at h⟩
theorem ownsRow_below {w w' : World} {base e size n : Nat} {v : Value} {xs : List Value} (h : w.ownsRow base e size v n xs) (hg : Below w.heap.size w w') : w'.ownsRow base e size v n xs := by
  obtain ⟨h1, h2⟩ := h
  refine ⟨h1, ?_⟩
  rcases h2 with h2 | ⟨g, cap, cur, h3, h4, h5, h6⟩
  · exact .inl h2
  · exact .inr ⟨g, cap, cur, h3, h4, (hg.block g (Array.getElem?_eq_some_iff.1 h5).1).trans h5, h6⟩
theorem OwnB.below {w w' : World} {base : Nat} {v : Value} {l : List (BitVec 8)} (h : OwnB w base v l) (hg : Below w.heap.size w w') : OwnB w' base v l := ownsRow_below h hg
theorem OwnP.below {w w' : World} {base : Nat} {v : Value} {ps : List (Pc × Value)} (h : OwnP w base v ps) (hg : Below w.heap.size w w') : OwnP w' base v ps :=
  ⟨ownsRow_below h.1 hg, fun q hq => (h.2 q hq).below hg⟩
theorem OwnP.shape {w : World} {base : Nat} {v : Value} {ps : List (Pc × Value)} (h : OwnP w base v ps) : ∃ oa cap, v = .slice oa ps.length cap ∧ ps.length ≤ cap := by
  obtain ⟨⟨_, h2⟩, _⟩ := h
  rcases h2 with ⟨h3, h4⟩ | ⟨g, cap, cur, h3, _, _, h4, _⟩
  · exact ⟨none, 0, by rw [h4]; exact h3, by omega⟩
  · exact ⟨_, cap, h3, h4⟩
/-- a row of pieces that grows turns no bytes -/
theorem OwnB.grown {w w' : World} {base base' n : Nat} {v vb : Value} {l : List (BitVec 8)} {xs : List Value} (h : OwnB w base vb l) (hv : w.ownsRow base' 194 3 v n xs) (hg : w.grownBy w' v.ownBlock) : OwnB w' base vb l := by
  obtain ⟨h1, h2⟩ := h
  refine ⟨h1, ?_⟩
  rcases h2 with h2 | ⟨g, cap, cur, h3, h4, h5, h6⟩
  · exact .inl h2
  · refine .inr ⟨g, cap, cur, h3, h4, ?_, h6⟩
    rw [hg.block g (Array.getElem?_eq_some_iff.1 h5).1 ?_, h5]
    intro he
    obtain ⟨_, h7⟩ := hv
    rcases h7 with ⟨rfl, _⟩ | ⟨g', c', cur', rfl, _, hg', _⟩
    · simp [Value.ownBlock] at he
    · obtain rfl : g = g' := by simpa [Value.ownBlock] using he
      rw [hg'] at h5
      simp at h5
/-- append of one piece, in a row of its own, onto what is owned -/
theorem wpList_append_piece {ops : Array Oper} {rest : List Oper} {o : Oper} {a : Act} {wr : World} {Q : Exit → Act → World → Prop} (hgd : o.guard = none) (s x : Operand)
    (ho : o.op = .call { callee := .builtin .append, args := #[s, x], argTypes := #[190, 190] })
    (base : Nat) (v : Value) (ps : List (Pc × Value)) (hs : a.eval s = v) (hown : OwnP wr base v ps) (p : Pc) (ob : Option Addr) (cb : Nat) (hp : OwnB wr base (.slice ob p.b.length cb) p.b)
    (hx : a.eval x = .slice (some ⟨wr.heap.size, 0, none⟩) 1 1) (hl : ps.length ≤ 1000000) (hbase : base ≤ wr.heap.size)
    (h : ∀ v' w', OwnP w' base v' (ps ++ [(p, .slice ob p.b.length cb)]) → Below base wr w' → wpList Tryz.prog ops Q rest (a.put o.dst v') w') :
    wpList Tryz.prog ops Q (o :: rest) a (wr.alloc (.cells #[.int .i64 p.k, .int .u64 (p.n : Int), .slice ob p.b.length cb] 194)) := by
  obtain ⟨i0, hi0, hz0, hz1, hz2⟩ := info_parts info_piece
  have hbe : Below wr.heap.size wr (wr.alloc (.cells #[.int .i64 p.k, .int .u64 (p.n : Int), .slice ob p.b.length cb] 194)) := (Below.refl _ _).alloc (Nat.le_refl _) _
  refine wpList_append_own _ hgd s x 190 ho base 194 i0 _ 3 40 Tryz.underlying190 hi0 hz0 hz1 hz2 rfl (by decide) v ps.length (ps.flatMap pcCells) hs (ownsRow_below hown.1 hbe) ⟨wr.heap.size, 0, none⟩ 1 1
    [.int .i64 p.k, .int .u64 (p.n : Int), .slice ob p.b.length cb] hx rfl (cells_new _ _ _) (by simp [Value.oneCell']) (by unfold maxLen; omega) (by omega) (Nat.le_trans hbase hbe.size) ?_
  intro v' w' h1 h2 _
  refine h v' w' ⟨?_, fun q hq => ?_⟩ ((hbe.mono hbase).trans ((Below.refl base _).grown h2 (Nat.le_trans hbase hbe.size) (fun k hk => ((ownsRow_below hown.1 hbe).lt k hk).1)))
  · rw [List.length_append, List.flatMap_append]
    exact h1
  · rcases List.mem_append.1 hq with hq | hq
    · exact ((hown.2 q hq).below hbe).grown (ownsRow_below hown.1 hbe) h2
    · obtain rfl : q = (p, .slice ob p.b.length cb) := by simpa using hq
      exact (hp.below hbe).grown (ownsRow_below hown.1 hbe) h2
theorem flat_get (ps : List (Pc × Value)) : ∀ (i j : Nat) (q : Pc × Value), ps[i]? = some q → j < 3 → (ps.flatMap pcCells)[i * 3 + j]? = (pcCells q)[j]? := by
  induction ps with
  | nil => intro i j q h; simp at h
  | cons a ps ih =>
    intro i j q h hj
    rw [List.flatMap_cons]
    have ha : (pcCells a).length = 3 := rfl
    cases i with
    | zero =>
      obtain rfl : a = q := by simpa using h
      rw [Nat.zero_mul, Nat.zero_add, List.getElem?_append_left (by omega)]
    | succ i =>
      rw [List.getElem?_append_right (by omega), ha, show (i + 1) * 3 + j - 3 = i * 3 + j by omega]
      exact ih i j q (by simpa using h) hj
/-- what is owned reads as pieces -/
theorem OwnP.pieces {w : World} {base : Nat} {v : Value} {ps : List (Pc × Value)} (h : OwnP w base v ps) : Pieces w w.heap.size v (ps.map (·.1)) := by
  obtain ⟨⟨h1, h2⟩, h3⟩ := h
  rcases h2 with ⟨rfl, h0⟩ | ⟨g, cap, cur, rfl, _, hg, hn, _, hc, hx⟩
  · exact .inl ⟨rfl, by rw [List.length_eq_zero_iff.1 h0]; rfl⟩
  · refine .inr (.inr ⟨g, 0, cap, by simp, by simpa using hn, fun i p hp => ?_⟩)
    obtain ⟨q, hq, rfl⟩ : ∃ q, ps[i]? = some q ∧ q.1 = p := by simpa using hp
    refine ⟨(Array.getElem?_eq_some_iff.1 hg).1, q.2, ?_⟩
    have hil : i < ps.length := (List.getElem?_eq_some_iff.1 hq).1
    have cell : ∀ j, j < 3 → w.cell? ⟨g, 0 + i * 3 + j, none⟩ = (pcCells q)[j]? := fun j hj => by
      rw [cell_of_row w g _ cur _ _ hg, ← flat_get ps i j q hq hj, ← hx, List.getElem?_take, if_pos (by omega), Nat.zero_add, Array.getElem?_toList]
    exact ⟨cell 0 (by omega), cell 1 (by omega), cell 2 (by omega), (h3 q (List.mem_of_getElem? hq)).bytes⟩
theorem rdAll_much (b : List (BitVec 8)) (h : 20000 < b.length) : rdAll b = .error 4 := by unfold rdAll; rw [if_pos h]
theorem rdAll_none (b : List (BitVec 8)) (h : ¬ 20000 < b.length) (hc : cutN b = none) : rdAll b = .error 2 := by unfold rdAll; rw [if_neg h, hc]
theorem rdAll_many (b r : List (BitVec 8)) (n : Nat) (h : ¬ 20000 < b.length) (hc : cutN b = some (n, r)) (hn : 200 < n) : rdAll b = .error 2 := by unfold rdAll; rw [if_neg h, hc]; simp only; rw [if_pos hn]
theorem rdAll_go (b r : List (BitVec 8)) (n : Nat) (h : ¬ 20000 < b.length) (hc : cutN b = some (n, r)) (hn : ¬ 200 < n) : rdAll b = match rdGo n [] r with | none => .error 2 | some l => .ok l := by unfold rdAll; rw [if_neg h, hc]; simp only; rw [if_neg hn]; first | done | (cases rdGo n [] r <;> rfl)
theorem rdGo_zero (acc : List Pc) (b : List (BitVec 8)) : rdGo 0 acc b = if b.length = 0 then some acc else none := rfl
theorem rdGo_none (c : Nat) (acc : List Pc) (b : List (BitVec 8)) (hc : 0 < c) (h : cutP b = none) : rdGo c acc b = none := by
  cases c with
  | zero => omega
  | succ c => rw [rdGo, h]
theorem rdGo_step (c d : Nat) (acc : List Pc) (b r : List (BitVec 8)) (p : Pc) (hc : c = d + 1) (h : cutP b = some (p, r)) : rdGo c acc b = rdGo d (acc ++ [p]) r := by
  subst hc
  rw [rdGo, h]

set_option maxRecDepth 100000 in
set_option maxHeartbeats 2000000 in
theorem read_any (b : List (BitVec 8)) (sv : Value) (N : Nat) (w : World) (hb : Bytes w N sv b) (hN : N ≤ w.heap.size) (hlen : b.length ≤ 140737488355328) :
    Calls Tryz.prog 225 #[sv] w fun e w' => Below w.heap.size w w' ∧
      ((∃ m v, rdAll b = .ok m ∧ e = .returned (.tuple #[v, .int .i64 0]) ∧ Pieces w' w'.heap.size v m) ∨
       ∃ c, rdAll b = .error c ∧ e = .returned (.tuple #[.slice none 0 0, .int .i64 c])) := by
  obtain ⟨oa, ca, rfl, hca⟩ := hb.shape
  have HB := hid hb
  clear hb
  generalize hn : b.length = n at *
  have HN := hid hn
  clear hn
  by_cases hmuch : 20000 < n
  · have e1 : decide ((20000 : Int) < (n : Int)) = true := by simp; omega
    go_enter Tryz.func225, Tryz.ntmps225
    go_wp2
    go_ret2
    exact ⟨Below.refl _ _, .inr ⟨4, rdAll_much b (by rw [HN.out]; exact hmuch), rfl⟩⟩
  · have e1 : decide ((20000 : Int) < (n : Int)) = false := by simp; omega
    have HM := hid (show ¬ 20000 < b.length by rw [HN.out]; exact hmuch)
    have HC := hid (cutNumber_any b _ N w HB.out (by rw [HN.out]; omega))
    go_enter Tryz.func225, Tryz.ntmps225
    go_wp2_with fail
    refine HC.out.mono ?_
    rintro e w1 ⟨⟨q, rfl⟩, ⟨hc, rfl⟩ | ⟨c, r, v, hc, rfl, hv⟩⟩
    · go_wp2
      go_ret2
      exact ⟨drewN_below _ _ _, .inr ⟨2, rdAll_none b HM.out hc, rfl⟩⟩
    · have HCN := hid hc
      have HV := hid hv
      have hc64 := (cutN_some hc).2
      have hrl : r.length ≤ 20000 := by have h1 := (cutN_some hc).1; have h2 := HM.out; rw [h1] at h2; simp at h2; omega
      clear hc hv
      by_cases hmany : 200 < c
      · have e2 : decide ((200 : Int) < (c : Int)) = true := by simp; omega
        go_wp2
        go_ret2
        exact ⟨drewN_below _ _ _, .inr ⟨2, rdAll_many b r c HM.out HCN.out hmany, rfl⟩⟩
      · have e2 : decide ((200 : Int) < (c : Int)) = false := by simp; omega
        have HGO := hid (rdAll_go b r c HM.out HCN.out hmany)
        go_wp2_with fail
        go_loopw [5, 7, 25] (fun y z i wr => ∃ (k : Nat) (ps : List (Pc × Value)) (t : List (BitVec 8)), k ≤ c ∧ ps.length = k ∧ t.length ≤ 20000 ∧ i = .int .u64 (k : Int) ∧ Hid (Bytes w N y t ∧ OwnP wr w.heap.size z ps ∧ Below w.heap.size w wr ∧ rdGo c [] r = rdGo (c - k) (ps.map (·.1)) t)) (fun _ _ i _ => c - (intOf i).toNat)
        case atStart => exact ⟨0, [], r, by omega, rfl, hrl, rfl, HV.out, OwnP.nil _ _, drewN_below _ _ _, rfl⟩
        case round =>
          obtain ⟨k, ps, t, hk, hps, ht, rfl, HR⟩ := hrel
          have HPL := hid (show ps.length ≤ 1000000 by omega)
          have HPS := hid hps
          clear hps
          by_cases hlt : k < c
          · obtain ⟨oy, cy, rfl, hcy⟩ := HR.out.1.shape
            obtain ⟨oz, cz, rfl, hcz⟩ := HR.out.2.1.shape
            have hlt' : (k : Int) < (c : Int) := by omega
            have hszr := HR.out.2.2.1.size
            obtain ⟨w1, hw1⟩ : ∃ w1, wr.alloc (.cells #[.int .i64 0, .int .u64 0, .slice none 0 0] 194) = w1 := ⟨_, rfl⟩
            have hsz1 : w1.heap.size = wr.heap.size + 1 := by rw [← hw1]; simp
            have hb1 : Below wr.heap.size wr w1 := by rw [← hw1]; exact (Below.refl _ _).alloc (Nat.le_refl _) _
            have hrow1 : Row w1 wr.heap.size 194 [.int .i64 0, .int .u64 0, .slice none 0 0] := by rw [← hw1]; exact Row.new _ _ _
            have hbw1 : Below w.heap.size w w1 := HR.out.2.2.1.trans (hb1.mono hszr)
            have HCP := hid (cutPiece_any t (.slice oy t.length cy) N w1 (HR.out.1.below (hbw1.mono hN)) (by omega) (by omega))
            have HB1 := hid hb1
            have HR1 := hid hrow1
            have HBW1 := hid hbw1
            have HW1 := hid hw1
            clear hb1 hrow1 hbw1 hw1
            go_wp2_with fail
            rw [HW1.out]
            refine HCP.out.mono ?_
            rintro e w2 ⟨hb2, ⟨hcut, rfl⟩ | ⟨p, t', vb, vr, hcut, rfl, hvb, hvr⟩⟩
            · obtain ⟨c0, c1, c2, z0, z1, z2⟩ := (HR1.out.below hb2 (by omega)).three
              have HB2 := hid hb2
              have HCUT := hid hcut
              unfold pcV
              clear hb2 hcut
              go_wp2
              go_ret2
              refine ⟨?_, .inr ⟨2, ?_, rfl⟩⟩
              · exact below_set3 (HBW1.out.trans (HB2.out.mono (by omega))) hszr _ _ _
              · rw [HGO.out, HR.out.2.2.2, rdGo_none _ _ _ (by omega) HCUT.out]
            · obtain ⟨ob, cb, rfl, hcb⟩ := hvb.shape
              have hrow2 := HR1.out.below hb2 (by omega)
              obtain ⟨c0, c1, c2, z0, z1, z2⟩ := hrow2.three
              obtain ⟨d0, d1, d2⟩ := hrow2.set3 (.int .i64 p.k) (.int .u64 (p.n : Int)) (.slice ob p.b.length cb)
              obtain ⟨w3, hw3⟩ : ∃ w3, ((w2.setCell ⟨wr.heap.size, 0, none⟩ (.int .i64 p.k)).setCell ⟨wr.heap.size, 1, none⟩ (.int .u64 (p.n : Int))).setCell ⟨wr.heap.size, 2, none⟩ (.slice ob p.b.length cb) = w3 := ⟨_, rfl⟩
              have hb3 : Below wr.heap.size wr w3 := by rw [← hw3]; exact below_set3 (HB1.out.trans (hb2.mono (by omega))) (Nat.le_refl _) _ _ _
              have hvb3 : OwnB w3 w.heap.size (.slice ob p.b.length cb) p.b := by rw [← hw3]; exact (hvb.set3 (show wr.heap.size < w1.heap.size by omega) _ _ _).mono (by omega)
              rw [hw3] at d0 d1 d2
              have HB3 := hid (HR.out.2.2.1.trans (hb3.mono hszr))
              have HO3 := hid (HR.out.2.1.below hb3)
              have HVB3 := hid hvb3
              have HVR := hid (hvr.above HBW1.out hN)
              have HCUT := hid hcut
              have HSZ3 := hid (show w.heap.size ≤ w3.heap.size by have := hb3.size; omega)
              unfold pcV
              clear hb2 hb3 hvb3 hvb hvr hcut hrow2
              go_wp2_with (at_builtin; refine wpList_append_piece rfl (.tmp 35) (.tmp 37) rfl w.heap.size _ ps rfl HO3.out p ob cb HVB3.out rfl HPL.out HSZ3.out ?_; intro v' w4 hown4 hb4)
              go_roundw
              case rel =>
                refine ⟨k + 1, ps ++ [(p, .slice ob p.b.length cb)], t', by omega, by simp [HPS.out], ?_, by go_num, HVR.out, hown4, HB3.out.trans hb4, ?_⟩
                · have h1 := congrArg List.length (cutP_some HCUT.out).1
                  simp at h1; omega
                · rw [HR.out.2.2.2, rdGo_step (c - k) (c - (k + 1)) _ t t' p (by omega) HCUT.out]
                  simp
              case measure => simp [intOf]; omega
          · have hge : decide ((k : Int) < (c : Int)) = false := by simp; omega
            obtain ⟨oy, cy, rfl, hcy⟩ := HR.out.1.shape
            have hkc : c - k = 0 := by omega
            have HGO2 := hid (show rdGo c [] r = if t.length = 0 then some (ps.map (·.1)) else none by rw [HR.out.2.2.2, hkc, rdGo_zero])
            by_cases ht0 : t.length = 0
            · have e3 : decide ((0 : Int) < (t.length : Int)) = false := by rw [ht0]; decide
              go_wp2
              go_ret2
              exact ⟨HR.out.2.2.1, .inl ⟨_, _, by rw [HGO.out, HGO2.out, if_pos ht0], rfl, HR.out.2.1.pieces⟩⟩
            · have e3 : decide ((0 : Int) < (t.length : Int)) = true := decide_eq_true (by omega)
              go_wp2
              go_ret2
              exact ⟨HR.out.2.2.1, .inr ⟨2, by rw [HGO.out, HGO2.out, if_neg ht0], rfl⟩⟩
end Go.Proofs.YtbjlfhabnjpdmaaGreatDoor
namespace Go.Proofs.YtbjlfhabnjpdmaaGreatDoor
open Go.RowKit

theorem wrap_sub (n : Nat) (h : n ≤ 1000000) : IntKind.i64.wrap (20000 - (n : Int)) = 20000 - (n : Int) := by simp [IntKind.wrap, IntKind.bits, IntKind.signed]; split <;> omega
set_option maxRecDepth 100000 in
set_option maxHeartbeats 2000000 in
theorem appendPiece_any (p : Pc) (l : List (BitVec 8)) (v vb : Value) (base N : Nat) (w : World) (hb : base ≤ w.heap.size) (hown : OwnB w base v l) (hl : l.length ≤ 20000) (hp : p.ok) (hvb : Bytes w N vb p.b) (hN : N ≤ base) (hpl : p.b.length ≤ 140737488351232) :
    Calls Tryz.prog 233 #[v, pcV p vb] w fun e w' => Below base w w' ∧
      ((¬ (p.k = 1 ∨ p.k = 2) ∧ e = .returned (.tuple #[.slice none 0 0, .int .i64 1])) ∨
       ((p.k = 1 ∨ p.k = 2) ∧ 20000 < (l ++ p.wr).length ∧ e = .returned (.tuple #[.slice none 0 0, .int .i64 4])) ∨
       ((p.k = 1 ∨ p.k = 2) ∧ (l ++ p.wr).length ≤ 20000 ∧ ∃ v', e = .returned (.tuple #[v', .int .i64 0]) ∧ OwnB w' base v' (l ++ p.wr))) := by
  obtain ⟨ob, cb, rfl, hcb⟩ := hvb.shape
  obtain ⟨ov, cv, rfl, hcv⟩ := hown.shape
  obtain ⟨w0, hw0⟩ : ∃ w0, w.alloc (.cells #[.int .i64 p.k, .int .u64 (p.n : Int), .slice ob p.b.length cb] 194) = w0 := ⟨_, rfl⟩
  have hsz0 : w0.heap.size = w.heap.size + 1 := by rw [← hw0]; simp
  have hb0 : Below w.heap.size w w0 := by rw [← hw0]; exact (Below.refl _ _).alloc (Nat.le_refl _) _
  have hrow0 : Row w0 w.heap.size 194 [.int .i64 p.k, .int .u64 (p.n : Int), .slice ob p.b.length cb] := by rw [← hw0]; exact Row.new _ _ _
  obtain ⟨c0, c1, c2, z0, z1, z2⟩ := hrow0.three
  have HO := hid (show OwnB w0 base (.slice ov l.length cv) l by rw [← hw0]; exact hown.alloc _)
  have HVB := hid (hvb.below (hb0.mono (Nat.le_trans hN hb)))
  have HB0 := hid hb0
  have HR0 := hid hrow0
  clear hown hvb hb0 hrow0
  unfold pcV
  by_cases hk1 : p.k = 1
  · have e1 : (p.k == 1) = true := by simp [hk1]
    have HK := hid hk1
    clear hk1
    go_enter Tryz.func233, Tryz.ntmps233
    go_wp2_with fail
    have HA1 := hid (show OwnB (w0.alloc (.cells #[.int .u8 0] 5)).drew base (.slice ov l.length cv) l from HO.out.alloc _)
    have HA2 := hid (show Bytes (w0.alloc (.cells #[.int .u8 0] 5)).drew (w0.heap.size + 1) (.slice (some ⟨w.heap.size + 1, 0, none⟩) 1 1) [0] by rw [← hsz0]; exact (bytes_new w0 [0] 5 (0, 0) 1 (by simp)).drewN 1)
    have HA3 := hid (show l.length + [(0 : BitVec 8)].length ≤ 140737488355328 by simp; omega)
    have HA4 := hid (show base ≤ ((w0.alloc (.cells #[.int .u8 0] 5)).drew).heap.size by show base ≤ (w0.alloc (.cells #[.int .u8 0] 5)).heap.size; simp; omega)
    have HA5 := hid (show Row ((w0.alloc (.cells #[.int .u8 0] 5)).drew) w.heap.size 194 [.int .i64 p.k, .int .u64 (p.n : Int), .slice ob p.b.length cb] from (HR0.out.alloc _))
    obtain ⟨l1, hl1⟩ : ∃ l1, l ++ [0] = l1 := ⟨_, rfl⟩
    obtain ⟨l2, hl2⟩ : ∃ l2, l1 ++ numB p.n = l2 := ⟨_, rfl⟩
    have HL1 := hid hl1
    have HL2 := hid hl2
    have hl1l : l1.length ≤ 1000000 := by rw [← hl1]; simp; omega
    have hl2e : l2 = l ++ p.wr := by rw [← hl2, ← hl1]; simp [Pc.wr, HK.out]
    have hl2l : l2.length ≤ 1000000 := by have := numB_ten p.n hp; rw [← hl2, ← hl1]; simp; omega
    have HE2 := hid hl2e
    have HLL := hid hl1l
    clear hl1 hl2 hl2e hl1l
    go_region_law (first
      | (refine step_append_keep rfl (.tmp 11) (.tmp 12) rfl base (.slice ov l.length cv) l ?_ HA1.out (.slice (some ⟨w.heap.size + 1, 0, none⟩) 1 1) [0] ?_ HA2.out HA3.out HA4.out ?_; rfl; rfl; intro v1 w1 hown1 hbe1 hke1; rw [HL1.out] at hown1; obtain ⟨o1, k1, rfl, hk1⟩ := hown1.shape; have HR1 := hid (hke1.row HA5.out (by decide)); have c1' := HR1.out.cell 1; have HO1 := hid hown1; have HBE1 := hid hbe1; have HKE1 := hid hke1; clear hown1 hbe1 hke1)
      | (go_simp; go_at_call 232; refine (appendNumber_any p.n l1 (.slice o1 l1.length k1) base w1 hp (Nat.le_trans HA4.out HBE1.out.size) HO1.out HLL.out).mono ?_; rintro e w2 ⟨v2, rfl, hown2, hbe2, hke2⟩; rw [HL2.out] at hown2; obtain ⟨o2, k2, rfl, hk2⟩ := hown2.shape; have HO2 := hid hown2; have HBE2 := hid (HBE1.out.trans hbe2); have HKE2 := hid (HKE1.out.trans hke2); clear hown2 hbe2 hke2))
    all_goals
      have hws := wrap_sub l2.length hl2l
      have HBZ := hid ((HB0.out.mono hb).trans ((((Below.refl base w0).alloc (show base ≤ w0.heap.size by omega) (.cells #[.int .u8 0] 5)).drew).trans HBE2.out))
      by_cases hbig : 20000 < l2.length
      · have e3 : decide ((20000 : Int) - (l2.length : Int) < 0) = true := by simp; omega
        go_wp2
        go_ret2
        exact ⟨HBZ.out, .inr (.inl ⟨.inl HK.out, by rw [← HE2.out]; exact hbig, rfl⟩)⟩
      · have e3 : decide ((20000 : Int) - (l2.length : Int) < 0) = false := by simp; omega
        have HF1 := hid (show l2.length + ([] : List (BitVec 8)).length ≤ 140737488355328 by simp; omega)
        have HF2 := hid (show base ≤ w2.heap.size from Nat.le_trans hb HBZ.out.size)
        go_wp2_with (at_builtin; refine wpList_append_keep rfl (.tmp 35) (.tmp 36) rfl base _ l2 rfl HO2.out _ [] rfl (N := 0) (.inl ⟨rfl, rfl⟩) HF1.out HF2.out ?_; intro v3 w3 hown3 hbe3 hke3)
        go_ret2
        exact ⟨HBZ.out.trans hbe3, .inr (.inr ⟨.inl HK.out, by rw [← HE2.out]; omega, _, rfl, by rw [← HE2.out]; simpa using hown3⟩)⟩
  · have e1 : (p.k == 1) = false := by simp [hk1]
    have HK1 := hid hk1
    clear hk1
    by_cases hk2 : p.k = 2
    · have e2 : (p.k == 2) = true := by simp [hk2]
      have HK := hid hk2
      clear hk2
      have hwb : IntKind.u64.wrap (p.b.length : Int) = (p.b.length : Int) := wrap64 _ (by omega)
      go_enter Tryz.func233, Tryz.ntmps233
      go_wp2_with fail
      have HA1 := hid (show OwnB (w0.alloc (.cells #[.int .u8 1] 5)).drew base (.slice ov l.length cv) l from HO.out.alloc _)
      have HA2 := hid (show Bytes (w0.alloc (.cells #[.int .u8 1] 5)).drew (w0.heap.size + 1) (.slice (some ⟨w.heap.size + 1, 0, none⟩) 1 1) [1] by rw [← hsz0]; exact (bytes_new w0 [1] 5 (0, 0) 1 (by simp)).drewN 1)
      have HA3 := hid (show l.length + [(1 : BitVec 8)].length ≤ 140737488355328 by simp; omega)
      have HA4 := hid (show base ≤ ((w0.alloc (.cells #[.int .u8 1] 5)).drew).heap.size by show base ≤ (w0.alloc (.cells #[.int .u8 1] 5)).heap.size; simp; omega)
      have HA5 := hid (show Row ((w0.alloc (.cells #[.int .u8 1] 5)).drew) w.heap.size 194 [.int .i64 p.k, .int .u64 (p.n : Int), .slice ob p.b.length cb] from (HR0.out.alloc _))
      obtain ⟨l1, hl1⟩ : ∃ l1, l ++ [1] = l1 := ⟨_, rfl⟩
      obtain ⟨l2, hl2⟩ : ∃ l2, l1 ++ numB p.b.length = l2 := ⟨_, rfl⟩
      have HL1 := hid hl1
      have HL2 := hid hl2
      have hl1l : l1.length ≤ 1000000 := by rw [← hl1]; simp; omega
      have hl2e : l2 ++ p.b = l ++ p.wr := by rw [← hl2, ← hl1]; simp [Pc.wr, HK.out]
      have hl2l : l2.length ≤ 1000000 := by have := numB_ten p.b.length (by omega); rw [← hl2, ← hl1]; simp; omega
      have HE2 := hid hl2e
      have HLL := hid hl1l
      have HPB := hid (show p.b.length < 18446744073709551616 by omega)
      clear hl1 hl2 hl2e hl1l
      go_region_law (first
        | (refine step_append_keep rfl (.tmp 19) (.tmp 20) rfl base (.slice ov l.length cv) l ?_ HA1.out (.slice (some ⟨w.heap.size + 1, 0, none⟩) 1 1) [1] ?_ HA2.out HA3.out HA4.out ?_; rfl; rfl; intro v1 w1 hown1 hbe1 hke1; rw [HL1.out] at hown1; obtain ⟨o1, k1, rfl, hk1⟩ := hown1.shape; have HR1 := hid (hke1.row HA5.out (by decide)); have c2' := HR1.out.cell 2; have HO1 := hid hown1; have HBE1 := hid hbe1; have HKE1 := hid hke1; clear hown1 hbe1 hke1)
        | (go_simp; go_at_call 232; refine (appendNumber_any p.b.length l1 (.slice o1 l1.length k1) base w1 HPB.out (Nat.le_trans HA4.out HBE1.out.size) HO1.out HLL.out).mono ?_; rintro e w2 ⟨v2, rfl, hown2, hbe2, hke2⟩; rw [HL2.out] at hown2; obtain ⟨o2, k2, rfl, hk2⟩ := hown2.shape; have HO2 := hid hown2; have HBE2 := hid (HBE1.out.trans hbe2); have HR2 := hid (hke2.row HR1.out (by decide)); have c2'' := HR2.out.cell 2; clear hown2 hbe2 hke2))
      all_goals
        have hws := wrap_sub l2.length hl2l
        have HBZ0 := hid (((Below.refl base w0).alloc (show base ≤ w0.heap.size by omega) (.cells #[.int .u8 1] 5)).drew.trans HBE2.out)
        have HBZ := hid ((HB0.out.mono hb).trans HBZ0.out)
        have HVB2 := hid (HVB.out.below (HBZ0.out.mono hN))
        by_cases hbig : 20000 < l2.length + p.b.length
        · have e3 : decide ((20000 : Int) - (l2.length : Int) < (p.b.length : Int)) = true := by simp; omega
          go_wp2
          go_ret2
          exact ⟨HBZ.out, .inr (.inl ⟨.inr HK.out, by rw [← HE2.out, List.length_append]; exact hbig, rfl⟩)⟩
        · have e3 : decide ((20000 : Int) - (l2.length : Int) < (p.b.length : Int)) = false := by simp; omega
          have HF1 := hid (show l2.length + p.b.length ≤ 140737488355328 by omega)
          have HF2 := hid (show base ≤ w2.heap.size from Nat.le_trans hb HBZ.out.size)
          go_wp2_with (at_builtin; refine wpList_append_keep rfl (.tmp 35) (.tmp 36) rfl base _ l2 rfl HO2.out _ p.b rfl HVB2.out HF1.out HF2.out ?_; intro v3 w3 hown3 hbe3 hke3)
          go_ret2
          exact ⟨HBZ.out.trans hbe3, .inr (.inr ⟨.inr HK.out, by rw [← HE2.out, List.length_append]; omega, _, rfl, by rw [← HE2.out]; exact hown3⟩)⟩
    · have e2 : (p.k == 2) = false := by simp [hk2]
      have HK2 := hid hk2
      clear hk2
      go_enter Tryz.func233, Tryz.ntmps233
      go_wp2
      go_ret2
      exact ⟨HB0.out.mono hb, .inl ⟨by rintro (h | h); exact HK1.out h; exact HK2.out h, rfl⟩⟩
end Go.Proofs.YtbjlfhabnjpdmaaGreatDoor
namespace Go.Proofs.YtbjlfhabnjpdmaaGreatDoor
open Go.RowKit

theorem wrGo_cons (k : Nat) (m : List (BitVec 8)) (l : List Pc) (p : Pc) (h : l[k]? = some p) : wrGo k m (l.drop k) =
    if p.k ≠ 1 ∧ p.k ≠ 2 then .error (1, k) else if 20000 < (m ++ p.wr).length then .error (4, k) else wrGo (k + 1) (m ++ p.wr) (l.drop (k + 1)) := by
  obtain ⟨hk, he⟩ := List.getElem?_eq_some_iff.1 h
  rw [List.drop_eq_getElem_cons hk, wrGo, he]
theorem OwnB.set2 {w : World} {base g : Nat} {v : Value} {l : List (BitVec 8)} (h : OwnB w base v l) (hg : g < base) (x y : Value) : OwnB ((w.setCell ⟨g, 0, none⟩ x).setCell ⟨g, 1, none⟩ y) base v l :=
  h.keep fun k hk => by rw [heap_setCell_other _ _ _ _ (show k ≠ g by omega), heap_setCell_other _ _ _ _ (show k ≠ g by omega)]

set_option maxRecDepth 100000 in
set_option maxHeartbeats 2000000 in
theorem write_any (l : List Pc) (sv : Value) (N : Nat) (w : World) (hb : Pieces w N sv l) (hN : N ≤ w.heap.size) (hlen : l.length < 2305843009213693952) (hfit : ∀ p ∈ l, p.fits) :
    Calls Tryz.prog 180 #[sv] w fun e w' => Below w.heap.size w w' ∧
      ((∃ x v, wrAll l = .ok x ∧ e = .returned (.tuple #[v, okV]) ∧ OwnB w' w.heap.size v x) ∨
       ∃ c i, wrAll l = .error (c, i) ∧ e = .returned (.tuple #[.slice none 0 0, faultV c i])) := by
  obtain ⟨oa, ca, rfl, hca⟩ := hb.shape
  obtain ⟨w0, hw0⟩ : ∃ w0, w.alloc (.cells #[.int .i64 0, .int .i64 0] 221) = w0 := ⟨_, rfl⟩
  have hsz0 : w0.heap.size = w.heap.size + 1 := by rw [← hw0]; simp
  have hb0 : Below w.heap.size w w0 := by rw [← hw0]; exact (Below.refl _ _).alloc (Nat.le_refl _) _
  have hrow0 : Row w0 w.heap.size 221 [.int .i64 0, .int .i64 0] := by rw [← hw0]; exact Row.new _ _ _
  have HB := hid (hb.below (hb0.mono hN))
  have HB0 := hid hb0
  have HR0 := hid hrow0
  have HFIT := hid hfit
  clear hb hb0 hrow0 hfit
  generalize hn : l.length = n at *
  have HN := hid hn
  clear hn
  by_cases hmany : 200 < n
  · have e1 : decide ((200 : Int) < (n : Int)) = true := by simp; omega
    obtain ⟨c0, c1, z0, z1⟩ := HR0.out.two
    go_enter Tryz.func180, Tryz.ntmps180
    go_wp2
    obtain ⟨d0, d1⟩ := HR0.out.set2 (.int .i64 5) (.int .i64 0)
    refine bodyPost_ret (v := .tuple #[.slice none 0 0, faultV 5 0]) (by simp [results, Tryz.results180, go_sem, d0, d1, faultV]) rfl ⟨?_, .inr ⟨5, 0, by unfold wrAll; rw [HN.out, if_pos hmany], rfl⟩⟩
    exact below_set2 HB0.out (Nat.le_refl _) _ _
  · have e1 : decide ((200 : Int) < (n : Int)) = false := by simp; omega
    have hwn : IntKind.u64.wrap (n : Int) = (n : Int) := wrap64 _ (by omega)
    have HAN := hid (appendNumber_any n [] (.slice none 0 0) w0.heap.size w0 (by omega) (Nat.le_refl _) (OwnB.nil _ _) (by simp))
    go_enter Tryz.func180, Tryz.ntmps180
    go_wp2_with fail
    refine HAN.out.mono ?_
    rintro e w1 ⟨v1, rfl, hown1, hb1, _⟩
    have HS := hid (show OwnB w1 w0.heap.size v1 (numB n) ∧ Below w0.heap.size w0 w1 from ⟨hown1, hb1⟩)
    clear hown1 hb1 HAN hw0
    go_wp2_with fail
    go_loopw [4, 18] (fun y i wr => ∃ (k : Nat) (m : List (BitVec 8)), k ≤ n ∧ m.length ≤ 20000 ∧ i = .int .i64 (k : Int) ∧ Hid (OwnB wr w0.heap.size y m ∧ Below w0.heap.size w0 wr ∧ wrAll l = wrGo k m (l.drop k))) (fun _ i _ => n - (intOf i).toNat)
    case atStart => exact ⟨0, numB n, by omega, by have := numB_ten n (by omega); omega, rfl, HS.out.1, HS.out.2, by unfold wrAll; rw [HN.out, if_neg hmany]; rfl⟩
    case round =>
      obtain ⟨k, m, hk, hm, rfl, HR⟩ := hrel
      obtain ⟨oy, cy, rfl, hcy⟩ := HR.out.1.shape
      by_cases hlt : k < n
      · obtain ⟨p, hp⟩ : ∃ p, l[k]? = some p := ⟨l[k]'(by rw [HN.out]; exact hlt), List.getElem?_eq_getElem _⟩
        obtain ⟨b, o, rfl, hcells⟩ := HB.out.some (by omega)
        obtain ⟨hbN, vb, d0, d1, d2, hvb⟩ := hcells k p hp
        obtain ⟨ob, cb, rfl, hcb⟩ := hvb.shape
        have hbl : b < w0.heap.size := by omega
        have f0 := (HR.out.2.1.cell (p := ⟨b, o + k * 3, none⟩) hbl).trans d0
        have f1 := (HR.out.2.1.cell (p := ⟨b, o + k * 3 + 1, none⟩) hbl).trans d1
        have f2 := (HR.out.2.1.cell (p := ⟨b, o + k * 3 + 2, none⟩) hbl).trans d2
        have hszr := HR.out.2.1.size
        have hfp := HFIT.out p (List.mem_of_getElem? hp)
        have HVB := hid (hvb.below (HR.out.2.1.mono (show N ≤ w0.heap.size by omega)))
        have HWG := hid (wrGo_cons k m l p hp)
        obtain ⟨w2, hw2⟩ : ∃ w2, wr.alloc (.cells #[.int .i64 p.k, .int .u64 (p.n : Int), .slice ob p.b.length cb] 194) = w2 := ⟨_, rfl⟩
        have hb2 : Below w0.heap.size wr w2 := by rw [← hw2]; exact (Below.refl _ _).alloc hszr _
        have hown2 : OwnB w2 w0.heap.size (.slice oy m.length cy) m := by rw [← hw2]; exact HR.out.1.alloc _
        have HAP := hid (appendPiece_any p m (.slice oy m.length cy) (.slice ob p.b.length cb) w0.heap.size N w2 (Nat.le_trans hszr hb2.size) hown2 hm hfp.1 (HVB.out.below (hb2.mono (by omega))) (by omega) hfp.2)
        have HB2 := hid (HR.out.2.1.trans hb2)
        have HW2 := hid hw2
        unfold pcV at HAP
        clear d0 d1 d2 hvb hcells hb2 hown2 hfp hp hw2
        have hlt' : (k : Int) < (n : Int) := by omega
        go_wp2_with fail
        rw [HW2.out]
        refine HAP.out.mono ?_
        rintro e w3 ⟨hb3, ⟨hkk, rfl⟩ | ⟨hkk, hbig, rfl⟩ | ⟨hkk, hsm, v', rfl, hown3⟩⟩
        · have HB3 := hid (HB2.out.trans hb3)
          have HR3 := hid (HR0.out.below HB3.out (by omega))
          obtain ⟨c0, c1, z0, z1⟩ := HR3.out.two
          go_wp2
          obtain ⟨d0, d1⟩ := HR3.out.set2 (.int .i64 1) (.int .i64 (k : Int))
          refine bodyPost_ret (v := .tuple #[.slice none 0 0, faultV 1 k]) (by simp [results, Tryz.results180, go_sem, d0, d1, faultV]) rfl ⟨?_, .inr ⟨1, k, by rw [HR.out.2.2, HWG.out, if_pos (by omega)], rfl⟩⟩
          exact below_set2 (HB0.out.trans (HB3.out.mono (by omega))) (Nat.le_refl _) _ _
        · have HB3 := hid (HB2.out.trans hb3)
          have HR3 := hid (HR0.out.below HB3.out (by omega))
          obtain ⟨c0, c1, z0, z1⟩ := HR3.out.two
          have HBIG := hid hbig
          clear hbig
          go_wp2
          obtain ⟨d0, d1⟩ := HR3.out.set2 (.int .i64 4) (.int .i64 (k : Int))
          refine bodyPost_ret (v := .tuple #[.slice none 0 0, faultV 4 k]) (by simp [results, Tryz.results180, go_sem, d0, d1, faultV]) rfl ⟨?_, .inr ⟨4, k, by rw [HR.out.2.2, HWG.out, if_neg (by omega), if_pos HBIG.out], rfl⟩⟩
          exact below_set2 (HB0.out.trans (HB3.out.mono (by omega))) (Nat.le_refl _) _ _
        · have HB3 := hid (HB2.out.trans hb3)
          have HO3 := hid hown3
          have HSM := hid hsm
          clear hown3 hb3 hsm
          go_wp2_with fail
          refine ⟨⟨k + 1, m ++ p.wr, by omega, HSM.out, by go_num, HO3.out, HB3.out, ?_⟩, by simp [intOf]; omega⟩
          rw [HR.out.2.2, HWG.out, if_neg (by omega), if_neg (by have := HSM.out; omega)]
      · have hge : decide ((k : Int) < (n : Int)) = false := by simp; omega
        have HR3 := hid (HR0.out.below HR.out.2.1 (by omega))
        obtain ⟨c0, c1, z0, z1⟩ := HR3.out.two
        go_wp2
        obtain ⟨d0, d1⟩ := HR3.out.set2 (.int .i64 0) (.int .i64 0)
        refine bodyPost_ret (v := .tuple #[.slice oy m.length cy, okV]) (by simp [results, Tryz.results180, go_sem, d0, d1, okV]) rfl ⟨?_, .inl ⟨m, _, by rw [HR.out.2.2, List.drop_eq_nil_of_le (by rw [HN.out]; omega), wrGo], rfl, ?_⟩⟩
        · exact below_set2 (HB0.out.trans (HR.out.2.1.mono (by omega))) (Nat.le_refl _) _ _
        · exact (OwnB.set2 HR.out.1 (show w.heap.size < w0.heap.size by omega) _ _).mono (by omega)
end Go.Proofs.YtbjlfhabnjpdmaaGreatDoor
namespace Go.Proofs.YtbjlfhabnjpdmaaGreatDoor
open Go.RowKit

end Go.Proofs.YtbjlfhabnjpdmaaGreatDoor
