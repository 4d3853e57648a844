/-
  Laws and plain facts for the document's Sum: the two tables of roots, the message's padding, four bytes as a word.
-/
import Derived.Test.YtedjmhiocmefiaaDoorRefPrimes
import Derived.Test.YtedjmhiocmefiaaDoorRegionQ
import Derived.Test.YtedjmhiocmefiaaDoorAppendB
import Derived.Test.YtedjmhiocmefiaaDoorShaAbs
import Derived.Deep.AppendLies
namespace Go.Proofs.YtedjmhiocmefiaaDoor
open Go.RowKit
theorem info_u32 : (Tryd.prog.info? 40).map (fun i => (i.zero, i.size, i.bytes)) = some (some (.int .u32 0), 1, 4) := by kernel_rfl
def kTo (t : Nat) : List (BitVec 32) := ((primesTo 310).take t).map fun p => rootWord p false
def hTo (t : Nat) : List (BitVec 32) := ((primesTo 310).take t).map fun p => rootWord p true
theorem kTo_all : kTo 64 = kTab := by decide +kernel
theorem hTo_all : hTo 8 = hTab.list := by decide +kernel
theorem kTo_succ (t : Nat) (h : t < 64) : kTo (t + 1) = kTo t ++ [rootWord ((primesTo 310).getD t 0) false] := by
  have hl : t < (primesTo 310).length := by rw [primes_310]; exact h
  have e : (primesTo 310).getD t 0 = (primesTo 310)[t] := by simp [hl]
  unfold kTo
  rw [List.take_succ_eq_append_getElem hl, e, List.map_append]
  rfl
theorem hTo_succ (t : Nat) (h : t < 64) : hTo (t + 1) = hTo t ++ [rootWord ((primesTo 310).getD t 0) true] := by
  have hl : t < (primesTo 310).length := by rw [primes_310]; exact h
  have e : (primesTo 310).getD t 0 = (primesTo 310)[t] := by simp [hl]
  unfold hTo
  rw [List.take_succ_eq_append_getElem hl, e, List.map_append]
  rfl
theorem prime_lt (t : Nat) (h : t < 64) : (primesTo 310).getD t 0 < 4294967296 := by
  have hl : t < (primesTo 310).length := by rw [primes_310]; exact h
  have := primesTo_mem 310 ((primesTo 310).getD t 0) (by simp [hl])
  omega
/-- two values that own no block in common -/
def Apart (v v' : Value) : Prop := ∀ g, v.ownBlock = some g → v'.ownBlock ≠ some g
theorem apart_nil (v : Value) : Apart (.slice none 0 0) v := fun g h => by cases h
theorem Apart.ne {v v' : Value} (h : Apart v v') : v.ownBlock = none ∨ v.ownBlock ≠ v'.ownBlock := by
  cases hv : v.ownBlock with
  | none => exact .inl rfl
  | some g => exact .inr (fun e => h g hv e.symm)
theorem Apart.symm {v v' : Value} (h : Apart v v') : Apart v' v := fun g h1 h2 => h g h2 h1
/-- behind an append to v: the old row or a new block -/
theorem Apart.app {v v' : Value} {g n cap H : Nat} (h : Apart v v') (hat : v.ownBlock = some g ∨ g = H) (hv : ∀ k, v'.ownBlock = some k → k < H) : Apart (.slice (some ⟨g, 0, none⟩) n cap) v' := by
  intro k hk h2
  have : g = k := Option.some.inj hk
  subst this
  rcases hat with h3 | h3
  · exact h g h3 h2
  · have := hv g h2; omega
theorem below_app {B : Nat} {a w w' : World} {v : Value} {e n : Nat} {xs : List Value} (h : Below B a w) (hB : B ≤ w.heap.size) (ho : w.ownsRow B e 1 v n xs) (o : Obj) (hg : (w.alloc o).grownBy w' v.ownBlock) : Below B a w' :=
  (h.alloc hB o).grown hg (by simp; omega) (fun k hk => (ho.lt k hk).1)

/-- the message, r of the size's bytes written -/
def padTo (l : List (BitVec 8)) (z r : Nat) : List (BitVec 8) := l ++ [128] ++ List.replicate z 0 ++ (be8 (8 * l.length)).take r
theorem padTo_zero (l : List (BitVec 8)) (z : Nat) : padTo l (z + 1) 0 = padTo l z 0 ++ [0] := by
  simp [padTo, List.replicate_succ']
theorem padTo_length (l : List (BitVec 8)) (z r : Nat) (h : r ≤ 8) : (padTo l z r).length = l.length + 1 + z + r := by
  simp [padTo, be8]; omega
theorem padTo_size (l : List (BitVec 8)) (z r : Nat) (h : r < 8) : padTo l z (r + 1) = padTo l z r ++ [BitVec.ofNat 8 (8 * l.length / 2 ^ (8 * (7 - r)))] := by
  unfold padTo
  have hl : r < (be8 (8 * l.length)).length := by simp [be8]; omega
  have hb := be8_at (8 * l.length) r h
  rw [List.getElem?_eq_getElem hl] at hb
  rw [List.take_succ_eq_append_getElem hl, Option.some.inj hb]
  simp
theorem padTo_all (l : List (BitVec 8)) : padTo l (zeros l.length) 8 = padded l := by
  simp [padTo, padded, be8]
theorem pad_more (n z : Nat) (h : z < zeros n) : (((n + 1 + z : Nat) : Int) % 64 != 56) = true := by
  unfold zeros at h; rw [bne_iff_ne]; omega
theorem pad_done (n : Nat) : (((n + 1 + zeros n : Nat) : Int) % 64 != 56) = false := by
  unfold zeros; rw [bne_eq_false_iff_eq]; omega

/-- r of four bytes, the high one first -/
def fold4 (b : List (BitVec 8)) (i : Nat) : Nat → BitVec 32
  | 0 => 0
  | r + 1 => fold4 b i r * 256 + (b.getD (4 * i + r) 0).setWidth 32
theorem u_mul256 (x : BitVec 32) : IntKind.u32.wrap (u x * (256 : Int)) = u (x * 256) := by
  unfold u
  have e : (x.toNat : Int) * (256 : Int) = ((x.toNat * 256 : Nat) : Int) := by simp
  rw [e, wrap_nat32]
  simp
theorem fold4_be4 (b : List (BitVec 8)) (i : Nat) : fold4 b i 4 = be4 (b.getD (4 * i) 0) (b.getD (4 * i + 1) 0) (b.getD (4 * i + 2) 0) (b.getD (4 * i + 3) 0) := by
  unfold fold4 fold4 fold4 fold4 fold4 be4
  generalize b.getD (4 * i) 0 = p
  generalize b.getD (4 * i + 1) 0 = q
  generalize b.getD (4 * i + 2) 0 = r
  generalize b.getD (4 * i + 3) 0 = s
  have hp := p.isLt
  have hq := q.isLt
  have hr := r.isLt
  have hs := s.isLt
  apply BitVec.eq_of_toNat_eq
  have e1 : (p.setWidth 32 <<< 24).toNat = p.toNat * 16777216 := by
    rw [BitVec.toNat_shiftLeft, BitVec.toNat_setWidth, Nat.shiftLeft_eq]; omega
  have e2 : (q.setWidth 32 <<< 16).toNat = q.toNat * 65536 := by
    rw [BitVec.toNat_shiftLeft, BitVec.toNat_setWidth, Nat.shiftLeft_eq]; omega
  have e3 : (r.setWidth 32 <<< 8).toNat = r.toNat * 256 := by
    rw [BitVec.toNat_shiftLeft, BitVec.toNat_setWidth, Nat.shiftLeft_eq]; omega
  have e4 : (s.setWidth 32).toNat = s.toNat := by rw [BitVec.toNat_setWidth]; omega
  rw [BitVec.toNat_or, BitVec.toNat_or, BitVec.toNat_or, e1, e2, e3, e4]
  rw [nat_join 24 (p.toNat * 16777216) (q.toNat * 65536) (by omega) (by omega), nat_join 16 (p.toNat * 16777216 + q.toNat * 65536) (r.toNat * 256) (by omega) (by omega),
    nat_join 8 (p.toNat * 16777216 + q.toNat * 65536 + r.toNat * 256) s.toNat (by omega) (by omega)]
  simp
  omega
theorem chs_or (e f g : BitVec 32) : (f &&& e) ||| (g &&& ~~~e) = chs e f g := by
  unfold chs
  ext i
  simp
  cases e[i] <;> cases f[i] <;> cases g[i] <;> rfl
theorem maj_or (a b c : BitVec 32) : ((a &&& b) ||| (a &&& c)) ||| (b &&& c) = maj a b c := by
  unfold maj
  ext i
  simp
  cases a[i] <;> cases b[i] <;> cases c[i] <;> rfl
theorem turn_q (x : BitVec 32) (n : Nat) (z : Int) (hz : z = (n : Int)) (hn : n < 32) (h0 : 0 < n) (w : World) (k : Nat) :
    Calls Tryd.prog 27 #[.int .u32 (u x), .int .i64 z] (w.drewN k) fun e w' => e = .returned (.int .u32 (u (rotr x n))) ∧ ∃ m, w' = w.drewN m := by
  rw [hz]
  exact Calls.quiet_of ((turn_any x n hn h0 (w.drewN k)).mono fun e w' h => ⟨h.1, 1, h.2⟩)
theorem sched_sum (a b c d : BitVec 32) : a + b + c + d = d + c + b + a := by
  rw [BitVec.add_comm d c, BitVec.add_comm (c + d) b, BitVec.add_comm (b + (c + d)) a, BitVec.add_assoc, BitVec.add_assoc]
/-- what stands inside a block of a function's code -/
def inBlock (id : Nat) : Code → Option Code
  | .block i c => if i = id then some c else inBlock id c
  | .seq a b => match inBlock id a with
    | some c => some c
    | none => inBlock id b
  | .loop c => inBlock id c
  | .scope c => inBlock id c
  | .cond _ a b => match inBlock id a with
    | some c => some c
    | none => inBlock id b
  | _ => none
end Go.Proofs.YtedjmhiocmefiaaDoor
