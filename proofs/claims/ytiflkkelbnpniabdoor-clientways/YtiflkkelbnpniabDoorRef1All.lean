/-
  A law for append: what a slice reads as, onto what the call owns.
  What the document's answer's small functions give: a turned word; a product of two words of 64 bits; whether a power is more than a shifted number; a root's bits. What above and Root answer: whether a power is more than a shifted number; the bits of a root. What Root answers: the bits of a root, one by one; what Primes answers: the first 64 primes. What Primes answers of 64: the first 64 primes, in new memory. Laws and plain facts for the document's Sum: the two tables of roots, the message's padding, four bytes as a word. The document's Sum, its block 8: a block's schedule of 64 words. The document's Sum, its block 12: the 64 rounds of a block. The document's Sum, its block 14: what came of a block is added to the eight words. The document's Sum, its block 6: block by block. The document's Sum, its block 16: the eight words' bytes. What the document's Sum answers: any bytes' digest, as long as they are no longer than a machine can hold.
  What Sum answers: SHA-256 of what its argument reads as, in new memory; nothing that was there turns.
-/
import Derived.Test.YtiflkkelbnpniabDoorShaAll
import Derived.Laws.AppendOwnNone
import Derived.Test.YtiflkkelbnpniabDoorMemB
import Derived.WalkLawsBesides
import Derived.WalkSpells
import Derived.Deep.AppendLies
namespace Go.Proofs.YtiflkkelbnpniabDoor
open Go.RowKit

end Go.Proofs.YtiflkkelbnpniabDoor
namespace Go.Proofs.YtiflkkelbnpniabDoor
open Go.RowKit
attribute [local go_sem] u_or


end Go.Proofs.YtiflkkelbnpniabDoor
namespace Go.Proofs.YtiflkkelbnpniabDoor
open Go.RowKit



/-- whether x's square, or cube, is more than p, moved left by 64, or 96 bits -/
def aboveN (x p : Nat) (two : Bool) : Bool := if two then decide (p * 18446744073709551616 < x * x) else decide (p * 79228162514264337593543950336 < x * x * x)
end Go.Proofs.YtiflkkelbnpniabDoor
namespace Go.Proofs.YtiflkkelbnpniabDoor
open Go.RowKit

/-- the bits that j steps have found, from bit 40 down -/
def rootTo (p : Nat) (two : Bool) : Nat → Nat
  | 0 => 0
  | j + 1 => if aboveN (rootTo p two j ||| 2 ^ (40 - j)) p two then rootTo p two j else rootTo p two j ||| 2 ^ (40 - j)
theorem rootTo_lt (p : Nat) (two : Bool) : ∀ j, rootTo p two j < 2 ^ 41
  | 0 => by simp [rootTo]
  | j + 1 => by
    unfold rootTo
    split
    · exact rootTo_lt p two j
    · exact Nat.or_lt_two_pow (rootTo_lt p two j) (Nat.pow_lt_pow_right (by omega) (by omega))
def rootWord (p : Nat) (two : Bool) : BitVec 32 := BitVec.ofNat 32 (rootTo p two 41)

end Go.Proofs.YtiflkkelbnpniabDoor
namespace Go.Proofs.YtiflkkelbnpniabDoor
open Go.RowKit

def P64 (n : Nat) : Value := .int .u64 (n : Int)
/-- what is found among the numbers from 2 on, k of them -/
def primesTo : Nat → List Nat
  | 0 => []
  | k + 1 => if (primesTo k).all (fun q => (2 + k) % q != 0) then primesTo k ++ [2 + k] else primesTo k
theorem primesTo_mem : ∀ k, ∀ q ∈ primesTo k, 2 ≤ q ∧ q < 2 + k
  | 0, q, h => by simp [primesTo] at h
  | k + 1, q, h => by
    unfold primesTo at h
    split at h
    · rcases List.mem_append.1 h with h | h
      · have := primesTo_mem k q h; omega
      · simp at h; omega
    · have := primesTo_mem k q h; omega
theorem primesTo_mono (k : Nat) : (primesTo k).length ≤ (primesTo (k + 1)).length := by
  show _ ≤ (if _ then _ else _ : List Nat).length
  split
  · simp
  · exact Nat.le_refl _
theorem primesTo_le (k m : Nat) (h : k ≤ m) : (primesTo k).length ≤ (primesTo m).length := by
  induction m with
  | zero => obtain rfl : k = 0 := by omega
            exact Nat.le_refl _
  | succ m ih =>
    by_cases e : k = m + 1
    · subst e; exact Nat.le_refl _
    · exact Nat.le_trans (ih (by omega)) (primesTo_mono m)
theorem primes_309 : (primesTo 309).length = 63 := by decide +kernel
theorem primes_310 : (primesTo 310).length = 64 := by decide +kernel
theorem info_u64 : (Tryd.prog.info? 73).map (fun i => (i.zero, i.size, i.bytes)) = some (some (.int .u64 0), 1, 8) := by kernel_rfl

end Go.Proofs.YtiflkkelbnpniabDoor
namespace Go.Proofs.YtiflkkelbnpniabDoor
open Go.RowKit
theorem info_u32 : (Tryd.prog.info? 109).map (fun i => (i.zero, i.size, i.bytes)) = some (some (.int .u32 0), 1, 4) := by kernel_rfl
def kTo (t : Nat) : List (BitVec 32) := ((primesTo 310).take t).map fun p => rootWord p false
def hTo (t : Nat) : List (BitVec 32) := ((primesTo 310).take t).map fun p => rootWord p true
theorem kTo_all : kTo 64 = kTab := by decide +kernel
theorem hTo_all : hTo 8 = hTab.list := by decide +kernel
theorem kTo_succ (t : Nat) (h : t < 64) : kTo (t + 1) = kTo t ++ [rootWord ((primesTo 310).getD t 0) false] := by
  have hl : t < (primesTo 310).length := by rw [primes_310]; exact h
  have e : (primesTo 310).getD t 0 = (primesTo 310)[t] := by simp [hl]
  unfold kTo
  rw [List.take_succ_eq_append_getElem hl, e, List.map_append]
  rfl
theorem hTo_succ (t : Nat) (h : t < 64) : hTo (t + 1) = hTo t ++ [rootWord ((primesTo 310).getD t 0) true] := by
  have hl : t < (primesTo 310).length := by rw [primes_310]; exact h
  have e : (primesTo 310).getD t 0 = (primesTo 310)[t] := by simp [hl]
  unfold hTo
  rw [List.take_succ_eq_append_getElem hl, e, List.map_append]
  rfl
theorem prime_lt (t : Nat) (h : t < 64) : (primesTo 310).getD t 0 < 4294967296 := by
  have hl : t < (primesTo 310).length := by rw [primes_310]; exact h
  have := primesTo_mem 310 ((primesTo 310).getD t 0) (by simp [hl])
  omega
/-- two values that own no block in common -/
def Apart (v v' : Value) : Prop := ∀ g, v.ownBlock = some g → v'.ownBlock ≠ some g
theorem apart_nil (v : Value) : Apart (.slice none 0 0) v := fun g h => by cases h
theorem Apart.ne {v v' : Value} (h : Apart v v') : v.ownBlock = none ∨ v.ownBlock ≠ v'.ownBlock := by
  cases hv : v.ownBlock with
  | none => exact .inl rfl
  | some g => exact .inr (fun e => h g hv e.symm)
theorem Apart.symm {v v' : Value} (h : Apart v v') : Apart v' v := fun g h1 h2 => h g h2 h1
/-- behind an append to v: the old row or a new block -/
theorem Apart.app {v v' : Value} {g n cap H : Nat} (h : Apart v v') (hat : v.ownBlock = some g ∨ g = H) (hv : ∀ k, v'.ownBlock = some k → k < H) : Apart (.slice (some ⟨g, 0, none⟩) n cap) v' := by
  intro k hk h2
  have : g = k := Option.some.inj hk
  subst this
  rcases hat with h3 | h3
  · exact h g h3 h2
  · have := hv g h2; omega
theorem below_app {B : Nat} {a w w' : World} {v : Value} {e n : Nat} {xs : List Value} (h : Below B a w) (hB : B ≤ w.heap.size) (ho : w.ownsRow B e 1 v n xs) (o : Obj) (hg : (w.alloc o).grownBy w' v.ownBlock) : Below B a w' :=
  (h.alloc hB o).grown hg (by simp; omega) (fun k hk => (ho.lt k hk).1)

/-- the message, r of the size's bytes written -/
def padTo (l : List (BitVec 8)) (z r : Nat) : List (BitVec 8) := l ++ [128] ++ List.replicate z 0 ++ (be8 (8 * l.length)).take r
theorem padTo_zero (l : List (BitVec 8)) (z : Nat) : padTo l (z + 1) 0 = padTo l z 0 ++ [0] := by
  simp [padTo, List.replicate_succ']
theorem padTo_length (l : List (BitVec 8)) (z r : Nat) (h : r ≤ 8) : (padTo l z r).length = l.length + 1 + z + r := by
  simp [padTo, be8]; omega
theorem padTo_size (l : List (BitVec 8)) (z r : Nat) (h : r < 8) : padTo l z (r + 1) = padTo l z r ++ [BitVec.ofNat 8 (8 * l.length / 2 ^ (8 * (7 - r)))] := by
  unfold padTo
  have hl : r < (be8 (8 * l.length)).length := by simp [be8]; omega
  have hb := be8_at (8 * l.length) r h
  rw [List.getElem?_eq_getElem hl] at hb
  rw [List.take_succ_eq_append_getElem hl, Option.some.inj hb]
  simp
theorem padTo_all (l : List (BitVec 8)) : padTo l (zeros l.length) 8 = padded l := by
  simp [padTo, padded, be8]
theorem pad_more (n z : Nat) (h : z < zeros n) : (((n + 1 + z : Nat) : Int) % 64 != 56) = true := by
  unfold zeros at h; rw [bne_iff_ne]; omega
theorem pad_done (n : Nat) : (((n + 1 + zeros n : Nat) : Int) % 64 != 56) = false := by
  unfold zeros; rw [bne_eq_false_iff_eq]; omega

/-- r of four bytes, the high one first -/
def fold4 (b : List (BitVec 8)) (i : Nat) : Nat → BitVec 32
  | 0 => 0
  | r + 1 => fold4 b i r * 256 + (b.getD (4 * i + r) 0).setWidth 32
theorem u_mul256 (x : BitVec 32) : IntKind.u32.wrap (u x * (256 : Int)) = u (x * 256) := by
  unfold u
  have e : (x.toNat : Int) * (256 : Int) = ((x.toNat * 256 : Nat) : Int) := by simp
  rw [e, wrap_nat32]
  simp
theorem fold4_be4 (b : List (BitVec 8)) (i : Nat) : fold4 b i 4 = be4 (b.getD (4 * i) 0) (b.getD (4 * i + 1) 0) (b.getD (4 * i + 2) 0) (b.getD (4 * i + 3) 0) := by
  unfold fold4 fold4 fold4 fold4 fold4 be4
  generalize b.getD (4 * i) 0 = p
  generalize b.getD (4 * i + 1) 0 = q
  generalize b.getD (4 * i + 2) 0 = r
  generalize b.getD (4 * i + 3) 0 = s
  have hp := p.isLt
  have hq := q.isLt
  have hr := r.isLt
  have hs := s.isLt
  apply BitVec.eq_of_toNat_eq
  have e1 : (p.setWidth 32 <<< 24).toNat = p.toNat * 16777216 := by
    rw [BitVec.toNat_shiftLeft, BitVec.toNat_setWidth, Nat.shiftLeft_eq]; omega
  have e2 : (q.setWidth 32 <<< 16).toNat = q.toNat * 65536 := by
    rw [BitVec.toNat_shiftLeft, BitVec.toNat_setWidth, Nat.shiftLeft_eq]; omega
  have e3 : (r.setWidth 32 <<< 8).toNat = r.toNat * 256 := by
    rw [BitVec.toNat_shiftLeft, BitVec.toNat_setWidth, Nat.shiftLeft_eq]; omega
  have e4 : (s.setWidth 32).toNat = s.toNat := by rw [BitVec.toNat_setWidth]; omega
  rw [BitVec.toNat_or, BitVec.toNat_or, BitVec.toNat_or, e1, e2, e3, e4]
  rw [nat_join 24 (p.toNat * 16777216) (q.toNat * 65536) (by omega) (by omega), nat_join 16 (p.toNat * 16777216 + q.toNat * 65536) (r.toNat * 256) (by omega) (by omega),
    nat_join 8 (p.toNat * 16777216 + q.toNat * 65536 + r.toNat * 256) s.toNat (by omega) (by omega)]
  simp
  omega
theorem chs_or (e f g : BitVec 32) : (f &&& e) ||| (g &&& ~~~e) = chs e f g := by
  unfold chs
  ext i
  simp
  cases e[i] <;> cases f[i] <;> cases g[i] <;> rfl
theorem maj_or (a b c : BitVec 32) : ((a &&& b) ||| (a &&& c)) ||| (b &&& c) = maj a b c := by
  unfold maj
  ext i
  simp
  cases a[i] <;> cases b[i] <;> cases c[i] <;> rfl
theorem sched_sum (a b c d : BitVec 32) : a + b + c + d = d + c + b + a := by
  rw [BitVec.add_comm d c, BitVec.add_comm (c + d) b, BitVec.add_comm (b + (c + d)) a, BitVec.add_assoc, BitVec.add_assoc]
/-- what stands inside a block of a function's code -/
def inBlock (id : Nat) : Code → Option Code
  | .block i c => if i = id then some c else inBlock id c
  | .seq a b => match inBlock id a with
    | some c => some c
    | none => inBlock id b
  | .loop c => inBlock id c
  | .scope c => inBlock id c
  | .cond _ a b => match inBlock id a with
    | some c => some c
    | none => inBlock id b
  | _ => none
end Go.Proofs.YtiflkkelbnpniabDoor
namespace Go.Proofs.YtiflkkelbnpniabDoor
open Go.RowKit
attribute [local go_sem] u_xor u_and u_or u_add u_add' u_andNot u_mul256 wrap_b8 u_shr3 u_shr10
end Go.Proofs.YtiflkkelbnpniabDoor
namespace Go.Proofs.YtiflkkelbnpniabDoor
open Go.RowKit
attribute [local go_sem] u_xor u_and u_or u_add u_add' u_andNot
end Go.Proofs.YtiflkkelbnpniabDoor
namespace Go.Proofs.YtiflkkelbnpniabDoor
open Go.RowKit
attribute [local go_sem] u_add u_add'
/-- eight words stand at the front of a block, and may be written -/
def Eight (w : World) (g : Nat) (s : Oct) : Prop := ∀ i, i < 8 → w.cell? ⟨g, i, none⟩ = some (.int .u32 (u (s.list.getD i 0))) ∧ w.frozen? ⟨g, i, none⟩ = false
theorem plus_at (s r : Oct) (i : Nat) (h : i < 8) : (s.plus r).list.getD i 0 = s.list.getD i 0 + r.list.getD i 0 := by
  match i, h with
  | 0, _ | 1, _ | 2, _ | 3, _ | 4, _ | 5, _ | 6, _ | 7, _ => rfl
end Go.Proofs.YtiflkkelbnpniabDoor
namespace Go.Proofs.YtiflkkelbnpniabDoor
open Go.RowKit
end Go.Proofs.YtiflkkelbnpniabDoor
namespace Go.Proofs.YtiflkkelbnpniabDoor
open Go.RowKit
theorem wb_at (x : BitVec 32) (r : Nat) (h : r < 4) : (wordBytes x).take (r + 1) = (wordBytes x).take r ++ [(x >>> (8 * (3 - r))).setWidth 8] := by
  match r, h with
  | 0, _ | 1, _ | 2, _ | 3, _ => rfl
theorem wb_byte (x : BitVec 32) (k : Nat) : IntKind.u8.wrap (u x / 2 ^ k) = b8 ((x >>> k).setWidth 8) := by
  rw [u_shr]
  show IntKind.u8.wrap (((x >>> k).toNat : Nat) : Int) = _
  rw [wrap_u8_byte]
  congr 1
theorem words_step (s : Oct) (k : Nat) (h : k < 8) : (s.list.take (k + 1)).flatMap wordBytes = (s.list.take k).flatMap wordBytes ++ wordBytes (s.list.getD k 0) := by
  match k, h with
  | 0, _ | 1, _ | 2, _ | 3, _ | 4, _ | 5, _ | 6, _ | 7, _ => rfl
end Go.Proofs.YtiflkkelbnpniabDoor
namespace Go.Proofs.YtiflkkelbnpniabDoor
open Go.RowKit
end Go.Proofs.YtiflkkelbnpniabDoor
namespace Go.Proofs.YtiflkkelbnpniabDoor
open Go.RowKit

set_option maxRecDepth 100000 in
set_option maxHeartbeats 1000000 in
theorem sum_any (l : List (BitVec 8)) (sv : Value) (N : Nat) (w : World) (hN : N ≤ w.heap.size) (hb : Bytes w N sv l) (hK : tableAt w) (hlen : l.length < 2305843009213693952) :
    Calls Tryd.prog 52 #[sv] w fun e w' =>
      ∃ v, e = .returned v ∧ w'.ownsRow w.heap.size 5 1 v 32 ((sha l).map V) ∧ Below w.heap.size w w' := by
  have hzv := zero_dig
  have HBY := hid hb
  have HK := hid hK
  have HLEN := hid hlen
  clear hb hK hlen
  go_enter Tryd.func52, Tryd.ntmps52
  go_wp2_with fail
  refine (begin_any _).mono ?_
  rintro e w1 ⟨rfl, hb1⟩
  have HB1 := hid hb1
  clear hb1
  go_wp2_with (refine wpList_store_row rfl 113 _ _ rfl w1.heap.size dig0.toArray rfl rfl 113 digZ.toArray (heap_alloc_new _ _) info_dig0 digZ_dig0 dig0_all ?_)
  obtain ⟨w2, hw2⟩ : ∃ w2, World.setRow (w1.alloc (.cells digZ.toArray 113)) w1.heap.size dig0.toArray = w2 := ⟨_, rfl⟩
  rw [hw2]
  have hrow2 : Row w2 w1.heap.size 113 (digOf [] (List.replicate 64 0)) := by
    rw [← hw2, digOf_nil]; exact setRow_heap _ _ digZ.toArray _ _ _ (heap_alloc_new _ _)
  have hbel2 : Below w1.heap.size w1 w2 := by
    rw [← hw2]; exact ((Below.refl _ _).alloc (Nat.le_refl _) _).trans ⟨rfl, rfl, rfl, by simp, fun k hk => setRow_other _ _ _ _ (by omega)⟩
  have hsz1 := HB1.out.size
  have hbel02 : Below w.heap.size w w2 := HB1.out.trans (hbel2.mono hsz1)
  have htab2 : tableAt w2 := HK.out.below hbel02 HK.out.lt
  have hne : w1.heap.size ≠ 0 := by have := HK.out.lt; omega
  have htake := take_any [] l (List.replicate 64 0) sv N w1.heap.size w2 abs_nil hrow2 (by omega) hne (HBY.out.below (hbel02.mono hN)) htab2 (by have := HLEN.out; simpa using this)
  have HTK := hid htake
  have HB02 := hid hbel02
  have HT2 := hid htab2
  have HS2 := hid hrow2.lt
  clear htake hbel02 htab2 hrow2 hbel2 hw2 HBY
  refine HTK.out.mono ?_
  rintro e w3 ⟨rfl, hg3, R', hA, hrow3⟩
  have hfin := finish_any ([] ++ l) R' w1.heap.size w3 hA hrow3 hne (HT2.out.grown hg3 hne) (by have := HLEN.out; simpa using this)
  rw [List.nil_append] at hfin
  have HFIN := hid hfin
  have hsz3 := hg3.size
  have HG3 := hid hg3
  clear hfin hg3 hrow3 hA HTK
  go_wp2_with fail
  refine HFIN.out.mono ?_
  rintro e w4 ⟨v, rfl, hown, hg4⟩
  go_wp2
  go_ret
  have h2 := HS2.out
  have h02 := HB02.out.size
  exact ⟨_, rfl, ownsRow_mono hown (by omega), HB02.out.trans ((below_grown HG3.out hsz1 (by omega)).trans (below_grown hg4 hsz1 (by omega)))⟩
end Go.Proofs.YtiflkkelbnpniabDoor
