/-
  Plain mathematics of SHA-256 over words of 32 bits (bit vectors): what the code and the document's answer both compute. No program is named here.
  A region that draws its order, whose operations but the last ones (which wait for all others, one behind the other) only read or call what only reads: one walk of the text's order serves every order. Stated over the library's own notions of a quiet operation and of a forced tail. Rows of words and bytes in memory, as lists. No function of the program is named here. Bytes behind a slice value; what a call owns reads as bytes; what is appended onto it. No function of the program is named here. Laws for append of bytes onto what the call owns that tell, too, that no block of another element type is turned: at an operation, in a plain region's list, at a step of a region that draws its order. Slices of slices of bytes, in memory. No function of the program is named here.
  Numbers of 64 bits, and what Mul64 answers: a product's two words.
  A constant text of letters turned to bytes, in a new block. No function of the program is named here.
  Faults as values; a row of two cells that is written once.
  What an argument's reading gives, where it is a slice of bytes: its letters.
  Rows of records that are written in place: cells that are set, copied and cleared; lists of rows, laid flat. No function of the program is named here.
-/
import Derived.Test.YtnoaohlajllngaaDoorProg
import Derived.Test.YtnoaohlajllngaaDoorRows
import Derived.Laws.BitsAllLaws
import Derived.StillTailTactics
import Derived.Deep.QuietTactic
import Derived.WalkKit
import Derived.Below
import Derived.Laws.AppendOwnNone
import Derived.Laws.OwnMore
import Derived.Deep.AppendLies
import Derived.WalkLawsBesides
import Derived.WalkSpells
import Derived.Lib.Mul64
import Derived.Lib.SlBytesConst
import Derived.ProofKit
import Derived.OpenShut
import Derived.ShutString
import Derived.ChangeOld
import Derived.SizedLaws
import Derived.Deep.DeepHandedRow
import Derived.Laws.IdiomCopy
import Derived.Lib.SliceRun
import Derived.Lib.AppendZerosOnto
import Derived.Lib.Overlaps
import Derived.Deep.RegionLaw
import Derived.Laws.NewBlocks
import Derived.Laws.MakeOwn
namespace Go.Proofs.YtnoaohlajllngaaDoor

/-- a word, as the model's integer -/
def u (x : BitVec 32) : Int := (x.toNat : Int)
/-- a byte, as the model's integer -/
def b8 (x : BitVec 8) : Int := (x.toNat : Int)

theorem b8_lo (x : BitVec 8) : 0 ≤ b8 x := by unfold b8; omega
theorem b8_hi (x : BitVec 8) : b8 x < 256 := by unfold b8; have := x.isLt; omega

theorem ofInt32 (x : BitVec 32) : BitVec.ofInt 32 (u x) = x := by
  unfold u; apply BitVec.eq_of_toNat_eq; rw [ofInt_u32 _ x.isLt]
theorem wrap_nat32 (n : Nat) : IntKind.u32.wrap (n : Int) = ((n % 4294967296 : Nat) : Int) := by
  rw [IntKind.wrap_u32']; omega
theorem u_xor (x y : BitVec 32) : bits .xor .u32 (u x) (u y) = u (x ^^^ y) := by
  show IntKind.u32.wrap ((BitVec.ofInt 32 _ ^^^ BitVec.ofInt 32 _).toNat : Int) = _
  rw [ofInt32, ofInt32, wrap_nat32, Nat.mod_eq_of_lt (BitVec.isLt _)]; rfl
theorem u_and (x y : BitVec 32) : bits .and .u32 (u x) (u y) = u (x &&& y) := by
  show IntKind.u32.wrap ((BitVec.ofInt 32 _ &&& BitVec.ofInt 32 _).toNat : Int) = _
  rw [ofInt32, ofInt32, wrap_nat32, Nat.mod_eq_of_lt (BitVec.isLt _)]; rfl
theorem u_or (x y : BitVec 32) : bits .or .u32 (u x) (u y) = u (x ||| y) := by
  show IntKind.u32.wrap ((BitVec.ofInt 32 _ ||| BitVec.ofInt 32 _).toNat : Int) = _
  rw [ofInt32, ofInt32, wrap_nat32, Nat.mod_eq_of_lt (BitVec.isLt _)]; rfl
theorem u_andNot (x y : BitVec 32) : bits .andNot .u32 (u x) (u y) = u (x &&& ~~~y) := by
  show IntKind.u32.wrap ((BitVec.ofInt 32 _ &&& ~~~BitVec.ofInt 32 _).toNat : Int) = _
  rw [ofInt32, ofInt32, wrap_nat32, Nat.mod_eq_of_lt (BitVec.isLt _)]; rfl
theorem u_not (x : BitVec 32) : bits .xor .u32 IntKind.u32.max (u x) = u (~~~x) := by
  have h : IntKind.u32.max = u (BitVec.allOnes 32) := by decide
  rw [h, u_xor, BitVec.xor_comm]
  congr 1
  exact BitVec.xor_allOnes
theorem u_add (x y : BitVec 32) : IntKind.u32.wrap (u x + u y) = u (x + y) := by
  unfold u; rw [← Int.natCast_add, wrap_nat32]; rfl
theorem u_add' (x y : BitVec 32) : (u x + u y) % 4294967296 = u (x + y) := by
  rw [← u_add, IntKind.wrap_u32']
theorem u_shr (x : BitVec 32) (k : Nat) : u x / 2 ^ k = u (x >>> k) := by
  unfold u; rw [BitVec.toNat_ushiftRight, Nat.shiftRight_eq_div_pow]; simp
theorem u_shl (x : BitVec 32) (k : Nat) : u x * 2 ^ k % 4294967296 = u (x <<< k) := by
  unfold u
  have : (x.toNat : Int) * 2 ^ k = ((x.toNat * 2 ^ k : Nat) : Int) := by simp
  rw [this, BitVec.toNat_shiftLeft, Nat.shiftLeft_eq]; omega
theorem u_shr3 (x : BitVec 32) : u x / (8 : Int) = u (x >>> 3) := u_shr x 3
theorem u_shr10 (x : BitVec 32) : u x / (1024 : Int) = u (x >>> 10) := u_shr x 10
theorem u_shl24 (x : BitVec 32) : u x * (16777216 : Int) % (4294967296 : Int) = u (x <<< 24) := u_shl x 24
theorem u_shl16 (x : BitVec 32) : u x * (65536 : Int) % (4294967296 : Int) = u (x <<< 16) := u_shl x 16
theorem u_shl8 (x : BitVec 32) : u x * (256 : Int) % (4294967296 : Int) = u (x <<< 8) := u_shl x 8
theorem u_byte (x : BitVec 8) : u (x.setWidth 32) = b8 x := by
  unfold u b8; rw [BitVec.toNat_setWidth, Nat.mod_eq_of_lt (by have := x.isLt; omega)]
theorem wrap_b8 (x : BitVec 8) : IntKind.u32.wrap (b8 x) = u (x.setWidth 32) := by
  rw [u_byte, IntKind.wrap_u32']; have := b8_lo x; have := b8_hi x; omega

/-- turned right -/
def rotr (x : BitVec 32) (n : Nat) : BitVec 32 := x <<< (32 - n) ||| x >>> n
def bS1 (x : BitVec 32) := rotr x 6 ^^^ rotr x 11 ^^^ rotr x 25
def bS0 (x : BitVec 32) := rotr x 2 ^^^ rotr x 13 ^^^ rotr x 22
def sS1 (x : BitVec 32) := rotr x 17 ^^^ rotr x 19 ^^^ (x >>> 10)
def sS0 (x : BitVec 32) := rotr x 7 ^^^ rotr x 18 ^^^ (x >>> 3)
def chs (e f g : BitVec 32) : BitVec 32 := (e &&& f) ^^^ (~~~e &&& g)
def maj (a b c : BitVec 32) : BitVec 32 := (a &&& b) ^^^ (a &&& c) ^^^ (b &&& c)

/-- the cube roots' words -/
def kTab : List (BitVec 32) := [
  0x428a2f98, 0x71374491, 0xb5c0fbcf, 0xe9b5dba5, 0x3956c25b, 0x59f111f1, 0x923f82a4, 0xab1c5ed5,
  0xd807aa98, 0x12835b01, 0x243185be, 0x550c7dc3, 0x72be5d74, 0x80deb1fe, 0x9bdc06a7, 0xc19bf174,
  0xe49b69c1, 0xefbe4786, 0x0fc19dc6, 0x240ca1cc, 0x2de92c6f, 0x4a7484aa, 0x5cb0a9dc, 0x76f988da,
  0x983e5152, 0xa831c66d, 0xb00327c8, 0xbf597fc7, 0xc6e00bf3, 0xd5a79147, 0x06ca6351, 0x14292967,
  0x27b70a85, 0x2e1b2138, 0x4d2c6dfc, 0x53380d13, 0x650a7354, 0x766a0abb, 0x81c2c92e, 0x92722c85,
  0xa2bfe8a1, 0xa81a664b, 0xc24b8b70, 0xc76c51a3, 0xd192e819, 0xd6990624, 0xf40e3585, 0x106aa070,
  0x19a4c116, 0x1e376c08, 0x2748774c, 0x34b0bcb5, 0x391c0cb3, 0x4ed8aa4a, 0x5b9cca4f, 0x682e6ff3,
  0x748f82ee, 0x78a5636f, 0x84c87814, 0x8cc70208, 0x90befffa, 0xa4506ceb, 0xbef9a3f7, 0xc67178f2]

/-- eight words -/
structure Oct where
  a : BitVec 32
  b : BitVec 32
  c : BitVec 32
  d : BitVec 32
  e : BitVec 32
  f : BitVec 32
  g : BitVec 32
  h : BitVec 32
def Oct.list (s : Oct) : List (BitVec 32) := [s.a, s.b, s.c, s.d, s.e, s.f, s.g, s.h]
def Oct.plus (s t : Oct) : Oct := ⟨s.a + t.a, s.b + t.b, s.c + t.c, s.d + t.d, s.e + t.e, s.f + t.f, s.g + t.g, s.h + t.h⟩

/-- four bytes make a word, the high one first -/
def be4 (a b c d : BitVec 8) : BitVec 32 := a.setWidth 32 <<< 24 ||| b.setWidth 32 <<< 16 ||| c.setWidth 32 <<< 8 ||| d.setWidth 32
/-- word i of the schedule, out of those ahead of it -/
def wNext (blk : List (BitVec 8)) (i : Nat) (l : List (BitVec 32)) : BitVec 32 :=
  if i < 16 then be4 (blk.getD (4 * i) 0) (blk.getD (4 * i + 1) 0) (blk.getD (4 * i + 2) 0) (blk.getD (4 * i + 3) 0)
  else sS1 (l.getD (i - 2) 0) + l.getD (i - 7) 0 + sS0 (l.getD (i - 15) 0) + l.getD (i - 16) 0
def wTo (blk : List (BitVec 8)) : Nat → List (BitVec 32)
  | 0 => []
  | i + 1 => wTo blk i ++ [wNext blk i (wTo blk i)]

/-- a round -/
def step (k w : BitVec 32) (s : Oct) : Oct :=
  let t1 := s.h + bS1 s.e + chs s.e s.f s.g + k + w
  let t2 := bS0 s.a + maj s.a s.b s.c
  ⟨t1 + t2, s.a, s.b, s.c, s.d + t1, s.e, s.f, s.g⟩
def rTo (w : List (BitVec 32)) (s : Oct) : Nat → Oct
  | 0 => s
  | t + 1 => step (kTab.getD t 0) (w.getD t 0) (rTo w s t)
/-- a block worked into eight words -/
def mixed (s : Oct) (blk : List (BitVec 8)) : Oct := s.plus (rTo (wTo blk 64) s 64)

end Go.Proofs.YtnoaohlajllngaaDoor
namespace Go.Proofs.YtnoaohlajllngaaDoor

section
variable {P : Program} {ops : Array Oper} {md : Region.Mode} {C : World → Prop}



/-- each of the first n operations, from the m-th on, is waited for by one behind it, up to n -/
def sinkFrom (md : Region.Mode) (ops : Array Oper) (m n : Nat) : Bool :=
  (List.range n).all fun i => decide (i < m) || (List.range (n + 1)).any fun j => decide (i < j) && Region.waitsFor md ops j i

theorem sinkFrom_spec {m n i : Nat} (hs : sinkFrom md ops m n = true) (hm : m ≤ i) (hi : i < n) : ∃ j oj, i < j ∧ j ≤ n ∧ ops[j]? = some oj ∧ ∃ e ∈ oj.after, Region.binds md e = true ∧ e.on = i := by
  have h1 := List.all_eq_true.1 hs i (List.mem_range.2 hi)
  simp only [Bool.or_eq_true, decide_eq_true_eq] at h1
  rcases h1 with h1 | h1
  · omega
  · obtain ⟨j, hj, hj2⟩ := List.any_eq_true.1 h1
    simp only [Bool.and_eq_true, decide_eq_true_eq] at hj2
    obtain ⟨oj, hoj, e, he, hb, hon⟩ := Region.waitsFor_spec hj2.2
    exact ⟨j, oj, hj2.1, by have := List.mem_range.1 hj; omega, hoj, e, he, hb, hon⟩

theorem waits_from {m n : Nat} {s : Array Bool} (hs : sinkFrom md ops m n = true) (hc : Region.chainB md ops n = true) (hn : n < ops.size) (inv : HeadInv md ops n s) (d : Nat) :
    ∀ i, n - i = d → m ≤ i → i < n → s.getD i true = false → ∀ t, n ≤ t → t ∉ Region.ready md ops s := by
  induction d using Nat.strongRecOn with
  | _ d ih =>
    intro i hd hmi hi hun t ht hr
    obtain ⟨_, ot, hot, hall⟩ := mem_ready.1 hr
    have htlt : t < ops.size := (Array.getElem?_eq_some_iff.1 hot).1
    by_cases htn : t = n
    · subst htn
      obtain ⟨j, oj, hij, hjt, hoj, e, he, hb, hon⟩ := sinkFrom_spec hs hmi hi
      by_cases q : j = t
      · subst q
        obtain rfl : oj = ot := Option.some.inj (hoj.symm.trans hot)
        have h2 := hall e he hb
        rw [hon, getD_both hun] at h2
        cases h2
      · cases hl : s.getD j false with
        | true =>
          have h2 := inv.closed j oj hoj hl e he hb
          rw [hon, getD_both hun] at h2
          cases h2
        | false => exact ih (t - j) (by omega) j rfl (by omega) (by omega) (getD_in (by rw [inv.size]; omega) hl) t (Nat.le_refl _) hr
    · have h1 := List.all_eq_true.1 hc t (List.mem_range.2 htlt)
      simp only [Bool.or_eq_true, decide_eq_true_eq] at h1
      rcases h1 with h1 | h1
      · omega
      · obtain ⟨o', ho', e, he, hb, hon⟩ := Region.waitsFor_spec h1
        obtain rfl : o' = ot := Option.some.inj (ho'.symm.trans hot)
        have h2 := hall e he hb
        rw [hon, getD_both (inv.tail (t - 1) (by omega) (by omega))] at h2
        cases h2





end
end Go.Proofs.YtnoaohlajllngaaDoor
namespace Go.Proofs.YtnoaohlajllngaaDoor
open Go.RowKit

theorem hid {p : Prop} (h : p) : Hid p := h

theorem grown_refl (w : World) (r : Option Nat) : w.grownBy w r := ⟨rfl, rfl, rfl, Nat.le_refl _, fun _ _ _ => rfl⟩


/-- a word's cell -/
def U (x : BitVec 32) : Value := .int .u32 (u x)
/-- a byte's cell -/
def V (x : BitVec 8) : Value := .int .u8 (b8 x)

/-- block g is a row of these cells, not frozen -/
def Row (w : World) (g : Nat) (t : TypeId) (cs : List Value) : Prop := w.heap[g]? = some (.cells cs.toArray t (0, 0))
theorem Row.cell {w : World} {g : Nat} {t : TypeId} {cs : List Value} (h : Row w g t cs) (i : Nat) : w.cell? ⟨g, i, none⟩ = cs[i]? := by
  rw [cell_of_row w g i _ t _ h]; simp
theorem Row.frozen {w : World} {g : Nat} {t : TypeId} {cs : List Value} (h : Row w g t cs) (i : Nat) : w.frozen? ⟨g, i, none⟩ = false :=
  frozen_of_row w g i _ t h
theorem Row.lt {w : World} {g : Nat} {t : TypeId} {cs : List Value} (h : Row w g t cs) : g < w.heap.size :=
  (Array.getElem?_eq_some_iff.1 h).1
theorem Row.set {w : World} {g : Nat} {t : TypeId} {cs : List Value} (h : Row w g t cs) (i : Nat) (v : Value) : Row (w.setCell ⟨g, i, none⟩ v) g t (cs.set i v) := by
  unfold Row
  rw [heap_setCell_same w g i _ t v h]; simp
theorem Row.drewN {w : World} {g : Nat} {t : TypeId} {cs : List Value} (h : Row w g t cs) (n : Nat) : Row (w.drewN n) g t cs := h
theorem Row.drew {w : World} {g : Nat} {t : TypeId} {cs : List Value} (h : Row w g t cs) : Row w.drew g t cs := h
theorem Row.grown {w w' : World} {g : Nat} {t : TypeId} {cs : List Value} (h : Row w g t cs) {r : Option Nat} (hg : w.grownBy w' r) (hne : some g ≠ r) : Row w' g t cs := by
  unfold Row; rw [hg.block g h.lt hne]; exact h
theorem Row.below {w w' : World} {g B : Nat} {t : TypeId} {cs : List Value} (h : Row w g t cs) (hg : Below B w w') (hB : g < B) : Row w' g t cs := by
  unfold Row; rw [hg.block g hB]; exact h
theorem Row.alloc {w : World} {g : Nat} {t : TypeId} {cs : List Value} (h : Row w g t cs) (o : Obj) : Row (w.alloc o) g t cs := by
  unfold Row; exact (Below.heap_alloc w o g h.lt).trans h
theorem Row.new (w : World) (t : TypeId) (cs : List Value) : Row (w.alloc (.cells cs.toArray t)) w.heap.size t cs := heap_alloc_new _ _
theorem Row.newAt (w : World) (t : TypeId) (cs : List Value) (g : Nat) (h : g = w.heap.size) : Row (w.alloc (.cells cs.toArray t)) g t cs := by subst h; exact heap_alloc_new _ _
end Go.Proofs.YtnoaohlajllngaaDoor
namespace Go.Proofs.YtnoaohlajllngaaDoor
open Go.RowKit

/-- sv is a slice that reads as l, nil, empty or neither; its cells lie below block number N -/
def Bytes (w : World) (N : Nat) (sv : Value) (l : List (BitVec 8)) : Prop :=
  (sv = .slice none 0 0 ∧ l = []) ∨ (∃ a cap, sv = .slice (some a) 0 cap ∧ l = []) ∨ ∃ b off cap, sv = .slice (some ⟨b, off, none⟩) l.length cap ∧ l.length ≤ cap ∧ ∀ i, i < l.length → b < N ∧ w.cell? ⟨b, off + i, none⟩ = some (.int .u8 (b8 (l.getD i 0)))
theorem Bytes.grown {w w' : World} {N B : Nat} {sv : Value} {l : List (BitVec 8)} (h : Bytes w N sv l) (hg : w.grownBy w' (some B)) (hN : N ≤ B) (hw : N ≤ w.heap.size) : Bytes w' N sv l := by
  rcases h with h | h | ⟨b, off, cap, h1, h2, h3⟩
  · exact .inl h
  · exact .inr (.inl h)
  · refine .inr (.inr ⟨b, off, cap, h1, h2, fun i hi => ⟨(h3 i hi).1, ?_⟩⟩)
    have := (h3 i hi).1
    rw [← (h3 i hi).2]
    exact World.cell?_of_block (hg.block b (by omega) (by simp; omega))
theorem Bytes.below {w w' : World} {N : Nat} {sv : Value} {l : List (BitVec 8)} (h : Bytes w N sv l) (hg : Below N w w') : Bytes w' N sv l := by
  rcases h with h | h | ⟨b, off, cap, h1, h2, h3⟩
  · exact .inl h
  · exact .inr (.inl h)
  · refine .inr (.inr ⟨b, off, cap, h1, h2, fun i hi => ⟨(h3 i hi).1, ?_⟩⟩)
    rw [← (h3 i hi).2]
    exact hg.cell (h3 i hi).1
theorem Bytes.mono {w : World} {N M : Nat} {sv : Value} {l : List (BitVec 8)} (h : Bytes w N sv l) (hN : N ≤ M) : Bytes w M sv l := by
  rcases h with h | h | ⟨b, off, cap, h1, h2, h3⟩
  · exact .inl h
  · exact .inr (.inl h)
  · exact .inr (.inr ⟨b, off, cap, h1, h2, fun i hi => ⟨Nat.lt_of_lt_of_le (h3 i hi).1 hN, (h3 i hi).2⟩⟩)
/-- what is left behind the first n -/
theorem Bytes.tail {w : World} {N : Nat} {l : List (BitVec 8)} (b off cap n : Nat) (hn : n ≤ l.length) (hc : l.length ≤ cap)
    (h : ∀ i, i < l.length → b < N ∧ w.cell? ⟨b, off + i, none⟩ = some (.int .u8 (b8 (l.getD i 0)))) :
    Bytes w N (.slice (some ⟨b, off + n, none⟩) (l.length - n) (cap - n)) (l.drop n) := by
  refine .inr (.inr ⟨b, off + n, cap - n, by simp, by simp; omega, fun i hi => ?_⟩)
  simp at hi
  have := h (n + i) (by omega)
  refine ⟨this.1, ?_⟩
  rw [Nat.add_assoc, this.2]
  simp

theorem Bytes.shape {w : World} {N : Nat} {sv : Value} {l : List (BitVec 8)} (h : Bytes w N sv l) : ∃ oa cap, sv = .slice oa l.length cap ∧ l.length ≤ cap := by
  rcases h with ⟨rfl, rfl⟩ | ⟨a, cap, rfl, rfl⟩ | ⟨b, off, cap, rfl, hc, _⟩
  · exact ⟨none, 0, rfl, Nat.le_refl _⟩
  · exact ⟨_, cap, rfl, Nat.zero_le _⟩
  · exact ⟨_, cap, rfl, hc⟩
theorem Bytes.some {w : World} {N : Nat} {oa : Option Addr} {cap : Nat} {l : List (BitVec 8)} (h : Bytes w N (.slice oa l.length cap) l) (hl : 0 < l.length) :
    ∃ b off, oa = some ⟨b, off, none⟩ ∧ ∀ i, i < l.length → b < N ∧ w.cell? ⟨b, off + i, none⟩ = some (.int .u8 (b8 (l.getD i 0))) := by
  rcases h with ⟨_, rfl⟩ | ⟨_, _, _, rfl⟩ | ⟨b, off, c, h1, _, h3⟩
  · simp at hl
  · simp at hl
  · simp at h1
    exact ⟨b, off, h1.1, h3⟩

end Go.Proofs.YtnoaohlajllngaaDoor
namespace Go.Proofs.YtnoaohlajllngaaDoor
open Go.RowKit

theorem Bytes.drewN {w : World} {N : Nat} {v : Value} {l : List (BitVec 8)} (h : Bytes w N v l) (n : Nat) : Bytes (w.drewN n) N v l := h.below ⟨rfl, rfl, rfl, Nat.le_refl _, fun _ _ => rfl⟩

end Go.Proofs.YtnoaohlajllngaaDoor
namespace Go.Proofs.YtnoaohlajllngaaDoor
open Go.RowKit




end Go.Proofs.YtnoaohlajllngaaDoor
namespace Go.Proofs.YtnoaohlajllngaaDoor
open Go.RowKit


end Go.Proofs.YtnoaohlajllngaaDoor
namespace Go.Proofs.YtnoaohlajllngaaDoor
open Go.RowKit

end Go.Proofs.YtnoaohlajllngaaDoor
namespace Go.Proofs.YtnoaohlajllngaaDoor
open Go.RowKit

end Go.Proofs.YtnoaohlajllngaaDoor
namespace Go.Proofs.YtnoaohlajllngaaDoor
open Go.ChangeShapes Go.WideShapes Go.ChangeAt Go.RowKit

end Go.Proofs.YtnoaohlajllngaaDoor
namespace Go.Proofs.YtnoaohlajllngaaDoor
open Go.RowKit

/-- cells set from a place on -/
def putL (cs : List Value) (o : Nat) (vs : List Value) : List Value := cs.take o ++ vs ++ cs.drop (o + vs.length)
theorem putL_length (cs : List Value) (o : Nat) (vs : List Value) (h : o + vs.length ≤ cs.length) : (putL cs o vs).length = cs.length := by
  unfold putL
  simp
  omega
theorem putL_cons (cs : List Value) (o : Nat) (v : Value) (r : List Value) (h : o + (v :: r).length ≤ cs.length) : putL cs o (v :: r) = putL (cs.set o v) (o + 1) r := by
  have ho : o < cs.length := by simp at h; omega
  unfold putL
  have e1 : (cs.set o v).take (o + 1) = cs.take o ++ [v] := by
    rw [List.take_succ_eq_append_getElem (by simpa using ho), List.take_set_of_le (Nat.le_refl _)]
    simp
  have e2 : (cs.set o v).drop (o + 1 + r.length) = cs.drop (o + 1 + r.length) := List.drop_set_of_lt (by omega)
  rw [e1, e2, List.length_cons, show o + (r.length + 1) = o + 1 + r.length by omega]
  simp
theorem putL_take (cs : List Value) (o : Nat) (vs : List Value) (ho : o ≤ cs.length) (M : Nat) (hM : o + vs.length ≤ M) : (putL cs o vs).take M = cs.take o ++ vs ++ (cs.drop (o + vs.length)).take (M - (o + vs.length)) := by
  unfold putL
  have e : (cs.take o ++ vs).length = o + vs.length := by simp; omega
  rw [List.take_append, e, List.take_of_length_le (by rw [e]; exact hM)]
theorem Row.setCells {g : Nat} {t : TypeId} : ∀ (vs : List Value) (o : Nat) (w : World) (cs : List Value), Row w g t cs → o + vs.length ≤ cs.length → Row (w.setCells g o vs) g t (putL cs o vs)
  | [], o, w, cs, h, _ => by
    have : putL cs o [] = cs := by simp [putL]
    rw [this]
    exact h
  | v :: r, o, w, cs, h, hl => by
    rw [putL_cons cs o v r hl]
    exact Row.setCells r (o + 1) _ _ (h.set o v) (by simp at hl ⊢; omega)
theorem ownsRow_belowR {w w' : World} {base e size n : Nat} {v : Value} {xs : List Value} (h : w.ownsRow base e size v n xs) (hg : Below w.heap.size w w') : w'.ownsRow base e size v n xs := by
  obtain ⟨h1, h2⟩ := h
  refine ⟨h1, ?_⟩
  rcases h2 with h2 | ⟨g, cap, cur, h3, h4, h5, h6⟩
  · exact .inl h2
  · exact .inr ⟨g, cap, cur, h3, h4, (hg.block g (Array.getElem?_eq_some_iff.1 h5).1).trans h5, h6⟩
theorem flat_lenR {k : Nat} : ∀ (rs : List (List Value)), (∀ r ∈ rs, r.length = k) → rs.flatten.length = rs.length * k
  | [], _ => by simp
  | r :: rs, h => by
    rw [List.flatten_cons, List.length_append, flat_lenR rs (fun r hr => h r (List.mem_cons_of_mem _ hr)), h r List.mem_cons_self, List.length_cons, Nat.succ_mul]
    omega
theorem flat_dropR {k : Nat} : ∀ (rs : List (List Value)), (∀ r ∈ rs, r.length = k) → ∀ i, (rs.drop i).flatten = rs.flatten.drop (i * k)
  | [], _, i => by simp
  | r :: rs, h, 0 => by simp
  | r :: rs, h, i + 1 => by
    have hr := h r List.mem_cons_self
    rw [List.drop_succ_cons, flat_dropR rs (fun r hr => h r (List.mem_cons_of_mem _ hr)) i, List.flatten_cons, List.drop_append, show r.drop ((i + 1) * k) = [] from List.drop_eq_nil_of_le (by rw [hr, Nat.succ_mul]; omega), hr, List.nil_append, Nat.succ_mul, Nat.add_sub_cancel]
theorem flat_takeR {k : Nat} : ∀ (rs : List (List Value)), (∀ r ∈ rs, r.length = k) → ∀ i, (rs.take i).flatten = rs.flatten.take (i * k)
  | [], _, i => by simp
  | r :: rs, h, 0 => by simp
  | r :: rs, h, i + 1 => by
    have hr := h r List.mem_cons_self
    rw [List.take_succ_cons, List.flatten_cons, flat_takeR rs (fun r hr => h r (List.mem_cons_of_mem _ hr)) i, List.flatten_cons, List.take_append, List.take_of_length_le (l := r) (by rw [hr, Nat.succ_mul]; omega), hr, Nat.succ_mul, Nat.add_sub_cancel]
end Go.Proofs.YtnoaohlajllngaaDoor
