/-
  Plain mathematics of SHA-256 over words of 32 bits (bit vectors): what the code and the document's answer both compute. No program is named here.
  A region that draws its order, whose operations but the last ones (which wait for all others, one behind the other) only read or call what only reads: one walk of the text's order serves every order. Stated over the library's own notions of a quiet operation and of a forced tail. Rows of words and bytes in memory, as lists. No function of the program is named here. Bytes behind a slice value; what a call owns reads as bytes; what is appended onto it. No function of the program is named here. Laws for append of bytes onto what the call owns that tell, too, that no block of another element type is turned: at an operation, in a plain region's list, at a step of a region that draws its order. Slices of slices of bytes, in memory. No function of the program is named here.
  Numbers of 64 bits, and what Mul64 answers: a product's two words.
  A constant text of letters turned to bytes, in a new block. No function of the program is named here.
  Faults as values; a row of two cells that is written once.
  What an argument's reading gives, where it is a slice of bytes: its letters.
  Rows of records that are written in place: cells that are set, copied and cleared; lists of rows, laid flat. No function of the program is named here.
-/
import Derived.Test.YtbjlfhabnjpdmaaGreatDoorProg
import Derived.Laws.BitsAllLaws
import Derived.StillTailTactics
import Derived.Deep.QuietTactic
import Derived.WalkKit
import Derived.Below
import Derived.Laws.AppendOwnNone
import Derived.Laws.OwnMore
import Derived.Deep.AppendLies
import Derived.WalkLawsBesides
import Derived.WalkSpells
import Derived.Lib.Mul64
import Derived.Lib.SlBytesConst
import GoSem.Claim
import GoSem.ClaimJoined
import GoSem.ClaimMapViews
import Derived.JoinedTies
import Derived.KernelRfl
import Derived.ProofKit
import Derived.OpenShut
import Derived.ShutString
import Derived.ChangeOld
import Derived.SizedLaws
import Derived.Deep.DeepHandedRow
import Derived.Laws.IdiomCopy
import Derived.Lib.SliceRun
import Derived.Lib.AppendZerosOnto
import Derived.Lib.Overlaps
import Derived.Deep.RegionLaw
import Derived.Laws.NewBlocks
import Derived.Laws.MakeOwn
namespace Go.Proofs.YtbjlfhabnjpdmaaGreatDoor

/-- a word, as the model's integer -/
def u (x : BitVec 32) : Int := (x.toNat : Int)
/-- a byte, as the model's integer -/
def b8 (x : BitVec 8) : Int := (x.toNat : Int)

theorem b8_lo (x : BitVec 8) : 0 ≤ b8 x := by unfold b8; omega
theorem b8_hi (x : BitVec 8) : b8 x < 256 := by unfold b8; have := x.isLt; omega
theorem b8_inj {x y : BitVec 8} (h : b8 x = b8 y) : x = y := by
  unfold b8 at h; exact BitVec.eq_of_toNat_eq (by omega)

theorem ofInt32 (x : BitVec 32) : BitVec.ofInt 32 (u x) = x := by
  unfold u; apply BitVec.eq_of_toNat_eq; rw [ofInt_u32 _ x.isLt]
theorem wrap_nat32 (n : Nat) : IntKind.u32.wrap (n : Int) = ((n % 4294967296 : Nat) : Int) := by
  rw [IntKind.wrap_u32']; omega
theorem u_xor (x y : BitVec 32) : bits .xor .u32 (u x) (u y) = u (x ^^^ y) := by
  show IntKind.u32.wrap ((BitVec.ofInt 32 _ ^^^ BitVec.ofInt 32 _).toNat : Int) = _
  rw [ofInt32, ofInt32, wrap_nat32, Nat.mod_eq_of_lt (BitVec.isLt _)]; rfl
theorem u_and (x y : BitVec 32) : bits .and .u32 (u x) (u y) = u (x &&& y) := by
  show IntKind.u32.wrap ((BitVec.ofInt 32 _ &&& BitVec.ofInt 32 _).toNat : Int) = _
  rw [ofInt32, ofInt32, wrap_nat32, Nat.mod_eq_of_lt (BitVec.isLt _)]; rfl
theorem u_or (x y : BitVec 32) : bits .or .u32 (u x) (u y) = u (x ||| y) := by
  show IntKind.u32.wrap ((BitVec.ofInt 32 _ ||| BitVec.ofInt 32 _).toNat : Int) = _
  rw [ofInt32, ofInt32, wrap_nat32, Nat.mod_eq_of_lt (BitVec.isLt _)]; rfl
theorem u_andNot (x y : BitVec 32) : bits .andNot .u32 (u x) (u y) = u (x &&& ~~~y) := by
  show IntKind.u32.wrap ((BitVec.ofInt 32 _ &&& ~~~BitVec.ofInt 32 _).toNat : Int) = _
  rw [ofInt32, ofInt32, wrap_nat32, Nat.mod_eq_of_lt (BitVec.isLt _)]; rfl
theorem u_not (x : BitVec 32) : bits .xor .u32 IntKind.u32.max (u x) = u (~~~x) := by
  have h : IntKind.u32.max = u (BitVec.allOnes 32) := by decide
  rw [h, u_xor, BitVec.xor_comm]
  congr 1
  exact BitVec.xor_allOnes
theorem u_add (x y : BitVec 32) : IntKind.u32.wrap (u x + u y) = u (x + y) := by
  unfold u; rw [← Int.natCast_add, wrap_nat32]; rfl
theorem u_add' (x y : BitVec 32) : (u x + u y) % 4294967296 = u (x + y) := by
  rw [← u_add, IntKind.wrap_u32']
theorem u_shr (x : BitVec 32) (k : Nat) : u x / 2 ^ k = u (x >>> k) := by
  unfold u; rw [BitVec.toNat_ushiftRight, Nat.shiftRight_eq_div_pow]; simp
theorem u_shl (x : BitVec 32) (k : Nat) : u x * 2 ^ k % 4294967296 = u (x <<< k) := by
  unfold u
  have : (x.toNat : Int) * 2 ^ k = ((x.toNat * 2 ^ k : Nat) : Int) := by simp
  rw [this, BitVec.toNat_shiftLeft, Nat.shiftLeft_eq]; omega
theorem u_shr3 (x : BitVec 32) : u x / (8 : Int) = u (x >>> 3) := u_shr x 3
theorem u_shr10 (x : BitVec 32) : u x / (1024 : Int) = u (x >>> 10) := u_shr x 10
theorem u_shl24 (x : BitVec 32) : u x * (16777216 : Int) % (4294967296 : Int) = u (x <<< 24) := u_shl x 24
theorem u_shl16 (x : BitVec 32) : u x * (65536 : Int) % (4294967296 : Int) = u (x <<< 16) := u_shl x 16
theorem u_shl8 (x : BitVec 32) : u x * (256 : Int) % (4294967296 : Int) = u (x <<< 8) := u_shl x 8
theorem u_byte (x : BitVec 8) : u (x.setWidth 32) = b8 x := by
  unfold u b8; rw [BitVec.toNat_setWidth, Nat.mod_eq_of_lt (by have := x.isLt; omega)]
theorem wrap_b8 (x : BitVec 8) : IntKind.u32.wrap (b8 x) = u (x.setWidth 32) := by
  rw [u_byte, IntKind.wrap_u32']; have := b8_lo x; have := b8_hi x; omega

/-- turned right -/
def rotr (x : BitVec 32) (n : Nat) : BitVec 32 := x <<< (32 - n) ||| x >>> n
def bS1 (x : BitVec 32) := rotr x 6 ^^^ rotr x 11 ^^^ rotr x 25
def bS0 (x : BitVec 32) := rotr x 2 ^^^ rotr x 13 ^^^ rotr x 22
def sS1 (x : BitVec 32) := rotr x 17 ^^^ rotr x 19 ^^^ (x >>> 10)
def sS0 (x : BitVec 32) := rotr x 7 ^^^ rotr x 18 ^^^ (x >>> 3)
def chs (e f g : BitVec 32) : BitVec 32 := (e &&& f) ^^^ (~~~e &&& g)
def maj (a b c : BitVec 32) : BitVec 32 := (a &&& b) ^^^ (a &&& c) ^^^ (b &&& c)

/-- the cube roots' words -/
def kTab : List (BitVec 32) := [
  0x428a2f98, 0x71374491, 0xb5c0fbcf, 0xe9b5dba5, 0x3956c25b, 0x59f111f1, 0x923f82a4, 0xab1c5ed5,
  0xd807aa98, 0x12835b01, 0x243185be, 0x550c7dc3, 0x72be5d74, 0x80deb1fe, 0x9bdc06a7, 0xc19bf174,
  0xe49b69c1, 0xefbe4786, 0x0fc19dc6, 0x240ca1cc, 0x2de92c6f, 0x4a7484aa, 0x5cb0a9dc, 0x76f988da,
  0x983e5152, 0xa831c66d, 0xb00327c8, 0xbf597fc7, 0xc6e00bf3, 0xd5a79147, 0x06ca6351, 0x14292967,
  0x27b70a85, 0x2e1b2138, 0x4d2c6dfc, 0x53380d13, 0x650a7354, 0x766a0abb, 0x81c2c92e, 0x92722c85,
  0xa2bfe8a1, 0xa81a664b, 0xc24b8b70, 0xc76c51a3, 0xd192e819, 0xd6990624, 0xf40e3585, 0x106aa070,
  0x19a4c116, 0x1e376c08, 0x2748774c, 0x34b0bcb5, 0x391c0cb3, 0x4ed8aa4a, 0x5b9cca4f, 0x682e6ff3,
  0x748f82ee, 0x78a5636f, 0x84c87814, 0x8cc70208, 0x90befffa, 0xa4506ceb, 0xbef9a3f7, 0xc67178f2]

/-- eight words -/
structure Oct where
  a : BitVec 32
  b : BitVec 32
  c : BitVec 32
  d : BitVec 32
  e : BitVec 32
  f : BitVec 32
  g : BitVec 32
  h : BitVec 32
def Oct.list (s : Oct) : List (BitVec 32) := [s.a, s.b, s.c, s.d, s.e, s.f, s.g, s.h]
def Oct.plus (s t : Oct) : Oct := ⟨s.a + t.a, s.b + t.b, s.c + t.c, s.d + t.d, s.e + t.e, s.f + t.f, s.g + t.g, s.h + t.h⟩
def hTab : Oct := ⟨0x6a09e667, 0xbb67ae85, 0x3c6ef372, 0xa54ff53a, 0x510e527f, 0x9b05688c, 0x1f83d9ab, 0x5be0cd19⟩

/-- four bytes make a word, the high one first -/
def be4 (a b c d : BitVec 8) : BitVec 32 := a.setWidth 32 <<< 24 ||| b.setWidth 32 <<< 16 ||| c.setWidth 32 <<< 8 ||| d.setWidth 32
/-- word i of the schedule, out of those ahead of it -/
def wNext (blk : List (BitVec 8)) (i : Nat) (l : List (BitVec 32)) : BitVec 32 :=
  if i < 16 then be4 (blk.getD (4 * i) 0) (blk.getD (4 * i + 1) 0) (blk.getD (4 * i + 2) 0) (blk.getD (4 * i + 3) 0)
  else sS1 (l.getD (i - 2) 0) + l.getD (i - 7) 0 + sS0 (l.getD (i - 15) 0) + l.getD (i - 16) 0
def wTo (blk : List (BitVec 8)) : Nat → List (BitVec 32)
  | 0 => []
  | i + 1 => wTo blk i ++ [wNext blk i (wTo blk i)]

/-- a round -/
def step (k w : BitVec 32) (s : Oct) : Oct :=
  let t1 := s.h + bS1 s.e + chs s.e s.f s.g + k + w
  let t2 := bS0 s.a + maj s.a s.b s.c
  ⟨t1 + t2, s.a, s.b, s.c, s.d + t1, s.e, s.f, s.g⟩
def rTo (w : List (BitVec 32)) (s : Oct) : Nat → Oct
  | 0 => s
  | t + 1 => step (kTab.getD t 0) (w.getD t 0) (rTo w s t)
/-- a block worked into eight words -/
def mixed (s : Oct) (blk : List (BitVec 8)) : Oct := s.plus (rTo (wTo blk 64) s 64)

/-- so many whole blocks, from the front -/
def mixAll : Nat → Oct → List (BitVec 8) → Oct
  | 0, s, _ => s
  | n + 1, s, m => mixAll n (mixed s (m.take 64)) (m.drop 64)
/-- how many bits, in eight bytes, the high ones first -/
def be8 (n : Nat) : List (BitVec 8) :=
  [BitVec.ofNat 8 (n / 2 ^ 56), BitVec.ofNat 8 (n / 2 ^ 48), BitVec.ofNat 8 (n / 2 ^ 40), BitVec.ofNat 8 (n / 2 ^ 32),
   BitVec.ofNat 8 (n / 2 ^ 24), BitVec.ofNat 8 (n / 2 ^ 16), BitVec.ofNat 8 (n / 2 ^ 8), BitVec.ofNat 8 n]
/-- how many bytes 0 -/
def zeros (n : Nat) : Nat := (119 - n % 64) % 64
def padded (m : List (BitVec 8)) : List (BitVec 8) := m ++ [128] ++ List.replicate (zeros m.length) 0 ++ be8 (8 * m.length)
def wordBytes (x : BitVec 32) : List (BitVec 8) := [(x >>> 24).setWidth 8, (x >>> 16).setWidth 8, (x >>> 8).setWidth 8, x.setWidth 8]
/-- SHA-256 -/
def sha (m : List (BitVec 8)) : List (BitVec 8) :=
  (mixAll ((m.length + 72) / 64) hTab (padded m)).list.flatMap wordBytes
end Go.Proofs.YtbjlfhabnjpdmaaGreatDoor
namespace Go.Proofs.YtbjlfhabnjpdmaaGreatDoor

section
variable {P : Program} {ops : Array Oper} {md : Region.Mode} {C : World → Prop}



/-- each of the first n operations, from the m-th on, is waited for by one behind it, up to n -/
def sinkFrom (md : Region.Mode) (ops : Array Oper) (m n : Nat) : Bool :=
  (List.range n).all fun i => decide (i < m) || (List.range (n + 1)).any fun j => decide (i < j) && Region.waitsFor md ops j i

theorem sinkFrom_spec {m n i : Nat} (hs : sinkFrom md ops m n = true) (hm : m ≤ i) (hi : i < n) : ∃ j oj, i < j ∧ j ≤ n ∧ ops[j]? = some oj ∧ ∃ e ∈ oj.after, Region.binds md e = true ∧ e.on = i := by
  have h1 := List.all_eq_true.1 hs i (List.mem_range.2 hi)
  simp only [Bool.or_eq_true, decide_eq_true_eq] at h1
  rcases h1 with h1 | h1
  · omega
  · obtain ⟨j, hj, hj2⟩ := List.any_eq_true.1 h1
    simp only [Bool.and_eq_true, decide_eq_true_eq] at hj2
    obtain ⟨oj, hoj, e, he, hb, hon⟩ := Region.waitsFor_spec hj2.2
    exact ⟨j, oj, hj2.1, by have := List.mem_range.1 hj; omega, hoj, e, he, hb, hon⟩

theorem waits_from {m n : Nat} {s : Array Bool} (hs : sinkFrom md ops m n = true) (hc : Region.chainB md ops n = true) (hn : n < ops.size) (inv : HeadInv md ops n s) (d : Nat) :
    ∀ i, n - i = d → m ≤ i → i < n → s.getD i true = false → ∀ t, n ≤ t → t ∉ Region.ready md ops s := by
  induction d using Nat.strongRecOn with
  | _ d ih =>
    intro i hd hmi hi hun t ht hr
    obtain ⟨_, ot, hot, hall⟩ := mem_ready.1 hr
    have htlt : t < ops.size := (Array.getElem?_eq_some_iff.1 hot).1
    by_cases htn : t = n
    · subst htn
      obtain ⟨j, oj, hij, hjt, hoj, e, he, hb, hon⟩ := sinkFrom_spec hs hmi hi
      by_cases q : j = t
      · subst q
        obtain rfl : oj = ot := Option.some.inj (hoj.symm.trans hot)
        have h2 := hall e he hb
        rw [hon, getD_both hun] at h2
        cases h2
      · cases hl : s.getD j false with
        | true =>
          have h2 := inv.closed j oj hoj hl e he hb
          rw [hon, getD_both hun] at h2
          cases h2
        | false => exact ih (t - j) (by omega) j rfl (by omega) (by omega) (getD_in (by rw [inv.size]; omega) hl) t (Nat.le_refl _) hr
    · have h1 := List.all_eq_true.1 hc t (List.mem_range.2 htlt)
      simp only [Bool.or_eq_true, decide_eq_true_eq] at h1
      rcases h1 with h1 | h1
      · omega
      · obtain ⟨o', ho', e, he, hb, hon⟩ := Region.waitsFor_spec h1
        obtain rfl : o' = ot := Option.some.inj (ho'.symm.trans hot)
        have h2 := hall e he hb
        rw [hon, getD_both (inv.tail (t - 1) (by omega) (by omega))] at h2
        cases h2





end
end Go.Proofs.YtbjlfhabnjpdmaaGreatDoor
namespace Go.Proofs.YtbjlfhabnjpdmaaGreatDoor
open Go.RowKit

theorem getD_some {α : Type} (l : List α) (i : Nat) (d : α) (h : i < l.length) : l[i]? = some (l.getD i d) := by simp [h]
theorem hid {p : Prop} (h : p) : Hid p := h
/-- a region that draws its order and only reads, walked once, in the text's order -/
theorem region_still {P : Program} {id : Nat} {Q : Exit → Act → World → Prop} {a : Act} {w : World} {l : List Oper} (hm : P.follows .mixedOrders = true) (hB : Region.lexB .any l.toArray = true)
    (h : wpStill P l.toArray w.drew (fun a' => Q .normal a' w.drew) l a) : (Code.region id l.toArray true).wp P Q a w := wp_region_still_lit hm hB h
theorem grown_trans {w w1 w2 : World} {r : Option Nat} (h : w.grownBy w1 r) (k : w1.grownBy w2 r) : w.grownBy w2 r :=
  ⟨k.os.trans h.os, k.tape.trans h.tape, k.output.trans h.output, Nat.le_trans h.size k.size, fun i hi hr => (k.block i (Nat.lt_of_lt_of_le hi h.size) hr).trans (h.block i hi hr)⟩

theorem grown_set (w : World) (g i : Nat) (v : Value) : w.grownBy (w.setCell ⟨g, i, none⟩ v) (some g) :=
  ⟨rfl, rfl, rfl, by simp [World.setCell], fun j _ hne => heap_setCell_other _ _ _ _ (fun e => hne (by rw [e]))⟩
theorem grown_refl (w : World) (r : Option Nat) : w.grownBy w r := ⟨rfl, rfl, rfl, Nat.le_refl _, fun _ _ _ => rfl⟩

theorem cells_new (w : World) (l : List Value) (t : TypeId) : ∀ (j : Nat) (x : Value), l[j]? = some x → (w.alloc (.cells l.toArray t)).cell? ((⟨w.heap.size, 0, none⟩ : Addr).add j) = some x := by
  intro j x h
  have hadd : (⟨w.heap.size, 0, none⟩ : Addr).add j = ⟨w.heap.size, j, none⟩ := by unfold Addr.add; split <;> simp_all
  rw [hadd, cell_of_row _ _ _ _ _ _ (heap_alloc_new w _)]
  simpa using h

/-- a word's cell -/
def U (x : BitVec 32) : Value := .int .u32 (u x)
/-- a byte's cell -/
def V (x : BitVec 8) : Value := .int .u8 (b8 x)

/-- block g is a row of these cells, not frozen -/
def Row (w : World) (g : Nat) (t : TypeId) (cs : List Value) : Prop := w.heap[g]? = some (.cells cs.toArray t (0, 0))
theorem Row.cell {w : World} {g : Nat} {t : TypeId} {cs : List Value} (h : Row w g t cs) (i : Nat) : w.cell? ⟨g, i, none⟩ = cs[i]? := by
  rw [cell_of_row w g i _ t _ h]; simp
theorem Row.frozen {w : World} {g : Nat} {t : TypeId} {cs : List Value} (h : Row w g t cs) (i : Nat) : w.frozen? ⟨g, i, none⟩ = false :=
  frozen_of_row w g i _ t h
theorem Row.lt {w : World} {g : Nat} {t : TypeId} {cs : List Value} (h : Row w g t cs) : g < w.heap.size :=
  (Array.getElem?_eq_some_iff.1 h).1
theorem Row.set {w : World} {g : Nat} {t : TypeId} {cs : List Value} (h : Row w g t cs) (i : Nat) (v : Value) : Row (w.setCell ⟨g, i, none⟩ v) g t (cs.set i v) := by
  unfold Row
  rw [heap_setCell_same w g i _ t v h]; simp
theorem Row.other {w : World} {g : Nat} {t : TypeId} {cs : List Value} (h : Row w g t cs) {a : Addr} (v : Value) (hne : g ≠ a.block) : Row (w.setCell a v) g t cs := by
  unfold Row; rw [heap_setCell_other _ _ _ _ hne]; exact h
theorem Row.drewN {w : World} {g : Nat} {t : TypeId} {cs : List Value} (h : Row w g t cs) (n : Nat) : Row (w.drewN n) g t cs := h
theorem Row.drew {w : World} {g : Nat} {t : TypeId} {cs : List Value} (h : Row w g t cs) : Row w.drew g t cs := h
theorem Row.grown {w w' : World} {g : Nat} {t : TypeId} {cs : List Value} (h : Row w g t cs) {r : Option Nat} (hg : w.grownBy w' r) (hne : some g ≠ r) : Row w' g t cs := by
  unfold Row; rw [hg.block g h.lt hne]; exact h
theorem Row.below {w w' : World} {g B : Nat} {t : TypeId} {cs : List Value} (h : Row w g t cs) (hg : Below B w w') (hB : g < B) : Row w' g t cs := by
  unfold Row; rw [hg.block g hB]; exact h
theorem Row.alloc {w : World} {g : Nat} {t : TypeId} {cs : List Value} (h : Row w g t cs) (o : Obj) : Row (w.alloc o) g t cs := by
  unfold Row; exact (Below.heap_alloc w o g h.lt).trans h
theorem Row.new (w : World) (t : TypeId) (cs : List Value) : Row (w.alloc (.cells cs.toArray t)) w.heap.size t cs := heap_alloc_new _ _
theorem Row.newAt (w : World) (t : TypeId) (cs : List Value) (g : Nat) (h : g = w.heap.size) : Row (w.alloc (.cells cs.toArray t)) g t cs := by subst h; exact heap_alloc_new _ _
end Go.Proofs.YtbjlfhabnjpdmaaGreatDoor
namespace Go.Proofs.YtbjlfhabnjpdmaaGreatDoor
open Go.RowKit

/-- sv is a slice that reads as l, nil, empty or neither; its cells lie below block number N -/
def Bytes (w : World) (N : Nat) (sv : Value) (l : List (BitVec 8)) : Prop :=
  (sv = .slice none 0 0 ∧ l = []) ∨ (∃ a cap, sv = .slice (some a) 0 cap ∧ l = []) ∨ ∃ b off cap, sv = .slice (some ⟨b, off, none⟩) l.length cap ∧ l.length ≤ cap ∧ ∀ i, i < l.length → b < N ∧ w.cell? ⟨b, off + i, none⟩ = some (.int .u8 (b8 (l.getD i 0)))
theorem Bytes.grown {w w' : World} {N B : Nat} {sv : Value} {l : List (BitVec 8)} (h : Bytes w N sv l) (hg : w.grownBy w' (some B)) (hN : N ≤ B) (hw : N ≤ w.heap.size) : Bytes w' N sv l := by
  rcases h with h | h | ⟨b, off, cap, h1, h2, h3⟩
  · exact .inl h
  · exact .inr (.inl h)
  · refine .inr (.inr ⟨b, off, cap, h1, h2, fun i hi => ⟨(h3 i hi).1, ?_⟩⟩)
    have := (h3 i hi).1
    rw [← (h3 i hi).2]
    exact World.cell?_of_block (hg.block b (by omega) (by simp; omega))
theorem Bytes.below {w w' : World} {N : Nat} {sv : Value} {l : List (BitVec 8)} (h : Bytes w N sv l) (hg : Below N w w') : Bytes w' N sv l := by
  rcases h with h | h | ⟨b, off, cap, h1, h2, h3⟩
  · exact .inl h
  · exact .inr (.inl h)
  · refine .inr (.inr ⟨b, off, cap, h1, h2, fun i hi => ⟨(h3 i hi).1, ?_⟩⟩)
    rw [← (h3 i hi).2]
    exact hg.cell (h3 i hi).1
theorem Bytes.mono {w : World} {N M : Nat} {sv : Value} {l : List (BitVec 8)} (h : Bytes w N sv l) (hN : N ≤ M) : Bytes w M sv l := by
  rcases h with h | h | ⟨b, off, cap, h1, h2, h3⟩
  · exact .inl h
  · exact .inr (.inl h)
  · exact .inr (.inr ⟨b, off, cap, h1, h2, fun i hi => ⟨Nat.lt_of_lt_of_le (h3 i hi).1 hN, (h3 i hi).2⟩⟩)
/-- what is left behind the first n -/
theorem Bytes.tail {w : World} {N : Nat} {l : List (BitVec 8)} (b off cap n : Nat) (hn : n ≤ l.length) (hc : l.length ≤ cap)
    (h : ∀ i, i < l.length → b < N ∧ w.cell? ⟨b, off + i, none⟩ = some (.int .u8 (b8 (l.getD i 0)))) :
    Bytes w N (.slice (some ⟨b, off + n, none⟩) (l.length - n) (cap - n)) (l.drop n) := by
  refine .inr (.inr ⟨b, off + n, cap - n, by simp, by simp; omega, fun i hi => ?_⟩)
  simp at hi
  have := h (n + i) (by omega)
  refine ⟨this.1, ?_⟩
  rw [Nat.add_assoc, this.2]
  simp

theorem Bytes.shape {w : World} {N : Nat} {sv : Value} {l : List (BitVec 8)} (h : Bytes w N sv l) : ∃ oa cap, sv = .slice oa l.length cap ∧ l.length ≤ cap := by
  rcases h with ⟨rfl, rfl⟩ | ⟨a, cap, rfl, rfl⟩ | ⟨b, off, cap, rfl, hc, _⟩
  · exact ⟨none, 0, rfl, Nat.le_refl _⟩
  · exact ⟨_, cap, rfl, Nat.zero_le _⟩
  · exact ⟨_, cap, rfl, hc⟩
theorem Bytes.some {w : World} {N : Nat} {oa : Option Addr} {cap : Nat} {l : List (BitVec 8)} (h : Bytes w N (.slice oa l.length cap) l) (hl : 0 < l.length) :
    ∃ b off, oa = some ⟨b, off, none⟩ ∧ ∀ i, i < l.length → b < N ∧ w.cell? ⟨b, off + i, none⟩ = some (.int .u8 (b8 (l.getD i 0))) := by
  rcases h with ⟨_, rfl⟩ | ⟨_, _, _, rfl⟩ | ⟨b, off, c, h1, _, h3⟩
  · simp at hl
  · simp at hl
  · simp at h1
    exact ⟨b, off, h1.1, h3⟩
/-- what a call owns reads as bytes -/
theorem ownsRow_bytes {w : World} {base n : Nat} {v : Value} {l : List (BitVec 8)} (h : w.ownsRow base 5 1 v n (l.map V)) : Bytes w w.heap.size v l := by
  obtain ⟨h1, h2⟩ := h
  have hl : l.length = n := by simpa using h1
  subst hl
  rcases h2 with ⟨rfl, h3⟩ | ⟨g, cap, cur, rfl, _, hg, hn, _, hc, hx⟩
  · exact .inl ⟨rfl, List.length_eq_zero_iff.1 h3⟩
  · refine .inr (.inr ⟨g, 0, cap, rfl, hn, fun i hi => ⟨(Array.getElem?_eq_some_iff.1 hg).1, ?_⟩⟩)
    rw [Nat.zero_add, cell_of_row w g i cur _ _ hg]
    have h4 : (cur.toList.take (l.length * 1))[i]? = (l.map V)[i]? := by rw [hx]
    rw [Nat.mul_one, List.getElem?_take, if_pos hi] at h4
    rw [← Array.getElem?_toList, h4, List.getElem?_map, getD_some l i 0 hi]
    rfl
/-- a slice that reads as l, as a source of cells -/
theorem bytes_source {w : World} {N : Nat} {x : Value} {l : List (BitVec 8)} (h : Bytes w N x l) :
    (x = .slice none 0 0 ∧ l = []) ∨ ∃ ad cap, x = .slice (some ad) l.length cap ∧ ∀ j v, (l.map V)[j]? = some v → w.cell? (ad.add j) = some v := by
  rcases h with h | ⟨a, cap, rfl, rfl⟩ | ⟨b, off, cap, rfl, _, hc⟩
  · exact .inl h
  · exact .inr ⟨a, cap, rfl, fun j v hv => by simp at hv⟩
  · refine .inr ⟨_, cap, rfl, fun j v hv => ?_⟩
    have hj : j < l.length := by have := (List.getElem?_eq_some_iff.1 hv).1; simpa using this
    have hadd : (⟨b, off, none⟩ : Addr).add j = ⟨b, off + j, none⟩ := by unfold Addr.add; split <;> simp_all
    rw [hadd, (hc j hj).2, ← hv, List.getElem?_map, getD_some l j 0 hj]
    rfl

theorem ownsRow_shape {w : World} {base e n : Nat} {v : Value} {xs : List Value} (h : w.ownsRow base e 1 v n xs) : ∃ oa cap, v = .slice oa n cap ∧ n ≤ cap ∧
    (0 < n → ∃ g, oa = some ⟨g, 0, none⟩ ∧ base ≤ g ∧ g < w.heap.size ∧ ∀ j, j < n → w.cell? ⟨g, j, none⟩ = xs[j]? ∧ w.frozen? ⟨g, j, none⟩ = false) := by
  obtain ⟨h1, h2⟩ := h
  rcases h2 with ⟨rfl, rfl⟩ | ⟨g, cap, cur, rfl, hb, hg, hc, _, hs, hx⟩
  · exact ⟨none, 0, rfl, Nat.le_refl _, fun h => absurd h (by omega)⟩
  · refine ⟨_, cap, rfl, hc, fun _ => ⟨g, rfl, hb, (Array.getElem?_eq_some_iff.1 hg).1, fun j hj => ⟨?_, frozen_of_row w g j cur e hg⟩⟩⟩
    rw [cell_of_row w g j cur _ _ hg, ← hx, Nat.mul_one, List.getElem?_take, if_pos hj, Array.getElem?_toList]
/-- bytes in a new block, of whatever frozen range -/
theorem bytes_new (w : World) (l : List (BitVec 8)) (t : TypeId) (fr : Nat × Nat) (cap : Nat) (hc : l.length ≤ cap) : Bytes (w.alloc (.cells (l.map V).toArray t fr)) (w.heap.size + 1) (.slice (some ⟨w.heap.size, 0, none⟩) l.length cap) l := by
  refine .inr (.inr ⟨w.heap.size, 0, cap, rfl, hc, fun i hi => ⟨by omega, ?_⟩⟩)
  rw [cell_of_row _ _ _ _ _ _ (heap_alloc_new w _), Nat.zero_add]
  simp only [List.getElem?_toArray, List.getElem?_map]
  rw [getD_some l i 0 hi]
  rfl
theorem info_u8 : (Tryz.prog.info? 5).map (fun i => (i.zero, i.size, i.bytes)) = some (some (.int .u8 0), 1, 1) := by kernel_rfl
/-- append of what a slice reads as, nil or not, onto what the call owns -/
theorem wpList_append_bytes {ops : Array Oper} {rest : List Oper} {o : Oper} {a : Act} {w : World} {Q : Exit → Act → World → Prop} (hgd : o.guard = none) (s x : Operand)
    (ho : o.op = .call { callee := .builtin .append, args := #[s, x], argTypes := #[29, 29] })
    (base : Nat) (v : Value) (n : Nat) (xs : List Value) (hs : a.eval s = v) (hown : w.ownsRow base 5 1 v n xs) (sv : Value) (l : List (BitVec 8)) (hx : a.eval x = sv) {N : Nat} (hb : Bytes w N sv l)
    (hle : n + l.length ≤ 140737488355328) (hbase : base ≤ w.heap.size)
    (h : ∀ v' w', w'.ownsRow base 5 1 v' (n + l.length) (xs ++ l.map V) → Below base w w' → wpList Tryz.prog ops Q rest (a.put o.dst v') w') : wpList Tryz.prog ops Q (o :: rest) a w := by
  obtain ⟨i0, hi0, hz0, hz1, hz2⟩ := info_parts info_u8
  rcases bytes_source hb with ⟨rfl, rfl⟩ | ⟨ad, cap, rfl, hsrc⟩
  · refine wpList_append_own_none hgd s x 29 ho base 5 i0 1 Tryz.underlying29 hi0 v n xs hs hown hx ?_
    exact h v w (by simpa using hown) (Below.refl _ _)
  · refine wpList_append_own w hgd s x 29 ho base 5 i0 (.int .u8 0) 1 1 Tryz.underlying29 hi0 hz0 hz1 hz2 rfl (by decide) v n xs hs hown ad l.length cap (l.map V) hx (by simp) hsrc
      (fun y hy => by obtain ⟨z, _, rfl⟩ := List.mem_map.1 hy; rfl) (by unfold maxLen; omega) (by omega) hbase ?_
    intro v' w' h1 h2 _
    exact h v' w' h1 ((Below.refl base w).grown h2 hbase (fun k hk => (hown.lt k hk).1))
end Go.Proofs.YtbjlfhabnjpdmaaGreatDoor
namespace Go.Proofs.YtbjlfhabnjpdmaaGreatDoor
open Go.RowKit

/-- blocks whose cells are not bytes are as they were -/
def Keeps (w w' : World) : Prop := ∀ (k : Nat) (cs : Array Value) (t : TypeId) (fr : Nat × Nat), w.heap[k]? = some (.cells cs t fr) → t ≠ 5 → w'.heap[k]? = w.heap[k]?
theorem Keeps.refl (w : World) : Keeps w w := fun _ _ _ _ _ _ => rfl
theorem Keeps.trans {w w1 w2 : World} (h : Keeps w w1) (k : Keeps w1 w2) : Keeps w w2 := fun i cs t fr hi ht => by
  have h1 := h i cs t fr hi ht
  exact (k i cs t fr (h1.trans hi) ht).trans h1
theorem Keeps.alloc (w : World) (o : Obj) : Keeps w (w.alloc o) := fun k _ _ _ hk _ => Below.heap_alloc w o k (Array.getElem?_eq_some_iff.1 hk).1
theorem Keeps.drewN {w w' : World} (h : Keeps w w') (n : Nat) : Keeps w (w'.drewN n) := h
theorem Keeps.row {w w' : World} (h : Keeps w w') {g : Nat} {t : TypeId} {cs : List Value} (hr : Row w g t cs) (ht : t ≠ 5) : Row w' g t cs := by
  unfold Row at *
  rw [h g _ t _ hr ht, hr]
/-- what is owned, with bytes in it -/
def OwnB (w : World) (base : Nat) (v : Value) (l : List (BitVec 8)) : Prop := w.ownsRow base 5 1 v l.length (l.map V)
theorem OwnB.nil (w : World) (base : Nat) : OwnB w base (.slice none 0 0) [] := World.ownsRow_nil w base 5 1
theorem OwnB.bytes {w : World} {base : Nat} {v : Value} {l : List (BitVec 8)} (h : OwnB w base v l) : Bytes w w.heap.size v l := ownsRow_bytes h
theorem OwnB.keep {w w' : World} {base : Nat} {v : Value} {l : List (BitVec 8)} (h : OwnB w base v l) (hk : ∀ g, base ≤ g → w'.heap[g]? = w.heap[g]?) : OwnB w' base v l := by
  obtain ⟨h1, h2⟩ := h
  refine ⟨h1, ?_⟩
  rcases h2 with h2 | ⟨g, cap, cur, h3, h4, h5, h6⟩
  · exact .inl h2
  · exact .inr ⟨g, cap, cur, h3, h4, (hk g h4).trans h5, h6⟩
theorem OwnB.mono {w : World} {base base' : Nat} {v : Value} {l : List (BitVec 8)} (h : OwnB w base v l) (hb : base' ≤ base) : OwnB w base' v l := by
  obtain ⟨h1, h2⟩ := h
  refine ⟨h1, ?_⟩
  rcases h2 with h2 | ⟨g, cap, cur, h3, h4, h5⟩
  · exact .inl h2
  · exact .inr ⟨g, cap, cur, h3, Nat.le_trans hb h4, h5⟩
theorem OwnB.shape {w : World} {base : Nat} {v : Value} {l : List (BitVec 8)} (h : OwnB w base v l) : ∃ oa cap, v = .slice oa l.length cap ∧ l.length ≤ cap := by
  obtain ⟨oa, cap, h1, h2, _⟩ := ownsRow_shape h
  exact ⟨oa, cap, h1, h2⟩
theorem OwnB.alloc {w : World} {base : Nat} {v : Value} {l : List (BitVec 8)} (h : OwnB w base v l) (o : Obj) : OwnB (w.alloc o) base v l := World.ownsRow.alloc h _
theorem OwnB.drewN {w : World} {base : Nat} {v : Value} {l : List (BitVec 8)} (h : OwnB w base v l) (n : Nat) : OwnB (w.drewN n) base v l := h
theorem Bytes.drewN {w : World} {N : Nat} {v : Value} {l : List (BitVec 8)} (h : Bytes w N v l) (n : Nat) : Bytes (w.drewN n) N v l := h.below ⟨rfl, rfl, rfl, Nat.le_refl _, fun _ _ => rfl⟩

theorem wp_append_keep {o : Oper} {a : Act} {w : World} {K : Act → World → Prop} {Q : Exit → Act → World → Prop} (s x : Operand)
    (ho : o.op = .call { callee := .builtin .append, args := #[s, x], argTypes := #[29, 29] })
    (base : Nat) (v : Value) (m : List (BitVec 8)) (hs : a.eval s = v) (hown : OwnB w base v m) (sv : Value) (l : List (BitVec 8)) (hx : a.eval x = sv) {N : Nat} (hb : Bytes w N sv l)
    (hle : m.length + l.length ≤ 140737488355328) (hbase : base ≤ w.heap.size)
    (h : ∀ v' w', OwnB w' base v' (m ++ l) → Below base w w' → Keeps w w' → K (a.put o.dst v') w') : o.wp Tryz.prog a w K Q := by
  obtain ⟨i0, hi0, hz0, hz1, hz2⟩ := info_parts info_u8
  rcases bytes_source hb with ⟨rfl, rfl⟩ | ⟨ad, cap, rfl, hsrc⟩
  · have hrun := run_append_owned_none (P := Tryz.prog) (w := w) base 29 o.type 5 i0 1 Tryz.underlying29 hi0 v m.length (m.map V) hown
    unfold Oper.wp
    simp [execOp, ho, resolve, invoke, builtin, hs, hx, hrun, Result.andThen]
    exact h v w (by simpa using hown) (Below.refl _ _) (Keeps.refl _)
  · refine wp_append_own w s x 29 ho base 5 i0 (.int .u8 0) 1 1 Tryz.underlying29 hi0 hz0 hz1 hz2 rfl (by decide) v m.length (m.map V) hs hown ad l.length cap (l.map V) hx (by simp) hsrc
      (fun y hy => by obtain ⟨z, _, rfl⟩ := List.mem_map.1 hy; rfl) (by unfold maxLen; omega) (by omega) hbase ?_
    intro v' w' h1 h2 _
    refine h v' w' ?_ ((Below.refl base w).grown h2 hbase (fun k hk => (hown.lt k hk).1)) ?_
    · unfold OwnB
      rw [List.length_append, List.map_append]
      exact h1
    · intro k cs t fr hk ht
      refine h2.block k (Array.getElem?_eq_some_iff.1 hk).1 ?_
      intro he
      obtain ⟨_, h4⟩ := hown
      rcases h4 with ⟨rfl, _⟩ | ⟨g, c, cur, rfl, _, hg, _⟩
      · simp [Value.ownBlock] at he
      · obtain rfl : k = g := by simpa [Value.ownBlock] using he
        rw [hg] at hk
        simp at hk
        exact ht hk.2.1.symm
theorem wpList_append_keep {ops : Array Oper} {rest : List Oper} {o : Oper} {a : Act} {w : World} {Q : Exit → Act → World → Prop} (hgd : o.guard = none) (s x : Operand)
    (ho : o.op = .call { callee := .builtin .append, args := #[s, x], argTypes := #[29, 29] })
    (base : Nat) (v : Value) (m : List (BitVec 8)) (hs : a.eval s = v) (hown : OwnB w base v m) (sv : Value) (l : List (BitVec 8)) (hx : a.eval x = sv) {N : Nat} (hb : Bytes w N sv l)
    (hle : m.length + l.length ≤ 140737488355328) (hbase : base ≤ w.heap.size)
    (h : ∀ v' w', OwnB w' base v' (m ++ l) → Below base w w' → Keeps w w' → wpList Tryz.prog ops Q rest (a.put o.dst v') w') : wpList Tryz.prog ops Q (o :: rest) a w :=
  wpList_plain hgd fun _ hK => wp_append_keep s x ho base v m hs hown sv l hx hb hle hbase fun v' w' h1 h2 h3 => hK _ _ (h v' w' h1 h2 h3)
theorem step_append_keep {ops : Array Oper} {o : Oper} {a : Act} {w : World} {K : Act → World → Prop} {Q : Exit → Act → World → Prop} {E : Prop} (hgd : o.guard = none) (s x : Operand)
    (ho : o.op = .call { callee := .builtin .append, args := #[s, x], argTypes := #[29, 29] })
    (base : Nat) (v : Value) (m : List (BitVec 8)) (hs : a.eval s = v) (hown : OwnB w base v m) (sv : Value) (l : List (BitVec 8)) (hx : a.eval x = sv) {N : Nat} (hb : Bytes w N sv l)
    (hle : m.length + l.length ≤ 140737488355328) (hbase : base ≤ w.heap.size)
    (h : ∀ v' w', OwnB w' base v' (m ++ l) → Below base w w' → Keeps w w' → K (a.put o.dst v') w') : if Region.wanted o (yielded ops a.tmps) = true then Oper.wp Tryz.prog o a w K Q else E := by
  have hw : Region.wanted o (yielded ops a.tmps) = true := by simp [Region.wanted, hgd]
  rw [if_pos hw]
  exact wp_append_keep s x ho base v m hs hown sv l hx hb hle hbase h
/-- append of one letter, in a row of its own, onto what is owned -/
theorem wpList_append_one {ops : Array Oper} {rest : List Oper} {o : Oper} {a : Act} {wr : World} {Q : Exit → Act → World → Prop} (hgd : o.guard = none) (s x : Operand)
    (ho : o.op = .call { callee := .builtin .append, args := #[s, x], argTypes := #[29, 29] })
    (base : Nat) (v : Value) (m : List (BitVec 8)) (hs : a.eval s = v) (hown : OwnB wr base v m) (y : Int) (b : BitVec 8) (hy : y = b8 b) (hx : a.eval x = .slice (some ⟨wr.heap.size, 0, none⟩) 1 1)
    (hl : m.length ≤ 140737488355000) (hbase : base ≤ wr.heap.size)
    (h : ∀ v' w', OwnB w' base v' (m ++ [b]) → Below base wr w' → Keeps wr w' → wpList Tryz.prog ops Q rest (a.put o.dst v') w') : wpList Tryz.prog ops Q (o :: rest) a (wr.alloc (.cells #[.int .u8 y] 5)) := by
  subst hy
  have hsz : (wr.alloc (.cells #[.int .u8 (b8 b)] 5)).heap.size = wr.heap.size + 1 := by simp
  have hb := bytes_new wr [b] 5 (0, 0) 1 (by simp)
  refine wpList_append_keep hgd s x ho base v m hs (OwnB.alloc hown _) _ [b] hx hb (by simp; omega) (by omega) ?_
  intro v' w' h1 h2 h3
  exact h v' w' h1 (((Below.refl base wr).alloc hbase _).trans h2) ((Keeps.alloc _ _).trans h3)
end Go.Proofs.YtbjlfhabnjpdmaaGreatDoor
namespace Go.Proofs.YtbjlfhabnjpdmaaGreatDoor
open Go.RowKit




end Go.Proofs.YtbjlfhabnjpdmaaGreatDoor
namespace Go.Proofs.YtbjlfhabnjpdmaaGreatDoor
open Go.RowKit


end Go.Proofs.YtbjlfhabnjpdmaaGreatDoor
namespace Go.Proofs.YtbjlfhabnjpdmaaGreatDoor
open Go.RowKit

end Go.Proofs.YtbjlfhabnjpdmaaGreatDoor
namespace Go.Proofs.YtbjlfhabnjpdmaaGreatDoor
open Go.RowKit

def okV : Value := .agg #[.int .i64 0, .int .i64 0]
def faultV (c : Int) (i : Nat) : Value := .agg #[.int .i64 c, .int .i64 (i : Int)]
theorem Row.two {w : World} {g : Nat} {t : TypeId} {a b : Value} (h : Row w g t [a, b]) :
    w.cell? ⟨g, 0, none⟩ = some a ∧ w.cell? ⟨g, 1, none⟩ = some b ∧ w.frozen? ⟨g, 0, none⟩ = false ∧ w.frozen? ⟨g, 1, none⟩ = false :=
  ⟨h.cell 0, h.cell 1, h.frozen 0, h.frozen 1⟩
theorem Row.set2 {w : World} {g : Nat} {t : TypeId} {a b : Value} (h : Row w g t [a, b]) (x y : Value) :
    ((w.setCell ⟨g, 0, none⟩ x).setCell ⟨g, 1, none⟩ y).cell? ⟨g, 0, none⟩ = some x ∧
    ((w.setCell ⟨g, 0, none⟩ x).setCell ⟨g, 1, none⟩ y).cell? ⟨g, 1, none⟩ = some y :=
  have h3 := (h.set 0 x).set 1 y
  ⟨h3.cell 0, h3.cell 1⟩
theorem below_set2 {B : Nat} {a w : World} (h : Below B a w) {g : Nat} (hg : B ≤ g) (x y : Value) : Below B a ((w.setCell ⟨g, 0, none⟩ x).setCell ⟨g, 1, none⟩ y) :=
  (h.setCell hg _).setCell hg _
end Go.Proofs.YtbjlfhabnjpdmaaGreatDoor
namespace Go.Proofs.YtbjlfhabnjpdmaaGreatDoor
open Go.ChangeShapes Go.WideShapes Go.ChangeAt Go.RowKit

set_option maxRecDepth 100000 in
/-- an argument that is a slice of bytes: its letters -/
theorem bytes_read_len {H : Type} {enc : TypeId × Value → H} {W : World} {fuel : Nat} {a0 : Option Addr} {len0 cap0 : Nat} {x : DataW H × List MemPlace}
    (hf : DataW.trod enc Tryz.prog W 0 (fun _ => true) true fuel 29 (Value.slice a0 len0 cap0).cells.toList = some x)
    (hsz : ∀ elems spare, x.1 = .slice elems spare → (elems.length + spare.length) * Tryz.prog.bytesOf 5 ≤ reachBytes) :
    ∃ l, Bytes W W.heap.size (.slice a0 len0 cap0) l ∧ l.length ≤ 140737488351232 := by
  rcases open_ints Tryz.underlying29 Tryz.underlying5 (by kernel_rfl) hf with ⟨hcs, _⟩ | ⟨a, len, cap, zs, hcs, _, hl, hm, hz, hx, hcell, hwz⟩
  · simp [Value.cells] at hcs
    obtain ⟨rfl, rfl, rfl⟩ := hcs
    exact ⟨[], .inl ⟨rfl, rfl⟩, by simp⟩
  · simp [Value.cells] at hcs
    obtain ⟨rfl, rfl, rfl⟩ := hcs
    have hz' : zs.length = cap0 := by simpa using hz
    have hb : Tryz.prog.bytesOf 5 = 1 := by kernel_rfl
    have hr := hsz _ _ (by rw [hx])
    rw [hb, Nat.mul_one] at hr
    simp [lits, reachBytes] at hr
    refine ⟨(zs.take len0).map (BitVec.ofInt 8), ?_, by simp; omega⟩
    by_cases h0 : len0 = 0
    · subst h0
      exact .inr (.inl ⟨a, cap0, rfl, by simp⟩)
    · obtain ⟨b, off, spot⟩ := a
      have hc := hcell 0 (by omega)
      have hspot : spot = none := by simpa [Addr.add] using World.cell?_spot hc
      subst hspot
      have hlen : ((zs.take len0).map (BitVec.ofInt 8)).length = len0 := by simp; omega
      refine .inr (.inr ⟨b, off, cap0, by rw [hlen], by rw [hlen]; exact hl, fun i hi => ?_⟩)
      rw [hlen] at hi
      have hci := hcell i (by omega)
      have hadd : (⟨b, off, none⟩ : Addr).add i = ⟨b, off + i, none⟩ := by unfold Addr.add; split <;> simp_all
      rw [hadd] at hci
      refine ⟨block_lt_of_cell hci, ?_⟩
      rw [hci]
      have hzi : i < zs.length := by omega
      have hw := hwz (zs.getD i 0) (by simp [hzi])
      have hbd : 0 ≤ zs.getD i 0 ∧ zs.getD i 0 ≤ 255 := by simpa [Lit.wf, IntKind.min, IntKind.max, IntKind.signed, IntKind.bits] using hw
      have e : ((zs.take len0).map (BitVec.ofInt 8)).getD i 0 = BitVec.ofInt 8 (zs.getD i 0) := by
        simp [hi, hzi]
      rw [e]
      unfold b8
      rw [BitVec.toNat_ofInt]
      congr 2
      omega
end Go.Proofs.YtbjlfhabnjpdmaaGreatDoor
namespace Go.Proofs.YtbjlfhabnjpdmaaGreatDoor
open Go.RowKit

/-- cells set from a place on -/
def putL (cs : List Value) (o : Nat) (vs : List Value) : List Value := cs.take o ++ vs ++ cs.drop (o + vs.length)
theorem putL_length (cs : List Value) (o : Nat) (vs : List Value) (h : o + vs.length ≤ cs.length) : (putL cs o vs).length = cs.length := by
  unfold putL
  simp
  omega
theorem putL_cons (cs : List Value) (o : Nat) (v : Value) (r : List Value) (h : o + (v :: r).length ≤ cs.length) : putL cs o (v :: r) = putL (cs.set o v) (o + 1) r := by
  have ho : o < cs.length := by simp at h; omega
  unfold putL
  have e1 : (cs.set o v).take (o + 1) = cs.take o ++ [v] := by
    rw [List.take_succ_eq_append_getElem (by simpa using ho), List.take_set_of_le (Nat.le_refl _)]
    simp
  have e2 : (cs.set o v).drop (o + 1 + r.length) = cs.drop (o + 1 + r.length) := List.drop_set_of_lt (by omega)
  rw [e1, e2, List.length_cons, show o + (r.length + 1) = o + 1 + r.length by omega]
  simp
theorem putL_take (cs : List Value) (o : Nat) (vs : List Value) (ho : o ≤ cs.length) (M : Nat) (hM : o + vs.length ≤ M) : (putL cs o vs).take M = cs.take o ++ vs ++ (cs.drop (o + vs.length)).take (M - (o + vs.length)) := by
  unfold putL
  have e : (cs.take o ++ vs).length = o + vs.length := by simp; omega
  rw [List.take_append, e, List.take_of_length_le (by rw [e]; exact hM)]
theorem Row.setCells {g : Nat} {t : TypeId} : ∀ (vs : List Value) (o : Nat) (w : World) (cs : List Value), Row w g t cs → o + vs.length ≤ cs.length → Row (w.setCells g o vs) g t (putL cs o vs)
  | [], o, w, cs, h, _ => by
    have : putL cs o [] = cs := by simp [putL]
    rw [this]
    exact h
  | v :: r, o, w, cs, h, hl => by
    rw [putL_cons cs o v r hl]
    exact Row.setCells r (o + 1) _ _ (h.set o v) (by simp at hl ⊢; omega)
theorem grown_setCells (g : Nat) : ∀ (vs : List Value) (o : Nat) (w : World), w.grownBy (w.setCells g o vs) (some g)
  | [], _, w => grown_refl w _
  | v :: r, o, w => grown_trans (grown_set w g o v) (grown_setCells g r (o + 1) _)
theorem ownsRow_belowR {w w' : World} {base e size n : Nat} {v : Value} {xs : List Value} (h : w.ownsRow base e size v n xs) (hg : Below w.heap.size w w') : w'.ownsRow base e size v n xs := by
  obtain ⟨h1, h2⟩ := h
  refine ⟨h1, ?_⟩
  rcases h2 with h2 | ⟨g, cap, cur, h3, h4, h5, h6⟩
  · exact .inl h2
  · exact .inr ⟨g, cap, cur, h3, h4, (hg.block g (Array.getElem?_eq_some_iff.1 h5).1).trans h5, h6⟩
theorem flat_lenR {k : Nat} : ∀ (rs : List (List Value)), (∀ r ∈ rs, r.length = k) → rs.flatten.length = rs.length * k
  | [], _ => by simp
  | r :: rs, h => by
    rw [List.flatten_cons, List.length_append, flat_lenR rs (fun r hr => h r (List.mem_cons_of_mem _ hr)), h r List.mem_cons_self, List.length_cons, Nat.succ_mul]
    omega
theorem flat_dropR {k : Nat} : ∀ (rs : List (List Value)), (∀ r ∈ rs, r.length = k) → ∀ i, (rs.drop i).flatten = rs.flatten.drop (i * k)
  | [], _, i => by simp
  | r :: rs, h, 0 => by simp
  | r :: rs, h, i + 1 => by
    have hr := h r List.mem_cons_self
    rw [List.drop_succ_cons, flat_dropR rs (fun r hr => h r (List.mem_cons_of_mem _ hr)) i, List.flatten_cons, List.drop_append, show r.drop ((i + 1) * k) = [] from List.drop_eq_nil_of_le (by rw [hr, Nat.succ_mul]; omega), hr, List.nil_append, Nat.succ_mul, Nat.add_sub_cancel]
theorem flat_takeR {k : Nat} : ∀ (rs : List (List Value)), (∀ r ∈ rs, r.length = k) → ∀ i, (rs.take i).flatten = rs.flatten.take (i * k)
  | [], _, i => by simp
  | r :: rs, h, 0 => by simp
  | r :: rs, h, i + 1 => by
    have hr := h r List.mem_cons_self
    rw [List.take_succ_cons, List.flatten_cons, flat_takeR rs (fun r hr => h r (List.mem_cons_of_mem _ hr)) i, List.flatten_cons, List.take_append, List.take_of_length_le (l := r) (by rw [hr, Nat.succ_mul]; omega), hr, Nat.succ_mul, Nat.add_sub_cancel]
/-- the next record of a row is written -/
theorem putL_next {ps : List (List Value)} {k m : Nat} {z r : List Value} (h : ∀ r ∈ ps, r.length = k) (hz : z.length = k) (hr : r.length = k) : putL (ps ++ List.replicate (m + 1) z).flatten (ps.length * k) r = ((ps ++ [r]) ++ List.replicate m z).flatten := by
  have hl := flat_lenR ps h
  unfold putL
  rw [List.flatten_append, List.replicate_succ, List.flatten_cons, List.flatten_append, List.flatten_append, ← hl, List.take_append_of_le_length (Nat.le_refl _), List.take_length]
  rw [show ps.flatten.length + r.length = ps.flatten.length + z.length by rw [hr, hz], ← List.append_assoc, List.drop_append, List.drop_eq_nil_of_le (by simp)]
  simp
theorem madeCells_rows {z : Array Value} {k : Nat} (hz : z.size = k) (hk : 0 < k) : ∀ n, (List.replicate n z.toList).flatten = (madeCells z (n * k)).toList
  | 0 => by simp [madeCells]
  | n + 1 => by
    rw [List.replicate_succ', List.flatten_append, madeCells_rows hz hk n]
    apply List.ext_getElem?
    intro i
    have hsz : (madeCells z (n * k)).toList.length = n * k := by simp [madeCells]
    have hm : (n + 1) * k = n * k + k := Nat.succ_mul n k
    rcases Nat.lt_or_ge i (n * k) with h | h
    · rw [List.getElem?_append_left (by omega)]
      simp [madeCells, h, show i < (n + 1) * k by omega]
    · rw [List.getElem?_append_right (by omega), hsz]
      rcases Nat.lt_or_ge i ((n + 1) * k) with h2 | h2
      · have e1 : i % k = i - n * k := by
          have : i = (i - n * k) + k * n := by rw [Nat.mul_comm k n]; omega
          conv => lhs; rw [this]
          rw [Nat.add_mul_mod_self_left, Nat.mod_eq_of_lt (by omega)]
        simp [madeCells, h2, e1, hz]
        rw [Array.getElem?_eq_getElem (by omega)]
        simp [show i - n * k < z.size by omega]
      · rw [List.getElem?_eq_none (by simp [hz]; omega), List.getElem?_eq_none (by simp [madeCells]; omega)]
end Go.Proofs.YtbjlfhabnjpdmaaGreatDoor
