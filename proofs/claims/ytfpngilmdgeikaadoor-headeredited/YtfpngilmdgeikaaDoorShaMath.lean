/-
  Plain mathematics of SHA-256 over words of 32 bits (bit vectors): what the code and the document's answer both compute. No program is named here.
-/
import Derived.Laws.BitsAllLaws
namespace Go.Proofs.YtfpngilmdgeikaaDoor

/-- a word, as the model's integer -/
def u (x : BitVec 32) : Int := (x.toNat : Int)
/-- a byte, as the model's integer -/
def b8 (x : BitVec 8) : Int := (x.toNat : Int)

theorem u_lo (x : BitVec 32) : 0 ≤ u x := by unfold u; omega
theorem u_hi (x : BitVec 32) : u x < 4294967296 := by unfold u; have := x.isLt; omega
theorem b8_lo (x : BitVec 8) : 0 ≤ b8 x := by unfold b8; omega
theorem b8_hi (x : BitVec 8) : b8 x < 256 := by unfold b8; have := x.isLt; omega
theorem b8_inj {x y : BitVec 8} (h : b8 x = b8 y) : x = y := by
  unfold b8 at h; exact BitVec.eq_of_toNat_eq (by omega)

theorem ofInt32 (x : BitVec 32) : BitVec.ofInt 32 (u x) = x := by
  unfold u; apply BitVec.eq_of_toNat_eq; rw [ofInt_u32 _ x.isLt]
theorem wrap_nat32 (n : Nat) : IntKind.u32.wrap (n : Int) = ((n % 4294967296 : Nat) : Int) := by
  rw [IntKind.wrap_u32']; omega
theorem u_xor (x y : BitVec 32) : bits .xor .u32 (u x) (u y) = u (x ^^^ y) := by
  show IntKind.u32.wrap ((BitVec.ofInt 32 _ ^^^ BitVec.ofInt 32 _).toNat : Int) = _
  rw [ofInt32, ofInt32, wrap_nat32, Nat.mod_eq_of_lt (BitVec.isLt _)]; rfl
theorem u_and (x y : BitVec 32) : bits .and .u32 (u x) (u y) = u (x &&& y) := by
  show IntKind.u32.wrap ((BitVec.ofInt 32 _ &&& BitVec.ofInt 32 _).toNat : Int) = _
  rw [ofInt32, ofInt32, wrap_nat32, Nat.mod_eq_of_lt (BitVec.isLt _)]; rfl
theorem u_or (x y : BitVec 32) : bits .or .u32 (u x) (u y) = u (x ||| y) := by
  show IntKind.u32.wrap ((BitVec.ofInt 32 _ ||| BitVec.ofInt 32 _).toNat : Int) = _
  rw [ofInt32, ofInt32, wrap_nat32, Nat.mod_eq_of_lt (BitVec.isLt _)]; rfl
theorem u_andNot (x y : BitVec 32) : bits .andNot .u32 (u x) (u y) = u (x &&& ~~~y) := by
  show IntKind.u32.wrap ((BitVec.ofInt 32 _ &&& ~~~BitVec.ofInt 32 _).toNat : Int) = _
  rw [ofInt32, ofInt32, wrap_nat32, Nat.mod_eq_of_lt (BitVec.isLt _)]; rfl
theorem u_not (x : BitVec 32) : bits .xor .u32 IntKind.u32.max (u x) = u (~~~x) := by
  have h : IntKind.u32.max = u (BitVec.allOnes 32) := by decide
  rw [h, u_xor, BitVec.xor_comm]
  congr 1
  exact BitVec.xor_allOnes
theorem u_add (x y : BitVec 32) : IntKind.u32.wrap (u x + u y) = u (x + y) := by
  unfold u; rw [← Int.natCast_add, wrap_nat32]; rfl
theorem u_add' (x y : BitVec 32) : (u x + u y) % 4294967296 = u (x + y) := by
  rw [← u_add, IntKind.wrap_u32']
theorem u_shr (x : BitVec 32) (k : Nat) : u x / 2 ^ k = u (x >>> k) := by
  unfold u; rw [BitVec.toNat_ushiftRight, Nat.shiftRight_eq_div_pow]; simp
theorem u_shl (x : BitVec 32) (k : Nat) : u x * 2 ^ k % 4294967296 = u (x <<< k) := by
  unfold u
  have : (x.toNat : Int) * 2 ^ k = ((x.toNat * 2 ^ k : Nat) : Int) := by simp
  rw [this, BitVec.toNat_shiftLeft, Nat.shiftLeft_eq]; omega
theorem u_shr3 (x : BitVec 32) : u x / (8 : Int) = u (x >>> 3) := u_shr x 3
theorem u_shr10 (x : BitVec 32) : u x / (1024 : Int) = u (x >>> 10) := u_shr x 10
theorem u_shl24 (x : BitVec 32) : u x * (16777216 : Int) % (4294967296 : Int) = u (x <<< 24) := u_shl x 24
theorem u_shl16 (x : BitVec 32) : u x * (65536 : Int) % (4294967296 : Int) = u (x <<< 16) := u_shl x 16
theorem u_shl8 (x : BitVec 32) : u x * (256 : Int) % (4294967296 : Int) = u (x <<< 8) := u_shl x 8
theorem u_byte (x : BitVec 8) : u (x.setWidth 32) = b8 x := by
  unfold u b8; rw [BitVec.toNat_setWidth, Nat.mod_eq_of_lt (by have := x.isLt; omega)]
theorem wrap_b8 (x : BitVec 8) : IntKind.u32.wrap (b8 x) = u (x.setWidth 32) := by
  rw [u_byte, IntKind.wrap_u32']; have := b8_lo x; have := b8_hi x; omega
theorem rotcount (n : Nat) (h0 : 0 < n) (hn : n < 32) : bits .and .u64 (IntKind.u64.wrap (-(n : Int))) 31 = ((32 - n : Nat) : Int) := by
  have e : IntKind.u64.wrap (-(n : Int)) = ((18446744073709551616 - n : Nat) : Int) := by
    simp [IntKind.wrap, IntKind.bits, IntKind.signed]; omega
  rw [e, show (31 : Int) = ((31 : Nat) : Int) from rfl, u64_and_nat _ _ (by omega) (by omega), nat_mask5]
  congr 1; omega

/-- turned right -/
def rotr (x : BitVec 32) (n : Nat) : BitVec 32 := x <<< (32 - n) ||| x >>> n
def bS1 (x : BitVec 32) := rotr x 6 ^^^ rotr x 11 ^^^ rotr x 25
def bS0 (x : BitVec 32) := rotr x 2 ^^^ rotr x 13 ^^^ rotr x 22
def sS1 (x : BitVec 32) := rotr x 17 ^^^ rotr x 19 ^^^ (x >>> 10)
def sS0 (x : BitVec 32) := rotr x 7 ^^^ rotr x 18 ^^^ (x >>> 3)
def chs (e f g : BitVec 32) : BitVec 32 := (e &&& f) ^^^ (~~~e &&& g)
def maj (a b c : BitVec 32) : BitVec 32 := (a &&& b) ^^^ (a &&& c) ^^^ (b &&& c)

/-- the cube roots' words -/
def kTab : List (BitVec 32) := [
  0x428a2f98, 0x71374491, 0xb5c0fbcf, 0xe9b5dba5, 0x3956c25b, 0x59f111f1, 0x923f82a4, 0xab1c5ed5,
  0xd807aa98, 0x12835b01, 0x243185be, 0x550c7dc3, 0x72be5d74, 0x80deb1fe, 0x9bdc06a7, 0xc19bf174,
  0xe49b69c1, 0xefbe4786, 0x0fc19dc6, 0x240ca1cc, 0x2de92c6f, 0x4a7484aa, 0x5cb0a9dc, 0x76f988da,
  0x983e5152, 0xa831c66d, 0xb00327c8, 0xbf597fc7, 0xc6e00bf3, 0xd5a79147, 0x06ca6351, 0x14292967,
  0x27b70a85, 0x2e1b2138, 0x4d2c6dfc, 0x53380d13, 0x650a7354, 0x766a0abb, 0x81c2c92e, 0x92722c85,
  0xa2bfe8a1, 0xa81a664b, 0xc24b8b70, 0xc76c51a3, 0xd192e819, 0xd6990624, 0xf40e3585, 0x106aa070,
  0x19a4c116, 0x1e376c08, 0x2748774c, 0x34b0bcb5, 0x391c0cb3, 0x4ed8aa4a, 0x5b9cca4f, 0x682e6ff3,
  0x748f82ee, 0x78a5636f, 0x84c87814, 0x8cc70208, 0x90befffa, 0xa4506ceb, 0xbef9a3f7, 0xc67178f2]

/-- eight words -/
structure Oct where
  a : BitVec 32
  b : BitVec 32
  c : BitVec 32
  d : BitVec 32
  e : BitVec 32
  f : BitVec 32
  g : BitVec 32
  h : BitVec 32
def Oct.list (s : Oct) : List (BitVec 32) := [s.a, s.b, s.c, s.d, s.e, s.f, s.g, s.h]
def Oct.plus (s t : Oct) : Oct := ⟨s.a + t.a, s.b + t.b, s.c + t.c, s.d + t.d, s.e + t.e, s.f + t.f, s.g + t.g, s.h + t.h⟩
def hTab : Oct := ⟨0x6a09e667, 0xbb67ae85, 0x3c6ef372, 0xa54ff53a, 0x510e527f, 0x9b05688c, 0x1f83d9ab, 0x5be0cd19⟩

/-- four bytes make a word, the high one first -/
def be4 (a b c d : BitVec 8) : BitVec 32 := a.setWidth 32 <<< 24 ||| b.setWidth 32 <<< 16 ||| c.setWidth 32 <<< 8 ||| d.setWidth 32
/-- word i of the schedule, out of those ahead of it -/
def wNext (blk : List (BitVec 8)) (i : Nat) (l : List (BitVec 32)) : BitVec 32 :=
  if i < 16 then be4 (blk.getD (4 * i) 0) (blk.getD (4 * i + 1) 0) (blk.getD (4 * i + 2) 0) (blk.getD (4 * i + 3) 0)
  else sS1 (l.getD (i - 2) 0) + l.getD (i - 7) 0 + sS0 (l.getD (i - 15) 0) + l.getD (i - 16) 0
def wTo (blk : List (BitVec 8)) : Nat → List (BitVec 32)
  | 0 => []
  | i + 1 => wTo blk i ++ [wNext blk i (wTo blk i)]
theorem wTo_length (blk : List (BitVec 8)) (i : Nat) : (wTo blk i).length = i := by
  induction i with
  | zero => rfl
  | succ i ih => simp [wTo, ih]

/-- a round -/
def step (k w : BitVec 32) (s : Oct) : Oct :=
  let t1 := s.h + bS1 s.e + chs s.e s.f s.g + k + w
  let t2 := bS0 s.a + maj s.a s.b s.c
  ⟨t1 + t2, s.a, s.b, s.c, s.d + t1, s.e, s.f, s.g⟩
def rTo (w : List (BitVec 32)) (s : Oct) : Nat → Oct
  | 0 => s
  | t + 1 => step (kTab.getD t 0) (w.getD t 0) (rTo w s t)
/-- a block worked into eight words -/
def mixed (s : Oct) (blk : List (BitVec 8)) : Oct := s.plus (rTo (wTo blk 64) s 64)

/-- so many whole blocks, from the front -/
def mixAll : Nat → Oct → List (BitVec 8) → Oct
  | 0, s, _ => s
  | n + 1, s, m => mixAll n (mixed s (m.take 64)) (m.drop 64)
/-- how many bits, in eight bytes, the high ones first -/
def be8 (n : Nat) : List (BitVec 8) :=
  [BitVec.ofNat 8 (n / 2 ^ 56), BitVec.ofNat 8 (n / 2 ^ 48), BitVec.ofNat 8 (n / 2 ^ 40), BitVec.ofNat 8 (n / 2 ^ 32),
   BitVec.ofNat 8 (n / 2 ^ 24), BitVec.ofNat 8 (n / 2 ^ 16), BitVec.ofNat 8 (n / 2 ^ 8), BitVec.ofNat 8 n]
/-- how many bytes 0 -/
def zeros (n : Nat) : Nat := (119 - n % 64) % 64
def padded (m : List (BitVec 8)) : List (BitVec 8) := m ++ [128] ++ List.replicate (zeros m.length) 0 ++ be8 (8 * m.length)
def wordBytes (x : BitVec 32) : List (BitVec 8) := [(x >>> 24).setWidth 8, (x >>> 16).setWidth 8, (x >>> 8).setWidth 8, x.setWidth 8]
/-- SHA-256 -/
def sha (m : List (BitVec 8)) : List (BitVec 8) :=
  (mixAll ((m.length + 72) / 64) hTab (padded m)).list.flatMap wordBytes
theorem sha_length (m : List (BitVec 8)) : (sha m).length = 32 := by
  simp [sha, Oct.list, wordBytes]
theorem padded_length (m : List (BitVec 8)) : (padded m).length = 64 * ((m.length + 72) / 64) := by
  simp [padded, zeros, be8]; omega
end Go.Proofs.YtfpngilmdgeikaaDoor
