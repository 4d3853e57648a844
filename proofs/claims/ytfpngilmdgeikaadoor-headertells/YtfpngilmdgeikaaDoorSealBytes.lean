/-
  What eight, number, exponent, secret, challenge and Key answer: a number's eight bytes; the number that a digest of parts begins with; a secret; what is asked; a key. They turn nothing that was there.
-/
import Derived.Test.YtfpngilmdgeikaaDoorSealDivs
import Derived.Test.YtfpngilmdgeikaaDoorShaPartsC
import Derived.Test.YtfpngilmdgeikaaDoorShaAll
import Derived.Lib.SlBytesConst
namespace Go.Proofs.YtfpngilmdgeikaaDoor
open Go.RowKit

/-- bytes as a number, the high one first -/
def numL (l : List (BitVec 8)) : Nat := l.foldl (fun n b => n * 256 + b.toNat) 0
theorem numL_snoc (l : List (BitVec 8)) (b : BitVec 8) : numL (l ++ [b]) = numL l * 256 + b.toNat := by simp [numL]
theorem numL_lt : ∀ n (l : List (BitVec 8)), l.length = n → numL l < 256 ^ n := by
  intro n
  induction n with
  | zero => intro l h; rw [List.length_eq_zero_iff.1 h]; decide
  | succ n ih =>
    intro l h
    obtain ⟨r, b, rfl⟩ : ∃ r b, l = r ++ [b] := ⟨l.dropLast, l.getLast (by intro h0; rw [h0] at h; simp at h), (List.dropLast_concat_getLast _).symm⟩
    rw [numL_snoc, Nat.pow_succ]
    have h1 := ih r (by simpa using h)
    have := b.isLt
    omega
/-- the number that a digest begins with -/
def shaN (l : List (BitVec 8)) : Nat := numL ((sha l).take 8)
theorem shaN_lt (l : List (BitVec 8)) : shaN l < 18446744073709551616 := by
  exact numL_lt 8 _ (by rw [List.length_take, sha_length]; rfl)

/-- a number's eight bytes -/
theorem eight_any (n : Nat) (w : World) (hn : n < 18446744073709551616) :
    Calls Tryd.prog 142 #[.int .u64 (n : Int)] w fun e w' =>
      e = .returned (.slice (some ⟨w.heap.size, 0, none⟩) 8 8) ∧ w' = w.alloc (.cells ((be8 n).map V).toArray 5) := by
  go_enter Tryd.func142, Tryd.ntmps142
  go_wp2
  go_ret
  refine ⟨rfl, congrArg (fun a => w.alloc (.cells a 5)) ?_⟩
  simp [be8, V, b8]
  omega
/-- new lists of what is there -/
theorem or_byte (n : Nat) (b : BitVec 8) (hn : n < 72057594037927936) : bits .or .u64 (IntKind.u64.wrap ((n : Int) * 256)) (b8 b) = ((n * 256 + b.toNat : Nat) : Int) := by
  have hb := b.isLt
  have h1 : IntKind.u64.wrap ((n : Int) * 256) = ((n * 256 : Nat) : Int) := w64_mul n 256 (by omega)
  have h2 : b8 b = ((b.toNat : Nat) : Int) := rfl
  rw [h1, h2, u64_or_nat _ _ (by omega) (by omega)]
  have := Nat.two_pow_add_eq_or_of_lt (i := 8) (show b.toNat < 2 ^ 8 by omega) n
  rw [show (2 : Nat) ^ 8 = 256 from rfl, Nat.mul_comm 256 n] at this
  rw [this]

set_option maxRecDepth 100000 in
set_option maxHeartbeats 1000000 in
theorem number_any (ls : List (List (BitVec 8))) (sv : Value) (N : Nat) (w : World) (hN : N ≤ w.heap.size) (hb : Lists w N sv ls) (hK : tableAt w) (hlen : ls.flatten.length < 2305843009213693952) (hn : ls.length < 2305843009213693952) :
    Calls Tryd.prog 164 #[sv] w fun e w' => e = .returned (.int .u64 (shaN ls.flatten : Int)) ∧ Below w.heap.size w w' := by
  have HP := hid (parts_any ls sv N w hN hb hK hlen hn)
  clear hb hK hlen hn
  go_enter Tryd.func164, Tryd.ntmps164
  go_wp2_with fail
  refine HP.out.mono ?_
  rintro e w1 ⟨v, rfl, hown, hb1⟩
  obtain ⟨ov, capv, rfl, hcap, hsv⟩ := ownsRow_shape hown
  obtain ⟨gv, rfl, _, _, hcell⟩ := hsv (by omega)
  have hc : ∀ k, k < 8 → w1.cell? ⟨gv, k, none⟩ = some (.int .u8 (b8 ((sha ls.flatten).getD k 0))) := by
    intro k hk
    rw [(hcell k (by omega)).1, List.getElem?_map, getD_some _ k 0 (by rw [sha_length]; omega)]
    rfl
  have hcap8 : (8 : Int) ≤ (capv : Int) := by omega
  have HC := hid hc
  have HB1 := hid hb1
  have hsl := sha_length ls.flatten
  obtain ⟨l, hl⟩ : ∃ l, sha ls.flatten = l := ⟨_, rfl⟩
  have HSH := hid (show shaN ls.flatten = numL (l.take 8) by rw [← hl]; rfl)
  rw [hl] at hsl HC
  have HL := hid hsl
  clear hsv hcell hc hb1 hown HP hsl hl
  go_wp2_with fail
  go_loop [3, 10] (fun n i => ∃ k : Nat, k ≤ 8 ∧ i = .int .i64 k ∧ n = .int .u64 (numL (l.take k) : Int)) (fun _ i => 8 - (intOf i).toNat)
  case atStart => exact ⟨0, by omega, rfl, rfl⟩
  case round =>
    obtain ⟨k, hk, rfl, rfl⟩ := hrel
    by_cases hlt : k < 8
    · have hck := HC.out k hlt
      have hlt' : (k : Int) < 8 := by omega
      have hkl : k < l.length := by rw [HL.out]; omega
      have hnx : numL (l.take (k + 1)) = numL (l.take k) * 256 + (l.getD k 0).toNat := by
        rw [List.take_succ_eq_append_getElem hkl, numL_snoc]; simp [hkl]
      have hsm : numL (l.take k) < 72057594037927936 := by
        have h1 := numL_lt k (l.take k) (by rw [List.length_take]; omega)
        have h2 := Nat.pow_le_pow_right (show 0 < 256 by omega) (show k ≤ 7 by omega)
        omega
      have hor := or_byte (numL (l.take k)) (l.getD k 0) hsm
      rw [← hnx] at hor
      obtain ⟨b, hb⟩ : ∃ b, l.getD k 0 = b := ⟨_, rfl⟩
      obtain ⟨n0, hn0⟩ : ∃ n0, numL (l.take k) = n0 := ⟨_, rfl⟩
      obtain ⟨n1, hn1⟩ : ∃ n1, numL (l.take (k + 1)) = n1 := ⟨_, rfl⟩
      rw [hb] at hck hor
      rw [hn0, hn1] at hor
      rw [hn0]
      have HN1 := hid hn1
      have hw8 : IntKind.u64.wrap (b8 b) = b8 b := by
        have h1 : b8 b = ((b.toNat : Nat) : Int) := rfl
        have := b.isLt
        rw [h1]; exact w64 _ (by omega)
      have hb0 := b8_lo b
      have hb1 := b8_hi b
      clear hn0 hn1 hb hnx hsm HC
      go_wp2
      go_round
      case rel => exact ⟨k + 1, by omega, by go_num, by rw [HN1.out]⟩
      case measure => simp [intOf]; omega
    · have hk8 : k = 8 := by omega
      subst hk8
      go_wp2
      go_ret
      rw [HSH.out]
      exact ⟨rfl, HB1.out⟩
end Go.Proofs.YtfpngilmdgeikaaDoor
