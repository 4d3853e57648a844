/-
  What eight, number, exponent, secret, challenge and Key answer: a number's eight bytes; the number that a digest of parts begins with; a secret; what is asked; a key. They turn nothing that was there.
  What exponent, secret, challenge and Key answer. They turn nothing that was there.
  What Sign answers: the seal. It turns nothing that was there.
  What Good answers: whether a seal is good. It turns nothing that was there.
-/
import Derived.Test.YtbhghmlachlfkaaDoorSealDivs
import Derived.Test.YtbhghmlachlfkaaDoorShaPartsC
import Derived.Test.YtbhghmlachlfkaaDoorShaAll
import Derived.Lib.SlBytesConst
import Derived.BigQuiet
import Derived.Deep.QuietTactic
import Derived.Deep.RegionWith
namespace Go.Proofs.YtbhghmlachlfkaaDoor
open Go.RowKit

/-- bytes as a number, the high one first -/
def numL (l : List (BitVec 8)) : Nat := l.foldl (fun n b => n * 256 + b.toNat) 0
theorem numL_snoc (l : List (BitVec 8)) (b : BitVec 8) : numL (l ++ [b]) = numL l * 256 + b.toNat := by simp [numL]
theorem numL_lt : ∀ n (l : List (BitVec 8)), l.length = n → numL l < 256 ^ n := by
  intro n
  induction n with
  | zero => intro l h; rw [List.length_eq_zero_iff.1 h]; decide
  | succ n ih =>
    intro l h
    obtain ⟨r, b, rfl⟩ : ∃ r b, l = r ++ [b] := ⟨l.dropLast, l.getLast (by intro h0; rw [h0] at h; simp at h), (List.dropLast_concat_getLast _).symm⟩
    rw [numL_snoc, Nat.pow_succ]
    have h1 := ih r (by simpa using h)
    have := b.isLt
    omega
/-- the number that a digest begins with -/
def shaN (l : List (BitVec 8)) : Nat := numL ((sha l).take 8)
theorem shaN_lt (l : List (BitVec 8)) : shaN l < 18446744073709551616 := by
  exact numL_lt 8 _ (by rw [List.length_take, sha_length]; rfl)

/-- a number's eight bytes -/
theorem eight_any (n : Nat) (w : World) (hn : n < 18446744073709551616) :
    Calls Tryd.prog 84 #[.int .u64 (n : Int)] w fun e w' =>
      e = .returned (.slice (some ⟨w.heap.size, 0, none⟩) 8 8) ∧ w' = w.alloc (.cells ((be8 n).map V).toArray 5) := by
  go_enter Tryd.func84, Tryd.ntmps84
  go_wp2
  go_ret
  refine ⟨rfl, congrArg (fun a => w.alloc (.cells a 5)) ?_⟩
  simp [be8, V, b8]
  omega
/-- new lists of what is there -/
theorem or_byte (n : Nat) (b : BitVec 8) (hn : n < 72057594037927936) : bits .or .u64 (IntKind.u64.wrap ((n : Int) * 256)) (b8 b) = ((n * 256 + b.toNat : Nat) : Int) := by
  have hb := b.isLt
  have h1 : IntKind.u64.wrap ((n : Int) * 256) = ((n * 256 : Nat) : Int) := w64_mul n 256 (by omega)
  have h2 : b8 b = ((b.toNat : Nat) : Int) := rfl
  rw [h1, h2, u64_or_nat _ _ (by omega) (by omega)]
  have := Nat.two_pow_add_eq_or_of_lt (i := 8) (show b.toNat < 2 ^ 8 by omega) n
  rw [show (2 : Nat) ^ 8 = 256 from rfl, Nat.mul_comm 256 n] at this
  rw [this]

set_option maxRecDepth 100000 in
set_option maxHeartbeats 1000000 in
theorem number_any (ls : List (List (BitVec 8))) (sv : Value) (N : Nat) (w : World) (hN : N ≤ w.heap.size) (hb : Lists w N sv ls) (hK : tableAt w) (hlen : ls.flatten.length < 2305843009213693952) (hn : ls.length < 2305843009213693952) :
    Calls Tryd.prog 91 #[sv] w fun e w' => e = .returned (.int .u64 (shaN ls.flatten : Int)) ∧ Below w.heap.size w w' := by
  have HP := hid (parts_any ls sv N w hN hb hK hlen hn)
  clear hb hK hlen hn
  go_enter Tryd.func91, Tryd.ntmps91
  go_wp2_with fail
  refine HP.out.mono ?_
  rintro e w1 ⟨v, rfl, hown, hb1⟩
  obtain ⟨ov, capv, rfl, hcap, hsv⟩ := ownsRow_shape hown
  obtain ⟨gv, rfl, _, _, hcell⟩ := hsv (by omega)
  have hc : ∀ k, k < 8 → w1.cell? ⟨gv, k, none⟩ = some (.int .u8 (b8 ((sha ls.flatten).getD k 0))) := by
    intro k hk
    rw [(hcell k (by omega)).1, List.getElem?_map, getD_some _ k 0 (by rw [sha_length]; omega)]
    rfl
  have hcap8 : (8 : Int) ≤ (capv : Int) := by omega
  have HC := hid hc
  have HB1 := hid hb1
  have hsl := sha_length ls.flatten
  obtain ⟨l, hl⟩ : ∃ l, sha ls.flatten = l := ⟨_, rfl⟩
  have HSH := hid (show shaN ls.flatten = numL (l.take 8) by rw [← hl]; rfl)
  rw [hl] at hsl HC
  have HL := hid hsl
  clear hsv hcell hc hb1 hown HP hsl hl
  go_wp2_with fail
  go_loop [3, 10] (fun n i => ∃ k : Nat, k ≤ 8 ∧ i = .int .i64 k ∧ n = .int .u64 (numL (l.take k) : Int)) (fun _ i => 8 - (intOf i).toNat)
  case atStart => exact ⟨0, by omega, rfl, rfl⟩
  case round =>
    obtain ⟨k, hk, rfl, rfl⟩ := hrel
    by_cases hlt : k < 8
    · have hck := HC.out k hlt
      have hlt' : (k : Int) < 8 := by omega
      have hkl : k < l.length := by rw [HL.out]; omega
      have hnx : numL (l.take (k + 1)) = numL (l.take k) * 256 + (l.getD k 0).toNat := by
        rw [List.take_succ_eq_append_getElem hkl, numL_snoc]; simp [hkl]
      have hsm : numL (l.take k) < 72057594037927936 := by
        have h1 := numL_lt k (l.take k) (by rw [List.length_take]; omega)
        have h2 := Nat.pow_le_pow_right (show 0 < 256 by omega) (show k ≤ 7 by omega)
        omega
      have hor := or_byte (numL (l.take k)) (l.getD k 0) hsm
      rw [← hnx] at hor
      obtain ⟨b, hb⟩ : ∃ b, l.getD k 0 = b := ⟨_, rfl⟩
      obtain ⟨n0, hn0⟩ : ∃ n0, numL (l.take k) = n0 := ⟨_, rfl⟩
      obtain ⟨n1, hn1⟩ : ∃ n1, numL (l.take (k + 1)) = n1 := ⟨_, rfl⟩
      rw [hb] at hck hor
      rw [hn0, hn1] at hor
      rw [hn0]
      have HN1 := hid hn1
      have hw8 : IntKind.u64.wrap (b8 b) = b8 b := by
        have h1 : b8 b = ((b.toNat : Nat) : Int) := rfl
        have := b.isLt
        rw [h1]; exact w64 _ (by omega)
      have hb0 := b8_lo b
      have hb1 := b8_hi b
      clear hn0 hn1 hb hnx hsm HC
      go_wp2
      go_round
      case rel => exact ⟨k + 1, by omega, by go_num, by rw [HN1.out]⟩
      case measure => simp [intOf]; omega
    · have hk8 : k = 8 := by omega
      subst hk8
      go_wp2
      go_ret
      rw [HSH.out]
      exact ⟨rfl, HB1.out⟩
end Go.Proofs.YtbhghmlachlfkaaDoor
namespace Go.Proofs.YtbhghmlachlfkaaDoor
open Go.RowKit

def keyB : List (BitVec 8) := [107, 101, 121]
def onceB : List (BitVec 8) := [111, 110, 99, 101]
def expN (l : List (BitVec 8)) : Nat := 1 + shaN l % (qQ - 1)
def askN (r k : Nat) (m : List (BitVec 8)) : Nat := shaN (be8 r ++ (be8 k ++ m)) % qQ
def secretN (seed : List (BitVec 8)) : Nat := expN (keyB ++ seed)
def keyN (seed : List (BitVec 8)) : Nat := powP 4 (secretN seed)
theorem expN_pos (l : List (BitVec 8)) : 0 < expN l := by unfold expN; omega
theorem expN_lt (l : List (BitVec 8)) : expN l < 576460752303424853 := by
  unfold expN
  have : shaN l % (qQ - 1) < 576460752303424852 := Nat.mod_lt _ (by decide)
  omega
theorem askN_lt (r k : Nat) (m : List (BitVec 8)) : askN r k m < 576460752303424853 := Nat.mod_lt _ (by decide)
theorem be8_length (n : Nat) : (be8 n).length = 8 := rfl

set_option maxHeartbeats 400000 in
theorem exponent_any (ls : List (List (BitVec 8))) (sv : Value) (N : Nat) (w : World) (hN : N ≤ w.heap.size) (hb : Lists w N sv ls) (hK : tableAt w) (hlen : ls.flatten.length < 2305843009213693952) (hn : ls.length < 2305843009213693952) :
    Calls Tryd.prog 83 #[sv] w fun e w' => e = .returned (.int .u64 (expN ls.flatten : Int)) ∧ Below w.heap.size w w' := by
  have HP := hid (number_any ls sv N w hN hb hK hlen hn)
  have hz := shaN_lt ls.flatten
  have hex : expN ls.flatten = 1 + shaN ls.flatten % 576460752303424852 := rfl
  have hlt := expN_lt ls.flatten
  obtain ⟨z, hz0⟩ : ∃ z, shaN ls.flatten = z := ⟨_, rfl⟩
  rw [hz0] at HP hz hex
  obtain ⟨r, hr⟩ : ∃ r, z % 576460752303424852 = r := ⟨_, rfl⟩
  have e1 : (z : Int) % 576460752303424852 = (r : Int) := by omega
  rw [hr] at hex
  have hrl : r < 576460752303424852 := by omega
  have e2 : IntKind.u64.wrap (1 + (r : Int)) = ((1 + r : Nat) : Int) := w64_add 1 r (by omega)
  have HEX := hid hex
  clear hb hK hlen hn hz0 hr hex
  go_enter Tryd.func83, Tryd.ntmps83
  go_wp2_with fail
  refine HP.out.mono ?_
  rintro e w1 ⟨rfl, hb1⟩
  go_wp2
  go_ret
  rw [HEX.out]
  exact ⟨by simp, hb1⟩

/-- a constant text turned to bytes -/
theorem conv_const (w : World) (C : Array Value) (n c : Nat) : (convert 23 23 (.slice (some ⟨w.heap.size, 0, none⟩) n c)).run Tryd.prog (w.alloc (.cells C 5)) = .ok (.slice (some ⟨w.heap.size, 0, none⟩) n c) (w.alloc (.cells C 5 (C.size, C.size + 1))) :=
  Lib.run_convert_bytes_const w 23 5 C n c Tryd.underlying23 Tryd.underlying5

set_option maxHeartbeats 1000000 in
theorem secret_any (l : List (BitVec 8)) (sv : Value) (N : Nat) (w : World) (hN : N ≤ w.heap.size) (hb : Bytes w N sv l) (hK : tableAt w) (hlen : l.length ≤ 140737488351232) :
    Calls Tryd.prog 82 #[sv] w fun e w' => e = .returned (.int .u64 (secretN l : Int)) ∧ Below w.heap.size w w' := by
  obtain ⟨oa, cap, rfl, _⟩ := hb.shape
  have hcv := conv_const
  obtain ⟨w1, hw1⟩ : ∃ w1, w.alloc (.cells #[Value.int .u8 107, .int .u8 101, .int .u8 121] 5 (3, 4)) = w1 := ⟨_, rfl⟩
  have hsz1 : w1.heap.size = w.heap.size + 1 := by rw [← hw1]; simp
  have hb1 : Below w.heap.size w w1 := by rw [← hw1]; exact (Below.refl _ _).alloc (Nat.le_refl _) _
  have hk : Bytes w1 w1.heap.size (.slice (some ⟨w.heap.size, 0, none⟩) 3 3) keyB := by rw [hsz1, ← hw1]; exact bytes_new w keyB 5 (3, 4) 3 (by decide)
  have hs : Bytes w1 w1.heap.size (.slice oa l.length cap) l := (hb.below (hb1.mono hN)).mono (by omega)
  have hli := lists2 (t := 23) hk hs
  have hb2 : Below w1.heap.size w1 (w1.alloc (.cells #[.slice (some ⟨w.heap.size, 0, none⟩) 3 3, .slice oa l.length cap] 23)) := (Below.refl _ _).alloc (Nat.le_refl _) _
  have hex := exponent_any [keyB, l] _ _ _ (by simp) hli (hK.below (hb1.trans (hb2.mono (by omega))) hK.lt) (by rw [flat2]; simp [keyB]; omega) (by simp)
  rw [flat2, hsz1] at hex
  have HEX := hid hex
  have HB1 := hid hb1
  have HB2 := hid hb2
  clear hex hli hs hk hb hb1 hb2 hK
  go_enter Tryd.func82, Tryd.ntmps82
  go_wp2_with fail
  refine HEX.out.mono ?_
  rintro e w2 ⟨rfl, hb3⟩
  go_wp2
  go_ret
  exact ⟨rfl, HB1.out.trans ((HB2.out.mono (by omega)).trans (hb3.mono (by simp; omega)))⟩
set_option maxHeartbeats 400000 in
theorem key_any (l : List (BitVec 8)) (sv : Value) (N : Nat) (w : World) (hN : N ≤ w.heap.size) (hb : Bytes w N sv l) (hK : tableAt w) (hlen : l.length ≤ 140737488351232) :
    Calls Tryd.prog 61 #[sv] w fun e w' => e = .returned (.int .u64 (keyN l : Int)) ∧ Below w.heap.size w w' := by
  have HS := hid (secret_any l sv N w hN hb hK hlen)
  have HP := hid (fun w => power_p 4 (secretN l) w (by omega) (by have := expN_lt (keyB ++ l); unfold secretN; omega))
  clear hb hK hlen
  go_enter Tryd.func61, Tryd.ntmps61
  go_wp2_with fail
  refine HS.out.mono ?_
  rintro e w1 ⟨rfl, hb1⟩
  have HB1 := hid hb1
  clear hb1
  go_wp2_with fail
  refine (HP.out _).mono ?_
  rintro e w2 ⟨rfl, n, rfl⟩
  go_wp2
  go_ret
  exact ⟨rfl, HB1.out.trans ⟨rfl, rfl, rfl, Nat.le_refl _, fun _ _ => rfl⟩⟩

set_option maxHeartbeats 1000000 in
theorem challenge_any (r k : Nat) (m : List (BitVec 8)) (sv : Value) (N : Nat) (w : World) (hr : r < 18446744073709551616) (hk : k < 18446744073709551616) (hN : N ≤ w.heap.size) (hb : Bytes w N sv m) (hK : tableAt w) (hlen : m.length ≤ 140737488351232) :
    Calls Tryd.prog 80 #[.int .u64 (r : Int), .int .u64 (k : Int), sv] w fun e w' => e = .returned (.int .u64 (askN r k m : Int)) ∧ Below w.heap.size w w' := by
  obtain ⟨oa, cap, rfl, _⟩ := hb.shape
  have hz := shaN_lt (be8 r ++ (be8 k ++ m))
  have hex : askN r k m = shaN (be8 r ++ (be8 k ++ m)) % 576460752303424853 := rfl
  obtain ⟨w1, hw1⟩ : ∃ w1, w.alloc (.cells ((be8 r).map V).toArray 5) = w1 := ⟨_, rfl⟩
  have hsz1 : w1.heap.size = w.heap.size + 1 := by rw [← hw1]; simp
  have hb1 : Below w.heap.size w w1 := by rw [← hw1]; exact (Below.refl _ _).alloc (Nat.le_refl _) _
  have hr8 : Bytes w1 w1.heap.size (.slice (some ⟨w.heap.size, 0, none⟩) 8 8) (be8 r) := by rw [hsz1, ← hw1]; exact bytes_new w (be8 r) 5 (0, 0) 8 (by simp [be8_length])
  obtain ⟨w2, hw2⟩ : ∃ w2, w1.alloc (.cells ((be8 k).map V).toArray 5) = w2 := ⟨_, rfl⟩
  have hsz2 : w2.heap.size = w.heap.size + 2 := by rw [← hw2]; simp; omega
  have hb2 : Below w1.heap.size w1 w2 := by rw [← hw2]; exact (Below.refl _ _).alloc (Nat.le_refl _) _
  have hk8 : Bytes w2 w2.heap.size (.slice (some ⟨w1.heap.size, 0, none⟩) 8 8) (be8 k) := by rw [show w2.heap.size = w1.heap.size + 1 by omega, ← hw2]; exact bytes_new w1 (be8 k) 5 (0, 0) 8 (by simp [be8_length])
  have hr8' : Bytes w2 w2.heap.size (.slice (some ⟨w.heap.size, 0, none⟩) 8 8) (be8 r) := (hr8.below hb2).mono (by omega)
  have hb12 : Below w.heap.size w w2 := hb1.trans (hb2.mono (by omega))
  have hs : Bytes w2 w2.heap.size (.slice oa m.length cap) m := (hb.below (hb12.mono hN)).mono (by omega)
  have hli := lists3 (t := 23) hr8' hk8 hs
  have hb3 : Below w2.heap.size w2 (w2.alloc (.cells #[.slice (some ⟨w.heap.size, 0, none⟩) 8 8, .slice (some ⟨w1.heap.size, 0, none⟩) 8 8, .slice oa m.length cap] 23)) := (Below.refl _ _).alloc (Nat.le_refl _) _
  have hnum := number_any [be8 r, be8 k, m] _ _ _ (by simp) hli (hK.below (hb12.trans (hb3.mono (by omega))) hK.lt) (by rw [flat3]; simp [be8_length]; omega) (by simp)
  rw [flat3, hsz1, hsz2] at hnum
  obtain ⟨z, hz0⟩ : ∃ z, shaN (be8 r ++ (be8 k ++ m)) = z := ⟨_, rfl⟩
  rw [hz0] at hnum hz hex
  obtain ⟨q, hq⟩ : ∃ q, z % 576460752303424853 = q := ⟨_, rfl⟩
  have e1 : (z : Int) % 576460752303424853 = (q : Int) := by omega
  rw [hq] at hex
  have HE1 := hid (eight_any r w hr)
  have HE2 := hid (eight_any k w1 hk)
  rw [hw1] at HE1
  rw [hw2, hsz1] at HE2
  have HNUM := hid hnum
  have HEX := hid hex
  have HB12 := hid hb12
  rw [hsz1] at hb3
  have HB3 := hid hb3
  clear hnum hex hb12 hb3 hb1 hb2 hr8 hk8 hr8' hs hli hb hK hz0 hq hw1 hw2
  go_enter Tryd.func80, Tryd.ntmps80
  go_wp2_with fail
  refine HE1.out.mono ?_
  rintro e w3 ⟨rfl, rfl⟩
  go_wp2_with fail
  refine HE2.out.mono ?_
  rintro e w4 ⟨rfl, rfl⟩
  go_wp2_with fail
  refine HNUM.out.mono ?_
  rintro e w5 ⟨rfl, hb5⟩
  go_wp2
  go_ret
  rw [HEX.out, ← e1]
  have h3 := HB3.out.mono (show w.heap.size ≤ _ by omega)
  have h5 := hb5.mono (show w.heap.size ≤ _ by simp; omega)
  exact ⟨rfl, HB12.out.trans (h3.trans h5)⟩
end Go.Proofs.YtbhghmlachlfkaaDoor
namespace Go.Proofs.YtbhghmlachlfkaaDoor
open Go.RowKit

def onceN (seed m : List (BitVec 8)) : Nat := expN (onceB ++ (be8 (secretN seed) ++ m))
def sealR (seed m : List (BitVec 8)) : Nat := powP 4 (onceN seed m)
def sealE (seed m : List (BitVec 8)) : Nat := askN (sealR seed m) (keyN seed) m
def sealS (seed m : List (BitVec 8)) : Nat := (onceN seed m + mulQ (sealE seed m) (secretN seed)) % qQ
theorem secretN_lt (l : List (BitVec 8)) : secretN l < 576460752303424853 := expN_lt _
theorem onceN_lt (l m : List (BitVec 8)) : onceN l m < 576460752303424853 := expN_lt _
theorem keyN_lt (l : List (BitVec 8)) : keyN l < 1152921504606849707 := powP_lt _ _
theorem sealR_lt (l m : List (BitVec 8)) : sealR l m < 1152921504606849707 := powP_lt _ _
theorem sealE_lt (l m : List (BitVec 8)) : sealE l m < 576460752303424853 := askN_lt _ _ _
theorem sealS_lt (l m : List (BitVec 8)) : sealS l m < 576460752303424853 := Nat.mod_lt _ (by decide)
theorem below_drewN (w : World) (n N : Nat) : Below N w (w.drewN n) := ⟨rfl, rfl, rfl, Nat.le_refl _, fun _ _ => rfl⟩

set_option maxRecDepth 100000 in
set_option maxHeartbeats 1000000 in
theorem sign_any (l m : List (BitVec 8)) (sv mv : Value) (N : Nat) (w : World) (hN : N ≤ w.heap.size) (hb : Bytes w N sv l) (hm : Bytes w N mv m) (hK : tableAt w) (hlen : l.length ≤ 140737488351232) (hlenm : m.length ≤ 140737488351232) :
    Calls Tryd.prog 63 #[sv, mv] w fun e w' => e = .returned (.agg #[.int .u64 (sealR l m : Int), .int .u64 (sealS l m : Int)]) ∧ Below w.heap.size w w' := by
  obtain ⟨oa, cap, rfl, _⟩ := hm.shape
  have hcv := conv_const
  obtain ⟨w0, hw0⟩ : ∃ w0, w.alloc (.cells #[.int .u64 0, .int .u64 0] 49) = w0 := ⟨_, rfl⟩
  have hsz0 : w0.heap.size = w.heap.size + 1 := by rw [← hw0]; simp
  have hb0 : Below w.heap.size w w0 := by rw [← hw0]; exact (Below.refl _ _).alloc (Nat.le_refl _) _
  have hrow0 : Row w0 w.heap.size 49 [.int .u64 0, .int .u64 0] := by rw [← hw0]; exact Row.new _ _ _
  have HS := hid (secret_any l sv N w0 (by omega) (hb.below (hb0.mono hN)) (hK.below hb0 hK.lt) hlen)
  have HM := hid (hm.below (hb0.mono hN))
  have HK := hid (hK.below hb0 hK.lt)
  have HB0 := hid hb0
  have HR0 := hid hrow0
  clear hb hm hK hb0 hrow0
  go_enter Tryd.func63, Tryd.ntmps63
  go_wp2_with fail
  refine HS.out.mono ?_
  rintro e w1 ⟨rfl, hb1⟩
  clear hw0 HS
  have hsx := secretN_lt l
  obtain ⟨x, hx⟩ : ∃ x, secretN l = x := ⟨_, rfl⟩
  rw [hx]
  rw [hx] at hsx
  have HX := hid hx
  clear hx
  have hsz1 := hb1.size
  have HM1 := hid (HM.out.below (hb1.mono (by omega)))
  have HK1 := hid (HK.out.below hb1 HK.out.lt)
  have HR1 := hid (HR0.out.below hb1 (by omega))
  have HB1 := hid (HB0.out.trans (hb1.mono (by omega)))
  clear hb1 HM HK HR0 HB0
  obtain ⟨w2, hw2⟩ : ∃ w2, w1.alloc (.cells #[Value.int .u8 111, .int .u8 110, .int .u8 99, .int .u8 101] 5 (4, 5)) = w2 := ⟨_, rfl⟩
  have hsz2 : w2.heap.size = w1.heap.size + 1 := by rw [← hw2]; simp
  have hb2 : Below w1.heap.size w1 w2 := by rw [← hw2]; exact (Below.refl _ _).alloc (Nat.le_refl _) _
  have ho : Bytes w2 w2.heap.size (.slice (some ⟨w1.heap.size, 0, none⟩) 4 4) onceB := by rw [hsz2, ← hw2]; exact bytes_new w1 onceB 5 (4, 5) 4 (by decide)
  obtain ⟨w3, hw3⟩ : ∃ w3, w2.alloc (.cells ((be8 x).map V).toArray 5) = w3 := ⟨_, rfl⟩
  have hsz3 : w3.heap.size = w1.heap.size + 2 := by rw [← hw3]; simp; omega
  have hb3 : Below w2.heap.size w2 w3 := by rw [← hw3]; exact (Below.refl _ _).alloc (Nat.le_refl _) _
  have hx8 : Bytes w3 w3.heap.size (.slice (some ⟨w2.heap.size, 0, none⟩) 8 8) (be8 x) := by rw [show w3.heap.size = w2.heap.size + 1 by omega, ← hw3]; exact bytes_new w2 (be8 x) 5 (0, 0) 8 (by simp [be8_length])
  have ho' : Bytes w3 w3.heap.size (.slice (some ⟨w1.heap.size, 0, none⟩) 4 4) onceB := (ho.below hb3).mono (by omega)
  have hb13 : Below w1.heap.size w1 w3 := hb2.trans (hb3.mono (by omega))
  have hs : Bytes w3 w3.heap.size (.slice oa m.length cap) m := (HM1.out.below (hb13.mono (by omega))).mono (by omega)
  have hli := lists3 (t := 23) ho' hx8 hs
  have hb4 : Below w3.heap.size w3 (w3.alloc (.cells #[.slice (some ⟨w1.heap.size, 0, none⟩) 4 4, .slice (some ⟨w2.heap.size, 0, none⟩) 8 8, .slice oa m.length cap] 23)) := (Below.refl _ _).alloc (Nat.le_refl _) _
  have hb14 := hb13.trans (hb4.mono (by omega))
  have hex := exponent_any [onceB, be8 x, m] _ _ _ (by simp) hli (HK1.out.below hb14 HK1.out.lt) (by rw [flat3]; simp [be8_length, onceB]; omega) (by simp)
  rw [flat3, show expN (onceB ++ (be8 x ++ m)) = onceN l m by unfold onceN; rw [HX.out], hsz2, hsz3] at hex
  have HE := hid (eight_any x w2 (by omega))
  rw [hw3, hsz2] at HE
  rw [hsz2] at hb14
  have HEX := hid hex
  have HB14 := hid hb14
  have HB13 := hid hb13
  clear hex hb14 hb13 hb2 hb3 hb4 ho ho' hx8 hs hli hw3
  go_wp2_with fail
  refine HE.out.mono ?_
  rintro e w3' ⟨rfl, rfl⟩
  go_wp2_with fail
  refine HEX.out.mono ?_
  rintro e w5 ⟨rfl, hb5⟩
  have hb15 : Below w1.heap.size w1 w5 := HB14.out.trans (hb5.mono (by simp; omega))
  have hsz5 := hb15.size
  have HM5 := hid (HM1.out.below (hb15.mono (by omega)))
  have HK5 := hid (HK1.out.below hb15 HK1.out.lt)
  have HR5 := hid (HR1.out.below hb15 (by omega))
  have HB5 := hid (HB1.out.trans (hb15.mono (by omega)))
  clear hb5 hb15 HB14 HB13 HEX HE HM1 HK1 HR1 HB1 hcv hw2 hsz3 hsz2
  have hkl := onceN_lt l m
  have HP1 := hid (fun w => power_p 4 (onceN l m) w (by omega) (by omega))
  have HP2 := hid (fun w => power_p 4 x w (by omega) (by omega))
  have HF1 := hid (show powP 4 (onceN l m) = sealR l m from rfl)
  have HF2 := hid (show powP 4 x = keyN l by unfold keyN; rw [HX.out])
  rw [HF1.out] at HP1
  rw [HF2.out] at HP2
  go_wp2_with fail
  refine (HP1.out _).mono ?_
  rintro e w6 ⟨rfl, n6, rfl⟩
  go_wp2_with fail
  refine (HP2.out _).mono ?_
  rintro e w7 ⟨rfl, n7, rfl⟩
  have HC := hid (challenge_any (sealR l m) (keyN l) m (.slice oa m.length cap) N (w5.drewN (n6 + n7)) (by have := sealR_lt l m; omega) (by have := keyN_lt l; omega) (by show N ≤ w5.heap.size; omega) (HM5.out.below (below_drewN _ _ _)) (HK5.out.below (below_drewN _ _ _) HK5.out.lt) hlenm)
  rw [show askN (sealR l m) (keyN l) m = sealE l m from rfl] at HC
  go_wp2_with fail
  refine HC.out.mono ?_
  rintro e w8 ⟨rfl, hb8⟩
  have hb58 : Below w5.heap.size w5 w8 := (below_drewN w5 (n6 + n7) _).trans hb8
  have HR8 := hid (HR5.out.below hb58 (by omega))
  have HB8 := hid (HB5.out.trans (hb58.mono (by omega)))
  have hsz8 := hb58.size
  have HT := hid (fun w => times_q (sealE l m) x w (by have := sealE_lt l m; omega) (by omega))
  have hml := mulQ_lt (sealE l m) x
  obtain ⟨s1, hs1⟩ : ∃ s1, onceN l m + mulQ (sealE l m) x = s1 := ⟨_, rfl⟩
  have g1 : IntKind.u64.wrap ((onceN l m : Int) + (mulQ (sealE l m) x : Int)) = (s1 : Int) := by rw [w64_add _ _ (by omega), hs1]
  have g2 : (s1 : Int) % 576460752303424853 = (sealS l m : Int) := by
    have : sealS l m = s1 % 576460752303424853 := by rw [← hs1, ← HX.out]; rfl
    rw [this]; omega
  clear hb8 hb58 HM5 HK5 HR5 HB5 HP1 HP2 HF1 HF2 HC HX
  go_wp2_with fail
  refine (HT.out _).mono ?_
  rintro e w9 ⟨rfl, n9, rfl⟩
  have c0 : (w8.drewN n9).cell? ⟨w.heap.size, 0, none⟩ = some (.int .u64 0) := HR8.out.cell 0
  have c1 : (w8.drewN n9).cell? ⟨w.heap.size, 1, none⟩ = some (.int .u64 0) := HR8.out.cell 1
  have z0 : (w8.drewN n9).frozen? ⟨w.heap.size, 0, none⟩ = false := HR8.out.frozen 0
  have z1 : (w8.drewN n9).frozen? ⟨w.heap.size, 1, none⟩ = false := HR8.out.frozen 1
  go_wp2
  have r2 := ((HR8.out.drewN n9).set 0 (.int .u64 (sealR l m : Int))).set 1 (.int .u64 (sealS l m : Int))
  have d0 := r2.cell 0
  have d1 := r2.cell 1
  refine bodyPost_ret (v := .agg #[.int .u64 (sealR l m : Int), .int .u64 (sealS l m : Int)]) (by simp [results, Tryd.results63, go_sem, d0, d1]) rfl ⟨rfl, ?_⟩
  exact (((HB8.out.trans (below_drewN w8 n9 _))).setCell (Nat.le_refl _) _).setCell (Nat.le_refl _) _
end Go.Proofs.YtbhghmlachlfkaaDoor
namespace Go.Proofs.YtbhghmlachlfkaaDoor
open Go.RowKit

/-- a key to the order -/
def powQ (k : Nat) : Nat := powP k qQ
theorem power_order (k : Nat) (w : World) (hk : k < 18446744073709551616) :
    Calls Tryd.prog 79 #[.int .u64 (k : Int), .int .u64 (576460752303424853 : Int), .int .u64 (1152921504606849707 : Int)] w fun e w' => e = .returned (.int .u64 (powQ k : Int)) ∧ ∃ n, w' = w.drewN n := by
  have h := power_p k qQ w hk (by decide)
  rw [show ((qQ : Nat) : Int) = (576460752303424853 : Int) from by decide] at h
  exact h
theorem power_four (e : Nat) (w : World) (he : e < 18446744073709551616) :
    Calls Tryd.prog 79 #[.int .u64 (4 : Int), .int .u64 (e : Int), .int .u64 (1152921504606849707 : Int)] w fun e' w' => e' = .returned (.int .u64 (powP 4 e : Int)) ∧ ∃ n, w' = w.drewN n :=
  power_p 4 e w (by omega) he
/-- a seal is good -/
def goodN (key : Nat) (m : List (BitVec 8)) (r s : Nat) : Prop :=
  (1 ≤ key ∧ key < 1152921504606849707) ∧ (1 ≤ r ∧ r < 1152921504606849707) ∧ s < 576460752303424853 ∧ powQ key = 1 ∧ powP 4 s = mulP r (powP key (askN r key m))

theorem inGroup_yes (x : Nat) (w : World) (h : 1 ≤ x ∧ x < 1152921504606849707) : Calls Tryd.prog 78 #[.int .u64 (x : Int)] w fun e w' => e = .returned (.bool true) ∧ w' = w := by
  have h1 : decide ((1 : Int) ≤ (x : Int)) = true := by simp; omega
  have h2 : decide ((x : Int) < (1152921504606849707 : Int)) = true := by simp; omega
  go_enter Tryd.func78, Tryd.ntmps78
  go_wp2
  go_ret
  exact ⟨rfl, rfl⟩
theorem inGroup_no (x : Nat) (w : World) (h : ¬ (1 ≤ x ∧ x < 1152921504606849707)) : Calls Tryd.prog 78 #[.int .u64 (x : Int)] w fun e w' => e = .returned (.bool false) ∧ w' = w := by
  by_cases h1 : 1 ≤ x
  · have d1 : decide ((1 : Int) ≤ (x : Int)) = true := by simp; omega
    have d2 : decide ((x : Int) < (1152921504606849707 : Int)) = false := by simp; omega
    clear h
    go_enter Tryd.func78, Tryd.ntmps78
    go_wp2
    go_ret
    exact ⟨rfl, rfl⟩
  · have d1 : decide ((1 : Int) ≤ (x : Int)) = false := by simp; omega
    clear h
    go_enter Tryd.func78, Tryd.ntmps78
    go_wp2
    go_ret
    exact ⟨rfl, rfl⟩

set_option maxRecDepth 100000 in
set_option maxHeartbeats 1000000 in
theorem good_any (key : Nat) (m : List (BitVec 8)) (r s : Nat) (mv : Value) (N : Nat) (w : World) (hk : key < 18446744073709551616) (hr : r < 18446744073709551616) (hs : s < 18446744073709551616) (hN : N ≤ w.heap.size) (hm : Bytes w N mv m) (hK : tableAt w) (hlen : m.length ≤ 140737488351232) :
    Calls Tryd.prog 59 #[.int .u64 (key : Int), mv, .agg #[.int .u64 (r : Int), .int .u64 (s : Int)]] w fun e w' => ∃ b : Bool, e = .returned (.bool b) ∧ (b = true ↔ goodN key m r s) ∧ Below w.heap.size w w' := by
  by_cases h1 : 1 ≤ key ∧ key < 1152921504606849707
  · by_cases h2 : 1 ≤ r ∧ r < 1152921504606849707
    · by_cases h3 : s < 576460752303424853
      · have HI1 := hid (fun w => inGroup_yes key w h1)
        have HI2 := hid (fun w => inGroup_yes r w h2)
        have d3 : decide ((576460752303424853 : Int) ≤ (s : Int)) = false := by simp; omega
        have HP1 := hid (fun w => power_order key w hk)
        obtain ⟨z, hz⟩ : ∃ z, powQ key = z := ⟨_, rfl⟩
        rw [hz] at HP1
        have HZ := hid hz
        obtain ⟨w1, hw1⟩ : ∃ w1, w.alloc (.cells #[.int .u64 (r : Int), .int .u64 (s : Int)] 49) = w1 := ⟨_, rfl⟩
        have hsz1 : w1.heap.size = w.heap.size + 1 := by rw [← hw1]; simp
        have hb1 : Below w.heap.size w w1 := by rw [← hw1]; exact (Below.refl _ _).alloc (Nat.le_refl _) _
        have hrow1 : Row w1 w.heap.size 49 [.int .u64 (r : Int), .int .u64 (s : Int)] := by rw [← hw1]; exact Row.new _ _ _
        have c0 : w1.cell? ⟨w.heap.size, 0, none⟩ = some (.int .u64 (r : Int)) := hrow1.cell 0
        have c1 : w1.cell? ⟨w.heap.size, 1, none⟩ = some (.int .u64 (s : Int)) := hrow1.cell 1
        have HR1 := hid hrow1
        have HB1 := hid hb1
        have HM1 := hid (hm.below (hb1.mono hN))
        have HK1 := hid (hK.below hb1 hK.lt)
        have HH := hid (show (1 ≤ key ∧ key < 1152921504606849707) ∧ (1 ≤ r ∧ r < 1152921504606849707) ∧ s < 576460752303424853 from ⟨h1, h2, h3⟩)
        clear hz hrow1 hb1 hm hK h1 h2 h3
        by_cases h4 : z = 1
        · subst h4
          have HC := hid (fun n => challenge_any r key m mv N (w1.drewN n) hr hk (by show N ≤ w1.heap.size; omega) (HM1.out.below (below_drewN _ _ _)) (HK1.out.below (below_drewN _ _ _) HK1.out.lt) hlen)
          obtain ⟨c, hc⟩ : ∃ c, askN r key m = c := ⟨_, rfl⟩
          have hcl := askN_lt r key m
          rw [hc] at HC hcl
          obtain ⟨a, ha⟩ : ∃ a, powP 4 s = a := ⟨_, rfl⟩
          obtain ⟨b, hb⟩ : ∃ b, powP key c = b := ⟨_, rfl⟩
          obtain ⟨d, hd⟩ : ∃ d, mulP r b = d := ⟨_, rfl⟩
          have hbl := powP_lt key c
          rw [hb] at hbl
          have HPA := hid (fun w => power_four s w hs)
          have HPB := hid (fun w => power_p key c w hk (by omega))
          have HPD := hid (fun w => times_p r b w hr (by omega))
          rw [ha] at HPA
          rw [hb] at HPB
          rw [hd] at HPD
          have HE := hid (show (decide (a = d) = true ↔ goodN key m r s) by
            have h := HH.out
            have hz := HZ.out
            unfold goodN
            rw [decide_eq_true_iff, hc, hb, hd, ha]
            exact ⟨fun e => ⟨h.1, h.2.1, h.2.2, hz, e⟩, fun e => e.2.2.2.2⟩)
          clear hc ha hb hd HZ HH
          go_enter Tryd.func59, Tryd.ntmps59
          go_wp2_with fail
          refine (HI1.out _).mono ?_
          rintro e w2 ⟨rfl, hw2⟩
          obtain rfl := hw2.symm
          go_wp2_with fail
          refine (HI2.out _).mono ?_
          rintro e w3 ⟨rfl, hw3⟩
          obtain rfl := hw3.symm
          go_wp2_with fail
          refine (HP1.out _).mono ?_
          rintro e w4 ⟨rfl, n4, rfl⟩
          go_wp2_with fail
          refine (HC.out n4).mono ?_
          rintro e w5 ⟨rfl, hb5⟩
          have hb15 : Below w1.heap.size w1 w5 := (below_drewN w1 n4 _).trans hb5
          have e0 : w5.cell? ⟨w.heap.size, 0, none⟩ = some (.int .u64 (r : Int)) := (hb15.cell (by show w.heap.size < w1.heap.size; omega)).trans c0
          have e1 : w5.cell? ⟨w.heap.size, 1, none⟩ = some (.int .u64 (s : Int)) := (hb15.cell (by show w.heap.size < w1.heap.size; omega)).trans c1
          have HB5 := hid (HB1.out.trans (hb15.mono (by omega)))
          clear hb5 hb15 c0 c1 HR1 HB1 HM1 HK1 HP1 HC HI1 HI2 hw1 d3
          go_wp2_with fail
          go_quiet (first
            | (go_at_call_of 79 (Value.int .u64 (s : Int)); exact Calls.quiet_of (HPA.out _))
            | (go_at_call_of 79 (Value.int .u64 (c : Int)); exact Calls.quiet_of (HPB.out _))
            | (go_at_call 81; exact Calls.quiet_of (HPD.out _)))
          go_wp2
          go_ret
          have hfin : (((a : Int) == (d : Int)) = true ↔ goodN key m r s) := by
            rw [beq_iff_eq, Int.ofNat_inj]
            exact decide_eq_true_iff.symm.trans HE.out
          exact ⟨_, rfl, hfin, HB5.out.trans (below_drewN w5 nq _)⟩
        · have d4 : ((z : Int) != 1) = true := by simp; omega
          have HE := hid (show (false = true ↔ goodN key m r s) by
            refine ⟨fun h => by simp at h, fun h => ?_⟩
            have := HZ.out
            exact absurd (this.symm.trans h.2.2.2.1) h4)
          clear HZ HH HM1 HK1 HR1
          go_enter Tryd.func59, Tryd.ntmps59
          go_wp2_with fail
          refine (HI1.out _).mono ?_
          rintro e w2 ⟨rfl, hw2⟩
          obtain rfl := hw2.symm
          go_wp2_with fail
          refine (HI2.out _).mono ?_
          rintro e w3 ⟨rfl, hw3⟩
          obtain rfl := hw3.symm
          go_wp2_with fail
          refine (HP1.out _).mono ?_
          rintro e w4 ⟨rfl, n4, rfl⟩
          go_wp2
          go_ret
          exact ⟨false, rfl, HE.out, HB1.out.trans (below_drewN w1 n4 _)⟩
      · have HI1 := hid (fun w => inGroup_yes key w h1)
        have HI2 := hid (fun w => inGroup_yes r w h2)
        have d3 : decide ((576460752303424853 : Int) ≤ (s : Int)) = true := by simp; omega
        have HE := hid (show (false = true ↔ goodN key m r s) from ⟨fun h => by simp at h, fun h => absurd h.2.2.1 h3⟩)
        obtain ⟨w1, hw1⟩ : ∃ w1, w.alloc (.cells #[.int .u64 (r : Int), .int .u64 (s : Int)] 49) = w1 := ⟨_, rfl⟩
        have hb1 : Below w.heap.size w w1 := by rw [← hw1]; exact (Below.refl _ _).alloc (Nat.le_refl _) _
        have hrow1 : Row w1 w.heap.size 49 [.int .u64 (r : Int), .int .u64 (s : Int)] := by rw [← hw1]; exact Row.new _ _ _
        have c0 : w1.cell? ⟨w.heap.size, 0, none⟩ = some (.int .u64 (r : Int)) := hrow1.cell 0
        have c1 : w1.cell? ⟨w.heap.size, 1, none⟩ = some (.int .u64 (s : Int)) := hrow1.cell 1
        have HB1 := hid hb1
        clear hb1 hrow1 hm hK
        go_enter Tryd.func59, Tryd.ntmps59
        go_wp2_with fail
        refine (HI1.out _).mono ?_
        rintro e w2 ⟨rfl, hw2⟩
        obtain rfl := hw2.symm
        go_wp2_with fail
        refine (HI2.out _).mono ?_
        rintro e w3 ⟨rfl, hw3⟩
        obtain rfl := hw3.symm
        go_wp2
        go_ret
        exact ⟨false, rfl, HE.out, HB1.out⟩
    · have HI1 := hid (fun w => inGroup_yes key w h1)
      have HI2 := hid (fun w => inGroup_no r w h2)
      have HE := hid (show (false = true ↔ goodN key m r s) from ⟨fun h => by simp at h, fun h => absurd h.2.1 h2⟩)
      obtain ⟨w1, hw1⟩ : ∃ w1, w.alloc (.cells #[.int .u64 (r : Int), .int .u64 (s : Int)] 49) = w1 := ⟨_, rfl⟩
      have hb1 : Below w.heap.size w w1 := by rw [← hw1]; exact (Below.refl _ _).alloc (Nat.le_refl _) _
      have hrow1 : Row w1 w.heap.size 49 [.int .u64 (r : Int), .int .u64 (s : Int)] := by rw [← hw1]; exact Row.new _ _ _
      have c0 : w1.cell? ⟨w.heap.size, 0, none⟩ = some (.int .u64 (r : Int)) := hrow1.cell 0
      have c1 : w1.cell? ⟨w.heap.size, 1, none⟩ = some (.int .u64 (s : Int)) := hrow1.cell 1
      have HB1 := hid hb1
      clear hb1 hrow1 hm hK
      go_enter Tryd.func59, Tryd.ntmps59
      go_wp2_with fail
      refine (HI1.out _).mono ?_
      rintro e w2 ⟨rfl, hw2⟩
      obtain rfl := hw2.symm
      go_wp2_with fail
      refine (HI2.out _).mono ?_
      rintro e w3 ⟨rfl, hw3⟩
      obtain rfl := hw3.symm
      go_wp2
      go_ret
      exact ⟨false, rfl, HE.out, HB1.out⟩
  · have HI1 := hid (fun w => inGroup_no key w h1)
    have HE := hid (show (false = true ↔ goodN key m r s) from ⟨fun h => by simp at h, fun h => absurd h.1 h1⟩)
    obtain ⟨w1, hw1⟩ : ∃ w1, w.alloc (.cells #[.int .u64 (r : Int), .int .u64 (s : Int)] 49) = w1 := ⟨_, rfl⟩
    have hb1 : Below w.heap.size w w1 := by rw [← hw1]; exact (Below.refl _ _).alloc (Nat.le_refl _) _
    have hrow1 : Row w1 w.heap.size 49 [.int .u64 (r : Int), .int .u64 (s : Int)] := by rw [← hw1]; exact Row.new _ _ _
    have c0 : w1.cell? ⟨w.heap.size, 0, none⟩ = some (.int .u64 (r : Int)) := hrow1.cell 0
    have c1 : w1.cell? ⟨w.heap.size, 1, none⟩ = some (.int .u64 (s : Int)) := hrow1.cell 1
    have HB1 := hid hb1
    clear hb1 hrow1 hm hK
    go_enter Tryd.func59, Tryd.ntmps59
    go_wp2_with fail
    refine (HI1.out _).mono ?_
    rintro e w2 ⟨rfl, hw2⟩
    obtain rfl := hw2.symm
    go_wp2
    go_ret
    exact ⟨false, rfl, HE.out, HB1.out⟩
end Go.Proofs.YtbhghmlachlfkaaDoor
