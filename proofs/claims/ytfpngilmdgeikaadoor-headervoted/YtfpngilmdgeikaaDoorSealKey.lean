/-
  What exponent, secret, challenge and Key answer. They turn nothing that was there.
-/
import Derived.Test.YtfpngilmdgeikaaDoorSealBytes
namespace Go.Proofs.YtfpngilmdgeikaaDoor
open Go.RowKit

def keyB : List (BitVec 8) := [107, 101, 121]
def onceB : List (BitVec 8) := [111, 110, 99, 101]
def expN (l : List (BitVec 8)) : Nat := 1 + shaN l % (qQ - 1)
def askN (r k : Nat) (m : List (BitVec 8)) : Nat := shaN (be8 r ++ (be8 k ++ m)) % qQ
def secretN (seed : List (BitVec 8)) : Nat := expN (keyB ++ seed)
def keyN (seed : List (BitVec 8)) : Nat := powP 4 (secretN seed)
theorem expN_pos (l : List (BitVec 8)) : 0 < expN l := by unfold expN; omega
theorem expN_lt (l : List (BitVec 8)) : expN l < 576460752303424853 := by
  unfold expN
  have : shaN l % (qQ - 1) < 576460752303424852 := Nat.mod_lt _ (by decide)
  omega
theorem askN_lt (r k : Nat) (m : List (BitVec 8)) : askN r k m < 576460752303424853 := Nat.mod_lt _ (by decide)
theorem be8_length (n : Nat) : (be8 n).length = 8 := rfl

set_option maxHeartbeats 400000 in
theorem exponent_any (ls : List (List (BitVec 8))) (sv : Value) (N : Nat) (w : World) (hN : N ≤ w.heap.size) (hb : Lists w N sv ls) (hK : tableAt w) (hlen : ls.flatten.length < 2305843009213693952) (hn : ls.length < 2305843009213693952) :
    Calls Tryd.prog 141 #[sv] w fun e w' => e = .returned (.int .u64 (expN ls.flatten : Int)) ∧ Below w.heap.size w w' := by
  have HP := hid (number_any ls sv N w hN hb hK hlen hn)
  have hz := shaN_lt ls.flatten
  have hex : expN ls.flatten = 1 + shaN ls.flatten % 576460752303424852 := rfl
  have hlt := expN_lt ls.flatten
  obtain ⟨z, hz0⟩ : ∃ z, shaN ls.flatten = z := ⟨_, rfl⟩
  rw [hz0] at HP hz hex
  obtain ⟨r, hr⟩ : ∃ r, z % 576460752303424852 = r := ⟨_, rfl⟩
  have e1 : (z : Int) % 576460752303424852 = (r : Int) := by omega
  rw [hr] at hex
  have hrl : r < 576460752303424852 := by omega
  have e2 : IntKind.u64.wrap (1 + (r : Int)) = ((1 + r : Nat) : Int) := w64_add 1 r (by omega)
  have HEX := hid hex
  clear hb hK hlen hn hz0 hr hex
  go_enter Tryd.func141, Tryd.ntmps141
  go_wp2_with fail
  refine HP.out.mono ?_
  rintro e w1 ⟨rfl, hb1⟩
  go_wp2
  go_ret
  rw [HEX.out]
  exact ⟨by simp, hb1⟩

/-- a constant text turned to bytes -/
theorem conv_const (w : World) (C : Array Value) (n c : Nat) : (convert 23 23 (.slice (some ⟨w.heap.size, 0, none⟩) n c)).run Tryd.prog (w.alloc (.cells C 5)) = .ok (.slice (some ⟨w.heap.size, 0, none⟩) n c) (w.alloc (.cells C 5 (C.size, C.size + 1))) :=
  Lib.run_convert_bytes_const w 23 5 C n c Tryd.underlying23 Tryd.underlying5

set_option maxHeartbeats 1000000 in
theorem secret_any (l : List (BitVec 8)) (sv : Value) (N : Nat) (w : World) (hN : N ≤ w.heap.size) (hb : Bytes w N sv l) (hK : tableAt w) (hlen : l.length ≤ 140737488351232) :
    Calls Tryd.prog 140 #[sv] w fun e w' => e = .returned (.int .u64 (secretN l : Int)) ∧ Below w.heap.size w w' := by
  obtain ⟨oa, cap, rfl, _⟩ := hb.shape
  have hcv := conv_const
  obtain ⟨w1, hw1⟩ : ∃ w1, w.alloc (.cells #[Value.int .u8 107, .int .u8 101, .int .u8 121] 5 (3, 4)) = w1 := ⟨_, rfl⟩
  have hsz1 : w1.heap.size = w.heap.size + 1 := by rw [← hw1]; simp
  have hb1 : Below w.heap.size w w1 := by rw [← hw1]; exact (Below.refl _ _).alloc (Nat.le_refl _) _
  have hk : Bytes w1 w1.heap.size (.slice (some ⟨w.heap.size, 0, none⟩) 3 3) keyB := by rw [hsz1, ← hw1]; exact bytes_new w keyB 5 (3, 4) 3 (by decide)
  have hs : Bytes w1 w1.heap.size (.slice oa l.length cap) l := (hb.below (hb1.mono hN)).mono (by omega)
  have hli := lists2 (t := 23) hk hs
  have hb2 : Below w1.heap.size w1 (w1.alloc (.cells #[.slice (some ⟨w.heap.size, 0, none⟩) 3 3, .slice oa l.length cap] 23)) := (Below.refl _ _).alloc (Nat.le_refl _) _
  have hex := exponent_any [keyB, l] _ _ _ (by simp) hli (hK.below (hb1.trans (hb2.mono (by omega))) hK.lt) (by rw [flat2]; simp [keyB]; omega) (by simp)
  rw [flat2, hsz1] at hex
  have HEX := hid hex
  have HB1 := hid hb1
  have HB2 := hid hb2
  clear hex hli hs hk hb hb1 hb2 hK
  go_enter Tryd.func140, Tryd.ntmps140
  go_wp2_with fail
  refine HEX.out.mono ?_
  rintro e w2 ⟨rfl, hb3⟩
  go_wp2
  go_ret
  exact ⟨rfl, HB1.out.trans ((HB2.out.mono (by omega)).trans (hb3.mono (by simp; omega)))⟩
set_option maxHeartbeats 400000 in
theorem key_any (l : List (BitVec 8)) (sv : Value) (N : Nat) (w : World) (hN : N ≤ w.heap.size) (hb : Bytes w N sv l) (hK : tableAt w) (hlen : l.length ≤ 140737488351232) :
    Calls Tryd.prog 94 #[sv] w fun e w' => e = .returned (.int .u64 (keyN l : Int)) ∧ Below w.heap.size w w' := by
  have HS := hid (secret_any l sv N w hN hb hK hlen)
  have HP := hid (fun w => power_p 4 (secretN l) w (by omega) (by have := expN_lt (keyB ++ l); unfold secretN; omega))
  clear hb hK hlen
  go_enter Tryd.func94, Tryd.ntmps94
  go_wp2_with fail
  refine HS.out.mono ?_
  rintro e w1 ⟨rfl, hb1⟩
  have HB1 := hid hb1
  clear hb1
  go_wp2_with fail
  refine (HP.out _).mono ?_
  rintro e w2 ⟨rfl, n, rfl⟩
  go_wp2
  go_ret
  exact ⟨rfl, HB1.out.trans ⟨rfl, rfl, rfl, Nat.le_refl _, fun _ _ => rfl⟩⟩

set_option maxHeartbeats 1000000 in
theorem challenge_any (r k : Nat) (m : List (BitVec 8)) (sv : Value) (N : Nat) (w : World) (hr : r < 18446744073709551616) (hk : k < 18446744073709551616) (hN : N ≤ w.heap.size) (hb : Bytes w N sv m) (hK : tableAt w) (hlen : m.length ≤ 140737488351232) :
    Calls Tryd.prog 138 #[.int .u64 (r : Int), .int .u64 (k : Int), sv] w fun e w' => e = .returned (.int .u64 (askN r k m : Int)) ∧ Below w.heap.size w w' := by
  obtain ⟨oa, cap, rfl, _⟩ := hb.shape
  have hz := shaN_lt (be8 r ++ (be8 k ++ m))
  have hex : askN r k m = shaN (be8 r ++ (be8 k ++ m)) % 576460752303424853 := rfl
  obtain ⟨w1, hw1⟩ : ∃ w1, w.alloc (.cells ((be8 r).map V).toArray 5) = w1 := ⟨_, rfl⟩
  have hsz1 : w1.heap.size = w.heap.size + 1 := by rw [← hw1]; simp
  have hb1 : Below w.heap.size w w1 := by rw [← hw1]; exact (Below.refl _ _).alloc (Nat.le_refl _) _
  have hr8 : Bytes w1 w1.heap.size (.slice (some ⟨w.heap.size, 0, none⟩) 8 8) (be8 r) := by rw [hsz1, ← hw1]; exact bytes_new w (be8 r) 5 (0, 0) 8 (by simp [be8_length])
  obtain ⟨w2, hw2⟩ : ∃ w2, w1.alloc (.cells ((be8 k).map V).toArray 5) = w2 := ⟨_, rfl⟩
  have hsz2 : w2.heap.size = w.heap.size + 2 := by rw [← hw2]; simp; omega
  have hb2 : Below w1.heap.size w1 w2 := by rw [← hw2]; exact (Below.refl _ _).alloc (Nat.le_refl _) _
  have hk8 : Bytes w2 w2.heap.size (.slice (some ⟨w1.heap.size, 0, none⟩) 8 8) (be8 k) := by rw [show w2.heap.size = w1.heap.size + 1 by omega, ← hw2]; exact bytes_new w1 (be8 k) 5 (0, 0) 8 (by simp [be8_length])
  have hr8' : Bytes w2 w2.heap.size (.slice (some ⟨w.heap.size, 0, none⟩) 8 8) (be8 r) := (hr8.below hb2).mono (by omega)
  have hb12 : Below w.heap.size w w2 := hb1.trans (hb2.mono (by omega))
  have hs : Bytes w2 w2.heap.size (.slice oa m.length cap) m := (hb.below (hb12.mono hN)).mono (by omega)
  have hli := lists3 (t := 23) hr8' hk8 hs
  have hb3 : Below w2.heap.size w2 (w2.alloc (.cells #[.slice (some ⟨w.heap.size, 0, none⟩) 8 8, .slice (some ⟨w1.heap.size, 0, none⟩) 8 8, .slice oa m.length cap] 23)) := (Below.refl _ _).alloc (Nat.le_refl _) _
  have hnum := number_any [be8 r, be8 k, m] _ _ _ (by simp) hli (hK.below (hb12.trans (hb3.mono (by omega))) hK.lt) (by rw [flat3]; simp [be8_length]; omega) (by simp)
  rw [flat3, hsz1, hsz2] at hnum
  obtain ⟨z, hz0⟩ : ∃ z, shaN (be8 r ++ (be8 k ++ m)) = z := ⟨_, rfl⟩
  rw [hz0] at hnum hz hex
  obtain ⟨q, hq⟩ : ∃ q, z % 576460752303424853 = q := ⟨_, rfl⟩
  have e1 : (z : Int) % 576460752303424853 = (q : Int) := by omega
  rw [hq] at hex
  have HE1 := hid (eight_any r w hr)
  have HE2 := hid (eight_any k w1 hk)
  rw [hw1] at HE1
  rw [hw2, hsz1] at HE2
  have HNUM := hid hnum
  have HEX := hid hex
  have HB12 := hid hb12
  rw [hsz1] at hb3
  have HB3 := hid hb3
  clear hnum hex hb12 hb3 hb1 hb2 hr8 hk8 hr8' hs hli hb hK hz0 hq hw1 hw2
  go_enter Tryd.func138, Tryd.ntmps138
  go_wp2_with fail
  refine HE1.out.mono ?_
  rintro e w3 ⟨rfl, rfl⟩
  go_wp2_with fail
  refine HE2.out.mono ?_
  rintro e w4 ⟨rfl, rfl⟩
  go_wp2_with fail
  refine HNUM.out.mono ?_
  rintro e w5 ⟨rfl, hb5⟩
  go_wp2
  go_ret
  rw [HEX.out, ← e1]
  have h3 := HB3.out.mono (show w.heap.size ≤ _ by omega)
  have h5 := hb5.mono (show w.heap.size ≤ _ by simp; omega)
  exact ⟨rfl, HB12.out.trans (h3.trans h5)⟩
end Go.Proofs.YtfpngilmdgeikaaDoor
