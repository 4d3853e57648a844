/-
  What the document's Number, Secret, Key and Ask answer. They turn nothing that was there.
-/
import Derived.Test.YtiflkkelbnpniaaGreatDoorRef1All
import Derived.Test.YtiflkkelbnpniaaGreatDoorRef2Bytes
import Derived.Test.YtiflkkelbnpniaaGreatDoorRef2Power
namespace Go.Proofs.YtiflkkelbnpniaaGreatDoor
open Go.RowKit

theorem mul_byte (n : Nat) (b : BitVec 8) (hn : n < 72057594037927936) : IntKind.u64.wrap (IntKind.u64.wrap (256 * (n : Int)) + b8 b) = ((n * 256 + b.toNat : Nat) : Int) := by
  have hb := b.isLt
  have h1 : IntKind.u64.wrap (256 * (n : Int)) = ((256 * n : Nat) : Int) := w64_mul 256 n (by omega)
  have h2 : b8 b = ((b.toNat : Nat) : Int) := rfl
  rw [h1, h2, w64_add _ _ (by omega)]
  omega

set_option maxRecDepth 100000 in
set_option maxHeartbeats 1000000 in
theorem refNumber_any (b : List (BitVec 8)) (sv : Value) (N : Nat) (w : World) (hN : N ≤ w.heap.size) (hb : Bytes w N sv b) (hlen : b.length ≤ 140737488352232) :
    Calls Tryz.prog 146 #[sv] w fun e w' => e = .returned (.int .u64 (shaN b : Int)) ∧ Below w.heap.size w w' := by
  have HP := hid (refSum_any b sv N w hN hb hlen)
  clear hb hlen
  go_enter Tryz.func146, Tryz.ntmps146
  go_wp2_with fail
  refine HP.out.mono ?_
  rintro e w1 ⟨v, rfl, hown, hb1⟩
  obtain ⟨ov, capv, rfl, hcap, hsv⟩ := ownsRow_shape hown
  obtain ⟨gv, rfl, _, _, hcell⟩ := hsv (by omega)
  have hc : ∀ k, k < 8 → w1.cell? ⟨gv, k, none⟩ = some (.int .u8 (b8 ((sha b).getD k 0))) := by
    intro k hk
    rw [(hcell k (by omega)).1, List.getElem?_map, getD_some _ k 0 (by rw [sha_length]; omega)]
    rfl
  have hcap8 : (8 : Int) ≤ (capv : Int) := by omega
  have HC := hid hc
  have HB1 := hid hb1
  have hsl := sha_length b
  obtain ⟨l, hl⟩ : ∃ l, sha b = l := ⟨_, rfl⟩
  have HSH := hid (show shaN b = numL (l.take 8) by rw [← hl]; rfl)
  rw [hl] at hsl HC
  have HL := hid hsl
  clear hsv hcell hc hb1 hown HP hsl hl
  go_wp2_with fail
  go_loop [3, 10] (fun n i => ∃ k : Nat, k ≤ 8 ∧ i = .int .i64 k ∧ n = .int .u64 (numL (l.take k) : Int)) (fun _ i => 8 - (intOf i).toNat)
  case atStart => exact ⟨0, by omega, rfl, rfl⟩
  case round =>
    obtain ⟨k, hk, rfl, rfl⟩ := hrel
    by_cases hlt : k < 8
    · have hck := HC.out k hlt
      have hlt' : (k : Int) < 8 := by omega
      have hkl : k < l.length := by rw [HL.out]; omega
      have hnx : numL (l.take (k + 1)) = numL (l.take k) * 256 + (l.getD k 0).toNat := by
        rw [List.take_succ_eq_append_getElem hkl, numL_snoc]; simp [hkl]
      have hsm : numL (l.take k) < 72057594037927936 := by
        have h1 := numL_lt k (l.take k) (by rw [List.length_take]; omega)
        have h2 := Nat.pow_le_pow_right (show 0 < 256 by omega) (show k ≤ 7 by omega)
        omega
      have hor := mul_byte (numL (l.take k)) (l.getD k 0) hsm
      rw [← hnx] at hor
      obtain ⟨c, hb⟩ : ∃ c, l.getD k 0 = c := ⟨_, rfl⟩
      obtain ⟨n0, hn0⟩ : ∃ n0, numL (l.take k) = n0 := ⟨_, rfl⟩
      obtain ⟨n1, hn1⟩ : ∃ n1, numL (l.take (k + 1)) = n1 := ⟨_, rfl⟩
      rw [hb] at hck hor
      rw [hn0, hn1] at hor
      rw [hn0]
      have HN1 := hid hn1
      have hw8 : IntKind.u64.wrap (b8 c) = b8 c := by
        have h1 : b8 c = ((c.toNat : Nat) : Int) := rfl
        have := c.isLt
        rw [h1]; exact w64 _ (by omega)
      have hb0 := b8_lo c
      have hb1 := b8_hi c
      clear hn0 hn1 hb hnx hsm HC
      go_wp2
      go_round
      case rel => exact ⟨k + 1, by omega, by go_num, by rw [HN1.out]⟩
      case measure => simp [intOf]; omega
    · have hk8 : k = 8 := by omega
      subst hk8
      go_wp2
      go_ret
      rw [HSH.out]
      exact ⟨rfl, HB1.out⟩

/-- the number of joined parts -/
theorem flat_len2 (a b : List (BitVec 8)) : [a, b].flatten.length = a.length + b.length := by simp
theorem flat_len3 (a b c : List (BitVec 8)) : [a, b, c].flatten.length = a.length + b.length + c.length := by simp; omega

theorem refPower_p (b e : Nat) (w : World) (hb : b < 18446744073709551616) (he : e < 18446744073709551616) :
    Calls Tryz.prog 124 #[.int .u64 (b : Int), .int .u64 (e : Int), .int .u64 (1152921504606849707 : Int)] w fun e' w' => e' = .returned (.int .u64 (powP b e : Int)) ∧ w' = w := by
  have h := refPower_any b e pP (powP b e) w (by decide) (by decide) hb he rfl
  rw [show ((pP : Nat) : Int) = (1152921504606849707 : Int) from by decide] at h
  exact h
theorem refPower_four (e : Nat) (w : World) (he : e < 18446744073709551616) :
    Calls Tryz.prog 124 #[.int .u64 (4 : Int), .int .u64 (e : Int), .int .u64 (1152921504606849707 : Int)] w fun e' w' => e' = .returned (.int .u64 (powP 4 e : Int)) ∧ w' = w :=
  refPower_p 4 e w (by omega) he
theorem refTimes_p (a b : Nat) (w : World) (hb : b < 18446744073709551616) :
    Calls Tryz.prog 125 #[.int .u64 (a : Int), .int .u64 (b : Int), .int .u64 (1152921504606849707 : Int)] w fun e' w' => e' = .returned (.int .u64 (mulP a b : Int)) ∧ w' = w := by
  have h := refTimes_any a b pP (mulP a b) w (by decide) (by decide) hb rfl
  rw [show ((pP : Nat) : Int) = (1152921504606849707 : Int) from by decide] at h
  exact h
theorem refTimes_q (a b : Nat) (w : World) (hb : b < 18446744073709551616) :
    Calls Tryz.prog 125 #[.int .u64 (a : Int), .int .u64 (b : Int), .int .u64 (576460752303424853 : Int)] w fun e' w' => e' = .returned (.int .u64 (mulQ a b : Int)) ∧ w' = w := by
  have h := refTimes_any a b qQ (mulQ a b) w (by decide) (by decide) hb rfl
  rw [show ((qQ : Nat) : Int) = (576460752303424853 : Int) from by decide] at h
  exact h

set_option maxHeartbeats 1000000 in
theorem refAsk_any (r k : Nat) (m : List (BitVec 8)) (sv : Value) (N : Nat) (w : World) (hr : r < 18446744073709551616) (hk : k < 18446744073709551616) (hN : N ≤ w.heap.size) (hb : Bytes w N sv m) (hlen : m.length ≤ 140737488351232) :
    Calls Tryz.prog 126 #[.int .u64 (r : Int), .int .u64 (k : Int), sv] w fun e w' => e = .returned (.int .u64 (askN r k m : Int)) ∧ Below w.heap.size w w' := by
  obtain ⟨oa, cap, rfl, _⟩ := hb.shape
  have HBY := hid hb
  have HE1 := hid (refEight_any r w hr)
  clear hb
  go_enter Tryz.func126, Tryz.ntmps126
  go_wp2_with fail
  refine HE1.out.mono ?_
  rintro e w1 ⟨rfl, hrow1, hsz1, hb1⟩
  have HE2 := hid (refEight_any k w1 hk)
  rw [hsz1] at HE2
  have HROW1 := hid hrow1
  have HB1 := hid hb1
  clear hrow1 hb1 HE1
  go_wp2_with fail
  refine HE2.out.mono ?_
  rintro e w2 ⟨rfl, hrow2, hsz2, hb2⟩
  have hr8 : Bytes w2 w2.heap.size (.slice (some ⟨w.heap.size, 0, none⟩) 8 8) (be8 r) := row_bytes (HROW1.out.below hb2 (by omega)) 8 (Nat.le_refl _) (be8_length r)
  have hk8 : Bytes w2 w2.heap.size (.slice (some ⟨w.heap.size + 1, 0, none⟩) 8 8) (be8 k) := row_bytes hrow2 8 (Nat.le_refl _) (be8_length k)
  have hb02 : Below w.heap.size w w2 := HB1.out.trans (hb2.mono (by omega))
  have hs : Bytes w2 w2.heap.size (.slice oa m.length cap) m := (HBY.out.below (hb02.mono hN)).mono (by omega)
  have hli := lists3 (t := 25) hr8 hk8 hs
  have hb3 : Below w2.heap.size w2 (w2.alloc (.cells #[.slice (some ⟨w.heap.size, 0, none⟩) 8 8, .slice (some ⟨w.heap.size + 1, 0, none⟩) 8 8, .slice oa m.length cap] 25)) := (Below.refl _ _).alloc (Nat.le_refl _) _
  have hjo := join_any [be8 r, be8 k, m] _ _ _ (by simp) hli (by rw [flat_len3]; simp only [be8_length]; omega) (by simp)
  rw [flat3, hsz2] at hjo
  have HJ := hid hjo
  have HB03 := hid (hb02.trans (hb3.mono (by omega)))
  clear hjo hli hs hr8 hk8 hrow2 hb2 hb02 hb3 HE2 HROW1 HB1
  go_wp2_with fail
  refine HJ.out.mono ?_
  rintro e w4 ⟨v, rfl, hown, hb4⟩
  have hb04 : Below w.heap.size w w4 := HB03.out.trans (hb4.mono (by simp; omega))
  have hsz4 := hb04.size
  have HN := hid (refNumber_any (be8 r ++ (be8 k ++ m)) v w4.heap.size w4 (Nat.le_refl _) (ownsRow_bytes hown) (by simp only [List.length_append, be8_length]; omega))
  have HB := hid hb04
  have hz := shaN_lt (be8 r ++ (be8 k ++ m))
  have hex : askN r k m = shaN (be8 r ++ (be8 k ++ m)) % 576460752303424853 := rfl
  obtain ⟨z, hz0⟩ : ∃ z, shaN (be8 r ++ (be8 k ++ m)) = z := ⟨_, rfl⟩
  rw [hz0] at HN hz hex
  obtain ⟨q, hq⟩ : ∃ q, z % 576460752303424853 = q := ⟨_, rfl⟩
  have e1 : (z : Int) % 576460752303424853 = (q : Int) := by omega
  rw [hq] at hex
  have HEX := hid hex
  clear hown hb4 hb04 hz0 hq hex HJ HB03
  go_wp2_with fail
  refine HN.out.mono ?_
  rintro e w5 ⟨rfl, hb5⟩
  go_wp2
  go_ret
  rw [HEX.out, ← e1]
  exact ⟨rfl, HB.out.trans (hb5.mono hsz4)⟩
end Go.Proofs.YtiflkkelbnpniaaGreatDoor
