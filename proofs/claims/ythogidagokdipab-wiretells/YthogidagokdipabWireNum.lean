/-
  What appendNumber does: a number's bytes, behind what the call owns.
-/
import Derived.Test.YthogidagokdipabWireMath
import Derived.Test.YthogidagokdipabAppendKeep
namespace Go.Proofs.Ythogidagokdipab
open Go.RowKit

theorem and_low (k : Nat) (hk : k < 18446744073709551616) : bits .and .u64 (k : Int) 127 = ((k % 128 : Nat) : Int) := by
  rw [show (127 : Int) = ((127 : Nat) : Int) from rfl, u64_and_nat _ _ hk (by omega), nat_mask7]
theorem or_more (k : Nat) (hk : k < 18446744073709551616) : bits .or .u8 (bits .and .u64 (k : Int) 127 % 256) 128 = b8 (BitVec.ofNat 8 (128 + k % 128)) := by
  have h1 : k % 128 < 128 := Nat.mod_lt _ (by omega)
  rw [and_low k hk, show (((k % 128 : Nat) : Int)) % 256 = ((k % 128 : Nat) : Int) by omega, show (128 : Int) = ((128 : Nat) : Int) from rfl, u8_or_nat _ _ (by omega) (by omega), Nat.or_comm]
  have := Nat.two_pow_add_eq_or_of_lt (i := 7) (show k % 128 < 2 ^ 7 by omega) 1
  rw [show (2 : Nat) ^ 7 * 1 = 128 from rfl] at this
  rw [← this]
  unfold b8; simp; omega
set_option maxRecDepth 100000 in
set_option maxHeartbeats 1000000 in
theorem appendNumber_any (n : Nat) (l : List (BitVec 8)) (v : Value) (base : Nat) (w : World) (hn : n < 18446744073709551616) (hb : base ≤ w.heap.size) (hown : OwnB w base v l) (hl : l.length ≤ 1000000) :
    Calls Try.prog 13 #[v, .int .u64 (n : Int)] w fun e w' => ∃ v', e = .returned v' ∧ OwnB w' base v' (l ++ numB n) ∧ Below base w w' ∧ Keeps w w' := by
  have HO := hid hown
  clear hown
  go_enter Try.func13, Try.ntmps13
  go_wp2_with fail
  go_loopw [0, 1] (fun x y wr => ∃ (k : Nat) (m : List (BitVec 8)), y = .int .u64 (k : Int) ∧ k < 18446744073709551616 ∧ Hid (OwnB wr base x m ∧ Below base w wr ∧ l ++ numB n = m ++ numB k ∧ Keeps w wr)) (fun _ y _ => (intOf y).toNat)
  case atStart => exact ⟨n, l, rfl, hn, HO.out, Below.refl _ _, rfl, Keeps.refl _⟩
  case round =>
    obtain ⟨k, m, rfl, hk, HR⟩ := hrel
    have hm : m.length ≤ 1000020 := by
      have h1 := congrArg List.length HR.out.2.2.1
      have h2 := numB_ten n hn
      simp at h1; omega
    have hs : base ≤ wr.heap.size := Nat.le_trans hb HR.out.2.1.size
    by_cases hbig : k < 128
    · have hgt : decide ((127 : Int) < (k : Int)) = false := by simp; omega
      have hy := hid (show (k : Int) = b8 (BitVec.ofNat 8 k) by unfold b8; simp; omega)
      go_wp2_with (at_builtin; refine wpList_append_one rfl (.tmp 16) (.tmp 19) rfl base _ m rfl HR.out.1 _ _ hy.out rfl (by omega) hs ?_; intro v' w1 hown' hbe' hke')
      go_ret
      exact ⟨_, rfl, by rw [HR.out.2.2.1, numB_small hbig]; exact hown', HR.out.2.1.trans hbe', HR.out.2.2.2.trans hke'⟩
    · have hgt : decide ((127 : Int) < (k : Int)) = true := by simp; omega
      have hy : bits .or .u8 (bits .and .u64 (k : Int) 127 % 256) 128 = b8 (BitVec.ofNat 8 (128 + k % 128)) := or_more k hk
      go_wp2_with (at_builtin; refine wpList_append_one rfl (.tmp 7) (.tmp 12) rfl base _ m rfl HR.out.1 _ _ rfl rfl (by omega) hs ?_; intro v' w1 hown' hbe' hke')
      go_roundw
      case rel => exact ⟨k / 128, m ++ [BitVec.ofNat 8 (128 + k % 128)], by go_num, by omega, hown', HR.out.2.1.trans hbe', by rw [HR.out.2.2.1, numB_big (by omega)]; simp, HR.out.2.2.2.trans hke'⟩
      case measure => simp [intOf]; omega
end Go.Proofs.Ythogidagokdipab
