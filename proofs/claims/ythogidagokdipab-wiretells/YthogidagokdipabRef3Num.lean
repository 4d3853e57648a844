/-
  What the document's Num answers: a number's bytes, in new memory.
-/
import Derived.Test.YthogidagokdipabWireMath
import Derived.Test.YthogidagokdipabAppendKeep
namespace Go.Proofs.Ythogidagokdipab
open Go.RowKit

set_option maxRecDepth 100000 in
set_option maxHeartbeats 1000000 in
theorem refNum_any (n : Nat) (w : World) (hn : n < 18446744073709551616) :
    Calls Try.prog 15 #[.int .u64 (n : Int)] w fun e w' => ∃ v', e = .returned v' ∧ OwnB w' w.heap.size v' (numB n) ∧ Below w.heap.size w w' := by
  go_enter Try.func15, Try.ntmps15
  go_wp2_with fail
  go_loopw [0, 3] (fun y x wr => ∃ (k : Nat) (m : List (BitVec 8)), y = .int .u64 (k : Int) ∧ k < 18446744073709551616 ∧ Hid (OwnB wr w.heap.size x m ∧ Below w.heap.size w wr ∧ numB n = m ++ numB k)) (fun y _ _ => (intOf y).toNat)
  case atStart => exact ⟨n, [], rfl, hn, OwnB.nil _ _, Below.refl _ _, rfl⟩
  case round =>
    obtain ⟨k, m, rfl, hk, HR⟩ := hrel
    have hm : m.length ≤ 1000020 := by
      have h1 := congrArg List.length HR.out.2.2
      have h2 := numB_ten n hn
      simp at h1; omega
    have hs : w.heap.size ≤ wr.heap.size := HR.out.2.1.size
    by_cases hbig : k < 128
    · have hgt : decide ((127 : Int) < (k : Int)) = false := by simp; omega
      have hy := hid (show (k : Int) = b8 (BitVec.ofNat 8 k) by unfold b8; simp; omega)
      go_wp2_with (at_builtin; refine wpList_append_one rfl (.tmp 15) (.tmp 18) rfl w.heap.size _ m rfl HR.out.1 _ _ hy.out rfl (by omega) hs ?_; intro v' w1 hown' hbe' hke')
      go_ret
      exact ⟨_, rfl, by rw [HR.out.2.2, numB_small hbig]; exact hown', HR.out.2.1.trans hbe'⟩
    · have hgt : decide ((127 : Int) < (k : Int)) = true := by simp; omega
      have hy := hid (show 128 + (k : Int) % 128 = b8 (BitVec.ofNat 8 (128 + k % 128)) by unfold b8; simp; omega)
      go_wp2_with (at_builtin; go_loud (refine wpList_append_one rfl (.tmp 6) (.tmp 11) rfl w.heap.size _ m rfl HR.out.1 _ _ hy.out rfl (by omega) hs ?_); intro v' w1 hown' hbe' hke')
      go_roundw
      case rel => exact ⟨k / 128, m ++ [BitVec.ofNat 8 (128 + k % 128)], by go_num, by omega, hown', HR.out.2.1.trans hbe', by rw [HR.out.2.2, numB_big (by omega)]; simp⟩
      case measure => simp [intOf]; omega
end Go.Proofs.Ythogidagokdipab
