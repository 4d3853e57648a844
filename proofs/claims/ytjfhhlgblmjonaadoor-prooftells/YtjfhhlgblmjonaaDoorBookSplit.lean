/-
  What math/bits.Len of small numbers, and package book's split, answer.
-/
import Derived.Test.YtjfhhlgblmjonaaDoorBookMath
import Derived.Test.YtjfhhlgblmjonaaDoorMemB
import Derived.Lib.Walk
import Derived.Lib.BitFns
namespace Go.Proofs.YtjfhhlgblmjonaaDoor
open Go.RowKit

set_option maxHeartbeats 1000000 in
set_option maxRecDepth 100000 in
theorem len64_small (x : Nat) (w : World) (h : x < 256) : Calls Tryd.prog 76 #[.int .u64 (x : Int)] w fun e w' => e = .returned (.int .i64 (Lib.bitLen x : Int)) ∧ w' = w := by
  have e1 : decide ((4294967296 : Int) ≤ (x : Int)) = false := by simp; omega
  have e2 : decide ((65536 : Int) ≤ (x : Int)) = false := by simp; omega
  have e3 : decide ((256 : Int) ≤ (x : Int)) = false := by simp; omega
  go_enter Tryd.func76, Tryd.ntmps76
  go_wp2
  all_goals (go_ret; refine ⟨congrArg Ending.returned (congrArg (Value.int IntKind.i64) ?_), rfl⟩)
  have hl := Lib.bitLen_le8 ⟨x, h⟩
  have he := Lib.len8_eq ⟨x, h⟩
  unfold Lib.len8 at he
  simp only [Int.toNat_natCast] at he
  have hs : x < Lib.len8tab.size := by rw [show Lib.len8tab.size = 256 from by kernel_rfl]; exact h
  rw [getElem?_pos Lib.len8tab x hs] at he
  simp only at hl he
  have he2 : ((Lib.len8tab[x]'hs).toNat : Int) = (Lib.bitLen x : Int) := he
  rw [he2]
  unfold wrap64
  omega
theorem half_bits : ∀ n : Fin 257, 2 ≤ n.val → 1 ≤ Lib.bitLen (n.val - 1) ∧ Lib.bitLen (n.val - 1) ≤ 8 ∧ halfN n.val = 2 ^ (Lib.bitLen (n.val - 1) - 1) := by decide +kernel
set_option maxHeartbeats 1000000 in
theorem len_small (x : Nat) (w : World) (h : x < 256) : Calls Tryd.prog 68 #[.int .u64 (x : Int)] w fun e w' => e = .returned (.int .i64 (Lib.bitLen x : Int)) ∧ w' = w := by
  have HL := hid (len64_small x w h)
  go_enter Tryd.func68, Tryd.ntmps68
  go_wp2_with fail
  refine HL.out.mono ?_
  rintro e w' ⟨rfl, hw⟩
  obtain rfl := hw.symm
  go_wp2
  go_ret
  exact ⟨rfl, rfl⟩
set_option maxHeartbeats 1000000 in
theorem split_any (n : Nat) (w : World) (h2 : 2 ≤ n) (hn : n ≤ 256) : Calls Tryd.prog 57 #[.int .i64 (n : Int)] w fun e w' => e = .returned (.int .i64 (halfN n : Int)) ∧ w' = w := by
  obtain ⟨h1, h8, hh⟩ := half_bits ⟨n, by omega⟩ h2
  simp only at h1 h8 hh
  obtain ⟨x, hx⟩ : ∃ x, n - 1 = x := ⟨_, rfl⟩
  rw [hx] at h1 h8 hh
  obtain ⟨b, hb⟩ : ∃ b, Lib.bitLen x = b := ⟨_, rfl⟩
  have HL := hid (len_small x w (by omega))
  rw [hb] at h1 h8 hh HL
  have HH := hid hh
  have e1 : (n : Int) - 1 = (x : Int) := by omega
  have e2 : decide ((n : Int) < 2) = false := by simp; omega
  clear hh hb hx
  go_enter Tryd.func57, Tryd.ntmps57
  go_wp2_with fail
  refine HL.out.mono ?_
  rintro e w' ⟨rfl, hw⟩
  obtain rfl := hw.symm
  have hcases : b = 1 ∨ b = 2 ∨ b = 3 ∨ b = 4 ∨ b = 5 ∨ b = 6 ∨ b = 7 ∨ b = 8 := by omega
  rcases hcases with rfl | rfl | rfl | rfl | rfl | rfl | rfl | rfl <;>
    (go_wp2
     go_ret
     exact ⟨by rw [HH.out]; rfl, rfl⟩)
end Go.Proofs.YtjfhhlgblmjonaaDoor
