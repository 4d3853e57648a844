/-
  What the document's answer's small functions give: a turned word; a product of two words of 64 bits; whether a power is more than a shifted number; a root's bits.
-/
import Derived.Test.YtedjmhiocmefiaaDoorWords
import Derived.WalkLawsBesides
import Derived.WalkSpells
namespace Go.Proofs.YtedjmhiocmefiaaDoor
open Go.RowKit
attribute [local go_sem] u_or

set_option maxHeartbeats 400000 in
theorem turn_any (x : BitVec 32) (n : Nat) (hn : n < 32) (h0 : 0 < n) (w : World) :
    Calls Tryd.prog 27 #[.int .u32 (u x), .int .i64 (n : Int)] w fun e w' => e = .returned (.int .u32 (u (rotr x n))) ∧ w' = w.drew := by
  have hn' : (n : Int) < 32 := by omega
  have hw : IntKind.i64.wrap (32 - (n : Int)) = ((32 - n : Nat) : Int) := by simp [IntKind.wrap, IntKind.bits, IntKind.signed]; split <;> omega
  have hnn : (0 : Int) ≤ (n : Int) := by omega
  have hnn2 : (0 : Int) ≤ ((32 - n : Nat) : Int) := by omega
  go_enter Tryd.func27, Tryd.ntmps27
  go_wp2_with fail
  refine region_still (by kernel_rfl) (by kernel_rfl) ?_
  repeat still_step
  refine wpStill_nil ?_
  go_wp2
  go_ret
  refine ⟨?_, rfl⟩
  show Ending.returned (Value.int .u32 (bits .or .u32 (u x / 2 ^ n) (IntKind.u32.wrap (u x * 2 ^ (32 - n))))) = _
  rw [IntKind.wrap_u32', u_shl, u_shr, u_or]
  unfold rotr
  rw [BitVec.or_comm]

end Go.Proofs.YtedjmhiocmefiaaDoor
