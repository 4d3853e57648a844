/-
  What the digest's small functions answer: turned words, the two choices, the four sums of turns. They turn no memory.
-/
import Derived.Test.YtedjmhiocmefiaaDoorProg
import Derived.Test.YtedjmhiocmefiaaDoorShaMath
import Derived.WalkKit
import Derived.WalkLawsBesides
import Derived.WalkSpells
namespace Go.Proofs.YtedjmhiocmefiaaDoor
open Go.RowKit
attribute [local go_sem] u_xor u_and u_or u_not u_add u_add' u_andNot
set_option maxHeartbeats 400000 in
theorem rotl_any (x : BitVec 32) (n : Nat) (hn : n < 32) (h0 : 0 < n) (w : World) :
    Calls Tryd.prog 60 #[.int .u32 (u x), .int .i64 (-(n : Int))] w fun e w' => e = .returned (.int .u32 (u (rotr x n))) ∧ w' = w := by
  have hb := rotcount n h0 hn
  go_enter Tryd.func60, Tryd.ntmps60
  go_wp2
  go_ret
  refine ⟨?_, rfl⟩
  show Ending.returned (Value.int IntKind.u32 (bits BinOp.or IntKind.u32 (u x * 2 ^ (32 - n) % 4294967296) (u x / 2 ^ (32 - (32 - n))))) = _
  rw [u_shl, u_shr, u_or, show 32 - (32 - n) = n by omega]; rfl
theorem right_any (x : BitVec 32) (n : Nat) (hn : n < 32) (h0 : 0 < n) (w : World) :
    Calls Tryd.prog 58 #[.int .u32 (u x), .int .i64 (n : Int)] w fun e w' => e = .returned (.int .u32 (u (rotr x n))) ∧ w' = w := by
  go_enter Tryd.func58, Tryd.ntmps58
  go_wp2_with (go_at_call 60; refine (rotl_any x n hn h0 _).mono ?_; rintro e w' ⟨rfl, rfl⟩)
  go_ret
  exact ⟨rfl, rfl⟩
theorem choose_any (x y z : BitVec 32) (w : World) :
    Calls Tryd.prog 51 #[.int .u32 (u x), .int .u32 (u y), .int .u32 (u z)] w fun e w' => e = .returned (.int .u32 (u (chs x y z))) ∧ w' = w := by
  go_enter Tryd.func51, Tryd.ntmps51
  go_wp2
  go_ret
  exact ⟨rfl, rfl⟩
theorem maj_any (x y z : BitVec 32) (w : World) :
    Calls Tryd.prog 53 #[.int .u32 (u x), .int .u32 (u y), .int .u32 (u z)] w fun e w' => e = .returned (.int .u32 (u (maj x y z))) ∧ w' = w := by
  go_enter Tryd.func53, Tryd.ntmps53
  go_wp2
  go_ret
  exact ⟨rfl, rfl⟩
theorem bS1_any (x : BitVec 32) (w : World) :
    Calls Tryd.prog 50 #[.int .u32 (u x)] w fun e w' => e = .returned (.int .u32 (u (bS1 x))) ∧ w' = w := by
  go_enter Tryd.func50, Tryd.ntmps50
  go_wp2_with fail
  refine (right_any x 6 (by omega) (by omega) _).mono ?_; rintro e w' ⟨rfl, rfl⟩
  go_wp2_with fail
  refine (right_any x 11 (by omega) (by omega) _).mono ?_; rintro e w' ⟨rfl, rfl⟩
  go_wp2_with fail
  refine (right_any x 25 (by omega) (by omega) _).mono ?_; rintro e w' ⟨rfl, rfl⟩
  go_wp2
  go_ret
  exact ⟨rfl, rfl⟩
theorem bS0_any (x : BitVec 32) (w : World) :
    Calls Tryd.prog 52 #[.int .u32 (u x)] w fun e w' => e = .returned (.int .u32 (u (bS0 x))) ∧ w' = w := by
  go_enter Tryd.func52, Tryd.ntmps52
  go_wp2_with fail
  refine (right_any x 2 (by omega) (by omega) _).mono ?_; rintro e w' ⟨rfl, rfl⟩
  go_wp2_with fail
  refine (right_any x 13 (by omega) (by omega) _).mono ?_; rintro e w' ⟨rfl, rfl⟩
  go_wp2_with fail
  refine (right_any x 22 (by omega) (by omega) _).mono ?_; rintro e w' ⟨rfl, rfl⟩
  go_wp2
  go_ret
  exact ⟨rfl, rfl⟩
theorem sS1_any (x : BitVec 32) (w : World) :
    Calls Tryd.prog 56 #[.int .u32 (u x)] w fun e w' => e = .returned (.int .u32 (u (sS1 x))) ∧ w' = w := by
  go_enter Tryd.func56, Tryd.ntmps56
  go_wp2_with fail
  refine (right_any x 17 (by omega) (by omega) _).mono ?_; rintro e w' ⟨rfl, rfl⟩
  go_wp2_with fail
  refine (right_any x 19 (by omega) (by omega) _).mono ?_; rintro e w' ⟨rfl, rfl⟩
  go_wp2
  go_ret
  refine ⟨?_, rfl⟩
  show Ending.returned (Value.int .u32 (bits .xor .u32 (u (rotr x 17 ^^^ rotr x 19)) (u x / 1024))) = _
  rw [u_shr10, u_xor]; rfl
theorem sS0_any (x : BitVec 32) (w : World) :
    Calls Tryd.prog 57 #[.int .u32 (u x)] w fun e w' => e = .returned (.int .u32 (u (sS0 x))) ∧ w' = w := by
  go_enter Tryd.func57, Tryd.ntmps57
  go_wp2_with fail
  refine (right_any x 7 (by omega) (by omega) _).mono ?_; rintro e w' ⟨rfl, rfl⟩
  go_wp2_with fail
  refine (right_any x 18 (by omega) (by omega) _).mono ?_; rintro e w' ⟨rfl, rfl⟩
  go_wp2
  go_ret
  refine ⟨?_, rfl⟩
  show Ending.returned (Value.int .u32 (bits .xor .u32 (u (rotr x 7 ^^^ rotr x 18)) (u x / 8))) = _
  rw [u_shr3, u_xor]; rfl
end Go.Proofs.YtedjmhiocmefiaaDoor
