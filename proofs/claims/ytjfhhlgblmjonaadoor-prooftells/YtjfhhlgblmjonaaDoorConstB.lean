/-
  A constant text of letters turned to bytes, in a new block. No function of the program is named here.
-/
import Derived.Test.YtjfhhlgblmjonaaDoorMemB
import Derived.Lib.SlBytesConst
namespace Go.Proofs.YtjfhhlgblmjonaaDoor
open Go.RowKit

/-- a constant text turned to bytes -/
theorem conv_constB (w : World) (C : Array Value) (n c : Nat) : (convert 23 23 (.slice (some ⟨w.heap.size, 0, none⟩) n c)).run Tryd.prog (w.alloc (.cells C 5)) = .ok (.slice (some ⟨w.heap.size, 0, none⟩) n c) (w.alloc (.cells C 5 (C.size, C.size + 1))) :=
  Lib.run_convert_bytes_const w 23 5 C n c Tryd.underlying23 Tryd.underlying5
/-- one letter in a new block -/
theorem one_newB (w : World) (b : BitVec 8) (v : Value) (hv : v = V b) (w1 : World) (hw : w.alloc (.cells #[v] 5 (1, 2)) = w1) :
    w1.heap.size = w.heap.size + 1 ∧ Below w.heap.size w w1 ∧ Bytes w1 w1.heap.size (.slice (some ⟨w.heap.size, 0, none⟩) 1 1) [b] := by
  subst hv
  subst hw
  have h := bytes_new w [b] 5 (1, 2) 1 (by simp)
  refine ⟨by simp, (Below.refl _ _).alloc (Nat.le_refl _) _, ?_⟩
  have e : (w.alloc (.cells #[V b] 5 (1, 2))).heap.size = w.heap.size + 1 := by simp
  rw [e]
  exact h
end Go.Proofs.YtjfhhlgblmjonaaDoor
