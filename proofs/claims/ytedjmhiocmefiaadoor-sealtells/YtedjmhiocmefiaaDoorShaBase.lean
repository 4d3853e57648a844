/-
  What Sum and Parts begin with: no bytes at all, abstractly; the table of words stays.
-/
import Derived.Test.YtedjmhiocmefiaaDoorShaFinish
namespace Go.Proofs.YtedjmhiocmefiaaDoor
open Go.RowKit

theorem abs_nil : Abs [] (List.replicate 64 0) := ⟨by simp, by simp⟩
theorem digOf_nil : digOf [] (List.replicate 64 0) = dig0 := rfl
theorem tableAt.lt {w : World} (h : tableAt w) : (0 : Nat) < w.heap.size := block_lt_of_cell (h 0 (by omega))
theorem tableAt.below {w w' : World} {N : Nat} (h : tableAt w) (hg : Below N w w') (hN : (0 : Nat) < N) : tableAt w' := fun t ht => (hg.cell hN).trans (h t ht)
theorem dig0_all : dig0.toArray.all (·.oneCell') = true := by kernel_rfl
theorem digZ_dig0 : digZ.toArray.size = dig0.toArray.size := by kernel_rfl
theorem info_dig0 : (Tryd.prog.info? 44).map (·.size) = some dig0.toArray.size := by rw [dig0_size]; exact info_dig
theorem below_grown {w w' : World} {N B : Nat} (h : w.grownBy w' (some B)) (hN : N ≤ B) (hw : N ≤ w.heap.size) : Below N w w' :=
  ⟨h.os, h.tape, h.output, h.size, fun k hk => h.block k (by omega) (by simp; omega)⟩

end Go.Proofs.YtedjmhiocmefiaaDoor
