/-
  What begin answers: a digest in the making that has taken nothing.
-/
import Derived.Test.YtedjmhiocmefiaaDoorProg
import Derived.Test.YtedjmhiocmefiaaDoorShaDig
import Derived.WalkLawsBesides
import Derived.WalkSpells
namespace Go.Proofs.YtedjmhiocmefiaaDoor
open Go.RowKit
def dig0 : List Value := dig hTab (List.replicate 64 0) 0 0
/-- a digest of zeros -/
def digZ : List Value := List.replicate 8 (.int .u32 0) ++ List.replicate 64 (.int .u8 0) ++ [.int .i64 0, .int .u64 0]
theorem digZ_size : digZ.toArray.size = 74 := by kernel_rfl
theorem zero_dig (w : World) : (zeroValue 44).run Tryd.prog w = .ok (.agg digZ.toArray) w := by kernel_rfl
theorem info_dig : (Tryd.prog.info? 44).map (·.size) = some 74 := by kernel_rfl
theorem dig0_size : dig0.toArray.size = 74 := by kernel_rfl
set_option maxRecDepth 100000 in
set_option maxHeartbeats 1000000 in
theorem begin_any (w : World) : Calls Tryd.prog 22 #[] w fun e w' => e = .returned (.agg dig0.toArray) ∧ Below w.heap.size w w' := by
  go_enter Tryd.func22, Tryd.ntmps22
  have hzv : ∀ w : World, (zeroValue 44).run Tryd.prog w = .ok (.agg #[(.int .u32 0), (.int .u32 0), (.int .u32 0), (.int .u32 0), (.int .u32 0), (.int .u32 0), (.int .u32 0), (.int .u32 0), (.int .u8 0), (.int .u8 0), (.int .u8 0), (.int .u8 0), (.int .u8 0), (.int .u8 0), (.int .u8 0), (.int .u8 0), (.int .u8 0), (.int .u8 0), (.int .u8 0), (.int .u8 0), (.int .u8 0), (.int .u8 0), (.int .u8 0), (.int .u8 0), (.int .u8 0), (.int .u8 0), (.int .u8 0), (.int .u8 0), (.int .u8 0), (.int .u8 0), (.int .u8 0), (.int .u8 0), (.int .u8 0), (.int .u8 0), (.int .u8 0), (.int .u8 0), (.int .u8 0), (.int .u8 0), (.int .u8 0), (.int .u8 0), (.int .u8 0), (.int .u8 0), (.int .u8 0), (.int .u8 0), (.int .u8 0), (.int .u8 0), (.int .u8 0), (.int .u8 0), (.int .u8 0), (.int .u8 0), (.int .u8 0), (.int .u8 0), (.int .u8 0), (.int .u8 0), (.int .u8 0), (.int .u8 0), (.int .u8 0), (.int .u8 0), (.int .u8 0), (.int .u8 0), (.int .u8 0), (.int .u8 0), (.int .u8 0), (.int .u8 0), (.int .u8 0), (.int .u8 0), (.int .u8 0), (.int .u8 0), (.int .u8 0), (.int .u8 0), (.int .u8 0), (.int .u8 0), (.int .i64 0), (.int .u64 0)]) w := zero_dig
  go_wp2_with (refine wpList_store_row rfl 44 (.tmp 0) (.tmp 2) rfl w.heap.size _ rfl rfl 44 _ (heap_alloc_new _ _) (by kernel_rfl) (by kernel_rfl) (by kernel_rfl) ?_)
  refine bodyPost_ret (v := .agg dig0.toArray) (results_cell_row Tryd.results22 _ _ w.heap.size 44 dig0.toArray (0, 0) _ ?_ (setRow_heap _ _ digZ.toArray _ _ _ (heap_alloc_new _ _)) Tryd.underlying44 rfl (by rw [dig0_size]; exact info_dig)) rfl ⟨rfl, ?_⟩
  · rfl
  · exact ((Below.refl _ _).alloc (Nat.le_refl _) _).trans ⟨rfl, rfl, rfl, by simp, fun k hk => setRow_other _ _ _ _ (by omega)⟩
end Go.Proofs.YtedjmhiocmefiaaDoor
