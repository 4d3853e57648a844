/-
  What package state's keyOf, numbers, connVal and chanVal answer: keys, and the bytes of numbers.
-/
import Derived.Test.YtnoaohlajllngaaDoorbbStApp
import Derived.Test.YtnoaohlajllngaaDoorbbStMem
import Derived.Deep.RegionHeld3
import Derived.Deep.RegionWith
namespace Go.Proofs.YtnoaohlajllngaaDoor
open Go.RowKit

theorem one_new (w : World) (b : BitVec 8) : Bytes (w.alloc (.cells #[.int .u8 (b8 b)] 5)) (w.heap.size + 1) (.slice (some ⟨w.heap.size, 0, none⟩) 1 1) [b] := by
  refine .inr (.inr ⟨w.heap.size, 0, 1, rfl, by simp, fun i hi => ⟨by omega, ?_⟩⟩)
  obtain rfl : i = 0 := by simpa using hi
  rw [Row.cell (Row.new w 5 [.int .u8 (b8 b)])]
  rfl
end Go.Proofs.YtnoaohlajllngaaDoor
