/-
  What the makers of pieces answer, the landed ones and the document's: a piece of a number, a piece of bytes. What the document's Bytes of pieces answers.
  What Bytes does: a header's bytes, in new memory, in whatever order its steps come.
  What Digest answers, the landed one and the document's: the digest of validators' bytes, in new memory.
  What wrongTogether answers: what keeps a header from being one of these validators.
  What allGood answers: whether each vote that is one is good, of the header's bytes, by its validator's key.
  What Check answers: what keeps a signed header from being one that its validators voted for.
-/
import Derived.Test.YtbjlfhabnjpdmaaGreatDoorlaHdMems
import Derived.Test.YtbjlfhabnjpdmaaGreatDoorlaWireBoth
import Derived.Test.YtbjlfhabnjpdmaaGreatDoorlaRegions
import Derived.Test.YtbjlfhabnjpdmaaGreatDoorlaRef1All
import Derived.Test.YtbjlfhabnjpdmaaGreatDoorlaSameB
import Derived.Test.YtbjlfhabnjpdmaaGreatDoorlaSealGood
import Derived.Lib.ConvBytes
import Derived.Laws.IdiomStrings
import Derived.Laws.MakeOwn
namespace Go.Proofs.YtbjlfhabnjpdmaaGreatDoor
open Go.RowKit

end Go.Proofs.YtbjlfhabnjpdmaaGreatDoor
namespace Go.Proofs.YtbjlfhabnjpdmaaGreatDoor
open Go.RowKit

theorem pieces_new (w : World) (t : TypeId) (ps : List (Pc × Value)) (h : ∀ q ∈ ps, Bytes w w.heap.size q.2 q.1.b) :
    Pieces (w.alloc (.cells (ps.flatMap pcCells).toArray t)) (w.alloc (.cells (ps.flatMap pcCells).toArray t)).heap.size (.slice (some ⟨w.heap.size, 0, none⟩) ps.length ps.length) (ps.map (·.1)) := by
  have hb : Below w.heap.size w (w.alloc (.cells (ps.flatMap pcCells).toArray t)) := (Below.refl _ _).alloc (Nat.le_refl _) _
  have hr : Row (w.alloc (.cells (ps.flatMap pcCells).toArray t)) w.heap.size t (ps.flatMap pcCells) := Row.new _ _ _
  refine .inr (.inr ⟨w.heap.size, 0, ps.length, by simp, by simp, fun i p hp => ?_⟩)
  obtain ⟨q, hq, rfl⟩ : ∃ q, ps[i]? = some q ∧ q.1 = p := by simpa using hp
  refine ⟨hr.lt, q.2, ?_⟩
  have cell : ∀ j, j < 3 → (w.alloc (.cells (ps.flatMap pcCells).toArray t)).cell? ⟨w.heap.size, 0 + i * 3 + j, none⟩ = (pcCells q)[j]? := fun j hj => by
    rw [hr.cell, Nat.zero_add, flat_get ps i j q hq hj]
  exact ⟨cell 0 (by omega), cell 1 (by omega), cell 2 (by omega), ((h q (List.mem_of_getElem? hq)).below hb).mono hb.size⟩
theorem conv_text (w : World) (x : ByteArray) : (convert 9 29 (.string x)).run Tryz.prog w = .ok (.slice (some ⟨w.heap.size, 0, none⟩) x.size (grownCap w x.size 0 5)) (Lib.bytesWorld w 5 x) :=
  Lib.run_convert_string_bytes w 9 29 5 x Tryz.underlying9 Tryz.underlying29 Tryz.underlying5
theorem text_bytes (w : World) (s : ByteArray) : Bytes (Lib.bytesWorld w 5 s) (Lib.bytesWorld w 5 s).heap.size (.slice (some ⟨w.heap.size, 0, none⟩) s.size (grownCap w s.size 0 5)) (lets s) := by
  have hsz := Lib.bytesWorld_size w 5 s
  refine .inr (.inr ⟨w.heap.size, 0, _, by rw [lets_length], by rw [lets_length]; exact grownCap_ge _ _ _ _, fun i hi => ⟨by omega, ?_⟩⟩)
  rw [lets_length] at hi
  rw [Nat.zero_add, Lib.bytesWorld_cell _ _ _ _ hi]
  congr 2
  unfold b8 lets
  simp
theorem text_below (w : World) (s : ByteArray) : Below w.heap.size w (Lib.bytesWorld w 5 s) :=
  ⟨rfl, rfl, rfl, by rw [Lib.bytesWorld_size]; omega, fun j hj => Lib.bytesWorld_at_old _ _ _ _ hj⟩
end Go.Proofs.YtbjlfhabnjpdmaaGreatDoor
namespace Go.Proofs.YtbjlfhabnjpdmaaGreatDoor
open Go.RowKit

end Go.Proofs.YtbjlfhabnjpdmaaGreatDoor
namespace Go.Proofs.YtbjlfhabnjpdmaaGreatDoor
open Go.RowKit


end Go.Proofs.YtbjlfhabnjpdmaaGreatDoor
namespace Go.Proofs.YtbjlfhabnjpdmaaGreatDoor
open Go.RowKit

end Go.Proofs.YtbjlfhabnjpdmaaGreatDoor
namespace Go.Proofs.YtbjlfhabnjpdmaaGreatDoor
open Go.RowKit

end Go.Proofs.YtbjlfhabnjpdmaaGreatDoor
