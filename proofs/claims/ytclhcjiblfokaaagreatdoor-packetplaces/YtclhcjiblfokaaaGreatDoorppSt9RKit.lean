/-
  The document's Connect: what its paths share.
-/
import Derived.Test.YtclhcjiblfokaaaGreatDoorppCoMath
namespace Go.Proofs.YtclhcjiblfokaaaGreatDoor
open Go.RowKit

/-- a record stored over another -/
theorem stored {wo : World} {g : Nat} {t : TypeId} {old : List Value} (h : Row wo g t old) (cs : List Value) (h1 : cs.toArray.all (·.oneCell') = true) : ∃ wn, wo.setRow g cs.toArray = wn ∧ Hid (Row wn g t cs) ∧ Hid (wo.heap[g]? = some (.cells old.toArray t (0, 0))) ∧ Hid (cs.toArray.all (·.oneCell') = true) ∧ Hid (wo.setRow g cs.toArray = wn) :=
  ⟨_, rfl, hid (Row.setRow h _), hid h, hid h1, hid rfl⟩
theorem StV.ten {w : World} {N : Nat} {v : Value} {t : St} (h : StV w N v t) : ∃ a0 a1 a2 a3 a4 a5 a6 a7 a8 a9, v = .agg #[a0, a1, a2, a3, a4, a5, a6, a7, a8, a9] ∧ (#[a0, a1, a2, a3, a4, a5, a6, a7, a8, a9] : Array Value).all (·.oneCell') = true := by
  obtain ⟨o1, c1, o2, c2, o3, c3, o4, c4, o5, c5, o6, c6, o7, c7, rfl, -⟩ := h.open
  exact ⟨_, _, _, _, _, _, _, _, _, _, rfl, by simp [Value.oneCell']⟩
end Go.Proofs.YtclhcjiblfokaaaGreatDoor
