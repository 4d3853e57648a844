/-
  A connection opened, in a copy.
-/
import Derived.Test.YtclhcjiblfokaaaGreatDoorppCoAdd
namespace Go.Proofs.YtclhcjiblfokaaaGreatDoor
open Go.RowKit

/-- a row's record in the open -/
theorem RowT.at {t : TypeId} {K base : Nat} {w : World} {oa : Option Addr} {n c : Nat} {rs : List (List Value)} {i : Nat} {r : List Value} (h : RowT t K w base (.slice oa n c) rs) (hi : rs[i]? = some r) :
    ∃ g, oa = some ⟨g, 0, none⟩ ∧ base ≤ g ∧ g < w.heap.size ∧ (∀ (j : Nat) y, r[j]? = some y → w.cell? ⟨g, i * K + j, none⟩ = some y) ∧ ∀ o, w.frozen? ⟨g, o, none⟩ = false := by
  have h2' := h
  have hil := (List.getElem?_eq_some_iff.1 hi).1
  obtain ⟨h4, _, h5⟩ := h
  rcases h5 with ⟨h6, h7⟩ | ⟨g, cap, cur, h6, h7, h8, h9⟩
  · omega
  · simp only [Value.slice.injEq] at h6
    obtain ⟨rfl, rfl, rfl⟩ := h6
    have hrow : Row w g t cur.toList := by unfold Row; simpa using h8
    have hrec := h2'.recs
    obtain ⟨b, off, e, hc⟩ := hrec.spot (by omega)
    simp only [Option.some.injEq, Addr.mk.injEq] at e
    obtain ⟨rfl, rfl, -⟩ := e
    refine ⟨g, rfl, h7, hrow.lt, fun j y hy => ?_, fun o => hrow.frozen o⟩
    have := (hc i r hi).2 j y hy
    rw [Nat.zero_add] at this
    exact this
end Go.Proofs.YtclhcjiblfokaaaGreatDoor
