/-
  A connection more, in a copy.
-/
import Derived.Test.YtclhcjiblfokaaaGreatDoorppCoLive
import Derived.Test.YtclhcjiblfokaaaGreatDoorppStKey
import Derived.Test.YtclhcjiblfokaaaGreatDoorppHdMems
import Derived.Test.YtclhcjiblfokaaaGreatDoorppClAsk
import Derived.Test.YtclhcjiblfokaaaGreatDoorppClShown
import Derived.Test.YtclhcjiblfokaaaGreatDoorppBookMath
import Derived.Test.YtclhcjiblfokaaaGreatDoorppPairsAll
import Derived.Test.YtclhcjiblfokaaaGreatDoorppBookTree
import Derived.Test.YtclhcjiblfokaaaGreatDoorppSameB
import Derived.Deep.AppendLies
import Derived.Laws.RangeString
namespace Go.Proofs.YtclhcjiblfokaaaGreatDoor
open Go.RowKit

/-- one record more: where it lies -/
theorem wpList_append1 {t st : TypeId} {k : Nat} (hF : RecF t st k) {ops : Array Oper} {rest : List Oper} {o : Oper} {a : Act} {W : World} {Q : Exit → Act → World → Prop} (hgd : o.guard = none) (s x : Operand)
    (ho : o.op = .call { callee := .builtin .append, args := #[s, x], argTypes := #[st, st] })
    (base : Nat) (v : Value) (rs : List (List Value)) (hs : a.eval s = v) (hown : RowT t k W base v rs) (ad : Addr) (c : Nat) (r : List Value) {M : Nat} (hx : a.eval x = .slice (some ad) 1 c) (hsrc : Recs W M (.slice (some ad) 1 c) k [r])
    (hok : ∀ q ∈ [r], q.length = k ∧ ∀ x ∈ q, x.oneCell' = true) (hl : rs.length ≤ 100000) (hbase : base ≤ W.heap.size)
    (h : ∀ g cap w', RowT t k w' base (.slice (some ⟨g, 0, none⟩) (rs.length + 1) cap) (rs ++ [r]) → Below base W w' → W.grownBy w' v.ownBlock → (v.ownBlock = some g ∨ g = W.heap.size) → wpList Tryz.prog ops Q rest (a.put o.dst (.slice (some ⟨g, 0, none⟩) (rs.length + 1) cap)) w') : wpList Tryz.prog ops Q (o :: rest) a W := by
  obtain ⟨hu, i0, z, B, hi0, hz0, hz1, hz2, hz3, h0, hB⟩ := hF
  rcases hsrc.source (fun r hr => (hok r hr).1) h0 with ⟨e, _⟩ | ⟨ad', cap, e, hcs⟩
  · cases e
  · simp only [List.length_singleton, Value.slice.injEq, Option.some.injEq] at e
    obtain ⟨rfl, -, rfl⟩ := e
    have hby : (rs.length + 1) * B ≤ 140737488355328 := by
      have h1 := Nat.mul_le_mul (show rs.length + 1 ≤ 100001 by omega) hB
      omega
    refine wpList_append_lies W hgd s x st ho base t i0 z k B hu hi0 hz0 hz1 hz2 hz3 h0 v rs.length rs.flatten hs hown.2 ad 1 c [r].flatten hx (by simp [(hok r (by simp)).1]) hcs (flatT_one hok) (by decide) (by unfold maxLen; omega) hby hbase W.heap.size rfl ?_
    intro g cap w' h1 h2 h3 _
    refine h g cap w' ⟨fun q hq => ?_, ?_⟩ ((Below.refl base W).grown h2 hbase (fun k hk => (World.ownsRow.lt hown.2 k hk).1)) h2 h3
    · rcases List.mem_append.1 hq with hq | hq
      · exact hown.1 q hq
      · exact hok q hq
    · rw [List.length_append, List.flatten_append]
      exact h1
/-- one record in a block of its own -/
theorem one_rec {t : TypeId} {k : Nat} {W : World} {g : Nat} {r : List Value} (h : Row W g t r) : Recs W (g + 1) (.slice (some ⟨g, 0, none⟩) 1 1) k [r] := by
  refine .inr (.inr ⟨g, 0, 1, rfl, Nat.le_refl _, fun i r' hr => ?_⟩)
  have hi : i = 0 := by have := (List.getElem?_eq_some_iff.1 hr).1; simp at this; exact this
  subst hi
  obtain rfl : r = r' := by simpa using hr
  refine ⟨by omega, fun j x hx => ?_⟩
  rw [h.cell, show 0 + 0 * k + j = j by omega]
  exact hx
end Go.Proofs.YtclhcjiblfokaaaGreatDoor
