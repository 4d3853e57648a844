/-
  What package state's oneByOne answers: what is wrong with the first entry that is wrong.
-/
import Derived.Test.YtnoaohlajllngaaDoortlStOne
import Derived.Test.YtnoaohlajllngaaDoortlStCmp
import Derived.Test.YtnoaohlajllngaaDoortlClAsk
namespace Go.Proofs.YtnoaohlajllngaaDoor
open Go.RowKit

theorem firstW_at {α : Type} (f : α → Int) (l : List α) (k : Nat) (x : α) (h : l[k]? = some x) : firstW f (l.drop k) = if f x ≠ 0 then f x else firstW f (l.drop (k + 1)) := by
  have hk := (List.getElem?_eq_some_iff.1 h).1
  rw [List.drop_eq_getElem_cons hk, (List.getElem?_eq_some_iff.1 h).2, firstW]
theorem drop_at {α : Type} (l : List α) (k : Nat) (x : α) (h : l[k]? = some x) : l.drop k = x :: l.drop (k + 1) := by
  have hk := (List.getElem?_eq_some_iff.1 h).1
  rw [List.drop_eq_getElem_cons hk, (List.getElem?_eq_some_iff.1 h).2]
end Go.Proofs.YtnoaohlajllngaaDoor
