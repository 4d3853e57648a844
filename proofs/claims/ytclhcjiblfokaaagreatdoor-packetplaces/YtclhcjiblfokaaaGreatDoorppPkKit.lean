/-
  Rows of packets, ends and marks.
-/
import Derived.Test.YtclhcjiblfokaaaGreatDoorppPkMath
import Derived.Test.YtclhcjiblfokaaaGreatDoorppFrKit
import Derived.Test.YtclhcjiblfokaaaGreatDoorppMkIns
import Derived.Test.YtclhcjiblfokaaaGreatDoorppStSlots
namespace Go.Proofs.YtclhcjiblfokaaaGreatDoor
open Go.RowKit

theorem Row.k11 {w : World} {g : Nat} {t : TypeId} {x0 x1 x2 x3 x4 x5 x6 x7 x8 x9 x10 : Value} (h : Row w g t [x0, x1, x2, x3, x4, x5, x6, x7, x8, x9, x10]) : w.cell? ⟨g, 0, none⟩ = some x0 ∧ w.cell? ⟨g, 1, none⟩ = some x1 ∧ w.cell? ⟨g, 2, none⟩ = some x2 ∧ w.cell? ⟨g, 3, none⟩ = some x3 ∧ w.cell? ⟨g, 4, none⟩ = some x4 ∧ w.cell? ⟨g, 5, none⟩ = some x5 ∧ w.cell? ⟨g, 6, none⟩ = some x6 ∧ w.cell? ⟨g, 7, none⟩ = some x7 ∧ w.cell? ⟨g, 8, none⟩ = some x8 ∧ w.cell? ⟨g, 9, none⟩ = some x9 ∧ w.cell? ⟨g, 10, none⟩ = some x10 :=
  ⟨h.cell 0, h.cell 1, h.cell 2, h.cell 3, h.cell 4, h.cell 5, h.cell 6, h.cell 7, h.cell 8, h.cell 9, h.cell 10⟩
theorem structEnd : Struct 81 11 := ⟨⟨_, Tryz.underlying81, rfl⟩, by kernel_rfl⟩
theorem structPacket : Struct 31 5 := ⟨⟨_, Tryz.underlying31, rfl⟩, by kernel_rfl⟩
theorem grown_of {w w1 : World} (h : Below w.heap.size w w1) (r : Option Nat) : w.grownBy w1 r := ⟨h.os, h.tape, h.output, h.size, fun k hk _ => h.block k hk⟩
theorem ins_get {α : Type} (l : List α) (i : Nat) (x : α) (hi : i ≤ l.length) (j : Nat) : (l.take i ++ x :: l.drop i)[j]? = if j < i then l[j]? else if j = i then some x else l[j - 1]? := by
  have hl : (l.take i).length = i := by simp; omega
  by_cases h1 : j < i
  · rw [if_pos h1, List.getElem?_append_left (by omega), List.getElem?_take_of_lt h1]
  · rw [if_neg h1, List.getElem?_append_right (by omega), hl]
    by_cases h2 : j = i
    · subst h2; simp
    · rw [if_neg h2]
      obtain ⟨m, rfl⟩ : ∃ m, j = i + m + 1 := ⟨j - i - 1, by omega⟩
      rw [show i + m + 1 - i = m + 1 by omega, List.getElem?_cons_succ, List.getElem?_drop]
      rfl
theorem del_get {α : Type} (l : List α) (i : Nat) (hi : i ≤ l.length) (j : Nat) : (l.take i ++ l.drop (i + 1))[j]? = if j < i then l[j]? else l[j + 1]? := by
  have hl : (l.take i).length = i := by simp; omega
  by_cases h1 : j < i
  · rw [if_pos h1, List.getElem?_append_left (by omega), List.getElem?_take_of_lt h1]
  · rw [if_neg h1, List.getElem?_append_right (by omega), hl, List.getElem?_drop]
    congr 1
    omega
theorem MkE.set {w : World} {rs : List (List Value)} {l : List Mk} (h : MkE w rs l) {i : Nat} {r : List Value} {x : Mk} (hr : MkR w w.heap.size r x) : MkE w (rs.set i r) (l.set i x) := by
  refine ⟨by rw [List.length_set, List.length_set]; exact h.1, fun j r' y hr' hy => ?_⟩
  rw [List.getElem?_set] at hr' hy
  split at hr'
  · rename_i e
    subst e
    split at hr'
    · rename_i h1
      rw [if_pos rfl, if_pos (by rw [← h.1]; exact h1)] at hy
      obtain rfl := Option.some.inj hr'
      obtain rfl := Option.some.inj hy
      exact hr
    · cases hr'
  · rename_i e
    rw [if_neg e] at hy
    exact h.2 j r' y hr' hy
theorem MkE.ins {w : World} {rs : List (List Value)} {l : List Mk} (h : MkE w rs l) {i : Nat} {r : List Value} {x : Mk} (hi : i ≤ l.length) (hr : MkR w w.heap.size r x) : MkE w (insR rs i r) (l.take i ++ x :: l.drop i) := by
  have hi' : i ≤ rs.length := by rw [h.1]; exact hi
  refine ⟨by rw [insR_length _ _ _ hi', h.1]; simp; omega, fun j r' y hr' hy => ?_⟩
  unfold insR at hr'
  rw [ins_get _ _ _ hi'] at hr'
  rw [ins_get _ _ _ hi] at hy
  split at hr'
  · rename_i e
    rw [if_pos e] at hy
    exact h.2 j r' y hr' hy
  · rename_i e
    rw [if_neg e] at hy
    split at hr'
    · rename_i e2
      rw [if_pos e2] at hy
      obtain rfl := Option.some.inj hr'
      obtain rfl := Option.some.inj hy
      exact hr
    · rename_i e2
      rw [if_neg e2] at hy
      exact h.2 _ r' y hr' hy
theorem MkE.del {w : World} {rs : List (List Value)} {l : List Mk} (h : MkE w rs l) {i : Nat} (hi : i < l.length) : MkE w (rs.take i ++ rs.drop (i + 1)) (l.take i ++ l.drop (i + 1)) := by
  have hi' : i < rs.length := by rw [h.1]; exact hi
  refine ⟨by have := h.1; simp; omega, fun j r' y hr' hy => ?_⟩
  rw [del_get _ _ (by omega)] at hr' hy
  split at hr'
  · rename_i e
    rw [if_pos e] at hy
    exact h.2 j r' y hr' hy
  · rename_i e
    rw [if_neg e] at hy
    exact h.2 _ r' y hr' hy
end Go.Proofs.YtclhcjiblfokaaaGreatDoor
