/-
  What package book's functions are to answer, as the statements' walks ask it; and that the document's functions answer it.
-/
import Derived.Test.YtjfhhlgblmjonaaDoorDoingsMem
import Derived.Test.YtjfhhlgblmjonaaDoorRef4B
import Derived.Test.YtjfhhlgblmjonaaDoorShaAll
namespace Go.Proofs.YtjfhhlgblmjonaaDoor
open Go.RowKit

def pout (l : List Dg) : List Pr := match playL l with | .ok x => x | .error _ => []
def pcode (l : List Dg) : Int × Nat := match playL l with | .ok _ => (0, 0) | .error e => e
def rout (l : List Pr) : List (BitVec 8) := if (wrongL l).1 = 0 then topD l.length (treeD l) else []
/-- Play's answer -/
def PlayC (f : FuncId) : Prop := ∀ (l : List Dg) (sv : Value) (N : Nat) (w : World), Doings w N sv l → N ≤ w.heap.size → l.length < 2305843009213693952 → (∀ d ∈ l, d.fits) →
  Calls Tryd.prog f #[sv] w fun e w' => Below w.heap.size w w' ∧ ∃ ov nv cv, e = .returned (.tuple #[.slice ov nv cv, faultV (pcode l).1 (pcode l).2]) ∧ Pairs w' w'.heap.size (.slice ov nv cv) (pout l)
/-- Wrong's answer -/
def WrongC (f : FuncId) : Prop := ∀ (l : List Pr) (sv : Value) (N : Nat) (w : World), Pairs w N sv l → N ≤ w.heap.size → l.length < 2305843009213693952 → (∀ p ∈ l, p.fits) →
  Calls Tryd.prog f #[sv] w fun e w' => Below w.heap.size w w' ∧ e = .returned (faultV (wrongL l).1 (wrongL l).2)
/-- Get's answer, of a book -/
def GetC (f : FuncId) : Prop := ∀ (l : List Pr) (k : List (BitVec 8)) (sv kv : Value) (N : Nat) (w : World), N ≤ w.heap.size → Pairs w N sv l → Bytes w N kv k → Sorted l → Fits l → l.length ≤ 200 → k.length ≤ 140737488351232 →
  Calls Tryd.prog f #[sv, kv] w fun e w' => Below w.heap.size w w' ∧ ∃ ov nv cv, e = .returned (.tuple #[.slice ov nv cv, .bool (getL k l).isSome]) ∧ Bytes w' w'.heap.size (.slice ov nv cv) ((getL k l).getD [])
/-- Root's answer -/
def RootC (f : FuncId) : Prop := ∀ (l : List Pr) (sv : Value) (N : Nat) (w : World), tableAt w → Pairs w N sv l → N ≤ w.heap.size → l.length < 2305843009213693952 → (∀ p ∈ l, p.fits) →
  Calls Tryd.prog f #[sv] w fun e w' => Below w.heap.size w w' ∧ ∃ ov nv cv, e = .returned (.tuple #[.slice ov nv cv, faultV (wrongL l).1 (wrongL l).2]) ∧ Bytes w' w'.heap.size (.slice ov nv cv) (rout l)
theorem Pairs.nil (w : World) (N : Nat) : Pairs w N (.slice none 0 0) [] := .inl ⟨rfl, rfl⟩
theorem wrongGo_zero : ∀ (l : List Pr) (i : Nat) (prev : Option (List (BitVec 8))), (wrongGo i prev l).1 = 0 → (wrongGo i prev l).2 = 0 := by
  intro l
  induction l with
  | nil => intro i prev _; rfl
  | cons p r ih =>
    intro i prev h
    rw [wrongGo] at h ⊢
    split at h
    · simp at h
    · split at h
      · simp at h
      · rename_i h1 h2
        rw [if_neg h1, if_neg h2]
        exact ih _ _ h
theorem wrongL_zero (l : List Pr) (h : (wrongL l).1 = 0) : wrongL l = (0, 0) := by
  have h2 : (wrongL l).2 = 0 := by
    unfold wrongL at h ⊢
    split at h
    · simp at h
    · rename_i h1
      rw [if_neg h1]
      exact wrongGo_zero _ _ _ h
  exact Prod.ext h h2
theorem wrongL_sorted (l : List Pr) (h : (wrongL l).1 = 0) : Sorted l ∧ Fits l ∧ l.length ≤ 200 := by
  have e := wrongL_zero l h
  unfold wrongL at e
  split at e
  · simp at e
  · obtain ⟨h1, h2, _⟩ := wrongGo_ok l 0 none 0 e
    exact ⟨h1, h2, by omega⟩
theorem refWrongC : WrongC 17 := fun l sv N w hb hN hlen hfit => refWrong_any l sv N w hb hN hlen hfit
theorem fits_of {l : List Pr} (h : Fits l) : ∀ p ∈ l, p.fits := fun p hp => by have := h p hp; exact ⟨by omega, by omega⟩
theorem pout_book (l : List Dg) : Sorted (pout l) ∧ Fits (pout l) ∧ (pout l).length ≤ 200 := by
  unfold pout
  cases h : playL l with
  | ok x => exact playL_book l x h
  | error e => exact ⟨List.Pairwise.nil, (fun _ hp => by cases hp), Nat.zero_le _⟩
end Go.Proofs.YtjfhhlgblmjonaaDoor
