/-
  What bytes.Compare, compareKey and find answer: bytes in order; where a key stands in a book, or would.
  What package book's functions are to answer, as the statements' walks ask it; and that the document's functions answer it.
  What package book's tooMuch and Get, and bytes.Clone, answer.
-/
import Derived.Test.YtiflkkelbnpniaaGreatDoorPairsAll
import Derived.Test.YtiflkkelbnpniaaGreatDoorBookMath
import Derived.Lib.BytesEntry
import Derived.Lib.Bytealg
import Derived.Laws.Externs
import Derived.Test.YtiflkkelbnpniaaGreatDoorBookTree
import Derived.Test.YtiflkkelbnpniaaGreatDoorShaAll
import Derived.Test.YtiflkkelbnpniaaGreatDoorSameB
import Derived.Lib.SliceRun
namespace Go.Proofs.YtiflkkelbnpniaaGreatDoor
open Go.RowKit

/-- how two lists of bytes lie to each other -/
def cmpB (a b : List (BitVec 8)) : Int := if lessB a b = true then -1 else if lessB b a = true then 1 else 0
theorem cmpB_neg (a b : List (BitVec 8)) : cmpB a b < 0 ↔ lessB a b = true := by
  unfold cmpB
  split
  · simp [*]
  · split <;> simp [*]
theorem cmpB_zero (a b : List (BitVec 8)) : cmpB a b = 0 ↔ a = b := by
  unfold cmpB
  split
  · rename_i h
    exact ⟨fun h' => absurd h' (by decide), fun h' => absurd h' (lessB_ne h)⟩
  · rename_i h
    split
    · rename_i h2
      exact ⟨fun h' => absurd h' (by decide), fun h' => absurd h'.symm (lessB_ne h2)⟩
    · rename_i h2
      refine ⟨fun _ => ?_, fun _ => rfl⟩
      by_cases e : a = b
      · exact e
      · exact absurd (lessB_total a b e (by simpa using h)) h2
def toU8 (x : BitVec 8) : UInt8 := (b8 x).toNat.toUInt8
theorem toU8_lt (x y : BitVec 8) : toU8 x < toU8 y ↔ x.toNat < y.toNat := by
  have hx := x.isLt
  have hy := y.isLt
  unfold toU8 b8
  rw [UInt8.lt_iff_toNat_lt]
  simp
theorem compare_cmpB : ∀ a b : List (BitVec 8), Lib.compareBytes (a.map toU8) (b.map toU8) = cmpB a b
  | [], [] => rfl
  | [], _ :: _ => rfl
  | _ :: _, [] => rfl
  | x :: a, y :: b => by
    have ih := compare_cmpB a b
    rw [List.map_cons, List.map_cons, Lib.compareBytes, ih]
    unfold cmpB
    rw [lessB, lessB]
    by_cases e : x = y
    · subst e
      simp [UInt8.lt_irrefl]
    · have e' : ¬ y = x := fun h => e h.symm
      rw [if_neg e, if_neg e']
      simp only [toU8_lt, decide_eq_true_eq]
      by_cases h1 : x.toNat < y.toNat
      · simp [h1]
      · have h2 : y.toNat < x.toNat := by
          rcases Nat.lt_or_ge y.toNat x.toNat with h | h
          · exact h
          · exact absurd (BitVec.eq_of_toNat_eq (by omega)) e
        simp [h1, h2]
theorem bytes_run {w : World} {N : Nat} {sv : Value} {l : List (BitVec 8)} (h : Bytes w N sv l) : (Extern.Bytes.bytesOf sv).run Tryz.prog w = .ok ⟨(l.map toU8).toArray⟩ w := by
  rcases bytes_source h with ⟨rfl, rfl⟩ | ⟨ad, cap, rfl, hc⟩
  · rfl
  · have hl := Lib.run_loadBytesX (P := Tryz.prog) w (l.map b8) ad .empty (fun j x hj => by
      obtain ⟨y, hy, rfl⟩ : ∃ y, l[j]? = some y ∧ b8 y = x := by simpa using hj
      exact hc j _ (by rw [List.getElem?_map, hy]; rfl))
    rw [List.length_map] at hl
    show (Extern.Bytes.loadBytes ad l.length .empty).run Tryz.prog w = _
    rw [hl]
    congr 2
    simp [Lib.bytesOf, toU8, Function.comp_def]
theorem compare_run {w : World} {N M : Nat} {sa sb : Value} {l m : List (BitVec 8)} (ha : Bytes w N sa l) (hb : Bytes w M sb m) : (callFunc 121 #[sa, sb]).run Tryz.prog w = .ok (.value (.int .i64 (cmpB l m))) w := by
  rw [run_callFunc_extern Tryz.func121 (by kernel_rfl) (by kernel_rfl) (by kernel_rfl) (e := Extern.BytealgCompare.compare) (by kernel_rfl)]
  have : (Extern.BytealgCompare.compare #[sa, sb]).run Tryz.prog w = .ok (.int .i64 (cmpB l m)) w := by
    change Sem.run Tryz.prog (do pure (goInt (Extern.BytealgCompare.cmp (← Extern.Bytes.bytesOf sa) (← Extern.Bytes.bytesOf sb)))) w = _
    simp only [Sem.run_bind, Sem.run_pure, Result.andThen, bytes_run ha, bytes_run hb]
    rw [Lib.cmp_eq]
    simp only [compare_cmpB]
    rfl
  rw [this]
  rfl
theorem compare_any (l m : List (BitVec 8)) (sa sb : Value) (N M : Nat) (w : World) (ha : Bytes w N sa l) (hb : Bytes w M sb m) :
    Calls Tryz.prog 92 #[sa, sb] w fun e w' => e = .returned (.int .i64 (cmpB l m)) ∧ w' = w := by
  obtain ⟨oa, ca, rfl, hca⟩ := ha.shape
  obtain ⟨ob, cb, rfl, hcb⟩ := hb.shape
  have hc := compare_run ha hb
  clear ha hb
  generalize l.length = n at *
  generalize m.length = n' at *
  go_enter Tryz.func92, Tryz.ntmps92
  go_wp2_with (simp only [hc])
  go_ret
  exact ⟨rfl, rfl⟩
end Go.Proofs.YtiflkkelbnpniaaGreatDoor
namespace Go.Proofs.YtiflkkelbnpniaaGreatDoor
open Go.RowKit

def pout (l : List Dg) : List Pr := match playL l with | .ok x => x | .error _ => []
def pcode (l : List Dg) : Int × Nat := match playL l with | .ok _ => (0, 0) | .error e => e
def rout (l : List Pr) : List (BitVec 8) := if (wrongL l).1 = 0 then topD l.length (treeD l) else []
/-- Play's answer -/
def PlayC (f : FuncId) : Prop := ∀ (l : List Dg) (sv : Value) (N : Nat) (w : World), Doings w N sv l → N ≤ w.heap.size → l.length < 2305843009213693952 → (∀ d ∈ l, d.fits) →
  Calls Tryz.prog f #[sv] w fun e w' => Below w.heap.size w w' ∧ ∃ ov nv cv, e = .returned (.tuple #[.slice ov nv cv, faultV (pcode l).1 (pcode l).2]) ∧ Pairs w' w'.heap.size (.slice ov nv cv) (pout l)
/-- Wrong's answer -/
def WrongC (f : FuncId) : Prop := ∀ (l : List Pr) (sv : Value) (N : Nat) (w : World), Pairs w N sv l → N ≤ w.heap.size → l.length < 2305843009213693952 → (∀ p ∈ l, p.fits) →
  Calls Tryz.prog f #[sv] w fun e w' => Below w.heap.size w w' ∧ e = .returned (faultV (wrongL l).1 (wrongL l).2)
/-- Get's answer, of a book -/
def GetC (f : FuncId) : Prop := ∀ (l : List Pr) (k : List (BitVec 8)) (sv kv : Value) (N : Nat) (w : World), N ≤ w.heap.size → Pairs w N sv l → Bytes w N kv k → Sorted l → Fits l → l.length ≤ 200 → k.length ≤ 140737488351232 →
  Calls Tryz.prog f #[sv, kv] w fun e w' => Below w.heap.size w w' ∧ ∃ ov nv cv, e = .returned (.tuple #[.slice ov nv cv, .bool (getL k l).isSome]) ∧ Bytes w' w'.heap.size (.slice ov nv cv) ((getL k l).getD [])
/-- Root's answer -/
def RootC (f : FuncId) : Prop := ∀ (l : List Pr) (sv : Value) (N : Nat) (w : World), tableAt w → Pairs w N sv l → N ≤ w.heap.size → l.length < 2305843009213693952 → (∀ p ∈ l, p.fits) →
  Calls Tryz.prog f #[sv] w fun e w' => Below w.heap.size w w' ∧ ∃ ov nv cv, e = .returned (.tuple #[.slice ov nv cv, faultV (wrongL l).1 (wrongL l).2]) ∧ Bytes w' w'.heap.size (.slice ov nv cv) (rout l)
theorem Pairs.nil (w : World) (N : Nat) : Pairs w N (.slice none 0 0) [] := .inl ⟨rfl, rfl⟩
theorem wrongGo_zero : ∀ (l : List Pr) (i : Nat) (prev : Option (List (BitVec 8))), (wrongGo i prev l).1 = 0 → (wrongGo i prev l).2 = 0 := by
  intro l
  induction l with
  | nil => intro i prev _; rfl
  | cons p r ih =>
    intro i prev h
    rw [wrongGo] at h ⊢
    split at h
    · simp at h
    · split at h
      · simp at h
      · rename_i h1 h2
        rw [if_neg h1, if_neg h2]
        exact ih _ _ h
theorem wrongL_zero (l : List Pr) (h : (wrongL l).1 = 0) : wrongL l = (0, 0) := by
  have h2 : (wrongL l).2 = 0 := by
    unfold wrongL at h ⊢
    split at h
    · simp at h
    · rename_i h1
      rw [if_neg h1]
      exact wrongGo_zero _ _ _ h
  exact Prod.ext h h2
theorem wrongL_sorted (l : List Pr) (h : (wrongL l).1 = 0) : Sorted l ∧ Fits l ∧ l.length ≤ 200 := by
  have e := wrongL_zero l h
  unfold wrongL at e
  split at e
  · simp at e
  · obtain ⟨h1, h2, _⟩ := wrongGo_ok l 0 none 0 e
    exact ⟨h1, h2, by omega⟩
theorem fits_of {l : List Pr} (h : Fits l) : ∀ p ∈ l, p.fits := fun p hp => by have := h p hp; exact ⟨by omega, by omega⟩
theorem pout_book (l : List Dg) : Sorted (pout l) ∧ Fits (pout l) ∧ (pout l).length ≤ 200 := by
  unfold pout
  cases h : playL l with
  | ok x => exact playL_book l x h
  | error e => exact ⟨List.Pairwise.nil, (fun _ hp => by cases hp), Nat.zero_le _⟩
end Go.Proofs.YtiflkkelbnpniaaGreatDoor
namespace Go.Proofs.YtiflkkelbnpniaaGreatDoor
open Go.RowKit

end Go.Proofs.YtiflkkelbnpniaaGreatDoor
