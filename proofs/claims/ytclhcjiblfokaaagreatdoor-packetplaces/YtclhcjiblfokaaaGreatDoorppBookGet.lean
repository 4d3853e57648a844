/-
  What bytes.Compare, compareKey and find answer: bytes in order; where a key stands in a book, or would.
  What package book's functions are to answer, as the statements' walks ask it; and that the document's functions answer it.
  What package book's tooMuch and Get, and bytes.Clone, answer.
-/
import Derived.Test.YtclhcjiblfokaaaGreatDoorppPairsAll
import Derived.Test.YtclhcjiblfokaaaGreatDoorppBookMath
import Derived.Test.YtclhcjiblfokaaaGreatDoorppBookTree
import Derived.Test.YtclhcjiblfokaaaGreatDoorppShaAll
import Derived.Test.YtclhcjiblfokaaaGreatDoorppSameB
import Derived.Lib.BytesEntry
import Derived.Lib.Bytealg
import Derived.Laws.Externs
import Derived.Lib.SliceRun
namespace Go.Proofs.YtclhcjiblfokaaaGreatDoor
open Go.RowKit

/-- how two lists of bytes lie to each other -/
def cmpB (a b : List (BitVec 8)) : Int := if lessB a b = true then -1 else if lessB b a = true then 1 else 0
theorem cmpB_neg (a b : List (BitVec 8)) : cmpB a b < 0 ↔ lessB a b = true := by
  unfold cmpB
  split
  · simp [*]
  · split <;> simp [*]
def toU8 (x : BitVec 8) : UInt8 := (b8 x).toNat.toUInt8
theorem toU8_lt (x y : BitVec 8) : toU8 x < toU8 y ↔ x.toNat < y.toNat := by
  have hx := x.isLt
  have hy := y.isLt
  unfold toU8 b8
  rw [UInt8.lt_iff_toNat_lt]
  simp
theorem compare_cmpB : ∀ a b : List (BitVec 8), Lib.compareBytes (a.map toU8) (b.map toU8) = cmpB a b
  | [], [] => rfl
  | [], _ :: _ => rfl
  | _ :: _, [] => rfl
  | x :: a, y :: b => by
    have ih := compare_cmpB a b
    rw [List.map_cons, List.map_cons, Lib.compareBytes, ih]
    unfold cmpB
    rw [lessB, lessB]
    by_cases e : x = y
    · subst e
      simp [UInt8.lt_irrefl]
    · have e' : ¬ y = x := fun h => e h.symm
      rw [if_neg e, if_neg e']
      simp only [toU8_lt, decide_eq_true_eq]
      by_cases h1 : x.toNat < y.toNat
      · simp [h1]
      · have h2 : y.toNat < x.toNat := by
          rcases Nat.lt_or_ge y.toNat x.toNat with h | h
          · exact h
          · exact absurd (BitVec.eq_of_toNat_eq (by omega)) e
        simp [h1, h2]
theorem bytes_run {w : World} {N : Nat} {sv : Value} {l : List (BitVec 8)} (h : Bytes w N sv l) : (Extern.Bytes.bytesOf sv).run Tryz.prog w = .ok ⟨(l.map toU8).toArray⟩ w := by
  rcases bytes_source h with ⟨rfl, rfl⟩ | ⟨ad, cap, rfl, hc⟩
  · rfl
  · have hl := Lib.run_loadBytesX (P := Tryz.prog) w (l.map b8) ad .empty (fun j x hj => by
      obtain ⟨y, hy, rfl⟩ : ∃ y, l[j]? = some y ∧ b8 y = x := by simpa using hj
      exact hc j _ (by rw [List.getElem?_map, hy]; rfl))
    rw [List.length_map] at hl
    show (Extern.Bytes.loadBytes ad l.length .empty).run Tryz.prog w = _
    rw [hl]
    congr 2
    simp [Lib.bytesOf, toU8, Function.comp_def]
theorem compare_run {w : World} {N M : Nat} {sa sb : Value} {l m : List (BitVec 8)} (ha : Bytes w N sa l) (hb : Bytes w M sb m) : (callFunc 194 #[sa, sb]).run Tryz.prog w = .ok (.value (.int .i64 (cmpB l m))) w := by
  rw [run_callFunc_extern Tryz.func194 (by kernel_rfl) (by kernel_rfl) (by kernel_rfl) (e := Extern.BytealgCompare.compare) (by kernel_rfl)]
  have : (Extern.BytealgCompare.compare #[sa, sb]).run Tryz.prog w = .ok (.int .i64 (cmpB l m)) w := by
    change Sem.run Tryz.prog (do pure (goInt (Extern.BytealgCompare.cmp (← Extern.Bytes.bytesOf sa) (← Extern.Bytes.bytesOf sb)))) w = _
    simp only [Sem.run_bind, Sem.run_pure, Result.andThen, bytes_run ha, bytes_run hb]
    rw [Lib.cmp_eq]
    simp only [compare_cmpB]
    rfl
  rw [this]
  rfl
theorem compare_any (l m : List (BitVec 8)) (sa sb : Value) (N M : Nat) (w : World) (ha : Bytes w N sa l) (hb : Bytes w M sb m) :
    Calls Tryz.prog 179 #[sa, sb] w fun e w' => e = .returned (.int .i64 (cmpB l m)) ∧ w' = w := by
  obtain ⟨oa, ca, rfl, hca⟩ := ha.shape
  obtain ⟨ob, cb, rfl, hcb⟩ := hb.shape
  have hc := compare_run ha hb
  clear ha hb
  generalize l.length = n at *
  generalize m.length = n' at *
  go_enter Tryz.func179, Tryz.ntmps179
  go_wp2_with (simp only [hc])
  go_ret
  exact ⟨rfl, rfl⟩
end Go.Proofs.YtclhcjiblfokaaaGreatDoor
namespace Go.Proofs.YtclhcjiblfokaaaGreatDoor
open Go.RowKit

end Go.Proofs.YtclhcjiblfokaaaGreatDoor
namespace Go.Proofs.YtclhcjiblfokaaaGreatDoor
open Go.RowKit

end Go.Proofs.YtclhcjiblfokaaaGreatDoor
