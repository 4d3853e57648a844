/-
  What a digest in the making stands for: the bytes that it has taken. Plain facts on lists.
-/
import Derived.Test.YtedjmhiocmefiaaDoorShaCopy
namespace Go.Proofs.YtedjmhiocmefiaaDoor
open Go.RowKit

theorem mixAll_succ (j : Nat) : ∀ (s : Oct) (m : List (BitVec 8)), mixAll (j + 1) s m = mixed (mixAll j s m) ((m.drop (64 * j)).take 64) := by
  induction j with
  | zero => intro s m; simp [mixAll]
  | succ j ih =>
    intro s m
    have h := ih (mixed s (m.take 64)) (m.drop 64)
    rw [List.drop_drop] at h
    rw [show 64 * (j + 1) = 64 + 64 * j by omega]
    exact h
theorem mixAll_append (j : Nat) : ∀ (s : Oct) (m l : List (BitVec 8)), 64 * j ≤ m.length → mixAll j s (m ++ l) = mixAll j s m := by
  induction j with
  | zero => intro s m l _; rfl
  | succ j ih =>
    intro s m l h
    show mixAll j (mixed s ((m ++ l).take 64)) ((m ++ l).drop 64) = mixAll j (mixed s (m.take 64)) (m.drop 64)
    rw [List.take_append_of_le_length (by omega), List.drop_append_of_le_length (by omega)]
    exact ih _ _ _ (by simp; omega)

/-- R holds what of m fills no block yet -/
def Abs (m R : List (BitVec 8)) : Prop := R.length = 64 ∧ R.take (m.length % 64) = m.drop (64 * (m.length / 64))
/-- the cells of a digest in the making that has taken m -/
def digOf (m R : List (BitVec 8)) : List Value := dig (mixAll (m.length / 64) hTab m) R (m.length % 64) m.length

/-- too little to fill the block that was begun -/
theorem abs_short (m l R : List (BitVec 8)) (h : Abs m R) (hs : m.length % 64 + l.length < 64) :
    Abs (m ++ l) (R.take (m.length % 64) ++ l.take (64 - m.length % 64) ++ R.drop (m.length % 64 + min l.length (64 - m.length % 64))) ∧
    (m ++ l).length / 64 = m.length / 64 ∧ (m ++ l).length % 64 = m.length % 64 + l.length ∧ mixAll ((m ++ l).length / 64) hTab (m ++ l) = mixAll (m.length / 64) hTab m := by
  have hq : (m ++ l).length / 64 = m.length / 64 := by simp; omega
  have hr : (m ++ l).length % 64 = m.length % 64 + l.length := by simp; omega
  refine ⟨⟨by simp [h.1]; omega, ?_⟩, hq, hr, ?_⟩
  · rw [hq, hr, h.2, List.drop_append_of_le_length (by omega), List.take_of_length_le (l := l) (by omega)]
    apply List.take_left'
    simp; omega
  · rw [hq]; exact mixAll_append _ _ _ _ (by omega)
/-- what was begun, and as much of l as fills its block -/
theorem abs_fill (m l R : List (BitVec 8)) (h : Abs m R) (hs : 64 ≤ m.length % 64 + l.length) :
    R.take (m.length % 64) ++ l.take (64 - m.length % 64) ++ R.drop (m.length % 64 + min l.length (64 - m.length % 64)) = ((m ++ l).drop (64 * (m.length / 64))).take 64 ∧
    l.drop (64 - m.length % 64) = (m ++ l).drop (64 * (m.length / 64 + 1)) := by
  have hd : R.drop (m.length % 64 + min l.length (64 - m.length % 64)) = [] := by
    apply List.drop_eq_nil_of_le; rw [h.1]; omega
  constructor
  · rw [hd, List.append_nil, h.2, List.drop_append_of_le_length (by omega), List.take_append, List.take_of_length_le (l := m.drop _) (by simp; omega)]
    congr 2
    simp; omega
  · rw [List.drop_append, List.drop_of_length_le (l := m) (by omega), List.nil_append]
    congr 1
    omega
/-- what is left at the end, less than a block -/
theorem abs_end (m R : List (BitVec 8)) (j : Nat) (hR : R.length = 64) (hj : 64 * j ≤ m.length) (hl : (m.drop (64 * j)).length < 64) :
    Abs m (R.take 0 ++ (m.drop (64 * j)).take (64 - 0) ++ R.drop (0 + min (m.drop (64 * j)).length (64 - 0))) ∧ m.length / 64 = j ∧ m.length % 64 = (m.drop (64 * j)).length := by
  simp at hl
  have hq : m.length / 64 = j := by omega
  have hr : m.length % 64 = (m.drop (64 * j)).length := by simp; omega
  refine ⟨⟨by simp [hR]; omega, ?_⟩, hq, hr⟩
  rw [hq, hr, List.take_zero, List.nil_append, List.take_of_length_le (l := m.drop _) (by simp; omega)]
  exact List.take_left' rfl

theorem pad_q (m : List (BitVec 8)) : m = m.take (64 * (m.length / 64)) ++ m.drop (64 * (m.length / 64)) := (List.take_append_drop _ _).symm
theorem mixAll_padded (m : List (BitVec 8)) : mixAll (m.length / 64) hTab (padded m) = mixAll (m.length / 64) hTab m := by
  unfold padded
  rw [List.append_assoc, List.append_assoc]
  exact mixAll_append _ _ _ _ (by omega)
theorem padded_drop (m : List (BitVec 8)) : (padded m).drop (64 * (m.length / 64)) = m.drop (64 * (m.length / 64)) ++ ([128] ++ List.replicate (zeros m.length) 0 ++ be8 (8 * m.length)) := by
  unfold padded
  rw [List.append_assoc, List.append_assoc, List.drop_append_of_le_length (by omega), List.append_assoc]
/-- the mark behind what was begun, and zeros to the block's end -/
def marked (m R : List (BitVec 8)) : List (BitVec 8) := R.take (m.length % 64) ++ [128] ++ List.replicate (63 - m.length % 64) 0
theorem marked_length (m R : List (BitVec 8)) (h : R.length = 64) : (marked m R).length = 64 := by
  simp [marked, h]; omega
theorem marked_set (m R : List (BitVec 8)) (h : R.length = 64) : (R.set (m.length % 64) 128).take (m.length % 64 + 1) ++ List.replicate (64 - (m.length % 64 + 1)) 0 = marked m R := by
  have hl : m.length % 64 < R.length := by omega
  have e : (R.set (m.length % 64) 128).take (m.length % 64 + 1) = R.take (m.length % 64) ++ [128] := by
    rw [List.take_succ_eq_append_getElem (by simpa using hl)]
    have e0 : List.take (m.length % 64) (R.set (m.length % 64) 128) = List.take (m.length % 64) R := by
      apply List.ext_getElem?
      intro j
      simp only [List.getElem?_take]
      split
      · rw [List.getElem?_set_ne (by omega)]
      · rfl
    rw [e0]
    simp
  rw [e]
  unfold marked
  rw [show 64 - (m.length % 64 + 1) = 63 - m.length % 64 by omega]
theorem marked_full (m R : List (BitVec 8)) (h : R.length = 64) (h63 : m.length % 64 = 63) : R.set (m.length % 64) 128 = marked m R := by
  rw [← marked_set m R h, h63]
  simp [List.take_of_length_le, h]
/-- where there is room for the size -/
theorem sha_short (m R : List (BitVec 8)) (hA : Abs m R) (hs : m.length % 64 < 56) : sha m = (mixed (mixAll (m.length / 64) hTab m) ((marked m R).take 56 ++ be8 (8 * m.length))).list.flatMap wordBytes := by
  unfold sha
  rw [show (m.length + 72) / 64 = m.length / 64 + 1 by omega, mixAll_succ, mixAll_padded, padded_drop]
  have hz : zeros m.length = 55 - m.length % 64 := by unfold zeros; omega
  unfold marked
  rw [hA.2, hz]
  have hd : (m.drop (64 * (m.length / 64))).length = m.length % 64 := by simp; omega
  have e : (m.drop (64 * (m.length / 64)) ++ [128] ++ List.replicate (63 - m.length % 64) (0 : BitVec 8)).take 56 = m.drop (64 * (m.length / 64)) ++ [128] ++ List.replicate (55 - m.length % 64) 0 := by
    rw [List.take_append, List.take_of_length_le (by simp; omega), List.take_replicate]
    congr 2
    simp [hd]; omega
  have e5 : (m.drop (64 * (m.length / 64)) ++ ([128] ++ List.replicate (55 - m.length % 64) 0 ++ be8 (8 * m.length))).take 64 = m.drop (64 * (m.length / 64)) ++ [128] ++ List.replicate (55 - m.length % 64) 0 ++ be8 (8 * m.length) := by
    rw [List.take_of_length_le (by simp [be8]; omega)]
    simp
  rw [e, e5]
/-- where there is none -/
theorem sha_long (m R : List (BitVec 8)) (hA : Abs m R) (hs : 56 ≤ m.length % 64) :
    sha m = (mixed (mixed (mixAll (m.length / 64) hTab m) (marked m R)) ((List.replicate 64 (0 : BitVec 8)).take 56 ++ be8 (8 * m.length))).list.flatMap wordBytes := by
  unfold sha
  rw [show (m.length + 72) / 64 = m.length / 64 + 1 + 1 by omega, mixAll_succ, mixAll_succ, mixAll_padded]
  have hz : zeros m.length = (63 - m.length % 64) + 56 := by unfold zeros; omega
  have hd : (m.drop (64 * (m.length / 64))).length = m.length % 64 := by simp; omega
  have e1 : (padded m).drop (64 * (m.length / 64)) = marked m R ++ (List.replicate 56 0 ++ be8 (8 * m.length)) := by
    rw [padded_drop, hz]
    unfold marked
    rw [hA.2, ← List.replicate_append_replicate]
    simp
  have hml := marked_length m R hA.1
  have e2 : (padded m).drop (64 * (m.length / 64 + 1)) = List.replicate 56 0 ++ be8 (8 * m.length) := by
    rw [show 64 * (m.length / 64 + 1) = 64 * (m.length / 64) + 64 by omega, ← List.drop_drop, e1]
    exact List.drop_left' hml
  have e3 : (marked m R ++ (List.replicate 56 0 ++ be8 (8 * m.length))).take 64 = marked m R := by
    rw [List.take_append_of_le_length (by omega), List.take_of_length_le (by omega)]
  have e4 : (List.replicate 56 0 ++ be8 (8 * m.length)).take 64 = (List.replicate 64 (0 : BitVec 8)).take 56 ++ be8 (8 * m.length) := by
    rw [List.take_of_length_le (by simp [be8]), List.take_replicate]
    rfl
  rw [e1, e2, e3, e4]
end Go.Proofs.YtedjmhiocmefiaaDoor
