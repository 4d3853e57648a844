/-
  The digest in the making, as one row of 74 cells: eight words, 64 bytes, two counts. Plain facts on lists.
-/
import Derived.Test.YtedjmhiocmefiaaDoorShaMem
namespace Go.Proofs.YtedjmhiocmefiaaDoor
open Go.RowKit

def dig (s : Oct) (R : List (BitVec 8)) (h z : Nat) : List Value := s.list.map U ++ (R.map V ++ [.int .i64 (h : Int), .int .u64 (z : Int)])
theorem dig_length (s : Oct) (R : List (BitVec 8)) (h z : Nat) : (dig s R h z).length = 10 + R.length := by
  simp [dig, Oct.list]; omega
theorem oct_len (s : Oct) : (s.list.map U).length = 8 := rfl
theorem getD_some {α : Type} (l : List α) (i : Nat) (d : α) (h : i < l.length) : l[i]? = some (l.getD i d) := by simp [h]
theorem dig_at (s : Oct) (R : List (BitVec 8)) (h z i : Nat) (hi : i < R.length) : (dig s R h z)[8 + i]? = some (.int .u8 (b8 (R.getD i 0))) := by
  unfold dig
  rw [List.getElem?_append_right (by rw [oct_len]; omega), oct_len, show 8 + i - 8 = i by omega, List.getElem?_append_left (by simpa using hi), List.getElem?_map, getD_some R i 0 hi]
  rfl
theorem dig_held (s : Oct) (R : List (BitVec 8)) (h z : Nat) (hR : R.length = 64) : (dig s R h z)[72]? = some (.int .i64 (h : Int)) := by
  unfold dig
  rw [List.getElem?_append_right (by rw [oct_len]; omega), oct_len, List.getElem?_append_right (by simp [hR])]
  simp [hR]
theorem dig_size (s : Oct) (R : List (BitVec 8)) (h z : Nat) (hR : R.length = 64) : (dig s R h z)[73]? = some (.int .u64 (z : Int)) := by
  unfold dig
  rw [List.getElem?_append_right (by rw [oct_len]; omega), oct_len, List.getElem?_append_right (by simp [hR])]
  simp [hR]
theorem dig_set (s : Oct) (R : List (BitVec 8)) (h z i : Nat) (hi : i < R.length) (x : BitVec 8) : (dig s R h z).set (8 + i) (V x) = dig s (R.set i x) h z := by
  unfold dig
  rw [List.set_append_right _ _ (by rw [oct_len]; omega), oct_len, show 8 + i - 8 = i by omega, List.set_append_left _ _ (by simpa using hi), List.map_set]
theorem dig_setHeld (s : Oct) (R : List (BitVec 8)) (h z h' : Nat) (hR : R.length = 64) : (dig s R h z).set 72 (.int .i64 (h' : Int)) = dig s R h' z := by
  unfold dig
  rw [List.set_append_right _ _ (by rw [oct_len]; omega), oct_len, List.set_append_right _ _ (by simp [hR])]
  simp [hR]
theorem dig_setSize (s : Oct) (R : List (BitVec 8)) (h z z' : Nat) (hR : R.length = 64) : (dig s R h z).set 73 (.int .u64 (z' : Int)) = dig s R h z' := by
  unfold dig
  rw [List.set_append_right _ _ (by rw [oct_len]; omega), oct_len, List.set_append_right _ _ (by simp [hR])]
  simp [hR]
/-- a run of bytes written over the rest, from place i on -/
theorem dig_splice (s : Oct) (R l : List (BitVec 8)) (h z i : Nat) (hi : i + l.length ≤ R.length) :
    (dig s R h z).take (8 + i) ++ l.map V ++ (dig s R h z).drop (8 + i + l.length) = dig s (R.take i ++ l ++ R.drop (i + l.length)) h z := by
  unfold dig
  have e1 : (s.list.map U ++ (R.map V ++ [Value.int .i64 (h : Int), .int .u64 (z : Int)])).take (8 + i) = s.list.map U ++ (R.take i).map V := by
    rw [List.take_append, oct_len, show 8 + i - 8 = i by omega, List.take_of_length_le (by rw [oct_len]; omega), List.take_append_of_le_length (by simp; omega), List.map_take]
  have e2 : (s.list.map U ++ (R.map V ++ [Value.int .i64 (h : Int), .int .u64 (z : Int)])).drop (8 + i + l.length) = (R.drop (i + l.length)).map V ++ [Value.int .i64 (h : Int), .int .u64 (z : Int)] := by
    rw [List.drop_append, oct_len, show 8 + i + l.length - 8 = i + l.length by omega, List.drop_of_length_le (by rw [oct_len]; omega), List.drop_append_of_le_length (by simpa using hi), List.map_drop]
    rfl
  rw [e1, e2]
  simp

theorem wrap_u8_byte (n : Nat) : IntKind.u8.wrap (n : Int) = b8 (BitVec.ofNat 8 n) := by
  unfold b8; rw [IntKind.wrap_u8']; simp
/-- what stands in the rest when m of the size's bytes are still to be written -/
def sizeTo (R : List (BitVec 8)) (n m : Nat) : List (BitVec 8) := R.take (56 + m) ++ (be8 n).drop m
theorem sizeTo_length (R : List (BitVec 8)) (n m : Nat) (hR : R.length = 64) (hm : m ≤ 8) : (sizeTo R n m).length = 64 := by
  simp [sizeTo, be8, hR]; omega
theorem be8_at (n : Nat) : ∀ m, m < 8 → (be8 n)[m]? = some (BitVec.ofNat 8 (n / 2 ^ (8 * (7 - m))))
  | 0, _ => rfl | 1, _ => rfl | 2, _ => rfl | 3, _ => rfl | 4, _ => rfl | 5, _ => rfl | 6, _ => rfl | 7, _ => by simp [be8]
theorem sizeTo_set (R : List (BitVec 8)) (n m : Nat) (hR : R.length = 64) (hm : m < 8) :
    (sizeTo R n (m + 1)).set (m + 56) (BitVec.ofNat 8 (n / 2 ^ (8 * (7 - m)))) = sizeTo R n m := by
  unfold sizeTo
  have e1 : R.take (56 + (m + 1)) = R.take (56 + m) ++ [R.getD (56 + m) 0] := by
    rw [← Nat.add_assoc, List.take_succ_eq_append_getElem (by omega)]
    congr 2
    simp [show 56 + m < R.length by omega]
  have e2 : (be8 n).drop m = BitVec.ofNat 8 (n / 2 ^ (8 * (7 - m))) :: (be8 n).drop (m + 1) := by
    have hl : m < (be8 n).length := by simp [be8]; omega
    rw [List.drop_eq_getElem_cons hl]
    congr 1
    have := be8_at n m hm
    rw [List.getElem?_eq_getElem hl] at this
    exact Option.some.inj this
  have hl : (R.take (56 + m)).length = m + 56 := by simp; omega
  rw [e1, e2, List.append_assoc, List.set_append_right _ _ (by omega), hl]
  simp
theorem sizeTo_full (R : List (BitVec 8)) (n : Nat) (hR : R.length = 64) : sizeTo R n 8 = R := by
  simp [sizeTo, be8, List.take_of_length_le, hR]
end Go.Proofs.YtedjmhiocmefiaaDoor
