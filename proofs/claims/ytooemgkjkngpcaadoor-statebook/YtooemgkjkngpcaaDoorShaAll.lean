/-
  What the digest's small functions answer: turned words, the two choices, the four sums of turns. They turn no memory.
  What spread answers: the schedule's 64 words, in new memory.
  What mix does: one block worked into the digest's eight words; nothing else that was there turns.
  The digest in the making, as one row of 74 cells: eight words, 64 bytes, two counts. Plain facts on lists.
  What putSize does: how many bits there were, in the rest's last eight bytes.
  What bytes answers: the eight words' 32 bytes, the high ones first, in new memory.
  What begin answers: a digest in the making that has taken nothing.
  Bytes behind a slice value; what copy and clear do to the rest of a digest in the making.
  What a digest in the making stands for: the bytes that it has taken. Plain facts on lists.
  What take does: the bytes that a slice reads as, behind those that were taken ahead.
  What finish answers: the digest of all that was taken, in new memory.
  What Sum and Parts begin with: no bytes at all, abstractly; the table of words stays.
  What a call owns reads as bytes; what reads as bytes is a source of cells; bytes in a new block.
-/
import Derived.Test.YtooemgkjkngpcaaDoorProg
import Derived.Test.YtooemgkjkngpcaaDoorMemB
import Derived.WalkKit
import Derived.WalkLawsBesides
import Derived.WalkSpells
import Derived.BigRegion
import Derived.BigQuiet
import Derived.StillTailTactics
namespace Go.Proofs.YtooemgkjkngpcaaDoor
open Go.RowKit
attribute [local go_sem] u_xor u_and u_or u_not u_add u_add' u_andNot
end Go.Proofs.YtooemgkjkngpcaaDoor
namespace Go.Proofs.YtooemgkjkngpcaaDoor
open Go.RowKit
attribute [local go_sem] u_xor u_and u_or u_not u_add u_add' u_andNot u_shl24 u_shl16 u_shl8 wrap_b8
end Go.Proofs.YtooemgkjkngpcaaDoor
namespace Go.Proofs.YtooemgkjkngpcaaDoor
open Go.RowKit
attribute [local go_sem] u_xor u_and u_or u_not u_add u_add' u_andNot

/-- k of eight words have their letters added -/
def plusTo (s r : Oct) (k : Nat) : List (BitVec 32) := (s.plus r).list.take k ++ s.list.drop k
theorem plus_get (s r : Oct) (tl : List Value) : ∀ k, k < 8 → ((plusTo s r k).map U ++ tl)[k]? = some (.int .u32 (u (s.list.getD k 0)))
  | 0, _ => rfl | 1, _ => rfl | 2, _ => rfl | 3, _ => rfl | 4, _ => rfl | 5, _ => rfl | 6, _ => rfl | 7, _ => rfl
theorem plus_set (s r : Oct) (tl : List Value) : ∀ k, k < 8 → ((plusTo s r k).map U ++ tl).set k (U (s.list.getD k 0 + r.list.getD k 0)) = (plusTo s r (k + 1)).map U ++ tl
  | 0, _ => rfl | 1, _ => rfl | 2, _ => rfl | 3, _ => rfl | 4, _ => rfl | 5, _ => rfl | 6, _ => rfl | 7, _ => rfl

end Go.Proofs.YtooemgkjkngpcaaDoor
namespace Go.Proofs.YtooemgkjkngpcaaDoor
open Go.RowKit

def dig (s : Oct) (R : List (BitVec 8)) (h z : Nat) : List Value := s.list.map U ++ (R.map V ++ [.int .i64 (h : Int), .int .u64 (z : Int)])
theorem dig_length (s : Oct) (R : List (BitVec 8)) (h z : Nat) : (dig s R h z).length = 10 + R.length := by
  simp [dig, Oct.list]; omega
theorem oct_len (s : Oct) : (s.list.map U).length = 8 := rfl
theorem dig_at (s : Oct) (R : List (BitVec 8)) (h z i : Nat) (hi : i < R.length) : (dig s R h z)[8 + i]? = some (.int .u8 (b8 (R.getD i 0))) := by
  unfold dig
  rw [List.getElem?_append_right (by rw [oct_len]; omega), oct_len, show 8 + i - 8 = i by omega, List.getElem?_append_left (by simpa using hi), List.getElem?_map, getD_some R i 0 hi]
  rfl
theorem dig_held (s : Oct) (R : List (BitVec 8)) (h z : Nat) (hR : R.length = 64) : (dig s R h z)[72]? = some (.int .i64 (h : Int)) := by
  unfold dig
  rw [List.getElem?_append_right (by rw [oct_len]; omega), oct_len, List.getElem?_append_right (by simp [hR])]
  simp [hR]
theorem dig_size (s : Oct) (R : List (BitVec 8)) (h z : Nat) (hR : R.length = 64) : (dig s R h z)[73]? = some (.int .u64 (z : Int)) := by
  unfold dig
  rw [List.getElem?_append_right (by rw [oct_len]; omega), oct_len, List.getElem?_append_right (by simp [hR])]
  simp [hR]
theorem dig_set (s : Oct) (R : List (BitVec 8)) (h z i : Nat) (hi : i < R.length) (x : BitVec 8) : (dig s R h z).set (8 + i) (V x) = dig s (R.set i x) h z := by
  unfold dig
  rw [List.set_append_right _ _ (by rw [oct_len]; omega), oct_len, show 8 + i - 8 = i by omega, List.set_append_left _ _ (by simpa using hi), List.map_set]
theorem dig_setHeld (s : Oct) (R : List (BitVec 8)) (h z h' : Nat) (hR : R.length = 64) : (dig s R h z).set 72 (.int .i64 (h' : Int)) = dig s R h' z := by
  unfold dig
  rw [List.set_append_right _ _ (by rw [oct_len]; omega), oct_len, List.set_append_right _ _ (by simp [hR])]
  simp [hR]
theorem dig_setSize (s : Oct) (R : List (BitVec 8)) (h z z' : Nat) (hR : R.length = 64) : (dig s R h z).set 73 (.int .u64 (z' : Int)) = dig s R h z' := by
  unfold dig
  rw [List.set_append_right _ _ (by rw [oct_len]; omega), oct_len, List.set_append_right _ _ (by simp [hR])]
  simp [hR]
/-- a run of bytes written over the rest, from place i on -/
theorem dig_splice (s : Oct) (R l : List (BitVec 8)) (h z i : Nat) (hi : i + l.length ≤ R.length) :
    (dig s R h z).take (8 + i) ++ l.map V ++ (dig s R h z).drop (8 + i + l.length) = dig s (R.take i ++ l ++ R.drop (i + l.length)) h z := by
  unfold dig
  have e1 : (s.list.map U ++ (R.map V ++ [Value.int .i64 (h : Int), .int .u64 (z : Int)])).take (8 + i) = s.list.map U ++ (R.take i).map V := by
    rw [List.take_append, oct_len, show 8 + i - 8 = i by omega, List.take_of_length_le (by rw [oct_len]; omega), List.take_append_of_le_length (by simp; omega), List.map_take]
  have e2 : (s.list.map U ++ (R.map V ++ [Value.int .i64 (h : Int), .int .u64 (z : Int)])).drop (8 + i + l.length) = (R.drop (i + l.length)).map V ++ [Value.int .i64 (h : Int), .int .u64 (z : Int)] := by
    rw [List.drop_append, oct_len, show 8 + i + l.length - 8 = i + l.length by omega, List.drop_of_length_le (by rw [oct_len]; omega), List.drop_append_of_le_length (by simpa using hi), List.map_drop]
    rfl
  rw [e1, e2]
  simp

theorem wrap_u8_byte (n : Nat) : IntKind.u8.wrap (n : Int) = b8 (BitVec.ofNat 8 n) := by
  unfold b8; rw [IntKind.wrap_u8']; simp
/-- what stands in the rest when m of the size's bytes are still to be written -/
def sizeTo (R : List (BitVec 8)) (n m : Nat) : List (BitVec 8) := R.take (56 + m) ++ (be8 n).drop m
theorem sizeTo_length (R : List (BitVec 8)) (n m : Nat) (hR : R.length = 64) (hm : m ≤ 8) : (sizeTo R n m).length = 64 := by
  simp [sizeTo, be8, hR]; omega
theorem be8_at (n : Nat) : ∀ m, m < 8 → (be8 n)[m]? = some (BitVec.ofNat 8 (n / 2 ^ (8 * (7 - m))))
  | 0, _ => rfl | 1, _ => rfl | 2, _ => rfl | 3, _ => rfl | 4, _ => rfl | 5, _ => rfl | 6, _ => rfl | 7, _ => by simp [be8]
theorem sizeTo_set (R : List (BitVec 8)) (n m : Nat) (hR : R.length = 64) (hm : m < 8) :
    (sizeTo R n (m + 1)).set (m + 56) (BitVec.ofNat 8 (n / 2 ^ (8 * (7 - m)))) = sizeTo R n m := by
  unfold sizeTo
  have e1 : R.take (56 + (m + 1)) = R.take (56 + m) ++ [R.getD (56 + m) 0] := by
    rw [← Nat.add_assoc, List.take_succ_eq_append_getElem (by omega)]
    congr 2
    simp [show 56 + m < R.length by omega]
  have e2 : (be8 n).drop m = BitVec.ofNat 8 (n / 2 ^ (8 * (7 - m))) :: (be8 n).drop (m + 1) := by
    have hl : m < (be8 n).length := by simp [be8]; omega
    rw [List.drop_eq_getElem_cons hl]
    congr 1
    have := be8_at n m hm
    rw [List.getElem?_eq_getElem hl] at this
    exact Option.some.inj this
  have hl : (R.take (56 + m)).length = m + 56 := by simp; omega
  rw [e1, e2, List.append_assoc, List.set_append_right _ _ (by omega), hl]
  simp
theorem sizeTo_full (R : List (BitVec 8)) (n : Nat) (hR : R.length = 64) : sizeTo R n 8 = R := by
  simp [sizeTo, be8, List.take_of_length_le, hR]
end Go.Proofs.YtooemgkjkngpcaaDoor
namespace Go.Proofs.YtooemgkjkngpcaaDoor
open Go.RowKit
end Go.Proofs.YtooemgkjkngpcaaDoor
namespace Go.Proofs.YtooemgkjkngpcaaDoor
open Go.RowKit
theorem u_byte24 (x : BitVec 32) : IntKind.u8.wrap (u x / (16777216 : Int)) = b8 ((x >>> 24).setWidth 8) := by
  have h : u x / (16777216 : Int) = u (x >>> 24) := u_shr x 24
  rw [h, IntKind.wrap_u8']; unfold u b8; simp
theorem u_byte16 (x : BitVec 32) : IntKind.u8.wrap (u x / (65536 : Int)) = b8 ((x >>> 16).setWidth 8) := by
  have h : u x / (65536 : Int) = u (x >>> 16) := u_shr x 16
  rw [h, IntKind.wrap_u8']; unfold u b8; simp
theorem u_byte8 (x : BitVec 32) : IntKind.u8.wrap (u x / (256 : Int)) = b8 ((x >>> 8).setWidth 8) := by
  have h : u x / (256 : Int) = u (x >>> 8) := u_shr x 8
  rw [h, IntKind.wrap_u8']; unfold u b8; simp
theorem u_byte0 (x : BitVec 32) : IntKind.u8.wrap (u x) = b8 (x.setWidth 8) := by
  rw [IntKind.wrap_u8']; unfold u b8; simp
def bytesTo (s : Oct) (k : Nat) : List (BitVec 8) := (s.list.take k).flatMap wordBytes
theorem bytesTo_succ (s : Oct) : ∀ k, k < 8 → bytesTo s (k + 1) = bytesTo s k ++ wordBytes (s.list.getD k 0)
  | 0, _ => rfl | 1, _ => rfl | 2, _ => rfl | 3, _ => rfl | 4, _ => rfl | 5, _ => rfl | 6, _ => rfl | 7, _ => rfl
attribute [local go_sem] u_byte24 u_byte16 u_byte8 u_byte0
end Go.Proofs.YtooemgkjkngpcaaDoor
namespace Go.Proofs.YtooemgkjkngpcaaDoor
open Go.RowKit
def dig0 : List Value := dig hTab (List.replicate 64 0) 0 0
/-- a digest of zeros -/
def digZ : List Value := List.replicate 8 (.int .u32 0) ++ List.replicate 64 (.int .u8 0) ++ [.int .i64 0, .int .u64 0]
theorem digZ_size : digZ.toArray.size = 74 := by kernel_rfl
theorem dig0_size : dig0.toArray.size = 74 := by kernel_rfl
end Go.Proofs.YtooemgkjkngpcaaDoor
namespace Go.Proofs.YtooemgkjkngpcaaDoor
open Go.RowKit

/-- the walk's rule for the built-in copy, where its run is known -/
theorem wpList_copy {P : Program} {ops : Array Oper} {rest : List Oper} {o : Oper} {a : Act} {w w' : World} {Q : Exit → Act → World → Prop} (hgd : o.guard = none) (s x : Operand) (t t' : TypeId)
    (ho : o.op = .call { callee := .builtin .copy, args := #[s, x], argTypes := #[t, t'] }) (dv sv v : Value) (hs : a.eval s = dv) (hx : a.eval x = sv)
    (hr : (Builtin.copy_ #[t, t'] o.type #[dv, sv]).run P w = .ok v w') (h : wpList P ops Q rest (a.put o.dst v) w') : wpList P ops Q (o :: rest) a w :=
  wpList_plain hgd fun K hK => by
    unfold Oper.wp execOp
    simp only [ho, resolve, invoke, builtin, Sem.run_bind, Sem.run_pure, Result.andThen_ok, List.map_toArray, List.map_cons, List.map_nil, hs, hx, hr]
    exact hK _ _ h
theorem wpList_clear {P : Program} {ops : Array Oper} {rest : List Oper} {o : Oper} {a : Act} {w w' : World} {Q : Exit → Act → World → Prop} (hgd : o.guard = none) (s : Operand) (t : TypeId)
    (ho : o.op = .call { callee := .builtin .clear, args := #[s], argTypes := #[t] }) (dv v : Value) (hs : a.eval s = dv)
    (hr : (Builtin.clear_ #[t] o.type #[dv]).run P w = .ok v w') (h : wpList P ops Q rest (a.put o.dst v) w') : wpList P ops Q (o :: rest) a w :=
  wpList_plain hgd fun K hK => by
    unfold Oper.wp execOp
    simp only [ho, resolve, invoke, builtin, Sem.run_bind, Sem.run_pure, Result.andThen_ok, List.map_toArray, List.map_cons, List.map_nil, hs, hr]
    exact hK _ _ h

theorem grown_setRow (w : World) (g : Nat) (cs : Array Value) : w.grownBy (w.setRow g cs) (some g) :=
  ⟨rfl, rfl, rfl, by simp, fun j _ hne => setRow_other _ _ _ _ (fun e => hne (by rw [e]))⟩


end Go.Proofs.YtooemgkjkngpcaaDoor
namespace Go.Proofs.YtooemgkjkngpcaaDoor
open Go.RowKit

theorem mixAll_succ (j : Nat) : ∀ (s : Oct) (m : List (BitVec 8)), mixAll (j + 1) s m = mixed (mixAll j s m) ((m.drop (64 * j)).take 64) := by
  induction j with
  | zero => intro s m; simp [mixAll]
  | succ j ih =>
    intro s m
    have h := ih (mixed s (m.take 64)) (m.drop 64)
    rw [List.drop_drop] at h
    rw [show 64 * (j + 1) = 64 + 64 * j by omega]
    exact h
theorem mixAll_append (j : Nat) : ∀ (s : Oct) (m l : List (BitVec 8)), 64 * j ≤ m.length → mixAll j s (m ++ l) = mixAll j s m := by
  induction j with
  | zero => intro s m l _; rfl
  | succ j ih =>
    intro s m l h
    show mixAll j (mixed s ((m ++ l).take 64)) ((m ++ l).drop 64) = mixAll j (mixed s (m.take 64)) (m.drop 64)
    rw [List.take_append_of_le_length (by omega), List.drop_append_of_le_length (by omega)]
    exact ih _ _ _ (by simp; omega)

/-- R holds what of m fills no block yet -/
def Abs (m R : List (BitVec 8)) : Prop := R.length = 64 ∧ R.take (m.length % 64) = m.drop (64 * (m.length / 64))
/-- the cells of a digest in the making that has taken m -/
def digOf (m R : List (BitVec 8)) : List Value := dig (mixAll (m.length / 64) hTab m) R (m.length % 64) m.length

/-- too little to fill the block that was begun -/
theorem abs_short (m l R : List (BitVec 8)) (h : Abs m R) (hs : m.length % 64 + l.length < 64) :
    Abs (m ++ l) (R.take (m.length % 64) ++ l.take (64 - m.length % 64) ++ R.drop (m.length % 64 + min l.length (64 - m.length % 64))) ∧
    (m ++ l).length / 64 = m.length / 64 ∧ (m ++ l).length % 64 = m.length % 64 + l.length ∧ mixAll ((m ++ l).length / 64) hTab (m ++ l) = mixAll (m.length / 64) hTab m := by
  have hq : (m ++ l).length / 64 = m.length / 64 := by simp; omega
  have hr : (m ++ l).length % 64 = m.length % 64 + l.length := by simp; omega
  refine ⟨⟨by simp [h.1]; omega, ?_⟩, hq, hr, ?_⟩
  · rw [hq, hr, h.2, List.drop_append_of_le_length (by omega), List.take_of_length_le (l := l) (by omega)]
    apply List.take_left'
    simp; omega
  · rw [hq]; exact mixAll_append _ _ _ _ (by omega)
/-- what was begun, and as much of l as fills its block -/
theorem abs_fill (m l R : List (BitVec 8)) (h : Abs m R) (hs : 64 ≤ m.length % 64 + l.length) :
    R.take (m.length % 64) ++ l.take (64 - m.length % 64) ++ R.drop (m.length % 64 + min l.length (64 - m.length % 64)) = ((m ++ l).drop (64 * (m.length / 64))).take 64 ∧
    l.drop (64 - m.length % 64) = (m ++ l).drop (64 * (m.length / 64 + 1)) := by
  have hd : R.drop (m.length % 64 + min l.length (64 - m.length % 64)) = [] := by
    apply List.drop_eq_nil_of_le; rw [h.1]; omega
  constructor
  · rw [hd, List.append_nil, h.2, List.drop_append_of_le_length (by omega), List.take_append, List.take_of_length_le (l := m.drop _) (by simp; omega)]
    congr 2
    simp; omega
  · rw [List.drop_append, List.drop_of_length_le (l := m) (by omega), List.nil_append]
    congr 1
    omega
/-- what is left at the end, less than a block -/
theorem abs_end (m R : List (BitVec 8)) (j : Nat) (hR : R.length = 64) (hj : 64 * j ≤ m.length) (hl : (m.drop (64 * j)).length < 64) :
    Abs m (R.take 0 ++ (m.drop (64 * j)).take (64 - 0) ++ R.drop (0 + min (m.drop (64 * j)).length (64 - 0))) ∧ m.length / 64 = j ∧ m.length % 64 = (m.drop (64 * j)).length := by
  simp at hl
  have hq : m.length / 64 = j := by omega
  have hr : m.length % 64 = (m.drop (64 * j)).length := by simp; omega
  refine ⟨⟨by simp [hR]; omega, ?_⟩, hq, hr⟩
  rw [hq, hr, List.take_zero, List.nil_append, List.take_of_length_le (l := m.drop _) (by simp; omega)]
  exact List.take_left' rfl

theorem pad_q (m : List (BitVec 8)) : m = m.take (64 * (m.length / 64)) ++ m.drop (64 * (m.length / 64)) := (List.take_append_drop _ _).symm
theorem mixAll_padded (m : List (BitVec 8)) : mixAll (m.length / 64) hTab (padded m) = mixAll (m.length / 64) hTab m := by
  unfold padded
  rw [List.append_assoc, List.append_assoc]
  exact mixAll_append _ _ _ _ (by omega)
theorem padded_drop (m : List (BitVec 8)) : (padded m).drop (64 * (m.length / 64)) = m.drop (64 * (m.length / 64)) ++ ([128] ++ List.replicate (zeros m.length) 0 ++ be8 (8 * m.length)) := by
  unfold padded
  rw [List.append_assoc, List.append_assoc, List.drop_append_of_le_length (by omega), List.append_assoc]
/-- the mark behind what was begun, and zeros to the block's end -/
def marked (m R : List (BitVec 8)) : List (BitVec 8) := R.take (m.length % 64) ++ [128] ++ List.replicate (63 - m.length % 64) 0
theorem marked_length (m R : List (BitVec 8)) (h : R.length = 64) : (marked m R).length = 64 := by
  simp [marked, h]; omega
theorem marked_set (m R : List (BitVec 8)) (h : R.length = 64) : (R.set (m.length % 64) 128).take (m.length % 64 + 1) ++ List.replicate (64 - (m.length % 64 + 1)) 0 = marked m R := by
  have hl : m.length % 64 < R.length := by omega
  have e : (R.set (m.length % 64) 128).take (m.length % 64 + 1) = R.take (m.length % 64) ++ [128] := by
    rw [List.take_succ_eq_append_getElem (by simpa using hl)]
    have e0 : List.take (m.length % 64) (R.set (m.length % 64) 128) = List.take (m.length % 64) R := by
      apply List.ext_getElem?
      intro j
      simp only [List.getElem?_take]
      split
      · rw [List.getElem?_set_ne (by omega)]
      · rfl
    rw [e0]
    simp
  rw [e]
  unfold marked
  rw [show 64 - (m.length % 64 + 1) = 63 - m.length % 64 by omega]
theorem marked_full (m R : List (BitVec 8)) (h : R.length = 64) (h63 : m.length % 64 = 63) : R.set (m.length % 64) 128 = marked m R := by
  rw [← marked_set m R h, h63]
  simp [List.take_of_length_le, h]
/-- where there is room for the size -/
theorem sha_short (m R : List (BitVec 8)) (hA : Abs m R) (hs : m.length % 64 < 56) : sha m = (mixed (mixAll (m.length / 64) hTab m) ((marked m R).take 56 ++ be8 (8 * m.length))).list.flatMap wordBytes := by
  unfold sha
  rw [show (m.length + 72) / 64 = m.length / 64 + 1 by omega, mixAll_succ, mixAll_padded, padded_drop]
  have hz : zeros m.length = 55 - m.length % 64 := by unfold zeros; omega
  unfold marked
  rw [hA.2, hz]
  have hd : (m.drop (64 * (m.length / 64))).length = m.length % 64 := by simp; omega
  have e : (m.drop (64 * (m.length / 64)) ++ [128] ++ List.replicate (63 - m.length % 64) (0 : BitVec 8)).take 56 = m.drop (64 * (m.length / 64)) ++ [128] ++ List.replicate (55 - m.length % 64) 0 := by
    rw [List.take_append, List.take_of_length_le (by simp; omega), List.take_replicate]
    congr 2
    simp [hd]; omega
  have e5 : (m.drop (64 * (m.length / 64)) ++ ([128] ++ List.replicate (55 - m.length % 64) 0 ++ be8 (8 * m.length))).take 64 = m.drop (64 * (m.length / 64)) ++ [128] ++ List.replicate (55 - m.length % 64) 0 ++ be8 (8 * m.length) := by
    rw [List.take_of_length_le (by simp [be8]; omega)]
    simp
  rw [e, e5]
/-- where there is none -/
theorem sha_long (m R : List (BitVec 8)) (hA : Abs m R) (hs : 56 ≤ m.length % 64) :
    sha m = (mixed (mixed (mixAll (m.length / 64) hTab m) (marked m R)) ((List.replicate 64 (0 : BitVec 8)).take 56 ++ be8 (8 * m.length))).list.flatMap wordBytes := by
  unfold sha
  rw [show (m.length + 72) / 64 = m.length / 64 + 1 + 1 by omega, mixAll_succ, mixAll_succ, mixAll_padded]
  have hz : zeros m.length = (63 - m.length % 64) + 56 := by unfold zeros; omega
  have hd : (m.drop (64 * (m.length / 64))).length = m.length % 64 := by simp; omega
  have e1 : (padded m).drop (64 * (m.length / 64)) = marked m R ++ (List.replicate 56 0 ++ be8 (8 * m.length)) := by
    rw [padded_drop, hz]
    unfold marked
    rw [hA.2, ← List.replicate_append_replicate]
    simp
  have hml := marked_length m R hA.1
  have e2 : (padded m).drop (64 * (m.length / 64 + 1)) = List.replicate 56 0 ++ be8 (8 * m.length) := by
    rw [show 64 * (m.length / 64 + 1) = 64 * (m.length / 64) + 64 by omega, ← List.drop_drop, e1]
    exact List.drop_left' hml
  have e3 : (marked m R ++ (List.replicate 56 0 ++ be8 (8 * m.length))).take 64 = marked m R := by
    rw [List.take_append_of_le_length (by omega), List.take_of_length_le (by omega)]
  have e4 : (List.replicate 56 0 ++ be8 (8 * m.length)).take 64 = (List.replicate 64 (0 : BitVec 8)).take 56 ++ be8 (8 * m.length) := by
    rw [List.take_of_length_le (by simp [be8]), List.take_replicate]
    rfl
  rw [e1, e2, e3, e4]
end Go.Proofs.YtooemgkjkngpcaaDoor
namespace Go.Proofs.YtooemgkjkngpcaaDoor
open Go.RowKit


theorem slice_rest (B hd : Nat) (h : hd < 64) (w : World) : (Instr.sliceAt 136 (.pointer (Option.some ⟨B, 8, none⟩)) (Option.some (.int .i64 (hd : Int))) none none).run Tryd.prog w = .ok (.slice (Option.some ⟨B, 8 + hd, none⟩) (64 - hd) (64 - hd)) w := by
  have hl : Tryd.prog.arrayLen 136 = 64 := by kernel_rfl
  have hs : (sizeOf (Tryd.prog.elem 136)).run Tryd.prog w = .ok 1 w := by kernel_rfl
  have hne : ¬ 64 = hd := by omega
  rw [run_sliceAt_array_l w 136 ⟨B, 8, none⟩ (by kernel_rfl) .i64 hd (by omega) (by rw [hl]; omega), hs, hl]
  simp [slicedAt, hne, Addr.add]
end Go.Proofs.YtooemgkjkngpcaaDoor
namespace Go.Proofs.YtooemgkjkngpcaaDoor
open Go.RowKit

theorem ownsRow_mono {w : World} {base base' : Nat} {e : TypeId} {size : Nat} {v : Value} {n : Nat} {xs : List Value} (h : w.ownsRow base e size v n xs) (hb : base' ≤ base) : w.ownsRow base' e size v n xs := by
  refine ⟨h.1, ?_⟩
  rcases h.2 with h2 | ⟨g, cap, cur, h3, h4, h5⟩
  · exact .inl h2
  · exact .inr ⟨g, cap, cur, h3, by omega, h5⟩
theorem slice_rest_end (B : Nat) (w : World) : (Instr.sliceAt 136 (.pointer (some ⟨B, 8, none⟩)) (some (.int .i64 64)) none none).run Tryd.prog w = .ok (.slice (some ⟨B, 8, none⟩) 0 0) w := by kernel_rfl
theorem clear_none (a : Addr) (ty : TypeId) (w : World) : (Builtin.clear_ #[46] ty #[.slice (some a) 0 0]).run Tryd.prog w = .ok (.tuple #[]) w := by kernel_rfl

end Go.Proofs.YtooemgkjkngpcaaDoor
namespace Go.Proofs.YtooemgkjkngpcaaDoor
open Go.RowKit

theorem abs_nil : Abs [] (List.replicate 64 0) := ⟨by simp, by simp⟩
theorem digOf_nil : digOf [] (List.replicate 64 0) = dig0 := rfl
theorem dig0_all : dig0.toArray.all (·.oneCell') = true := by kernel_rfl
theorem digZ_dig0 : digZ.toArray.size = dig0.toArray.size := by kernel_rfl
theorem below_grown {w w' : World} {N B : Nat} (h : w.grownBy w' (some B)) (hN : N ≤ B) (hw : N ≤ w.heap.size) : Below N w w' :=
  ⟨h.os, h.tape, h.output, h.size, fun k hk => h.block k (by omega) (by simp; omega)⟩

end Go.Proofs.YtooemgkjkngpcaaDoor
namespace Go.Proofs.YtooemgkjkngpcaaDoor
open Go.RowKit

end Go.Proofs.YtooemgkjkngpcaaDoor
