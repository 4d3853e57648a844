/-
  What bytes.Equal answers: whether two lists of bytes are the same.
-/
import Derived.Test.YtbhghmlachlfkaaDoorMemB
import Derived.Laws.BytesArg
import Derived.Lib.Bytes
namespace Go.Proofs.YtbhghmlachlfkaaDoor
open Go.RowKit

theorem conv_str {w : World} {N : Nat} {sv : Value} {l : List (BitVec 8)} (h : Bytes w N sv l) : (convert 23 9 sv).run Tryd.prog w = .ok (.string (strOfNums (l.map b8))) w := by
  have zero : ∀ (p : Option Addr) (c : Nat), (convert 23 9 (.slice p 0 c)).run Tryd.prog w = .ok (.string (strOfNums [])) w := fun p c => by
    rw [run_convert_bytes_string w 23 9 5 _ 0 c Tryd.underlying23 Tryd.underlying5 Tryd.underlying9]
    cases p <;> simp [Conv.bytesToString, loadCells]
    all_goals rfl
  rcases h with ⟨rfl, rfl⟩ | ⟨a, cap, rfl, rfl⟩ | ⟨b, off, cap, rfl, _, hc⟩
  · exact zero _ _
  · exact zero _ _
  · refine run_convert_bytes_arg w 23 5 Tryd.underlying23 Tryd.underlying5 b off l.length cap (l.map b8) (by simp) (fun i hi => ?_) 9 Tryd.underlying9
    rw [(hc i hi).2]
    simp [hi]
theorem u8_inj {x y : BitVec 8} (h : UInt8.ofNat (b8 x).toNat = UInt8.ofNat (b8 y).toNat) : x = y := by
  have := congrArg UInt8.toNat h
  have hx := x.isLt
  have hy := y.isLt
  unfold b8 at this
  simp at this
  exact BitVec.eq_of_toNat_eq (by omega)
theorem str_inj : ∀ {l m : List (BitVec 8)}, (l.map b8).map (fun n => UInt8.ofNat n.toNat) = (m.map b8).map (fun n => UInt8.ofNat n.toNat) → l = m
  | [], [], _ => rfl
  | [], _ :: _, h => by simp at h
  | _ :: _, [], h => by simp at h
  | x :: l, y :: m, h => by
    simp only [List.map_cons, List.cons.injEq] at h
    rw [u8_inj h.1, str_inj h.2]
theorem str_eq (l m : List (BitVec 8)) : ((strOfNums (l.map b8)).toList == (strOfNums (m.map b8)).toList) = decide (l = m) := by
  by_cases e : l = m
  · subst e
    simp
  · rw [decide_eq_false e]
    rw [beq_eq_false_iff_ne]
    intro h
    refine e (str_inj ?_)
    rw [Lib.strOfNums_toList, Lib.strOfNums_toList] at h
    exact h
theorem equal_any (l m : List (BitVec 8)) (sa sb : Value) (N M : Nat) (w : World) (ha : Bytes w N sa l) (hb : Bytes w M sb m) :
    Calls Tryd.prog 58 #[sa, sb] w fun e w' => e = .returned (.bool (decide (l = m))) ∧ w' = w := by
  have h1 := conv_str ha
  have h2 := conv_str hb
  have HE := hid (str_eq l m)
  obtain ⟨oa, ca, rfl, hca⟩ := ha.shape
  obtain ⟨ob, cb, rfl, hcb⟩ := hb.shape
  clear ha hb
  generalize strOfNums (l.map b8) = sl at *
  generalize strOfNums (m.map b8) = sm at *
  generalize l.length = n at *
  generalize m.length = n' at *
  go_enter Tryd.func58, Tryd.ntmps58
  go_wp2_with (simp only [h1, h2])
  go_ret
  exact ⟨by rw [HE.out]; rfl, rfl⟩
end Go.Proofs.YtbhghmlachlfkaaDoor
