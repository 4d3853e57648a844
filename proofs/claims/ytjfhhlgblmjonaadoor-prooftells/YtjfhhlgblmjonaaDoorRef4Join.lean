/-
  What the document's Join and Four answer: bytes one behind the other, in new memory; a number in four bytes.
-/
import Derived.Test.YtjfhhlgblmjonaaDoorMemB
import Derived.Test.YtjfhhlgblmjonaaDoorBookMath
namespace Go.Proofs.YtjfhhlgblmjonaaDoor
open Go.RowKit

set_option maxRecDepth 100000 in
set_option maxHeartbeats 1000000 in
theorem refJoin_any (ls : List (List (BitVec 8))) (sv : Value) (N : Nat) (w : World) (hN : N ≤ w.heap.size) (hb : Lists w N sv ls) (hlen : ls.flatten.length ≤ 1000000) (hn : ls.length ≤ 1000000) :
    Calls Tryd.prog 52 #[sv] w fun e w' => ∃ v, e = .returned v ∧ OwnB w' w.heap.size v ls.flatten ∧ Below w.heap.size w w' := by
  obtain ⟨oa, ca, rfl, hca⟩ := hb.shape
  have HB := hid hb
  clear hb
  generalize hnn : ls.length = n at *
  have HN := hid hnn
  clear hnn
  go_enter Tryd.func52, Tryd.ntmps52
  go_wp2_with fail
  go_loopw [3, 8] (fun y i wr => ∃ k : Nat, k ≤ n ∧ i = .int .i64 (k : Int) ∧ Hid (OwnB wr w.heap.size y (ls.take k).flatten ∧ Below w.heap.size w wr)) (fun _ i _ => n - (intOf i).toNat)
  case atStart => exact ⟨0, by omega, rfl, OwnB.nil _ _, Below.refl _ _⟩
  case round =>
    obtain ⟨k, hk, rfl, HR⟩ := hrel
    by_cases hlt : k < n
    · have h1 : Lists w N (.slice oa ls.length ca) ls := by rw [HN.out]; exact HB.out
      obtain ⟨b, o, rfl, hc⟩ := h1.some (by rw [HN.out]; omega)
      obtain ⟨hbN, x, hx, hbx⟩ := hc k (by rw [HN.out]; exact hlt)
      obtain ⟨o1, c1, rfl, hc1⟩ := hbx.shape
      have f0 := (HR.out.2.cell (p := ⟨b, o + k, none⟩) (show b < w.heap.size by omega)).trans hx
      have HT := hid (flatten_take_succ ls k (by rw [HN.out]; exact hlt))
      have HL := hid (show (ls.take k).flatten.length + (ls.getD k []).length ≤ 140737488355328 by
        have h2 := flatten_take_le ls (k + 1)
        rw [HT.out, List.length_append] at h2
        omega)
      have HBX := hid (hbx.below (HR.out.2.mono hN))
      have HSZ := hid (show w.heap.size ≤ wr.heap.size from HR.out.2.size)
      have hlt' : (k : Int) < (n : Int) := by omega
      clear h1 hc hx hbx
      go_wp2_with (at_builtin; refine wpList_append_keep rfl (.tmp 12) (.tmp 13) rfl w.heap.size _ (ls.take k).flatten rfl HR.out.1 _ (ls.getD k []) rfl HBX.out HL.out HSZ.out ?_; intro v' w1 hown1 hbe1 hke1)
      go_roundw
      case rel => exact ⟨k + 1, by omega, by go_num, by rw [HT.out]; exact hown1, HR.out.2.trans hbe1⟩
      case measure => simp [intOf]; omega
    · have hge : decide ((k : Int) < (n : Int)) = false := by simp; omega
      have HT := hid (show (ls.take k).flatten = ls.flatten by rw [List.take_of_length_le (by rw [HN.out]; omega)])
      go_wp2
      go_ret
      exact ⟨_, rfl, by rw [← HT.out]; exact HR.out.1, HR.out.2⟩
theorem V_ofNat (m : Nat) (h : m < 256) : V (BitVec.ofNat 8 m) = .int .u8 (m : Int) := by
  unfold V b8
  simp
  omega
theorem four_cells (n : Nat) : (fourB n).map V = [.int .u8 ((n : Int) / 16777216 % 256), .int .u8 ((n : Int) / 65536 % 256), .int .u8 ((n : Int) / 256 % 256), .int .u8 ((n : Int) % 256)] := by
  unfold fourB
  simp only [List.map_cons, List.map_nil]
  rw [V_ofNat _ (by omega), V_ofNat _ (by omega), V_ofNat _ (by omega), V_ofNat _ (by omega)]
  simp
set_option maxRecDepth 100000 in
set_option maxHeartbeats 1000000 in
theorem refFour_any (n : Nat) (w : World) (hn : n < 1000000) : Calls Tryd.prog 53 #[.int .i64 (n : Int)] w fun e w' =>
    e = .returned (.slice (some ⟨w.heap.size, 0, none⟩) 4 4) ∧ w' = w.alloc (.cells ((fourB n).map V).toArray 5) := by
  go_enter Tryd.func53, Tryd.ntmps53
  go_wp2
  go_ret
  refine ⟨rfl, ?_⟩
  rw [four_cells]
end Go.Proofs.YtjfhhlgblmjonaaDoor
