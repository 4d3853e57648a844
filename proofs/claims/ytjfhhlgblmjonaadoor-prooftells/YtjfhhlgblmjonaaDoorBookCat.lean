/-
  What slices.Grow and slices.Concat of bytes, and package book's fourBytes, answer.
-/
import Derived.Test.YtjfhhlgblmjonaaDoorRef4Join
import Derived.Lib.AppendZerosOnto
namespace Go.Proofs.YtjfhhlgblmjonaaDoor
open Go.RowKit

set_option maxRecDepth 100000 in
set_option maxHeartbeats 1000000 in
theorem grow_any (n : Nat) (w : World) (hn : n ≤ 1000000) :
    Calls Tryd.prog 67 #[.slice none 0 0, .int .i64 (n : Int)] w fun e w' => ∃ oa m c, e = .returned (.slice oa m c) ∧ OwnB w' w.heap.size (.slice oa m c) [] ∧ Below w.heap.size w w' := by
  obtain ⟨i0, hi0, hz0, hz1, hz2⟩ := info_parts info_u8
  by_cases h0 : n = 0
  · subst h0
    go_enter Tryd.func67, Tryd.ntmps67
    go_wp2
    go_ret
    exact ⟨_, _, _, rfl, OwnB.nil _ _, Below.refl _ _⟩
  · obtain ⟨G, hG⟩ : ∃ G, G = grownCap w n 0 5 := ⟨_, rfl⟩
    obtain ⟨W1, hW1⟩ : ∃ W1, W1 = w.drew.alloc (.cells (Builtin.zeroCells (Value.int .u8 0).cells n ++ Builtin.zeroCells (Value.int .u8 0).cells (G - n)) 5) := ⟨_, rfl⟩
    have hGn : n ≤ G := by rw [hG]; exact grownCap_ge w _ _ _
    have hGm : G ≤ maxLen := by rw [hG]; exact grownCap_le_maxLen w n 0 5 (by unfold maxLen; omega)
    have hrz : ∀ ty, (Builtin.append_ #[23, 3] ty #[.slice none 0 0, .int .i64 (n : Int)]).run Tryd.prog w = .ok (.slice (some ⟨w.heap.size, 0, none⟩) n G) W1 := fun ty => by
      have h := Lib.run_append_nil_zeros w 23 3 ty 5 i0 _ .i64 .i64 Tryd.underlying23 Tryd.underlying3 hi0 hz0 n (by omega) (by omega) (by omega) (by rw [hz2]; omega)
      rw [h, hW1, ← hG]
    have hbl : Below w.heap.size w W1 := by
      rw [hW1]
      exact (show Below w.heap.size w w.drew from ⟨rfl, rfl, rfl, Nat.le_refl _, fun _ _ => rfl⟩).alloc (Nat.le_refl _) _
    have hown : OwnB W1 w.heap.size (.slice (some ⟨w.heap.size, 0, none⟩) 0 G) [] := by
      refine ⟨rfl, .inr ⟨w.heap.size, G, Builtin.zeroCells (Value.int .u8 0).cells n ++ Builtin.zeroCells (Value.int .u8 0).cells (G - n), rfl, Nat.le_refl _, ?_, Nat.zero_le _, hGm, ?_, rfl⟩⟩
      · rw [hW1]
        exact heap_alloc_new w.drew _
      · rw [Array.size_append, size_zeroCells, size_zeroCells, show (Value.int .u8 0).cells.size = 1 from rfl]
        omega
    have HO := hid hown
    have HB := hid hbl
    have hG63 : G ≤ 9223372036854775807 := by unfold maxLen at hGm; omega
    obtain ⟨B, hB⟩ : ∃ B, w.heap.size = B := ⟨_, rfl⟩
    rw [hB] at hrz
    have HHB := hid hB
    clear hW1 hG hown hbl hGm hi0 hz0 hz1 hz2 hB
    have b1 : (0 : Int) < (n : Int) := by omega
    have b2 : decide ((0 : Int) < (n : Int)) = true := by simpa using b1
    have b3 : decide ((n : Int) < 0) = false := by simp
    go_enter Tryd.func67, Tryd.ntmps67
    go_wp2_with (at_builtin; refine Lib.wpList_append_run _ rfl (.tmp 20) (.tmp 21) _ _ rfl _ _ rfl rfl _ _ (hrz _) ?_)
    go_ret
    refine ⟨some ⟨B, 0, none⟩, 0, G, rfl, ?_, HB.out⟩
    rw [← HHB.out]
    exact HO.out
set_option maxRecDepth 100000 in
set_option maxHeartbeats 1000000 in
theorem fourBytes_any (n : Nat) (w : World) (hn : n < 1000000) : Calls Tryd.prog 55 #[.int .i64 (n : Int)] w fun e w' =>
    e = .returned (.slice (some ⟨w.heap.size, 0, none⟩) 4 4) ∧ w' = w.alloc (.cells ((fourB n).map V).toArray 5) := by
  go_enter Tryd.func55, Tryd.ntmps55
  go_wp2
  go_ret
  refine ⟨rfl, ?_⟩
  rw [four_cells, show (n : Int) / 16777216 % 256 = (n : Int) / 16777216 by omega, show (n : Int) / 65536 % 256 = (n : Int) / 65536 by omega]
set_option maxRecDepth 100000 in
set_option maxHeartbeats 1000000 in
theorem concat_any (ls : List (List (BitVec 8))) (sv : Value) (N : Nat) (w : World) (hN : N ≤ w.heap.size) (hb : Lists w N sv ls) (hlen : ls.flatten.length ≤ 1000000) (hn : ls.length ≤ 1000000) :
    Calls Tryd.prog 54 #[sv] w fun e w' => ∃ v, e = .returned v ∧ OwnB w' w.heap.size v ls.flatten ∧ Below w.heap.size w w' := by
  obtain ⟨oa, ca, rfl, hca⟩ := hb.shape
  have HB := hid hb
  have HLEN := hid hlen
  clear hb hlen
  generalize hnn : ls.length = n at *
  have HN := hid hnn
  clear hnn
  go_enter Tryd.func54, Tryd.ntmps54
  go_wp2_with fail
  go_loopw [3, 11] (fun y i wr => ∃ k m : Nat, k ≤ n ∧ m ≤ 1000000 ∧ i = .int .i64 (k : Int) ∧ y = .int .i64 (m : Int) ∧ wr = w ∧ Hid (m = (ls.take k).flatten.length)) (fun _ i _ => n - (intOf i).toNat)
  case atStart => exact ⟨0, 0, by omega, by omega, rfl, rfl, rfl, rfl⟩
  case round =>
    obtain ⟨k, m, hk, hm, rfl, rfl, hwr, HR⟩ := hrel
    obtain rfl := hwr.symm
    by_cases hlt : k < n
    · have h1 : Lists w N (.slice oa ls.length ca) ls := by rw [HN.out]; exact HB.out
      obtain ⟨b, o, rfl, hc⟩ := h1.some (by rw [HN.out]; omega)
      obtain ⟨hbN, x, hx, hbx⟩ := hc k (by rw [HN.out]; exact hlt)
      obtain ⟨o1, c1, rfl, hc1⟩ := hbx.shape
      have HT := hid (flatten_take_succ ls k (by rw [HN.out]; exact hlt))
      obtain ⟨m1, hm1⟩ : ∃ m1, (ls.getD k []).length = m1 := ⟨_, rfl⟩
      rw [hm1] at hx hc1
      have HL := hid (show m + m1 = (ls.take (k + 1)).flatten.length by rw [HT.out, List.length_append, ← HR.out, hm1])
      have hml : m + m1 ≤ 1000000 := by rw [HL.out]; exact Nat.le_trans (flatten_take_le ls (k + 1)) HLEN.out
      have hlt' : (k : Int) < (n : Int) := by omega
      have b1 : decide ((m : Int) + (m1 : Int) < 0) = false := by simp; omega
      have b2 : IntKind.i64.wrap ((m : Int) + (m1 : Int)) = (m : Int) + (m1 : Int) := by rw [IntKind.wrap_i64]; omega
      clear h1 hc hbx hm1
      go_wp2_with fail
      exact ⟨⟨k + 1, m + m1, by omega, by omega, by go_num, by go_num, trivial, HL.out⟩, by simp [intOf]; omega⟩
    · have hge : decide ((k : Int) < (n : Int)) = false := by simp; omega
      have HG := hid (grow_any m w hm)
      go_wp2_with fail
      refine HG.out.mono ?_
      rintro e w2 ⟨og, mg, cg, rfl, hown, hbl⟩
      have HO := hid hown
      have HBL := hid hbl
      clear hown hbl
      go_wp2_with fail
      go_loopw [6, 27] (fun y i wx => ∃ k : Nat, k ≤ n ∧ i = .int .i64 (k : Int) ∧ Hid (OwnB wx w.heap.size y (ls.take k).flatten ∧ Below w.heap.size w wx)) (fun _ i _ => n - (intOf i).toNat)
      case atStart => exact ⟨0, by omega, rfl, HO.out, HBL.out⟩
      case round =>
        obtain ⟨k, hk, rfl, HR⟩ := hrel
        by_cases hlt : k < n
        · have h1 : Lists w N (.slice oa ls.length ca) ls := by rw [HN.out]; exact HB.out
          obtain ⟨b, o, rfl, hc⟩ := h1.some (by rw [HN.out]; omega)
          obtain ⟨hbN, x, hx, hbx⟩ := hc k (by rw [HN.out]; exact hlt)
          obtain ⟨o1, c1, rfl, hc1⟩ := hbx.shape
          have f0 := (HR.out.2.cell (p := ⟨b, o + k, none⟩) (show b < w.heap.size by omega)).trans hx
          have HT := hid (flatten_take_succ ls k (by rw [HN.out]; exact hlt))
          have HL := hid (show (ls.take k).flatten.length + (ls.getD k []).length ≤ 140737488355328 by
            have h2 := flatten_take_le ls (k + 1)
            have h3 := HLEN.out
            rw [HT.out, List.length_append] at h2
            omega)
          have HBX := hid (hbx.below (HR.out.2.mono hN))
          have HSZ := hid (show w.heap.size ≤ wr.heap.size from HR.out.2.size)
          have hlt' : (k : Int) < (n : Int) := by omega
          clear h1 hc hx hbx
          go_wp2_with (at_builtin; refine wpList_append_keep rfl (.tmp 31) (.tmp 32) rfl w.heap.size _ (ls.take k).flatten rfl HR.out.1 _ (ls.getD k []) rfl HBX.out HL.out HSZ.out ?_; intro v' w1 hown1 hbe1 hke1)
          go_roundw
          case rel => exact ⟨k + 1, by omega, by go_num, by rw [HT.out]; exact hown1, HR.out.2.trans hbe1⟩
          case measure => simp [intOf]; omega
        · have hge : decide ((k : Int) < (n : Int)) = false := by simp; omega
          have HT := hid (show (ls.take k).flatten = ls.flatten by rw [List.take_of_length_le (by rw [HN.out]; omega)])
          go_wp2
          go_ret
          exact ⟨_, rfl, by rw [← HT.out]; exact HR.out.1, HR.out.2⟩
end Go.Proofs.YtjfhhlgblmjonaaDoor
