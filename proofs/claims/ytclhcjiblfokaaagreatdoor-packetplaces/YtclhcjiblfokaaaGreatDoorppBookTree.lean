/-
  What slices.Grow and slices.Concat of bytes, and package book's fourBytes, answer.
  What the document's Leaf, Node and Top answer: digests, in new memory. What the document's Tree and Root answer: the digest of pairs, by halves; a book's digest, or what is wrong with it. What the document's Root answers: a book's digest, in new memory; or what is wrong with it.
  What package book's pairBytes, forkBytes and bookBytes answer: the bytes that are summed, in new memory.
  What package book's tree answers: the digest of pairs, by halves.
-/
import Derived.Test.YtclhcjiblfokaaaGreatDoorppBookMath
import Derived.Test.YtclhcjiblfokaaaGreatDoorppRef1All
import Derived.Test.YtclhcjiblfokaaaGreatDoorppPairsAll
import Derived.Lib.AppendZerosOnto
import Derived.Deep.RegionWith
import Derived.Deep.Slices
import Derived.Deep.RegionHeld3
namespace Go.Proofs.YtclhcjiblfokaaaGreatDoor
open Go.RowKit

set_option maxRecDepth 100000 in
set_option maxHeartbeats 1000000 in
theorem grow_any (n : Nat) (w : World) (hn : n ≤ 1000000) :
    Calls Tryz.prog 197 #[.slice none 0 0, .int .i64 (n : Int)] w fun e w' => ∃ oa m c, e = .returned (.slice oa m c) ∧ OwnB w' w.heap.size (.slice oa m c) [] ∧ Below w.heap.size w w' := by
  obtain ⟨i0, hi0, hz0, hz1, hz2⟩ := info_parts info_u8
  by_cases h0 : n = 0
  · subst h0
    go_enter Tryz.func197, Tryz.ntmps197
    go_wp2
    go_ret
    exact ⟨_, _, _, rfl, OwnB.nil _ _, Below.refl _ _⟩
  · obtain ⟨G, hG⟩ : ∃ G, G = grownCap w n 0 5 := ⟨_, rfl⟩
    obtain ⟨W1, hW1⟩ : ∃ W1, W1 = w.drew.alloc (.cells (Builtin.zeroCells (Value.int .u8 0).cells n ++ Builtin.zeroCells (Value.int .u8 0).cells (G - n)) 5) := ⟨_, rfl⟩
    have hGn : n ≤ G := by rw [hG]; exact grownCap_ge w _ _ _
    have hGm : G ≤ maxLen := by rw [hG]; exact grownCap_le_maxLen w n 0 5 (by unfold maxLen; omega)
    have hrz : ∀ ty, (Builtin.append_ #[29, 3] ty #[.slice none 0 0, .int .i64 (n : Int)]).run Tryz.prog w = .ok (.slice (some ⟨w.heap.size, 0, none⟩) n G) W1 := fun ty => by
      have h := Lib.run_append_nil_zeros w 29 3 ty 5 i0 _ .i64 .i64 Tryz.underlying29 Tryz.underlying3 hi0 hz0 n (by omega) (by omega) (by omega) (by rw [hz2]; omega)
      rw [h, hW1, ← hG]
    have hbl : Below w.heap.size w W1 := by
      rw [hW1]
      exact (show Below w.heap.size w w.drew from ⟨rfl, rfl, rfl, Nat.le_refl _, fun _ _ => rfl⟩).alloc (Nat.le_refl _) _
    have hown : OwnB W1 w.heap.size (.slice (some ⟨w.heap.size, 0, none⟩) 0 G) [] := by
      refine ⟨rfl, .inr ⟨w.heap.size, G, Builtin.zeroCells (Value.int .u8 0).cells n ++ Builtin.zeroCells (Value.int .u8 0).cells (G - n), rfl, Nat.le_refl _, ?_, Nat.zero_le _, hGm, ?_, rfl⟩⟩
      · rw [hW1]
        exact heap_alloc_new w.drew _
      · rw [Array.size_append, size_zeroCells, size_zeroCells, show (Value.int .u8 0).cells.size = 1 from rfl]
        omega
    have HO := hid hown
    have HB := hid hbl
    have hG63 : G ≤ 9223372036854775807 := by unfold maxLen at hGm; omega
    obtain ⟨B, hB⟩ : ∃ B, w.heap.size = B := ⟨_, rfl⟩
    rw [hB] at hrz
    have HHB := hid hB
    clear hW1 hG hown hbl hGm hi0 hz0 hz1 hz2 hB
    have b1 : (0 : Int) < (n : Int) := by omega
    have b2 : decide ((0 : Int) < (n : Int)) = true := by simpa using b1
    have b3 : decide ((n : Int) < 0) = false := by simp
    go_enter Tryz.func197, Tryz.ntmps197
    go_wp2_with (at_builtin; refine Lib.wpList_append_run _ rfl (.tmp 20) (.tmp 21) _ _ rfl _ _ rfl rfl _ _ (hrz _) ?_)
    go_ret
    refine ⟨some ⟨B, 0, none⟩, 0, G, rfl, ?_, HB.out⟩
    rw [← HHB.out]
    exact HO.out
set_option maxRecDepth 100000 in
set_option maxHeartbeats 1000000 in
theorem fourBytes_any (n : Nat) (w : World) (hn : n < 1000000) : Calls Tryz.prog 191 #[.int .i64 (n : Int)] w fun e w' =>
    e = .returned (.slice (some ⟨w.heap.size, 0, none⟩) 4 4) ∧ w' = w.alloc (.cells ((fourB n).map V).toArray 5) := by
  go_enter Tryz.func191, Tryz.ntmps191
  go_wp2
  go_ret
  refine ⟨rfl, ?_⟩
  rw [four_cells, show (n : Int) / 16777216 % 256 = (n : Int) / 16777216 by omega, show (n : Int) / 65536 % 256 = (n : Int) / 65536 by omega]
set_option maxRecDepth 100000 in
set_option maxHeartbeats 1000000 in
theorem concat_any (ls : List (List (BitVec 8))) (sv : Value) (N : Nat) (w : World) (hN : N ≤ w.heap.size) (hb : Lists w N sv ls) (hlen : ls.flatten.length ≤ 1000000) (hn : ls.length ≤ 1000000) :
    Calls Tryz.prog 190 #[sv] w fun e w' => ∃ v, e = .returned v ∧ OwnB w' w.heap.size v ls.flatten ∧ Below w.heap.size w w' := by
  obtain ⟨oa, ca, rfl, hca⟩ := hb.shape
  have HB := hid hb
  have HLEN := hid hlen
  clear hb hlen
  generalize hnn : ls.length = n at *
  have HN := hid hnn
  clear hnn
  go_enter Tryz.func190, Tryz.ntmps190
  go_wp2_with fail
  go_loopw [3, 11] (fun y i wr => ∃ k m : Nat, k ≤ n ∧ m ≤ 1000000 ∧ i = .int .i64 (k : Int) ∧ y = .int .i64 (m : Int) ∧ wr = w ∧ Hid (m = (ls.take k).flatten.length)) (fun _ i _ => n - (intOf i).toNat)
  case atStart => exact ⟨0, 0, by omega, by omega, rfl, rfl, rfl, rfl⟩
  case round =>
    obtain ⟨k, m, hk, hm, rfl, rfl, hwr, HR⟩ := hrel
    obtain rfl := hwr.symm
    by_cases hlt : k < n
    · have h1 : Lists w N (.slice oa ls.length ca) ls := by rw [HN.out]; exact HB.out
      obtain ⟨b, o, rfl, hc⟩ := h1.some (by rw [HN.out]; omega)
      obtain ⟨hbN, x, hx, hbx⟩ := hc k (by rw [HN.out]; exact hlt)
      obtain ⟨o1, c1, rfl, hc1⟩ := hbx.shape
      have HT := hid (flatten_take_succ ls k (by rw [HN.out]; exact hlt))
      obtain ⟨m1, hm1⟩ : ∃ m1, (ls.getD k []).length = m1 := ⟨_, rfl⟩
      rw [hm1] at hx hc1
      have HL := hid (show m + m1 = (ls.take (k + 1)).flatten.length by rw [HT.out, List.length_append, ← HR.out, hm1])
      have hml : m + m1 ≤ 1000000 := by rw [HL.out]; exact Nat.le_trans (flatten_take_le ls (k + 1)) HLEN.out
      have hlt' : (k : Int) < (n : Int) := by omega
      have b1 : decide ((m : Int) + (m1 : Int) < 0) = false := by simp; omega
      have b2 : IntKind.i64.wrap ((m : Int) + (m1 : Int)) = (m : Int) + (m1 : Int) := by rw [IntKind.wrap_i64]; omega
      clear h1 hc hbx hm1
      go_wp2_with fail
      exact ⟨⟨k + 1, m + m1, by omega, by omega, by go_num, by go_num, trivial, HL.out⟩, by simp [intOf]; omega⟩
    · have hge : decide ((k : Int) < (n : Int)) = false := by simp; omega
      have HG := hid (grow_any m w hm)
      go_wp2_with fail
      refine HG.out.mono ?_
      rintro e w2 ⟨og, mg, cg, rfl, hown, hbl⟩
      have HO := hid hown
      have HBL := hid hbl
      clear hown hbl
      go_wp2_with fail
      go_loopw [6, 27] (fun y i wx => ∃ k : Nat, k ≤ n ∧ i = .int .i64 (k : Int) ∧ Hid (OwnB wx w.heap.size y (ls.take k).flatten ∧ Below w.heap.size w wx)) (fun _ i _ => n - (intOf i).toNat)
      case atStart => exact ⟨0, by omega, rfl, HO.out, HBL.out⟩
      case round =>
        obtain ⟨k, hk, rfl, HR⟩ := hrel
        by_cases hlt : k < n
        · have h1 : Lists w N (.slice oa ls.length ca) ls := by rw [HN.out]; exact HB.out
          obtain ⟨b, o, rfl, hc⟩ := h1.some (by rw [HN.out]; omega)
          obtain ⟨hbN, x, hx, hbx⟩ := hc k (by rw [HN.out]; exact hlt)
          obtain ⟨o1, c1, rfl, hc1⟩ := hbx.shape
          have f0 := (HR.out.2.cell (p := ⟨b, o + k, none⟩) (show b < w.heap.size by omega)).trans hx
          have HT := hid (flatten_take_succ ls k (by rw [HN.out]; exact hlt))
          have HL := hid (show (ls.take k).flatten.length + (ls.getD k []).length ≤ 140737488355328 by
            have h2 := flatten_take_le ls (k + 1)
            have h3 := HLEN.out
            rw [HT.out, List.length_append] at h2
            omega)
          have HBX := hid (hbx.below (HR.out.2.mono hN))
          have HSZ := hid (show w.heap.size ≤ wr.heap.size from HR.out.2.size)
          have hlt' : (k : Int) < (n : Int) := by omega
          clear h1 hc hx hbx
          go_wp2_with (at_builtin; refine wpList_append_keep rfl (.tmp 31) (.tmp 32) rfl w.heap.size _ (ls.take k).flatten rfl HR.out.1 _ (ls.getD k []) rfl HBX.out HL.out HSZ.out ?_; intro v' w1 hown1 hbe1 hke1)
          go_roundw
          case rel => exact ⟨k + 1, by omega, by go_num, by rw [HT.out]; exact hown1, HR.out.2.trans hbe1⟩
          case measure => simp [intOf]; omega
        · have hge : decide ((k : Int) < (n : Int)) = false := by simp; omega
          have HT := hid (show (ls.take k).flatten = ls.flatten by rw [List.take_of_length_le (by rw [HN.out]; omega)])
          go_wp2
          go_ret
          exact ⟨_, rfl, by rw [← HT.out]; exact HR.out.1, HR.out.2⟩
end Go.Proofs.YtclhcjiblfokaaaGreatDoor
namespace Go.Proofs.YtclhcjiblfokaaaGreatDoor
open Go.RowKit

theorem letter_new (w : World) (b : BitVec 8) (y : Int) (hy : y = b8 b) : Bytes (w.alloc (.cells #[.int .u8 y] 5)) (w.heap.size + 1) (.slice (some ⟨w.heap.size, 0, none⟩) 1 1) [b] := by
  subst hy
  exact bytes_new w [b] 5 (0, 0) 1 (by simp)
end Go.Proofs.YtclhcjiblfokaaaGreatDoor
namespace Go.Proofs.YtclhcjiblfokaaaGreatDoor
open Go.RowKit

end Go.Proofs.YtclhcjiblfokaaaGreatDoor
namespace Go.Proofs.YtclhcjiblfokaaaGreatDoor
open Go.RowKit

theorem fourBytes_new (n : Nat) (w : World) (hn : n < 1000000) : Calls Tryz.prog 191 #[.int .i64 (n : Int)] w fun e w' =>
    e = .returned (.slice (some ⟨w.heap.size, 0, none⟩) 4 4) ∧ Bytes w' w'.heap.size (.slice (some ⟨w.heap.size, 0, none⟩) 4 4) (fourB n) ∧ Below w.heap.size w w' := by
  refine (fourBytes_any n w hn).mono ?_
  rintro e w' ⟨rfl, rfl⟩
  have h := bytes_new w (fourB n) 5 (0, 0) 4 (by simp [fourB])
  refine ⟨rfl, ?_, (Below.refl _ _).alloc (Nat.le_refl _) _⟩
  rw [show (w.alloc (.cells ((fourB n).map V).toArray 5)).heap.size = w.heap.size + 1 by simp]
  exact h
set_option maxRecDepth 100000 in
set_option maxHeartbeats 1000000 in
theorem forkBytes_any (k v : List (BitVec 8)) (kv vv : Value) (N : Nat) (w : World) (hN : N ≤ w.heap.size) (hk : Bytes w N kv k) (hv : Bytes w N vv v) (hkl : k.length ≤ 100000) (hvl : v.length ≤ 100000) :
    Calls Tryz.prog 170 #[kv, vv] w fun e w' => ∃ oa n cap, e = .returned (.slice oa n cap) ∧ OwnB w' w.heap.size (.slice oa n cap) (1 :: (k ++ v)) ∧ Below w.heap.size w w' := by
  obtain ⟨o1, c1, rfl, _⟩ := hk.shape
  obtain ⟨o2, c2, rfl, _⟩ := hv.shape
  obtain ⟨w1, hw1⟩ : ∃ w1, w.alloc (.cells #[.int .u8 1] 5) = w1 := ⟨_, rfl⟩
  have hsz1 : w1.heap.size = w.heap.size + 1 := by rw [← hw1]; simp
  have hb1 : Below w.heap.size w w1 := by rw [← hw1]; exact (Below.refl _ _).alloc (Nat.le_refl _) _
  have hl1 : Bytes w1 w1.heap.size (.slice (some ⟨w.heap.size, 0, none⟩) 1 1) [1] := by rw [hsz1, ← hw1]; exact letter_new w 1 1 rfl
  obtain ⟨w3, hw3⟩ : ∃ w3, w1.alloc (.cells #[.slice (some ⟨w.heap.size, 0, none⟩) 1 1, .slice o1 k.length c1, .slice o2 v.length c2] 29) = w3 := ⟨_, rfl⟩
  have hsz3 : w3.heap.size = w1.heap.size + 1 := by rw [← hw3]; simp
  have hb3 : Below w1.heap.size w1 w3 := by rw [← hw3]; exact (Below.refl _ _).alloc (Nat.le_refl _) _
  have hls : Lists w3 w3.heap.size (.slice (some ⟨w1.heap.size, 0, none⟩) 3 3) [[1], k, v] := by
    rw [hsz3, ← hw3]
    exact lists3 hl1 ((hk.below (hb1.mono hN)).mono (by omega)) ((hv.below (hb1.mono hN)).mono (by omega))
  have hfl : [[1], k, v].flatten = 1 :: (k ++ v) := by rw [flat3]; rfl
  have HJ := hid (concat_any [[1], k, v] _ w3.heap.size w3 (Nat.le_refl _) hls (by rw [hfl]; simp; omega) (by simp))
  rw [hfl, hsz1] at HJ
  have HB3 := hid (hb1.trans (hb3.mono (by omega)))
  have HSZ := hid (show w.heap.size ≤ w3.heap.size by omega)
  clear hb1 hb3 hl1 hls hfl hk hv
  go_enter Tryz.func170, Tryz.ntmps170
  go_wp2_with fail
  refine HJ.out.mono ?_
  rintro e w4 ⟨v4, rfl, hown4, hb4⟩
  obtain ⟨o4, c4, hv4, _⟩ := hown4.shape
  generalize (1 :: (k ++ v)).length = n4 at hv4
  subst hv4
  have HO := hid (hown4.mono HSZ.out)
  have HB4 := hid (HB3.out.trans (hb4.mono HSZ.out))
  clear hown4 hb4 HJ hw3 hw1
  go_wp2
  go_ret
  exact ⟨_, _, _, rfl, HO.out, HB4.out⟩
set_option maxRecDepth 100000 in
set_option maxHeartbeats 1000000 in
theorem bookBytes_any (n : Nat) (t : List (BitVec 8)) (tv : Value) (N : Nat) (w : World) (hN : N ≤ w.heap.size) (ht : Bytes w N tv t) (hn : n < 1000000) (htl : t.length ≤ 100000) :
    Calls Tryz.prog 171 #[.int .i64 (n : Int), tv] w fun e w' => ∃ oa m cap, e = .returned (.slice oa m cap) ∧ OwnB w' w.heap.size (.slice oa m cap) (2 :: (fourB n ++ t)) ∧ Below w.heap.size w w' := by
  obtain ⟨o1, c1, rfl, _⟩ := ht.shape
  obtain ⟨w1, hw1⟩ : ∃ w1, w.alloc (.cells #[.int .u8 2] 5) = w1 := ⟨_, rfl⟩
  have hsz1 : w1.heap.size = w.heap.size + 1 := by rw [← hw1]; simp
  have hb1 : Below w.heap.size w w1 := by rw [← hw1]; exact (Below.refl _ _).alloc (Nat.le_refl _) _
  have hl1 : Bytes w1 w1.heap.size (.slice (some ⟨w.heap.size, 0, none⟩) 1 1) [2] := by rw [hsz1, ← hw1]; exact letter_new w 2 2 rfl
  have HF := hid (fourBytes_new n w1 hn)
  have HT := hid (ht.below (hb1.mono hN))
  have HB1 := hid hb1
  have HL1 := hid hl1
  clear ht hb1 hl1
  go_enter Tryz.func171, Tryz.ntmps171
  go_wp2_with fail
  refine HF.out.mono ?_
  rintro e w2 ⟨rfl, hf2, hb2⟩
  have hsz2 := hb2.size
  obtain ⟨w3, hw3⟩ : ∃ w3, w2.alloc (.cells #[.slice (some ⟨w.heap.size, 0, none⟩) 1 1, .slice (some ⟨w1.heap.size, 0, none⟩) 4 4, .slice o1 t.length c1] 29) = w3 := ⟨_, rfl⟩
  have hsz3 : w3.heap.size = w2.heap.size + 1 := by rw [← hw3]; simp
  have hb3 : Below w2.heap.size w2 w3 := by rw [← hw3]; exact (Below.refl _ _).alloc (Nat.le_refl _) _
  have hls : Lists w3 w3.heap.size (.slice (some ⟨w2.heap.size, 0, none⟩) 3 3) [[2], fourB n, t] := by
    rw [hsz3, ← hw3]
    exact lists3 ((HL1.out.below hb2).mono hsz2) hf2 ((HT.out.below (hb2.mono (by omega))).mono (by omega))
  have hfl : [[2], fourB n, t].flatten = 2 :: (fourB n ++ t) := by rw [flat3]; rfl
  have HJ := hid (concat_any [[2], fourB n, t] _ w3.heap.size w3 (Nat.le_refl _) hls (by rw [hfl]; simp [fourB]; omega) (by simp))
  rw [hfl] at HJ
  have HB3 := hid (HB1.out.trans ((hb2.trans (hb3.mono (by omega))).mono (by omega)))
  have HSZ := hid (show w.heap.size ≤ w3.heap.size by omega)
  rw [hsz1] at hw3
  clear hb2 hb3 hf2 hls hfl HF hw1
  go_wp2_with fail
  refine HJ.out.mono ?_
  rintro e w4 ⟨v4, rfl, hown4, hb4⟩
  obtain ⟨o4, c4, hv4, _⟩ := hown4.shape
  generalize (2 :: (fourB n ++ t)).length = n4 at hv4
  subst hv4
  have HO := hid (hown4.mono HSZ.out)
  have HB4 := hid (HB3.out.trans (hb4.mono HSZ.out))
  clear hown4 hb4 HJ hw3
  go_wp2
  go_ret
  exact ⟨_, _, _, rfl, HO.out, HB4.out⟩
set_option maxRecDepth 100000 in
set_option maxHeartbeats 1000000 in
theorem pairBytes_any (k v : List (BitVec 8)) (kv vv : Value) (N : Nat) (w : World) (hN : N ≤ w.heap.size) (hk : Bytes w N kv k) (hv : Bytes w N vv v) (hkl : k.length ≤ 100000) (hvl : v.length ≤ 100000) :
    Calls Tryz.prog 169 #[.agg #[kv, vv]] w fun e w' => ∃ oa m cap, e = .returned (.slice oa m cap) ∧ OwnB w' w.heap.size (.slice oa m cap) (0 :: (fourB k.length ++ (k ++ v))) ∧ Below w.heap.size w w' := by
  obtain ⟨o1, c1, rfl, _⟩ := hk.shape
  obtain ⟨o2, c2, rfl, _⟩ := hv.shape
  obtain ⟨w1, hw1⟩ : ∃ w1, w.alloc (.cells #[.slice o1 k.length c1, .slice o2 v.length c2] 210) = w1 := ⟨_, rfl⟩
  have hsz1 : w1.heap.size = w.heap.size + 1 := by rw [← hw1]; simp
  have hb1 : Below w.heap.size w w1 := by rw [← hw1]; exact (Below.refl _ _).alloc (Nat.le_refl _) _
  have hrow1 : Row w1 w.heap.size 210 [.slice o1 k.length c1, .slice o2 v.length c2] := by rw [← hw1]; exact Row.new _ _ _
  have HBC := hid (show ∀ wx, Below w1.heap.size w1 wx → wx.cell? ⟨w.heap.size, 0, none⟩ = some (.slice o1 k.length c1) ∧ wx.cell? ⟨w.heap.size, 1, none⟩ = some (.slice o2 v.length c2) from fun wx hx => by
    have hr := hrow1.below hx (by omega)
    exact ⟨hr.cell 0, hr.cell 1⟩)
  have HCAT := hid (show ∀ (wx : World) (B : Nat) (x y : Value), wx.heap.size = B → Below w1.heap.size w1 wx → Bytes wx wx.heap.size x [0] → Bytes wx wx.heap.size y (fourB k.length) →
      Calls Tryz.prog 190 #[.slice (some ⟨B, 0, none⟩) 4 4] (wx.alloc (.cells #[x, y, .slice o1 k.length c1, .slice o2 v.length c2] 29))
        (fun e w' => ∃ oa m cap, e = .returned (.slice oa m cap) ∧ OwnB w' w.heap.size (.slice oa m cap) (0 :: (fourB k.length ++ (k ++ v))) ∧ Below w.heap.size w w' ∧ (w'.cell? ⟨w.heap.size, 0, none⟩ = some (.slice o1 k.length c1) ∧ w'.cell? ⟨w.heap.size, 1, none⟩ = some (.slice o2 v.length c2))) from by
    rintro wx B x y rfl hx h1 h2
    have hszx := hx.size
    have hls : Lists (wx.alloc (.cells #[x, y, .slice o1 k.length c1, .slice o2 v.length c2] 29)) (wx.heap.size + 1) (.slice (some ⟨wx.heap.size, 0, none⟩) 4 4) [[0], fourB k.length, k, v] :=
      lists4 h1 h2 (((hk.below (hb1.mono hN)).below (hx.mono (by omega))).mono (by omega)) (((hv.below (hb1.mono hN)).below (hx.mono (by omega))).mono (by omega))
    have hfl : [[0], fourB k.length, k, v].flatten = 0 :: (fourB k.length ++ (k ++ v)) := by rw [flat4]; rfl
    have hb2 : Below wx.heap.size wx (wx.alloc (.cells #[x, y, .slice o1 k.length c1, .slice o2 v.length c2] 29)) := (Below.refl _ _).alloc (Nat.le_refl _) _
    have hsz2 : (wx.alloc (.cells #[x, y, .slice o1 k.length c1, .slice o2 v.length c2] 29)).heap.size = wx.heap.size + 1 := by simp
    refine (concat_any [[0], fourB k.length, k, v] _ (wx.heap.size + 1) _ (by rw [hsz2]; exact Nat.le_refl _) hls (by rw [hfl]; simp [fourB]; omega) (by simp)).mono ?_
    rintro e w' ⟨v', rfl, hown, hb'⟩
    rw [hfl] at hown
    obtain ⟨oa, cap, rfl, _⟩ := hown.shape
    have hbb : Below w1.heap.size w1 w' := hx.trans ((hb2.mono hszx).trans (hb'.mono (by rw [hsz2]; omega)))
    exact ⟨oa, _, cap, rfl, hown.mono (by rw [hsz2]; omega), hb1.trans (hbb.mono (by omega)), HBC.out w' hbb⟩)
  obtain ⟨wa, hwa⟩ : ∃ wa, wa = (w1.alloc (.cells #[.int .u8 0] 5)).drew := ⟨_, rfl⟩
  have hba : Below w1.heap.size w1 (w1.alloc (.cells #[.int .u8 0] 5)).drew := ((Below.refl _ _).alloc (Nat.le_refl _) _).drew
  have hla : Bytes (w1.alloc (.cells #[.int .u8 0] 5)).drew (w1.heap.size + 1) (.slice (some ⟨w1.heap.size, 0, none⟩) 1 1) [0] := (letter_new w1 0 0 rfl).below (Below.refl _ _).drew
  have hsza : (w1.alloc (.cells #[.int .u8 0] 5)).drew.heap.size = w1.heap.size + 1 := by simp
  have HFA := hid (show Calls Tryz.prog 191 #[.int .i64 (k.length : Int)] (w1.alloc (.cells #[.int .u8 0] 5)).drew (fun e w' => e = .returned (.slice (some ⟨w1.heap.size + 1, 0, none⟩) 4 4) ∧ Below w1.heap.size w1 w' ∧ Bytes w' w'.heap.size (.slice (some ⟨w1.heap.size, 0, none⟩) 1 1) [0] ∧ Bytes w' w'.heap.size (.slice (some ⟨w1.heap.size + 1, 0, none⟩) 4 4) (fourB k.length)) from by
    refine (fourBytes_new k.length _ (by omega)).mono ?_
    rintro e w' ⟨rfl, h1, h2⟩
    have hs2 := h2.size
    rw [hsza] at h1 h2 hs2 ⊢
    exact ⟨rfl, hba.trans (h2.mono (by omega)), (hla.below h2).mono hs2, h1⟩)
  have HFB := hid (show Calls Tryz.prog 191 #[.int .i64 (k.length : Int)] w1.drew (fun e w' => e = .returned (.slice (some ⟨w1.heap.size, 0, none⟩) 4 4) ∧ Below w1.heap.size w1 w' ∧ Below w1.heap.size w1 (w'.alloc (.cells #[.int .u8 0] 5)) ∧
      Bytes (w'.alloc (.cells #[.int .u8 0] 5)) (w'.alloc (.cells #[.int .u8 0] 5)).heap.size (.slice (some ⟨w'.heap.size, 0, none⟩) 1 1) [0] ∧ Bytes (w'.alloc (.cells #[.int .u8 0] 5)) (w'.alloc (.cells #[.int .u8 0] 5)).heap.size (.slice (some ⟨w1.heap.size, 0, none⟩) 4 4) (fourB k.length)) from by
    refine (fourBytes_new k.length w1.drew (by omega)).mono ?_
    rintro e w' ⟨rfl, h1, h2⟩
    have hb2 : Below w1.heap.size w1 w' := (show Below w1.heap.size w1 w1.drew from (Below.refl _ _).drew).trans h2
    have hs3 : (w'.alloc (.cells #[.int .u8 0] 5)).heap.size = w'.heap.size + 1 := by simp
    refine ⟨rfl, hb2, hb2.alloc hb2.size _, by rw [hs3]; exact letter_new w' 0 0 rfl, ?_⟩
    rw [hs3]
    exact (h1.below ((Below.refl _ _).alloc (Nat.le_refl _) _)).mono (by omega))
  have HW1 := hid hw1
  have s0 := HBC.out w1.drew (Below.refl _ _).drew
  have s1 := HBC.out _ hba
  clear hk hv hb1 hrow1 hw1 hwa hba hla hsza
  have HZ1 := hid hsz1
  clear hsz1
  go_enter Tryz.func169, Tryz.ntmps169
  go_wp2_with fail
  rw [HW1.out]
  go_region_held3 (fun W => W.cell? ⟨w.heap.size, 0, none⟩ = some (.slice o1 k.length c1) ∧ W.cell? ⟨w.heap.size, 1, none⟩ = some (.slice o2 v.length c2)) (first | assumption) (first
    | (go_at_call 191; refine HFA.out.mono ?_; rintro e w3 ⟨rfl, hb3, hx3, hy3⟩; have HB3 := hid hb3; have HX3 := hid hx3; have HY3 := hid hy3; have s3 := HBC.out _ HB3.out; have s4 := HBC.out _ (HB3.out.alloc HB3.out.size (.cells #[.slice (some ⟨w1.heap.size, 0, none⟩) 1 1, .slice (some ⟨w1.heap.size + 1, 0, none⟩) 4 4, .slice o1 k.length c1, .slice o2 v.length c2] 29)); clear hb3 hx3 hy3)
    | (go_at_call 191; refine HFB.out.mono ?_; rintro e w3 ⟨rfl, hb3, hb3b, hx3, hy3⟩; have HB3b := hid hb3b; have HX3b := hid hx3; have HY3b := hid hy3; have s3 := HBC.out _ hb3; have s3b := HBC.out _ HB3b.out; have s4 := HBC.out _ (HB3b.out.alloc HB3b.out.size (.cells #[.slice (some ⟨w3.heap.size, 0, none⟩) 1 1, .slice (some ⟨w1.heap.size, 0, none⟩) 4 4, .slice o1 k.length c1, .slice o2 v.length c2] 29)); clear hb3 hx3 hy3 hb3b)
    | (go_at_call 190; refine (HCAT.out w3 w3.heap.size (.slice (some ⟨w1.heap.size, 0, none⟩) 1 1) (.slice (some ⟨w1.heap.size + 1, 0, none⟩) 4 4) rfl HB3.out HX3.out HY3.out).mono ?_; rintro e w5 ⟨o5, n5, c5, rfl, hown5, hb5, s5⟩; have HO5 := hid hown5; have HB5 := hid hb5; clear hown5 hb5)
    | (go_at_call 190; refine (HCAT.out (w3.alloc (.cells #[.int .u8 0] 5)) (w3.heap.size + 1) (.slice (some ⟨w3.heap.size, 0, none⟩) 1 1) (.slice (some ⟨w1.heap.size, 0, none⟩) 4 4) (Array.size_push ..) HB3b.out HX3b.out HY3b.out).mono ?_; rintro e w5 ⟨o5, n5, c5, rfl, hown5, hb5, s5⟩; have HO5 := hid hown5; have HB5 := hid hb5; clear hown5 hb5))
  all_goals
    go_wp2
    go_ret
    exact ⟨_, _, _, rfl, HO5.out, HB5.out⟩
end Go.Proofs.YtclhcjiblfokaaaGreatDoor
namespace Go.Proofs.YtclhcjiblfokaaaGreatDoor
open Go.RowKit

theorem tableAt.past {w w' : World} (h : tableAt w) (hg : Below w.heap.size w w') : tableAt w' := h.below hg h.lt
theorem sumC (l : List (BitVec 8)) (sv : Value) (N : Nat) (w : World) (hN : N ≤ w.heap.size) (hb : Bytes w N sv l) (hK : tableAt w) (hlen : l.length ≤ 1000000) :
    Calls Tryz.prog 27 #[sv] w fun e w' => ∃ oa cap, e = .returned (.slice oa 32 cap) ∧ OwnB w' w.heap.size (.slice oa 32 cap) (sha l) ∧ Below w.heap.size w w' := by
  refine (sum_any l sv N w hN hb hK (by omega)).mono ?_
  rintro e w' ⟨v, rfl, h1, h2⟩
  have h3 : OwnB w' w.heap.size v (sha l) := by unfold OwnB; rw [sha_length]; exact h1
  obtain ⟨oa, cap, rfl, _⟩ := h3.shape
  rw [sha_length] at h3 ⊢
  exact ⟨oa, cap, rfl, h3, h2⟩
end Go.Proofs.YtclhcjiblfokaaaGreatDoor
