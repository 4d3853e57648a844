/-
  What package book's pairBytes, forkBytes and bookBytes answer: the bytes that are summed, in new memory.
-/
import Derived.Test.YtjfhhlgblmjonaaDoorBookCat
import Derived.Test.YtjfhhlgblmjonaaDoorRef4B
import Derived.Deep.RegionHeld3
namespace Go.Proofs.YtjfhhlgblmjonaaDoor
open Go.RowKit

theorem fourBytes_new (n : Nat) (w : World) (hn : n < 1000000) : Calls Tryd.prog 55 #[.int .i64 (n : Int)] w fun e w' =>
    e = .returned (.slice (some ⟨w.heap.size, 0, none⟩) 4 4) ∧ Bytes w' w'.heap.size (.slice (some ⟨w.heap.size, 0, none⟩) 4 4) (fourB n) ∧ Below w.heap.size w w' := by
  refine (fourBytes_any n w hn).mono ?_
  rintro e w' ⟨rfl, rfl⟩
  have h := bytes_new w (fourB n) 5 (0, 0) 4 (by simp [fourB])
  refine ⟨rfl, ?_, (Below.refl _ _).alloc (Nat.le_refl _) _⟩
  rw [show (w.alloc (.cells ((fourB n).map V).toArray 5)).heap.size = w.heap.size + 1 by simp]
  exact h
set_option maxRecDepth 100000 in
set_option maxHeartbeats 1000000 in
theorem forkBytes_any (k v : List (BitVec 8)) (kv vv : Value) (N : Nat) (w : World) (hN : N ≤ w.heap.size) (hk : Bytes w N kv k) (hv : Bytes w N vv v) (hkl : k.length ≤ 100000) (hvl : v.length ≤ 100000) :
    Calls Tryd.prog 49 #[kv, vv] w fun e w' => ∃ oa n cap, e = .returned (.slice oa n cap) ∧ OwnB w' w.heap.size (.slice oa n cap) (1 :: (k ++ v)) ∧ Below w.heap.size w w' := by
  obtain ⟨o1, c1, rfl, _⟩ := hk.shape
  obtain ⟨o2, c2, rfl, _⟩ := hv.shape
  obtain ⟨w1, hw1⟩ : ∃ w1, w.alloc (.cells #[.int .u8 1] 5) = w1 := ⟨_, rfl⟩
  have hsz1 : w1.heap.size = w.heap.size + 1 := by rw [← hw1]; simp
  have hb1 : Below w.heap.size w w1 := by rw [← hw1]; exact (Below.refl _ _).alloc (Nat.le_refl _) _
  have hl1 : Bytes w1 w1.heap.size (.slice (some ⟨w.heap.size, 0, none⟩) 1 1) [1] := by rw [hsz1, ← hw1]; exact letter_new w 1 1 rfl
  obtain ⟨w3, hw3⟩ : ∃ w3, w1.alloc (.cells #[.slice (some ⟨w.heap.size, 0, none⟩) 1 1, .slice o1 k.length c1, .slice o2 v.length c2] 23) = w3 := ⟨_, rfl⟩
  have hsz3 : w3.heap.size = w1.heap.size + 1 := by rw [← hw3]; simp
  have hb3 : Below w1.heap.size w1 w3 := by rw [← hw3]; exact (Below.refl _ _).alloc (Nat.le_refl _) _
  have hls : Lists w3 w3.heap.size (.slice (some ⟨w1.heap.size, 0, none⟩) 3 3) [[1], k, v] := by
    rw [hsz3, ← hw3]
    exact lists3 hl1 ((hk.below (hb1.mono hN)).mono (by omega)) ((hv.below (hb1.mono hN)).mono (by omega))
  have hfl : [[1], k, v].flatten = 1 :: (k ++ v) := by rw [flat3]; rfl
  have HJ := hid (concat_any [[1], k, v] _ w3.heap.size w3 (Nat.le_refl _) hls (by rw [hfl]; simp; omega) (by simp))
  rw [hfl, hsz1] at HJ
  have HB3 := hid (hb1.trans (hb3.mono (by omega)))
  have HSZ := hid (show w.heap.size ≤ w3.heap.size by omega)
  clear hb1 hb3 hl1 hls hfl hk hv
  go_enter Tryd.func49, Tryd.ntmps49
  go_wp2_with fail
  refine HJ.out.mono ?_
  rintro e w4 ⟨v4, rfl, hown4, hb4⟩
  obtain ⟨o4, c4, hv4, _⟩ := hown4.shape
  generalize (1 :: (k ++ v)).length = n4 at hv4
  subst hv4
  have HO := hid (hown4.mono HSZ.out)
  have HB4 := hid (HB3.out.trans (hb4.mono HSZ.out))
  clear hown4 hb4 HJ hw3 hw1
  go_wp2
  go_ret
  exact ⟨_, _, _, rfl, HO.out, HB4.out⟩
set_option maxRecDepth 100000 in
set_option maxHeartbeats 1000000 in
theorem bookBytes_any (n : Nat) (t : List (BitVec 8)) (tv : Value) (N : Nat) (w : World) (hN : N ≤ w.heap.size) (ht : Bytes w N tv t) (hn : n < 1000000) (htl : t.length ≤ 100000) :
    Calls Tryd.prog 29 #[.int .i64 (n : Int), tv] w fun e w' => ∃ oa m cap, e = .returned (.slice oa m cap) ∧ OwnB w' w.heap.size (.slice oa m cap) (2 :: (fourB n ++ t)) ∧ Below w.heap.size w w' := by
  obtain ⟨o1, c1, rfl, _⟩ := ht.shape
  obtain ⟨w1, hw1⟩ : ∃ w1, w.alloc (.cells #[.int .u8 2] 5) = w1 := ⟨_, rfl⟩
  have hsz1 : w1.heap.size = w.heap.size + 1 := by rw [← hw1]; simp
  have hb1 : Below w.heap.size w w1 := by rw [← hw1]; exact (Below.refl _ _).alloc (Nat.le_refl _) _
  have hl1 : Bytes w1 w1.heap.size (.slice (some ⟨w.heap.size, 0, none⟩) 1 1) [2] := by rw [hsz1, ← hw1]; exact letter_new w 2 2 rfl
  have HF := hid (fourBytes_new n w1 hn)
  have HT := hid (ht.below (hb1.mono hN))
  have HB1 := hid hb1
  have HL1 := hid hl1
  clear ht hb1 hl1
  go_enter Tryd.func29, Tryd.ntmps29
  go_wp2_with fail
  refine HF.out.mono ?_
  rintro e w2 ⟨rfl, hf2, hb2⟩
  have hsz2 := hb2.size
  obtain ⟨w3, hw3⟩ : ∃ w3, w2.alloc (.cells #[.slice (some ⟨w.heap.size, 0, none⟩) 1 1, .slice (some ⟨w1.heap.size, 0, none⟩) 4 4, .slice o1 t.length c1] 23) = w3 := ⟨_, rfl⟩
  have hsz3 : w3.heap.size = w2.heap.size + 1 := by rw [← hw3]; simp
  have hb3 : Below w2.heap.size w2 w3 := by rw [← hw3]; exact (Below.refl _ _).alloc (Nat.le_refl _) _
  have hls : Lists w3 w3.heap.size (.slice (some ⟨w2.heap.size, 0, none⟩) 3 3) [[2], fourB n, t] := by
    rw [hsz3, ← hw3]
    exact lists3 ((HL1.out.below hb2).mono hsz2) hf2 ((HT.out.below (hb2.mono (by omega))).mono (by omega))
  have hfl : [[2], fourB n, t].flatten = 2 :: (fourB n ++ t) := by rw [flat3]; rfl
  have HJ := hid (concat_any [[2], fourB n, t] _ w3.heap.size w3 (Nat.le_refl _) hls (by rw [hfl]; simp [fourB]; omega) (by simp))
  rw [hfl] at HJ
  have HB3 := hid (HB1.out.trans ((hb2.trans (hb3.mono (by omega))).mono (by omega)))
  have HSZ := hid (show w.heap.size ≤ w3.heap.size by omega)
  rw [hsz1] at hw3
  clear hb2 hb3 hf2 hls hfl HF hw1
  go_wp2_with fail
  refine HJ.out.mono ?_
  rintro e w4 ⟨v4, rfl, hown4, hb4⟩
  obtain ⟨o4, c4, hv4, _⟩ := hown4.shape
  generalize (2 :: (fourB n ++ t)).length = n4 at hv4
  subst hv4
  have HO := hid (hown4.mono HSZ.out)
  have HB4 := hid (HB3.out.trans (hb4.mono HSZ.out))
  clear hown4 hb4 HJ hw3
  go_wp2
  go_ret
  exact ⟨_, _, _, rfl, HO.out, HB4.out⟩
set_option maxRecDepth 100000 in
set_option maxHeartbeats 1000000 in
theorem pairBytes_any (k v : List (BitVec 8)) (kv vv : Value) (N : Nat) (w : World) (hN : N ≤ w.heap.size) (hk : Bytes w N kv k) (hv : Bytes w N vv v) (hkl : k.length ≤ 100000) (hvl : v.length ≤ 100000) :
    Calls Tryd.prog 48 #[.agg #[kv, vv]] w fun e w' => ∃ oa m cap, e = .returned (.slice oa m cap) ∧ OwnB w' w.heap.size (.slice oa m cap) (0 :: (fourB k.length ++ (k ++ v))) ∧ Below w.heap.size w w' := by
  obtain ⟨o1, c1, rfl, _⟩ := hk.shape
  obtain ⟨o2, c2, rfl, _⟩ := hv.shape
  obtain ⟨w1, hw1⟩ : ∃ w1, w.alloc (.cells #[.slice o1 k.length c1, .slice o2 v.length c2] 58) = w1 := ⟨_, rfl⟩
  have hsz1 : w1.heap.size = w.heap.size + 1 := by rw [← hw1]; simp
  have hb1 : Below w.heap.size w w1 := by rw [← hw1]; exact (Below.refl _ _).alloc (Nat.le_refl _) _
  have hrow1 : Row w1 w.heap.size 58 [.slice o1 k.length c1, .slice o2 v.length c2] := by rw [← hw1]; exact Row.new _ _ _
  have HBC := hid (show ∀ wx, Below w1.heap.size w1 wx → wx.cell? ⟨w.heap.size, 0, none⟩ = some (.slice o1 k.length c1) ∧ wx.cell? ⟨w.heap.size, 1, none⟩ = some (.slice o2 v.length c2) from fun wx hx => by
    have hr := hrow1.below hx (by omega)
    exact ⟨hr.cell 0, hr.cell 1⟩)
  have HCAT := hid (show ∀ (wx : World) (B : Nat) (x y : Value), wx.heap.size = B → Below w1.heap.size w1 wx → Bytes wx wx.heap.size x [0] → Bytes wx wx.heap.size y (fourB k.length) →
      Calls Tryd.prog 54 #[.slice (some ⟨B, 0, none⟩) 4 4] (wx.alloc (.cells #[x, y, .slice o1 k.length c1, .slice o2 v.length c2] 23))
        (fun e w' => ∃ oa m cap, e = .returned (.slice oa m cap) ∧ OwnB w' w.heap.size (.slice oa m cap) (0 :: (fourB k.length ++ (k ++ v))) ∧ Below w.heap.size w w' ∧ (w'.cell? ⟨w.heap.size, 0, none⟩ = some (.slice o1 k.length c1) ∧ w'.cell? ⟨w.heap.size, 1, none⟩ = some (.slice o2 v.length c2))) from by
    rintro wx B x y rfl hx h1 h2
    have hszx := hx.size
    have hls : Lists (wx.alloc (.cells #[x, y, .slice o1 k.length c1, .slice o2 v.length c2] 23)) (wx.heap.size + 1) (.slice (some ⟨wx.heap.size, 0, none⟩) 4 4) [[0], fourB k.length, k, v] :=
      lists4 h1 h2 (((hk.below (hb1.mono hN)).below (hx.mono (by omega))).mono (by omega)) (((hv.below (hb1.mono hN)).below (hx.mono (by omega))).mono (by omega))
    have hfl : [[0], fourB k.length, k, v].flatten = 0 :: (fourB k.length ++ (k ++ v)) := by rw [flat4]; rfl
    have hb2 : Below wx.heap.size wx (wx.alloc (.cells #[x, y, .slice o1 k.length c1, .slice o2 v.length c2] 23)) := (Below.refl _ _).alloc (Nat.le_refl _) _
    have hsz2 : (wx.alloc (.cells #[x, y, .slice o1 k.length c1, .slice o2 v.length c2] 23)).heap.size = wx.heap.size + 1 := by simp
    refine (concat_any [[0], fourB k.length, k, v] _ (wx.heap.size + 1) _ (by rw [hsz2]; exact Nat.le_refl _) hls (by rw [hfl]; simp [fourB]; omega) (by simp)).mono ?_
    rintro e w' ⟨v', rfl, hown, hb'⟩
    rw [hfl] at hown
    obtain ⟨oa, cap, rfl, _⟩ := hown.shape
    have hbb : Below w1.heap.size w1 w' := hx.trans ((hb2.mono hszx).trans (hb'.mono (by rw [hsz2]; omega)))
    exact ⟨oa, _, cap, rfl, hown.mono (by rw [hsz2]; omega), hb1.trans (hbb.mono (by omega)), HBC.out w' hbb⟩)
  obtain ⟨wa, hwa⟩ : ∃ wa, wa = (w1.alloc (.cells #[.int .u8 0] 5)).drew := ⟨_, rfl⟩
  have hba : Below w1.heap.size w1 (w1.alloc (.cells #[.int .u8 0] 5)).drew := ((Below.refl _ _).alloc (Nat.le_refl _) _).drew
  have hla : Bytes (w1.alloc (.cells #[.int .u8 0] 5)).drew (w1.heap.size + 1) (.slice (some ⟨w1.heap.size, 0, none⟩) 1 1) [0] := (letter_new w1 0 0 rfl).below (Below.refl _ _).drew
  have hsza : (w1.alloc (.cells #[.int .u8 0] 5)).drew.heap.size = w1.heap.size + 1 := by simp
  have HFA := hid (show Calls Tryd.prog 55 #[.int .i64 (k.length : Int)] (w1.alloc (.cells #[.int .u8 0] 5)).drew (fun e w' => e = .returned (.slice (some ⟨w1.heap.size + 1, 0, none⟩) 4 4) ∧ Below w1.heap.size w1 w' ∧ Bytes w' w'.heap.size (.slice (some ⟨w1.heap.size, 0, none⟩) 1 1) [0] ∧ Bytes w' w'.heap.size (.slice (some ⟨w1.heap.size + 1, 0, none⟩) 4 4) (fourB k.length)) from by
    refine (fourBytes_new k.length _ (by omega)).mono ?_
    rintro e w' ⟨rfl, h1, h2⟩
    have hs2 := h2.size
    rw [hsza] at h1 h2 hs2 ⊢
    exact ⟨rfl, hba.trans (h2.mono (by omega)), (hla.below h2).mono hs2, h1⟩)
  have HFB := hid (show Calls Tryd.prog 55 #[.int .i64 (k.length : Int)] w1.drew (fun e w' => e = .returned (.slice (some ⟨w1.heap.size, 0, none⟩) 4 4) ∧ Below w1.heap.size w1 w' ∧ Below w1.heap.size w1 (w'.alloc (.cells #[.int .u8 0] 5)) ∧
      Bytes (w'.alloc (.cells #[.int .u8 0] 5)) (w'.alloc (.cells #[.int .u8 0] 5)).heap.size (.slice (some ⟨w'.heap.size, 0, none⟩) 1 1) [0] ∧ Bytes (w'.alloc (.cells #[.int .u8 0] 5)) (w'.alloc (.cells #[.int .u8 0] 5)).heap.size (.slice (some ⟨w1.heap.size, 0, none⟩) 4 4) (fourB k.length)) from by
    refine (fourBytes_new k.length w1.drew (by omega)).mono ?_
    rintro e w' ⟨rfl, h1, h2⟩
    have hb2 : Below w1.heap.size w1 w' := (show Below w1.heap.size w1 w1.drew from (Below.refl _ _).drew).trans h2
    have hs3 : (w'.alloc (.cells #[.int .u8 0] 5)).heap.size = w'.heap.size + 1 := by simp
    refine ⟨rfl, hb2, hb2.alloc hb2.size _, by rw [hs3]; exact letter_new w' 0 0 rfl, ?_⟩
    rw [hs3]
    exact (h1.below ((Below.refl _ _).alloc (Nat.le_refl _) _)).mono (by omega))
  have HW1 := hid hw1
  have s0 := HBC.out w1.drew (Below.refl _ _).drew
  have s1 := HBC.out _ hba
  clear hk hv hb1 hrow1 hw1 hwa hba hla hsza
  have HZ1 := hid hsz1
  clear hsz1
  go_enter Tryd.func48, Tryd.ntmps48
  go_wp2_with fail
  rw [HW1.out]
  go_region_held3 (fun W => W.cell? ⟨w.heap.size, 0, none⟩ = some (.slice o1 k.length c1) ∧ W.cell? ⟨w.heap.size, 1, none⟩ = some (.slice o2 v.length c2)) (first | assumption) (first
    | (go_at_call 55; refine HFA.out.mono ?_; rintro e w3 ⟨rfl, hb3, hx3, hy3⟩; have HB3 := hid hb3; have HX3 := hid hx3; have HY3 := hid hy3; have s3 := HBC.out _ HB3.out; have s4 := HBC.out _ (HB3.out.alloc HB3.out.size (.cells #[.slice (some ⟨w1.heap.size, 0, none⟩) 1 1, .slice (some ⟨w1.heap.size + 1, 0, none⟩) 4 4, .slice o1 k.length c1, .slice o2 v.length c2] 23)); clear hb3 hx3 hy3)
    | (go_at_call 55; refine HFB.out.mono ?_; rintro e w3 ⟨rfl, hb3, hb3b, hx3, hy3⟩; have HB3b := hid hb3b; have HX3b := hid hx3; have HY3b := hid hy3; have s3 := HBC.out _ hb3; have s3b := HBC.out _ HB3b.out; have s4 := HBC.out _ (HB3b.out.alloc HB3b.out.size (.cells #[.slice (some ⟨w3.heap.size, 0, none⟩) 1 1, .slice (some ⟨w1.heap.size, 0, none⟩) 4 4, .slice o1 k.length c1, .slice o2 v.length c2] 23)); clear hb3 hx3 hy3 hb3b)
    | (go_at_call 54; refine (HCAT.out w3 w3.heap.size (.slice (some ⟨w1.heap.size, 0, none⟩) 1 1) (.slice (some ⟨w1.heap.size + 1, 0, none⟩) 4 4) rfl HB3.out HX3.out HY3.out).mono ?_; rintro e w5 ⟨o5, n5, c5, rfl, hown5, hb5, s5⟩; have HO5 := hid hown5; have HB5 := hid hb5; clear hown5 hb5)
    | (go_at_call 54; refine (HCAT.out (w3.alloc (.cells #[.int .u8 0] 5)) (w3.heap.size + 1) (.slice (some ⟨w3.heap.size, 0, none⟩) 1 1) (.slice (some ⟨w1.heap.size, 0, none⟩) 4 4) (Array.size_push ..) HB3b.out HX3b.out HY3b.out).mono ?_; rintro e w5 ⟨o5, n5, c5, rfl, hown5, hb5, s5⟩; have HO5 := hid hown5; have HB5 := hid hb5; clear hown5 hb5))
  all_goals
    go_wp2
    go_ret
    exact ⟨_, _, _, rfl, HO5.out, HB5.out⟩
end Go.Proofs.YtjfhhlgblmjonaaDoor
