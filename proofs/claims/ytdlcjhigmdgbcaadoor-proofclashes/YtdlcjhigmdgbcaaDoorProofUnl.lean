/-
  What package proof's samePair and firstUnlike answer.
-/
import Derived.Test.YtdlcjhigmdgbcaaDoorProofShownW
import Derived.Deep.RegionHeld3
namespace Go.Proofs.YtdlcjhigmdgbcaaDoor
open Go.RowKit

set_option maxRecDepth 100000 in
set_option maxHeartbeats 2000000 in
theorem samePair_any (q : Pr) (p : Prf) (kv vv v : Value) (N : Nat) (w : World) (hN : N ≤ w.heap.size) (hk : Bytes w N kv q.key) (hv : Bytes w N vv q.val) (hp : PrfV w N v p) :
    Calls Tryd.prog 35 #[.agg #[kv, vv], v] w fun e w' => Below w.heap.size w w' ∧ Tells (q.key = p.key ∧ q.val = p.val) e := by
  obtain ⟨kv', vv', pv', rfl, hk', hv', hpt⟩ := hp
  obtain ⟨o1, c1, rfl, _⟩ := hk.shape
  obtain ⟨o2, c2, rfl, _⟩ := hv.shape
  obtain ⟨o3, c3, rfl, _⟩ := hk'.shape
  obtain ⟨o4, c4, rfl, _⟩ := hv'.shape
  obtain ⟨o5, c5, rfl, _⟩ := hpt.shape
  obtain ⟨w1, hw1⟩ : ∃ w1, w.alloc (.cells #[.slice o1 q.key.length c1, .slice o2 q.val.length c2] 49) = w1 := ⟨_, rfl⟩
  have hsz1 : w1.heap.size = w.heap.size + 1 := by rw [← hw1]; simp
  have hb1 : Below w.heap.size w w1 := by rw [← hw1]; exact (Below.refl _ _).alloc (Nat.le_refl _) _
  have hr1 : Row w1 w.heap.size 49 [.slice o1 q.key.length c1, .slice o2 q.val.length c2] := by rw [← hw1]; exact Row.new _ _ _
  obtain ⟨w2, hw2⟩ : ∃ w2, w1.alloc (.cells #[.int .i64 p.index, .int .i64 p.size, .slice o3 p.key.length c3, .slice o4 p.val.length c4, .slice o5 p.path.length c5] 34) = w2 := ⟨_, rfl⟩
  have hb2 : Below w1.heap.size w1 w2 := by rw [← hw2]; exact (Below.refl _ _).alloc (Nat.le_refl _) _
  have hr2 : Row w2 w1.heap.size 34 [.int .i64 p.index, .int .i64 p.size, .slice o3 p.key.length c3, .slice o4 p.val.length c4, .slice o5 p.path.length c5] := by rw [← hw2]; exact Row.new _ _ _
  rw [hsz1] at hr2
  have hr12 := hr1.below hb2 (by omega)
  have q0 := hr12.cell 0
  have q1 := hr12.cell 1
  have s2 := hr2.cell 2
  have s3 := hr2.cell 3
  have HB2 := hid (hb1.trans (hb2.mono (by omega)))
  have HEK := hid (equal_any q.key p.key _ _ N N w2 (hk.below (HB2.out.mono hN)) (hk'.below (HB2.out.mono hN)))
  have HEV := hid (equal_any q.val p.val _ _ N N w2 (hv.below (HB2.out.mono hN)) (hv'.below (HB2.out.mono hN)))
  clear hk hv hk' hv' hpt hb1 hb2 hr1 hr2 hr12
  go_enter Tryd.func35, Tryd.ntmps35
  by_cases e1 : q.key = p.key
  · rw [decide_eq_true e1] at HEK
    have E1 := hid e1
    clear e1
    go_wp2_with fail
    refine HEK.out.mono ?_
    rintro e w3 ⟨rfl, hw3⟩
    obtain rfl := hw3.symm
    go_wp2_with fail
    refine HEV.out.mono ?_
    rintro e w4 ⟨rfl, hw4⟩
    obtain rfl := hw4.symm
    go_wp2
    go_ret
    refine ⟨HB2.out, _, rfl, ?_⟩
    rw [decide_eq_true_iff]
    exact ⟨fun h => ⟨E1.out, h⟩, fun h => h.2⟩
  · rw [decide_eq_false e1] at HEK
    have E1 := hid e1
    clear e1
    go_wp2_with fail
    refine HEK.out.mono ?_
    rintro e w3 ⟨rfl, hw3⟩
    obtain rfl := hw3.symm
    go_wp2
    go_ret
    exact ⟨HB2.out, Tells.no (fun h => E1.out h.1)⟩
set_option maxRecDepth 100000 in
set_option maxHeartbeats 4000000 in
theorem firstUnlike_any (xs ys : List (List (BitVec 8))) (a b : Value) (N : Nat) (w : World) (hN : N ≤ w.heap.size) (ha : Lists w N a xs) (hb : Lists w N b ys) (hl : ys.length = xs.length) (hx : xs.length ≤ 1000) :
    Calls Tryd.prog 36 #[a, b] w fun e w' => Below w.heap.size w w' ∧ ((e = .returned (.tuple #[.slice none 0 0, .slice none 0 0, .bool false]) ∧ ∀ j : Nat, j < xs.length → xs[j]? = ys[j]?) ∨
      ∃ (i : Nat) (x y : List (BitVec 8)) (o1 : Option Addr) (n1 c1 : Nat) (o2 : Option Addr) (n2 c2 : Nat), xs[i]? = some x ∧ ys[i]? = some y ∧ x ≠ y ∧ (∀ j : Nat, j < i → xs[j]? = ys[j]?) ∧ e = .returned (.tuple #[.slice o1 n1 c1, .slice o2 n2 c2, .bool true]) ∧ Bytes w' N (.slice o1 n1 c1) x ∧ Bytes w' N (.slice o2 n2 c2) y) := by
  obtain ⟨oa, ca, rfl, _⟩ := ha.shape
  obtain ⟨ob, cb, rfl, _⟩ := hb.shape
  have HA := hid ha
  have HBB := hid hb
  have HL := hid hl
  clear ha hb
  rw [hl] at HBB ⊢
  clear hl
  generalize hn : xs.length = n at *
  have HN := hid hn
  clear hn
  go_enter Tryd.func36, Tryd.ntmps36
  go_wp2_with fail
  go_loopw [10] (fun s10 wr => ∃ k : Nat, k ≤ n ∧ s10 = .int .i64 (k : Int) ∧ Hid (Below w.heap.size w wr ∧ ∀ j : Nat, j < k → xs[j]? = ys[j]?)) (fun s10 _ => n - (intOf s10).toNat)
  case atStart => exact ⟨0, Nat.zero_le _, rfl, hid ⟨Below.refl _ _, fun j hj => absurd hj (Nat.not_lt_zero _)⟩⟩
  case round =>
    obtain ⟨k, hk, rfl, HR⟩ := hrel
    by_cases hlt : k < n
    · have hla : Lists w N (.slice oa xs.length ca) xs := by rw [HN.out]; exact HA.out
      have hlb : Lists w N (.slice ob ys.length cb) ys := by rw [HL.out]; exact HBB.out
      obtain ⟨b1, f1, rfl, hc1⟩ := hla.some (by rw [HN.out]; omega)
      obtain ⟨b2, f2, rfl, hc2⟩ := hlb.some (by rw [HL.out]; omega)
      obtain ⟨hn1, x, hx1, hbx⟩ := hc1 k (by rw [HN.out]; exact hlt)
      obtain ⟨hn2, y, hy1, hby⟩ := hc2 k (by rw [HL.out]; exact hlt)
      obtain ⟨X, hX⟩ : ∃ X, xs.getD k [] = X := ⟨_, rfl⟩
      obtain ⟨Y, hY⟩ : ∃ Y, ys.getD k [] = Y := ⟨_, rfl⟩
      have HXK := hid (show xs[k]? = some X by rw [← hX]; exact getD_some _ _ _ (by rw [HN.out]; exact hlt))
      have HYK := hid (show ys[k]? = some Y by rw [← hY]; exact getD_some _ _ _ (by rw [HL.out]; exact hlt))
      rw [hX] at hbx
      rw [hY] at hby
      obtain ⟨o1, c1, rfl, _⟩ := hbx.shape
      obtain ⟨o2, c2, rfl, _⟩ := hby.shape
      have HCX := hid (show ∀ wx, Below w.heap.size w wx → wx.cell? ⟨b1, f1 + k, none⟩ = some (.slice o1 X.length c1) ∧ wx.cell? ⟨b2, f2 + k, none⟩ = some (.slice o2 Y.length c2) from fun wx hx =>
        ⟨(hx.cell (p := ⟨b1, f1 + k, none⟩) (show b1 < w.heap.size by omega)).trans hx1, (hx.cell (p := ⟨b2, f2 + k, none⟩) (show b2 < w.heap.size by omega)).trans hy1⟩)
      have s0 := HCX.out wr HR.out.1
      have HEQ := hid (show ∀ wx, Below w.heap.size w wx → Calls Tryd.prog 31 #[.slice o1 X.length c1, .slice o2 Y.length c2] wx fun e w' => e = .returned (.bool (decide (X = Y))) ∧ w' = wx from fun wx hx => equal_any X Y _ _ N N wx (hbx.below (hx.mono hN)) (hby.below (hx.mono hN)))
      have HBX := hid hbx
      have HBY := hid hby
      have hlt' : (k : Int) < (n : Int) := by omega
      have HRD := hid (show Below w.heap.size w wr.drew from HR.out.1.drew)
      have s1 := HCX.out wr.drew HRD.out
      clear hla hlb hc1 hc2 hx1 hy1 hbx hby hX hY
      by_cases hxy : X = Y
      · rw [decide_eq_true hxy] at HEQ
        have HXY := hid hxy
        clear hxy
        go_wp2_with fail
        go_region_with (go_at_call 31; refine (HEQ.out wr.drew HRD.out).mono ?_; rintro e w2 ⟨rfl, hw2⟩; obtain rfl := hw2.symm)
        all_goals
          go_wp2_with fail
          refine ⟨⟨k + 1, by omega, by go_num, hid ⟨HRD.out, fun j hj => ?_⟩⟩, by simp [intOf]; omega⟩
          by_cases ej : j = k
          · rw [ej, HXK.out, HYK.out, HXY.out]
          · exact HR.out.2 j (by omega)
      · rw [decide_eq_false hxy] at HEQ
        have HXY := hid hxy
        clear hxy
        go_wp2_with fail
        go_region_with (go_at_call 31; refine (HEQ.out wr.drew HRD.out).mono ?_; rintro e w2 ⟨rfl, hw2⟩; obtain rfl := hw2.symm)
        all_goals
          go_wp2_with fail
          go_region
          all_goals
            go_wp2_with fail
            refine bodyPost_ret (v := .tuple #[.slice o1 X.length c1, .slice o2 Y.length c2, .bool true]) (by simp [results, Tryd.results36, go_sem]) rfl ⟨HRD.out.drew, .inr ⟨k, X, Y, _, _, _, _, _, _, HXK.out, HYK.out, HXY.out, HR.out.2, rfl, HBX.out.below (HRD.out.drew.mono hN), HBY.out.below (HRD.out.drew.mono hN)⟩⟩
    · have hge : decide ((k : Int) < (n : Int)) = false := by simp; omega
      go_wp2_with fail
      refine bodyPost_ret (v := .tuple #[.slice none 0 0, .slice none 0 0, .bool false]) (by simp [results, Tryd.results36, go_sem]) rfl ⟨HR.out.1, .inl ⟨rfl, fun j hj => HR.out.2 j (by omega)⟩⟩
end Go.Proofs.YtdlcjhigmdgbcaaDoor
