/-
  What the document's SameProof and SameGap answer: whether two proofs, two gaps are one and the same.
  ProofTells answers true of all pairs, keys, roots, proofs and gaps, given what package proof's functions and the document's answer; it turns nothing that was there.
-/
import Derived.Test.YtjfhhlgblmjonaaDoorProofMem
import Derived.Test.YtjfhhlgblmjonaaDoorSameB
import Derived.Deep.QuietTactic
import Derived.BigQuiet
import Derived.Deep.RegionWith
import Derived.Test.YtjfhhlgblmjonaaDoorProofFace
import Derived.Test.YtjfhhlgblmjonaaDoorBookTree
import Derived.Deep.RegionHeld3
namespace Go.Proofs.YtjfhhlgblmjonaaDoor
open Go.RowKit

theorem drewN_belowE (w : World) (n N : Nat) : Below N w (w.drewN n) := ⟨rfl, rfl, rfl, Nat.le_refl _, fun _ _ => rfl⟩
theorem prf_eq (p q : Prf) : p = q ↔ p.index = q.index ∧ p.size = q.size ∧ p.key = q.key ∧ p.val = q.val ∧ p.path = q.path := by
  cases p
  cases q
  simp
theorem take_next {α : Type} (l m : List α) (k : Nat) (x : α) (hl : l[k]? = some x) (hm : m[k]? = some x) (h : l.take k = m.take k) : l.take (k + 1) = m.take (k + 1) := by
  rw [List.take_add_one, List.take_add_one, h, hl, hm]
set_option maxRecDepth 100000 in
set_option maxHeartbeats 4000000 in
theorem sameProof_any (p q : Prf) (va vb : Value) (N : Nat) (w : World) (hN : N ≤ w.heap.size) (ha : PrfV w N va p) (hb : PrfV w N vb q) (hfp : p.fits) (hfq : q.fits) :
    Calls Tryd.prog 6 #[va, vb] w fun e w' => Below w.heap.size w w' ∧ Tells (p = q) e := by
  obtain ⟨ka, xa, pa, rfl, hka, hva, hpa⟩ := ha
  obtain ⟨kb, xb, pb, rfl, hkb, hvb, hpb⟩ := hb
  obtain ⟨a1, d1, rfl, _⟩ := hka.shape
  obtain ⟨a2, d2, rfl, _⟩ := hva.shape
  obtain ⟨a3, d3, rfl, _⟩ := hpa.shape
  obtain ⟨b1, e1, rfl, _⟩ := hkb.shape
  obtain ⟨b2, e2, rfl, _⟩ := hvb.shape
  obtain ⟨b3, e3, rfl, _⟩ := hpb.shape
  obtain ⟨w1, hw1⟩ : ∃ w1, w.alloc (.cells #[.int .i64 p.index, .int .i64 p.size, .slice a1 p.key.length d1, .slice a2 p.val.length d2, .slice a3 p.path.length d3] 26) = w1 := ⟨_, rfl⟩
  have hsz1 : w1.heap.size = w.heap.size + 1 := by rw [← hw1]; simp
  have hb1 : Below w.heap.size w w1 := by rw [← hw1]; exact (Below.refl _ _).alloc (Nat.le_refl _) _
  have hr1 : Row w1 w.heap.size 26 [.int .i64 p.index, .int .i64 p.size, .slice a1 p.key.length d1, .slice a2 p.val.length d2, .slice a3 p.path.length d3] := by rw [← hw1]; exact Row.new _ _ _
  obtain ⟨w2, hw2⟩ : ∃ w2, w1.alloc (.cells #[.int .i64 q.index, .int .i64 q.size, .slice b1 q.key.length e1, .slice b2 q.val.length e2, .slice b3 q.path.length e3] 26) = w2 := ⟨_, rfl⟩
  have hb2 : Below w1.heap.size w1 w2 := by rw [← hw2]; exact (Below.refl _ _).alloc (Nat.le_refl _) _
  have hr2 : Row w2 w1.heap.size 26 [.int .i64 q.index, .int .i64 q.size, .slice b1 q.key.length e1, .slice b2 q.val.length e2, .slice b3 q.path.length e3] := by rw [← hw2]; exact Row.new _ _ _
  rw [hsz1] at hr2
  have hr12 := hr1.below hb2 (by omega)
  have s0 := hr12.cell 0
  have s1 := hr12.cell 1
  have s2 := hr12.cell 2
  have s3 := hr12.cell 3
  have s4 := hr12.cell 4
  have t0 := hr2.cell 0
  have t1 := hr2.cell 1
  have t2 := hr2.cell 2
  have t3 := hr2.cell 3
  have t4 := hr2.cell 4
  have HB2 := hid (hb1.trans (hb2.mono (by omega)))
  have HK := hid (fun n : Nat => show Calls Tryd.prog 20 #[.slice a1 p.key.length d1, .slice b1 q.key.length e1] (w2.drewN n) (fun e w' => e = .returned (.bool (decide (p.key = q.key))) ∧ ∃ m, w' = w2.drewN m) from
    (sameB_any p.key q.key _ _ N N (w2.drewN n) ((hka.below (HB2.out.mono hN)).below (drewN_belowE _ _ _)) ((hkb.below (HB2.out.mono hN)).below (drewN_belowE _ _ _)) (by have := hfp.1; omega) (by have := hfq.1; omega)).mono fun e w' ⟨h1, n', h2⟩ => ⟨h1, n + n', by rw [h2, World.drewN_drewN]⟩)
  have HV := hid (fun n : Nat => show Calls Tryd.prog 20 #[.slice a2 p.val.length d2, .slice b2 q.val.length e2] (w2.drewN n) (fun e w' => e = .returned (.bool (decide (p.val = q.val))) ∧ ∃ m, w' = w2.drewN m) from
    (sameB_any p.val q.val _ _ N N (w2.drewN n) ((hva.below (HB2.out.mono hN)).below (drewN_belowE _ _ _)) ((hvb.below (HB2.out.mono hN)).below (drewN_belowE _ _ _)) (by have := hfp.2.1; omega) (by have := hfq.2.1; omega)).mono fun e w' ⟨h1, n', h2⟩ => ⟨h1, n + n', by rw [h2, World.drewN_drewN]⟩)
  have HPA := hid (hpa.below (HB2.out.mono hN))
  have HPB := hid (hpb.below (HB2.out.mono hN))
  have HFP := hid hfp.2.2
  have HFQ := hid hfq.2.2
  have HEQ := hid (prf_eq p q)
  clear hka hva hpa hkb hvb hpb hb1 hb2 hr1 hr2 hr12 hfp hfq
  go_enter Tryd.func6, Tryd.ntmps6
  by_cases g1 : p.index = q.index
  · have f1 : (p.index != q.index) = false := by simpa using g1
    have G1 := hid g1
    clear g1
    by_cases g2 : p.size = q.size
    · have f2 : (p.size != q.size) = false := by simpa using g2
      have G2 := hid g2
      clear g2
      by_cases g3 : p.key = q.key
      · rw [decide_eq_true g3] at HK
        have G3 := hid g3
        clear g3
        go_wp2_with fail
        refine (HK.out 0).mono ?_
        rintro e w3 ⟨rfl, n3, rfl⟩
        by_cases g4 : p.val = q.val
        · rw [decide_eq_true g4] at HV
          have G4 := hid g4
          clear g4
          go_wp2_with fail
          refine (HV.out n3).mono ?_
          rintro e w4 ⟨rfl, n4, rfl⟩
          by_cases g5 : q.path.length = p.path.length
          · rw [g5] at t4 HPB
            have G5 := hid g5
            clear g5
            generalize hn : p.path.length = n at *
            have HN := hid hn
            clear hn
            have f5 : ((n : Int) != (n : Int)) = false := by simp
            have hnb : n < 2305843009213693952 := HFP.out.1
            go_wp2_with fail
            go_loopw [46] (fun s46 wr => ∃ k m : Nat, k ≤ n ∧ s46 = .int .i64 (k : Int) ∧ wr = w2.drewN m ∧ Hid (p.path.take k = q.path.take k)) (fun s46 _ => n - (intOf s46).toNat)
            case atStart => exact ⟨0, n4, Nat.zero_le _, rfl, rfl, hid rfl⟩
            case round =>
              obtain ⟨k, m, hk, rfl, rfl, HR⟩ := hrel
              by_cases hlt : k < n
              · have hla : Lists w2 N (.slice a3 p.path.length d3) p.path := by rw [HN.out]; exact HPA.out
                have hlb : Lists w2 N (.slice b3 q.path.length e3) q.path := by rw [G5.out]; exact HPB.out
                obtain ⟨c1, j1, rfl, hc1⟩ := hla.some (by rw [HN.out]; omega)
                obtain ⟨c2, j2, rfl, hc2⟩ := hlb.some (by rw [G5.out]; omega)
                obtain ⟨_, x, hx1, hbx⟩ := hc1 k (by rw [HN.out]; exact hlt)
                obtain ⟨_, y, hy1, hby⟩ := hc2 k (by rw [G5.out]; exact hlt)
                obtain ⟨X, hX⟩ : ∃ X, p.path.getD k [] = X := ⟨_, rfl⟩
                obtain ⟨Y, hY⟩ : ∃ Y, q.path.getD k [] = Y := ⟨_, rfl⟩
                have HXK := hid (show p.path[k]? = some X by rw [← hX]; exact getD_some _ _ _ (by rw [HN.out]; exact hlt))
                have HYK := hid (show q.path[k]? = some Y by rw [← hY]; exact getD_some _ _ _ (by rw [G5.out]; exact hlt))
                rw [hX] at hbx
                rw [hY] at hby
                obtain ⟨o1, c1', rfl, _⟩ := hbx.shape
                obtain ⟨o2, c2', rfl, _⟩ := hby.shape
                have hxl := HFP.out.2 X (List.mem_of_getElem? HXK.out)
                have hyl := HFQ.out.2 Y (List.mem_of_getElem? HYK.out)
                have HS := hid (fun wq : Nat => show Calls Tryd.prog 20 #[.slice o1 X.length c1', .slice o2 Y.length c2'] (w2.drewN (m + wq)) (fun e w' => e = .returned (.bool (decide (X = Y))) ∧ ∃ n, w' = w2.drewN (m + n)) from
                  (sameB_any X Y _ _ N N (w2.drewN (m + wq)) (hbx.below (drewN_belowE _ _ _)) (hby.below (drewN_belowE _ _ _)) (by omega) (by omega)).mono fun e w' ⟨h1, n', h2⟩ => ⟨h1, wq + n', by rw [h2, World.drewN_drewN, Nat.add_assoc]⟩)
                have hlt' : (k : Int) < (n : Int) := by omega
                clear hla hlb hc1 hc2 hbx hby hX hY hxl hyl
                by_cases hxy : X = Y
                · rw [decide_eq_true hxy] at HS
                  have HNX := hid (take_next p.path q.path k X HXK.out (by rw [hxy]; exact HYK.out) HR.out)
                  clear hxy
                  go_wp2_with fail
                  go_quiet (first | (go_at_call_of 20 (Value.slice o1 X.length c1'); exact HS.out _))
                  go_wp2
                  go_roundw
                  case rel => exact ⟨k + 1, m + nq, by omega, by go_num, rfl, HNX⟩
                  case measure => simp [intOf]; omega
                · rw [decide_eq_false hxy] at HS
                  have HNE := hid (show ¬ p = q from fun h => hxy (by have h1 := HXK.out; rw [h, HYK.out] at h1; exact (Option.some.inj h1).symm))
                  clear hxy
                  go_wp2_with fail
                  go_quiet (first | (go_at_call_of 20 (Value.slice o1 X.length c1'); exact HS.out _))
                  go_wp2
                  go_ret
                  exact ⟨HB2.out.trans (by rw [World.drewN_drewN]; exact drewN_belowE _ _ _), Tells.no HNE.out⟩
              · have hge : decide ((k : Int) < (n : Int)) = false := by simp; omega
                have HYES := hid (show p = q from HEQ.out.2 ⟨G1.out, G2.out, G3.out, G4.out, by
                  have := HR.out
                  rwa [List.take_of_length_le (by rw [HN.out]; omega), List.take_of_length_le (by rw [G5.out]; omega)] at this⟩)
                go_wp2
                go_ret
                exact ⟨HB2.out.trans (drewN_belowE _ _ _), _, rfl, fun _ => HYES.out, fun _ => rfl⟩
          · have f5 : ((p.path.length : Int) != (q.path.length : Int)) = true := by simp; omega
            have HNE := hid (show ¬ p = q from fun h => g5 (by rw [h]))
            clear g5
            go_wp2
            go_ret
            exact ⟨HB2.out.trans (drewN_belowE _ _ _), Tells.no HNE.out⟩
        · rw [decide_eq_false g4] at HV
          go_wp2_with fail
          refine (HV.out n3).mono ?_
          rintro e w4 ⟨rfl, n4, rfl⟩
          go_wp2
          go_ret
          exact ⟨HB2.out.trans (drewN_belowE _ _ _), Tells.no (fun h => g4 (by rw [h]))⟩
      · rw [decide_eq_false g3] at HK
        go_wp2_with fail
        refine (HK.out 0).mono ?_
        rintro e w3 ⟨rfl, n3, rfl⟩
        go_wp2
        go_ret
        exact ⟨HB2.out.trans (drewN_belowE _ _ _), Tells.no (fun h => g3 (by rw [h]))⟩
    · have f2 : (p.size != q.size) = true := by simpa using g2
      go_wp2
      go_ret
      exact ⟨HB2.out, Tells.no (fun h => g2 (by rw [h]))⟩
  · have f1 : (p.index != q.index) = true := by simpa using g1
    go_wp2
    go_ret
    exact ⟨HB2.out, Tells.no (fun h => g1 (by rw [h]))⟩
theorem gp_eq (g h : Gp) : g = h ↔ g.hasL = h.hasL ∧ g.hasR = h.hasR ∧ g.left = h.left ∧ g.right = h.right := by
  cases g
  cases h
  simp
set_option maxRecDepth 100000 in
set_option maxHeartbeats 4000000 in
theorem sameGap_any (g h : Gp) (va vb : Value) (N : Nat) (w : World) (hN : N ≤ w.heap.size) (ha : GpV w N va g) (hb : GpV w N vb h) (hfg : g.fits) (hfh : h.fits) :
    Calls Tryd.prog 9 #[va, vb] w fun e w' => Below w.heap.size w w' ∧ Tells (g = h) e := by
  obtain ⟨x1, x2, x3, x4, x5, x6, rfl, hx1, hx2, hx3, hx4, hx5, hx6⟩ := ha
  obtain ⟨y1, y2, y3, y4, y5, y6, rfl, hy1, hy2, hy3, hy4, hy5, hy6⟩ := hb
  obtain ⟨a1, d1, rfl, _⟩ := hx1.shape
  obtain ⟨a2, d2, rfl, _⟩ := hx2.shape
  obtain ⟨a3, d3, rfl, _⟩ := hx3.shape
  obtain ⟨a4, d4, rfl, _⟩ := hx4.shape
  obtain ⟨a5, d5, rfl, _⟩ := hx5.shape
  obtain ⟨a6, d6, rfl, _⟩ := hx6.shape
  obtain ⟨b1, e1, rfl, _⟩ := hy1.shape
  obtain ⟨b2, e2, rfl, _⟩ := hy2.shape
  obtain ⟨b3, e3, rfl, _⟩ := hy3.shape
  obtain ⟨b4, e4, rfl, _⟩ := hy4.shape
  obtain ⟨b5, e5, rfl, _⟩ := hy5.shape
  obtain ⟨b6, e6, rfl, _⟩ := hy6.shape
  obtain ⟨w1, hw1⟩ : ∃ w1, w.alloc (.cells #[.bool g.hasL, .bool g.hasR, .int .i64 g.left.index, .int .i64 g.left.size, .slice a1 g.left.key.length d1, .slice a2 g.left.val.length d2, .slice a3 g.left.path.length d3, .int .i64 g.right.index, .int .i64 g.right.size, .slice a4 g.right.key.length d4, .slice a5 g.right.val.length d5, .slice a6 g.right.path.length d6] 28) = w1 := ⟨_, rfl⟩
  have hsz1 : w1.heap.size = w.heap.size + 1 := by rw [← hw1]; simp
  have hb1 : Below w.heap.size w w1 := by rw [← hw1]; exact (Below.refl _ _).alloc (Nat.le_refl _) _
  have hr1 : Row w1 w.heap.size 28 [.bool g.hasL, .bool g.hasR, .int .i64 g.left.index, .int .i64 g.left.size, .slice a1 g.left.key.length d1, .slice a2 g.left.val.length d2, .slice a3 g.left.path.length d3, .int .i64 g.right.index, .int .i64 g.right.size, .slice a4 g.right.key.length d4, .slice a5 g.right.val.length d5, .slice a6 g.right.path.length d6] := by rw [← hw1]; exact Row.new _ _ _
  obtain ⟨w2, hw2⟩ : ∃ w2, w1.alloc (.cells #[.bool h.hasL, .bool h.hasR, .int .i64 h.left.index, .int .i64 h.left.size, .slice b1 h.left.key.length e1, .slice b2 h.left.val.length e2, .slice b3 h.left.path.length e3, .int .i64 h.right.index, .int .i64 h.right.size, .slice b4 h.right.key.length e4, .slice b5 h.right.val.length e5, .slice b6 h.right.path.length e6] 28) = w2 := ⟨_, rfl⟩
  have hsz2 : w2.heap.size = w1.heap.size + 1 := by rw [← hw2]; simp
  have hb2 : Below w1.heap.size w1 w2 := by rw [← hw2]; exact (Below.refl _ _).alloc (Nat.le_refl _) _
  have hr2 : Row w2 w1.heap.size 28 [.bool h.hasL, .bool h.hasR, .int .i64 h.left.index, .int .i64 h.left.size, .slice b1 h.left.key.length e1, .slice b2 h.left.val.length e2, .slice b3 h.left.path.length e3, .int .i64 h.right.index, .int .i64 h.right.size, .slice b4 h.right.key.length e4, .slice b5 h.right.val.length e5, .slice b6 h.right.path.length e6] := by rw [← hw2]; exact Row.new _ _ _
  rw [hsz1] at hr2
  have hr12 := hr1.below hb2 (by omega)
  have HB2 := hid (hb1.trans (hb2.mono (by omega)))
  have HBW := hid (show ∀ wx, Below w2.heap.size w2 wx → Below w.heap.size w wx from fun wx hx => HB2.out.trans (hx.mono (by omega)))
  have HR1 := hid (show ∀ wx, Below w2.heap.size w2 wx → Row wx w.heap.size 28 [.bool g.hasL, .bool g.hasR, .int .i64 g.left.index, .int .i64 g.left.size, .slice a1 g.left.key.length d1, .slice a2 g.left.val.length d2, .slice a3 g.left.path.length d3, .int .i64 g.right.index, .int .i64 g.right.size, .slice a4 g.right.key.length d4, .slice a5 g.right.val.length d5, .slice a6 g.right.path.length d6] from fun wx hx => hr12.below hx (by omega))
  have HR2 := hid (show ∀ wx, Below w2.heap.size w2 wx → Row wx (w.heap.size + 1) 28 [.bool h.hasL, .bool h.hasR, .int .i64 h.left.index, .int .i64 h.left.size, .slice b1 h.left.key.length e1, .slice b2 h.left.val.length e2, .slice b3 h.left.path.length e3, .int .i64 h.right.index, .int .i64 h.right.size, .slice b4 h.right.key.length e4, .slice b5 h.right.val.length e5, .slice b6 h.right.path.length e6] from fun wx hx => hr2.below hx (by omega))
  have HSL := hid (show ∀ wx, Below w2.heap.size w2 wx → Calls Tryd.prog 6 #[.agg #[.int .i64 g.left.index, .int .i64 g.left.size, .slice a1 g.left.key.length d1, .slice a2 g.left.val.length d2, .slice a3 g.left.path.length d3], .agg #[.int .i64 h.left.index, .int .i64 h.left.size, .slice b1 h.left.key.length e1, .slice b2 h.left.val.length e2, .slice b3 h.left.path.length e3]] wx (fun e w' => Below wx.heap.size wx w' ∧ Tells (g.left = h.left) e) from fun wx hx =>
    have hB := (HBW.out wx hx).mono hN
    sameProof_any g.left h.left _ _ N wx (Nat.le_trans hN (HBW.out wx hx).size) ⟨_, _, _, rfl, hx1.below hB, hx2.below hB, hx3.below hB⟩ ⟨_, _, _, rfl, hy1.below hB, hy2.below hB, hy3.below hB⟩ hfg.1 hfh.1)
  have HSR := hid (show ∀ wx, Below w2.heap.size w2 wx → Calls Tryd.prog 6 #[.agg #[.int .i64 g.right.index, .int .i64 g.right.size, .slice a4 g.right.key.length d4, .slice a5 g.right.val.length d5, .slice a6 g.right.path.length d6], .agg #[.int .i64 h.right.index, .int .i64 h.right.size, .slice b4 h.right.key.length e4, .slice b5 h.right.val.length e5, .slice b6 h.right.path.length e6]] wx (fun e w' => Below wx.heap.size wx w' ∧ Tells (g.right = h.right) e) from fun wx hx =>
    have hB := (HBW.out wx hx).mono hN
    sameProof_any g.right h.right _ _ N wx (Nat.le_trans hN (HBW.out wx hx).size) ⟨_, _, _, rfl, hx4.below hB, hx5.below hB, hx6.below hB⟩ ⟨_, _, _, rfl, hy4.below hB, hy5.below hB, hy6.below hB⟩ hfg.2 hfh.2)
  have HEQ := hid (gp_eq g h)
  have HB22 := hid (Below.refl w2.heap.size w2)
  have s0 := hr12.cell 0
  have s1 := hr12.cell 1
  have s2 := hr12.cell 2
  have s3 := hr12.cell 3
  have s4 := hr12.cell 4
  have s5 := hr12.cell 5
  have s6 := hr12.cell 6
  have s7 := hr12.cell 7
  have s8 := hr12.cell 8
  have s9 := hr12.cell 9
  have s10 := hr12.cell 10
  have s11 := hr12.cell 11
  have t0 := hr2.cell 0
  have t1 := hr2.cell 1
  have t2 := hr2.cell 2
  have t3 := hr2.cell 3
  have t4 := hr2.cell 4
  have t5 := hr2.cell 5
  have t6 := hr2.cell 6
  have t7 := hr2.cell 7
  have t8 := hr2.cell 8
  have t9 := hr2.cell 9
  have t10 := hr2.cell 10
  have t11 := hr2.cell 11
  clear hx1 hx2 hx3 hx4 hx5 hx6 hy1 hy2 hy3 hy4 hy5 hy6 hb1 hb2 hr1 hr2 hr12 hfg hfh
  go_enter Tryd.func9, Tryd.ntmps9
  by_cases g1 : g.hasL = h.hasL
  · have f1 : (g.hasL == h.hasL) = true := by simpa using g1
    have G1 := hid g1
    clear g1
    by_cases g2 : g.hasR = h.hasR
    · have f2 : (g.hasR == h.hasR) = true := by simpa using g2
      have G2 := hid g2
      clear g2
      go_wp2_with fail
      refine (HSL.out w2 HB22.out).mono ?_
      rintro e w3 ⟨hb3, bb, rfl, hbb⟩
      have HB3 := hid hb3
      have HTL := hid hbb
      clear hb3 hbb s0 t0 s1 t1 s2 t2 s3 t3 s4 t4 s5 t5 s6 t6 s7 t7 s8 t8 s9 t9 s10 t10 s11 t11
      cases bb with
      | false =>
        go_wp2
        go_ret
        exact ⟨HBW.out w3 HB3.out, Tells.no (fun h => absurd (HTL.out.2 (HEQ.out.1 h).2.2.1) (by simp))⟩
      | true =>
        have HLL := hid (HTL.out.1 rfl)
        have s7 := (HR1.out w3 HB3.out).cell 7
        have s8 := (HR1.out w3 HB3.out).cell 8
        have s9 := (HR1.out w3 HB3.out).cell 9
        have s10 := (HR1.out w3 HB3.out).cell 10
        have s11 := (HR1.out w3 HB3.out).cell 11
        have t7 := (HR2.out w3 HB3.out).cell 7
        have t8 := (HR2.out w3 HB3.out).cell 8
        have t9 := (HR2.out w3 HB3.out).cell 9
        have t10 := (HR2.out w3 HB3.out).cell 10
        have t11 := (HR2.out w3 HB3.out).cell 11
        go_wp2_with fail
        refine (HSR.out w3 HB3.out).mono ?_
        rintro e w4 ⟨hb4, bb, rfl, hbb⟩
        have HB4 := hid (HB3.out.trans (hb4.mono HB3.out.size))
        have HTR := hid hbb
        clear hb4 hbb
        go_wp2
        go_ret
        refine ⟨HBW.out w4 HB4.out, bb, rfl, HTR.out.trans ⟨fun h => HEQ.out.2 ⟨G1.out, G2.out, HLL.out, h⟩, fun h => (HEQ.out.1 h).2.2.2⟩⟩
    · have f2 : (g.hasR == h.hasR) = false := by simpa using g2
      have HNE := hid (show ¬ g = h from fun h => g2 (by rw [h]))
      clear g2
      go_wp2
      go_ret
      exact ⟨HB2.out, Tells.no HNE.out⟩
  · have f1 : (g.hasL == h.hasL) = false := by simpa using g1
    have HNE := hid (show ¬ g = h from fun h => g1 (by rw [h]))
    clear g1
    go_wp2
    go_ret
    exact ⟨HB2.out, Tells.no HNE.out⟩
end Go.Proofs.YtjfhhlgblmjonaaDoor
namespace Go.Proofs.YtjfhhlgblmjonaaDoor
open Go.RowKit

theorem At.same {k : List (BitVec 8)} {l : List Pr} {i j : Nat} {fd fe : Bool} (h : At k l i fd) (h' : At k l j fe) : i = j ∧ fd = fe := by
  have hij : i = j := by
    rcases Nat.lt_trichotomy i j with hlt | rfl | hgt
    · obtain ⟨p, hp⟩ : ∃ p, l[i]? = some p := ⟨l[i]'(by have := h'.1; omega), List.getElem?_eq_getElem _⟩
      have a := h'.2.1 i p hlt hp
      rw [h.2.2.1 i p (Nat.le_refl _) hp] at a
      cases a
    · rfl
    · obtain ⟨p, hp⟩ : ∃ p, l[j]? = some p := ⟨l[j]'(by have := h.1; omega), List.getElem?_eq_getElem _⟩
      have a := h.2.1 j p hgt hp
      rw [h'.2.2.1 j p (Nat.le_refl _) hp] at a
      cases a
  subst hij
  exact ⟨rfl, Bool.eq_iff_iff.2 (h.2.2.2.trans h'.2.2.2.symm)⟩
theorem showB_same {l : List Pr} {k : List (BitVec 8)} {c d : Int} {p q : Prf} (h : showB l k c p) (h' : showB l k d q) : c = d ∧ p = q := by
  rcases h with ⟨h1, rfl, rfl⟩ | ⟨h1, i, h⟩
  · rcases h' with ⟨_, rfl, rfl⟩ | ⟨g1, _⟩
    · exact ⟨rfl, rfl⟩
    · exact absurd g1 h1
  · rcases h' with ⟨g1, _, _⟩ | ⟨_, j, h'⟩
    · exact absurd h1 g1
    · rcases h with ⟨ha, rfl, rfl⟩ | ⟨ha, rfl, u, hu, rfl⟩
      · rcases h' with ⟨_, rfl, rfl⟩ | ⟨hb, _⟩
        · exact ⟨rfl, rfl⟩
        · exact absurd (ha.same hb).2 (by simp)
      · rcases h' with ⟨hb, _⟩ | ⟨hb, rfl, v, hv, rfl⟩
        · exact absurd (ha.same hb).2 (by simp)
        · obtain ⟨rfl, _⟩ := ha.same hb
          rw [hu] at hv
          obtain rfl := Option.some.inj hv
          exact ⟨rfl, rfl⟩
theorem gapB_same {l : List Pr} {k : List (BitVec 8)} {c d : Int} {p q : Gp} (h : gapB l k c p) (h' : gapB l k d q) : c = d ∧ p = q := by
  rcases h with ⟨h1, rfl, rfl⟩ | ⟨h1, i, h⟩
  · rcases h' with ⟨_, rfl, rfl⟩ | ⟨g1, _⟩
    · exact ⟨rfl, rfl⟩
    · exact absurd g1 h1
  · rcases h' with ⟨g1, _, _⟩ | ⟨_, j, h'⟩
    · exact absurd h1 g1
    · rcases h with ⟨ha, rfl, rfl⟩ | ⟨ha, rfl, rfl⟩
      · rcases h' with ⟨_, rfl, rfl⟩ | ⟨hb, _⟩
        · exact ⟨rfl, rfl⟩
        · exact absurd (ha.same hb).2 (by simp)
      · rcases h' with ⟨hb, _⟩ | ⟨hb, rfl, rfl⟩
        · exact absurd (ha.same hb).2 (by simp)
        · obtain ⟨rfl, _⟩ := ha.same hb
          exact ⟨rfl, rfl⟩
theorem showB_fits {l : List Pr} {k : List (BitVec 8)} {c : Int} {p : Prf} (h : showB l k c p) : p.fits := by
  rcases h with ⟨_, _, rfl⟩ | ⟨h1, i, ⟨_, _, rfl⟩ | ⟨_, _, u, hu, rfl⟩⟩
  · exact prf_none_fits
  · exact prf_none_fits
  · obtain ⟨_, hf, hn⟩ := wrongL_sorted l h1
    exact proofAt_fits l i u hu hf hn
theorem gapB_fits {l : List Pr} {k : List (BitVec 8)} {c : Int} {g : Gp} (h : gapB l k c g) : g.fits := by
  rcases h with ⟨_, _, rfl⟩ | ⟨h1, i, ⟨_, _, rfl⟩ | ⟨_, _, rfl⟩⟩
  · exact ⟨prf_none_fits, prf_none_fits⟩
  · exact ⟨prf_none_fits, prf_none_fits⟩
  · obtain ⟨_, hf, hn⟩ := wrongL_sorted l h1
    unfold gapAt Gp.fits
    constructor
    · simp only
      split
      · split
        · rename_i p hp
          exact proofAt_fits l _ p hp hf hn
        · exact prf_none_fits
      · exact prf_none_fits
    · simp only
      split
      · rename_i p hp
        exact proofAt_fits l _ p hp hf hn
      · exact prf_none_fits
set_option maxRecDepth 100000 in
set_option maxHeartbeats 4000000 in
theorem proofTells_any (HWC : ShowC 4) (HVC : ShowC 5) (HPC : ShowGapC 7) (HQC : ShowGapC 8) (HSC : ShownC 10) (HTC : ShownC 11) (HNC : AbsentC 12) (HMC : AbsentC 13)
    (l : List Pr) (k r : List (BitVec 8)) (p : Prf) (g : Gp) (sv kv rv pv gv : Value) (N : Nat) (w : World) (hK : tableAt w) (hN : N ≤ w.heap.size) (hl : Pairs w N sv l) (hk : Bytes w N kv k) (hr : Bytes w N rv r) (hp : PrfV w N pv p) (hg : GpV w N gv g)
    (hlen : l.length < 2305843009213693952) (hfl : ∀ p ∈ l, p.fits) (hkl : k.length ≤ 140737488351232) (hrl : r.length ≤ 140737488351232) (hfp : p.fits) (hfg : g.fits) :
    Calls Tryd.prog 3 #[sv, kv, rv, pv, gv] w fun e w' => e = .returned (.bool true) ∧ Below w.heap.size w w' := by
  obtain ⟨oa, ca, rfl, hca⟩ := hl.shape
  obtain ⟨ob, cb, rfl, hcb⟩ := hk.shape
  obtain ⟨oc, cc, rfl, hcc⟩ := hr.shape
  have HPV := hid hp
  have HGV := hid hg
  obtain ⟨m1, m2, m3, rfl, hm1, hm2, hm3⟩ := hp
  obtain ⟨px1, py1, rfl, _⟩ := hm1.shape
  obtain ⟨px2, py2, rfl, _⟩ := hm2.shape
  obtain ⟨px3, py3, rfl, _⟩ := hm3.shape
  obtain ⟨n1, n2, n3, n4, n5, n6, rfl, hn1, hn2, hn3, hn4, hn5, hn6⟩ := hg
  obtain ⟨gx1, gy1, rfl, _⟩ := hn1.shape
  obtain ⟨gx2, gy2, rfl, _⟩ := hn2.shape
  obtain ⟨gx3, gy3, rfl, _⟩ := hn3.shape
  obtain ⟨gx4, gy4, rfl, _⟩ := hn4.shape
  obtain ⟨gx5, gy5, rfl, _⟩ := hn5.shape
  obtain ⟨gx6, gy6, rfl, _⟩ := hn6.shape
  obtain ⟨w1, hw1⟩ : ∃ w1, w.alloc (.cells #[.int .i64 p.index, .int .i64 p.size, .slice px1 p.key.length py1, .slice px2 p.val.length py2, .slice px3 p.path.length py3] 26) = w1 := ⟨_, rfl⟩
  have hsz1 : w1.heap.size = w.heap.size + 1 := by rw [← hw1]; simp
  have hb1 : Below w.heap.size w w1 := by rw [← hw1]; exact (Below.refl _ _).alloc (Nat.le_refl _) _
  have hr1 : Row w1 w.heap.size 26 [.int .i64 p.index, .int .i64 p.size, .slice px1 p.key.length py1, .slice px2 p.val.length py2, .slice px3 p.path.length py3] := by rw [← hw1]; exact Row.new _ _ _
  obtain ⟨w2, hw2⟩ : ∃ w2, w1.alloc (.cells #[.bool g.hasL, .bool g.hasR, .int .i64 g.left.index, .int .i64 g.left.size, .slice gx1 g.left.key.length gy1, .slice gx2 g.left.val.length gy2, .slice gx3 g.left.path.length gy3, .int .i64 g.right.index, .int .i64 g.right.size, .slice gx4 g.right.key.length gy4, .slice gx5 g.right.val.length gy5, .slice gx6 g.right.path.length gy6] 28) = w2 := ⟨_, rfl⟩
  have hsz2 : w2.heap.size = w.heap.size + 2 := by rw [← hw2]; simp [hsz1]
  have hb2 : Below w1.heap.size w1 w2 := by rw [← hw2]; exact (Below.refl _ _).alloc (Nat.le_refl _) _
  have hr2 : Row w2 (w.heap.size + 1) 28 [.bool g.hasL, .bool g.hasR, .int .i64 g.left.index, .int .i64 g.left.size, .slice gx1 g.left.key.length gy1, .slice gx2 g.left.val.length gy2, .slice gx3 g.left.path.length gy3, .int .i64 g.right.index, .int .i64 g.right.size, .slice gx4 g.right.key.length gy4, .slice gx5 g.right.val.length gy5, .slice gx6 g.right.path.length gy6] := by rw [← hw2, ← hsz1]; exact Row.new _ _ _
  have hr12 := hr1.below hb2 (by omega)
  have HB2 := hid (hb1.trans (hb2.mono (by omega)))
  have HBX := hid (show ∀ wx, Below w2.heap.size w2 wx → Below w.heap.size w wx from fun wx hx => HB2.out.trans (hx.mono (by omega)))
  have HPX := hid (show ∀ wx, Below w2.heap.size w2 wx → Row wx w.heap.size 26 [.int .i64 p.index, .int .i64 p.size, .slice px1 p.key.length py1, .slice px2 p.val.length py2, .slice px3 p.path.length py3] from fun wx hx => hr12.below hx (by omega))
  have HGX := hid (show ∀ wx, Below w2.heap.size w2 wx → Row wx (w.heap.size + 1) 28 [.bool g.hasL, .bool g.hasR, .int .i64 g.left.index, .int .i64 g.left.size, .slice gx1 g.left.key.length gy1, .slice gx2 g.left.val.length gy2, .slice gx3 g.left.path.length gy3, .int .i64 g.right.index, .int .i64 g.right.size, .slice gx4 g.right.key.length gy4, .slice gx5 g.right.val.length gy5, .slice gx6 g.right.path.length gy6] from fun wx hx => hr2.below hx (by omega))
  have HWX := hid (show ∀ wx, Below w2.heap.size w2 wx → _ from fun wx hx => HWC l k _ _ N wx (hK.past (HBX.out wx hx)) (Nat.le_trans hN (HBX.out wx hx).size) (hl.below ((HBX.out wx hx).mono hN)) (hk.below ((HBX.out wx hx).mono hN)) hlen hfl hkl)
  have HVX := hid (show ∀ wx, Below w2.heap.size w2 wx → _ from fun wx hx => HVC l k _ _ N wx (hK.past (HBX.out wx hx)) (Nat.le_trans hN (HBX.out wx hx).size) (hl.below ((HBX.out wx hx).mono hN)) (hk.below ((HBX.out wx hx).mono hN)) hlen hfl hkl)
  have HQX := hid (show ∀ wx, Below w2.heap.size w2 wx → _ from fun wx hx => HPC l k _ _ N wx (hK.past (HBX.out wx hx)) (Nat.le_trans hN (HBX.out wx hx).size) (hl.below ((HBX.out wx hx).mono hN)) (hk.below ((HBX.out wx hx).mono hN)) hlen hfl hkl)
  have HQY := hid (show ∀ wx, Below w2.heap.size w2 wx → _ from fun wx hx => HQC l k _ _ N wx (hK.past (HBX.out wx hx)) (Nat.le_trans hN (HBX.out wx hx).size) (hl.below ((HBX.out wx hx).mono hN)) (hk.below ((HBX.out wx hx).mono hN)) hlen hfl hkl)
  have HSX := hid (show ∀ wx, Below w2.heap.size w2 wx → _ from fun wx hx => HSC r p _ _ N wx (hK.past (HBX.out wx hx)) (Nat.le_trans hN (HBX.out wx hx).size) (hr.below ((HBX.out wx hx).mono hN)) (HPV.out.below ((HBX.out wx hx).mono hN)) hfp hrl)
  have HSY := hid (show ∀ wx, Below w2.heap.size w2 wx → _ from fun wx hx => HTC r p _ _ N wx (hK.past (HBX.out wx hx)) (Nat.le_trans hN (HBX.out wx hx).size) (hr.below ((HBX.out wx hx).mono hN)) (HPV.out.below ((HBX.out wx hx).mono hN)) hfp hrl)
  have HNX := hid (show ∀ wx, Below w2.heap.size w2 wx → _ from fun wx hx => HNC r k g _ _ _ N wx (hK.past (HBX.out wx hx)) (Nat.le_trans hN (HBX.out wx hx).size) (hr.below ((HBX.out wx hx).mono hN)) (hk.below ((HBX.out wx hx).mono hN)) (HGV.out.below ((HBX.out wx hx).mono hN)) hfg hrl hkl)
  have HNY := hid (show ∀ wx, Below w2.heap.size w2 wx → _ from fun wx hx => HMC r k g _ _ _ N wx (hK.past (HBX.out wx hx)) (Nat.le_trans hN (HBX.out wx hx).size) (hr.below ((HBX.out wx hx).mono hN)) (hk.below ((HBX.out wx hx).mono hN)) (HGV.out.below ((HBX.out wx hx).mono hN)) hfg hrl hkl)
  have HB22 := hid (Below.refl w2.heap.size w2)
  clear hK hl hk hr hm1 hm2 hm3 hn1 hn2 hn3 hn4 hn5 hn6 hb1 hr1 hb2 hr2 hr12 hfl HWC HVC HPC HQC HSC HTC HNC HMC hfp hfg
  go_enter Tryd.func3, Tryd.ntmps3
  go_wp2_with fail
  refine (HWX.out w2 HB22.out).mono ?_
  rintro e w3 ⟨hb3, x1, x2, x3, c, pa, rfl, hx1, hx2, hx3, hsb⟩
  obtain ⟨ax1, ay1, rfl, _⟩ := hx1.shape
  obtain ⟨ax2, ay2, rfl, _⟩ := hx2.shape
  obtain ⟨ax3, ay3, rfl, _⟩ := hx3.shape
  have HSA := hid hsb
  obtain ⟨w4, hw4⟩ : ∃ w4, w3.alloc (.cells #[.int .i64 pa.index, .int .i64 pa.size, .slice ax1 pa.key.length ay1, .slice ax2 pa.val.length ay2, .slice ax3 pa.path.length ay3] 26) = w4 := ⟨_, rfl⟩
  have hb4 : Below w3.heap.size w3 w4 := by rw [← hw4]; exact (Below.refl _ _).alloc (Nat.le_refl _) _
  have hsz4 : w4.heap.size = w3.heap.size + 1 := by rw [← hw4]; simp
  have hsz3 := hb3.size
  have HR4 := hid (show Row w4 w3.heap.size 26 [.int .i64 pa.index, .int .i64 pa.size, .slice ax1 pa.key.length ay1, .slice ax2 pa.val.length ay2, .slice ax3 pa.path.length ay3] by rw [← hw4]; exact Row.new _ _ _)
  have HB4 := hid (hb3.trans (hb4.mono hsz3))
  have HV4 := hid (show PrfV w4 w3.heap.size (.agg #[.int .i64 pa.index, .int .i64 pa.size, .slice ax1 pa.key.length ay1, .slice ax2 pa.val.length ay2, .slice ax3 pa.path.length ay3]) pa from ⟨_, _, _, rfl, hx1.below hb4, hx2.below hb4, hx3.below hb4⟩)
  clear hb3 hx1 hx2 hx3 hsb hb4 hw1 hw2
  go_wp2_with fail
  refine (HVX.out w4 HB4.out).mono ?_
  rintro e w5 ⟨hb5, y1, y2, y3, d, pb, rfl, hy1, hy2, hy3, hsb⟩
  obtain ⟨rfl, rfl⟩ := showB_same HSA.out hsb
  obtain ⟨bx1, by1, rfl, _⟩ := hy1.shape
  obtain ⟨bx2, by2, rfl, _⟩ := hy2.shape
  obtain ⟨bx3, by3, rfl, _⟩ := hy3.shape
  obtain ⟨w6, hw6⟩ : ∃ w6, w5.alloc (.cells #[.int .i64 pa.index, .int .i64 pa.size, .slice bx1 pa.key.length by1, .slice bx2 pa.val.length by2, .slice bx3 pa.path.length by3] 26) = w6 := ⟨_, rfl⟩
  have hb6 : Below w5.heap.size w5 w6 := by rw [← hw6]; exact (Below.refl _ _).alloc (Nat.le_refl _) _
  have hsz6 : w6.heap.size = w5.heap.size + 1 := by rw [← hw6]; simp
  have hsz5 := hb5.size
  have HR6 := hid (show Row w6 w5.heap.size 26 [.int .i64 pa.index, .int .i64 pa.size, .slice bx1 pa.key.length by1, .slice bx2 pa.val.length by2, .slice bx3 pa.path.length by3] by rw [← hw6]; exact Row.new _ _ _)
  have hb46 : Below w4.heap.size w4 w6 := hb5.trans (hb6.mono hsz5)
  have HB6 := hid (HB4.out.trans (hb46.mono (by omega)))
  have HR46 := hid (HR4.out.below hb46 (by omega))
  have HSP := hid (sameProof_any pa pa _ _ w6.heap.size w6 (Nat.le_refl _) ((HV4.out.below (hb46.mono (by omega))).mono (by omega)) (show PrfV w6 w6.heap.size (.agg #[.int .i64 pa.index, .int .i64 pa.size, .slice bx1 pa.key.length by1, .slice bx2 pa.val.length by2, .slice bx3 pa.path.length by3]) pa from ⟨_, _, _, rfl, (hy1.below hb6).mono (by omega), (hy2.below hb6).mono (by omega), (hy3.below hb6).mono (by omega)⟩) (showB_fits hsb) (showB_fits hsb))
  have f1 : (c != c) = false := by simp
  have s0 := HR46.out.cell 0
  have s1 := HR46.out.cell 1
  have s2 := HR46.out.cell 2
  have s3 := HR46.out.cell 3
  have s4 := HR46.out.cell 4
  have t0 := HR6.out.cell 0
  have t1 := HR6.out.cell 1
  have t2 := HR6.out.cell 2
  have t3 := HR6.out.cell 3
  have t4 := HR6.out.cell 4
  clear hb5 hb6 hb46 hy1 hy2 hy3 hsb HV4 HSA hw4 HR4
  go_wp2_with fail
  refine HSP.out.mono ?_
  rintro e w7 ⟨hb7, bb, rfl, hbb⟩
  obtain rfl : bb = true := hbb.2 (by trivial)
  have HB7 := hid (HB6.out.trans (hb7.mono HB6.out.size))
  clear hb7 hbb HSP s0 s1 s2 s3 s4 t0 t1 t2 t3 t4 HR46 HR6 hw6 f1 hsz4 hsz3 hsz6 hsz5
  go_wp2_with fail
  refine (HQX.out w7 HB7.out).mono ?_
  rintro e w8 ⟨hb8, v8, c2, gc, rfl, ⟨x1, x2, x3, x4, x5, x6, rfl, hx1, hx2, hx3, hx4, hx5, hx6⟩, hgb⟩
  obtain ⟨cx1, cy1, rfl, _⟩ := hx1.shape
  obtain ⟨cx2, cy2, rfl, _⟩ := hx2.shape
  obtain ⟨cx3, cy3, rfl, _⟩ := hx3.shape
  obtain ⟨cx4, cy4, rfl, _⟩ := hx4.shape
  obtain ⟨cx5, cy5, rfl, _⟩ := hx5.shape
  obtain ⟨cx6, cy6, rfl, _⟩ := hx6.shape
  have HSA := hid hgb
  obtain ⟨w9, hw9⟩ : ∃ w9, w8.alloc (.cells #[.bool gc.hasL, .bool gc.hasR, .int .i64 gc.left.index, .int .i64 gc.left.size, .slice cx1 gc.left.key.length cy1, .slice cx2 gc.left.val.length cy2, .slice cx3 gc.left.path.length cy3, .int .i64 gc.right.index, .int .i64 gc.right.size, .slice cx4 gc.right.key.length cy4, .slice cx5 gc.right.val.length cy5, .slice cx6 gc.right.path.length cy6] 28) = w9 := ⟨_, rfl⟩
  have hb9 : Below w8.heap.size w8 w9 := by rw [← hw9]; exact (Below.refl _ _).alloc (Nat.le_refl _) _
  have hsz9 : w9.heap.size = w8.heap.size + 1 := by rw [← hw9]; simp
  have hsz8 := hb8.size
  have HR9 := hid (show Row w9 w8.heap.size 28 [.bool gc.hasL, .bool gc.hasR, .int .i64 gc.left.index, .int .i64 gc.left.size, .slice cx1 gc.left.key.length cy1, .slice cx2 gc.left.val.length cy2, .slice cx3 gc.left.path.length cy3, .int .i64 gc.right.index, .int .i64 gc.right.size, .slice cx4 gc.right.key.length cy4, .slice cx5 gc.right.val.length cy5, .slice cx6 gc.right.path.length cy6] by rw [← hw9]; exact Row.new _ _ _)
  have HB9 := hid (HB7.out.trans ((hb8.trans (hb9.mono hsz8)).mono HB7.out.size))
  have HV9 := hid (show GpV w9 w8.heap.size (.agg #[.bool gc.hasL, .bool gc.hasR, .int .i64 gc.left.index, .int .i64 gc.left.size, .slice cx1 gc.left.key.length cy1, .slice cx2 gc.left.val.length cy2, .slice cx3 gc.left.path.length cy3, .int .i64 gc.right.index, .int .i64 gc.right.size, .slice cx4 gc.right.key.length cy4, .slice cx5 gc.right.val.length cy5, .slice cx6 gc.right.path.length cy6]) gc from ⟨_, _, _, _, _, _, rfl, hx1.below hb9, hx2.below hb9, hx3.below hb9, hx4.below hb9, hx5.below hb9, hx6.below hb9⟩)
  clear hb8 hx1 hx2 hx3 hx4 hx5 hx6 hgb hb9
  go_wp2_with fail
  refine (HQY.out w9 HB9.out).mono ?_
  rintro e w10 ⟨hb10, v10, d2, gd, rfl, ⟨y1, y2, y3, y4, y5, y6, rfl, hy1, hy2, hy3, hy4, hy5, hy6⟩, hgb⟩
  obtain ⟨rfl, rfl⟩ := gapB_same HSA.out hgb
  obtain ⟨dx1, dy1, rfl, _⟩ := hy1.shape
  obtain ⟨dx2, dy2, rfl, _⟩ := hy2.shape
  obtain ⟨dx3, dy3, rfl, _⟩ := hy3.shape
  obtain ⟨dx4, dy4, rfl, _⟩ := hy4.shape
  obtain ⟨dx5, dy5, rfl, _⟩ := hy5.shape
  obtain ⟨dx6, dy6, rfl, _⟩ := hy6.shape
  obtain ⟨wf, hwf⟩ : ∃ wf, w10.alloc (.cells #[.bool gc.hasL, .bool gc.hasR, .int .i64 gc.left.index, .int .i64 gc.left.size, .slice dx1 gc.left.key.length dy1, .slice dx2 gc.left.val.length dy2, .slice dx3 gc.left.path.length dy3, .int .i64 gc.right.index, .int .i64 gc.right.size, .slice dx4 gc.right.key.length dy4, .slice dx5 gc.right.val.length dy5, .slice dx6 gc.right.path.length dy6] 28) = wf := ⟨_, rfl⟩
  have hbf : Below w10.heap.size w10 wf := by rw [← hwf]; exact (Below.refl _ _).alloc (Nat.le_refl _) _
  have hszf : wf.heap.size = w10.heap.size + 1 := by rw [← hwf]; simp
  have hsz10 := hb10.size
  have hb9f : Below w9.heap.size w9 wf := hb10.trans (hbf.mono hsz10)
  have HBF := hid (HB9.out.trans (hb9f.mono HB9.out.size))
  have HRF := hid (show Row wf w10.heap.size 28 [.bool gc.hasL, .bool gc.hasR, .int .i64 gc.left.index, .int .i64 gc.left.size, .slice dx1 gc.left.key.length dy1, .slice dx2 gc.left.val.length dy2, .slice dx3 gc.left.path.length dy3, .int .i64 gc.right.index, .int .i64 gc.right.size, .slice dx4 gc.right.key.length dy4, .slice dx5 gc.right.val.length dy5, .slice dx6 gc.right.path.length dy6] by rw [← hwf]; exact Row.new _ _ _)
  have HR9F := hid (HR9.out.below hb9f (by omega))
  have HVC := hid ((HV9.out.below (hb9f.mono (by omega))).mono (show w8.heap.size ≤ wf.heap.size by omega))
  have HVD := hid (show GpV wf wf.heap.size (.agg #[.bool gc.hasL, .bool gc.hasR, .int .i64 gc.left.index, .int .i64 gc.left.size, .slice dx1 gc.left.key.length dy1, .slice dx2 gc.left.val.length dy2, .slice dx3 gc.left.path.length dy3, .int .i64 gc.right.index, .int .i64 gc.right.size, .slice dx4 gc.right.key.length dy4, .slice dx5 gc.right.val.length dy5, .slice dx6 gc.right.path.length dy6]) gc from ⟨_, _, _, _, _, _, rfl, (hy1.below hbf).mono (by omega), (hy2.below hbf).mono (by omega), (hy3.below hbf).mono (by omega), (hy4.below hbf).mono (by omega), (hy5.below hbf).mono (by omega), (hy6.below hbf).mono (by omega)⟩)
  have HGF := hid (gapB_fits hgb)
  have HBFD := hid (show Below wf.heap.size wf wf.drew from (Below.refl _ _).drew)
  have HSG := hid (sameGap_any gc gc _ _ wf.heap.size wf.drew (Nat.le_refl _) (HVC.out.below HBFD.out) (HVD.out.below HBFD.out) HGF.out HGF.out)
  have f1 : (c2 == c2) = true := by simp
  have HSS := hid (show ∀ wx, Below wf.heap.size wf wx → (wx.cell? ⟨w.heap.size, 0, none⟩ = some (.int .i64 p.index) ∧ wx.cell? ⟨w.heap.size, 1, none⟩ = some (.int .i64 p.size) ∧ wx.cell? ⟨w.heap.size, 2, none⟩ = some (.slice px1 p.key.length py1) ∧ wx.cell? ⟨w.heap.size, 3, none⟩ = some (.slice px2 p.val.length py2) ∧ wx.cell? ⟨w.heap.size, 4, none⟩ = some (.slice px3 p.path.length py3)) ∧ (wx.cell? ⟨w.heap.size + 1, 0, none⟩ = some (.bool g.hasL) ∧ wx.cell? ⟨w.heap.size + 1, 1, none⟩ = some (.bool g.hasR) ∧ wx.cell? ⟨w.heap.size + 1, 2, none⟩ = some (.int .i64 g.left.index) ∧ wx.cell? ⟨w.heap.size + 1, 3, none⟩ = some (.int .i64 g.left.size) ∧ wx.cell? ⟨w.heap.size + 1, 4, none⟩ = some (.slice gx1 g.left.key.length gy1) ∧ wx.cell? ⟨w.heap.size + 1, 5, none⟩ = some (.slice gx2 g.left.val.length gy2) ∧ wx.cell? ⟨w.heap.size + 1, 6, none⟩ = some (.slice gx3 g.left.path.length gy3) ∧ wx.cell? ⟨w.heap.size + 1, 7, none⟩ = some (.int .i64 g.right.index) ∧ wx.cell? ⟨w.heap.size + 1, 8, none⟩ = some (.int .i64 g.right.size) ∧ wx.cell? ⟨w.heap.size + 1, 9, none⟩ = some (.slice gx4 g.right.key.length gy4) ∧ wx.cell? ⟨w.heap.size + 1, 10, none⟩ = some (.slice gx5 g.right.val.length gy5) ∧ wx.cell? ⟨w.heap.size + 1, 11, none⟩ = some (.slice gx6 g.right.path.length gy6)) ∧ (wx.cell? ⟨w8.heap.size, 0, none⟩ = some (.bool gc.hasL) ∧ wx.cell? ⟨w8.heap.size, 1, none⟩ = some (.bool gc.hasR) ∧ wx.cell? ⟨w8.heap.size, 2, none⟩ = some (.int .i64 gc.left.index) ∧ wx.cell? ⟨w8.heap.size, 3, none⟩ = some (.int .i64 gc.left.size) ∧ wx.cell? ⟨w8.heap.size, 4, none⟩ = some (.slice cx1 gc.left.key.length cy1) ∧ wx.cell? ⟨w8.heap.size, 5, none⟩ = some (.slice cx2 gc.left.val.length cy2) ∧ wx.cell? ⟨w8.heap.size, 6, none⟩ = some (.slice cx3 gc.left.path.length cy3) ∧ wx.cell? ⟨w8.heap.size, 7, none⟩ = some (.int .i64 gc.right.index) ∧ wx.cell? ⟨w8.heap.size, 8, none⟩ = some (.int .i64 gc.right.size) ∧ wx.cell? ⟨w8.heap.size, 9, none⟩ = some (.slice cx4 gc.right.key.length cy4) ∧ wx.cell? ⟨w8.heap.size, 10, none⟩ = some (.slice cx5 gc.right.val.length cy5) ∧ wx.cell? ⟨w8.heap.size, 11, none⟩ = some (.slice cx6 gc.right.path.length cy6)) ∧ (wx.cell? ⟨w10.heap.size, 0, none⟩ = some (.bool gc.hasL) ∧ wx.cell? ⟨w10.heap.size, 1, none⟩ = some (.bool gc.hasR) ∧ wx.cell? ⟨w10.heap.size, 2, none⟩ = some (.int .i64 gc.left.index) ∧ wx.cell? ⟨w10.heap.size, 3, none⟩ = some (.int .i64 gc.left.size) ∧ wx.cell? ⟨w10.heap.size, 4, none⟩ = some (.slice dx1 gc.left.key.length dy1) ∧ wx.cell? ⟨w10.heap.size, 5, none⟩ = some (.slice dx2 gc.left.val.length dy2) ∧ wx.cell? ⟨w10.heap.size, 6, none⟩ = some (.slice dx3 gc.left.path.length dy3) ∧ wx.cell? ⟨w10.heap.size, 7, none⟩ = some (.int .i64 gc.right.index) ∧ wx.cell? ⟨w10.heap.size, 8, none⟩ = some (.int .i64 gc.right.size) ∧ wx.cell? ⟨w10.heap.size, 9, none⟩ = some (.slice dx4 gc.right.key.length dy4) ∧ wx.cell? ⟨w10.heap.size, 10, none⟩ = some (.slice dx5 gc.right.val.length dy5) ∧ wx.cell? ⟨w10.heap.size, 11, none⟩ = some (.slice dx6 gc.right.path.length dy6)) from fun wx hx => by
    have h1 := HPX.out wx (HBF.out.trans (hx.mono HBF.out.size))
    have h2 := HGX.out wx (HBF.out.trans (hx.mono HBF.out.size))
    have h3 := HR9F.out.below hx (by omega)
    have h4 := HRF.out.below hx (by omega)
    exact ⟨⟨h1.cell 0, h1.cell 1, h1.cell 2, h1.cell 3, h1.cell 4⟩, ⟨h2.cell 0, h2.cell 1, h2.cell 2, h2.cell 3, h2.cell 4, h2.cell 5, h2.cell 6, h2.cell 7, h2.cell 8, h2.cell 9, h2.cell 10, h2.cell 11⟩, ⟨h3.cell 0, h3.cell 1, h3.cell 2, h3.cell 3, h3.cell 4, h3.cell 5, h3.cell 6, h3.cell 7, h3.cell 8, h3.cell 9, h3.cell 10, h3.cell 11⟩, ⟨h4.cell 0, h4.cell 1, h4.cell 2, h4.cell 3, h4.cell 4, h4.cell 5, h4.cell 6, h4.cell 7, h4.cell 8, h4.cell 9, h4.cell 10, h4.cell 11⟩⟩)
  have HBFX := hid (show ∀ wx, Below wf.heap.size wf wx → Below w2.heap.size w2 wx from fun wx hx => HBF.out.trans (hx.mono HBF.out.size))
  have HS0 := hid (HSS.out _ HBFD.out)
  clear hb10 hbf hb9f hy1 hy2 hy3 hy4 hy5 hy6 hgb HV9 HSA hw9 HR9 hsz9 hsz8 hsz10 hszf HVC HVD HGF
  go_wp2_with fail
  go_region_held3 (fun W => (W.cell? ⟨w.heap.size, 0, none⟩ = some (.int .i64 p.index) ∧ W.cell? ⟨w.heap.size, 1, none⟩ = some (.int .i64 p.size) ∧ W.cell? ⟨w.heap.size, 2, none⟩ = some (.slice px1 p.key.length py1) ∧ W.cell? ⟨w.heap.size, 3, none⟩ = some (.slice px2 p.val.length py2) ∧ W.cell? ⟨w.heap.size, 4, none⟩ = some (.slice px3 p.path.length py3)) ∧ (W.cell? ⟨w.heap.size + 1, 0, none⟩ = some (.bool g.hasL) ∧ W.cell? ⟨w.heap.size + 1, 1, none⟩ = some (.bool g.hasR) ∧ W.cell? ⟨w.heap.size + 1, 2, none⟩ = some (.int .i64 g.left.index) ∧ W.cell? ⟨w.heap.size + 1, 3, none⟩ = some (.int .i64 g.left.size) ∧ W.cell? ⟨w.heap.size + 1, 4, none⟩ = some (.slice gx1 g.left.key.length gy1) ∧ W.cell? ⟨w.heap.size + 1, 5, none⟩ = some (.slice gx2 g.left.val.length gy2) ∧ W.cell? ⟨w.heap.size + 1, 6, none⟩ = some (.slice gx3 g.left.path.length gy3) ∧ W.cell? ⟨w.heap.size + 1, 7, none⟩ = some (.int .i64 g.right.index) ∧ W.cell? ⟨w.heap.size + 1, 8, none⟩ = some (.int .i64 g.right.size) ∧ W.cell? ⟨w.heap.size + 1, 9, none⟩ = some (.slice gx4 g.right.key.length gy4) ∧ W.cell? ⟨w.heap.size + 1, 10, none⟩ = some (.slice gx5 g.right.val.length gy5) ∧ W.cell? ⟨w.heap.size + 1, 11, none⟩ = some (.slice gx6 g.right.path.length gy6)) ∧ (W.cell? ⟨w8.heap.size, 0, none⟩ = some (.bool gc.hasL) ∧ W.cell? ⟨w8.heap.size, 1, none⟩ = some (.bool gc.hasR) ∧ W.cell? ⟨w8.heap.size, 2, none⟩ = some (.int .i64 gc.left.index) ∧ W.cell? ⟨w8.heap.size, 3, none⟩ = some (.int .i64 gc.left.size) ∧ W.cell? ⟨w8.heap.size, 4, none⟩ = some (.slice cx1 gc.left.key.length cy1) ∧ W.cell? ⟨w8.heap.size, 5, none⟩ = some (.slice cx2 gc.left.val.length cy2) ∧ W.cell? ⟨w8.heap.size, 6, none⟩ = some (.slice cx3 gc.left.path.length cy3) ∧ W.cell? ⟨w8.heap.size, 7, none⟩ = some (.int .i64 gc.right.index) ∧ W.cell? ⟨w8.heap.size, 8, none⟩ = some (.int .i64 gc.right.size) ∧ W.cell? ⟨w8.heap.size, 9, none⟩ = some (.slice cx4 gc.right.key.length cy4) ∧ W.cell? ⟨w8.heap.size, 10, none⟩ = some (.slice cx5 gc.right.val.length cy5) ∧ W.cell? ⟨w8.heap.size, 11, none⟩ = some (.slice cx6 gc.right.path.length cy6)) ∧ (W.cell? ⟨w10.heap.size, 0, none⟩ = some (.bool gc.hasL) ∧ W.cell? ⟨w10.heap.size, 1, none⟩ = some (.bool gc.hasR) ∧ W.cell? ⟨w10.heap.size, 2, none⟩ = some (.int .i64 gc.left.index) ∧ W.cell? ⟨w10.heap.size, 3, none⟩ = some (.int .i64 gc.left.size) ∧ W.cell? ⟨w10.heap.size, 4, none⟩ = some (.slice dx1 gc.left.key.length dy1) ∧ W.cell? ⟨w10.heap.size, 5, none⟩ = some (.slice dx2 gc.left.val.length dy2) ∧ W.cell? ⟨w10.heap.size, 6, none⟩ = some (.slice dx3 gc.left.path.length dy3) ∧ W.cell? ⟨w10.heap.size, 7, none⟩ = some (.int .i64 gc.right.index) ∧ W.cell? ⟨w10.heap.size, 8, none⟩ = some (.int .i64 gc.right.size) ∧ W.cell? ⟨w10.heap.size, 9, none⟩ = some (.slice dx4 gc.right.key.length dy4) ∧ W.cell? ⟨w10.heap.size, 10, none⟩ = some (.slice dx5 gc.right.val.length dy5) ∧ W.cell? ⟨w10.heap.size, 11, none⟩ = some (.slice dx6 gc.right.path.length dy6))) (first | (refine Hid.out ?_; assumption)) (first
    | (go_at_call 9; refine HSG.out.mono ?_; rintro e wa ⟨hba, bb, rfl, hbb⟩; obtain rfl : bb = true := hbb.2 (by trivial); have HBA := hid (HBFD.out.trans hba); have HSA := hid (HSS.out wa HBA.out); clear hba hbb)
    | (go_at_call 10; refine (HSX.out wa (HBFX.out _ HBA.out)).mono ?_; rintro e wb ⟨hbb, b1, rfl, hb1⟩; have HBB := hid (HBA.out.trans (hbb.mono HBA.out.size)); have HT1 := hid hb1; have HSB := hid (HSS.out wb HBB.out); clear hbb hb1)
    | (go_at_call 11; refine (HSY.out wb (HBFX.out _ HBB.out)).mono ?_; rintro e wc ⟨hbc, b2, rfl, hb2⟩; obtain rfl : b1 = b2 := Bool.eq_iff_iff.2 (HT1.out.trans hb2.symm); have HBC := hid (HBB.out.trans (hbc.mono HBB.out.size)); have HSCC := hid (HSS.out wc HBC.out); clear hbc hb2)
    | (go_at_call 12; refine (HNX.out wc (HBFX.out _ HBC.out)).mono ?_; rintro e wd ⟨hbd, b3, rfl, hb3⟩; have HBDD := hid (HBC.out.trans (hbd.mono HBC.out.size)); have HT3 := hid hb3; have HSDD := hid (HSS.out wd HBDD.out); clear hbd hb3)
    | (go_at_call 13; refine (HNY.out wd (HBFX.out _ HBDD.out)).mono ?_; rintro e we ⟨hbe, b4, rfl, hb4⟩; obtain rfl : b3 = b4 := Bool.eq_iff_iff.2 (HT3.out.trans hb4.symm); have HBE := hid (HBDD.out.trans (hbe.mono HBDD.out.size)); have HSEE := hid (HSS.out we HBE.out); clear hbe hb4))
  all_goals
    go_wp2
    go_ret
    exact ⟨rfl, HBX.out we (HBFX.out _ HBE.out)⟩
end Go.Proofs.YtjfhhlgblmjonaaDoor
