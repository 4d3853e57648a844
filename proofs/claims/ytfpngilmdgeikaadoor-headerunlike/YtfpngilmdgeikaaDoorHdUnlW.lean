/-
  HeaderUnlike answers true, whatever it is handed, and turns nothing that was there.
-/
import Derived.Test.YtfpngilmdgeikaaDoorHdBlock
import Derived.Test.YtfpngilmdgeikaaDoorHdSame
import Derived.Test.YtfpngilmdgeikaaDoorHdNameVals
import Derived.Test.YtfpngilmdgeikaaDoorHdBytes
import Derived.Test.YtfpngilmdgeikaaDoorSameB
namespace Go.Proofs.YtfpngilmdgeikaaDoor
open Go.RowKit

set_option maxRecDepth 100000 in
set_option maxHeartbeats 4000000 in
theorem unlikeRegion5 {y0 y1 y5 y6 y7 y8 y9 y10 y11 y12 y13 y14 z4 z15 z16 z17 z18 z19 z20 z21 z22 z23 : Value} {g g2 N : Nat} (a b : Hd) (o1 o2 o3 p1 p2 p3 : Option Addr) (c1 c2 c3 d1 d2 d3 : Nat) {w : World} (hN : N ≤ w.heap.size) (hra : Hid (Row w g 25 [.string a.chain, .int .i64 a.height, .int .i64 a.time, .slice o1 a.root.length c1, .slice o2 a.vals.length c2, .slice o3 a.next.length c3])) (hrb : Hid (Row w g2 25 [.string b.chain, .int .i64 b.height, .int .i64 b.time, .slice p1 b.root.length d1, .slice p2 b.vals.length d2, .slice p3 b.next.length d3])) (hva : Hid (HdV w N (.agg #[.string a.chain, .int .i64 a.height, .int .i64 a.time, .slice o1 a.root.length c1, .slice o2 a.vals.length c2, .slice o3 a.next.length c3]) a)) (hvb : Hid (HdV w N (.agg #[.string b.chain, .int .i64 b.height, .int .i64 b.time, .slice p1 b.root.length d1, .slice p2 b.vals.length d2, .slice p3 b.next.length d3]) b)) (hfa : a.fits) (hfb : b.fits) (hwa : Hid (wrongH a = 0)) (hwb : Hid (wrongH b = 0)) (Q : Exit → Act → World → Prop)
    (hQ : Hid (∀ (σ : Nat → Value) (w' : World), Below w.heap.size w w' → /-9-/ σ 9 = .bool true → Q .normal ⟨#[y0, y1, .pointer (some ⟨g, 0, none⟩), .pointer (some ⟨g2, 0, none⟩), σ 9, y5, y6, y7, y8, y9, y10, y11, y12, y13, y14, σ 0, σ 1, σ 2, σ 3, σ 4, σ 5, σ 6, σ 7, σ 8], []⟩ w')) :
    Code.wp Tryd.prog (.region 5 ((Tryd.f8.body.bind (regOf 5)).getD #[]) true) Q ⟨#[y0, y1, .pointer (some ⟨g, 0, none⟩), .pointer (some ⟨g2, 0, none⟩), z4, y5, y6, y7, y8, y9, y10, y11, y12, y13, y14, z15, z16, z17, z18, z19, z20, z21, z22, z23], []⟩ w := by
  conv => arg 2; arg 2; whnf
  conv => arg 4; dsimp only
  refine region_grows (by kernel_rfl) (fun σ => #[y0, y1, .pointer (some ⟨g, 0, none⟩), .pointer (some ⟨g2, 0, none⟩), σ 9, y5, y6, y7, y8, y9, y10, y11, y12, y13, y14, σ 0, σ 1, σ 2, σ 3, σ 4, σ 5, σ 6, σ 7, σ 8]) (fun i => ([z15, z16, z17, z18, z19, z20, z21, z22, z23, z4] : List Value).getD i undef) rfl (fun i X W => match i with
    | 0 => X = .agg #[.string a.chain, .int .i64 a.height, .int .i64 a.time, .slice o1 a.root.length c1, .slice o2 a.vals.length c2, .slice o3 a.next.length c3]
    | 1 => Bytes W W.heap.size X (bytesH a)
    | 2 => X = .agg #[.string b.chain, .int .i64 b.height, .int .i64 b.time, .slice p1 b.root.length d1, .slice p2 b.vals.length d2, .slice p3 b.next.length d3]
    | 3 => Bytes W W.heap.size X (bytesH b)
    | 4 => X = .bool (decide (bytesH a = bytesH b))
    | 5 => X = .agg #[.string a.chain, .int .i64 a.height, .int .i64 a.time, .slice o1 a.root.length c1, .slice o2 a.vals.length c2, .slice o3 a.next.length c3]
    | 6 => X = .agg #[.string b.chain, .int .i64 b.height, .int .i64 b.time, .slice p1 b.root.length d1, .slice p2 b.vals.length d2, .slice p3 b.next.length d3]
    | 7 => X = .bool (decide (bytesH a = bytesH b))
    | 8 => X = .bool true
    | 9 => X = .bool true
    | _ => True) ?_ (by kernel_rfl) ?_ ?_
  · intro i X W W' HB H
    match i, H with
    | 0, H => exact H
    | 1, H => exact (H.below HB).mono HB.size
    | 2, H => exact H
    | 3, H => exact (H.below HB).mono HB.size
    | 4, H => exact H
    | 5, H => exact H
    | 6, H => exact H
    | 7, H => exact H
    | 8, H => exact H
    | 9, H => exact H
    | _ + 10, _ => exact trivial
  · refine ⟨?_, ?_, ?_, ?_, ?_, ?_, ?_, ?_, ?_, ?_, trivial⟩
    · -- 0: Op.load 25 t2
      intro σ W HJ hdep
      simp [Region.binds] at hdep
      have HJ := hid HJ
      have k0 := (hra.out.below HJ.out hra.out.lt).cell 0
      have k1 := (hra.out.below HJ.out hra.out.lt).cell 1
      have k2 := (hra.out.below HJ.out hra.out.lt).cell 2
      have k3 := (hra.out.below HJ.out hra.out.lt).cell 3
      have k4 := (hra.out.below HJ.out hra.out.lt).cell 4
      have k5 := (hra.out.below HJ.out hra.out.lt).cell 5
      simp at k0
      simp at k1
      simp at k2
      simp at k3
      simp at k4
      simp at k5
      refine wpOp_plain rfl rfl ?_
      go_simp
      exact Left.mk0 (.agg #[.string a.chain, .int .i64 a.height, .int .i64 a.time, .slice o1 a.root.length c1, .slice o2 a.vals.length c2, .slice o3 a.next.length c3]) (by first | rfl | simp [updF, *]) HJ.out rfl
    · -- 1: Op.call { value (Operand.func 21), args := #[t15], argTypes 
      intro σ W HJ hdep
      simp [Region.binds] at hdep
      have HJ := hid HJ
      have HC := hid (bytesC a (.agg #[.string a.chain, .int .i64 a.height, .int .i64 a.time, .slice o1 a.root.length c1, .slice o2 a.vals.length c2, .slice o3 a.next.length c3]) N W (hva.out.below (HJ.out.mono hN)) (Nat.le_trans hN HJ.out.size) hwa.out)
      refine wpOp_plain rfl rfl ?_
      go_simp
      refine (HC.out).mono ?_
      rintro e w2 ⟨v, rfl, hv2, hb2⟩
      exact Left.mk v (by first | rfl | simp [updF, *]) hb2 HJ.out hv2
    · -- 2: Op.load 25 t3
      intro σ W HJ hdep
      simp [Region.binds] at hdep
      have HJ := hid HJ
      have k0 := (hrb.out.below HJ.out hrb.out.lt).cell 0
      have k1 := (hrb.out.below HJ.out hrb.out.lt).cell 1
      have k2 := (hrb.out.below HJ.out hrb.out.lt).cell 2
      have k3 := (hrb.out.below HJ.out hrb.out.lt).cell 3
      have k4 := (hrb.out.below HJ.out hrb.out.lt).cell 4
      have k5 := (hrb.out.below HJ.out hrb.out.lt).cell 5
      simp at k0
      simp at k1
      simp at k2
      simp at k3
      simp at k4
      simp at k5
      refine wpOp_plain rfl rfl ?_
      go_simp
      exact Left.mk0 (.agg #[.string b.chain, .int .i64 b.height, .int .i64 b.time, .slice p1 b.root.length d1, .slice p2 b.vals.length d2, .slice p3 b.next.length d3]) (by first | rfl | simp [updF, *]) HJ.out rfl
    · -- 3: Op.call { value (Operand.func 21), args := #[t17], argTypes 
      intro σ W HJ hdep
      simp [Region.binds] at hdep
      have HJ := hid HJ
      have HC := hid (bytesC b (.agg #[.string b.chain, .int .i64 b.height, .int .i64 b.time, .slice p1 b.root.length d1, .slice p2 b.vals.length d2, .slice p3 b.next.length d3]) N W (hvb.out.below (HJ.out.mono hN)) (Nat.le_trans hN HJ.out.size) hwb.out)
      refine wpOp_plain rfl rfl ?_
      go_simp
      refine (HC.out).mono ?_
      rintro e w2 ⟨v, rfl, hv2, hb2⟩
      exact Left.mk v (by first | rfl | simp [updF, *]) hb2 HJ.out hv2
    · -- 4: Op.call { value (Operand.func 18), args := #[t16, t18], argT
      intro σ W HJ hdep
      simp [Region.binds] at hdep
      have HJ := hid HJ
      have ha : Bytes W W.heap.size (σ 1) (bytesH a) := by first | exact hdep.1 | exact hdep.2.1 | exact hdep.2.2.1
      have hb : Bytes W W.heap.size (σ 3) (bytesH b) := by first | exact hdep.2.1 | exact hdep.2.2.1 | exact hdep.2.2 | exact hdep.2
      have HE := hid (sameB_any (bytesH a) (bytesH b) (σ 1) (σ 3) W.heap.size W.heap.size W ha hb (by have := wrs_head a hwa.out; omega) (by have := wrs_head b hwb.out; omega))
      clear ha hb
      refine wpOp_plain rfl rfl ?_
      go_simp
      refine HE.out.mono ?_
      rintro e w2 ⟨rfl, nq, rfl⟩
      exact Left.mk (.bool (decide (bytesH a = bytesH b))) (by first | rfl | simp [updF, *]) (below_drewH W nq _) HJ.out rfl
    · -- 5: Op.load 25 t2
      intro σ W HJ hdep
      simp [Region.binds] at hdep
      have HJ := hid HJ
      have k0 := (hra.out.below HJ.out hra.out.lt).cell 0
      have k1 := (hra.out.below HJ.out hra.out.lt).cell 1
      have k2 := (hra.out.below HJ.out hra.out.lt).cell 2
      have k3 := (hra.out.below HJ.out hra.out.lt).cell 3
      have k4 := (hra.out.below HJ.out hra.out.lt).cell 4
      have k5 := (hra.out.below HJ.out hra.out.lt).cell 5
      simp at k0
      simp at k1
      simp at k2
      simp at k3
      simp at k4
      simp at k5
      refine wpOp_plain rfl rfl ?_
      go_simp
      exact Left.mk0 (.agg #[.string a.chain, .int .i64 a.height, .int .i64 a.time, .slice o1 a.root.length c1, .slice o2 a.vals.length c2, .slice o3 a.next.length c3]) (by first | rfl | simp [updF, *]) HJ.out rfl
    · -- 6: Op.load 25 t3
      intro σ W HJ hdep
      simp [Region.binds] at hdep
      have HJ := hid HJ
      have k0 := (hrb.out.below HJ.out hrb.out.lt).cell 0
      have k1 := (hrb.out.below HJ.out hrb.out.lt).cell 1
      have k2 := (hrb.out.below HJ.out hrb.out.lt).cell 2
      have k3 := (hrb.out.below HJ.out hrb.out.lt).cell 3
      have k4 := (hrb.out.below HJ.out hrb.out.lt).cell 4
      have k5 := (hrb.out.below HJ.out hrb.out.lt).cell 5
      simp at k0
      simp at k1
      simp at k2
      simp at k3
      simp at k4
      simp at k5
      refine wpOp_plain rfl rfl ?_
      go_simp
      exact Left.mk0 (.agg #[.string b.chain, .int .i64 b.height, .int .i64 b.time, .slice p1 b.root.length d1, .slice p2 b.vals.length d2, .slice p3 b.next.length d3]) (by first | rfl | simp [updF, *]) HJ.out rfl
    · -- 7: Op.call { value (Operand.func 28), args := #[t20, t21], argT
      intro σ W HJ hdep
      simp [Region.binds] at hdep
      have HJ := hid HJ
      obtain ⟨e5, e6⟩ : σ 5 = .agg #[.string a.chain, .int .i64 a.height, .int .i64 a.time, .slice o1 a.root.length c1, .slice o2 a.vals.length c2, .slice o3 a.next.length c3] ∧ σ 6 = .agg #[.string b.chain, .int .i64 b.height, .int .i64 b.time, .slice p1 b.root.length d1, .slice p2 b.vals.length d2, .slice p3 b.next.length d3] := by first | exact ⟨hdep.1, hdep.2.1⟩ | exact hdep
      have HE := hid (sameHeader_any a b (.agg #[.string a.chain, .int .i64 a.height, .int .i64 a.time, .slice o1 a.root.length c1, .slice o2 a.vals.length c2, .slice o3 a.next.length c3]) (.agg #[.string b.chain, .int .i64 b.height, .int .i64 b.time, .slice p1 b.root.length d1, .slice p2 b.vals.length d2, .slice p3 b.next.length d3]) N W (Nat.le_trans hN HJ.out.size) (hva.out.below (HJ.out.mono hN)) (hvb.out.below (HJ.out.mono hN)) hfa hfb)
      clear hdep
      refine wpOp_plain rfl rfl ?_
      go_simp
      refine HE.out.mono ?_
      rintro e w2 ⟨⟨r, rfl, hr⟩, hb2⟩
      obtain rfl : r = decide (bytesH a = bytesH b) := by
        by_cases e : bytesH a = bytesH b
        · rw [decide_eq_true e]; exact hr.2 (bytesH_inj hwa.out hwb.out e)
        · rw [decide_eq_false e]; exact Bool.eq_false_iff.2 fun h => e (by rw [hr.1 h])
      exact Left.mk (.bool (decide (bytesH a = bytesH b))) (by first | rfl | simp [updF, *]) hb2 HJ.out rfl
    · -- 8: Op.binOp BinOp.eql 4 t19 t22 4
      intro σ W HJ hdep
      simp [Region.binds] at hdep
      have HJ := hid HJ
      obtain ⟨e4, e7⟩ : σ 4 = .bool (decide (bytesH a = bytesH b)) ∧ σ 7 = .bool (decide (bytesH a = bytesH b)) := by first | exact ⟨hdep.1, hdep.2.1⟩ | exact hdep
      clear hdep
      generalize decide (bytesH a = bytesH b) = q at e4 e7
      have eb : (q == q) = true := by simp
      refine wpOp_plain rfl rfl ?_
      go_simp
      exact Left.mk0 (.bool true) (by first | rfl | simp [updF, *]) HJ.out rfl
    · -- 9: Op.assign t23
      intro σ W HJ hdep
      simp [Region.binds] at hdep
      have HJ := hid HJ
      refine wpOp_plain rfl rfl ?_
      go_simp
      exact Left.mk0 (.bool true) (by first | rfl | simp [updF, *]) HJ.out rfl
  · intro σ w' hb hg
    exact hQ.out σ w' hb (by first | exact ⟨hg 9 (by decide)⟩ | exact hg 9 (by decide))
set_option maxRecDepth 100000 in
set_option maxHeartbeats 4000000 in
theorem headerUnlike_any (hal : AliveC6 29) (a b : Hd) (va vb : Value) (N : Nat) (w : World) (htab : tableAt w) (hN : N ≤ w.heap.size) (ha : HdV w N va a) (hb : HdV w N vb b) (hfa : a.fits) (hfb : b.fits) :
    Calls Tryd.prog 8 #[va, vb] w fun e w' => e = .returned (.bool true) ∧ Below w.heap.size w w' := by
  have HA := hid ha
  have HB := hid hb
  obtain ⟨rv, vv, nv, rfl, h1, h2, h3⟩ := ha
  obtain ⟨rv', vv', nv', rfl, g1, g2, g3⟩ := hb
  obtain ⟨o1, c1, rfl, _⟩ := h1.shape
  obtain ⟨o2, c2, rfl, _⟩ := h2.shape
  obtain ⟨o3, c3, rfl, _⟩ := h3.shape
  obtain ⟨p1, d1, rfl, _⟩ := g1.shape
  obtain ⟨p2, d2, rfl, _⟩ := g2.shape
  obtain ⟨p3, d3, rfl, _⟩ := g3.shape
  obtain ⟨w0, hw0⟩ : ∃ w0, w.alloc (.cells #[.string a.chain, .int .i64 a.height, .int .i64 a.time, .slice o1 a.root.length c1, .slice o2 a.vals.length c2, .slice o3 a.next.length c3] 25) = w0 := ⟨_, rfl⟩
  have hb0 : Below w.heap.size w w0 := by rw [← hw0]; exact (Below.refl _ _).alloc (Nat.le_refl _) _
  have hr0 : Row w0 w.heap.size 25 [.string a.chain, .int .i64 a.height, .int .i64 a.time, .slice o1 a.root.length c1, .slice o2 a.vals.length c2, .slice o3 a.next.length c3] := by rw [← hw0]; exact Row.new _ _ _
  have hsz0 : w0.heap.size = w.heap.size + 1 := by rw [← hw0]; simp
  obtain ⟨w1, hw1⟩ : ∃ w1, w0.alloc (.cells #[.string b.chain, .int .i64 b.height, .int .i64 b.time, .slice p1 b.root.length d1, .slice p2 b.vals.length d2, .slice p3 b.next.length d3] 25) = w1 := ⟨_, rfl⟩
  have hb1 : Below w0.heap.size w0 w1 := by rw [← hw1]; exact (Below.refl _ _).alloc (Nat.le_refl _) _
  have HR1 := hid (hr0.below hb1 hr0.lt)
  have HS1 := hid (show Row w1 (w.heap.size + 1) 25 [.string b.chain, .int .i64 b.height, .int .i64 b.time, .slice p1 b.root.length d1, .slice p2 b.vals.length d2, .slice p3 b.next.length d3] by rw [← hw1, ← hsz0]; exact Row.new _ _ _)
  have HB1 := hid (hb0.trans (hb1.mono hb0.size))
  have HAL := hid (hal w1 (htab.below HB1.out htab.lt))
  clear h1 h2 h3 g1 g2 g3 htab hb0 hr0 hb1 hal
  go_enter Tryd.func8, Tryd.ntmps8
  go_wp2_with fail
  refine HAL.out.mono ?_
  rintro e w2 ⟨rfl, hb2⟩
  have HB2 := hid (HB1.out.trans (hb2.mono HB1.out.size))
  have HR2 := hid (HR1.out.below hb2 HR1.out.lt)
  have HS2 := hid (HS1.out.below hb2 HS1.out.lt)
  obtain ⟨k0, k1, k2, k3, k4, k5⟩ := HR2.out.six
  have HW := hid (wrong_any a _ N w2 (HA.out.below (HB2.out.mono hN)) hfa)
  clear hb2 HAL hw0 hw1
  obtain ⟨za, hza⟩ : ∃ z, wrongH a = z := ⟨_, rfl⟩
  rw [hza] at HW
  have HZA := hid hza
  clear hza
  go_wp2_with fail
  refine HW.out.mono ?_
  rintro e w3 ⟨rfl, hb3⟩
  have HB3 := hid (HB2.out.trans (hb3.mono HB2.out.size))
  have HR3 := hid (HR2.out.below hb3 HR2.out.lt)
  have HS3 := hid (HS2.out.below hb3 HS2.out.lt)
  clear hb3 HW k0 k1 k2 k3 k4 k5
  by_cases hz : za = 0
  · have ez : (za != 0) = false := by simp [hz]
    obtain ⟨k0, k1, k2, k3, k4, k5⟩ := HS3.out.six
    have HW := hid (wrong_any b _ N w3 (HB.out.below (HB3.out.mono hN)) hfb)
    obtain ⟨zb, hzb⟩ : ∃ z, wrongH b = z := ⟨_, rfl⟩
    rw [hzb] at HW
    have HZB := hid hzb
    have HZ := hid hz
    clear hzb hz
    go_wp2_with fail
    refine HW.out.mono ?_
    rintro e w4 ⟨rfl, hb4⟩
    have HB4 := hid (HB3.out.trans (hb4.mono HB3.out.size))
    have HR4 := hid (HR3.out.below hb4 HR3.out.lt)
    have HS4 := hid (HS3.out.below hb4 HS3.out.lt)
    clear hb4 HW k0 k1 k2 k3 k4 k5
    by_cases hy : zb = 0
    · have ey : (zb != 0) = false := by simp [hy]
      have HY := hid hy
      clear hy
      go_wp2_with fail
      refine unlikeRegion5 a b o1 o2 o3 p1 p2 p3 c1 c2 c3 d1 d2 d3 (Nat.le_trans hN HB4.out.size) HR4 HS4 (hid (HA.out.below (HB4.out.mono hN))) (hid (HB.out.below (HB4.out.mono hN))) hfa hfb (hid (HZA.out.trans HZ.out)) (hid (HZB.out.trans HY.out)) _ (hid ?_)
      intro σ5 w5 hb5 h9
      rw [h9]
      have HB5 := hid (HB4.out.trans (hb5.mono HB4.out.size))
      clear hb5 h9
      go_wp2
      go_ret
      exact ⟨rfl, HB5.out⟩
    · have ey : (zb != 0) = true := by simp [hy]
      clear hy
      go_wp2
      go_ret
      exact ⟨rfl, HB4.out⟩
  · have ez : (za != 0) = true := by simp [hz]
    clear hz
    go_wp2
    go_ret
    exact ⟨rfl, HB3.out⟩
end Go.Proofs.YtfpngilmdgeikaaDoor
