/-
  What the regions of HeaderTells leave, in whatever order their steps come.
  What the regions of HeaderTells leave, in whatever order their steps come.
-/
import Derived.Test.YtfpngilmdgeikaaDoorHdTells1
namespace Go.Proofs.YtfpngilmdgeikaaDoor
open Go.RowKit

set_option maxRecDepth 100000 in
set_option maxHeartbeats 4000000 in
theorem tellsRegion7vw {y1 y2 y3 y4 y5 y7 y9 y10 y11 y12 y13 y14 y15 y16 y17 y18 y19 y20 y21 y22 y23 y24 y25 y26 y27 y28 y29 y30 y31 y32 y33 y34 y35 y36 y37 y38 y39 y40 y41 y42 y43 y44 y45 y46 y47 y48 y49 y50 y51 y52 y53 y54 y55 y56 y81 y82 y83 y84 y85 y86 y87 y88 y89 y90 y91 y92 y93 y94 y95 y96 y97 z57 z58 z59 z60 z61 z62 z63 z64 z65 z66 z67 z68 z69 z70 z71 z72 z73 z74 z75 z76 z77 z78 z79 z80 : Value} {g gs N : Nat} (l : List Vl) (h : Hd) (s : Sg) (lv : Value) (o1 o2 o3 p1 p2 p3 p4 p5 : Option Addr) (c1 c2 c3 d1 d2 d3 d4 d5 : Nat) {w : World} (htab : Hid (tableAt w)) (hN : N ≤ w.heap.size) (hr : Hid (Row w g 25 [.string h.chain, .int .i64 h.height, .int .i64 h.time, .slice o1 h.root.length c1, .slice o2 h.vals.length c2, .slice o3 h.next.length c3])) (_hrs : Hid (Row w gs 29 [.string s.hd.chain, .int .i64 s.hd.height, .int .i64 s.hd.time, .slice p1 s.hd.root.length d1, .slice p2 s.hd.vals.length d2, .slice p3 s.hd.next.length d3, .slice p4 s.vals.length d4, .slice p5 s.votes.length d5])) (hl : Hid (Vals w N lv l)) (hlen : l.length < 2305843009213693952) (hok : Hid (∀ v ∈ l, v.ok)) (hv : Hid (HdV w N (.agg #[.string h.chain, .int .i64 h.height, .int .i64 h.time, .slice o1 h.root.length c1, .slice o2 h.vals.length c2, .slice o3 h.next.length c3]) h)) (hf : h.fits) (_hs : Hid (SgV w N (.agg #[.string s.hd.chain, .int .i64 s.hd.height, .int .i64 s.hd.time, .slice p1 s.hd.root.length d1, .slice p2 s.hd.vals.length d2, .slice p3 s.hd.next.length d3, .slice p4 s.vals.length d4, .slice p5 s.votes.length d5]) s)) (_hsf : s.fits) (h10 : l.length ≤ 10) (hw : Hid (wrongH h = 0)) (hvb : (valsN l == 0) = true) (hwb : (wrongH h == 0) = true) (Q : Exit → Act → World → Prop)
    (hQ : Hid (∀ (σ : Nat → Value) (w' : World), Below w.heap.size w w' → /-23-/ σ 23 = .bool false → Q .normal ⟨#[lv, y1, y2, y3, y4, y5, .pointer (some ⟨g, 0, none⟩), y7, .pointer (some ⟨gs, 0, none⟩), y9, y10, y11, y12, y13, y14, y15, y16, y17, y18, y19, y20, y21, y22, y23, y24, y25, y26, y27, y28, y29, y30, y31, y32, y33, y34, y35, y36, y37, y38, y39, y40, y41, y42, y43, y44, y45, y46, y47, y48, y49, y50, y51, y52, y53, y54, y55, y56, σ 0, σ 1, σ 2, σ 3, σ 4, σ 5, σ 6, σ 7, σ 8, σ 9, σ 10, σ 11, σ 12, σ 13, σ 14, σ 15, σ 16, σ 17, σ 18, σ 19, σ 20, σ 21, σ 22, σ 23, y81, y82, y83, y84, y85, y86, y87, y88, y89, y90, y91, y92, y93, y94, y95, y96, y97], []⟩ w')) :
    Code.wp Tryd.prog (.region 7 ((Tryd.f3.body.bind (regOf 7)).getD #[]) true) Q ⟨#[lv, y1, y2, y3, y4, y5, .pointer (some ⟨g, 0, none⟩), y7, .pointer (some ⟨gs, 0, none⟩), y9, y10, y11, y12, y13, y14, y15, y16, y17, y18, y19, y20, y21, y22, y23, y24, y25, y26, y27, y28, y29, y30, y31, y32, y33, y34, y35, y36, y37, y38, y39, y40, y41, y42, y43, y44, y45, y46, y47, y48, y49, y50, y51, y52, y53, y54, y55, y56, z57, z58, z59, z60, z61, z62, z63, z64, z65, z66, z67, z68, z69, z70, z71, z72, z73, z74, z75, z76, z77, z78, z79, z80, y81, y82, y83, y84, y85, y86, y87, y88, y89, y90, y91, y92, y93, y94, y95, y96, y97], []⟩ w := by
  conv => arg 2; arg 2; whnf
  conv => arg 4; dsimp only
  refine region_grows (by kernel_rfl) (fun σ => #[lv, y1, y2, y3, y4, y5, .pointer (some ⟨g, 0, none⟩), y7, .pointer (some ⟨gs, 0, none⟩), y9, y10, y11, y12, y13, y14, y15, y16, y17, y18, y19, y20, y21, y22, y23, y24, y25, y26, y27, y28, y29, y30, y31, y32, y33, y34, y35, y36, y37, y38, y39, y40, y41, y42, y43, y44, y45, y46, y47, y48, y49, y50, y51, y52, y53, y54, y55, y56, σ 0, σ 1, σ 2, σ 3, σ 4, σ 5, σ 6, σ 7, σ 8, σ 9, σ 10, σ 11, σ 12, σ 13, σ 14, σ 15, σ 16, σ 17, σ 18, σ 19, σ 20, σ 21, σ 22, σ 23, y81, y82, y83, y84, y85, y86, y87, y88, y89, y90, y91, y92, y93, y94, y95, y96, y97]) (fun i => ([z57, z58, z59, z60, z61, z62, z63, z64, z65, z66, z67, z68, z69, z70, z71, z72, z73, z74, z75, z76, z77, z78, z79, z80] : List Value).getD i undef) rfl (fun i X W => match i with
    | 0 => X = lv
    | 1 => X = .int .i64 (valsN l)
    | 2 => X = .bool true
    | 3 => X = .bool true
    | 4 => X = lv
    | 5 => Bytes W W.heap.size X (digV l)
    | 6 => X = lv
    | 7 => Bytes W W.heap.size X (digV l)
    | 8 => X = .bool true
    | 9 => X = .bool false
    | 10 => X = .bool false
    | 11 => X = .bool false
    | 12 => X = .agg #[.string h.chain, .int .i64 h.height, .int .i64 h.time, .slice o1 h.root.length c1, .slice o2 h.vals.length c2, .slice o3 h.next.length c3]
    | 13 => X = .int .i64 (wrongH h)
    | 14 => X = .bool true
    | 15 => X = .bool true
    | 16 => X = .agg #[.string h.chain, .int .i64 h.height, .int .i64 h.time, .slice o1 h.root.length c1, .slice o2 h.vals.length c2, .slice o3 h.next.length c3]
    | 17 => Bytes W W.heap.size X (bytesH h)
    | 18 => X = .agg #[.string h.chain, .int .i64 h.height, .int .i64 h.time, .slice o1 h.root.length c1, .slice o2 h.vals.length c2, .slice o3 h.next.length c3]
    | 19 => Bytes W W.heap.size X (bytesH h)
    | 20 => X = .bool true
    | 21 => X = .bool false
    | 22 => X = .bool false
    | 23 => X = .bool false
    | _ => True) ?_ (by kernel_rfl) ?_ ?_
  · intro i X W W' HB H
    match i, H with
    | 0, H => exact H
    | 1, H => exact H
    | 2, H => exact H
    | 3, H => exact H
    | 4, H => exact H
    | 5, H => exact (H.below HB).mono HB.size
    | 6, H => exact H
    | 7, H => exact (H.below HB).mono HB.size
    | 8, H => exact H
    | 9, H => exact H
    | 10, H => exact H
    | 11, H => exact H
    | 12, H => exact H
    | 13, H => exact H
    | 14, H => exact H
    | 15, H => exact H
    | 16, H => exact H
    | 17, H => exact (H.below HB).mono HB.size
    | 18, H => exact H
    | 19, H => exact (H.below HB).mono HB.size
    | 20, H => exact H
    | 21, H => exact H
    | 22, H => exact H
    | 23, H => exact H
    | _ + 24, _ => exact trivial
  · refine ⟨?_, ?_, ?_, ?_, ?_, ?_, ?_, ?_, ?_, ?_, ?_, ?_, ?_, ?_, ?_, ?_, ?_, ?_, ?_, ?_, ?_, ?_, ?_, ?_, trivial⟩
    · -- 0: Op.move t0
      intro σ W HJ hdep
      simp [Region.binds] at hdep
      have HJ := hid HJ
      refine wpOp_plain rfl rfl ?_
      go_simp
      exact Left.mk0 (lv) (by first | rfl | simp [updF, *]) HJ.out rfl
    · -- 1: Op.call { value (Operand.func 10), args := #[t57], argTypes 
      intro σ W HJ hdep
      simp [Region.binds] at hdep
      have HJ := hid HJ
      have HC := hid (refValsC l lv N W (hl.out.below (HJ.out.mono hN)) (Nat.le_trans hN HJ.out.size) hlen)
      refine wpOp_plain rfl rfl ?_
      go_simp
      refine (HC.out).mono ?_
      rintro e w2 ⟨rfl, hb2⟩
      exact Left.mk (.int .i64 (valsN l)) (by first | rfl | simp [updF, *]) hb2 HJ.out rfl
    · -- 2: Op.binOp BinOp.eql 30 t58 (const (0:i64)) 30
      intro σ W HJ hdep
      simp [Region.binds] at hdep
      have HJ := hid HJ
      have eb := hvb
      refine wpOp_plain rfl rfl ?_
      go_simp
      exact Left.mk0 (.bool true) (by first | rfl | simp [updF, *]) HJ.out rfl
    · -- 3: Op.move t59
      intro σ W HJ hdep
      simp [Region.binds] at hdep
      have HJ := hid HJ
      refine wpOp_plain rfl rfl ?_
      go_simp
      exact Left.mk0 (.bool true) (by first | rfl | simp [updF, *]) HJ.out rfl
    · -- 4: Op.move t0   [guarded: some (3, true)]
      intro σ W HJ hdep
      simp [Region.binds] at hdep
      have HJ := hid HJ
      refine wpOp_guarded rfl (by simp [Region.wanted, yielded, *]) ?_
      go_simp
      exact Left.mk0 (lv) (by first | rfl | simp [updF, *]) HJ.out rfl
    · -- 5: Op.call { value (Operand.func 19), args := #[t61], argTypes 
      intro σ W HJ hdep
      simp [Region.binds] at hdep
      have HJ := hid HJ
      have HC := hid (digestC l lv N W (htab.out.below HJ.out htab.out.lt) (hl.out.below (HJ.out.mono hN)) (Nat.le_trans hN HJ.out.size) h10 hok.out)
      refine wpOp_guarded rfl (by simp [Region.wanted, yielded, *]) ?_
      go_simp
      refine (HC.out).mono ?_
      rintro e w2 ⟨v, rfl, hv2, hb2⟩
      exact Left.mk v (by first | rfl | simp [updF, *]) hb2 HJ.out hv2
    · -- 6: Op.move t0   [guarded: some (3, true)]
      intro σ W HJ hdep
      simp [Region.binds] at hdep
      have HJ := hid HJ
      refine wpOp_guarded rfl (by simp [Region.wanted, yielded, *]) ?_
      go_simp
      exact Left.mk0 (lv) (by first | rfl | simp [updF, *]) HJ.out rfl
    · -- 7: Op.call { value (Operand.func 20), args := #[t63], argTypes 
      intro σ W HJ hdep
      simp [Region.binds] at hdep
      have HJ := hid HJ
      have HC := hid (refDigestC l lv N W (htab.out.below HJ.out htab.out.lt) (hl.out.below (HJ.out.mono hN)) (Nat.le_trans hN HJ.out.size) h10 hok.out)
      refine wpOp_guarded rfl (by simp [Region.wanted, yielded, *]) ?_
      go_simp
      refine (HC.out).mono ?_
      rintro e w2 ⟨v, rfl, hv2, hb2⟩
      exact Left.mk v (by first | rfl | simp [updF, *]) hb2 HJ.out hv2
    · -- 8: Op.call { value (Operand.func 18), args := #[t62, t64], argT
      intro σ W HJ hdep
      simp [Region.binds] at hdep
      have HJ := hid HJ
      have ha : Bytes W W.heap.size (σ 5) (digV l) := by first | exact hdep.1 | exact hdep.2.1 | exact hdep.2.2.1
      have hb : Bytes W W.heap.size (σ 7) (digV l) := by first | exact hdep.2.1 | exact hdep.2.2.1 | exact hdep.2.2 | exact hdep.2
      have HE := hid (sameB_any (digV l) (digV l) (σ 5) (σ 7) W.heap.size W.heap.size W ha hb (by rw [digV_length]; omega) (by rw [digV_length]; omega))
      rw [decide_eq_true rfl] at HE
      clear ha hb
      refine wpOp_guarded rfl (by simp [Region.wanted, yielded, *]) ?_
      go_simp
      refine HE.out.mono ?_
      rintro e w2 ⟨rfl, nq, rfl⟩
      exact Left.mk (.bool true) (by first | rfl | simp [updF, *]) (below_drewH W nq _) HJ.out rfl
    · -- 9: Op.unOp UnOp.not 4 t65   [guarded: some (3, true)]
      intro σ W HJ hdep
      simp [Region.binds] at hdep
      have HJ := hid HJ
      refine wpOp_guarded rfl (by simp [Region.wanted, yielded, *]) ?_
      go_simp
      exact Left.mk0 (.bool false) (by first | rfl | simp [updF, *]) HJ.out rfl
    · -- 10: Op.pick t60 t66 (const (Value.bool false))
      intro σ W HJ hdep
      simp [Region.binds] at hdep
      have HJ := hid HJ
      refine wpOp_plain rfl rfl ?_
      go_simp
      exact Left.mk0 (.bool false) (by first | rfl | simp [updF, *]) HJ.out rfl
    · -- 11: Op.move t67
      intro σ W HJ hdep
      simp [Region.binds] at hdep
      have HJ := hid HJ
      refine wpOp_plain rfl rfl ?_
      go_simp
      exact Left.mk0 (.bool false) (by first | rfl | simp [updF, *]) HJ.out rfl
    · -- 12: Op.load 25 t6   [guarded: some (11, false)]
      intro σ W HJ hdep
      simp [Region.binds] at hdep
      have HJ := hid HJ
      have k0 := (hr.out.below HJ.out hr.out.lt).cell 0
      have k1 := (hr.out.below HJ.out hr.out.lt).cell 1
      have k2 := (hr.out.below HJ.out hr.out.lt).cell 2
      have k3 := (hr.out.below HJ.out hr.out.lt).cell 3
      have k4 := (hr.out.below HJ.out hr.out.lt).cell 4
      have k5 := (hr.out.below HJ.out hr.out.lt).cell 5
      simp at k0
      simp at k1
      simp at k2
      simp at k3
      simp at k4
      simp at k5
      refine wpOp_guarded rfl (by simp [Region.wanted, yielded, *]) ?_
      go_simp
      exact Left.mk0 (.agg #[.string h.chain, .int .i64 h.height, .int .i64 h.time, .slice o1 h.root.length c1, .slice o2 h.vals.length c2, .slice o3 h.next.length c3]) (by first | rfl | simp [updF, *]) HJ.out rfl
    · -- 13: Op.call { value (Operand.func 12), args := #[t69], argTypes 
      intro σ W HJ hdep
      simp [Region.binds] at hdep
      have HJ := hid HJ
      have HC := hid (refWrong_any h (.agg #[.string h.chain, .int .i64 h.height, .int .i64 h.time, .slice o1 h.root.length c1, .slice o2 h.vals.length c2, .slice o3 h.next.length c3]) N W (hv.out.below (HJ.out.mono hN)) hf)
      refine wpOp_guarded rfl (by simp [Region.wanted, yielded, *]) ?_
      go_simp
      refine (HC.out).mono ?_
      rintro e w2 ⟨rfl, hb2⟩
      exact Left.mk (.int .i64 (wrongH h)) (by first | rfl | simp [updF, *]) hb2 HJ.out rfl
    · -- 14: Op.binOp BinOp.eql 30 t70 (const (0:i64)) 30   [guarded: som
      intro σ W HJ hdep
      simp [Region.binds] at hdep
      have HJ := hid HJ
      have eb := hwb
      refine wpOp_guarded rfl (by simp [Region.wanted, yielded, *]) ?_
      go_simp
      exact Left.mk0 (.bool true) (by first | rfl | simp [updF, *]) HJ.out rfl
    · -- 15: Op.move t71   [guarded: some (11, false)]
      intro σ W HJ hdep
      simp [Region.binds] at hdep
      have HJ := hid HJ
      refine wpOp_guarded rfl (by simp [Region.wanted, yielded, *]) ?_
      go_simp
      exact Left.mk0 (.bool true) (by first | rfl | simp [updF, *]) HJ.out rfl
    · -- 16: Op.load 25 t6   [guarded: some (15, true)]
      intro σ W HJ hdep
      simp [Region.binds] at hdep
      have HJ := hid HJ
      have k0 := (hr.out.below HJ.out hr.out.lt).cell 0
      have k1 := (hr.out.below HJ.out hr.out.lt).cell 1
      have k2 := (hr.out.below HJ.out hr.out.lt).cell 2
      have k3 := (hr.out.below HJ.out hr.out.lt).cell 3
      have k4 := (hr.out.below HJ.out hr.out.lt).cell 4
      have k5 := (hr.out.below HJ.out hr.out.lt).cell 5
      simp at k0
      simp at k1
      simp at k2
      simp at k3
      simp at k4
      simp at k5
      refine wpOp_guarded rfl (by simp [Region.wanted, yielded, *]) ?_
      go_simp
      exact Left.mk0 (.agg #[.string h.chain, .int .i64 h.height, .int .i64 h.time, .slice o1 h.root.length c1, .slice o2 h.vals.length c2, .slice o3 h.next.length c3]) (by first | rfl | simp [updF, *]) HJ.out rfl
    · -- 17: Op.call { value (Operand.func 21), args := #[t73], argTypes 
      intro σ W HJ hdep
      simp [Region.binds] at hdep
      have HJ := hid HJ
      have HC := hid (bytesC h (.agg #[.string h.chain, .int .i64 h.height, .int .i64 h.time, .slice o1 h.root.length c1, .slice o2 h.vals.length c2, .slice o3 h.next.length c3]) N W (hv.out.below (HJ.out.mono hN)) (Nat.le_trans hN HJ.out.size) hw.out)
      refine wpOp_guarded rfl (by simp [Region.wanted, yielded, *]) ?_
      go_simp
      refine (HC.out).mono ?_
      rintro e w2 ⟨v, rfl, hv2, hb2⟩
      exact Left.mk v (by first | rfl | simp [updF, *]) hb2 HJ.out hv2
    · -- 18: Op.load 25 t6   [guarded: some (15, true)]
      intro σ W HJ hdep
      simp [Region.binds] at hdep
      have HJ := hid HJ
      have k0 := (hr.out.below HJ.out hr.out.lt).cell 0
      have k1 := (hr.out.below HJ.out hr.out.lt).cell 1
      have k2 := (hr.out.below HJ.out hr.out.lt).cell 2
      have k3 := (hr.out.below HJ.out hr.out.lt).cell 3
      have k4 := (hr.out.below HJ.out hr.out.lt).cell 4
      have k5 := (hr.out.below HJ.out hr.out.lt).cell 5
      simp at k0
      simp at k1
      simp at k2
      simp at k3
      simp at k4
      simp at k5
      refine wpOp_guarded rfl (by simp [Region.wanted, yielded, *]) ?_
      go_simp
      exact Left.mk0 (.agg #[.string h.chain, .int .i64 h.height, .int .i64 h.time, .slice o1 h.root.length c1, .slice o2 h.vals.length c2, .slice o3 h.next.length c3]) (by first | rfl | simp [updF, *]) HJ.out rfl
    · -- 19: Op.call { value (Operand.func 22), args := #[t75], argTypes 
      intro σ W HJ hdep
      simp [Region.binds] at hdep
      have HJ := hid HJ
      have HC := hid (refBytesC h (.agg #[.string h.chain, .int .i64 h.height, .int .i64 h.time, .slice o1 h.root.length c1, .slice o2 h.vals.length c2, .slice o3 h.next.length c3]) N W (hv.out.below (HJ.out.mono hN)) (Nat.le_trans hN HJ.out.size) hw.out)
      refine wpOp_guarded rfl (by simp [Region.wanted, yielded, *]) ?_
      go_simp
      refine (HC.out).mono ?_
      rintro e w2 ⟨v, rfl, hv2, hb2⟩
      exact Left.mk v (by first | rfl | simp [updF, *]) hb2 HJ.out hv2
    · -- 20: Op.call { value (Operand.func 18), args := #[t74, t76], argT
      intro σ W HJ hdep
      simp [Region.binds] at hdep
      have HJ := hid HJ
      have ha : Bytes W W.heap.size (σ 17) (bytesH h) := by first | exact hdep.1 | exact hdep.2.1 | exact hdep.2.2.1
      have hb : Bytes W W.heap.size (σ 19) (bytesH h) := by first | exact hdep.2.1 | exact hdep.2.2.1 | exact hdep.2.2 | exact hdep.2
      have HE := hid (sameB_any (bytesH h) (bytesH h) (σ 17) (σ 19) W.heap.size W.heap.size W ha hb (by have := wrs_head h hw.out; omega) (by have := wrs_head h hw.out; omega))
      rw [decide_eq_true rfl] at HE
      clear ha hb
      refine wpOp_guarded rfl (by simp [Region.wanted, yielded, *]) ?_
      go_simp
      refine HE.out.mono ?_
      rintro e w2 ⟨rfl, nq, rfl⟩
      exact Left.mk (.bool true) (by first | rfl | simp [updF, *]) (below_drewH W nq _) HJ.out rfl
    · -- 21: Op.unOp UnOp.not 4 t77   [guarded: some (15, true)]
      intro σ W HJ hdep
      simp [Region.binds] at hdep
      have HJ := hid HJ
      refine wpOp_guarded rfl (by simp [Region.wanted, yielded, *]) ?_
      go_simp
      exact Left.mk0 (.bool false) (by first | rfl | simp [updF, *]) HJ.out rfl
    · -- 22: Op.pick t72 t78 (const (Value.bool false))   [guarded: some 
      intro σ W HJ hdep
      simp [Region.binds] at hdep
      have HJ := hid HJ
      refine wpOp_guarded rfl (by simp [Region.wanted, yielded, *]) ?_
      go_simp
      exact Left.mk0 (.bool false) (by first | rfl | simp [updF, *]) HJ.out rfl
    · -- 23: Op.pick t68 (const (Value.bool true)) t79
      intro σ W HJ hdep
      simp [Region.binds] at hdep
      have HJ := hid HJ
      refine wpOp_plain rfl rfl ?_
      go_simp
      exact Left.mk0 (.bool false) (by first | rfl | simp [updF, *]) HJ.out rfl
  · intro σ w' hb hg
    exact hQ.out σ w' hb (by first | exact ⟨hg 23 (by decide)⟩ | exact hg 23 (by decide))
set_option maxRecDepth 100000 in
set_option maxHeartbeats 4000000 in
theorem tellsRegion7vn {y1 y2 y3 y4 y5 y7 y9 y10 y11 y12 y13 y14 y15 y16 y17 y18 y19 y20 y21 y22 y23 y24 y25 y26 y27 y28 y29 y30 y31 y32 y33 y34 y35 y36 y37 y38 y39 y40 y41 y42 y43 y44 y45 y46 y47 y48 y49 y50 y51 y52 y53 y54 y55 y56 y81 y82 y83 y84 y85 y86 y87 y88 y89 y90 y91 y92 y93 y94 y95 y96 y97 z57 z58 z59 z60 z61 z62 z63 z64 z65 z66 z67 z68 z69 z70 z71 z72 z73 z74 z75 z76 z77 z78 z79 z80 : Value} {g gs N : Nat} (l : List Vl) (h : Hd) (s : Sg) (lv : Value) (o1 o2 o3 p1 p2 p3 p4 p5 : Option Addr) (c1 c2 c3 d1 d2 d3 d4 d5 : Nat) {w : World} (htab : Hid (tableAt w)) (hN : N ≤ w.heap.size) (hr : Hid (Row w g 25 [.string h.chain, .int .i64 h.height, .int .i64 h.time, .slice o1 h.root.length c1, .slice o2 h.vals.length c2, .slice o3 h.next.length c3])) (_hrs : Hid (Row w gs 29 [.string s.hd.chain, .int .i64 s.hd.height, .int .i64 s.hd.time, .slice p1 s.hd.root.length d1, .slice p2 s.hd.vals.length d2, .slice p3 s.hd.next.length d3, .slice p4 s.vals.length d4, .slice p5 s.votes.length d5])) (hl : Hid (Vals w N lv l)) (hlen : l.length < 2305843009213693952) (hok : Hid (∀ v ∈ l, v.ok)) (hv : Hid (HdV w N (.agg #[.string h.chain, .int .i64 h.height, .int .i64 h.time, .slice o1 h.root.length c1, .slice o2 h.vals.length c2, .slice o3 h.next.length c3]) h)) (hf : h.fits) (_hs : Hid (SgV w N (.agg #[.string s.hd.chain, .int .i64 s.hd.height, .int .i64 s.hd.time, .slice p1 s.hd.root.length d1, .slice p2 s.hd.vals.length d2, .slice p3 s.hd.next.length d3, .slice p4 s.vals.length d4, .slice p5 s.votes.length d5]) s)) (_hsf : s.fits) (h10 : l.length ≤ 10) (hvb : (valsN l == 0) = true) (hwb : (wrongH h == 0) = false) (Q : Exit → Act → World → Prop)
    (hQ : Hid (∀ (σ : Nat → Value) (w' : World), Below w.heap.size w w' → /-23-/ σ 23 = .bool false → Q .normal ⟨#[lv, y1, y2, y3, y4, y5, .pointer (some ⟨g, 0, none⟩), y7, .pointer (some ⟨gs, 0, none⟩), y9, y10, y11, y12, y13, y14, y15, y16, y17, y18, y19, y20, y21, y22, y23, y24, y25, y26, y27, y28, y29, y30, y31, y32, y33, y34, y35, y36, y37, y38, y39, y40, y41, y42, y43, y44, y45, y46, y47, y48, y49, y50, y51, y52, y53, y54, y55, y56, σ 0, σ 1, σ 2, σ 3, σ 4, σ 5, σ 6, σ 7, σ 8, σ 9, σ 10, σ 11, σ 12, σ 13, σ 14, σ 15, σ 16, σ 17, σ 18, σ 19, σ 20, σ 21, σ 22, σ 23, y81, y82, y83, y84, y85, y86, y87, y88, y89, y90, y91, y92, y93, y94, y95, y96, y97], []⟩ w')) :
    Code.wp Tryd.prog (.region 7 ((Tryd.f3.body.bind (regOf 7)).getD #[]) true) Q ⟨#[lv, y1, y2, y3, y4, y5, .pointer (some ⟨g, 0, none⟩), y7, .pointer (some ⟨gs, 0, none⟩), y9, y10, y11, y12, y13, y14, y15, y16, y17, y18, y19, y20, y21, y22, y23, y24, y25, y26, y27, y28, y29, y30, y31, y32, y33, y34, y35, y36, y37, y38, y39, y40, y41, y42, y43, y44, y45, y46, y47, y48, y49, y50, y51, y52, y53, y54, y55, y56, z57, z58, z59, z60, z61, z62, z63, z64, z65, z66, z67, z68, z69, z70, z71, z72, z73, z74, z75, z76, z77, z78, z79, z80, y81, y82, y83, y84, y85, y86, y87, y88, y89, y90, y91, y92, y93, y94, y95, y96, y97], []⟩ w := by
  conv => arg 2; arg 2; whnf
  conv => arg 4; dsimp only
  refine region_grows (by kernel_rfl) (fun σ => #[lv, y1, y2, y3, y4, y5, .pointer (some ⟨g, 0, none⟩), y7, .pointer (some ⟨gs, 0, none⟩), y9, y10, y11, y12, y13, y14, y15, y16, y17, y18, y19, y20, y21, y22, y23, y24, y25, y26, y27, y28, y29, y30, y31, y32, y33, y34, y35, y36, y37, y38, y39, y40, y41, y42, y43, y44, y45, y46, y47, y48, y49, y50, y51, y52, y53, y54, y55, y56, σ 0, σ 1, σ 2, σ 3, σ 4, σ 5, σ 6, σ 7, σ 8, σ 9, σ 10, σ 11, σ 12, σ 13, σ 14, σ 15, σ 16, σ 17, σ 18, σ 19, σ 20, σ 21, σ 22, σ 23, y81, y82, y83, y84, y85, y86, y87, y88, y89, y90, y91, y92, y93, y94, y95, y96, y97]) (fun i => ([z57, z58, z59, z60, z61, z62, z63, z64, z65, z66, z67, z68, z69, z70, z71, z72, z73, z74, z75, z76, z77, z78, z79, z80] : List Value).getD i undef) rfl (fun i X W => match i with
    | 0 => X = lv
    | 1 => X = .int .i64 (valsN l)
    | 2 => X = .bool true
    | 3 => X = .bool true
    | 4 => X = lv
    | 5 => Bytes W W.heap.size X (digV l)
    | 6 => X = lv
    | 7 => Bytes W W.heap.size X (digV l)
    | 8 => X = .bool true
    | 9 => X = .bool false
    | 10 => X = .bool false
    | 11 => X = .bool false
    | 12 => X = .agg #[.string h.chain, .int .i64 h.height, .int .i64 h.time, .slice o1 h.root.length c1, .slice o2 h.vals.length c2, .slice o3 h.next.length c3]
    | 13 => X = .int .i64 (wrongH h)
    | 14 => X = .bool false
    | 15 => X = .bool false
    | 22 => X = .bool false
    | 23 => X = .bool false
    | _ => True) ?_ (by kernel_rfl) ?_ ?_
  · intro i X W W' HB H
    match i, H with
    | 0, H => exact H
    | 1, H => exact H
    | 2, H => exact H
    | 3, H => exact H
    | 4, H => exact H
    | 5, H => exact (H.below HB).mono HB.size
    | 6, H => exact H
    | 7, H => exact (H.below HB).mono HB.size
    | 8, H => exact H
    | 9, H => exact H
    | 10, H => exact H
    | 11, H => exact H
    | 12, H => exact H
    | 13, H => exact H
    | 14, H => exact H
    | 15, H => exact H
    | 22, H => exact H
    | 23, H => exact H
    | 16, _ => exact trivial
    | 17, _ => exact trivial
    | 18, _ => exact trivial
    | 19, _ => exact trivial
    | 20, _ => exact trivial
    | 21, _ => exact trivial
    | _ + 24, _ => exact trivial
  · refine ⟨?_, ?_, ?_, ?_, ?_, ?_, ?_, ?_, ?_, ?_, ?_, ?_, ?_, ?_, ?_, ?_, ?_, ?_, ?_, ?_, ?_, ?_, ?_, ?_, trivial⟩
    · -- 0: Op.move t0
      intro σ W HJ hdep
      simp [Region.binds] at hdep
      have HJ := hid HJ
      refine wpOp_plain rfl rfl ?_
      go_simp
      exact Left.mk0 (lv) (by first | rfl | simp [updF, *]) HJ.out rfl
    · -- 1: Op.call { value (Operand.func 10), args := #[t57], argTypes 
      intro σ W HJ hdep
      simp [Region.binds] at hdep
      have HJ := hid HJ
      have HC := hid (refValsC l lv N W (hl.out.below (HJ.out.mono hN)) (Nat.le_trans hN HJ.out.size) hlen)
      refine wpOp_plain rfl rfl ?_
      go_simp
      refine (HC.out).mono ?_
      rintro e w2 ⟨rfl, hb2⟩
      exact Left.mk (.int .i64 (valsN l)) (by first | rfl | simp [updF, *]) hb2 HJ.out rfl
    · -- 2: Op.binOp BinOp.eql 30 t58 (const (0:i64)) 30
      intro σ W HJ hdep
      simp [Region.binds] at hdep
      have HJ := hid HJ
      have eb := hvb
      refine wpOp_plain rfl rfl ?_
      go_simp
      exact Left.mk0 (.bool true) (by first | rfl | simp [updF, *]) HJ.out rfl
    · -- 3: Op.move t59
      intro σ W HJ hdep
      simp [Region.binds] at hdep
      have HJ := hid HJ
      refine wpOp_plain rfl rfl ?_
      go_simp
      exact Left.mk0 (.bool true) (by first | rfl | simp [updF, *]) HJ.out rfl
    · -- 4: Op.move t0   [guarded: some (3, true)]
      intro σ W HJ hdep
      simp [Region.binds] at hdep
      have HJ := hid HJ
      refine wpOp_guarded rfl (by simp [Region.wanted, yielded, *]) ?_
      go_simp
      exact Left.mk0 (lv) (by first | rfl | simp [updF, *]) HJ.out rfl
    · -- 5: Op.call { value (Operand.func 19), args := #[t61], argTypes 
      intro σ W HJ hdep
      simp [Region.binds] at hdep
      have HJ := hid HJ
      have HC := hid (digestC l lv N W (htab.out.below HJ.out htab.out.lt) (hl.out.below (HJ.out.mono hN)) (Nat.le_trans hN HJ.out.size) h10 hok.out)
      refine wpOp_guarded rfl (by simp [Region.wanted, yielded, *]) ?_
      go_simp
      refine (HC.out).mono ?_
      rintro e w2 ⟨v, rfl, hv2, hb2⟩
      exact Left.mk v (by first | rfl | simp [updF, *]) hb2 HJ.out hv2
    · -- 6: Op.move t0   [guarded: some (3, true)]
      intro σ W HJ hdep
      simp [Region.binds] at hdep
      have HJ := hid HJ
      refine wpOp_guarded rfl (by simp [Region.wanted, yielded, *]) ?_
      go_simp
      exact Left.mk0 (lv) (by first | rfl | simp [updF, *]) HJ.out rfl
    · -- 7: Op.call { value (Operand.func 20), args := #[t63], argTypes 
      intro σ W HJ hdep
      simp [Region.binds] at hdep
      have HJ := hid HJ
      have HC := hid (refDigestC l lv N W (htab.out.below HJ.out htab.out.lt) (hl.out.below (HJ.out.mono hN)) (Nat.le_trans hN HJ.out.size) h10 hok.out)
      refine wpOp_guarded rfl (by simp [Region.wanted, yielded, *]) ?_
      go_simp
      refine (HC.out).mono ?_
      rintro e w2 ⟨v, rfl, hv2, hb2⟩
      exact Left.mk v (by first | rfl | simp [updF, *]) hb2 HJ.out hv2
    · -- 8: Op.call { value (Operand.func 18), args := #[t62, t64], argT
      intro σ W HJ hdep
      simp [Region.binds] at hdep
      have HJ := hid HJ
      have ha : Bytes W W.heap.size (σ 5) (digV l) := by first | exact hdep.1 | exact hdep.2.1 | exact hdep.2.2.1
      have hb : Bytes W W.heap.size (σ 7) (digV l) := by first | exact hdep.2.1 | exact hdep.2.2.1 | exact hdep.2.2 | exact hdep.2
      have HE := hid (sameB_any (digV l) (digV l) (σ 5) (σ 7) W.heap.size W.heap.size W ha hb (by rw [digV_length]; omega) (by rw [digV_length]; omega))
      rw [decide_eq_true rfl] at HE
      clear ha hb
      refine wpOp_guarded rfl (by simp [Region.wanted, yielded, *]) ?_
      go_simp
      refine HE.out.mono ?_
      rintro e w2 ⟨rfl, nq, rfl⟩
      exact Left.mk (.bool true) (by first | rfl | simp [updF, *]) (below_drewH W nq _) HJ.out rfl
    · -- 9: Op.unOp UnOp.not 4 t65   [guarded: some (3, true)]
      intro σ W HJ hdep
      simp [Region.binds] at hdep
      have HJ := hid HJ
      refine wpOp_guarded rfl (by simp [Region.wanted, yielded, *]) ?_
      go_simp
      exact Left.mk0 (.bool false) (by first | rfl | simp [updF, *]) HJ.out rfl
    · -- 10: Op.pick t60 t66 (const (Value.bool false))
      intro σ W HJ hdep
      simp [Region.binds] at hdep
      have HJ := hid HJ
      refine wpOp_plain rfl rfl ?_
      go_simp
      exact Left.mk0 (.bool false) (by first | rfl | simp [updF, *]) HJ.out rfl
    · -- 11: Op.move t67
      intro σ W HJ hdep
      simp [Region.binds] at hdep
      have HJ := hid HJ
      refine wpOp_plain rfl rfl ?_
      go_simp
      exact Left.mk0 (.bool false) (by first | rfl | simp [updF, *]) HJ.out rfl
    · -- 12: Op.load 25 t6   [guarded: some (11, false)]
      intro σ W HJ hdep
      simp [Region.binds] at hdep
      have HJ := hid HJ
      have k0 := (hr.out.below HJ.out hr.out.lt).cell 0
      have k1 := (hr.out.below HJ.out hr.out.lt).cell 1
      have k2 := (hr.out.below HJ.out hr.out.lt).cell 2
      have k3 := (hr.out.below HJ.out hr.out.lt).cell 3
      have k4 := (hr.out.below HJ.out hr.out.lt).cell 4
      have k5 := (hr.out.below HJ.out hr.out.lt).cell 5
      simp at k0
      simp at k1
      simp at k2
      simp at k3
      simp at k4
      simp at k5
      refine wpOp_guarded rfl (by simp [Region.wanted, yielded, *]) ?_
      go_simp
      exact Left.mk0 (.agg #[.string h.chain, .int .i64 h.height, .int .i64 h.time, .slice o1 h.root.length c1, .slice o2 h.vals.length c2, .slice o3 h.next.length c3]) (by first | rfl | simp [updF, *]) HJ.out rfl
    · -- 13: Op.call { value (Operand.func 12), args := #[t69], argTypes 
      intro σ W HJ hdep
      simp [Region.binds] at hdep
      have HJ := hid HJ
      have HC := hid (refWrong_any h (.agg #[.string h.chain, .int .i64 h.height, .int .i64 h.time, .slice o1 h.root.length c1, .slice o2 h.vals.length c2, .slice o3 h.next.length c3]) N W (hv.out.below (HJ.out.mono hN)) hf)
      refine wpOp_guarded rfl (by simp [Region.wanted, yielded, *]) ?_
      go_simp
      refine (HC.out).mono ?_
      rintro e w2 ⟨rfl, hb2⟩
      exact Left.mk (.int .i64 (wrongH h)) (by first | rfl | simp [updF, *]) hb2 HJ.out rfl
    · -- 14: Op.binOp BinOp.eql 30 t70 (const (0:i64)) 30   [guarded: som
      intro σ W HJ hdep
      simp [Region.binds] at hdep
      have HJ := hid HJ
      have eb := hwb
      refine wpOp_guarded rfl (by simp [Region.wanted, yielded, *]) ?_
      go_simp
      exact Left.mk0 (.bool false) (by first | rfl | simp [updF, *]) HJ.out rfl
    · -- 15: Op.move t71   [guarded: some (11, false)]
      intro σ W HJ hdep
      simp [Region.binds] at hdep
      have HJ := hid HJ
      refine wpOp_guarded rfl (by simp [Region.wanted, yielded, *]) ?_
      go_simp
      exact Left.mk0 (.bool false) (by first | rfl | simp [updF, *]) HJ.out rfl
    · -- 16: Op.load 25 t6   [guarded: some (15, true)]
      intro σ W HJ hdep
      simp [Region.binds] at hdep
      have HJ := hid HJ
      have eg : σ 15 = .bool false := by first | exact hdep | exact hdep.1 | exact hdep.2 | exact hdep.2.1 | exact hdep.2.2 | exact hdep.2.2.1 | exact hdep.2.2.2
      clear hdep
      refine wpOp_unwanted rfl (by simp [Region.wanted, yielded, *]) ?_
      exact Left.mk0 undef (by first | rfl | simp [updF, *]) HJ.out trivial
    · -- 17: Op.call { value (Operand.func 21), args := #[t73], argTypes 
      intro σ W HJ hdep
      simp [Region.binds] at hdep
      have HJ := hid HJ
      have eg : σ 15 = .bool false := by first | exact hdep | exact hdep.1 | exact hdep.2 | exact hdep.2.1 | exact hdep.2.2 | exact hdep.2.2.1 | exact hdep.2.2.2
      clear hdep
      refine wpOp_unwanted rfl (by simp [Region.wanted, yielded, *]) ?_
      exact Left.mk0 undef (by first | rfl | simp [updF, *]) HJ.out trivial
    · -- 18: Op.load 25 t6   [guarded: some (15, true)]
      intro σ W HJ hdep
      simp [Region.binds] at hdep
      have HJ := hid HJ
      have eg : σ 15 = .bool false := by first | exact hdep | exact hdep.1 | exact hdep.2 | exact hdep.2.1 | exact hdep.2.2 | exact hdep.2.2.1 | exact hdep.2.2.2
      clear hdep
      refine wpOp_unwanted rfl (by simp [Region.wanted, yielded, *]) ?_
      exact Left.mk0 undef (by first | rfl | simp [updF, *]) HJ.out trivial
    · -- 19: Op.call { value (Operand.func 22), args := #[t75], argTypes 
      intro σ W HJ hdep
      simp [Region.binds] at hdep
      have HJ := hid HJ
      have eg : σ 15 = .bool false := by first | exact hdep | exact hdep.1 | exact hdep.2 | exact hdep.2.1 | exact hdep.2.2 | exact hdep.2.2.1 | exact hdep.2.2.2
      clear hdep
      refine wpOp_unwanted rfl (by simp [Region.wanted, yielded, *]) ?_
      exact Left.mk0 undef (by first | rfl | simp [updF, *]) HJ.out trivial
    · -- 20: Op.call { value (Operand.func 18), args := #[t74, t76], argT
      intro σ W HJ hdep
      simp [Region.binds] at hdep
      have HJ := hid HJ
      have eg : σ 15 = .bool false := by first | exact hdep | exact hdep.1 | exact hdep.2 | exact hdep.2.1 | exact hdep.2.2 | exact hdep.2.2.1 | exact hdep.2.2.2
      clear hdep
      refine wpOp_unwanted rfl (by simp [Region.wanted, yielded, *]) ?_
      exact Left.mk0 undef (by first | rfl | simp [updF, *]) HJ.out trivial
    · -- 21: Op.unOp UnOp.not 4 t77   [guarded: some (15, true)]
      intro σ W HJ hdep
      simp [Region.binds] at hdep
      have HJ := hid HJ
      have eg : σ 15 = .bool false := by first | exact hdep | exact hdep.1 | exact hdep.2 | exact hdep.2.1 | exact hdep.2.2 | exact hdep.2.2.1 | exact hdep.2.2.2
      clear hdep
      refine wpOp_unwanted rfl (by simp [Region.wanted, yielded, *]) ?_
      exact Left.mk0 undef (by first | rfl | simp [updF, *]) HJ.out trivial
    · -- 22: Op.pick t72 t78 (const (Value.bool false))   [guarded: some 
      intro σ W HJ hdep
      simp [Region.binds] at hdep
      have HJ := hid HJ
      refine wpOp_guarded rfl (by simp [Region.wanted, yielded, *]) ?_
      go_simp
      exact Left.mk0 (.bool false) (by first | rfl | simp [updF, *]) HJ.out rfl
    · -- 23: Op.pick t68 (const (Value.bool true)) t79
      intro σ W HJ hdep
      simp [Region.binds] at hdep
      have HJ := hid HJ
      refine wpOp_plain rfl rfl ?_
      go_simp
      exact Left.mk0 (.bool false) (by first | rfl | simp [updF, *]) HJ.out rfl
  · intro σ w' hb hg
    exact hQ.out σ w' hb (by first | exact ⟨hg 23 (by decide)⟩ | exact hg 23 (by decide))
end Go.Proofs.YtfpngilmdgeikaaDoor
namespace Go.Proofs.YtfpngilmdgeikaaDoor
open Go.RowKit

set_option maxRecDepth 100000 in
set_option maxHeartbeats 4000000 in
theorem tellsRegion7nw {y1 y2 y3 y4 y5 y7 y9 y10 y11 y12 y13 y14 y15 y16 y17 y18 y19 y20 y21 y22 y23 y24 y25 y26 y27 y28 y29 y30 y31 y32 y33 y34 y35 y36 y37 y38 y39 y40 y41 y42 y43 y44 y45 y46 y47 y48 y49 y50 y51 y52 y53 y54 y55 y56 y81 y82 y83 y84 y85 y86 y87 y88 y89 y90 y91 y92 y93 y94 y95 y96 y97 z57 z58 z59 z60 z61 z62 z63 z64 z65 z66 z67 z68 z69 z70 z71 z72 z73 z74 z75 z76 z77 z78 z79 z80 : Value} {g gs N : Nat} (l : List Vl) (h : Hd) (s : Sg) (lv : Value) (o1 o2 o3 p1 p2 p3 p4 p5 : Option Addr) (c1 c2 c3 d1 d2 d3 d4 d5 : Nat) {w : World} (_htab : Hid (tableAt w)) (hN : N ≤ w.heap.size) (hr : Hid (Row w g 25 [.string h.chain, .int .i64 h.height, .int .i64 h.time, .slice o1 h.root.length c1, .slice o2 h.vals.length c2, .slice o3 h.next.length c3])) (_hrs : Hid (Row w gs 29 [.string s.hd.chain, .int .i64 s.hd.height, .int .i64 s.hd.time, .slice p1 s.hd.root.length d1, .slice p2 s.hd.vals.length d2, .slice p3 s.hd.next.length d3, .slice p4 s.vals.length d4, .slice p5 s.votes.length d5])) (hl : Hid (Vals w N lv l)) (hlen : l.length < 2305843009213693952) (_hok : Hid (∀ v ∈ l, v.ok)) (hv : Hid (HdV w N (.agg #[.string h.chain, .int .i64 h.height, .int .i64 h.time, .slice o1 h.root.length c1, .slice o2 h.vals.length c2, .slice o3 h.next.length c3]) h)) (hf : h.fits) (_hs : Hid (SgV w N (.agg #[.string s.hd.chain, .int .i64 s.hd.height, .int .i64 s.hd.time, .slice p1 s.hd.root.length d1, .slice p2 s.hd.vals.length d2, .slice p3 s.hd.next.length d3, .slice p4 s.vals.length d4, .slice p5 s.votes.length d5]) s)) (_hsf : s.fits) (hw : Hid (wrongH h = 0)) (hvb : (valsN l == 0) = false) (hwb : (wrongH h == 0) = true) (Q : Exit → Act → World → Prop)
    (hQ : Hid (∀ (σ : Nat → Value) (w' : World), Below w.heap.size w w' → /-23-/ σ 23 = .bool false → Q .normal ⟨#[lv, y1, y2, y3, y4, y5, .pointer (some ⟨g, 0, none⟩), y7, .pointer (some ⟨gs, 0, none⟩), y9, y10, y11, y12, y13, y14, y15, y16, y17, y18, y19, y20, y21, y22, y23, y24, y25, y26, y27, y28, y29, y30, y31, y32, y33, y34, y35, y36, y37, y38, y39, y40, y41, y42, y43, y44, y45, y46, y47, y48, y49, y50, y51, y52, y53, y54, y55, y56, σ 0, σ 1, σ 2, σ 3, σ 4, σ 5, σ 6, σ 7, σ 8, σ 9, σ 10, σ 11, σ 12, σ 13, σ 14, σ 15, σ 16, σ 17, σ 18, σ 19, σ 20, σ 21, σ 22, σ 23, y81, y82, y83, y84, y85, y86, y87, y88, y89, y90, y91, y92, y93, y94, y95, y96, y97], []⟩ w')) :
    Code.wp Tryd.prog (.region 7 ((Tryd.f3.body.bind (regOf 7)).getD #[]) true) Q ⟨#[lv, y1, y2, y3, y4, y5, .pointer (some ⟨g, 0, none⟩), y7, .pointer (some ⟨gs, 0, none⟩), y9, y10, y11, y12, y13, y14, y15, y16, y17, y18, y19, y20, y21, y22, y23, y24, y25, y26, y27, y28, y29, y30, y31, y32, y33, y34, y35, y36, y37, y38, y39, y40, y41, y42, y43, y44, y45, y46, y47, y48, y49, y50, y51, y52, y53, y54, y55, y56, z57, z58, z59, z60, z61, z62, z63, z64, z65, z66, z67, z68, z69, z70, z71, z72, z73, z74, z75, z76, z77, z78, z79, z80, y81, y82, y83, y84, y85, y86, y87, y88, y89, y90, y91, y92, y93, y94, y95, y96, y97], []⟩ w := by
  conv => arg 2; arg 2; whnf
  conv => arg 4; dsimp only
  refine region_grows (by kernel_rfl) (fun σ => #[lv, y1, y2, y3, y4, y5, .pointer (some ⟨g, 0, none⟩), y7, .pointer (some ⟨gs, 0, none⟩), y9, y10, y11, y12, y13, y14, y15, y16, y17, y18, y19, y20, y21, y22, y23, y24, y25, y26, y27, y28, y29, y30, y31, y32, y33, y34, y35, y36, y37, y38, y39, y40, y41, y42, y43, y44, y45, y46, y47, y48, y49, y50, y51, y52, y53, y54, y55, y56, σ 0, σ 1, σ 2, σ 3, σ 4, σ 5, σ 6, σ 7, σ 8, σ 9, σ 10, σ 11, σ 12, σ 13, σ 14, σ 15, σ 16, σ 17, σ 18, σ 19, σ 20, σ 21, σ 22, σ 23, y81, y82, y83, y84, y85, y86, y87, y88, y89, y90, y91, y92, y93, y94, y95, y96, y97]) (fun i => ([z57, z58, z59, z60, z61, z62, z63, z64, z65, z66, z67, z68, z69, z70, z71, z72, z73, z74, z75, z76, z77, z78, z79, z80] : List Value).getD i undef) rfl (fun i X W => match i with
    | 0 => X = lv
    | 1 => X = .int .i64 (valsN l)
    | 2 => X = .bool false
    | 3 => X = .bool false
    | 10 => X = .bool false
    | 11 => X = .bool false
    | 12 => X = .agg #[.string h.chain, .int .i64 h.height, .int .i64 h.time, .slice o1 h.root.length c1, .slice o2 h.vals.length c2, .slice o3 h.next.length c3]
    | 13 => X = .int .i64 (wrongH h)
    | 14 => X = .bool true
    | 15 => X = .bool true
    | 16 => X = .agg #[.string h.chain, .int .i64 h.height, .int .i64 h.time, .slice o1 h.root.length c1, .slice o2 h.vals.length c2, .slice o3 h.next.length c3]
    | 17 => Bytes W W.heap.size X (bytesH h)
    | 18 => X = .agg #[.string h.chain, .int .i64 h.height, .int .i64 h.time, .slice o1 h.root.length c1, .slice o2 h.vals.length c2, .slice o3 h.next.length c3]
    | 19 => Bytes W W.heap.size X (bytesH h)
    | 20 => X = .bool true
    | 21 => X = .bool false
    | 22 => X = .bool false
    | 23 => X = .bool false
    | _ => True) ?_ (by kernel_rfl) ?_ ?_
  · intro i X W W' HB H
    match i, H with
    | 0, H => exact H
    | 1, H => exact H
    | 2, H => exact H
    | 3, H => exact H
    | 10, H => exact H
    | 11, H => exact H
    | 12, H => exact H
    | 13, H => exact H
    | 14, H => exact H
    | 15, H => exact H
    | 16, H => exact H
    | 17, H => exact (H.below HB).mono HB.size
    | 18, H => exact H
    | 19, H => exact (H.below HB).mono HB.size
    | 20, H => exact H
    | 21, H => exact H
    | 22, H => exact H
    | 23, H => exact H
    | 4, _ => exact trivial
    | 5, _ => exact trivial
    | 6, _ => exact trivial
    | 7, _ => exact trivial
    | 8, _ => exact trivial
    | 9, _ => exact trivial
    | _ + 24, _ => exact trivial
  · refine ⟨?_, ?_, ?_, ?_, ?_, ?_, ?_, ?_, ?_, ?_, ?_, ?_, ?_, ?_, ?_, ?_, ?_, ?_, ?_, ?_, ?_, ?_, ?_, ?_, trivial⟩
    · -- 0: Op.move t0
      intro σ W HJ hdep
      simp [Region.binds] at hdep
      have HJ := hid HJ
      refine wpOp_plain rfl rfl ?_
      go_simp
      exact Left.mk0 (lv) (by first | rfl | simp [updF, *]) HJ.out rfl
    · -- 1: Op.call { value (Operand.func 10), args := #[t57], argTypes 
      intro σ W HJ hdep
      simp [Region.binds] at hdep
      have HJ := hid HJ
      have HC := hid (refValsC l lv N W (hl.out.below (HJ.out.mono hN)) (Nat.le_trans hN HJ.out.size) hlen)
      refine wpOp_plain rfl rfl ?_
      go_simp
      refine (HC.out).mono ?_
      rintro e w2 ⟨rfl, hb2⟩
      exact Left.mk (.int .i64 (valsN l)) (by first | rfl | simp [updF, *]) hb2 HJ.out rfl
    · -- 2: Op.binOp BinOp.eql 30 t58 (const (0:i64)) 30
      intro σ W HJ hdep
      simp [Region.binds] at hdep
      have HJ := hid HJ
      have eb := hvb
      refine wpOp_plain rfl rfl ?_
      go_simp
      exact Left.mk0 (.bool false) (by first | rfl | simp [updF, *]) HJ.out rfl
    · -- 3: Op.move t59
      intro σ W HJ hdep
      simp [Region.binds] at hdep
      have HJ := hid HJ
      refine wpOp_plain rfl rfl ?_
      go_simp
      exact Left.mk0 (.bool false) (by first | rfl | simp [updF, *]) HJ.out rfl
    · -- 4: Op.move t0   [guarded: some (3, true)]
      intro σ W HJ hdep
      simp [Region.binds] at hdep
      have HJ := hid HJ
      have eg : σ 3 = .bool false := by first | exact hdep | exact hdep.1 | exact hdep.2 | exact hdep.2.1 | exact hdep.2.2 | exact hdep.2.2.1 | exact hdep.2.2.2
      clear hdep
      refine wpOp_unwanted rfl (by simp [Region.wanted, yielded, *]) ?_
      exact Left.mk0 undef (by first | rfl | simp [updF, *]) HJ.out trivial
    · -- 5: Op.call { value (Operand.func 19), args := #[t61], argTypes 
      intro σ W HJ hdep
      simp [Region.binds] at hdep
      have HJ := hid HJ
      have eg : σ 3 = .bool false := by first | exact hdep | exact hdep.1 | exact hdep.2 | exact hdep.2.1 | exact hdep.2.2 | exact hdep.2.2.1 | exact hdep.2.2.2
      clear hdep
      refine wpOp_unwanted rfl (by simp [Region.wanted, yielded, *]) ?_
      exact Left.mk0 undef (by first | rfl | simp [updF, *]) HJ.out trivial
    · -- 6: Op.move t0   [guarded: some (3, true)]
      intro σ W HJ hdep
      simp [Region.binds] at hdep
      have HJ := hid HJ
      have eg : σ 3 = .bool false := by first | exact hdep | exact hdep.1 | exact hdep.2 | exact hdep.2.1 | exact hdep.2.2 | exact hdep.2.2.1 | exact hdep.2.2.2
      clear hdep
      refine wpOp_unwanted rfl (by simp [Region.wanted, yielded, *]) ?_
      exact Left.mk0 undef (by first | rfl | simp [updF, *]) HJ.out trivial
    · -- 7: Op.call { value (Operand.func 20), args := #[t63], argTypes 
      intro σ W HJ hdep
      simp [Region.binds] at hdep
      have HJ := hid HJ
      have eg : σ 3 = .bool false := by first | exact hdep | exact hdep.1 | exact hdep.2 | exact hdep.2.1 | exact hdep.2.2 | exact hdep.2.2.1 | exact hdep.2.2.2
      clear hdep
      refine wpOp_unwanted rfl (by simp [Region.wanted, yielded, *]) ?_
      exact Left.mk0 undef (by first | rfl | simp [updF, *]) HJ.out trivial
    · -- 8: Op.call { value (Operand.func 18), args := #[t62, t64], argT
      intro σ W HJ hdep
      simp [Region.binds] at hdep
      have HJ := hid HJ
      have eg : σ 3 = .bool false := by first | exact hdep | exact hdep.1 | exact hdep.2 | exact hdep.2.1 | exact hdep.2.2 | exact hdep.2.2.1 | exact hdep.2.2.2
      clear hdep
      refine wpOp_unwanted rfl (by simp [Region.wanted, yielded, *]) ?_
      exact Left.mk0 undef (by first | rfl | simp [updF, *]) HJ.out trivial
    · -- 9: Op.unOp UnOp.not 4 t65   [guarded: some (3, true)]
      intro σ W HJ hdep
      simp [Region.binds] at hdep
      have HJ := hid HJ
      have eg : σ 3 = .bool false := by first | exact hdep | exact hdep.1 | exact hdep.2 | exact hdep.2.1 | exact hdep.2.2 | exact hdep.2.2.1 | exact hdep.2.2.2
      clear hdep
      refine wpOp_unwanted rfl (by simp [Region.wanted, yielded, *]) ?_
      exact Left.mk0 undef (by first | rfl | simp [updF, *]) HJ.out trivial
    · -- 10: Op.pick t60 t66 (const (Value.bool false))
      intro σ W HJ hdep
      simp [Region.binds] at hdep
      have HJ := hid HJ
      refine wpOp_plain rfl rfl ?_
      go_simp
      exact Left.mk0 (.bool false) (by first | rfl | simp [updF, *]) HJ.out rfl
    · -- 11: Op.move t67
      intro σ W HJ hdep
      simp [Region.binds] at hdep
      have HJ := hid HJ
      refine wpOp_plain rfl rfl ?_
      go_simp
      exact Left.mk0 (.bool false) (by first | rfl | simp [updF, *]) HJ.out rfl
    · -- 12: Op.load 25 t6   [guarded: some (11, false)]
      intro σ W HJ hdep
      simp [Region.binds] at hdep
      have HJ := hid HJ
      have k0 := (hr.out.below HJ.out hr.out.lt).cell 0
      have k1 := (hr.out.below HJ.out hr.out.lt).cell 1
      have k2 := (hr.out.below HJ.out hr.out.lt).cell 2
      have k3 := (hr.out.below HJ.out hr.out.lt).cell 3
      have k4 := (hr.out.below HJ.out hr.out.lt).cell 4
      have k5 := (hr.out.below HJ.out hr.out.lt).cell 5
      simp at k0
      simp at k1
      simp at k2
      simp at k3
      simp at k4
      simp at k5
      refine wpOp_guarded rfl (by simp [Region.wanted, yielded, *]) ?_
      go_simp
      exact Left.mk0 (.agg #[.string h.chain, .int .i64 h.height, .int .i64 h.time, .slice o1 h.root.length c1, .slice o2 h.vals.length c2, .slice o3 h.next.length c3]) (by first | rfl | simp [updF, *]) HJ.out rfl
    · -- 13: Op.call { value (Operand.func 12), args := #[t69], argTypes 
      intro σ W HJ hdep
      simp [Region.binds] at hdep
      have HJ := hid HJ
      have HC := hid (refWrong_any h (.agg #[.string h.chain, .int .i64 h.height, .int .i64 h.time, .slice o1 h.root.length c1, .slice o2 h.vals.length c2, .slice o3 h.next.length c3]) N W (hv.out.below (HJ.out.mono hN)) hf)
      refine wpOp_guarded rfl (by simp [Region.wanted, yielded, *]) ?_
      go_simp
      refine (HC.out).mono ?_
      rintro e w2 ⟨rfl, hb2⟩
      exact Left.mk (.int .i64 (wrongH h)) (by first | rfl | simp [updF, *]) hb2 HJ.out rfl
    · -- 14: Op.binOp BinOp.eql 30 t70 (const (0:i64)) 30   [guarded: som
      intro σ W HJ hdep
      simp [Region.binds] at hdep
      have HJ := hid HJ
      have eb := hwb
      refine wpOp_guarded rfl (by simp [Region.wanted, yielded, *]) ?_
      go_simp
      exact Left.mk0 (.bool true) (by first | rfl | simp [updF, *]) HJ.out rfl
    · -- 15: Op.move t71   [guarded: some (11, false)]
      intro σ W HJ hdep
      simp [Region.binds] at hdep
      have HJ := hid HJ
      refine wpOp_guarded rfl (by simp [Region.wanted, yielded, *]) ?_
      go_simp
      exact Left.mk0 (.bool true) (by first | rfl | simp [updF, *]) HJ.out rfl
    · -- 16: Op.load 25 t6   [guarded: some (15, true)]
      intro σ W HJ hdep
      simp [Region.binds] at hdep
      have HJ := hid HJ
      have k0 := (hr.out.below HJ.out hr.out.lt).cell 0
      have k1 := (hr.out.below HJ.out hr.out.lt).cell 1
      have k2 := (hr.out.below HJ.out hr.out.lt).cell 2
      have k3 := (hr.out.below HJ.out hr.out.lt).cell 3
      have k4 := (hr.out.below HJ.out hr.out.lt).cell 4
      have k5 := (hr.out.below HJ.out hr.out.lt).cell 5
      simp at k0
      simp at k1
      simp at k2
      simp at k3
      simp at k4
      simp at k5
      refine wpOp_guarded rfl (by simp [Region.wanted, yielded, *]) ?_
      go_simp
      exact Left.mk0 (.agg #[.string h.chain, .int .i64 h.height, .int .i64 h.time, .slice o1 h.root.length c1, .slice o2 h.vals.length c2, .slice o3 h.next.length c3]) (by first | rfl | simp [updF, *]) HJ.out rfl
    · -- 17: Op.call { value (Operand.func 21), args := #[t73], argTypes 
      intro σ W HJ hdep
      simp [Region.binds] at hdep
      have HJ := hid HJ
      have HC := hid (bytesC h (.agg #[.string h.chain, .int .i64 h.height, .int .i64 h.time, .slice o1 h.root.length c1, .slice o2 h.vals.length c2, .slice o3 h.next.length c3]) N W (hv.out.below (HJ.out.mono hN)) (Nat.le_trans hN HJ.out.size) hw.out)
      refine wpOp_guarded rfl (by simp [Region.wanted, yielded, *]) ?_
      go_simp
      refine (HC.out).mono ?_
      rintro e w2 ⟨v, rfl, hv2, hb2⟩
      exact Left.mk v (by first | rfl | simp [updF, *]) hb2 HJ.out hv2
    · -- 18: Op.load 25 t6   [guarded: some (15, true)]
      intro σ W HJ hdep
      simp [Region.binds] at hdep
      have HJ := hid HJ
      have k0 := (hr.out.below HJ.out hr.out.lt).cell 0
      have k1 := (hr.out.below HJ.out hr.out.lt).cell 1
      have k2 := (hr.out.below HJ.out hr.out.lt).cell 2
      have k3 := (hr.out.below HJ.out hr.out.lt).cell 3
      have k4 := (hr.out.below HJ.out hr.out.lt).cell 4
      have k5 := (hr.out.below HJ.out hr.out.lt).cell 5
      simp at k0
      simp at k1
      simp at k2
      simp at k3
      simp at k4
      simp at k5
      refine wpOp_guarded rfl (by simp [Region.wanted, yielded, *]) ?_
      go_simp
      exact Left.mk0 (.agg #[.string h.chain, .int .i64 h.height, .int .i64 h.time, .slice o1 h.root.length c1, .slice o2 h.vals.length c2, .slice o3 h.next.length c3]) (by first | rfl | simp [updF, *]) HJ.out rfl
    · -- 19: Op.call { value (Operand.func 22), args := #[t75], argTypes 
      intro σ W HJ hdep
      simp [Region.binds] at hdep
      have HJ := hid HJ
      have HC := hid (refBytesC h (.agg #[.string h.chain, .int .i64 h.height, .int .i64 h.time, .slice o1 h.root.length c1, .slice o2 h.vals.length c2, .slice o3 h.next.length c3]) N W (hv.out.below (HJ.out.mono hN)) (Nat.le_trans hN HJ.out.size) hw.out)
      refine wpOp_guarded rfl (by simp [Region.wanted, yielded, *]) ?_
      go_simp
      refine (HC.out).mono ?_
      rintro e w2 ⟨v, rfl, hv2, hb2⟩
      exact Left.mk v (by first | rfl | simp [updF, *]) hb2 HJ.out hv2
    · -- 20: Op.call { value (Operand.func 18), args := #[t74, t76], argT
      intro σ W HJ hdep
      simp [Region.binds] at hdep
      have HJ := hid HJ
      have ha : Bytes W W.heap.size (σ 17) (bytesH h) := by first | exact hdep.1 | exact hdep.2.1 | exact hdep.2.2.1
      have hb : Bytes W W.heap.size (σ 19) (bytesH h) := by first | exact hdep.2.1 | exact hdep.2.2.1 | exact hdep.2.2 | exact hdep.2
      have HE := hid (sameB_any (bytesH h) (bytesH h) (σ 17) (σ 19) W.heap.size W.heap.size W ha hb (by have := wrs_head h hw.out; omega) (by have := wrs_head h hw.out; omega))
      rw [decide_eq_true rfl] at HE
      clear ha hb
      refine wpOp_guarded rfl (by simp [Region.wanted, yielded, *]) ?_
      go_simp
      refine HE.out.mono ?_
      rintro e w2 ⟨rfl, nq, rfl⟩
      exact Left.mk (.bool true) (by first | rfl | simp [updF, *]) (below_drewH W nq _) HJ.out rfl
    · -- 21: Op.unOp UnOp.not 4 t77   [guarded: some (15, true)]
      intro σ W HJ hdep
      simp [Region.binds] at hdep
      have HJ := hid HJ
      refine wpOp_guarded rfl (by simp [Region.wanted, yielded, *]) ?_
      go_simp
      exact Left.mk0 (.bool false) (by first | rfl | simp [updF, *]) HJ.out rfl
    · -- 22: Op.pick t72 t78 (const (Value.bool false))   [guarded: some 
      intro σ W HJ hdep
      simp [Region.binds] at hdep
      have HJ := hid HJ
      refine wpOp_guarded rfl (by simp [Region.wanted, yielded, *]) ?_
      go_simp
      exact Left.mk0 (.bool false) (by first | rfl | simp [updF, *]) HJ.out rfl
    · -- 23: Op.pick t68 (const (Value.bool true)) t79
      intro σ W HJ hdep
      simp [Region.binds] at hdep
      have HJ := hid HJ
      refine wpOp_plain rfl rfl ?_
      go_simp
      exact Left.mk0 (.bool false) (by first | rfl | simp [updF, *]) HJ.out rfl
  · intro σ w' hb hg
    exact hQ.out σ w' hb (by first | exact ⟨hg 23 (by decide)⟩ | exact hg 23 (by decide))
set_option maxRecDepth 100000 in
set_option maxHeartbeats 4000000 in
theorem tellsRegion7nn {y1 y2 y3 y4 y5 y7 y9 y10 y11 y12 y13 y14 y15 y16 y17 y18 y19 y20 y21 y22 y23 y24 y25 y26 y27 y28 y29 y30 y31 y32 y33 y34 y35 y36 y37 y38 y39 y40 y41 y42 y43 y44 y45 y46 y47 y48 y49 y50 y51 y52 y53 y54 y55 y56 y81 y82 y83 y84 y85 y86 y87 y88 y89 y90 y91 y92 y93 y94 y95 y96 y97 z57 z58 z59 z60 z61 z62 z63 z64 z65 z66 z67 z68 z69 z70 z71 z72 z73 z74 z75 z76 z77 z78 z79 z80 : Value} {g gs N : Nat} (l : List Vl) (h : Hd) (s : Sg) (lv : Value) (o1 o2 o3 p1 p2 p3 p4 p5 : Option Addr) (c1 c2 c3 d1 d2 d3 d4 d5 : Nat) {w : World} (_htab : Hid (tableAt w)) (hN : N ≤ w.heap.size) (hr : Hid (Row w g 25 [.string h.chain, .int .i64 h.height, .int .i64 h.time, .slice o1 h.root.length c1, .slice o2 h.vals.length c2, .slice o3 h.next.length c3])) (_hrs : Hid (Row w gs 29 [.string s.hd.chain, .int .i64 s.hd.height, .int .i64 s.hd.time, .slice p1 s.hd.root.length d1, .slice p2 s.hd.vals.length d2, .slice p3 s.hd.next.length d3, .slice p4 s.vals.length d4, .slice p5 s.votes.length d5])) (hl : Hid (Vals w N lv l)) (hlen : l.length < 2305843009213693952) (_hok : Hid (∀ v ∈ l, v.ok)) (hv : Hid (HdV w N (.agg #[.string h.chain, .int .i64 h.height, .int .i64 h.time, .slice o1 h.root.length c1, .slice o2 h.vals.length c2, .slice o3 h.next.length c3]) h)) (hf : h.fits) (_hs : Hid (SgV w N (.agg #[.string s.hd.chain, .int .i64 s.hd.height, .int .i64 s.hd.time, .slice p1 s.hd.root.length d1, .slice p2 s.hd.vals.length d2, .slice p3 s.hd.next.length d3, .slice p4 s.vals.length d4, .slice p5 s.votes.length d5]) s)) (_hsf : s.fits) (hvb : (valsN l == 0) = false) (hwb : (wrongH h == 0) = false) (Q : Exit → Act → World → Prop)
    (hQ : Hid (∀ (σ : Nat → Value) (w' : World), Below w.heap.size w w' → /-23-/ σ 23 = .bool false → Q .normal ⟨#[lv, y1, y2, y3, y4, y5, .pointer (some ⟨g, 0, none⟩), y7, .pointer (some ⟨gs, 0, none⟩), y9, y10, y11, y12, y13, y14, y15, y16, y17, y18, y19, y20, y21, y22, y23, y24, y25, y26, y27, y28, y29, y30, y31, y32, y33, y34, y35, y36, y37, y38, y39, y40, y41, y42, y43, y44, y45, y46, y47, y48, y49, y50, y51, y52, y53, y54, y55, y56, σ 0, σ 1, σ 2, σ 3, σ 4, σ 5, σ 6, σ 7, σ 8, σ 9, σ 10, σ 11, σ 12, σ 13, σ 14, σ 15, σ 16, σ 17, σ 18, σ 19, σ 20, σ 21, σ 22, σ 23, y81, y82, y83, y84, y85, y86, y87, y88, y89, y90, y91, y92, y93, y94, y95, y96, y97], []⟩ w')) :
    Code.wp Tryd.prog (.region 7 ((Tryd.f3.body.bind (regOf 7)).getD #[]) true) Q ⟨#[lv, y1, y2, y3, y4, y5, .pointer (some ⟨g, 0, none⟩), y7, .pointer (some ⟨gs, 0, none⟩), y9, y10, y11, y12, y13, y14, y15, y16, y17, y18, y19, y20, y21, y22, y23, y24, y25, y26, y27, y28, y29, y30, y31, y32, y33, y34, y35, y36, y37, y38, y39, y40, y41, y42, y43, y44, y45, y46, y47, y48, y49, y50, y51, y52, y53, y54, y55, y56, z57, z58, z59, z60, z61, z62, z63, z64, z65, z66, z67, z68, z69, z70, z71, z72, z73, z74, z75, z76, z77, z78, z79, z80, y81, y82, y83, y84, y85, y86, y87, y88, y89, y90, y91, y92, y93, y94, y95, y96, y97], []⟩ w := by
  conv => arg 2; arg 2; whnf
  conv => arg 4; dsimp only
  refine region_grows (by kernel_rfl) (fun σ => #[lv, y1, y2, y3, y4, y5, .pointer (some ⟨g, 0, none⟩), y7, .pointer (some ⟨gs, 0, none⟩), y9, y10, y11, y12, y13, y14, y15, y16, y17, y18, y19, y20, y21, y22, y23, y24, y25, y26, y27, y28, y29, y30, y31, y32, y33, y34, y35, y36, y37, y38, y39, y40, y41, y42, y43, y44, y45, y46, y47, y48, y49, y50, y51, y52, y53, y54, y55, y56, σ 0, σ 1, σ 2, σ 3, σ 4, σ 5, σ 6, σ 7, σ 8, σ 9, σ 10, σ 11, σ 12, σ 13, σ 14, σ 15, σ 16, σ 17, σ 18, σ 19, σ 20, σ 21, σ 22, σ 23, y81, y82, y83, y84, y85, y86, y87, y88, y89, y90, y91, y92, y93, y94, y95, y96, y97]) (fun i => ([z57, z58, z59, z60, z61, z62, z63, z64, z65, z66, z67, z68, z69, z70, z71, z72, z73, z74, z75, z76, z77, z78, z79, z80] : List Value).getD i undef) rfl (fun i X W => match i with
    | 0 => X = lv
    | 1 => X = .int .i64 (valsN l)
    | 2 => X = .bool false
    | 3 => X = .bool false
    | 10 => X = .bool false
    | 11 => X = .bool false
    | 12 => X = .agg #[.string h.chain, .int .i64 h.height, .int .i64 h.time, .slice o1 h.root.length c1, .slice o2 h.vals.length c2, .slice o3 h.next.length c3]
    | 13 => X = .int .i64 (wrongH h)
    | 14 => X = .bool false
    | 15 => X = .bool false
    | 22 => X = .bool false
    | 23 => X = .bool false
    | _ => True) ?_ (by kernel_rfl) ?_ ?_
  · intro i X W W' HB H
    match i, H with
    | 0, H => exact H
    | 1, H => exact H
    | 2, H => exact H
    | 3, H => exact H
    | 10, H => exact H
    | 11, H => exact H
    | 12, H => exact H
    | 13, H => exact H
    | 14, H => exact H
    | 15, H => exact H
    | 22, H => exact H
    | 23, H => exact H
    | 4, _ => exact trivial
    | 5, _ => exact trivial
    | 6, _ => exact trivial
    | 7, _ => exact trivial
    | 8, _ => exact trivial
    | 9, _ => exact trivial
    | 16, _ => exact trivial
    | 17, _ => exact trivial
    | 18, _ => exact trivial
    | 19, _ => exact trivial
    | 20, _ => exact trivial
    | 21, _ => exact trivial
    | _ + 24, _ => exact trivial
  · refine ⟨?_, ?_, ?_, ?_, ?_, ?_, ?_, ?_, ?_, ?_, ?_, ?_, ?_, ?_, ?_, ?_, ?_, ?_, ?_, ?_, ?_, ?_, ?_, ?_, trivial⟩
    · -- 0: Op.move t0
      intro σ W HJ hdep
      simp [Region.binds] at hdep
      have HJ := hid HJ
      refine wpOp_plain rfl rfl ?_
      go_simp
      exact Left.mk0 (lv) (by first | rfl | simp [updF, *]) HJ.out rfl
    · -- 1: Op.call { value (Operand.func 10), args := #[t57], argTypes 
      intro σ W HJ hdep
      simp [Region.binds] at hdep
      have HJ := hid HJ
      have HC := hid (refValsC l lv N W (hl.out.below (HJ.out.mono hN)) (Nat.le_trans hN HJ.out.size) hlen)
      refine wpOp_plain rfl rfl ?_
      go_simp
      refine (HC.out).mono ?_
      rintro e w2 ⟨rfl, hb2⟩
      exact Left.mk (.int .i64 (valsN l)) (by first | rfl | simp [updF, *]) hb2 HJ.out rfl
    · -- 2: Op.binOp BinOp.eql 30 t58 (const (0:i64)) 30
      intro σ W HJ hdep
      simp [Region.binds] at hdep
      have HJ := hid HJ
      have eb := hvb
      refine wpOp_plain rfl rfl ?_
      go_simp
      exact Left.mk0 (.bool false) (by first | rfl | simp [updF, *]) HJ.out rfl
    · -- 3: Op.move t59
      intro σ W HJ hdep
      simp [Region.binds] at hdep
      have HJ := hid HJ
      refine wpOp_plain rfl rfl ?_
      go_simp
      exact Left.mk0 (.bool false) (by first | rfl | simp [updF, *]) HJ.out rfl
    · -- 4: Op.move t0   [guarded: some (3, true)]
      intro σ W HJ hdep
      simp [Region.binds] at hdep
      have HJ := hid HJ
      have eg : σ 3 = .bool false := by first | exact hdep | exact hdep.1 | exact hdep.2 | exact hdep.2.1 | exact hdep.2.2 | exact hdep.2.2.1 | exact hdep.2.2.2
      clear hdep
      refine wpOp_unwanted rfl (by simp [Region.wanted, yielded, *]) ?_
      exact Left.mk0 undef (by first | rfl | simp [updF, *]) HJ.out trivial
    · -- 5: Op.call { value (Operand.func 19), args := #[t61], argTypes 
      intro σ W HJ hdep
      simp [Region.binds] at hdep
      have HJ := hid HJ
      have eg : σ 3 = .bool false := by first | exact hdep | exact hdep.1 | exact hdep.2 | exact hdep.2.1 | exact hdep.2.2 | exact hdep.2.2.1 | exact hdep.2.2.2
      clear hdep
      refine wpOp_unwanted rfl (by simp [Region.wanted, yielded, *]) ?_
      exact Left.mk0 undef (by first | rfl | simp [updF, *]) HJ.out trivial
    · -- 6: Op.move t0   [guarded: some (3, true)]
      intro σ W HJ hdep
      simp [Region.binds] at hdep
      have HJ := hid HJ
      have eg : σ 3 = .bool false := by first | exact hdep | exact hdep.1 | exact hdep.2 | exact hdep.2.1 | exact hdep.2.2 | exact hdep.2.2.1 | exact hdep.2.2.2
      clear hdep
      refine wpOp_unwanted rfl (by simp [Region.wanted, yielded, *]) ?_
      exact Left.mk0 undef (by first | rfl | simp [updF, *]) HJ.out trivial
    · -- 7: Op.call { value (Operand.func 20), args := #[t63], argTypes 
      intro σ W HJ hdep
      simp [Region.binds] at hdep
      have HJ := hid HJ
      have eg : σ 3 = .bool false := by first | exact hdep | exact hdep.1 | exact hdep.2 | exact hdep.2.1 | exact hdep.2.2 | exact hdep.2.2.1 | exact hdep.2.2.2
      clear hdep
      refine wpOp_unwanted rfl (by simp [Region.wanted, yielded, *]) ?_
      exact Left.mk0 undef (by first | rfl | simp [updF, *]) HJ.out trivial
    · -- 8: Op.call { value (Operand.func 18), args := #[t62, t64], argT
      intro σ W HJ hdep
      simp [Region.binds] at hdep
      have HJ := hid HJ
      have eg : σ 3 = .bool false := by first | exact hdep | exact hdep.1 | exact hdep.2 | exact hdep.2.1 | exact hdep.2.2 | exact hdep.2.2.1 | exact hdep.2.2.2
      clear hdep
      refine wpOp_unwanted rfl (by simp [Region.wanted, yielded, *]) ?_
      exact Left.mk0 undef (by first | rfl | simp [updF, *]) HJ.out trivial
    · -- 9: Op.unOp UnOp.not 4 t65   [guarded: some (3, true)]
      intro σ W HJ hdep
      simp [Region.binds] at hdep
      have HJ := hid HJ
      have eg : σ 3 = .bool false := by first | exact hdep | exact hdep.1 | exact hdep.2 | exact hdep.2.1 | exact hdep.2.2 | exact hdep.2.2.1 | exact hdep.2.2.2
      clear hdep
      refine wpOp_unwanted rfl (by simp [Region.wanted, yielded, *]) ?_
      exact Left.mk0 undef (by first | rfl | simp [updF, *]) HJ.out trivial
    · -- 10: Op.pick t60 t66 (const (Value.bool false))
      intro σ W HJ hdep
      simp [Region.binds] at hdep
      have HJ := hid HJ
      refine wpOp_plain rfl rfl ?_
      go_simp
      exact Left.mk0 (.bool false) (by first | rfl | simp [updF, *]) HJ.out rfl
    · -- 11: Op.move t67
      intro σ W HJ hdep
      simp [Region.binds] at hdep
      have HJ := hid HJ
      refine wpOp_plain rfl rfl ?_
      go_simp
      exact Left.mk0 (.bool false) (by first | rfl | simp [updF, *]) HJ.out rfl
    · -- 12: Op.load 25 t6   [guarded: some (11, false)]
      intro σ W HJ hdep
      simp [Region.binds] at hdep
      have HJ := hid HJ
      have k0 := (hr.out.below HJ.out hr.out.lt).cell 0
      have k1 := (hr.out.below HJ.out hr.out.lt).cell 1
      have k2 := (hr.out.below HJ.out hr.out.lt).cell 2
      have k3 := (hr.out.below HJ.out hr.out.lt).cell 3
      have k4 := (hr.out.below HJ.out hr.out.lt).cell 4
      have k5 := (hr.out.below HJ.out hr.out.lt).cell 5
      simp at k0
      simp at k1
      simp at k2
      simp at k3
      simp at k4
      simp at k5
      refine wpOp_guarded rfl (by simp [Region.wanted, yielded, *]) ?_
      go_simp
      exact Left.mk0 (.agg #[.string h.chain, .int .i64 h.height, .int .i64 h.time, .slice o1 h.root.length c1, .slice o2 h.vals.length c2, .slice o3 h.next.length c3]) (by first | rfl | simp [updF, *]) HJ.out rfl
    · -- 13: Op.call { value (Operand.func 12), args := #[t69], argTypes 
      intro σ W HJ hdep
      simp [Region.binds] at hdep
      have HJ := hid HJ
      have HC := hid (refWrong_any h (.agg #[.string h.chain, .int .i64 h.height, .int .i64 h.time, .slice o1 h.root.length c1, .slice o2 h.vals.length c2, .slice o3 h.next.length c3]) N W (hv.out.below (HJ.out.mono hN)) hf)
      refine wpOp_guarded rfl (by simp [Region.wanted, yielded, *]) ?_
      go_simp
      refine (HC.out).mono ?_
      rintro e w2 ⟨rfl, hb2⟩
      exact Left.mk (.int .i64 (wrongH h)) (by first | rfl | simp [updF, *]) hb2 HJ.out rfl
    · -- 14: Op.binOp BinOp.eql 30 t70 (const (0:i64)) 30   [guarded: som
      intro σ W HJ hdep
      simp [Region.binds] at hdep
      have HJ := hid HJ
      have eb := hwb
      refine wpOp_guarded rfl (by simp [Region.wanted, yielded, *]) ?_
      go_simp
      exact Left.mk0 (.bool false) (by first | rfl | simp [updF, *]) HJ.out rfl
    · -- 15: Op.move t71   [guarded: some (11, false)]
      intro σ W HJ hdep
      simp [Region.binds] at hdep
      have HJ := hid HJ
      refine wpOp_guarded rfl (by simp [Region.wanted, yielded, *]) ?_
      go_simp
      exact Left.mk0 (.bool false) (by first | rfl | simp [updF, *]) HJ.out rfl
    · -- 16: Op.load 25 t6   [guarded: some (15, true)]
      intro σ W HJ hdep
      simp [Region.binds] at hdep
      have HJ := hid HJ
      have eg : σ 15 = .bool false := by first | exact hdep | exact hdep.1 | exact hdep.2 | exact hdep.2.1 | exact hdep.2.2 | exact hdep.2.2.1 | exact hdep.2.2.2
      clear hdep
      refine wpOp_unwanted rfl (by simp [Region.wanted, yielded, *]) ?_
      exact Left.mk0 undef (by first | rfl | simp [updF, *]) HJ.out trivial
    · -- 17: Op.call { value (Operand.func 21), args := #[t73], argTypes 
      intro σ W HJ hdep
      simp [Region.binds] at hdep
      have HJ := hid HJ
      have eg : σ 15 = .bool false := by first | exact hdep | exact hdep.1 | exact hdep.2 | exact hdep.2.1 | exact hdep.2.2 | exact hdep.2.2.1 | exact hdep.2.2.2
      clear hdep
      refine wpOp_unwanted rfl (by simp [Region.wanted, yielded, *]) ?_
      exact Left.mk0 undef (by first | rfl | simp [updF, *]) HJ.out trivial
    · -- 18: Op.load 25 t6   [guarded: some (15, true)]
      intro σ W HJ hdep
      simp [Region.binds] at hdep
      have HJ := hid HJ
      have eg : σ 15 = .bool false := by first | exact hdep | exact hdep.1 | exact hdep.2 | exact hdep.2.1 | exact hdep.2.2 | exact hdep.2.2.1 | exact hdep.2.2.2
      clear hdep
      refine wpOp_unwanted rfl (by simp [Region.wanted, yielded, *]) ?_
      exact Left.mk0 undef (by first | rfl | simp [updF, *]) HJ.out trivial
    · -- 19: Op.call { value (Operand.func 22), args := #[t75], argTypes 
      intro σ W HJ hdep
      simp [Region.binds] at hdep
      have HJ := hid HJ
      have eg : σ 15 = .bool false := by first | exact hdep | exact hdep.1 | exact hdep.2 | exact hdep.2.1 | exact hdep.2.2 | exact hdep.2.2.1 | exact hdep.2.2.2
      clear hdep
      refine wpOp_unwanted rfl (by simp [Region.wanted, yielded, *]) ?_
      exact Left.mk0 undef (by first | rfl | simp [updF, *]) HJ.out trivial
    · -- 20: Op.call { value (Operand.func 18), args := #[t74, t76], argT
      intro σ W HJ hdep
      simp [Region.binds] at hdep
      have HJ := hid HJ
      have eg : σ 15 = .bool false := by first | exact hdep | exact hdep.1 | exact hdep.2 | exact hdep.2.1 | exact hdep.2.2 | exact hdep.2.2.1 | exact hdep.2.2.2
      clear hdep
      refine wpOp_unwanted rfl (by simp [Region.wanted, yielded, *]) ?_
      exact Left.mk0 undef (by first | rfl | simp [updF, *]) HJ.out trivial
    · -- 21: Op.unOp UnOp.not 4 t77   [guarded: some (15, true)]
      intro σ W HJ hdep
      simp [Region.binds] at hdep
      have HJ := hid HJ
      have eg : σ 15 = .bool false := by first | exact hdep | exact hdep.1 | exact hdep.2 | exact hdep.2.1 | exact hdep.2.2 | exact hdep.2.2.1 | exact hdep.2.2.2
      clear hdep
      refine wpOp_unwanted rfl (by simp [Region.wanted, yielded, *]) ?_
      exact Left.mk0 undef (by first | rfl | simp [updF, *]) HJ.out trivial
    · -- 22: Op.pick t72 t78 (const (Value.bool false))   [guarded: some 
      intro σ W HJ hdep
      simp [Region.binds] at hdep
      have HJ := hid HJ
      refine wpOp_guarded rfl (by simp [Region.wanted, yielded, *]) ?_
      go_simp
      exact Left.mk0 (.bool false) (by first | rfl | simp [updF, *]) HJ.out rfl
    · -- 23: Op.pick t68 (const (Value.bool true)) t79
      intro σ W HJ hdep
      simp [Region.binds] at hdep
      have HJ := hid HJ
      refine wpOp_plain rfl rfl ?_
      go_simp
      exact Left.mk0 (.bool false) (by first | rfl | simp [updF, *]) HJ.out rfl
  · intro σ w' hb hg
    exact hQ.out σ w' hb (by first | exact ⟨hg 23 (by decide)⟩ | exact hg 23 (by decide))
end Go.Proofs.YtfpngilmdgeikaaDoor
