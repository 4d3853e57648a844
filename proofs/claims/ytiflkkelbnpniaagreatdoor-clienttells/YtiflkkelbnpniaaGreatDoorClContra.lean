/-
  What package client's contradict and Catch answer.
-/
import Derived.Test.YtiflkkelbnpniaaGreatDoorClFollow
import Derived.Test.YtiflkkelbnpniaaGreatDoorClAsk
import Derived.Test.YtiflkkelbnpniaaGreatDoorRegions
namespace Go.Proofs.YtiflkkelbnpniaaGreatDoor
open Go.RowKit

theorem wpOp_wantsC {P : Program} {ops : Array Oper} {Q : Exit → Act → World → Prop} {i : Nat} {o : Oper} {K : Act → World → Prop} {a : Act} {w : World} (ho : ops[i]? = some o) (hw : Region.wanted o (yielded ops a.tmps) = true) (h : o.wp P a w K Q) : wpOp P ops Q i K a w := by
  unfold wpOp
  rw [ho]
  simp only [hw, if_true]
  exact .inl h
set_option maxRecDepth 100000 in
set_option maxHeartbeats 4000000 in
theorem contraRegion {y0 y1 z4 z5 z6 z7 z8 z9 z10 z11 z12 z13 z14 z15 z16 z17 : Value} {ga gb N : Nat} (a b : Hd) (o1 o2 o3 r1 r2 r3 : Option Addr) (c1 c2 c3 s1 s2 s3 : Nat) {w : World} (hN : N ≤ w.heap.size) (hra : Hid (Row w ga 29 [.string a.chain, .int .i64 a.height, .int .i64 a.time, .slice o1 a.root.length c1, .slice o2 a.vals.length c2, .slice o3 a.next.length c3])) (hrb : Hid (Row w gb 29 [.string b.chain, .int .i64 b.height, .int .i64 b.time, .slice r1 b.root.length s1, .slice r2 b.vals.length s2, .slice r3 b.next.length s3])) (hva : Hid (HdV w N (.agg #[.string a.chain, .int .i64 a.height, .int .i64 a.time, .slice o1 a.root.length c1, .slice o2 a.vals.length c2, .slice o3 a.next.length c3]) a)) (hvb : Hid (HdV w N (.agg #[.string b.chain, .int .i64 b.height, .int .i64 b.time, .slice r1 b.root.length s1, .slice r2 b.vals.length s2, .slice r3 b.next.length s3]) b)) (hwa : Hid (wrongH a = 0)) (hwb : Hid (wrongH b = 0)) (heq : Hid ((a.height == b.height) = true)) (Q : Exit → Act → World → Prop)
    (hQ : Hid (∀ (σ : Nat → Value) (w' : World), Below w.heap.size w w' → /-13-/ σ 13 = .bool (!decide (bytesH a = bytesH b)) → Q .normal ⟨#[y0, y1, .pointer (some ⟨ga, 0, none⟩), .pointer (some ⟨gb, 0, none⟩), σ 13, σ 0, σ 1, σ 2, σ 3, σ 4, σ 5, σ 6, σ 7, σ 8, σ 9, σ 10, σ 11, σ 12], []⟩ w')) :
    Code.wp Tryz.prog (.region 1 ((Tryz.f40.body.bind (regOf 1)).getD #[]) true) Q ⟨#[y0, y1, .pointer (some ⟨ga, 0, none⟩), .pointer (some ⟨gb, 0, none⟩), z4, z5, z6, z7, z8, z9, z10, z11, z12, z13, z14, z15, z16, z17], []⟩ w := by
  conv => arg 2; arg 2; whnf
  conv => arg 4; dsimp only
  refine region_grows (by kernel_rfl) (fun σ => #[y0, y1, .pointer (some ⟨ga, 0, none⟩), .pointer (some ⟨gb, 0, none⟩), σ 13, σ 0, σ 1, σ 2, σ 3, σ 4, σ 5, σ 6, σ 7, σ 8, σ 9, σ 10, σ 11, σ 12]) (fun i => ([z5, z6, z7, z8, z9, z10, z11, z12, z13, z14, z15, z16, z17, z4] : List Value).getD i undef) rfl (fun i X W => match i with
    | 0 => X = .pointer (some ⟨ga, 1, none⟩)
    | 1 => X = .int .i64 a.height
    | 2 => X = .pointer (some ⟨gb, 1, none⟩)
    | 3 => X = .int .i64 b.height
    | 4 => X = .bool true
    | 5 => X = .bool true
    | 6 => X = .agg #[.string a.chain, .int .i64 a.height, .int .i64 a.time, .slice o1 a.root.length c1, .slice o2 a.vals.length c2, .slice o3 a.next.length c3]
    | 7 => Bytes W W.heap.size X (bytesH a)
    | 8 => X = .agg #[.string b.chain, .int .i64 b.height, .int .i64 b.time, .slice r1 b.root.length s1, .slice r2 b.vals.length s2, .slice r3 b.next.length s3]
    | 9 => Bytes W W.heap.size X (bytesH b)
    | 10 => X = .bool (decide (bytesH a = bytesH b))
    | 11 => X = .bool (!decide (bytesH a = bytesH b))
    | 12 => X = .bool (!decide (bytesH a = bytesH b))
    | 13 => X = .bool (!decide (bytesH a = bytesH b))
    | _ => True) ?_ (by kernel_rfl) ?_ ?_
  · intro i X W W' HB H
    match i, H with
    | 0, H => exact H
    | 1, H => exact H
    | 2, H => exact H
    | 3, H => exact H
    | 4, H => exact H
    | 5, H => exact H
    | 6, H => exact H
    | 7, H => exact (H.below HB).mono HB.size
    | 8, H => exact H
    | 9, H => exact (H.below HB).mono HB.size
    | 10, H => exact H
    | 11, H => exact H
    | 12, H => exact H
    | 13, H => exact H
    | _ + 14, _ => exact trivial
  · refine ⟨?_, ?_, ?_, ?_, ?_, ?_, ?_, ?_, ?_, ?_, ?_, ?_, ?_, ?_, trivial⟩
    · -- 0: Op.fieldAddr 29 t2 1
      intro σ W HJ hdep
      simp [Region.binds] at hdep
      have HJ := hid HJ
      refine wpOp_plain rfl rfl ?_
      go_simp
      exact Left.mk0 (.pointer (some ⟨ga, 1, none⟩)) (by first | rfl | simp [updF, *]) HJ.out rfl
    · -- 1: Op.load 3 t5
      intro σ W HJ hdep
      simp [Region.binds] at hdep
      have HJ := hid HJ
      have kc := (hra.out.below HJ.out hra.out.lt).cell 1
      simp at kc
      refine wpOp_plain rfl rfl ?_
      go_simp
      exact Left.mk0 (.int .i64 a.height) (by first | rfl | simp [updF, *]) HJ.out rfl
    · -- 2: Op.fieldAddr 29 t3 1
      intro σ W HJ hdep
      simp [Region.binds] at hdep
      have HJ := hid HJ
      refine wpOp_plain rfl rfl ?_
      go_simp
      exact Left.mk0 (.pointer (some ⟨gb, 1, none⟩)) (by first | rfl | simp [updF, *]) HJ.out rfl
    · -- 3: Op.load 3 t7
      intro σ W HJ hdep
      simp [Region.binds] at hdep
      have HJ := hid HJ
      have kc := (hrb.out.below HJ.out hrb.out.lt).cell 1
      simp at kc
      refine wpOp_plain rfl rfl ?_
      go_simp
      exact Left.mk0 (.int .i64 b.height) (by first | rfl | simp [updF, *]) HJ.out rfl
    · -- 4: Op.binOp BinOp.eql 3 t6 t8 3
      intro σ W HJ hdep
      simp [Region.binds] at hdep
      have HJ := hid HJ
      have eb := heq.out
      obtain ⟨u1, u2⟩ : σ 1 = .int .i64 a.height ∧ σ 3 = .int .i64 b.height := by first | exact hdep | exact ⟨hdep.1, hdep.2.1⟩
      refine wpOp_plain rfl rfl ?_
      go_simp
      exact Left.mk0 (.bool true) (by first | rfl | simp [updF, *]) HJ.out rfl
    · -- 5: Op.move t9
      intro σ W HJ hdep
      simp [Region.binds] at hdep
      have HJ := hid HJ
      refine wpOp_plain rfl rfl ?_
      go_simp
      exact Left.mk0 (.bool true) (by first | rfl | simp [updF, *]) HJ.out rfl
    · -- 6: Op.load 29 t2   [guarded: some (5, true)]
      intro σ W HJ hdep
      simp [Region.binds] at hdep
      have HJ := hid HJ
      have k0 := (hra.out.below HJ.out hra.out.lt).cell 0
      have k1 := (hra.out.below HJ.out hra.out.lt).cell 1
      have k2 := (hra.out.below HJ.out hra.out.lt).cell 2
      have k3 := (hra.out.below HJ.out hra.out.lt).cell 3
      have k4 := (hra.out.below HJ.out hra.out.lt).cell 4
      have k5 := (hra.out.below HJ.out hra.out.lt).cell 5
      simp at k0
      simp at k1
      simp at k2
      simp at k3
      simp at k4
      simp at k5
      refine wpOp_wantsC rfl (by simp [Region.wanted, yielded, *]) ?_
      go_simp
      exact Left.mk0 (.agg #[.string a.chain, .int .i64 a.height, .int .i64 a.time, .slice o1 a.root.length c1, .slice o2 a.vals.length c2, .slice o3 a.next.length c3]) (by first | rfl | simp [updF, *]) HJ.out rfl
    · -- 7: Op.call { value (Operand.func 75), args := #[t11], argTypes 
      intro σ W HJ hdep
      simp [Region.binds] at hdep
      have HJ := hid HJ
      have HC := hid (bytesC a (.agg #[.string a.chain, .int .i64 a.height, .int .i64 a.time, .slice o1 a.root.length c1, .slice o2 a.vals.length c2, .slice o3 a.next.length c3]) N W (hva.out.below (HJ.out.mono hN)) (Nat.le_trans hN HJ.out.size) hwa.out)
      refine wpOp_wantsC rfl (by simp [Region.wanted, yielded, *]) ?_
      go_simp
      refine (HC.out).mono ?_
      rintro e w2 ⟨v, rfl, hv2, hb2⟩
      exact Left.mk v (by first | rfl | simp [updF, *]) hb2 HJ.out hv2
    · -- 8: Op.load 29 t3   [guarded: some (5, true)]
      intro σ W HJ hdep
      simp [Region.binds] at hdep
      have HJ := hid HJ
      have k0 := (hrb.out.below HJ.out hrb.out.lt).cell 0
      have k1 := (hrb.out.below HJ.out hrb.out.lt).cell 1
      have k2 := (hrb.out.below HJ.out hrb.out.lt).cell 2
      have k3 := (hrb.out.below HJ.out hrb.out.lt).cell 3
      have k4 := (hrb.out.below HJ.out hrb.out.lt).cell 4
      have k5 := (hrb.out.below HJ.out hrb.out.lt).cell 5
      simp at k0
      simp at k1
      simp at k2
      simp at k3
      simp at k4
      simp at k5
      refine wpOp_wantsC rfl (by simp [Region.wanted, yielded, *]) ?_
      go_simp
      exact Left.mk0 (.agg #[.string b.chain, .int .i64 b.height, .int .i64 b.time, .slice r1 b.root.length s1, .slice r2 b.vals.length s2, .slice r3 b.next.length s3]) (by first | rfl | simp [updF, *]) HJ.out rfl
    · -- 9: Op.call { value (Operand.func 75), args := #[t13], argTypes 
      intro σ W HJ hdep
      simp [Region.binds] at hdep
      have HJ := hid HJ
      have HC := hid (bytesC b (.agg #[.string b.chain, .int .i64 b.height, .int .i64 b.time, .slice r1 b.root.length s1, .slice r2 b.vals.length s2, .slice r3 b.next.length s3]) N W (hvb.out.below (HJ.out.mono hN)) (Nat.le_trans hN HJ.out.size) hwb.out)
      refine wpOp_wantsC rfl (by simp [Region.wanted, yielded, *]) ?_
      go_simp
      refine (HC.out).mono ?_
      rintro e w2 ⟨v, rfl, hv2, hb2⟩
      exact Left.mk v (by first | rfl | simp [updF, *]) hb2 HJ.out hv2
    · -- 10: Op.call { value (Operand.func 55), args := #[t12, t14], argT
      intro σ W HJ hdep
      simp [Region.binds] at hdep
      have HJ := hid HJ
      have ha : Bytes W W.heap.size (σ 7) (bytesH a) := by first | exact hdep.1 | exact hdep.2.1 | exact hdep.2.2.1
      have hb : Bytes W W.heap.size (σ 9) (bytesH b) := by first | exact hdep.2.1 | exact hdep.1 | exact hdep.2.2.1 | exact hdep.2
      have HE := hid (equal_any (bytesH a) (bytesH b) (σ 7) (σ 9) W.heap.size W.heap.size W ha hb)
      clear ha hb
      refine wpOp_wantsC rfl (by simp [Region.wanted, yielded, *]) ?_
      go_simp
      refine HE.out.mono ?_
      rintro e w2 ⟨rfl, hw2⟩
      obtain rfl := hw2.symm
      exact Left.mk0 (.bool (decide (bytesH a = bytesH b))) (by first | rfl | simp [updF, *]) HJ.out rfl
    · -- 11: Op.unOp UnOp.not 4 t15   [guarded: some (5, true)]
      intro σ W HJ hdep
      simp [Region.binds] at hdep
      have HJ := hid HJ
      refine wpOp_wantsC rfl (by simp [Region.wanted, yielded, *]) ?_
      go_simp
      exact Left.mk0 (.bool (!decide (bytesH a = bytesH b))) (by first | rfl | simp [updF, *]) HJ.out rfl
    · -- 12: Op.pick t10 t16 (const (Value.bool false))
      intro σ W HJ hdep
      simp [Region.binds] at hdep
      have HJ := hid HJ
      refine wpOp_plain rfl rfl ?_
      go_simp
      exact Left.mk0 (.bool (!decide (bytesH a = bytesH b))) (by first | rfl | simp [updF, *]) HJ.out rfl
    · -- 13: Op.assign t17
      intro σ W HJ hdep
      simp [Region.binds] at hdep
      have HJ := hid HJ
      refine wpOp_plain rfl rfl ?_
      go_simp
      exact Left.mk0 (.bool (!decide (bytesH a = bytesH b))) (by first | rfl | simp [updF, *]) HJ.out rfl
  · intro σ w' hb hg
    exact hQ.out σ w' hb (by first | exact ⟨hg 13 (by decide)⟩ | exact hg 13 (by decide))
/-- do headers contradict each other -/
def contraB (a b : Hd) : Bool := decide (a.height = b.height) && !sameH a b
set_option maxRecDepth 100000 in
set_option maxHeartbeats 4000000 in
theorem contradict_any (a b : Hd) (av bv : Value) (N : Nat) (w : World) (hN : N ≤ w.heap.size) (ha : HdV w N av a) (hb : HdV w N bv b) (hwa : wrongH a = 0) (hwb : wrongH b = 0) :
    Calls Tryz.prog 40 #[av, bv] w fun e w' => e = .returned (.bool (contraB a b)) ∧ Below w.heap.size w w' := by
  have HVA := hid ha
  have HVB := hid hb
  obtain ⟨x1, x2, x3, rfl, h1, h2, h3⟩ := ha
  obtain ⟨o1, c1, rfl, -⟩ := h1.shape
  obtain ⟨o2, c2, rfl, -⟩ := h2.shape
  obtain ⟨o3, c3, rfl, -⟩ := h3.shape
  obtain ⟨x1, x2, x3, rfl, g1, g2, g3⟩ := hb
  obtain ⟨r1, s1, rfl, -⟩ := g1.shape
  obtain ⟨r2, s2, rfl, -⟩ := g2.shape
  obtain ⟨r3, s3, rfl, -⟩ := g3.shape
  obtain ⟨w0, hw0⟩ : ∃ w0, (w.alloc (.cells #[.string a.chain, .int .i64 a.height, .int .i64 a.time, .slice o1 a.root.length c1, .slice o2 a.vals.length c2, .slice o3 a.next.length c3] 29)).alloc (.cells #[.string b.chain, .int .i64 b.height, .int .i64 b.time, .slice r1 b.root.length s1, .slice r2 b.vals.length s2, .slice r3 b.next.length s3] 29) = w0 := ⟨_, rfl⟩
  have HB0 := hid (show Below w.heap.size w w0 by rw [← hw0]; exact ((Below.refl _ _).alloc (Nat.le_refl _) _).alloc (by simp) _)
  have HRA := hid (show Row w0 w.heap.size 29 [.string a.chain, .int .i64 a.height, .int .i64 a.time, .slice o1 a.root.length c1, .slice o2 a.vals.length c2, .slice o3 a.next.length c3] by rw [← hw0]; exact (Row.new _ _ _).alloc _)
  have HRB := hid (show Row w0 (w.heap.size + 1) 29 [.string b.chain, .int .i64 b.height, .int .i64 b.time, .slice r1 b.root.length s1, .slice r2 b.vals.length s2, .slice r3 b.next.length s3] by rw [← hw0]; exact Row.newAt _ _ _ _ (by simp))
  have HW0 := hid hw0
  clear h1 h2 h3 g1 g2 g3 hw0
  by_cases he : a.height = b.height
  · have HE := hid (show (a.height == b.height) = true by simpa using he)
    have HV := hid (show contraB a b = !decide (bytesH a = bytesH b) by
      unfold contraB
      rw [decide_eq_true he, Bool.true_and]
      congr 1
      rw [Bool.eq_iff_iff, sameH_iff, decide_eq_true_iff]
      exact ⟨fun h => by rw [h], bytesH_inj hwa hwb⟩)
    have HWA := hid hwa
    have HWB := hid hwb
    clear he hwa hwb
    go_enter Tryz.func40, Tryz.ntmps40
    go_wp2_with fail
    rw [HW0.out]
    refine contraRegion a b o1 o2 o3 r1 r2 r3 c1 c2 c3 s1 s2 s3 (Nat.le_trans hN HB0.out.size) HRA HRB (hid (HVA.out.below (HB0.out.mono hN))) (hid (HVB.out.below (HB0.out.mono hN))) HWA HWB HE _ (hid ?_)
    intro σ1 w2 hb2 h13
    have HB2 := hid (HB0.out.trans (hb2.mono HB0.out.size))
    rw [h13]
    clear hb2 h13
    go_wp2
    go_ret
    exact ⟨by rw [HV.out]; first | done | rfl, HB2.out⟩
  · have e1 : (a.height == b.height) = false := by simpa using he
    have HV := hid (show contraB a b = false by unfold contraB; rw [decide_eq_false he, Bool.false_and])
    have k1 := HRA.out.cell 1
    have k2 := HRB.out.cell 1
    simp only [List.getElem?_cons_zero, List.getElem?_cons_succ] at k1 k2
    clear he hwa hwb
    go_enter Tryz.func40, Tryz.ntmps40
    go_wp2_with fail
    rw [HW0.out]
    go_quiet (fail)
    go_wp2
    go_ret
    exact ⟨by rw [HV.out]; first | done | rfl, HB0.out.trans (below_drewH _ _ _)⟩
end Go.Proofs.YtiflkkelbnpniaaGreatDoor
