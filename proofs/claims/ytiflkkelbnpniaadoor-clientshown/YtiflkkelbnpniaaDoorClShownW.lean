/-
  ClientShown returns true, whatever a client, times, heights, keys, values, a proof and a gap read as.
-/
import Derived.Test.YtiflkkelbnpniaaDoorClRShown
import Derived.Test.YtiflkkelbnpniaaDoorRegions
namespace Go.Proofs.YtiflkkelbnpniaaDoor
open Go.RowKit

theorem wpOp_wants {P : Program} {ops : Array Oper} {Q : Exit → Act → World → Prop} {i : Nat} {o : Oper} {K : Act → World → Prop} {a : Act} {w : World} (ho : ops[i]? = some o) (hw : Region.wanted o (yielded ops a.tmps) = true) (h : o.wp P a w K Q) : wpOp P ops Q i K a w := by
  unfold wpOp
  rw [ho]
  simp only [hw, if_true]
  exact .inl h
set_option maxRecDepth 100000 in
set_option maxHeartbeats 4000000 in
theorem shownRegion {y0 y5 y6 y8 y9 y10 y11 z14 z15 z16 z17 z18 z19 z20 z21 z22 z23 z24 z25 z26 z27 z28 z29 z30 z31 z32 z33 z34 z35 z36 z37 z38 z39 z40 z41 z42 z43 z44 : Value} {gc gp gg N : Nat} (c : Cl) (now height : Int) (key val : List (BitVec 8)) (p : Prf) (g : Gp) (kv vv : Value) (zm za : Int) (oa q1 q2 q3 r1 r2 r3 r4 r5 r6 : Option Addr) (ca e1 e2 e3 s1 s2 s3 s4 s5 s6 : Nat) {w : World} (htab : Hid (tableAt w)) (hN : N ≤ w.heap.size) (hrc : Hid (Row w gc 24 [.string c.chain, .int .i64 c.trust, .bool c.frozen, .slice oa c.known.length ca])) (hrp : Hid (Row w gp 28 [.int .i64 p.index, .int .i64 p.size, .slice q1 p.key.length e1, .slice q2 p.val.length e2, .slice q3 p.path.length e3])) (hrg : Hid (Row w gg 30 [.bool g.hasL, .bool g.hasR, .int .i64 g.left.index, .int .i64 g.left.size, .slice r1 g.left.key.length s1, .slice r2 g.left.val.length s2, .slice r3 g.left.path.length s3, .int .i64 g.right.index, .int .i64 g.right.size, .slice r4 g.right.key.length s4, .slice r5 g.right.val.length s5, .slice r6 g.right.path.length s6])) (hcv : Hid (ClV w N (.agg #[.string c.chain, .int .i64 c.trust, .bool c.frozen, .slice oa c.known.length ca]) c)) (hkv : Hid (Bytes w N kv key)) (hvv : Hid (Bytes w N vv val)) (hpv : Hid (PrfV w N (.agg #[.int .i64 p.index, .int .i64 p.size, .slice q1 p.key.length e1, .slice q2 p.val.length e2, .slice q3 p.path.length e3]) p)) (hgv : Hid (GpV w N (.agg #[.bool g.hasL, .bool g.hasR, .int .i64 g.left.index, .int .i64 g.left.size, .slice r1 g.left.key.length s1, .slice r2 g.left.val.length s2, .slice r3 g.left.path.length s3, .int .i64 g.right.index, .int .i64 g.right.size, .slice r4 g.right.key.length s4, .slice r5 g.right.val.length s5, .slice r6 g.right.path.length s6]) g)) (hcf : Hid c.fits) (hkl : key.length ≤ 140737488351232) (hvl : val.length ≤ 140737488351232) (hpf : Hid p.fits) (hgf : Hid g.fits) (hzm : Hid (ShownN c now height (fun r => p.key = key ∧ p.val = val ∧ shownB r p) zm)) (hza : Hid (ShownN c now height (fun r => absentB r key g) za)) (Q : Exit → Act → World → Prop)
    (hQ : Hid (∀ (σ : Nat → Value) (w' : World), Below w.heap.size w w' → /-30-/ σ 30 = .bool true → Q .normal ⟨#[y0, .int .i64 now, .int .i64 height, kv, vv, y5, y6, .pointer (some ⟨gc, 0, none⟩), y8, y9, y10, y11, .pointer (some ⟨gp, 0, none⟩), .pointer (some ⟨gg, 0, none⟩), σ 30, σ 0, σ 1, σ 2, σ 3, σ 4, σ 5, σ 6, σ 7, σ 8, σ 9, σ 10, σ 11, σ 12, σ 13, σ 14, σ 15, σ 16, σ 17, σ 18, σ 19, σ 20, σ 21, σ 22, σ 23, σ 24, σ 25, σ 26, σ 27, σ 28, σ 29], []⟩ w')) :
    Code.wp Tryd.prog (.region 1 ((Tryd.f3.body.bind (regOf 1)).getD #[]) true) Q ⟨#[y0, .int .i64 now, .int .i64 height, kv, vv, y5, y6, .pointer (some ⟨gc, 0, none⟩), y8, y9, y10, y11, .pointer (some ⟨gp, 0, none⟩), .pointer (some ⟨gg, 0, none⟩), z14, z15, z16, z17, z18, z19, z20, z21, z22, z23, z24, z25, z26, z27, z28, z29, z30, z31, z32, z33, z34, z35, z36, z37, z38, z39, z40, z41, z42, z43, z44], []⟩ w := by
  conv => arg 2; arg 2; whnf
  conv => arg 4; dsimp only
  refine region_grows (by kernel_rfl) (fun σ => #[y0, .int .i64 now, .int .i64 height, kv, vv, y5, y6, .pointer (some ⟨gc, 0, none⟩), y8, y9, y10, y11, .pointer (some ⟨gp, 0, none⟩), .pointer (some ⟨gg, 0, none⟩), σ 30, σ 0, σ 1, σ 2, σ 3, σ 4, σ 5, σ 6, σ 7, σ 8, σ 9, σ 10, σ 11, σ 12, σ 13, σ 14, σ 15, σ 16, σ 17, σ 18, σ 19, σ 20, σ 21, σ 22, σ 23, σ 24, σ 25, σ 26, σ 27, σ 28, σ 29]) (fun i => ([z15, z16, z17, z18, z19, z20, z21, z22, z23, z24, z25, z26, z27, z28, z29, z30, z31, z32, z33, z34, z35, z36, z37, z38, z39, z40, z41, z42, z43, z44, z14] : List Value).getD i undef) rfl (fun i X W => match i with
    | 0 => X = .agg #[.string c.chain, .int .i64 c.trust, .bool c.frozen, .slice oa c.known.length ca]
    | 1 => X = .int .i64 now
    | 2 => X = .int .i64 height
    | 3 => X = kv
    | 4 => X = vv
    | 5 => X = .agg #[.int .i64 p.index, .int .i64 p.size, .slice q1 p.key.length e1, .slice q2 p.val.length e2, .slice q3 p.path.length e3]
    | 6 => X = .int .i64 zm
    | 7 => X = .agg #[.string c.chain, .int .i64 c.trust, .bool c.frozen, .slice oa c.known.length ca]
    | 8 => X = .int .i64 now
    | 9 => X = .int .i64 height
    | 10 => X = kv
    | 11 => X = vv
    | 12 => X = .agg #[.int .i64 p.index, .int .i64 p.size, .slice q1 p.key.length e1, .slice q2 p.val.length e2, .slice q3 p.path.length e3]
    | 13 => X = .int .i64 zm
    | 14 => X = .bool true
    | 15 => X = .bool true
    | 16 => X = .agg #[.string c.chain, .int .i64 c.trust, .bool c.frozen, .slice oa c.known.length ca]
    | 17 => X = .int .i64 now
    | 18 => X = .int .i64 height
    | 19 => X = kv
    | 20 => X = .agg #[.bool g.hasL, .bool g.hasR, .int .i64 g.left.index, .int .i64 g.left.size, .slice r1 g.left.key.length s1, .slice r2 g.left.val.length s2, .slice r3 g.left.path.length s3, .int .i64 g.right.index, .int .i64 g.right.size, .slice r4 g.right.key.length s4, .slice r5 g.right.val.length s5, .slice r6 g.right.path.length s6]
    | 21 => X = .int .i64 za
    | 22 => X = .agg #[.string c.chain, .int .i64 c.trust, .bool c.frozen, .slice oa c.known.length ca]
    | 23 => X = .int .i64 now
    | 24 => X = .int .i64 height
    | 25 => X = kv
    | 26 => X = .agg #[.bool g.hasL, .bool g.hasR, .int .i64 g.left.index, .int .i64 g.left.size, .slice r1 g.left.key.length s1, .slice r2 g.left.val.length s2, .slice r3 g.left.path.length s3, .int .i64 g.right.index, .int .i64 g.right.size, .slice r4 g.right.key.length s4, .slice r5 g.right.val.length s5, .slice r6 g.right.path.length s6]
    | 27 => X = .int .i64 za
    | 28 => X = .bool true
    | 29 => X = .bool true
    | 30 => X = .bool true
    | _ => True) ?_ (by kernel_rfl) ?_ ?_
  · intro i X W W' HB H
    match i, H with
    | 0, H => exact H
    | 1, H => exact H
    | 2, H => exact H
    | 3, H => exact H
    | 4, H => exact H
    | 5, H => exact H
    | 6, H => exact H
    | 7, H => exact H
    | 8, H => exact H
    | 9, H => exact H
    | 10, H => exact H
    | 11, H => exact H
    | 12, H => exact H
    | 13, H => exact H
    | 14, H => exact H
    | 15, H => exact H
    | 16, H => exact H
    | 17, H => exact H
    | 18, H => exact H
    | 19, H => exact H
    | 20, H => exact H
    | 21, H => exact H
    | 22, H => exact H
    | 23, H => exact H
    | 24, H => exact H
    | 25, H => exact H
    | 26, H => exact H
    | 27, H => exact H
    | 28, H => exact H
    | 29, H => exact H
    | 30, H => exact H
    | _ + 31, _ => exact trivial
  · refine ⟨?_, ?_, ?_, ?_, ?_, ?_, ?_, ?_, ?_, ?_, ?_, ?_, ?_, ?_, ?_, ?_, ?_, ?_, ?_, ?_, ?_, ?_, ?_, ?_, ?_, ?_, ?_, ?_, ?_, ?_, ?_, trivial⟩
    · -- 0: Op.load 59 t7
      intro σ W HJ hdep
      simp [Region.binds] at hdep
      have HJ := hid HJ
      have k0 := (hrc.out.below HJ.out hrc.out.lt).cell 0
      have k1 := (hrc.out.below HJ.out hrc.out.lt).cell 1
      have k2 := (hrc.out.below HJ.out hrc.out.lt).cell 2
      have k3 := (hrc.out.below HJ.out hrc.out.lt).cell 3
      simp at k0
      simp at k1
      simp at k2
      simp at k3
      refine wpOp_plain rfl rfl ?_
      go_simp
      exact Left.mk0 (.agg #[.string c.chain, .int .i64 c.trust, .bool c.frozen, .slice oa c.known.length ca]) (by first | rfl | simp [updF, *]) HJ.out rfl
    · -- 1: Op.move t1
      intro σ W HJ hdep
      simp [Region.binds] at hdep
      have HJ := hid HJ
      refine wpOp_plain rfl rfl ?_
      go_simp
      exact Left.mk0 (.int .i64 now) (by first | rfl | simp [updF, *]) HJ.out rfl
    · -- 2: Op.move t2
      intro σ W HJ hdep
      simp [Region.binds] at hdep
      have HJ := hid HJ
      refine wpOp_plain rfl rfl ?_
      go_simp
      exact Left.mk0 (.int .i64 height) (by first | rfl | simp [updF, *]) HJ.out rfl
    · -- 3: Op.move t3
      intro σ W HJ hdep
      simp [Region.binds] at hdep
      have HJ := hid HJ
      refine wpOp_plain rfl rfl ?_
      go_simp
      exact Left.mk0 (kv) (by first | rfl | simp [updF, *]) HJ.out rfl
    · -- 4: Op.move t4
      intro σ W HJ hdep
      simp [Region.binds] at hdep
      have HJ := hid HJ
      refine wpOp_plain rfl rfl ?_
      go_simp
      exact Left.mk0 (vv) (by first | rfl | simp [updF, *]) HJ.out rfl
    · -- 5: Op.load 61 t12
      intro σ W HJ hdep
      simp [Region.binds] at hdep
      have HJ := hid HJ
      have k0 := (hrp.out.below HJ.out hrp.out.lt).cell 0
      have k1 := (hrp.out.below HJ.out hrp.out.lt).cell 1
      have k2 := (hrp.out.below HJ.out hrp.out.lt).cell 2
      have k3 := (hrp.out.below HJ.out hrp.out.lt).cell 3
      have k4 := (hrp.out.below HJ.out hrp.out.lt).cell 4
      simp at k0
      simp at k1
      simp at k2
      simp at k3
      simp at k4
      refine wpOp_plain rfl rfl ?_
      go_simp
      exact Left.mk0 (.agg #[.int .i64 p.index, .int .i64 p.size, .slice q1 p.key.length e1, .slice q2 p.val.length e2, .slice q3 p.path.length e3]) (by first | rfl | simp [updF, *]) HJ.out rfl
    · -- 6: Op.call { value (Operand.func 33), args := #[t15, t16, t17, 
      intro σ W HJ hdep
      simp [Region.binds] at hdep
      have HJ := hid HJ
      have HC := hid (MemberC.z memberC c now height key val p (.agg #[.string c.chain, .int .i64 c.trust, .bool c.frozen, .slice oa c.known.length ca]) kv vv (.agg #[.int .i64 p.index, .int .i64 p.size, .slice q1 p.key.length e1, .slice q2 p.val.length e2, .slice q3 p.path.length e3]) N W (htab.out.below HJ.out htab.out.lt) (Nat.le_trans hN HJ.out.size) (hcv.out.below (HJ.out.mono hN)) (hkv.out.below (HJ.out.mono hN)) (hvv.out.below (HJ.out.mono hN)) (hpv.out.below (HJ.out.mono hN)) hcf.out hkl hvl hpf.out hzm.out)
      refine wpOp_plain rfl rfl ?_
      go_simp
      refine (HC.out).mono ?_
      rintro e w2 ⟨rfl, hb2⟩
      exact Left.mk (.int .i64 zm) (by first | rfl | simp [updF, *]) hb2 HJ.out rfl
    · -- 7: Op.load 59 t7
      intro σ W HJ hdep
      simp [Region.binds] at hdep
      have HJ := hid HJ
      have k0 := (hrc.out.below HJ.out hrc.out.lt).cell 0
      have k1 := (hrc.out.below HJ.out hrc.out.lt).cell 1
      have k2 := (hrc.out.below HJ.out hrc.out.lt).cell 2
      have k3 := (hrc.out.below HJ.out hrc.out.lt).cell 3
      simp at k0
      simp at k1
      simp at k2
      simp at k3
      refine wpOp_plain rfl rfl ?_
      go_simp
      exact Left.mk0 (.agg #[.string c.chain, .int .i64 c.trust, .bool c.frozen, .slice oa c.known.length ca]) (by first | rfl | simp [updF, *]) HJ.out rfl
    · -- 8: Op.move t1
      intro σ W HJ hdep
      simp [Region.binds] at hdep
      have HJ := hid HJ
      refine wpOp_plain rfl rfl ?_
      go_simp
      exact Left.mk0 (.int .i64 now) (by first | rfl | simp [updF, *]) HJ.out rfl
    · -- 9: Op.move t2
      intro σ W HJ hdep
      simp [Region.binds] at hdep
      have HJ := hid HJ
      refine wpOp_plain rfl rfl ?_
      go_simp
      exact Left.mk0 (.int .i64 height) (by first | rfl | simp [updF, *]) HJ.out rfl
    · -- 10: Op.move t3
      intro σ W HJ hdep
      simp [Region.binds] at hdep
      have HJ := hid HJ
      refine wpOp_plain rfl rfl ?_
      go_simp
      exact Left.mk0 (kv) (by first | rfl | simp [updF, *]) HJ.out rfl
    · -- 11: Op.move t4
      intro σ W HJ hdep
      simp [Region.binds] at hdep
      have HJ := hid HJ
      refine wpOp_plain rfl rfl ?_
      go_simp
      exact Left.mk0 (vv) (by first | rfl | simp [updF, *]) HJ.out rfl
    · -- 12: Op.load 61 t12
      intro σ W HJ hdep
      simp [Region.binds] at hdep
      have HJ := hid HJ
      have k0 := (hrp.out.below HJ.out hrp.out.lt).cell 0
      have k1 := (hrp.out.below HJ.out hrp.out.lt).cell 1
      have k2 := (hrp.out.below HJ.out hrp.out.lt).cell 2
      have k3 := (hrp.out.below HJ.out hrp.out.lt).cell 3
      have k4 := (hrp.out.below HJ.out hrp.out.lt).cell 4
      simp at k0
      simp at k1
      simp at k2
      simp at k3
      simp at k4
      refine wpOp_plain rfl rfl ?_
      go_simp
      exact Left.mk0 (.agg #[.int .i64 p.index, .int .i64 p.size, .slice q1 p.key.length e1, .slice q2 p.val.length e2, .slice q3 p.path.length e3]) (by first | rfl | simp [updF, *]) HJ.out rfl
    · -- 13: Op.call { value (Operand.func 34), args := #[t22, t23, t24, 
      intro σ W HJ hdep
      simp [Region.binds] at hdep
      have HJ := hid HJ
      have HC := hid (MemberC.z refMemberC c now height key val p (.agg #[.string c.chain, .int .i64 c.trust, .bool c.frozen, .slice oa c.known.length ca]) kv vv (.agg #[.int .i64 p.index, .int .i64 p.size, .slice q1 p.key.length e1, .slice q2 p.val.length e2, .slice q3 p.path.length e3]) N W (htab.out.below HJ.out htab.out.lt) (Nat.le_trans hN HJ.out.size) (hcv.out.below (HJ.out.mono hN)) (hkv.out.below (HJ.out.mono hN)) (hvv.out.below (HJ.out.mono hN)) (hpv.out.below (HJ.out.mono hN)) hcf.out hkl hvl hpf.out hzm.out)
      refine wpOp_plain rfl rfl ?_
      go_simp
      refine (HC.out).mono ?_
      rintro e w2 ⟨rfl, hb2⟩
      exact Left.mk (.int .i64 zm) (by first | rfl | simp [updF, *]) hb2 HJ.out rfl
    · -- 14: Op.binOp BinOp.eql 30 t21 t28 30
      intro σ W HJ hdep
      simp [Region.binds] at hdep
      have HJ := hid HJ
      obtain ⟨u1, u2⟩ : σ 6 = .int .i64 zm ∧ σ 13 = .int .i64 zm := by first | exact hdep | exact ⟨hdep.1, hdep.2.1⟩
      have eb : (zm == zm) = true := by simp
      refine wpOp_plain rfl rfl ?_
      go_simp
      exact Left.mk0 (.bool true) (by first | rfl | simp [updF, *]) HJ.out rfl
    · -- 15: Op.move t29
      intro σ W HJ hdep
      simp [Region.binds] at hdep
      have HJ := hid HJ
      refine wpOp_plain rfl rfl ?_
      go_simp
      exact Left.mk0 (.bool true) (by first | rfl | simp [updF, *]) HJ.out rfl
    · -- 16: Op.load 59 t7   [guarded: some (15, true)]
      intro σ W HJ hdep
      simp [Region.binds] at hdep
      have HJ := hid HJ
      have k0 := (hrc.out.below HJ.out hrc.out.lt).cell 0
      have k1 := (hrc.out.below HJ.out hrc.out.lt).cell 1
      have k2 := (hrc.out.below HJ.out hrc.out.lt).cell 2
      have k3 := (hrc.out.below HJ.out hrc.out.lt).cell 3
      simp at k0
      simp at k1
      simp at k2
      simp at k3
      refine wpOp_wants rfl (by simp [Region.wanted, yielded, *]) ?_
      go_simp
      exact Left.mk0 (.agg #[.string c.chain, .int .i64 c.trust, .bool c.frozen, .slice oa c.known.length ca]) (by first | rfl | simp [updF, *]) HJ.out rfl
    · -- 17: Op.move t1   [guarded: some (15, true)]
      intro σ W HJ hdep
      simp [Region.binds] at hdep
      have HJ := hid HJ
      refine wpOp_wants rfl (by simp [Region.wanted, yielded, *]) ?_
      go_simp
      exact Left.mk0 (.int .i64 now) (by first | rfl | simp [updF, *]) HJ.out rfl
    · -- 18: Op.move t2   [guarded: some (15, true)]
      intro σ W HJ hdep
      simp [Region.binds] at hdep
      have HJ := hid HJ
      refine wpOp_wants rfl (by simp [Region.wanted, yielded, *]) ?_
      go_simp
      exact Left.mk0 (.int .i64 height) (by first | rfl | simp [updF, *]) HJ.out rfl
    · -- 19: Op.move t3   [guarded: some (15, true)]
      intro σ W HJ hdep
      simp [Region.binds] at hdep
      have HJ := hid HJ
      refine wpOp_wants rfl (by simp [Region.wanted, yielded, *]) ?_
      go_simp
      exact Left.mk0 (kv) (by first | rfl | simp [updF, *]) HJ.out rfl
    · -- 20: Op.load 63 t13   [guarded: some (15, true)]
      intro σ W HJ hdep
      simp [Region.binds] at hdep
      have HJ := hid HJ
      have k0 := (hrg.out.below HJ.out hrg.out.lt).cell 0
      have k1 := (hrg.out.below HJ.out hrg.out.lt).cell 1
      have k2 := (hrg.out.below HJ.out hrg.out.lt).cell 2
      have k3 := (hrg.out.below HJ.out hrg.out.lt).cell 3
      have k4 := (hrg.out.below HJ.out hrg.out.lt).cell 4
      have k5 := (hrg.out.below HJ.out hrg.out.lt).cell 5
      have k6 := (hrg.out.below HJ.out hrg.out.lt).cell 6
      have k7 := (hrg.out.below HJ.out hrg.out.lt).cell 7
      have k8 := (hrg.out.below HJ.out hrg.out.lt).cell 8
      have k9 := (hrg.out.below HJ.out hrg.out.lt).cell 9
      have k10 := (hrg.out.below HJ.out hrg.out.lt).cell 10
      have k11 := (hrg.out.below HJ.out hrg.out.lt).cell 11
      simp at k0
      simp at k1
      simp at k2
      simp at k3
      simp at k4
      simp at k5
      simp at k6
      simp at k7
      simp at k8
      simp at k9
      simp at k10
      simp at k11
      refine wpOp_wants rfl (by simp [Region.wanted, yielded, *]) ?_
      go_simp
      exact Left.mk0 (.agg #[.bool g.hasL, .bool g.hasR, .int .i64 g.left.index, .int .i64 g.left.size, .slice r1 g.left.key.length s1, .slice r2 g.left.val.length s2, .slice r3 g.left.path.length s3, .int .i64 g.right.index, .int .i64 g.right.size, .slice r4 g.right.key.length s4, .slice r5 g.right.val.length s5, .slice r6 g.right.path.length s6]) (by first | rfl | simp [updF, *]) HJ.out rfl
    · -- 21: Op.call { value (Operand.func 35), args := #[t31, t32, t33, 
      intro σ W HJ hdep
      simp [Region.binds] at hdep
      have HJ := hid HJ
      have HC := hid (MissingC.z missingC c now height key g (.agg #[.string c.chain, .int .i64 c.trust, .bool c.frozen, .slice oa c.known.length ca]) kv (.agg #[.bool g.hasL, .bool g.hasR, .int .i64 g.left.index, .int .i64 g.left.size, .slice r1 g.left.key.length s1, .slice r2 g.left.val.length s2, .slice r3 g.left.path.length s3, .int .i64 g.right.index, .int .i64 g.right.size, .slice r4 g.right.key.length s4, .slice r5 g.right.val.length s5, .slice r6 g.right.path.length s6]) N W (htab.out.below HJ.out htab.out.lt) (Nat.le_trans hN HJ.out.size) (hcv.out.below (HJ.out.mono hN)) (hkv.out.below (HJ.out.mono hN)) (hgv.out.below (HJ.out.mono hN)) hcf.out hkl hgf.out hza.out)
      refine wpOp_wants rfl (by simp [Region.wanted, yielded, *]) ?_
      go_simp
      refine (HC.out).mono ?_
      rintro e w2 ⟨rfl, hb2⟩
      exact Left.mk (.int .i64 za) (by first | rfl | simp [updF, *]) hb2 HJ.out rfl
    · -- 22: Op.load 59 t7   [guarded: some (15, true)]
      intro σ W HJ hdep
      simp [Region.binds] at hdep
      have HJ := hid HJ
      have k0 := (hrc.out.below HJ.out hrc.out.lt).cell 0
      have k1 := (hrc.out.below HJ.out hrc.out.lt).cell 1
      have k2 := (hrc.out.below HJ.out hrc.out.lt).cell 2
      have k3 := (hrc.out.below HJ.out hrc.out.lt).cell 3
      simp at k0
      simp at k1
      simp at k2
      simp at k3
      refine wpOp_wants rfl (by simp [Region.wanted, yielded, *]) ?_
      go_simp
      exact Left.mk0 (.agg #[.string c.chain, .int .i64 c.trust, .bool c.frozen, .slice oa c.known.length ca]) (by first | rfl | simp [updF, *]) HJ.out rfl
    · -- 23: Op.move t1   [guarded: some (15, true)]
      intro σ W HJ hdep
      simp [Region.binds] at hdep
      have HJ := hid HJ
      refine wpOp_wants rfl (by simp [Region.wanted, yielded, *]) ?_
      go_simp
      exact Left.mk0 (.int .i64 now) (by first | rfl | simp [updF, *]) HJ.out rfl
    · -- 24: Op.move t2   [guarded: some (15, true)]
      intro σ W HJ hdep
      simp [Region.binds] at hdep
      have HJ := hid HJ
      refine wpOp_wants rfl (by simp [Region.wanted, yielded, *]) ?_
      go_simp
      exact Left.mk0 (.int .i64 height) (by first | rfl | simp [updF, *]) HJ.out rfl
    · -- 25: Op.move t3   [guarded: some (15, true)]
      intro σ W HJ hdep
      simp [Region.binds] at hdep
      have HJ := hid HJ
      refine wpOp_wants rfl (by simp [Region.wanted, yielded, *]) ?_
      go_simp
      exact Left.mk0 (kv) (by first | rfl | simp [updF, *]) HJ.out rfl
    · -- 26: Op.load 63 t13   [guarded: some (15, true)]
      intro σ W HJ hdep
      simp [Region.binds] at hdep
      have HJ := hid HJ
      have k0 := (hrg.out.below HJ.out hrg.out.lt).cell 0
      have k1 := (hrg.out.below HJ.out hrg.out.lt).cell 1
      have k2 := (hrg.out.below HJ.out hrg.out.lt).cell 2
      have k3 := (hrg.out.below HJ.out hrg.out.lt).cell 3
      have k4 := (hrg.out.below HJ.out hrg.out.lt).cell 4
      have k5 := (hrg.out.below HJ.out hrg.out.lt).cell 5
      have k6 := (hrg.out.below HJ.out hrg.out.lt).cell 6
      have k7 := (hrg.out.below HJ.out hrg.out.lt).cell 7
      have k8 := (hrg.out.below HJ.out hrg.out.lt).cell 8
      have k9 := (hrg.out.below HJ.out hrg.out.lt).cell 9
      have k10 := (hrg.out.below HJ.out hrg.out.lt).cell 10
      have k11 := (hrg.out.below HJ.out hrg.out.lt).cell 11
      simp at k0
      simp at k1
      simp at k2
      simp at k3
      simp at k4
      simp at k5
      simp at k6
      simp at k7
      simp at k8
      simp at k9
      simp at k10
      simp at k11
      refine wpOp_wants rfl (by simp [Region.wanted, yielded, *]) ?_
      go_simp
      exact Left.mk0 (.agg #[.bool g.hasL, .bool g.hasR, .int .i64 g.left.index, .int .i64 g.left.size, .slice r1 g.left.key.length s1, .slice r2 g.left.val.length s2, .slice r3 g.left.path.length s3, .int .i64 g.right.index, .int .i64 g.right.size, .slice r4 g.right.key.length s4, .slice r5 g.right.val.length s5, .slice r6 g.right.path.length s6]) (by first | rfl | simp [updF, *]) HJ.out rfl
    · -- 27: Op.call { value (Operand.func 36), args := #[t37, t38, t39, 
      intro σ W HJ hdep
      simp [Region.binds] at hdep
      have HJ := hid HJ
      have HC := hid (MissingC.z refMissingC c now height key g (.agg #[.string c.chain, .int .i64 c.trust, .bool c.frozen, .slice oa c.known.length ca]) kv (.agg #[.bool g.hasL, .bool g.hasR, .int .i64 g.left.index, .int .i64 g.left.size, .slice r1 g.left.key.length s1, .slice r2 g.left.val.length s2, .slice r3 g.left.path.length s3, .int .i64 g.right.index, .int .i64 g.right.size, .slice r4 g.right.key.length s4, .slice r5 g.right.val.length s5, .slice r6 g.right.path.length s6]) N W (htab.out.below HJ.out htab.out.lt) (Nat.le_trans hN HJ.out.size) (hcv.out.below (HJ.out.mono hN)) (hkv.out.below (HJ.out.mono hN)) (hgv.out.below (HJ.out.mono hN)) hcf.out hkl hgf.out hza.out)
      refine wpOp_wants rfl (by simp [Region.wanted, yielded, *]) ?_
      go_simp
      refine (HC.out).mono ?_
      rintro e w2 ⟨rfl, hb2⟩
      exact Left.mk (.int .i64 za) (by first | rfl | simp [updF, *]) hb2 HJ.out rfl
    · -- 28: Op.binOp BinOp.eql 30 t36 t42 30   [guarded: some (15, true)
      intro σ W HJ hdep
      simp [Region.binds] at hdep
      have HJ := hid HJ
      obtain ⟨u1, u2⟩ : σ 21 = .int .i64 za ∧ σ 27 = .int .i64 za := by first | exact hdep | exact ⟨hdep.1, hdep.2.1⟩
      have eb : (za == za) = true := by simp
      refine wpOp_wants rfl (by simp [Region.wanted, yielded, *]) ?_
      go_simp
      exact Left.mk0 (.bool true) (by first | rfl | simp [updF, *]) HJ.out rfl
    · -- 29: Op.pick t30 t43 (const (Value.bool false))
      intro σ W HJ hdep
      simp [Region.binds] at hdep
      have HJ := hid HJ
      refine wpOp_plain rfl rfl ?_
      go_simp
      exact Left.mk0 (.bool true) (by first | rfl | simp [updF, *]) HJ.out rfl
    · -- 30: Op.assign t44
      intro σ W HJ hdep
      simp [Region.binds] at hdep
      have HJ := hid HJ
      refine wpOp_plain rfl rfl ?_
      go_simp
      exact Left.mk0 (.bool true) (by first | rfl | simp [updF, *]) HJ.out rfl
  · intro σ w' hb hg
    exact hQ.out σ w' hb (by first | exact ⟨hg 30 (by decide)⟩ | exact hg 30 (by decide))
set_option maxRecDepth 100000 in
set_option maxHeartbeats 4000000 in
theorem clientShown_any (c : Cl) (now height : Int) (key val : List (BitVec 8)) (p : Prf) (g : Gp) (cv kv vv pv gv : Value) (N : Nat) (w : World) (htab : tableAt w) (hN : N ≤ w.heap.size) (hcv : ClV w N cv c) (hkv : Bytes w N kv key) (hvv : Bytes w N vv val) (hpv : PrfV w N pv p) (hgv : GpV w N gv g) (hcf : c.fits) (hkl : key.length ≤ 140737488351232) (hvl : val.length ≤ 140737488351232) (hpf : p.fits) (hgf : g.fits) :
    Calls Tryd.prog 3 #[cv, .int .i64 now, .int .i64 height, kv, vv, pv, gv] w fun e w' => e = .returned (.bool true) ∧ Below w.heap.size w w' := by
  obtain ⟨zm, hzm⟩ := ShownN.some c now height (fun r => p.key = key ∧ p.val = val ∧ shownB r p)
  obtain ⟨za, hza⟩ := ShownN.some c now height (fun r => absentB r key g)
  have HZM := hid hzm
  have HZA := hid hza
  clear hzm hza
  have HCV := hid hcv
  have HPV := hid hpv
  have HGV := hid hgv
  have HKV := hid hkv
  have HVV := hid hvv
  have HTAB := hid htab
  have HCF := hid hcf
  have HPF := hid hpf
  have HGF := hid hgf
  obtain ⟨xv, rfl, hkn⟩ := hcv
  obtain ⟨oa, ca, rfl, -⟩ := hkn.shape
  obtain ⟨x1, x2, x3, rfl, a1, a2, a3⟩ := hpv
  obtain ⟨q1, e1, rfl, -⟩ := a1.shape
  obtain ⟨q2, e2, rfl, -⟩ := a2.shape
  obtain ⟨q3, e3, rfl, -⟩ := a3.shape
  obtain ⟨k1, v1, t1, k2, v2, t2, rfl, b1, b2, b3, b4, b5, b6⟩ := hgv
  obtain ⟨r1, s1, rfl, -⟩ := b1.shape
  obtain ⟨r2, s2, rfl, -⟩ := b2.shape
  obtain ⟨r3, s3, rfl, -⟩ := b3.shape
  obtain ⟨r4, s4, rfl, -⟩ := b4.shape
  obtain ⟨r5, s5, rfl, -⟩ := b5.shape
  obtain ⟨r6, s6, rfl, -⟩ := b6.shape
  obtain ⟨w0, hw0⟩ : ∃ w0, ((w.alloc (.cells #[.string c.chain, .int .i64 c.trust, .bool c.frozen, .slice oa c.known.length ca] 24)).alloc (.cells #[.int .i64 p.index, .int .i64 p.size, .slice q1 p.key.length e1, .slice q2 p.val.length e2, .slice q3 p.path.length e3] 28)).alloc (.cells #[.bool g.hasL, .bool g.hasR, .int .i64 g.left.index, .int .i64 g.left.size, .slice r1 g.left.key.length s1, .slice r2 g.left.val.length s2, .slice r3 g.left.path.length s3, .int .i64 g.right.index, .int .i64 g.right.size, .slice r4 g.right.key.length s4, .slice r5 g.right.val.length s5, .slice r6 g.right.path.length s6] 30) = w0 := ⟨_, rfl⟩
  have HB0 := hid (show Below w.heap.size w w0 by rw [← hw0]; exact (((Below.refl _ _).alloc (Nat.le_refl _) _).alloc (by simp) _).alloc (by simp; omega) _)
  have HRC := hid (show Row w0 w.heap.size 24 [.string c.chain, .int .i64 c.trust, .bool c.frozen, .slice oa c.known.length ca] by rw [← hw0]; exact ((Row.new _ _ _).alloc _).alloc _)
  have HRP := hid (show Row w0 (w.heap.size + 1) 28 [.int .i64 p.index, .int .i64 p.size, .slice q1 p.key.length e1, .slice q2 p.val.length e2, .slice q3 p.path.length e3] by rw [← hw0]; exact (Row.newAt _ _ _ _ (by simp)).alloc _)
  have HRG := hid (show Row w0 (w.heap.size + 1 + 1) 30 [.bool g.hasL, .bool g.hasR, .int .i64 g.left.index, .int .i64 g.left.size, .slice r1 g.left.key.length s1, .slice r2 g.left.val.length s2, .slice r3 g.left.path.length s3, .int .i64 g.right.index, .int .i64 g.right.size, .slice r4 g.right.key.length s4, .slice r5 g.right.val.length s5, .slice r6 g.right.path.length s6] by rw [← hw0]; exact Row.newAt _ _ _ _ (by simp))
  have HW0 := hid hw0
  clear hkn a1 a2 a3 b1 b2 b3 b4 b5 b6 htab hcf hpf hgf hkv hvv hw0
  go_enter Tryd.func3, Tryd.ntmps3
  go_wp2_with fail
  rw [HW0.out]
  refine shownRegion c now height key val p g kv vv zm za oa q1 q2 q3 r1 r2 r3 r4 r5 r6 ca e1 e2 e3 s1 s2 s3 s4 s5 s6 (hid (HTAB.out.below HB0.out HTAB.out.lt)) (Nat.le_trans hN HB0.out.size) HRC HRP HRG (hid (HCV.out.below (HB0.out.mono hN))) (hid (HKV.out.below (HB0.out.mono hN))) (hid (HVV.out.below (HB0.out.mono hN))) (hid (HPV.out.below (HB0.out.mono hN))) (hid (HGV.out.below (HB0.out.mono hN))) HCF hkl hvl HPF HGF HZM HZA _ (hid ?_)
  intro σ1 w2 hb2 h30
  have HB2 := hid (HB0.out.trans (hb2.mono HB0.out.size))
  rw [h30]
  clear hb2 h30
  go_wp2
  go_ret
  exact ⟨by first | done | rfl, HB2.out⟩
end Go.Proofs.YtiflkkelbnpniaaDoor
