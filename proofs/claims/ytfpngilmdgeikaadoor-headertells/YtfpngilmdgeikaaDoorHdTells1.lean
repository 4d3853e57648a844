/-
  What the regions of HeaderTells leave, in whatever order their steps come.
-/
import Derived.Test.YtfpngilmdgeikaaDoorHdRCheckAll
import Derived.Test.YtfpngilmdgeikaaDoorHdRSignAll
import Derived.Test.YtfpngilmdgeikaaDoorHdROver
import Derived.Test.YtfpngilmdgeikaaDoorHdSame
namespace Go.Proofs.YtfpngilmdgeikaaDoor
open Go.RowKit

theorem wpOp_unwanted {P : Program} {ops : Array Oper} {Q : Exit → Act → World → Prop} {i : Nat} {o : Oper} {K : Act → World → Prop} {a : Act} {w : World} (ho : ops[i]? = some o) (hw : Region.wanted o (yielded ops a.tmps) = false) (h : K (a.put o.dst undef) w) : wpOp P ops Q i K a w := by
  unfold wpOp
  rw [ho]
  simp only [hw]
  exact h
set_option maxRecDepth 100000 in
set_option maxHeartbeats 4000000 in
theorem tellsRegion1 {y1 y2 y3 y4 y5 y7 y9 y10 y11 y12 y13 y14 y34 y35 y36 y37 y38 y39 y40 y41 y42 y43 y44 y45 y46 y47 y48 y49 y50 y51 y52 y53 y54 y55 y56 y57 y58 y59 y60 y61 y62 y63 y64 y65 y66 y67 y68 y69 y70 y71 y72 y73 y74 y75 y76 y77 y78 y79 y80 y81 y82 y83 y84 y85 y86 y87 y88 y89 y90 y91 y92 y93 y94 y95 y96 y97 z15 z16 z17 z18 z19 z20 z21 z22 z23 z24 z25 z26 z27 z28 z29 z30 z31 z32 z33 : Value} {g gs N : Nat} (l : List Vl) (h : Hd) (s : Sg) (lv : Value) (o1 o2 o3 p1 p2 p3 p4 p5 : Option Addr) (c1 c2 c3 d1 d2 d3 d4 d5 : Nat) {w : World} (htab : Hid (tableAt w)) (hN : N ≤ w.heap.size) (hr : Hid (Row w g 25 [.string h.chain, .int .i64 h.height, .int .i64 h.time, .slice o1 h.root.length c1, .slice o2 h.vals.length c2, .slice o3 h.next.length c3])) (hrs : Hid (Row w gs 29 [.string s.hd.chain, .int .i64 s.hd.height, .int .i64 s.hd.time, .slice p1 s.hd.root.length d1, .slice p2 s.hd.vals.length d2, .slice p3 s.hd.next.length d3, .slice p4 s.vals.length d4, .slice p5 s.votes.length d5])) (hl : Hid (Vals w N lv l)) (hlen : l.length < 2305843009213693952) (_hok : Hid (∀ v ∈ l, v.ok)) (hv : Hid (HdV w N (.agg #[.string h.chain, .int .i64 h.height, .int .i64 h.time, .slice o1 h.root.length c1, .slice o2 h.vals.length c2, .slice o3 h.next.length c3]) h)) (hf : h.fits) (hs : Hid (SgV w N (.agg #[.string s.hd.chain, .int .i64 s.hd.height, .int .i64 s.hd.time, .slice p1 s.hd.root.length d1, .slice p2 s.hd.vals.length d2, .slice p3 s.hd.next.length d3, .slice p4 s.vals.length d4, .slice p5 s.votes.length d5]) s)) (hsf : s.fits) (Q : Exit → Act → World → Prop)
    (hQ : Hid (∀ (σ : Nat → Value) (w' : World), Below w.heap.size w w' → /-18-/ σ 18 = .bool false → Q .normal ⟨#[lv, y1, y2, y3, y4, y5, .pointer (some ⟨g, 0, none⟩), y7, .pointer (some ⟨gs, 0, none⟩), y9, y10, y11, y12, y13, y14, σ 0, σ 1, σ 2, σ 3, σ 4, σ 5, σ 6, σ 7, σ 8, σ 9, σ 10, σ 11, σ 12, σ 13, σ 14, σ 15, σ 16, σ 17, σ 18, y34, y35, y36, y37, y38, y39, y40, y41, y42, y43, y44, y45, y46, y47, y48, y49, y50, y51, y52, y53, y54, y55, y56, y57, y58, y59, y60, y61, y62, y63, y64, y65, y66, y67, y68, y69, y70, y71, y72, y73, y74, y75, y76, y77, y78, y79, y80, y81, y82, y83, y84, y85, y86, y87, y88, y89, y90, y91, y92, y93, y94, y95, y96, y97], []⟩ w')) :
    Code.wp Tryd.prog (.region 1 ((Tryd.f3.body.bind (regOf 1)).getD #[]) true) Q ⟨#[lv, y1, y2, y3, y4, y5, .pointer (some ⟨g, 0, none⟩), y7, .pointer (some ⟨gs, 0, none⟩), y9, y10, y11, y12, y13, y14, z15, z16, z17, z18, z19, z20, z21, z22, z23, z24, z25, z26, z27, z28, z29, z30, z31, z32, z33, y34, y35, y36, y37, y38, y39, y40, y41, y42, y43, y44, y45, y46, y47, y48, y49, y50, y51, y52, y53, y54, y55, y56, y57, y58, y59, y60, y61, y62, y63, y64, y65, y66, y67, y68, y69, y70, y71, y72, y73, y74, y75, y76, y77, y78, y79, y80, y81, y82, y83, y84, y85, y86, y87, y88, y89, y90, y91, y92, y93, y94, y95, y96, y97], []⟩ w := by
  conv => arg 2; arg 2; whnf
  conv => arg 4; dsimp only
  refine region_grows (by kernel_rfl) (fun σ => #[lv, y1, y2, y3, y4, y5, .pointer (some ⟨g, 0, none⟩), y7, .pointer (some ⟨gs, 0, none⟩), y9, y10, y11, y12, y13, y14, σ 0, σ 1, σ 2, σ 3, σ 4, σ 5, σ 6, σ 7, σ 8, σ 9, σ 10, σ 11, σ 12, σ 13, σ 14, σ 15, σ 16, σ 17, σ 18, y34, y35, y36, y37, y38, y39, y40, y41, y42, y43, y44, y45, y46, y47, y48, y49, y50, y51, y52, y53, y54, y55, y56, y57, y58, y59, y60, y61, y62, y63, y64, y65, y66, y67, y68, y69, y70, y71, y72, y73, y74, y75, y76, y77, y78, y79, y80, y81, y82, y83, y84, y85, y86, y87, y88, y89, y90, y91, y92, y93, y94, y95, y96, y97]) (fun i => ([z15, z16, z17, z18, z19, z20, z21, z22, z23, z24, z25, z26, z27, z28, z29, z30, z31, z32, z33] : List Value).getD i undef) rfl (fun i X W => match i with
    | 0 => X = lv
    | 1 => X = .int .i64 (valsN l)
    | 2 => X = lv
    | 3 => X = .int .i64 (valsN l)
    | 4 => X = .bool false
    | 5 => X = .bool false
    | 6 => X = .agg #[.string h.chain, .int .i64 h.height, .int .i64 h.time, .slice o1 h.root.length c1, .slice o2 h.vals.length c2, .slice o3 h.next.length c3]
    | 7 => X = .int .i64 (wrongH h)
    | 8 => X = .agg #[.string h.chain, .int .i64 h.height, .int .i64 h.time, .slice o1 h.root.length c1, .slice o2 h.vals.length c2, .slice o3 h.next.length c3]
    | 9 => X = .int .i64 (wrongH h)
    | 10 => X = .bool false
    | 11 => X = .bool false
    | 12 => X = .bool false
    | 13 => X = .agg #[.string s.hd.chain, .int .i64 s.hd.height, .int .i64 s.hd.time, .slice p1 s.hd.root.length d1, .slice p2 s.hd.vals.length d2, .slice p3 s.hd.next.length d3, .slice p4 s.vals.length d4, .slice p5 s.votes.length d5]
    | 14 => X = .int .i64 (checkN s)
    | 15 => X = .agg #[.string s.hd.chain, .int .i64 s.hd.height, .int .i64 s.hd.time, .slice p1 s.hd.root.length d1, .slice p2 s.hd.vals.length d2, .slice p3 s.hd.next.length d3, .slice p4 s.vals.length d4, .slice p5 s.votes.length d5]
    | 16 => X = .int .i64 (checkN s)
    | 17 => X = .bool false
    | 18 => X = .bool false
    | _ => True) ?_ (by kernel_rfl) ?_ ?_
  · intro i X W W' HB H
    match i, H with
    | 0, H => exact H
    | 1, H => exact H
    | 2, H => exact H
    | 3, H => exact H
    | 4, H => exact H
    | 5, H => exact H
    | 6, H => exact H
    | 7, H => exact H
    | 8, H => exact H
    | 9, H => exact H
    | 10, H => exact H
    | 11, H => exact H
    | 12, H => exact H
    | 13, H => exact H
    | 14, H => exact H
    | 15, H => exact H
    | 16, H => exact H
    | 17, H => exact H
    | 18, H => exact H
    | _ + 19, _ => exact trivial
  · refine ⟨?_, ?_, ?_, ?_, ?_, ?_, ?_, ?_, ?_, ?_, ?_, ?_, ?_, ?_, ?_, ?_, ?_, ?_, ?_, trivial⟩
    · -- 0: Op.move t0
      intro σ W HJ hdep
      simp [Region.binds] at hdep
      have HJ := hid HJ
      refine wpOp_plain rfl rfl ?_
      go_simp
      exact Left.mk0 (lv) (by first | rfl | simp [updF, *]) HJ.out rfl
    · -- 1: Op.call { value (Operand.func 9), args := #[t15], argTypes :
      intro σ W HJ hdep
      simp [Region.binds] at hdep
      have HJ := hid HJ
      have HC := hid (valsC l lv N W (hl.out.below (HJ.out.mono hN)) (Nat.le_trans hN HJ.out.size) hlen)
      refine wpOp_plain rfl rfl ?_
      go_simp
      refine (HC.out).mono ?_
      rintro e w2 ⟨rfl, hb2⟩
      exact Left.mk (.int .i64 (valsN l)) (by first | rfl | simp [updF, *]) hb2 HJ.out rfl
    · -- 2: Op.move t0
      intro σ W HJ hdep
      simp [Region.binds] at hdep
      have HJ := hid HJ
      refine wpOp_plain rfl rfl ?_
      go_simp
      exact Left.mk0 (lv) (by first | rfl | simp [updF, *]) HJ.out rfl
    · -- 3: Op.call { value (Operand.func 10), args := #[t17], argTypes 
      intro σ W HJ hdep
      simp [Region.binds] at hdep
      have HJ := hid HJ
      have HC := hid (refValsC l lv N W (hl.out.below (HJ.out.mono hN)) (Nat.le_trans hN HJ.out.size) hlen)
      refine wpOp_plain rfl rfl ?_
      go_simp
      refine (HC.out).mono ?_
      rintro e w2 ⟨rfl, hb2⟩
      exact Left.mk (.int .i64 (valsN l)) (by first | rfl | simp [updF, *]) hb2 HJ.out rfl
    · -- 4: Op.binOp BinOp.neq 30 t16 t18 30
      intro σ W HJ hdep
      simp [Region.binds] at hdep
      have HJ := hid HJ
      obtain ⟨e1, e3⟩ : σ 1 = .int .i64 (valsN l) ∧ σ 3 = .int .i64 (valsN l) := by first | exact hdep | exact ⟨hdep.1, hdep.2.1⟩
      have eb : (valsN l != valsN l) = false := by simp
      refine wpOp_plain rfl rfl ?_
      go_simp
      exact Left.mk0 (.bool false) (by first | rfl | simp [updF, *]) HJ.out rfl
    · -- 5: Op.move t19
      intro σ W HJ hdep
      simp [Region.binds] at hdep
      have HJ := hid HJ
      refine wpOp_plain rfl rfl ?_
      go_simp
      exact Left.mk0 (.bool false) (by first | rfl | simp [updF, *]) HJ.out rfl
    · -- 6: Op.load 25 t6   [guarded: some (5, false)]
      intro σ W HJ hdep
      simp [Region.binds] at hdep
      have HJ := hid HJ
      have k0 := (hr.out.below HJ.out hr.out.lt).cell 0
      have k1 := (hr.out.below HJ.out hr.out.lt).cell 1
      have k2 := (hr.out.below HJ.out hr.out.lt).cell 2
      have k3 := (hr.out.below HJ.out hr.out.lt).cell 3
      have k4 := (hr.out.below HJ.out hr.out.lt).cell 4
      have k5 := (hr.out.below HJ.out hr.out.lt).cell 5
      simp at k0
      simp at k1
      simp at k2
      simp at k3
      simp at k4
      simp at k5
      refine wpOp_guarded rfl (by simp [Region.wanted, yielded, *]) ?_
      go_simp
      exact Left.mk0 (.agg #[.string h.chain, .int .i64 h.height, .int .i64 h.time, .slice o1 h.root.length c1, .slice o2 h.vals.length c2, .slice o3 h.next.length c3]) (by first | rfl | simp [updF, *]) HJ.out rfl
    · -- 7: Op.call { value (Operand.func 11), args := #[t21], argTypes 
      intro σ W HJ hdep
      simp [Region.binds] at hdep
      have HJ := hid HJ
      have HC := hid (wrong_any h (.agg #[.string h.chain, .int .i64 h.height, .int .i64 h.time, .slice o1 h.root.length c1, .slice o2 h.vals.length c2, .slice o3 h.next.length c3]) N W (hv.out.below (HJ.out.mono hN)) hf)
      refine wpOp_guarded rfl (by simp [Region.wanted, yielded, *]) ?_
      go_simp
      refine (HC.out).mono ?_
      rintro e w2 ⟨rfl, hb2⟩
      exact Left.mk (.int .i64 (wrongH h)) (by first | rfl | simp [updF, *]) hb2 HJ.out rfl
    · -- 8: Op.load 25 t6   [guarded: some (5, false)]
      intro σ W HJ hdep
      simp [Region.binds] at hdep
      have HJ := hid HJ
      have k0 := (hr.out.below HJ.out hr.out.lt).cell 0
      have k1 := (hr.out.below HJ.out hr.out.lt).cell 1
      have k2 := (hr.out.below HJ.out hr.out.lt).cell 2
      have k3 := (hr.out.below HJ.out hr.out.lt).cell 3
      have k4 := (hr.out.below HJ.out hr.out.lt).cell 4
      have k5 := (hr.out.below HJ.out hr.out.lt).cell 5
      simp at k0
      simp at k1
      simp at k2
      simp at k3
      simp at k4
      simp at k5
      refine wpOp_guarded rfl (by simp [Region.wanted, yielded, *]) ?_
      go_simp
      exact Left.mk0 (.agg #[.string h.chain, .int .i64 h.height, .int .i64 h.time, .slice o1 h.root.length c1, .slice o2 h.vals.length c2, .slice o3 h.next.length c3]) (by first | rfl | simp [updF, *]) HJ.out rfl
    · -- 9: Op.call { value (Operand.func 12), args := #[t23], argTypes 
      intro σ W HJ hdep
      simp [Region.binds] at hdep
      have HJ := hid HJ
      have HC := hid (refWrong_any h (.agg #[.string h.chain, .int .i64 h.height, .int .i64 h.time, .slice o1 h.root.length c1, .slice o2 h.vals.length c2, .slice o3 h.next.length c3]) N W (hv.out.below (HJ.out.mono hN)) hf)
      refine wpOp_guarded rfl (by simp [Region.wanted, yielded, *]) ?_
      go_simp
      refine (HC.out).mono ?_
      rintro e w2 ⟨rfl, hb2⟩
      exact Left.mk (.int .i64 (wrongH h)) (by first | rfl | simp [updF, *]) hb2 HJ.out rfl
    · -- 10: Op.binOp BinOp.neq 30 t22 t24 30   [guarded: some (5, false)
      intro σ W HJ hdep
      simp [Region.binds] at hdep
      have HJ := hid HJ
      have eb : (wrongH h != wrongH h) = false := by simp
      refine wpOp_guarded rfl (by simp [Region.wanted, yielded, *]) ?_
      go_simp
      exact Left.mk0 (.bool false) (by first | rfl | simp [updF, *]) HJ.out rfl
    · -- 11: Op.pick t20 (const (Value.bool true)) t25
      intro σ W HJ hdep
      simp [Region.binds] at hdep
      have HJ := hid HJ
      refine wpOp_plain rfl rfl ?_
      go_simp
      exact Left.mk0 (.bool false) (by first | rfl | simp [updF, *]) HJ.out rfl
    · -- 12: Op.move t26
      intro σ W HJ hdep
      simp [Region.binds] at hdep
      have HJ := hid HJ
      refine wpOp_plain rfl rfl ?_
      go_simp
      exact Left.mk0 (.bool false) (by first | rfl | simp [updF, *]) HJ.out rfl
    · -- 13: Op.load 29 t8   [guarded: some (12, false)]
      intro σ W HJ hdep
      simp [Region.binds] at hdep
      have HJ := hid HJ
      have k0 := (hrs.out.below HJ.out hrs.out.lt).cell 0
      have k1 := (hrs.out.below HJ.out hrs.out.lt).cell 1
      have k2 := (hrs.out.below HJ.out hrs.out.lt).cell 2
      have k3 := (hrs.out.below HJ.out hrs.out.lt).cell 3
      have k4 := (hrs.out.below HJ.out hrs.out.lt).cell 4
      have k5 := (hrs.out.below HJ.out hrs.out.lt).cell 5
      have k6 := (hrs.out.below HJ.out hrs.out.lt).cell 6
      have k7 := (hrs.out.below HJ.out hrs.out.lt).cell 7
      simp at k0
      simp at k1
      simp at k2
      simp at k3
      simp at k4
      simp at k5
      simp at k6
      simp at k7
      refine wpOp_guarded rfl (by simp [Region.wanted, yielded, *]) ?_
      go_simp
      exact Left.mk0 (.agg #[.string s.hd.chain, .int .i64 s.hd.height, .int .i64 s.hd.time, .slice p1 s.hd.root.length d1, .slice p2 s.hd.vals.length d2, .slice p3 s.hd.next.length d3, .slice p4 s.vals.length d4, .slice p5 s.votes.length d5]) (by first | rfl | simp [updF, *]) HJ.out rfl
    · -- 14: Op.call { value (Operand.func 13), args := #[t28], argTypes 
      intro σ W HJ hdep
      simp [Region.binds] at hdep
      have HJ := hid HJ
      have HC := hid (checkC s (.agg #[.string s.hd.chain, .int .i64 s.hd.height, .int .i64 s.hd.time, .slice p1 s.hd.root.length d1, .slice p2 s.hd.vals.length d2, .slice p3 s.hd.next.length d3, .slice p4 s.vals.length d4, .slice p5 s.votes.length d5]) N W (htab.out.below HJ.out htab.out.lt) (Nat.le_trans hN HJ.out.size) (hs.out.below (HJ.out.mono hN)) hsf)
      refine wpOp_guarded rfl (by simp [Region.wanted, yielded, *]) ?_
      go_simp
      refine (HC.out).mono ?_
      rintro e w2 ⟨rfl, hb2⟩
      exact Left.mk (.int .i64 (checkN s)) (by first | rfl | simp [updF, *]) hb2 HJ.out rfl
    · -- 15: Op.load 29 t8   [guarded: some (12, false)]
      intro σ W HJ hdep
      simp [Region.binds] at hdep
      have HJ := hid HJ
      have k0 := (hrs.out.below HJ.out hrs.out.lt).cell 0
      have k1 := (hrs.out.below HJ.out hrs.out.lt).cell 1
      have k2 := (hrs.out.below HJ.out hrs.out.lt).cell 2
      have k3 := (hrs.out.below HJ.out hrs.out.lt).cell 3
      have k4 := (hrs.out.below HJ.out hrs.out.lt).cell 4
      have k5 := (hrs.out.below HJ.out hrs.out.lt).cell 5
      have k6 := (hrs.out.below HJ.out hrs.out.lt).cell 6
      have k7 := (hrs.out.below HJ.out hrs.out.lt).cell 7
      simp at k0
      simp at k1
      simp at k2
      simp at k3
      simp at k4
      simp at k5
      simp at k6
      simp at k7
      refine wpOp_guarded rfl (by simp [Region.wanted, yielded, *]) ?_
      go_simp
      exact Left.mk0 (.agg #[.string s.hd.chain, .int .i64 s.hd.height, .int .i64 s.hd.time, .slice p1 s.hd.root.length d1, .slice p2 s.hd.vals.length d2, .slice p3 s.hd.next.length d3, .slice p4 s.vals.length d4, .slice p5 s.votes.length d5]) (by first | rfl | simp [updF, *]) HJ.out rfl
    · -- 16: Op.call { value (Operand.func 14), args := #[t30], argTypes 
      intro σ W HJ hdep
      simp [Region.binds] at hdep
      have HJ := hid HJ
      have HC := hid (refCheckC s (.agg #[.string s.hd.chain, .int .i64 s.hd.height, .int .i64 s.hd.time, .slice p1 s.hd.root.length d1, .slice p2 s.hd.vals.length d2, .slice p3 s.hd.next.length d3, .slice p4 s.vals.length d4, .slice p5 s.votes.length d5]) N W (htab.out.below HJ.out htab.out.lt) (Nat.le_trans hN HJ.out.size) (hs.out.below (HJ.out.mono hN)) hsf)
      refine wpOp_guarded rfl (by simp [Region.wanted, yielded, *]) ?_
      go_simp
      refine (HC.out).mono ?_
      rintro e w2 ⟨rfl, hb2⟩
      exact Left.mk (.int .i64 (checkN s)) (by first | rfl | simp [updF, *]) hb2 HJ.out rfl
    · -- 17: Op.binOp BinOp.neq 30 t29 t31 30   [guarded: some (12, false
      intro σ W HJ hdep
      simp [Region.binds] at hdep
      have HJ := hid HJ
      have eb : (checkN s != checkN s) = false := by simp
      refine wpOp_guarded rfl (by simp [Region.wanted, yielded, *]) ?_
      go_simp
      exact Left.mk0 (.bool false) (by first | rfl | simp [updF, *]) HJ.out rfl
    · -- 18: Op.pick t27 (const (Value.bool true)) t32
      intro σ W HJ hdep
      simp [Region.binds] at hdep
      have HJ := hid HJ
      refine wpOp_plain rfl rfl ?_
      go_simp
      exact Left.mk0 (.bool false) (by first | rfl | simp [updF, *]) HJ.out rfl
  · intro σ w' hb hg
    exact hQ.out σ w' hb (by first | exact ⟨hg 18 (by decide)⟩ | exact hg 18 (by decide))
end Go.Proofs.YtfpngilmdgeikaaDoor
