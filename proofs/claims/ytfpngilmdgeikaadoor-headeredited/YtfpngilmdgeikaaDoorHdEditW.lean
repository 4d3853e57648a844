/-
  HeaderEdited answers true, whatever it is handed, and turns nothing that was there.
-/
import Derived.Test.YtfpngilmdgeikaaDoorHdBlock
import Derived.Test.YtfpngilmdgeikaaDoorHdRBytes
import Derived.Test.YtfpngilmdgeikaaDoorHdRBoth
import Derived.Test.YtfpngilmdgeikaaDoorRef2Good
import Derived.Test.YtfpngilmdgeikaaDoorSameB
import Derived.Test.YtfpngilmdgeikaaDoorHdGood
namespace Go.Proofs.YtfpngilmdgeikaaDoor
open Go.RowKit

theorem wpOp_wantedE {P : Program} {ops : Array Oper} {Q : Exit → Act → World → Prop} {i : Nat} {o : Oper} {K : Act → World → Prop} {a : Act} {w : World} (ho : ops[i]? = some o) (hw : Region.wanted o (yielded ops a.tmps) = true) (h : o.wp P a w K Q) : wpOp P ops Q i K a w := by
  unfold wpOp
  rw [ho]
  simp only [hw, if_true]
  exact .inl h
theorem wpOp_unwantedE {P : Program} {ops : Array Oper} {Q : Exit → Act → World → Prop} {i : Nat} {o : Oper} {K : Act → World → Prop} {a : Act} {w : World} (ho : ops[i]? = some o) (hw : Region.wanted o (yielded ops a.tmps) = false) (h : K (a.put o.dst undef) w) : wpOp P ops Q i K a w := by
  unfold wpOp
  rw [ho]
  simp only [hw]
  exact h
set_option maxRecDepth 100000 in
set_option maxHeartbeats 4000000 in
theorem editedRegionY {y0 y1 y2 y3 y4 y5 y6 y8 y10 y11 y12 y15 y16 y17 y18 y19 y20 y21 y22 y23 y24 y25 y26 y27 y28 y29 y30 y31 y32 y33 y34 y35 y36 y37 y38 y39 y40 y41 y42 y43 y44 y45 y46 y47 y48 y49 y50 y51 y52 y53 y74 y75 y76 y77 y78 y79 z54 z55 z56 z57 z58 z59 z60 z61 z62 z63 z64 z65 z66 z67 z68 z69 z70 z71 z72 z73 : Value} {x0 x1 x2 x3 x4 x5 x6 : Value} {ga gb go N : Nat} (o : Hd) (v : Vl) (t : Vt) (m : List (BitVec 8)) (p1 p2 p3 : Option Addr) (n k b2 p c5 d1 d2 d3 : Nat) {w : World} (hr : Hid (Row w ga 29 [x0, x1, x2, x3, x4, x5, x6, .slice (some ⟨b2, p, none⟩) n c5])) (_hkn : k < n) (hci : Hid (∀ W, Below w.heap.size w W → W.cell? ⟨b2, p + k * 3, none⟩ = some (.bool true))) (hv : Hid (Row w gb 45 [.int .u64 (v.key : Int), .int .u64 (v.power : Int)])) (ho : Hid (Row w go 25 [.string o.chain, .int .i64 o.height, .int .i64 o.time, .slice p1 o.root.length d1, .slice p2 o.vals.length d2, .slice p3 o.next.length d3])) (hcr : Hid (∀ W, Below w.heap.size w W → W.cell? ⟨b2, p + k * 3 + 1, none⟩ = some (.int .u64 (t.r : Int)))) (hcs : Hid (∀ W, Below w.heap.size w W → W.cell? ⟨b2, p + k * 3 + 2, none⟩ = some (.int .u64 (t.s : Int)))) (hov : Hid (HdV w N (.agg #[.string o.chain, .int .i64 o.height, .int .i64 o.time, .slice p1 o.root.length d1, .slice p2 o.vals.length d2, .slice p3 o.next.length d3]) o)) (hN : N ≤ w.heap.size) (hw : wrongH o = 0) (hm : Hid (bytesH o = m)) (hml : m.length ≤ 140737488351232) (hvk : v.key < 18446744073709551616) (htr : t.r < 18446744073709551616) (hts : t.s < 18446744073709551616) (Q : Exit → Act → World → Prop)
    (hQ : Hid (∀ (σ : Nat → Value) (w' : World), Below w.heap.size w w' → /-19-/ σ 19 = .bool (!goodB v.key m t.r t.s) → Q .normal ⟨#[y0, y1, y2, y3, y4, y5, y6, .pointer (some ⟨go, 0, none⟩), y8, .pointer (some ⟨ga, 0, none⟩), y10, y11, y12, .int .i64 (k : Int), .pointer (some ⟨gb, 0, none⟩), y15, y16, y17, y18, y19, y20, y21, y22, y23, y24, y25, y26, y27, y28, y29, y30, y31, y32, y33, y34, y35, y36, y37, y38, y39, y40, y41, y42, y43, y44, y45, y46, y47, y48, y49, y50, y51, y52, y53, σ 0, σ 1, σ 2, σ 3, σ 4, σ 5, σ 6, σ 7, σ 8, σ 9, σ 10, σ 11, σ 12, σ 13, σ 14, σ 15, σ 16, σ 17, σ 18, σ 19, y74, y75, y76, y77, y78, y79], []⟩ w')) :
    Code.wp Tryd.prog (.region 12 ((Tryd.f5.body.bind (regOf 12)).getD #[]) true) Q ⟨#[y0, y1, y2, y3, y4, y5, y6, .pointer (some ⟨go, 0, none⟩), y8, .pointer (some ⟨ga, 0, none⟩), y10, y11, y12, .int .i64 (k : Int), .pointer (some ⟨gb, 0, none⟩), y15, y16, y17, y18, y19, y20, y21, y22, y23, y24, y25, y26, y27, y28, y29, y30, y31, y32, y33, y34, y35, y36, y37, y38, y39, y40, y41, y42, y43, y44, y45, y46, y47, y48, y49, y50, y51, y52, y53, z54, z55, z56, z57, z58, z59, z60, z61, z62, z63, z64, z65, z66, z67, z68, z69, z70, z71, z72, z73, y74, y75, y76, y77, y78, y79], []⟩ w := by
  conv => arg 2; arg 2; whnf
  conv => arg 4; dsimp only
  refine region_grows (by kernel_rfl) (fun σ => #[y0, y1, y2, y3, y4, y5, y6, .pointer (some ⟨go, 0, none⟩), y8, .pointer (some ⟨ga, 0, none⟩), y10, y11, y12, .int .i64 (k : Int), .pointer (some ⟨gb, 0, none⟩), y15, y16, y17, y18, y19, y20, y21, y22, y23, y24, y25, y26, y27, y28, y29, y30, y31, y32, y33, y34, y35, y36, y37, y38, y39, y40, y41, y42, y43, y44, y45, y46, y47, y48, y49, y50, y51, y52, y53, σ 0, σ 1, σ 2, σ 3, σ 4, σ 5, σ 6, σ 7, σ 8, σ 9, σ 10, σ 11, σ 12, σ 13, σ 14, σ 15, σ 16, σ 17, σ 18, σ 19, y74, y75, y76, y77, y78, y79]) (fun i => ([z54, z55, z56, z57, z58, z59, z60, z61, z62, z63, z64, z65, z66, z67, z68, z69, z70, z71, z72, z73] : List Value).getD i undef) rfl (fun i X W => match i with
    | 0 => X = .pointer (some ⟨ga, 7, none⟩)
    | 1 => X = .slice (some ⟨b2, p, none⟩) n c5
    | 2 => X = .int .i64 (k : Int)
    | 3 => X = .pointer (some ⟨b2, p + k * 3, none⟩)
    | 4 => X = .pointer (some ⟨b2, p + k * 3, none⟩)
    | 5 => X = .bool true
    | 6 => X = .bool true
    | 7 => X = .pointer (some ⟨gb, 0, none⟩)
    | 8 => X = .int .u64 (v.key : Int)
    | 9 => X = .agg #[.string o.chain, .int .i64 o.height, .int .i64 o.time, .slice p1 o.root.length d1, .slice p2 o.vals.length d2, .slice p3 o.next.length d3]
    | 10 => Bytes W W.heap.size X m
    | 11 => X = .pointer (some ⟨ga, 7, none⟩)
    | 12 => X = .slice (some ⟨b2, p, none⟩) n c5
    | 13 => X = .int .i64 (k : Int)
    | 14 => X = .pointer (some ⟨b2, p + k * 3, none⟩)
    | 15 => X = .pointer (some ⟨b2, p + k * 3 + 1, none⟩)
    | 16 => X = .agg #[.int .u64 (t.r : Int), .int .u64 (t.s : Int)]
    | 17 => X = .bool (goodB v.key m t.r t.s)
    | 18 => X = .bool (!goodB v.key m t.r t.s)
    | 19 => X = .bool (!goodB v.key m t.r t.s)
    | _ => True) ?_ (by kernel_rfl) ?_ ?_
  · intro i X W W' HB H
    match i, H with
    | 0, H => exact H
    | 1, H => exact H
    | 2, H => exact H
    | 3, H => exact H
    | 4, H => exact H
    | 5, H => exact H
    | 6, H => exact H
    | 7, H => exact H
    | 8, H => exact H
    | 9, H => exact H
    | 10, H => exact (H.below HB).mono HB.size
    | 11, H => exact H
    | 12, H => exact H
    | 13, H => exact H
    | 14, H => exact H
    | 15, H => exact H
    | 16, H => exact H
    | 17, H => exact H
    | 18, H => exact H
    | 19, H => exact H
    | _ + 20, _ => exact trivial
  · refine ⟨?_, ?_, ?_, ?_, ?_, ?_, ?_, ?_, ?_, ?_, ?_, ?_, ?_, ?_, ?_, ?_, ?_, ?_, ?_, ?_, trivial⟩
    · -- 0: Op.fieldAddr 29 t9 2
      intro σ W HJ hdep
      simp [Region.binds] at hdep
      have HJ := hid HJ
      refine wpOp_plain rfl rfl ?_
      go_simp
      exact Left.mk0 (.pointer (some ⟨ga, 7, none⟩)) (by first | rfl | simp [updF, *]) HJ.out rfl
    · -- 1: Op.load 27 t54
      intro σ W HJ hdep
      simp [Region.binds] at hdep
      have HJ := hid HJ
      have k := (hr.out.below HJ.out hr.out.lt).cell 7
      simp at k
      refine wpOp_plain rfl rfl ?_
      go_simp
      exact Left.mk0 (.slice (some ⟨b2, p, none⟩) n c5) (by first | rfl | simp [updF, *]) HJ.out rfl
    · -- 2: Op.move t13
      intro σ W HJ hdep
      simp [Region.binds] at hdep
      have HJ := hid HJ
      refine wpOp_plain rfl rfl ?_
      go_simp
      exact Left.mk0 (.int .i64 (k : Int)) (by first | rfl | simp [updF, *]) HJ.out rfl
    · -- 3: Op.indexAddr 27 t55 t56
      intro σ W HJ hdep
      simp [Region.binds] at hdep
      have HJ := hid HJ
      have hix : (k : Int) < (n : Int) := by omega
      have hix0 : (0 : Int) ≤ (k : Int) := by omega
      obtain ⟨e1, e2⟩ := hdep
      refine wpOp_plain rfl rfl ?_
      go_simp
      exact Left.mk0 (.pointer (some ⟨b2, p + k * 3, none⟩)) (by first | rfl | simp [updF, *]) HJ.out rfl
    · -- 4: Op.fieldAddr 51 t57 0
      intro σ W HJ hdep
      simp [Region.binds] at hdep
      have HJ := hid HJ
      refine wpOp_plain rfl rfl ?_
      go_simp
      exact Left.mk0 (.pointer (some ⟨b2, p + k * 3, none⟩)) (by first | rfl | simp [updF, *]) HJ.out rfl
    · -- 5: Op.load 4 t58
      intro σ W HJ hdep
      simp [Region.binds] at hdep
      have HJ := hid HJ
      have kk := hci.out W HJ.out
      refine wpOp_plain rfl rfl ?_
      go_simp
      exact Left.mk0 (.bool true) (by first | rfl | simp [updF, *]) HJ.out rfl
    · -- 6: Op.move t59
      intro σ W HJ hdep
      simp [Region.binds] at hdep
      have HJ := hid HJ
      refine wpOp_plain rfl rfl ?_
      go_simp
      exact Left.mk0 (.bool true) (by first | rfl | simp [updF, *]) HJ.out rfl
    · -- 7: Op.fieldAddr 45 t14 0   [guarded: some (6, true)]
      intro σ W HJ hdep
      simp [Region.binds] at hdep
      have HJ := hid HJ
      refine wpOp_wantedE rfl (by simp [Region.wanted, yielded, *]) ?_
      go_simp
      exact Left.mk0 (.pointer (some ⟨gb, 0, none⟩)) (by first | rfl | simp [updF, *]) HJ.out rfl
    · -- 8: Op.load 43 t61   [guarded: some (6, true)]
      intro σ W HJ hdep
      simp [Region.binds] at hdep
      have HJ := hid HJ
      have k := (hv.out.below HJ.out hv.out.lt).cell 0
      simp at k
      refine wpOp_wantedE rfl (by simp [Region.wanted, yielded, *]) ?_
      go_simp
      exact Left.mk0 (.int .u64 (v.key : Int)) (by first | rfl | simp [updF, *]) HJ.out rfl
    · -- 9: Op.load 25 t7   [guarded: some (6, true)]
      intro σ W HJ hdep
      simp [Region.binds] at hdep
      have HJ := hid HJ
      have k0 := (ho.out.below HJ.out ho.out.lt).cell 0
      have k1 := (ho.out.below HJ.out ho.out.lt).cell 1
      have k2 := (ho.out.below HJ.out ho.out.lt).cell 2
      have k3 := (ho.out.below HJ.out ho.out.lt).cell 3
      have k4 := (ho.out.below HJ.out ho.out.lt).cell 4
      have k5 := (ho.out.below HJ.out ho.out.lt).cell 5
      simp at k0
      simp at k1
      simp at k2
      simp at k3
      simp at k4
      simp at k5
      refine wpOp_wantedE rfl (by simp [Region.wanted, yielded, *]) ?_
      go_simp
      exact Left.mk0 (.agg #[.string o.chain, .int .i64 o.height, .int .i64 o.time, .slice p1 o.root.length d1, .slice p2 o.vals.length d2, .slice p3 o.next.length d3]) (by first | rfl | simp [updF, *]) HJ.out rfl
    · -- 10: Op.call { value (Operand.func 22), args := #[t63], argTypes 
      intro σ W HJ hdep
      simp [Region.binds] at hdep
      have HJ := hid HJ
      have HC := hid (refBytesC o _ N W (hov.out.below (HJ.out.mono hN)) (Nat.le_trans hN HJ.out.size) hw)
      rw [hm.out] at HC
      refine wpOp_wantedE rfl (by simp [Region.wanted, yielded, *]) ?_
      go_simp
      refine (HC.out).mono ?_
      rintro e w2 ⟨v, rfl, hv2, hb2⟩
      exact Left.mk v (by first | rfl | simp [updF, *]) hb2 HJ.out hv2
    · -- 11: Op.fieldAddr 29 t9 2   [guarded: some (6, true)]
      intro σ W HJ hdep
      simp [Region.binds] at hdep
      have HJ := hid HJ
      refine wpOp_wantedE rfl (by simp [Region.wanted, yielded, *]) ?_
      go_simp
      exact Left.mk0 (.pointer (some ⟨ga, 7, none⟩)) (by first | rfl | simp [updF, *]) HJ.out rfl
    · -- 12: Op.load 27 t65   [guarded: some (6, true)]
      intro σ W HJ hdep
      simp [Region.binds] at hdep
      have HJ := hid HJ
      have k := (hr.out.below HJ.out hr.out.lt).cell 7
      simp at k
      refine wpOp_wantedE rfl (by simp [Region.wanted, yielded, *]) ?_
      go_simp
      exact Left.mk0 (.slice (some ⟨b2, p, none⟩) n c5) (by first | rfl | simp [updF, *]) HJ.out rfl
    · -- 13: Op.move t13   [guarded: some (6, true)]
      intro σ W HJ hdep
      simp [Region.binds] at hdep
      have HJ := hid HJ
      refine wpOp_wantedE rfl (by simp [Region.wanted, yielded, *]) ?_
      go_simp
      exact Left.mk0 (.int .i64 (k : Int)) (by first | rfl | simp [updF, *]) HJ.out rfl
    · -- 14: Op.indexAddr 27 t66 t67   [guarded: some (6, true)]
      intro σ W HJ hdep
      simp [Region.binds] at hdep
      have HJ := hid HJ
      have hix : (k : Int) < (n : Int) := by omega
      have hix0 : (0 : Int) ≤ (k : Int) := by omega
      refine wpOp_wantedE rfl (by simp [Region.wanted, yielded, *]) ?_
      go_simp
      exact Left.mk0 (.pointer (some ⟨b2, p + k * 3, none⟩)) (by first | rfl | simp [updF, *]) HJ.out rfl
    · -- 15: Op.fieldAddr 51 t68 1   [guarded: some (6, true)]
      intro σ W HJ hdep
      simp [Region.binds] at hdep
      have HJ := hid HJ
      refine wpOp_wantedE rfl (by simp [Region.wanted, yielded, *]) ?_
      go_simp
      exact Left.mk0 (.pointer (some ⟨b2, p + k * 3 + 1, none⟩)) (by first | rfl | simp [updF, *]) HJ.out rfl
    · -- 16: Op.load 49 t69   [guarded: some (6, true)]
      intro σ W HJ hdep
      simp [Region.binds] at hdep
      have HJ := hid HJ
      have kk1 := hcr.out W HJ.out
      have kk2 := hcs.out W HJ.out
      refine wpOp_wantedE rfl (by simp [Region.wanted, yielded, *]) ?_
      go_simp
      exact Left.mk0 (.agg #[.int .u64 (t.r : Int), .int .u64 (t.s : Int)]) (by first | rfl | simp [updF, *]) HJ.out rfl
    · -- 17: Op.call { value (Operand.func 27), args := #[t62, t64, t70],
      intro σ W HJ hdep
      simp [Region.binds] at hdep
      have HJ := hid HJ
      obtain ⟨e8, hb10, e16⟩ : σ 8 = .int .u64 (v.key : Int) ∧ Bytes W W.heap.size (σ 10) m ∧ σ 16 = .agg #[.int .u64 (t.r : Int), .int .u64 (t.s : Int)] := by first | exact ⟨hdep.1, hdep.2.1, hdep.2.2⟩ | exact ⟨hdep.1, hdep.2.1, hdep.2.2.1⟩
      have e6 : σ 6 = .bool true := by first | exact hdep.2.2.2 | exact hdep.2.2.2.2 | exact hdep.2.2.2.1
      have HG := hid (refGood_any v.key m t.r t.s (σ 10) W.heap.size W hvk htr hts (Nat.le_refl _) hb10 hml)
      clear hdep hb10
      refine wpOp_wantedE rfl (by simp [Region.wanted, yielded, *]) ?_
      go_simp
      refine HG.out.mono ?_
      rintro e w2 ⟨bb, rfl, hbb, hb2⟩
      exact Left.mk (.bool bb) (by first | rfl | simp [updF, *]) hb2 HJ.out (by show Value.bool bb = Value.bool (goodB v.key m t.r t.s); rw [goodB_of hbb])
    · -- 18: Op.unOp UnOp.not 4 t71   [guarded: some (6, true)]
      intro σ W HJ hdep
      simp [Region.binds] at hdep
      have HJ := hid HJ
      refine wpOp_wantedE rfl (by simp [Region.wanted, yielded, *]) ?_
      go_simp
      exact Left.mk0 (.bool (!goodB v.key m t.r t.s)) (by first | rfl | simp [updF, *]) HJ.out rfl
    · -- 19: Op.pick t60 t72 (const (Value.bool false))
      intro σ W HJ hdep
      simp [Region.binds] at hdep
      have HJ := hid HJ
      refine wpOp_plain rfl rfl ?_
      go_simp
      exact Left.mk0 (.bool (!goodB v.key m t.r t.s)) (by first | rfl | simp [updF, *]) HJ.out rfl
  · intro σ w' hb hg
    exact hQ.out σ w' hb (by first | exact ⟨hg 19 (by decide)⟩ | exact hg 19 (by decide))
set_option maxRecDepth 100000 in
set_option maxHeartbeats 4000000 in
theorem editedRegionN {y0 y1 y2 y3 y4 y5 y6 y8 y10 y11 y12 y15 y16 y17 y18 y19 y20 y21 y22 y23 y24 y25 y26 y27 y28 y29 y30 y31 y32 y33 y34 y35 y36 y37 y38 y39 y40 y41 y42 y43 y44 y45 y46 y47 y48 y49 y50 y51 y52 y53 y74 y75 y76 y77 y78 y79 z54 z55 z56 z57 z58 z59 z60 z61 z62 z63 z64 z65 z66 z67 z68 z69 z70 z71 z72 z73 : Value} {x0 x1 x2 x3 x4 x5 x6 y7 y14 : Value} {ga : Nat} (n k b2 p c5 : Nat) {w : World} (hr : Hid (Row w ga 29 [x0, x1, x2, x3, x4, x5, x6, .slice (some ⟨b2, p, none⟩) n c5])) (_hkn : k < n) (hci : Hid (∀ W, Below w.heap.size w W → W.cell? ⟨b2, p + k * 3, none⟩ = some (.bool false))) (Q : Exit → Act → World → Prop)
    (hQ : Hid (∀ (σ : Nat → Value) (w' : World), Below w.heap.size w w' → /-19-/ σ 19 = .bool false → Q .normal ⟨#[y0, y1, y2, y3, y4, y5, y6, y7, y8, .pointer (some ⟨ga, 0, none⟩), y10, y11, y12, .int .i64 (k : Int), y14, y15, y16, y17, y18, y19, y20, y21, y22, y23, y24, y25, y26, y27, y28, y29, y30, y31, y32, y33, y34, y35, y36, y37, y38, y39, y40, y41, y42, y43, y44, y45, y46, y47, y48, y49, y50, y51, y52, y53, σ 0, σ 1, σ 2, σ 3, σ 4, σ 5, σ 6, σ 7, σ 8, σ 9, σ 10, σ 11, σ 12, σ 13, σ 14, σ 15, σ 16, σ 17, σ 18, σ 19, y74, y75, y76, y77, y78, y79], []⟩ w')) :
    Code.wp Tryd.prog (.region 12 ((Tryd.f5.body.bind (regOf 12)).getD #[]) true) Q ⟨#[y0, y1, y2, y3, y4, y5, y6, y7, y8, .pointer (some ⟨ga, 0, none⟩), y10, y11, y12, .int .i64 (k : Int), y14, y15, y16, y17, y18, y19, y20, y21, y22, y23, y24, y25, y26, y27, y28, y29, y30, y31, y32, y33, y34, y35, y36, y37, y38, y39, y40, y41, y42, y43, y44, y45, y46, y47, y48, y49, y50, y51, y52, y53, z54, z55, z56, z57, z58, z59, z60, z61, z62, z63, z64, z65, z66, z67, z68, z69, z70, z71, z72, z73, y74, y75, y76, y77, y78, y79], []⟩ w := by
  conv => arg 2; arg 2; whnf
  conv => arg 4; dsimp only
  refine region_grows (by kernel_rfl) (fun σ => #[y0, y1, y2, y3, y4, y5, y6, y7, y8, .pointer (some ⟨ga, 0, none⟩), y10, y11, y12, .int .i64 (k : Int), y14, y15, y16, y17, y18, y19, y20, y21, y22, y23, y24, y25, y26, y27, y28, y29, y30, y31, y32, y33, y34, y35, y36, y37, y38, y39, y40, y41, y42, y43, y44, y45, y46, y47, y48, y49, y50, y51, y52, y53, σ 0, σ 1, σ 2, σ 3, σ 4, σ 5, σ 6, σ 7, σ 8, σ 9, σ 10, σ 11, σ 12, σ 13, σ 14, σ 15, σ 16, σ 17, σ 18, σ 19, y74, y75, y76, y77, y78, y79]) (fun i => ([z54, z55, z56, z57, z58, z59, z60, z61, z62, z63, z64, z65, z66, z67, z68, z69, z70, z71, z72, z73] : List Value).getD i undef) rfl (fun i X W => match i with
    | 0 => X = .pointer (some ⟨ga, 7, none⟩)
    | 1 => X = .slice (some ⟨b2, p, none⟩) n c5
    | 2 => X = .int .i64 (k : Int)
    | 3 => X = .pointer (some ⟨b2, p + k * 3, none⟩)
    | 4 => X = .pointer (some ⟨b2, p + k * 3, none⟩)
    | 5 => X = .bool false
    | 6 => X = .bool false
    | 19 => X = .bool false
    | _ => True) ?_ (by kernel_rfl) ?_ ?_
  · intro i X W W' HB H
    match i, H with
    | 0, H => exact H
    | 1, H => exact H
    | 2, H => exact H
    | 3, H => exact H
    | 4, H => exact H
    | 5, H => exact H
    | 6, H => exact H
    | 19, H => exact H
    | 7, _ => exact trivial
    | 8, _ => exact trivial
    | 9, _ => exact trivial
    | 10, _ => exact trivial
    | 11, _ => exact trivial
    | 12, _ => exact trivial
    | 13, _ => exact trivial
    | 14, _ => exact trivial
    | 15, _ => exact trivial
    | 16, _ => exact trivial
    | 17, _ => exact trivial
    | 18, _ => exact trivial
    | _ + 20, _ => exact trivial
  · refine ⟨?_, ?_, ?_, ?_, ?_, ?_, ?_, ?_, ?_, ?_, ?_, ?_, ?_, ?_, ?_, ?_, ?_, ?_, ?_, ?_, trivial⟩
    · -- 0: Op.fieldAddr 29 t9 2
      intro σ W HJ hdep
      simp [Region.binds] at hdep
      have HJ := hid HJ
      refine wpOp_plain rfl rfl ?_
      go_simp
      exact Left.mk0 (.pointer (some ⟨ga, 7, none⟩)) (by first | rfl | simp [updF, *]) HJ.out rfl
    · -- 1: Op.load 27 t54
      intro σ W HJ hdep
      simp [Region.binds] at hdep
      have HJ := hid HJ
      have k := (hr.out.below HJ.out hr.out.lt).cell 7
      simp at k
      refine wpOp_plain rfl rfl ?_
      go_simp
      exact Left.mk0 (.slice (some ⟨b2, p, none⟩) n c5) (by first | rfl | simp [updF, *]) HJ.out rfl
    · -- 2: Op.move t13
      intro σ W HJ hdep
      simp [Region.binds] at hdep
      have HJ := hid HJ
      refine wpOp_plain rfl rfl ?_
      go_simp
      exact Left.mk0 (.int .i64 (k : Int)) (by first | rfl | simp [updF, *]) HJ.out rfl
    · -- 3: Op.indexAddr 27 t55 t56
      intro σ W HJ hdep
      simp [Region.binds] at hdep
      have HJ := hid HJ
      have hix : (k : Int) < (n : Int) := by omega
      have hix0 : (0 : Int) ≤ (k : Int) := by omega
      obtain ⟨e1, e2⟩ := hdep
      refine wpOp_plain rfl rfl ?_
      go_simp
      exact Left.mk0 (.pointer (some ⟨b2, p + k * 3, none⟩)) (by first | rfl | simp [updF, *]) HJ.out rfl
    · -- 4: Op.fieldAddr 51 t57 0
      intro σ W HJ hdep
      simp [Region.binds] at hdep
      have HJ := hid HJ
      refine wpOp_plain rfl rfl ?_
      go_simp
      exact Left.mk0 (.pointer (some ⟨b2, p + k * 3, none⟩)) (by first | rfl | simp [updF, *]) HJ.out rfl
    · -- 5: Op.load 4 t58
      intro σ W HJ hdep
      simp [Region.binds] at hdep
      have HJ := hid HJ
      have kk := hci.out W HJ.out
      refine wpOp_plain rfl rfl ?_
      go_simp
      exact Left.mk0 (.bool false) (by first | rfl | simp [updF, *]) HJ.out rfl
    · -- 6: Op.move t59
      intro σ W HJ hdep
      simp [Region.binds] at hdep
      have HJ := hid HJ
      refine wpOp_plain rfl rfl ?_
      go_simp
      exact Left.mk0 (.bool false) (by first | rfl | simp [updF, *]) HJ.out rfl
    · -- 7: Op.fieldAddr 45 t14 0   [guarded: some (6, true)]
      intro σ W HJ hdep
      simp [Region.binds] at hdep
      have HJ := hid HJ
      have eg : σ 6 = .bool false := by first | exact hdep | exact hdep.1 | exact hdep.2 | exact hdep.2.1 | exact hdep.2.2 | exact hdep.2.2.1 | exact hdep.2.2.2 | exact hdep.2.2.2.1 | exact hdep.2.2.2.2
      clear hdep
      refine wpOp_unwantedE rfl (by simp [Region.wanted, yielded, *]) ?_
      exact Left.mk0 undef (by first | rfl | simp [updF, *]) HJ.out trivial
    · -- 8: Op.load 43 t61   [guarded: some (6, true)]
      intro σ W HJ hdep
      simp [Region.binds] at hdep
      have HJ := hid HJ
      have eg : σ 6 = .bool false := by first | exact hdep | exact hdep.1 | exact hdep.2 | exact hdep.2.1 | exact hdep.2.2 | exact hdep.2.2.1 | exact hdep.2.2.2 | exact hdep.2.2.2.1 | exact hdep.2.2.2.2
      clear hdep
      refine wpOp_unwantedE rfl (by simp [Region.wanted, yielded, *]) ?_
      exact Left.mk0 undef (by first | rfl | simp [updF, *]) HJ.out trivial
    · -- 9: Op.load 25 t7   [guarded: some (6, true)]
      intro σ W HJ hdep
      simp [Region.binds] at hdep
      have HJ := hid HJ
      have eg : σ 6 = .bool false := by first | exact hdep | exact hdep.1 | exact hdep.2 | exact hdep.2.1 | exact hdep.2.2 | exact hdep.2.2.1 | exact hdep.2.2.2 | exact hdep.2.2.2.1 | exact hdep.2.2.2.2
      clear hdep
      refine wpOp_unwantedE rfl (by simp [Region.wanted, yielded, *]) ?_
      exact Left.mk0 undef (by first | rfl | simp [updF, *]) HJ.out trivial
    · -- 10: Op.call { value (Operand.func 22), args := #[t63], argTypes 
      intro σ W HJ hdep
      simp [Region.binds] at hdep
      have HJ := hid HJ
      have eg : σ 6 = .bool false := by first | exact hdep | exact hdep.1 | exact hdep.2 | exact hdep.2.1 | exact hdep.2.2 | exact hdep.2.2.1 | exact hdep.2.2.2 | exact hdep.2.2.2.1 | exact hdep.2.2.2.2
      clear hdep
      refine wpOp_unwantedE rfl (by simp [Region.wanted, yielded, *]) ?_
      exact Left.mk0 undef (by first | rfl | simp [updF, *]) HJ.out trivial
    · -- 11: Op.fieldAddr 29 t9 2   [guarded: some (6, true)]
      intro σ W HJ hdep
      simp [Region.binds] at hdep
      have HJ := hid HJ
      have eg : σ 6 = .bool false := by first | exact hdep | exact hdep.1 | exact hdep.2 | exact hdep.2.1 | exact hdep.2.2 | exact hdep.2.2.1 | exact hdep.2.2.2 | exact hdep.2.2.2.1 | exact hdep.2.2.2.2
      clear hdep
      refine wpOp_unwantedE rfl (by simp [Region.wanted, yielded, *]) ?_
      exact Left.mk0 undef (by first | rfl | simp [updF, *]) HJ.out trivial
    · -- 12: Op.load 27 t65   [guarded: some (6, true)]
      intro σ W HJ hdep
      simp [Region.binds] at hdep
      have HJ := hid HJ
      have eg : σ 6 = .bool false := by first | exact hdep | exact hdep.1 | exact hdep.2 | exact hdep.2.1 | exact hdep.2.2 | exact hdep.2.2.1 | exact hdep.2.2.2 | exact hdep.2.2.2.1 | exact hdep.2.2.2.2
      clear hdep
      refine wpOp_unwantedE rfl (by simp [Region.wanted, yielded, *]) ?_
      exact Left.mk0 undef (by first | rfl | simp [updF, *]) HJ.out trivial
    · -- 13: Op.move t13   [guarded: some (6, true)]
      intro σ W HJ hdep
      simp [Region.binds] at hdep
      have HJ := hid HJ
      have eg : σ 6 = .bool false := by first | exact hdep | exact hdep.1 | exact hdep.2 | exact hdep.2.1 | exact hdep.2.2 | exact hdep.2.2.1 | exact hdep.2.2.2 | exact hdep.2.2.2.1 | exact hdep.2.2.2.2
      clear hdep
      refine wpOp_unwantedE rfl (by simp [Region.wanted, yielded, *]) ?_
      exact Left.mk0 undef (by first | rfl | simp [updF, *]) HJ.out trivial
    · -- 14: Op.indexAddr 27 t66 t67   [guarded: some (6, true)]
      intro σ W HJ hdep
      simp [Region.binds] at hdep
      have HJ := hid HJ
      have eg : σ 6 = .bool false := by first | exact hdep | exact hdep.1 | exact hdep.2 | exact hdep.2.1 | exact hdep.2.2 | exact hdep.2.2.1 | exact hdep.2.2.2 | exact hdep.2.2.2.1 | exact hdep.2.2.2.2
      clear hdep
      refine wpOp_unwantedE rfl (by simp [Region.wanted, yielded, *]) ?_
      exact Left.mk0 undef (by first | rfl | simp [updF, *]) HJ.out trivial
    · -- 15: Op.fieldAddr 51 t68 1   [guarded: some (6, true)]
      intro σ W HJ hdep
      simp [Region.binds] at hdep
      have HJ := hid HJ
      have eg : σ 6 = .bool false := by first | exact hdep | exact hdep.1 | exact hdep.2 | exact hdep.2.1 | exact hdep.2.2 | exact hdep.2.2.1 | exact hdep.2.2.2 | exact hdep.2.2.2.1 | exact hdep.2.2.2.2
      clear hdep
      refine wpOp_unwantedE rfl (by simp [Region.wanted, yielded, *]) ?_
      exact Left.mk0 undef (by first | rfl | simp [updF, *]) HJ.out trivial
    · -- 16: Op.load 49 t69   [guarded: some (6, true)]
      intro σ W HJ hdep
      simp [Region.binds] at hdep
      have HJ := hid HJ
      have eg : σ 6 = .bool false := by first | exact hdep | exact hdep.1 | exact hdep.2 | exact hdep.2.1 | exact hdep.2.2 | exact hdep.2.2.1 | exact hdep.2.2.2 | exact hdep.2.2.2.1 | exact hdep.2.2.2.2
      clear hdep
      refine wpOp_unwantedE rfl (by simp [Region.wanted, yielded, *]) ?_
      exact Left.mk0 undef (by first | rfl | simp [updF, *]) HJ.out trivial
    · -- 17: Op.call { value (Operand.func 27), args := #[t62, t64, t70],
      intro σ W HJ hdep
      simp [Region.binds] at hdep
      have HJ := hid HJ
      have eg : σ 6 = .bool false := by first | exact hdep | exact hdep.1 | exact hdep.2 | exact hdep.2.1 | exact hdep.2.2 | exact hdep.2.2.1 | exact hdep.2.2.2 | exact hdep.2.2.2.1 | exact hdep.2.2.2.2
      clear hdep
      refine wpOp_unwantedE rfl (by simp [Region.wanted, yielded, *]) ?_
      exact Left.mk0 undef (by first | rfl | simp [updF, *]) HJ.out trivial
    · -- 18: Op.unOp UnOp.not 4 t71   [guarded: some (6, true)]
      intro σ W HJ hdep
      simp [Region.binds] at hdep
      have HJ := hid HJ
      have eg : σ 6 = .bool false := by first | exact hdep | exact hdep.1 | exact hdep.2 | exact hdep.2.1 | exact hdep.2.2 | exact hdep.2.2.1 | exact hdep.2.2.2 | exact hdep.2.2.2.1 | exact hdep.2.2.2.2
      clear hdep
      refine wpOp_unwantedE rfl (by simp [Region.wanted, yielded, *]) ?_
      exact Left.mk0 undef (by first | rfl | simp [updF, *]) HJ.out trivial
    · -- 19: Op.pick t60 t72 (const (Value.bool false))
      intro σ W HJ hdep
      simp [Region.binds] at hdep
      have HJ := hid HJ
      refine wpOp_plain rfl rfl ?_
      go_simp
      exact Left.mk0 (.bool false) (by first | rfl | simp [updF, *]) HJ.out rfl
  · intro σ w' hb hg
    exact hQ.out σ w' hb (by first | exact ⟨hg 19 (by decide)⟩ | exact hg 19 (by decide))
theorem edited_check {h o : Hd} {l : List Vl} {ts : List Vt} (e : checkN ⟨h, l, ts⟩ = 0) (hw : wrongH o = 0) (hv : o.vals = h.vals) : checkN ⟨o, l, ts⟩ = if goodAll (bytesH o) l ts = true then 0 else 10 := by
  obtain ⟨h1, h2, h3, h4⟩ := checkN_ok e
  obtain ⟨_, g2, g3⟩ := togetherN_ok h1
  have ht : togetherN o l = 0 := by
    unfold togetherN
    rw [if_neg (by rw [hw]; simp), if_neg (by simp only at g2; rw [g2]; simp), if_pos (by rw [hv]; exact g3)]
  unfold checkN
  simp only at h2 h4 ⊢
  rw [if_neg (by rw [ht]; simp), if_neg (by rw [h2]; simp)]
  cases hg : goodAll (bytesH o) l ts with
  | true => rw [if_neg (by simp), if_neg (by omega)]; rfl
  | false => rfl
set_option maxRecDepth 100000 in
set_option maxHeartbeats 8000000 in
theorem headerEdited_any (hal : AliveC6 29) (l : List Vl) (h : Hd) (seeds : List (List (BitVec 8))) (o : Hd) (lv hv sv ov : Value) (N : Nat) (w : World) (htab : tableAt w) (hN : N ≤ w.heap.size) (hl : Vals w N lv l) (hhv : HdV w N hv h) (hs : Lists w N sv seeds) (hov : HdV w N ov o)
    (hll : l.length < 2305843009213693952) (hok : ∀ v ∈ l, v.ok) (hf : h.fits) (hsl : seeds.length ≤ 35184372088832) (hsf : ∀ s ∈ seeds, s.length ≤ 140737488351232) (hof : o.fits) :
    Calls Tryd.prog 5 #[lv, hv, sv, ov] w fun e w' => e = .returned (.bool true) ∧ Below w.heap.size w w' := by
  have HL := hid hl
  have HV := hid hhv
  have HS := hid hs
  have HTAB := hid htab
  have HSF := hid hsf
  have HOK := hid hok
  obtain ⟨rv, vv, nv, rfl, h1, h2, h3⟩ := hhv
  obtain ⟨o1, c1, rfl, _⟩ := h1.shape
  obtain ⟨o2, c2, rfl, _⟩ := h2.shape
  obtain ⟨o3, c3, rfl, _⟩ := h3.shape
  obtain ⟨ol, cl, rfl, _⟩ := hl.shape
  obtain ⟨os, cs, rfl, _⟩ := hs.shape
  have HOV := hid hov
  obtain ⟨rv', vv', nv', rfl, g1, g2, g3⟩ := hov
  obtain ⟨p1, d1, rfl, _⟩ := g1.shape
  obtain ⟨p2, d2, rfl, _⟩ := g2.shape
  obtain ⟨p3, d3, rfl, _⟩ := g3.shape
  have G2 := hid g2
  have H2 := hid h2
  obtain ⟨w0, hw0⟩ : ∃ w0, w.alloc (.cells #[.string h.chain, .int .i64 h.height, .int .i64 h.time, .slice o1 h.root.length c1, .slice o2 h.vals.length c2, .slice o3 h.next.length c3] 25) = w0 := ⟨_, rfl⟩
  have hb0 : Below w.heap.size w w0 := by rw [← hw0]; exact (Below.refl _ _).alloc (Nat.le_refl _) _
  have hr0 : Row w0 w.heap.size 25 [.string h.chain, .int .i64 h.height, .int .i64 h.time, .slice o1 h.root.length c1, .slice o2 h.vals.length c2, .slice o3 h.next.length c3] := by rw [← hw0]; exact Row.new _ _ _
  have hsz0 : w0.heap.size = w.heap.size + 1 := by rw [← hw0]; simp
  obtain ⟨w1, hw1⟩ : ∃ w1, w0.alloc (.cells #[.string o.chain, .int .i64 o.height, .int .i64 o.time, .slice p1 o.root.length d1, .slice p2 o.vals.length d2, .slice p3 o.next.length d3] 25) = w1 := ⟨_, rfl⟩
  have hb1 : Below w0.heap.size w0 w1 := by rw [← hw1]; exact (Below.refl _ _).alloc (Nat.le_refl _) _
  have HR1 := hid (hr0.below hb1 hr0.lt)
  have HO1 := hid (show Row w1 (w.heap.size + 1) 25 [.string o.chain, .int .i64 o.height, .int .i64 o.time, .slice p1 o.root.length d1, .slice p2 o.vals.length d2, .slice p3 o.next.length d3] by rw [← hw1, ← hsz0]; exact Row.new _ _ _)
  have HB1 := hid (hb0.trans (hb1.mono hb0.size))
  have HAL := hid (hal w1 (htab.below HB1.out htab.lt))
  clear h1 h2 h3 g1 g2 g3 hl hs htab hsf hok hb0 hr0 hb1 hal
  go_enter Tryd.func5, Tryd.ntmps5
  go_wp2_with fail
  refine HAL.out.mono ?_
  rintro e w2 ⟨rfl, hb2⟩
  have HB2 := hid (HB1.out.trans (hb2.mono HB1.out.size))
  have HR2 := hid (HR1.out.below hb2 HR1.out.lt)
  obtain ⟨k0, k1, k2, k3, k4, k5⟩ := HR2.out.six
  have HSA := hid (signC h l seeds _ _ _ N w2 (HTAB.out.below HB2.out HTAB.out.lt) (Nat.le_trans hN HB2.out.size) (HV.out.below (HB2.out.mono hN)) hf (HL.out.below (HB2.out.mono hN)) hll HOK.out (HS.out.below (HB2.out.mono hN)) hsl HSF.out)
  have HFIT := hid (signS_fitsA h l seeds hf HOK.out)
  have HO2 := hid (HO1.out.below hb2 HO1.out.lt)
  clear hb2 HAL hw0 hw1
  generalize hSg : signS h l seeds = S at *
  have HSS := hid hSg
  clear hSg
  generalize htg : togetherN h l = tg at *
  have HTG := hid htg
  clear htg
  go_wp2_with fail
  refine HSA.out.mono ?_
  rintro e w3 ⟨va, rfl, hva, hb3⟩
  have HB3 := hid (HB2.out.trans (hb3.mono HB2.out.size))
  have HVA := hid hva
  have HO3 := hid (HO2.out.below hb3 HO2.out.lt)
  have HR3 := hid (HR2.out.below hb3 HR2.out.lt)
  obtain ⟨a1, a2, a3, a4, a5, rfl, x1, x2, x3, x4, x5⟩ := hva
  obtain ⟨q1, e1, rfl, _⟩ := x1.shape
  obtain ⟨q2, e2, rfl, _⟩ := x2.shape
  obtain ⟨q3, e3, rfl, _⟩ := x3.shape
  obtain ⟨q4, e4, rfl, _⟩ := x4.shape
  obtain ⟨q5, e5, rfl, _⟩ := x5.shape
  obtain ⟨w4, hw4⟩ : ∃ w4, w3.alloc (.cells #[.string S.hd.chain, .int .i64 S.hd.height, .int .i64 S.hd.time, .slice q1 S.hd.root.length e1, .slice q2 S.hd.vals.length e2, .slice q3 S.hd.next.length e3, .slice q4 S.vals.length e4, .slice q5 S.votes.length e5] 29) = w4 := ⟨_, rfl⟩
  have hb4 : Below w3.heap.size w3 w4 := by rw [← hw4]; exact (Below.refl _ _).alloc (Nat.le_refl _) _
  obtain ⟨ga, hga⟩ : ∃ ga, w3.heap.size = ga := ⟨_, rfl⟩
  have HA4 := hid (show Row w4 ga 29 [.string S.hd.chain, .int .i64 S.hd.height, .int .i64 S.hd.time, .slice q1 S.hd.root.length e1, .slice q2 S.hd.vals.length e2, .slice q3 S.hd.next.length e3, .slice q4 S.vals.length e4, .slice q5 S.votes.length e5] by rw [← hw4, ← hga]; exact Row.new _ _ _)
  have HB4 := hid (HB3.out.trans (hb4.mono HB3.out.size))
  have HVA4 := hid ((HVA.out.below hb4).mono hb4.size)
  have HO4 := hid (HO3.out.below hb4 HO3.out.lt)
  have HR4 := hid (HR3.out.below hb4 HR3.out.lt)
  clear hb3 x1 x2 x3 x4 x5 hb4 HSA k0 k1 k2 k3 k4 k5
  by_cases hz : tg = 0
  · have ez : (tg != 0) = false := by simp [hz]
    have HZ := hid (HTG.out.trans hz)
    clear hz
    obtain ⟨k0, k1, k2, k3, k4, k5, k6, k7⟩ := HA4.out.eight
    have HCA := hid (checkC S _ w4.heap.size w4 (HTAB.out.below HB4.out HTAB.out.lt) (Nat.le_refl _) HVA4.out HFIT.out)
    obtain ⟨zs, hzs⟩ : ∃ z, checkN S = z := ⟨_, rfl⟩
    rw [hzs] at HCA
    have HZS := hid hzs
    clear hzs
    go_wp2_with fail
    refine HCA.out.mono ?_
    rintro e w5 ⟨rfl, hb5⟩
    have HB5 := hid (HB4.out.trans (hb5.mono HB4.out.size))
    have HA5 := hid (HA4.out.below hb5 HA4.out.lt)
    have HO5 := hid (HO4.out.below hb5 HO4.out.lt)
    have HR5 := hid (HR4.out.below hb5 HR4.out.lt)
    have HVA5 := hid ((HVA4.out.below hb5).mono hb5.size)
    clear hb5 HCA k0 k1 k2 k3 k4 k5 k6 k7 hw4
    by_cases hx : zs = 0
    · have ex : (zs != 0) = false := by simp [hx]
      have HX := hid (HZS.out.trans hx)
      clear hx
      obtain ⟨k0, k1, k2, k3, k4, k5⟩ := HO5.out.six
      have HWO := hid (refWrong_any o _ N w5 (HOV.out.below (HB5.out.mono hN)) hof)
      obtain ⟨zo, hzo⟩ : ∃ z, wrongH o = z := ⟨_, rfl⟩
      rw [hzo] at HWO
      have HZO := hid hzo
      clear hzo
      go_wp2_with fail
      refine HWO.out.mono ?_
      rintro e w6 ⟨rfl, hb6⟩
      have HB6 := hid (HB5.out.trans (hb6.mono HB5.out.size))
      have HA6 := hid (HA5.out.below hb6 HA5.out.lt)
      have HO6 := hid (HO5.out.below hb6 HO5.out.lt)
      have HR6 := hid (HR5.out.below hb6 HR5.out.lt)
      have HVA6 := hid ((HVA5.out.below hb6).mono hb6.size)
      clear hb6 HWO k0 k1 k2 k3 k4 k5
      by_cases hy : zo = 0
      · have ey : (zo != 0) = false := by simp [hy]
        have HY := hid (HZO.out.trans hy)
        clear hy
        have k4 := HO6.out.cell 4
        have j4 := HR6.out.cell 4
        simp at k4 j4
        have HSM := hid (sameB_any o.vals h.vals _ _ N N w6 (G2.out.below (HB6.out.mono hN)) (H2.out.below (HB6.out.mono hN)) (by have := hof.2.2.1; omega) (by have := hf.2.2.1; omega))
        obtain ⟨dv, hdv⟩ : ∃ d, decide (o.vals = h.vals) = d := ⟨_, rfl⟩
        rw [hdv] at HSM
        have HDV := hid hdv
        clear hdv
        go_wp2_with fail
        refine HSM.out.mono ?_
        rintro e w7 ⟨rfl, nq, hw7⟩
        have hb7 : Below w6.heap.size w6 w7 := by rw [hw7]; exact below_drewH w6 nq _
        have HB7 := hid (HB6.out.trans (hb7.mono HB6.out.size))
        have HA7 := hid (HA6.out.below hb7 HA6.out.lt)
        have HO7 := hid (HO6.out.below hb7 HO6.out.lt)
        have HVA7 := hid ((HVA6.out.below hb7).mono hb7.size)
        clear hb7 hw7 HSM k4 j4
        cases dv with
        | false =>
          go_wp2
          go_ret
          exact ⟨rfl, HB7.out⟩
        | true =>
          have HVE := hid (of_decide_eq_true HDV.out)
          have HSE := hid (show S = ⟨h, l, votesOf seeds (bytesH h) l⟩ by rw [← HSS.out]; exact signS_ok HZ.out)
          obtain ⟨ts, hts⟩ : ∃ ts, ts = S.votes := ⟨_, rfl⟩
          have HTS := hid hts
          have HSV := hid (show S.vals = l by rw [HSE.out])
          have HSH := hid (show S.hd = h by rw [HSE.out])
          have HEC := hid (show checkN ⟨o, l, ts⟩ = if goodAll (bytesH o) l ts = true then 0 else 10 from edited_check (h := h) (by rw [hts, HSE.out]; have := HX.out; rw [HSE.out] at this; exact this) HY.out HVE.out)
          have HVO := hid (valsN_ok (togetherN_ok HZ.out).2.1)
          have hl10 := HVO.out.2.1
          have HSL := hid (show ts.length = l.length by rw [hts, HSE.out]; exact votesOf_length _ _ _)
          have HTOK := hid (show ∀ t ∈ ts, t.ok by rw [hts]; exact HFIT.out.2.2.2.2)
          clear hts
          obtain ⟨n, hn⟩ : ∃ n, l.length = n := ⟨_, rfl⟩
          have HN := hid hn
          have HSN := hid (show S.votes.length = n by rw [← HTS.out, HSL.out, hn])
          obtain ⟨w8, hw8⟩ : ∃ w8, w7.alloc (.cells #[.string S.hd.chain, .int .i64 S.hd.height, .int .i64 S.hd.time, .slice q1 S.hd.root.length e1, .slice q2 S.hd.vals.length e2, .slice q3 S.hd.next.length e3, .slice q4 S.vals.length e4, .slice q5 S.votes.length e5] 29) = w8 := ⟨_, rfl⟩
          have hb8 : Below w7.heap.size w7 w8 := by rw [← hw8]; exact (Below.refl _ _).alloc (Nat.le_refl _) _
          obtain ⟨gt, hgt⟩ : ∃ gt, w7.heap.size = gt := ⟨_, rfl⟩
          have HT8 := hid (show Row w8 gt 29 [.string S.hd.chain, .int .i64 S.hd.height, .int .i64 S.hd.time, .slice q1 S.hd.root.length e1, .slice q2 S.hd.vals.length e2, .slice q3 S.hd.next.length e3, .slice q4 S.vals.length e4, .slice q5 S.votes.length e5] by rw [← hw8, ← hgt]; exact Row.new _ _ _)
          have HO8 := hid (HO7.out.below hb8 HO7.out.lt)
          obtain ⟨w9, hw9⟩ : ∃ w9, ((((((w8.setCell ⟨gt, 0, none⟩ (.string o.chain)).setCell ⟨gt, 1, none⟩ (.int .i64 o.height)).setCell ⟨gt, 2, none⟩ (.int .i64 o.time)).setCell ⟨gt, 3, none⟩ (.slice p1 o.root.length d1)).setCell ⟨gt, 4, none⟩ (.slice p2 o.vals.length d2)).setCell ⟨gt, 5, none⟩ (.slice p3 o.next.length d3)) = w9 := ⟨_, rfl⟩
          have hle : w7.heap.size ≤ gt := Nat.le_of_eq hgt
          have hb9 : Below w7.heap.size w7 w9 := by
            rw [← hw9]
            exact (((((hb8.setCell hle _).setCell hle _).setCell hle _).setCell hle _).setCell hle _).setCell hle _
          have HT9 := hid (show Row w9 gt 29 [.string o.chain, .int .i64 o.height, .int .i64 o.time, .slice p1 o.root.length d1, .slice p2 o.vals.length d2, .slice p3 o.next.length d3, .slice q4 S.vals.length e4, .slice q5 S.votes.length e5] by
            rw [← hw9]
            exact (((((HT8.out.set 0 (.string o.chain)).set 1 (.int .i64 o.height)).set 2 (.int .i64 o.time)).set 3 (.slice p1 o.root.length d1)).set 4 (.slice p2 o.vals.length d2)).set 5 (.slice p3 o.next.length d3))
          have HA9 := hid (HA7.out.below hb9 HA7.out.lt)
          have HO9 := hid (HO7.out.below hb9 HO7.out.lt)
          have HB9 := hid (HB7.out.trans (hb9.mono HB7.out.size))
          have HVA9 := hid ((HVA7.out.below hb9).mono hb9.size)
          have HSG9 := hid (show SgV w9 w9.heap.size (.agg #[.string o.chain, .int .i64 o.height, .int .i64 o.time, .slice p1 o.root.length d1, .slice p2 o.vals.length d2, .slice p3 o.next.length d3, .slice q4 S.vals.length e4, .slice q5 S.votes.length e5]) ⟨o, l, ts⟩ by
            obtain ⟨r1, r2, r3, hE, y1, y2, y3⟩ := (HOV.out.below (HB9.out.mono hN)).mono (Nat.le_trans hN HB9.out.size)
            obtain ⟨_, _, _, _, _, hE2, _, _, _, z4, z5⟩ := HVA9.out
            simp at hE hE2
            obtain ⟨rfl, rfl, rfl⟩ := hE
            obtain ⟨_, _, _, rfl, rfl⟩ := hE2
            rw [HSV.out] at z4
            rw [← HTS.out] at z5
            exact ⟨_, _, _, _, _, by rw [HSV.out, ← HTS.out], y1, y2, y3, by rw [HSV.out] at *; exact z4, by rw [← HTS.out] at *; exact z5⟩)
          obtain ⟨k0, k1, k2, k3, k4, k5, k6, k7⟩ := HA7.out.eight
          obtain ⟨j0, j1, j2, j3, j4, j5⟩ := HO8.out.six
          have z0 := HT8.out.frozen 0
          have z1 := HT8.out.frozen 1
          have z2 := HT8.out.frozen 2
          have z3 := HT8.out.frozen 3
          have z4 := HT8.out.frozen 4
          have z5 := HT8.out.frozen 5
          obtain ⟨l0, l1, l2, l3, l4, l5, l6, l7⟩ := HT8.out.eight
          clear hb8 hb9 hn
          go_wp2_with fail
          rw [HN.out, HSN.out]
          rw [HN.out] at HL hl10
          rw [HSN.out] at HA9 HT9 HSG9 HVA9
          have HMD := hid (rfl : bytesH o = bytesH o)
          obtain ⟨m, hm⟩ : ∃ m, bytesH o = m := ⟨_, rfl⟩
          have HM := hid hm
          have hml : m.length ≤ 300 := by rw [← hm]; exact wrs_head o HY.out
          rw [hm] at HEC
          clear hm HMD k0 k1 k2 k3 k4 k5 k6 k7 j0 j1 j2 j3 j4 j5 z0 z1 z2 z3 z4 z5 l0 l1 l2 l3 l4 l5 l6 l7
          go_loopw [12, 13, 14, 49] (fun s12 _ _ i wr => ∃ (k : Nat) (q : Bool), k ≤ n ∧ i = .int .i64 (k : Int) ∧ s12 = .bool q ∧ Hid (Below w9.heap.size w9 wr ∧ (q && goodAll m (l.drop k) (ts.drop k)) = goodAll m l ts)) (fun _ _ _ i _ => n - (intOf i).toNat)
          case atStart => exact ⟨0, true, by omega, rfl, rfl, hid ⟨Below.refl _ _, by simp⟩⟩
          case round =>
            obtain ⟨k, q, hk, rfl, rfl, HT⟩ := hrel
            have hszr := HT.out.1.size
            have HBr := hid (HB9.out.trans (HT.out.1.mono HB9.out.size))
            by_cases hlt : k < n
            · obtain ⟨v, hv⟩ : ∃ v, l[k]? = some v := ⟨l[k]'(by rw [HN.out]; exact hlt), List.getElem?_eq_getElem _⟩
              obtain ⟨t, ht⟩ : ∃ t, ts[k]? = some t := ⟨ts[k]'(by rw [HSL.out, HN.out]; exact hlt), List.getElem?_eq_getElem _⟩
              obtain ⟨bb, bo, rfl, hcells⟩ := HL.out.spot (by omega)
              obtain ⟨hbN, i0, i1⟩ := hcells k v hv
              have hbl : bb < w.heap.size := by omega
              have j0 := (HBr.out.cell (p := ⟨bb, bo + k * 2, none⟩) hbl).trans i0
              have j1 := (HBr.out.cell (p := ⟨bb, bo + k * 2 + 1, none⟩) hbl).trans i1
              have hlt' : (k : Int) < (n : Int) := by omega
              obtain ⟨wo, hwo⟩ : ∃ wo, wr.alloc (.cells #[.int .u64 (v.key : Int), .int .u64 (v.power : Int)] 45) = wo := ⟨_, rfl⟩
              have hb2 : Below wr.heap.size wr wo := by rw [← hwo]; exact (Below.refl _ _).alloc (Nat.le_refl _) _
              have HB2 := hid (HT.out.1.trans (hb2.mono hszr))
              have HB2w := hid (HBr.out.trans (hb2.mono HBr.out.size))
              obtain ⟨gb, hgb⟩ : ∃ gb, wr.heap.size = gb := ⟨_, rfl⟩
              have HR2 := hid (show Row wo gb 45 [.int .u64 (v.key : Int), .int .u64 (v.power : Int)] by rw [← hwo, ← hgb]; exact Row.new _ _ _)
              obtain ⟨_, _, _, _, _, hE1, _, _, _, _, hvt1⟩ := HSG9.out
              simp at hE1
              obtain ⟨-, -, -, -, rfl⟩ := hE1
              obtain ⟨b2, p, rfl, hc5⟩ := hvt1.spot (by omega)
              obtain ⟨hb5N, u5, u6, u7⟩ := hc5 k t ht
              have HU5 := hid (fun W (hW : Below wo.heap.size wo W) => ((HB2.out.trans (hW.mono HB2.out.size)).cell (p := ⟨b2, p + k * 3, none⟩) hb5N).trans u5)
              have HU6 := hid (fun W (hW : Below wo.heap.size wo W) => ((HB2.out.trans (hW.mono HB2.out.size)).cell (p := ⟨b2, p + k * 3 + 1, none⟩) hb5N).trans u6)
              have HU7 := hid (fun W (hW : Below wo.heap.size wo W) => ((HB2.out.trans (hW.mono HB2.out.size)).cell (p := ⟨b2, p + k * 3 + 2, none⟩) hb5N).trans u7)
              have HAo := hid (HA9.out.below HB2.out HA9.out.lt)
              have HOo := hid (HO9.out.below HB2.out HO9.out.lt)
              have hvk := (HOK.out v (List.mem_of_getElem? hv)).1
              have htk := HTOK.out t (List.mem_of_getElem? ht)
              have HGA := hid (goodAll_at m l ts k v t hv ht)
              clear i0 i1 hcells hb2 hv ht hvt1 hc5 u5 u6 u7
              obtain ⟨ti, hti⟩ : ∃ ti, t.is = ti := ⟨_, rfl⟩
              have HTI := hid hti
              rw [hti] at HU5
              clear hti
              cases ti with
              | true =>
                go_wp2_with fail
                refine editedRegionY o v t m p1 p2 p3 n k b2 p _ d1 d2 d3 HAo hlt HU5 HR2 HOo HU6 HU7 (hid (HOV.out.below (HB2w.out.mono hN))) (Nat.le_trans hN HB2w.out.size) HY.out HM (by omega) hvk htk.1 htk.2 _ (hid ?_)
                intro σ wz hbz h19
                have HBz := hid (HB2.out.trans (hbz.mono HB2.out.size))
                obtain ⟨gd, hgd⟩ : ∃ gd, goodB v.key m t.r t.s = gd := ⟨_, rfl⟩
                rw [h19, hgd]
                have HGD := hid hgd
                clear hbz h19 hgd
                cases gd with
                | true =>
                  go_wp2_with fail
                  go_roundw
                  case rel => exact ⟨k + 1, q, by omega, by go_num, rfl, hid ⟨HBz.out, by have := HT.out.2; rw [HGA.out, HTI.out, HGD.out] at this; simpa using this⟩⟩
                  case measure => simp [intOf]; omega
                | false =>
                  go_wp2_with fail
                  go_roundw
                  case rel => exact ⟨k + 1, false, by omega, by go_num, rfl, hid ⟨HBz.out, by have := HT.out.2; rw [HGA.out, HTI.out, HGD.out] at this; simpa using this⟩⟩
                  case measure => simp [intOf]; omega
              | false =>
                go_wp2_with fail
                refine editedRegionN n k b2 p _ HAo hlt HU5 _ (hid ?_)
                intro σ wz hbz h19
                have HBz := hid (HB2.out.trans (hbz.mono HB2.out.size))
                rw [h19]
                clear hbz h19
                go_wp2_with fail
                go_roundw
                case rel => exact ⟨k + 1, q, by omega, by go_num, rfl, hid ⟨HBz.out, by have := HT.out.2; rw [HGA.out, HTI.out] at this; simpa using this⟩⟩
                case measure => simp [intOf]; omega
            · have hge : decide ((k : Int) < (n : Int)) = false := by simp; omega
              have HQ := hid (show q = goodAll m l ts by have := HT.out.2; rw [goodAll_end m l ts k (by rw [HSL.out, HN.out]; omega)] at this; simpa using this)
              have HTr := hid (HT9.out.below HT.out.1 HT9.out.lt)
              have HSr := hid ((HSG9.out.below HT.out.1).mono hszr)
              obtain ⟨k0, k1, k2, k3, k4, k5, k6, k7⟩ := HTr.out.eight
              have HC := hid (checkC ⟨o, l, ts⟩ _ wr.heap.size wr (HTAB.out.below HBr.out HTAB.out.lt) (Nat.le_refl _) HSr.out ⟨hof, by show l.length < _; rw [HN.out]; omega, by show ts.length < _; rw [HSL.out, HN.out]; omega, HOK.out, HTOK.out⟩)
              rw [HEC.out, ← HQ.out] at HC
              cases q with
              | true =>
                rw [if_pos rfl] at HC
                go_wp2_with fail
                refine HC.out.mono ?_
                rintro e wz ⟨rfl, hbz⟩
                have HBz := hid (HBr.out.trans (hbz.mono HBr.out.size))
                clear hbz
                go_wp2
                go_ret
                exact ⟨rfl, HBz.out⟩
              | false =>
                rw [if_neg (by simp)] at HC
                go_wp2_with fail
                refine HC.out.mono ?_
                rintro e wz ⟨rfl, hbz⟩
                have HBz := hid (HBr.out.trans (hbz.mono HBr.out.size))
                clear hbz
                go_wp2
                go_ret
                exact ⟨rfl, HBz.out⟩
      · have ey : (zo != 0) = true := by simp [hy]
        clear hy
        go_wp2
        go_ret
        exact ⟨rfl, HB6.out⟩
    · have ex : (zs != 0) = true := by simp [hx]
      clear hx
      go_wp2
      go_ret
      exact ⟨rfl, HB5.out⟩
  · have ez : (tg != 0) = true := by simp [hz]
    clear hz
    go_wp2
    go_ret
    exact ⟨rfl, HB4.out⟩
end Go.Proofs.YtfpngilmdgeikaaDoor
