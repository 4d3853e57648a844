/-
  What the document's Check answers: what keeps a signed header from being one that its validators voted for.
  What the document's Check answers.
-/
import Derived.Test.YtiflkkelbnpniaaGreatDoorHdCheck
import Derived.Test.YtiflkkelbnpniaaGreatDoorClRAsk
import Derived.Test.YtiflkkelbnpniaaGreatDoorHdRDig
import Derived.Test.YtiflkkelbnpniaaGreatDoorHdRBytes
import Derived.Test.YtiflkkelbnpniaaGreatDoorSameB
import Derived.Test.YtiflkkelbnpniaaGreatDoorRef2Good
namespace Go.Proofs.YtiflkkelbnpniaaGreatDoor
open Go.RowKit

theorem wpOp_guarded {P : Program} {ops : Array Oper} {Q : Exit → Act → World → Prop} {i : Nat} {o : Oper} {K : Act → World → Prop} {a : Act} {w : World} (ho : ops[i]? = some o) (hw : Region.wanted o (yielded ops a.tmps) = true) (h : o.wp P a w K Q) : wpOp P ops Q i K a w := by
  unfold wpOp
  rw [ho]
  simp only [hw, if_true]
  exact .inl h
set_option maxRecDepth 100000 in
set_option maxHeartbeats 4000000 in
theorem refCheckTog {y0 y2 y3 y4 y5 y6 y7 y8 y9 y10 y11 y12 y13 y14 y15 y16 y17 y18 y19 y37 y38 y39 y40 y41 y42 y43 y44 y45 y46 y47 y48 y49 y50 y51 y52 y53 y54 y55 y56 y57 y58 y59 y60 y61 y62 y63 y64 y65 y66 y67 y68 y69 y70 y71 y72 y73 y74 y75 y76 y77 y78 y79 y80 y81 y82 y83 y84 y85 y86 y87 z20 z21 z22 z23 z24 z25 z26 z27 z28 z29 z30 z31 z32 z33 z34 z35 z36 : Value} {g N : Nat} (h : Hd) (l : List Vl) (o1 o2 o3 o4 o5 : Option Addr) (n c1 c2 c3 c4 c5 : Nat) {w : World} (htab : Hid (tableAt w)) (hr : Hid (Row w g 33 [.string h.chain, .int .i64 h.height, .int .i64 h.time, .slice o1 h.root.length c1, .slice o2 h.vals.length c2, .slice o3 h.next.length c3, .slice o4 n c4, .slice o5 n c5])) (hv2 : Hid (Bytes w N (.slice o2 h.vals.length c2) h.vals)) (hlv : h.vals.length < 2305843009213693952) (hl : Hid (Vals w N (.slice o4 n c4) l)) (hN : N ≤ w.heap.size) (hten : l.length ≤ 10) (hok : Hid (∀ v ∈ l, v.ok)) (Q : Exit → Act → World → Prop)
    (hQ : Hid (∀ (σ : Nat → Value) (w' : World), Below w.heap.size w w' → /-16-/ σ 16 = .bool (!decide (digV l = h.vals)) → Q .normal ⟨#[y0, .pointer (some ⟨g, 0, none⟩), y2, y3, y4, y5, y6, y7, y8, y9, y10, y11, y12, y13, y14, y15, y16, y17, y18, y19, σ 0, σ 1, σ 2, σ 3, σ 4, σ 5, σ 6, σ 7, σ 8, σ 9, σ 10, σ 11, σ 12, σ 13, σ 14, σ 15, σ 16, y37, y38, y39, y40, y41, y42, y43, y44, y45, y46, y47, y48, y49, y50, y51, y52, y53, y54, y55, y56, y57, y58, y59, y60, y61, y62, y63, y64, y65, y66, y67, y68, y69, y70, y71, y72, y73, y74, y75, y76, y77, y78, y79, y80, y81, y82, y83, y84, y85, y86, y87], []⟩ w')) :
    Code.wp Tryz.prog (.region 7 ((Tryz.f71.body.bind (regOf 7)).getD #[]) true) Q ⟨#[y0, .pointer (some ⟨g, 0, none⟩), y2, y3, y4, y5, y6, y7, y8, y9, y10, y11, y12, y13, y14, y15, y16, y17, y18, y19, z20, z21, z22, z23, z24, z25, z26, z27, z28, z29, z30, z31, z32, z33, z34, z35, z36, y37, y38, y39, y40, y41, y42, y43, y44, y45, y46, y47, y48, y49, y50, y51, y52, y53, y54, y55, y56, y57, y58, y59, y60, y61, y62, y63, y64, y65, y66, y67, y68, y69, y70, y71, y72, y73, y74, y75, y76, y77, y78, y79, y80, y81, y82, y83, y84, y85, y86, y87], []⟩ w := by
  conv => arg 2; arg 2; whnf
  conv => arg 4; dsimp only
  refine region_grows (by kernel_rfl) (fun σ => #[y0, .pointer (some ⟨g, 0, none⟩), y2, y3, y4, y5, y6, y7, y8, y9, y10, y11, y12, y13, y14, y15, y16, y17, y18, y19, σ 0, σ 1, σ 2, σ 3, σ 4, σ 5, σ 6, σ 7, σ 8, σ 9, σ 10, σ 11, σ 12, σ 13, σ 14, σ 15, σ 16, y37, y38, y39, y40, y41, y42, y43, y44, y45, y46, y47, y48, y49, y50, y51, y52, y53, y54, y55, y56, y57, y58, y59, y60, y61, y62, y63, y64, y65, y66, y67, y68, y69, y70, y71, y72, y73, y74, y75, y76, y77, y78, y79, y80, y81, y82, y83, y84, y85, y86, y87]) (fun i => ([z20, z21, z22, z23, z24, z25, z26, z27, z28, z29, z30, z31, z32, z33, z34, z35, z36] : List Value).getD i undef) rfl (fun i X W => match i with
    | 0 => X = .pointer (some ⟨g, 6, none⟩)
    | 1 => X = .slice o4 n c4
    | 2 => X = .int .i64 (n : Int)
    | 3 => X = .pointer (some ⟨g, 7, none⟩)
    | 4 => X = .slice o5 n c5
    | 5 => X = .int .i64 (n : Int)
    | 6 => X = .bool false
    | 7 => X = .bool false
    | 8 => X = .pointer (some ⟨g, 6, none⟩)
    | 9 => X = .slice o4 n c4
    | 10 => Bytes W W.heap.size X (digV l)
    | 11 => X = .pointer (some ⟨g, 0, none⟩)
    | 12 => X = .pointer (some ⟨g, 4, none⟩)
    | 13 => X = .slice o2 h.vals.length c2
    | 14 => X = .bool (decide (digV l = h.vals))
    | 15 => X = .bool (!decide (digV l = h.vals))
    | 16 => X = .bool (!decide (digV l = h.vals))
    | _ => True) ?_ (by kernel_rfl) ?_ ?_
  · intro i X W W' HB H
    match i, H with
    | 0, H => exact H
    | 1, H => exact H
    | 2, H => exact H
    | 3, H => exact H
    | 4, H => exact H
    | 5, H => exact H
    | 6, H => exact H
    | 7, H => exact H
    | 8, H => exact H
    | 9, H => exact H
    | 10, H => exact (H.below HB).mono HB.size
    | 11, H => exact H
    | 12, H => exact H
    | 13, H => exact H
    | 14, H => exact H
    | 15, H => exact H
    | 16, H => exact H
    | _ + 17, _ => exact trivial
  · refine ⟨?_, ?_, ?_, ?_, ?_, ?_, ?_, ?_, ?_, ?_, ?_, ?_, ?_, ?_, ?_, ?_, ?_, trivial⟩
    · -- 0: Op.fieldAddr 29 t1 1
      intro σ W HJ hdep
      simp [Region.binds] at hdep
      have HJ := hid HJ
      refine wpOp_plain rfl rfl ?_
      go_simp
      exact Left.mk0 (.pointer (some ⟨g, 6, none⟩)) (by first | rfl | simp [updF, *]) HJ.out rfl
    · -- 1: Op.load 22 t20
      intro σ W HJ hdep
      simp [Region.binds] at hdep
      have HJ := hid HJ
      have k := (hr.out.below HJ.out hr.out.lt).cell 6
      simp at k
      refine wpOp_plain rfl rfl ?_
      go_simp
      exact Left.mk0 (.slice o4 n c4) (by first | rfl | simp [updF, *]) HJ.out rfl
    · -- 2: Op.call { builtin len, args := #[t21], argTypes := #[22] }
      intro σ W HJ hdep
      simp [Region.binds] at hdep
      have HJ := hid HJ
      refine wpOp_plain rfl rfl ?_
      go_simp
      exact Left.mk0 (.int .i64 (n : Int)) (by first | rfl | simp [updF, *]) HJ.out rfl
    · -- 3: Op.fieldAddr 29 t1 2
      intro σ W HJ hdep
      simp [Region.binds] at hdep
      have HJ := hid HJ
      refine wpOp_plain rfl rfl ?_
      go_simp
      exact Left.mk0 (.pointer (some ⟨g, 7, none⟩)) (by first | rfl | simp [updF, *]) HJ.out rfl
    · -- 4: Op.load 27 t23
      intro σ W HJ hdep
      simp [Region.binds] at hdep
      have HJ := hid HJ
      have k := (hr.out.below HJ.out hr.out.lt).cell 7
      simp at k
      refine wpOp_plain rfl rfl ?_
      go_simp
      exact Left.mk0 (.slice o5 n c5) (by first | rfl | simp [updF, *]) HJ.out rfl
    · -- 5: Op.call { builtin len, args := #[t24], argTypes := #[27] }
      intro σ W HJ hdep
      simp [Region.binds] at hdep
      have HJ := hid HJ
      refine wpOp_plain rfl rfl ?_
      go_simp
      exact Left.mk0 (.int .i64 (n : Int)) (by first | rfl | simp [updF, *]) HJ.out rfl
    · -- 6: Op.binOp BinOp.neq 3 t22 t25 3
      intro σ W HJ hdep
      simp [Region.binds] at hdep
      have HJ := hid HJ
      have e0 := hdep.1
      have e00 := hdep.2
      have ebn : ((n : Int) != (n : Int)) = false := by simp
      refine wpOp_plain rfl rfl ?_
      go_simp
      exact Left.mk0 (.bool false) (by first | rfl | simp [updF, *]) HJ.out rfl
    · -- 7: Op.move t26
      intro σ W HJ hdep
      simp [Region.binds] at hdep
      have HJ := hid HJ
      refine wpOp_plain rfl rfl ?_
      go_simp
      exact Left.mk0 (.bool false) (by first | rfl | simp [updF, *]) HJ.out rfl
    · -- 8: Op.fieldAddr 29 t1 1   [guarded: some (7, false)]
      intro σ W HJ hdep
      simp [Region.binds] at hdep
      have HJ := hid HJ
      refine wpOp_guarded rfl (by simp [Region.wanted, yielded, *]) ?_
      go_simp
      exact Left.mk0 (.pointer (some ⟨g, 6, none⟩)) (by first | rfl | simp [updF, *]) HJ.out rfl
    · -- 9: Op.load 22 t28   [guarded: some (7, false)]
      intro σ W HJ hdep
      simp [Region.binds] at hdep
      have HJ := hid HJ
      have k := (hr.out.below HJ.out hr.out.lt).cell 6
      simp at k
      refine wpOp_guarded rfl (by simp [Region.wanted, yielded, *]) ?_
      go_simp
      exact Left.mk0 (.slice o4 n c4) (by first | rfl | simp [updF, *]) HJ.out rfl
    · -- 10: Op.call { value (Operand.func 20), args := #[t29], argTypes 
      intro σ W HJ hdep
      simp [Region.binds] at hdep
      have HJ := hid HJ
      have HD := hid (refDigestC l (.slice o4 n c4) N W (htab.out.below HJ.out htab.out.lt) (hl.out.below (HJ.out.mono hN)) (Nat.le_trans hN HJ.out.size) hten hok.out)
      refine wpOp_guarded rfl (by simp [Region.wanted, yielded, *]) ?_
      go_simp
      refine (HD.out).mono ?_
      rintro e w2 ⟨v, rfl, hv2, hb2⟩
      exact Left.mk v (by first | rfl | simp [updF, *]) hb2 HJ.out hv2
    · -- 11: Op.fieldAddr 29 t1 0   [guarded: some (7, false)]
      intro σ W HJ hdep
      simp [Region.binds] at hdep
      have HJ := hid HJ
      refine wpOp_guarded rfl (by simp [Region.wanted, yielded, *]) ?_
      go_simp
      exact Left.mk0 (.pointer (some ⟨g, 0, none⟩)) (by first | rfl | simp [updF, *]) HJ.out rfl
    · -- 12: Op.fieldAddr 25 t31 4   [guarded: some (7, false)]
      intro σ W HJ hdep
      simp [Region.binds] at hdep
      have HJ := hid HJ
      refine wpOp_guarded rfl (by simp [Region.wanted, yielded, *]) ?_
      go_simp
      exact Left.mk0 (.pointer (some ⟨g, 4, none⟩)) (by first | rfl | simp [updF, *]) HJ.out rfl
    · -- 13: Op.load 23 t32   [guarded: some (7, false)]
      intro σ W HJ hdep
      simp [Region.binds] at hdep
      have HJ := hid HJ
      have k := (hr.out.below HJ.out hr.out.lt).cell 4
      simp at k
      refine wpOp_guarded rfl (by simp [Region.wanted, yielded, *]) ?_
      go_simp
      exact Left.mk0 (.slice o2 h.vals.length c2) (by first | rfl | simp [updF, *]) HJ.out rfl
    · -- 14: Op.call { value (Operand.func 18), args := #[t30, t33], argT
      intro σ W HJ hdep
      simp [Region.binds] at hdep
      have HJ := hid HJ
      have hd10 : Bytes W W.heap.size (σ 10) (digV l) := by first | exact hdep.1 | exact hdep.2.1 | exact hdep.2.2.1
      have e13 : σ 13 = .slice o2 h.vals.length c2 := by first | exact hdep.2.1 | exact hdep.2.2.1 | exact hdep.2.2 | exact hdep.2.2.2
      have e7 : σ 7 = .bool false := by first | exact hdep.2.2 | exact hdep.2.2.1 | exact hdep.1 | exact hdep.2.1 | exact hdep.2.2.2
      have HE := hid (sameB_any (digV l) h.vals (σ 10) (.slice o2 h.vals.length c2) W.heap.size N W hd10 (hv2.out.below (HJ.out.mono hN)) (by rw [digV_length]; omega) hlv)
      clear hdep hd10
      refine wpOp_guarded rfl (by simp [Region.wanted, yielded, *]) ?_
      go_simp
      refine HE.out.mono ?_
      rintro e w2 ⟨rfl, nq, rfl⟩
      exact Left.mk (.bool (decide (digV l = h.vals))) (by first | rfl | simp [updF, *]) (below_drewH W nq _) HJ.out rfl
    · -- 15: Op.unOp UnOp.not 4 t34   [guarded: some (7, false)]
      intro σ W HJ hdep
      simp [Region.binds] at hdep
      have HJ := hid HJ
      refine wpOp_guarded rfl (by simp [Region.wanted, yielded, *]) ?_
      go_simp
      exact Left.mk0 (.bool (!decide (digV l = h.vals))) (by first | rfl | simp [updF, *]) HJ.out rfl
    · -- 16: Op.pick t27 (const (Value.bool true)) t35
      intro σ W HJ hdep
      simp [Region.binds] at hdep
      have HJ := hid HJ
      refine wpOp_plain rfl rfl ?_
      go_simp
      exact Left.mk0 (.bool (!decide (digV l = h.vals))) (by first | rfl | simp [updF, *]) HJ.out rfl
  · intro σ w' hb hg
    exact hQ.out σ w' hb (by first | exact ⟨hg 16 (by decide)⟩ | exact hg 16 (by decide))
set_option maxRecDepth 100000 in
set_option maxHeartbeats 4000000 in
theorem refCheckGood {y0 y2 y3 y4 y5 y6 y8 y9 y10 y11 y12 y13 y14 y15 y16 y17 y18 y19 y20 y21 y22 y23 y24 y25 y26 y27 y28 y29 y30 y31 y32 y33 y34 y35 y36 y37 y38 y39 y40 y41 y42 y43 y44 y45 y46 y47 y48 y49 y50 y51 y52 y53 y54 y55 y56 y57 y75 y76 y77 y78 y79 y80 y81 y82 y83 y84 y85 y86 y87 z58 z59 z60 z61 z62 z63 z64 z65 z66 z67 z68 z69 z70 z71 z72 z73 z74 : Value} {g N : Nat} (h : Hd) (v : Vl) (t : Vt) (m : List (BitVec 8)) (o1 o2 o3 : Option Addr) (n k b o b2 p c1 c2 c3 c4 c5 : Nat) {w : World} (hr : Hid (Row w g 33 [.string h.chain, .int .i64 h.height, .int .i64 h.time, .slice o1 h.root.length c1, .slice o2 h.vals.length c2, .slice o3 h.next.length c3, .slice (some ⟨b, o, none⟩) n c4, .slice (some ⟨b2, p, none⟩) n c5])) (hkn : k < n) (hck : Hid (∀ W, Below w.heap.size w W → W.cell? ⟨b, o + k * 2, none⟩ = some (.int .u64 (v.key : Int)))) (hcr : Hid (∀ W, Below w.heap.size w W → W.cell? ⟨b2, p + k * 3 + 1, none⟩ = some (.int .u64 (t.r : Int)))) (hcs : Hid (∀ W, Below w.heap.size w W → W.cell? ⟨b2, p + k * 3 + 2, none⟩ = some (.int .u64 (t.s : Int)))) (hhv : Hid (HdV w N (.agg #[.string h.chain, .int .i64 h.height, .int .i64 h.time, .slice o1 h.root.length c1, .slice o2 h.vals.length c2, .slice o3 h.next.length c3]) h)) (hN : N ≤ w.heap.size) (hw : wrongH h = 0) (hm : Hid (bytesH h = m)) (hml : m.length ≤ 140737488351232) (hvk : v.key < 18446744073709551616) (htr : t.r < 18446744073709551616) (hts : t.s < 18446744073709551616) (Q : Exit → Act → World → Prop)
    (hQ : Hid (∀ (σ : Nat → Value) (w' : World), Below w.heap.size w w' → /-16-/ σ 16 = .bool (!goodB v.key m t.r t.s) → Q .normal ⟨#[y0, .pointer (some ⟨g, 0, none⟩), y2, y3, y4, y5, y6, .int .i64 (k : Int), y8, y9, y10, y11, y12, y13, y14, y15, y16, y17, y18, y19, y20, y21, y22, y23, y24, y25, y26, y27, y28, y29, y30, y31, y32, y33, y34, y35, y36, y37, y38, y39, y40, y41, y42, y43, y44, y45, y46, y47, y48, y49, y50, y51, y52, y53, y54, y55, y56, y57, σ 0, σ 1, σ 2, σ 3, σ 4, σ 5, σ 6, σ 7, σ 8, σ 9, σ 10, σ 11, σ 12, σ 13, σ 14, σ 15, σ 16, y75, y76, y77, y78, y79, y80, y81, y82, y83, y84, y85, y86, y87], []⟩ w')) :
    Code.wp Tryz.prog (.region 15 ((Tryz.f71.body.bind (regOf 15)).getD #[]) true) Q ⟨#[y0, .pointer (some ⟨g, 0, none⟩), y2, y3, y4, y5, y6, .int .i64 (k : Int), y8, y9, y10, y11, y12, y13, y14, y15, y16, y17, y18, y19, y20, y21, y22, y23, y24, y25, y26, y27, y28, y29, y30, y31, y32, y33, y34, y35, y36, y37, y38, y39, y40, y41, y42, y43, y44, y45, y46, y47, y48, y49, y50, y51, y52, y53, y54, y55, y56, y57, z58, z59, z60, z61, z62, z63, z64, z65, z66, z67, z68, z69, z70, z71, z72, z73, z74, y75, y76, y77, y78, y79, y80, y81, y82, y83, y84, y85, y86, y87], []⟩ w := by
  conv => arg 2; arg 2; whnf
  conv => arg 4; dsimp only
  refine region_grows (by kernel_rfl) (fun σ => #[y0, .pointer (some ⟨g, 0, none⟩), y2, y3, y4, y5, y6, .int .i64 (k : Int), y8, y9, y10, y11, y12, y13, y14, y15, y16, y17, y18, y19, y20, y21, y22, y23, y24, y25, y26, y27, y28, y29, y30, y31, y32, y33, y34, y35, y36, y37, y38, y39, y40, y41, y42, y43, y44, y45, y46, y47, y48, y49, y50, y51, y52, y53, y54, y55, y56, y57, σ 0, σ 1, σ 2, σ 3, σ 4, σ 5, σ 6, σ 7, σ 8, σ 9, σ 10, σ 11, σ 12, σ 13, σ 14, σ 15, σ 16, y75, y76, y77, y78, y79, y80, y81, y82, y83, y84, y85, y86, y87]) (fun i => ([z58, z59, z60, z61, z62, z63, z64, z65, z66, z67, z68, z69, z70, z71, z72, z73, z74] : List Value).getD i undef) rfl (fun i X W => match i with
    | 0 => X = .pointer (some ⟨g, 6, none⟩)
    | 1 => X = .slice (some ⟨b, o, none⟩) n c4
    | 2 => X = .int .i64 (k : Int)
    | 3 => X = .pointer (some ⟨b, o + k * 2, none⟩)
    | 4 => X = .pointer (some ⟨b, o + k * 2, none⟩)
    | 5 => X = .int .u64 (v.key : Int)
    | 6 => X = .pointer (some ⟨g, 0, none⟩)
    | 7 => X = .agg #[.string h.chain, .int .i64 h.height, .int .i64 h.time, .slice o1 h.root.length c1, .slice o2 h.vals.length c2, .slice o3 h.next.length c3]
    | 8 => Bytes W W.heap.size X m
    | 9 => X = .pointer (some ⟨g, 7, none⟩)
    | 10 => X = .slice (some ⟨b2, p, none⟩) n c5
    | 11 => X = .int .i64 (k : Int)
    | 12 => X = .pointer (some ⟨b2, p + k * 3, none⟩)
    | 13 => X = .pointer (some ⟨b2, p + k * 3 + 1, none⟩)
    | 14 => X = .agg #[.int .u64 (t.r : Int), .int .u64 (t.s : Int)]
    | 15 => X = .bool (goodB v.key m t.r t.s)
    | 16 => X = .bool (!goodB v.key m t.r t.s)
    | _ => True) ?_ (by kernel_rfl) ?_ ?_
  · intro i X W W' HB H
    match i, H with
    | 0, H => exact H
    | 1, H => exact H
    | 2, H => exact H
    | 3, H => exact H
    | 4, H => exact H
    | 5, H => exact H
    | 6, H => exact H
    | 7, H => exact H
    | 8, H => exact (H.below HB).mono HB.size
    | 9, H => exact H
    | 10, H => exact H
    | 11, H => exact H
    | 12, H => exact H
    | 13, H => exact H
    | 14, H => exact H
    | 15, H => exact H
    | 16, H => exact H
    | _ + 17, _ => exact trivial
  · refine ⟨?_, ?_, ?_, ?_, ?_, ?_, ?_, ?_, ?_, ?_, ?_, ?_, ?_, ?_, ?_, ?_, ?_, trivial⟩
    · -- 0: Op.fieldAddr 29 t1 1
      intro σ W HJ hdep
      simp [Region.binds] at hdep
      have HJ := hid HJ
      refine wpOp_plain rfl rfl ?_
      go_simp
      exact Left.mk0 (.pointer (some ⟨g, 6, none⟩)) (by first | rfl | simp [updF, *]) HJ.out rfl
    · -- 1: Op.load 22 t58
      intro σ W HJ hdep
      simp [Region.binds] at hdep
      have HJ := hid HJ
      have k := (hr.out.below HJ.out hr.out.lt).cell 6
      simp at k
      refine wpOp_plain rfl rfl ?_
      go_simp
      exact Left.mk0 (.slice (some ⟨b, o, none⟩) n c4) (by first | rfl | simp [updF, *]) HJ.out rfl
    · -- 2: Op.move t7
      intro σ W HJ hdep
      simp [Region.binds] at hdep
      have HJ := hid HJ
      refine wpOp_plain rfl rfl ?_
      go_simp
      exact Left.mk0 (.int .i64 (k : Int)) (by first | rfl | simp [updF, *]) HJ.out rfl
    · -- 3: Op.indexAddr 22 t59 t60
      intro σ W HJ hdep
      simp [Region.binds] at hdep
      have HJ := hid HJ
      have hix : (k : Int) < (n : Int) := by omega
      have hix0 : (0 : Int) ≤ (k : Int) := by omega
      obtain ⟨e1, e2⟩ := hdep
      refine wpOp_plain rfl rfl ?_
      go_simp
      exact Left.mk0 (.pointer (some ⟨b, o + k * 2, none⟩)) (by first | rfl | simp [updF, *]) HJ.out rfl
    · -- 4: Op.fieldAddr 45 t61 0
      intro σ W HJ hdep
      simp [Region.binds] at hdep
      have HJ := hid HJ
      refine wpOp_plain rfl rfl ?_
      go_simp
      exact Left.mk0 (.pointer (some ⟨b, o + k * 2, none⟩)) (by first | rfl | simp [updF, *]) HJ.out rfl
    · -- 5: Op.load 43 t62
      intro σ W HJ hdep
      simp [Region.binds] at hdep
      have HJ := hid HJ
      have kk := hck.out W HJ.out
      refine wpOp_plain rfl rfl ?_
      go_simp
      exact Left.mk0 (.int .u64 (v.key : Int)) (by first | rfl | simp [updF, *]) HJ.out rfl
    · -- 6: Op.fieldAddr 29 t1 0
      intro σ W HJ hdep
      simp [Region.binds] at hdep
      have HJ := hid HJ
      refine wpOp_plain rfl rfl ?_
      go_simp
      exact Left.mk0 (.pointer (some ⟨g, 0, none⟩)) (by first | rfl | simp [updF, *]) HJ.out rfl
    · -- 7: Op.load 25 t64
      intro σ W HJ hdep
      simp [Region.binds] at hdep
      have HJ := hid HJ
      have k0 := (hr.out.below HJ.out hr.out.lt).cell 0
      have k1 := (hr.out.below HJ.out hr.out.lt).cell 1
      have k2 := (hr.out.below HJ.out hr.out.lt).cell 2
      have k3 := (hr.out.below HJ.out hr.out.lt).cell 3
      have k4 := (hr.out.below HJ.out hr.out.lt).cell 4
      have k5 := (hr.out.below HJ.out hr.out.lt).cell 5
      simp at k0
      simp at k1
      simp at k2
      simp at k3
      simp at k4
      simp at k5
      refine wpOp_plain rfl rfl ?_
      go_simp
      exact Left.mk0 (.agg #[.string h.chain, .int .i64 h.height, .int .i64 h.time, .slice o1 h.root.length c1, .slice o2 h.vals.length c2, .slice o3 h.next.length c3]) (by first | rfl | simp [updF, *]) HJ.out rfl
    · -- 8: Op.call { value (Operand.func 22), args := #[t65], argTypes 
      intro σ W HJ hdep
      simp [Region.binds] at hdep
      have HJ := hid HJ
      have HC := hid (refBytesC h _ N W (hhv.out.below (HJ.out.mono hN)) (Nat.le_trans hN HJ.out.size) hw)
      rw [hm.out] at HC
      refine wpOp_plain rfl rfl ?_
      go_simp
      refine (HC.out).mono ?_
      rintro e w2 ⟨v, rfl, hv2, hb2⟩
      exact Left.mk v (by first | rfl | simp [updF, *]) hb2 HJ.out hv2
    · -- 9: Op.fieldAddr 29 t1 2
      intro σ W HJ hdep
      simp [Region.binds] at hdep
      have HJ := hid HJ
      refine wpOp_plain rfl rfl ?_
      go_simp
      exact Left.mk0 (.pointer (some ⟨g, 7, none⟩)) (by first | rfl | simp [updF, *]) HJ.out rfl
    · -- 10: Op.load 27 t67
      intro σ W HJ hdep
      simp [Region.binds] at hdep
      have HJ := hid HJ
      have k := (hr.out.below HJ.out hr.out.lt).cell 7
      simp at k
      refine wpOp_plain rfl rfl ?_
      go_simp
      exact Left.mk0 (.slice (some ⟨b2, p, none⟩) n c5) (by first | rfl | simp [updF, *]) HJ.out rfl
    · -- 11: Op.move t7
      intro σ W HJ hdep
      simp [Region.binds] at hdep
      have HJ := hid HJ
      refine wpOp_plain rfl rfl ?_
      go_simp
      exact Left.mk0 (.int .i64 (k : Int)) (by first | rfl | simp [updF, *]) HJ.out rfl
    · -- 12: Op.indexAddr 27 t68 t69
      intro σ W HJ hdep
      simp [Region.binds] at hdep
      have HJ := hid HJ
      have hix : (k : Int) < (n : Int) := by omega
      have hix0 : (0 : Int) ≤ (k : Int) := by omega
      obtain ⟨e1, e2⟩ := hdep
      refine wpOp_plain rfl rfl ?_
      go_simp
      exact Left.mk0 (.pointer (some ⟨b2, p + k * 3, none⟩)) (by first | rfl | simp [updF, *]) HJ.out rfl
    · -- 13: Op.fieldAddr 51 t70 1
      intro σ W HJ hdep
      simp [Region.binds] at hdep
      have HJ := hid HJ
      refine wpOp_plain rfl rfl ?_
      go_simp
      exact Left.mk0 (.pointer (some ⟨b2, p + k * 3 + 1, none⟩)) (by first | rfl | simp [updF, *]) HJ.out rfl
    · -- 14: Op.load 49 t71
      intro σ W HJ hdep
      simp [Region.binds] at hdep
      have HJ := hid HJ
      have kk1 := hcr.out W HJ.out
      have kk2 := hcs.out W HJ.out
      refine wpOp_plain rfl rfl ?_
      go_simp
      exact Left.mk0 (.agg #[.int .u64 (t.r : Int), .int .u64 (t.s : Int)]) (by first | rfl | simp [updF, *]) HJ.out rfl
    · -- 15: Op.call { value (Operand.func 27), args := #[t63, t66, t72],
      intro σ W HJ hdep
      simp [Region.binds] at hdep
      have HJ := hid HJ
      obtain ⟨e5, hb8, e14⟩ : σ 5 = .int .u64 (v.key : Int) ∧ Bytes W W.heap.size (σ 8) m ∧ σ 14 = .agg #[.int .u64 (t.r : Int), .int .u64 (t.s : Int)] := by first | exact ⟨hdep.1, hdep.2.1, hdep.2.2⟩ | exact ⟨hdep.1, hdep.2.1, hdep.2.2.1⟩
      have HG := hid (refGood_any v.key m t.r t.s (σ 8) W.heap.size W hvk htr hts (Nat.le_refl _) hb8 hml)
      clear hdep hb8
      refine wpOp_plain rfl rfl ?_
      go_simp
      refine HG.out.mono ?_
      rintro e w2 ⟨bb, rfl, hbb, hb2⟩
      exact Left.mk (.bool bb) (by first | rfl | simp [updF, *]) hb2 HJ.out (by show Value.bool bb = Value.bool (goodB v.key m t.r t.s); rw [goodB_of hbb])
    · -- 16: Op.unOp UnOp.not 4 t73
      intro σ W HJ hdep
      simp [Region.binds] at hdep
      have HJ := hid HJ
      refine wpOp_plain rfl rfl ?_
      go_simp
      exact Left.mk0 (.bool (!goodB v.key m t.r t.s)) (by first | rfl | simp [updF, *]) HJ.out rfl
  · intro σ w' hb hg
    exact hQ.out σ w' hb (by first | exact ⟨hg 16 (by decide)⟩ | exact hg 16 (by decide))
end Go.Proofs.YtiflkkelbnpniaaGreatDoor
namespace Go.Proofs.YtiflkkelbnpniaaGreatDoor
open Go.RowKit

theorem sumIx_not (p : Nat → Bool) : ∀ (l : List Vl) (k : Nat), sumIx p k l + sumIx (fun i => !p i) k l = allP l
  | [], _ => rfl
  | v :: l, k => by
    have ih := sumIx_not p l (k + 1)
    simp only [sumIx, allP, List.map_cons, List.sum_cons] at ih ⊢
    by_cases h : p k = true <;> simp [h] <;> omega
set_option maxRecDepth 100000 in
set_option maxHeartbeats 4000000 in
theorem refCheckC : CheckC 71 := by
  intro s v N w htab hN hv hfit
  obtain ⟨rv, vv, nv, lv, tv, rfl, h1, h2, h3, h4, h5⟩ := hv
  obtain ⟨hf, hln, htn, hok, hot⟩ := hfit
  have H2 := hid h2
  obtain ⟨o1, c1, rfl, _⟩ := h1.shape
  obtain ⟨o2, c2, rfl, _⟩ := h2.shape
  obtain ⟨o3, c3, rfl, _⟩ := h3.shape
  have HL := hid h4
  have HT := hid h5
  obtain ⟨o4, c4, rfl, _⟩ := h4.shape
  obtain ⟨o5, c5, rfl, _⟩ := h5.shape
  have HHV := hid (show HdV w N (.agg #[.string s.hd.chain, .int .i64 s.hd.height, .int .i64 s.hd.time, .slice o1 s.hd.root.length c1, .slice o2 s.hd.vals.length c2, .slice o3 s.hd.next.length c3]) s.hd from ⟨_, _, _, rfl, h1, h2, h3⟩)
  have HTAB := hid htab
  have HOK := hid hok
  have HOT := hid hot
  have hvl : s.hd.vals.length < 2305843009213693952 := by have := hf.2.2.1; omega
  obtain ⟨w0, hw0⟩ : ∃ w0, w.alloc (.cells #[.string s.hd.chain, .int .i64 s.hd.height, .int .i64 s.hd.time, .slice o1 s.hd.root.length c1, .slice o2 s.hd.vals.length c2, .slice o3 s.hd.next.length c3, .slice o4 s.vals.length c4, .slice o5 s.votes.length c5] 33) = w0 := ⟨_, rfl⟩
  have HB0 := hid (show Below w.heap.size w w0 by rw [← hw0]; exact (Below.refl _ _).alloc (Nat.le_refl _) _)
  have hr0 : Row w0 w.heap.size 33 [.string s.hd.chain, .int .i64 s.hd.height, .int .i64 s.hd.time, .slice o1 s.hd.root.length c1, .slice o2 s.hd.vals.length c2, .slice o3 s.hd.next.length c3, .slice o4 s.vals.length c4, .slice o5 s.votes.length c5] := by rw [← hw0]; exact Row.new _ _ _
  have HR0 := hid hr0
  obtain ⟨k0, k1, k2, k3, k4, k5, k6, k7⟩ := hr0.eight
  have HWR := hid (refWrong_any s.hd _ N w0 (HHV.out.below (HB0.out.mono hN)) hf)
  clear h1 h2 h3 h4 h5 htab hok hot hr0
  by_cases hw : wrongH s.hd = 0
  · have e1 : (wrongH s.hd != 0) = false := by simp [hw]
    by_cases hvv : valsN s.vals = 0
    · have e2 : (valsN s.vals != 0) = false := by simp [hvv]
      have HVO := hid (valsN_ok hvv)
      by_cases hlen : s.votes.length = s.vals.length
      · by_cases hd : digV s.vals = s.hd.vals
        · have htg : togetherN s.hd s.vals = 0 := by unfold togetherN; rw [if_neg (by simp [hw]), if_neg (by simp [hvv]), if_pos hd.symm]
          have HC := hid (show checkN s = if goodAll (bytesH s.hd) s.vals s.votes = false then 10 else if 3 * yesP s.vals s.votes ≤ 2 * allP s.vals then 10 else 0 by unfold checkN; rw [if_neg (by simp [htg]), if_neg (by simp [hlen])])
          have HYS := hid (sumIx_yes s.vals s.votes 0 (isAt s.votes) hlen (fun i t h => by rw [Nat.zero_add]; exact isAt_some h))
          have HYN := hid (sumIx_not (isAt s.votes) s.vals 0)
          have HD := hid hd
          have HW1 := hid hw
          have HML := hid (wrs_head s.hd hw)
          clear hd hw hvv htg
          obtain ⟨m, hm⟩ : ∃ m, bytesH s.hd = m := ⟨_, rfl⟩
          have HM := hid hm
          rw [hm] at HC HML
          clear hm
          generalize hvs : s.vals = vs at *
          generalize hts : s.votes = ts at *
          clear hvs hts
          generalize hn : vs.length = nv at *
          generalize hnt : ts.length = n at *
          subst hlen
          have HN := hid hn
          have HNT := hid hnt
          clear hn hnt
          go_enter Tryz.func71, Tryz.ntmps71
          go_wp2_with fail
          refine HWR.out.mono ?_
          rintro e w1 ⟨rfl, hb1⟩
          have HB1 := hid (HB0.out.trans (hb1.mono HB0.out.size))
          have HR1 := hid (HR0.out.below hb1 HR0.out.lt)
          have j6 := HR1.out.cell 6
          have HVC := hid (refValsC vs _ N w1 (HL.out.below (HB1.out.mono hN)) (Nat.le_trans hN HB1.out.size) (by rw [HN.out]; exact hln))
          clear hb1 hw0
          generalize wrongH s.hd = ww at e1 ⊢
          go_wp2_with fail
          refine HVC.out.mono ?_
          rintro e w2 ⟨rfl, hb2⟩
          have HB2 := hid (HB1.out.trans (hb2.mono HB1.out.size))
          have HR2 := hid (HR1.out.below hb2 HR1.out.lt)
          clear hb2
          generalize valsN vs = vw at e2 ⊢
          go_wp2_with fail
          refine refCheckTog s.hd vs o1 o2 o3 o4 o5 n c1 c2 c3 c4 c5 (hid (HTAB.out.below HB2.out HTAB.out.lt)) HR2 (hid (H2.out.below (HB2.out.mono hN))) hvl (hid (HL.out.below (HB2.out.mono hN))) (Nat.le_trans hN HB2.out.size) (by rw [HN.out]; exact HVO.out.2.1) HOK _ (hid ?_)
          intro σ w3 hb3 h16
          have h16 : σ 16 = .bool false := by rw [h16, decide_eq_true HD.out]; rfl
          have HB3 := hid (HB2.out.trans (hb3.mono HB2.out.size))
          have HR3 := hid (HR2.out.below hb3 HR2.out.lt)
          have i6 := HR3.out.cell 6
          rw [h16]
          clear hb3 h16
          go_wp2_with fail
          go_loopw [5, 6, 7, 40] (fun y z _ i wr => ∃ k : Nat, k ≤ n ∧ i = .int .i64 (k : Int) ∧ y = .int .u64 (sumIx (isAt ts) 0 (vs.take k) : Int) ∧ z = .int .u64 (sumIx (fun i => !isAt ts i) 0 (vs.take k) : Int) ∧ Hid (Below w3.heap.size w3 wr ∧ goodAll m vs ts = goodAll m (vs.drop k) (ts.drop k))) (fun _ _ _ i _ => n - (intOf i).toNat)
          case atStart => exact ⟨0, by omega, rfl, rfl, rfl, hid ⟨Below.refl _ _, rfl⟩⟩
          case round =>
            obtain ⟨k, hk, rfl, rfl, rfl, HI⟩ := hrel
            have hszr := HI.out.1.size
            have HBW := hid (HB3.out.trans (HI.out.1.mono HB3.out.size))
            have hpa : allP (vs.take k) ≤ 10000000 := by
              have h1 := allP_le (vs.take k) (fun v hv => (HVO.out.2.2.1 v (List.mem_of_mem_take hv)).2)
              have h2 : (vs.take k).length ≤ 10 := by rw [List.length_take, HN.out]; have := HVO.out.2.1; omega
              omega
            have hp1 := sumIx_le (isAt ts) (vs.take k) 0
            have hp2 := sumIx_le (fun i => !isAt ts i) (vs.take k) 0
            have HRW := hid (HR3.out.below HI.out.1 HR3.out.lt)
            by_cases hlt : k < n
            · obtain ⟨v, hv⟩ : ∃ v, vs[k]? = some v := ⟨vs[k]'(by rw [HN.out]; exact hlt), List.getElem?_eq_getElem _⟩
              obtain ⟨t, ht⟩ : ∃ t, ts[k]? = some t := ⟨ts[k]'(by rw [HNT.out]; exact hlt), List.getElem?_eq_getElem _⟩
              obtain ⟨b, o, rfl, hcells⟩ := HL.out.spot (by omega)
              obtain ⟨b2, p, rfl, hcells2⟩ := HT.out.spot (by omega)
              obtain ⟨hbN, d0, d1⟩ := hcells k v hv
              obtain ⟨hbN2, a0, a1, a2⟩ := hcells2 k t ht
              have hbl : b < w.heap.size := by omega
              have hbl2 : b2 < w.heap.size := by omega
              have HCW := hid (show ∀ W, Below wr.heap.size wr W → Below w.heap.size w W from fun W hW => HBW.out.trans (hW.mono HBW.out.size))
              have f0 := (HBW.out.cell (p := ⟨b2, p + k * 3, none⟩) hbl2).trans a0
              have g1 := (HBW.out.cell (p := ⟨b, o + k * 2 + 1, none⟩) hbl).trans d1
              have HCK := hid (show ∀ W, Below wr.heap.size wr W → W.cell? ⟨b, o + k * 2, none⟩ = some (.int .u64 (v.key : Int)) from fun W hW => ((HCW.out W hW).cell (p := ⟨b, o + k * 2, none⟩) hbl).trans d0)
              have HCP := hid (show ∀ W, Below wr.heap.size wr W → W.cell? ⟨b, o + k * 2 + 1, none⟩ = some (.int .u64 (v.power : Int)) from fun W hW => ((HCW.out W hW).cell (p := ⟨b, o + k * 2 + 1, none⟩) hbl).trans d1)
              have HCR := hid (show ∀ W, Below wr.heap.size wr W → W.cell? ⟨b2, p + k * 3 + 1, none⟩ = some (.int .u64 (t.r : Int)) from fun W hW => ((HCW.out W hW).cell (p := ⟨b2, p + k * 3 + 1, none⟩) hbl2).trans a1)
              have HCS := hid (show ∀ W, Below wr.heap.size wr W → W.cell? ⟨b2, p + k * 3 + 2, none⟩ = some (.int .u64 (t.s : Int)) from fun W hW => ((HCW.out W hW).cell (p := ⟨b2, p + k * 3 + 2, none⟩) hbl2).trans a2)
              have hlt' : (k : Int) < (n : Int) := by omega
              have HGA := hid (goodAll_at m vs ts k v t hv ht)
              have HS1 := hid (sumIx_take (isAt ts) vs k v hv)
              have HS2 := hid (sumIx_take (fun i => !isAt ts i) vs k v hv)
              have HAT := hid (isAt_some ht)
              have hvp := (HVO.out.2.2.1 v (List.mem_of_getElem? hv)).2
              have hvk := (HOK.out v (List.mem_of_getElem? hv)).1
              have htr := (HOT.out t (List.mem_of_getElem? ht)).1
              have hts := (HOT.out t (List.mem_of_getElem? ht)).2
              have m6 := HRW.out.cell 6
              have m7 := HRW.out.cell 7
              clear d0 d1 a0 a1 a2 hcells hcells2 hv ht
              rw [HAT.out] at HS1 HS2
              generalize sumIx (isAt ts) 0 (vs.take k) = yy at *
              generalize sumIx (fun i => !isAt ts i) 0 (vs.take k) = nn at *
              have hwy : IntKind.u64.wrap ((yy : Int) + (v.power : Int)) = ((yy + v.power : Nat) : Int) := w64_add yy v.power (by omega)
              have hwn : IntKind.u64.wrap ((nn : Int) + (v.power : Int)) = ((nn + v.power : Nat) : Int) := w64_add nn v.power (by omega)
              generalize hti : t.is = ti at *
              have HTI := hid hti
              clear hti
              cases ti with
              | false =>
                go_wp2_with fail
                go_roundw
                case rel => exact ⟨k + 1, by omega, by go_num, by rw [HS1.out]; simp, by rw [HS2.out]; simp, hid ⟨HI.out.1, by rw [HI.out.2, HGA.out]; simp⟩⟩
                case measure => simp [intOf]; omega
              | true =>
                go_wp2_with fail
                refine refCheckGood s.hd v t m o1 o2 o3 n k b o b2 p c1 c2 c3 c4 c5 HRW hlt HCK HCR HCS (hid (HHV.out.below (HBW.out.mono hN))) (Nat.le_trans hN HBW.out.size) HW1.out HM (by have := HML.out; omega) hvk htr hts _ (hid ?_)
                intro σ2 w4 hb4 h16
                have n1 := HCP.out w4 hb4
                have n6 := (HRW.out.below hb4 HRW.out.lt).cell 6
                have HI4 := hid (HI.out.1.trans (hb4.mono hszr))
                have HB4 := hid (HBW.out.trans (hb4.mono HBW.out.size))
                clear hb4 f0 g1
                generalize goodB v.key m t.r t.s = gb at *
                cases gb with
                | true =>
                  have h16 : σ2 16 = .bool false := h16
                  rw [h16]
                  clear h16
                  go_wp2_with fail
                  go_roundw
                  case rel => exact ⟨k + 1, by omega, by go_num, by rw [HS1.out]; simp, by rw [HS2.out]; simp, hid ⟨HI4.out, by rw [HI.out.2, HGA.out]; simp⟩⟩
                  case measure => simp [intOf]; omega
                | false =>
                  have h16 : σ2 16 = .bool true := h16
                  rw [h16]
                  clear h16
                  go_wp2
                  go_ret
                  exact ⟨by rw [HC.out, HI.out.2, HGA.out]; simp; first | done | rfl, HB4.out⟩
            · have hge : decide ((k : Int) < (n : Int)) = false := by simp; omega
              have hgen : decide (k < n) = false := decide_eq_false hlt
              have HK := hid (show vs.take k = vs from List.take_of_length_le (by rw [HN.out]; omega))
              rw [HK.out] at hp1 hp2 hpa ⊢
              have HGT := hid (show goodAll m vs ts = true by rw [HI.out.2, goodAll_end m vs ts k (by rw [HNT.out]; omega)])
              rw [HYS.out] at HYN hp1 ⊢
              generalize sumIx (fun i => !isAt ts i) 0 vs = nn at *
              generalize yesP vs ts = yy at *
              have hsum := HYN.out
              have hw2 : IntKind.u64.wrap (2 * (nn : Int)) = 2 * (nn : Int) := by simp [IntKind.wrap, IntKind.bits, IntKind.signed]; omega
              by_cases h3 : yy ≤ 2 * nn
              · have e3 : decide ((yy : Int) ≤ 2 * (nn : Int)) = true := by simp; omega
                have HC2 := hid (show checkN s = 10 by rw [HC.out, if_neg (by simp [HGT.out]), if_pos (by omega)])
                clear hsum
                go_wp2
                go_ret
                exact ⟨by rw [HC2.out]; first | done | rfl, HBW.out⟩
              · have e3 : decide ((yy : Int) ≤ 2 * (nn : Int)) = false := by simp; omega
                have HC2 := hid (show checkN s = 0 by rw [HC.out, if_neg (by simp [HGT.out]), if_neg (by omega)])
                clear hsum
                go_wp2
                go_ret
                exact ⟨by rw [HC2.out]; first | done | rfl, HBW.out⟩
        · have htg : togetherN s.hd s.vals = 8 := by unfold togetherN; rw [if_neg (by simp [hw]), if_neg (by simp [hvv]), if_neg (fun e => hd e.symm)]
          have HC := hid (show checkN s = 8 by unfold checkN; rw [if_pos (by simp [htg]), htg])
          have HD := hid hd
          clear hd hw hvv htg
          generalize hvs : s.vals = vs at *
          generalize hts : s.votes = ts at *
          clear hvs hts
          generalize hn : vs.length = nv at *
          generalize hnt : ts.length = n at *
          subst hlen
          have HN := hid hn
          clear hn hnt
          go_enter Tryz.func71, Tryz.ntmps71
          go_wp2_with fail
          refine HWR.out.mono ?_
          rintro e w1 ⟨rfl, hb1⟩
          have HB1 := hid (HB0.out.trans (hb1.mono HB0.out.size))
          have HR1 := hid (HR0.out.below hb1 HR0.out.lt)
          have j6 := HR1.out.cell 6
          have HVC := hid (refValsC vs _ N w1 (HL.out.below (HB1.out.mono hN)) (Nat.le_trans hN HB1.out.size) (by rw [HN.out]; exact hln))
          clear hb1 hw0
          generalize wrongH s.hd = ww at e1 ⊢
          go_wp2_with fail
          refine HVC.out.mono ?_
          rintro e w2 ⟨rfl, hb2⟩
          have HB2 := hid (HB1.out.trans (hb2.mono HB1.out.size))
          have HR2 := hid (HR1.out.below hb2 HR1.out.lt)
          clear hb2
          generalize valsN vs = vw at e2 ⊢
          go_wp2_with fail
          refine refCheckTog s.hd vs o1 o2 o3 o4 o5 n c1 c2 c3 c4 c5 (hid (HTAB.out.below HB2.out HTAB.out.lt)) HR2 (hid (H2.out.below (HB2.out.mono hN))) hvl (hid (HL.out.below (HB2.out.mono hN))) (Nat.le_trans hN HB2.out.size) (by rw [HN.out]; exact HVO.out.2.1) HOK _ (hid ?_)
          intro σ w3 hb3 h16
          have h16 : σ 16 = .bool true := by rw [h16, decide_eq_false HD.out]; rfl
          have HB3 := hid (HB2.out.trans (hb3.mono HB2.out.size))
          rw [h16]
          clear hb3 h16
          go_wp2
          go_ret
          exact ⟨by rw [HC.out]; first | done | rfl, HB3.out⟩
      · have HC := hid (show checkN s = 8 by
          unfold checkN togetherN
          rw [if_neg (by simp [hw] : ¬ wrongH s.hd ≠ 0), if_neg (by simp [hvv] : ¬ valsN s.vals ≠ 0)]
          by_cases hd : s.hd.vals = digV s.vals
          · rw [if_pos hd, if_neg (by simp), if_pos hlen]
          · rw [if_neg hd, if_pos (by decide)])
        have e4 : ((s.vals.length : Int) != (s.votes.length : Int)) = true := by simp; omega
        have HN0 := hid hln
        clear hw hvv hlen
        go_enter Tryz.func71, Tryz.ntmps71
        go_wp2_with fail
        refine HWR.out.mono ?_
        rintro e w1 ⟨rfl, hb1⟩
        have HB1 := hid (HB0.out.trans (hb1.mono HB0.out.size))
        have HR1 := hid (HR0.out.below hb1 HR0.out.lt)
        have j6 := HR1.out.cell 6
        have HVC := hid (refValsC s.vals _ N w1 (HL.out.below (HB1.out.mono hN)) (Nat.le_trans hN HB1.out.size) hln)
        clear hb1 hw0
        generalize wrongH s.hd = ww at e1 ⊢
        go_wp2_with fail
        refine HVC.out.mono ?_
        rintro e w2 ⟨rfl, hb2⟩
        have HB2 := hid (HB1.out.trans (hb2.mono HB1.out.size))
        obtain ⟨_, _, _, _, _, _, i6, i7⟩ := (HR1.out.below hb2 HR1.out.lt).eight
        clear hb2
        generalize valsN s.vals = vw at e2 ⊢
        generalize s.vals.length = n1 at *
        generalize s.votes.length = n2 at *
        go_wp2_with fail
        go_quiet (fail)
        go_wp2
        go_ret
        exact ⟨by rw [HC.out]; first | done | rfl, HB2.out.trans (below_drewH _ _ _)⟩
    · have e2 : (valsN s.vals != 0) = true := by simp [hvv]
      have HC := hid (show checkN s = valsN s.vals by
        have : togetherN s.hd s.vals = valsN s.vals := by unfold togetherN; rw [if_neg (by simp [hw]), if_pos hvv]
        unfold checkN
        rw [this, if_pos hvv])
      clear hw hvv
      go_enter Tryz.func71, Tryz.ntmps71
      go_wp2_with fail
      refine HWR.out.mono ?_
      rintro e w1 ⟨rfl, hb1⟩
      have HB1 := hid (HB0.out.trans (hb1.mono HB0.out.size))
      have j6 := (HR0.out.below hb1 HR0.out.lt).cell 6
      have HVC := hid (refValsC s.vals _ N w1 (HL.out.below (HB1.out.mono hN)) (Nat.le_trans hN HB1.out.size) hln)
      clear hb1 hw0
      generalize wrongH s.hd = ww at e1 ⊢
      go_wp2_with fail
      refine HVC.out.mono ?_
      rintro e w2 ⟨rfl, hb2⟩
      have HB2 := hid (HB1.out.trans (hb2.mono HB1.out.size))
      clear hb2
      generalize valsN s.vals = vw at e2 HC ⊢
      go_wp2
      go_ret
      exact ⟨by rw [HC.out]; first | done | rfl, HB2.out⟩
  · have e1 : (wrongH s.hd != 0) = true := by simp [hw]
    have HC := hid (show checkN s = wrongH s.hd by
      have : togetherN s.hd s.vals = wrongH s.hd := by unfold togetherN; rw [if_pos hw]
      unfold checkN
      rw [this, if_pos hw])
    clear hw
    go_enter Tryz.func71, Tryz.ntmps71
    go_wp2_with fail
    refine HWR.out.mono ?_
    rintro e w1 ⟨rfl, hb1⟩
    have HB1 := hid (HB0.out.trans (hb1.mono HB0.out.size))
    clear hb1 hw0
    generalize wrongH s.hd = ww at e1 HC ⊢
    go_wp2
    go_ret
    exact ⟨by rw [HC.out]; first | done | rfl, HB1.out⟩
end Go.Proofs.YtiflkkelbnpniaaGreatDoor
