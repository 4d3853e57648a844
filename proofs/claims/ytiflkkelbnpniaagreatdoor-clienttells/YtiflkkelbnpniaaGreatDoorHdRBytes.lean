/-
  What the document's Bytes does: a header's bytes, in new memory, in whatever order its steps come.
-/
import Derived.Test.YtiflkkelbnpniaaGreatDoorHdCheck
namespace Go.Proofs.YtiflkkelbnpniaaGreatDoor
open Go.RowKit

set_option maxRecDepth 100000 in
set_option maxHeartbeats 4000000 in
theorem refBytesRegion {y0 z2 z3 z4 z5 z6 z7 z8 z9 z10 z11 z12 z13 z14 z15 z16 z17 z18 z19 z20 z21 z22 z23 : Value} {g : Nat} (ch : ByteArray) (ht tm : Nat) (root vals next x : List (BitVec 8)) (o1 o2 o3 : Option Addr) (c1 c2 c3 : Nat) {w : World} (hr : Hid (Row w g 29 [.string ch, .int .i64 (ht : Int), .int .i64 (tm : Int), .slice o1 root.length c1, .slice o2 vals.length c2, .slice o3 next.length c3])) (hht : ht < 9223372036854775808) (htm : tm < 9223372036854775808)
    (b1 : Hid (Bytes w w.heap.size (.slice o1 root.length c1) root)) (b2 : Hid (Bytes w w.heap.size (.slice o2 vals.length c2) vals)) (b3 : Hid (Bytes w w.heap.size (.slice o3 next.length c3) next))
    (hx : Hid (wrAll [⟨2, 0, lets ch⟩, ⟨1, ht, []⟩, ⟨1, tm, []⟩, ⟨2, 0, root⟩, ⟨2, 0, vals⟩, ⟨2, 0, next⟩] = .ok x)) (hfit : Hid (∀ p ∈ ([⟨2, 0, lets ch⟩, ⟨1, ht, []⟩, ⟨1, tm, []⟩, ⟨2, 0, root⟩, ⟨2, 0, vals⟩, ⟨2, 0, next⟩] : List Pc), p.fits)) (Q : Exit → Act → World → Prop)
    (hQ : Hid (∀ (σ : Nat → Value) (w' : World), Below w.heap.size w w' → /-21-/ Bytes w' w'.heap.size (σ 21) x → Q .normal ⟨#[y0, .pointer (some ⟨g, 0, none⟩), σ 21, σ 0, σ 1, σ 2, σ 3, σ 4, σ 5, σ 6, σ 7, σ 8, σ 9, σ 10, σ 11, σ 12, σ 13, σ 14, σ 15, σ 16, σ 17, σ 18, σ 19, σ 20], []⟩ w')) :
    Code.wp Tryz.prog (.region 1 ((Tryz.f99.body.bind (regOf 1)).getD #[]) true) Q ⟨#[y0, .pointer (some ⟨g, 0, none⟩), z2, z3, z4, z5, z6, z7, z8, z9, z10, z11, z12, z13, z14, z15, z16, z17, z18, z19, z20, z21, z22, z23], []⟩ w := by
  conv => arg 2; arg 2; whnf
  conv => arg 4; dsimp only
  refine region_grows (by kernel_rfl) (fun σ => #[y0, .pointer (some ⟨g, 0, none⟩), σ 21, σ 0, σ 1, σ 2, σ 3, σ 4, σ 5, σ 6, σ 7, σ 8, σ 9, σ 10, σ 11, σ 12, σ 13, σ 14, σ 15, σ 16, σ 17, σ 18, σ 19, σ 20]) (fun i => ([z3, z4, z5, z6, z7, z8, z9, z10, z11, z12, z13, z14, z15, z16, z17, z18, z19, z20, z21, z22, z23, z2] : List Value).getD i undef) rfl (fun i X W => match i with
    | 0 => X = .pointer (some ⟨g, 0, none⟩)
    | 1 => X = .string ch
    | 2 => Bytes W W.heap.size X (lets ch)
    | 3 => ∃ o n c, X = .agg #[.int .i64 2, .int .u64 0, .slice o n c] ∧ Bytes W W.heap.size (.slice o n c) (lets ch)
    | 4 => X = .pointer (some ⟨g, 1, none⟩)
    | 5 => X = .int .i64 (ht : Int)
    | 6 => X = .agg #[.int .i64 1, .int .u64 (ht : Int), .slice none 0 0]
    | 7 => X = .pointer (some ⟨g, 2, none⟩)
    | 8 => X = .int .i64 (tm : Int)
    | 9 => X = .agg #[.int .i64 1, .int .u64 (tm : Int), .slice none 0 0]
    | 10 => X = .pointer (some ⟨g, 3, none⟩)
    | 11 => X = .slice o1 root.length c1
    | 12 => X = .agg #[.int .i64 2, .int .u64 0, .slice o1 root.length c1]
    | 13 => X = .pointer (some ⟨g, 4, none⟩)
    | 14 => X = .slice o2 vals.length c2
    | 15 => X = .agg #[.int .i64 2, .int .u64 0, .slice o2 vals.length c2]
    | 16 => X = .pointer (some ⟨g, 5, none⟩)
    | 17 => X = .slice o3 next.length c3
    | 18 => X = .agg #[.int .i64 2, .int .u64 0, .slice o3 next.length c3]
    | 19 => Pieces W W.heap.size X [⟨2, 0, lets ch⟩, ⟨1, ht, []⟩, ⟨1, tm, []⟩, ⟨2, 0, root⟩, ⟨2, 0, vals⟩, ⟨2, 0, next⟩]
    | 20 => Bytes W W.heap.size X x
    | 21 => Bytes W W.heap.size X x
    | _ => True) ?_ (by kernel_rfl) ?_ ?_
  · intro i X W W' HB H
    match i, H with
    | 0, H => exact H
    | 1, H => exact H
    | 2, H => exact (H.below HB).mono HB.size
    | 3, H => exact by obtain ⟨o, n, c, h1, h2⟩ := H; exact ⟨o, n, c, h1, (h2.below HB).mono HB.size⟩
    | 4, H => exact H
    | 5, H => exact H
    | 6, H => exact H
    | 7, H => exact H
    | 8, H => exact H
    | 9, H => exact H
    | 10, H => exact H
    | 11, H => exact H
    | 12, H => exact H
    | 13, H => exact H
    | 14, H => exact H
    | 15, H => exact H
    | 16, H => exact H
    | 17, H => exact H
    | 18, H => exact H
    | 19, H => exact (H.below HB).mono HB.size
    | 20, H => exact (H.below HB).mono HB.size
    | 21, H => exact (H.below HB).mono HB.size
    | _ + 22, _ => exact trivial
  · refine ⟨?_, ?_, ?_, ?_, ?_, ?_, ?_, ?_, ?_, ?_, ?_, ?_, ?_, ?_, ?_, ?_, ?_, ?_, ?_, ?_, ?_, ?_, trivial⟩
    · -- 0: Op.fieldAddr 25 t1 0
      intro σ W HJ hdep
      simp [Region.binds] at hdep
      have HJ := hid HJ
      refine wpOp_plain rfl rfl ?_
      go_simp
      exact Left.mk0 (.pointer (some ⟨g, 0, none⟩)) (by first | rfl | simp [updF, *]) HJ.out rfl
    · -- 1: Op.load 9 t3
      intro σ W HJ hdep
      simp [Region.binds] at hdep
      have HJ := hid HJ
      have k := (hr.out.below HJ.out hr.out.lt).cell 0
      simp at k
      refine wpOp_plain rfl rfl ?_
      go_simp
      exact Left.mk0 (.string ch) (by first | rfl | simp [updF, *]) HJ.out rfl
    · -- 2: Op.convert 9 23 t4
      intro σ W HJ hdep
      simp [Region.binds] at hdep
      have HJ := hid HJ
      have hcv := conv_text W ch
      refine wpOp_plain rfl rfl ?_
      go_simp
      exact Left.mk (.slice (some ⟨W.heap.size, 0, none⟩) ch.size (grownCap W ch.size 0 5)) (by first | rfl | simp [updF, *]) (text_below W ch) HJ.out (text_bytes W ch)
    · -- 3: Op.call { value (Operand.func 47), args := #[t5], argTypes :
      intro σ W HJ hdep
      simp [Region.binds] at hdep
      have HJ := hid HJ
      obtain ⟨o, c, he, _⟩ := hdep.shape
      have HD := hid hdep
      clear hdep
      generalize hn : (lets ch).length = n at he
      clear hn
      refine wpOp_plain rfl rfl ?_
      go_simp
      refine (refB o n c W).mono ?_
      rintro e w2 ⟨rfl, hb2⟩
      have h2 := HD.out
      rw [he] at h2
      exact Left.mk (.agg #[.int .i64 2, .int .u64 0, .slice o n c]) (by first | rfl | simp [updF, *]) hb2 HJ.out ⟨o, n, c, rfl, (h2.below hb2).mono hb2.size⟩
    · -- 4: Op.fieldAddr 25 t1 1
      intro σ W HJ hdep
      simp [Region.binds] at hdep
      have HJ := hid HJ
      refine wpOp_plain rfl rfl ?_
      go_simp
      exact Left.mk0 (.pointer (some ⟨g, 1, none⟩)) (by first | rfl | simp [updF, *]) HJ.out rfl
    · -- 5: Op.load 3 t7
      intro σ W HJ hdep
      simp [Region.binds] at hdep
      have HJ := hid HJ
      have k := (hr.out.below HJ.out hr.out.lt).cell 1
      simp at k
      refine wpOp_plain rfl rfl ?_
      go_simp
      exact Left.mk0 (.int .i64 (ht : Int)) (by first | rfl | simp [updF, *]) HJ.out rfl
    · -- 6: Op.call { value (Operand.func 48), args := #[t8], argTypes :
      intro σ W HJ hdep
      simp [Region.binds] at hdep
      have HJ := hid HJ
      refine wpOp_plain rfl rfl ?_
      go_simp
      refine (refN_any ht W hht).mono ?_
      rintro e w2 ⟨rfl, hb2⟩
      exact Left.mk (.agg #[.int .i64 1, .int .u64 (ht : Int), .slice none 0 0]) (by first | rfl | simp [updF, *]) hb2 HJ.out rfl
    · -- 7: Op.fieldAddr 25 t1 2
      intro σ W HJ hdep
      simp [Region.binds] at hdep
      have HJ := hid HJ
      refine wpOp_plain rfl rfl ?_
      go_simp
      exact Left.mk0 (.pointer (some ⟨g, 2, none⟩)) (by first | rfl | simp [updF, *]) HJ.out rfl
    · -- 8: Op.load 3 t10
      intro σ W HJ hdep
      simp [Region.binds] at hdep
      have HJ := hid HJ
      have k := (hr.out.below HJ.out hr.out.lt).cell 2
      simp at k
      refine wpOp_plain rfl rfl ?_
      go_simp
      exact Left.mk0 (.int .i64 (tm : Int)) (by first | rfl | simp [updF, *]) HJ.out rfl
    · -- 9: Op.call { value (Operand.func 48), args := #[t11], argTypes 
      intro σ W HJ hdep
      simp [Region.binds] at hdep
      have HJ := hid HJ
      refine wpOp_plain rfl rfl ?_
      go_simp
      refine (refN_any tm W htm).mono ?_
      rintro e w2 ⟨rfl, hb2⟩
      exact Left.mk (.agg #[.int .i64 1, .int .u64 (tm : Int), .slice none 0 0]) (by first | rfl | simp [updF, *]) hb2 HJ.out rfl
    · -- 10: Op.fieldAddr 25 t1 3
      intro σ W HJ hdep
      simp [Region.binds] at hdep
      have HJ := hid HJ
      refine wpOp_plain rfl rfl ?_
      go_simp
      exact Left.mk0 (.pointer (some ⟨g, 3, none⟩)) (by first | rfl | simp [updF, *]) HJ.out rfl
    · -- 11: Op.load 23 t13
      intro σ W HJ hdep
      simp [Region.binds] at hdep
      have HJ := hid HJ
      have k := (hr.out.below HJ.out hr.out.lt).cell 3
      simp at k
      refine wpOp_plain rfl rfl ?_
      go_simp
      exact Left.mk0 (.slice o1 root.length c1) (by first | rfl | simp [updF, *]) HJ.out rfl
    · -- 12: Op.call { value (Operand.func 47), args := #[t14], argTypes 
      intro σ W HJ hdep
      simp [Region.binds] at hdep
      have HJ := hid HJ
      refine wpOp_plain rfl rfl ?_
      go_simp
      refine (refB o1 root.length c1 W).mono ?_
      rintro e w2 ⟨rfl, hb2⟩
      exact Left.mk (.agg #[.int .i64 2, .int .u64 0, .slice o1 root.length c1]) (by first | rfl | simp [updF, *]) hb2 HJ.out rfl
    · -- 13: Op.fieldAddr 25 t1 4
      intro σ W HJ hdep
      simp [Region.binds] at hdep
      have HJ := hid HJ
      refine wpOp_plain rfl rfl ?_
      go_simp
      exact Left.mk0 (.pointer (some ⟨g, 4, none⟩)) (by first | rfl | simp [updF, *]) HJ.out rfl
    · -- 14: Op.load 23 t16
      intro σ W HJ hdep
      simp [Region.binds] at hdep
      have HJ := hid HJ
      have k := (hr.out.below HJ.out hr.out.lt).cell 4
      simp at k
      refine wpOp_plain rfl rfl ?_
      go_simp
      exact Left.mk0 (.slice o2 vals.length c2) (by first | rfl | simp [updF, *]) HJ.out rfl
    · -- 15: Op.call { value (Operand.func 47), args := #[t17], argTypes 
      intro σ W HJ hdep
      simp [Region.binds] at hdep
      have HJ := hid HJ
      refine wpOp_plain rfl rfl ?_
      go_simp
      refine (refB o2 vals.length c2 W).mono ?_
      rintro e w2 ⟨rfl, hb2⟩
      exact Left.mk (.agg #[.int .i64 2, .int .u64 0, .slice o2 vals.length c2]) (by first | rfl | simp [updF, *]) hb2 HJ.out rfl
    · -- 16: Op.fieldAddr 25 t1 5
      intro σ W HJ hdep
      simp [Region.binds] at hdep
      have HJ := hid HJ
      refine wpOp_plain rfl rfl ?_
      go_simp
      exact Left.mk0 (.pointer (some ⟨g, 5, none⟩)) (by first | rfl | simp [updF, *]) HJ.out rfl
    · -- 17: Op.load 23 t19
      intro σ W HJ hdep
      simp [Region.binds] at hdep
      have HJ := hid HJ
      have k := (hr.out.below HJ.out hr.out.lt).cell 5
      simp at k
      refine wpOp_plain rfl rfl ?_
      go_simp
      exact Left.mk0 (.slice o3 next.length c3) (by first | rfl | simp [updF, *]) HJ.out rfl
    · -- 18: Op.call { value (Operand.func 47), args := #[t20], argTypes 
      intro σ W HJ hdep
      simp [Region.binds] at hdep
      have HJ := hid HJ
      refine wpOp_plain rfl rfl ?_
      go_simp
      refine (refB o3 next.length c3 W).mono ?_
      rintro e w2 ⟨rfl, hb2⟩
      exact Left.mk (.agg #[.int .i64 2, .int .u64 0, .slice o3 next.length c3]) (by first | rfl | simp [updF, *]) hb2 HJ.out rfl
    · -- 19: Op.buildSlice 67 6 #[(0, t6), (1, t9), (2, t12), (3, t15), (
      intro σ W HJ hdep
      simp [Region.binds] at hdep
      have HJ := hid HJ
      obtain ⟨⟨o, n, c, e3, hb3⟩, e7, e11, e14, e17, e20⟩ := hdep
      have HB3 := hid hb3
      clear hb3
      have hbn : Below W.heap.size W (W.alloc (.cells #[.int .i64 2, .int .u64 0, .slice o n c, .int .i64 1, .int .u64 (ht : Int), .slice none 0 0, .int .i64 1, .int .u64 (tm : Int), .slice none 0 0, .int .i64 2, .int .u64 0, .slice o1 root.length c1, .int .i64 2, .int .u64 0, .slice o2 vals.length c2, .int .i64 2, .int .u64 0, .slice o3 next.length c3] 91)) := (Below.refl _ _).alloc (Nat.le_refl _) _
      have HBN := hid hbn
      clear hbn
      refine wpOp_plain rfl rfl ?_
      go_simp
      refine Left.mk (.slice (some ⟨W.heap.size, 0, none⟩) 6 6) (by first | rfl | simp [updF, *]) HBN.out HJ.out ?_
      exact pieces_new W 91 [(⟨2, 0, lets ch⟩, .slice o n c), (⟨1, ht, []⟩, .slice none 0 0), (⟨1, tm, []⟩, .slice none 0 0), (⟨2, 0, root⟩, .slice o1 root.length c1), (⟨2, 0, vals⟩, .slice o2 vals.length c2), (⟨2, 0, next⟩, .slice o3 next.length c3)] (by
        intro q hq
        simp at hq
        rcases hq with rfl | rfl | rfl | rfl | rfl | rfl
        · exact HB3.out
        · exact .inl ⟨rfl, rfl⟩
        · exact .inl ⟨rfl, rfl⟩
        · exact (b1.out.below HJ.out).mono HJ.out.size
        · exact (b2.out.below HJ.out).mono HJ.out.size
        · exact (b3.out.below HJ.out).mono HJ.out.size)
    · -- 20: Op.call { value (Operand.func 45), args := #[t22], argTypes 
      intro σ W HJ hdep
      simp [Region.binds] at hdep
      have HJ := hid HJ
      have HC := hid (refPieces_any _ x (σ 19) W.heap.size W hdep.1 (Nat.le_refl _) (by simp) hfit.out hx.out)
      clear hdep
      refine wpOp_plain rfl rfl ?_
      go_simp
      refine HC.out.mono ?_
      rintro e w2 ⟨v, rfl, hbv, hb2⟩
      exact Left.mk v (by first | rfl | simp [updF, *]) hb2 HJ.out hbv
    · -- 21: Op.assign t23
      intro σ W HJ hdep
      simp [Region.binds] at hdep
      have HJ := hid HJ
      have HD := hid hdep.1
      clear hdep
      refine wpOp_plain rfl rfl ?_
      go_simp
      exact Left.mk0 (σ 20) (by first | rfl | simp [updF, *]) HJ.out HD.out
  · intro σ w' hb hg
    exact hQ.out σ w' hb (by first | exact ⟨hg 21 (by decide)⟩ | exact hg 21 (by decide))
set_option maxRecDepth 100000 in
set_option maxHeartbeats 2000000 in
theorem refBytesC : BytesC 99 := by
  intro h v N w hv hN hw
  obtain ⟨⟨_, f1, f2⟩, ⟨f3, f4, f5, f6⟩, f7, f8, f9⟩ := wrongH_ok hw
  have HX := hid (wrAll_head h hw)
  have HFIT := hid (show ∀ p ∈ hPieces h, p.fits from hPieces_fits h hw)
  obtain ⟨rv, vv, nv, rfl, h1, h2, h3⟩ := hv
  obtain ⟨o1, c1, rfl, _⟩ := h1.shape
  obtain ⟨o2, c2, rfl, _⟩ := h2.shape
  obtain ⟨o3, c3, rfl, _⟩ := h3.shape
  obtain ⟨ch, hh, tt, root, vals, next⟩ := h
  simp only at f1 f2 f3 f4 f5 f6 f7 f8 f9 h1 h2 h3
  obtain ⟨ht, rfl⟩ : ∃ n : Nat, hh = (n : Int) := ⟨hh.toNat, by omega⟩
  obtain ⟨tm, rfl⟩ : ∃ n : Nat, tt = (n : Int) := ⟨tt.toNat, by omega⟩
  obtain ⟨w0, hw0⟩ : ∃ w0, w.alloc (.cells #[.string ch, .int .i64 (ht : Int), .int .i64 (tm : Int), .slice o1 root.length c1, .slice o2 vals.length c2, .slice o3 next.length c3] 29) = w0 := ⟨_, rfl⟩
  have hb0 : Below w.heap.size w w0 := by rw [← hw0]; exact (Below.refl _ _).alloc (Nat.le_refl _) _
  have HB0 := hid hb0
  have HR0 := hid (show Row w0 w.heap.size 29 [.string ch, .int .i64 (ht : Int), .int .i64 (tm : Int), .slice o1 root.length c1, .slice o2 vals.length c2, .slice o3 next.length c3] by rw [← hw0]; exact Row.new _ _ _)
  have H1 := hid ((h1.below (hb0.mono hN)).mono (Nat.le_trans hN hb0.size))
  have H2 := hid ((h2.below (hb0.mono hN)).mono (Nat.le_trans hN hb0.size))
  have H3 := hid ((h3.below (hb0.mono hN)).mono (Nat.le_trans hN hb0.size))
  clear h1 h2 h3 hb0 hw f7 f8 f9
  go_enter Tryz.func99, Tryz.ntmps99
  go_wp2_with fail
  refine refBytesRegion ch ht tm root vals next _ o1 o2 o3 c1 c2 c3 HR0 (by omega) (by omega) H1 H2 H3 HX HFIT _ (hid ?_)
  intro σ w1 hb1 hx
  have HB1 := hid hb1
  have HXX := hid hx
  clear hb1 hx HX HFIT hw0
  go_wp2
  go_ret
  exact ⟨_, rfl, HXX.out, HB0.out.trans (HB1.out.mono HB0.out.size)⟩
end Go.Proofs.YtiflkkelbnpniaaGreatDoor
