/-
  What Bytes does: a header's bytes, in new memory, in whatever order its steps come.
-/
import Derived.Test.YtfpngilmdgeikaaDoorHdPc
import Derived.Test.YtfpngilmdgeikaaDoorRegions
import Derived.Lib.ConvBytes
import Derived.Laws.IdiomStrings
namespace Go.Proofs.YtfpngilmdgeikaaDoor
open Go.RowKit

theorem pieces_new (w : World) (t : TypeId) (ps : List (Pc × Value)) (h : ∀ q ∈ ps, Bytes w w.heap.size q.2 q.1.b) :
    Pieces (w.alloc (.cells (ps.flatMap pcCells).toArray t)) (w.alloc (.cells (ps.flatMap pcCells).toArray t)).heap.size (.slice (some ⟨w.heap.size, 0, none⟩) ps.length ps.length) (ps.map (·.1)) := by
  have hb : Below w.heap.size w (w.alloc (.cells (ps.flatMap pcCells).toArray t)) := (Below.refl _ _).alloc (Nat.le_refl _) _
  have hr : Row (w.alloc (.cells (ps.flatMap pcCells).toArray t)) w.heap.size t (ps.flatMap pcCells) := Row.new _ _ _
  refine .inr (.inr ⟨w.heap.size, 0, ps.length, by simp, by simp, fun i p hp => ?_⟩)
  obtain ⟨q, hq, rfl⟩ : ∃ q, ps[i]? = some q ∧ q.1 = p := by simpa using hp
  refine ⟨hr.lt, q.2, ?_⟩
  have cell : ∀ j, j < 3 → (w.alloc (.cells (ps.flatMap pcCells).toArray t)).cell? ⟨w.heap.size, 0 + i * 3 + j, none⟩ = (pcCells q)[j]? := fun j hj => by
    rw [hr.cell, Nat.zero_add, flat_get ps i j q hq hj]
  exact ⟨cell 0 (by omega), cell 1 (by omega), cell 2 (by omega), ((h q (List.mem_of_getElem? hq)).below hb).mono hb.size⟩
theorem conv_text (w : World) (x : ByteArray) : (convert 9 23 (.string x)).run Tryd.prog w = .ok (.slice (some ⟨w.heap.size, 0, none⟩) x.size (grownCap w x.size 0 5)) (Lib.bytesWorld w 5 x) :=
  Lib.run_convert_string_bytes w 9 23 5 x Tryd.underlying9 Tryd.underlying23 Tryd.underlying5
theorem text_bytes (w : World) (s : ByteArray) : Bytes (Lib.bytesWorld w 5 s) (Lib.bytesWorld w 5 s).heap.size (.slice (some ⟨w.heap.size, 0, none⟩) s.size (grownCap w s.size 0 5)) (lets s) := by
  have hsz := Lib.bytesWorld_size w 5 s
  refine .inr (.inr ⟨w.heap.size, 0, _, by rw [lets_length], by rw [lets_length]; exact grownCap_ge _ _ _ _, fun i hi => ⟨by omega, ?_⟩⟩)
  rw [lets_length] at hi
  rw [Nat.zero_add, Lib.bytesWorld_cell _ _ _ _ hi]
  congr 2
  unfold b8 lets
  simp
theorem text_below (w : World) (s : ByteArray) : Below w.heap.size w (Lib.bytesWorld w 5 s) :=
  ⟨rfl, rfl, rfl, by rw [Lib.bytesWorld_size]; omega, fun j hj => Lib.bytesWorld_at_old _ _ _ _ hj⟩
/-- what Bytes is to answer, of a right header -/
def BytesC (f : FuncId) : Prop := ∀ (h : Hd) (v : Value) (N : Nat) (w : World), HdV w N v h → N ≤ w.heap.size → wrongH h = 0 →
  Calls Tryd.prog f #[v] w fun e w' => ∃ x, e = .returned x ∧ Bytes w' w'.heap.size x (bytesH h) ∧ Below w.heap.size w w'
set_option maxRecDepth 100000 in
set_option maxHeartbeats 4000000 in
theorem bytesRegion {y0 y2 y31 z3 z4 z5 z6 z7 z8 z9 z10 z11 z12 z13 z14 z15 z16 z17 z18 z19 z20 z21 z22 z23 z24 z25 z26 z27 z28 z29 z30 : Value} {g : Nat} (ch : ByteArray) (ht tm : Nat) (root vals next x : List (BitVec 8)) (o1 o2 o3 : Option Addr) (c1 c2 c3 : Nat) {w : World} (hr : Hid (Row w g 25 [.string ch, .int .i64 (ht : Int), .int .i64 (tm : Int), .slice o1 root.length c1, .slice o2 vals.length c2, .slice o3 next.length c3])) (hht : ht < 9223372036854775808) (htm : tm < 9223372036854775808)
    (b1 : Hid (Bytes w w.heap.size (.slice o1 root.length c1) root)) (b2 : Hid (Bytes w w.heap.size (.slice o2 vals.length c2) vals)) (b3 : Hid (Bytes w w.heap.size (.slice o3 next.length c3) next))
    (hx : Hid (wrAll [⟨2, 0, lets ch⟩, ⟨1, ht, []⟩, ⟨1, tm, []⟩, ⟨2, 0, root⟩, ⟨2, 0, vals⟩, ⟨2, 0, next⟩] = .ok x)) (hfit : Hid (∀ p ∈ ([⟨2, 0, lets ch⟩, ⟨1, ht, []⟩, ⟨1, tm, []⟩, ⟨2, 0, root⟩, ⟨2, 0, vals⟩, ⟨2, 0, next⟩] : List Pc), p.fits)) (Q : Exit → Act → World → Prop)
    (hQ : Hid (∀ (σ : Nat → Value) (w' : World), Below w.heap.size w w' → /-27-/ Bytes w' w'.heap.size (σ 27) x → Q .normal ⟨#[y0, .pointer (some ⟨g, 0, none⟩), y2, σ 27, σ 26, σ 23, σ 0, σ 1, σ 2, σ 3, σ 4, σ 5, σ 6, σ 7, σ 8, σ 9, σ 10, σ 11, σ 12, σ 13, σ 14, σ 15, σ 16, σ 17, σ 18, σ 19, σ 20, σ 21, σ 22, σ 24, σ 25, y31], []⟩ w')) :
    Code.wp Tryd.prog (.region 1 ((Tryd.f25.body.bind (regOf 1)).getD #[]) true) Q ⟨#[y0, .pointer (some ⟨g, 0, none⟩), y2, z3, z4, z5, z6, z7, z8, z9, z10, z11, z12, z13, z14, z15, z16, z17, z18, z19, z20, z21, z22, z23, z24, z25, z26, z27, z28, z29, z30, y31], []⟩ w := by
  conv => arg 2; arg 2; whnf
  conv => arg 4; dsimp only
  refine region_grows (by kernel_rfl) (fun σ => #[y0, .pointer (some ⟨g, 0, none⟩), y2, σ 27, σ 26, σ 23, σ 0, σ 1, σ 2, σ 3, σ 4, σ 5, σ 6, σ 7, σ 8, σ 9, σ 10, σ 11, σ 12, σ 13, σ 14, σ 15, σ 16, σ 17, σ 18, σ 19, σ 20, σ 21, σ 22, σ 24, σ 25, y31]) (fun i => ([z6, z7, z8, z9, z10, z11, z12, z13, z14, z15, z16, z17, z18, z19, z20, z21, z22, z23, z24, z25, z26, z27, z28, z5, z29, z30, z4, z3, undef] : List Value).getD i undef) rfl (fun i X W => match i with
    | 0 => X = .pointer (some ⟨g, 0, none⟩)
    | 1 => X = .string ch
    | 2 => Bytes W W.heap.size X (lets ch)
    | 3 => ∃ o n c, X = .agg #[.int .i64 2, .int .u64 0, .slice o n c] ∧ Bytes W W.heap.size (.slice o n c) (lets ch)
    | 4 => X = .pointer (some ⟨g, 1, none⟩)
    | 5 => X = .int .i64 (ht : Int)
    | 6 => X = .int .u64 (ht : Int)
    | 7 => X = .agg #[.int .i64 1, .int .u64 (ht : Int), .slice none 0 0]
    | 8 => X = .pointer (some ⟨g, 2, none⟩)
    | 9 => X = .int .i64 (tm : Int)
    | 10 => X = .int .u64 (tm : Int)
    | 11 => X = .agg #[.int .i64 1, .int .u64 (tm : Int), .slice none 0 0]
    | 12 => X = .pointer (some ⟨g, 3, none⟩)
    | 13 => X = .slice o1 root.length c1
    | 14 => X = .agg #[.int .i64 2, .int .u64 0, .slice o1 root.length c1]
    | 15 => X = .pointer (some ⟨g, 4, none⟩)
    | 16 => X = .slice o2 vals.length c2
    | 17 => X = .agg #[.int .i64 2, .int .u64 0, .slice o2 vals.length c2]
    | 18 => X = .pointer (some ⟨g, 5, none⟩)
    | 19 => X = .slice o3 next.length c3
    | 20 => X = .agg #[.int .i64 2, .int .u64 0, .slice o3 next.length c3]
    | 21 => Pieces W W.heap.size X [⟨2, 0, lets ch⟩, ⟨1, ht, []⟩, ⟨1, tm, []⟩, ⟨2, 0, root⟩, ⟨2, 0, vals⟩, ⟨2, 0, next⟩]
    | 22 => ∃ v, X = .tuple #[v, .agg #[.int .i64 0, .int .i64 0]] ∧ Bytes W W.heap.size v x
    | 23 => ∃ v, X = .tuple #[v, .agg #[.int .i64 0, .int .i64 0]] ∧ Bytes W W.heap.size v x
    | 24 => Bytes W W.heap.size X x
    | 25 => X = .agg #[.int .i64 0, .int .i64 0]
    | 26 => ∃ k, X = .pointer (some ⟨k, 0, none⟩) ∧ Row W k 94 [.int .i64 0, .int .i64 0]
    | 27 => Bytes W W.heap.size X x
    | _ => True) ?_ (by kernel_rfl) ?_ ?_
  · intro i X W W' HB H
    match i, H with
    | 0, H => exact H
    | 1, H => exact H
    | 2, H => exact (H.below HB).mono HB.size
    | 3, H => exact by obtain ⟨o, n, c, h1, h2⟩ := H; exact ⟨o, n, c, h1, (h2.below HB).mono HB.size⟩
    | 4, H => exact H
    | 5, H => exact H
    | 6, H => exact H
    | 7, H => exact H
    | 8, H => exact H
    | 9, H => exact H
    | 10, H => exact H
    | 11, H => exact H
    | 12, H => exact H
    | 13, H => exact H
    | 14, H => exact H
    | 15, H => exact H
    | 16, H => exact H
    | 17, H => exact H
    | 18, H => exact H
    | 19, H => exact H
    | 20, H => exact H
    | 21, H => exact (H.below HB).mono HB.size
    | 22, H => exact by obtain ⟨v, h1, h2⟩ := H; exact ⟨v, h1, (h2.below HB).mono HB.size⟩
    | 23, H => exact by obtain ⟨v, h1, h2⟩ := H; exact ⟨v, h1, (h2.below HB).mono HB.size⟩
    | 24, H => exact (H.below HB).mono HB.size
    | 25, H => exact H
    | 26, H => exact by obtain ⟨k, h1, h2⟩ := H; exact ⟨k, h1, h2.below HB h2.lt⟩
    | 27, H => exact (H.below HB).mono HB.size
    | 28, _ => exact trivial
    | _ + 29, _ => exact trivial
  · refine ⟨?_, ?_, ?_, ?_, ?_, ?_, ?_, ?_, ?_, ?_, ?_, ?_, ?_, ?_, ?_, ?_, ?_, ?_, ?_, ?_, ?_, ?_, ?_, ?_, ?_, ?_, ?_, ?_, ?_, trivial⟩
    · -- 0: Op.fieldAddr 25 t1 0
      intro σ W HJ hdep
      simp [Region.binds] at hdep
      have HJ := hid HJ
      refine wpOp_plain rfl rfl ?_
      go_simp
      exact Left.mk0 (.pointer (some ⟨g, 0, none⟩)) (by first | rfl | simp [updF, *]) HJ.out rfl
    · -- 1: Op.load 9 t6
      intro σ W HJ hdep
      simp [Region.binds] at hdep
      have HJ := hid HJ
      have k := (hr.out.below HJ.out hr.out.lt).cell 0
      simp at k
      refine wpOp_plain rfl rfl ?_
      go_simp
      exact Left.mk0 (.string ch) (by first | rfl | simp [updF, *]) HJ.out rfl
    · -- 2: Op.convert 9 23 t7
      intro σ W HJ hdep
      simp [Region.binds] at hdep
      have HJ := hid HJ
      have hcv := conv_text W ch
      refine wpOp_plain rfl rfl ?_
      go_simp
      exact Left.mk (.slice (some ⟨W.heap.size, 0, none⟩) ch.size (grownCap W ch.size 0 5)) (by first | rfl | simp [updF, *]) (text_below W ch) HJ.out (text_bytes W ch)
    · -- 3: Op.call { value (Operand.func 46), args := #[t8], argTypes :
      intro σ W HJ hdep
      simp [Region.binds] at hdep
      have HJ := hid HJ
      obtain ⟨o, c, he, _⟩ := hdep.shape
      have HD := hid hdep
      clear hdep
      generalize hn : (lets ch).length = n at he
      clear hn
      refine wpOp_plain rfl rfl ?_
      go_simp
      refine (textC o n c W).mono ?_
      rintro e w2 ⟨rfl, hb2⟩
      have h2 := HD.out
      rw [he] at h2
      exact Left.mk (.agg #[.int .i64 2, .int .u64 0, .slice o n c]) (by first | rfl | simp [updF, *]) hb2 HJ.out ⟨o, n, c, rfl, (h2.below hb2).mono hb2.size⟩
    · -- 4: Op.fieldAddr 25 t1 1
      intro σ W HJ hdep
      simp [Region.binds] at hdep
      have HJ := hid HJ
      refine wpOp_plain rfl rfl ?_
      go_simp
      exact Left.mk0 (.pointer (some ⟨g, 1, none⟩)) (by first | rfl | simp [updF, *]) HJ.out rfl
    · -- 5: Op.load 3 t10
      intro σ W HJ hdep
      simp [Region.binds] at hdep
      have HJ := hid HJ
      have k := (hr.out.below HJ.out hr.out.lt).cell 1
      simp at k
      refine wpOp_plain rfl rfl ?_
      go_simp
      exact Left.mk0 (.int .i64 (ht : Int)) (by first | rfl | simp [updF, *]) HJ.out rfl
    · -- 6: Op.convert 3 43 t11
      intro σ W HJ hdep
      simp [Region.binds] at hdep
      have HJ := hid HJ
      have hwr := wrap64 ht (by omega)
      refine wpOp_plain rfl rfl ?_
      go_simp
      exact Left.mk0 (.int .u64 (ht : Int)) (by first | rfl | simp [updF, *]) HJ.out rfl
    · -- 7: Op.call { value (Operand.func 40), args := #[t12], argTypes 
      intro σ W HJ hdep
      simp [Region.binds] at hdep
      have HJ := hid HJ
      refine wpOp_plain rfl rfl ?_
      go_simp
      refine (numberC ht W).mono ?_
      rintro e w2 ⟨rfl, hb2⟩
      exact Left.mk (.agg #[.int .i64 1, .int .u64 (ht : Int), .slice none 0 0]) (by first | rfl | simp [updF, *]) hb2 HJ.out rfl
    · -- 8: Op.fieldAddr 25 t1 2
      intro σ W HJ hdep
      simp [Region.binds] at hdep
      have HJ := hid HJ
      refine wpOp_plain rfl rfl ?_
      go_simp
      exact Left.mk0 (.pointer (some ⟨g, 2, none⟩)) (by first | rfl | simp [updF, *]) HJ.out rfl
    · -- 9: Op.load 3 t14
      intro σ W HJ hdep
      simp [Region.binds] at hdep
      have HJ := hid HJ
      have k := (hr.out.below HJ.out hr.out.lt).cell 2
      simp at k
      refine wpOp_plain rfl rfl ?_
      go_simp
      exact Left.mk0 (.int .i64 (tm : Int)) (by first | rfl | simp [updF, *]) HJ.out rfl
    · -- 10: Op.convert 3 43 t15
      intro σ W HJ hdep
      simp [Region.binds] at hdep
      have HJ := hid HJ
      have hwr := wrap64 tm (by omega)
      refine wpOp_plain rfl rfl ?_
      go_simp
      exact Left.mk0 (.int .u64 (tm : Int)) (by first | rfl | simp [updF, *]) HJ.out rfl
    · -- 11: Op.call { value (Operand.func 40), args := #[t16], argTypes 
      intro σ W HJ hdep
      simp [Region.binds] at hdep
      have HJ := hid HJ
      refine wpOp_plain rfl rfl ?_
      go_simp
      refine (numberC tm W).mono ?_
      rintro e w2 ⟨rfl, hb2⟩
      exact Left.mk (.agg #[.int .i64 1, .int .u64 (tm : Int), .slice none 0 0]) (by first | rfl | simp [updF, *]) hb2 HJ.out rfl
    · -- 12: Op.fieldAddr 25 t1 3
      intro σ W HJ hdep
      simp [Region.binds] at hdep
      have HJ := hid HJ
      refine wpOp_plain rfl rfl ?_
      go_simp
      exact Left.mk0 (.pointer (some ⟨g, 3, none⟩)) (by first | rfl | simp [updF, *]) HJ.out rfl
    · -- 13: Op.load 23 t18
      intro σ W HJ hdep
      simp [Region.binds] at hdep
      have HJ := hid HJ
      have k := (hr.out.below HJ.out hr.out.lt).cell 3
      simp at k
      refine wpOp_plain rfl rfl ?_
      go_simp
      exact Left.mk0 (.slice o1 root.length c1) (by first | rfl | simp [updF, *]) HJ.out rfl
    · -- 14: Op.call { value (Operand.func 46), args := #[t19], argTypes 
      intro σ W HJ hdep
      simp [Region.binds] at hdep
      have HJ := hid HJ
      refine wpOp_plain rfl rfl ?_
      go_simp
      refine (textC o1 root.length c1 W).mono ?_
      rintro e w2 ⟨rfl, hb2⟩
      exact Left.mk (.agg #[.int .i64 2, .int .u64 0, .slice o1 root.length c1]) (by first | rfl | simp [updF, *]) hb2 HJ.out rfl
    · -- 15: Op.fieldAddr 25 t1 4
      intro σ W HJ hdep
      simp [Region.binds] at hdep
      have HJ := hid HJ
      refine wpOp_plain rfl rfl ?_
      go_simp
      exact Left.mk0 (.pointer (some ⟨g, 4, none⟩)) (by first | rfl | simp [updF, *]) HJ.out rfl
    · -- 16: Op.load 23 t21
      intro σ W HJ hdep
      simp [Region.binds] at hdep
      have HJ := hid HJ
      have k := (hr.out.below HJ.out hr.out.lt).cell 4
      simp at k
      refine wpOp_plain rfl rfl ?_
      go_simp
      exact Left.mk0 (.slice o2 vals.length c2) (by first | rfl | simp [updF, *]) HJ.out rfl
    · -- 17: Op.call { value (Operand.func 46), args := #[t22], argTypes 
      intro σ W HJ hdep
      simp [Region.binds] at hdep
      have HJ := hid HJ
      refine wpOp_plain rfl rfl ?_
      go_simp
      refine (textC o2 vals.length c2 W).mono ?_
      rintro e w2 ⟨rfl, hb2⟩
      exact Left.mk (.agg #[.int .i64 2, .int .u64 0, .slice o2 vals.length c2]) (by first | rfl | simp [updF, *]) hb2 HJ.out rfl
    · -- 18: Op.fieldAddr 25 t1 5
      intro σ W HJ hdep
      simp [Region.binds] at hdep
      have HJ := hid HJ
      refine wpOp_plain rfl rfl ?_
      go_simp
      exact Left.mk0 (.pointer (some ⟨g, 5, none⟩)) (by first | rfl | simp [updF, *]) HJ.out rfl
    · -- 19: Op.load 23 t24
      intro σ W HJ hdep
      simp [Region.binds] at hdep
      have HJ := hid HJ
      have k := (hr.out.below HJ.out hr.out.lt).cell 5
      simp at k
      refine wpOp_plain rfl rfl ?_
      go_simp
      exact Left.mk0 (.slice o3 next.length c3) (by first | rfl | simp [updF, *]) HJ.out rfl
    · -- 20: Op.call { value (Operand.func 46), args := #[t25], argTypes 
      intro σ W HJ hdep
      simp [Region.binds] at hdep
      have HJ := hid HJ
      refine wpOp_plain rfl rfl ?_
      go_simp
      refine (textC o3 next.length c3 W).mono ?_
      rintro e w2 ⟨rfl, hb2⟩
      exact Left.mk (.agg #[.int .i64 2, .int .u64 0, .slice o3 next.length c3]) (by first | rfl | simp [updF, *]) hb2 HJ.out rfl
    · -- 21: Op.buildSlice 67 6 #[(0, t9), (1, t13), (2, t17), (3, t20), 
      intro σ W HJ hdep
      simp [Region.binds] at hdep
      have HJ := hid HJ
      obtain ⟨⟨o, n, c, e3, hb3⟩, e7, e11, e14, e17, e20⟩ := hdep
      have HB3 := hid hb3
      clear hb3
      have hbn : Below W.heap.size W (W.alloc (.cells #[.int .i64 2, .int .u64 0, .slice o n c, .int .i64 1, .int .u64 (ht : Int), .slice none 0 0, .int .i64 1, .int .u64 (tm : Int), .slice none 0 0, .int .i64 2, .int .u64 0, .slice o1 root.length c1, .int .i64 2, .int .u64 0, .slice o2 vals.length c2, .int .i64 2, .int .u64 0, .slice o3 next.length c3] 91)) := (Below.refl _ _).alloc (Nat.le_refl _) _
      have HBN := hid hbn
      clear hbn
      refine wpOp_plain rfl rfl ?_
      go_simp
      refine Left.mk (.slice (some ⟨W.heap.size, 0, none⟩) 6 6) (by first | rfl | simp [updF, *]) HBN.out HJ.out ?_
      exact pieces_new W 91 [(⟨2, 0, lets ch⟩, .slice o n c), (⟨1, ht, []⟩, .slice none 0 0), (⟨1, tm, []⟩, .slice none 0 0), (⟨2, 0, root⟩, .slice o1 root.length c1), (⟨2, 0, vals⟩, .slice o2 vals.length c2), (⟨2, 0, next⟩, .slice o3 next.length c3)] (by
        intro q hq
        simp at hq
        rcases hq with rfl | rfl | rfl | rfl | rfl | rfl
        · exact HB3.out
        · exact .inl ⟨rfl, rfl⟩
        · exact .inl ⟨rfl, rfl⟩
        · exact (b1.out.below HJ.out).mono HJ.out.size
        · exact (b2.out.below HJ.out).mono HJ.out.size
        · exact (b3.out.below HJ.out).mono HJ.out.size)
    · -- 22: Op.call { value (Operand.func 41), args := #[t27], argTypes 
      intro σ W HJ hdep
      simp [Region.binds] at hdep
      have HJ := hid HJ
      have HC := hid (write_any _ (σ 21) W.heap.size W hdep.1 (Nat.le_refl _) (by simp) hfit.out)
      clear hdep
      refine wpOp_plain rfl rfl ?_
      go_simp
      refine HC.out.mono ?_
      rintro e w2 ⟨hb2, h2⟩
      have h3 : ∃ v, e = .returned (.tuple #[v, okV]) ∧ OwnB w2 W.heap.size v x := by
        rcases h2 with ⟨x2, v, hx2, he, ho⟩ | ⟨c, i, hx2, _⟩
        · rw [hx.out] at hx2; cases hx2; exact ⟨v, he, ho⟩
        · rw [hx.out] at hx2; cases hx2
      obtain ⟨v, rfl, ho⟩ := h3
      exact Left.mk (.tuple #[v, .agg #[.int .i64 0, .int .i64 0]]) (by first | rfl | simp [updF, *]) hb2 HJ.out ⟨v, rfl, ho.bytes⟩
    · -- 23: Op.move t28
      intro σ W HJ hdep
      simp [Region.binds] at hdep
      have HJ := hid HJ
      obtain ⟨v, e1, h2⟩ := hdep
      have H2 := hid h2
      clear h2
      refine wpOp_plain rfl rfl ?_
      go_simp
      exact Left.mk0 (.tuple #[v, .agg #[.int .i64 0, .int .i64 0]]) (by first | rfl | simp [updF, *]) HJ.out ⟨v, rfl, H2.out⟩
    · -- 24: Op.extract t5 0
      intro σ W HJ hdep
      simp [Region.binds] at hdep
      have HJ := hid HJ
      obtain ⟨v, e1, h2⟩ := hdep
      have H2 := hid h2
      clear h2
      refine wpOp_plain rfl rfl ?_
      go_simp
      exact Left.mk0 v (by first | rfl | simp [updF, *]) HJ.out H2.out
    · -- 25: Op.extract t5 1
      intro σ W HJ hdep
      simp [Region.binds] at hdep
      have HJ := hid HJ
      obtain ⟨v, e1, h2⟩ := hdep
      clear h2
      refine wpOp_plain rfl rfl ?_
      go_simp
      exact Left.mk0 (.agg #[.int .i64 0, .int .i64 0]) (by first | rfl | simp [updF, *]) HJ.out rfl
    · -- 26: Op.alloc 72
      intro σ W HJ hdep
      simp [Region.binds] at hdep
      have HJ := hid HJ
      refine wpOp_plain rfl rfl ?_
      go_simp
      exact Left.mk (.pointer (some ⟨W.heap.size, 0, none⟩)) (by first | rfl | simp [updF, *]) ((Below.refl _ _).alloc (Nat.le_refl _) _) HJ.out ⟨W.heap.size, rfl, Row.new _ _ _⟩
    · -- 27: Op.assign t29
      intro σ W HJ hdep
      simp [Region.binds] at hdep
      have HJ := hid HJ
      have HD := hid hdep.1
      clear hdep
      refine wpOp_plain rfl rfl ?_
      go_simp
      exact Left.mk0 (σ 24) (by first | rfl | simp [updF, *]) HJ.out HD.out
    · -- 28: Op.store 72 t4 t30
      intro σ W HJ hdep
      simp [Region.binds] at hdep
      have HJ := hid HJ
      obtain ⟨⟨k, e1, hrow⟩, e2⟩ := hdep
      obtain ⟨q0, q1, z0, z1⟩ := hrow.two
      have s0 := setCell_same hrow (i := 0) rfl
      have s1 := setCell_same hrow (i := 1) rfl
      clear hrow
      refine wpOp_plain rfl rfl ?_
      go_simp
      exact Left.mk0 undef (by first | rfl | simp [updF, *]) HJ.out trivial
  · intro σ w' hb hg
    exact hQ.out σ w' hb (by first | exact ⟨hg 27 (by decide)⟩ | exact hg 27 (by decide))
set_option maxRecDepth 100000 in
set_option maxHeartbeats 2000000 in
theorem bytesC : BytesC 25 := by
  intro h v N w hv hN hw
  obtain ⟨⟨_, f1, f2⟩, ⟨f3, f4, f5, f6⟩, f7, f8, f9⟩ := wrongH_ok hw
  have HX := hid (wrAll_head h hw)
  have HFIT := hid (show ∀ p ∈ hPieces h, p.fits from hPieces_fits h hw)
  obtain ⟨rv, vv, nv, rfl, h1, h2, h3⟩ := hv
  obtain ⟨o1, c1, rfl, _⟩ := h1.shape
  obtain ⟨o2, c2, rfl, _⟩ := h2.shape
  obtain ⟨o3, c3, rfl, _⟩ := h3.shape
  obtain ⟨ch, hh, tt, root, vals, next⟩ := h
  simp only at f1 f2 f3 f4 f5 f6 f7 f8 f9 h1 h2 h3
  obtain ⟨ht, rfl⟩ : ∃ n : Nat, hh = (n : Int) := ⟨hh.toNat, by omega⟩
  obtain ⟨tm, rfl⟩ : ∃ n : Nat, tt = (n : Int) := ⟨tt.toNat, by omega⟩
  obtain ⟨w0, hw0⟩ : ∃ w0, w.alloc (.cells #[.string ch, .int .i64 (ht : Int), .int .i64 (tm : Int), .slice o1 root.length c1, .slice o2 vals.length c2, .slice o3 next.length c3] 25) = w0 := ⟨_, rfl⟩
  have hb0 : Below w.heap.size w w0 := by rw [← hw0]; exact (Below.refl _ _).alloc (Nat.le_refl _) _
  have HB0 := hid hb0
  have HR0 := hid (show Row w0 w.heap.size 25 [.string ch, .int .i64 (ht : Int), .int .i64 (tm : Int), .slice o1 root.length c1, .slice o2 vals.length c2, .slice o3 next.length c3] by rw [← hw0]; exact Row.new _ _ _)
  have H1 := hid ((h1.below (hb0.mono hN)).mono (Nat.le_trans hN hb0.size))
  have H2 := hid ((h2.below (hb0.mono hN)).mono (Nat.le_trans hN hb0.size))
  have H3 := hid ((h3.below (hb0.mono hN)).mono (Nat.le_trans hN hb0.size))
  clear h1 h2 h3 hb0 hw f7 f8 f9
  go_enter Tryd.func25, Tryd.ntmps25
  go_wp2_with fail
  refine bytesRegion ch ht tm root vals next _ o1 o2 o3 c1 c2 c3 HR0 (by omega) (by omega) H1 H2 H3 HX HFIT _ (hid ?_)
  intro σ w1 hb1 hx
  have HB1 := hid hb1
  have HXX := hid hx
  clear hb1 hx HX HFIT hw0
  go_wp2
  go_ret
  exact ⟨_, rfl, HXX.out, HB0.out.trans (HB1.out.mono HB0.out.size)⟩
end Go.Proofs.YtfpngilmdgeikaaDoor
