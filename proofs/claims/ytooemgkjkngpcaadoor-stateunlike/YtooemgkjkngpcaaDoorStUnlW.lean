/-
  StateUnlike returns true, whatever two states read as.
-/
import Derived.Test.YtooemgkjkngpcaaDoorStBare
import Derived.Test.YtooemgkjkngpcaaDoorStSameS
import Derived.Test.YtooemgkjkngpcaaDoorStAlive
import Derived.Test.YtooemgkjkngpcaaDoorStBookW
import Derived.Test.YtooemgkjkngpcaaDoorRef4P
import Derived.Test.YtooemgkjkngpcaaDoorRegions
namespace Go.Proofs.YtooemgkjkngpcaaDoor
open Go.RowKit

set_option maxRecDepth 100000 in
set_option maxHeartbeats 4000000 in
theorem unlikeRegion {y0 y1 y6 y8 y10 y11 y12 y13 y14 y15 y16 y17 y18 y19 y20 y21 y22 y23 y24 y25 y26 y27 z4 z28 z29 z30 z31 z32 z33 z34 z35 z36 z37 z38 : Value} {gs gt N M : Nat} (s t : St) (b0 : Bool) (oA oB o1 o2 o3 o4 o5 o6 o7 p1 p2 p3 p4 p5 p6 p7 : Option Addr) (nA cA nB cB c1 c2 c3 c4 c5 c6 c7 d1 d2 d3 d4 d5 d6 d7 : Nat) {w : World} (hN : N ≤ w.heap.size) (hM : M ≤ w.heap.size) (hrs : Hid (Row w gs 28 [.string s.name, .int .i64 s.height, .int .i64 s.time, .slice o1 s.clients.length c1, .slice o2 s.conns.length c2, .slice o3 s.chans.length c3, .slice o4 s.sent.length c4, .slice o5 s.got.length c5, .slice o6 s.acks.length c6, .slice o7 s.purses.length c7])) (hrt : Hid (Row w gt 28 [.string t.name, .int .i64 t.height, .int .i64 t.time, .slice p1 t.clients.length d1, .slice p2 t.conns.length d2, .slice p3 t.chans.length d3, .slice p4 t.sent.length d4, .slice p5 t.got.length d5, .slice p6 t.acks.length d6, .slice p7 t.purses.length d7])) (hms : Hid (StMem w N s (.slice o1 s.clients.length c1) (.slice o2 s.conns.length c2) (.slice o3 s.chans.length c3) (.slice o4 s.sent.length c4) (.slice o5 s.got.length c5) (.slice o6 s.acks.length c6) (.slice o7 s.purses.length c7))) (hmt : Hid (StMem w N t (.slice p1 t.clients.length d1) (.slice p2 t.conns.length d2) (.slice p3 t.chans.length d3) (.slice p4 t.sent.length d4) (.slice p5 t.got.length d5) (.slice p6 t.acks.length d6) (.slice p7 t.purses.length d7))) (hS : Hid (Right s)) (hT : Hid (Right t)) (hfs : Hid s.fits) (hft : Hid t.fits) (hpa : Hid (Pairs w M (.slice oA nA cA) (bookS s))) (hpb : Hid (Pairs w M (.slice oB nB cB) (bookS t))) (hb0 : Hid (b0 = true ↔ bookS s = bookS t)) (Q : Exit → Act → World → Prop)
    (hQ : Hid (∀ (σ : Nat → Value) (w' : World), Below w.heap.size w w' → /-11-/ σ 11 = .bool true → Q .normal ⟨#[y0, y1, .pointer (some ⟨gs, 0, none⟩), .pointer (some ⟨gt, 0, none⟩), σ 11, .slice oA nA cA, y6, .slice oB nB cB, y8, .func (.func 9) #[] #[], y10, y11, y12, y13, y14, y15, y16, y17, y18, y19, y20, y21, y22, y23, y24, y25, y26, y27, σ 0, σ 1, σ 2, σ 3, σ 4, σ 5, σ 6, σ 7, σ 8, σ 9, σ 10], []⟩ w')) :
    Code.wp Tryd.prog (.region 8 ((Tryd.f4.body.bind (regOf 8)).getD #[]) true) Q ⟨#[y0, y1, .pointer (some ⟨gs, 0, none⟩), .pointer (some ⟨gt, 0, none⟩), z4, .slice oA nA cA, y6, .slice oB nB cB, y8, .func (.func 9) #[] #[], y10, y11, y12, y13, y14, y15, y16, y17, y18, y19, y20, y21, y22, y23, y24, y25, y26, y27, z28, z29, z30, z31, z32, z33, z34, z35, z36, z37, z38], []⟩ w := by
  conv => arg 2; arg 2; whnf
  conv => arg 4; dsimp only
  refine region_grows (by kernel_rfl) (fun σ => #[y0, y1, .pointer (some ⟨gs, 0, none⟩), .pointer (some ⟨gt, 0, none⟩), σ 11, .slice oA nA cA, y6, .slice oB nB cB, y8, .func (.func 9) #[] #[], y10, y11, y12, y13, y14, y15, y16, y17, y18, y19, y20, y21, y22, y23, y24, y25, y26, y27, σ 0, σ 1, σ 2, σ 3, σ 4, σ 5, σ 6, σ 7, σ 8, σ 9, σ 10]) (fun i => ([z28, z29, z30, z31, z32, z33, z34, z35, z36, z37, z38, z4] : List Value).getD i undef) rfl (fun i X W => match i with
    | 0 => X = .slice oA nA cA
    | 1 => X = .slice oB nB cB
    | 2 => X = .bool b0
    | 3 => X = .func (.func 9) #[] #[]
    | 4 => X = .agg #[.string s.name, .int .i64 s.height, .int .i64 s.time, .slice o1 s.clients.length c1, .slice o2 s.conns.length c2, .slice o3 s.chans.length c3, .slice o4 s.sent.length c4, .slice o5 s.got.length c5, .slice o6 s.acks.length c6, .slice o7 s.purses.length c7]
    | 5 => ∃ o8 c8, X = .agg #[.string ⟨#[]⟩, .int .i64 0, .int .i64 0, .slice none 0 0, .slice o2 s.conns.length c2, .slice o8 s.chans.length c8, .slice o4 s.sent.length c4, .slice o5 s.got.length c5, .slice o6 s.acks.length c6, .slice none 0 0] ∧ BareM W W.heap.size s (.slice o2 s.conns.length c2) (.slice o8 s.chans.length c8) (.slice o4 s.sent.length c4) (.slice o5 s.got.length c5) (.slice o6 s.acks.length c6)
    | 6 => X = .func (.func 9) #[] #[]
    | 7 => X = .agg #[.string t.name, .int .i64 t.height, .int .i64 t.time, .slice p1 t.clients.length d1, .slice p2 t.conns.length d2, .slice p3 t.chans.length d3, .slice p4 t.sent.length d4, .slice p5 t.got.length d5, .slice p6 t.acks.length d6, .slice p7 t.purses.length d7]
    | 8 => ∃ o8 c8, X = .agg #[.string ⟨#[]⟩, .int .i64 0, .int .i64 0, .slice none 0 0, .slice p2 t.conns.length d2, .slice o8 t.chans.length c8, .slice p4 t.sent.length d4, .slice p5 t.got.length d5, .slice p6 t.acks.length d6, .slice none 0 0] ∧ BareM W W.heap.size t (.slice p2 t.conns.length d2) (.slice o8 t.chans.length c8) (.slice p4 t.sent.length d4) (.slice p5 t.got.length d5) (.slice p6 t.acks.length d6)
    | 9 => X = .bool b0
    | 10 => X = .bool true
    | 11 => X = .bool true
    | _ => True) ?_ (by kernel_rfl) ?_ ?_
  · intro i X W W' HB H
    match i, H with
    | 0, H => exact H
    | 1, H => exact H
    | 2, H => exact H
    | 3, H => exact H
    | 4, H => exact H
    | 5, H => exact (by obtain ⟨o8, c8, e, hm⟩ := H; exact ⟨o8, c8, e, (hm.below HB).mono HB.size⟩)
    | 6, H => exact H
    | 7, H => exact H
    | 8, H => exact (by obtain ⟨o8, c8, e, hm⟩ := H; exact ⟨o8, c8, e, (hm.below HB).mono HB.size⟩)
    | 9, H => exact H
    | 10, H => exact H
    | 11, H => exact H
    | _ + 12, _ => exact trivial
  · refine ⟨?_, ?_, ?_, ?_, ?_, ?_, ?_, ?_, ?_, ?_, ?_, ?_, trivial⟩
    · -- 0: Op.move t5
      intro σ W HJ hdep
      simp [Region.binds] at hdep
      have HJ := hid HJ
      refine wpOp_plain rfl rfl ?_
      go_simp
      exact Left.mk0 (.slice oA nA cA) (by first | rfl | simp [updF, *]) HJ.out rfl
    · -- 1: Op.move t7
      intro σ W HJ hdep
      simp [Region.binds] at hdep
      have HJ := hid HJ
      refine wpOp_plain rfl rfl ?_
      go_simp
      exact Left.mk0 (.slice oB nB cB) (by first | rfl | simp [updF, *]) HJ.out rfl
    · -- 2: Op.call { value (Operand.func 10), args := #[t28, t29], argT
      intro σ W HJ hdep
      simp [Region.binds] at hdep
      have HJ := hid HJ
      have HC := hid (samePr_any (bookS s) (bookS t) (.slice oA nA cA) (.slice oB nB cB) M M W (hpa.out.below (HJ.out.mono hM)) (hpb.out.below (HJ.out.mono hM)) (by rw [book_len hS.out]; have := hS.out.many; omega) (book_fit hS.out) (book_fit hT.out))
      refine wpOp_plain rfl rfl ?_
      go_simp
      refine HC.out.mono ?_
      rintro e w2 ⟨bb, rfl, hbb, nq, rfl⟩
      obtain rfl : bb = b0 := by rw [Bool.eq_iff_iff, hbb, hb0.out]
      exact Left.mk (.bool bb) (by first | rfl | simp [updF, *]) (below_drewH W nq _) HJ.out rfl
    · -- 3: Op.move t9
      intro σ W HJ hdep
      simp [Region.binds] at hdep
      have HJ := hid HJ
      refine wpOp_plain rfl rfl ?_
      go_simp
      exact Left.mk0 (.func (.func 9) #[] #[]) (by first | rfl | simp [updF, *]) HJ.out rfl
    · -- 4: Op.load 28 t2
      intro σ W HJ hdep
      simp [Region.binds] at hdep
      have HJ := hid HJ
      have k0 := (hrs.out.below HJ.out hrs.out.lt).cell 0
      have k1 := (hrs.out.below HJ.out hrs.out.lt).cell 1
      have k2 := (hrs.out.below HJ.out hrs.out.lt).cell 2
      have k3 := (hrs.out.below HJ.out hrs.out.lt).cell 3
      have k4 := (hrs.out.below HJ.out hrs.out.lt).cell 4
      have k5 := (hrs.out.below HJ.out hrs.out.lt).cell 5
      have k6 := (hrs.out.below HJ.out hrs.out.lt).cell 6
      have k7 := (hrs.out.below HJ.out hrs.out.lt).cell 7
      have k8 := (hrs.out.below HJ.out hrs.out.lt).cell 8
      have k9 := (hrs.out.below HJ.out hrs.out.lt).cell 9
      simp at k0
      simp at k1
      simp at k2
      simp at k3
      simp at k4
      simp at k5
      simp at k6
      simp at k7
      simp at k8
      simp at k9
      refine wpOp_plain rfl rfl ?_
      go_simp
      exact Left.mk0 (.agg #[.string s.name, .int .i64 s.height, .int .i64 s.time, .slice o1 s.clients.length c1, .slice o2 s.conns.length c2, .slice o3 s.chans.length c3, .slice o4 s.sent.length c4, .slice o5 s.got.length c5, .slice o6 s.acks.length c6, .slice o7 s.purses.length c7]) (by first | rfl | simp [updF, *]) HJ.out rfl
    · -- 5: Op.call { value t31, args := #[t32], argTypes := #[28] }
      intro σ W HJ hdep
      simp [Region.binds] at hdep
      have HJ := hid HJ
      have e3 : σ 3 = .func (.func 9) #[] #[] := by first | exact hdep.1 | exact hdep.2.1 | exact hdep.2.2
      have e4 : σ 4 = .agg #[.string s.name, .int .i64 s.height, .int .i64 s.time, .slice o1 s.clients.length c1, .slice o2 s.conns.length c2, .slice o3 s.chans.length c3, .slice o4 s.sent.length c4, .slice o5 s.got.length c5, .slice o6 s.acks.length c6, .slice o7 s.purses.length c7] := by first | exact hdep.2.1 | exact hdep.1 | exact hdep.2.2 | exact hdep.2
      have HC := hid (bare_any s N W (Nat.le_trans hN HJ.out.size) o1 o2 o3 o4 o5 o6 o7 c1 c2 c3 c4 c5 c6 c7 (hms.out.below (HJ.out.mono hN)) hS.out.many.2.1)
      clear hdep
      refine wpOp_plain rfl rfl ?_
      go_simp
      refine HC.out.mono ?_
      rintro e w2 ⟨hb2, o8, c8, rfl, hm⟩
      exact Left.mk _ (by first | rfl | simp [updF, *]) hb2 HJ.out ⟨o8, c8, rfl, hm⟩
    · -- 6: Op.move t9
      intro σ W HJ hdep
      simp [Region.binds] at hdep
      have HJ := hid HJ
      refine wpOp_plain rfl rfl ?_
      go_simp
      exact Left.mk0 (.func (.func 9) #[] #[]) (by first | rfl | simp [updF, *]) HJ.out rfl
    · -- 7: Op.load 28 t3
      intro σ W HJ hdep
      simp [Region.binds] at hdep
      have HJ := hid HJ
      have k0 := (hrt.out.below HJ.out hrt.out.lt).cell 0
      have k1 := (hrt.out.below HJ.out hrt.out.lt).cell 1
      have k2 := (hrt.out.below HJ.out hrt.out.lt).cell 2
      have k3 := (hrt.out.below HJ.out hrt.out.lt).cell 3
      have k4 := (hrt.out.below HJ.out hrt.out.lt).cell 4
      have k5 := (hrt.out.below HJ.out hrt.out.lt).cell 5
      have k6 := (hrt.out.below HJ.out hrt.out.lt).cell 6
      have k7 := (hrt.out.below HJ.out hrt.out.lt).cell 7
      have k8 := (hrt.out.below HJ.out hrt.out.lt).cell 8
      have k9 := (hrt.out.below HJ.out hrt.out.lt).cell 9
      simp at k0
      simp at k1
      simp at k2
      simp at k3
      simp at k4
      simp at k5
      simp at k6
      simp at k7
      simp at k8
      simp at k9
      refine wpOp_plain rfl rfl ?_
      go_simp
      exact Left.mk0 (.agg #[.string t.name, .int .i64 t.height, .int .i64 t.time, .slice p1 t.clients.length d1, .slice p2 t.conns.length d2, .slice p3 t.chans.length d3, .slice p4 t.sent.length d4, .slice p5 t.got.length d5, .slice p6 t.acks.length d6, .slice p7 t.purses.length d7]) (by first | rfl | simp [updF, *]) HJ.out rfl
    · -- 8: Op.call { value t34, args := #[t35], argTypes := #[28] }
      intro σ W HJ hdep
      simp [Region.binds] at hdep
      have HJ := hid HJ
      have e3 : σ 6 = .func (.func 9) #[] #[] := by first | exact hdep.1 | exact hdep.2.1 | exact hdep.2.2
      have e4 : σ 7 = .agg #[.string t.name, .int .i64 t.height, .int .i64 t.time, .slice p1 t.clients.length d1, .slice p2 t.conns.length d2, .slice p3 t.chans.length d3, .slice p4 t.sent.length d4, .slice p5 t.got.length d5, .slice p6 t.acks.length d6, .slice p7 t.purses.length d7] := by first | exact hdep.2.1 | exact hdep.1 | exact hdep.2.2 | exact hdep.2
      have HC := hid (bare_any t N W (Nat.le_trans hN HJ.out.size) p1 p2 p3 p4 p5 p6 p7 d1 d2 d3 d4 d5 d6 d7 (hmt.out.below (HJ.out.mono hN)) hT.out.many.2.1)
      clear hdep
      refine wpOp_plain rfl rfl ?_
      go_simp
      refine HC.out.mono ?_
      rintro e w2 ⟨hb2, o8, c8, rfl, hm⟩
      exact Left.mk _ (by first | rfl | simp [updF, *]) hb2 HJ.out ⟨o8, c8, rfl, hm⟩
    · -- 9: Op.call { value (Operand.func 11), args := #[t33, t36], argT
      intro σ W HJ hdep
      simp [Region.binds] at hdep
      have HJ := hid HJ
      obtain ⟨o8, c8, e5, m5⟩ : ∃ o8 c8, σ 5 = .agg #[.string ⟨#[]⟩, .int .i64 0, .int .i64 0, .slice none 0 0, .slice o2 s.conns.length c2, .slice o8 s.chans.length c8, .slice o4 s.sent.length c4, .slice o5 s.got.length c5, .slice o6 s.acks.length c6, .slice none 0 0] ∧ BareM W W.heap.size s (.slice o2 s.conns.length c2) (.slice o8 s.chans.length c8) (.slice o4 s.sent.length c4) (.slice o5 s.got.length c5) (.slice o6 s.acks.length c6) := by first | exact hdep.1 | exact hdep.2.1
      obtain ⟨p8, d8, e8, m8⟩ : ∃ o8 c8, σ 8 = .agg #[.string ⟨#[]⟩, .int .i64 0, .int .i64 0, .slice none 0 0, .slice p2 t.conns.length d2, .slice o8 t.chans.length c8, .slice p4 t.sent.length d4, .slice p5 t.got.length d5, .slice p6 t.acks.length d6, .slice none 0 0] ∧ BareM W W.heap.size t (.slice p2 t.conns.length d2) (.slice o8 t.chans.length c8) (.slice p4 t.sent.length d4) (.slice p5 t.got.length d5) (.slice p6 t.acks.length d6) := by first | exact hdep.2.1 | exact hdep.2 | exact hdep.2.2
      have HC := hid (sameS_any s t o2 o8 o4 o5 o6 p2 p8 p4 p5 p6 c2 c8 c4 c5 c6 d2 d8 d4 d5 d6 W.heap.size W (Nat.le_refl _) m5 m8 (by have := hS.out.many; omega) (by have := hS.out.many; omega) (by have := hS.out.many; omega) (by have := hS.out.many; omega) (by have := hS.out.many; omega) hfs.out.2.2.2.2.1.2 hfs.out.2.2.2.2.2.1.2 hfs.out.2.2.2.2.2.2.1.2 hft.out.2.2.2.2.1.2 hft.out.2.2.2.2.2.1.2 hft.out.2.2.2.2.2.2.1.2)
      clear hdep m5 m8
      refine wpOp_plain rfl rfl ?_
      go_simp
      refine HC.out.mono ?_
      rintro e w2 ⟨bb, rfl, hbb, hb2⟩
      obtain rfl : bb = b0 := by rw [Bool.eq_iff_iff, hbb, hb0.out, book_alike hS.out hT.out]
      exact Left.mk (.bool bb) (by first | rfl | simp [updF, *]) hb2 HJ.out rfl
    · -- 10: Op.binOp BinOp.eql 4 t30 t37 4
      intro σ W HJ hdep
      simp [Region.binds] at hdep
      have HJ := hid HJ
      obtain ⟨u1, u2⟩ : σ 2 = .bool b0 ∧ σ 9 = .bool b0 := by first | exact hdep | exact ⟨hdep.1, hdep.2.1⟩
      have eb : (b0 == b0) = true := by simp
      refine wpOp_plain rfl rfl ?_
      go_simp
      exact Left.mk0 (.bool true) (by first | rfl | simp [updF, *]) HJ.out rfl
    · -- 11: Op.assign t38
      intro σ W HJ hdep
      simp [Region.binds] at hdep
      have HJ := hid HJ
      refine wpOp_plain rfl rfl ?_
      go_simp
      exact Left.mk0 (.bool true) (by first | rfl | simp [updF, *]) HJ.out rfl
  · intro σ w' hb hg
    exact hQ.out σ w' hb (by first | exact ⟨hg 11 (by decide)⟩ | exact hg 11 (by decide))
set_option maxRecDepth 100000 in
set_option maxHeartbeats 8000000 in
theorem stateUnlike_any (s t : St) (v u : Value) (N : Nat) (w : World) (hpow : powAt w) (hN : N ≤ w.heap.size) (hv : StV w N v s) (hu : StV w N u t) (hfs : s.fits) (hft : t.fits) :
    Calls Tryd.prog 4 #[v, u] w fun e w' => e = .returned (.bool true) ∧ Below w.heap.size w w' := by
  have HBS := hid (show ∀ wx, Below w.heap.size w wx → _ from fun wx hx => stBookC s v N wx (hv.below (hx.mono hN)) (Nat.le_trans hN hx.size) hfs (hpow.below hx))
  have HBT := hid (show ∀ wx, Below w.heap.size w wx → _ from fun wx hx => stBookC t u N wx (hu.below (hx.mono hN)) (Nat.le_trans hN hx.size) hft (hpow.below hx))
  have HFS := hid hfs
  have HFT := hid hft
  obtain ⟨o1, c1, o2, c2, o3, c3, o4, c4, o5, c5, o6, c6, o7, c7, rfl, hms⟩ := hv.open
  obtain ⟨p1, d1, p2, d2, p3, d3, p4, d4, p5, d5, p6, d6, p7, d7, rfl, hmt⟩ := hu.open
  obtain ⟨w0, hw0⟩ : ∃ w0, (w.alloc (.cells #[.string s.name, .int .i64 s.height, .int .i64 s.time, .slice o1 s.clients.length c1, .slice o2 s.conns.length c2, .slice o3 s.chans.length c3, .slice o4 s.sent.length c4, .slice o5 s.got.length c5, .slice o6 s.acks.length c6, .slice o7 s.purses.length c7] 28)).alloc (.cells #[.string t.name, .int .i64 t.height, .int .i64 t.time, .slice p1 t.clients.length d1, .slice p2 t.conns.length d2, .slice p3 t.chans.length d3, .slice p4 t.sent.length d4, .slice p5 t.got.length d5, .slice p6 t.acks.length d6, .slice p7 t.purses.length d7] 28) = w0 := ⟨_, rfl⟩
  have hb0 : Below w.heap.size w w0 := by rw [← hw0]; exact ((Below.refl _ _).alloc (Nat.le_refl _) _).alloc (by simp) _
  have HB0 := hid hb0
  have HRS0 := hid (show Row w0 w.heap.size 28 [.string s.name, .int .i64 s.height, .int .i64 s.time, .slice o1 s.clients.length c1, .slice o2 s.conns.length c2, .slice o3 s.chans.length c3, .slice o4 s.sent.length c4, .slice o5 s.got.length c5, .slice o6 s.acks.length c6, .slice o7 s.purses.length c7] by rw [← hw0]; exact (Row.new _ _ _).alloc _)
  have HRT0 := hid (show Row w0 (w.heap.size + 1) 28 [.string t.name, .int .i64 t.height, .int .i64 t.time, .slice p1 t.clients.length d1, .slice p2 t.conns.length d2, .slice p3 t.chans.length d3, .slice p4 t.sent.length d4, .slice p5 t.got.length d5, .slice p6 t.acks.length d6, .slice p7 t.purses.length d7] by rw [← hw0]; exact Row.newAt _ _ _ _ (by simp))
  have HAL := hid (alive8_any w0 (hpow.below hb0))
  have HMS := hid hms
  have HMT := hid hmt
  have HW0 := hid hw0
  clear hv hu hpow hfs hft hw0 hb0 hms hmt
  go_enter Tryd.func4, Tryd.ntmps4
  go_upto_region 1 with fail
  rw [HW0.out]
  go_wp2_with fail
  refine HAL.out.mono ?_
  rintro e w1 ⟨rfl, hb1⟩
  have HB1 := hid (HB0.out.trans (hb1.mono HB0.out.size))
  have HRS1 := hid (HRS0.out.below hb1 HRS0.out.lt)
  have HRT1 := hid (HRT0.out.below hb1 HRT0.out.lt)
  clear hb1
  have k0 : w1.cell? ⟨w.heap.size, 0, none⟩ = some (.string s.name) := HRS1.out.cell 0
  have k1 : w1.cell? ⟨w.heap.size, 1, none⟩ = some (.int .i64 s.height) := HRS1.out.cell 1
  have k2 : w1.cell? ⟨w.heap.size, 2, none⟩ = some (.int .i64 s.time) := HRS1.out.cell 2
  have k3 : w1.cell? ⟨w.heap.size, 3, none⟩ = some (.slice o1 s.clients.length c1) := HRS1.out.cell 3
  have k4 : w1.cell? ⟨w.heap.size, 4, none⟩ = some (.slice o2 s.conns.length c2) := HRS1.out.cell 4
  have k5 : w1.cell? ⟨w.heap.size, 5, none⟩ = some (.slice o3 s.chans.length c3) := HRS1.out.cell 5
  have k6 : w1.cell? ⟨w.heap.size, 6, none⟩ = some (.slice o4 s.sent.length c4) := HRS1.out.cell 6
  have k7 : w1.cell? ⟨w.heap.size, 7, none⟩ = some (.slice o5 s.got.length c5) := HRS1.out.cell 7
  have k8 : w1.cell? ⟨w.heap.size, 8, none⟩ = some (.slice o6 s.acks.length c6) := HRS1.out.cell 8
  have k9 : w1.cell? ⟨w.heap.size, 9, none⟩ = some (.slice o7 s.purses.length c7) := HRS1.out.cell 9
  go_wp2_with fail
  refine (HBS.out _ HB1.out).mono ?_
  rintro e w2 ⟨hb2, oA, nA, cA, rfl, hpa⟩
  have HB2 := hid (HB1.out.trans (hb2.mono HB1.out.size))
  have HRS2 := hid (HRS1.out.below hb2 HRS1.out.lt)
  have HRT2 := hid (HRT1.out.below hb2 HRT1.out.lt)
  have HPA := hid hpa
  clear hb2 hpa k0 k1 k2 k3 k4 k5 k6 k7 k8 k9
  have j0 : w2.cell? ⟨w.heap.size + 1, 0, none⟩ = some (.string t.name) := HRT2.out.cell 0
  have j1 : w2.cell? ⟨w.heap.size + 1, 1, none⟩ = some (.int .i64 t.height) := HRT2.out.cell 1
  have j2 : w2.cell? ⟨w.heap.size + 1, 2, none⟩ = some (.int .i64 t.time) := HRT2.out.cell 2
  have j3 : w2.cell? ⟨w.heap.size + 1, 3, none⟩ = some (.slice p1 t.clients.length d1) := HRT2.out.cell 3
  have j4 : w2.cell? ⟨w.heap.size + 1, 4, none⟩ = some (.slice p2 t.conns.length d2) := HRT2.out.cell 4
  have j5 : w2.cell? ⟨w.heap.size + 1, 5, none⟩ = some (.slice p3 t.chans.length d3) := HRT2.out.cell 5
  have j6 : w2.cell? ⟨w.heap.size + 1, 6, none⟩ = some (.slice p4 t.sent.length d4) := HRT2.out.cell 6
  have j7 : w2.cell? ⟨w.heap.size + 1, 7, none⟩ = some (.slice p5 t.got.length d5) := HRT2.out.cell 7
  have j8 : w2.cell? ⟨w.heap.size + 1, 8, none⟩ = some (.slice p6 t.acks.length d6) := HRT2.out.cell 8
  have j9 : w2.cell? ⟨w.heap.size + 1, 9, none⟩ = some (.slice p7 t.purses.length d7) := HRT2.out.cell 9
  go_wp2_with fail
  refine (HBT.out _ HB2.out).mono ?_
  rintro e w3 ⟨hb3, oB, nB, cB, rfl, hpb⟩
  have HB3 := hid (HB2.out.trans (hb3.mono HB2.out.size))
  have HRS3 := hid (HRS2.out.below hb3 HRS2.out.lt)
  have HRT3 := hid (HRT2.out.below hb3 HRT2.out.lt)
  have HPA3 := hid ((HPA.out.below hb3).mono hb3.size)
  have HPB := hid hpb
  clear hb3 hpb j0 j1 j2 j3 j4 j5 j6 j7 j8 j9
  by_cases hz : wrongS s = 0
  · have HZ := hid hz
    have HS := hid (wrongS_right hz)
    by_cases hy : wrongS t = 0
    · have HY := hid hy
      have HT := hid (wrongS_right hy)
      rw [HZ.out, HY.out]
      have HPA4 := hid (show Pairs w3 w3.heap.size (.slice oA nA cA) (bookS s) by have := HPA3.out; rw [bookR_ok HZ.out] at this; exact this)
      have HPB4 := hid (show Pairs w3 w3.heap.size (.slice oB nB cB) (bookS t) by have := HPB.out; rw [bookR_ok HY.out] at this; exact this)
      obtain ⟨b0, HB0e⟩ : ∃ b : Bool, Hid (b = true ↔ bookS s = bookS t) := by
        by_cases h : bookS s = bookS t
        · exact ⟨true, hid (by simp [h])⟩
        · exact ⟨false, hid (by simp [h])⟩
      clear hz hy
      go_upto_region 8 with fail
      refine unlikeRegion s t b0 oA oB o1 o2 o3 o4 o5 o6 o7 p1 p2 p3 p4 p5 p6 p7 nA cA nB cB c1 c2 c3 c4 c5 c6 c7 d1 d2 d3 d4 d5 d6 d7 (Nat.le_trans hN HB3.out.size) (Nat.le_refl _) HRS3 HRT3 (hid (HMS.out.below (HB3.out.mono hN))) (hid (HMT.out.below (HB3.out.mono hN))) HS HT HFS HFT HPA4 HPB4 HB0e _ (hid ?_)
      intro σ8 w4 hb4 h11
      have HB4 := hid (HB3.out.trans (hb4.mono HB3.out.size))
      rw [h11]
      clear hb4 h11
      go_wp2
      go_ret
      exact ⟨by first | done | rfl, HB4.out⟩
    · have e1 : (wrongS t != 0) = true := by simpa using hy
      rw [HZ.out]
      clear hz hy
      generalize hzz : wrongS t = z at *
      clear hzz
      go_wp2
      go_ret
      exact ⟨by first | done | rfl, HB3.out⟩
  · have e1 : (wrongS s != 0) = true := by simpa using hz
    clear hz
    generalize hzz : wrongS s = z at *
    clear hzz
    go_wp2
    go_ret
    exact ⟨by first | done | rfl, HB3.out⟩
end Go.Proofs.YtooemgkjkngpcaaDoor
