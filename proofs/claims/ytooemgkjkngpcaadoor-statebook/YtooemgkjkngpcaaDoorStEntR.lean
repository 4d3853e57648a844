/-
  What the drawn regions of package state's entries leave: one more entry.
-/
import Derived.Test.YtooemgkjkngpcaaDoorStPut
namespace Go.Proofs.YtooemgkjkngpcaaDoor
open Go.RowKit

set_option maxRecDepth 100000 in
set_option maxHeartbeats 4000000 in
theorem connRegion {y0 y1 y2 y3 y5 y8 y9 y10 y11 y12 y13 y14 y15 y16 y17 y18 y19 y25 y26 y27 y28 y29 y30 y31 y32 y33 y34 y35 y36 y37 y38 y39 y40 y41 y42 y43 y44 y45 y46 y47 y48 y49 y50 y51 y52 y53 y54 y55 y56 y57 y58 y59 y60 y61 y62 y63 y64 z20 z21 z22 z23 z24 : Value} {gp gc base N go : Nat} (l : List Dg) (c : Cn) (k : Nat) {w : World} (hrp : Hid (Row w gp 85 [.func (.func 38) #[] #[.pointer (some ⟨go, 0, none⟩)]])) (hE : Hid (Ents w base N go l)) (hN : N ≤ base) (hgo : base ≤ go) (hbw : base ≤ w.heap.size) (hlen : l.length ≤ 1000) (hT : Hid (powAt w)) (hrc : Hid (Row w gc 45 [.int .i64 c.state, .int .i64 c.client, .int .i64 c.oclient, .int .i64 c.oconn])) (hc : Hid (wrongCn c = 0)) (_hk : k ≤ 1000) (Q : Exit → Act → World → Prop)
    (hQ : Hid (∀ (σ : Nat → Value) (w' : World), Ents w' base N go (l ++ [entCn (c, k)]) → Below base w w' → KeptD go w w' → Q .normal ⟨#[y0, y1, y2, y3, .pointer (some ⟨gp, 0, none⟩), y5, .int .i64 (k : Int), .pointer (some ⟨gc, 0, none⟩), y8, y9, y10, y11, y12, y13, y14, y15, y16, y17, y18, y19, .func (.func 38) #[] #[.pointer (some ⟨go, 0, none⟩)], σ 1, σ 2, σ 3, σ 4, .tuple #[], y26, y27, y28, y29, y30, y31, y32, y33, y34, y35, y36, y37, y38, y39, y40, y41, y42, y43, y44, y45, y46, y47, y48, y49, y50, y51, y52, y53, y54, y55, y56, y57, y58, y59, y60, y61, y62, y63, y64], []⟩ w')) :
    Code.wp Tryd.prog (.region 7 ((Tryd.f13.body.bind (regOf 7)).getD #[]) true) Q ⟨#[y0, y1, y2, y3, .pointer (some ⟨gp, 0, none⟩), y5, .int .i64 (k : Int), .pointer (some ⟨gc, 0, none⟩), y8, y9, y10, y11, y12, y13, y14, y15, y16, y17, y18, y19, z20, z21, z22, z23, z24, y25, y26, y27, y28, y29, y30, y31, y32, y33, y34, y35, y36, y37, y38, y39, y40, y41, y42, y43, y44, y45, y46, y47, y48, y49, y50, y51, y52, y53, y54, y55, y56, y57, y58, y59, y60, y61, y62, y63, y64], []⟩ w := by
  conv => arg 2; arg 2; whnf
  conv => arg 4; dsimp only
  refine region_grows_tail 5 (by kernel_rfl) (fun σ => #[y0, y1, y2, y3, .pointer (some ⟨gp, 0, none⟩), y5, .int .i64 (k : Int), .pointer (some ⟨gc, 0, none⟩), y8, y9, y10, y11, y12, y13, y14, y15, y16, y17, y18, y19, σ 0, σ 1, σ 2, σ 3, σ 4, y25, y26, y27, y28, y29, y30, y31, y32, y33, y34, y35, y36, y37, y38, y39, y40, y41, y42, y43, y44, y45, y46, y47, y48, y49, y50, y51, y52, y53, y54, y55, y56, y57, y58, y59, y60, y61, y62, y63, y64]) (fun i => ([z20, z21, z22, z23, z24] : List Value).getD i undef) rfl (fun i X W => match i with
    | 0 => X = .func (.func 38) #[] #[.pointer (some ⟨go, 0, none⟩)]
    | 1 => X = .int .i64 (k : Int)
    | 2 => OwnM W w.heap.size X (keyL kwConn [k])
    | 3 => X = .agg #[.int .i64 c.state, .int .i64 c.client, .int .i64 c.oclient, .int .i64 c.oconn]
    | 4 => OwnM W w.heap.size X (connB c)
    | _ => True) ?_ (by kernel_rfl) ?_ ?_
  · intro i X W W' HB H
    match i, H with
    | 0, H => exact H
    | 1, H => exact H
    | 2, H => exact (H.below HB)
    | 3, H => exact H
    | 4, H => exact (H.below HB)
    | _ + 5, _ => exact trivial
  · refine ⟨?_, ?_, ?_, ?_, ?_, trivial⟩
    · -- 0: Op.load 142 t4
      intro σ W HJ hdep
      simp [Region.binds] at hdep
      have HJ := hid HJ
      have kc := (hrp.out.below HJ.out hrp.out.lt).cell 0
      simp at kc
      refine wpOp_plain rfl rfl ?_
      go_simp
      exact Left.mk0 (.func (.func 38) #[] #[.pointer (some ⟨go, 0, none⟩)]) (by first | rfl | simp [updF, *]) HJ.out rfl
    · -- 1: Op.move t6
      intro σ W HJ hdep
      simp [Region.binds] at hdep
      have HJ := hid HJ
      refine wpOp_plain rfl rfl ?_
      go_simp
      exact Left.mk0 (.int .i64 (k : Int)) (by first | rfl | simp [updF, *]) HJ.out rfl
    · -- 2: Op.call { value (Operand.func 85), args := #[t21], argTypes 
      intro σ W HJ hdep
      simp [Region.binds] at hdep
      have HJ := hid HJ
      have HC := hid (connKey_any (k : Int) (by omega) W (hT.out.below HJ.out))
      refine wpOp_plain rfl rfl ?_
      go_simp
      refine HC.out.mono ?_
      rintro e w2 ⟨v, rfl, hown, hb2⟩
      exact Left.mk v (by first | rfl | simp [updF, *]) hb2 HJ.out (hown.mono HJ.out.size)
    · -- 3: Op.load 58 t7
      intro σ W HJ hdep
      simp [Region.binds] at hdep
      have HJ := hid HJ
      have k0 := (hrc.out.below HJ.out hrc.out.lt).cell 0
      have k1 := (hrc.out.below HJ.out hrc.out.lt).cell 1
      have k2 := (hrc.out.below HJ.out hrc.out.lt).cell 2
      have k3 := (hrc.out.below HJ.out hrc.out.lt).cell 3
      simp at k0
      simp at k1
      simp at k2
      simp at k3
      refine wpOp_plain rfl rfl ?_
      go_simp
      exact Left.mk0 (.agg #[.int .i64 c.state, .int .i64 c.client, .int .i64 c.oclient, .int .i64 c.oconn]) (by first | rfl | simp [updF, *]) HJ.out rfl
    · -- 4: Op.call { value (Operand.func 86), args := #[t23], argTypes 
      intro σ W HJ hdep
      simp [Region.binds] at hdep
      have HJ := hid HJ
      have HC := hid (connVal_any c hc.out W)
      refine wpOp_plain rfl rfl ?_
      go_simp
      refine HC.out.mono ?_
      rintro e w2 ⟨v, rfl, hown, hb2⟩
      exact Left.mk v (by first | rfl | simp [updF, *]) hb2 HJ.out (hown.mono HJ.out.size)
  · intro σ W hj hg
    have HJ := hid hj
    clear hj
    simp only [List.drop_succ_cons, List.drop_zero]
    have e0 : σ 0 = .func (.func 38) #[] #[.pointer (some ⟨go, 0, none⟩)] := hg 0 (by decide)
    have o3 : OwnM W w.heap.size (σ 2) (keyL kwConn [k]) := hg 2 (by decide)
    have o5 : OwnM W w.heap.size (σ 4) (connB c) := hg 4 (by decide)
    have HP := hid (put_any l ⟨entCn (c, k), σ 2, σ 4⟩ base N go W (hE.out.below hN hbw HJ.out) ⟨o3.mono hbw, .inl (o5.mono hbw)⟩ hN hgo hlen rfl)
    have HJ2 := HJ
    clear hg o3
    rw [e0]
    go_wp2_with fail
    refine HP.out.mono ?_
    rintro e w2 ⟨rfl, hE2, hb2, hk2⟩
    have HE2 := hid hE2
    have HB2 := hid ((HJ2.out.mono hbw).trans hb2)
    have HK2 := hid ((KeptD.of_below HJ2.out).trans hk2)
    clear hE2 hb2 hk2
    go_wp2
    exact hQ.out σ w2 HE2.out HB2.out HK2.out
set_option maxRecDepth 100000 in
set_option maxHeartbeats 4000000 in
theorem chanRegion {y0 y1 y2 y3 y5 y6 y7 y10 y11 y12 y13 y14 y15 y16 y17 y18 y19 y20 y21 y22 y23 y24 y25 y26 y27 y28 y29 y30 y31 y32 y33 y34 y41 y42 y43 y44 y45 y46 y47 y48 y49 y50 y51 y52 y53 y54 y55 y56 y57 y58 y59 y60 y61 y62 y63 y64 z35 z36 z37 z38 z39 z40 : Value} {gp gc base N go : Nat} (l : List Dg) (c : Ch) (k : Nat) {w : World} (hrp : Hid (Row w gp 85 [.func (.func 38) #[] #[.pointer (some ⟨go, 0, none⟩)]])) (hE : Hid (Ents w base N go l)) (hN : N ≤ base) (hgo : base ≤ go) (hbw : base ≤ w.heap.size) (hlen : l.length ≤ 1000) (hT : Hid (powAt w)) (hrc : Hid (Row w gc 40 [.int .i64 c.state, .bool c.ordered, .int .i64 c.conn, .int .i64 c.ochan, .int .i64 c.send, .int .i64 c.recv, .int .i64 c.ack])) (hc : Hid (wrongCh c = 0)) (_hk : k ≤ 1000) (Q : Exit → Act → World → Prop)
    (hQ : Hid (∀ (σ : Nat → Value) (w' : World), Ents w' base N go (l ++ [⟨keyL kwChan [k], chanB c, false⟩]) → Below base w w' → KeptD go w w' → Q .normal ⟨#[y0, y1, y2, y3, .pointer (some ⟨gp, 0, none⟩), y5, y6, y7, .int .i64 (k : Int), .pointer (some ⟨gc, 0, none⟩), y10, y11, y12, y13, y14, y15, y16, y17, y18, y19, y20, y21, y22, y23, y24, y25, y26, y27, y28, y29, y30, y31, y32, y33, y34, .func (.func 38) #[] #[.pointer (some ⟨go, 0, none⟩)], σ 1, σ 2, σ 3, σ 4, σ 5, .tuple #[], y42, y43, y44, y45, y46, y47, y48, y49, y50, y51, y52, y53, y54, y55, y56, y57, y58, y59, y60, y61, y62, y63, y64], []⟩ w')) :
    Code.wp Tryd.prog (.region 12 ((Tryd.f13.body.bind (regOf 12)).getD #[]) true) Q ⟨#[y0, y1, y2, y3, .pointer (some ⟨gp, 0, none⟩), y5, y6, y7, .int .i64 (k : Int), .pointer (some ⟨gc, 0, none⟩), y10, y11, y12, y13, y14, y15, y16, y17, y18, y19, y20, y21, y22, y23, y24, y25, y26, y27, y28, y29, y30, y31, y32, y33, y34, z35, z36, z37, z38, z39, z40, y41, y42, y43, y44, y45, y46, y47, y48, y49, y50, y51, y52, y53, y54, y55, y56, y57, y58, y59, y60, y61, y62, y63, y64], []⟩ w := by
  conv => arg 2; arg 2; whnf
  conv => arg 4; dsimp only
  refine region_grows_tail 6 (by kernel_rfl) (fun σ => #[y0, y1, y2, y3, .pointer (some ⟨gp, 0, none⟩), y5, y6, y7, .int .i64 (k : Int), .pointer (some ⟨gc, 0, none⟩), y10, y11, y12, y13, y14, y15, y16, y17, y18, y19, y20, y21, y22, y23, y24, y25, y26, y27, y28, y29, y30, y31, y32, y33, y34, σ 0, σ 1, σ 2, σ 3, σ 4, σ 5, y41, y42, y43, y44, y45, y46, y47, y48, y49, y50, y51, y52, y53, y54, y55, y56, y57, y58, y59, y60, y61, y62, y63, y64]) (fun i => ([z35, z36, z37, z38, z39, z40] : List Value).getD i undef) rfl (fun i X W => match i with
    | 0 => X = .func (.func 38) #[] #[.pointer (some ⟨go, 0, none⟩)]
    | 1 => X = .int .i64 (k : Int)
    | 2 => ∃ q, X = .slice (some ⟨q, 0, none⟩) 1 1 ∧ Row W q 3 [.int .i64 (k : Int)]
    | 3 => OwnM W w.heap.size X (keyL kwChan [k])
    | 4 => X = .agg #[.int .i64 c.state, .bool c.ordered, .int .i64 c.conn, .int .i64 c.ochan, .int .i64 c.send, .int .i64 c.recv, .int .i64 c.ack]
    | 5 => OwnM W w.heap.size X (chanB c)
    | _ => True) ?_ (by kernel_rfl) ?_ ?_
  · intro i X W W' HB H
    match i, H with
    | 0, H => exact H
    | 1, H => exact H
    | 2, H => exact (by obtain ⟨q, e, hr⟩ := H; exact ⟨q, e, hr.below HB hr.lt⟩)
    | 3, H => exact (H.below HB)
    | 4, H => exact H
    | 5, H => exact (H.below HB)
    | _ + 6, _ => exact trivial
  · refine ⟨?_, ?_, ?_, ?_, ?_, ?_, trivial⟩
    · -- 0: Op.load 142 t4
      intro σ W HJ hdep
      simp [Region.binds] at hdep
      have HJ := hid HJ
      have kc := (hrp.out.below HJ.out hrp.out.lt).cell 0
      simp at kc
      refine wpOp_plain rfl rfl ?_
      go_simp
      exact Left.mk0 (.func (.func 38) #[] #[.pointer (some ⟨go, 0, none⟩)]) (by first | rfl | simp [updF, *]) HJ.out rfl
    · -- 1: Op.move t8
      intro σ W HJ hdep
      simp [Region.binds] at hdep
      have HJ := hid HJ
      refine wpOp_plain rfl rfl ?_
      go_simp
      exact Left.mk0 (.int .i64 (k : Int)) (by first | rfl | simp [updF, *]) HJ.out rfl
    · -- 2: Op.buildSlice 130 1 #[(0, t36)]
      intro σ W HJ hdep
      simp [Region.binds] at hdep
      have HJ := hid HJ
      refine wpOp_plain rfl rfl ?_
      go_simp
      exact Left.mk (.slice (some ⟨W.heap.size, 0, none⟩) 1 1) (by first | rfl | simp [updF, *]) ((Below.refl _ _).alloc (Nat.le_refl _) _) HJ.out ⟨W.heap.size, rfl, Row.new _ _ _⟩
    · -- 3: Op.call { value (Operand.func 84), args := #[const (Value.st
      intro σ W HJ hdep
      simp [Region.binds] at hdep
      have HJ := hid HJ
      obtain ⟨q, eq, hrow⟩ : ∃ q, σ 2 = .slice (some ⟨q, 0, none⟩) 1 1 ∧ Row W q 3 [.int .i64 (k : Int)] := by first | exact hdep | exact hdep.1 | exact hdep.2 | exact hdep.2.1 | exact hdep.2.2
      have HC := hid (keyOf_any ⟨#[99, 104, 97, 110]⟩ [(k : Int)] q 1 W (by decide) hrow rfl (by decide) (fun n hn => by simp at hn; omega) (hT.out.below HJ.out))
      clear hdep hrow
      refine wpOp_plain rfl rfl ?_
      go_simp
      refine HC.out.mono ?_
      rintro e w2 ⟨v, rfl, hown, hb2⟩
      exact Left.mk v (by first | rfl | simp [updF, *]) hb2 HJ.out (hown.mono HJ.out.size)
    · -- 4: Op.load 75 t9
      intro σ W HJ hdep
      simp [Region.binds] at hdep
      have HJ := hid HJ
      have k0 := (hrc.out.below HJ.out hrc.out.lt).cell 0
      have k1 := (hrc.out.below HJ.out hrc.out.lt).cell 1
      have k2 := (hrc.out.below HJ.out hrc.out.lt).cell 2
      have k3 := (hrc.out.below HJ.out hrc.out.lt).cell 3
      have k4 := (hrc.out.below HJ.out hrc.out.lt).cell 4
      have k5 := (hrc.out.below HJ.out hrc.out.lt).cell 5
      have k6 := (hrc.out.below HJ.out hrc.out.lt).cell 6
      simp at k0
      simp at k1
      simp at k2
      simp at k3
      simp at k4
      simp at k5
      simp at k6
      refine wpOp_plain rfl rfl ?_
      go_simp
      exact Left.mk0 (.agg #[.int .i64 c.state, .bool c.ordered, .int .i64 c.conn, .int .i64 c.ochan, .int .i64 c.send, .int .i64 c.recv, .int .i64 c.ack]) (by first | rfl | simp [updF, *]) HJ.out rfl
    · -- 5: Op.call { value (Operand.func 87), args := #[t39], argTypes 
      intro σ W HJ hdep
      simp [Region.binds] at hdep
      have HJ := hid HJ
      have HC := hid (chanVal_any c hc.out W)
      refine wpOp_plain rfl rfl ?_
      go_simp
      refine HC.out.mono ?_
      rintro e w2 ⟨v, rfl, hown, hb2⟩
      exact Left.mk v (by first | rfl | simp [updF, *]) hb2 HJ.out (hown.mono HJ.out.size)
  · intro σ W hj hg
    have HJ := hid hj
    clear hj
    simp only [List.drop_succ_cons, List.drop_zero]
    have e0 : σ 0 = .func (.func 38) #[] #[.pointer (some ⟨go, 0, none⟩)] := hg 0 (by decide)
    have o3 : OwnM W w.heap.size (σ 3) (keyL kwChan [k]) := hg 3 (by decide)
    have o5 : OwnM W w.heap.size (σ 5) (chanB c) := hg 5 (by decide)
    have HP := hid (put_any l ⟨⟨keyL kwChan [k], chanB c, false⟩, σ 3, σ 5⟩ base N go W (hE.out.below hN hbw HJ.out) ⟨o3.mono hbw, .inl (o5.mono hbw)⟩ hN hgo hlen rfl)
    have HJ2 := HJ
    clear hg o3
    rw [e0]
    go_wp2_with fail
    refine HP.out.mono ?_
    rintro e w2 ⟨rfl, hE2, hb2, hk2⟩
    have HE2 := hid hE2
    have HB2 := hid ((HJ2.out.mono hbw).trans hb2)
    have HK2 := hid ((KeptD.of_below HJ2.out).trans hk2)
    clear hE2 hb2 hk2
    go_wp2
    exact hQ.out σ w2 HE2.out HB2.out HK2.out
set_option maxRecDepth 100000 in
set_option maxHeartbeats 4000000 in
theorem nextRegion {y0 y1 y2 y3 y5 y6 y7 y10 y11 y12 y13 y14 y15 y16 y17 y18 y19 y20 y21 y22 y23 y24 y25 y26 y27 y28 y29 y30 y31 y32 y33 y34 y35 y36 y37 y38 y39 y40 y41 y50 y51 y52 y53 y54 y55 y56 y57 y58 y59 y60 y61 y62 y63 y64 z42 z43 z44 z45 z46 z47 z48 z49 : Value} {gp gc base N go : Nat} (l : List Dg) (c : Ch) (k : Nat) {w : World} (hrp : Hid (Row w gp 85 [.func (.func 38) #[] #[.pointer (some ⟨go, 0, none⟩)]])) (hE : Hid (Ents w base N go l)) (hN : N ≤ base) (hgo : base ≤ go) (hbw : base ≤ w.heap.size) (hlen : l.length ≤ 1000) (hT : Hid (powAt w)) (hrc : Hid (Row w gc 40 [.int .i64 c.state, .bool c.ordered, .int .i64 c.conn, .int .i64 c.ochan, .int .i64 c.send, .int .i64 c.recv, .int .i64 c.ack])) (hc : Hid (wrongCh c = 0)) (_hk : k ≤ 1000) (Q : Exit → Act → World → Prop)
    (hQ : Hid (∀ (σ : Nat → Value) (w' : World), Ents w' base N go (l ++ [⟨keyL kwNext [k], numsB [c.recv], false⟩]) → Below base w w' → KeptD go w w' → Q .normal ⟨#[y0, y1, y2, y3, .pointer (some ⟨gp, 0, none⟩), y5, y6, y7, .int .i64 (k : Int), .pointer (some ⟨gc, 0, none⟩), y10, y11, y12, y13, y14, y15, y16, y17, y18, y19, y20, y21, y22, y23, y24, y25, y26, y27, y28, y29, y30, y31, y32, y33, y34, y35, y36, y37, y38, y39, y40, y41, .func (.func 38) #[] #[.pointer (some ⟨go, 0, none⟩)], σ 1, σ 2, σ 3, σ 4, σ 5, σ 6, σ 7, .tuple #[], y51, y52, y53, y54, y55, y56, y57, y58, y59, y60, y61, y62, y63, y64], []⟩ w')) :
    Code.wp Tryd.prog (.region 13 ((Tryd.f13.body.bind (regOf 13)).getD #[]) true) Q ⟨#[y0, y1, y2, y3, .pointer (some ⟨gp, 0, none⟩), y5, y6, y7, .int .i64 (k : Int), .pointer (some ⟨gc, 0, none⟩), y10, y11, y12, y13, y14, y15, y16, y17, y18, y19, y20, y21, y22, y23, y24, y25, y26, y27, y28, y29, y30, y31, y32, y33, y34, y35, y36, y37, y38, y39, y40, y41, z42, z43, z44, z45, z46, z47, z48, z49, y50, y51, y52, y53, y54, y55, y56, y57, y58, y59, y60, y61, y62, y63, y64], []⟩ w := by
  conv => arg 2; arg 2; whnf
  conv => arg 4; dsimp only
  refine region_grows_tail 8 (by kernel_rfl) (fun σ => #[y0, y1, y2, y3, .pointer (some ⟨gp, 0, none⟩), y5, y6, y7, .int .i64 (k : Int), .pointer (some ⟨gc, 0, none⟩), y10, y11, y12, y13, y14, y15, y16, y17, y18, y19, y20, y21, y22, y23, y24, y25, y26, y27, y28, y29, y30, y31, y32, y33, y34, y35, y36, y37, y38, y39, y40, y41, σ 0, σ 1, σ 2, σ 3, σ 4, σ 5, σ 6, σ 7, y50, y51, y52, y53, y54, y55, y56, y57, y58, y59, y60, y61, y62, y63, y64]) (fun i => ([z42, z43, z44, z45, z46, z47, z48, z49] : List Value).getD i undef) rfl (fun i X W => match i with
    | 0 => X = .func (.func 38) #[] #[.pointer (some ⟨go, 0, none⟩)]
    | 1 => X = .int .i64 (k : Int)
    | 2 => ∃ q, X = .slice (some ⟨q, 0, none⟩) 1 1 ∧ Row W q 3 [.int .i64 (k : Int)]
    | 3 => OwnM W w.heap.size X (keyL kwNext [k])
    | 4 => X = .pointer (some ⟨gc, 5, none⟩)
    | 5 => X = .int .i64 c.recv
    | 6 => ∃ q, X = .slice (some ⟨q, 0, none⟩) 1 1 ∧ Row W q 3 [.int .i64 c.recv]
    | 7 => OwnM W w.heap.size X (numsB [c.recv])
    | _ => True) ?_ (by kernel_rfl) ?_ ?_
  · intro i X W W' HB H
    match i, H with
    | 0, H => exact H
    | 1, H => exact H
    | 2, H => exact (by obtain ⟨q, e, hr⟩ := H; exact ⟨q, e, hr.below HB hr.lt⟩)
    | 3, H => exact (H.below HB)
    | 4, H => exact H
    | 5, H => exact H
    | 6, H => exact (by obtain ⟨q, e, hr⟩ := H; exact ⟨q, e, hr.below HB hr.lt⟩)
    | 7, H => exact (H.below HB)
    | _ + 8, _ => exact trivial
  · refine ⟨?_, ?_, ?_, ?_, ?_, ?_, ?_, ?_, trivial⟩
    · -- 0: Op.load 142 t4
      intro σ W HJ hdep
      simp [Region.binds] at hdep
      have HJ := hid HJ
      have kc := (hrp.out.below HJ.out hrp.out.lt).cell 0
      simp at kc
      refine wpOp_plain rfl rfl ?_
      go_simp
      exact Left.mk0 (.func (.func 38) #[] #[.pointer (some ⟨go, 0, none⟩)]) (by first | rfl | simp [updF, *]) HJ.out rfl
    · -- 1: Op.move t8
      intro σ W HJ hdep
      simp [Region.binds] at hdep
      have HJ := hid HJ
      refine wpOp_plain rfl rfl ?_
      go_simp
      exact Left.mk0 (.int .i64 (k : Int)) (by first | rfl | simp [updF, *]) HJ.out rfl
    · -- 2: Op.buildSlice 130 1 #[(0, t43)]
      intro σ W HJ hdep
      simp [Region.binds] at hdep
      have HJ := hid HJ
      refine wpOp_plain rfl rfl ?_
      go_simp
      exact Left.mk (.slice (some ⟨W.heap.size, 0, none⟩) 1 1) (by first | rfl | simp [updF, *]) ((Below.refl _ _).alloc (Nat.le_refl _) _) HJ.out ⟨W.heap.size, rfl, Row.new _ _ _⟩
    · -- 3: Op.call { value (Operand.func 84), args := #[const (Value.st
      intro σ W HJ hdep
      simp [Region.binds] at hdep
      have HJ := hid HJ
      obtain ⟨q, eq, hrow⟩ : ∃ q, σ 2 = .slice (some ⟨q, 0, none⟩) 1 1 ∧ Row W q 3 [.int .i64 (k : Int)] := by first | exact hdep | exact hdep.1 | exact hdep.2 | exact hdep.2.1 | exact hdep.2.2
      have HC := hid (keyOf_any ⟨#[110, 101, 120, 116]⟩ [(k : Int)] q 1 W (by decide) hrow rfl (by decide) (fun n hn => by simp at hn; omega) (hT.out.below HJ.out))
      clear hdep hrow
      refine wpOp_plain rfl rfl ?_
      go_simp
      refine HC.out.mono ?_
      rintro e w2 ⟨v, rfl, hown, hb2⟩
      exact Left.mk v (by first | rfl | simp [updF, *]) hb2 HJ.out (hown.mono HJ.out.size)
    · -- 4: Op.fieldAddr 75 t9 5
      intro σ W HJ hdep
      simp [Region.binds] at hdep
      have HJ := hid HJ
      refine wpOp_plain rfl rfl ?_
      go_simp
      exact Left.mk0 (.pointer (some ⟨gc, 5, none⟩)) (by first | rfl | simp [updF, *]) HJ.out rfl
    · -- 5: Op.load 3 t46
      intro σ W HJ hdep
      simp [Region.binds] at hdep
      have HJ := hid HJ
      have kc := (hrc.out.below HJ.out hrc.out.lt).cell 5
      simp at kc
      refine wpOp_plain rfl rfl ?_
      go_simp
      exact Left.mk0 (.int .i64 c.recv) (by first | rfl | simp [updF, *]) HJ.out rfl
    · -- 6: Op.buildSlice 130 1 #[(0, t47)]
      intro σ W HJ hdep
      simp [Region.binds] at hdep
      have HJ := hid HJ
      refine wpOp_plain rfl rfl ?_
      go_simp
      exact Left.mk (.slice (some ⟨W.heap.size, 0, none⟩) 1 1) (by first | rfl | simp [updF, *]) ((Below.refl _ _).alloc (Nat.le_refl _) _) HJ.out ⟨W.heap.size, rfl, Row.new _ _ _⟩
    · -- 7: Op.call { value (Operand.func 88), args := #[t48], argTypes 
      intro σ W HJ hdep
      simp [Region.binds] at hdep
      have HJ := hid HJ
      obtain ⟨q, eq, hrow⟩ : ∃ q, σ 6 = .slice (some ⟨q, 0, none⟩) 1 1 ∧ Row W q 3 [.int .i64 c.recv] := by first | exact hdep | exact hdep.1 | exact hdep.2 | exact hdep.2.1 | exact hdep.2.2
      have HC := hid (numbers_any [c.recv] q 1 W hrow rfl (by decide) (fun x hx => by have := wrongCh_ok hc.out; simp at hx; omega))
      clear hdep hrow
      refine wpOp_plain rfl rfl ?_
      go_simp
      refine HC.out.mono ?_
      rintro e w2 ⟨v, rfl, hown, hb2⟩
      exact Left.mk v (by first | rfl | simp [updF, *]) hb2 HJ.out (hown.mono HJ.out.size)
  · intro σ W hj hg
    have HJ := hid hj
    clear hj
    simp only [List.drop_succ_cons, List.drop_zero]
    have e0 : σ 0 = .func (.func 38) #[] #[.pointer (some ⟨go, 0, none⟩)] := hg 0 (by decide)
    have o3 : OwnM W w.heap.size (σ 3) (keyL kwNext [k]) := hg 3 (by decide)
    have o5 : OwnM W w.heap.size (σ 7) (numsB [c.recv]) := hg 7 (by decide)
    have HP := hid (put_any l ⟨⟨keyL kwNext [k], numsB [c.recv], false⟩, σ 3, σ 7⟩ base N go W (hE.out.below hN hbw HJ.out) ⟨o3.mono hbw, .inl (o5.mono hbw)⟩ hN hgo hlen rfl)
    have HJ2 := HJ
    clear hg o3
    rw [e0]
    go_wp2_with fail
    refine HP.out.mono ?_
    rintro e w2 ⟨rfl, hE2, hb2, hk2⟩
    have HE2 := hid hE2
    have HB2 := hid ((HJ2.out.mono hbw).trans hb2)
    have HK2 := hid ((KeptD.of_below HJ2.out).trans hk2)
    clear hE2 hb2 hk2
    go_wp2
    exact hQ.out σ w2 HE2.out HB2.out HK2.out
set_option maxRecDepth 100000 in
set_option maxHeartbeats 4000000 in
theorem markRegion {y1 y3 y4 y5 y7 y8 y9 y10 y11 y12 y23 y24 z13 z14 z15 z16 z17 z18 z19 z20 z21 z22 : Value} {gp gm base N go : Nat} (l : List Dg) (kind : ByteArray) (m : Mk) (od : Option Addr) (cd : Nat) {w : World} (hrp : Hid (Row w gp 85 [.func (.func 38) #[] #[.pointer (some ⟨go, 0, none⟩)]])) (hE : Hid (Ents w base N go l)) (hN : N ≤ base) (hgo : base ≤ go) (hbw : base ≤ w.heap.size) (hlen : l.length ≤ 1000) (hT : Hid (powAt w)) (hrm : Hid (Row w gm 67 [.int .i64 m.chan, .int .i64 m.seq, .slice od m.dig.length cd])) (hm : Hid (wrongMk m = 0)) (hdg : Hid (Bytes w N (.slice od m.dig.length cd) m.dig)) (hkl : kind.size ≤ 100) (Q : Exit → Act → World → Prop)
    (hQ : Hid (∀ (σ : Nat → Value) (w' : World), Ents w' base N go (l ++ [entMk (lets kind) m]) → Below base w w' → KeptD go w w' → Q .normal ⟨#[.string kind, y1, .pointer (some ⟨gp, 0, none⟩), y3, y4, y5, .pointer (some ⟨gm, 0, none⟩), y7, y8, y9, y10, y11, y12, .func (.func 38) #[] #[.pointer (some ⟨go, 0, none⟩)], σ 1, σ 2, σ 3, σ 4, σ 5, σ 6, σ 7, σ 8, σ 9, .tuple #[], y24], []⟩ w')) :
    Code.wp Tryd.prog (.region 3 ((Tryd.f39.body.bind (regOf 3)).getD #[]) true) Q ⟨#[.string kind, y1, .pointer (some ⟨gp, 0, none⟩), y3, y4, y5, .pointer (some ⟨gm, 0, none⟩), y7, y8, y9, y10, y11, y12, z13, z14, z15, z16, z17, z18, z19, z20, z21, z22, y23, y24], []⟩ w := by
  conv => arg 2; arg 2; whnf
  conv => arg 4; dsimp only
  refine region_grows_tail 10 (by kernel_rfl) (fun σ => #[.string kind, y1, .pointer (some ⟨gp, 0, none⟩), y3, y4, y5, .pointer (some ⟨gm, 0, none⟩), y7, y8, y9, y10, y11, y12, σ 0, σ 1, σ 2, σ 3, σ 4, σ 5, σ 6, σ 7, σ 8, σ 9, y23, y24]) (fun i => ([z13, z14, z15, z16, z17, z18, z19, z20, z21, z22] : List Value).getD i undef) rfl (fun i X W => match i with
    | 0 => X = .func (.func 38) #[] #[.pointer (some ⟨go, 0, none⟩)]
    | 1 => X = .string kind
    | 2 => X = .pointer (some ⟨gm, 0, none⟩)
    | 3 => X = .int .i64 m.chan
    | 4 => X = .pointer (some ⟨gm, 1, none⟩)
    | 5 => X = .int .i64 m.seq
    | 6 => ∃ q, X = .slice (some ⟨q, 0, none⟩) 2 2 ∧ Row W q 3 [.int .i64 m.chan, .int .i64 m.seq]
    | 7 => OwnM W w.heap.size X (keyL (lets kind) [m.chan.toNat, m.seq.toNat])
    | 8 => X = .pointer (some ⟨gm, 2, none⟩)
    | 9 => X = .slice od m.dig.length cd
    | _ => True) ?_ (by kernel_rfl) ?_ ?_
  · intro i X W W' HB H
    match i, H with
    | 0, H => exact H
    | 1, H => exact H
    | 2, H => exact H
    | 3, H => exact H
    | 4, H => exact H
    | 5, H => exact H
    | 6, H => exact (by obtain ⟨q, e, hr⟩ := H; exact ⟨q, e, hr.below HB hr.lt⟩)
    | 7, H => exact (H.below HB)
    | 8, H => exact H
    | 9, H => exact H
    | _ + 10, _ => exact trivial
  · refine ⟨?_, ?_, ?_, ?_, ?_, ?_, ?_, ?_, ?_, ?_, trivial⟩
    · -- 0: Op.load 142 t2
      intro σ W HJ hdep
      simp [Region.binds] at hdep
      have HJ := hid HJ
      have kc := (hrp.out.below HJ.out hrp.out.lt).cell 0
      simp at kc
      refine wpOp_plain rfl rfl ?_
      go_simp
      exact Left.mk0 (.func (.func 38) #[] #[.pointer (some ⟨go, 0, none⟩)]) (by first | rfl | simp [updF, *]) HJ.out rfl
    · -- 1: Op.move t0
      intro σ W HJ hdep
      simp [Region.binds] at hdep
      have HJ := hid HJ
      refine wpOp_plain rfl rfl ?_
      go_simp
      exact Left.mk0 (.string kind) (by first | rfl | simp [updF, *]) HJ.out rfl
    · -- 2: Op.fieldAddr 79 t6 0
      intro σ W HJ hdep
      simp [Region.binds] at hdep
      have HJ := hid HJ
      refine wpOp_plain rfl rfl ?_
      go_simp
      exact Left.mk0 (.pointer (some ⟨gm, 0, none⟩)) (by first | rfl | simp [updF, *]) HJ.out rfl
    · -- 3: Op.load 3 t15
      intro σ W HJ hdep
      simp [Region.binds] at hdep
      have HJ := hid HJ
      have kc := (hrm.out.below HJ.out hrm.out.lt).cell 0
      simp at kc
      refine wpOp_plain rfl rfl ?_
      go_simp
      exact Left.mk0 (.int .i64 m.chan) (by first | rfl | simp [updF, *]) HJ.out rfl
    · -- 4: Op.fieldAddr 79 t6 1
      intro σ W HJ hdep
      simp [Region.binds] at hdep
      have HJ := hid HJ
      refine wpOp_plain rfl rfl ?_
      go_simp
      exact Left.mk0 (.pointer (some ⟨gm, 1, none⟩)) (by first | rfl | simp [updF, *]) HJ.out rfl
    · -- 5: Op.load 3 t17
      intro σ W HJ hdep
      simp [Region.binds] at hdep
      have HJ := hid HJ
      have kc := (hrm.out.below HJ.out hrm.out.lt).cell 1
      simp at kc
      refine wpOp_plain rfl rfl ?_
      go_simp
      exact Left.mk0 (.int .i64 m.seq) (by first | rfl | simp [updF, *]) HJ.out rfl
    · -- 6: Op.buildSlice 130 2 #[(0, t16), (1, t18)]
      intro σ W HJ hdep
      simp [Region.binds] at hdep
      have HJ := hid HJ
      obtain ⟨e1, e2⟩ := hdep
      refine wpOp_plain rfl rfl ?_
      go_simp
      exact Left.mk (.slice (some ⟨W.heap.size, 0, none⟩) 2 2) (by first | rfl | simp [updF, *]) ((Below.refl _ _).alloc (Nat.le_refl _) _) HJ.out ⟨W.heap.size, rfl, Row.new _ _ _⟩
    · -- 7: Op.call { value (Operand.func 84), args := #[t14, t19], argT
      intro σ W HJ hdep
      simp [Region.binds] at hdep
      have HJ := hid HJ
      obtain ⟨q, eq, hrow⟩ : ∃ q, σ 6 = .slice (some ⟨q, 0, none⟩) 2 2 ∧ Row W q 3 [.int .i64 m.chan, .int .i64 m.seq] := by first | exact hdep | exact hdep.1 | exact hdep.2 | exact hdep.2.1 | exact hdep.2.2
      have e1 : σ 1 = .string kind := by first | exact hdep.1 | exact hdep.2.1 | exact hdep.2
      have HC := hid (keyOf_any kind [m.chan, m.seq] q 2 W hkl hrow rfl (by decide) (fun n hn => by have := wrongMk_ok hm.out; simp at hn; omega) (hT.out.below HJ.out))
      clear hdep hrow
      refine wpOp_plain rfl rfl ?_
      go_simp
      refine HC.out.mono ?_
      rintro e w2 ⟨v, rfl, hown, hb2⟩
      exact Left.mk v (by first | rfl | simp [updF, *]) hb2 HJ.out (hown.mono HJ.out.size)
    · -- 8: Op.fieldAddr 79 t6 2
      intro σ W HJ hdep
      simp [Region.binds] at hdep
      have HJ := hid HJ
      refine wpOp_plain rfl rfl ?_
      go_simp
      exact Left.mk0 (.pointer (some ⟨gm, 2, none⟩)) (by first | rfl | simp [updF, *]) HJ.out rfl
    · -- 9: Op.load 35 t21
      intro σ W HJ hdep
      simp [Region.binds] at hdep
      have HJ := hid HJ
      have kc := (hrm.out.below HJ.out hrm.out.lt).cell 2
      simp at kc
      refine wpOp_plain rfl rfl ?_
      go_simp
      exact Left.mk0 (.slice od m.dig.length cd) (by first | rfl | simp [updF, *]) HJ.out rfl
  · intro σ W hj hg
    have HJ := hid hj
    clear hj
    simp only [List.drop_succ_cons, List.drop_zero]
    have e0 : σ 0 = .func (.func 38) #[] #[.pointer (some ⟨go, 0, none⟩)] := hg 0 (by decide)
    have o3 : OwnM W w.heap.size (σ 7) (keyL (lets kind) [m.chan.toNat, m.seq.toNat]) := hg 7 (by decide)
    have O9 := hid (show σ 9 = .slice od m.dig.length cd from hg 9 (by decide))
    have HP := hid (put_any l ⟨entMk (lets kind) m, σ 7, σ 9⟩ base N go W (hE.out.below hN hbw HJ.out) ⟨o3.mono hbw, .inr (by rw [O9.out]; exact hdg.out.below (HJ.out.mono (Nat.le_trans hN hbw)))⟩ hN hgo hlen rfl)
    have HJ2 := HJ
    clear hg o3
    rw [e0]
    go_wp2_with fail
    refine HP.out.mono ?_
    rintro e w2 ⟨rfl, hE2, hb2, hk2⟩
    have HE2 := hid hE2
    have HB2 := hid ((HJ2.out.mono hbw).trans hb2)
    have HK2 := hid ((KeptD.of_below HJ2.out).trans hk2)
    clear hE2 hb2 hk2
    go_wp2
    exact hQ.out σ w2 HE2.out HB2.out HK2.out
end Go.Proofs.YtooemgkjkngpcaaDoor
