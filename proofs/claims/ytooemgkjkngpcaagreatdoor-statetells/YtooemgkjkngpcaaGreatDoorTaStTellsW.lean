/-
  StateTells returns true, whatever a state reads as.
-/
import Derived.Test.YtooemgkjkngpcaaGreatDoorTaStRoot
import Derived.Test.YtooemgkjkngpcaaGreatDoorTaRegions
import Derived.BigQuiet
namespace Go.Proofs.YtooemgkjkngpcaaGreatDoor
open Go.RowKit

theorem bookR_fit (s : St) : ∀ p ∈ bookR s, p.fits := by
  by_cases h : wrongS s = 0
  · rw [bookR_ok h]; exact book_fit (wrongS_right h)
  · rw [bookR_no h]; intro p hp; cases hp
theorem bookR_len (s : St) : (bookR s).length < 2305843009213693952 := by
  by_cases h : wrongS s = 0
  · rw [bookR_ok h]; have := (playL_book _ _ (book_of (wrongS_right h)).1).2.2; omega
  · rw [bookR_no h]; decide
set_option maxRecDepth 100000 in
set_option maxHeartbeats 4000000 in
theorem stTellsR1 {y0 y2 y3 y4 y5 y6 y7 y8 y14 y15 y16 y17 y18 y19 y20 y21 y22 y23 y24 y25 y26 y27 y28 y29 y30 y31 y32 y33 y34 y35 y36 y37 y38 y39 y40 y41 y42 y43 y44 y45 y46 y47 y48 y49 y50 z9 z10 z11 z12 z13 : Value} {gs N : Nat} (s : St) (o1 o2 o3 o4 o5 o6 o7 : Option Addr) (c1 c2 c3 c4 c5 c6 c7 : Nat) {w : World} (hN : N ≤ w.heap.size) (hrs : Hid (Row w gs 28 [.string s.name, .int .i64 s.height, .int .i64 s.time, .slice o1 s.clients.length c1, .slice o2 s.conns.length c2, .slice o3 s.chans.length c3, .slice o4 s.sent.length c4, .slice o5 s.got.length c5, .slice o6 s.acks.length c6, .slice o7 s.purses.length c7])) (hsv : Hid (StV w N (.agg #[.string s.name, .int .i64 s.height, .int .i64 s.time, .slice o1 s.clients.length c1, .slice o2 s.conns.length c2, .slice o3 s.chans.length c3, .slice o4 s.sent.length c4, .slice o5 s.got.length c5, .slice o6 s.acks.length c6, .slice o7 s.purses.length c7]) s)) (hsf : Hid s.fits) (Q : Exit → Act → World → Prop)
    (hQ : Hid (∀ (σ : Nat → Value) (w' : World), Below w.heap.size w w' → /-4-/ σ 4 = .bool false → Q .normal ⟨#[y0, .pointer (some ⟨gs, 0, none⟩), y2, y3, y4, y5, y6, y7, y8, σ 0, σ 1, σ 2, σ 3, σ 4, y14, y15, y16, y17, y18, y19, y20, y21, y22, y23, y24, y25, y26, y27, y28, y29, y30, y31, y32, y33, y34, y35, y36, y37, y38, y39, y40, y41, y42, y43, y44, y45, y46, y47, y48, y49, y50], []⟩ w')) :
    Code.wp Tryz.prog (.region 1 ((Tryz.f3.body.bind (regOf 1)).getD #[]) true) Q ⟨#[y0, .pointer (some ⟨gs, 0, none⟩), y2, y3, y4, y5, y6, y7, y8, z9, z10, z11, z12, z13, y14, y15, y16, y17, y18, y19, y20, y21, y22, y23, y24, y25, y26, y27, y28, y29, y30, y31, y32, y33, y34, y35, y36, y37, y38, y39, y40, y41, y42, y43, y44, y45, y46, y47, y48, y49, y50], []⟩ w := by
  conv => arg 2; arg 2; whnf
  conv => arg 4; dsimp only
  refine region_grows (by kernel_rfl) (fun σ => #[y0, .pointer (some ⟨gs, 0, none⟩), y2, y3, y4, y5, y6, y7, y8, σ 0, σ 1, σ 2, σ 3, σ 4, y14, y15, y16, y17, y18, y19, y20, y21, y22, y23, y24, y25, y26, y27, y28, y29, y30, y31, y32, y33, y34, y35, y36, y37, y38, y39, y40, y41, y42, y43, y44, y45, y46, y47, y48, y49, y50]) (fun i => ([z9, z10, z11, z12, z13] : List Value).getD i undef) rfl (fun i X W => match i with
    | 0 => X = .agg #[.string s.name, .int .i64 s.height, .int .i64 s.time, .slice o1 s.clients.length c1, .slice o2 s.conns.length c2, .slice o3 s.chans.length c3, .slice o4 s.sent.length c4, .slice o5 s.got.length c5, .slice o6 s.acks.length c6, .slice o7 s.purses.length c7]
    | 1 => X = .int .i64 (wrongS s)
    | 2 => X = .agg #[.string s.name, .int .i64 s.height, .int .i64 s.time, .slice o1 s.clients.length c1, .slice o2 s.conns.length c2, .slice o3 s.chans.length c3, .slice o4 s.sent.length c4, .slice o5 s.got.length c5, .slice o6 s.acks.length c6, .slice o7 s.purses.length c7]
    | 3 => X = .int .i64 (wrongS s)
    | 4 => X = .bool false
    | _ => True) ?_ (by kernel_rfl) ?_ ?_
  · intro i X W W' HB H
    match i, H with
    | 0, H => exact H
    | 1, H => exact H
    | 2, H => exact H
    | 3, H => exact H
    | 4, H => exact H
    | _ + 5, _ => exact trivial
  · refine ⟨?_, ?_, ?_, ?_, ?_, trivial⟩
    · -- 0: Op.load 28 t1
      intro σ W HJ hdep
      simp [Region.binds] at hdep
      have HJ := hid HJ
      have k0 := (hrs.out.below HJ.out hrs.out.lt).cell 0
      have k1 := (hrs.out.below HJ.out hrs.out.lt).cell 1
      have k2 := (hrs.out.below HJ.out hrs.out.lt).cell 2
      have k3 := (hrs.out.below HJ.out hrs.out.lt).cell 3
      have k4 := (hrs.out.below HJ.out hrs.out.lt).cell 4
      have k5 := (hrs.out.below HJ.out hrs.out.lt).cell 5
      have k6 := (hrs.out.below HJ.out hrs.out.lt).cell 6
      have k7 := (hrs.out.below HJ.out hrs.out.lt).cell 7
      have k8 := (hrs.out.below HJ.out hrs.out.lt).cell 8
      have k9 := (hrs.out.below HJ.out hrs.out.lt).cell 9
      simp at k0
      simp at k1
      simp at k2
      simp at k3
      simp at k4
      simp at k5
      simp at k6
      simp at k7
      simp at k8
      simp at k9
      refine wpOp_plain rfl rfl ?_
      go_simp
      exact Left.mk0 (.agg #[.string s.name, .int .i64 s.height, .int .i64 s.time, .slice o1 s.clients.length c1, .slice o2 s.conns.length c2, .slice o3 s.chans.length c3, .slice o4 s.sent.length c4, .slice o5 s.got.length c5, .slice o6 s.acks.length c6, .slice o7 s.purses.length c7]) (by first | rfl | simp [updF, *]) HJ.out rfl
    · -- 1: Op.call { value (Operand.func 7), args := #[t9], argTypes :=
      intro σ W HJ hdep
      simp [Region.binds] at hdep
      have HJ := hid HJ
      have HC := hid (stWrongC s (.agg #[.string s.name, .int .i64 s.height, .int .i64 s.time, .slice o1 s.clients.length c1, .slice o2 s.conns.length c2, .slice o3 s.chans.length c3, .slice o4 s.sent.length c4, .slice o5 s.got.length c5, .slice o6 s.acks.length c6, .slice o7 s.purses.length c7]) N W (hsv.out.below (HJ.out.mono hN)) (Nat.le_trans hN HJ.out.size) hsf.out)
      refine wpOp_plain rfl rfl ?_
      go_simp
      refine (HC.out).mono ?_
      rintro e w2 ⟨rfl, hb2⟩
      exact Left.mk (.int .i64 (wrongS s)) (by first | rfl | simp [updF, *]) hb2 HJ.out rfl
    · -- 2: Op.load 28 t1
      intro σ W HJ hdep
      simp [Region.binds] at hdep
      have HJ := hid HJ
      have k0 := (hrs.out.below HJ.out hrs.out.lt).cell 0
      have k1 := (hrs.out.below HJ.out hrs.out.lt).cell 1
      have k2 := (hrs.out.below HJ.out hrs.out.lt).cell 2
      have k3 := (hrs.out.below HJ.out hrs.out.lt).cell 3
      have k4 := (hrs.out.below HJ.out hrs.out.lt).cell 4
      have k5 := (hrs.out.below HJ.out hrs.out.lt).cell 5
      have k6 := (hrs.out.below HJ.out hrs.out.lt).cell 6
      have k7 := (hrs.out.below HJ.out hrs.out.lt).cell 7
      have k8 := (hrs.out.below HJ.out hrs.out.lt).cell 8
      have k9 := (hrs.out.below HJ.out hrs.out.lt).cell 9
      simp at k0
      simp at k1
      simp at k2
      simp at k3
      simp at k4
      simp at k5
      simp at k6
      simp at k7
      simp at k8
      simp at k9
      refine wpOp_plain rfl rfl ?_
      go_simp
      exact Left.mk0 (.agg #[.string s.name, .int .i64 s.height, .int .i64 s.time, .slice o1 s.clients.length c1, .slice o2 s.conns.length c2, .slice o3 s.chans.length c3, .slice o4 s.sent.length c4, .slice o5 s.got.length c5, .slice o6 s.acks.length c6, .slice o7 s.purses.length c7]) (by first | rfl | simp [updF, *]) HJ.out rfl
    · -- 3: Op.call { value (Operand.func 8), args := #[t11], argTypes :
      intro σ W HJ hdep
      simp [Region.binds] at hdep
      have HJ := hid HJ
      have HC := hid (refStWrongC s (.agg #[.string s.name, .int .i64 s.height, .int .i64 s.time, .slice o1 s.clients.length c1, .slice o2 s.conns.length c2, .slice o3 s.chans.length c3, .slice o4 s.sent.length c4, .slice o5 s.got.length c5, .slice o6 s.acks.length c6, .slice o7 s.purses.length c7]) N W (hsv.out.below (HJ.out.mono hN)) (Nat.le_trans hN HJ.out.size) hsf.out)
      refine wpOp_plain rfl rfl ?_
      go_simp
      refine (HC.out).mono ?_
      rintro e w2 ⟨rfl, hb2⟩
      exact Left.mk (.int .i64 (wrongS s)) (by first | rfl | simp [updF, *]) hb2 HJ.out rfl
    · -- 4: Op.binOp BinOp.neq 29 t10 t12 29
      intro σ W HJ hdep
      simp [Region.binds] at hdep
      have HJ := hid HJ
      obtain ⟨e1, e3⟩ : σ 1 = .int .i64 (wrongS s) ∧ σ 3 = .int .i64 (wrongS s) := by first | exact hdep | exact ⟨hdep.1, hdep.2.1⟩
      have eb : (wrongS s != wrongS s) = false := by simp
      refine wpOp_plain rfl rfl ?_
      go_simp
      exact Left.mk0 (.bool false) (by first | rfl | simp [updF, *]) HJ.out rfl
  · intro σ w' hb hg
    exact hQ.out σ w' hb (by first | exact ⟨hg 4 (by decide)⟩ | exact hg 4 (by decide))
set_option maxRecDepth 100000 in
set_option maxHeartbeats 8000000 in
theorem stateTells_any (s : St) (v : Value) (N : Nat) (w : World) (hpow : powAt w) (htab : tableAt w) (hN : N ≤ w.heap.size) (hv : StV w N v s) (hfit : s.fits) :
    Calls Tryz.prog 3 #[v] w fun e w' => e = .returned (.bool true) ∧ Below w.heap.size w w' := by
  have HBK := hid (show ∀ wx, Below w.heap.size w wx → _ from fun wx hx => stBookC s v N wx (hv.below (hx.mono hN)) (Nat.le_trans hN hx.size) hfit (hpow.below hx))
  have HBR := hid (show ∀ wx, Below w.heap.size w wx → _ from fun wx hx => refBookC s v N wx (hv.below (hx.mono hN)) (Nat.le_trans hN hx.size) hfit (hpow.below hx))
  have HRT := hid (show ∀ wx, Below w.heap.size w wx → _ from fun wx hx => stRootC s v N wx (hv.below (hx.mono hN)) (Nat.le_trans hN hx.size) hfit (hpow.below hx) (htab.below hx htab.lt))
  have HRR := hid (show ∀ wx, Below w.heap.size w wx → _ from fun wx hx => refStRootC s v N wx (hv.below (hx.mono hN)) (Nat.le_trans hN hx.size) hfit (hpow.below hx) (htab.below hx htab.lt))
  have HSV := hid (show ∀ wx, Below w.heap.size w wx → StV wx N v s from fun wx hx => hv.below (hx.mono hN))
  have HSF := hid hfit
  obtain ⟨o1, c1, o2, c2, o3, c3, o4, c4, o5, c5, o6, c6, o7, c7, rfl, -⟩ := hv.open
  obtain ⟨w0, hw0⟩ : ∃ w0, w.alloc (.cells #[.string s.name, .int .i64 s.height, .int .i64 s.time, .slice o1 s.clients.length c1, .slice o2 s.conns.length c2, .slice o3 s.chans.length c3, .slice o4 s.sent.length c4, .slice o5 s.got.length c5, .slice o6 s.acks.length c6, .slice o7 s.purses.length c7] 28) = w0 := ⟨_, rfl⟩
  have HB0 := hid (show Below w.heap.size w w0 by rw [← hw0]; exact (Below.refl _ _).alloc (Nat.le_refl _) _)
  have HR0 := hid (show Row w0 w.heap.size 28 [.string s.name, .int .i64 s.height, .int .i64 s.time, .slice o1 s.clients.length c1, .slice o2 s.conns.length c2, .slice o3 s.chans.length c3, .slice o4 s.sent.length c4, .slice o5 s.got.length c5, .slice o6 s.acks.length c6, .slice o7 s.purses.length c7] by rw [← hw0]; exact Row.new _ _ _)
  have HW0 := hid hw0
  clear hv hpow hfit hw0 htab
  have heq : (wrongS s != wrongS s) = false := by simp
  have heq2 : (wrongS s == wrongS s) = true := by simp
  go_enter Tryz.func3, Tryz.ntmps3
  go_upto_region 1 with fail
  rw [HW0.out]
  refine stTellsR1 s o1 o2 o3 o4 o5 o6 o7 c1 c2 c3 c4 c5 c6 c7 (Nat.le_trans hN HB0.out.size) HR0 (hid (HSV.out _ HB0.out)) HSF _ (hid ?_)
  intro σ w1 hb1 e4
  have HB1 := hid (HB0.out.trans (hb1.mono HB0.out.size))
  have HR1 := hid (HR0.out.below hb1 HR0.out.lt)
  rw [e4]
  clear hb1 e4
  have k0 : w1.cell? ⟨w.heap.size, 0, none⟩ = some (.string s.name) := HR1.out.cell 0
  have k1 : w1.cell? ⟨w.heap.size, 1, none⟩ = some (.int .i64 s.height) := HR1.out.cell 1
  have k2 : w1.cell? ⟨w.heap.size, 2, none⟩ = some (.int .i64 s.time) := HR1.out.cell 2
  have k3 : w1.cell? ⟨w.heap.size, 3, none⟩ = some (.slice o1 s.clients.length c1) := HR1.out.cell 3
  have k4 : w1.cell? ⟨w.heap.size, 4, none⟩ = some (.slice o2 s.conns.length c2) := HR1.out.cell 4
  have k5 : w1.cell? ⟨w.heap.size, 5, none⟩ = some (.slice o3 s.chans.length c3) := HR1.out.cell 5
  have k6 : w1.cell? ⟨w.heap.size, 6, none⟩ = some (.slice o4 s.sent.length c4) := HR1.out.cell 6
  have k7 : w1.cell? ⟨w.heap.size, 7, none⟩ = some (.slice o5 s.got.length c5) := HR1.out.cell 7
  have k8 : w1.cell? ⟨w.heap.size, 8, none⟩ = some (.slice o6 s.acks.length c6) := HR1.out.cell 8
  have k9 : w1.cell? ⟨w.heap.size, 9, none⟩ = some (.slice o7 s.purses.length c7) := HR1.out.cell 9
  go_wp2_with fail
  refine (HBK.out _ HB1.out).mono ?_
  rintro e w2 ⟨hb2, ob, nb, cb, rfl, hp2⟩
  have HB2 := hid (HB1.out.trans (hb2.mono HB1.out.size))
  have HR2 := hid (HR1.out.below hb2 HR1.out.lt)
  have HP2 := hid hp2
  clear hb2 hp2 k0 k1 k2 k3 k4 k5 k6 k7 k8 k9
  have k0 : w2.cell? ⟨w.heap.size, 0, none⟩ = some (.string s.name) := HR2.out.cell 0
  have k1 : w2.cell? ⟨w.heap.size, 1, none⟩ = some (.int .i64 s.height) := HR2.out.cell 1
  have k2 : w2.cell? ⟨w.heap.size, 2, none⟩ = some (.int .i64 s.time) := HR2.out.cell 2
  have k3 : w2.cell? ⟨w.heap.size, 3, none⟩ = some (.slice o1 s.clients.length c1) := HR2.out.cell 3
  have k4 : w2.cell? ⟨w.heap.size, 4, none⟩ = some (.slice o2 s.conns.length c2) := HR2.out.cell 4
  have k5 : w2.cell? ⟨w.heap.size, 5, none⟩ = some (.slice o3 s.chans.length c3) := HR2.out.cell 5
  have k6 : w2.cell? ⟨w.heap.size, 6, none⟩ = some (.slice o4 s.sent.length c4) := HR2.out.cell 6
  have k7 : w2.cell? ⟨w.heap.size, 7, none⟩ = some (.slice o5 s.got.length c5) := HR2.out.cell 7
  have k8 : w2.cell? ⟨w.heap.size, 8, none⟩ = some (.slice o6 s.acks.length c6) := HR2.out.cell 8
  have k9 : w2.cell? ⟨w.heap.size, 9, none⟩ = some (.slice o7 s.purses.length c7) := HR2.out.cell 9
  go_wp2_with fail
  refine (HBR.out _ HB2.out).mono ?_
  rintro e w3 ⟨hb3, od, nd, cd, rfl, hp3⟩
  have HB3 := hid (HB2.out.trans (hb3.mono HB2.out.size))
  have HR3 := hid (HR2.out.below hb3 HR2.out.lt)
  have HSM := hid (samePr_any (bookR s) (bookR s) (.slice ob nb cb) (.slice od nd cd) w2.heap.size w3.heap.size w3 (HP2.out.below hb3) hp3 (bookR_len s) (bookR_fit s) (bookR_fit s))
  clear hb3 hp3 k0 k1 k2 k3 k4 k5 k6 k7 k8 k9
  go_wp2_with fail
  refine HSM.out.mono ?_
  rintro e w4 ⟨bb, rfl, hbb, n4, hw4⟩
  obtain rfl : bb = true := hbb.2 (by simp)
  have hb4 : Below w3.heap.size w3 w4 := by rw [hw4]; exact below_drewH _ _ _
  have HB4 := hid (HB3.out.trans (hb4.mono HB3.out.size))
  have HR4 := hid (HR3.out.below hb4 HR3.out.lt)
  clear hbb hb4 hw4
  have k0 : w4.cell? ⟨w.heap.size, 0, none⟩ = some (.string s.name) := HR4.out.cell 0
  have k1 : w4.cell? ⟨w.heap.size, 1, none⟩ = some (.int .i64 s.height) := HR4.out.cell 1
  have k2 : w4.cell? ⟨w.heap.size, 2, none⟩ = some (.int .i64 s.time) := HR4.out.cell 2
  have k3 : w4.cell? ⟨w.heap.size, 3, none⟩ = some (.slice o1 s.clients.length c1) := HR4.out.cell 3
  have k4 : w4.cell? ⟨w.heap.size, 4, none⟩ = some (.slice o2 s.conns.length c2) := HR4.out.cell 4
  have k5 : w4.cell? ⟨w.heap.size, 5, none⟩ = some (.slice o3 s.chans.length c3) := HR4.out.cell 5
  have k6 : w4.cell? ⟨w.heap.size, 6, none⟩ = some (.slice o4 s.sent.length c4) := HR4.out.cell 6
  have k7 : w4.cell? ⟨w.heap.size, 7, none⟩ = some (.slice o5 s.got.length c5) := HR4.out.cell 7
  have k8 : w4.cell? ⟨w.heap.size, 8, none⟩ = some (.slice o6 s.acks.length c6) := HR4.out.cell 8
  have k9 : w4.cell? ⟨w.heap.size, 9, none⟩ = some (.slice o7 s.purses.length c7) := HR4.out.cell 9
  go_wp2_with fail
  refine (HRT.out _ HB4.out).mono ?_
  rintro e w5 ⟨hb5, oe, ne, ce, rfl, hp5⟩
  have HB5 := hid (HB4.out.trans (hb5.mono HB4.out.size))
  have HR5 := hid (HR4.out.below hb5 HR4.out.lt)
  have HP5 := hid hp5
  clear hb5 hp5 k0 k1 k2 k3 k4 k5 k6 k7 k8 k9
  have k0 : w5.cell? ⟨w.heap.size, 0, none⟩ = some (.string s.name) := HR5.out.cell 0
  have k1 : w5.cell? ⟨w.heap.size, 1, none⟩ = some (.int .i64 s.height) := HR5.out.cell 1
  have k2 : w5.cell? ⟨w.heap.size, 2, none⟩ = some (.int .i64 s.time) := HR5.out.cell 2
  have k3 : w5.cell? ⟨w.heap.size, 3, none⟩ = some (.slice o1 s.clients.length c1) := HR5.out.cell 3
  have k4 : w5.cell? ⟨w.heap.size, 4, none⟩ = some (.slice o2 s.conns.length c2) := HR5.out.cell 4
  have k5 : w5.cell? ⟨w.heap.size, 5, none⟩ = some (.slice o3 s.chans.length c3) := HR5.out.cell 5
  have k6 : w5.cell? ⟨w.heap.size, 6, none⟩ = some (.slice o4 s.sent.length c4) := HR5.out.cell 6
  have k7 : w5.cell? ⟨w.heap.size, 7, none⟩ = some (.slice o5 s.got.length c5) := HR5.out.cell 7
  have k8 : w5.cell? ⟨w.heap.size, 8, none⟩ = some (.slice o6 s.acks.length c6) := HR5.out.cell 8
  have k9 : w5.cell? ⟨w.heap.size, 9, none⟩ = some (.slice o7 s.purses.length c7) := HR5.out.cell 9
  go_wp2_with fail
  refine (HRR.out _ HB5.out).mono ?_
  rintro e w6 ⟨hb6, of, nf, cf, rfl, hp6⟩
  have HB6 := hid (HB5.out.trans (hb6.mono HB5.out.size))
  have HSB := hid (sameB_any (rootR s) (rootR s) (.slice oe ne ce) (.slice of nf cf) w5.heap.size w6.heap.size w6 (HP5.out.below hb6) hp6 rootR_len rootR_len)
  clear hb6 hp6 k0 k1 k2 k3 k4 k5 k6 k7 k8 k9
  go_wp2_with fail
  refine HSB.out.mono ?_
  rintro e w7 ⟨rfl, n7, hw7⟩
  have HB7 := hid (show Below w.heap.size w w7 by rw [hw7]; exact HB6.out.trans (below_drewH _ _ _))
  have hd : decide True = true := rfl
  rw [hd]
  clear hw7
  go_wp2
  go_ret
  exact ⟨rfl, HB7.out⟩
end Go.Proofs.YtooemgkjkngpcaaGreatDoor
