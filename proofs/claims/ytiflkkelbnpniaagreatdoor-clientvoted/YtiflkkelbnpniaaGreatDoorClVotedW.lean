/-
  ClientVoted returns true, whatever a client, an update and a time read as.
-/
import Derived.Test.YtiflkkelbnpniaaGreatDoorClFollow
import Derived.Test.YtiflkkelbnpniaaGreatDoorClAsk
import Derived.Test.YtiflkkelbnpniaaGreatDoorSameB
import Derived.Test.YtiflkkelbnpniaaGreatDoorRegions
import Derived.Test.YtiflkkelbnpniaaGreatDoorHdRDig
namespace Go.Proofs.YtiflkkelbnpniaaGreatDoor
open Go.RowKit

theorem wpOp_wants7 {P : Program} {ops : Array Oper} {Q : Exit → Act → World → Prop} {i : Nat} {o : Oper} {K : Act → World → Prop} {a : Act} {w : World} (ho : ops[i]? = some o) (hw : Region.wanted o (yielded ops a.tmps) = true) (h : o.wp P a w K Q) : wpOp P ops Q i K a w := by
  unfold wpOp
  rw [ho]
  simp only [hw, if_true]
  exact .inl h
set_option maxRecDepth 100000 in
set_option maxHeartbeats 4000000 in
theorem votedRegion {y0 y1 y2 y3 y5 y7 y8 y10 y11 y12 y13 y14 y15 y16 y17 y18 y19 y20 y21 y22 y23 y24 y25 y26 y27 y28 y29 y30 y31 y32 y33 y34 y35 y36 y37 y38 y39 y40 y41 y42 y43 y44 y45 y46 y47 y48 y49 y50 y51 y52 y53 y54 y55 y56 y57 y58 y59 y60 y61 y62 y63 y64 y65 y66 y67 y68 y69 y70 y71 y72 y73 y74 y75 y76 y77 y78 y79 y80 y81 y82 y83 y84 y85 z6 z86 z87 z88 z89 z90 z91 z92 z93 z94 z95 z96 z97 z98 : Value} {gu gk N M : Nat} (u : Up) (k : Kn) (o1 o2 o3 o4 o5 o6 p1 p2 : Option Addr) (c1 c2 c3 c4 c5 c6 d1 d2 : Nat) {w : World} (htab : Hid (tableAt w)) (hN : N ≤ w.heap.size) (hM : M ≤ w.heap.size) (hru : Hid (Row w gu 35 [.int .i64 u.frm, .string u.sg.hd.chain, .int .i64 u.sg.hd.height, .int .i64 u.sg.hd.time, .slice o1 u.sg.hd.root.length c1, .slice o2 u.sg.hd.vals.length c2, .slice o3 u.sg.hd.next.length c3, .slice o4 u.sg.vals.length c4, .slice o5 u.sg.votes.length c5, .slice o6 u.trusted.length c6])) (hrk : Hid (Row w gk 27 [.int .i64 k.height, .int .i64 k.time, .slice p1 k.root.length d1, .slice p2 k.next.length d2])) (ht : Hid (Vals w N (.slice o6 u.trusted.length c6) u.trusted)) (hsg : Hid (SgV w N (.agg #[.string u.sg.hd.chain, .int .i64 u.sg.hd.height, .int .i64 u.sg.hd.time, .slice o1 u.sg.hd.root.length c1, .slice o2 u.sg.hd.vals.length c2, .slice o3 u.sg.hd.next.length c3, .slice o4 u.sg.vals.length c4, .slice o5 u.sg.votes.length c5]) u.sg)) (hkb : Hid (Bytes w M (.slice p2 k.next.length d2) k.next)) (h10 : u.trusted.length ≤ 10) (hok : Hid (∀ v ∈ u.trusted, v.ok)) (hdg : Hid (digV u.trusted = k.next)) (hov : Hid (overB u.trusted u.sg = true)) (hvt : Hid (valsN u.trusted = 0)) (hvs : Hid (valsN u.sg.vals = 0)) (hvl : Hid (u.sg.votes.length = u.sg.vals.length)) (Q : Exit → Act → World → Prop)
    (hQ : Hid (∀ (σ : Nat → Value) (w' : World), Below w.heap.size w w' → /-13-/ σ 13 = .bool true → Q .normal ⟨#[y0, y1, y2, y3, .pointer (some ⟨gu, 0, none⟩), y5, σ 13, y7, y8, .pointer (some ⟨gk, 0, none⟩), y10, y11, y12, y13, y14, y15, y16, y17, y18, y19, y20, y21, y22, y23, y24, y25, y26, y27, y28, y29, y30, y31, y32, y33, y34, y35, y36, y37, y38, y39, y40, y41, y42, y43, y44, y45, y46, y47, y48, y49, y50, y51, y52, y53, y54, y55, y56, y57, y58, y59, y60, y61, y62, y63, y64, y65, y66, y67, y68, y69, y70, y71, y72, y73, y74, y75, y76, y77, y78, y79, y80, y81, y82, y83, y84, y85, σ 0, σ 1, σ 2, σ 3, σ 4, σ 5, σ 6, σ 7, σ 8, σ 9, σ 10, σ 11, σ 12], []⟩ w')) :
    Code.wp Tryz.prog (.region 13 ((Tryz.f4.body.bind (regOf 13)).getD #[]) true) Q ⟨#[y0, y1, y2, y3, .pointer (some ⟨gu, 0, none⟩), y5, z6, y7, y8, .pointer (some ⟨gk, 0, none⟩), y10, y11, y12, y13, y14, y15, y16, y17, y18, y19, y20, y21, y22, y23, y24, y25, y26, y27, y28, y29, y30, y31, y32, y33, y34, y35, y36, y37, y38, y39, y40, y41, y42, y43, y44, y45, y46, y47, y48, y49, y50, y51, y52, y53, y54, y55, y56, y57, y58, y59, y60, y61, y62, y63, y64, y65, y66, y67, y68, y69, y70, y71, y72, y73, y74, y75, y76, y77, y78, y79, y80, y81, y82, y83, y84, y85, z86, z87, z88, z89, z90, z91, z92, z93, z94, z95, z96, z97, z98], []⟩ w := by
  conv => arg 2; arg 2; whnf
  conv => arg 4; dsimp only
  refine region_grows (by kernel_rfl) (fun σ => #[y0, y1, y2, y3, .pointer (some ⟨gu, 0, none⟩), y5, σ 13, y7, y8, .pointer (some ⟨gk, 0, none⟩), y10, y11, y12, y13, y14, y15, y16, y17, y18, y19, y20, y21, y22, y23, y24, y25, y26, y27, y28, y29, y30, y31, y32, y33, y34, y35, y36, y37, y38, y39, y40, y41, y42, y43, y44, y45, y46, y47, y48, y49, y50, y51, y52, y53, y54, y55, y56, y57, y58, y59, y60, y61, y62, y63, y64, y65, y66, y67, y68, y69, y70, y71, y72, y73, y74, y75, y76, y77, y78, y79, y80, y81, y82, y83, y84, y85, σ 0, σ 1, σ 2, σ 3, σ 4, σ 5, σ 6, σ 7, σ 8, σ 9, σ 10, σ 11, σ 12]) (fun i => ([z86, z87, z88, z89, z90, z91, z92, z93, z94, z95, z96, z97, z98, z6] : List Value).getD i undef) rfl (fun i X W => match i with
    | 0 => X = .pointer (some ⟨gu, 9, none⟩)
    | 1 => X = .slice o6 u.trusted.length c6
    | 2 => Bytes W W.heap.size X (digV u.trusted)
    | 3 => X = .pointer (some ⟨gk, 3, none⟩)
    | 4 => X = .slice p2 k.next.length d2
    | 5 => X = .bool true
    | 6 => X = .bool true
    | 7 => X = .pointer (some ⟨gu, 9, none⟩)
    | 8 => X = .slice o6 u.trusted.length c6
    | 9 => X = .pointer (some ⟨gu, 1, none⟩)
    | 10 => X = .agg #[.string u.sg.hd.chain, .int .i64 u.sg.hd.height, .int .i64 u.sg.hd.time, .slice o1 u.sg.hd.root.length c1, .slice o2 u.sg.hd.vals.length c2, .slice o3 u.sg.hd.next.length c3, .slice o4 u.sg.vals.length c4, .slice o5 u.sg.votes.length c5]
    | 11 => X = .bool true
    | 12 => X = .bool true
    | 13 => X = .bool true
    | _ => True) ?_ (by kernel_rfl) ?_ ?_
  · intro i X W W' HB H
    match i, H with
    | 0, H => exact H
    | 1, H => exact H
    | 2, H => exact (H.below HB).mono HB.size
    | 3, H => exact H
    | 4, H => exact H
    | 5, H => exact H
    | 6, H => exact H
    | 7, H => exact H
    | 8, H => exact H
    | 9, H => exact H
    | 10, H => exact H
    | 11, H => exact H
    | 12, H => exact H
    | 13, H => exact H
    | _ + 14, _ => exact trivial
  · refine ⟨?_, ?_, ?_, ?_, ?_, ?_, ?_, ?_, ?_, ?_, ?_, ?_, ?_, ?_, trivial⟩
    · -- 0: Op.fieldAddr 35 t4 2
      intro σ W HJ hdep
      simp [Region.binds] at hdep
      have HJ := hid HJ
      refine wpOp_plain rfl rfl ?_
      go_simp
      exact Left.mk0 (.pointer (some ⟨gu, 9, none⟩)) (by first | rfl | simp [updF, *]) HJ.out rfl
    · -- 1: Op.load 30 t86
      intro σ W HJ hdep
      simp [Region.binds] at hdep
      have HJ := hid HJ
      have kc := (hru.out.below HJ.out hru.out.lt).cell 9
      simp at kc
      refine wpOp_plain rfl rfl ?_
      go_simp
      exact Left.mk0 (.slice o6 u.trusted.length c6) (by first | rfl | simp [updF, *]) HJ.out rfl
    · -- 2: Op.call { value (Operand.func 22), args := #[t87], argTypes 
      intro σ W HJ hdep
      simp [Region.binds] at hdep
      have HJ := hid HJ
      have HC := hid (refDigestC u.trusted (.slice o6 u.trusted.length c6) N W (htab.out.below HJ.out htab.out.lt) (ht.out.below (HJ.out.mono hN)) (Nat.le_trans hN HJ.out.size) h10 hok.out)
      refine wpOp_plain rfl rfl ?_
      go_simp
      refine (HC.out).mono ?_
      rintro e w2 ⟨v, rfl, hv2, hb2⟩
      exact Left.mk v (by first | rfl | simp [updF, *]) hb2 HJ.out hv2
    · -- 3: Op.fieldAddr 27 t9 3
      intro σ W HJ hdep
      simp [Region.binds] at hdep
      have HJ := hid HJ
      refine wpOp_plain rfl rfl ?_
      go_simp
      exact Left.mk0 (.pointer (some ⟨gk, 3, none⟩)) (by first | rfl | simp [updF, *]) HJ.out rfl
    · -- 4: Op.load 25 t89
      intro σ W HJ hdep
      simp [Region.binds] at hdep
      have HJ := hid HJ
      have kc := (hrk.out.below HJ.out hrk.out.lt).cell 3
      simp at kc
      refine wpOp_plain rfl rfl ?_
      go_simp
      exact Left.mk0 (.slice p2 k.next.length d2) (by first | rfl | simp [updF, *]) HJ.out rfl
    · -- 5: Op.call { value (Operand.func 21), args := #[t88, t90], argT
      intro σ W HJ hdep
      simp [Region.binds] at hdep
      have HJ := hid HJ
      have ha : Bytes W W.heap.size (σ 2) (digV u.trusted) := by first | exact hdep.1 | exact hdep.2.1 | exact hdep.2.2
      have e4 : σ 4 = .slice p2 k.next.length d2 := by first | exact hdep.2.1 | exact hdep.2 | exact hdep.1
      have HE := hid (sameB_any (digV u.trusted) k.next (σ 2) (.slice p2 k.next.length d2) W.heap.size M W ha (hkb.out.below (HJ.out.mono hM)) (by rw [digV_length]; omega) (by rw [← hdg.out, digV_length]; omega))
      rw [decide_eq_true hdg.out] at HE
      clear ha
      refine wpOp_plain rfl rfl ?_
      go_simp
      refine HE.out.mono ?_
      rintro e w2 ⟨rfl, nq, rfl⟩
      exact Left.mk (.bool true) (by first | rfl | simp [updF, *]) (below_drewH W nq _) HJ.out rfl
    · -- 6: Op.move t91
      intro σ W HJ hdep
      simp [Region.binds] at hdep
      have HJ := hid HJ
      refine wpOp_plain rfl rfl ?_
      go_simp
      exact Left.mk0 (.bool true) (by first | rfl | simp [updF, *]) HJ.out rfl
    · -- 7: Op.fieldAddr 35 t4 2   [guarded: some (6, true)]
      intro σ W HJ hdep
      simp [Region.binds] at hdep
      have HJ := hid HJ
      refine wpOp_wants7 rfl (by simp [Region.wanted, yielded, *]) ?_
      go_simp
      exact Left.mk0 (.pointer (some ⟨gu, 9, none⟩)) (by first | rfl | simp [updF, *]) HJ.out rfl
    · -- 8: Op.load 30 t93   [guarded: some (6, true)]
      intro σ W HJ hdep
      simp [Region.binds] at hdep
      have HJ := hid HJ
      have kc := (hru.out.below HJ.out hru.out.lt).cell 9
      simp at kc
      refine wpOp_wants7 rfl (by simp [Region.wanted, yielded, *]) ?_
      go_simp
      exact Left.mk0 (.slice o6 u.trusted.length c6) (by first | rfl | simp [updF, *]) HJ.out rfl
    · -- 9: Op.fieldAddr 35 t4 1   [guarded: some (6, true)]
      intro σ W HJ hdep
      simp [Region.binds] at hdep
      have HJ := hid HJ
      refine wpOp_wants7 rfl (by simp [Region.wanted, yielded, *]) ?_
      go_simp
      exact Left.mk0 (.pointer (some ⟨gu, 1, none⟩)) (by first | rfl | simp [updF, *]) HJ.out rfl
    · -- 10: Op.load 33 t95   [guarded: some (6, true)]
      intro σ W HJ hdep
      simp [Region.binds] at hdep
      have HJ := hid HJ
      have k1 := (hru.out.below HJ.out hru.out.lt).cell 1
      have k2 := (hru.out.below HJ.out hru.out.lt).cell 2
      have k3 := (hru.out.below HJ.out hru.out.lt).cell 3
      have k4 := (hru.out.below HJ.out hru.out.lt).cell 4
      have k5 := (hru.out.below HJ.out hru.out.lt).cell 5
      have k6 := (hru.out.below HJ.out hru.out.lt).cell 6
      have k7 := (hru.out.below HJ.out hru.out.lt).cell 7
      have k8 := (hru.out.below HJ.out hru.out.lt).cell 8
      simp at k1
      simp at k2
      simp at k3
      simp at k4
      simp at k5
      simp at k6
      simp at k7
      simp at k8
      refine wpOp_wants7 rfl (by simp [Region.wanted, yielded, *]) ?_
      go_simp
      exact Left.mk0 (.agg #[.string u.sg.hd.chain, .int .i64 u.sg.hd.height, .int .i64 u.sg.hd.time, .slice o1 u.sg.hd.root.length c1, .slice o2 u.sg.hd.vals.length c2, .slice o3 u.sg.hd.next.length c3, .slice o4 u.sg.vals.length c4, .slice o5 u.sg.votes.length c5]) (by first | rfl | simp [updF, *]) HJ.out rfl
    · -- 11: Op.call { value (Operand.func 23), args := #[t94, t96], argT
      intro σ W HJ hdep
      simp [Region.binds] at hdep
      have HJ := hid HJ
      have HC := hid (overC u.trusted u.sg (.slice o6 u.trusted.length c6) (.agg #[.string u.sg.hd.chain, .int .i64 u.sg.hd.height, .int .i64 u.sg.hd.time, .slice o1 u.sg.hd.root.length c1, .slice o2 u.sg.hd.vals.length c2, .slice o3 u.sg.hd.next.length c3, .slice o4 u.sg.vals.length c4, .slice o5 u.sg.votes.length c5]) N W (Nat.le_trans hN HJ.out.size) (ht.out.below (HJ.out.mono hN)) (hsg.out.below (HJ.out.mono hN)) hvt.out hok.out hvs.out hvl.out)
      rw [hov.out] at HC
      refine wpOp_wants7 rfl (by simp [Region.wanted, yielded, *]) ?_
      go_simp
      refine (HC.out).mono ?_
      rintro e w2 ⟨rfl, hb2⟩
      exact Left.mk (.bool true) (by first | rfl | simp [updF, *]) hb2 HJ.out rfl
    · -- 12: Op.pick t92 t97 (const (Value.bool false))
      intro σ W HJ hdep
      simp [Region.binds] at hdep
      have HJ := hid HJ
      refine wpOp_plain rfl rfl ?_
      go_simp
      exact Left.mk0 (.bool true) (by first | rfl | simp [updF, *]) HJ.out rfl
    · -- 13: Op.assign t98
      intro σ W HJ hdep
      simp [Region.binds] at hdep
      have HJ := hid HJ
      refine wpOp_plain rfl rfl ?_
      go_simp
      exact Left.mk0 (.bool true) (by first | rfl | simp [updF, *]) HJ.out rfl
  · intro σ w' hb hg
    exact hQ.out σ w' hb (by first | exact ⟨hg 13 (by decide)⟩ | exact hg 13 (by decide))
set_option maxRecDepth 100000 in
set_option maxHeartbeats 8000000 in
theorem clientVoted_any (c : Cl) (u : Up) (now : Int) (cv uv : Value) (N : Nat) (w : World) (htab : tableAt w) (hN : N ≤ w.heap.size) (hcv : ClV w N cv c) (huv : UpV w N uv u) (hcf : c.fits) (huf : u.fits) :
    Calls Tryz.prog 4 #[cv, uv, .int .i64 now] w fun e w' => e = .returned (.bool true) ∧ Below w.heap.size w w' := by
  have HF1 := hid (show ∀ wx, Below w.heap.size w wx → _ from fun wx hx => clFollowC c u now cv uv N wx (htab.below hx htab.lt) (Nat.le_trans hN hx.size) (hcv.below (hx.mono hN)) (huv.below (hx.mono hN)) hcf huf)
  have HAT := hid (show ∀ (h : Int) (wx : World), Below w.heap.size w wx → _ from fun h wx hx => atC c h cv N wx (hcv.below (hx.mono hN)) (Nat.le_trans hN hx.size) hcf)
  have HTAB := hid htab
  have HCF := hid hcf
  have HUF := hid huf
  obtain ⟨kv, rfl, hk⟩ := hcv
  obtain ⟨oa, ca, rfl, hca⟩ := hk.shape
  obtain ⟨o1, c1, o2, c2, o3, c3, o4, c4, o5, c5, o6, c6, rfl, g1, g2, g3, g4, g5, g6⟩ := huv.open
  have HSG := hid (show SgV w N (.agg #[.string u.sg.hd.chain, .int .i64 u.sg.hd.height, .int .i64 u.sg.hd.time, .slice o1 u.sg.hd.root.length c1, .slice o2 u.sg.hd.vals.length c2, .slice o3 u.sg.hd.next.length c3, .slice o4 u.sg.vals.length c4, .slice o5 u.sg.votes.length c5]) u.sg from ⟨_, _, _, _, _, rfl, g1, g2, g3, g4, g5⟩)
  have HG2 := hid g2
  have HT := hid g6
  have HCK := hid (show ∀ wx, Below w.heap.size w wx → _ from fun wx hx => checkC u.sg (.agg #[.string u.sg.hd.chain, .int .i64 u.sg.hd.height, .int .i64 u.sg.hd.time, .slice o1 u.sg.hd.root.length c1, .slice o2 u.sg.hd.vals.length c2, .slice o3 u.sg.hd.next.length c3, .slice o4 u.sg.vals.length c4, .slice o5 u.sg.votes.length c5]) N wx (HTAB.out.below hx HTAB.out.lt) (Nat.le_trans hN hx.size) (HSG.out.below (hx.mono hN)) HUF.out.1)
  obtain ⟨w0, hw0⟩ : ∃ w0, (w.alloc (.cells #[.string c.chain, .int .i64 c.trust, .bool c.frozen, .slice oa c.known.length ca] 24)).alloc (.cells #[.int .i64 u.frm, .string u.sg.hd.chain, .int .i64 u.sg.hd.height, .int .i64 u.sg.hd.time, .slice o1 u.sg.hd.root.length c1, .slice o2 u.sg.hd.vals.length c2, .slice o3 u.sg.hd.next.length c3, .slice o4 u.sg.vals.length c4, .slice o5 u.sg.votes.length c5, .slice o6 u.trusted.length c6] 35) = w0 := ⟨_, rfl⟩
  have HB0 := hid (show Below w.heap.size w w0 by rw [← hw0]; exact ((Below.refl _ _).alloc (Nat.le_refl _) _).alloc (by simp) _)
  have HRC0 := hid (show Row w0 w.heap.size 24 [.string c.chain, .int .i64 c.trust, .bool c.frozen, .slice oa c.known.length ca] by rw [← hw0]; exact (Row.new _ _ _).alloc _)
  have HRU0 := hid (show Row w0 (w.heap.size + 1) 35 [.int .i64 u.frm, .string u.sg.hd.chain, .int .i64 u.sg.hd.height, .int .i64 u.sg.hd.time, .slice o1 u.sg.hd.root.length c1, .slice o2 u.sg.hd.vals.length c2, .slice o3 u.sg.hd.next.length c3, .slice o4 u.sg.vals.length c4, .slice o5 u.sg.votes.length c5, .slice o6 u.trusted.length c6] by rw [← hw0]; exact Row.newAt _ _ _ _ (by simp))
  have HW0 := hid hw0
  clear htab hcf huf hk huv hw0 hca g1 g2 g3 g4 g5 g6
  go_enter Tryz.func4, Tryz.ntmps4
  go_wp2_with fail
  rw [HW0.out]
  refine (alive7_any w0).mono ?_
  rintro e w1 ⟨rfl, hb1⟩
  have HB1 := hid (HB0.out.trans (hb1.mono HB0.out.size))
  have HRC1 := hid (HRC0.out.below hb1 HRC0.out.lt)
  have HRU1 := hid (HRU0.out.below hb1 HRU0.out.lt)
  obtain ⟨⟨a0, a1, a2, a3⟩, -⟩ := HRC1.out.four
  obtain ⟨⟨i0, i1, i2, i3, i4⟩, i5, i6, i7, i8, i9⟩ := HRU1.out.ten
  clear hb1
  go_wp2_with fail
  refine (HF1.out _ HB1.out).mono ?_
  rintro e w2 ⟨hb2, od, nd, md, rfl, hkd⟩
  have HB2 := hid (HB1.out.trans (hb2.mono HB1.out.size))
  have HRC2 := hid (HRC1.out.below hb2 HRC1.out.lt)
  have HRU2 := hid (HRU1.out.below hb2 HRU1.out.lt)
  clear hb2 hkd a0 a1 a2 a3 i0 i1 i2 i3 i4 i5 i6 i7 i8 i9
  by_cases he : followE c u now = 0
  · rw [he]
    obtain ⟨hck, k, hat, hkh, hch, htr, hgt, htm, hcase⟩ := follow_voted he
    have hwc := (wrongCl_iff c).1 (follow_right he).1
    have hnow := (askedN_ok (followE_ok he).1).2.1
    have hkt := ((wrongK_iff k).1 (hwc.2.2.2.1 k (atK_some hat).1)).1
    have hww : IntKind.i64.wrap (now - k.time) = now - k.time := by rw [IntKind.wrap_i64]; omega
    have hwf : IntKind.i64.wrap (u.frm + 1) = u.frm + 1 := by rw [IntKind.wrap_i64]; omega
    have HZ := hid hck
    have HKA := hid hat
    have HCA := hid hcase
    have HKN := hid ((wrongK_iff k).1 (hwc.2.2.2.1 k (atK_some hat).1)).2.2
    have HVS := hid (checkN_right hck).2
    have HVL := hid (checkN_ok hck).2.1
    have ec1 : (u.sg.hd.chain.toList == c.chain.toList) = true := by rw [hch]; simp
    have ec2 : (u.sg.hd.chain.toList != c.chain.toList) = false := by rw [hch]; simp
    have eg : decide (u.sg.hd.height ≤ u.frm) = false := by simp; omega
    have et : decide (c.trust ≤ now - k.time) = false := by simp; omega
    have em : decide (u.sg.hd.time ≤ k.time) = false := by simp; omega
    clear he hck hat hkh hch htr hgt htm hcase hwc hnow hkt
    generalize followC c u now = d at *
    obtain ⟨w3, hw3⟩ : ∃ w3, w2.alloc (.cells #[.string d.chain, .int .i64 d.trust, .bool d.frozen, .slice od nd md] 24) = w3 := ⟨_, rfl⟩
    have hb3 : Below w2.heap.size w2 w3 := by rw [← hw3]; exact (Below.refl _ _).alloc (Nat.le_refl _) _
    have HB3 := hid (HB2.out.trans (hb3.mono HB2.out.size))
    have HRC3 := hid (HRC2.out.below hb3 HRC2.out.lt)
    have HRU3 := hid (HRU2.out.below hb3 HRU2.out.lt)
    have HW3 := hid hw3
    have hlt2 : w.heap.size + 1 < w2.heap.size := HRU2.out.lt
    have hne2 : w.heap.size + 1 ≠ w2.heap.size := by omega
    obtain ⟨⟨i0, i1, i2, i3, i4⟩, i5, i6, i7, i8, i9⟩ := HRU2.out.ten
    clear hb3 hw3
    go_wp2_with fail
    rw [HW3.out]
    refine (HCK.out _ HB3.out).mono ?_
    rintro e w4 ⟨rfl, hb4⟩
    rw [HZ.out]
    have HB4 := hid (HB3.out.trans (hb4.mono HB3.out.size))
    have HRC4 := hid (HRC3.out.below hb4 HRC3.out.lt)
    have HRU4 := hid (HRU3.out.below hb4 HRU3.out.lt)
    clear hb4 hlt2 hne2 i0 i1 i2 i3 i4 i5 i6 i7 i8 i9
    obtain ⟨⟨a0, a1, a2, a3⟩, -⟩ := HRC4.out.four
    obtain ⟨⟨i0, i1, i2, i3, i4⟩, i5, i6, i7, i8, i9⟩ := HRU4.out.ten
    go_wp2_with fail
    refine (HAT.out u.frm _ HB4.out).mono ?_
    rintro e w5 ⟨hb5, p1, d1, p2, d2, rfl, hx1, hx2⟩
    rw [HKA.out]
    rw [knAt_some HKA.out] at hx2
    rw [knAt_some HKA.out]
    simp only [Option.isSome]
    have HB5 := hid (HB4.out.trans (hb5.mono HB4.out.size))
    have HRC5 := hid (HRC4.out.below hb5 HRC4.out.lt)
    have HRU5 := hid (HRU4.out.below hb5 HRU4.out.lt)
    obtain ⟨w6, hw6⟩ : ∃ w6, w5.alloc (.cells #[.int .i64 k.height, .int .i64 k.time, .slice p1 k.root.length d1, .slice p2 k.next.length d2] 27) = w6 := ⟨_, rfl⟩
    have hb6 : Below w5.heap.size w5 w6 := by rw [← hw6]; exact (Below.refl _ _).alloc (Nat.le_refl _) _
    have HB6 := hid (HB5.out.trans (hb6.mono HB5.out.size))
    have HRC6 := hid (HRC5.out.below hb6 HRC5.out.lt)
    have HRU6 := hid (HRU5.out.below hb6 HRU5.out.lt)
    have HRK6 := hid (show Row w6 w5.heap.size 27 [.int .i64 k.height, .int .i64 k.time, .slice p1 k.root.length d1, .slice p2 k.next.length d2] by rw [← hw6]; exact Row.new _ _ _)
    have HX2 := hid ((hx2.below hb6).mono hb6.size)
    clear hb5 hb6 hx1 hx2 a0 a1 a2 a3 i0 i1 i2 i3 i4 i5 i6 i7 i8 i9
    obtain ⟨⟨a0, a1, a2, a3⟩, -⟩ := HRC6.out.four
    obtain ⟨⟨i0, i1, i2, i3, i4⟩, i5, i6, i7, i8, i9⟩ := HRU6.out.ten
    obtain ⟨⟨q0, q1, q2, q3⟩, -⟩ := HRK6.out.four
    rcases HCA.out with ⟨h1, h2⟩ | ⟨h1, h2, h3, h4⟩
    · have eq1 : (u.sg.hd.height == u.frm + 1) = true := by rw [beq_iff_eq]; exact h1
      have HSM := hid (sameB_any k.next u.sg.hd.vals (.slice p2 k.next.length d2) (.slice o2 u.sg.hd.vals.length c2) w6.heap.size N w6 HX2.out (HG2.out.below (HB6.out.mono hN)) (by rw [HKN.out]; decide) (by rw [h2, HKN.out]; decide))
      rw [decide_eq_true h2.symm] at HSM
      clear h1 h2
      go_wp2_with fail
      refine HSM.out.mono ?_
      rintro e w7 ⟨rfl, hdr⟩
      have HB7 := hid (show Below w.heap.size w w7 by obtain ⟨q, hq⟩ := hdr; rw [hq]; exact HB6.out.trans (below_drewH _ _ _))
      clear hdr
      go_wp2
      go_ret
      exact ⟨by first | done | rfl, HB7.out⟩
    · have eq1 : (u.sg.hd.height == u.frm + 1) = false := by rw [beq_eq_false_iff_ne]; exact h1
      have H2 := hid h2
      have H3 := hid h3
      have H4 := hid h4
      have h10 := (valsN_ok h2).2.1
      clear h1 h2 h3 h4
      go_wp2_with fail
      refine votedRegion u k o1 o2 o3 o4 o5 o6 p1 p2 c1 c2 c3 c4 c5 c6 d1 d2 (hid (HTAB.out.below HB6.out HTAB.out.lt)) (Nat.le_trans hN HB6.out.size) (Nat.le_refl _) HRU6 HRK6 (hid (HT.out.below (HB6.out.mono hN))) (hid (HSG.out.below (HB6.out.mono hN))) HX2 h10 (hid HUF.out.2.2) H3 H4 H2 HVS HVL _ (hid ?_)
      intro σ1 w7 hb7 h13
      have HB7 := hid (HB6.out.trans (hb7.mono HB6.out.size))
      rw [h13]
      clear hb7 h13
      go_wp2
      go_ret
      exact ⟨by first | done | rfl, HB7.out⟩
  · have e1 : (followE c u now != 0) = true := by simpa using he
    clear he
    generalize followE c u now = z at *
    generalize followC c u now = d at *
    go_wp2
    go_ret
    exact ⟨by first | done | rfl, HB2.out.alloc HB2.out.size _⟩
end Go.Proofs.YtiflkkelbnpniaaGreatDoor
