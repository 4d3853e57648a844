/-
  What the document's Believe answers: why an update is not believed.
-/
import Derived.Test.YtiflkkelbnpniaaGreatDoorClFollow
import Derived.Test.YtiflkkelbnpniaaGreatDoorClRAsk
import Derived.Test.YtiflkkelbnpniaaGreatDoorSameB
import Derived.Test.YtiflkkelbnpniaaGreatDoorRegions
import Derived.Test.YtiflkkelbnpniaaGreatDoorHdRDig
import Derived.Test.YtiflkkelbnpniaaGreatDoorHdRCheckAll
import Derived.Test.YtiflkkelbnpniaaGreatDoorHdROver
namespace Go.Proofs.YtiflkkelbnpniaaGreatDoor
open Go.RowKit

set_option maxRecDepth 100000 in
set_option maxHeartbeats 4000000 in
theorem believeRegion {y0 y1 y2 y3 y5 y6 y7 y9 y10 y11 y12 y13 y14 y15 y16 y17 y18 y19 y20 y21 y22 y23 y24 y25 y26 y27 y28 y29 y30 y31 y32 y33 y34 y35 y36 y37 y38 y39 y40 y41 y42 y43 y44 y45 y46 y47 y48 y49 y50 y51 y52 y53 y54 y55 y56 y57 y58 y59 y60 y61 y62 y63 y64 y65 y66 y67 y68 y69 y70 y71 y72 y73 y74 y75 y76 y84 y85 y86 y87 y88 y89 z77 z78 z79 z80 z81 z82 z83 : Value} {gu gk N M : Nat} (u : Up) (k : Kn) (o1 o2 o3 o4 o5 o6 p1 p2 : Option Addr) (c1 c2 c3 c4 c5 c6 d1 d2 : Nat) {w : World} (htab : Hid (tableAt w)) (hN : N ≤ w.heap.size) (hM : M ≤ w.heap.size) (hru : Hid (Row w gu 35 [.int .i64 u.frm, .string u.sg.hd.chain, .int .i64 u.sg.hd.height, .int .i64 u.sg.hd.time, .slice o1 u.sg.hd.root.length c1, .slice o2 u.sg.hd.vals.length c2, .slice o3 u.sg.hd.next.length c3, .slice o4 u.sg.vals.length c4, .slice o5 u.sg.votes.length c5, .slice o6 u.trusted.length c6])) (hrk : Hid (Row w gk 27 [.int .i64 k.height, .int .i64 k.time, .slice p1 k.root.length d1, .slice p2 k.next.length d2])) (ht : Hid (Vals w N (.slice o6 u.trusted.length c6) u.trusted)) (hkb : Hid (Bytes w M (.slice p2 k.next.length d2) k.next)) (h10 : u.trusted.length ≤ 10) (hok : Hid (∀ v ∈ u.trusted, v.ok)) (hkl : k.next.length < 2305843009213693952) (Q : Exit → Act → World → Prop)
    (hQ : Hid (∀ (σ : Nat → Value) (w' : World), Below w.heap.size w w' → /-6-/ σ 6 = .bool (!decide (digV u.trusted = k.next)) → Q .normal ⟨#[y0, y1, y2, y3, .pointer (some ⟨gu, 0, none⟩), y5, y6, y7, .pointer (some ⟨gk, 0, none⟩), y9, y10, y11, y12, y13, y14, y15, y16, y17, y18, y19, y20, y21, y22, y23, y24, y25, y26, y27, y28, y29, y30, y31, y32, y33, y34, y35, y36, y37, y38, y39, y40, y41, y42, y43, y44, y45, y46, y47, y48, y49, y50, y51, y52, y53, y54, y55, y56, y57, y58, y59, y60, y61, y62, y63, y64, y65, y66, y67, y68, y69, y70, y71, y72, y73, y74, y75, y76, σ 0, σ 1, σ 2, σ 3, σ 4, σ 5, σ 6, y84, y85, y86, y87, y88, y89], []⟩ w')) :
    Code.wp Tryz.prog (.region 23 ((Tryz.f37.body.bind (regOf 23)).getD #[]) true) Q ⟨#[y0, y1, y2, y3, .pointer (some ⟨gu, 0, none⟩), y5, y6, y7, .pointer (some ⟨gk, 0, none⟩), y9, y10, y11, y12, y13, y14, y15, y16, y17, y18, y19, y20, y21, y22, y23, y24, y25, y26, y27, y28, y29, y30, y31, y32, y33, y34, y35, y36, y37, y38, y39, y40, y41, y42, y43, y44, y45, y46, y47, y48, y49, y50, y51, y52, y53, y54, y55, y56, y57, y58, y59, y60, y61, y62, y63, y64, y65, y66, y67, y68, y69, y70, y71, y72, y73, y74, y75, y76, z77, z78, z79, z80, z81, z82, z83, y84, y85, y86, y87, y88, y89], []⟩ w := by
  conv => arg 2; arg 2; whnf
  conv => arg 4; dsimp only
  refine region_grows (by kernel_rfl) (fun σ => #[y0, y1, y2, y3, .pointer (some ⟨gu, 0, none⟩), y5, y6, y7, .pointer (some ⟨gk, 0, none⟩), y9, y10, y11, y12, y13, y14, y15, y16, y17, y18, y19, y20, y21, y22, y23, y24, y25, y26, y27, y28, y29, y30, y31, y32, y33, y34, y35, y36, y37, y38, y39, y40, y41, y42, y43, y44, y45, y46, y47, y48, y49, y50, y51, y52, y53, y54, y55, y56, y57, y58, y59, y60, y61, y62, y63, y64, y65, y66, y67, y68, y69, y70, y71, y72, y73, y74, y75, y76, σ 0, σ 1, σ 2, σ 3, σ 4, σ 5, σ 6, y84, y85, y86, y87, y88, y89]) (fun i => ([z77, z78, z79, z80, z81, z82, z83] : List Value).getD i undef) rfl (fun i X W => match i with
    | 0 => X = .pointer (some ⟨gu, 9, none⟩)
    | 1 => X = .slice o6 u.trusted.length c6
    | 2 => Bytes W W.heap.size X (digV u.trusted)
    | 3 => X = .pointer (some ⟨gk, 3, none⟩)
    | 4 => X = .slice p2 k.next.length d2
    | 5 => X = .bool (decide (digV u.trusted = k.next))
    | 6 => X = .bool (!decide (digV u.trusted = k.next))
    | _ => True) ?_ (by kernel_rfl) ?_ ?_
  · intro i X W W' HB H
    match i, H with
    | 0, H => exact H
    | 1, H => exact H
    | 2, H => exact (H.below HB).mono HB.size
    | 3, H => exact H
    | 4, H => exact H
    | 5, H => exact H
    | 6, H => exact H
    | _ + 7, _ => exact trivial
  · refine ⟨?_, ?_, ?_, ?_, ?_, ?_, ?_, trivial⟩
    · -- 0: Op.fieldAddr 35 t4 2
      intro σ W HJ hdep
      simp [Region.binds] at hdep
      have HJ := hid HJ
      refine wpOp_plain rfl rfl ?_
      go_simp
      exact Left.mk0 (.pointer (some ⟨gu, 9, none⟩)) (by first | rfl | simp [updF, *]) HJ.out rfl
    · -- 1: Op.load 30 t77
      intro σ W HJ hdep
      simp [Region.binds] at hdep
      have HJ := hid HJ
      have kc := (hru.out.below HJ.out hru.out.lt).cell 9
      simp at kc
      refine wpOp_plain rfl rfl ?_
      go_simp
      exact Left.mk0 (.slice o6 u.trusted.length c6) (by first | rfl | simp [updF, *]) HJ.out rfl
    · -- 2: Op.call { value (Operand.func 22), args := #[t78], argTypes 
      intro σ W HJ hdep
      simp [Region.binds] at hdep
      have HJ := hid HJ
      have HC := hid (refDigestC u.trusted (.slice o6 u.trusted.length c6) N W (htab.out.below HJ.out htab.out.lt) (ht.out.below (HJ.out.mono hN)) (Nat.le_trans hN HJ.out.size) h10 hok.out)
      refine wpOp_plain rfl rfl ?_
      go_simp
      refine (HC.out).mono ?_
      rintro e w2 ⟨v, rfl, hv2, hb2⟩
      exact Left.mk v (by first | rfl | simp [updF, *]) hb2 HJ.out hv2
    · -- 3: Op.fieldAddr 27 t8 3
      intro σ W HJ hdep
      simp [Region.binds] at hdep
      have HJ := hid HJ
      refine wpOp_plain rfl rfl ?_
      go_simp
      exact Left.mk0 (.pointer (some ⟨gk, 3, none⟩)) (by first | rfl | simp [updF, *]) HJ.out rfl
    · -- 4: Op.load 25 t80
      intro σ W HJ hdep
      simp [Region.binds] at hdep
      have HJ := hid HJ
      have kc := (hrk.out.below HJ.out hrk.out.lt).cell 3
      simp at kc
      refine wpOp_plain rfl rfl ?_
      go_simp
      exact Left.mk0 (.slice p2 k.next.length d2) (by first | rfl | simp [updF, *]) HJ.out rfl
    · -- 5: Op.call { value (Operand.func 21), args := #[t79, t81], argT
      intro σ W HJ hdep
      simp [Region.binds] at hdep
      have HJ := hid HJ
      have ha : Bytes W W.heap.size (σ 2) (digV u.trusted) := by first | exact hdep.1 | exact hdep.2.1 | exact hdep.2.2
      have e4 : σ 4 = .slice p2 k.next.length d2 := by first | exact hdep.2.1 | exact hdep.2 | exact hdep.1
      have HE := hid (sameB_any (digV u.trusted) k.next (σ 2) (.slice p2 k.next.length d2) W.heap.size M W ha (hkb.out.below (HJ.out.mono hM)) (by rw [digV_length]; omega) hkl)
      clear ha
      refine wpOp_plain rfl rfl ?_
      go_simp
      refine HE.out.mono ?_
      rintro e w2 ⟨rfl, nq, rfl⟩
      exact Left.mk (.bool (decide (digV u.trusted = k.next))) (by first | rfl | simp [updF, *]) (below_drewH W nq _) HJ.out rfl
    · -- 6: Op.unOp UnOp.not 4 t82
      intro σ W HJ hdep
      simp [Region.binds] at hdep
      have HJ := hid HJ
      refine wpOp_plain rfl rfl ?_
      go_simp
      exact Left.mk0 (.bool (!decide (digV u.trusted = k.next))) (by first | rfl | simp [updF, *]) HJ.out rfl
  · intro σ w' hb hg
    exact hQ.out σ w' hb (by first | exact ⟨hg 6 (by decide)⟩ | exact hg 6 (by decide))
/-- what Believe is to answer -/
def BelieveC (f : FuncId) : Prop := ∀ (c : Cl) (u : Up) (now : Int) (cv uv : Value) (N : Nat) (w : World), tableAt w → N ≤ w.heap.size → ClV w N cv c → UpV w N uv u → c.fits → u.fits → askedN c now = 0 →
  Calls Tryz.prog f #[cv, uv, .int .i64 now] w fun e w' => e = .returned (.int .i64 (believeN c u now)) ∧ Below w.heap.size w w'
set_option maxRecDepth 100000 in
set_option maxHeartbeats 8000000 in
theorem refBelieveC : BelieveC 37 := by
  intro c u now cv uv N w htab hN hcv huv hcf huf hask
  have HAT := hid (show ∀ wx, Below w.heap.size w wx → _ from fun wx hx => refAtC c u.frm cv N wx (hcv.below (hx.mono hN)) (Nat.le_trans hN hx.size) hcf)
  have HTAB := hid htab
  have HCF := hid hcf
  have HUF := hid huf
  obtain ⟨hcw, hnow, -⟩ := askedN_ok hask
  have HCW := hid hcw
  obtain ⟨kv, rfl, hk⟩ := hcv
  obtain ⟨oa, ca, rfl, hca⟩ := hk.shape
  obtain ⟨o1, c1, o2, c2, o3, c3, o4, c4, o5, c5, o6, c6, rfl, g1, g2, g3, g4, g5, g6⟩ := huv.open
  have HSG := hid (show SgV w N (.agg #[.string u.sg.hd.chain, .int .i64 u.sg.hd.height, .int .i64 u.sg.hd.time, .slice o1 u.sg.hd.root.length c1, .slice o2 u.sg.hd.vals.length c2, .slice o3 u.sg.hd.next.length c3, .slice o4 u.sg.vals.length c4, .slice o5 u.sg.votes.length c5]) u.sg from ⟨_, _, _, _, _, rfl, g1, g2, g3, g4, g5⟩)
  have HG2 := hid g2
  have HT := hid g6
  have HCK := hid (show ∀ wx, Below w.heap.size w wx → _ from fun wx hx => refCheckC u.sg (.agg #[.string u.sg.hd.chain, .int .i64 u.sg.hd.height, .int .i64 u.sg.hd.time, .slice o1 u.sg.hd.root.length c1, .slice o2 u.sg.hd.vals.length c2, .slice o3 u.sg.hd.next.length c3, .slice o4 u.sg.vals.length c4, .slice o5 u.sg.votes.length c5]) N wx (HTAB.out.below hx HTAB.out.lt) (Nat.le_trans hN hx.size) (HSG.out.below (hx.mono hN)) HUF.out.1)
  obtain ⟨w0, hw0⟩ : ∃ w0, (w.alloc (.cells #[.string c.chain, .int .i64 c.trust, .bool c.frozen, .slice oa c.known.length ca] 24)).alloc (.cells #[.int .i64 u.frm, .string u.sg.hd.chain, .int .i64 u.sg.hd.height, .int .i64 u.sg.hd.time, .slice o1 u.sg.hd.root.length c1, .slice o2 u.sg.hd.vals.length c2, .slice o3 u.sg.hd.next.length c3, .slice o4 u.sg.vals.length c4, .slice o5 u.sg.votes.length c5, .slice o6 u.trusted.length c6] 35) = w0 := ⟨_, rfl⟩
  have HB0 := hid (show Below w.heap.size w w0 by rw [← hw0]; exact ((Below.refl _ _).alloc (Nat.le_refl _) _).alloc (by simp) _)
  have HRC0 := hid (show Row w0 w.heap.size 24 [.string c.chain, .int .i64 c.trust, .bool c.frozen, .slice oa c.known.length ca] by rw [← hw0]; exact (Row.new _ _ _).alloc _)
  have HRU0 := hid (show Row w0 (w.heap.size + 1) 35 [.int .i64 u.frm, .string u.sg.hd.chain, .int .i64 u.sg.hd.height, .int .i64 u.sg.hd.time, .slice o1 u.sg.hd.root.length c1, .slice o2 u.sg.hd.vals.length c2, .slice o3 u.sg.hd.next.length c3, .slice o4 u.sg.vals.length c4, .slice o5 u.sg.votes.length c5, .slice o6 u.trusted.length c6] by rw [← hw0]; exact Row.newAt _ _ _ _ (by simp))
  have HW0 := hid hw0
  obtain ⟨⟨i0, i1, i2, i3, i4⟩, i5, i6, i7, i8, i9⟩ := HRU0.out.ten
  clear htab hcf huf hk huv hw0 hca g1 g2 g3 g4 g5 g6 hask hcw
  go_enter Tryz.func37, Tryz.ntmps37
  go_wp2_with fail
  rw [HW0.out]
  refine (HCK.out _ HB0.out).mono ?_
  rintro e w1 ⟨rfl, hb1⟩
  have HB1 := hid (HB0.out.trans (hb1.mono HB0.out.size))
  have HRC1 := hid (HRC0.out.below hb1 HRC0.out.lt)
  have HRU1 := hid (HRU0.out.below hb1 HRU0.out.lt)
  clear hb1 i0 i1 i2 i3 i4 i5 i6 i7 i8 i9
  by_cases hck : checkN u.sg = 0
  · rw [hck]
    have HCZ := hid hck
    have HHR := hid (wrongH_ok (checkN_right hck).1).2.1
    have HVS := hid (checkN_right hck).2
    have HVL := hid (checkN_ok hck).2.1
    have HV32 := hid (wrongH_ok (checkN_right hck).1).2.2.2.1
    clear hck
    obtain ⟨⟨a0, a1, a2, a3⟩, -⟩ := HRC1.out.four
    obtain ⟨⟨i0, i1, i2, i3, i4⟩, i5, i6, i7, i8, i9⟩ := HRU1.out.ten
    go_wp2_with fail
    refine (HAT.out _ HB1.out).mono ?_
    rintro e w2 ⟨hb2, p1, d1, p2, d2, rfl, hx1, hx2⟩
    have HB2 := hid (HB1.out.trans (hb2.mono HB1.out.size))
    have HRC2 := hid (HRC1.out.below hb2 HRC1.out.lt)
    have HRU2 := hid (HRU1.out.below hb2 HRU1.out.lt)
    have HX2 := hid hx2
    clear hb2 hx1 hx2 a0 a1 a2 a3 i0 i1 i2 i3 i4 i5 i6 i7 i8 i9
    cases hat : atK c.known u.frm with
    | none =>
      have HBL := hid (bel_none (now := now) HCZ.out hat)
      simp only [Option.isSome]
      clear hat
      generalize knAt c.known u.frm = k at *
      go_wp2
      go_ret
      exact ⟨by rw [HBL.out]; first | done | rfl, HB2.out.alloc HB2.out.size _⟩
    | some k =>
      have hkr := ((wrongK_iff k).1 (((wrongCl_iff c).1 HCW.out).2.2.2.1 k (atK_some hat).1))
      have htr := ((wrongCl_iff c).1 HCW.out).2.1
      have HKN := hid hkr.2.2
      have HKH := hid (atK_some hat).2
      have HBS := hid (bel_some (now := now) HCZ.out hat)
      rw [knAt_some hat] at HX2
      rw [knAt_some hat]
      simp only [Option.isSome]
      have hkr1 := hkr.1
      have hkh := (atK_some hat).2
      have wt : IntKind.i64.wrap (k.time + c.trust) = k.time + c.trust := by rw [IntKind.wrap_i64]; omega
      have wf : IntKind.i64.wrap (u.frm + 1) = u.frm + 1 := by rw [IntKind.wrap_i64]; omega
      have wm : IntKind.i64.wrap (u.sg.hd.time - 10) = u.sg.hd.time - 10 := by have := HHR.out; rw [IntKind.wrap_i64]; omega
      obtain ⟨w3, hw3⟩ : ∃ w3, w2.alloc (.cells #[.int .i64 k.height, .int .i64 k.time, .slice p1 k.root.length d1, .slice p2 k.next.length d2] 27) = w3 := ⟨_, rfl⟩
      have hb3 : Below w2.heap.size w2 w3 := by rw [← hw3]; exact (Below.refl _ _).alloc (Nat.le_refl _) _
      have HB3 := hid (HB2.out.trans (hb3.mono HB2.out.size))
      have HRC3 := hid (HRC2.out.below hb3 HRC2.out.lt)
      have HRU3 := hid (HRU2.out.below hb3 HRU2.out.lt)
      have HRK3 := hid (show Row w3 w2.heap.size 27 [.int .i64 k.height, .int .i64 k.time, .slice p1 k.root.length d1, .slice p2 k.next.length d2] by rw [← hw3]; exact Row.new _ _ _)
      have HX23 := hid ((HX2.out.below hb3).mono hb3.size)
      obtain ⟨w4, hw4⟩ : ∃ w4, w3.alloc (.cells #[.string u.sg.hd.chain, .int .i64 u.sg.hd.height, .int .i64 u.sg.hd.time, .slice o1 u.sg.hd.root.length c1, .slice o2 u.sg.hd.vals.length c2, .slice o3 u.sg.hd.next.length c3] 29) = w4 := ⟨_, rfl⟩
      have hb4 : Below w3.heap.size w3 w4 := by rw [← hw4]; exact (Below.refl _ _).alloc (Nat.le_refl _) _
      have HB4 := hid (HB3.out.trans (hb4.mono HB3.out.size))
      have HRC4 := hid (HRC3.out.below hb4 HRC3.out.lt)
      have HRU4 := hid (HRU3.out.below hb4 HRU3.out.lt)
      have HRK4 := hid (HRK3.out.below hb4 HRK3.out.lt)
      have HRH4 := hid (show Row w4 w3.heap.size 29 [.string u.sg.hd.chain, .int .i64 u.sg.hd.height, .int .i64 u.sg.hd.time, .slice o1 u.sg.hd.root.length c1, .slice o2 u.sg.hd.vals.length c2, .slice o3 u.sg.hd.next.length c3] by rw [← hw4]; exact Row.new _ _ _)
      have HX24 := hid ((HX23.out.below hb4).mono hb4.size)
      obtain ⟨⟨n0, n1, n2, n3, n4⟩, n5, n6, n7, n8, n9⟩ := HRU3.out.ten
      obtain ⟨⟨a0, a1, a2, a3⟩, -⟩ := HRC4.out.four
      obtain ⟨⟨i0, i1, i2, i3, i4⟩, i5, i6, i7, i8, i9⟩ := HRU4.out.ten
      obtain ⟨⟨q0, q1, q2, q3⟩, -⟩ := HRK4.out.four
      obtain ⟨j0, j1, j2, j3, j4, j5⟩ := HRH4.out.six
      clear hb3 hb4 hat hkr hkr1 HX2 HX23
      by_cases hch : u.sg.hd.chain = c.chain
      · have HCHN := hid hch
        have e1 : (u.sg.hd.chain.toList == c.chain.toList) = true := by simp [hch]
        have e1' : (u.sg.hd.chain.toList != c.chain.toList) = false := by simp [hch]
        clear hch
        by_cases ht : c.trust ≤ now - k.time
        · have HBL := hid (show believeN c u now = 11 by rw [HBS.out, bel_old HCHN.out ht])
          have e2 : decide (k.time + c.trust ≤ now) = true := by simp; omega
          clear ht hkh htr
          go_wp2
          go_ret
          exact ⟨by rw [HBL.out]; first | done | rfl, HB4.out⟩
        · have e2 : decide (k.time + c.trust ≤ now) = false := by simp; omega
          by_cases hh : u.sg.hd.height ≤ k.height
          · have HBL := hid (show believeN c u now = 3 by rw [HBS.out, bel_low HCHN.out ht hh])
            have e3 : decide (u.sg.hd.height ≤ u.frm) = true := by simp; omega
            clear ht hh hkh htr
            go_wp2
            go_ret
            exact ⟨by rw [HBL.out]; first | done | rfl, HB4.out⟩
          · have e3 : decide (u.sg.hd.height ≤ u.frm) = false := by simp; omega
            by_cases h4 : u.sg.hd.time ≤ k.time ∨ 10 < u.sg.hd.time - now
            · have HBL := hid (show believeN c u now = 11 by rw [HBS.out, bel_time HCHN.out ht hh h4])
              by_cases h4a : u.sg.hd.time ≤ k.time
              · have e4 : decide (u.sg.hd.time ≤ k.time) = true := by simpa using h4a
                clear ht hh h4 h4a hkh htr
                go_wp2
                go_ret
                exact ⟨by rw [HBL.out]; first | done | rfl, HB4.out⟩
              · have e4 : decide (u.sg.hd.time ≤ k.time) = false := by simpa using h4a
                have e5 : decide (now < u.sg.hd.time - 10) = true := by simp; omega
                clear ht hh h4 h4a hkh htr
                go_wp2
                go_ret
                exact ⟨by rw [HBL.out]; first | done | rfl, HB4.out⟩
            · have e4 : decide (u.sg.hd.time ≤ k.time) = false := by simp; omega
              have e5 : decide (now < u.sg.hd.time - 10) = false := by simp; omega
              by_cases h5 : u.sg.hd.height = k.height + 1
              · have HBL := hid (show believeN c u now = fitN u.sg.hd.vals k.next by rw [HBS.out, bel_next HCHN.out ht hh h4 h5])
                have e6 : (u.sg.hd.height == u.frm + 1) = true := by rw [beq_iff_eq]; omega
                have HSM := hid (sameB_any u.sg.hd.vals k.next (.slice o2 u.sg.hd.vals.length c2) (.slice p2 k.next.length d2) N w4.heap.size w4 (HG2.out.below (HB4.out.mono hN)) HX24.out (by rw [HV32.out]; decide) (by rw [HKN.out]; decide))
                clear ht hh h4 h5 hkh htr
                go_wp2_with fail
                refine HSM.out.mono ?_
                rintro e w5 ⟨rfl, hdr⟩
                have HB5 := hid (show Below w.heap.size w w5 by obtain ⟨q, hq⟩ := hdr; rw [hq]; exact HB4.out.trans (below_drewH _ _ _))
                clear hdr
                by_cases hv : u.sg.hd.vals = k.next
                · have HF := hid (show fitN u.sg.hd.vals k.next = 0 by unfold fitN; rw [if_pos hv])
                  rw [decide_eq_true hv]
                  clear hv
                  go_wp2
                  go_ret
                  exact ⟨by rw [HBL.out, HF.out]; first | done | rfl, HB5.out⟩
                · have HF := hid (show fitN u.sg.hd.vals k.next = 8 by unfold fitN; rw [if_neg hv])
                  rw [decide_eq_false hv]
                  clear hv
                  go_wp2
                  go_ret
                  exact ⟨by rw [HBL.out, HF.out]; first | done | rfl, HB5.out⟩
              · have HBL := hid (show believeN c u now = leapN k u by rw [HBS.out, bel_leap HCHN.out ht hh h4 h5])
                have e6 : (u.sg.hd.height == u.frm + 1) = false := by rw [beq_eq_false_iff_ne]; omega
                have HVA := hid (refValsC u.trusted (.slice o6 u.trusted.length c6) N w4 (HT.out.below (HB4.out.mono hN)) (Nat.le_trans hN HB4.out.size) HUF.out.2.1)
                clear ht hh h4 h5 hkh htr
                go_wp2_with fail
                refine HVA.out.mono ?_
                rintro e w5 ⟨rfl, hb5⟩
                have HB5 := hid (HB4.out.trans (hb5.mono HB4.out.size))
                have HRU5 := hid (HRU4.out.below hb5 HRU4.out.lt)
                have HRK5 := hid (HRK4.out.below hb5 HRK4.out.lt)
                have HX25 := hid ((HX24.out.below hb5).mono hb5.size)
                clear hb5 hw3 hw4 a0 a1 a2 a3 i0 i1 i2 i3 i4 i5 i6 i7 i8 i9 n0 n1 n2 n3 n4 n5 n6 n7 n8 n9 q0 q1 q2 q3 j0 j1 j2 j3 j4 j5
                by_cases hv : valsN u.trusted = 0
                · rw [hv]
                  have HVZ := hid hv
                  have h10 := (valsN_ok hv).2.1
                  clear hv
                  go_wp2_with fail
                  refine believeRegion u k o1 o2 o3 o4 o5 o6 p1 p2 c1 c2 c3 c4 c5 c6 d1 d2 (hid (HTAB.out.below HB5.out HTAB.out.lt)) (Nat.le_trans hN HB5.out.size) (Nat.le_refl _) HRU5 HRK5 (hid (HT.out.below (HB5.out.mono hN))) HX25 h10 (hid HUF.out.2.2) (by rw [HKN.out]; decide) _ (hid ?_)
                  intro σ1 w6 hb6 h6
                  have HB6 := hid (HB5.out.trans (hb6.mono HB5.out.size))
                  have HRU6 := hid (HRU5.out.below hb6 HRU5.out.lt)
                  by_cases hd : digV u.trusted = k.next
                  · rw [decide_eq_true hd] at h6
                    rw [h6]
                    have HOV := hid (refOverC u.trusted u.sg (.slice o6 u.trusted.length c6) (.agg #[.string u.sg.hd.chain, .int .i64 u.sg.hd.height, .int .i64 u.sg.hd.time, .slice o1 u.sg.hd.root.length c1, .slice o2 u.sg.hd.vals.length c2, .slice o3 u.sg.hd.next.length c3, .slice o4 u.sg.vals.length c4, .slice o5 u.sg.votes.length c5]) N w6 (Nat.le_trans hN HB6.out.size) (HT.out.below (HB6.out.mono hN)) (HSG.out.below (HB6.out.mono hN)) HVZ.out HUF.out.2.2 HVS.out HVL.out)
                    have HLP := hid (show leapN k u = if overB u.trusted u.sg = false then 10 else 0 by unfold leapN; rw [if_neg (fun h => h HVZ.out), if_neg (fun h => h hd)])
                    clear hb6 h6 hd
                    obtain ⟨⟨i0, i1, i2, i3, i4⟩, i5, i6, i7, i8, i9⟩ := HRU6.out.ten
                    go_wp2_with fail
                    refine HOV.out.mono ?_
                    rintro e w7 ⟨rfl, hb7⟩
                    have HB7 := hid (HB6.out.trans (hb7.mono HB6.out.size))
                    clear hb7 i0 i1 i2 i3 i4 i5 i6 i7 i8 i9
                    cases hov : overB u.trusted u.sg with
                    | true =>
                      rw [hov] at HLP
                      clear hov
                      go_wp2
                      go_ret
                      exact ⟨by rw [HBL.out, HLP.out]; first | done | rfl, HB7.out⟩
                    | false =>
                      rw [hov] at HLP
                      clear hov
                      go_wp2
                      go_ret
                      exact ⟨by rw [HBL.out, HLP.out]; first | done | rfl, HB7.out⟩
                  · rw [decide_eq_false hd] at h6
                    rw [h6]
                    have HLP := hid (show leapN k u = 8 by unfold leapN; rw [if_neg (fun h => h HVZ.out), if_pos hd])
                    clear hb6 h6 hd
                    go_wp2
                    go_ret
                    exact ⟨by rw [HBL.out, HLP.out]; first | done | rfl, HB6.out⟩
                · have HLP := hid (show leapN k u = valsN u.trusted by unfold leapN; rw [if_pos hv])
                  have e7 : (valsN u.trusted != 0) = true := by simpa using hv
                  clear hv
                  generalize valsN u.trusted = z at *
                  go_wp2
                  go_ret
                  exact ⟨by rw [HBL.out, HLP.out]; first | done | rfl, HB5.out⟩
      · have HBL := hid (show believeN c u now = 7 by rw [HBS.out, bel_chain hch])
        have e1 := str_ne hch
        have e1' : (u.sg.hd.chain.toList != c.chain.toList) = true := by simp only [bne, e1]; rfl
        clear hch hkh htr
        go_wp2
        go_ret
        exact ⟨by rw [HBL.out]; first | done | rfl, HB4.out⟩
  · have HBL := hid (bel_check (c := c) (now := now) hck)
    have e7 : (checkN u.sg != 0) = true := by simpa using hck
    clear hck
    generalize checkN u.sg = z at *
    go_wp2
    go_ret
    exact ⟨by rw [HBL.out]; first | done | rfl, HB1.out⟩
end Go.Proofs.YtiflkkelbnpniaaGreatDoor
