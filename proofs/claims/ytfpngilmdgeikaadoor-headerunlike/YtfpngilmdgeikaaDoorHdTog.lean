/-
  What wrongTogether answers: what keeps a header from being one of these validators.
-/
import Derived.Test.YtfpngilmdgeikaaDoorHdNameVals
import Derived.Test.YtfpngilmdgeikaaDoorHdDig
import Derived.Test.YtfpngilmdgeikaaDoorProofEq
namespace Go.Proofs.YtfpngilmdgeikaaDoor
open Go.RowKit

set_option maxRecDepth 100000 in
set_option maxHeartbeats 4000000 in
theorem togRegion {y0 y3 y4 y5 y6 y7 y8 y9 y10 y11 y12 y13 y14 y15 y16 z17 z18 z19 z20 z21 z22 : Value} {g N : Nat} (h : Hd) (l : List Vl) (sv : Value) (o1 o2 o3 : Option Addr) (c1 c2 c3 : Nat) {w : World} (htab : Hid (tableAt w)) (hr : Hid (Row w g 25 [.string h.chain, .int .i64 h.height, .int .i64 h.time, .slice o1 h.root.length c1, .slice o2 h.vals.length c2, .slice o3 h.next.length c3])) (hv2 : Hid (Bytes w N (.slice o2 h.vals.length c2) h.vals)) (hl : Hid (Vals w N sv l)) (hN : N ≤ w.heap.size) (hten : l.length ≤ 10) (hok : Hid (∀ v ∈ l, v.ok)) (Q : Exit → Act → World → Prop)
    (hQ : Hid (∀ (σ : Nat → Value) (w' : World), Below w.heap.size w w' → /-5-/ σ 5 = .bool (!decide (h.vals = digV l)) → Q .normal ⟨#[y0, sv, .pointer (some ⟨g, 0, none⟩), y3, y4, y5, y6, y7, y8, y9, y10, y11, y12, y13, y14, y15, y16, σ 0, σ 1, σ 2, σ 3, σ 4, σ 5], []⟩ w')) :
    Code.wp Tryd.prog (.region 7 ((Tryd.f45.body.bind (regOf 7)).getD #[]) true) Q ⟨#[y0, sv, .pointer (some ⟨g, 0, none⟩), y3, y4, y5, y6, y7, y8, y9, y10, y11, y12, y13, y14, y15, y16, z17, z18, z19, z20, z21, z22], []⟩ w := by
  conv => arg 2; arg 2; whnf
  conv => arg 4; dsimp only
  refine region_grows (by kernel_rfl) (fun σ => #[y0, sv, .pointer (some ⟨g, 0, none⟩), y3, y4, y5, y6, y7, y8, y9, y10, y11, y12, y13, y14, y15, y16, σ 0, σ 1, σ 2, σ 3, σ 4, σ 5]) (fun i => ([z17, z18, z19, z20, z21, z22] : List Value).getD i undef) rfl (fun i X W => match i with
    | 0 => X = .pointer (some ⟨g, 4, none⟩)
    | 1 => X = .slice o2 h.vals.length c2
    | 2 => X = sv
    | 3 => Bytes W W.heap.size X (digV l)
    | 4 => X = .bool (decide (h.vals = digV l))
    | 5 => X = .bool (!decide (h.vals = digV l))
    | _ => True) ?_ (by kernel_rfl) ?_ ?_
  · intro i X W W' HB H
    match i, H with
    | 0, H => exact H
    | 1, H => exact H
    | 2, H => exact H
    | 3, H => exact (H.below HB).mono HB.size
    | 4, H => exact H
    | 5, H => exact H
    | _ + 6, _ => exact trivial
  · refine ⟨?_, ?_, ?_, ?_, ?_, ?_, trivial⟩
    · -- 0: Op.fieldAddr 25 t2 4
      intro σ W HJ hdep
      simp [Region.binds] at hdep
      have HJ := hid HJ
      refine wpOp_plain rfl rfl ?_
      go_simp
      exact Left.mk0 (.pointer (some ⟨g, 4, none⟩)) (by first | rfl | simp [updF, *]) HJ.out rfl
    · -- 1: Op.load 23 t17
      intro σ W HJ hdep
      simp [Region.binds] at hdep
      have HJ := hid HJ
      have k := (hr.out.below HJ.out hr.out.lt).cell 4
      simp at k
      refine wpOp_plain rfl rfl ?_
      go_simp
      exact Left.mk0 (.slice o2 h.vals.length c2) (by first | rfl | simp [updF, *]) HJ.out rfl
    · -- 2: Op.move t1
      intro σ W HJ hdep
      simp [Region.binds] at hdep
      have HJ := hid HJ
      refine wpOp_plain rfl rfl ?_
      go_simp
      exact Left.mk0 (sv) (by first | rfl | simp [updF, *]) HJ.out rfl
    · -- 3: Op.call { value (Operand.func 19), args := #[t19], argTypes 
      intro σ W HJ hdep
      simp [Region.binds] at hdep
      have HJ := hid HJ
      have HD := hid (digestC l sv N W (htab.out.below HJ.out htab.out.lt) (hl.out.below (HJ.out.mono hN)) (Nat.le_trans hN HJ.out.size) hten hok.out)
      refine wpOp_plain rfl rfl ?_
      go_simp
      refine (HD.out).mono ?_
      rintro e w2 ⟨v, rfl, hv2, hb2⟩
      exact Left.mk v (by first | rfl | simp [updF, *]) hb2 HJ.out hv2
    · -- 4: Op.call { value (Operand.func 58), args := #[t18, t20], argT
      intro σ W HJ hdep
      simp [Region.binds] at hdep
      have HJ := hid HJ
      have e1 := hdep.1
      have HE := hid (equal_any h.vals (digV l) (.slice o2 h.vals.length c2) (σ 3) N W.heap.size W (hv2.out.below (HJ.out.mono hN)) hdep.2)
      clear hdep
      refine wpOp_plain rfl rfl ?_
      go_simp
      refine (HE.out).mono ?_
      rintro e w2 ⟨rfl, hw2⟩
      obtain rfl := hw2.symm
      exact Left.mk0 (.bool (decide (h.vals = digV l))) (by first | rfl | simp [updF, *]) HJ.out rfl
    · -- 5: Op.unOp UnOp.not 4 t21
      intro σ W HJ hdep
      simp [Region.binds] at hdep
      have HJ := hid HJ
      refine wpOp_plain rfl rfl ?_
      go_simp
      exact Left.mk0 (.bool (!decide (h.vals = digV l))) (by first | rfl | simp [updF, *]) HJ.out rfl
  · intro σ w' hb hg
    exact hQ.out σ w' hb (by first | exact ⟨hg 5 (by decide)⟩ | exact hg 5 (by decide))

set_option maxRecDepth 100000 in
set_option maxHeartbeats 2000000 in
theorem together_any (h : Hd) (l : List Vl) (v sv : Value) (N : Nat) (w : World) (htab : tableAt w) (hN : N ≤ w.heap.size) (hv : HdV w N v h) (hf : h.fits) (hl : Vals w N sv l) (hlen : l.length < 2305843009213693952) (hok : ∀ v ∈ l, v.ok) :
    Calls Tryd.prog 45 #[v, sv] w fun e w' => e = .returned (.int .i64 (togetherN h l)) ∧ Below w.heap.size w w' := by
  have HV := hid hv
  obtain ⟨rv, vv, nv, rfl, h1, h2, h3⟩ := hv
  obtain ⟨o1, c1, rfl, _⟩ := h1.shape
  obtain ⟨o2, c2, rfl, _⟩ := h2.shape
  obtain ⟨o3, c3, rfl, _⟩ := h3.shape
  have H2 := hid h2
  have HL := hid hl
  obtain ⟨ol, cl, rfl, _⟩ := hl.shape
  obtain ⟨w0, hw0⟩ : ∃ w0, w.alloc (.cells #[.string h.chain, .int .i64 h.height, .int .i64 h.time, .slice o1 h.root.length c1, .slice o2 h.vals.length c2, .slice o3 h.next.length c3] 25) = w0 := ⟨_, rfl⟩
  have HB0 := hid (show Below w.heap.size w w0 by rw [← hw0]; exact (Below.refl _ _).alloc (Nat.le_refl _) _)
  have HR0 := hid (show Row w0 w.heap.size 25 [.string h.chain, .int .i64 h.height, .int .i64 h.time, .slice o1 h.root.length c1, .slice o2 h.vals.length c2, .slice o3 h.next.length c3] by rw [← hw0]; exact Row.new _ _ _)
  obtain ⟨k0, k1, k2, k3, k4, k5⟩ := HR0.out.six
  have HTAB := hid htab
  have HOK := hid hok
  have HW := hid (wrong_any h _ N w0 (HV.out.below (HB0.out.mono hN)) hf)
  clear h1 h2 h3 hl htab hok
  generalize hn : l.length = n at *
  have HN := hid hn
  clear hn
  by_cases hw : wrongH h = 0
  · have e1 : (wrongH h != 0) = false := by simp [hw]
    by_cases hvl : valsN l = 0
    · have e2 : (valsN l != 0) = false := by simp [hvl]
      have HTEN := hid (valsN_ok hvl).2.1
      by_cases hd : h.vals = digV l
      · have HT := hid (show togetherN h l = 0 by unfold togetherN; rw [if_neg (by simp [hw]), if_neg (by simp [hvl]), if_pos hd])
        have HD := hid hd
        clear hd hw hvl
        go_enter Tryd.func45, Tryd.ntmps45
        go_wp2_with fail
        refine HW.out.mono ?_
        rintro e w1 ⟨rfl, hb1⟩
        have HB1 := hid (HB0.out.trans (hb1.mono HB0.out.size))
        have HR1 := hid (HR0.out.below hb1 HR0.out.lt)
        have HLC := hid (valsC l _ N w1 (HL.out.below (HB1.out.mono hN)) (Nat.le_trans hN HB1.out.size) (by rw [HN.out]; exact hlen))
        clear hb1
        generalize wrongH h = ww at *
        go_wp2_with fail
        refine HLC.out.mono ?_
        rintro e w2 ⟨rfl, hb2⟩
        have HB2 := hid (HB1.out.trans (hb2.mono HB1.out.size))
        have HR2 := hid (HR1.out.below hb2 HR1.out.lt)
        have HL2 := hid (HL.out.below (HB2.out.mono hN))
        clear hb2
        generalize valsN l = vw at *
        go_wp2_with fail
        refine togRegion h l _ o1 o2 o3 c1 c2 c3 (hid (HTAB.out.below HB2.out HTAB.out.lt)) HR2 (hid (H2.out.below (HB2.out.mono hN))) HL2 (Nat.le_trans hN HB2.out.size) HTEN.out HOK _ (hid ?_)
        intro σ w3 hb3 h5
        have h5 : σ 5 = .bool false := by rw [h5, decide_eq_true HD.out]; rfl
        have HB3 := hid hb3
        clear hb3
        rw [h5]
        clear h5
        go_wp2
        go_ret
        exact ⟨by rw [HT.out]; first | done | rfl, HB2.out.trans (HB3.out.mono HB2.out.size)⟩
      · have HT := hid (show togetherN h l = 8 by unfold togetherN; rw [if_neg (by simp [hw]), if_neg (by simp [hvl]), if_neg hd])
        have HD := hid hd
        clear hd hw hvl
        go_enter Tryd.func45, Tryd.ntmps45
        go_wp2_with fail
        refine HW.out.mono ?_
        rintro e w1 ⟨rfl, hb1⟩
        have HB1 := hid (HB0.out.trans (hb1.mono HB0.out.size))
        have HR1 := hid (HR0.out.below hb1 HR0.out.lt)
        have HLC := hid (valsC l _ N w1 (HL.out.below (HB1.out.mono hN)) (Nat.le_trans hN HB1.out.size) (by rw [HN.out]; exact hlen))
        clear hb1
        generalize wrongH h = ww at *
        go_wp2_with fail
        refine HLC.out.mono ?_
        rintro e w2 ⟨rfl, hb2⟩
        have HB2 := hid (HB1.out.trans (hb2.mono HB1.out.size))
        have HR2 := hid (HR1.out.below hb2 HR1.out.lt)
        have HL2 := hid (HL.out.below (HB2.out.mono hN))
        clear hb2
        generalize valsN l = vw at *
        go_wp2_with fail
        refine togRegion h l _ o1 o2 o3 c1 c2 c3 (hid (HTAB.out.below HB2.out HTAB.out.lt)) HR2 (hid (H2.out.below (HB2.out.mono hN))) HL2 (Nat.le_trans hN HB2.out.size) HTEN.out HOK _ (hid ?_)
        intro σ w3 hb3 h5
        have h5 : σ 5 = .bool true := by rw [h5, decide_eq_false HD.out]; rfl
        have HB3 := hid hb3
        clear hb3
        rw [h5]
        clear h5
        go_wp2
        go_ret
        exact ⟨by rw [HT.out]; first | done | rfl, HB2.out.trans (HB3.out.mono HB2.out.size)⟩
    · have e2 : (valsN l != 0) = true := by simp [hvl]
      have HT := hid (show togetherN h l = valsN l by unfold togetherN; rw [if_neg (by simp [hw]), if_pos hvl])
      clear hw hvl
      go_enter Tryd.func45, Tryd.ntmps45
      go_wp2_with fail
      refine HW.out.mono ?_
      rintro e w1 ⟨rfl, hb1⟩
      have HB1 := hid (HB0.out.trans (hb1.mono HB0.out.size))
      have HLC := hid (valsC l _ N w1 (HL.out.below (HB1.out.mono hN)) (Nat.le_trans hN HB1.out.size) (by rw [HN.out]; exact hlen))
      clear hb1
      generalize wrongH h = ww at *
      go_wp2_with fail
      refine HLC.out.mono ?_
      rintro e w2 ⟨rfl, hb2⟩
      have HB2 := hid (HB1.out.trans (hb2.mono HB1.out.size))
      clear hb2
      generalize valsN l = vw at *
      go_wp2
      go_ret
      exact ⟨by rw [HT.out]; first | done | rfl, HB2.out⟩
  · have e1 : (wrongH h != 0) = true := by simp [hw]
    have HT := hid (show togetherN h l = wrongH h by unfold togetherN; rw [if_pos hw])
    clear hw
    go_enter Tryd.func45, Tryd.ntmps45
    go_wp2_with fail
    refine HW.out.mono ?_
    rintro e w1 ⟨rfl, hb1⟩
    have HB1 := hid (HB0.out.trans (hb1.mono HB0.out.size))
    clear hb1
    generalize wrongH h = ww at *
    go_wp2
    go_ret
    exact ⟨by rw [HT.out]; first | done | rfl, HB1.out⟩
end Go.Proofs.YtfpngilmdgeikaaDoor
