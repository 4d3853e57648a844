/-
  ClientFrozen returns true, whatever a client, two updates, a time, a height, a key, a value, a proof and a gap read as.
-/
import Derived.Test.YtiflkkelbnpniaaGreatDoorClCatch
import Derived.Test.YtiflkkelbnpniaaGreatDoorClShown
import Derived.Test.YtiflkkelbnpniaaGreatDoorClRAsk
namespace Go.Proofs.YtiflkkelbnpniaaGreatDoor
open Go.RowKit

set_option maxRecDepth 100000 in
set_option maxHeartbeats 8000000 in
theorem clientFrozen_any (c : Cl) (a b : Up) (now height : Int) (key val : List (BitVec 8)) (p : Prf) (g : Gp) (cv av bv kv vv pv gv : Value) (N : Nat) (w : World) (htab : tableAt w) (hN : N ≤ w.heap.size) (hcv : ClV w N cv c) (hav : UpV w N av a) (hbv : UpV w N bv b) (hkv : Bytes w N kv key) (hvv : Bytes w N vv val) (hpv : PrfV w N pv p) (hgv : GpV w N gv g) (hcf : c.fits) (haf : a.fits) (hbf : b.fits) (hkl : key.length ≤ 140737488351232) (hvl : val.length ≤ 140737488351232) (hpf : p.fits) (hgf : g.fits) :
    Calls Tryz.prog 5 #[cv, av, bv, .int .i64 now, .int .i64 height, kv, vv, pv, gv] w fun e w' => e = .returned (.bool true) ∧ Below w.heap.size w w' := by
  have HCA := hid (show ∀ wx, Below w.heap.size w wx → _ from fun wx hx => clCatchC c a b now cv av bv N wx (htab.below hx htab.lt) (Nat.le_trans hN hx.size) (hcv.below (hx.mono hN)) (hav.below (hx.mono hN)) (hbv.below (hx.mono hN)) hcf haf hbf)
  have HWC := hid (show ∀ wx, Below w.heap.size w wx → _ from fun wx hx => clWrongC c cv N wx (hcv.below (hx.mono hN)) (Nat.le_trans hN hx.size) hcf)
  obtain ⟨f, hf⟩ : ∃ f : Cl, f = { c with frozen := true } := ⟨_, rfl⟩
  have hff : f.fits := by rw [hf]; exact hcf
  have HFZ := hid (show f.frozen = true by rw [hf])
  have HWF := hid (show wrongCl f = wrongCl c by rw [hf]; exact wrongCl_frozen c true)
  obtain ⟨xv, rfl, hkn⟩ := hcv
  obtain ⟨oa, ca, rfl, -⟩ := hkn.shape
  have HFV := hid (show ∀ wx, Below w.heap.size w wx → ClV wx N (.agg #[.string c.chain, .int .i64 c.trust, .bool true, .slice oa c.known.length ca]) f from fun wx hx => by rw [hf]; exact ⟨_, rfl, hkn.below (hx.mono hN)⟩)
  have HFO := hid (show ∀ wx, Below w.heap.size w wx → _ from fun wx hx => clFollowC f a now (.agg #[.string c.chain, .int .i64 c.trust, .bool true, .slice oa c.known.length ca]) av N wx (htab.below hx htab.lt) (Nat.le_trans hN hx.size) (HFV.out wx hx) (hav.below (hx.mono hN)) hff haf)
  have HCB := hid (show ∀ wx, Below w.heap.size w wx → _ from fun wx hx => clCatchC f a b now (.agg #[.string c.chain, .int .i64 c.trust, .bool true, .slice oa c.known.length ca]) av bv N wx (htab.below hx htab.lt) (Nat.le_trans hN hx.size) (HFV.out wx hx) (hav.below (hx.mono hN)) (hbv.below (hx.mono hN)) hff haf hbf)
  have HME := hid (show ∀ wx, Below w.heap.size w wx → _ from fun wx hx => memberC f now height key val p (.agg #[.string c.chain, .int .i64 c.trust, .bool true, .slice oa c.known.length ca]) kv vv pv N wx (htab.below hx htab.lt) (Nat.le_trans hN hx.size) (HFV.out wx hx) (hkv.below (hx.mono hN)) (hvv.below (hx.mono hN)) (hpv.below (hx.mono hN)) hff hkl hvl hpf)
  have HMI := hid (show ∀ wx, Below w.heap.size w wx → _ from fun wx hx => missingC f now height key g (.agg #[.string c.chain, .int .i64 c.trust, .bool true, .slice oa c.known.length ca]) kv gv N wx (htab.below hx htab.lt) (Nat.le_trans hN hx.size) (HFV.out wx hx) (hkv.below (hx.mono hN)) (hgv.below (hx.mono hN)) hff hkl hgf)
  have HAC := hid (show wrongCl f = 0 → 0 ≤ now ∧ now ≤ 1000000000000 → ∀ wx, Below w.heap.size w wx → _ from fun h1 h2 wx hx => activeC f now (.agg #[.string c.chain, .int .i64 c.trust, .bool true, .slice oa c.known.length ca]) N wx (HFV.out wx hx) (Nat.le_trans hN hx.size) h1 h2)
  obtain ⟨o1, c1, o2, c2, o3, c3, o4, c4, o5, c5, o6, c6, rfl, -, -, -, -, -, -⟩ := hav.open
  obtain ⟨r1, s1, r2, s2, r3, s3, r4, s4, r5, s5, r6, s6, rfl, -, -, -, -, -, -⟩ := hbv.open
  obtain ⟨x1, x2, x3, rfl, a1, a2, a3⟩ := hpv
  obtain ⟨q1, e1, rfl, -⟩ := a1.shape
  obtain ⟨q2, e2, rfl, -⟩ := a2.shape
  obtain ⟨q3, e3, rfl, -⟩ := a3.shape
  obtain ⟨k1, v1, l1, k2, v2, l2, rfl, b1, b2, b3, b4, b5, b6⟩ := hgv
  obtain ⟨t1, m1, rfl, -⟩ := b1.shape
  obtain ⟨t2, m2, rfl, -⟩ := b2.shape
  obtain ⟨t3, m3, rfl, -⟩ := b3.shape
  obtain ⟨t4, m4, rfl, -⟩ := b4.shape
  obtain ⟨t5, m5, rfl, -⟩ := b5.shape
  obtain ⟨t6, m6, rfl, -⟩ := b6.shape
  obtain ⟨w0, hw0⟩ : ∃ w0, ((((w.alloc (.cells #[.string c.chain, .int .i64 c.trust, .bool c.frozen, .slice oa c.known.length ca] 24)).alloc (.cells #[.int .i64 a.frm, .string a.sg.hd.chain, .int .i64 a.sg.hd.height, .int .i64 a.sg.hd.time, .slice o1 a.sg.hd.root.length c1, .slice o2 a.sg.hd.vals.length c2, .slice o3 a.sg.hd.next.length c3, .slice o4 a.sg.vals.length c4, .slice o5 a.sg.votes.length c5, .slice o6 a.trusted.length c6] 35)).alloc (.cells #[.int .i64 b.frm, .string b.sg.hd.chain, .int .i64 b.sg.hd.height, .int .i64 b.sg.hd.time, .slice r1 b.sg.hd.root.length s1, .slice r2 b.sg.hd.vals.length s2, .slice r3 b.sg.hd.next.length s3, .slice r4 b.sg.vals.length s4, .slice r5 b.sg.votes.length s5, .slice r6 b.trusted.length s6] 35)).alloc (.cells #[.int .i64 p.index, .int .i64 p.size, .slice q1 p.key.length e1, .slice q2 p.val.length e2, .slice q3 p.path.length e3] 56)).alloc (.cells #[.bool g.hasL, .bool g.hasR, .int .i64 g.left.index, .int .i64 g.left.size, .slice t1 g.left.key.length m1, .slice t2 g.left.val.length m2, .slice t3 g.left.path.length m3, .int .i64 g.right.index, .int .i64 g.right.size, .slice t4 g.right.key.length m4, .slice t5 g.right.val.length m5, .slice t6 g.right.path.length m6] 58) = w0 := ⟨_, rfl⟩
  have HB0 := hid (show Below w.heap.size w w0 by rw [← hw0]; exact (((((Below.refl _ _).alloc (Nat.le_refl _) _).alloc (by simp) _).alloc (by simp; omega) _).alloc (by simp; omega) _).alloc (by simp; omega) _)
  have HRC0 := hid (show Row w0 (w.heap.size) 24 [.string c.chain, .int .i64 c.trust, .bool c.frozen, .slice oa c.known.length ca] by rw [← hw0]; exact ((((Row.new _ _ _).alloc _).alloc _).alloc _).alloc _)
  have HRA0 := hid (show Row w0 (w.heap.size + 1) 35 [.int .i64 a.frm, .string a.sg.hd.chain, .int .i64 a.sg.hd.height, .int .i64 a.sg.hd.time, .slice o1 a.sg.hd.root.length c1, .slice o2 a.sg.hd.vals.length c2, .slice o3 a.sg.hd.next.length c3, .slice o4 a.sg.vals.length c4, .slice o5 a.sg.votes.length c5, .slice o6 a.trusted.length c6] by rw [← hw0]; exact (((Row.newAt _ _ _ _ (by simp)).alloc _).alloc _).alloc _)
  have HRB0 := hid (show Row w0 (w.heap.size + 1 + 1) 35 [.int .i64 b.frm, .string b.sg.hd.chain, .int .i64 b.sg.hd.height, .int .i64 b.sg.hd.time, .slice r1 b.sg.hd.root.length s1, .slice r2 b.sg.hd.vals.length s2, .slice r3 b.sg.hd.next.length s3, .slice r4 b.sg.vals.length s4, .slice r5 b.sg.votes.length s5, .slice r6 b.trusted.length s6] by rw [← hw0]; exact ((Row.newAt _ _ _ _ (by simp)).alloc _).alloc _)
  have HRP0 := hid (show Row w0 (w.heap.size + 1 + 1 + 1) 56 [.int .i64 p.index, .int .i64 p.size, .slice q1 p.key.length e1, .slice q2 p.val.length e2, .slice q3 p.path.length e3] by rw [← hw0]; exact (Row.newAt _ _ _ _ (by simp)).alloc _)
  have HRG0 := hid (show Row w0 (w.heap.size + 1 + 1 + 1 + 1) 58 [.bool g.hasL, .bool g.hasR, .int .i64 g.left.index, .int .i64 g.left.size, .slice t1 g.left.key.length m1, .slice t2 g.left.val.length m2, .slice t3 g.left.path.length m3, .int .i64 g.right.index, .int .i64 g.right.size, .slice t4 g.right.key.length m4, .slice t5 g.right.val.length m5, .slice t6 g.right.path.length m6] by rw [← hw0]; exact Row.newAt _ _ _ _ (by simp))
  have HW0 := hid hw0
  have HF := hid hf
  clear hkn a1 a2 a3 b1 b2 b3 b4 b5 b6 htab hcf haf hbf hpf hgf hkv hvv hw0 hav hbv hf hff hkl hvl
  go_enter Tryz.func5, Tryz.ntmps5
  go_wp2_with fail
  rw [HW0.out]
  refine (alive7_any w0).mono ?_
  rintro e w1 ⟨rfl, hb1⟩
  have HB1 := hid (HB0.out.trans (hb1.mono HB0.out.size))
  have HRC1 := hid (HRC0.out.below hb1 HRC0.out.lt)
  have HRA1 := hid (HRA0.out.below hb1 HRA0.out.lt)
  have HRB1 := hid (HRB0.out.below hb1 HRB0.out.lt)
  have HRP1 := hid (HRP0.out.below hb1 HRP0.out.lt)
  have HRG1 := hid (HRG0.out.below hb1 HRG0.out.lt)
  obtain ⟨⟨a0, a1, a2, a3⟩, -⟩ := HRC1.out.four
  obtain ⟨⟨i0, i1, i2, i3, i4⟩, i5, i6, i7, i8, i9⟩ := HRA1.out.ten
  obtain ⟨⟨j0, j1, j2, j3, j4⟩, j5, j6, j7, j8, j9⟩ := HRB1.out.ten
  clear hb1
  go_wp2_with fail
  refine (HCA.out _ HB1.out).mono ?_
  rintro e w2 ⟨hb2, od, nd, md, rfl, hkd⟩
  have HB2 := hid (HB1.out.trans (hb2.mono HB1.out.size))
  have HRC2 := hid (HRC1.out.below hb2 HRC1.out.lt)
  have HRA2 := hid (HRA1.out.below hb2 HRA1.out.lt)
  have HRB2 := hid (HRB1.out.below hb2 HRB1.out.lt)
  have HRP2 := hid (HRP1.out.below hb2 HRP1.out.lt)
  have HRG2 := hid (HRG1.out.below hb2 HRG1.out.lt)
  clear hb2 hkd a0 a1 a2 a3 i0 i1 i2 i3 i4 i5 i6 i7 i8 i9 j0 j1 j2 j3 j4 j5 j6 j7 j8 j9
  have HEF := hid (show catchE c a b now = 0 → (catchC c a b now).frozen = true from fun h => by unfold catchC; rw [if_pos h])
  generalize hd : catchC c a b now = d at *
  generalize hz : catchE c a b now = z at *
  clear hd hz
  obtain ⟨w3, hw3⟩ : ∃ w3, w2.alloc (.cells #[.string d.chain, .int .i64 d.trust, .bool d.frozen, .slice od nd md] 24) = w3 := ⟨_, rfl⟩
  have hb3 : Below w2.heap.size w2 w3 := by rw [← hw3]; exact (Below.refl _ _).alloc (Nat.le_refl _) _
  have HB3 := hid (HB2.out.trans (hb3.mono HB2.out.size))
  have HRC3 := hid (HRC2.out.below hb3 HRC2.out.lt)
  have HRA3 := hid (HRA2.out.below hb3 HRA2.out.lt)
  have HRB3 := hid (HRB2.out.below hb3 HRB2.out.lt)
  have HRP3 := hid (HRP2.out.below hb3 HRP2.out.lt)
  have HRG3 := hid (HRG2.out.below hb3 HRG2.out.lt)
  have HRD3 := hid (show Row w3 w2.heap.size 24 [.string d.chain, .int .i64 d.trust, .bool d.frozen, .slice od nd md] by rw [← hw3]; exact Row.new _ _ _)
  obtain ⟨⟨d0, d1, d2, d3⟩, -⟩ := HRD3.out.four
  obtain ⟨⟨a0, a1, a2, a3⟩, -⟩ := HRC3.out.four
  clear hb3
  have key4 : ∀ (Q : Prop), (z = 0 → (z == 0) = true → d.frozen = true → Q) → (z ≠ 0 → (z == 0) = false → Q) → Q := fun Q h1 h2 => by
    by_cases hz : z = 0
    · exact h1 hz (by simpa using hz) (HEF.out hz)
    · exact h2 hz (by simpa using hz)
  have HK4 := hid key4
  clear key4
  refine HK4.out _ (fun _ ez ef => ?_) (fun _ ez => ?_)
  all_goals
    try rw [ef] at d2 hw3
    try rw [ef]
    go_wp2_with fail
    refine (HWC.out _ HB3.out).mono ?_
    rintro e w4 ⟨rfl, hb4⟩
    have HB4 := hid (HB3.out.trans (hb4.mono HB3.out.size))
    have HRC4 := hid (HRC3.out.below hb4 HRC3.out.lt)
    have HRA4 := hid (HRA3.out.below hb4 HRA3.out.lt)
    have HRB4 := hid (HRB3.out.below hb4 HRB3.out.lt)
    have HRP4 := hid (HRP3.out.below hb4 HRP3.out.lt)
    have HRG4 := hid (HRG3.out.below hb4 HRG3.out.lt)
    clear hb4 hw3 d0 d1 d2 d3 a0 a1 a2 a3
    by_cases hwz : wrongCl c = 0
    · rw [hwz]
      have HWZ := hid (show wrongCl f = 0 by rw [HWF.out]; exact hwz)
      clear hwz
      by_cases hnow : now < 0 ∨ 1000000000000 < now
      · have HTM := hid (timeN_false hnow)
        clear hnow
        go_wp2_with (go_at_call 11; refine (refTime_any _ _).mono ?_; rintro e w' ⟨rfl, hw'⟩; obtain rfl := hw'.symm; rw [HTM.out])
        go_ret
        exact ⟨by first | done | rfl, HB4.out⟩
      · have HTM := hid (timeN_true hnow)
        have HNO := hid (show 0 ≤ now ∧ now ≤ 1000000000000 by omega)
        have HAK := hid (askedN_frozen (now := now) HWZ.out HNO.out HFZ.out)
        have HE1 := hid (show followE f a now = 12 by rw [followE_ask (by rw [HAK.out]; decide)]; exact HAK.out)
        have HE2 := hid (show catchE f a b now = 12 by unfold catchE; rw [if_pos (by rw [HAK.out]; decide)]; exact HAK.out)
        have HE3 := hid (activeB_frozen now HFZ.out)
        clear hnow
        obtain ⟨w5, hw5⟩ : ∃ w5, w4.setCell ⟨w.heap.size, 2, none⟩ (.bool true) = w5 := ⟨_, rfl⟩
        have HB5 := hid (show Below w.heap.size w w5 by rw [← hw5]; exact HB4.out.setCell (Nat.le_refl _) _)
        have HRC5 := hid (show Row w5 (w.heap.size) 24 [.string c.chain, .int .i64 c.trust, .bool true, .slice oa c.known.length ca] by rw [← hw5]; exact HRC4.out.set 2 (.bool true))
        have HRA5 := hid (show Row w5 (w.heap.size + 1) 35 [.int .i64 a.frm, .string a.sg.hd.chain, .int .i64 a.sg.hd.height, .int .i64 a.sg.hd.time, .slice o1 a.sg.hd.root.length c1, .slice o2 a.sg.hd.vals.length c2, .slice o3 a.sg.hd.next.length c3, .slice o4 a.sg.vals.length c4, .slice o5 a.sg.votes.length c5, .slice o6 a.trusted.length c6] by rw [← hw5]; exact setCell_row HRA4.out _ _ (by omega))
        have HRB5 := hid (show Row w5 (w.heap.size + 1 + 1) 35 [.int .i64 b.frm, .string b.sg.hd.chain, .int .i64 b.sg.hd.height, .int .i64 b.sg.hd.time, .slice r1 b.sg.hd.root.length s1, .slice r2 b.sg.hd.vals.length s2, .slice r3 b.sg.hd.next.length s3, .slice r4 b.sg.vals.length s4, .slice r5 b.sg.votes.length s5, .slice r6 b.trusted.length s6] by rw [← hw5]; exact setCell_row HRB4.out _ _ (by omega))
        have HRP5 := hid (show Row w5 (w.heap.size + 1 + 1 + 1) 56 [.int .i64 p.index, .int .i64 p.size, .slice q1 p.key.length e1, .slice q2 p.val.length e2, .slice q3 p.path.length e3] by rw [← hw5]; exact setCell_row HRP4.out _ _ (by omega))
        have HRG5 := hid (show Row w5 (w.heap.size + 1 + 1 + 1 + 1) 58 [.bool g.hasL, .bool g.hasR, .int .i64 g.left.index, .int .i64 g.left.size, .slice t1 g.left.key.length m1, .slice t2 g.left.val.length m2, .slice t3 g.left.path.length m3, .int .i64 g.right.index, .int .i64 g.right.size, .slice t4 g.right.key.length m4, .slice t5 g.right.val.length m5, .slice t6 g.right.path.length m6] by rw [← hw5]; exact setCell_row HRG4.out _ _ (by omega))
        obtain ⟨⟨x0, x1, x2, x3⟩, z0, z1, z2, z3⟩ := HRC4.out.four
        obtain ⟨⟨a0, a1, a2, a3⟩, -⟩ := HRC5.out.four
        obtain ⟨⟨i0, i1, i2, i3, i4⟩, i5, i6, i7, i8, i9⟩ := HRA5.out.ten
        go_wp2_with (go_at_call 11; refine (refTime_any _ _).mono ?_; rintro e w' ⟨rfl, hw'⟩; obtain rfl := hw'.symm; rw [HTM.out])
        refine (HFO.out _ HB5.out).mono ?_
        rintro e w6 ⟨hb6, of, nf, mf, rfl, -⟩
        rw [HE1.out]
        have HB6 := hid (HB5.out.trans (hb6.mono HB5.out.size))
        have HRC6 := hid (HRC5.out.below hb6 HRC5.out.lt)
        have HRA6 := hid (HRA5.out.below hb6 HRA5.out.lt)
        have HRB6 := hid (HRB5.out.below hb6 HRB5.out.lt)
        have HRP6 := hid (HRP5.out.below hb6 HRP5.out.lt)
        have HRG6 := hid (HRG5.out.below hb6 HRG5.out.lt)
        clear hb6 hw5 x0 x1 x2 x3 z0 z1 z2 z3 a0 a1 a2 a3 i0 i1 i2 i3 i4 i5 i6 i7 i8 i9
        generalize followC f a now = h1 at *
        obtain ⟨w7, hw7⟩ : ∃ w7, w6.alloc (.cells #[.string h1.chain, .int .i64 h1.trust, .bool h1.frozen, .slice of nf mf] 24) = w7 := ⟨_, rfl⟩
        have hb7 : Below w6.heap.size w6 w7 := by rw [← hw7]; exact (Below.refl _ _).alloc (Nat.le_refl _) _
        have HB7 := hid (HB6.out.trans (hb7.mono HB6.out.size))
        have HRC7 := hid (HRC6.out.below hb7 HRC6.out.lt)
        have HRA7 := hid (HRA6.out.below hb7 HRA6.out.lt)
        have HRB7 := hid (HRB6.out.below hb7 HRB6.out.lt)
        have HRP7 := hid (HRP6.out.below hb7 HRP6.out.lt)
        have HRG7 := hid (HRG6.out.below hb7 HRG6.out.lt)
        obtain ⟨⟨a0, a1, a2, a3⟩, -⟩ := HRC7.out.four
        obtain ⟨⟨i0, i1, i2, i3, i4⟩, i5, i6, i7, i8, i9⟩ := HRA7.out.ten
        obtain ⟨⟨j0, j1, j2, j3, j4⟩, j5, j6, j7, j8, j9⟩ := HRB7.out.ten
        clear hb7
        go_wp2_with fail
        refine (HCB.out _ HB7.out).mono ?_
        rintro e w8 ⟨hb8, og, ng, mg, rfl, -⟩
        rw [HE2.out]
        have HB8 := hid (HB7.out.trans (hb8.mono HB7.out.size))
        have HRC8 := hid (HRC7.out.below hb8 HRC7.out.lt)
        have HRA8 := hid (HRA7.out.below hb8 HRA7.out.lt)
        have HRB8 := hid (HRB7.out.below hb8 HRB7.out.lt)
        have HRP8 := hid (HRP7.out.below hb8 HRP7.out.lt)
        have HRG8 := hid (HRG7.out.below hb8 HRG7.out.lt)
        clear hb8 hw7 a0 a1 a2 a3 i0 i1 i2 i3 i4 i5 i6 i7 i8 i9 j0 j1 j2 j3 j4 j5 j6 j7 j8 j9
        generalize catchC f a b now = h2 at *
        obtain ⟨w9, hw9⟩ : ∃ w9, w8.alloc (.cells #[.string h2.chain, .int .i64 h2.trust, .bool h2.frozen, .slice og ng mg] 24) = w9 := ⟨_, rfl⟩
        have hb9 : Below w8.heap.size w8 w9 := by rw [← hw9]; exact (Below.refl _ _).alloc (Nat.le_refl _) _
        have HB9 := hid (HB8.out.trans (hb9.mono HB8.out.size))
        have HRC9 := hid (HRC8.out.below hb9 HRC8.out.lt)
        have HRA9 := hid (HRA8.out.below hb9 HRA8.out.lt)
        have HRB9 := hid (HRB8.out.below hb9 HRB8.out.lt)
        have HRP9 := hid (HRP8.out.below hb9 HRP8.out.lt)
        have HRG9 := hid (HRG8.out.below hb9 HRG8.out.lt)
        obtain ⟨⟨a0, a1, a2, a3⟩, -⟩ := HRC9.out.four
        obtain ⟨b0, b1, b2, b3, b4⟩ := Row.five HRP9.out
        clear hb9
        go_wp2_with fail
        refine (HME.out _ HB9.out).mono ?_
        rintro e wa ⟨hba, y1, rfl, hy1⟩
        obtain rfl := hy1.frozen HAK.out
        have HBa := hid (HB9.out.trans (hba.mono HB9.out.size))
        have HRCa := hid (HRC9.out.below hba HRC9.out.lt)
        have HRAa := hid (HRA9.out.below hba HRA9.out.lt)
        have HRBa := hid (HRB9.out.below hba HRB9.out.lt)
        have HRPa := hid (HRP9.out.below hba HRP9.out.lt)
        have HRGa := hid (HRG9.out.below hba HRG9.out.lt)
        clear hba hy1 hw9 a0 a1 a2 a3 b0 b1 b2 b3 b4
        obtain ⟨⟨a0, a1, a2, a3⟩, -⟩ := HRCa.out.four
        have b0 := HRGa.out.cell 0
        have b1 := HRGa.out.cell 1
        have b2 := HRGa.out.cell 2
        have b3 := HRGa.out.cell 3
        have b4 := HRGa.out.cell 4
        have b5 := HRGa.out.cell 5
        have b6 := HRGa.out.cell 6
        have b7 := HRGa.out.cell 7
        have b8 := HRGa.out.cell 8
        have b9 := HRGa.out.cell 9
        have b10 := HRGa.out.cell 10
        have b11 := HRGa.out.cell 11
        simp only [List.getElem?_cons_zero, List.getElem?_cons_succ] at b0 b1 b2 b3 b4 b5 b6 b7 b8 b9 b10 b11
        go_wp2_with fail
        refine (HMI.out _ HBa.out).mono ?_
        rintro e wb ⟨hbb, y2, rfl, hy2⟩
        obtain rfl := hy2.frozen HAK.out
        have HBb := hid (HBa.out.trans (hbb.mono HBa.out.size))
        have HRCb := hid (HRCa.out.below hbb HRCa.out.lt)
        clear hbb hy2 a0 a1 a2 a3 b0 b1 b2 b3 b4 b5 b6 b7 b8 b9 b10 b11
        obtain ⟨⟨a0, a1, a2, a3⟩, -⟩ := HRCb.out.four
        go_wp2_with fail
        refine (HAC.out HWZ.out HNO.out _ HBb.out).mono ?_
        rintro e wc ⟨rfl, hbc⟩
        rw [HE3.out]
        have HBc := hid (HBb.out.trans (hbc.mono HBb.out.size))
        clear hbc a0 a1 a2 a3
        go_wp2
        go_ret
        exact ⟨by first | done | rfl, HBc.out⟩
    · have e1 : (wrongCl c != 0) = true := by simpa using hwz
      clear hwz
      generalize wrongCl c = y at *
      go_wp2
      go_ret
      exact ⟨by first | done | rfl, HB4.out⟩
end Go.Proofs.YtiflkkelbnpniaaGreatDoor
