/-
  What package client's Catch answers.
-/
import Derived.Test.YtiflkkelbnpniaaGreatDoorClContra
namespace Go.Proofs.YtiflkkelbnpniaaGreatDoor
open Go.RowKit

/-- what Catch is to answer -/
def CatchC (f : FuncId) : Prop := ∀ (c : Cl) (a b : Up) (now : Int) (cv av bv : Value) (N : Nat) (w : World), tableAt w → N ≤ w.heap.size → ClV w N cv c → UpV w N av a → UpV w N bv b → c.fits → a.fits → b.fits →
  Calls Tryz.prog f #[cv, av, bv, .int .i64 now] w fun e w' => Below w.heap.size w w' ∧ ∃ o n m, e = .returned (.tuple #[.agg #[.string (catchC c a b now).chain, .int .i64 (catchC c a b now).trust, .bool (catchC c a b now).frozen, .slice o n m], .int .i64 (catchE c a b now)]) ∧ Knowns w' w'.heap.size (.slice o n m) (catchC c a b now).known
theorem setCell_row {w : World} {g k : Nat} {t : TypeId} {cs : List Value} (h : Row w g t cs) (i : Nat) (v : Value) (hg : g ≠ k) : Row (w.setCell ⟨k, i, none⟩ v) g t cs := by
  unfold Row at *
  rw [heap_setCell_other _ _ _ _ hg]
  exact h
theorem bel_right {c : Cl} {u : Up} {now : Int} (h : believeN c u now = 0) : wrongH u.sg.hd = 0 := (checkN_right (believeN_ok h).1).1
set_option maxRecDepth 100000 in
set_option maxHeartbeats 8000000 in
theorem clCatchC : CatchC 16 := by
  intro c a b now cv av bv N w htab hN hcv hav hbv hcf haf hbf
  have HAV := hid hav
  have HBV := hid hbv
  have HCV := hid hcv
  obtain ⟨kv, rfl, hk⟩ := hcv
  obtain ⟨oa, ca, rfl, hca⟩ := hk.shape
  obtain ⟨o1, c1, o2, c2, o3, c3, o4, c4, o5, c5, o6, c6, rfl, f1, f2, f3, -, -, -⟩ := hav.open
  obtain ⟨r1, s1, r2, s2, r3, s3, r4, s4, r5, s5, r6, s6, rfl, g1, g2, g3, -, -, -⟩ := hbv.open
  have HHA := hid (show HdV w N (.agg #[.string a.sg.hd.chain, .int .i64 a.sg.hd.height, .int .i64 a.sg.hd.time, .slice o1 a.sg.hd.root.length c1, .slice o2 a.sg.hd.vals.length c2, .slice o3 a.sg.hd.next.length c3]) a.sg.hd from ⟨_, _, _, rfl, f1, f2, f3⟩)
  have HHB := hid (show HdV w N (.agg #[.string b.sg.hd.chain, .int .i64 b.sg.hd.height, .int .i64 b.sg.hd.time, .slice r1 b.sg.hd.root.length s1, .slice r2 b.sg.hd.vals.length s2, .slice r3 b.sg.hd.next.length s3]) b.sg.hd from ⟨_, _, _, rfl, g1, g2, g3⟩)
  obtain ⟨w0, hw0⟩ : ∃ w0, (((w.alloc (.cells #[.string c.chain, .int .i64 c.trust, .bool c.frozen, .slice oa c.known.length ca] 24)).alloc (.cells #[.int .i64 a.frm, .string a.sg.hd.chain, .int .i64 a.sg.hd.height, .int .i64 a.sg.hd.time, .slice o1 a.sg.hd.root.length c1, .slice o2 a.sg.hd.vals.length c2, .slice o3 a.sg.hd.next.length c3, .slice o4 a.sg.vals.length c4, .slice o5 a.sg.votes.length c5, .slice o6 a.trusted.length c6] 35)).alloc (.cells #[.int .i64 b.frm, .string b.sg.hd.chain, .int .i64 b.sg.hd.height, .int .i64 b.sg.hd.time, .slice r1 b.sg.hd.root.length s1, .slice r2 b.sg.hd.vals.length s2, .slice r3 b.sg.hd.next.length s3, .slice r4 b.sg.vals.length s4, .slice r5 b.sg.votes.length s5, .slice r6 b.trusted.length s6] 35)).alloc (.cells #[.string ⟨#[]⟩, .int .i64 0, .bool false, .slice none 0 0] 24) = w0 := ⟨_, rfl⟩
  have hb0 : Below w.heap.size w w0 := by rw [← hw0]; exact ((((Below.refl _ _).alloc (Nat.le_refl _) _).alloc (by simp) _).alloc (by simp; omega) _).alloc (by simp; omega) _
  have HRC0 := hid (show Row w0 w.heap.size 24 [.string c.chain, .int .i64 c.trust, .bool c.frozen, .slice oa c.known.length ca] by rw [← hw0]; exact (((Row.new _ _ _).alloc _).alloc _).alloc _)
  have HRA0 := hid (show Row w0 (w.heap.size + 1) 35 [.int .i64 a.frm, .string a.sg.hd.chain, .int .i64 a.sg.hd.height, .int .i64 a.sg.hd.time, .slice o1 a.sg.hd.root.length c1, .slice o2 a.sg.hd.vals.length c2, .slice o3 a.sg.hd.next.length c3, .slice o4 a.sg.vals.length c4, .slice o5 a.sg.votes.length c5, .slice o6 a.trusted.length c6] by rw [← hw0]; exact ((Row.newAt _ _ _ _ (by simp)).alloc _).alloc _)
  have HRB0 := hid (show Row w0 (w.heap.size + 1 + 1) 35 [.int .i64 b.frm, .string b.sg.hd.chain, .int .i64 b.sg.hd.height, .int .i64 b.sg.hd.time, .slice r1 b.sg.hd.root.length s1, .slice r2 b.sg.hd.vals.length s2, .slice r3 b.sg.hd.next.length s3, .slice r4 b.sg.vals.length s4, .slice r5 b.sg.votes.length s5, .slice r6 b.trusted.length s6] by rw [← hw0]; exact (Row.newAt _ _ _ _ (by simp)).alloc _)
  have HRZ0 := hid (show Row w0 (w.heap.size + 1 + 1 + 1) 24 [.string ⟨#[]⟩, .int .i64 0, .bool false, .slice none 0 0] by rw [← hw0]; exact Row.newAt _ _ _ _ (by simp))
  have HAS := hid (askedC c now (.agg #[.string c.chain, .int .i64 c.trust, .bool c.frozen, .slice oa c.known.length ca]) N w0 ⟨_, rfl, hk.below (hb0.mono hN)⟩ (Nat.le_trans hN hb0.size) hcf)
  have HK := hid hk
  have HTAB := hid htab
  have HB0 := hid hb0
  have HCF := hid hcf
  have HAF := hid haf
  have HBF := hid hbf
  have HW0 := hid hw0
  obtain ⟨⟨a0, a1, a2, a3⟩, -⟩ := HRC0.out.four
  clear hk htab hb0 hcf haf hbf hw0 f1 f2 f3 g1 g2 g3 hav hbv
  by_cases hask : askedN c now = 0
  · have HASK := hid hask
    obtain ⟨hcw, -, hfz⟩ := askedN_ok hask
    obtain ⟨-, -, ⟨hk1, hk30⟩, -, -⟩ := (wrongCl_iff c).1 hcw
    have HFZ := hid hfz
    have HDA := hid (show ∀ (wx : World) (gc gn : Nat), Below w.heap.size w wx → Row wx gc 24 [.string c.chain, .int .i64 c.trust, .bool c.frozen, .slice oa c.known.length ca] → Row wx gn 3 [.int .i64 now] → Calls Tryz.prog 61 #[.agg #[.int .i64 a.frm, .string a.sg.hd.chain, .int .i64 a.sg.hd.height, .int .i64 a.sg.hd.time, .slice o1 a.sg.hd.root.length c1, .slice o2 a.sg.hd.vals.length c2, .slice o3 a.sg.hd.next.length c3, .slice o4 a.sg.vals.length c4, .slice o5 a.sg.votes.length c5, .slice o6 a.trusted.length c6], .pointer (some ⟨gc, 0, none⟩), .pointer (some ⟨gn, 0, none⟩)] wx fun e w' => e = .returned (.int .i64 (believeN c a now)) ∧ Below wx.heap.size wx w' from fun wx gc gn hx hr1 hr2 =>
      doubt_any c a now gc gn oa ca _ N wx (HTAB.out.below hx HTAB.out.lt) (Nat.le_trans hN hx.size) hr1 hr2 (HK.out.below (hx.mono hN)) (HAV.out.below (hx.mono hN)) HCF.out HAF.out HASK.out)
    have HDB := hid (show ∀ (wx : World) (gc gn : Nat), Below w.heap.size w wx → Row wx gc 24 [.string c.chain, .int .i64 c.trust, .bool c.frozen, .slice oa c.known.length ca] → Row wx gn 3 [.int .i64 now] → Calls Tryz.prog 61 #[.agg #[.int .i64 b.frm, .string b.sg.hd.chain, .int .i64 b.sg.hd.height, .int .i64 b.sg.hd.time, .slice r1 b.sg.hd.root.length s1, .slice r2 b.sg.hd.vals.length s2, .slice r3 b.sg.hd.next.length s3, .slice r4 b.sg.vals.length s4, .slice r5 b.sg.votes.length s5, .slice r6 b.trusted.length s6], .pointer (some ⟨gc, 0, none⟩), .pointer (some ⟨gn, 0, none⟩)] wx fun e w' => e = .returned (.int .i64 (believeN c b now)) ∧ Below wx.heap.size wx w' from fun wx gc gn hx hr1 hr2 =>
      doubt_any c b now gc gn oa ca _ N wx (HTAB.out.below hx HTAB.out.lt) (Nat.le_trans hN hx.size) hr1 hr2 (HK.out.below (hx.mono hN)) (HBV.out.below (hx.mono hN)) HCF.out HBF.out HASK.out)
    have HCP := hid (show ∀ wx, Below w.heap.size w wx → Calls Tryz.prog 29 #[.agg #[.string c.chain, .int .i64 c.trust, .bool c.frozen, .slice oa c.known.length ca]] wx fun e w' => Below wx.heap.size wx w' ∧ ∃ o m ps, e = .returned (.agg #[.string c.chain, .int .i64 c.trust, .bool c.frozen, .slice o ps.length m]) ∧ OwnKn w' wx.heap.size (.slice o ps.length m) ps ∧ ps.map (·.k) = c.known from fun wx hx =>
      copiedCl_any c _ N wx (HCV.out.below (hx.mono hN)) (Nat.le_trans hN hx.size) HCF.out (by omega))
    rw [HFZ.out] at HAS HDA HDB HCP HRC0
    simp only [hfz] at a2
    have HW0' := hid HW0.out
    rw [HFZ.out] at HW0'
    rw [HFZ.out]
    clear hask hcw hfz hk1 hk30 hca HW0 HCV
    generalize hn : c.known.length = n at *
    clear hn
    go_enter Tryz.func16, Tryz.ntmps16
    go_wp2_with fail
    rw [HW0'.out]
    refine HAS.out.mono ?_
    rintro e w1 ⟨rfl, hb1⟩
    rw [HASK.out]
    have HB1 := hid (HB0.out.trans (hb1.mono HB0.out.size))
    have HRC1 := hid (HRC0.out.below hb1 HRC0.out.lt)
    have HRA1 := hid (HRA0.out.below hb1 HRA0.out.lt)
    have HRB1 := hid (HRB0.out.below hb1 HRB0.out.lt)
    have HRZ1 := hid (HRZ0.out.below hb1 HRZ0.out.lt)
    clear hb1 a0 a1 a2 a3
    obtain ⟨⟨a0, a1, a2, a3⟩, -⟩ := HRC1.out.four
    go_wp2_with fail
    refine (doubts_any c now oa ca false n _).mono ?_
    rintro e w2 ⟨rfl, hr5, hs5, hb2⟩
    have HB2 := hid (HB1.out.trans (hb2.mono HB1.out.size))
    have HRC2 := hid (HRC1.out.below hb2 HRC1.out.lt)
    have HRA2 := hid (HRA1.out.below hb2 HRA1.out.lt)
    have HRB2 := hid (HRB1.out.below hb2 HRB1.out.lt)
    have HRZ2 := hid (HRZ1.out.below hb2 HRZ1.out.lt)
    clear a0 a1 a2 a3
    obtain ⟨⟨i0, i1, i2, i3, i4⟩, i5, i6, i7, i8, i9⟩ := HRA2.out.ten
    obtain ⟨⟨j0, j1, j2, j3, j4⟩, j5, j6, j7, j8, j9⟩ := HRB2.out.ten
    obtain ⟨w3, hw3⟩ : ∃ w3, w2.alloc (.cells #[.int .i64 a.frm, .string a.sg.hd.chain, .int .i64 a.sg.hd.height, .int .i64 a.sg.hd.time, .slice o1 a.sg.hd.root.length c1, .slice o2 a.sg.hd.vals.length c2, .slice o3 a.sg.hd.next.length c3, .slice o4 a.sg.vals.length c4, .slice o5 a.sg.votes.length c5, .slice o6 a.trusted.length c6, .int .i64 b.frm, .string b.sg.hd.chain, .int .i64 b.sg.hd.height, .int .i64 b.sg.hd.time, .slice r1 b.sg.hd.root.length s1, .slice r2 b.sg.hd.vals.length s2, .slice r3 b.sg.hd.next.length s3, .slice r4 b.sg.vals.length s4, .slice r5 b.sg.votes.length s5, .slice r6 b.trusted.length s6] 35) = w3 := ⟨_, rfl⟩
    have hb3 : Below w2.heap.size w2 w3 := by rw [← hw3]; exact (Below.refl _ _).alloc (Nat.le_refl _) _
    have HB3 := hid (HB2.out.trans (hb3.mono HB2.out.size))
    have HRS := hid (show Row w3 w2.heap.size 35 [.int .i64 a.frm, .string a.sg.hd.chain, .int .i64 a.sg.hd.height, .int .i64 a.sg.hd.time, .slice o1 a.sg.hd.root.length c1, .slice o2 a.sg.hd.vals.length c2, .slice o3 a.sg.hd.next.length c3, .slice o4 a.sg.vals.length c4, .slice o5 a.sg.votes.length c5, .slice o6 a.trusted.length c6, .int .i64 b.frm, .string b.sg.hd.chain, .int .i64 b.sg.hd.height, .int .i64 b.sg.hd.time, .slice r1 b.sg.hd.root.length s1, .slice r2 b.sg.hd.vals.length s2, .slice r3 b.sg.hd.next.length s3, .slice r4 b.sg.vals.length s4, .slice r5 b.sg.votes.length s5, .slice r6 b.trusted.length s6] by rw [← hw3]; exact Row.new _ _ _)
    have HRC3 := hid (HRC2.out.below hb3 HRC2.out.lt)
    have HRA3 := hid (HRA2.out.below hb3 HRA2.out.lt)
    have HRB3 := hid (HRB2.out.below hb3 HRB2.out.lt)
    have HRZ3 := hid (HRZ2.out.below hb3 HRZ2.out.lt)
    have HRD3 := hid (hr5.below hb3 hr5.lt)
    have HRE3 := hid (hs5.below hb3 hs5.lt)
    have HW3 := hid hw3
    clear hb2 hb3 hw3 hr5 hs5
    go_wp2_with fail
    rw [HW3.out]
    clear i0 i1 i2 i3 i4 i5 i6 i7 i8 i9 j0 j1 j2 j3 j4 j5 j6 j7 j8 j9
    go_loopw [13, 14, 29] (fun _ _ s29 wr => ∃ k : Int, (k = 0 ∨ k = 1 ∨ k = 2) ∧ s29 = .int .i64 k ∧ Hid (Below w3.heap.size w3 wr ∧ (1 ≤ k → believeN c a now = 0) ∧ (2 ≤ k → believeN c b now = 0))) (fun _ _ s29 _ => 2 - (intOf s29).toNat)
    case atStart => exact ⟨0, .inl rfl, rfl, hid ⟨Below.refl _ _, fun h => absurd h (by decide), fun h => absurd h (by decide)⟩⟩
    case round =>
      obtain ⟨k, hk, rfl, HT⟩ := hrel
      rcases hk with rfl | rfl | rfl
      · -- the first
        have hlt : (((0 : Int) < 2)) := by decide
        have q0 := (HRS.out.below HT.out.1 HRS.out.lt).cell 0
        have q1 := (HRS.out.below HT.out.1 HRS.out.lt).cell 1
        have q2 := (HRS.out.below HT.out.1 HRS.out.lt).cell 2
        have q3 := (HRS.out.below HT.out.1 HRS.out.lt).cell 3
        have q4 := (HRS.out.below HT.out.1 HRS.out.lt).cell 4
        have q5 := (HRS.out.below HT.out.1 HRS.out.lt).cell 5
        have q6 := (HRS.out.below HT.out.1 HRS.out.lt).cell 6
        have q7 := (HRS.out.below HT.out.1 HRS.out.lt).cell 7
        have q8 := (HRS.out.below HT.out.1 HRS.out.lt).cell 8
        have q9 := (HRS.out.below HT.out.1 HRS.out.lt).cell 9
        simp only [List.getElem?_cons_zero, List.getElem?_cons_succ] at q0 q1 q2 q3 q4 q5 q6 q7 q8 q9
        obtain ⟨w5, hw5⟩ : ∃ w5, wr.alloc (.cells #[.int .i64 a.frm, .string a.sg.hd.chain, .int .i64 a.sg.hd.height, .int .i64 a.sg.hd.time, .slice o1 a.sg.hd.root.length c1, .slice o2 a.sg.hd.vals.length c2, .slice o3 a.sg.hd.next.length c3, .slice o4 a.sg.vals.length c4, .slice o5 a.sg.votes.length c5, .slice o6 a.trusted.length c6] 35) = w5 := ⟨_, rfl⟩
        have hb5 : Below wr.heap.size wr w5 := by rw [← hw5]; exact (Below.refl _ _).alloc (Nat.le_refl _) _
        have HQ5 := hid (HT.out.1.trans (hb5.mono HT.out.1.size))
        have HB5 := hid (HB3.out.trans (HQ5.out.mono HB3.out.size))
        have hr5 : Row w5 wr.heap.size 35 [.int .i64 a.frm, .string a.sg.hd.chain, .int .i64 a.sg.hd.height, .int .i64 a.sg.hd.time, .slice o1 a.sg.hd.root.length c1, .slice o2 a.sg.hd.vals.length c2, .slice o3 a.sg.hd.next.length c3, .slice o4 a.sg.vals.length c4, .slice o5 a.sg.votes.length c5, .slice o6 a.trusted.length c6] := by rw [← hw5]; exact Row.new _ _ _
        obtain ⟨⟨n0, n1, n2, n3, n4⟩, n5, n6, n7, n8, n9⟩ := hr5.ten
        clear hb5 hr5
        go_wp2_with fail
        refine (HDA.out _ _ _ HB5.out (HRD3.out.below HQ5.out HRD3.out.lt) (HRE3.out.below HQ5.out HRE3.out.lt)).mono ?_
        rintro e w6 ⟨rfl, hb6⟩
        have HQ6 := hid (HQ5.out.trans (hb6.mono HQ5.out.size))
        have HB6 := hid (HB3.out.trans (HQ6.out.mono HB3.out.size))
        clear hb6 hw5 q0 q1 q2 q3 q4 q5 q6 q7 q8 q9 n0 n1 n2 n3 n4 n5 n6 n7 n8 n9
        by_cases hbl : believeN c a now = 0
        · have HBL := hid hbl
          rw [hbl]
          clear hbl
          go_wp2
          go_roundw
          case rel => exact ⟨1, by omega, by go_num, hid ⟨HQ6.out, fun _ => HBL.out, fun h => absurd h (by decide)⟩⟩
          case measure => simp [intOf]
        · have HFE := hid (show catchE c a b now = believeN c a now by unfold catchE; rw [if_neg (fun h => h HASK.out), if_pos hbl])
          have HFC := hid (show catchC c a b now = Cl.none by unfold catchC; rw [HFE.out, if_neg hbl])
          have e1 : (believeN c a now != 0) = true := by simpa using hbl
          clear hbl
          generalize believeN c a now = z at *
          have HRZ6 := hid (HRZ3.out.below HQ6.out HRZ3.out.lt)
          obtain ⟨⟨x0, x1, x2, x3⟩, z0, z1, z2, z3⟩ := HRZ6.out.four
          go_wp2
          have hrz := set4_row HRZ6.out (.string ⟨#[]⟩) (.int .i64 0) (.bool false) (.slice none 0 0)
          obtain ⟨⟨u0, u1, u2, u3⟩, -⟩ := hrz.four
          have hbz := set4_below HB6.out (show w.heap.size ≤ w.heap.size + 1 + 1 + 1 by omega) (.string ⟨#[]⟩) (.int .i64 0) (.bool false) (.slice none 0 0)
          unfold set4 at u0 u1 u2 u3
          refine bodyPost_ret (v := .tuple #[.agg #[.string ⟨#[]⟩, .int .i64 0, .bool false, .slice none 0 0], .int .i64 z]) (by simp [results, Tryz.results16, go_sem, u0, u1, u2, u3]) rfl ⟨hbz, none, 0, 0, ?_⟩
          rw [HFC.out, HFE.out]
          exact ⟨rfl, Knowns.nil _ _⟩
      · -- the second
        have hlt : (((1 : Int) < 2)) := by decide
        have q0 := (HRS.out.below HT.out.1 HRS.out.lt).cell 10
        have q1 := (HRS.out.below HT.out.1 HRS.out.lt).cell 11
        have q2 := (HRS.out.below HT.out.1 HRS.out.lt).cell 12
        have q3 := (HRS.out.below HT.out.1 HRS.out.lt).cell 13
        have q4 := (HRS.out.below HT.out.1 HRS.out.lt).cell 14
        have q5 := (HRS.out.below HT.out.1 HRS.out.lt).cell 15
        have q6 := (HRS.out.below HT.out.1 HRS.out.lt).cell 16
        have q7 := (HRS.out.below HT.out.1 HRS.out.lt).cell 17
        have q8 := (HRS.out.below HT.out.1 HRS.out.lt).cell 18
        have q9 := (HRS.out.below HT.out.1 HRS.out.lt).cell 19
        simp only [List.getElem?_cons_zero, List.getElem?_cons_succ] at q0 q1 q2 q3 q4 q5 q6 q7 q8 q9
        obtain ⟨w5, hw5⟩ : ∃ w5, wr.alloc (.cells #[.int .i64 b.frm, .string b.sg.hd.chain, .int .i64 b.sg.hd.height, .int .i64 b.sg.hd.time, .slice r1 b.sg.hd.root.length s1, .slice r2 b.sg.hd.vals.length s2, .slice r3 b.sg.hd.next.length s3, .slice r4 b.sg.vals.length s4, .slice r5 b.sg.votes.length s5, .slice r6 b.trusted.length s6] 35) = w5 := ⟨_, rfl⟩
        have hb5 : Below wr.heap.size wr w5 := by rw [← hw5]; exact (Below.refl _ _).alloc (Nat.le_refl _) _
        have HQ5 := hid (HT.out.1.trans (hb5.mono HT.out.1.size))
        have HB5 := hid (HB3.out.trans (HQ5.out.mono HB3.out.size))
        have hr5 : Row w5 wr.heap.size 35 [.int .i64 b.frm, .string b.sg.hd.chain, .int .i64 b.sg.hd.height, .int .i64 b.sg.hd.time, .slice r1 b.sg.hd.root.length s1, .slice r2 b.sg.hd.vals.length s2, .slice r3 b.sg.hd.next.length s3, .slice r4 b.sg.vals.length s4, .slice r5 b.sg.votes.length s5, .slice r6 b.trusted.length s6] := by rw [← hw5]; exact Row.new _ _ _
        obtain ⟨⟨n0, n1, n2, n3, n4⟩, n5, n6, n7, n8, n9⟩ := hr5.ten
        clear hb5 hr5
        go_wp2_with fail
        refine (HDB.out _ _ _ HB5.out (HRD3.out.below HQ5.out HRD3.out.lt) (HRE3.out.below HQ5.out HRE3.out.lt)).mono ?_
        rintro e w6 ⟨rfl, hb6⟩
        have HQ6 := hid (HQ5.out.trans (hb6.mono HQ5.out.size))
        have HB6 := hid (HB3.out.trans (HQ6.out.mono HB3.out.size))
        clear hb6 hw5 q0 q1 q2 q3 q4 q5 q6 q7 q8 q9 n0 n1 n2 n3 n4 n5 n6 n7 n8 n9
        by_cases hbl : believeN c b now = 0
        · have HBL := hid hbl
          rw [hbl]
          clear hbl
          go_wp2
          go_roundw
          case rel => exact ⟨2, by omega, by go_num, hid ⟨HQ6.out, fun _ => HT.out.2.1 (by decide), fun _ => HBL.out⟩⟩
          case measure => simp [intOf]
        · have HFE := hid (show catchE c a b now = believeN c b now by unfold catchE; rw [if_neg (fun h => h HASK.out), if_neg (fun h => h (HT.out.2.1 (by decide))), if_pos hbl])
          have HFC := hid (show catchC c a b now = Cl.none by unfold catchC; rw [HFE.out, if_neg hbl])
          have e1 : (believeN c b now != 0) = true := by simpa using hbl
          clear hbl
          generalize believeN c b now = z at *
          have HRZ6 := hid (HRZ3.out.below HQ6.out HRZ3.out.lt)
          obtain ⟨⟨x0, x1, x2, x3⟩, z0, z1, z2, z3⟩ := HRZ6.out.four
          go_wp2
          have hrz := set4_row HRZ6.out (.string ⟨#[]⟩) (.int .i64 0) (.bool false) (.slice none 0 0)
          obtain ⟨⟨u0, u1, u2, u3⟩, -⟩ := hrz.four
          have hbz := set4_below HB6.out (show w.heap.size ≤ w.heap.size + 1 + 1 + 1 by omega) (.string ⟨#[]⟩) (.int .i64 0) (.bool false) (.slice none 0 0)
          unfold set4 at u0 u1 u2 u3
          refine bodyPost_ret (v := .tuple #[.agg #[.string ⟨#[]⟩, .int .i64 0, .bool false, .slice none 0 0], .int .i64 z]) (by simp [results, Tryz.results16, go_sem, u0, u1, u2, u3]) rfl ⟨hbz, none, 0, 0, ?_⟩
          rw [HFC.out, HFE.out]
          exact ⟨rfl, Knowns.nil _ _⟩
      · -- both are believed
        have HBA := hid (HT.out.2.1 (by decide))
        have HBB := hid (HT.out.2.2 (by decide))
        have HBr := hid (HB3.out.trans (HT.out.1.mono HB3.out.size))
        have HRC4 := hid (HRC3.out.below HT.out.1 HRC3.out.lt)
        have HRA4 := hid (HRA3.out.below HT.out.1 HRA3.out.lt)
        have HRB4 := hid (HRB3.out.below HT.out.1 HRB3.out.lt)
        have HRZ4 := hid (HRZ3.out.below HT.out.1 HRZ3.out.lt)
        have HCT := hid (contradict_any a.sg.hd b.sg.hd _ _ N wr (Nat.le_trans hN HBr.out.size) (HHA.out.below (HBr.out.mono hN)) (HHB.out.below (HBr.out.mono hN)) (bel_right HBA.out) (bel_right HBB.out))
        obtain ⟨⟨i0, i1, i2, i3, i4⟩, i5, i6, i7, i8, i9⟩ := HRA4.out.ten
        obtain ⟨⟨j0, j1, j2, j3, j4⟩, j5, j6, j7, j8, j9⟩ := HRB4.out.ten
        have HFE := hid (show catchE c a b now = if a.sg.hd.height ≠ b.sg.hd.height ∨ sameH a.sg.hd b.sg.hd = true then 8 else 0 by
          unfold catchE
          rw [if_neg (fun h => h HASK.out), if_neg (fun h => h HBA.out), if_neg (fun h => h HBB.out)])
        go_wp2_with fail
        refine HCT.out.mono ?_
        rintro e w6 ⟨rfl, hb6⟩
        have HB6 := hid (HBr.out.trans (hb6.mono HBr.out.size))
        have HRC6 := hid (HRC4.out.below hb6 HRC4.out.lt)
        have HRA6 := hid (HRA4.out.below hb6 HRA4.out.lt)
        have HRB6 := hid (HRB4.out.below hb6 HRB4.out.lt)
        have HRZ6 := hid (HRZ4.out.below hb6 HRZ4.out.lt)
        clear hb6 i0 i1 i2 i3 i4 i5 i6 i7 i8 i9 j0 j1 j2 j3 j4 j5 j6 j7 j8 j9
        by_cases hct : contraB a.sg.hd b.sg.hd = true
        · have HE0 := hid (show catchE c a b now = 0 by
            rw [HFE.out, if_neg]
            unfold contraB at hct
            simp at hct
            intro h
            rcases h with h | h
            · exact h hct.1
            · rw [hct.2] at h; cases h)
          have HFC := hid (show catchC c a b now = { c with frozen := true } by unfold catchC; rw [if_pos HE0.out])
          rw [hct]
          clear hct
          obtain ⟨⟨a0, a1, a2, a3⟩, -⟩ := HRC6.out.four
          go_wp2_with fail
          refine (HCP.out _ HB6.out).mono ?_
          rintro e w8 ⟨hb8, o8, m8, ps, rfl, hown, hps⟩
          have HB8 := hid (HB6.out.trans (hb8.mono HB6.out.size))
          have HRC8 := hid (HRC6.out.below hb8 HRC6.out.lt)
          have HRA8 := hid (HRA6.out.below hb8 HRA6.out.lt)
          have HRB8 := hid (HRB6.out.below hb8 HRB6.out.lt)
          have HRZ8 := hid (HRZ6.out.below hb8 HRZ6.out.lt)
          have HO := hid hown
          have HPS := hid hps
          have HL6 := hid HRZ6.out.lt
          generalize hpl : ps.length = n8 at *
          clear hb8 hown hps hpl a0 a1 a2 a3
          obtain ⟨⟨a0, a1, a2, a3⟩, y0, y1, y2, y3⟩ := HRC8.out.four
          have hne : w.heap.size + 1 + 1 + 1 ≠ w.heap.size := by omega
          obtain ⟨wA, hwA⟩ : ∃ wA, (((w8.setCell ⟨w.heap.size, 0, none⟩ (.string c.chain)).setCell ⟨w.heap.size, 1, none⟩ (.int .i64 c.trust)).setCell ⟨w.heap.size, 2, none⟩ (.bool false)).setCell ⟨w.heap.size, 3, none⟩ (.slice o8 n8 m8) = wA := ⟨_, rfl⟩
          have hA4 : set4 w8 (w.heap.size) (.string c.chain) (.int .i64 c.trust) (.bool false) (.slice o8 n8 m8) = wA := hwA
          have HBA := hid (show Below w.heap.size w wA by rw [← hA4]; exact set4_below HB8.out (Nat.le_refl _) _ _ _ _)
          have HOA := hid (show ∀ g, g ≠ w.heap.size → wA.heap[g]? = w8.heap[g]? by rw [← hA4]; exact set4_other w8 _ _ _ _ _)
          have HRCA := hid (show Row wA (w.heap.size) 24 [.string c.chain, .int .i64 c.trust, .bool false, .slice o8 n8 m8] by rw [← hA4]; exact set4_row HRC8.out _ _ _ _)
          have HRZA := hid (show Row wA (w.heap.size + 1 + 1 + 1) 24 [.string ⟨#[]⟩, .int .i64 0, .bool false, .slice none 0 0] by have := HRZ8.out; unfold Row at *; rw [HOA.out _ hne]; exact this)
          obtain ⟨wB, hwB⟩ : ∃ wB, wA.setCell ⟨w.heap.size, 2, none⟩ (.bool true) = wB := ⟨_, rfl⟩
          have HBB' := hid (show Below w.heap.size w wB by rw [← hwB]; exact HBA.out.setCell (Nat.le_refl _) _)
          have HOB := hid (show ∀ g, g ≠ w.heap.size → wB.heap[g]? = w8.heap[g]? from fun g hg => by rw [← hwB, heap_setCell_other _ _ _ _ hg]; exact HOA.out g hg)
          have HRCB := hid (show Row wB (w.heap.size) 24 [.string c.chain, .int .i64 c.trust, .bool true, .slice o8 n8 m8] by rw [← hwB]; exact HRCA.out.set 2 (.bool true))
          have HRZB := hid (show Row wB (w.heap.size + 1 + 1 + 1) 24 [.string ⟨#[]⟩, .int .i64 0, .bool false, .slice none 0 0] by rw [← hwB]; exact setCell_row HRZA.out _ _ hne)
          obtain ⟨⟨ba0, ba1, ba2, ba3⟩, bf0, bf1, bf2, bf3⟩ := HRCA.out.four
          obtain ⟨⟨b0, b1, b2, b3⟩, -⟩ := HRCB.out.four
          obtain ⟨⟨x0, x1, x2, x3⟩, z0, z1, z2, z3⟩ := HRZB.out.four
          clear hA4
          go_wp2
          have hrz := set4_row HRZB.out (.string c.chain) (.int .i64 c.trust) (.bool true) (.slice o8 n8 m8)
          obtain ⟨⟨u0, u1, u2, u3⟩, -⟩ := hrz.four
          have hbz := set4_below HBB'.out (show w.heap.size ≤ w.heap.size + 1 + 1 + 1 by omega) (.string c.chain) (.int .i64 c.trust) (.bool true) (.slice o8 n8 m8)
          have hoz := set4_other wB (w.heap.size + 1 + 1 + 1) (.string c.chain) (.int .i64 c.trust) (.bool true) (.slice o8 n8 m8)
          have hkz := (HO.out.keep (fun g hg => (hoz g (by have := HL6.out; omega)).trans (HOB.out g (by have := HL6.out; omega)))).knowns
          rw [HPS.out] at hkz
          unfold set4 at u0 u1 u2 u3
          refine bodyPost_ret (v := .tuple #[.agg #[.string c.chain, .int .i64 c.trust, .bool true, .slice o8 n8 m8], .int .i64 0]) (by simp [results, Tryz.results16, go_sem, u0, u1, u2, u3]) rfl ⟨hbz, o8, n8, m8, ?_⟩
          rw [HFC.out, HE0.out]
          exact ⟨rfl, hkz⟩
        · have hct' : contraB a.sg.hd b.sg.hd = false := by simpa using hct
          have HE8 := hid (show catchE c a b now = 8 by
            rw [HFE.out, if_pos]
            unfold contraB at hct'
            by_cases he : a.sg.hd.height = b.sg.hd.height
            · rw [decide_eq_true he] at hct'
              exact .inr (by simpa using hct')
            · exact .inl he)
          have HFC := hid (show catchC c a b now = Cl.none by unfold catchC; rw [HE8.out, if_neg (by decide)])
          rw [hct']
          clear hct hct'
          obtain ⟨⟨x0, x1, x2, x3⟩, z0, z1, z2, z3⟩ := HRZ6.out.four
          go_wp2
          have hrz := set4_row HRZ6.out (.string ⟨#[]⟩) (.int .i64 0) (.bool false) (.slice none 0 0)
          obtain ⟨⟨u0, u1, u2, u3⟩, -⟩ := hrz.four
          have hbz := set4_below HB6.out (show w.heap.size ≤ w.heap.size + 1 + 1 + 1 by omega) (.string ⟨#[]⟩) (.int .i64 0) (.bool false) (.slice none 0 0)
          unfold set4 at u0 u1 u2 u3
          refine bodyPost_ret (v := .tuple #[.agg #[.string ⟨#[]⟩, .int .i64 0, .bool false, .slice none 0 0], .int .i64 8]) (by simp [results, Tryz.results16, go_sem, u0, u1, u2, u3]) rfl ⟨hbz, none, 0, 0, ?_⟩
          rw [HFC.out, HE8.out]
          exact ⟨rfl, Knowns.nil _ _⟩
  · have HFE := hid (show catchE c a b now = askedN c now by unfold catchE; rw [if_pos hask])
    have HFC := hid (show catchC c a b now = Cl.none by unfold catchC; rw [HFE.out, if_neg hask])
    have e1 : (askedN c now != 0) = true := by simpa using hask
    clear hask
    generalize askedN c now = z at *
    go_enter Tryz.func16, Tryz.ntmps16
    go_wp2_with fail
    rw [HW0.out]
    refine HAS.out.mono ?_
    rintro e w1 ⟨rfl, hb1⟩
    have HB1 := hid (HB0.out.trans (hb1.mono HB0.out.size))
    have HRZ1 := hid (HRZ0.out.below hb1 HRZ0.out.lt)
    clear hb1 a0 a1 a2 a3
    obtain ⟨⟨x0, x1, x2, x3⟩, z0, z1, z2, z3⟩ := HRZ1.out.four
    go_wp2
    have hrz := set4_row HRZ1.out (.string ⟨#[]⟩) (.int .i64 0) (.bool false) (.slice none 0 0)
    obtain ⟨⟨u0, u1, u2, u3⟩, -⟩ := hrz.four
    have hbz := set4_below HB1.out (show w.heap.size ≤ w.heap.size + 1 + 1 + 1 by omega) (.string ⟨#[]⟩) (.int .i64 0) (.bool false) (.slice none 0 0)
    unfold set4 at u0 u1 u2 u3
    refine bodyPost_ret (v := .tuple #[.agg #[.string ⟨#[]⟩, .int .i64 0, .bool false, .slice none 0 0], .int .i64 z]) (by simp [results, Tryz.results16, go_sem, u0, u1, u2, u3]) rfl ⟨hbz, none, 0, 0, ?_⟩
    rw [HFC.out, HFE.out]
    exact ⟨rfl, Knowns.nil _ _⟩
end Go.Proofs.YtiflkkelbnpniaaGreatDoor
