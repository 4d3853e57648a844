/-
  What package proof's sideBySide and Absent answer: whether a gap shows that a key does not stand in the book with a root.
  What package client's Member and Missing answer: whether a proof, or a gap, shows something of what a client knows.
-/
import Derived.Test.YtclhcjiblfokaaaGreatDoorpnProofShownW
import Derived.Test.YtclhcjiblfokaaaGreatDoorpnPairsAll
import Derived.Test.YtclhcjiblfokaaaGreatDoorpnBookMath
import Derived.Test.YtclhcjiblfokaaaGreatDoorpnBookTree
import Derived.Test.YtclhcjiblfokaaaGreatDoorpnShaAll
import Derived.Test.YtclhcjiblfokaaaGreatDoorpnSameB
import Derived.Test.YtclhcjiblfokaaaGreatDoorpnClAsk
import Derived.Lib.BytesEntry
import Derived.Lib.Bytealg
import Derived.Laws.Externs
import Derived.Lib.SliceRun
namespace Go.Proofs.YtclhcjiblfokaaaGreatDoor
open Go.RowKit

end Go.Proofs.YtclhcjiblfokaaaGreatDoor
namespace Go.Proofs.YtclhcjiblfokaaaGreatDoor
open Go.RowKit

/-- why something is not shown -/
def ShownN (c : Cl) (now height : Int) (P : List (BitVec 8) → Prop) (z : Int) : Prop :=
  (askedN c now ≠ 0 ∧ z = askedN c now) ∨ (askedN c now = 0 ∧ atK c.known height = none ∧ z = 6) ∨ (askedN c now = 0 ∧ ∃ k, atK c.known height = some k ∧ ((activeB c now = false ∧ z = 11) ∨ (activeB c now = true ∧ ((P k.root ∧ z = 0) ∨ (¬ P k.root ∧ z = 9)))))
theorem ShownN.eq {c : Cl} {now height : Int} {P : List (BitVec 8) → Prop} {z y : Int} (h : ShownN c now height P z) (g : ShownN c now height P y) : z = y := by
  rcases h with ⟨h1, rfl⟩ | ⟨h1, h2, rfl⟩ | ⟨h1, k, h2, h3⟩
  · rcases g with ⟨_, rfl⟩ | ⟨g1, _⟩ | ⟨g1, _⟩
    · rfl
    · exact absurd g1 h1
    · exact absurd g1 h1
  · rcases g with ⟨g1, _⟩ | ⟨_, _, rfl⟩ | ⟨_, k, g2, _⟩
    · exact absurd h1 g1
    · rfl
    · rw [h2] at g2; cases g2
  · rcases g with ⟨g1, _⟩ | ⟨_, g2, _⟩ | ⟨_, k', g2, g3⟩
    · exact absurd h1 g1
    · rw [h2] at g2; cases g2
    · rw [h2] at g2
      obtain rfl : k = k' := by simpa using g2
      rcases h3 with ⟨a1, rfl⟩ | ⟨a1, a2⟩
      · rcases g3 with ⟨_, rfl⟩ | ⟨b1, _⟩
        · rfl
        · rw [a1] at b1; cases b1
      · rcases g3 with ⟨b1, _⟩ | ⟨_, b2⟩
        · rw [a1] at b1; cases b1
        · rcases a2 with ⟨a3, rfl⟩ | ⟨a3, rfl⟩
          · rcases b2 with ⟨_, rfl⟩ | ⟨b3, _⟩
            · rfl
            · exact absurd a3 b3
          · rcases b2 with ⟨b3, _⟩ | ⟨_, rfl⟩
            · exact absurd b3 a3
            · rfl
theorem ShownN.frozen {c : Cl} {now height : Int} {P : List (BitVec 8) → Prop} {z : Int} (h : ShownN c now height P z) (ha : askedN c now = 12) : z = 12 := by
  rcases h with ⟨_, rfl⟩ | ⟨h1, _⟩ | ⟨h1, _⟩
  · exact ha
  · omega
  · omega
theorem Row.five {w : World} {g : Nat} {t : TypeId} {a b c d e : Value} (h : Row w g t [a, b, c, d, e]) : w.cell? ⟨g, 0, none⟩ = some a ∧ w.cell? ⟨g, 1, none⟩ = some b ∧ w.cell? ⟨g, 2, none⟩ = some c ∧ w.cell? ⟨g, 3, none⟩ = some d ∧ w.cell? ⟨g, 4, none⟩ = some e :=
  ⟨h.cell 0, h.cell 1, h.cell 2, h.cell 3, h.cell 4⟩
set_option maxRecDepth 100000 in
set_option maxHeartbeats 4000000 in
theorem member1_any (p : Prf) (key val root : List (BitVec 8)) (gp gk gv : Nat) (pv kv vv rv : Value) (N : Nat) (w : World) (htab : tableAt w) (hN : N ≤ w.heap.size) (hp : PrfV w N pv p) (hk : Bytes w N kv key) (hv : Bytes w N vv val) (hr : Bytes w w.heap.size rv root) (hf : p.fits) (hrl : root.length ≤ 140737488351232)
    (hrp : ∃ cs, pv = .agg cs ∧ Row w gp 34 cs.toList) (hrk : Row w gk 29 [kv]) (hrv : Row w gv 29 [vv]) :
    Calls Tryz.prog 96 #[rv, .pointer (some ⟨gp, 0, none⟩), .pointer (some ⟨gk, 0, none⟩), .pointer (some ⟨gv, 0, none⟩)] w fun e w' => Below w.heap.size w w' ∧ Tells (p.key = key ∧ p.val = val ∧ shownB root p) e := by
  have HS := hid (shownC root p rv pv w.heap.size w htab (Nat.le_refl _) hr (hp.mono hN) hf hrl)
  obtain ⟨x1, x2, x3, rfl, h1, h2, h3⟩ := hp
  have HE1 := hid (equal_any p.key key x1 kv N N w h1 hk)
  have HE2 := hid (equal_any p.val val x2 vv N N w h2 hv)
  obtain ⟨q1, y1, rfl, _⟩ := h1.shape
  obtain ⟨q2, y2, rfl, _⟩ := h2.shape
  obtain ⟨q3, y3, rfl, _⟩ := h3.shape
  obtain ⟨o1, c1, rfl, _⟩ := hk.shape
  obtain ⟨o2, c2, rfl, _⟩ := hv.shape
  obtain ⟨o3, c3, rfl, _⟩ := hr.shape
  obtain ⟨cs, hcs, hrow⟩ := hrp
  obtain rfl : cs = #[.int .i64 p.index, .int .i64 p.size, .slice q1 p.key.length y1, .slice q2 p.val.length y2, .slice q3 p.path.length y3] := by simpa using hcs.symm
  obtain ⟨i0, i1, i2, i3, i4⟩ := Row.five hrow
  have k0 := hrk.cell 0
  have k1 := hrv.cell 0
  simp only [List.getElem?_cons_zero] at k0 k1
  clear h1 h2 h3 hk hv hr hcs hrow hrk hrv htab
  by_cases e1 : p.key = key
  · rw [decide_eq_true e1] at HE1
    have HQ1 := hid e1
    clear e1
    by_cases e2 : p.val = val
    · rw [decide_eq_true e2] at HE2
      have HQ2 := hid e2
      clear e2
      generalize p.key.length = n1 at *
      generalize p.val.length = n2 at *
      generalize p.path.length = n3 at *
      generalize key.length = n4 at *
      generalize val.length = n5 at *
      generalize hn6 : root.length = n6 at *
      clear hn6
      go_enter Tryz.func96, Tryz.ntmps96
      go_wp2_with fail
      refine HE1.out.mono ?_
      rintro e w2 ⟨rfl, hw2⟩
      obtain rfl := hw2.symm
      go_wp2_with fail
      refine HE2.out.mono ?_
      rintro e w2 ⟨rfl, hw2⟩
      obtain rfl := hw2.symm
      go_wp2_with fail
      refine HS.out.mono ?_
      rintro e w3 ⟨hb3, bb, rfl, hbb⟩
      have HB3 := hid hb3
      have HBB := hid hbb
      clear hb3 hbb
      go_wp2
      go_ret
      exact ⟨HB3.out, bb, rfl, fun h => ⟨HQ1.out, HQ2.out, HBB.out.1 h⟩, fun h => HBB.out.2 h.2.2⟩
    · rw [decide_eq_false e2] at HE2
      have HQ2 := hid e2
      clear e2
      generalize p.key.length = n1 at *
      generalize p.val.length = n2 at *
      generalize key.length = n4 at *
      generalize val.length = n5 at *
      go_enter Tryz.func96, Tryz.ntmps96
      go_wp2_with fail
      refine HE1.out.mono ?_
      rintro e w2 ⟨rfl, hw2⟩
      obtain rfl := hw2.symm
      go_wp2_with fail
      refine HE2.out.mono ?_
      rintro e w2 ⟨rfl, hw2⟩
      obtain rfl := hw2.symm
      go_wp2
      go_ret
      exact ⟨Below.refl _ _, Tells.no (fun h => HQ2.out h.2.1)⟩
  · rw [decide_eq_false e1] at HE1
    have HQ1 := hid e1
    clear e1
    generalize p.key.length = n1 at *
    generalize key.length = n4 at *
    go_enter Tryz.func96, Tryz.ntmps96
    go_wp2_with fail
    refine HE1.out.mono ?_
    rintro e w2 ⟨rfl, hw2⟩
    obtain rfl := hw2.symm
    go_wp2
    go_ret
    exact ⟨Below.refl _ _, Tells.no (fun h => HQ1.out h.1)⟩
set_option maxRecDepth 100000 in
set_option maxHeartbeats 4000000 in
theorem shownM_any (P : List (BitVec 8) → Prop) (c : Cl) (now height : Int) (gp gk gv : Nat) (cv : Value) (N : Nat) (w : World) (hN : N ≤ w.heap.size) (hcv : ClV w N cv c) (hcf : c.fits)
    (hh : ∀ (wx : World) (root : List (BitVec 8)) (rv : Value), Below w.heap.size w wx → Bytes wx wx.heap.size rv root → root.length ≤ 140737488351232 → Calls Tryz.prog 96 #[rv, .pointer (some ⟨gp, 0, none⟩), .pointer (some ⟨gk, 0, none⟩), .pointer (some ⟨gv, 0, none⟩)] wx fun e w' => Below wx.heap.size wx w' ∧ Tells (P root) e) :
    Calls Tryz.prog 95 #[cv, .int .i64 now, .int .i64 height, .func (.func 96) #[] #[.pointer (some ⟨gp, 0, none⟩), .pointer (some ⟨gk, 0, none⟩), .pointer (some ⟨gv, 0, none⟩)]] w fun e w' => Below w.heap.size w w' ∧ ∃ z, e = .returned (.int .i64 z) ∧ ShownN c now height P z := by
  have HAS := hid (show ∀ wx, Below w.heap.size w wx → _ from fun wx hx => askedC c now cv N wx (hcv.below (hx.mono hN)) (Nat.le_trans hN hx.size) hcf)
  have HFI := hid (show ∀ wx, Below w.heap.size w wx → _ from fun wx hx => findC c height cv N wx (hcv.below (hx.mono hN)) (Nat.le_trans hN hx.size) hcf)
  have HCV := hid hcv
  have HHH := hid hh
  have HCF := hid hcf
  obtain ⟨kv, rfl, hk⟩ := hcv
  obtain ⟨oa, ca, rfl, hca⟩ := hk.shape
  obtain ⟨w0, hw0⟩ : ∃ w0, w.alloc (.cells #[.string c.chain, .int .i64 c.trust, .bool c.frozen, .slice oa c.known.length ca] 79) = w0 := ⟨_, rfl⟩
  have HB0 := hid (show Below w.heap.size w w0 by rw [← hw0]; exact (Below.refl _ _).alloc (Nat.le_refl _) _)
  have HR0 := hid (show Row w0 w.heap.size 79 [.string c.chain, .int .i64 c.trust, .bool c.frozen, .slice oa c.known.length ca] by rw [← hw0]; exact Row.new _ _ _)
  have HW0 := hid hw0
  obtain ⟨⟨a0, a1, a2, a3⟩, _⟩ := HR0.out.four
  clear hw0 hk hh hcf hca
  go_enter Tryz.func95, Tryz.ntmps95
  go_wp2_with fail
  rw [HW0.out]
  refine (HAS.out _ HB0.out).mono ?_
  rintro e w1 ⟨rfl, hb1⟩
  have HB1 := hid (HB0.out.trans (hb1.mono HB0.out.size))
  have HR1 := hid (HR0.out.below hb1 HR0.out.lt)
  clear hb1 a0 a1 a2 a3
  obtain ⟨⟨a0, a1, a2, a3⟩, _⟩ := HR1.out.four
  by_cases hask : askedN c now = 0
  · rw [hask]
    have HASK := hid hask
    have HAC := hid (show ∀ wx, Below w.heap.size w wx → Calls Tryz.prog 139 #[.agg #[.string c.chain, .int .i64 c.trust, .bool c.frozen, .slice oa c.known.length ca], .int .i64 now] wx _ from fun wx hx => activeC c now _ N wx (HCV.out.below (hx.mono hN)) (Nat.le_trans hN hx.size) (askedN_ok HASK.out).1 (askedN_ok HASK.out).2.1)
    clear hask
    go_wp2_with fail
    refine (HFI.out _ HB1.out).mono ?_
    rintro e w2 ⟨hb2, p1, d1, p2, d2, rfl, hx1, hx2⟩
    have HB2 := hid (HB1.out.trans (hb2.mono HB1.out.size))
    have HR2 := hid (HR1.out.below hb2 HR1.out.lt)
    clear hb2 a0 a1 a2 a3
    obtain ⟨⟨a0, a1, a2, a3⟩, _⟩ := HR2.out.four
    have m1 : w.heap.size < w2.heap.size := HR2.out.lt
    have m2 : w.heap.size ≠ w2.heap.size := by omega
    cases hat : atK c.known height with
    | none =>
      have HAT := hid hat
      clear hat hx1 hx2
      simp only [Option.isSome]
      generalize knAt c.known height = k at *
      go_wp2
      go_ret
      exact ⟨HB2.out.alloc HB2.out.size _, _, rfl, .inr (.inl ⟨HASK.out, HAT.out, rfl⟩)⟩
    | some k =>
      have HAT := hid hat
      rw [knAt_some hat] at hx1
      rw [knAt_some hat]
      simp only [Option.isSome]
      obtain ⟨w3, hw3⟩ : ∃ w3, w2.alloc (.cells #[.int .i64 k.height, .int .i64 k.time, .slice p1 k.root.length d1, .slice p2 k.next.length d2] 93) = w3 := ⟨_, rfl⟩
      have hb3 : Below w2.heap.size w2 w3 := by rw [← hw3]; exact (Below.refl _ _).alloc (Nat.le_refl _) _
      have HB3 := hid (HB2.out.trans (hb3.mono HB2.out.size))
      have HRK3 := hid (show Row w3 w2.heap.size 93 [.int .i64 k.height, .int .i64 k.time, .slice p1 k.root.length d1, .slice p2 k.next.length d2] by rw [← hw3]; exact Row.new _ _ _)
      have HX1 := hid ((hx1.below hb3).mono hb3.size)
      have HKF := hid (HCF.out.2.2 k (atK_some hat).1)
      have HW3 := hid hw3
      clear hat hx1 hx2 hb3 hw3
      go_wp2_with fail
      rw [HW3.out]
      refine (HAC.out _ HB3.out).mono ?_
      rintro e w4 ⟨rfl, hb4⟩
      have HB4 := hid (HB3.out.trans (hb4.mono HB3.out.size))
      have HRK4 := hid (HRK3.out.below hb4 HRK3.out.lt)
      have HX4 := hid ((HX1.out.below hb4).mono hb4.size)
      clear hb4 a0 a1 a2 a3 m1 m2
      obtain ⟨⟨a0, a1, a2, a3⟩, _⟩ := HRK4.out.four
      cases hac : activeB c now with
      | false =>
        have HACT := hid hac
        clear hac
        go_wp2
        go_ret
        exact ⟨HB4.out, _, rfl, .inr (.inr ⟨HASK.out, k, HAT.out, .inl ⟨HACT.out, rfl⟩⟩)⟩
      | true =>
        have HACT := hid hac
        clear hac
        go_wp2_with fail
        refine (HHH.out w4 k.root _ HB4.out HX4.out HKF.out.1).mono ?_
        rintro e w5 ⟨hb5, bb, rfl, hbb⟩
        have HB5 := hid (HB4.out.trans (hb5.mono HB4.out.size))
        have HBB := hid hbb
        clear hb5 hbb
        cases bb with
        | true =>
          go_wp2
          go_ret
          exact ⟨HB5.out, _, rfl, .inr (.inr ⟨HASK.out, k, HAT.out, .inr ⟨HACT.out, .inl ⟨HBB.out.1 (by simp), rfl⟩⟩⟩)⟩
        | false =>
          go_wp2
          go_ret
          exact ⟨HB5.out, _, rfl, .inr (.inr ⟨HASK.out, k, HAT.out, .inr ⟨HACT.out, .inr ⟨fun h => absurd (HBB.out.2 h) (by simp), rfl⟩⟩⟩)⟩
  · have HASK := hid hask
    have e1 : (askedN c now != 0) = true := by simpa using hask
    clear hask
    generalize hz : askedN c now = z at *
    have HZ := hid hz
    clear hz
    go_wp2
    go_ret
    exact ⟨HB1.out, _, rfl, .inl ⟨by rw [HZ.out]; exact HASK.out, HZ.out.symm⟩⟩
/-- what Member is to answer -/
def MemberC (f : FuncId) : Prop := ∀ (c : Cl) (now height : Int) (key val : List (BitVec 8)) (p : Prf) (cv kv vv pv : Value) (N : Nat) (w : World), tableAt w → N ≤ w.heap.size → ClV w N cv c → Bytes w N kv key → Bytes w N vv val → PrfV w N pv p → c.fits → key.length ≤ 140737488351232 → val.length ≤ 140737488351232 → p.fits →
  Calls Tryz.prog f #[cv, .int .i64 now, .int .i64 height, kv, vv, pv] w fun e w' => Below w.heap.size w w' ∧ ∃ z, e = .returned (.int .i64 z) ∧ ShownN c now height (fun r => p.key = key ∧ p.val = val ∧ shownB r p) z
set_option maxRecDepth 100000 in
set_option maxHeartbeats 4000000 in
theorem memberC : MemberC 45 := by
  intro c now height key val p cv kv vv pv N w htab hN hcv hk hv hp hcf hkl hvl hpf
  have HCV := hid hcv
  have HP := hid hp
  have HK := hid hk
  have HV := hid hv
  have HTAB := hid htab
  obtain ⟨xv, rfl, hkn⟩ := hcv
  obtain ⟨oa, ca, rfl, hca⟩ := hkn.shape
  obtain ⟨o1, c1, rfl, _⟩ := hk.shape
  obtain ⟨o2, c2, rfl, _⟩ := hv.shape
  obtain ⟨x1, x2, x3, rfl, h1, h2, h3⟩ := hp
  obtain ⟨q1, y1, rfl, _⟩ := h1.shape
  obtain ⟨q2, y2, rfl, _⟩ := h2.shape
  obtain ⟨q3, y3, rfl, _⟩ := h3.shape
  obtain ⟨w0, hw0⟩ : ∃ w0, (((w.alloc (.cells #[.string c.chain, .int .i64 c.trust, .bool c.frozen, .slice oa c.known.length ca] 79)).alloc (.cells #[.slice o1 key.length c1] 29)).alloc (.cells #[.slice o2 val.length c2] 29)).alloc (.cells #[.int .i64 p.index, .int .i64 p.size, .slice q1 p.key.length y1, .slice q2 p.val.length y2, .slice q3 p.path.length y3] 34) = w0 := ⟨_, rfl⟩
  have hb0 : Below w.heap.size w w0 := by rw [← hw0]; exact ((((Below.refl _ _).alloc (Nat.le_refl _) _).alloc (by simp) _).alloc (by simp; omega) _).alloc (by simp; omega) _
  have hr0 : Row w0 w.heap.size 79 [.string c.chain, .int .i64 c.trust, .bool c.frozen, .slice oa c.known.length ca] := by rw [← hw0]; exact (((Row.new _ _ _).alloc _).alloc _).alloc _
  have hr1 : Row w0 (w.heap.size + 1) 29 [.slice o1 key.length c1] := by rw [← hw0]; exact ((Row.newAt _ _ _ _ (by simp)).alloc _).alloc _
  have hr2 : Row w0 (w.heap.size + 1 + 1) 29 [.slice o2 val.length c2] := by rw [← hw0]; exact (Row.newAt _ _ _ _ (by simp)).alloc _
  have hr3 : Row w0 (w.heap.size + 1 + 1 + 1) 34 [.int .i64 p.index, .int .i64 p.size, .slice q1 p.key.length y1, .slice q2 p.val.length y2, .slice q3 p.path.length y3] := by rw [← hw0]; exact Row.newAt _ _ _ _ (by simp)
  have HSH := hid (shownM_any (fun r => p.key = key ∧ p.val = val ∧ shownB r p) c now height (w.heap.size + 1 + 1 + 1) (w.heap.size + 1) (w.heap.size + 1 + 1) (.agg #[.string c.chain, .int .i64 c.trust, .bool c.frozen, .slice oa c.known.length ca]) N w0 (Nat.le_trans hN hb0.size) (HCV.out.below (hb0.mono hN)) hcf
    (fun wx root rv hx hr hrl => by
      have hbx := hb0.trans (hx.mono hb0.size)
      exact member1_any p key val root _ _ _ _ _ _ rv N wx (HTAB.out.below hbx HTAB.out.lt) (Nat.le_trans hN hbx.size) (HP.out.below (hbx.mono hN)) (HK.out.below (hbx.mono hN)) (HV.out.below (hbx.mono hN)) hr hpf hrl ⟨_, rfl, hr3.below hx hr3.lt⟩ (hr1.below hx hr1.lt) (hr2.below hx hr2.lt)))
  have HB0 := hid hb0
  have HW0 := hid hw0
  obtain ⟨⟨a0, a1, a2, a3⟩, _⟩ := hr0.four
  clear hkn hk hv h1 h2 h3 hw0 hb0 hr0 hr1 hr2 hr3 htab hcf hpf
  go_enter Tryz.func45, Tryz.ntmps45
  go_wp2_with fail
  rw [HW0.out]
  refine HSH.out.mono ?_
  rintro e w1 ⟨hb1, z, rfl, hz⟩
  have HB1 := hid (HB0.out.trans (hb1.mono HB0.out.size))
  have HZ := hid hz
  clear hb1 hz
  go_wp2
  go_ret
  exact ⟨HB1.out, z, rfl, HZ.out⟩
theorem ShownN.some (c : Cl) (now height : Int) (P : List (BitVec 8) → Prop) : ∃ z, ShownN c now height P z := by
  by_cases h1 : askedN c now = 0
  · cases h2 : atK c.known height with
    | none => exact ⟨6, .inr (.inl ⟨h1, h2, rfl⟩)⟩
    | some k =>
      cases h3 : activeB c now with
      | false => exact ⟨11, .inr (.inr ⟨h1, k, h2, .inl ⟨h3, rfl⟩⟩)⟩
      | true =>
        by_cases h4 : P k.root
        · exact ⟨0, .inr (.inr ⟨h1, k, h2, .inr ⟨h3, .inl ⟨h4, rfl⟩⟩⟩)⟩
        · exact ⟨9, .inr (.inr ⟨h1, k, h2, .inr ⟨h3, .inr ⟨h4, rfl⟩⟩⟩)⟩
  · exact ⟨askedN c now, .inl ⟨h1, rfl⟩⟩
theorem MemberC.z {f : FuncId} (h : MemberC f) (c : Cl) (now height : Int) (key val : List (BitVec 8)) (p : Prf) (cv kv vv pv : Value) (N : Nat) (w : World) (h1 : tableAt w) (h2 : N ≤ w.heap.size) (h3 : ClV w N cv c) (h4 : Bytes w N kv key) (h5 : Bytes w N vv val) (h6 : PrfV w N pv p) (h7 : c.fits) (h8 : key.length ≤ 140737488351232) (h9 : val.length ≤ 140737488351232) (h10 : p.fits) {zm : Int} (hz : ShownN c now height (fun r => p.key = key ∧ p.val = val ∧ shownB r p) zm) :
    Calls Tryz.prog f #[cv, .int .i64 now, .int .i64 height, kv, vv, pv] w fun e w' => e = .returned (.int .i64 zm) ∧ Below w.heap.size w w' := by
  refine (h c now height key val p cv kv vv pv N w h1 h2 h3 h4 h5 h6 h7 h8 h9 h10).mono ?_
  rintro e w' ⟨hb, z, rfl, hz'⟩
  exact ⟨by rw [hz'.eq hz], hb⟩
end Go.Proofs.YtclhcjiblfokaaaGreatDoor
