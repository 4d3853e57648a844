/-
  What package client's learn answers: what a client is that believes a header.
-/
import Derived.Test.YtfpngilmdgeikaaDoorClLearn
namespace Go.Proofs.YtfpngilmdgeikaaDoor
open Go.RowKit

theorem learn_yes {c : Cl} {k o : Kn} (h : atK c.known k.height = some o) : learnC c k = { c with frozen := !sameK o k } := by unfold learnC; rw [h]
theorem learn_late {c : Cl} {k : Kn} (h : atK c.known k.height = none) (h2 : timeB c.known k.height k.time = false) : learnC c k = { c with frozen := true } := by unfold learnC; rw [h]; simp [h2]
theorem learn_put {c : Cl} {k : Kn} (h : atK c.known k.height = none) (h2 : timeB c.known k.height k.time = true) : learnC c k = { c with known := cutK (putK c.known k) } := by unfold learnC; rw [h]; simp [h2]
set_option maxRecDepth 100000 in
set_option maxHeartbeats 4000000 in
theorem learn_any (c : Cl) (ps : List KnR) (q : KnR) (o : Option Addr) (m base : Nat) (w : World) (hc : ps.map (·.k) = c.known) (hfz : c.frozen = false) (hown : OwnKn w base (.slice o ps.length m) ps) (hq : OwnB w base q.r q.k.root ∧ OwnB w base q.n q.k.next) (hb : base ≤ w.heap.size) (hs : Rising c.known) (h30 : ps.length ≤ 30) :
    Calls Tryd.prog 86 #[.agg #[.string c.chain, .int .i64 c.trust, .bool false, .slice o ps.length m], .agg #[.int .i64 q.k.height, .int .i64 q.k.time, q.r, q.n]] w fun e w' => Below base w w' ∧ ∃ o' n' m', e = .returned (.agg #[.string c.chain, .int .i64 c.trust, .bool (learnC c q.k).frozen, .slice o' n' m']) ∧ Knowns w' w'.heap.size (.slice o' n' m') (learnC c q.k).known := by
  obtain ⟨o1, c1, hqr, _⟩ := hq.1.shape
  obtain ⟨o2, c2, hqn, _⟩ := hq.2.shape
  obtain ⟨qk, qr, qn⟩ := q
  simp only at hqr hqn hq
  subst hqr hqn
  obtain ⟨w0, hw0⟩ : ∃ w0, ((w.alloc (.cells #[.string c.chain, .int .i64 c.trust, .bool false, .slice o ps.length m] 59)).alloc (.cells #[.int .i64 qk.height, .int .i64 qk.time, .slice o1 qk.root.length c1, .slice o2 qk.next.length c2] 73)).alloc (.cells #[.string ⟨#[]⟩, .int .i64 0, .bool false, .slice none 0 0] 59) = w0 := ⟨_, rfl⟩
  have hb0 : Below w.heap.size w w0 := by rw [← hw0]; exact (((Below.refl _ _).alloc (Nat.le_refl _) _).alloc (by simp) _).alloc (by simp; omega) _
  have hr0 : Row w0 w.heap.size 59 [.string c.chain, .int .i64 c.trust, .bool false, .slice o ps.length m] := by rw [← hw0]; exact ((Row.new _ _ _).alloc _).alloc _
  have hr1 : Row w0 (w.heap.size + 1) 73 [.int .i64 qk.height, .int .i64 qk.time, .slice o1 qk.root.length c1, .slice o2 qk.next.length c2] := by rw [← hw0]; exact (Row.newAt _ _ _ _ (by simp)).alloc _
  have hr2 : Row w0 (w.heap.size + 1 + 1) 59 [.string ⟨#[]⟩, .int .i64 0, .bool false, .slice none 0 0] := by rw [← hw0]; exact Row.newAt _ _ _ _ (by simp)
  have hown0 := hown.below hb0
  have hq0 : OwnB w0 base (.slice o1 qk.root.length c1) qk.root ∧ OwnB w0 base (.slice o2 qk.next.length c2) qk.next := ⟨ownsRow_belowR hq.1 hb0, ownsRow_belowR hq.2 hb0⟩
  have HKW := hid (show Knowns w w.heap.size (.slice o ps.length m) c.known by have := hown.knowns; rw [hc] at this; exact this)
  have hkn0 := hown0.knowns
  rw [hc] at hkn0
  have hpl : ps.length = c.known.length := by rw [← hc]; simp
  have HSE := hid (searchK_any c.known qk.height (.slice o ps.length m) w0.heap.size w0 #[] rfl (Nat.le_refl _) hkn0 hs (by omega))
  have HO0 := hid hown0
  have HQ0 := hid hq0
  have HB0 := hid hb0
  have HR0 := hid hr0
  have HR1 := hid hr1
  have HR2 := hid hr2
  have HS := hid hs
  have HC := hid hc
  have HFZ := hid hfz
  obtain ⟨⟨y0, y1, y2, y3⟩, _⟩ := hr0.four
  obtain ⟨⟨x0, x1, x2, x3⟩, _⟩ := hr1.four
  have HW0 := hid hw0
  have HPL := hid hpl
  clear hw0 hb0 hr0 hr1 hr2 hown hq hown0 hq0 hkn0 hs hc hfz hpl
  generalize hn : ps.length = n at *
  have HN := hid hn
  clear hn
  go_enter Tryd.func86, Tryd.ntmps86
  go_wp2_with fail
  rw [HW0.out]
  refine HSE.out.mono ?_
  rintro e w1 ⟨hb1, i, fd, hat, rfl⟩
  have HB1 := hid (HB0.out.trans (hb1.mono HB0.out.size))
  have HO1 := hid (HO0.out.below hb1)
  have HQ1 := hid (show OwnB w1 base (.slice o1 qk.root.length c1) qk.root ∧ OwnB w1 base (.slice o2 qk.next.length c2) qk.next from ⟨ownsRow_belowR HQ0.out.1 hb1, ownsRow_belowR HQ0.out.2 hb1⟩)
  have HR01 := hid (HR0.out.below hb1 HR0.out.lt)
  have HR11 := hid (HR1.out.below hb1 HR1.out.lt)
  have HR21 := hid (HR2.out.below hb1 HR2.out.lt)
  have HAT := hid hat
  have HKN1 := hid (show Knowns w1 w1.heap.size (.slice o n m) c.known by have := HO1.out.knowns; rw [HC.out] at this; exact this)
  have hin : i ≤ n := by have := hat.1; rw [← HPL.out] at this; exact this
  obtain ⟨⟨a0, a1, a2, a3⟩, z0, z1, z2, z3⟩ := HR01.out.four
  obtain ⟨⟨b0, b1, b2, b3⟩, _⟩ := HR11.out.four
  obtain ⟨⟨d0, d1, d2, d3⟩, v0, v1, v2, v3⟩ := HR21.out.four
  clear hb1 hat y0 y1 y2 y3 x0 x1 x2 x3 HSE
  cases fd with
  | true =>
    obtain ⟨x, hx, hxh, hxat⟩ := HAT.out.yes HS.out
    have HLC := hid (learn_yes (c := c) (k := qk) hxat)
    have hilt : i < n := by have := (List.getElem?_eq_some_iff.1 hx).1; rw [← HPL.out] at this; exact this
    obtain ⟨b, off, rfl, hcells⟩ := HKW.out.spot (by omega)
    obtain ⟨hbN, vr, vn, f0, f1, f2, f3, g2, g3⟩ := hcells i x hx
    obtain ⟨o3, c3, rfl, _⟩ := g2.shape
    obtain ⟨o4, c4, rfl, _⟩ := g3.shape
    have HUN := hid (show ∀ wx, Below w1.heap.size w1 wx → Calls Tryd.prog 130 #[.agg #[.int .i64 x.height, .int .i64 x.time, .slice o3 x.root.length c3, .slice o4 x.next.length c4], .agg #[.int .i64 qk.height, .int .i64 qk.time, .slice o1 qk.root.length c1, .slice o2 qk.next.length c2]] wx fun e w' => e = .returned (.bool (!sameK x qk)) ∧ Below wx.heap.size wx w' from fun wx hx => by
      have hbx := HB1.out.trans (hx.mono HB1.out.size)
      exact unlike_any x qk _ _ w1.heap.size wx ⟨_, _, rfl, (g2.below hbx).mono HB1.out.size, (g3.below hbx).mono HB1.out.size⟩ ⟨_, _, rfl, HQ1.out.1.bytes.below hx, HQ1.out.2.bytes.below hx⟩ hx.size)
    have hil' : (i : Int) < (n : Int) := by omega
    have HSW := hid (show ∀ wx, Below w.heap.size w wx → (wx.cell? ⟨b, off + i * 4, none⟩ = some (.int .i64 x.height) ∧ wx.cell? ⟨b, off + i * 4 + 1, none⟩ = some (.int .i64 x.time)) ∧ (wx.cell? ⟨b, off + i * 4 + 2, none⟩ = some (.slice o3 x.root.length c3) ∧ wx.cell? ⟨b, off + i * 4 + 3, none⟩ = some (.slice o4 x.next.length c4)) from fun wx hx =>
      ⟨⟨(hx.cell (p := ⟨b, off + i * 4, none⟩) hbN).trans f0, (hx.cell (p := ⟨b, off + i * 4 + 1, none⟩) hbN).trans f1⟩, (hx.cell (p := ⟨b, off + i * 4 + 2, none⟩) hbN).trans f2, (hx.cell (p := ⟨b, off + i * 4 + 3, none⟩) hbN).trans f3⟩)
    have HBC := hid (show ∀ wx, Below w1.heap.size w1 wx → wx.cell? ⟨w.heap.size, 3, none⟩ = some (.slice (some ⟨b, off, none⟩) n m) ∧ ((wx.cell? ⟨b, off + i * 4, none⟩ = some (.int .i64 x.height) ∧ wx.cell? ⟨b, off + i * 4 + 1, none⟩ = some (.int .i64 x.time)) ∧ (wx.cell? ⟨b, off + i * 4 + 2, none⟩ = some (.slice o3 x.root.length c3) ∧ wx.cell? ⟨b, off + i * 4 + 3, none⟩ = some (.slice o4 x.next.length c4))) ∧ ((wx.cell? ⟨w.heap.size + 1, 0, none⟩ = some (.int .i64 qk.height) ∧ wx.cell? ⟨w.heap.size + 1, 1, none⟩ = some (.int .i64 qk.time)) ∧ (wx.cell? ⟨w.heap.size + 1, 2, none⟩ = some (.slice o1 qk.root.length c1) ∧ wx.cell? ⟨w.heap.size + 1, 3, none⟩ = some (.slice o2 qk.next.length c2))) from fun wx hx =>
      ⟨(HR01.out.below hx HR01.out.lt).cell 3, HSW.out wx (HB1.out.trans (hx.mono HB1.out.size)), by
        have hr := HR11.out.below hx HR11.out.lt
        exact ⟨⟨hr.cell 0, hr.cell 1⟩, hr.cell 2, hr.cell 3⟩⟩)
    have HBZ := hid (show ∀ wx fz, Below w1.heap.size w1 wx → (wx.setCell ⟨w.heap.size, 2, none⟩ (.bool fz)).cell? ⟨w.heap.size, 3, none⟩ = some (.slice (some ⟨b, off, none⟩) n m) ∧ (((wx.setCell ⟨w.heap.size, 2, none⟩ (.bool fz)).cell? ⟨b, off + i * 4, none⟩ = some (.int .i64 x.height) ∧ (wx.setCell ⟨w.heap.size, 2, none⟩ (.bool fz)).cell? ⟨b, off + i * 4 + 1, none⟩ = some (.int .i64 x.time)) ∧ ((wx.setCell ⟨w.heap.size, 2, none⟩ (.bool fz)).cell? ⟨b, off + i * 4 + 2, none⟩ = some (.slice o3 x.root.length c3) ∧ (wx.setCell ⟨w.heap.size, 2, none⟩ (.bool fz)).cell? ⟨b, off + i * 4 + 3, none⟩ = some (.slice o4 x.next.length c4))) ∧ (((wx.setCell ⟨w.heap.size, 2, none⟩ (.bool fz)).cell? ⟨w.heap.size + 1, 0, none⟩ = some (.int .i64 qk.height) ∧ (wx.setCell ⟨w.heap.size, 2, none⟩ (.bool fz)).cell? ⟨w.heap.size + 1, 1, none⟩ = some (.int .i64 qk.time)) ∧ ((wx.setCell ⟨w.heap.size, 2, none⟩ (.bool fz)).cell? ⟨w.heap.size + 1, 2, none⟩ = some (.slice o1 qk.root.length c1) ∧ (wx.setCell ⟨w.heap.size, 2, none⟩ (.bool fz)).cell? ⟨w.heap.size + 1, 3, none⟩ = some (.slice o2 qk.next.length c2))) from fun wx fz hx =>
      ⟨((HR01.out.below hx HR01.out.lt).set 2 (.bool fz)).cell 3, HSW.out _ ((HB1.out.trans (hx.mono HB1.out.size)).setCell (Nat.le_refl _) _), by
        have hr := (HR11.out.below hx HR11.out.lt).other (a := ⟨w.heap.size, 2, none⟩) (.bool fz) (by simp)
        exact ⟨⟨hr.cell 0, hr.cell 1⟩, hr.cell 2, hr.cell 3⟩⟩)
    have HBD := hid (show Below w1.heap.size w1 w1.drew from (Below.refl _ _).drew)
    have s0 := HBC.out w1 (Below.refl _ _)
    have s1 := HBC.out _ HBD.out
    clear hcells g2 g3 hx hxat f0 f1 f2 f3 b0 b1 b2 b3 a3 hxh
    generalize (!sameK x qk) = fz at *
    go_wp2_with fail
    go_region_held3 (fun W => W.cell? ⟨w.heap.size, 3, none⟩ = some (.slice (some ⟨b, off, none⟩) n m) ∧ ((W.cell? ⟨b, off + i * 4, none⟩ = some (.int .i64 x.height) ∧ W.cell? ⟨b, off + i * 4 + 1, none⟩ = some (.int .i64 x.time)) ∧ (W.cell? ⟨b, off + i * 4 + 2, none⟩ = some (.slice o3 x.root.length c3) ∧ W.cell? ⟨b, off + i * 4 + 3, none⟩ = some (.slice o4 x.next.length c4))) ∧ ((W.cell? ⟨w.heap.size + 1, 0, none⟩ = some (.int .i64 qk.height) ∧ W.cell? ⟨w.heap.size + 1, 1, none⟩ = some (.int .i64 qk.time)) ∧ (W.cell? ⟨w.heap.size + 1, 2, none⟩ = some (.slice o1 qk.root.length c1) ∧ W.cell? ⟨w.heap.size + 1, 3, none⟩ = some (.slice o2 qk.next.length c2)))) (first | assumption) (first
      | (go_at_call 130; refine (HUN.out _ HBD.out).mono ?_; rintro e w5 ⟨rfl, hb5⟩; have HB5 := hid (HBD.out.trans hb5); have s5 := HBC.out w5 HB5.out; have s6 := HBZ.out w5 fz HB5.out; have HR05 := hid (HR01.out.below HB5.out HR01.out.lt); have HR25 := hid (HR21.out.below HB5.out HR21.out.lt); obtain ⟨⟨p0, p1, p2, p3⟩, t0, t1, t2, t3⟩ := HR05.out.four; clear hb5))
    all_goals
      obtain ⟨w6, hw6⟩ : ∃ w6, w5.setCell ⟨w.heap.size, 2, none⟩ (.bool fz) = w6 := ⟨_, rfl⟩
      have HR6 := hid (show Row w6 w.heap.size 59 [.string c.chain, .int .i64 c.trust, .bool fz, .slice (some ⟨b, off, none⟩) n m] by rw [← hw6]; exact HR05.out.set 2 _)
      have HZ6 := hid (show Row w6 (w.heap.size + 1 + 1) 59 [.string ⟨#[]⟩, .int .i64 0, .bool false, .slice none 0 0] by rw [← hw6]; exact HR25.out.other _ (by simp only; omega))
      have HB6 := hid (show Below w.heap.size w w6 by rw [← hw6]; exact (HB1.out.trans (HB5.out.mono HB1.out.size)).setCell (Nat.le_refl _) _)
      obtain ⟨⟨k0, k1, k2, k3⟩, _⟩ := HR6.out.four
      obtain ⟨⟨j0, j1, j2, j3⟩, l0, l1, l2, l3⟩ := HZ6.out.four
      rw [hw6]
      clear hw6 s0 s1 s5 s6 p0 p1 p2 p3 t0 t1 t2 t3 a0 a1 a2 z0 z1 z2 z3 d0 d1 d2 d3 v0 v1 v2 v3
      go_wp2
      have hrz := set4_row HZ6.out (.string c.chain) (.int .i64 c.trust) (.bool fz) (.slice (some ⟨b, off, none⟩) n m)
      obtain ⟨⟨u0, u1, u2, u3⟩, _⟩ := hrz.four
      have hbz := set4_below HB6.out (show w.heap.size ≤ w.heap.size + 1 + 1 by omega) (.string c.chain) (.int .i64 c.trust) (.bool fz) (.slice (some ⟨b, off, none⟩) n m)
      have hkz := (HKW.out.below hbz).mono hbz.size
      unfold set4 at u0 u1 u2 u3
      refine bodyPost_ret (v := .agg #[.string c.chain, .int .i64 c.trust, .bool fz, .slice (some ⟨b, off, none⟩) n m]) (by simp [results, Tryd.results86, go_sem, u0, u1, u2, u3]) rfl ⟨hbz.mono hb, some ⟨b, off, none⟩, n, m, ?_⟩
      rw [HLC.out]
      exact ⟨rfl, hkz⟩
  | false =>
    have hno := HAT.out.no HS.out
    have HIT := hid (inTime_any c.known i qk.time (.slice o n m) w1.heap.size w1 HKN1.out HAT.out.1 (by rw [← HPL.out]; omega))
    rw [← HAT.out.time HS.out] at HIT
    cases ht : timeB c.known qk.height qk.time with
    | false =>
      have HLC := hid (learn_late hno.1 ht)
      rw [ht] at HIT
      clear hno ht
      go_wp2_with fail
      refine HIT.out.mono ?_
      rintro e w5 ⟨rfl, hw5⟩
      obtain rfl := hw5.symm
      go_wp2_with fail
      have HR6 := hid (HR01.out.set 2 (.bool true))
      have HZ6 := hid (HR21.out.other (a := ⟨w.heap.size, 2, none⟩) (.bool true) (by simp only; omega))
      have HB6 := hid (HB1.out.setCell (p := ⟨w.heap.size, 2, none⟩) (Nat.le_refl _) (.bool true))
      have hrz := set4_row HZ6.out (.string c.chain) (.int .i64 c.trust) (.bool true) (.slice o n m)
      obtain ⟨⟨u0, u1, u2, u3⟩, _⟩ := hrz.four
      have hbz := set4_below HB6.out (show w.heap.size ≤ w.heap.size + 1 + 1 by omega) (.string c.chain) (.int .i64 c.trust) (.bool true) (.slice o n m)
      have hkz := (HKW.out.below hbz).mono hbz.size
      unfold set4 at u0 u1 u2 u3
      refine bodyPost_ret (v := .agg #[.string c.chain, .int .i64 c.trust, .bool true, .slice o n m]) (by simp [results, Tryd.results86, go_sem, u0, u1, u2, u3]) rfl ⟨hbz.mono hb, o, n, m, ?_⟩
      rw [HLC.out]
      exact ⟨rfl, hkz⟩
    | true =>
      have HLC := hid (learn_put hno.1 ht)
      have HPUT := hid (HAT.out.put (k := qk) HS.out)
      rw [ht] at HIT
      obtain ⟨w2, hw2⟩ : ∃ w2, w1.alloc (.cells #[.int .i64 qk.height, .int .i64 qk.time, .slice o1 qk.root.length c1, .slice o2 qk.next.length c2] 73) = w2 := ⟨_, rfl⟩
      have hb2 : Below w1.heap.size w1 w2 := by rw [← hw2]; exact (Below.refl _ _).alloc (Nat.le_refl _) _
      have hr2 : Row w2 w1.heap.size 73 [.int .i64 qk.height, .int .i64 qk.time, .slice o1 qk.root.length c1, .slice o2 qk.next.length c2] := by rw [← hw2]; exact Row.new _ _ _
      have hown2 := HO1.out.below hb2
      have hq2 : OwnB w2 base (.slice o1 qk.root.length c1) qk.root ∧ OwnB w2 base (.slice o2 qk.next.length c2) qk.next := ⟨ownsRow_belowR HQ1.out.1 hb2, ownsRow_belowR HQ1.out.2 hb2⟩
      have hbase2 : base ≤ w2.heap.size := Nat.le_trans hb (Nat.le_trans HB1.out.size hb2.size)
      have HINS := hid (insertKn_any (ps.map knRow) i (knRow ⟨qk, .slice o1 qk.root.length c1, .slice o2 qk.next.length c2⟩) base w1.heap.size (.slice o n m) w2 hown2.1 hbase2 hr2 (KnR.ok.row (w := w2) (N := w2.heap.size) ⟨hq2.1.bytes, hq2.2.bytes⟩)
        (fun g hg => by
          have := HO1.out.1.2.lt g hg
          have h2 := this.2
          omega) (by rw [List.length_map, HN.out]; exact hin) (by rw [List.length_map, HN.out]; omega))
      have HB2 := hid (HB1.out.trans (hb2.mono HB1.out.size))
      have HO2 := hid hown2
      have HQ2 := hid hq2
      have HR02 := hid (HR01.out.below hb2 HR01.out.lt)
      have HR22 := hid (HR21.out.below hb2 HR21.out.lt)
      have HW2 := hid hw2
      have HBS2 := hid hbase2
      clear hno ht hw2 hb2 hr2 hown2 hq2 hbase2
      go_wp2_with fail
      refine HIT.out.mono ?_
      rintro e w5 ⟨rfl, hw5⟩
      obtain rfl := hw5.symm
      go_wp2_with fail
      rw [HW2.out]
      refine HINS.out.mono ?_
      rintro e w3 ⟨hg3, v3', rfl, hrow3⟩
      rw [map_insKn] at hrow3
      have hown3 := HO2.out.past hg3 hrow3 (fun q hq => by
        rcases List.mem_append.1 hq with hq | hq
        · exact .inl (List.mem_of_mem_take hq)
        · rcases List.mem_cons.1 hq with rfl | hq
          · exact .inr HQ2.out
          · exact .inl (List.mem_of_mem_drop hq))
      have hlen3 : (ps.take i ++ (⟨qk, .slice o1 qk.root.length c1, .slice o2 qk.next.length c2⟩ : KnR) :: ps.drop i).length = n + 1 := by
        have := HN.out
        simp
        omega
      have hmap3 : (ps.take i ++ (⟨qk, .slice o1 qk.root.length c1, .slice o2 qk.next.length c2⟩ : KnR) :: ps.drop i).map (·.k) = putK c.known qk := by
        rw [HPUT.out, ← HC.out, List.map_append, List.map_cons, List.map_take, List.map_drop]
      generalize (ps.take i ++ (⟨qk, .slice o1 qk.root.length c1, .slice o2 qk.next.length c2⟩ : KnR) :: ps.drop i) = ps' at *
      obtain ⟨o', m', hv3, _⟩ := hown3.shape
      rw [hlen3] at hv3
      subst hv3
      have HR03 := hid (HR02.out.grown hg3 (HO2.out.1.apart HR02.out (by decide)))
      have HR23 := hid (HR22.out.grown hg3 (HO2.out.1.apart HR22.out (by decide)))
      have HB3 := hid ((HB2.out.mono hb).trans (HO2.out.1.below_of HBS2.out hg3))
      have HO3 := hid hown3
      have HM3 := hid hmap3
      have HL3 := hid hlen3
      have HCK := hid (show cutK (putK c.known qk) = if 30 < n + 1 then (putK c.known qk).drop 1 else putK c.known qk by
        have : (putK c.known qk).length = n + 1 := by rw [← hmap3, List.length_map, hlen3]
        unfold cutK
        rw [this])
      have hgw : w.heap.size < w3.heap.size := HR03.out.lt
      clear hg3 hrow3 hown3 hlen3 hmap3 HR22 HR02 a0 a1 a2 a3 z0 z1 z2 z3 b0 b1 b2 b3 d0 d1 d2 d3 v0 v1 v2 v3
      obtain ⟨⟨a0, a1, a2, a3⟩, z0, z1, z2, z3⟩ := HR03.out.four
      have HR04 := hid (HR03.out.set 3 (.slice o' (n + 1) m'))
      have HR24 := hid (HR23.out.other (a := ⟨w.heap.size, 3, none⟩) (.slice o' (n + 1) m') (by simp only; omega))
      have HB4 := hid (HB3.out.setCell (p := ⟨w.heap.size, 3, none⟩) hb (.slice o' (n + 1) m'))
      have HO4 := hid (HO3.out.other (w' := w3.setCell ⟨w.heap.size, 3, none⟩ (.slice o' (n + 1) m')) HR03.out (by decide) (by decide) (fun j hj => heap_setCell_other _ _ _ _ hj))
      obtain ⟨w4, hw4⟩ : ∃ w4, w3.setCell ⟨w.heap.size, 3, none⟩ (.slice o' (n + 1) m') = w4 := ⟨_, rfl⟩
      rw [hw4] at HR04 HR24 HB4 HO4
      have HR04' := hid (show Row w4 w.heap.size 59 [.string c.chain, .int .i64 c.trust, .bool false, .slice o' (n + 1) m'] from HR04.out)
      have hgw4 : w4.heap.size = w3.heap.size := by rw [← hw4]; simp [World.setCell]
      have HW4 := hid hw4
      clear hw4 HR04
      obtain ⟨⟨d0, d1, d2, d3⟩, v0, v1, v2, v3⟩ := HR23.out.four
      by_cases h31 : 30 < n + 1
      · have HCK2 := hid (show cutK (putK c.known qk) = (putK c.known qk).drop 1 by rw [HCK.out, if_pos h31])
        have e30 : decide ((30 : Int) < ((n + 1 : Nat) : Int)) = true := decide_eq_true (by omega)
        have HDEL := hid (show Calls Tryd.prog 133 #[.slice o' (n + 1) m', .int .i64 0, .int .i64 1] w4 fun e w' => w4.grownBy w' (Value.slice o' (n + 1) m').ownBlock ∧ ∃ v', e = .returned v' ∧ RowKn w' base v' ((ps'.map knRow).take 0 ++ (ps'.map knRow).drop (0 + 1)) from
          deleteKn_any (ps'.map knRow) 0 base (.slice o' (n + 1) m') w4 HO4.out.1 (by rw [List.length_map, HL3.out]; omega) 1 rfl)
        have HBS4 := hid (show base ≤ w4.heap.size by omega)
        generalize hn1 : n + 1 = n1 at *
        have HN1 := hid hn1
        have e30' : decide (30 < n1) = true := decide_eq_true h31
        clear h31 hn1
        go_wp2_with fail
        rw [HW4.out]
        refine HDEL.out.mono ?_
        rintro e w5 ⟨hg5, v5', rfl, hrow5⟩
        rw [map_delKn] at hrow5
        have hown5 := HO4.out.past hg5 hrow5 (fun q hq => by
          rcases List.mem_append.1 hq with hq | hq
          · exact .inl (List.mem_of_mem_take hq)
          · exact .inl (List.mem_of_mem_drop hq))
        have hlen5 : (ps'.take 0 ++ ps'.drop (0 + 1)).length = n := by
          have h1 := HL3.out
          have h2 := HN1.out
          simp
          omega
        have hmap5 : (ps'.take 0 ++ ps'.drop (0 + 1)).map (·.k) = cutK (putK c.known qk) := by
          rw [HCK2.out, ← HM3.out]
          simp
        generalize (ps'.take 0 ++ ps'.drop (0 + 1)) = ps5 at *
        obtain ⟨o5, m5, hv5, _⟩ := hown5.shape
        rw [hlen5] at hv5
        subst hv5
        have HR05 := hid (HR04'.out.grown hg5 (HO4.out.1.apart HR04'.out (by decide)))
        have HR25 := hid (HR24.out.grown hg5 (HO4.out.1.apart HR24.out (by decide)))
        have HB5 := hid (HB4.out.trans (HO4.out.1.below_of HBS4.out hg5))
        have HO5 := hid hown5
        have HM5 := hid hmap5
        clear hg5 hrow5 hown5 hmap5 hlen5 a0 a1 a2 a3 z0 z1 z2 z3 d0 d1 d2 d3 v0 v1 v2 v3
        obtain ⟨⟨a0, a1, a2, a3⟩, z0, z1, z2, z3⟩ := HR05.out.four
        obtain ⟨⟨d0, d1, d2, d3⟩, v0, v1, v2, v3⟩ := HR25.out.four
        go_wp2
        have hr6 := HR05.out.set 3 (.slice o5 n m5)
        have hz6 := HR25.out.other (a := ⟨w.heap.size, 3, none⟩) (.slice o5 n m5) (by simp only; omega)
        have ho6 := HO5.out.other (w' := w5.setCell ⟨w.heap.size, 3, none⟩ (.slice o5 n m5)) HR05.out (by decide) (by decide) (fun j hj => heap_setCell_other _ _ _ _ hj)
        have hb6 := HB5.out.setCell (p := ⟨w.heap.size, 3, none⟩) hb (.slice o5 n m5)
        have hrz := set4_row hz6 (.string c.chain) (.int .i64 c.trust) (.bool false) (.slice o5 n m5)
        obtain ⟨⟨u0, u1, u2, u3⟩, _⟩ := hrz.four
        have hbz := set4_below hb6 (show base ≤ w.heap.size + 1 + 1 by omega) (.string c.chain) (.int .i64 c.trust) (.bool false) (.slice o5 n m5)
        have hoz := (ho6.other (w' := set4 (w5.setCell ⟨w.heap.size, 3, none⟩ (.slice o5 n m5)) (w.heap.size + 1 + 1) (.string c.chain) (.int .i64 c.trust) (.bool false) (.slice o5 n m5)) hz6 (by decide) (by decide) (set4_other _ _ _ _ _ _)).knowns
        rw [HM5.out] at hoz
        unfold set4 at u0 u1 u2 u3
        refine bodyPost_ret (v := .agg #[.string c.chain, .int .i64 c.trust, .bool false, .slice o5 n m5]) (by simp [results, Tryd.results86, go_sem, u0, u1, u2, u3]) rfl ⟨hbz, o5, n, m5, ?_⟩
        rw [HLC.out]
        exact ⟨by rw [HFZ.out], hoz⟩
      · have HCK2 := hid (show cutK (putK c.known qk) = putK c.known qk by rw [HCK.out, if_neg h31])
        have e30 : decide ((30 : Int) < ((n + 1 : Nat) : Int)) = false := decide_eq_false (by omega)
        generalize hn1 : n + 1 = n1 at *
        have e30' : decide (30 < n1) = false := decide_eq_false h31
        clear h31 hn1
        go_wp2_with fail
        have hz6 := HR23.out.other (a := ⟨w.heap.size, 3, none⟩) (.slice o' n1 m') (by simp only; omega)
        have ho6 := HO3.out.other (w' := w3.setCell ⟨w.heap.size, 3, none⟩ (.slice o' n1 m')) HR03.out (by decide) (by decide) (fun j hj => heap_setCell_other _ _ _ _ hj)
        have hb6 := HB3.out.setCell (p := ⟨w.heap.size, 3, none⟩) hb (.slice o' n1 m')
        have hrz := set4_row hz6 (.string c.chain) (.int .i64 c.trust) (.bool false) (.slice o' n1 m')
        obtain ⟨⟨u0, u1, u2, u3⟩, _⟩ := hrz.four
        have hbz := set4_below hb6 (show base ≤ w.heap.size + 1 + 1 by omega) (.string c.chain) (.int .i64 c.trust) (.bool false) (.slice o' n1 m')
        have hoz := (ho6.other (w' := set4 (w3.setCell ⟨w.heap.size, 3, none⟩ (.slice o' n1 m')) (w.heap.size + 1 + 1) (.string c.chain) (.int .i64 c.trust) (.bool false) (.slice o' n1 m')) hz6 (by decide) (by decide) (set4_other _ _ _ _ _ _)).knowns
        rw [HM3.out, ← HCK2.out] at hoz
        unfold set4 at u0 u1 u2 u3
        refine bodyPost_ret (v := .agg #[.string c.chain, .int .i64 c.trust, .bool false, .slice o' n1 m']) (by simp [results, Tryd.results86, go_sem, u0, u1, u2, u3]) rfl ⟨hbz, o', n1, m', ?_⟩
        rw [HLC.out]
        exact ⟨by rw [HFZ.out], hoz⟩
end Go.Proofs.YtfpngilmdgeikaaDoor
