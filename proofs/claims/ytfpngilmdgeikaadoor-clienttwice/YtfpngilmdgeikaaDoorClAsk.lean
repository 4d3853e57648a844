/-
  What package client's trusts, Active and refusal answer.
-/
import Derived.Test.YtfpngilmdgeikaaDoorClFind
namespace Go.Proofs.YtfpngilmdgeikaaDoor
open Go.RowKit

set_option maxHeartbeats 1000000 in
theorem trusts_any (c : Cl) (k : Kn) (now : Int) (cv v : Value) (N : Nat) (w : World) (hc : ClV w N cv c) (hv : KnV w N v k) (h1 : 0 ≤ now ∧ now ≤ 1000000000000) (h2 : 0 ≤ k.time ∧ k.time ≤ 1000000000000) :
    Calls Tryd.prog 123 #[cv, v, .int .i64 now] w fun e w' => e = .returned (.bool (decide (now - k.time < c.trust))) ∧ Below w.heap.size w w' := by
  obtain ⟨kv, rfl, hk⟩ := hc
  obtain ⟨oa, ca, rfl, _⟩ := hk.shape
  obtain ⟨rv, nv, rfl, g1, g2⟩ := hv
  obtain ⟨o1, c1, rfl, _⟩ := g1.shape
  obtain ⟨o2, c2, rfl, _⟩ := g2.shape
  clear hk g1 g2
  have hw : IntKind.i64.wrap (now - k.time) = now - k.time := by rw [IntKind.wrap_i64]; omega
  obtain ⟨w0, hw0⟩ : ∃ w0, (w.alloc (.cells #[.string c.chain, .int .i64 c.trust, .bool c.frozen, .slice oa c.known.length ca] 59)).alloc (.cells #[.int .i64 k.height, .int .i64 k.time, .slice o1 k.root.length c1, .slice o2 k.next.length c2] 73) = w0 := ⟨_, rfl⟩
  have HB0 := hid (show Below w.heap.size w w0 by rw [← hw0]; exact ((Below.refl _ _).alloc (Nat.le_refl _) _).alloc (by simp) _)
  have hr0 : Row w0 w.heap.size 59 [.string c.chain, .int .i64 c.trust, .bool c.frozen, .slice oa c.known.length ca] := by rw [← hw0]; exact (Row.new _ _ _).alloc _
  have hr1 : Row w0 (w.heap.size + 1) 73 [.int .i64 k.height, .int .i64 k.time, .slice o1 k.root.length c1, .slice o2 k.next.length c2] := by
    rw [← hw0]
    have := Row.new (w.alloc (.cells #[.string c.chain, .int .i64 c.trust, .bool c.frozen, .slice oa c.known.length ca] 59)) 73 [.int .i64 k.height, .int .i64 k.time, .slice o1 k.root.length c1, .slice o2 k.next.length c2]
    simp only [World.size_alloc] at this
    exact this
  have k1 := hr0.cell 1
  have k2 := hr1.cell 1
  have HW0 := hid hw0
  clear hr0 hr1 hw0
  go_enter Tryd.func123, Tryd.ntmps123
  go_wp2
  go_ret
  rw [HW0.out]
  exact ⟨by first | done | rfl, HB0.out⟩
/-- what Active is to answer -/
def ActiveC (f : FuncId) : Prop := ∀ (c : Cl) (now : Int) (v : Value) (N : Nat) (w : World), ClV w N v c → N ≤ w.heap.size → wrongCl c = 0 → 0 ≤ now ∧ now ≤ 1000000000000 →
  Calls Tryd.prog f #[v, .int .i64 now] w fun e w' => e = .returned (.bool (activeB c now)) ∧ Below w.heap.size w w'
theorem activeB_frozen {c : Cl} (now : Int) (h : c.frozen = true) : activeB c now = false := by unfold activeB; rw [h]; rfl
theorem activeB_last {c : Cl} {now : Int} {k : Kn} {n : Nat} (h : c.frozen = false) (hn : c.known.length = n + 1) (hk : c.known[n]? = some k) : activeB c now = decide (now - k.time < c.trust) := by
  unfold activeB
  rw [h, List.getLast?_eq_getElem?, hn, Nat.add_sub_cancel, hk]
  rfl
set_option maxRecDepth 100000 in
set_option maxHeartbeats 4000000 in
theorem activeC : ActiveC 83 := by
  intro c now v N w hv hN hc hnow
  have HCV := hid hv
  obtain ⟨kv, rfl, hk⟩ := hv
  obtain ⟨oa, ca, rfl, hca⟩ := hk.shape
  obtain ⟨w0, hw0⟩ : ∃ w0, w.alloc (.cells #[.string c.chain, .int .i64 c.trust, .bool c.frozen, .slice oa c.known.length ca] 59) = w0 := ⟨_, rfl⟩
  have hb0 : Below w.heap.size w w0 := by rw [← hw0]; exact (Below.refl _ _).alloc (Nat.le_refl _) _
  have HB0 := hid hb0
  have hr0 : Row w0 w.heap.size 59 [.string c.chain, .int .i64 c.trust, .bool c.frozen, .slice oa c.known.length ca] := by rw [← hw0]; exact Row.new _ _ _
  obtain ⟨⟨y0, y1, y2, y3⟩, _⟩ := hr0.four
  have HR0 := hid hr0
  cases hfz : c.frozen with
  | true =>
    have HA := hid (activeB_frozen now hfz)
    rw [hfz] at y2
    have HW0 := hid hw0
    rw [hfz] at HW0
    clear hw0 hb0 hk hr0 hfz
    go_enter Tryd.func83, Tryd.ntmps83
    go_wp2_with fail
    rw [HW0.out]
    go_quiet (fail)
    go_wp2
    go_ret
    exact ⟨by rw [HA.out]; first | done | rfl, HB0.out.trans (below_drewH _ _ _)⟩
  | false =>
    obtain ⟨_, _, ⟨hn1, hn2⟩, hall, _⟩ := (wrongCl_iff c).1 hc
    obtain ⟨n, hn⟩ : ∃ n, c.known.length = n + 1 := ⟨c.known.length - 1, by omega⟩
    obtain ⟨x, hx⟩ : ∃ x, c.known[n]? = some x := ⟨c.known[n]'(by omega), List.getElem?_eq_getElem _⟩
    have hxt := ((wrongK_iff x).1 (hall x (List.mem_of_getElem? hx))).1
    obtain ⟨b, o, rfl, hcells⟩ := hk.spot (by omega)
    obtain ⟨hbN, vr, vn, d0, d1, d2, d3, b2, b3⟩ := hcells n x hx
    obtain ⟨o2, c2, rfl, _⟩ := b2.shape
    obtain ⟨o3, c3, rfl, _⟩ := b3.shape
    have hbl : b < w.heap.size := by omega
    have f0 := (hb0.cell (p := ⟨b, o + n * 4, none⟩) hbl).trans d0
    have f1 := (hb0.cell (p := ⟨b, o + n * 4 + 1, none⟩) hbl).trans d1
    have f2 := (hb0.cell (p := ⟨b, o + n * 4 + 2, none⟩) hbl).trans d2
    have f3 := (hb0.cell (p := ⟨b, o + n * 4 + 3, none⟩) hbl).trans d3
    have HA := hid (activeB_last (now := now) hfz hn hx)
    have HTR := hid (show ∀ wx, Below w0.heap.size w0 wx → Calls Tryd.prog 123 #[.agg #[.string c.chain, .int .i64 c.trust, .bool false, .slice (some ⟨b, o, none⟩) (n + 1) ca], .agg #[.int .i64 x.height, .int .i64 x.time, .slice o2 x.root.length c2, .slice o3 x.next.length c3], .int .i64 now] wx fun e w' => e = .returned (.bool (decide (now - x.time < c.trust))) ∧ Below wx.heap.size wx w' from fun wx hx => by
      have hbx := (hb0.trans (hx.mono hb0.size)).mono hN
      have hq : ClV wx N (.agg #[.string c.chain, .int .i64 c.trust, .bool false, .slice (some ⟨b, o, none⟩) (n + 1) ca]) c := by rw [← hfz, ← hn]; exact HCV.out.below hbx
      exact trusts_any c x now _ _ N wx hq ⟨_, _, rfl, b2.below hbx, b3.below hbx⟩ hnow (by omega))
    rw [hfz] at y2
    rw [hn] at y3
    have HW0 := hid hw0
    rw [hfz, hn] at HW0
    rw [hn]
    have e1 : decide ((0 : Int) < ((n + 1 : Nat) : Int)) = true := decide_eq_true (by omega)
    have hj1 : ((n + 1 : Nat) : Int) - 1 = (n : Int) := by omega
    have hj2 : IntKind.i64.wrap (((n + 1 : Nat) : Int) - 1) = (n : Int) := by rw [hj1, IntKind.wrap_i64]; omega
    have hjn : (n : Int) < ((n + 1 : Nat) : Int) := by omega
    have HBD := hid (show Below w0.heap.size w0 w0.drew from (Below.refl _ _).drew)
    generalize hm : n + 1 = m at *
    have e1b : decide (0 < m) = true := decide_eq_true (by omega)
    have e1c : (0 : Int) < (m : Int) := by omega
    have e1d : 0 < m := by omega
    have HM := hid hm
    clear hw0 hb0 hk hr0 hfz hcells d0 d1 d2 d3 b2 b3 hall hn hx hxt hn1 hn2 hm hj1
    go_enter Tryd.func83, Tryd.ntmps83
    go_wp2_with fail
    rw [HW0.out]
    have HLT := hid HR0.out.lt
    have HBC := hid (show ∀ wx, Below w0.heap.size w0 wx → ((wx.cell? ⟨w.heap.size, 0, none⟩ = some (.string c.chain) ∧ wx.cell? ⟨w.heap.size, 1, none⟩ = some (.int .i64 c.trust)) ∧ (wx.cell? ⟨w.heap.size, 2, none⟩ = some (.bool false) ∧ wx.cell? ⟨w.heap.size, 3, none⟩ = some (.slice (some ⟨b, o, none⟩) m ca))) ∧ ((wx.cell? ⟨b, o + n * 4, none⟩ = some (.int .i64 x.height) ∧ wx.cell? ⟨b, o + n * 4 + 1, none⟩ = some (.int .i64 x.time)) ∧ (wx.cell? ⟨b, o + n * 4 + 2, none⟩ = some (.slice o2 x.root.length c2) ∧ wx.cell? ⟨b, o + n * 4 + 3, none⟩ = some (.slice o3 x.next.length c3))) from fun wx hx => ⟨⟨⟨(hx.cell (p := ⟨w.heap.size, 0, none⟩) HLT.out).trans y0, (hx.cell (p := ⟨w.heap.size, 1, none⟩) HLT.out).trans y1⟩, (hx.cell (p := ⟨w.heap.size, 2, none⟩) HLT.out).trans y2, (hx.cell (p := ⟨w.heap.size, 3, none⟩) HLT.out).trans y3⟩, ⟨(hx.cell (p := ⟨b, o + n * 4, none⟩) (Nat.lt_trans hbl HLT.out)).trans f0, (hx.cell (p := ⟨b, o + n * 4 + 1, none⟩) (Nat.lt_trans hbl HLT.out)).trans f1⟩, (hx.cell (p := ⟨b, o + n * 4 + 2, none⟩) (Nat.lt_trans hbl HLT.out)).trans f2, (hx.cell (p := ⟨b, o + n * 4 + 3, none⟩) (Nat.lt_trans hbl HLT.out)).trans f3⟩)
    have s0 : ((w0.cell? ⟨w.heap.size, 0, none⟩ = some (.string c.chain) ∧ w0.cell? ⟨w.heap.size, 1, none⟩ = some (.int .i64 c.trust)) ∧ (w0.cell? ⟨w.heap.size, 2, none⟩ = some (.bool false) ∧ w0.cell? ⟨w.heap.size, 3, none⟩ = some (.slice (some ⟨b, o, none⟩) m ca))) ∧ ((w0.cell? ⟨b, o + n * 4, none⟩ = some (.int .i64 x.height) ∧ w0.cell? ⟨b, o + n * 4 + 1, none⟩ = some (.int .i64 x.time)) ∧ (w0.cell? ⟨b, o + n * 4 + 2, none⟩ = some (.slice o2 x.root.length c2) ∧ w0.cell? ⟨b, o + n * 4 + 3, none⟩ = some (.slice o3 x.next.length c3))) := ⟨⟨⟨y0, y1⟩, y2, y3⟩, ⟨f0, f1⟩, f2, f3⟩
    have s1 : ((w0.drew.cell? ⟨w.heap.size, 0, none⟩ = some (.string c.chain) ∧ w0.drew.cell? ⟨w.heap.size, 1, none⟩ = some (.int .i64 c.trust)) ∧ (w0.drew.cell? ⟨w.heap.size, 2, none⟩ = some (.bool false) ∧ w0.drew.cell? ⟨w.heap.size, 3, none⟩ = some (.slice (some ⟨b, o, none⟩) m ca))) ∧ ((w0.drew.cell? ⟨b, o + n * 4, none⟩ = some (.int .i64 x.height) ∧ w0.drew.cell? ⟨b, o + n * 4 + 1, none⟩ = some (.int .i64 x.time)) ∧ (w0.drew.cell? ⟨b, o + n * 4 + 2, none⟩ = some (.slice o2 x.root.length c2) ∧ w0.drew.cell? ⟨b, o + n * 4 + 3, none⟩ = some (.slice o3 x.next.length c3))) := s0
    go_region_held3 (fun W => ((W.cell? ⟨w.heap.size, 0, none⟩ = some (.string c.chain) ∧ W.cell? ⟨w.heap.size, 1, none⟩ = some (.int .i64 c.trust)) ∧ (W.cell? ⟨w.heap.size, 2, none⟩ = some (.bool false) ∧ W.cell? ⟨w.heap.size, 3, none⟩ = some (.slice (some ⟨b, o, none⟩) m ca))) ∧ ((W.cell? ⟨b, o + n * 4, none⟩ = some (.int .i64 x.height) ∧ W.cell? ⟨b, o + n * 4 + 1, none⟩ = some (.int .i64 x.time)) ∧ (W.cell? ⟨b, o + n * 4 + 2, none⟩ = some (.slice o2 x.root.length c2) ∧ W.cell? ⟨b, o + n * 4 + 3, none⟩ = some (.slice o3 x.next.length c3)))) (first | assumption) (first
      | (go_at_call 123; refine (HTR.out _ HBD.out).mono ?_; rintro e w5 ⟨rfl, hb5⟩; have HB5 := hid (HB0.out.trans ((HBD.out.trans hb5).mono HB0.out.size)); have s5 := HBC.out w5 (HBD.out.trans hb5); clear hb5))
    all_goals
      go_wp2
      go_ret
      exact ⟨by rw [HA.out]; first | done | rfl, HB5.out⟩
/-- what is asked first -/
def AskedC (f : FuncId) : Prop := ∀ (c : Cl) (now : Int) (v : Value) (N : Nat) (w : World), ClV w N v c → N ≤ w.heap.size → c.fits →
  Calls Tryd.prog f #[v, .int .i64 now] w fun e w' => e = .returned (.int .i64 (askedN c now)) ∧ Below w.heap.size w w'
theorem askedN_wrong {c : Cl} {now : Int} (h : wrongCl c ≠ 0) : askedN c now = wrongCl c := by unfold askedN; rw [if_pos h]
theorem askedN_range {c : Cl} {now : Int} (h : wrongCl c = 0) (h2 : now < 0 ∨ 1000000000000 < now) : askedN c now = 3 := by unfold askedN; rw [if_neg (by omega), if_pos h2]
set_option maxRecDepth 100000 in
set_option maxHeartbeats 4000000 in
theorem askedC : AskedC 84 := by
  intro c now v N w hv hN hfit
  have HWR := hid (show ∀ wx, Below w.heap.size w wx → _ from fun wx hx => clWrongC c v N wx (hv.below (hx.mono hN)) (Nat.le_trans hN hx.size) hfit)
  obtain ⟨kv, rfl, hk⟩ := hv
  obtain ⟨oa, ca, rfl, hca⟩ := hk.shape
  obtain ⟨w0, hw0⟩ : ∃ w0, w.alloc (.cells #[.string c.chain, .int .i64 c.trust, .bool c.frozen, .slice oa c.known.length ca] 59) = w0 := ⟨_, rfl⟩
  have hb0 : Below w.heap.size w w0 := by rw [← hw0]; exact (Below.refl _ _).alloc (Nat.le_refl _) _
  have HB0 := hid hb0
  have hr0 : Row w0 w.heap.size 59 [.string c.chain, .int .i64 c.trust, .bool c.frozen, .slice oa c.known.length ca] := by rw [← hw0]; exact Row.new _ _ _
  obtain ⟨⟨y0, y1, y2, y3⟩, _⟩ := hr0.four
  have HR0 := hid hr0
  have HW0 := hid hw0
  clear hw0 hb0 hk hr0 hfit
  by_cases hc : wrongCl c = 0
  · have HCZ := hid hc
    by_cases ht : now < 0 ∨ 1000000000000 < now
    · have HTM := hid (timeN_false ht)
      have HA := hid (askedN_range hc ht)
      clear hc ht
      go_enter Tryd.func84, Tryd.ntmps84
      go_wp2_with fail
      rw [HW0.out]
      refine (HWR.out _ HB0.out).mono ?_
      rintro e w1 ⟨rfl, hb1⟩
      rw [HCZ.out]
      have HB1 := hid (HB0.out.trans (hb1.mono HB0.out.size))
      clear hb1
      go_wp2_with (go_at_call 124; refine (isTime_any _ _).mono ?_; rintro e w' ⟨rfl, hw'⟩; obtain rfl := hw'.symm; rw [HTM.out])
      go_ret
      exact ⟨by rw [HA.out]; first | done | rfl, HB1.out⟩
    · have HTM := hid (timeN_true ht)
      by_cases hfz : c.frozen = true
      · have HA := hid (askedN_frozen (now := now) hc (by omega) hfz)
        have HFZ := hid hfz
        clear hc ht hfz
        go_enter Tryd.func84, Tryd.ntmps84
        go_wp2_with fail
        rw [HW0.out]
        refine (HWR.out _ HB0.out).mono ?_
        rintro e w1 ⟨rfl, hb1⟩
        rw [HCZ.out]
        have HB1 := hid (HB0.out.trans (hb1.mono HB0.out.size))
        have r2 := (HR0.out.below hb1 HR0.out.lt).cell 2
        simp only [HFZ.out] at r2
        clear hb1
        go_wp2_with (go_at_call 124; refine (isTime_any _ _).mono ?_; rintro e w' ⟨rfl, hw'⟩; obtain rfl := hw'.symm; rw [HTM.out])
        go_ret
        exact ⟨by rw [HA.out]; first | done | rfl, HB1.out⟩
      · have hfz' : c.frozen = false := by simpa using hfz
        have HA := hid (askedN_of (now := now) hc (by omega) hfz')
        have HFZ := hid hfz'
        clear hc ht hfz hfz'
        go_enter Tryd.func84, Tryd.ntmps84
        go_wp2_with fail
        rw [HW0.out]
        refine (HWR.out _ HB0.out).mono ?_
        rintro e w1 ⟨rfl, hb1⟩
        rw [HCZ.out]
        have HB1 := hid (HB0.out.trans (hb1.mono HB0.out.size))
        have r2 := (HR0.out.below hb1 HR0.out.lt).cell 2
        simp only [HFZ.out] at r2
        clear hb1
        go_wp2_with (go_at_call 124; refine (isTime_any _ _).mono ?_; rintro e w' ⟨rfl, hw'⟩; obtain rfl := hw'.symm; rw [HTM.out])
        go_ret
        exact ⟨by rw [HA.out]; first | done | rfl, HB1.out⟩
  · have HA := hid (askedN_wrong (now := now) hc)
    have e1 : (wrongCl c != 0) = true := by simpa using hc
    clear hc
    generalize wrongCl c = z at *
    go_enter Tryd.func84, Tryd.ntmps84
    go_wp2_with fail
    rw [HW0.out]
    refine (HWR.out _ HB0.out).mono ?_
    rintro e w1 ⟨rfl, hb1⟩
    have HB1 := hid (HB0.out.trans (hb1.mono HB0.out.size))
    clear hb1
    go_wp2
    go_ret
    exact ⟨by rw [HA.out]; first | done | rfl, HB1.out⟩
end Go.Proofs.YtfpngilmdgeikaaDoor
