/-
  What package client's isTime, wrongKnown and Wrong answer: what is wrong with a client.
  What package client's find and At answer: what a client knows of a height; what is known, in memory of its own.
  What package client's trusts, Active and refusal answer.
  What package client's copied and New answer: a client in memory of its own; a new one.
  What the laws of clients ask first: it is true.
-/
import Derived.Test.YtbjlfhabnjpdmaaGreatDoorlaClMem
import Derived.Test.YtbjlfhabnjpdmaaGreatDoorlaHdMems
import Derived.Test.YtbjlfhabnjpdmaaGreatDoorlaSameB
import Derived.Deep.RegionHeld3
import Derived.Deep.RegionWith
namespace Go.Proofs.YtbjlfhabnjpdmaaGreatDoor
open Go.RowKit

/-- is a number a time -/
def timeN (n : Int) : Bool := decide (0 ≤ n) && decide (n ≤ 1000000000000)
theorem isTime_any (n : Int) (w : World) : Calls Tryz.prog 160 #[.int .i64 n] w fun e w' => e = .returned (.bool (timeN n)) ∧ w' = w := by
  unfold timeN
  by_cases h1 : 0 ≤ n
  · have e1 : decide (0 ≤ n) = true := by simpa using h1
    go_enter Tryz.func160, Tryz.ntmps160
    go_wp2
    go_ret
    exact ⟨by simp [e1]; first | done | rfl, rfl⟩
  · have e1 : decide (0 ≤ n) = false := by simpa using h1
    go_enter Tryz.func160, Tryz.ntmps160
    go_wp2
    go_ret
    exact ⟨by simp; first | done | rfl | (simp [e1]; first | done | rfl), rfl⟩
theorem timeN_true {n : Int} (h : ¬ (n < 0 ∨ 1000000000000 < n)) : timeN n = true := by unfold timeN; simp; omega
theorem timeN_false {n : Int} (h : n < 0 ∨ 1000000000000 < n) : timeN n = false := by unfold timeN; rw [Bool.and_eq_false_iff]; simp; omega
set_option maxHeartbeats 2000000 in
theorem wrongKnown_any (k : Kn) (v : Value) (N : Nat) (w : World) (hv : KnV w N v k) :
    Calls Tryz.prog 94 #[v] w fun e w' => e = .returned (.int .i64 (wrongK k)) ∧ Below w.heap.size w w' := by
  obtain ⟨rv, nv, rfl, h1, h2⟩ := hv
  obtain ⟨o1, c1, rfl, _⟩ := h1.shape
  obtain ⟨o2, c2, rfl, _⟩ := h2.shape
  clear h1 h2
  obtain ⟨w0, hw0⟩ : ∃ w0, w.alloc (.cells #[.int .i64 k.height, .int .i64 k.time, .slice o1 k.root.length c1, .slice o2 k.next.length c2] 31) = w0 := ⟨_, rfl⟩
  have HB0 := hid (show Below w.heap.size w w0 by rw [← hw0]; exact (Below.refl _ _).alloc (Nat.le_refl _) _)
  have hr0 := (show Row w0 w.heap.size 31 [.int .i64 k.height, .int .i64 k.time, .slice o1 k.root.length c1, .slice o2 k.next.length c2] by rw [← hw0]; exact Row.new _ _ _)
  have k0 := hr0.cell 0
  have k1 := hr0.cell 1
  have k2 := hr0.cell 2
  have k3 := hr0.cell 3
  clear hr0
  by_cases hr : k.height < 1 ∨ 1000000000000 < k.height ∨ k.time < 0 ∨ 1000000000000 < k.time
  · have HW := hid (wrongK_3 hr)
    by_cases r1 : k.height < 1
    · have e1 : decide (k.height < 1) = true := by simpa using r1
      clear hr
      go_enter Tryz.func94, Tryz.ntmps94
      go_wp2
      go_ret
      exact ⟨by rw [HW.out]; first | done | rfl, HB0.out⟩
    · have e1 : decide (k.height < 1) = false := by simp; omega
      by_cases r2 : 1000000000000 < k.height
      · have e2 : decide (1000000000000 < k.height) = true := by simpa using r2
        clear hr
        go_enter Tryz.func94, Tryz.ntmps94
        go_wp2
        go_ret
        exact ⟨by rw [HW.out]; first | done | rfl, HB0.out⟩
      · have e2 : decide (1000000000000 < k.height) = false := by simp; omega
        have HT := hid (timeN_false (n := k.time) (by omega))
        clear hr
        go_enter Tryz.func94, Tryz.ntmps94
        go_wp2_with (go_at_call 160; refine (isTime_any _ _).mono ?_; rintro e w' ⟨rfl, rfl⟩; rw [HT.out])
        go_ret
        exact ⟨by rw [HW.out]; first | done | rfl, HB0.out⟩
  · have r1 : decide (k.height < 1) = false := by simp; omega
    have r2 : decide (1000000000000 < k.height) = false := by simp; omega
    have HT := hid (timeN_true (n := k.time) (by omega))
    by_cases q1 : k.root.length = 32
    · have p1 : ((k.root.length : Int) != 32) = false := by simp; omega
      by_cases q2 : k.next.length = 32
      · have p2 : ((k.next.length : Int) != 32) = false := by simp; omega
        have HW := hid (wrongK_0 hr (by omega))
        clear hr q1 q2
        go_enter Tryz.func94, Tryz.ntmps94
        go_wp2_with (go_at_call 160; refine (isTime_any _ _).mono ?_; rintro e w' ⟨rfl, rfl⟩; rw [HT.out])
        go_ret
        exact ⟨by rw [HW.out]; first | done | rfl, HB0.out⟩
      · have p2 : ((k.next.length : Int) != 32) = true := by simp; omega
        have HW := hid (wrongK_2 hr (.inr q2))
        clear hr q1 q2
        go_enter Tryz.func94, Tryz.ntmps94
        go_wp2_with (go_at_call 160; refine (isTime_any _ _).mono ?_; rintro e w' ⟨rfl, rfl⟩; rw [HT.out])
        go_ret
        exact ⟨by rw [HW.out]; first | done | rfl, HB0.out⟩
    · have p1 : ((k.root.length : Int) != 32) = true := by simp; omega
      have HW := hid (wrongK_2 hr (.inl q1))
      clear hr q1
      go_enter Tryz.func94, Tryz.ntmps94
      go_wp2_with (go_at_call 160; refine (isTime_any _ _).mono ?_; rintro e w' ⟨rfl, rfl⟩; rw [HT.out])
      go_ret
      exact ⟨by rw [HW.out]; first | done | rfl, HB0.out⟩
/-- what Wrong is to answer of a client -/
def ClWrongC (f : FuncId) : Prop := ∀ (c : Cl) (v : Value) (N : Nat) (w : World), ClV w N v c → N ≤ w.heap.size → c.fits →
  Calls Tryz.prog f #[v] w fun e w' => e = .returned (.int .i64 (wrongCl c)) ∧ Below w.heap.size w w'
set_option maxRecDepth 100000 in
set_option maxHeartbeats 4000000 in
theorem clWrongC : ClWrongC 31 := by
  intro c v N w hv hN hfit
  obtain ⟨kv, rfl, hk⟩ := hv
  obtain ⟨f1, f2, f3⟩ := hfit
  obtain ⟨oa, ca, rfl, hca⟩ := hk.shape
  have HK := hid hk
  clear hk f3
  obtain ⟨w0, hw0⟩ : ∃ w0, w.alloc (.cells #[.string c.chain, .int .i64 c.trust, .bool c.frozen, .slice oa c.known.length ca] 79) = w0 := ⟨_, rfl⟩
  have hb0 : Below w.heap.size w w0 := by rw [← hw0]; exact (Below.refl _ _).alloc (Nat.le_refl _) _
  have HB0 := hid hb0
  have hr0 := (show Row w0 w.heap.size 79 [.string c.chain, .int .i64 c.trust, .bool c.frozen, .slice oa c.known.length ca] by rw [← hw0]; exact Row.new _ _ _)
  have HR0 := hid hr0
  have k0 := hr0.cell 0
  have k1 := hr0.cell 1
  have k3 := hr0.cell 3
  have hsz0 : w0.heap.size = w.heap.size + 1 := by rw [← hw0]; simp
  have HSZ0 := hid hsz0
  clear hr0 hb0 hsz0
  by_cases hn : nameB c.chain = true
  · by_cases ht : c.trust < 1 ∨ 1000000000000 < c.trust
    · have HW := hid (wrongCl_3 hn ht)
      by_cases r1 : c.trust < 1
      · have e1 : decide (c.trust < 1) = true := by simpa using r1
        clear ht
        go_enter Tryz.func31, Tryz.ntmps31
        go_wp2_with (go_at_call 27; refine (isName_any _ _ f1).mono ?_; rintro e w' ⟨rfl, rfl⟩)
        go_ret
        exact ⟨by rw [HW.out]; first | done | rfl, HB0.out⟩
      · have e1 : decide (c.trust < 1) = false := by simp; omega
        have e2 : decide (1000000000000 < c.trust) = true := by simp; omega
        clear ht
        go_enter Tryz.func31, Tryz.ntmps31
        go_wp2_with (go_at_call 27; refine (isName_any _ _ f1).mono ?_; rintro e w' ⟨rfl, rfl⟩)
        go_ret
        exact ⟨by rw [HW.out]; first | done | rfl, HB0.out⟩
    · have e1 : decide (c.trust < 1) = false := by simp; omega
      have e2 : decide (1000000000000 < c.trust) = false := by simp; omega
      by_cases hm : c.known.length < 1 ∨ 30 < c.known.length
      · have HW := hid (wrongCl_5 hn ht hm)
        by_cases r1 : c.known.length < 1
        · have e3 : decide ((c.known.length : Int) < 1) = true := by simp; omega
          clear ht hm
          go_enter Tryz.func31, Tryz.ntmps31
          go_wp2_with (go_at_call 27; refine (isName_any _ _ f1).mono ?_; rintro e w' ⟨rfl, rfl⟩)
          go_ret
          exact ⟨by rw [HW.out]; first | done | rfl, HB0.out⟩
        · have e3 : decide ((c.known.length : Int) < 1) = false := by simp; omega
          have e4 : decide (30 < (c.known.length : Int)) = true := by simp; omega
          clear ht hm
          go_enter Tryz.func31, Tryz.ntmps31
          go_wp2_with (go_at_call 27; refine (isName_any _ _ f1).mono ?_; rintro e w' ⟨rfl, rfl⟩)
          go_ret
          exact ⟨by rw [HW.out]; first | done | rfl, HB0.out⟩
      · have e3 : decide ((c.known.length : Int) < 1) = false := by simp; omega
        have e4 : decide (30 < (c.known.length : Int)) = false := by simp; omega
        have HW := hid (wrongCl_go hn ht hm)
        have h30 : c.known.length ≤ 30 := by omega
        clear ht hm
        generalize hnn : c.known.length = n at *
        have HN := hid hnn
        clear hnn
        generalize hl : c.known = l at *
        clear hl
        go_enter Tryz.func31, Tryz.ntmps31
        go_wp2_with (go_at_call 27; refine (isName_any _ _ f1).mono ?_; rintro e w' ⟨rfl, hw'⟩; obtain rfl := hw'.symm)
        go_loopw [3, 4, 5, 34] (fun _ _ _ i wr => ∃ k : Nat, k ≤ n ∧ i = .int .i64 (k : Int) ∧ Hid (Below w0.heap.size w0 wr ∧ wrongCl c = knGo (prevKn l k) (l.drop k))) (fun _ _ _ i _ => n - (intOf i).toNat)
        case atStart => exact ⟨0, by omega, rfl, hid ⟨Below.refl _ _, HW.out⟩⟩
        case round =>
          obtain ⟨k, hk, rfl, HT⟩ := hrel
          have hszr := HT.out.1.size
          have HBW := hid (HB0.out.trans (HT.out.1.mono HB0.out.size))
          have hszw := HB0.out.size
          by_cases hlt : k < n
          · obtain ⟨x, hx⟩ : ∃ x, l[k]? = some x := ⟨l[k]'(by rw [HN.out]; exact hlt), List.getElem?_eq_getElem _⟩
            obtain ⟨b, o, rfl, hcells⟩ := HK.out.spot (by omega)
            obtain ⟨hbN, vr, vn, d0, d1, d2, d3, b2, b3⟩ := hcells k x hx
            obtain ⟨o2, c2, rfl, _⟩ := b2.shape
            obtain ⟨o3, c3, rfl, _⟩ := b3.shape
            have hbl : b < w.heap.size := by omega
            have f0 := (HBW.out.cell (p := ⟨b, o + k * 4, none⟩) hbl).trans d0
            have f1 := (HBW.out.cell (p := ⟨b, o + k * 4 + 1, none⟩) hbl).trans d1
            have f2 := (HBW.out.cell (p := ⟨b, o + k * 4 + 2, none⟩) hbl).trans d2
            have f3 := (HBW.out.cell (p := ⟨b, o + k * 4 + 3, none⟩) hbl).trans d3
            have HST := hid (knGo_at l k x hx)
            have hlt' : (k : Int) < (n : Int) := by omega
            obtain ⟨w2, hw2⟩ : ∃ w2, wr.alloc (.cells #[.int .i64 x.height, .int .i64 x.time, .slice o2 x.root.length c2, .slice o3 x.next.length c3] 31) = w2 := ⟨_, rfl⟩
            have hbr2 : Below wr.heap.size wr w2 := by rw [← hw2]; exact (Below.refl _ _).alloc (Nat.le_refl _) _
            have HB2 := hid (HT.out.1.trans (hbr2.mono hszr))
            have HBW2 := hid (HBW.out.trans (hbr2.mono HBW.out.size))
            have hrow2 : Row w2 wr.heap.size 31 [.int .i64 x.height, .int .i64 x.time, .slice o2 x.root.length c2, .slice o3 x.next.length c3] := by rw [← hw2]; exact Row.new _ _ _
            have HR2 := hid hrow2
            have q0 := hrow2.cell 0
            have q1 := hrow2.cell 1
            have q2 := hrow2.cell 2
            have q3 := hrow2.cell 3
            have HW2 := hid hw2
            have HWK := hid (wrongKnown_any x (.agg #[.int .i64 x.height, .int .i64 x.time, .slice o2 x.root.length c2, .slice o3 x.next.length c3]) N w2 ⟨_, _, rfl, b2.below (HBW2.out.mono hN), b3.below (HBW2.out.mono hN)⟩)
            clear d0 d1 d2 d3 hbr2 hrow2 hw2 b2 b3 hw0
            cases k with
            | zero =>
              have f0' : wr.cell? ⟨b, o, none⟩ = some (.int .i64 x.height) := by simpa using f0
              have f1' : wr.cell? ⟨b, o + 1, none⟩ = some (.int .i64 x.time) := by simpa using f1
              have f2' : wr.cell? ⟨b, o + 2, none⟩ = some (.slice o2 x.root.length c2) := by simpa using f2
              have f3' : wr.cell? ⟨b, o + 3, none⟩ = some (.slice o3 x.next.length c3) := by simpa using f3
              clear hcells
              by_cases hwk : wrongK x = 0
              · have HV2 := hid (show wrongCl c = knGo (prevKn l 1) (l.drop 1) by rw [HT.out.2, HST.out, if_neg (by omega), if_neg (by simp [prevKn_zero, aheadI])])
                have HWZ := hid hwk
                clear hwk
                go_wp2_with fail
                rw [HW2.out]
                go_wp2_with fail
                refine HWK.out.mono ?_
                rintro e w3 ⟨rfl, hb3⟩
                rw [HWZ.out]
                have HB3 := hid (HB2.out.trans (hb3.mono HB2.out.size))
                clear hb3
                go_wp2_with fail
                go_quiet (fail)
                go_wp2
                go_roundw
                case rel => exact ⟨1, by omega, by go_num, hid ⟨HB3.out.trans (below_drewH _ _ _), HV2.out⟩⟩
                case measure => simp [intOf]; omega
              · have HV2 := hid (show wrongCl c = wrongK x by rw [HT.out.2, HST.out, if_pos hwk])
                have g1 : (wrongK x != 0) = true := by simpa using hwk
                clear hwk
                generalize wrongK x = z at *
                go_wp2_with fail
                rw [HW2.out]
                go_wp2_with fail
                refine HWK.out.mono ?_
                rintro e w3 ⟨rfl, hb3⟩
                have HB3 := hid (HBW2.out.trans (hb3.mono HBW2.out.size))
                clear hb3
                go_wp2
                go_ret
                exact ⟨by rw [HV2.out]; first | done | rfl, HB3.out⟩
            | succ j =>
              by_cases hwk : wrongK x = 0
              · obtain ⟨y, hy⟩ : ∃ y, l[j]? = some y := ⟨l[j]'(by rw [HN.out]; omega), List.getElem?_eq_getElem _⟩
                obtain ⟨_, _, _, t0, _⟩ := hcells j y hy
                have HPV := hid (prevKn_succ l j y hy)
                have hj1 : ((j + 1 : Nat) : Int) - 1 = (j : Int) := by omega
                have hj2 : IntKind.i64.wrap (((j + 1 : Nat) : Int) - 1) = (j : Int) := by rw [hj1]; simp [IntKind.wrap, IntKind.bits, IntKind.signed]; split <;> omega
                have hjn : (j : Int) < (n : Int) := by omega
                have e5 : decide ((0 : Int) < ((j + 1 : Nat) : Int)) = true := decide_eq_true (by omega)
                have HT0 := hid t0
                have HWZ := hid hwk
                have HST2 := hid (HST.out.trans (if_neg (by omega)))
                clear hcells hy t0 hwk
                by_cases hle : x.height ≤ y.height
                · have g5 : decide (x.height ≤ y.height) = true := by simpa using hle
                  have HV2 := hid (show wrongCl c = 2 by rw [HT.out.2, HST2.out, HPV.out, if_pos (by simpa [aheadI] using hle)])
                  go_wp2_with fail
                  rw [HW2.out]
                  go_wp2_with fail
                  refine HWK.out.mono ?_
                  rintro e w3 ⟨rfl, hb3⟩
                  rw [HWZ.out]
                  have HB3 := hid (HB2.out.trans (hb3.mono HB2.out.size))
                  have HBW3 := hid (HBW2.out.trans (hb3.mono HBW2.out.size))
                  have s0 := (HR2.out.below hb3 HR2.out.lt).cell 0
                  have s3 := (HR0.out.below HB3.out HR0.out.lt).cell 3
                  have t0' := (HBW3.out.cell (p := ⟨b, o + j * 4, none⟩) hbl).trans HT0.out
                  clear hb3
                  go_wp2_with fail
                  go_quiet (fail)
                  go_wp2
                  go_ret
                  exact ⟨by rw [HV2.out]; first | done | rfl, HBW3.out.trans (below_drewH _ _ _)⟩
                · have g5 : decide (x.height ≤ y.height) = false := by simpa using hle
                  have HV2 := hid (show wrongCl c = knGo (prevKn l (j + 2)) (l.drop (j + 2)) by rw [HT.out.2, HST2.out, HPV.out, if_neg (by simpa [aheadI] using hle)])
                  go_wp2_with fail
                  rw [HW2.out]
                  go_wp2_with fail
                  refine HWK.out.mono ?_
                  rintro e w3 ⟨rfl, hb3⟩
                  rw [HWZ.out]
                  have HB3 := hid (HB2.out.trans (hb3.mono HB2.out.size))
                  have HBW3 := hid (HBW2.out.trans (hb3.mono HBW2.out.size))
                  have s0 := (HR2.out.below hb3 HR2.out.lt).cell 0
                  have s3 := (HR0.out.below HB3.out HR0.out.lt).cell 3
                  have t0' := (HBW3.out.cell (p := ⟨b, o + j * 4, none⟩) hbl).trans HT0.out
                  clear hb3
                  go_wp2_with fail
                  go_quiet (fail)
                  go_wp2
                  go_roundw
                  case rel => exact ⟨j + 2, by omega, by go_num, hid ⟨HB3.out.trans (below_drewH _ _ _), HV2.out⟩⟩
                  case measure => simp [intOf]; omega
              · have HV2 := hid (show wrongCl c = wrongK x by rw [HT.out.2, HST.out, if_pos hwk])
                have g1 : (wrongK x != 0) = true := by simpa using hwk
                clear hwk hcells
                generalize wrongK x = z at *
                go_wp2_with fail
                rw [HW2.out]
                go_wp2_with fail
                refine HWK.out.mono ?_
                rintro e w3 ⟨rfl, hb3⟩
                have HB3 := hid (HBW2.out.trans (hb3.mono HBW2.out.size))
                clear hb3
                go_wp2
                go_ret
                exact ⟨by rw [HV2.out]; first | done | rfl, HB3.out⟩
          · have hge : decide ((k : Int) < (n : Int)) = false := by simp; omega
            have HV2 := hid (show wrongCl c = 0 by rw [HT.out.2, knGo_end l k (by rw [HN.out]; omega)])
            go_wp2
            go_ret
            exact ⟨by rw [HV2.out]; first | done | rfl, HBW.out⟩
  · have hn' : nameB c.chain = false := by simpa using hn
    have HW := hid (wrongCl_7 hn')
    clear hn
    go_enter Tryz.func31, Tryz.ntmps31
    go_wp2_with (go_at_call 27; refine (isName_any _ _ f1).mono ?_; rintro e w' ⟨rfl, rfl⟩)
    go_ret
    exact ⟨by rw [HW.out]; first | done | rfl, HB0.out⟩
end Go.Proofs.YtbjlfhabnjpdmaaGreatDoor
namespace Go.Proofs.YtbjlfhabnjpdmaaGreatDoor
open Go.RowKit

set_option maxRecDepth 100000 in
set_option maxHeartbeats 4000000 in
theorem copiedKnown_any (k : Kn) (v : Value) (N : Nat) (w : World) (hv : KnV w N v k) (hN : N ≤ w.heap.size) (hf : k.fits) :
    Calls Tryz.prog 125 #[v] w fun e w' => Below w.heap.size w w' ∧ ∃ o1 c1 o2 c2, e = .returned (.agg #[.int .i64 k.height, .int .i64 k.time, .slice o1 k.root.length c1, .slice o2 k.next.length c2]) ∧ OwnB w' w.heap.size (.slice o1 k.root.length c1) k.root ∧ OwnB w' w.heap.size (.slice o2 k.next.length c2) k.next := by
  obtain ⟨rv, nv, rfl, h1, h2⟩ := hv
  obtain ⟨o1, c1, rfl, _⟩ := h1.shape
  obtain ⟨o2, c2, rfl, _⟩ := h2.shape
  obtain ⟨w0, hw0⟩ : ∃ w0, (w.alloc (.cells #[.int .i64 k.height, .int .i64 k.time, .slice o1 k.root.length c1, .slice o2 k.next.length c2] 31)).alloc (.cells #[.int .i64 0, .int .i64 0, .slice none 0 0, .slice none 0 0] 31) = w0 := ⟨_, rfl⟩
  have hb0 : Below w.heap.size w w0 := by rw [← hw0]; exact ((Below.refl _ _).alloc (Nat.le_refl _) _).alloc (by simp) _
  have hr0 : Row w0 w.heap.size 31 [.int .i64 k.height, .int .i64 k.time, .slice o1 k.root.length c1, .slice o2 k.next.length c2] := by rw [← hw0]; exact (Row.new _ _ _).alloc _
  have hr1 : Row w0 (w.heap.size + 1) 31 [.int .i64 0, .int .i64 0, .slice none 0 0, .slice none 0 0] := by
    rw [← hw0]
    have := Row.new (w.alloc (.cells #[.int .i64 k.height, .int .i64 k.time, .slice o1 k.root.length c1, .slice o2 k.next.length c2] 31)) 31 [.int .i64 0, .int .i64 0, .slice none 0 0, .slice none 0 0]
    simp only [World.size_alloc] at this
    exact this
  have HB0 := hid hb0
  have HR0 := hid hr0
  have HR1 := hid hr1
  have HCK := hid (show ∀ wx, Below w0.heap.size w0 wx → Calls Tryz.prog 127 #[.slice o1 k.root.length c1] wx fun e w' => Below wx.heap.size wx w' ∧ ∃ v, e = .returned v ∧ OwnB w' wx.heap.size v k.root from fun wx hx => cloneB_any k.root _ N wx (h1.below ((hb0.trans (hx.mono hb0.size)).mono hN)) hf.1)
  have HCV := hid (show ∀ wx, Below w0.heap.size w0 wx → Calls Tryz.prog 127 #[.slice o2 k.next.length c2] wx fun e w' => Below wx.heap.size wx w' ∧ ∃ v, e = .returned v ∧ OwnB w' wx.heap.size v k.next from fun wx hx => cloneB_any k.next _ N wx (h2.below ((hb0.trans (hx.mono hb0.size)).mono hN)) hf.2)
  have HRX := hid (show ∀ wx, Below w0.heap.size w0 wx → Row wx w.heap.size 31 [.int .i64 k.height, .int .i64 k.time, .slice o1 k.root.length c1, .slice o2 k.next.length c2] from fun wx hx => hr0.below hx hr0.lt)
  have HRY := hid (show ∀ wx, Below w0.heap.size w0 wx → Row wx (w.heap.size + 1) 31 [.int .i64 0, .int .i64 0, .slice none 0 0, .slice none 0 0] from fun wx hx => hr1.below hx hr1.lt)
  have HBD := hid (show Below w0.heap.size w0 w0.drew from (Below.refl _ _).drew)
  obtain ⟨⟨y0, y1, y2, y3⟩, z0, z1, z2, z3⟩ := hr0.four
  have HW0 := hid hw0
  clear h1 h2 hb0 hr0 hr1 hw0
  go_enter Tryz.func125, Tryz.ntmps125
  go_wp2_with fail
  rw [HW0.out]
  go_region_with (first
    | (go_at_call_of 127 (Value.slice o1 k.root.length c1); refine (HCK.out _ HBD.out).mono ?_; rintro e w6 ⟨hb6, v6, rfl, hown6⟩; obtain ⟨o6, c6, rfl, hc6⟩ := hown6.shape; have HB6 := hid (HBD.out.trans hb6); have HK6 := hid hown6; obtain ⟨⟨x0, x1, x2, x3⟩, _⟩ := (HRX.out _ HB6.out).four; clear hb6 hown6 hc6)
    | (go_at_call_of 127 (Value.slice o2 k.next.length c2); refine (HCV.out _ HB6.out).mono ?_; rintro e w7 ⟨hb7, v7, rfl, hown7⟩; obtain ⟨o7, c7, rfl, hc7⟩ := hown7.shape; have HB7 := hid (HB6.out.trans (hb7.mono HB6.out.size)); have HK7 := hid (show OwnB w7 w0.heap.size (.slice o6 k.root.length c6) k.root from ownsRow_belowR HK6.out hb7); have HV7 := hid hown7; have HR7 := hid (HRX.out w7 HB7.out); have HRR7 := hid (HRY.out w7 HB7.out); obtain ⟨⟨t0, t1, t2, t3⟩, s0, s1, s2, s3⟩ := HR7.out.four; clear hb7 hown7 hc7))
  all_goals
    obtain ⟨w8, hw8⟩ : ∃ w8, (w7.setCell ⟨w.heap.size, 2, none⟩ (.slice o6 k.root.length c6)).setCell ⟨w.heap.size, 3, none⟩ (.slice o7 k.next.length c7) = w8 := ⟨_, rfl⟩
    have hlt := HR1.out.lt
    have hr8 : Row w8 w.heap.size 31 [.int .i64 k.height, .int .i64 k.time, .slice o6 k.root.length c6, .slice o7 k.next.length c7] := by rw [← hw8]; exact (HR7.out.set 2 _).set 3 _
    have hz8 : Row w8 (w.heap.size + 1) 31 [.int .i64 0, .int .i64 0, .slice none 0 0, .slice none 0 0] := by rw [← hw8]; exact (HRR7.out.other _ (by simp)).other _ (by simp)
    have hb8 : Below w.heap.size w w8 := by rw [← hw8]; exact ((HB0.out.trans (HB7.out.mono HB0.out.size)).setCell (Nat.le_refl _) _).setCell (Nat.le_refl _) _
    have hot : ∀ g, w0.heap.size ≤ g → w8.heap[g]? = w7.heap[g]? := fun g hg => by rw [← hw8, heap_setCell_other _ _ _ _ (by simp only; omega), heap_setCell_other _ _ _ _ (by simp only; omega)]
    have HK8 := hid (HK7.out.keep hot)
    have HV8 := hid (HV7.out.keep (fun g hg => hot g (Nat.le_trans HB6.out.size hg)))
    have HZ8 := hid hz8
    have HB8 := hid hb8
    rw [hw8]
    obtain ⟨⟨p0, p1, p2, p3⟩, _⟩ := hr8.four
    obtain ⟨⟨q0, q1, q2, q3⟩, v0, v1, v2, v3⟩ := hz8.four
    clear hw8 hr8 hz8 hb8 hot
    go_wp2
    have hrz := set4_row HZ8.out (.int .i64 k.height) (.int .i64 k.time) (.slice o6 k.root.length c6) (.slice o7 k.next.length c7)
    obtain ⟨⟨u0, u1, u2, u3⟩, _⟩ := hrz.four
    have hbz := set4_below HB8.out (show w.heap.size ≤ w.heap.size + 1 by omega) (.int .i64 k.height) (.int .i64 k.time) (.slice o6 k.root.length c6) (.slice o7 k.next.length c7)
    have hoz := set4_other w8 (w.heap.size + 1) (.int .i64 k.height) (.int .i64 k.time) (.slice o6 k.root.length c6) (.slice o7 k.next.length c7)
    have hk := (HK8.out.keep (fun g hg => hoz g (by omega))).mono HB0.out.size
    have hv := (HV8.out.keep (fun g hg => hoz g (by have := HB6.out.size; omega))).mono (Nat.le_trans HB0.out.size HB6.out.size)
    unfold set4 at u0 u1 u2 u3
    exact bodyPost_ret (v := .agg #[.int .i64 k.height, .int .i64 k.time, .slice o6 k.root.length c6, .slice o7 k.next.length c7]) (by simp [results, Tryz.results125, go_sem, u0, u1, u2, u3]) rfl ⟨hbz, o6, c6, o7, c7, rfl, hk, hv⟩
end Go.Proofs.YtbjlfhabnjpdmaaGreatDoor
namespace Go.Proofs.YtbjlfhabnjpdmaaGreatDoor
open Go.RowKit

end Go.Proofs.YtbjlfhabnjpdmaaGreatDoor
namespace Go.Proofs.YtbjlfhabnjpdmaaGreatDoor
open Go.RowKit

/-- nothing known, as cells -/
def zKn : List Value := [.int .i64 0, .int .i64 0, .slice none 0 0, .slice none 0 0]
theorem make_known (n : Nat) (w : World) (h : n ≤ 1000) : (Instr.makeSlice 77 (.int .i64 (n : Int)) (.int .i64 (n : Int))).run Tryz.prog w = .ok (.slice (some ⟨w.heap.size, 0, none⟩) n n) (w.alloc (.cells (([] : List KnR).map knRow ++ List.replicate n zKn).flatten.toArray 31)) := by
  obtain ⟨i0, hi0, hz0, hz1, hz2⟩ := info_parts infoKn
  have := run_make (P := Tryz.prog) w 77 31 i0 _ Tryz.underlying77 hi0 hz0 .i64 .i64 (n : Int) (n : Int) (by omega) (by omega) (by rw [hz2]; omega) (by omega)
  have e := madeCells_rows (z := #[.int .i64 0, .int .i64 0, .slice none 0 0, .slice none 0 0]) (k := 4) rfl (by omega) n
  rw [this, hz1, List.map_nil, List.nil_append, show List.replicate n zKn = List.replicate n (#[.int .i64 0, .int .i64 0, .slice none 0 0, .slice none 0 0] : Array Value).toList from rfl, e]
  simp only [Int.toNat_natCast, Value.cells]
/-- what is copied so far: so many of its records, in a row of its own -/
def Copd (l : List Kn) (n G k : Nat) (wr : World) : Prop := ∃ ps : List KnR, ps.length = k ∧ ps.map (·.k) = l.take k ∧ Row wr G 31 (ps.map knRow ++ List.replicate (n - k) zKn).flatten ∧ ∀ q ∈ ps, OwnB wr (G + 1) q.r q.k.root ∧ OwnB wr (G + 1) q.n q.k.next
theorem Copd.below {l : List Kn} {n G k : Nat} {w w' : World} (h : Copd l n G k w) (hg : Below w.heap.size w w') : Copd l n G k w' := by
  obtain ⟨ps, h1, h2, h3, h4⟩ := h
  exact ⟨ps, h1, h2, h3.below hg h3.lt, fun q hq => ⟨ownsRow_belowR (h4 q hq).1 hg, ownsRow_belowR (h4 q hq).2 hg⟩⟩
theorem Copd.cells {l : List Kn} {n G k : Nat} {w : World} (h : Copd l n G k w) (hk : k < n) : w.cell? ⟨G, k * 4, none⟩ = some (.int .i64 0) ∧ w.cell? ⟨G, k * 4 + 1, none⟩ = some (.int .i64 0) ∧ w.cell? ⟨G, k * 4 + 2, none⟩ = some (.slice none 0 0) ∧ w.cell? ⟨G, k * 4 + 3, none⟩ = some (.slice none 0 0) ∧ ∀ j, w.frozen? ⟨G, j, none⟩ = false := by
  obtain ⟨ps, h1, h2, h3, h4⟩ := h
  have hget : (ps.map knRow ++ List.replicate (n - k) zKn)[k]? = some zKn := by
    rw [List.getElem?_append_right (by simp; omega), List.length_map, h1, Nat.sub_self, List.getElem?_replicate, if_pos (by omega)]
  have hlen : ∀ r ∈ ps.map knRow ++ List.replicate (n - k) zKn, r.length = 4 := fun r hr => by
    rcases List.mem_append.1 hr with hr | hr
    · exact knRow_len r hr
    · rw [List.eq_of_mem_replicate hr]; rfl
  have key : ∀ j, j < 4 → w.cell? ⟨G, k * 4 + j, none⟩ = zKn[j]? := fun j hj => by rw [h3.cell, flatten_get _ k j zKn hlen hget hj]
  exact ⟨key 0 (by omega), key 1 (by omega), key 2 (by omega), key 3 (by omega), fun j => h3.frozen j⟩
theorem Copd.keep {l : List Kn} {n G k : Nat} {w w' : World} (h : Copd l n G k w) (hk : ∀ g, G ≤ g → w'.heap[g]? = w.heap[g]?) : Copd l n G k w' := by
  obtain ⟨ps, h1, h2, h3, h4⟩ := h
  refine ⟨ps, h1, h2, ?_, fun q hq => ⟨(h4 q hq).1.keep (fun g hg => hk g (by omega)), (h4 q hq).2.keep (fun g hg => hk g (by omega))⟩⟩
  unfold Row at *
  rw [hk G (Nat.le_refl _), h3]
/-- one more is written -/
theorem Copd.next {l : List Kn} {n G k : Nat} {w : World} {x : Kn} {rv nv : Value} (h : Copd l n G k w) (hx : l[k]? = some x) (hk : k < n) (h1 : OwnB w (G + 1) rv x.root) (h2 : OwnB w (G + 1) nv x.next) :
    Copd l n G (k + 1) (w.setCells G (k * 4) [.int .i64 x.height, .int .i64 x.time, rv, nv]) := by
  obtain ⟨ps, g1, g2, g3, g4⟩ := h
  have hgr := grown_setCells G [.int .i64 x.height, .int .i64 x.time, rv, nv] (k * 4) w
  have keep : ∀ {v : Value} {b : List (BitVec 8)}, OwnB w (G + 1) v b → OwnB (w.setCells G (k * 4) [.int .i64 x.height, .int .i64 x.time, rv, nv]) (G + 1) v b := fun {v b} ho => by
    obtain ⟨e1, e2⟩ := ho
    refine ⟨e1, ?_⟩
    rcases e2 with e2 | ⟨g, cap, cur, e3, e4, e5, e6⟩
    · exact .inl e2
    · exact .inr ⟨g, cap, cur, e3, e4, (hgr.block g (Array.getElem?_eq_some_iff.1 e5).1 (by simp; omega)).trans e5, e6⟩
  refine ⟨ps ++ [⟨x, rv, nv⟩], by simp [g1], ?_, ?_, fun q hq => ?_⟩
  · obtain ⟨hl, rfl⟩ := List.getElem?_eq_some_iff.1 hx
    rw [List.map_append, g2, List.take_succ_eq_append_getElem hl]
    rfl
  · have hlen : (ps.map knRow ++ List.replicate (n - k) zKn).flatten.length = n * 4 := by
      rw [flat_lenR (k := 4)]
      · simp [g1]; omega
      · intro r hr
        rcases List.mem_append.1 hr with hr | hr
        · exact knRow_len r hr
        · rw [List.eq_of_mem_replicate hr]; rfl
    have := Row.setCells [.int .i64 x.height, .int .i64 x.time, rv, nv] (k * 4) w _ g3 (by rw [hlen]; simp; omega)
    have e := putL_next (ps := ps.map knRow) (k := 4) (m := n - (k + 1)) (z := zKn) (r := [.int .i64 x.height, .int .i64 x.time, rv, nv]) knRow_len rfl rfl
    rw [List.length_map, g1, show n - (k + 1) + 1 = n - k by omega] at e
    rw [e] at this
    rw [List.map_append]
    exact this
  · rcases List.mem_append.1 hq with hq | hq
    · exact ⟨keep (g4 q hq).1, keep (g4 q hq).2⟩
    · obtain rfl : q = ⟨x, rv, nv⟩ := by simpa using hq
      exact ⟨keep h1, keep h2⟩
/-- all of it -/
theorem Copd.all {l : List Kn} {n G base : Nat} {w : World} (h : Copd l n G n w) (hn : l.length = n) (hm : n ≤ 1000) (hb : base ≤ G) : ∃ ps, OwnKn w base (.slice (some ⟨G, 0, none⟩) n n) ps ∧ ps.map (·.k) = l := by
  obtain ⟨ps, g1, g2, g3, g4⟩ := h
  rw [Nat.sub_self, List.replicate_zero, List.append_nil] at g3
  have hok : ∀ r ∈ ps.map knRow, okKn r := fun r hr => by
    obtain ⟨q, hq, rfl⟩ := List.mem_map.1 hr
    exact KnR.ok.row (w := w) (N := w.heap.size) ⟨(g4 q hq).1.bytes, (g4 q hq).2.bytes⟩
  have hfl := flatKn_len hok
  rw [List.length_map, g1] at hfl
  refine ⟨ps, ⟨RowKn.of_row hok hb g3 (by simp [g1]) (Nat.le_refl _) (by unfold maxLen; omega) hfl (by rw [← hfl, List.take_length]), fun q hq => ⟨(g4 q hq).1.mono (by omega), (g4 q hq).2.mono (by omega)⟩⟩, ?_⟩
  rw [g2, List.take_of_length_le (by omega)]
set_option maxRecDepth 100000 in
set_option maxHeartbeats 4000000 in
theorem copiedCl_any (c : Cl) (v : Value) (N : Nat) (w : World) (hv : ClV w N v c) (hN : N ≤ w.heap.size) (hfit : c.fits) (h30 : c.known.length ≤ 1000) :
    Calls Tryz.prog 67 #[v] w fun e w' => Below w.heap.size w w' ∧ ∃ o m ps, e = .returned (.agg #[.string c.chain, .int .i64 c.trust, .bool c.frozen, .slice o ps.length m]) ∧ OwnKn w' w.heap.size (.slice o ps.length m) ps ∧ ps.map (·.k) = c.known := by
  obtain ⟨kv, rfl, hk⟩ := hv
  obtain ⟨oa, ca, rfl, hca⟩ := hk.shape
  have HK := hid hk
  have HFT := hid hfit.2.2
  clear hk hfit
  obtain ⟨w0, hw0⟩ : ∃ w0, (w.alloc (.cells #[.string c.chain, .int .i64 c.trust, .bool c.frozen, .slice oa c.known.length ca] 79)).alloc (.cells #[.string ⟨#[]⟩, .int .i64 0, .bool false, .slice none 0 0] 79) = w0 := ⟨_, rfl⟩
  have hsz0 : w0.heap.size = w.heap.size + 1 + 1 := by rw [← hw0]; simp
  have hb0 : Below w.heap.size w w0 := by rw [← hw0]; exact ((Below.refl _ _).alloc (Nat.le_refl _) _).alloc (by simp) _
  have hr0 : Row w0 w.heap.size 79 [.string c.chain, .int .i64 c.trust, .bool c.frozen, .slice oa c.known.length ca] := by rw [← hw0]; exact (Row.new _ _ _).alloc _
  have hr1 : Row w0 (w.heap.size + 1) 79 [.string ⟨#[]⟩, .int .i64 0, .bool false, .slice none 0 0] := by
    rw [← hw0]
    have := Row.new (w.alloc (.cells #[.string c.chain, .int .i64 c.trust, .bool c.frozen, .slice oa c.known.length ca] 79)) 79 [.string ⟨#[]⟩, .int .i64 0, .bool false, .slice none 0 0]
    simp only [World.size_alloc] at this
    exact this
  have HN := hid (show c.known.length = c.known.length from rfl)
  generalize hl : c.known = l at *
  have HL := hid hl
  clear hl
  generalize hnn : l.length = n at *
  have HNN := hid hnn
  clear hnn HN
  have hmk := make_known n w0 h30
  obtain ⟨w1, hw1⟩ : ∃ w1, w0.alloc (.cells (([] : List KnR).map knRow ++ List.replicate n zKn).flatten.toArray 31) = w1 := ⟨_, rfl⟩
  rw [hw1, hsz0] at hmk
  have hb1 : Below w0.heap.size w0 w1 := by rw [← hw1]; exact (Below.refl _ _).alloc (Nat.le_refl _) _
  have HC1 := hid (show Copd l n (w.heap.size + 1 + 1) 0 w1 from ⟨[], rfl, rfl, by rw [← hw1, ← hsz0, Nat.sub_zero]; exact Row.new _ _ _, fun q hq => by cases hq⟩)
  have HB1 := hid (hb0.trans (hb1.mono hb0.size))
  have HR0 := hid (hr0.below hb1 hr0.lt)
  have HR1 := hid (hr1.below hb1 hr1.lt)
  have HQ0 := hid hr0
  obtain ⟨⟨y0, y1, y2, y3⟩, _⟩ := hr0.four
  obtain ⟨⟨x0, x1, x2, x3⟩, _⟩ := HR0.out.four
  have HW0 := hid hw0
  have HSZ1 := hid (show w1.heap.size = w.heap.size + 1 + 1 + 1 by rw [← hw1]; simp [hsz0])
  clear hw0 hb0 hr0 hr1 hw1 hb1 hsz0
  go_enter Tryz.func67, Tryz.ntmps67
  go_wp2_with fail
  rw [HW0.out, hmk]
  go_wp2_with fail
  go_loopw [4, 5, 13] (fun _ _ i wr => ∃ k : Nat, k ≤ n ∧ i = .int .i64 (k : Int) ∧ Hid (Below w1.heap.size w1 wr ∨ True) ∧ Hid (Copd l n (w.heap.size + 1 + 1) k wr ∧ Row wr w.heap.size 79 [.string c.chain, .int .i64 c.trust, .bool c.frozen, .slice oa n ca] ∧ Row wr (w.heap.size + 1) 79 [.string ⟨#[]⟩, .int .i64 0, .bool false, .slice none 0 0] ∧ Below w.heap.size w wr)) (fun _ _ i _ => n - (intOf i).toNat)
  case atStart => exact ⟨0, by omega, rfl, hid (.inr trivial), hid ⟨HC1.out, HR0.out, HR1.out, HB1.out⟩⟩
  case round =>
    obtain ⟨k, hk, rfl, _, HT⟩ := hrel
    have hszr := HT.out.2.2.2.size
    have HCD := hid HT.out.1
    have HRA := hid HT.out.2.1
    have HRB := hid HT.out.2.2.1
    have HBR := hid HT.out.2.2.2
    have hlt1 := HRB.out.lt
    have HGL := hid (show w.heap.size + 1 + 1 < wr.heap.size by obtain ⟨_, _, _, h, _⟩ := HCD.out; exact h.lt)
    by_cases hlt : k < n
    · obtain ⟨x, hx⟩ : ∃ x, l[k]? = some x := ⟨l[k]'(by rw [HNN.out]; exact hlt), List.getElem?_eq_getElem _⟩
      obtain ⟨b, o, rfl, hcells⟩ := HK.out.spot (by omega)
      obtain ⟨hbN, vr, vn, d0, d1, d2, d3, b2, b3⟩ := hcells k x hx
      obtain ⟨o2, c2, rfl, _⟩ := b2.shape
      obtain ⟨o3, c3, rfl, _⟩ := b3.shape
      have hbl : b < w.heap.size := by omega
      have f0 := (HBR.out.cell (p := ⟨b, o + k * 4, none⟩) hbl).trans d0
      have f1 := (HBR.out.cell (p := ⟨b, o + k * 4 + 1, none⟩) hbl).trans d1
      have f2 := (HBR.out.cell (p := ⟨b, o + k * 4 + 2, none⟩) hbl).trans d2
      have f3 := (HBR.out.cell (p := ⟨b, o + k * 4 + 3, none⟩) hbl).trans d3
      have hlt' : (k : Int) < (n : Int) := by omega
      obtain ⟨w2, hw2⟩ : ∃ w2, wr.alloc (.cells #[.int .i64 x.height, .int .i64 x.time, .slice o2 x.root.length c2, .slice o3 x.next.length c3] 31) = w2 := ⟨_, rfl⟩
      have hb2 : Below wr.heap.size wr w2 := by rw [← hw2]; exact (Below.refl _ _).alloc (Nat.le_refl _) _
      have hr2 : Row w2 wr.heap.size 31 [.int .i64 x.height, .int .i64 x.time, .slice o2 x.root.length c2, .slice o3 x.next.length c3] := by rw [← hw2]; exact Row.new _ _ _
      obtain ⟨⟨q0, q1, q2, q3⟩, _⟩ := hr2.four
      have HB2 := hid (HBR.out.trans (hb2.mono HBR.out.size))
      have HCP := hid (copiedKnown_any x (.agg #[.int .i64 x.height, .int .i64 x.time, .slice o2 x.root.length c2, .slice o3 x.next.length c3]) N w2 ⟨_, _, rfl, b2.below (HB2.out.mono hN), b3.below (HB2.out.mono hN)⟩ (Nat.le_trans hN HB2.out.size) (HFT.out x (List.mem_of_getElem? hx)))
      have HQ2 := hid hb2
      have HW2 := hid hw2
      have HX := hid hx
      clear hcells d0 d1 d2 d3 b2 b3 hb2 hr2 hw2 hx HT
      go_wp2_with fail
      rw [HW2.out]
      go_wp2_with fail
      refine HCP.out.mono ?_
      rintro e w3 ⟨hb3, o4, c4, o5, c5, rfl, hx4, hx5⟩
      have HQ3 := hid (HQ2.out.trans (hb3.mono HQ2.out.size))
      have HB3 := hid (HB2.out.trans (hb3.mono HB2.out.size))
      have HCD3 := hid (HCD.out.below HQ3.out)
      have HRA3 := hid (HRA.out.below HQ3.out HRA.out.lt)
      have HRB3 := hid (HRB.out.below HQ3.out HRB.out.lt)
      have HO4 := hid (hx4.mono (show w.heap.size + 1 + 1 + 1 ≤ w2.heap.size by have := HQ2.out.size; have := HGL.out; omega))
      have HO5 := hid (hx5.mono (show w.heap.size + 1 + 1 + 1 ≤ w2.heap.size by have := HQ2.out.size; have := HGL.out; omega))
      obtain ⟨t0, t1, t2, t3, tz⟩ := HCD3.out.cells hlt
      have z0 := tz (k * 4)
      have z1 := tz (k * 4 + 1)
      have z2 := tz (k * 4 + 2)
      have z3 := tz (k * 4 + 3)
      clear hb3 hx4 hx5 tz q0 q1 q2 q3 f0 f1 f2 f3
      go_wp2
      go_roundw
      case rel =>
        refine ⟨k + 1, by omega, by go_num, hid (.inr trivial), hid ⟨HCD3.out.next HX.out hlt HO4.out HO5.out, ?_, ?_, ?_⟩⟩
        · exact (((HRA3.out.other _ (by simp only; omega)).other _ (by simp only; omega)).other _ (by simp only; omega)).other _ (by simp only; omega)
        · exact (((HRB3.out.other _ (by simp only; omega)).other _ (by simp only; omega)).other _ (by simp only; omega)).other _ (by simp only; omega)
        · have hge : w.heap.size ≤ w.heap.size + 1 + 1 := by omega
          exact (((HB3.out.setCell hge _).setCell hge _).setCell hge _).setCell hge _
      case measure => simp [intOf]; omega
    · have hge : decide ((k : Int) < (n : Int)) = false := by simp; omega
      obtain rfl : k = n := by omega
      obtain ⟨⟨p0, p1, p2, p3⟩, e0, e1, e2, e3⟩ := HRA.out.four
      obtain ⟨⟨r0, r1, r2, r3⟩, g0, g1, g2, g3⟩ := HRB.out.four
      clear HT x0 x1 x2 x3 y0 y1 y2 y3
      go_wp2_with fail
      have hrz := set4_row (HRB.out.other (a := ⟨w.heap.size, 3, none⟩) (.slice (some ⟨w.heap.size + 1 + 1, 0, none⟩) k k) (by simp only; omega)) (.string c.chain) (.int .i64 c.trust) (.bool c.frozen) (.slice (some ⟨w.heap.size + 1 + 1, 0, none⟩) k k)
      obtain ⟨⟨u0, u1, u2, u3⟩, _⟩ := hrz.four
      have hbz := set4_below (HBR.out.setCell (p := ⟨w.heap.size, 3, none⟩) (Nat.le_refl _) (.slice (some ⟨w.heap.size + 1 + 1, 0, none⟩) k k)) (show w.heap.size ≤ w.heap.size + 1 by omega) (.string c.chain) (.int .i64 c.trust) (.bool c.frozen) (.slice (some ⟨w.heap.size + 1 + 1, 0, none⟩) k k)
      have hoz := set4_other (wr.setCell ⟨w.heap.size, 3, none⟩ (.slice (some ⟨w.heap.size + 1 + 1, 0, none⟩) k k)) (w.heap.size + 1) (.string c.chain) (.int .i64 c.trust) (.bool c.frozen) (.slice (some ⟨w.heap.size + 1 + 1, 0, none⟩) k k)
      obtain ⟨ps, hown, hps⟩ := (HCD.out.keep (fun g hg => (hoz g (by omega)).trans (heap_setCell_other _ _ _ _ (by simp only; omega)))).all HNN.out h30 (show w.heap.size ≤ w.heap.size + 1 + 1 by omega)
      have hpl : ps.length = k := by have := congrArg List.length hps; rw [List.length_map, HNN.out] at this; exact this
      unfold set4 at u0 u1 u2 u3
      refine bodyPost_ret (v := .agg #[.string c.chain, .int .i64 c.trust, .bool c.frozen, .slice (some ⟨w.heap.size + 1 + 1, 0, none⟩) k k]) (by simp [results, Tryz.results67, go_sem, u0, u1, u2, u3]) rfl ⟨hbz, some ⟨w.heap.size + 1 + 1, 0, none⟩, k, ps, ?_⟩
      rw [hpl]
      exact ⟨rfl, hown, hps⟩
end Go.Proofs.YtbjlfhabnjpdmaaGreatDoor
namespace Go.Proofs.YtbjlfhabnjpdmaaGreatDoor
open Go.RowKit

end Go.Proofs.YtbjlfhabnjpdmaaGreatDoor
