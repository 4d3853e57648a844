/-
  What package client's isTime, wrongKnown and Wrong answer: what is wrong with a client.
  What package client's find and At answer: what a client knows of a height; what is known, in memory of its own.
  What package client's trusts, Active and refusal answer.
  What package client's copied and New answer: a client in memory of its own; a new one.
  What the laws of clients ask first: it is true.
-/
import Derived.Test.YtclhcjiblfokaaaGreatDoorppClMem
import Derived.Test.YtclhcjiblfokaaaGreatDoorppHdMems
import Derived.Test.YtclhcjiblfokaaaGreatDoorppSameB
import Derived.Deep.RegionHeld3
import Derived.Deep.RegionWith
namespace Go.Proofs.YtclhcjiblfokaaaGreatDoor
open Go.RowKit

/-- is a number a time -/
def timeN (n : Int) : Bool := decide (0 ≤ n) && decide (n ≤ 1000000000000)
theorem isTime_any (n : Int) (w : World) : Calls Tryz.prog 150 #[.int .i64 n] w fun e w' => e = .returned (.bool (timeN n)) ∧ w' = w := by
  unfold timeN
  by_cases h1 : 0 ≤ n
  · have e1 : decide (0 ≤ n) = true := by simpa using h1
    go_enter Tryz.func150, Tryz.ntmps150
    go_wp2
    go_ret
    exact ⟨by simp [e1]; first | done | rfl, rfl⟩
  · have e1 : decide (0 ≤ n) = false := by simpa using h1
    go_enter Tryz.func150, Tryz.ntmps150
    go_wp2
    go_ret
    exact ⟨by simp; first | done | rfl | (simp [e1]; first | done | rfl), rfl⟩
theorem timeN_true {n : Int} (h : ¬ (n < 0 ∨ 1000000000000 < n)) : timeN n = true := by unfold timeN; simp; omega
theorem timeN_false {n : Int} (h : n < 0 ∨ 1000000000000 < n) : timeN n = false := by unfold timeN; rw [Bool.and_eq_false_iff]; simp; omega
set_option maxHeartbeats 2000000 in
theorem wrongKnown_any (k : Kn) (v : Value) (N : Nat) (w : World) (hv : KnV w N v k) :
    Calls Tryz.prog 114 #[v] w fun e w' => e = .returned (.int .i64 (wrongK k)) ∧ Below w.heap.size w w' := by
  obtain ⟨rv, nv, rfl, h1, h2⟩ := hv
  obtain ⟨o1, c1, rfl, _⟩ := h1.shape
  obtain ⟨o2, c2, rfl, _⟩ := h2.shape
  clear h1 h2
  obtain ⟨w0, hw0⟩ : ∃ w0, w.alloc (.cells #[.int .i64 k.height, .int .i64 k.time, .slice o1 k.root.length c1, .slice o2 k.next.length c2] 93) = w0 := ⟨_, rfl⟩
  have HB0 := hid (show Below w.heap.size w w0 by rw [← hw0]; exact (Below.refl _ _).alloc (Nat.le_refl _) _)
  have hr0 := (show Row w0 w.heap.size 93 [.int .i64 k.height, .int .i64 k.time, .slice o1 k.root.length c1, .slice o2 k.next.length c2] by rw [← hw0]; exact Row.new _ _ _)
  have k0 := hr0.cell 0
  have k1 := hr0.cell 1
  have k2 := hr0.cell 2
  have k3 := hr0.cell 3
  clear hr0
  by_cases hr : k.height < 1 ∨ 1000000000000 < k.height ∨ k.time < 0 ∨ 1000000000000 < k.time
  · have HW := hid (wrongK_3 hr)
    by_cases r1 : k.height < 1
    · have e1 : decide (k.height < 1) = true := by simpa using r1
      clear hr
      go_enter Tryz.func114, Tryz.ntmps114
      go_wp2
      go_ret
      exact ⟨by rw [HW.out]; first | done | rfl, HB0.out⟩
    · have e1 : decide (k.height < 1) = false := by simp; omega
      by_cases r2 : 1000000000000 < k.height
      · have e2 : decide (1000000000000 < k.height) = true := by simpa using r2
        clear hr
        go_enter Tryz.func114, Tryz.ntmps114
        go_wp2
        go_ret
        exact ⟨by rw [HW.out]; first | done | rfl, HB0.out⟩
      · have e2 : decide (1000000000000 < k.height) = false := by simp; omega
        have HT := hid (timeN_false (n := k.time) (by omega))
        clear hr
        go_enter Tryz.func114, Tryz.ntmps114
        go_wp2_with (go_at_call 150; refine (isTime_any _ _).mono ?_; rintro e w' ⟨rfl, rfl⟩; rw [HT.out])
        go_ret
        exact ⟨by rw [HW.out]; first | done | rfl, HB0.out⟩
  · have r1 : decide (k.height < 1) = false := by simp; omega
    have r2 : decide (1000000000000 < k.height) = false := by simp; omega
    have HT := hid (timeN_true (n := k.time) (by omega))
    by_cases q1 : k.root.length = 32
    · have p1 : ((k.root.length : Int) != 32) = false := by simp; omega
      by_cases q2 : k.next.length = 32
      · have p2 : ((k.next.length : Int) != 32) = false := by simp; omega
        have HW := hid (wrongK_0 hr (by omega))
        clear hr q1 q2
        go_enter Tryz.func114, Tryz.ntmps114
        go_wp2_with (go_at_call 150; refine (isTime_any _ _).mono ?_; rintro e w' ⟨rfl, rfl⟩; rw [HT.out])
        go_ret
        exact ⟨by rw [HW.out]; first | done | rfl, HB0.out⟩
      · have p2 : ((k.next.length : Int) != 32) = true := by simp; omega
        have HW := hid (wrongK_2 hr (.inr q2))
        clear hr q1 q2
        go_enter Tryz.func114, Tryz.ntmps114
        go_wp2_with (go_at_call 150; refine (isTime_any _ _).mono ?_; rintro e w' ⟨rfl, rfl⟩; rw [HT.out])
        go_ret
        exact ⟨by rw [HW.out]; first | done | rfl, HB0.out⟩
    · have p1 : ((k.root.length : Int) != 32) = true := by simp; omega
      have HW := hid (wrongK_2 hr (.inl q1))
      clear hr q1
      go_enter Tryz.func114, Tryz.ntmps114
      go_wp2_with (go_at_call 150; refine (isTime_any _ _).mono ?_; rintro e w' ⟨rfl, rfl⟩; rw [HT.out])
      go_ret
      exact ⟨by rw [HW.out]; first | done | rfl, HB0.out⟩
/-- what Wrong is to answer of a client -/
def ClWrongC (f : FuncId) : Prop := ∀ (c : Cl) (v : Value) (N : Nat) (w : World), ClV w N v c → N ≤ w.heap.size → c.fits →
  Calls Tryz.prog f #[v] w fun e w' => e = .returned (.int .i64 (wrongCl c)) ∧ Below w.heap.size w w'
set_option maxRecDepth 100000 in
set_option maxHeartbeats 4000000 in
theorem clWrongC : ClWrongC 61 := by
  intro c v N w hv hN hfit
  obtain ⟨kv, rfl, hk⟩ := hv
  obtain ⟨f1, f2, f3⟩ := hfit
  obtain ⟨oa, ca, rfl, hca⟩ := hk.shape
  have HK := hid hk
  clear hk f3
  obtain ⟨w0, hw0⟩ : ∃ w0, w.alloc (.cells #[.string c.chain, .int .i64 c.trust, .bool c.frozen, .slice oa c.known.length ca] 79) = w0 := ⟨_, rfl⟩
  have hb0 : Below w.heap.size w w0 := by rw [← hw0]; exact (Below.refl _ _).alloc (Nat.le_refl _) _
  have HB0 := hid hb0
  have hr0 := (show Row w0 w.heap.size 79 [.string c.chain, .int .i64 c.trust, .bool c.frozen, .slice oa c.known.length ca] by rw [← hw0]; exact Row.new _ _ _)
  have HR0 := hid hr0
  have k0 := hr0.cell 0
  have k1 := hr0.cell 1
  have k3 := hr0.cell 3
  have hsz0 : w0.heap.size = w.heap.size + 1 := by rw [← hw0]; simp
  have HSZ0 := hid hsz0
  clear hr0 hb0 hsz0
  by_cases hn : nameB c.chain = true
  · by_cases ht : c.trust < 1 ∨ 1000000000000 < c.trust
    · have HW := hid (wrongCl_3 hn ht)
      by_cases r1 : c.trust < 1
      · have e1 : decide (c.trust < 1) = true := by simpa using r1
        clear ht
        go_enter Tryz.func61, Tryz.ntmps61
        go_wp2_with (go_at_call 57; refine (isName_any _ _ f1).mono ?_; rintro e w' ⟨rfl, rfl⟩)
        go_ret
        exact ⟨by rw [HW.out]; first | done | rfl, HB0.out⟩
      · have e1 : decide (c.trust < 1) = false := by simp; omega
        have e2 : decide (1000000000000 < c.trust) = true := by simp; omega
        clear ht
        go_enter Tryz.func61, Tryz.ntmps61
        go_wp2_with (go_at_call 57; refine (isName_any _ _ f1).mono ?_; rintro e w' ⟨rfl, rfl⟩)
        go_ret
        exact ⟨by rw [HW.out]; first | done | rfl, HB0.out⟩
    · have e1 : decide (c.trust < 1) = false := by simp; omega
      have e2 : decide (1000000000000 < c.trust) = false := by simp; omega
      by_cases hm : c.known.length < 1 ∨ 30 < c.known.length
      · have HW := hid (wrongCl_5 hn ht hm)
        by_cases r1 : c.known.length < 1
        · have e3 : decide ((c.known.length : Int) < 1) = true := by simp; omega
          clear ht hm
          go_enter Tryz.func61, Tryz.ntmps61
          go_wp2_with (go_at_call 57; refine (isName_any _ _ f1).mono ?_; rintro e w' ⟨rfl, rfl⟩)
          go_ret
          exact ⟨by rw [HW.out]; first | done | rfl, HB0.out⟩
        · have e3 : decide ((c.known.length : Int) < 1) = false := by simp; omega
          have e4 : decide (30 < (c.known.length : Int)) = true := by simp; omega
          clear ht hm
          go_enter Tryz.func61, Tryz.ntmps61
          go_wp2_with (go_at_call 57; refine (isName_any _ _ f1).mono ?_; rintro e w' ⟨rfl, rfl⟩)
          go_ret
          exact ⟨by rw [HW.out]; first | done | rfl, HB0.out⟩
      · have e3 : decide ((c.known.length : Int) < 1) = false := by simp; omega
        have e4 : decide (30 < (c.known.length : Int)) = false := by simp; omega
        have HW := hid (wrongCl_go hn ht hm)
        have h30 : c.known.length ≤ 30 := by omega
        clear ht hm
        generalize hnn : c.known.length = n at *
        have HN := hid hnn
        clear hnn
        generalize hl : c.known = l at *
        clear hl
        go_enter Tryz.func61, Tryz.ntmps61
        go_wp2_with (go_at_call 57; refine (isName_any _ _ f1).mono ?_; rintro e w' ⟨rfl, hw'⟩; obtain rfl := hw'.symm)
        go_loopw [3, 4, 5, 34] (fun _ _ _ i wr => ∃ k : Nat, k ≤ n ∧ i = .int .i64 (k : Int) ∧ Hid (Below w0.heap.size w0 wr ∧ wrongCl c = knGo (prevKn l k) (l.drop k))) (fun _ _ _ i _ => n - (intOf i).toNat)
        case atStart => exact ⟨0, by omega, rfl, hid ⟨Below.refl _ _, HW.out⟩⟩
        case round =>
          obtain ⟨k, hk, rfl, HT⟩ := hrel
          have hszr := HT.out.1.size
          have HBW := hid (HB0.out.trans (HT.out.1.mono HB0.out.size))
          have hszw := HB0.out.size
          by_cases hlt : k < n
          · obtain ⟨x, hx⟩ : ∃ x, l[k]? = some x := ⟨l[k]'(by rw [HN.out]; exact hlt), List.getElem?_eq_getElem _⟩
            obtain ⟨b, o, rfl, hcells⟩ := HK.out.spot (by omega)
            obtain ⟨hbN, vr, vn, d0, d1, d2, d3, b2, b3⟩ := hcells k x hx
            obtain ⟨o2, c2, rfl, _⟩ := b2.shape
            obtain ⟨o3, c3, rfl, _⟩ := b3.shape
            have hbl : b < w.heap.size := by omega
            have f0 := (HBW.out.cell (p := ⟨b, o + k * 4, none⟩) hbl).trans d0
            have f1 := (HBW.out.cell (p := ⟨b, o + k * 4 + 1, none⟩) hbl).trans d1
            have f2 := (HBW.out.cell (p := ⟨b, o + k * 4 + 2, none⟩) hbl).trans d2
            have f3 := (HBW.out.cell (p := ⟨b, o + k * 4 + 3, none⟩) hbl).trans d3
            have HST := hid (knGo_at l k x hx)
            have hlt' : (k : Int) < (n : Int) := by omega
            obtain ⟨w2, hw2⟩ : ∃ w2, wr.alloc (.cells #[.int .i64 x.height, .int .i64 x.time, .slice o2 x.root.length c2, .slice o3 x.next.length c3] 93) = w2 := ⟨_, rfl⟩
            have hbr2 : Below wr.heap.size wr w2 := by rw [← hw2]; exact (Below.refl _ _).alloc (Nat.le_refl _) _
            have HB2 := hid (HT.out.1.trans (hbr2.mono hszr))
            have HBW2 := hid (HBW.out.trans (hbr2.mono HBW.out.size))
            have hrow2 : Row w2 wr.heap.size 93 [.int .i64 x.height, .int .i64 x.time, .slice o2 x.root.length c2, .slice o3 x.next.length c3] := by rw [← hw2]; exact Row.new _ _ _
            have HR2 := hid hrow2
            have q0 := hrow2.cell 0
            have q1 := hrow2.cell 1
            have q2 := hrow2.cell 2
            have q3 := hrow2.cell 3
            have HW2 := hid hw2
            have HWK := hid (wrongKnown_any x (.agg #[.int .i64 x.height, .int .i64 x.time, .slice o2 x.root.length c2, .slice o3 x.next.length c3]) N w2 ⟨_, _, rfl, b2.below (HBW2.out.mono hN), b3.below (HBW2.out.mono hN)⟩)
            clear d0 d1 d2 d3 hbr2 hrow2 hw2 b2 b3 hw0
            cases k with
            | zero =>
              have f0' : wr.cell? ⟨b, o, none⟩ = some (.int .i64 x.height) := by simpa using f0
              have f1' : wr.cell? ⟨b, o + 1, none⟩ = some (.int .i64 x.time) := by simpa using f1
              have f2' : wr.cell? ⟨b, o + 2, none⟩ = some (.slice o2 x.root.length c2) := by simpa using f2
              have f3' : wr.cell? ⟨b, o + 3, none⟩ = some (.slice o3 x.next.length c3) := by simpa using f3
              clear hcells
              by_cases hwk : wrongK x = 0
              · have HV2 := hid (show wrongCl c = knGo (prevKn l 1) (l.drop 1) by rw [HT.out.2, HST.out, if_neg (by omega), if_neg (by simp [prevKn_zero, aheadI])])
                have HWZ := hid hwk
                clear hwk
                go_wp2_with fail
                rw [HW2.out]
                go_wp2_with fail
                refine HWK.out.mono ?_
                rintro e w3 ⟨rfl, hb3⟩
                rw [HWZ.out]
                have HB3 := hid (HB2.out.trans (hb3.mono HB2.out.size))
                clear hb3
                go_wp2_with fail
                go_quiet (fail)
                go_wp2
                go_roundw
                case rel => exact ⟨1, by omega, by go_num, hid ⟨HB3.out.trans (below_drewH _ _ _), HV2.out⟩⟩
                case measure => simp [intOf]; omega
              · have HV2 := hid (show wrongCl c = wrongK x by rw [HT.out.2, HST.out, if_pos hwk])
                have g1 : (wrongK x != 0) = true := by simpa using hwk
                clear hwk
                generalize wrongK x = z at *
                go_wp2_with fail
                rw [HW2.out]
                go_wp2_with fail
                refine HWK.out.mono ?_
                rintro e w3 ⟨rfl, hb3⟩
                have HB3 := hid (HBW2.out.trans (hb3.mono HBW2.out.size))
                clear hb3
                go_wp2
                go_ret
                exact ⟨by rw [HV2.out]; first | done | rfl, HB3.out⟩
            | succ j =>
              by_cases hwk : wrongK x = 0
              · obtain ⟨y, hy⟩ : ∃ y, l[j]? = some y := ⟨l[j]'(by rw [HN.out]; omega), List.getElem?_eq_getElem _⟩
                obtain ⟨_, _, _, t0, _⟩ := hcells j y hy
                have HPV := hid (prevKn_succ l j y hy)
                have hj1 : ((j + 1 : Nat) : Int) - 1 = (j : Int) := by omega
                have hj2 : IntKind.i64.wrap (((j + 1 : Nat) : Int) - 1) = (j : Int) := by rw [hj1]; simp [IntKind.wrap, IntKind.bits, IntKind.signed]; split <;> omega
                have hjn : (j : Int) < (n : Int) := by omega
                have e5 : decide ((0 : Int) < ((j + 1 : Nat) : Int)) = true := decide_eq_true (by omega)
                have HT0 := hid t0
                have HWZ := hid hwk
                have HST2 := hid (HST.out.trans (if_neg (by omega)))
                clear hcells hy t0 hwk
                by_cases hle : x.height ≤ y.height
                · have g5 : decide (x.height ≤ y.height) = true := by simpa using hle
                  have HV2 := hid (show wrongCl c = 2 by rw [HT.out.2, HST2.out, HPV.out, if_pos (by simpa [aheadI] using hle)])
                  go_wp2_with fail
                  rw [HW2.out]
                  go_wp2_with fail
                  refine HWK.out.mono ?_
                  rintro e w3 ⟨rfl, hb3⟩
                  rw [HWZ.out]
                  have HB3 := hid (HB2.out.trans (hb3.mono HB2.out.size))
                  have HBW3 := hid (HBW2.out.trans (hb3.mono HBW2.out.size))
                  have s0 := (HR2.out.below hb3 HR2.out.lt).cell 0
                  have s3 := (HR0.out.below HB3.out HR0.out.lt).cell 3
                  have t0' := (HBW3.out.cell (p := ⟨b, o + j * 4, none⟩) hbl).trans HT0.out
                  clear hb3
                  go_wp2_with fail
                  go_quiet (fail)
                  go_wp2
                  go_ret
                  exact ⟨by rw [HV2.out]; first | done | rfl, HBW3.out.trans (below_drewH _ _ _)⟩
                · have g5 : decide (x.height ≤ y.height) = false := by simpa using hle
                  have HV2 := hid (show wrongCl c = knGo (prevKn l (j + 2)) (l.drop (j + 2)) by rw [HT.out.2, HST2.out, HPV.out, if_neg (by simpa [aheadI] using hle)])
                  go_wp2_with fail
                  rw [HW2.out]
                  go_wp2_with fail
                  refine HWK.out.mono ?_
                  rintro e w3 ⟨rfl, hb3⟩
                  rw [HWZ.out]
                  have HB3 := hid (HB2.out.trans (hb3.mono HB2.out.size))
                  have HBW3 := hid (HBW2.out.trans (hb3.mono HBW2.out.size))
                  have s0 := (HR2.out.below hb3 HR2.out.lt).cell 0
                  have s3 := (HR0.out.below HB3.out HR0.out.lt).cell 3
                  have t0' := (HBW3.out.cell (p := ⟨b, o + j * 4, none⟩) hbl).trans HT0.out
                  clear hb3
                  go_wp2_with fail
                  go_quiet (fail)
                  go_wp2
                  go_roundw
                  case rel => exact ⟨j + 2, by omega, by go_num, hid ⟨HB3.out.trans (below_drewH _ _ _), HV2.out⟩⟩
                  case measure => simp [intOf]; omega
              · have HV2 := hid (show wrongCl c = wrongK x by rw [HT.out.2, HST.out, if_pos hwk])
                have g1 : (wrongK x != 0) = true := by simpa using hwk
                clear hwk hcells
                generalize wrongK x = z at *
                go_wp2_with fail
                rw [HW2.out]
                go_wp2_with fail
                refine HWK.out.mono ?_
                rintro e w3 ⟨rfl, hb3⟩
                have HB3 := hid (HBW2.out.trans (hb3.mono HBW2.out.size))
                clear hb3
                go_wp2
                go_ret
                exact ⟨by rw [HV2.out]; first | done | rfl, HB3.out⟩
          · have hge : decide ((k : Int) < (n : Int)) = false := by simp; omega
            have HV2 := hid (show wrongCl c = 0 by rw [HT.out.2, knGo_end l k (by rw [HN.out]; omega)])
            go_wp2
            go_ret
            exact ⟨by rw [HV2.out]; first | done | rfl, HBW.out⟩
  · have hn' : nameB c.chain = false := by simpa using hn
    have HW := hid (wrongCl_7 hn')
    clear hn
    go_enter Tryz.func61, Tryz.ntmps61
    go_wp2_with (go_at_call 57; refine (isName_any _ _ f1).mono ?_; rintro e w' ⟨rfl, rfl⟩)
    go_ret
    exact ⟨by rw [HW.out]; first | done | rfl, HB0.out⟩
end Go.Proofs.YtclhcjiblfokaaaGreatDoor
namespace Go.Proofs.YtclhcjiblfokaaaGreatDoor
open Go.RowKit

theorem beqI (a b : Int) : (a == b) = decide (a = b) := by rw [Bool.eq_iff_iff]; simp
theorem find1_any (k : Kn) (h : Int) (g : Nat) (v : Value) (N : Nat) (w : World) (hv : KnV w N v k) (hc : w.cell? ⟨g, 0, none⟩ = some (.int .i64 h)) :
    Calls Tryz.prog 164 #[v, .pointer (some ⟨g, 0, none⟩)] w fun e w' => e = .returned (.bool (decide (k.height = h))) ∧ Below w.heap.size w w' := by
  obtain ⟨rv, nv, rfl, h1, h2⟩ := hv
  obtain ⟨o1, c1, rfl, _⟩ := h1.shape
  obtain ⟨o2, c2, rfl, _⟩ := h2.shape
  clear h1 h2
  obtain ⟨w0, hw0⟩ : ∃ w0, w.alloc (.cells #[.int .i64 k.height, .int .i64 k.time, .slice o1 k.root.length c1, .slice o2 k.next.length c2] 93) = w0 := ⟨_, rfl⟩
  have hb0 : Below w.heap.size w w0 := by rw [← hw0]; exact (Below.refl _ _).alloc (Nat.le_refl _) _
  have HB0 := hid hb0
  have hr0 := (show Row w0 w.heap.size 93 [.int .i64 k.height, .int .i64 k.time, .slice o1 k.root.length c1, .slice o2 k.next.length c2] by rw [← hw0]; exact Row.new _ _ _)
  have k0 := hr0.cell 0
  have hc0 := (hb0.cell (p := ⟨g, 0, none⟩) (block_lt_of_cell hc)).trans hc
  clear hr0 hb0 hc
  go_enter Tryz.func164, Tryz.ntmps164
  go_wp2
  go_ret
  exact ⟨by rw [← beqI]; first | done | rfl, HB0.out⟩
theorem atK_first {l : List Kn} {h : Int} {j : Nat} {k : Kn} (hno : ∀ x ∈ l.take j, x.height ≠ h) (hk : l[j]? = some k) (e : k.height = h) : atK l h = some k := by
  obtain ⟨hj, rfl⟩ := List.getElem?_eq_some_iff.1 hk
  unfold atK
  have hl : l = l.take j ++ l[j] :: l.drop (j + 1) := by rw [← List.drop_eq_getElem_cons hj, List.take_append_drop]
  rw [show l.find? (fun k => decide (k.height = h)) = (l.take j ++ l[j] :: l.drop (j + 1)).find? (fun k => decide (k.height = h)) from congrArg _ hl]
  rw [List.find?_append, List.find?_eq_none.2 (fun x hx => by simpa using hno x hx), List.find?_cons_of_pos (by simpa using e)]
  rfl
/-- the place of the first one of a height -/
def IdxK (l : List Kn) (h : Int) (i : Int) : Prop := (i = -1 ∧ atK l h = none) ∨ ∃ (j : Nat) (k : Kn), i = (j : Int) ∧ l[j]? = some k ∧ atK l h = some k
set_option maxRecDepth 100000 in
set_option maxHeartbeats 2000000 in
theorem indexKn_any (l : List Kn) (h : Int) (g : Nat) (v : Value) (N : Nat) (w : World) (hN : N ≤ w.heap.size) (hv : Knowns w N v l) (hlen : l.length < 2305843009213693952) (hc : w.cell? ⟨g, 0, none⟩ = some (.int .i64 h)) :
    Calls Tryz.prog 163 #[v, .func (.func 164) #[] #[.pointer (some ⟨g, 0, none⟩)]] w fun e w' => Below w.heap.size w w' ∧ ∃ i : Int, e = .returned (.int .i64 i) ∧ IdxK l h i := by
  obtain ⟨oa, ca, rfl, hca⟩ := hv.shape
  have HL := hid hv
  have HC := hid hc
  have hgl := block_lt_of_cell hc
  clear hv hc
  generalize hn : l.length = n at *
  have HN := hid hn
  clear hn
  go_enter Tryz.func163, Tryz.ntmps163
  go_wp2_with fail
  go_loopw [5, 8] (fun _ s8 wr => ∃ k : Nat, k ≤ n ∧ s8 = .int .i64 (k : Int) ∧ Hid (Below w.heap.size w wr ∧ ∀ x ∈ l.take k, x.height ≠ h)) (fun _ s8 _ => n - (intOf s8).toNat)
  case atStart => exact ⟨0, Nat.zero_le _, rfl, hid ⟨Below.refl _ _, by simp⟩⟩
  case round =>
    obtain ⟨k, hk, rfl, HR⟩ := hrel
    have hszr := HR.out.1.size
    by_cases hlt : k < n
    · have hlt' : (k : Int) < (n : Int) := by omega
      obtain ⟨x, hx⟩ : ∃ x, l[k]? = some x := ⟨l[k]'(by rw [HN.out]; exact hlt), List.getElem?_eq_getElem _⟩
      obtain ⟨b, o, rfl, hcells⟩ := HL.out.spot (by omega)
      obtain ⟨hbN, vr, vn, d0, d1, d2, d3, b2, b3⟩ := hcells k x hx
      obtain ⟨o2, c2, rfl, _⟩ := b2.shape
      obtain ⟨o3, c3, rfl, _⟩ := b3.shape
      have hbl : b < w.heap.size := by omega
      have f0 := (HR.out.1.cell (p := ⟨b, o + k * 4, none⟩) hbl).trans d0
      have f1 := (HR.out.1.cell (p := ⟨b, o + k * 4 + 1, none⟩) hbl).trans d1
      have f2 := (HR.out.1.cell (p := ⟨b, o + k * 4 + 2, none⟩) hbl).trans d2
      have f3 := (HR.out.1.cell (p := ⟨b, o + k * 4 + 3, none⟩) hbl).trans d3
      have HF := hid (find1_any x h g (.agg #[.int .i64 x.height, .int .i64 x.time, .slice o2 x.root.length c2, .slice o3 x.next.length c3]) N wr ⟨_, _, rfl, b2.below (HR.out.1.mono hN), b3.below (HR.out.1.mono hN)⟩ ((HR.out.1.cell (p := ⟨g, 0, none⟩) hgl).trans HC.out))
      have HX := hid hx
      clear hcells d0 d1 d2 d3 b2 b3 hx
      by_cases he : x.height = h
      · have HE := hid he
        rw [decide_eq_true he] at HF
        clear he
        go_wp2_with fail
        refine HF.out.mono ?_
        rintro e w5 ⟨rfl, hb5⟩
        have HB5 := hid (HR.out.1.trans (hb5.mono hszr))
        clear hb5
        go_wp2
        go_ret
        exact ⟨HB5.out, _, rfl, .inr ⟨k, x, rfl, HX.out, atK_first HR.out.2 HX.out HE.out⟩⟩
      · have HE := hid he
        rw [decide_eq_false he] at HF
        have HTK := hid (show ∀ y ∈ l.take (k + 1), y.height ≠ h from fun y hy => by
          rw [List.take_add_one, HX.out] at hy
          rcases List.mem_append.1 hy with hy | hy
          · exact HR.out.2 y hy
          · obtain rfl : y = x := by simpa using hy
            exact HE.out)
        clear he
        go_wp2_with fail
        refine HF.out.mono ?_
        rintro e w5 ⟨rfl, hb5⟩
        have HB5 := hid (HR.out.1.trans (hb5.mono hszr))
        clear hb5
        go_wp2
        go_roundw
        case rel => exact ⟨k + 1, by omega, by go_num, hid ⟨HB5.out, HTK.out⟩⟩
        case measure => simp [intOf]; omega
    · have hge : decide ((k : Int) < (n : Int)) = false := by simp; omega
      go_wp2
      go_ret
      refine ⟨HR.out.1, _, rfl, .inl ⟨rfl, atK_of fun x hx => HR.out.2 x ?_⟩⟩
      rw [List.take_of_length_le (by rw [HN.out]; omega)]
      exact hx
/-- what is answered of a height: what is known of it, or nothing -/
def knAt (l : List Kn) (h : Int) : Kn := (atK l h).getD Kn.none
theorem knAt_some {l : List Kn} {h : Int} {k : Kn} (e : atK l h = some k) : knAt l h = k := by unfold knAt; rw [e]; rfl
theorem knAt_none {l : List Kn} {h : Int} (e : atK l h = none) : knAt l h = Kn.none := by unfold knAt; rw [e]; rfl
/-- what At is to answer -/
def AtC (f : FuncId) : Prop := ∀ (c : Cl) (h : Int) (v : Value) (N : Nat) (w : World), ClV w N v c → N ≤ w.heap.size → c.fits →
  Calls Tryz.prog f #[v, .int .i64 h] w fun e w' => Below w.heap.size w w' ∧ ∃ o1 c1 o2 c2, e = .returned (.tuple #[.agg #[.int .i64 (knAt c.known h).height, .int .i64 (knAt c.known h).time, .slice o1 (knAt c.known h).root.length c1, .slice o2 (knAt c.known h).next.length c2], .bool (atK c.known h).isSome]) ∧ Bytes w' w'.heap.size (.slice o1 (knAt c.known h).root.length c1) (knAt c.known h).root ∧ Bytes w' w'.heap.size (.slice o2 (knAt c.known h).next.length c2) (knAt c.known h).next
set_option maxRecDepth 100000 in
set_option maxHeartbeats 4000000 in
theorem findC : AtC 138 := by
  intro c h v N w hv hN hfit
  obtain ⟨kv, rfl, hk⟩ := hv
  obtain ⟨f1, f2, f3⟩ := hfit
  obtain ⟨oa, ca, rfl, hca⟩ := hk.shape
  obtain ⟨w0, hw0⟩ : ∃ w0, ((w.alloc (.cells #[.string c.chain, .int .i64 c.trust, .bool c.frozen, .slice oa c.known.length ca] 79)).alloc (.cells #[.int .i64 h] 3)).alloc (.cells #[.int .i64 0, .int .i64 0, .slice none 0 0, .slice none 0 0] 93) = w0 := ⟨_, rfl⟩
  have hb0 : Below w.heap.size w w0 := by rw [← hw0]; exact (((Below.refl _ _).alloc (Nat.le_refl _) _).alloc (by simp) _).alloc (by simp; omega) _
  have hra : Row (w.alloc (.cells #[.string c.chain, .int .i64 c.trust, .bool c.frozen, .slice oa c.known.length ca] 79)) w.heap.size 79 [.string c.chain, .int .i64 c.trust, .bool c.frozen, .slice oa c.known.length ca] := Row.new _ _ _
  have hr0 : Row w0 w.heap.size 79 [.string c.chain, .int .i64 c.trust, .bool c.frozen, .slice oa c.known.length ca] := by rw [← hw0]; exact (hra.alloc _).alloc _
  have hr1 : Row w0 (w.heap.size + 1) 3 [.int .i64 h] := by
    rw [← hw0]
    have := Row.new (w.alloc (.cells #[.string c.chain, .int .i64 c.trust, .bool c.frozen, .slice oa c.known.length ca] 79)) 3 [.int .i64 h]
    simp only [World.size_alloc] at this
    exact this.alloc _
  have hr2 : Row w0 (w.heap.size + 1 + 1) 93 [.int .i64 0, .int .i64 0, .slice none 0 0, .slice none 0 0] := by
    rw [← hw0]
    have := Row.new ((w.alloc (.cells #[.string c.chain, .int .i64 c.trust, .bool c.frozen, .slice oa c.known.length ca] 79)).alloc (.cells #[.int .i64 h] 3)) 93 [.int .i64 0, .int .i64 0, .slice none 0 0, .slice none 0 0]
    simp only [World.size_alloc] at this
    exact this
  have HI := hid (indexKn_any c.known h (w.heap.size + 1) _ N w0 (Nat.le_trans hN hb0.size) (hk.below (hb0.mono hN)) f2 (hr1.cell 0))
  have HK := hid hk
  have HB0 := hid hb0
  have HR0 := hid hr0
  have HR2 := hid hr2
  have k3 := hr0.cell 3
  have HW0 := hid hw0
  clear hk hb0 hr0 hr1 hr2 hra f3
  generalize hnn : c.known.length = n at *
  have HN := hid hnn
  clear hnn
  clear hw0
  go_enter Tryz.func138, Tryz.ntmps138
  go_wp2_with fail
  rw [HW0.out]
  refine HI.out.mono ?_
  rintro e w1 ⟨hb1, i, rfl, hix⟩
  have HB1 := hid (HB0.out.trans (hb1.mono HB0.out.size))
  have r3 := (HR0.out.below hb1 HR0.out.lt).cell 3
  have HR21 := hid (HR2.out.below hb1 HR2.out.lt)
  obtain ⟨⟨y0, y1, y2, y3⟩, z0, z1, z2, z3⟩ := HR21.out.four
  clear hb1 k3
  rcases hix with ⟨rfl, hno⟩ | ⟨j, k, rfl, hj, hat⟩
  · have HNO := hid hno
    have e1 : decide ((-1 : Int) < 0) = true := by decide
    clear hno
    go_wp2
    have hrz := set4_row HR21.out (.int .i64 0) (.int .i64 0) (.slice none 0 0) (.slice none 0 0)
    obtain ⟨⟨u0, u1, u2, u3⟩, _⟩ := hrz.four
    have hbz := set4_below HB1.out (show w.heap.size ≤ w.heap.size + 1 + 1 by omega) (.int .i64 0) (.int .i64 0) (.slice none 0 0) (.slice none 0 0)
    unfold set4 at u0 u1 u2 u3
    refine bodyPost_ret (v := .tuple #[.agg #[.int .i64 0, .int .i64 0, .slice none 0 0, .slice none 0 0], .bool false]) (by simp [results, Tryz.results138, go_sem, u0, u1, u2, u3]) rfl ⟨hbz, none, 0, none, 0, ?_⟩
    rw [knAt_none HNO.out, HNO.out]
    exact ⟨rfl, .inl ⟨rfl, rfl⟩, .inl ⟨rfl, rfl⟩⟩
  · have hjn : j < n := by rw [← HN.out]; exact (List.getElem?_eq_some_iff.1 hj).1
    obtain ⟨b, o, rfl, hcells⟩ := HK.out.spot (by omega)
    obtain ⟨hbN, vr, vn, d0, d1, d2, d3, b2, b3⟩ := hcells j k hj
    obtain ⟨o2, c2, rfl, _⟩ := b2.shape
    obtain ⟨o3, c3, rfl, _⟩ := b3.shape
    have hbl : b < w.heap.size := by omega
    have f0 := (HB1.out.cell (p := ⟨b, o + j * 4, none⟩) hbl).trans d0
    have f1 := (HB1.out.cell (p := ⟨b, o + j * 4 + 1, none⟩) hbl).trans d1
    have f2 := (HB1.out.cell (p := ⟨b, o + j * 4 + 2, none⟩) hbl).trans d2
    have f3 := (HB1.out.cell (p := ⟨b, o + j * 4 + 3, none⟩) hbl).trans d3
    have HAT := hid hat
    have HBY := hid (And.intro b2 b3)
    have e1 : decide ((j : Int) < 0) = false := by simp
    have e2 : (j : Int) < (n : Int) := by omega
    clear hcells hj hat d0 d1 d2 d3 b2 b3
    go_wp2
    have hrz := set4_row HR21.out (.int .i64 k.height) (.int .i64 k.time) (.slice o2 k.root.length c2) (.slice o3 k.next.length c3)
    obtain ⟨⟨u0, u1, u2, u3⟩, _⟩ := hrz.four
    have hbz := set4_below HB1.out (show w.heap.size ≤ w.heap.size + 1 + 1 by omega) (.int .i64 k.height) (.int .i64 k.time) (.slice o2 k.root.length c2) (.slice o3 k.next.length c3)
    have w2 := set4_bytes (g := w.heap.size + 1 + 1) (a := .int .i64 k.height) (b := .int .i64 k.time) (c := .slice o2 k.root.length c2) (d := .slice o3 k.next.length c3) (HBY.out.1.below (HB1.out.mono hN)) (by omega)
    have w3 := set4_bytes (g := w.heap.size + 1 + 1) (a := .int .i64 k.height) (b := .int .i64 k.time) (c := .slice o2 k.root.length c2) (d := .slice o3 k.next.length c3) (HBY.out.2.below (HB1.out.mono hN)) (by omega)
    unfold set4 at u0 u1 u2 u3
    refine bodyPost_ret (v := .tuple #[.agg #[.int .i64 k.height, .int .i64 k.time, .slice o2 k.root.length c2, .slice o3 k.next.length c3], .bool true]) (by simp [results, Tryz.results138, go_sem, u0, u1, u2, u3]) rfl ⟨hbz, o2, c2, o3, c3, ?_⟩
    rw [knAt_some HAT.out, HAT.out]
    exact ⟨rfl, w2, w3⟩
set_option maxRecDepth 100000 in
set_option maxHeartbeats 4000000 in
theorem copiedKnown_any (k : Kn) (v : Value) (N : Nat) (w : World) (hv : KnV w N v k) (hN : N ≤ w.heap.size) (hf : k.fits) :
    Calls Tryz.prog 128 #[v] w fun e w' => Below w.heap.size w w' ∧ ∃ o1 c1 o2 c2, e = .returned (.agg #[.int .i64 k.height, .int .i64 k.time, .slice o1 k.root.length c1, .slice o2 k.next.length c2]) ∧ OwnB w' w.heap.size (.slice o1 k.root.length c1) k.root ∧ OwnB w' w.heap.size (.slice o2 k.next.length c2) k.next := by
  obtain ⟨rv, nv, rfl, h1, h2⟩ := hv
  obtain ⟨o1, c1, rfl, _⟩ := h1.shape
  obtain ⟨o2, c2, rfl, _⟩ := h2.shape
  obtain ⟨w0, hw0⟩ : ∃ w0, (w.alloc (.cells #[.int .i64 k.height, .int .i64 k.time, .slice o1 k.root.length c1, .slice o2 k.next.length c2] 93)).alloc (.cells #[.int .i64 0, .int .i64 0, .slice none 0 0, .slice none 0 0] 93) = w0 := ⟨_, rfl⟩
  have hb0 : Below w.heap.size w w0 := by rw [← hw0]; exact ((Below.refl _ _).alloc (Nat.le_refl _) _).alloc (by simp) _
  have hr0 : Row w0 w.heap.size 93 [.int .i64 k.height, .int .i64 k.time, .slice o1 k.root.length c1, .slice o2 k.next.length c2] := by rw [← hw0]; exact (Row.new _ _ _).alloc _
  have hr1 : Row w0 (w.heap.size + 1) 93 [.int .i64 0, .int .i64 0, .slice none 0 0, .slice none 0 0] := by
    rw [← hw0]
    have := Row.new (w.alloc (.cells #[.int .i64 k.height, .int .i64 k.time, .slice o1 k.root.length c1, .slice o2 k.next.length c2] 93)) 93 [.int .i64 0, .int .i64 0, .slice none 0 0, .slice none 0 0]
    simp only [World.size_alloc] at this
    exact this
  have HB0 := hid hb0
  have HR0 := hid hr0
  have HR1 := hid hr1
  have HCK := hid (show ∀ wx, Below w0.heap.size w0 wx → Calls Tryz.prog 34 #[.slice o1 k.root.length c1] wx fun e w' => Below wx.heap.size wx w' ∧ ∃ v, e = .returned v ∧ OwnB w' wx.heap.size v k.root from fun wx hx => cloneB_any k.root _ N wx (h1.below ((hb0.trans (hx.mono hb0.size)).mono hN)) hf.1)
  have HCV := hid (show ∀ wx, Below w0.heap.size w0 wx → Calls Tryz.prog 34 #[.slice o2 k.next.length c2] wx fun e w' => Below wx.heap.size wx w' ∧ ∃ v, e = .returned v ∧ OwnB w' wx.heap.size v k.next from fun wx hx => cloneB_any k.next _ N wx (h2.below ((hb0.trans (hx.mono hb0.size)).mono hN)) hf.2)
  have HRX := hid (show ∀ wx, Below w0.heap.size w0 wx → Row wx w.heap.size 93 [.int .i64 k.height, .int .i64 k.time, .slice o1 k.root.length c1, .slice o2 k.next.length c2] from fun wx hx => hr0.below hx hr0.lt)
  have HRY := hid (show ∀ wx, Below w0.heap.size w0 wx → Row wx (w.heap.size + 1) 93 [.int .i64 0, .int .i64 0, .slice none 0 0, .slice none 0 0] from fun wx hx => hr1.below hx hr1.lt)
  have HBD := hid (show Below w0.heap.size w0 w0.drew from (Below.refl _ _).drew)
  obtain ⟨⟨y0, y1, y2, y3⟩, z0, z1, z2, z3⟩ := hr0.four
  have HW0 := hid hw0
  clear h1 h2 hb0 hr0 hr1 hw0
  go_enter Tryz.func128, Tryz.ntmps128
  go_wp2_with fail
  rw [HW0.out]
  go_region_with (first
    | (go_at_call_of 34 (Value.slice o1 k.root.length c1); refine (HCK.out _ HBD.out).mono ?_; rintro e w6 ⟨hb6, v6, rfl, hown6⟩; obtain ⟨o6, c6, rfl, hc6⟩ := hown6.shape; have HB6 := hid (HBD.out.trans hb6); have HK6 := hid hown6; obtain ⟨⟨x0, x1, x2, x3⟩, _⟩ := (HRX.out _ HB6.out).four; clear hb6 hown6 hc6)
    | (go_at_call_of 34 (Value.slice o2 k.next.length c2); refine (HCV.out _ HB6.out).mono ?_; rintro e w7 ⟨hb7, v7, rfl, hown7⟩; obtain ⟨o7, c7, rfl, hc7⟩ := hown7.shape; have HB7 := hid (HB6.out.trans (hb7.mono HB6.out.size)); have HK7 := hid (show OwnB w7 w0.heap.size (.slice o6 k.root.length c6) k.root from ownsRow_belowR HK6.out hb7); have HV7 := hid hown7; have HR7 := hid (HRX.out w7 HB7.out); have HRR7 := hid (HRY.out w7 HB7.out); obtain ⟨⟨t0, t1, t2, t3⟩, s0, s1, s2, s3⟩ := HR7.out.four; clear hb7 hown7 hc7))
  all_goals
    obtain ⟨w8, hw8⟩ : ∃ w8, (w7.setCell ⟨w.heap.size, 2, none⟩ (.slice o6 k.root.length c6)).setCell ⟨w.heap.size, 3, none⟩ (.slice o7 k.next.length c7) = w8 := ⟨_, rfl⟩
    have hlt := HR1.out.lt
    have hr8 : Row w8 w.heap.size 93 [.int .i64 k.height, .int .i64 k.time, .slice o6 k.root.length c6, .slice o7 k.next.length c7] := by rw [← hw8]; exact (HR7.out.set 2 _).set 3 _
    have hz8 : Row w8 (w.heap.size + 1) 93 [.int .i64 0, .int .i64 0, .slice none 0 0, .slice none 0 0] := by rw [← hw8]; exact (HRR7.out.other _ (by simp)).other _ (by simp)
    have hb8 : Below w.heap.size w w8 := by rw [← hw8]; exact ((HB0.out.trans (HB7.out.mono HB0.out.size)).setCell (Nat.le_refl _) _).setCell (Nat.le_refl _) _
    have hot : ∀ g, w0.heap.size ≤ g → w8.heap[g]? = w7.heap[g]? := fun g hg => by rw [← hw8, heap_setCell_other _ _ _ _ (by simp only; omega), heap_setCell_other _ _ _ _ (by simp only; omega)]
    have HK8 := hid (HK7.out.keep hot)
    have HV8 := hid (HV7.out.keep (fun g hg => hot g (Nat.le_trans HB6.out.size hg)))
    have HZ8 := hid hz8
    have HB8 := hid hb8
    rw [hw8]
    obtain ⟨⟨p0, p1, p2, p3⟩, _⟩ := hr8.four
    obtain ⟨⟨q0, q1, q2, q3⟩, v0, v1, v2, v3⟩ := hz8.four
    clear hw8 hr8 hz8 hb8 hot
    go_wp2
    have hrz := set4_row HZ8.out (.int .i64 k.height) (.int .i64 k.time) (.slice o6 k.root.length c6) (.slice o7 k.next.length c7)
    obtain ⟨⟨u0, u1, u2, u3⟩, _⟩ := hrz.four
    have hbz := set4_below HB8.out (show w.heap.size ≤ w.heap.size + 1 by omega) (.int .i64 k.height) (.int .i64 k.time) (.slice o6 k.root.length c6) (.slice o7 k.next.length c7)
    have hoz := set4_other w8 (w.heap.size + 1) (.int .i64 k.height) (.int .i64 k.time) (.slice o6 k.root.length c6) (.slice o7 k.next.length c7)
    have hk := (HK8.out.keep (fun g hg => hoz g (by omega))).mono HB0.out.size
    have hv := (HV8.out.keep (fun g hg => hoz g (by have := HB6.out.size; omega))).mono (Nat.le_trans HB0.out.size HB6.out.size)
    unfold set4 at u0 u1 u2 u3
    exact bodyPost_ret (v := .agg #[.int .i64 k.height, .int .i64 k.time, .slice o6 k.root.length c6, .slice o7 k.next.length c7]) (by simp [results, Tryz.results128, go_sem, u0, u1, u2, u3]) rfl ⟨hbz, o6, c6, o7, c7, rfl, hk, hv⟩
end Go.Proofs.YtclhcjiblfokaaaGreatDoor
namespace Go.Proofs.YtclhcjiblfokaaaGreatDoor
open Go.RowKit

set_option maxHeartbeats 1000000 in
theorem trusts_any (c : Cl) (k : Kn) (now : Int) (cv v : Value) (N : Nat) (w : World) (hc : ClV w N cv c) (hv : KnV w N v k) (h1 : 0 ≤ now ∧ now ≤ 1000000000000) (h2 : 0 ≤ k.time ∧ k.time ≤ 1000000000000) :
    Calls Tryz.prog 165 #[cv, v, .int .i64 now] w fun e w' => e = .returned (.bool (decide (now - k.time < c.trust))) ∧ Below w.heap.size w w' := by
  obtain ⟨kv, rfl, hk⟩ := hc
  obtain ⟨oa, ca, rfl, _⟩ := hk.shape
  obtain ⟨rv, nv, rfl, g1, g2⟩ := hv
  obtain ⟨o1, c1, rfl, _⟩ := g1.shape
  obtain ⟨o2, c2, rfl, _⟩ := g2.shape
  clear hk g1 g2
  have hw : IntKind.i64.wrap (now - k.time) = now - k.time := by rw [IntKind.wrap_i64]; omega
  obtain ⟨w0, hw0⟩ : ∃ w0, (w.alloc (.cells #[.string c.chain, .int .i64 c.trust, .bool c.frozen, .slice oa c.known.length ca] 79)).alloc (.cells #[.int .i64 k.height, .int .i64 k.time, .slice o1 k.root.length c1, .slice o2 k.next.length c2] 93) = w0 := ⟨_, rfl⟩
  have HB0 := hid (show Below w.heap.size w w0 by rw [← hw0]; exact ((Below.refl _ _).alloc (Nat.le_refl _) _).alloc (by simp) _)
  have hr0 : Row w0 w.heap.size 79 [.string c.chain, .int .i64 c.trust, .bool c.frozen, .slice oa c.known.length ca] := by rw [← hw0]; exact (Row.new _ _ _).alloc _
  have hr1 : Row w0 (w.heap.size + 1) 93 [.int .i64 k.height, .int .i64 k.time, .slice o1 k.root.length c1, .slice o2 k.next.length c2] := by
    rw [← hw0]
    have := Row.new (w.alloc (.cells #[.string c.chain, .int .i64 c.trust, .bool c.frozen, .slice oa c.known.length ca] 79)) 93 [.int .i64 k.height, .int .i64 k.time, .slice o1 k.root.length c1, .slice o2 k.next.length c2]
    simp only [World.size_alloc] at this
    exact this
  have k1 := hr0.cell 1
  have k2 := hr1.cell 1
  have HW0 := hid hw0
  clear hr0 hr1 hw0
  go_enter Tryz.func165, Tryz.ntmps165
  go_wp2
  go_ret
  rw [HW0.out]
  exact ⟨by first | done | rfl, HB0.out⟩
/-- what Active is to answer -/
def ActiveC (f : FuncId) : Prop := ∀ (c : Cl) (now : Int) (v : Value) (N : Nat) (w : World), ClV w N v c → N ≤ w.heap.size → wrongCl c = 0 → 0 ≤ now ∧ now ≤ 1000000000000 →
  Calls Tryz.prog f #[v, .int .i64 now] w fun e w' => e = .returned (.bool (activeB c now)) ∧ Below w.heap.size w w'
theorem activeB_frozen {c : Cl} (now : Int) (h : c.frozen = true) : activeB c now = false := by unfold activeB; rw [h]; rfl
theorem activeB_last {c : Cl} {now : Int} {k : Kn} {n : Nat} (h : c.frozen = false) (hn : c.known.length = n + 1) (hk : c.known[n]? = some k) : activeB c now = decide (now - k.time < c.trust) := by
  unfold activeB
  rw [h, List.getLast?_eq_getElem?, hn, Nat.add_sub_cancel, hk]
  rfl
set_option maxRecDepth 100000 in
set_option maxHeartbeats 4000000 in
theorem activeC : ActiveC 139 := by
  intro c now v N w hv hN hc hnow
  have HCV := hid hv
  obtain ⟨kv, rfl, hk⟩ := hv
  obtain ⟨oa, ca, rfl, hca⟩ := hk.shape
  obtain ⟨w0, hw0⟩ : ∃ w0, w.alloc (.cells #[.string c.chain, .int .i64 c.trust, .bool c.frozen, .slice oa c.known.length ca] 79) = w0 := ⟨_, rfl⟩
  have hb0 : Below w.heap.size w w0 := by rw [← hw0]; exact (Below.refl _ _).alloc (Nat.le_refl _) _
  have HB0 := hid hb0
  have hr0 : Row w0 w.heap.size 79 [.string c.chain, .int .i64 c.trust, .bool c.frozen, .slice oa c.known.length ca] := by rw [← hw0]; exact Row.new _ _ _
  obtain ⟨⟨y0, y1, y2, y3⟩, _⟩ := hr0.four
  have HR0 := hid hr0
  cases hfz : c.frozen with
  | true =>
    have HA := hid (activeB_frozen now hfz)
    rw [hfz] at y2
    have HW0 := hid hw0
    rw [hfz] at HW0
    clear hw0 hb0 hk hr0 hfz
    go_enter Tryz.func139, Tryz.ntmps139
    go_wp2_with fail
    rw [HW0.out]
    go_quiet (fail)
    go_wp2
    go_ret
    exact ⟨by rw [HA.out]; first | done | rfl, HB0.out.trans (below_drewH _ _ _)⟩
  | false =>
    obtain ⟨_, _, ⟨hn1, hn2⟩, hall, _⟩ := (wrongCl_iff c).1 hc
    obtain ⟨n, hn⟩ : ∃ n, c.known.length = n + 1 := ⟨c.known.length - 1, by omega⟩
    obtain ⟨x, hx⟩ : ∃ x, c.known[n]? = some x := ⟨c.known[n]'(by omega), List.getElem?_eq_getElem _⟩
    have hxt := ((wrongK_iff x).1 (hall x (List.mem_of_getElem? hx))).1
    obtain ⟨b, o, rfl, hcells⟩ := hk.spot (by omega)
    obtain ⟨hbN, vr, vn, d0, d1, d2, d3, b2, b3⟩ := hcells n x hx
    obtain ⟨o2, c2, rfl, _⟩ := b2.shape
    obtain ⟨o3, c3, rfl, _⟩ := b3.shape
    have hbl : b < w.heap.size := by omega
    have f0 := (hb0.cell (p := ⟨b, o + n * 4, none⟩) hbl).trans d0
    have f1 := (hb0.cell (p := ⟨b, o + n * 4 + 1, none⟩) hbl).trans d1
    have f2 := (hb0.cell (p := ⟨b, o + n * 4 + 2, none⟩) hbl).trans d2
    have f3 := (hb0.cell (p := ⟨b, o + n * 4 + 3, none⟩) hbl).trans d3
    have HA := hid (activeB_last (now := now) hfz hn hx)
    have HTR := hid (show ∀ wx, Below w0.heap.size w0 wx → Calls Tryz.prog 165 #[.agg #[.string c.chain, .int .i64 c.trust, .bool false, .slice (some ⟨b, o, none⟩) (n + 1) ca], .agg #[.int .i64 x.height, .int .i64 x.time, .slice o2 x.root.length c2, .slice o3 x.next.length c3], .int .i64 now] wx fun e w' => e = .returned (.bool (decide (now - x.time < c.trust))) ∧ Below wx.heap.size wx w' from fun wx hx => by
      have hbx := (hb0.trans (hx.mono hb0.size)).mono hN
      have hq : ClV wx N (.agg #[.string c.chain, .int .i64 c.trust, .bool false, .slice (some ⟨b, o, none⟩) (n + 1) ca]) c := by rw [← hfz, ← hn]; exact HCV.out.below hbx
      exact trusts_any c x now _ _ N wx hq ⟨_, _, rfl, b2.below hbx, b3.below hbx⟩ hnow (by omega))
    rw [hfz] at y2
    rw [hn] at y3
    have HW0 := hid hw0
    rw [hfz, hn] at HW0
    rw [hn]
    have e1 : decide ((0 : Int) < ((n + 1 : Nat) : Int)) = true := decide_eq_true (by omega)
    have hj1 : ((n + 1 : Nat) : Int) - 1 = (n : Int) := by omega
    have hj2 : IntKind.i64.wrap (((n + 1 : Nat) : Int) - 1) = (n : Int) := by rw [hj1, IntKind.wrap_i64]; omega
    have hjn : (n : Int) < ((n + 1 : Nat) : Int) := by omega
    have HBD := hid (show Below w0.heap.size w0 w0.drew from (Below.refl _ _).drew)
    generalize hm : n + 1 = m at *
    have e1b : decide (0 < m) = true := decide_eq_true (by omega)
    have e1c : (0 : Int) < (m : Int) := by omega
    have e1d : 0 < m := by omega
    have HM := hid hm
    clear hw0 hb0 hk hr0 hfz hcells d0 d1 d2 d3 b2 b3 hall hn hx hxt hn1 hn2 hm hj1
    go_enter Tryz.func139, Tryz.ntmps139
    go_wp2_with fail
    rw [HW0.out]
    have HLT := hid HR0.out.lt
    have HBC := hid (show ∀ wx, Below w0.heap.size w0 wx → ((wx.cell? ⟨w.heap.size, 0, none⟩ = some (.string c.chain) ∧ wx.cell? ⟨w.heap.size, 1, none⟩ = some (.int .i64 c.trust)) ∧ (wx.cell? ⟨w.heap.size, 2, none⟩ = some (.bool false) ∧ wx.cell? ⟨w.heap.size, 3, none⟩ = some (.slice (some ⟨b, o, none⟩) m ca))) ∧ ((wx.cell? ⟨b, o + n * 4, none⟩ = some (.int .i64 x.height) ∧ wx.cell? ⟨b, o + n * 4 + 1, none⟩ = some (.int .i64 x.time)) ∧ (wx.cell? ⟨b, o + n * 4 + 2, none⟩ = some (.slice o2 x.root.length c2) ∧ wx.cell? ⟨b, o + n * 4 + 3, none⟩ = some (.slice o3 x.next.length c3))) from fun wx hx => ⟨⟨⟨(hx.cell (p := ⟨w.heap.size, 0, none⟩) HLT.out).trans y0, (hx.cell (p := ⟨w.heap.size, 1, none⟩) HLT.out).trans y1⟩, (hx.cell (p := ⟨w.heap.size, 2, none⟩) HLT.out).trans y2, (hx.cell (p := ⟨w.heap.size, 3, none⟩) HLT.out).trans y3⟩, ⟨(hx.cell (p := ⟨b, o + n * 4, none⟩) (Nat.lt_trans hbl HLT.out)).trans f0, (hx.cell (p := ⟨b, o + n * 4 + 1, none⟩) (Nat.lt_trans hbl HLT.out)).trans f1⟩, (hx.cell (p := ⟨b, o + n * 4 + 2, none⟩) (Nat.lt_trans hbl HLT.out)).trans f2, (hx.cell (p := ⟨b, o + n * 4 + 3, none⟩) (Nat.lt_trans hbl HLT.out)).trans f3⟩)
    have s0 : ((w0.cell? ⟨w.heap.size, 0, none⟩ = some (.string c.chain) ∧ w0.cell? ⟨w.heap.size, 1, none⟩ = some (.int .i64 c.trust)) ∧ (w0.cell? ⟨w.heap.size, 2, none⟩ = some (.bool false) ∧ w0.cell? ⟨w.heap.size, 3, none⟩ = some (.slice (some ⟨b, o, none⟩) m ca))) ∧ ((w0.cell? ⟨b, o + n * 4, none⟩ = some (.int .i64 x.height) ∧ w0.cell? ⟨b, o + n * 4 + 1, none⟩ = some (.int .i64 x.time)) ∧ (w0.cell? ⟨b, o + n * 4 + 2, none⟩ = some (.slice o2 x.root.length c2) ∧ w0.cell? ⟨b, o + n * 4 + 3, none⟩ = some (.slice o3 x.next.length c3))) := ⟨⟨⟨y0, y1⟩, y2, y3⟩, ⟨f0, f1⟩, f2, f3⟩
    have s1 : ((w0.drew.cell? ⟨w.heap.size, 0, none⟩ = some (.string c.chain) ∧ w0.drew.cell? ⟨w.heap.size, 1, none⟩ = some (.int .i64 c.trust)) ∧ (w0.drew.cell? ⟨w.heap.size, 2, none⟩ = some (.bool false) ∧ w0.drew.cell? ⟨w.heap.size, 3, none⟩ = some (.slice (some ⟨b, o, none⟩) m ca))) ∧ ((w0.drew.cell? ⟨b, o + n * 4, none⟩ = some (.int .i64 x.height) ∧ w0.drew.cell? ⟨b, o + n * 4 + 1, none⟩ = some (.int .i64 x.time)) ∧ (w0.drew.cell? ⟨b, o + n * 4 + 2, none⟩ = some (.slice o2 x.root.length c2) ∧ w0.drew.cell? ⟨b, o + n * 4 + 3, none⟩ = some (.slice o3 x.next.length c3))) := s0
    go_region_held3 (fun W => ((W.cell? ⟨w.heap.size, 0, none⟩ = some (.string c.chain) ∧ W.cell? ⟨w.heap.size, 1, none⟩ = some (.int .i64 c.trust)) ∧ (W.cell? ⟨w.heap.size, 2, none⟩ = some (.bool false) ∧ W.cell? ⟨w.heap.size, 3, none⟩ = some (.slice (some ⟨b, o, none⟩) m ca))) ∧ ((W.cell? ⟨b, o + n * 4, none⟩ = some (.int .i64 x.height) ∧ W.cell? ⟨b, o + n * 4 + 1, none⟩ = some (.int .i64 x.time)) ∧ (W.cell? ⟨b, o + n * 4 + 2, none⟩ = some (.slice o2 x.root.length c2) ∧ W.cell? ⟨b, o + n * 4 + 3, none⟩ = some (.slice o3 x.next.length c3)))) (first | assumption) (first
      | (go_at_call 165; refine (HTR.out _ HBD.out).mono ?_; rintro e w5 ⟨rfl, hb5⟩; have HB5 := hid (HB0.out.trans ((HBD.out.trans hb5).mono HB0.out.size)); have s5 := HBC.out w5 (HBD.out.trans hb5); clear hb5))
    all_goals
      go_wp2
      go_ret
      exact ⟨by rw [HA.out]; first | done | rfl, HB5.out⟩
/-- what is asked first -/
def AskedC (f : FuncId) : Prop := ∀ (c : Cl) (now : Int) (v : Value) (N : Nat) (w : World), ClV w N v c → N ≤ w.heap.size → c.fits →
  Calls Tryz.prog f #[v, .int .i64 now] w fun e w' => e = .returned (.int .i64 (askedN c now)) ∧ Below w.heap.size w w'
theorem askedN_wrong {c : Cl} {now : Int} (h : wrongCl c ≠ 0) : askedN c now = wrongCl c := by unfold askedN; rw [if_pos h]
theorem askedN_range {c : Cl} {now : Int} (h : wrongCl c = 0) (h2 : now < 0 ∨ 1000000000000 < now) : askedN c now = 3 := by unfold askedN; rw [if_neg (by omega), if_pos h2]
set_option maxRecDepth 100000 in
set_option maxHeartbeats 4000000 in
theorem askedC : AskedC 137 := by
  intro c now v N w hv hN hfit
  have HWR := hid (show ∀ wx, Below w.heap.size w wx → _ from fun wx hx => clWrongC c v N wx (hv.below (hx.mono hN)) (Nat.le_trans hN hx.size) hfit)
  obtain ⟨kv, rfl, hk⟩ := hv
  obtain ⟨oa, ca, rfl, hca⟩ := hk.shape
  obtain ⟨w0, hw0⟩ : ∃ w0, w.alloc (.cells #[.string c.chain, .int .i64 c.trust, .bool c.frozen, .slice oa c.known.length ca] 79) = w0 := ⟨_, rfl⟩
  have hb0 : Below w.heap.size w w0 := by rw [← hw0]; exact (Below.refl _ _).alloc (Nat.le_refl _) _
  have HB0 := hid hb0
  have hr0 : Row w0 w.heap.size 79 [.string c.chain, .int .i64 c.trust, .bool c.frozen, .slice oa c.known.length ca] := by rw [← hw0]; exact Row.new _ _ _
  obtain ⟨⟨y0, y1, y2, y3⟩, _⟩ := hr0.four
  have HR0 := hid hr0
  have HW0 := hid hw0
  clear hw0 hb0 hk hr0 hfit
  by_cases hc : wrongCl c = 0
  · have HCZ := hid hc
    by_cases ht : now < 0 ∨ 1000000000000 < now
    · have HTM := hid (timeN_false ht)
      have HA := hid (askedN_range hc ht)
      clear hc ht
      go_enter Tryz.func137, Tryz.ntmps137
      go_wp2_with fail
      rw [HW0.out]
      refine (HWR.out _ HB0.out).mono ?_
      rintro e w1 ⟨rfl, hb1⟩
      rw [HCZ.out]
      have HB1 := hid (HB0.out.trans (hb1.mono HB0.out.size))
      clear hb1
      go_wp2_with (go_at_call 150; refine (isTime_any _ _).mono ?_; rintro e w' ⟨rfl, hw'⟩; obtain rfl := hw'.symm; rw [HTM.out])
      go_ret
      exact ⟨by rw [HA.out]; first | done | rfl, HB1.out⟩
    · have HTM := hid (timeN_true ht)
      by_cases hfz : c.frozen = true
      · have HA := hid (askedN_frozen (now := now) hc (by omega) hfz)
        have HFZ := hid hfz
        clear hc ht hfz
        go_enter Tryz.func137, Tryz.ntmps137
        go_wp2_with fail
        rw [HW0.out]
        refine (HWR.out _ HB0.out).mono ?_
        rintro e w1 ⟨rfl, hb1⟩
        rw [HCZ.out]
        have HB1 := hid (HB0.out.trans (hb1.mono HB0.out.size))
        have r2 := (HR0.out.below hb1 HR0.out.lt).cell 2
        simp only [HFZ.out] at r2
        clear hb1
        go_wp2_with (go_at_call 150; refine (isTime_any _ _).mono ?_; rintro e w' ⟨rfl, hw'⟩; obtain rfl := hw'.symm; rw [HTM.out])
        go_ret
        exact ⟨by rw [HA.out]; first | done | rfl, HB1.out⟩
      · have hfz' : c.frozen = false := by simpa using hfz
        have HA := hid (askedN_of (now := now) hc (by omega) hfz')
        have HFZ := hid hfz'
        clear hc ht hfz hfz'
        go_enter Tryz.func137, Tryz.ntmps137
        go_wp2_with fail
        rw [HW0.out]
        refine (HWR.out _ HB0.out).mono ?_
        rintro e w1 ⟨rfl, hb1⟩
        rw [HCZ.out]
        have HB1 := hid (HB0.out.trans (hb1.mono HB0.out.size))
        have r2 := (HR0.out.below hb1 HR0.out.lt).cell 2
        simp only [HFZ.out] at r2
        clear hb1
        go_wp2_with (go_at_call 150; refine (isTime_any _ _).mono ?_; rintro e w' ⟨rfl, hw'⟩; obtain rfl := hw'.symm; rw [HTM.out])
        go_ret
        exact ⟨by rw [HA.out]; first | done | rfl, HB1.out⟩
  · have HA := hid (askedN_wrong (now := now) hc)
    have e1 : (wrongCl c != 0) = true := by simpa using hc
    clear hc
    generalize wrongCl c = z at *
    go_enter Tryz.func137, Tryz.ntmps137
    go_wp2_with fail
    rw [HW0.out]
    refine (HWR.out _ HB0.out).mono ?_
    rintro e w1 ⟨rfl, hb1⟩
    have HB1 := hid (HB0.out.trans (hb1.mono HB0.out.size))
    clear hb1
    go_wp2
    go_ret
    exact ⟨by rw [HA.out]; first | done | rfl, HB1.out⟩
end Go.Proofs.YtclhcjiblfokaaaGreatDoor
namespace Go.Proofs.YtclhcjiblfokaaaGreatDoor
open Go.RowKit

/-- nothing known, as cells -/
def zKn : List Value := [.int .i64 0, .int .i64 0, .slice none 0 0, .slice none 0 0]
theorem make_known (n : Nat) (w : World) (h : n ≤ 1000) : (Instr.makeSlice 77 (.int .i64 (n : Int)) (.int .i64 (n : Int))).run Tryz.prog w = .ok (.slice (some ⟨w.heap.size, 0, none⟩) n n) (w.alloc (.cells (([] : List KnR).map knRow ++ List.replicate n zKn).flatten.toArray 93)) := by
  obtain ⟨i0, hi0, hz0, hz1, hz2⟩ := info_parts infoKn
  have := run_make (P := Tryz.prog) w 77 93 i0 _ Tryz.underlying77 hi0 hz0 .i64 .i64 (n : Int) (n : Int) (by omega) (by omega) (by rw [hz2]; omega) (by omega)
  have e := madeCells_rows (z := #[.int .i64 0, .int .i64 0, .slice none 0 0, .slice none 0 0]) (k := 4) rfl (by omega) n
  rw [this, hz1, List.map_nil, List.nil_append, show List.replicate n zKn = List.replicate n (#[.int .i64 0, .int .i64 0, .slice none 0 0, .slice none 0 0] : Array Value).toList from rfl, e]
  simp only [Int.toNat_natCast, Value.cells]
/-- what is copied so far: so many of its records, in a row of its own -/
def Copd (l : List Kn) (n G k : Nat) (wr : World) : Prop := ∃ ps : List KnR, ps.length = k ∧ ps.map (·.k) = l.take k ∧ Row wr G 93 (ps.map knRow ++ List.replicate (n - k) zKn).flatten ∧ ∀ q ∈ ps, OwnB wr (G + 1) q.r q.k.root ∧ OwnB wr (G + 1) q.n q.k.next
theorem Copd.below {l : List Kn} {n G k : Nat} {w w' : World} (h : Copd l n G k w) (hg : Below w.heap.size w w') : Copd l n G k w' := by
  obtain ⟨ps, h1, h2, h3, h4⟩ := h
  exact ⟨ps, h1, h2, h3.below hg h3.lt, fun q hq => ⟨ownsRow_belowR (h4 q hq).1 hg, ownsRow_belowR (h4 q hq).2 hg⟩⟩
theorem Copd.cells {l : List Kn} {n G k : Nat} {w : World} (h : Copd l n G k w) (hk : k < n) : w.cell? ⟨G, k * 4, none⟩ = some (.int .i64 0) ∧ w.cell? ⟨G, k * 4 + 1, none⟩ = some (.int .i64 0) ∧ w.cell? ⟨G, k * 4 + 2, none⟩ = some (.slice none 0 0) ∧ w.cell? ⟨G, k * 4 + 3, none⟩ = some (.slice none 0 0) ∧ ∀ j, w.frozen? ⟨G, j, none⟩ = false := by
  obtain ⟨ps, h1, h2, h3, h4⟩ := h
  have hget : (ps.map knRow ++ List.replicate (n - k) zKn)[k]? = some zKn := by
    rw [List.getElem?_append_right (by simp; omega), List.length_map, h1, Nat.sub_self, List.getElem?_replicate, if_pos (by omega)]
  have hlen : ∀ r ∈ ps.map knRow ++ List.replicate (n - k) zKn, r.length = 4 := fun r hr => by
    rcases List.mem_append.1 hr with hr | hr
    · exact knRow_len r hr
    · rw [List.eq_of_mem_replicate hr]; rfl
  have key : ∀ j, j < 4 → w.cell? ⟨G, k * 4 + j, none⟩ = zKn[j]? := fun j hj => by rw [h3.cell, flatten_get _ k j zKn hlen hget hj]
  exact ⟨key 0 (by omega), key 1 (by omega), key 2 (by omega), key 3 (by omega), fun j => h3.frozen j⟩
theorem Copd.keep {l : List Kn} {n G k : Nat} {w w' : World} (h : Copd l n G k w) (hk : ∀ g, G ≤ g → w'.heap[g]? = w.heap[g]?) : Copd l n G k w' := by
  obtain ⟨ps, h1, h2, h3, h4⟩ := h
  refine ⟨ps, h1, h2, ?_, fun q hq => ⟨(h4 q hq).1.keep (fun g hg => hk g (by omega)), (h4 q hq).2.keep (fun g hg => hk g (by omega))⟩⟩
  unfold Row at *
  rw [hk G (Nat.le_refl _), h3]
/-- one more is written -/
theorem Copd.next {l : List Kn} {n G k : Nat} {w : World} {x : Kn} {rv nv : Value} (h : Copd l n G k w) (hx : l[k]? = some x) (hk : k < n) (h1 : OwnB w (G + 1) rv x.root) (h2 : OwnB w (G + 1) nv x.next) :
    Copd l n G (k + 1) (w.setCells G (k * 4) [.int .i64 x.height, .int .i64 x.time, rv, nv]) := by
  obtain ⟨ps, g1, g2, g3, g4⟩ := h
  have hgr := grown_setCells G [.int .i64 x.height, .int .i64 x.time, rv, nv] (k * 4) w
  have keep : ∀ {v : Value} {b : List (BitVec 8)}, OwnB w (G + 1) v b → OwnB (w.setCells G (k * 4) [.int .i64 x.height, .int .i64 x.time, rv, nv]) (G + 1) v b := fun {v b} ho => by
    obtain ⟨e1, e2⟩ := ho
    refine ⟨e1, ?_⟩
    rcases e2 with e2 | ⟨g, cap, cur, e3, e4, e5, e6⟩
    · exact .inl e2
    · exact .inr ⟨g, cap, cur, e3, e4, (hgr.block g (Array.getElem?_eq_some_iff.1 e5).1 (by simp; omega)).trans e5, e6⟩
  refine ⟨ps ++ [⟨x, rv, nv⟩], by simp [g1], ?_, ?_, fun q hq => ?_⟩
  · obtain ⟨hl, rfl⟩ := List.getElem?_eq_some_iff.1 hx
    rw [List.map_append, g2, List.take_succ_eq_append_getElem hl]
    rfl
  · have hlen : (ps.map knRow ++ List.replicate (n - k) zKn).flatten.length = n * 4 := by
      rw [flat_lenR (k := 4)]
      · simp [g1]; omega
      · intro r hr
        rcases List.mem_append.1 hr with hr | hr
        · exact knRow_len r hr
        · rw [List.eq_of_mem_replicate hr]; rfl
    have := Row.setCells [.int .i64 x.height, .int .i64 x.time, rv, nv] (k * 4) w _ g3 (by rw [hlen]; simp; omega)
    have e := putL_next (ps := ps.map knRow) (k := 4) (m := n - (k + 1)) (z := zKn) (r := [.int .i64 x.height, .int .i64 x.time, rv, nv]) knRow_len rfl rfl
    rw [List.length_map, g1, show n - (k + 1) + 1 = n - k by omega] at e
    rw [e] at this
    rw [List.map_append]
    exact this
  · rcases List.mem_append.1 hq with hq | hq
    · exact ⟨keep (g4 q hq).1, keep (g4 q hq).2⟩
    · obtain rfl : q = ⟨x, rv, nv⟩ := by simpa using hq
      exact ⟨keep h1, keep h2⟩
/-- all of it -/
theorem Copd.all {l : List Kn} {n G base : Nat} {w : World} (h : Copd l n G n w) (hn : l.length = n) (hm : n ≤ 1000) (hb : base ≤ G) : ∃ ps, OwnKn w base (.slice (some ⟨G, 0, none⟩) n n) ps ∧ ps.map (·.k) = l := by
  obtain ⟨ps, g1, g2, g3, g4⟩ := h
  rw [Nat.sub_self, List.replicate_zero, List.append_nil] at g3
  have hok : ∀ r ∈ ps.map knRow, okKn r := fun r hr => by
    obtain ⟨q, hq, rfl⟩ := List.mem_map.1 hr
    exact KnR.ok.row (w := w) (N := w.heap.size) ⟨(g4 q hq).1.bytes, (g4 q hq).2.bytes⟩
  have hfl := flatKn_len hok
  rw [List.length_map, g1] at hfl
  refine ⟨ps, ⟨RowKn.of_row hok hb g3 (by simp [g1]) (Nat.le_refl _) (by unfold maxLen; omega) hfl (by rw [← hfl, List.take_length]), fun q hq => ⟨(g4 q hq).1.mono (by omega), (g4 q hq).2.mono (by omega)⟩⟩, ?_⟩
  rw [g2, List.take_of_length_le (by omega)]
set_option maxRecDepth 100000 in
set_option maxHeartbeats 4000000 in
theorem copiedCl_any (c : Cl) (v : Value) (N : Nat) (w : World) (hv : ClV w N v c) (hN : N ≤ w.heap.size) (hfit : c.fits) (h30 : c.known.length ≤ 1000) :
    Calls Tryz.prog 85 #[v] w fun e w' => Below w.heap.size w w' ∧ ∃ o m ps, e = .returned (.agg #[.string c.chain, .int .i64 c.trust, .bool c.frozen, .slice o ps.length m]) ∧ OwnKn w' w.heap.size (.slice o ps.length m) ps ∧ ps.map (·.k) = c.known := by
  obtain ⟨kv, rfl, hk⟩ := hv
  obtain ⟨oa, ca, rfl, hca⟩ := hk.shape
  have HK := hid hk
  have HFT := hid hfit.2.2
  clear hk hfit
  obtain ⟨w0, hw0⟩ : ∃ w0, (w.alloc (.cells #[.string c.chain, .int .i64 c.trust, .bool c.frozen, .slice oa c.known.length ca] 79)).alloc (.cells #[.string ⟨#[]⟩, .int .i64 0, .bool false, .slice none 0 0] 79) = w0 := ⟨_, rfl⟩
  have hsz0 : w0.heap.size = w.heap.size + 1 + 1 := by rw [← hw0]; simp
  have hb0 : Below w.heap.size w w0 := by rw [← hw0]; exact ((Below.refl _ _).alloc (Nat.le_refl _) _).alloc (by simp) _
  have hr0 : Row w0 w.heap.size 79 [.string c.chain, .int .i64 c.trust, .bool c.frozen, .slice oa c.known.length ca] := by rw [← hw0]; exact (Row.new _ _ _).alloc _
  have hr1 : Row w0 (w.heap.size + 1) 79 [.string ⟨#[]⟩, .int .i64 0, .bool false, .slice none 0 0] := by
    rw [← hw0]
    have := Row.new (w.alloc (.cells #[.string c.chain, .int .i64 c.trust, .bool c.frozen, .slice oa c.known.length ca] 79)) 79 [.string ⟨#[]⟩, .int .i64 0, .bool false, .slice none 0 0]
    simp only [World.size_alloc] at this
    exact this
  have HN := hid (show c.known.length = c.known.length from rfl)
  generalize hl : c.known = l at *
  have HL := hid hl
  clear hl
  generalize hnn : l.length = n at *
  have HNN := hid hnn
  clear hnn HN
  have hmk := make_known n w0 h30
  obtain ⟨w1, hw1⟩ : ∃ w1, w0.alloc (.cells (([] : List KnR).map knRow ++ List.replicate n zKn).flatten.toArray 93) = w1 := ⟨_, rfl⟩
  rw [hw1, hsz0] at hmk
  have hb1 : Below w0.heap.size w0 w1 := by rw [← hw1]; exact (Below.refl _ _).alloc (Nat.le_refl _) _
  have HC1 := hid (show Copd l n (w.heap.size + 1 + 1) 0 w1 from ⟨[], rfl, rfl, by rw [← hw1, ← hsz0, Nat.sub_zero]; exact Row.new _ _ _, fun q hq => by cases hq⟩)
  have HB1 := hid (hb0.trans (hb1.mono hb0.size))
  have HR0 := hid (hr0.below hb1 hr0.lt)
  have HR1 := hid (hr1.below hb1 hr1.lt)
  have HQ0 := hid hr0
  obtain ⟨⟨y0, y1, y2, y3⟩, _⟩ := hr0.four
  obtain ⟨⟨x0, x1, x2, x3⟩, _⟩ := HR0.out.four
  have HW0 := hid hw0
  have HSZ1 := hid (show w1.heap.size = w.heap.size + 1 + 1 + 1 by rw [← hw1]; simp [hsz0])
  clear hw0 hb0 hr0 hr1 hw1 hb1 hsz0
  go_enter Tryz.func85, Tryz.ntmps85
  go_wp2_with fail
  rw [HW0.out, hmk]
  go_wp2_with fail
  go_loopw [4, 5, 13] (fun _ _ i wr => ∃ k : Nat, k ≤ n ∧ i = .int .i64 (k : Int) ∧ Hid (Below w1.heap.size w1 wr ∨ True) ∧ Hid (Copd l n (w.heap.size + 1 + 1) k wr ∧ Row wr w.heap.size 79 [.string c.chain, .int .i64 c.trust, .bool c.frozen, .slice oa n ca] ∧ Row wr (w.heap.size + 1) 79 [.string ⟨#[]⟩, .int .i64 0, .bool false, .slice none 0 0] ∧ Below w.heap.size w wr)) (fun _ _ i _ => n - (intOf i).toNat)
  case atStart => exact ⟨0, by omega, rfl, hid (.inr trivial), hid ⟨HC1.out, HR0.out, HR1.out, HB1.out⟩⟩
  case round =>
    obtain ⟨k, hk, rfl, _, HT⟩ := hrel
    have hszr := HT.out.2.2.2.size
    have HCD := hid HT.out.1
    have HRA := hid HT.out.2.1
    have HRB := hid HT.out.2.2.1
    have HBR := hid HT.out.2.2.2
    have hlt1 := HRB.out.lt
    have HGL := hid (show w.heap.size + 1 + 1 < wr.heap.size by obtain ⟨_, _, _, h, _⟩ := HCD.out; exact h.lt)
    by_cases hlt : k < n
    · obtain ⟨x, hx⟩ : ∃ x, l[k]? = some x := ⟨l[k]'(by rw [HNN.out]; exact hlt), List.getElem?_eq_getElem _⟩
      obtain ⟨b, o, rfl, hcells⟩ := HK.out.spot (by omega)
      obtain ⟨hbN, vr, vn, d0, d1, d2, d3, b2, b3⟩ := hcells k x hx
      obtain ⟨o2, c2, rfl, _⟩ := b2.shape
      obtain ⟨o3, c3, rfl, _⟩ := b3.shape
      have hbl : b < w.heap.size := by omega
      have f0 := (HBR.out.cell (p := ⟨b, o + k * 4, none⟩) hbl).trans d0
      have f1 := (HBR.out.cell (p := ⟨b, o + k * 4 + 1, none⟩) hbl).trans d1
      have f2 := (HBR.out.cell (p := ⟨b, o + k * 4 + 2, none⟩) hbl).trans d2
      have f3 := (HBR.out.cell (p := ⟨b, o + k * 4 + 3, none⟩) hbl).trans d3
      have hlt' : (k : Int) < (n : Int) := by omega
      obtain ⟨w2, hw2⟩ : ∃ w2, wr.alloc (.cells #[.int .i64 x.height, .int .i64 x.time, .slice o2 x.root.length c2, .slice o3 x.next.length c3] 93) = w2 := ⟨_, rfl⟩
      have hb2 : Below wr.heap.size wr w2 := by rw [← hw2]; exact (Below.refl _ _).alloc (Nat.le_refl _) _
      have hr2 : Row w2 wr.heap.size 93 [.int .i64 x.height, .int .i64 x.time, .slice o2 x.root.length c2, .slice o3 x.next.length c3] := by rw [← hw2]; exact Row.new _ _ _
      obtain ⟨⟨q0, q1, q2, q3⟩, _⟩ := hr2.four
      have HB2 := hid (HBR.out.trans (hb2.mono HBR.out.size))
      have HCP := hid (copiedKnown_any x (.agg #[.int .i64 x.height, .int .i64 x.time, .slice o2 x.root.length c2, .slice o3 x.next.length c3]) N w2 ⟨_, _, rfl, b2.below (HB2.out.mono hN), b3.below (HB2.out.mono hN)⟩ (Nat.le_trans hN HB2.out.size) (HFT.out x (List.mem_of_getElem? hx)))
      have HQ2 := hid hb2
      have HW2 := hid hw2
      have HX := hid hx
      clear hcells d0 d1 d2 d3 b2 b3 hb2 hr2 hw2 hx HT
      go_wp2_with fail
      rw [HW2.out]
      go_wp2_with fail
      refine HCP.out.mono ?_
      rintro e w3 ⟨hb3, o4, c4, o5, c5, rfl, hx4, hx5⟩
      have HQ3 := hid (HQ2.out.trans (hb3.mono HQ2.out.size))
      have HB3 := hid (HB2.out.trans (hb3.mono HB2.out.size))
      have HCD3 := hid (HCD.out.below HQ3.out)
      have HRA3 := hid (HRA.out.below HQ3.out HRA.out.lt)
      have HRB3 := hid (HRB.out.below HQ3.out HRB.out.lt)
      have HO4 := hid (hx4.mono (show w.heap.size + 1 + 1 + 1 ≤ w2.heap.size by have := HQ2.out.size; have := HGL.out; omega))
      have HO5 := hid (hx5.mono (show w.heap.size + 1 + 1 + 1 ≤ w2.heap.size by have := HQ2.out.size; have := HGL.out; omega))
      obtain ⟨t0, t1, t2, t3, tz⟩ := HCD3.out.cells hlt
      have z0 := tz (k * 4)
      have z1 := tz (k * 4 + 1)
      have z2 := tz (k * 4 + 2)
      have z3 := tz (k * 4 + 3)
      clear hb3 hx4 hx5 tz q0 q1 q2 q3 f0 f1 f2 f3
      go_wp2
      go_roundw
      case rel =>
        refine ⟨k + 1, by omega, by go_num, hid (.inr trivial), hid ⟨HCD3.out.next HX.out hlt HO4.out HO5.out, ?_, ?_, ?_⟩⟩
        · exact (((HRA3.out.other _ (by simp only; omega)).other _ (by simp only; omega)).other _ (by simp only; omega)).other _ (by simp only; omega)
        · exact (((HRB3.out.other _ (by simp only; omega)).other _ (by simp only; omega)).other _ (by simp only; omega)).other _ (by simp only; omega)
        · have hge : w.heap.size ≤ w.heap.size + 1 + 1 := by omega
          exact (((HB3.out.setCell hge _).setCell hge _).setCell hge _).setCell hge _
      case measure => simp [intOf]; omega
    · have hge : decide ((k : Int) < (n : Int)) = false := by simp; omega
      obtain rfl : k = n := by omega
      obtain ⟨⟨p0, p1, p2, p3⟩, e0, e1, e2, e3⟩ := HRA.out.four
      obtain ⟨⟨r0, r1, r2, r3⟩, g0, g1, g2, g3⟩ := HRB.out.four
      clear HT x0 x1 x2 x3 y0 y1 y2 y3
      go_wp2_with fail
      have hrz := set4_row (HRB.out.other (a := ⟨w.heap.size, 3, none⟩) (.slice (some ⟨w.heap.size + 1 + 1, 0, none⟩) k k) (by simp only; omega)) (.string c.chain) (.int .i64 c.trust) (.bool c.frozen) (.slice (some ⟨w.heap.size + 1 + 1, 0, none⟩) k k)
      obtain ⟨⟨u0, u1, u2, u3⟩, _⟩ := hrz.four
      have hbz := set4_below (HBR.out.setCell (p := ⟨w.heap.size, 3, none⟩) (Nat.le_refl _) (.slice (some ⟨w.heap.size + 1 + 1, 0, none⟩) k k)) (show w.heap.size ≤ w.heap.size + 1 by omega) (.string c.chain) (.int .i64 c.trust) (.bool c.frozen) (.slice (some ⟨w.heap.size + 1 + 1, 0, none⟩) k k)
      have hoz := set4_other (wr.setCell ⟨w.heap.size, 3, none⟩ (.slice (some ⟨w.heap.size + 1 + 1, 0, none⟩) k k)) (w.heap.size + 1) (.string c.chain) (.int .i64 c.trust) (.bool c.frozen) (.slice (some ⟨w.heap.size + 1 + 1, 0, none⟩) k k)
      obtain ⟨ps, hown, hps⟩ := (HCD.out.keep (fun g hg => (hoz g (by omega)).trans (heap_setCell_other _ _ _ _ (by simp only; omega)))).all HNN.out h30 (show w.heap.size ≤ w.heap.size + 1 + 1 by omega)
      have hpl : ps.length = k := by have := congrArg List.length hps; rw [List.length_map, HNN.out] at this; exact this
      unfold set4 at u0 u1 u2 u3
      refine bodyPost_ret (v := .agg #[.string c.chain, .int .i64 c.trust, .bool c.frozen, .slice (some ⟨w.heap.size + 1 + 1, 0, none⟩) k k]) (by simp [results, Tryz.results85, go_sem, u0, u1, u2, u3]) rfl ⟨hbz, some ⟨w.heap.size + 1 + 1, 0, none⟩, k, ps, ?_⟩
      rw [hpl]
      exact ⟨rfl, hown, hps⟩
end Go.Proofs.YtclhcjiblfokaaaGreatDoor
namespace Go.Proofs.YtclhcjiblfokaaaGreatDoor
open Go.RowKit

end Go.Proofs.YtclhcjiblfokaaaGreatDoor
