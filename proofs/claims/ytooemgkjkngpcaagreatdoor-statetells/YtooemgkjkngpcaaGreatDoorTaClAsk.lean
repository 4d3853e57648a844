/-
  What package client's isTime, wrongKnown and Wrong answer: what is wrong with a client.
  What package client's find and At answer: what a client knows of a height; what is known, in memory of its own.
  What package client's trusts, Active and refusal answer.
  What package client's copied and New answer: a client in memory of its own; a new one.
  What the laws of clients ask first: it is true.
-/
import Derived.Test.YtooemgkjkngpcaaGreatDoorTaClMem
import Derived.Test.YtooemgkjkngpcaaGreatDoorTaHdMems
import Derived.Test.YtooemgkjkngpcaaGreatDoorTaSameB
import Derived.Deep.RegionHeld3
import Derived.Deep.RegionWith
namespace Go.Proofs.YtooemgkjkngpcaaGreatDoor
open Go.RowKit

/-- is a number a time -/
def timeN (n : Int) : Bool := decide (0 ≤ n) && decide (n ≤ 1000000000000)
theorem isTime_any (n : Int) (w : World) : Calls Tryz.prog 106 #[.int .i64 n] w fun e w' => e = .returned (.bool (timeN n)) ∧ w' = w := by
  unfold timeN
  by_cases h1 : 0 ≤ n
  · have e1 : decide (0 ≤ n) = true := by simpa using h1
    go_enter Tryz.func106, Tryz.ntmps106
    go_wp2
    go_ret
    exact ⟨by simp [e1]; first | done | rfl, rfl⟩
  · have e1 : decide (0 ≤ n) = false := by simpa using h1
    go_enter Tryz.func106, Tryz.ntmps106
    go_wp2
    go_ret
    exact ⟨by simp; first | done | rfl | (simp [e1]; first | done | rfl), rfl⟩
theorem timeN_true {n : Int} (h : ¬ (n < 0 ∨ 1000000000000 < n)) : timeN n = true := by unfold timeN; simp; omega
theorem timeN_false {n : Int} (h : n < 0 ∨ 1000000000000 < n) : timeN n = false := by unfold timeN; rw [Bool.and_eq_false_iff]; simp; omega
set_option maxHeartbeats 2000000 in
theorem wrongKnown_any (k : Kn) (v : Value) (N : Nat) (w : World) (hv : KnV w N v k) :
    Calls Tryz.prog 73 #[v] w fun e w' => e = .returned (.int .i64 (wrongK k)) ∧ Below w.heap.size w w' := by
  obtain ⟨rv, nv, rfl, h1, h2⟩ := hv
  obtain ⟨o1, c1, rfl, _⟩ := h1.shape
  obtain ⟨o2, c2, rfl, _⟩ := h2.shape
  clear h1 h2
  obtain ⟨w0, hw0⟩ : ∃ w0, w.alloc (.cells #[.int .i64 k.height, .int .i64 k.time, .slice o1 k.root.length c1, .slice o2 k.next.length c2] 125) = w0 := ⟨_, rfl⟩
  have HB0 := hid (show Below w.heap.size w w0 by rw [← hw0]; exact (Below.refl _ _).alloc (Nat.le_refl _) _)
  have hr0 := (show Row w0 w.heap.size 125 [.int .i64 k.height, .int .i64 k.time, .slice o1 k.root.length c1, .slice o2 k.next.length c2] by rw [← hw0]; exact Row.new _ _ _)
  have k0 := hr0.cell 0
  have k1 := hr0.cell 1
  have k2 := hr0.cell 2
  have k3 := hr0.cell 3
  clear hr0
  by_cases hr : k.height < 1 ∨ 1000000000000 < k.height ∨ k.time < 0 ∨ 1000000000000 < k.time
  · have HW := hid (wrongK_3 hr)
    by_cases r1 : k.height < 1
    · have e1 : decide (k.height < 1) = true := by simpa using r1
      clear hr
      go_enter Tryz.func73, Tryz.ntmps73
      go_wp2
      go_ret
      exact ⟨by rw [HW.out]; first | done | rfl, HB0.out⟩
    · have e1 : decide (k.height < 1) = false := by simp; omega
      by_cases r2 : 1000000000000 < k.height
      · have e2 : decide (1000000000000 < k.height) = true := by simpa using r2
        clear hr
        go_enter Tryz.func73, Tryz.ntmps73
        go_wp2
        go_ret
        exact ⟨by rw [HW.out]; first | done | rfl, HB0.out⟩
      · have e2 : decide (1000000000000 < k.height) = false := by simp; omega
        have HT := hid (timeN_false (n := k.time) (by omega))
        clear hr
        go_enter Tryz.func73, Tryz.ntmps73
        go_wp2_with (go_at_call 106; refine (isTime_any _ _).mono ?_; rintro e w' ⟨rfl, rfl⟩; rw [HT.out])
        go_ret
        exact ⟨by rw [HW.out]; first | done | rfl, HB0.out⟩
  · have r1 : decide (k.height < 1) = false := by simp; omega
    have r2 : decide (1000000000000 < k.height) = false := by simp; omega
    have HT := hid (timeN_true (n := k.time) (by omega))
    by_cases q1 : k.root.length = 32
    · have p1 : ((k.root.length : Int) != 32) = false := by simp; omega
      by_cases q2 : k.next.length = 32
      · have p2 : ((k.next.length : Int) != 32) = false := by simp; omega
        have HW := hid (wrongK_0 hr (by omega))
        clear hr q1 q2
        go_enter Tryz.func73, Tryz.ntmps73
        go_wp2_with (go_at_call 106; refine (isTime_any _ _).mono ?_; rintro e w' ⟨rfl, rfl⟩; rw [HT.out])
        go_ret
        exact ⟨by rw [HW.out]; first | done | rfl, HB0.out⟩
      · have p2 : ((k.next.length : Int) != 32) = true := by simp; omega
        have HW := hid (wrongK_2 hr (.inr q2))
        clear hr q1 q2
        go_enter Tryz.func73, Tryz.ntmps73
        go_wp2_with (go_at_call 106; refine (isTime_any _ _).mono ?_; rintro e w' ⟨rfl, rfl⟩; rw [HT.out])
        go_ret
        exact ⟨by rw [HW.out]; first | done | rfl, HB0.out⟩
    · have p1 : ((k.root.length : Int) != 32) = true := by simp; omega
      have HW := hid (wrongK_2 hr (.inl q1))
      clear hr q1
      go_enter Tryz.func73, Tryz.ntmps73
      go_wp2_with (go_at_call 106; refine (isTime_any _ _).mono ?_; rintro e w' ⟨rfl, rfl⟩; rw [HT.out])
      go_ret
      exact ⟨by rw [HW.out]; first | done | rfl, HB0.out⟩
/-- what Wrong is to answer of a client -/
def ClWrongC (f : FuncId) : Prop := ∀ (c : Cl) (v : Value) (N : Nat) (w : World), ClV w N v c → N ≤ w.heap.size → c.fits →
  Calls Tryz.prog f #[v] w fun e w' => e = .returned (.int .i64 (wrongCl c)) ∧ Below w.heap.size w w'
set_option maxRecDepth 100000 in
set_option maxHeartbeats 4000000 in
theorem clWrongC : ClWrongC 30 := by
  intro c v N w hv hN hfit
  obtain ⟨kv, rfl, hk⟩ := hv
  obtain ⟨f1, f2, f3⟩ := hfit
  obtain ⟨oa, ca, rfl, hca⟩ := hk.shape
  have HK := hid hk
  clear hk f3
  obtain ⟨w0, hw0⟩ : ∃ w0, w.alloc (.cells #[.string c.chain, .int .i64 c.trust, .bool c.frozen, .slice oa c.known.length ca] 62) = w0 := ⟨_, rfl⟩
  have hb0 : Below w.heap.size w w0 := by rw [← hw0]; exact (Below.refl _ _).alloc (Nat.le_refl _) _
  have HB0 := hid hb0
  have hr0 := (show Row w0 w.heap.size 62 [.string c.chain, .int .i64 c.trust, .bool c.frozen, .slice oa c.known.length ca] by rw [← hw0]; exact Row.new _ _ _)
  have HR0 := hid hr0
  have k0 := hr0.cell 0
  have k1 := hr0.cell 1
  have k3 := hr0.cell 3
  have hsz0 : w0.heap.size = w.heap.size + 1 := by rw [← hw0]; simp
  have HSZ0 := hid hsz0
  clear hr0 hb0 hsz0
  by_cases hn : nameB c.chain = true
  · by_cases ht : c.trust < 1 ∨ 1000000000000 < c.trust
    · have HW := hid (wrongCl_3 hn ht)
      by_cases r1 : c.trust < 1
      · have e1 : decide (c.trust < 1) = true := by simpa using r1
        clear ht
        go_enter Tryz.func30, Tryz.ntmps30
        go_wp2_with (go_at_call 25; refine (isName_any _ _ f1).mono ?_; rintro e w' ⟨rfl, rfl⟩)
        go_ret
        exact ⟨by rw [HW.out]; first | done | rfl, HB0.out⟩
      · have e1 : decide (c.trust < 1) = false := by simp; omega
        have e2 : decide (1000000000000 < c.trust) = true := by simp; omega
        clear ht
        go_enter Tryz.func30, Tryz.ntmps30
        go_wp2_with (go_at_call 25; refine (isName_any _ _ f1).mono ?_; rintro e w' ⟨rfl, rfl⟩)
        go_ret
        exact ⟨by rw [HW.out]; first | done | rfl, HB0.out⟩
    · have e1 : decide (c.trust < 1) = false := by simp; omega
      have e2 : decide (1000000000000 < c.trust) = false := by simp; omega
      by_cases hm : c.known.length < 1 ∨ 30 < c.known.length
      · have HW := hid (wrongCl_5 hn ht hm)
        by_cases r1 : c.known.length < 1
        · have e3 : decide ((c.known.length : Int) < 1) = true := by simp; omega
          clear ht hm
          go_enter Tryz.func30, Tryz.ntmps30
          go_wp2_with (go_at_call 25; refine (isName_any _ _ f1).mono ?_; rintro e w' ⟨rfl, rfl⟩)
          go_ret
          exact ⟨by rw [HW.out]; first | done | rfl, HB0.out⟩
        · have e3 : decide ((c.known.length : Int) < 1) = false := by simp; omega
          have e4 : decide (30 < (c.known.length : Int)) = true := by simp; omega
          clear ht hm
          go_enter Tryz.func30, Tryz.ntmps30
          go_wp2_with (go_at_call 25; refine (isName_any _ _ f1).mono ?_; rintro e w' ⟨rfl, rfl⟩)
          go_ret
          exact ⟨by rw [HW.out]; first | done | rfl, HB0.out⟩
      · have e3 : decide ((c.known.length : Int) < 1) = false := by simp; omega
        have e4 : decide (30 < (c.known.length : Int)) = false := by simp; omega
        have HW := hid (wrongCl_go hn ht hm)
        have h30 : c.known.length ≤ 30 := by omega
        clear ht hm
        generalize hnn : c.known.length = n at *
        have HN := hid hnn
        clear hnn
        generalize hl : c.known = l at *
        clear hl
        go_enter Tryz.func30, Tryz.ntmps30
        go_wp2_with (go_at_call 25; refine (isName_any _ _ f1).mono ?_; rintro e w' ⟨rfl, hw'⟩; obtain rfl := hw'.symm)
        go_loopw [3, 4, 5, 34] (fun _ _ _ i wr => ∃ k : Nat, k ≤ n ∧ i = .int .i64 (k : Int) ∧ Hid (Below w0.heap.size w0 wr ∧ wrongCl c = knGo (prevKn l k) (l.drop k))) (fun _ _ _ i _ => n - (intOf i).toNat)
        case atStart => exact ⟨0, by omega, rfl, hid ⟨Below.refl _ _, HW.out⟩⟩
        case round =>
          obtain ⟨k, hk, rfl, HT⟩ := hrel
          have hszr := HT.out.1.size
          have HBW := hid (HB0.out.trans (HT.out.1.mono HB0.out.size))
          have hszw := HB0.out.size
          by_cases hlt : k < n
          · obtain ⟨x, hx⟩ : ∃ x, l[k]? = some x := ⟨l[k]'(by rw [HN.out]; exact hlt), List.getElem?_eq_getElem _⟩
            obtain ⟨b, o, rfl, hcells⟩ := HK.out.spot (by omega)
            obtain ⟨hbN, vr, vn, d0, d1, d2, d3, b2, b3⟩ := hcells k x hx
            obtain ⟨o2, c2, rfl, _⟩ := b2.shape
            obtain ⟨o3, c3, rfl, _⟩ := b3.shape
            have hbl : b < w.heap.size := by omega
            have f0 := (HBW.out.cell (p := ⟨b, o + k * 4, none⟩) hbl).trans d0
            have f1 := (HBW.out.cell (p := ⟨b, o + k * 4 + 1, none⟩) hbl).trans d1
            have f2 := (HBW.out.cell (p := ⟨b, o + k * 4 + 2, none⟩) hbl).trans d2
            have f3 := (HBW.out.cell (p := ⟨b, o + k * 4 + 3, none⟩) hbl).trans d3
            have HST := hid (knGo_at l k x hx)
            have hlt' : (k : Int) < (n : Int) := by omega
            obtain ⟨w2, hw2⟩ : ∃ w2, wr.alloc (.cells #[.int .i64 x.height, .int .i64 x.time, .slice o2 x.root.length c2, .slice o3 x.next.length c3] 125) = w2 := ⟨_, rfl⟩
            have hbr2 : Below wr.heap.size wr w2 := by rw [← hw2]; exact (Below.refl _ _).alloc (Nat.le_refl _) _
            have HB2 := hid (HT.out.1.trans (hbr2.mono hszr))
            have HBW2 := hid (HBW.out.trans (hbr2.mono HBW.out.size))
            have hrow2 : Row w2 wr.heap.size 125 [.int .i64 x.height, .int .i64 x.time, .slice o2 x.root.length c2, .slice o3 x.next.length c3] := by rw [← hw2]; exact Row.new _ _ _
            have HR2 := hid hrow2
            have q0 := hrow2.cell 0
            have q1 := hrow2.cell 1
            have q2 := hrow2.cell 2
            have q3 := hrow2.cell 3
            have HW2 := hid hw2
            have HWK := hid (wrongKnown_any x (.agg #[.int .i64 x.height, .int .i64 x.time, .slice o2 x.root.length c2, .slice o3 x.next.length c3]) N w2 ⟨_, _, rfl, b2.below (HBW2.out.mono hN), b3.below (HBW2.out.mono hN)⟩)
            clear d0 d1 d2 d3 hbr2 hrow2 hw2 b2 b3 hw0
            cases k with
            | zero =>
              have f0' : wr.cell? ⟨b, o, none⟩ = some (.int .i64 x.height) := by simpa using f0
              have f1' : wr.cell? ⟨b, o + 1, none⟩ = some (.int .i64 x.time) := by simpa using f1
              have f2' : wr.cell? ⟨b, o + 2, none⟩ = some (.slice o2 x.root.length c2) := by simpa using f2
              have f3' : wr.cell? ⟨b, o + 3, none⟩ = some (.slice o3 x.next.length c3) := by simpa using f3
              clear hcells
              by_cases hwk : wrongK x = 0
              · have HV2 := hid (show wrongCl c = knGo (prevKn l 1) (l.drop 1) by rw [HT.out.2, HST.out, if_neg (by omega), if_neg (by simp [prevKn_zero, aheadI])])
                have HWZ := hid hwk
                clear hwk
                go_wp2_with fail
                rw [HW2.out]
                go_wp2_with fail
                refine HWK.out.mono ?_
                rintro e w3 ⟨rfl, hb3⟩
                rw [HWZ.out]
                have HB3 := hid (HB2.out.trans (hb3.mono HB2.out.size))
                clear hb3
                go_wp2_with fail
                go_quiet (fail)
                go_wp2
                go_roundw
                case rel => exact ⟨1, by omega, by go_num, hid ⟨HB3.out.trans (below_drewH _ _ _), HV2.out⟩⟩
                case measure => simp [intOf]; omega
              · have HV2 := hid (show wrongCl c = wrongK x by rw [HT.out.2, HST.out, if_pos hwk])
                have g1 : (wrongK x != 0) = true := by simpa using hwk
                clear hwk
                generalize wrongK x = z at *
                go_wp2_with fail
                rw [HW2.out]
                go_wp2_with fail
                refine HWK.out.mono ?_
                rintro e w3 ⟨rfl, hb3⟩
                have HB3 := hid (HBW2.out.trans (hb3.mono HBW2.out.size))
                clear hb3
                go_wp2
                go_ret
                exact ⟨by rw [HV2.out]; first | done | rfl, HB3.out⟩
            | succ j =>
              by_cases hwk : wrongK x = 0
              · obtain ⟨y, hy⟩ : ∃ y, l[j]? = some y := ⟨l[j]'(by rw [HN.out]; omega), List.getElem?_eq_getElem _⟩
                obtain ⟨_, _, _, t0, _⟩ := hcells j y hy
                have HPV := hid (prevKn_succ l j y hy)
                have hj1 : ((j + 1 : Nat) : Int) - 1 = (j : Int) := by omega
                have hj2 : IntKind.i64.wrap (((j + 1 : Nat) : Int) - 1) = (j : Int) := by rw [hj1]; simp [IntKind.wrap, IntKind.bits, IntKind.signed]; split <;> omega
                have hjn : (j : Int) < (n : Int) := by omega
                have e5 : decide ((0 : Int) < ((j + 1 : Nat) : Int)) = true := decide_eq_true (by omega)
                have HT0 := hid t0
                have HWZ := hid hwk
                have HST2 := hid (HST.out.trans (if_neg (by omega)))
                clear hcells hy t0 hwk
                by_cases hle : x.height ≤ y.height
                · have g5 : decide (x.height ≤ y.height) = true := by simpa using hle
                  have HV2 := hid (show wrongCl c = 2 by rw [HT.out.2, HST2.out, HPV.out, if_pos (by simpa [aheadI] using hle)])
                  go_wp2_with fail
                  rw [HW2.out]
                  go_wp2_with fail
                  refine HWK.out.mono ?_
                  rintro e w3 ⟨rfl, hb3⟩
                  rw [HWZ.out]
                  have HB3 := hid (HB2.out.trans (hb3.mono HB2.out.size))
                  have HBW3 := hid (HBW2.out.trans (hb3.mono HBW2.out.size))
                  have s0 := (HR2.out.below hb3 HR2.out.lt).cell 0
                  have s3 := (HR0.out.below HB3.out HR0.out.lt).cell 3
                  have t0' := (HBW3.out.cell (p := ⟨b, o + j * 4, none⟩) hbl).trans HT0.out
                  clear hb3
                  go_wp2_with fail
                  go_quiet (fail)
                  go_wp2
                  go_ret
                  exact ⟨by rw [HV2.out]; first | done | rfl, HBW3.out.trans (below_drewH _ _ _)⟩
                · have g5 : decide (x.height ≤ y.height) = false := by simpa using hle
                  have HV2 := hid (show wrongCl c = knGo (prevKn l (j + 2)) (l.drop (j + 2)) by rw [HT.out.2, HST2.out, HPV.out, if_neg (by simpa [aheadI] using hle)])
                  go_wp2_with fail
                  rw [HW2.out]
                  go_wp2_with fail
                  refine HWK.out.mono ?_
                  rintro e w3 ⟨rfl, hb3⟩
                  rw [HWZ.out]
                  have HB3 := hid (HB2.out.trans (hb3.mono HB2.out.size))
                  have HBW3 := hid (HBW2.out.trans (hb3.mono HBW2.out.size))
                  have s0 := (HR2.out.below hb3 HR2.out.lt).cell 0
                  have s3 := (HR0.out.below HB3.out HR0.out.lt).cell 3
                  have t0' := (HBW3.out.cell (p := ⟨b, o + j * 4, none⟩) hbl).trans HT0.out
                  clear hb3
                  go_wp2_with fail
                  go_quiet (fail)
                  go_wp2
                  go_roundw
                  case rel => exact ⟨j + 2, by omega, by go_num, hid ⟨HB3.out.trans (below_drewH _ _ _), HV2.out⟩⟩
                  case measure => simp [intOf]; omega
              · have HV2 := hid (show wrongCl c = wrongK x by rw [HT.out.2, HST.out, if_pos hwk])
                have g1 : (wrongK x != 0) = true := by simpa using hwk
                clear hwk hcells
                generalize wrongK x = z at *
                go_wp2_with fail
                rw [HW2.out]
                go_wp2_with fail
                refine HWK.out.mono ?_
                rintro e w3 ⟨rfl, hb3⟩
                have HB3 := hid (HBW2.out.trans (hb3.mono HBW2.out.size))
                clear hb3
                go_wp2
                go_ret
                exact ⟨by rw [HV2.out]; first | done | rfl, HB3.out⟩
          · have hge : decide ((k : Int) < (n : Int)) = false := by simp; omega
            have HV2 := hid (show wrongCl c = 0 by rw [HT.out.2, knGo_end l k (by rw [HN.out]; omega)])
            go_wp2
            go_ret
            exact ⟨by rw [HV2.out]; first | done | rfl, HBW.out⟩
  · have hn' : nameB c.chain = false := by simpa using hn
    have HW := hid (wrongCl_7 hn')
    clear hn
    go_enter Tryz.func30, Tryz.ntmps30
    go_wp2_with (go_at_call 25; refine (isName_any _ _ f1).mono ?_; rintro e w' ⟨rfl, rfl⟩)
    go_ret
    exact ⟨by rw [HW.out]; first | done | rfl, HB0.out⟩
end Go.Proofs.YtooemgkjkngpcaaGreatDoor
namespace Go.Proofs.YtooemgkjkngpcaaGreatDoor
open Go.RowKit

end Go.Proofs.YtooemgkjkngpcaaGreatDoor
namespace Go.Proofs.YtooemgkjkngpcaaGreatDoor
open Go.RowKit

end Go.Proofs.YtooemgkjkngpcaaGreatDoor
namespace Go.Proofs.YtooemgkjkngpcaaGreatDoor
open Go.RowKit

end Go.Proofs.YtooemgkjkngpcaaGreatDoor
namespace Go.Proofs.YtooemgkjkngpcaaGreatDoor
open Go.RowKit

end Go.Proofs.YtooemgkjkngpcaaGreatDoor
