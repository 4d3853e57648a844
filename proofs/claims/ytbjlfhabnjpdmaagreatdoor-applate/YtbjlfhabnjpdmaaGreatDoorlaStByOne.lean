/-
  What package state's oneByOne answers: what is wrong with the first entry that is wrong.
-/
import Derived.Test.YtbjlfhabnjpdmaaGreatDoorlaStRise
import Derived.Test.YtbjlfhabnjpdmaaGreatDoorlaClAsk
namespace Go.Proofs.YtbjlfhabnjpdmaaGreatDoor
open Go.RowKit

theorem firstW_at {α : Type} (f : α → Int) (l : List α) (k : Nat) (x : α) (h : l[k]? = some x) : firstW f (l.drop k) = if f x ≠ 0 then f x else firstW f (l.drop (k + 1)) := by
  have hk := (List.getElem?_eq_some_iff.1 h).1
  rw [List.drop_eq_getElem_cons hk, (List.getElem?_eq_some_iff.1 h).2, firstW]
theorem drop_at {α : Type} (l : List α) (k : Nat) (x : α) (h : l[k]? = some x) : l.drop k = x :: l.drop (k + 1) := by
  have hk := (List.getElem?_eq_some_iff.1 h).1
  rw [List.drop_eq_getElem_cons hk, (List.getElem?_eq_some_iff.1 h).2]
set_option maxRecDepth 100000 in
set_option maxHeartbeats 4000000 in
theorem byOneCl (l : List Cl) (sv : Value) (N : Nat) (w : World) (hN : N ≤ w.heap.size) (hv : Many ClR 4 w N sv l) (hl : l.length < 2305843009213693952) (hfit : ∀ c ∈ l, c.fits) :
    Calls Tryz.prog 30 #[sv, .func (.func 31) #[] #[]] w fun e w' => e = .returned (.int .i64 (firstW wrongCl l)) ∧ Below w.heap.size w w' := by
  obtain ⟨oa, ca, rfl, hca⟩ := hv.shape
  have HV := hid hv
  clear hv
  generalize hn : l.length = n at *
  have HN := hid hn
  clear hn
  go_enter Tryz.func30, Tryz.ntmps30
  go_wp2_with fail
  go_loopw [6, 7, 10] (fun _ _ i wr => ∃ k : Nat, k ≤ n ∧ i = .int .i64 (k : Int) ∧ Hid (Below w.heap.size w wr ∧ firstW wrongCl l = firstW wrongCl (l.drop k))) (fun _ _ i _ => n - (intOf i).toNat)
  case atStart => exact ⟨0, by omega, rfl, hid ⟨Below.refl _ _, rfl⟩⟩
  case round =>
    obtain ⟨k, hk, rfl, HT⟩ := hrel
    have HBW := hid HT.out.1
    have HUP := hid HT.out.2
    clear HT
    have hszw := HBW.out.size
    by_cases hlt : k < n
    · obtain ⟨x, hx⟩ : ∃ x, l[k]? = some x := ⟨l[k]'(by rw [HN.out]; exact hlt), List.getElem?_eq_getElem _⟩
      obtain ⟨b, o, rfl, hcells⟩ := HV.out.spot (by omega)
      obtain ⟨hbN, r, hr, hc⟩ := hcells k x hx
      obtain ⟨kv, rfl, hkn⟩ := hr
      obtain ⟨ok, ck, rfl, -⟩ := hkn.shape
      have hbl : b < w.heap.size := by omega
      have f0 := (HBW.out.cell (p := ⟨b, o + k * 4 + 0, none⟩) hbl).trans (hc 0 _ rfl)
      have f1 := (HBW.out.cell (p := ⟨b, o + k * 4 + 1, none⟩) hbl).trans (hc 1 _ rfl)
      have f2 := (HBW.out.cell (p := ⟨b, o + k * 4 + 2, none⟩) hbl).trans (hc 2 _ rfl)
      have f3 := (HBW.out.cell (p := ⟨b, o + k * 4 + 3, none⟩) hbl).trans (hc 3 _ rfl)
      simp only [Nat.add_zero] at f0
      have hlt' : (k : Int) < (n : Int) := by omega
      obtain ⟨w2, hw2⟩ : ∃ w2, wr.alloc (.cells #[.string x.chain, .int .i64 x.trust, .bool x.frozen, .slice ok x.known.length ck] 79) = w2 := ⟨_, rfl⟩
      have hbr2 : Below wr.heap.size wr w2 := by rw [← hw2]; exact (Below.refl _ _).alloc (Nat.le_refl _) _
      have HB2 := hid (HBW.out.trans (hbr2.mono hszw))
      have hrow2 : Row w2 wr.heap.size 79 [.string x.chain, .int .i64 x.trust, .bool x.frozen, .slice ok x.known.length ck] := by rw [← hw2]; exact Row.new _ _ _
      have q0 : w2.cell? ⟨wr.heap.size, 0, none⟩ = some (.string x.chain) := hrow2.cell 0
      have q1 : w2.cell? ⟨wr.heap.size, 1, none⟩ = some (.int .i64 x.trust) := hrow2.cell 1
      have q2 : w2.cell? ⟨wr.heap.size, 2, none⟩ = some (.bool x.frozen) := hrow2.cell 2
      have q3 : w2.cell? ⟨wr.heap.size, 3, none⟩ = some (.slice ok x.known.length ck) := hrow2.cell 3
      have HCL := hid (show Calls Tryz.prog 31 #[.agg #[.string x.chain, .int .i64 x.trust, .bool x.frozen, .slice ok x.known.length ck]] w2 _ from clWrongC x _ N w2 ⟨_, rfl, hkn.below (HB2.out.mono hN)⟩ (Nat.le_trans hN HB2.out.size) (hfit x (List.mem_of_getElem? hx)))
      have HST := hid (firstW_at wrongCl l k x hx)
      have HW2 := hid hw2
      clear hbr2 hrow2 hw2 hcells hc hkn hx
      by_cases hz : wrongCl x = 0
      · have HZ := hid hz
        clear hz
        go_upto_region 4 with fail
        rw [HW2.out]
        go_wp2_with fail
        refine HCL.out.mono ?_
        rintro e w3 ⟨rfl, hb3⟩
        rw [HZ.out]
        have HB3 := hid (HB2.out.trans (hb3.mono HB2.out.size))
        have HV2 := hid (show firstW wrongCl l = firstW wrongCl (l.drop (k + 1)) by rw [HUP.out, HST.out, if_neg (by rw [HZ.out]; simp)])
        clear hb3
        go_wp2
        go_roundw
        case rel => exact ⟨k + 1, by omega, by go_num, hid ⟨HB3.out, HV2.out⟩⟩
        case measure => simp [intOf]; omega
      · have e0 : (wrongCl x != 0) = true := by simpa using hz
        have HV2 := hid (show firstW wrongCl l = wrongCl x by rw [HUP.out, HST.out, if_pos hz])
        clear hz
        generalize hzz : wrongCl x = z at *
        clear hzz
        go_upto_region 4 with fail
        rw [HW2.out]
        go_wp2_with fail
        refine HCL.out.mono ?_
        rintro e w3 ⟨rfl, hb3⟩
        have HB3 := hid (HB2.out.trans (hb3.mono HB2.out.size))
        clear hb3
        go_wp2
        go_ret
        exact ⟨by rw [HV2.out]; first | done | rfl, HB3.out⟩
    · have hge : decide ((k : Int) < (n : Int)) = false := by simp; omega
      have HE := hid (show firstW wrongCl l = 0 by rw [HUP.out, List.drop_eq_nil_of_le (by rw [HN.out]; omega)]; rfl)
      go_wp2
      go_ret
      exact ⟨by rw [HE.out]; first | done | rfl, HBW.out⟩
set_option maxRecDepth 100000 in
set_option maxHeartbeats 4000000 in
theorem byOneCn (l : List Cn) (sv : Value) (N : Nat) (w : World) (hN : N ≤ w.heap.size) (hv : Many CnR 4 w N sv l) (hl : l.length < 2305843009213693952) :
    Calls Tryz.prog 32 #[sv, .func (.func 33) #[] #[]] w fun e w' => e = .returned (.int .i64 (firstW wrongCn l)) ∧ Below w.heap.size w w' := by
  obtain ⟨oa, ca, rfl, hca⟩ := hv.shape
  have HV := hid hv
  clear hv
  generalize hn : l.length = n at *
  have HN := hid hn
  clear hn
  go_enter Tryz.func32, Tryz.ntmps32
  go_wp2_with fail
  go_loopw [6, 7, 10] (fun _ _ i wr => ∃ k : Nat, k ≤ n ∧ i = .int .i64 (k : Int) ∧ Hid (Below w.heap.size w wr ∧ firstW wrongCn l = firstW wrongCn (l.drop k))) (fun _ _ i _ => n - (intOf i).toNat)
  case atStart => exact ⟨0, by omega, rfl, hid ⟨Below.refl _ _, rfl⟩⟩
  case round =>
    obtain ⟨k, hk, rfl, HT⟩ := hrel
    have HBW := hid HT.out.1
    have HUP := hid HT.out.2
    clear HT
    have hszw := HBW.out.size
    by_cases hlt : k < n
    · obtain ⟨x, hx⟩ : ∃ x, l[k]? = some x := ⟨l[k]'(by rw [HN.out]; exact hlt), List.getElem?_eq_getElem _⟩
      obtain ⟨b, o, rfl, hcells⟩ := HV.out.spot (by omega)
      obtain ⟨hbN, r, hr, hc⟩ := hcells k x hx
      subst hr
      have hbl : b < w.heap.size := by omega
      have f0 := (HBW.out.cell (p := ⟨b, o + k * 4 + 0, none⟩) hbl).trans (hc 0 _ rfl)
      have f1 := (HBW.out.cell (p := ⟨b, o + k * 4 + 1, none⟩) hbl).trans (hc 1 _ rfl)
      have f2 := (HBW.out.cell (p := ⟨b, o + k * 4 + 2, none⟩) hbl).trans (hc 2 _ rfl)
      have f3 := (HBW.out.cell (p := ⟨b, o + k * 4 + 3, none⟩) hbl).trans (hc 3 _ rfl)
      simp only [Nat.add_zero] at f0
      have hlt' : (k : Int) < (n : Int) := by omega
      obtain ⟨w2, hw2⟩ : ∃ w2, wr.alloc (.cells #[.int .i64 x.state, .int .i64 x.client, .int .i64 x.oclient, .int .i64 x.oconn] 81) = w2 := ⟨_, rfl⟩
      have hbr2 : Below wr.heap.size wr w2 := by rw [← hw2]; exact (Below.refl _ _).alloc (Nat.le_refl _) _
      have HB2 := hid (HBW.out.trans (hbr2.mono hszw))
      have hrow2 : Row w2 wr.heap.size 81 [.int .i64 x.state, .int .i64 x.client, .int .i64 x.oclient, .int .i64 x.oconn] := by rw [← hw2]; exact Row.new _ _ _
      have q0 : w2.cell? ⟨wr.heap.size, 0, none⟩ = some (.int .i64 x.state) := hrow2.cell 0
      have q1 : w2.cell? ⟨wr.heap.size, 1, none⟩ = some (.int .i64 x.client) := hrow2.cell 1
      have q2 : w2.cell? ⟨wr.heap.size, 2, none⟩ = some (.int .i64 x.oclient) := hrow2.cell 2
      have q3 : w2.cell? ⟨wr.heap.size, 3, none⟩ = some (.int .i64 x.oconn) := hrow2.cell 3
      have HCL := hid (show Calls Tryz.prog 33 #[.agg #[.int .i64 x.state, .int .i64 x.client, .int .i64 x.oclient, .int .i64 x.oconn]] w2 _ from wrongConn_any x w2)
      have HST := hid (firstW_at wrongCn l k x hx)
      have HW2 := hid hw2
      clear hbr2 hrow2 hw2 hcells hc hx
      by_cases hz : wrongCn x = 0
      · have HZ := hid hz
        clear hz
        go_upto_region 4 with fail
        rw [HW2.out]
        go_wp2_with fail
        refine HCL.out.mono ?_
        rintro e w3 ⟨rfl, hb3⟩
        rw [HZ.out]
        have HB3 := hid (HB2.out.trans (hb3.mono HB2.out.size))
        have HV2 := hid (show firstW wrongCn l = firstW wrongCn (l.drop (k + 1)) by rw [HUP.out, HST.out, if_neg (by rw [HZ.out]; simp)])
        clear hb3
        go_wp2
        go_roundw
        case rel => exact ⟨k + 1, by omega, by go_num, hid ⟨HB3.out, HV2.out⟩⟩
        case measure => simp [intOf]; omega
      · have e0 : (wrongCn x != 0) = true := by simpa using hz
        have HV2 := hid (show firstW wrongCn l = wrongCn x by rw [HUP.out, HST.out, if_pos hz])
        clear hz
        generalize hzz : wrongCn x = z at *
        clear hzz
        go_upto_region 4 with fail
        rw [HW2.out]
        go_wp2_with fail
        refine HCL.out.mono ?_
        rintro e w3 ⟨rfl, hb3⟩
        have HB3 := hid (HB2.out.trans (hb3.mono HB2.out.size))
        clear hb3
        go_wp2
        go_ret
        exact ⟨by rw [HV2.out]; first | done | rfl, HB3.out⟩
    · have hge : decide ((k : Int) < (n : Int)) = false := by simp; omega
      have HE := hid (show firstW wrongCn l = 0 by rw [HUP.out, List.drop_eq_nil_of_le (by rw [HN.out]; omega)]; rfl)
      go_wp2
      go_ret
      exact ⟨by rw [HE.out]; first | done | rfl, HBW.out⟩
set_option maxRecDepth 100000 in
set_option maxHeartbeats 4000000 in
theorem byOneCh (l : List Ch) (sv : Value) (N : Nat) (w : World) (hN : N ≤ w.heap.size) (hv : Many ChR 7 w N sv l) (hl : l.length < 2305843009213693952) :
    Calls Tryz.prog 34 #[sv, .func (.func 35) #[] #[]] w fun e w' => e = .returned (.int .i64 (firstW wrongCh l)) ∧ Below w.heap.size w w' := by
  obtain ⟨oa, ca, rfl, hca⟩ := hv.shape
  have HV := hid hv
  clear hv
  generalize hn : l.length = n at *
  have HN := hid hn
  clear hn
  go_enter Tryz.func34, Tryz.ntmps34
  go_wp2_with fail
  go_loopw [6, 7, 10] (fun _ _ i wr => ∃ k : Nat, k ≤ n ∧ i = .int .i64 (k : Int) ∧ Hid (Below w.heap.size w wr ∧ firstW wrongCh l = firstW wrongCh (l.drop k))) (fun _ _ i _ => n - (intOf i).toNat)
  case atStart => exact ⟨0, by omega, rfl, hid ⟨Below.refl _ _, rfl⟩⟩
  case round =>
    obtain ⟨k, hk, rfl, HT⟩ := hrel
    have HBW := hid HT.out.1
    have HUP := hid HT.out.2
    clear HT
    have hszw := HBW.out.size
    by_cases hlt : k < n
    · obtain ⟨x, hx⟩ : ∃ x, l[k]? = some x := ⟨l[k]'(by rw [HN.out]; exact hlt), List.getElem?_eq_getElem _⟩
      obtain ⟨b, o, rfl, hcells⟩ := HV.out.spot (by omega)
      obtain ⟨hbN, r, hr, hc⟩ := hcells k x hx
      subst hr
      have hbl : b < w.heap.size := by omega
      have f0 := (HBW.out.cell (p := ⟨b, o + k * 7 + 0, none⟩) hbl).trans (hc 0 _ rfl)
      have f1 := (HBW.out.cell (p := ⟨b, o + k * 7 + 1, none⟩) hbl).trans (hc 1 _ rfl)
      have f2 := (HBW.out.cell (p := ⟨b, o + k * 7 + 2, none⟩) hbl).trans (hc 2 _ rfl)
      have f3 := (HBW.out.cell (p := ⟨b, o + k * 7 + 3, none⟩) hbl).trans (hc 3 _ rfl)
      have f4 := (HBW.out.cell (p := ⟨b, o + k * 7 + 4, none⟩) hbl).trans (hc 4 _ rfl)
      have f5 := (HBW.out.cell (p := ⟨b, o + k * 7 + 5, none⟩) hbl).trans (hc 5 _ rfl)
      have f6 := (HBW.out.cell (p := ⟨b, o + k * 7 + 6, none⟩) hbl).trans (hc 6 _ rfl)
      simp only [Nat.add_zero] at f0
      have hlt' : (k : Int) < (n : Int) := by omega
      obtain ⟨w2, hw2⟩ : ∃ w2, wr.alloc (.cells #[.int .i64 x.state, .bool x.ordered, .int .i64 x.conn, .int .i64 x.ochan, .int .i64 x.send, .int .i64 x.recv, .int .i64 x.ack] 83) = w2 := ⟨_, rfl⟩
      have hbr2 : Below wr.heap.size wr w2 := by rw [← hw2]; exact (Below.refl _ _).alloc (Nat.le_refl _) _
      have HB2 := hid (HBW.out.trans (hbr2.mono hszw))
      have hrow2 : Row w2 wr.heap.size 83 [.int .i64 x.state, .bool x.ordered, .int .i64 x.conn, .int .i64 x.ochan, .int .i64 x.send, .int .i64 x.recv, .int .i64 x.ack] := by rw [← hw2]; exact Row.new _ _ _
      have q0 : w2.cell? ⟨wr.heap.size, 0, none⟩ = some (.int .i64 x.state) := hrow2.cell 0
      have q1 : w2.cell? ⟨wr.heap.size, 1, none⟩ = some (.bool x.ordered) := hrow2.cell 1
      have q2 : w2.cell? ⟨wr.heap.size, 2, none⟩ = some (.int .i64 x.conn) := hrow2.cell 2
      have q3 : w2.cell? ⟨wr.heap.size, 3, none⟩ = some (.int .i64 x.ochan) := hrow2.cell 3
      have q4 : w2.cell? ⟨wr.heap.size, 4, none⟩ = some (.int .i64 x.send) := hrow2.cell 4
      have q5 : w2.cell? ⟨wr.heap.size, 5, none⟩ = some (.int .i64 x.recv) := hrow2.cell 5
      have q6 : w2.cell? ⟨wr.heap.size, 6, none⟩ = some (.int .i64 x.ack) := hrow2.cell 6
      have HCL := hid (show Calls Tryz.prog 35 #[.agg #[.int .i64 x.state, .bool x.ordered, .int .i64 x.conn, .int .i64 x.ochan, .int .i64 x.send, .int .i64 x.recv, .int .i64 x.ack]] w2 _ from wrongChan_any x w2)
      have HST := hid (firstW_at wrongCh l k x hx)
      have HW2 := hid hw2
      clear hbr2 hrow2 hw2 hcells hc hx
      by_cases hz : wrongCh x = 0
      · have HZ := hid hz
        clear hz
        go_upto_region 4 with fail
        rw [HW2.out]
        go_wp2_with fail
        refine HCL.out.mono ?_
        rintro e w3 ⟨rfl, hb3⟩
        rw [HZ.out]
        have HB3 := hid (HB2.out.trans (hb3.mono HB2.out.size))
        have HV2 := hid (show firstW wrongCh l = firstW wrongCh (l.drop (k + 1)) by rw [HUP.out, HST.out, if_neg (by rw [HZ.out]; simp)])
        clear hb3
        go_wp2
        go_roundw
        case rel => exact ⟨k + 1, by omega, by go_num, hid ⟨HB3.out, HV2.out⟩⟩
        case measure => simp [intOf]; omega
      · have e0 : (wrongCh x != 0) = true := by simpa using hz
        have HV2 := hid (show firstW wrongCh l = wrongCh x by rw [HUP.out, HST.out, if_pos hz])
        clear hz
        generalize hzz : wrongCh x = z at *
        clear hzz
        go_upto_region 4 with fail
        rw [HW2.out]
        go_wp2_with fail
        refine HCL.out.mono ?_
        rintro e w3 ⟨rfl, hb3⟩
        have HB3 := hid (HB2.out.trans (hb3.mono HB2.out.size))
        clear hb3
        go_wp2
        go_ret
        exact ⟨by rw [HV2.out]; first | done | rfl, HB3.out⟩
    · have hge : decide ((k : Int) < (n : Int)) = false := by simp; omega
      have HE := hid (show firstW wrongCh l = 0 by rw [HUP.out, List.drop_eq_nil_of_le (by rw [HN.out]; omega)]; rfl)
      go_wp2
      go_ret
      exact ⟨by rw [HE.out]; first | done | rfl, HBW.out⟩
set_option maxRecDepth 100000 in
set_option maxHeartbeats 4000000 in
theorem byOneMk (l : List Mk) (sv : Value) (N g : Nat) (w : World) (hR : RiseMk w g none) (hN : N ≤ g) (hv : Many MkR 3 w N sv l) (hl : l.length < 2305843009213693952) :
    Calls Tryz.prog 36 #[sv, cloMk g] w fun e w' => e = .returned (.int .i64 (marksN l)) ∧ Below g w w' := by
  have hgw : g + 2 + 1 < w.heap.size := hR.2.2.1.lt
  have HRI := hid hR
  unfold cloMk
  clear hR
  obtain ⟨oa, ca, rfl, hca⟩ := hv.shape
  have HV := hid hv
  clear hv
  generalize hn : l.length = n at *
  have HN := hid hn
  clear hn
  go_enter Tryz.func36, Tryz.ntmps36
  go_wp2_with fail
  go_loopw [6, 7, 10] (fun _ _ i wr => ∃ k : Nat, k ≤ n ∧ i = .int .i64 (k : Int) ∧ Hid (∃ p, RiseMk wr g p ∧ Below g w wr ∧ marksN l = upGo wrongMk lessMk p (l.drop k))) (fun _ _ i _ => n - (intOf i).toNat)
  case atStart => exact ⟨0, by omega, rfl, hid ⟨none, HRI.out, Below.refl _ _, rfl⟩⟩
  case round =>
    obtain ⟨k, hk, rfl, HT⟩ := hrel
    obtain ⟨p, hri, hbw, hup⟩ := HT.out
    have HBW := hid hbw
    have HRI2 := hid hri
    have HUP := hid hup
    clear HT hri hbw hup
    have hszw := HBW.out.size
    by_cases hlt : k < n
    · obtain ⟨x, hx⟩ : ∃ x, l[k]? = some x := ⟨l[k]'(by rw [HN.out]; exact hlt), List.getElem?_eq_getElem _⟩
      obtain ⟨b, o, rfl, hcells⟩ := HV.out.spot (by omega)
      obtain ⟨hbN, r, hr, hc⟩ := hcells k x hx
      obtain ⟨dv, rfl, hdv⟩ := hr
      obtain ⟨od, cd, rfl, -⟩ := hdv.shape
      have hbl : b < g := by omega
      have f0 := (HBW.out.cell (p := ⟨b, o + k * 3 + 0, none⟩) hbl).trans (hc 0 _ rfl)
      have f1 := (HBW.out.cell (p := ⟨b, o + k * 3 + 1, none⟩) hbl).trans (hc 1 _ rfl)
      have f2 := (HBW.out.cell (p := ⟨b, o + k * 3 + 2, none⟩) hbl).trans (hc 2 _ rfl)
      simp only [Nat.add_zero] at f0
      have hlt' : (k : Int) < (n : Int) := by omega
      obtain ⟨w2, hw2⟩ : ∃ w2, wr.alloc (.cells #[.int .i64 x.chan, .int .i64 x.seq, .slice od x.dig.length cd] 99) = w2 := ⟨_, rfl⟩
      have hbr2 : Below wr.heap.size wr w2 := by rw [← hw2]; exact (Below.refl _ _).alloc (Nat.le_refl _) _
      have HB2 := hid (HBW.out.trans (hbr2.mono (show g ≤ wr.heap.size by omega)))
      have hrow2 : Row w2 wr.heap.size 99 [.int .i64 x.chan, .int .i64 x.seq, .slice od x.dig.length cd] := by rw [← hw2]; exact Row.new _ _ _
      have q0 : w2.cell? ⟨wr.heap.size, 0, none⟩ = some (.int .i64 x.chan) := hrow2.cell 0
      have q1 : w2.cell? ⟨wr.heap.size, 1, none⟩ = some (.int .i64 x.seq) := hrow2.cell 1
      have q2 : w2.cell? ⟨wr.heap.size, 2, none⟩ = some (.slice od x.dig.length cd) := hrow2.cell 2
      have HRI3 := hid (HRI2.out.below hbr2)
      have HCL := hid (show Calls Tryz.prog 95 #[.agg #[.int .i64 x.chan, .int .i64 x.seq, .slice od x.dig.length cd], .pointer (some ⟨g, 0, none⟩), .pointer (some ⟨g + 2 + 1, 0, none⟩), .pointer (some ⟨g + 1, 0, none⟩), .pointer (some ⟨g + 2, 0, none⟩)] w2 _ from riseMk_any p x od cd g w2 HRI3.out)
      have HST := hid ((congrArg (upGo wrongMk lessMk p) (drop_at l k x hx)).trans (upGoMk p x (l.drop (k + 1))))
      have HW2 := hid hw2
      clear hbr2 hrow2 hw2 hcells hc hdv hx
      by_cases hz : nextMk p x = 0
      · have HZ := hid hz
        clear hz
        go_upto_region 4 with fail
        rw [HW2.out]
        go_wp2_with fail
        refine HCL.out.mono ?_
        rintro e w3 ⟨rfl, hb3, hri3⟩
        rw [HZ.out]
        have HB3 := hid (HB2.out.trans hb3)
        have HRI4 := hid (hri3 HZ.out)
        clear hri3
        have HV2 := hid (show marksN l = upGo wrongMk lessMk (some x) (l.drop (k + 1)) by rw [HUP.out, HST.out, if_neg (by rw [HZ.out]; simp)])
        clear hb3
        go_wp2
        go_roundw
        case rel => exact ⟨k + 1, by omega, by go_num, hid ⟨some x, HRI4.out, HB3.out, HV2.out⟩⟩
        case measure => simp [intOf]; omega
      · have e0 : (nextMk p x != 0) = true := by simpa using hz
        have HV2 := hid (show marksN l = nextMk p x by rw [HUP.out, HST.out, if_pos hz])
        clear hz
        generalize hzz : nextMk p x = z at *
        clear hzz
        go_upto_region 4 with fail
        rw [HW2.out]
        go_wp2_with fail
        refine HCL.out.mono ?_
        rintro e w3 ⟨rfl, hb3, hri3⟩
        have HB3 := hid (HB2.out.trans hb3)
        clear hb3
        go_wp2
        go_ret
        exact ⟨by rw [HV2.out]; first | done | rfl, HB3.out⟩
    · have hge : decide ((k : Int) < (n : Int)) = false := by simp; omega
      have HE := hid (show marksN l = 0 by rw [HUP.out, List.drop_eq_nil_of_le (by rw [HN.out]; omega)]; rfl)
      go_wp2
      go_ret
      exact ⟨by rw [HE.out]; first | done | rfl, HBW.out⟩
set_option maxRecDepth 100000 in
set_option maxHeartbeats 4000000 in
theorem byOnePu (l : List Pu) (sv : Value) (N g : Nat) (w : World) (hR : RisePu w g none) (hN : N ≤ g) (hv : Many PuR 3 w N sv l) (hl : l.length < 2305843009213693952) :
    Calls Tryz.prog 40 #[sv, cloPu g] w fun e w' => e = .returned (.int .i64 (pursesN l)) ∧ Below g w w' := by
  have hgw : g + 2 + 1 < w.heap.size := hR.2.2.1.lt
  have HRI := hid hR
  unfold cloPu
  clear hR
  obtain ⟨oa, ca, rfl, hca⟩ := hv.shape
  have HV := hid hv
  clear hv
  generalize hn : l.length = n at *
  have HN := hid hn
  clear hn
  go_enter Tryz.func40, Tryz.ntmps40
  go_wp2_with fail
  go_loopw [6, 7, 10] (fun _ _ i wr => ∃ k : Nat, k ≤ n ∧ i = .int .i64 (k : Int) ∧ Hid (∃ p, RisePu wr g p ∧ Below g w wr ∧ pursesN l = upGo wrongPu lessPu p (l.drop k))) (fun _ _ i _ => n - (intOf i).toNat)
  case atStart => exact ⟨0, by omega, rfl, hid ⟨none, HRI.out, Below.refl _ _, rfl⟩⟩
  case round =>
    obtain ⟨k, hk, rfl, HT⟩ := hrel
    obtain ⟨p, hri, hbw, hup⟩ := HT.out
    have HBW := hid hbw
    have HRI2 := hid hri
    have HUP := hid hup
    clear HT hri hbw hup
    have hszw := HBW.out.size
    by_cases hlt : k < n
    · obtain ⟨x, hx⟩ : ∃ x, l[k]? = some x := ⟨l[k]'(by rw [HN.out]; exact hlt), List.getElem?_eq_getElem _⟩
      obtain ⟨b, o, rfl, hcells⟩ := HV.out.spot (by omega)
      obtain ⟨hbN, r, hr, hc⟩ := hcells k x hx
      subst hr
      have hbl : b < g := by omega
      have f0 := (HBW.out.cell (p := ⟨b, o + k * 3 + 0, none⟩) hbl).trans (hc 0 _ rfl)
      have f1 := (HBW.out.cell (p := ⟨b, o + k * 3 + 1, none⟩) hbl).trans (hc 1 _ rfl)
      have f2 := (HBW.out.cell (p := ⟨b, o + k * 3 + 2, none⟩) hbl).trans (hc 2 _ rfl)
      simp only [Nat.add_zero] at f0
      have hlt' : (k : Int) < (n : Int) := by omega
      obtain ⟨w2, hw2⟩ : ∃ w2, wr.alloc (.cells #[.string x.owner, .string x.denom, .int .u64 (x.amount : Int)] 85) = w2 := ⟨_, rfl⟩
      have hbr2 : Below wr.heap.size wr w2 := by rw [← hw2]; exact (Below.refl _ _).alloc (Nat.le_refl _) _
      have HB2 := hid (HBW.out.trans (hbr2.mono (show g ≤ wr.heap.size by omega)))
      have hrow2 : Row w2 wr.heap.size 85 [.string x.owner, .string x.denom, .int .u64 (x.amount : Int)] := by rw [← hw2]; exact Row.new _ _ _
      have q0 : w2.cell? ⟨wr.heap.size, 0, none⟩ = some (.string x.owner) := hrow2.cell 0
      have q1 : w2.cell? ⟨wr.heap.size, 1, none⟩ = some (.string x.denom) := hrow2.cell 1
      have q2 : w2.cell? ⟨wr.heap.size, 2, none⟩ = some (.int .u64 (x.amount : Int)) := hrow2.cell 2
      have HRI3 := hid (HRI2.out.below hbr2)
      have HCL := hid (show Calls Tryz.prog 98 #[.agg #[.string x.owner, .string x.denom, .int .u64 (x.amount : Int)], .pointer (some ⟨g, 0, none⟩), .pointer (some ⟨g + 2 + 1, 0, none⟩), .pointer (some ⟨g + 1, 0, none⟩), .pointer (some ⟨g + 2, 0, none⟩)] w2 _ from risePu_any p x g w2 HRI3.out)
      have HST := hid ((congrArg (upGo wrongPu lessPu p) (drop_at l k x hx)).trans (upGoPu p x (l.drop (k + 1))))
      have HW2 := hid hw2
      clear hbr2 hrow2 hw2 hcells hc hx
      by_cases hz : nextPu p x = 0
      · have HZ := hid hz
        clear hz
        go_upto_region 4 with fail
        rw [HW2.out]
        go_wp2_with fail
        refine HCL.out.mono ?_
        rintro e w3 ⟨rfl, hb3, hri3⟩
        rw [HZ.out]
        have HB3 := hid (HB2.out.trans hb3)
        have HRI4 := hid (hri3 HZ.out)
        clear hri3
        have HV2 := hid (show pursesN l = upGo wrongPu lessPu (some x) (l.drop (k + 1)) by rw [HUP.out, HST.out, if_neg (by rw [HZ.out]; simp)])
        clear hb3
        go_wp2
        go_roundw
        case rel => exact ⟨k + 1, by omega, by go_num, hid ⟨some x, HRI4.out, HB3.out, HV2.out⟩⟩
        case measure => simp [intOf]; omega
      · have e0 : (nextPu p x != 0) = true := by simpa using hz
        have HV2 := hid (show pursesN l = nextPu p x by rw [HUP.out, HST.out, if_pos hz])
        clear hz
        generalize hzz : nextPu p x = z at *
        clear hzz
        go_upto_region 4 with fail
        rw [HW2.out]
        go_wp2_with fail
        refine HCL.out.mono ?_
        rintro e w3 ⟨rfl, hb3, hri3⟩
        have HB3 := hid (HB2.out.trans hb3)
        clear hb3
        go_wp2
        go_ret
        exact ⟨by rw [HV2.out]; first | done | rfl, HB3.out⟩
    · have hge : decide ((k : Int) < (n : Int)) = false := by simp; omega
      have HE := hid (show pursesN l = 0 by rw [HUP.out, List.drop_eq_nil_of_le (by rw [HN.out]; omega)]; rfl)
      go_wp2
      go_ret
      exact ⟨by rw [HE.out]; first | done | rfl, HBW.out⟩
end Go.Proofs.YtbjlfhabnjpdmaaGreatDoor
