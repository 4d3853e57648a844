/-
  What package state's entries answers: what makes the book of a state.
-/
import Derived.Test.YtooemgkjkngpcaaDoorStMarks
import Derived.Test.YtooemgkjkngpcaaDoorStRise
namespace Go.Proofs.YtooemgkjkngpcaaDoor
open Go.RowKit

theorem take_zip {α : Type} (l : List α) (k : Nat) (x : α) (h : l[k]? = some x) : l.zipIdx.take (k + 1) = l.zipIdx.take k ++ [(x, k)] := by
  rw [List.take_add_one, List.getElem?_zipIdx, h]
  simp
theorem chans_take (l : List Ch) (k : Nat) : ((l.zipIdx.take k).flatMap entCh).length ≤ 2 * l.length := by
  have h : ∀ m : List (Ch × Nat), (m.flatMap entCh).length = 2 * m.length := by
    intro m
    induction m with
    | nil => rfl
    | cons a m ih => rw [List.flatMap_cons, List.length_append, ih, List.length_cons]; simp [entCh]; omega
  rw [h, List.length_take, List.length_zipIdx]
  omega
theorem lets_sent : lets ⟨#[115, 101, 110, 116]⟩ = kwSent := rfl
theorem lets_got : lets ⟨#[103, 111, 116]⟩ = kwGot := rfl
theorem lets_ack : lets ⟨#[97, 99, 107]⟩ = kwAck := rfl
set_option maxRecDepth 100000 in
set_option maxHeartbeats 8000000 in
theorem entries_any (s : St) (v : Value) (N : Nat) (w : World) (hv : StV w N v s) (hN : N ≤ w.heap.size) (hS : Right s) (hpow : powAt w) :
    Calls Tryd.prog 13 #[v] w fun e w' => ∃ x, e = .returned x ∧ Doings w' w'.heap.size x (entries s) ∧ Below w.heap.size w w' := by
  obtain ⟨o1, c1, o2, c2, o3, c3, o4, c4, o5, c5, o6, c6, o7, c7, rfl, hm⟩ := hv.open
  have hb8 := hS.many
  have HM := hid hm
  have HS := hid hS
  have HTT := hid (show ∀ w', Below w.heap.size w w' → powAt w' from fun w' h => hpow.below h)
  clear hv hm hpow hS
  obtain ⟨w1, hw1⟩ : ∃ w1, ((w.alloc (.cells #[.string s.name, .int .i64 s.height, .int .i64 s.time, .slice o1 s.clients.length c1, .slice o2 s.conns.length c2, .slice o3 s.chans.length c3, .slice o4 s.sent.length c4, .slice o5 s.got.length c5, .slice o6 s.acks.length c6, .slice o7 s.purses.length c7] 28)).alloc (.cells #[.slice none 0 0] 51)).alloc (.cells #[.nilFunc] 85) = w1 := ⟨_, rfl⟩
  obtain ⟨w0, hw0⟩ : ∃ w0, w1.setCell ⟨w.heap.size + 1 + 1, 0, none⟩ (.func (.func 38) #[] #[.pointer (some ⟨w.heap.size + 1, 0, none⟩)]) = w0 := ⟨_, rfl⟩
  have hrn : Row w1 (w.heap.size + 1 + 1) 85 [.nilFunc] := by rw [← hw1]; exact Row.newAt _ _ _ _ (by simp)
  have hst : (store ⟨w.heap.size + 1 + 1, 0, none⟩ (.func (.func 38) #[] #[.pointer (some ⟨w.heap.size + 1, 0, none⟩)])).run Tryd.prog w1 = .ok () w0 := by
    rw [run_store Tryd.prog w1 _ _ _ rfl, hrn.cell 0]
    simp [hrn.frozen 0, hw0]
  have HB0 := hid (show Below w.heap.size w w0 by rw [← hw0, ← hw1]; exact ((((Below.refl _ _).alloc (Nat.le_refl _) _).alloc (by simp) _).alloc (by simp; omega) _).setCell (show w.heap.size ≤ w.heap.size + 1 + 1 by omega) _)
  have HRS0 := hid (show Row w0 w.heap.size 28 [.string s.name, .int .i64 s.height, .int .i64 s.time, .slice o1 s.clients.length c1, .slice o2 s.conns.length c2, .slice o3 s.chans.length c3, .slice o4 s.sent.length c4, .slice o5 s.got.length c5, .slice o6 s.acks.length c6, .slice o7 s.purses.length c7] by rw [← hw0]; exact rowS (by rw [← hw1]; exact ((Row.new _ _ _).alloc _).alloc _) (by omega))
  have HRP0 := hid (show Row w0 (w.heap.size + 1 + 1) 85 [.func (.func 38) #[] #[.pointer (some ⟨w.heap.size + 1, 0, none⟩)]] by rw [← hw0]; exact hrn.set 0 _)
  have HEN0 := hid (show Ents w0 w.heap.size N (w.heap.size + 1) [] by
    rw [← hw0]
    exact ⟨_, [], rowS (by rw [← hw1]; exact (Row.newAt _ _ _ _ (by simp)).alloc _) (by omega), RowDg.nil _ _, rfl, fun _ h => by cases h⟩)
  have HW1 := hid hw1
  rw [← hw1] at hst
  clear hw0 hw1 hrn
  go_enter Tryd.func13, Tryd.ntmps13
  go_upto_region 4 with fail
  have kconns : w0.cell? ⟨w.heap.size, 4, none⟩ = some (.slice o2 s.conns.length c2) := HRS0.out.cell 4
  go_wp2_with fail
  go_loopw [6, 7, 15] (fun _ _ i wr => ∃ k : Nat, k ≤ s.conns.length ∧ i = .int .i64 (k : Int) ∧ Hid (Ents wr w.heap.size N (w.heap.size + 1) ((s.conns.zipIdx.take k).map entCn) ∧ Below w.heap.size w wr ∧ KeptD (w.heap.size + 1) w0 wr)) (fun _ _ i _ => s.conns.length - (intOf i).toNat)
  case atStart => exact ⟨0, by omega, rfl, hid ⟨by have := HEN0.out; simpa using this, HB0.out, KeptD.refl _ _⟩⟩
  case round =>
    obtain ⟨k, hk, rfl, HT⟩ := hrel
    have HEN := hid HT.out.1
    have HBW := hid HT.out.2.1
    have HKW := hid HT.out.2.2
    have hszw := HBW.out.size
    clear HT
    by_cases hlt : k < s.conns.length
    · obtain ⟨x, hx⟩ : ∃ x, s.conns[k]? = some x := ⟨_, List.getElem?_eq_getElem hlt⟩
      obtain ⟨b, o, rfl, hcells⟩ := HM.out.conns.spot (by omega)
      obtain ⟨hbN, r, hr, hc⟩ := hcells k x hx
      subst hr
      have hbl : b < w.heap.size := by omega
      have f0 := (HBW.out.cell (p := ⟨b, o + k * 4 + 0, none⟩) hbl).trans (hc 0 _ rfl)
      have f1 := (HBW.out.cell (p := ⟨b, o + k * 4 + 1, none⟩) hbl).trans (hc 1 _ rfl)
      have f2 := (HBW.out.cell (p := ⟨b, o + k * 4 + 2, none⟩) hbl).trans (hc 2 _ rfl)
      have f3 := (HBW.out.cell (p := ⟨b, o + k * 4 + 3, none⟩) hbl).trans (hc 3 _ rfl)
      simp only [Nat.add_zero] at f0
      have hlt' : (k : Int) < (s.conns.length : Int) := by omega
      obtain ⟨w2, hw2⟩ : ∃ w2, wr.alloc (.cells #[.int .i64 x.state, .int .i64 x.client, .int .i64 x.oclient, .int .i64 x.oconn] 45) = w2 := ⟨_, rfl⟩
      have hbr2 : Below wr.heap.size wr w2 := by rw [← hw2]; exact (Below.refl _ _).alloc (Nat.le_refl _) _
      have HB2 := hid (HBW.out.trans (hbr2.mono hszw))
      have HRM := hid (show Row w2 wr.heap.size 45 [.int .i64 x.state, .int .i64 x.client, .int .i64 x.oclient, .int .i64 x.oconn] by rw [← hw2]; exact Row.new _ _ _)
      have HE2 := hid (HEN.out.below hN hszw hbr2)
      have HK2 := hid (HKW.out.trans (KeptD.of_below (go := (w.heap.size + 1)) hbr2))
      have HW2 := hid hw2
      have HWX := hid (HS.out.conns x (List.mem_of_getElem? hx))
      have HTK := hid (take_zip s.conns k x hx)
      have HLK := hid (show ((s.conns.zipIdx.take k).map entCn).length ≤ 900 by simp; omega)
      have HRP2 := hid (HRP0.out.keptD HK2.out (by omega) (by decide))
      have hgm : wr.heap.size ≠ (w.heap.size + 1) := by have := HRP0.out.lt; have := HEN.out; obtain ⟨_, _, h, _⟩ := this; have := h.lt; omega
      clear hbr2 hw2 hcells hc hx
      go_upto_region 7 with fail
      rw [HW2.out]
      refine connRegion ((s.conns.zipIdx.take k).map entCn) x k HRP2 HE2 hN (by omega) HB2.out.size (Nat.le_trans (show _ ≤ 900 + 0 by have := HLK.out; simp at this ⊢; omega) (by omega)) (hid (HTT.out _ HB2.out)) HRM HWX (by omega) _ (hid ?_)
      intro σ0 w3 hE3 hb3 hk3
      have HE3 := hid hE3
      have HB3 := hid (HB2.out.trans hb3)
      have HK3 := hid (HK2.out.trans hk3)
      have HRP3' := hid (HRP2.out.keptD hk3 (by omega) (by decide))
      have HRM3 := hid (HRM.out.keptD hk3 hgm (by decide))
      clear hE3 hb3 hk3
      go_wp2
      go_roundw
      case rel => exact ⟨k + 1, by omega, by go_num, hid ⟨by rw [HTK.out]; have := HE3.out; simpa [entCh] using this, HB3.out, HK3.out⟩⟩
      case measure => simp [intOf]; omega
    · have hge : decide ((k : Int) < (s.conns.length : Int)) = false := by simp; omega
      have HEE := hid (show s.conns.zipIdx.take k = s.conns.zipIdx from List.take_of_length_le (by simp; omega))
      have HEN1 := hid (show Ents wr w.heap.size N (w.heap.size + 1) ((s.conns.zipIdx).map entCn) by have := HEN.out; rw [HEE.out] at this; exact this)
      have HRS1 := hid (HRS0.out.keptD HKW.out (by omega) (by decide))
      have HRP1 := hid (HRP0.out.keptD HKW.out (by omega) (by decide))
      have HB1 := HBW
      clear HKW HEN HBW HEE kconns
      obtain ⟨wq, hwq⟩ : ∃ wq, wq = wr := ⟨_, rfl⟩
      subst hwq
      have kchans : wq.cell? ⟨w.heap.size, 5, none⟩ = some (.slice o3 s.chans.length c3) := HRS1.out.cell 5
      go_wp2_with fail
      go_loopw [8, 9, 30] (fun _ _ i wr => ∃ k : Nat, k ≤ s.chans.length ∧ i = .int .i64 (k : Int) ∧ Hid (Ents wr w.heap.size N (w.heap.size + 1) (s.conns.zipIdx.map entCn ++ (s.chans.zipIdx.take k).flatMap entCh) ∧ Below w.heap.size w wr ∧ KeptD (w.heap.size + 1) wq wr)) (fun _ _ i _ => s.chans.length - (intOf i).toNat)
      case atStart => exact ⟨0, by omega, rfl, hid ⟨by have := HEN1.out; simpa using this, HB1.out, KeptD.refl _ _⟩⟩
      case round =>
        obtain ⟨k, hk, rfl, HT⟩ := hrel
        have HEN := hid HT.out.1
        have HBW := hid HT.out.2.1
        have HKW := hid HT.out.2.2
        have hszw := HBW.out.size
        clear HT
        by_cases hlt : k < s.chans.length
        · obtain ⟨x, hx⟩ : ∃ x, s.chans[k]? = some x := ⟨_, List.getElem?_eq_getElem hlt⟩
          obtain ⟨b, o, rfl, hcells⟩ := HM.out.chans.spot (by omega)
          obtain ⟨hbN, r, hr, hc⟩ := hcells k x hx
          subst hr
          have hbl : b < w.heap.size := by omega
          have f0 := (HBW.out.cell (p := ⟨b, o + k * 7 + 0, none⟩) hbl).trans (hc 0 _ rfl)
          have f1 := (HBW.out.cell (p := ⟨b, o + k * 7 + 1, none⟩) hbl).trans (hc 1 _ rfl)
          have f2 := (HBW.out.cell (p := ⟨b, o + k * 7 + 2, none⟩) hbl).trans (hc 2 _ rfl)
          have f3 := (HBW.out.cell (p := ⟨b, o + k * 7 + 3, none⟩) hbl).trans (hc 3 _ rfl)
          have f4 := (HBW.out.cell (p := ⟨b, o + k * 7 + 4, none⟩) hbl).trans (hc 4 _ rfl)
          have f5 := (HBW.out.cell (p := ⟨b, o + k * 7 + 5, none⟩) hbl).trans (hc 5 _ rfl)
          have f6 := (HBW.out.cell (p := ⟨b, o + k * 7 + 6, none⟩) hbl).trans (hc 6 _ rfl)
          simp only [Nat.add_zero] at f0
          have hlt' : (k : Int) < (s.chans.length : Int) := by omega
          obtain ⟨w2, hw2⟩ : ∃ w2, wr.alloc (.cells #[.int .i64 x.state, .bool x.ordered, .int .i64 x.conn, .int .i64 x.ochan, .int .i64 x.send, .int .i64 x.recv, .int .i64 x.ack] 40) = w2 := ⟨_, rfl⟩
          have hbr2 : Below wr.heap.size wr w2 := by rw [← hw2]; exact (Below.refl _ _).alloc (Nat.le_refl _) _
          have HB2 := hid (HBW.out.trans (hbr2.mono hszw))
          have HRM := hid (show Row w2 wr.heap.size 40 [.int .i64 x.state, .bool x.ordered, .int .i64 x.conn, .int .i64 x.ochan, .int .i64 x.send, .int .i64 x.recv, .int .i64 x.ack] by rw [← hw2]; exact Row.new _ _ _)
          have HE2 := hid (HEN.out.below hN hszw hbr2)
          have HK2 := hid (HKW.out.trans (KeptD.of_below (go := (w.heap.size + 1)) hbr2))
          have HW2 := hid hw2
          have HWX := hid (HS.out.chans x (List.mem_of_getElem? hx))
          have HTK := hid (take_zip s.chans k x hx)
          have HLK := hid (show (s.conns.zipIdx.map entCn ++ (s.chans.zipIdx.take k).flatMap entCh).length ≤ 900 by (have h2 := chans_take s.chans k; simp at h2 ⊢; omega))
          have HRP2 := hid (HRP1.out.keptD HK2.out (by omega) (by decide))
          have hgm : wr.heap.size ≠ (w.heap.size + 1) := by have := HRP1.out.lt; have := HEN.out; obtain ⟨_, _, h, _⟩ := this; have := h.lt; omega
          clear hbr2 hw2 hcells hc hx
          go_upto_region 12 with fail
          rw [HW2.out]
          refine chanRegion (s.conns.zipIdx.map entCn ++ (s.chans.zipIdx.take k).flatMap entCh) x k HRP2 HE2 hN (by omega) HB2.out.size (Nat.le_trans (show _ ≤ 900 + 0 by have := HLK.out; simp at this ⊢; omega) (by omega)) (hid (HTT.out _ HB2.out)) HRM HWX (by omega) _ (hid ?_)
          intro σ0 w3 hE3 hb3 hk3
          have HE3 := hid hE3
          have HB3 := hid (HB2.out.trans hb3)
          have HK3 := hid (HK2.out.trans hk3)
          have HRP3' := hid (HRP2.out.keptD hk3 (by omega) (by decide))
          have HRM3 := hid (HRM.out.keptD hk3 hgm (by decide))
          clear hE3 hb3 hk3
          go_upto_region 13 with fail
          refine nextRegion (s.conns.zipIdx.map entCn ++ (s.chans.zipIdx.take k).flatMap entCh ++ [⟨keyL kwChan [k], chanB x, false⟩]) x k HRP3' HE3 hN (by omega) HB3.out.size (Nat.le_trans (show _ ≤ 900 + 1 by have := HLK.out; simp at this ⊢; omega) (by omega)) (hid (HTT.out _ HB3.out)) HRM3 HWX (by omega) _ (hid ?_)
          intro σ1 w4 hE3 hb3 hk3
          have HE4 := hid hE3
          have HB4 := hid (HB3.out.trans hb3)
          have HK4 := hid (HK3.out.trans hk3)
          have HRP4' := hid (HRP3'.out.keptD hk3 (by omega) (by decide))
          have HRM4 := hid (HRM3.out.keptD hk3 hgm (by decide))
          clear hE3 hb3 hk3
          go_wp2
          go_roundw
          case rel => exact ⟨k + 1, by omega, by go_num, hid ⟨by rw [HTK.out]; have := HE4.out; simpa [entCh] using this, HB4.out, HK4.out⟩⟩
          case measure => simp [intOf]; omega
        · have hge : decide ((k : Int) < (s.chans.length : Int)) = false := by simp; omega
          have HEE := hid (show s.chans.zipIdx.take k = s.chans.zipIdx from List.take_of_length_le (by simp; omega))
          have HEN2 := hid (show Ents wr w.heap.size N (w.heap.size + 1) (s.conns.zipIdx.map entCn ++ (s.chans.zipIdx).flatMap entCh) by have := HEN.out; rw [HEE.out] at this; exact this)
          have HRS2 := hid (HRS1.out.keptD HKW.out (by omega) (by decide))
          have HRP2 := hid (HRP1.out.keptD HKW.out (by omega) (by decide))
          have HB2 := HBW
          clear HKW HEN HBW HEE kchans
          have ksent : wr.cell? ⟨w.heap.size, 6, none⟩ = some (.slice o4 s.sent.length c4) := HRS2.out.cell 6
          have HPM := hid (putMarks_any ⟨#[115, 101, 110, 116]⟩ s.sent (.slice o4 s.sent.length c4) (s.conns.zipIdx.map entCn ++ s.chans.zipIdx.flatMap entCh) w.heap.size N (w.heap.size + 1) (w.heap.size + 1 + 1) wr HEN2.out HRP2.out (by omega) hN (by omega) HB2.out.size (HM.out.sent.below MkR.stays (HB2.out.mono hN)) HS.out.sent.1 (by have h2 := flat2_len s.chans 0; simp at h2 ⊢; omega) (by decide) (fun w' h => HTT.out w' (HB2.out.trans h)))
          go_wp2_with fail
          refine HPM.out.mono ?_
          rintro e m2 ⟨rfl, hE3, hb3, hk3⟩
          rw [lets_sent] at hE3
          have HEN3 := hid hE3
          have HB3 := hid (HB2.out.trans hb3)
          have HRS3 := hid (HRS2.out.keptD hk3 (by omega) (by decide))
          have HRP3 := hid (HRP2.out.keptD hk3 (by omega) (by decide))
          clear hE3 hb3 hk3 HPM ksent
          have kgot : m2.cell? ⟨w.heap.size, 7, none⟩ = some (.slice o5 s.got.length c5) := HRS3.out.cell 7
          have HPM := hid (putMarks_any ⟨#[103, 111, 116]⟩ s.got (.slice o5 s.got.length c5) (s.conns.zipIdx.map entCn ++ s.chans.zipIdx.flatMap entCh ++ s.sent.map (entMk kwSent)) w.heap.size N (w.heap.size + 1) (w.heap.size + 1 + 1) m2 HEN3.out HRP3.out (by omega) hN (by omega) HB3.out.size (HM.out.got.below MkR.stays (HB3.out.mono hN)) HS.out.got.1 (by have h2 := flat2_len s.chans 0; simp at h2 ⊢; omega) (by decide) (fun w' h => HTT.out w' (HB3.out.trans h)))
          go_wp2_with fail
          refine HPM.out.mono ?_
          rintro e m3 ⟨rfl, hE3, hb3, hk3⟩
          rw [lets_got] at hE3
          have HEN4 := hid hE3
          have HB4 := hid (HB3.out.trans hb3)
          have HRS4 := hid (HRS3.out.keptD hk3 (by omega) (by decide))
          have HRP4 := hid (HRP3.out.keptD hk3 (by omega) (by decide))
          clear hE3 hb3 hk3 HPM kgot
          have kacks : m3.cell? ⟨w.heap.size, 8, none⟩ = some (.slice o6 s.acks.length c6) := HRS4.out.cell 8
          have HPM := hid (putMarks_any ⟨#[97, 99, 107]⟩ s.acks (.slice o6 s.acks.length c6) (s.conns.zipIdx.map entCn ++ s.chans.zipIdx.flatMap entCh ++ s.sent.map (entMk kwSent) ++ s.got.map (entMk kwGot)) w.heap.size N (w.heap.size + 1) (w.heap.size + 1 + 1) m3 HEN4.out HRP4.out (by omega) hN (by omega) HB4.out.size (HM.out.acks.below MkR.stays (HB4.out.mono hN)) HS.out.acks.1 (by have h2 := flat2_len s.chans 0; simp at h2 ⊢; omega) (by decide) (fun w' h => HTT.out w' (HB4.out.trans h)))
          go_wp2_with fail
          refine HPM.out.mono ?_
          rintro e m4 ⟨rfl, hE3, hb3, hk3⟩
          rw [lets_ack] at hE3
          have HEN5 := hid hE3
          have HB5 := hid (HB4.out.trans hb3)
          have HRS5 := hid (HRS4.out.keptD hk3 (by omega) (by decide))
          have HRP5 := hid (HRP4.out.keptD hk3 (by omega) (by decide))
          clear hE3 hb3 hk3 HPM kacks
          obtain ⟨v9, ps, hr9, hrow9, hps, hok9⟩ := HEN5.out
          obtain ⟨o9, c9, rfl⟩ := hrow9.shape
          have y9 : m4.cell? ⟨w.heap.size + 1, 0, none⟩ = some (.slice o9 ps.length c9) := hr9.cell 0
          have HD := hid (show Doings m4 m4.heap.size (.slice o9 ps.length c9) (entries s) by
            have := hrow9.doings (Nat.le_refl _) (fun q hq => (hok9 q hq).ok (Nat.le_trans hN HB5.out.size))
            rw [hps] at this
            simpa [entries] using this)
          clear hr9 hrow9 hps hok9
          go_wp2
          go_ret
          exact ⟨_, rfl, HD.out, HB5.out⟩
end Go.Proofs.YtooemgkjkngpcaaDoor
