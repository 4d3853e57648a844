/-
  What the law's bare answers: what is shown of a state.
-/
import Derived.Test.YtooemgkjkngpcaaDoorStBareM
import Derived.Test.YtooemgkjkngpcaaDoorRecCh
import Derived.Test.YtooemgkjkngpcaaDoorStRise
namespace Go.Proofs.YtooemgkjkngpcaaDoor
open Go.RowKit

theorem ok_chan (c : Ch) : okCh (chCells c) := ⟨rfl, fun x hx => by simp [chCells] at hx; rcases hx with rfl | rfl | rfl | rfl | rfl | rfl | rfl <;> rfl⟩
theorem rows_chans {w : World} {base : Nat} {v : Value} {l : List Ch} (h : RowCh w base v (l.map chCells)) : Many ChR 7 w w.heap.size v l := by
  refine ⟨l.map chCells, by simp, h.recs, fun i r x hr hx => ?_⟩
  rw [List.getElem?_map, hx] at hr
  exact (show r = chCells x by simpa using hr.symm)
theorem rowG {w w' : World} {g : Nat} {t : TypeId} {cs : List Value} {row : Option Nat} (h : Row w g t cs) (hg : w.grownBy w' row) (hne : some g ≠ row) : Row w' g t cs := by
  have hl := h.lt
  unfold Row at *
  rw [hg.block g hl hne]
  exact h
set_option maxRecDepth 100000 in
set_option maxHeartbeats 8000000 in
theorem bare_any (s : St) (N : Nat) (w : World) (hN : N ≤ w.heap.size) (o1 o2 o3 o4 o5 o6 o7 : Option Addr) (c1 c2 c3 c4 c5 c6 c7 : Nat) (hm : StMem w N s (.slice o1 s.clients.length c1) (.slice o2 s.conns.length c2) (.slice o3 s.chans.length c3) (.slice o4 s.sent.length c4) (.slice o5 s.got.length c5) (.slice o6 s.acks.length c6) (.slice o7 s.purses.length c7)) (hl : s.chans.length ≤ 8) :
    Calls Tryd.prog 9 #[.agg #[.string s.name, .int .i64 s.height, .int .i64 s.time, .slice o1 s.clients.length c1, .slice o2 s.conns.length c2, .slice o3 s.chans.length c3, .slice o4 s.sent.length c4, .slice o5 s.got.length c5, .slice o6 s.acks.length c6, .slice o7 s.purses.length c7]] w fun e w' => Below w.heap.size w w' ∧ ∃ o8 c8, e = .returned (.agg #[.string ⟨#[]⟩, .int .i64 0, .int .i64 0, .slice none 0 0, .slice o2 s.conns.length c2, .slice o8 s.chans.length c8, .slice o4 s.sent.length c4, .slice o5 s.got.length c5, .slice o6 s.acks.length c6, .slice none 0 0]) ∧ BareM w' w'.heap.size s (.slice o2 s.conns.length c2) (.slice o8 s.chans.length c8) (.slice o4 s.sent.length c4) (.slice o5 s.got.length c5) (.slice o6 s.acks.length c6) := by
  have HM := hid hm
  clear hm
  obtain ⟨w0, hw0⟩ : ∃ w0, ((w.alloc (.cells #[.string s.name, .int .i64 s.height, .int .i64 s.time, .slice o1 s.clients.length c1, .slice o2 s.conns.length c2, .slice o3 s.chans.length c3, .slice o4 s.sent.length c4, .slice o5 s.got.length c5, .slice o6 s.acks.length c6, .slice o7 s.purses.length c7] 28)).alloc (.cells #[.string ⟨#[]⟩, .int .i64 0, .int .i64 0, .slice none 0 0, .slice none 0 0, .slice none 0 0, .slice none 0 0, .slice none 0 0, .slice none 0 0, .slice none 0 0] 28)).alloc (.cells #[.string ⟨#[]⟩, .int .i64 0, .int .i64 0, .slice none 0 0, .slice o2 s.conns.length c2, .slice none 0 0, .slice o4 s.sent.length c4, .slice o5 s.got.length c5, .slice o6 s.acks.length c6, .slice none 0 0] 28) = w0 := ⟨_, rfl⟩
  have HB0 := hid (show Below w.heap.size w w0 by rw [← hw0]; exact (((Below.refl _ _).alloc (Nat.le_refl _) _).alloc (by simp) _).alloc (by simp; omega) _)
  obtain ⟨w00, hw00⟩ : ∃ w00, (w.alloc (.cells #[.string s.name, .int .i64 s.height, .int .i64 s.time, .slice o1 s.clients.length c1, .slice o2 s.conns.length c2, .slice o3 s.chans.length c3, .slice o4 s.sent.length c4, .slice o5 s.got.length c5, .slice o6 s.acks.length c6, .slice o7 s.purses.length c7] 28)).alloc (.cells #[.string ⟨#[]⟩, .int .i64 0, .int .i64 0, .slice none 0 0, .slice none 0 0, .slice none 0 0, .slice none 0 0, .slice none 0 0, .slice none 0 0, .slice none 0 0] 28) = w00 := ⟨_, rfl⟩
  have HR00 := hid (show Row w00 (w.heap.size) 28 [.string s.name, .int .i64 s.height, .int .i64 s.time, .slice o1 s.clients.length c1, .slice o2 s.conns.length c2, .slice o3 s.chans.length c3, .slice o4 s.sent.length c4, .slice o5 s.got.length c5, .slice o6 s.acks.length c6, .slice o7 s.purses.length c7] by rw [← hw00]; exact (Row.new _ _ _).alloc _)
  have HRS0 := hid (show Row w0 (w.heap.size) 28 [.string s.name, .int .i64 s.height, .int .i64 s.time, .slice o1 s.clients.length c1, .slice o2 s.conns.length c2, .slice o3 s.chans.length c3, .slice o4 s.sent.length c4, .slice o5 s.got.length c5, .slice o6 s.acks.length c6, .slice o7 s.purses.length c7] by rw [← hw0]; exact ((Row.new _ _ _).alloc _).alloc _)
  have HRR0 := hid (show Row w0 (w.heap.size + 1) 28 [.string ⟨#[]⟩, .int .i64 0, .int .i64 0, .slice none 0 0, .slice none 0 0, .slice none 0 0, .slice none 0 0, .slice none 0 0, .slice none 0 0, .slice none 0 0] by rw [← hw0]; exact (Row.newAt _ _ _ _ (by simp)).alloc _)
  have HRO0 := hid (show Row w0 (w.heap.size + 1 + 1) 28 [.string ⟨#[]⟩, .int .i64 0, .int .i64 0, .slice none 0 0, .slice o2 s.conns.length c2, .slice none 0 0, .slice o4 s.sent.length c4, .slice o5 s.got.length c5, .slice o6 s.acks.length c6, .slice none 0 0] by rw [← hw0]; exact Row.newAt _ _ _ _ (by simp))
  have HW0 := hid (show w00.alloc (.cells #[.string ⟨#[]⟩, .int .i64 0, .int .i64 0, .slice none 0 0, .slice o2 s.conns.length c2, .slice none 0 0, .slice o4 s.sent.length c4, .slice o5 s.got.length c5, .slice o6 s.acks.length c6, .slice none 0 0] 28) = w0 by rw [← hw0, hw00])
  have HW00 := hid hw00
  have hsz00 : w00.heap.size = w.heap.size + 1 + 1 := by rw [← hw00]; simp
  clear hw0 hw00
  have k4 : w00.cell? ⟨w.heap.size, 4, none⟩ = some (.slice o2 s.conns.length c2) := HR00.out.cell 4
  have k6 : w00.cell? ⟨w.heap.size, 6, none⟩ = some (.slice o4 s.sent.length c4) := HR00.out.cell 6
  have k7 : w00.cell? ⟨w.heap.size, 7, none⟩ = some (.slice o5 s.got.length c5) := HR00.out.cell 7
  have k8 : w00.cell? ⟨w.heap.size, 8, none⟩ = some (.slice o6 s.acks.length c6) := HR00.out.cell 8
  go_enter Tryd.func9, Tryd.ntmps9
  go_upto_region 1 with fail
  rw [HW00.out]
  go_upto_region 2 with fail
  rw [HW0.out]
  clear k4 k6 k7 k8
  have k5 : w0.cell? ⟨w.heap.size, 5, none⟩ = some (.slice o3 s.chans.length c3) := HRS0.out.cell 5
  go_wp2_with fail
  go_loopw [5, 18] (fun _ i wr => ∃ k : Nat, k ≤ s.chans.length ∧ i = .int .i64 (k : Int) ∧ Hid (Below w.heap.size w wr ∧ Row wr (w.heap.size + 1) 28 [.string ⟨#[]⟩, .int .i64 0, .int .i64 0, .slice none 0 0, .slice none 0 0, .slice none 0 0, .slice none 0 0, .slice none 0 0, .slice none 0 0, .slice none 0 0] ∧ ∃ og cg, Row wr (w.heap.size + 1 + 1) 28 [.string ⟨#[]⟩, .int .i64 0, .int .i64 0, .slice none 0 0, .slice o2 s.conns.length c2, .slice og k cg, .slice o4 s.sent.length c4, .slice o5 s.got.length c5, .slice o6 s.acks.length c6, .slice none 0 0] ∧ RowCh wr w.heap.size (.slice og k cg) (((s.chans.take k).map bareCh).map chCells))) (fun _ i _ => s.chans.length - (intOf i).toNat)
  case atStart => exact ⟨0, by omega, rfl, hid ⟨HB0.out, HRR0.out, none, 0, HRO0.out, by simpa using RowCh.nil _ _⟩⟩
  case round =>
    obtain ⟨k, hk, rfl, HT⟩ := hrel
    obtain ⟨hbw, hrr, og, cg, hro, hrc⟩ := HT.out
    have HBW := hid hbw
    have HRR := hid hrr
    have HRO := hid hro
    have HRC := hid hrc
    have hszw := HBW.out.size
    have hgo := hro.lt
    clear HT hbw hrr hro hrc
    by_cases hlt : k < s.chans.length
    · obtain ⟨x, hx⟩ : ∃ x, s.chans[k]? = some x := ⟨_, List.getElem?_eq_getElem hlt⟩
      obtain ⟨b, o, rfl, hcells⟩ := HM.out.chans.spot (by omega)
      obtain ⟨hbN, r, hr, hc⟩ := hcells k x hx
      subst hr
      have hbl : b < w.heap.size := by omega
      have f0 := (HBW.out.cell (p := ⟨b, o + k * 7 + 0, none⟩) hbl).trans (hc 0 _ rfl)
      have f1 := (HBW.out.cell (p := ⟨b, o + k * 7 + 1, none⟩) hbl).trans (hc 1 _ rfl)
      have f2 := (HBW.out.cell (p := ⟨b, o + k * 7 + 2, none⟩) hbl).trans (hc 2 _ rfl)
      have f3 := (HBW.out.cell (p := ⟨b, o + k * 7 + 3, none⟩) hbl).trans (hc 3 _ rfl)
      have f4 := (HBW.out.cell (p := ⟨b, o + k * 7 + 4, none⟩) hbl).trans (hc 4 _ rfl)
      have f5 := (HBW.out.cell (p := ⟨b, o + k * 7 + 5, none⟩) hbl).trans (hc 5 _ rfl)
      have f6 := (HBW.out.cell (p := ⟨b, o + k * 7 + 6, none⟩) hbl).trans (hc 6 _ rfl)
      simp only [Nat.add_zero] at f0
      have hlt' : (k : Int) < (s.chans.length : Int) := by omega
      obtain ⟨w2, hw2⟩ : ∃ w2, wr.alloc (.cells #[.int .i64 x.state, .bool x.ordered, .int .i64 x.conn, .int .i64 x.ochan, .int .i64 x.send, .int .i64 x.recv, .int .i64 x.ack] 40) = w2 := ⟨_, rfl⟩
      have hbr2 : Below wr.heap.size wr w2 := by rw [← hw2]; exact (Below.refl _ _).alloc (Nat.le_refl _) _
      have hrx := (show Row w2 wr.heap.size 40 [.int .i64 x.state, .bool x.ordered, .int .i64 x.conn, .int .i64 x.ochan, .int .i64 x.send, .int .i64 x.recv, .int .i64 x.ack] by rw [← hw2]; exact Row.new _ _ _)
      obtain ⟨w3, hw3⟩ : ∃ w3, (w2.setCell ⟨wr.heap.size, 4, none⟩ (.int .i64 0)).setCell ⟨wr.heap.size, 6, none⟩ (.int .i64 0) = w3 := ⟨_, rfl⟩
      have hb3 : Below wr.heap.size wr w3 := by rw [← hw3]; exact (hbr2.setCell (Nat.le_refl _) _).setCell (Nat.le_refl _) _
      have HRX := hid (show Row w3 wr.heap.size 40 (chCells (bareCh x)) by rw [← hw3]; exact (hrx.set 4 _).set 6 _)
      obtain ⟨w4, hw4⟩ : ∃ w4, w3.alloc (.cells #[.int .i64 x.state, .bool x.ordered, .int .i64 x.conn, .int .i64 x.ochan, .int .i64 0, .int .i64 x.recv, .int .i64 0] 40) = w4 := ⟨_, rfl⟩
      have hb4 : Below wr.heap.size wr w4 := hb3.trans (by rw [← hw4]; exact (Below.refl _ _).alloc (show wr.heap.size ≤ w3.heap.size from hb3.size) _)
      have HSRC := hid (oneCh (show Row w4 w3.heap.size 40 (chCells (bareCh x)) by rw [← hw4]; exact Row.new _ _ _))
      have HRC4 := hid (HRC.out.below hb4)
      have HRR4 := hid (HRR.out.below hb4 HRR.out.lt)
      have HRO3 := hid (HRO.out.below hb3 HRO.out.lt)
      have HRO4 := hid (HRO.out.below hb4 HRO.out.lt)
      have HB4 := hid (HBW.out.trans (hb4.mono hszw))
      have HW2 := hid hw2
      have HW3 := hid hw3
      have HW4 := hid hw4
      have HTK := hid (show ((s.chans.take (k + 1)).map bareCh).map chCells = ((s.chans.take k).map bareCh).map chCells ++ [chCells (bareCh x)] by rw [List.take_add_one, hx]; simp)
      have HKL := hid (show (((s.chans.take k).map bareCh).map chCells).length = k by simp; omega)
      have x4 : w2.cell? ⟨wr.heap.size, 4, none⟩ = some (.int .i64 x.send) := (hid hrx).out.cell 4
      have x6 : w2.cell? ⟨wr.heap.size, 6, none⟩ = some (.int .i64 x.ack) := (hid hrx).out.cell 6
      have xf4 := (hid hrx).out.frozen 4
      have xf6 := (hid hrx).out.frozen 6
      have y0 : w3.cell? ⟨wr.heap.size, 0, none⟩ = some (.int .i64 x.state) := HRX.out.cell 0
      have y1 : w3.cell? ⟨wr.heap.size, 1, none⟩ = some (.bool x.ordered) := HRX.out.cell 1
      have y2 : w3.cell? ⟨wr.heap.size, 2, none⟩ = some (.int .i64 x.conn) := HRX.out.cell 2
      have y3 : w3.cell? ⟨wr.heap.size, 3, none⟩ = some (.int .i64 x.ochan) := HRX.out.cell 3
      have y4 : w3.cell? ⟨wr.heap.size, 4, none⟩ = some (.int .i64 0) := HRX.out.cell 4
      have y5 : w3.cell? ⟨wr.heap.size, 5, none⟩ = some (.int .i64 x.recv) := HRX.out.cell 5
      have y6 : w3.cell? ⟨wr.heap.size, 6, none⟩ = some (.int .i64 0) := HRX.out.cell 6
      have g5 : w3.cell? ⟨w.heap.size + 1 + 1, 5, none⟩ = some (.slice og k cg) := HRO3.out.cell 5
      clear hbr2 hb3 hb4 hw2 hw3 hw4 hcells hc hx hrx
      go_upto_region 5 with fail
      rw [HW2.out]
      go_upto_region 6 with fail
      rw [HW3.out]
      go_wp2_with (at_builtin; refine Hid.out ?_)
      refine hid ?_
      rw [HW4.out]
      refine wpList_appendCh rfl (.tmp 25) (.tmp 27) rfl w.heap.size (.slice og k cg) _ rfl HRC4.out _ [chCells (bareCh x)] rfl HSRC.out (fun r hr => by rw [List.mem_singleton.1 hr]; exact ok_chan _) (by have := HKL.out; simp at this ⊢; omega) HB4.out.size ?_
      intro v5 w5 hrc5 hb5 hgr5
      have hne := RowCh.apart HRC4.out HRO4.out (by decide)
      have hne2 := RowCh.apart HRC4.out HRR4.out (by decide)
      have hro5 := rowG HRO4.out hgr5 hne
      have hrr5 := rowG HRR4.out hgr5 hne2
      rw [← HTK.out] at hrc5
      obtain ⟨o5', c5', e5, -⟩ := hrc5.shape
      have hlk : (((s.chans.take (k + 1)).map bareCh).map chCells).length = k + 1 := by simp; omega
      rw [hlk] at e5
      subst e5
      have z5 : w5.cell? ⟨w.heap.size + 1 + 1, 5, none⟩ = some (.slice og k cg) := hro5.cell 5
      have zf := hro5.frozen 5
      have HB5 := hid ((HB4.out.trans hb5).setCell (p := ⟨w.heap.size + 1 + 1, 5, none⟩) (show w.heap.size ≤ w.heap.size + 1 + 1 by omega) (.slice o5' (k + 1) c5'))
      have HRO5 := hid (hro5.set 5 (.slice o5' (k + 1) c5'))
      have HRR5 := hid (rowS hrr5 (show w.heap.size + 1 ≠ w.heap.size + 1 + 1 by omega) (i := 5) (v := .slice o5' (k + 1) c5'))
      have HRC5 := hid (show RowCh (w5.setCell ⟨w.heap.size + 1 + 1, 5, none⟩ (.slice o5' (k + 1) c5')) w.heap.size (.slice o5' (k + 1) c5') (((s.chans.take (k + 1)).map bareCh).map chCells) from ⟨hrc5.1, World.ownsRow.kept hrc5.2 (row := some (w.heap.size + 1 + 1)) ⟨rfl, rfl, rfl, by simp [World.setCell], fun j _ hj => heap_setCell_other _ _ _ _ (fun e => hj (by rw [e]))⟩ (.inr (fun e => (RowCh.apart hrc5 hro5 (by decide)) e.symm))⟩)
      clear hrc5 hb5 hgr5 hne hne2 hro5 hrr5 hlk
      go_wp2
      go_roundw
      case rel => exact ⟨k + 1, by omega, by go_num, hid ⟨HB5.out, HRR5.out, o5', c5', HRO5.out, HRC5.out⟩⟩
      case measure => simp [intOf]; omega
    · have hge : decide ((k : Int) < (s.chans.length : Int)) = false := by simp; omega
      obtain rfl : k = s.chans.length := by omega
      have HCH := hid (show Many ChR 7 wr wr.heap.size (.slice og s.chans.length cg) (s.chans.map bareCh) by have := HRC.out; rw [List.take_length] at this; exact rows_chans this)
      have g0 : wr.cell? ⟨w.heap.size + 1 + 1, 0, none⟩ = some (.string ⟨#[]⟩) := HRO.out.cell 0
      have g1 : wr.cell? ⟨w.heap.size + 1 + 1, 1, none⟩ = some (.int .i64 0) := HRO.out.cell 1
      have g2 : wr.cell? ⟨w.heap.size + 1 + 1, 2, none⟩ = some (.int .i64 0) := HRO.out.cell 2
      have g3 : wr.cell? ⟨w.heap.size + 1 + 1, 3, none⟩ = some (.slice none 0 0) := HRO.out.cell 3
      have g4 : wr.cell? ⟨w.heap.size + 1 + 1, 4, none⟩ = some (.slice o2 s.conns.length c2) := HRO.out.cell 4
      have g5 : wr.cell? ⟨w.heap.size + 1 + 1, 5, none⟩ = some (.slice og s.chans.length cg) := HRO.out.cell 5
      have g6 : wr.cell? ⟨w.heap.size + 1 + 1, 6, none⟩ = some (.slice o4 s.sent.length c4) := HRO.out.cell 6
      have g7 : wr.cell? ⟨w.heap.size + 1 + 1, 7, none⟩ = some (.slice o5 s.got.length c5) := HRO.out.cell 7
      have g8 : wr.cell? ⟨w.heap.size + 1 + 1, 8, none⟩ = some (.slice o6 s.acks.length c6) := HRO.out.cell 8
      have g9 : wr.cell? ⟨w.heap.size + 1 + 1, 9, none⟩ = some (.slice none 0 0) := HRO.out.cell 9
      obtain ⟨wz, hwz⟩ : ∃ wz, wr.setRow (w.heap.size + 1) #[.string ⟨#[]⟩, .int .i64 0, .int .i64 0, .slice none 0 0, .slice o2 s.conns.length c2, .slice og s.chans.length cg, .slice o4 s.sent.length c4, .slice o5 s.got.length c5, .slice o6 s.acks.length c6, .slice none 0 0] = wz := ⟨_, rfl⟩
      have HBZ := hid (show Below w.heap.size w wz by rw [← hwz]; exact HBW.out.trans ⟨rfl, rfl, rfl, by simp, fun j hj => setRow_other wr _ j _ (by omega)⟩)
      have HRZ := hid (show Row wz (w.heap.size + 1) 28 [.string ⟨#[]⟩, .int .i64 0, .int .i64 0, .slice none 0 0, .slice o2 s.conns.length c2, .slice og s.chans.length cg, .slice o4 s.sent.length c4, .slice o5 s.got.length c5, .slice o6 s.acks.length c6, .slice none 0 0] by rw [← hwz]; exact setRow_heap wr _ _ _ _ _ HRR.out)
      have HKZ := hid (show ∀ j, j ≠ w.heap.size + 1 → wz.heap[j]? = wr.heap[j]? from fun j hj => by rw [← hwz]; exact setRow_other wr _ j _ hj)
      have HCZ := hid (show Many ChR 7 wz wz.heap.size (.slice og s.chans.length cg) (s.chans.map bareCh) by
        have h := HRC.out
        rw [List.take_length] at h
        have h2 : RowCh wz w.heap.size (.slice og s.chans.length cg) ((s.chans.map bareCh).map chCells) := ⟨h.1, by
          obtain ⟨g1, g2⟩ := h.2
          refine ⟨g1, ?_⟩
          rcases g2 with g2 | ⟨g, cap, cur, h3, h4, h5, h6⟩
          · exact .inl g2
          · refine .inr ⟨g, cap, cur, h3, h4, (HKZ.out g (fun e => ?_)).trans h5, h6⟩
            subst e
            have := HRR.out
            unfold Row at this
            rw [this] at h5
            simp at h5⟩
        exact rows_chans h2)
      have HWZ := hid hwz
      have HHZ := hid (show wr.heap[w.heap.size + 1]? = some (.cells #[.string ⟨#[]⟩, .int .i64 0, .int .i64 0, .slice none 0 0, .slice none 0 0, .slice none 0 0, .slice none 0 0, .slice none 0 0, .slice none 0 0, .slice none 0 0] 28 (0, 0)) from HRR.out)
      have HIZ := hid (show (Tryd.prog.info? 28).map (·.size) = some 10 by kernel_rfl)
      have HON := hid (show (#[.string ⟨#[]⟩, .int .i64 0, .int .i64 0, .slice none 0 0, .slice o2 s.conns.length c2, .slice og s.chans.length cg, .slice o4 s.sent.length c4, .slice o5 s.got.length c5, .slice o6 s.acks.length c6, .slice none 0 0] : Array Value).all (·.oneCell') = true by simp [Value.oneCell'])
      clear hwz
      go_wp2_with (refine wpList_store_row rfl 28 (.tmp 2) (.tmp 31) rfl (w.heap.size + 1) #[.string ⟨#[]⟩, .int .i64 0, .int .i64 0, .slice none 0 0, .slice o2 s.conns.length c2, .slice og s.chans.length cg, .slice o4 s.sent.length c4, .slice o5 s.got.length c5, .slice o6 s.acks.length c6, .slice none 0 0] rfl rfl 28 #[.string ⟨#[]⟩, .int .i64 0, .int .i64 0, .slice none 0 0, .slice none 0 0, .slice none 0 0, .slice none 0 0, .slice none 0 0, .slice none 0 0, .slice none 0 0] HHZ.out HIZ.out rfl HON.out ?_)
      rw [HWZ.out]
      have y0 := HRZ.out.cell 0
      simp at y0
      have y1 := HRZ.out.cell 1
      simp at y1
      have y2 := HRZ.out.cell 2
      simp at y2
      have y3 := HRZ.out.cell 3
      simp at y3
      have y4 := HRZ.out.cell 4
      simp at y4
      have y5 := HRZ.out.cell 5
      simp at y5
      have y6 := HRZ.out.cell 6
      simp at y6
      have y7 := HRZ.out.cell 7
      simp at y7
      have y8 := HRZ.out.cell 8
      simp at y8
      have y9 := HRZ.out.cell 9
      simp at y9
      refine bodyPost_ret (v := .agg #[.string ⟨#[]⟩, .int .i64 0, .int .i64 0, .slice none 0 0, .slice o2 s.conns.length c2, .slice og s.chans.length cg, .slice o4 s.sent.length c4, .slice o5 s.got.length c5, .slice o6 s.acks.length c6, .slice none 0 0]) ?_ rfl ⟨HBZ.out, og, cg, rfl, ?_⟩
      · simp [results, Tryd.results9, go_sem, y0, y1, y2, y3, y4, y5, y6, y7, y8, y9]
      · exact ⟨(HM.out.conns.below CnR.stays (HBZ.out.mono hN)).mono CnR.stays (Nat.le_trans hN HBZ.out.size), HCZ.out, (HM.out.sent.below MkR.stays (HBZ.out.mono hN)).mono MkR.stays (Nat.le_trans hN HBZ.out.size), (HM.out.got.below MkR.stays (HBZ.out.mono hN)).mono MkR.stays (Nat.le_trans hN HBZ.out.size), (HM.out.acks.below MkR.stays (HBZ.out.mono hN)).mono MkR.stays (Nat.le_trans hN HBZ.out.size)⟩
end Go.Proofs.YtooemgkjkngpcaaDoor
