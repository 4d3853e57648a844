/-
  StateBook returns true, whatever a state reads as.
-/
import Derived.Test.YtooemgkjkngpcaaDoorStAlive
namespace Go.Proofs.YtooemgkjkngpcaaDoor
open Go.RowKit

theorem field_faultS (w : World) : (Instr.field 36 (.agg #[.int .i64 0, .int .i64 0]) 0).run Tryd.prog w = .ok (.int .i64 0) w := by kernel_rfl
set_option maxRecDepth 100000 in
set_option maxHeartbeats 8000000 in
theorem stateBook_any (s : St) (v : Value) (N : Nat) (w : World) (hpow : powAt w) (hN : N ≤ w.heap.size) (hv : StV w N v s) (hfit : s.fits) :
    Calls Tryd.prog 3 #[v] w fun e w' => e = .returned (.bool true) ∧ Below w.heap.size w w' := by
  have HW1 := hid (show ∀ wx, Below w.heap.size w wx → _ from fun wx hx => stWrongC s v N wx (hv.below (hx.mono hN)) (Nat.le_trans hN hx.size) hfit)
  have HBK := hid (show ∀ wx, Below w.heap.size w wx → _ from fun wx hx => stBookC s v N wx (hv.below (hx.mono hN)) (Nat.le_trans hN hx.size) hfit (hpow.below hx))
  obtain ⟨o1, c1, o2, c2, o3, c3, o4, c4, o5, c5, o6, c6, o7, c7, rfl, -⟩ := hv.open
  obtain ⟨w0, hw0⟩ : ∃ w0, w.alloc (.cells #[.string s.name, .int .i64 s.height, .int .i64 s.time, .slice o1 s.clients.length c1, .slice o2 s.conns.length c2, .slice o3 s.chans.length c3, .slice o4 s.sent.length c4, .slice o5 s.got.length c5, .slice o6 s.acks.length c6, .slice o7 s.purses.length c7] 28) = w0 := ⟨_, rfl⟩
  have hb0 : Below w.heap.size w w0 := by rw [← hw0]; exact (Below.refl _ _).alloc (Nat.le_refl _) _
  have HB0 := hid hb0
  have HR0 := hid (show Row w0 w.heap.size 28 [.string s.name, .int .i64 s.height, .int .i64 s.time, .slice o1 s.clients.length c1, .slice o2 s.conns.length c2, .slice o3 s.chans.length c3, .slice o4 s.sent.length c4, .slice o5 s.got.length c5, .slice o6 s.acks.length c6, .slice o7 s.purses.length c7] by rw [← hw0]; exact Row.new _ _ _)
  have HAL := hid (alive8_any w0 (hpow.below hb0))
  have HW0 := hid hw0
  clear hv hpow hfit hw0 hb0
  go_enter Tryd.func3, Tryd.ntmps3
  go_upto_region 1 with fail
  rw [HW0.out]
  go_wp2_with fail
  refine HAL.out.mono ?_
  rintro e w1 ⟨rfl, hb1⟩
  have HB1 := hid (HB0.out.trans (hb1.mono HB0.out.size))
  have HR1 := hid (HR0.out.below hb1 HR0.out.lt)
  clear hb1
  have k0 : w1.cell? ⟨w.heap.size, 0, none⟩ = some (.string s.name) := HR1.out.cell 0
  have k1 : w1.cell? ⟨w.heap.size, 1, none⟩ = some (.int .i64 s.height) := HR1.out.cell 1
  have k2 : w1.cell? ⟨w.heap.size, 2, none⟩ = some (.int .i64 s.time) := HR1.out.cell 2
  have k3 : w1.cell? ⟨w.heap.size, 3, none⟩ = some (.slice o1 s.clients.length c1) := HR1.out.cell 3
  have k4 : w1.cell? ⟨w.heap.size, 4, none⟩ = some (.slice o2 s.conns.length c2) := HR1.out.cell 4
  have k5 : w1.cell? ⟨w.heap.size, 5, none⟩ = some (.slice o3 s.chans.length c3) := HR1.out.cell 5
  have k6 : w1.cell? ⟨w.heap.size, 6, none⟩ = some (.slice o4 s.sent.length c4) := HR1.out.cell 6
  have k7 : w1.cell? ⟨w.heap.size, 7, none⟩ = some (.slice o5 s.got.length c5) := HR1.out.cell 7
  have k8 : w1.cell? ⟨w.heap.size, 8, none⟩ = some (.slice o6 s.acks.length c6) := HR1.out.cell 8
  have k9 : w1.cell? ⟨w.heap.size, 9, none⟩ = some (.slice o7 s.purses.length c7) := HR1.out.cell 9
  go_wp2_with fail
  refine (HBK.out _ HB1.out).mono ?_
  rintro e w2 ⟨hb2, ob, nb, cb, rfl, hpr⟩
  have HB2 := hid (HB1.out.trans (hb2.mono HB1.out.size))
  have HR2 := hid (HR1.out.below hb2 HR1.out.lt)
  obtain ⟨oc, cc, e1, -⟩ := hpr.shape
  simp at e1
  obtain ⟨rfl, hnb, rfl⟩ := e1
  have HNB := hid hnb
  have HPR := hid hpr
  clear hb2 hnb hpr k0 k1 k2 k3 k4 k5 k6 k7 k8 k9
  by_cases hz : wrongS s = 0
  · have HZ := hid hz
    have HS := hid (wrongS_right hz)
    rw [HZ.out]
    clear hz
    have HLEN := hid (show nb = s.conns.length + 2 * s.chans.length + s.sent.length + s.got.length + s.acks.length by rw [HNB.out, bookR_ok HZ.out, book_len HS.out])
    have hmany := HS.out.many
    have HWB := hid (wrongC (bookS s) (.slice ob nb cb) w2.heap.size w2 (by have := HPR.out; rw [bookR_ok HZ.out] at this; exact this) (Nat.le_refl _) (by rw [book_len HS.out]; omega) (book_fit HS.out))
    rw [book_right HS.out] at HWB
    unfold faultV at HWB
    go_wp2_with fail
    refine HWB.out.mono ?_
    rintro e w3 ⟨hb3, rfl⟩
    have HB3 := hid (HB2.out.trans (hb3.mono HB2.out.size))
    have HR3 := hid (HR2.out.below hb3 HR2.out.lt)
    clear hb3
    have k0 : w3.cell? ⟨w.heap.size, 0, none⟩ = some (.string s.name) := HR3.out.cell 0
    have k1 : w3.cell? ⟨w.heap.size, 1, none⟩ = some (.int .i64 s.height) := HR3.out.cell 1
    have k2 : w3.cell? ⟨w.heap.size, 2, none⟩ = some (.int .i64 s.time) := HR3.out.cell 2
    have k3 : w3.cell? ⟨w.heap.size, 3, none⟩ = some (.slice o1 s.clients.length c1) := HR3.out.cell 3
    have k4 : w3.cell? ⟨w.heap.size, 4, none⟩ = some (.slice o2 s.conns.length c2) := HR3.out.cell 4
    have k5 : w3.cell? ⟨w.heap.size, 5, none⟩ = some (.slice o3 s.chans.length c3) := HR3.out.cell 5
    have k6 : w3.cell? ⟨w.heap.size, 6, none⟩ = some (.slice o4 s.sent.length c4) := HR3.out.cell 6
    have k7 : w3.cell? ⟨w.heap.size, 7, none⟩ = some (.slice o5 s.got.length c5) := HR3.out.cell 7
    have k8 : w3.cell? ⟨w.heap.size, 8, none⟩ = some (.slice o6 s.acks.length c6) := HR3.out.cell 8
    have k9 : w3.cell? ⟨w.heap.size, 9, none⟩ = some (.slice o7 s.purses.length c7) := HR3.out.cell 9
    have g1 : IntKind.i64.wrap (2 * (s.chans.length : Int)) = 2 * (s.chans.length : Int) := by rw [IntKind.wrap_i64]; omega
    have g2 : IntKind.i64.wrap ((s.conns.length : Int) + 2 * (s.chans.length : Int)) = (s.conns.length : Int) + 2 * (s.chans.length : Int) := by rw [IntKind.wrap_i64]; omega
    have g3 : IntKind.i64.wrap ((s.conns.length : Int) + 2 * (s.chans.length : Int) + (s.sent.length : Int)) = (s.conns.length : Int) + 2 * (s.chans.length : Int) + (s.sent.length : Int) := by rw [IntKind.wrap_i64]; omega
    have g4 : IntKind.i64.wrap ((s.conns.length : Int) + 2 * (s.chans.length : Int) + (s.sent.length : Int) + (s.got.length : Int)) = (s.conns.length : Int) + 2 * (s.chans.length : Int) + (s.sent.length : Int) + (s.got.length : Int) := by rw [IntKind.wrap_i64]; omega
    have g5 : IntKind.i64.wrap ((s.conns.length : Int) + 2 * (s.chans.length : Int) + (s.sent.length : Int) + (s.got.length : Int) + (s.acks.length : Int)) = (s.conns.length : Int) + 2 * (s.chans.length : Int) + (s.sent.length : Int) + (s.got.length : Int) + (s.acks.length : Int) := by rw [IntKind.wrap_i64]; omega
    have g6 : ((nb : Int) == (s.conns.length : Int) + 2 * (s.chans.length : Int) + (s.sent.length : Int) + (s.got.length : Int) + (s.acks.length : Int)) = true := by have := HLEN.out; simp; omega
    clear hmany
    have hfld := field_faultS
    go_wp2
    go_ret
    exact ⟨by first | done | rfl, HB3.out⟩
  · have e0 : (wrongS s != 0) = true := by simpa using hz
    have hn0 : nb = 0 := by rw [HNB.out, bookR_no hz]; rfl
    subst hn0
    have HZ := hid hz
    clear hz
    generalize hzz : wrongS s = z at *
    clear hzz
    have ez : (z == z) = true := by simp
    have k0 : w2.cell? ⟨w.heap.size, 0, none⟩ = some (.string s.name) := HR2.out.cell 0
    have k1 : w2.cell? ⟨w.heap.size, 1, none⟩ = some (.int .i64 s.height) := HR2.out.cell 1
    have k2 : w2.cell? ⟨w.heap.size, 2, none⟩ = some (.int .i64 s.time) := HR2.out.cell 2
    have k3 : w2.cell? ⟨w.heap.size, 3, none⟩ = some (.slice o1 s.clients.length c1) := HR2.out.cell 3
    have k4 : w2.cell? ⟨w.heap.size, 4, none⟩ = some (.slice o2 s.conns.length c2) := HR2.out.cell 4
    have k5 : w2.cell? ⟨w.heap.size, 5, none⟩ = some (.slice o3 s.chans.length c3) := HR2.out.cell 5
    have k6 : w2.cell? ⟨w.heap.size, 6, none⟩ = some (.slice o4 s.sent.length c4) := HR2.out.cell 6
    have k7 : w2.cell? ⟨w.heap.size, 7, none⟩ = some (.slice o5 s.got.length c5) := HR2.out.cell 7
    have k8 : w2.cell? ⟨w.heap.size, 8, none⟩ = some (.slice o6 s.acks.length c6) := HR2.out.cell 8
    have k9 : w2.cell? ⟨w.heap.size, 9, none⟩ = some (.slice o7 s.purses.length c7) := HR2.out.cell 9
    go_wp2_with fail
    refine (HW1.out _ HB2.out).mono ?_
    rintro e w3 ⟨rfl, hb3⟩
    have HB3 := hid (HB2.out.trans (hb3.mono HB2.out.size))
    clear hb3
    go_wp2
    go_ret
    exact ⟨by first | done | rfl, HB3.out⟩
end Go.Proofs.YtooemgkjkngpcaaDoor
