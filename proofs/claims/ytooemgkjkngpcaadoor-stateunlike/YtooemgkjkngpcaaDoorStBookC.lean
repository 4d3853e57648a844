/-
  What package state's Book answers.
-/
import Derived.Test.YtooemgkjkngpcaaDoorStWrong
import Derived.Test.YtooemgkjkngpcaaDoorStEnts
import Derived.Test.YtooemgkjkngpcaaDoorBookPlay
import Derived.Test.YtooemgkjkngpcaaDoorBookWrong
import Derived.BigQuiet
namespace Go.Proofs.YtooemgkjkngpcaaDoor
open Go.RowKit

/-- a state's book, if it is right -/
def bookR (s : St) : List Pr := if wrongS s = 0 then bookS s else []
theorem bookR_ok {s : St} (h : wrongS s = 0) : bookR s = bookS s := if_pos h
theorem bookR_no {s : St} (h : wrongS s ≠ 0) : bookR s = [] := if_neg h
theorem entries_fit {s : St} (h : Right s) : ∀ d ∈ entries s, d.fits := fun d hd => by
  have := entries_ok h d hd
  exact ⟨by have := this.1; omega, by have := this.2.1; omega⟩
theorem book_right {s : St} (h : Right s) : wrongL (bookS s) = (0, 0) := by
  obtain ⟨h1, h2, h3⟩ := book_of h
  have := playL_book _ _ h1
  exact wrongL_book _ this.1 this.2.1 this.2.2
theorem book_fit {s : St} (h : Right s) : ∀ p ∈ bookS s, p.fits := fun p hp => by
  have := (playL_book _ _ (book_of h).1).2.1 p hp
  exact ⟨by omega, by omega⟩
/-- what Book is to answer of a state -/
def StBookC (f : FuncId) : Prop := ∀ (s : St) (v : Value) (N : Nat) (w : World), StV w N v s → N ≤ w.heap.size → s.fits → powAt w →
  Calls Tryd.prog f #[v] w fun e w' => Below w.heap.size w w' ∧ ∃ o n c, e = .returned (.tuple #[.slice o n c, .int .i64 (wrongS s)]) ∧ Pairs w' w'.heap.size (.slice o n c) (bookR s)
set_option maxRecDepth 100000 in
set_option maxHeartbeats 4000000 in
theorem stBookC : StBookC 6 := by
  intro s v N w hv hN hfit hpow
  have HW1 := hid (show ∀ wx, Below w.heap.size w wx → _ from fun wx hx => stWrongC s v N wx (hv.below (hx.mono hN)) (Nat.le_trans hN hx.size) hfit)
  have HEN := hid (show Right s → ∀ wx, Below w.heap.size w wx → _ from fun hS wx hx => entries_any s v N wx (hv.below (hx.mono hN)) (Nat.le_trans hN hx.size) hS (hpow.below hx))
  obtain ⟨o1, c1, o2, c2, o3, c3, o4, c4, o5, c5, o6, c6, o7, c7, rfl, -⟩ := hv.open
  obtain ⟨w0, hw0⟩ : ∃ w0, w.alloc (.cells #[.string s.name, .int .i64 s.height, .int .i64 s.time, .slice o1 s.clients.length c1, .slice o2 s.conns.length c2, .slice o3 s.chans.length c3, .slice o4 s.sent.length c4, .slice o5 s.got.length c5, .slice o6 s.acks.length c6, .slice o7 s.purses.length c7] 28) = w0 := ⟨_, rfl⟩
  have HB0 := hid (show Below w.heap.size w w0 by rw [← hw0]; exact (Below.refl _ _).alloc (Nat.le_refl _) _)
  have HR0 := hid (show Row w0 w.heap.size 28 [.string s.name, .int .i64 s.height, .int .i64 s.time, .slice o1 s.clients.length c1, .slice o2 s.conns.length c2, .slice o3 s.chans.length c3, .slice o4 s.sent.length c4, .slice o5 s.got.length c5, .slice o6 s.acks.length c6, .slice o7 s.purses.length c7] by rw [← hw0]; exact Row.new _ _ _)
  have k0 : w0.cell? ⟨w.heap.size, 0, none⟩ = some (.string s.name) := HR0.out.cell 0
  have k1 : w0.cell? ⟨w.heap.size, 1, none⟩ = some (.int .i64 s.height) := HR0.out.cell 1
  have k2 : w0.cell? ⟨w.heap.size, 2, none⟩ = some (.int .i64 s.time) := HR0.out.cell 2
  have k3 : w0.cell? ⟨w.heap.size, 3, none⟩ = some (.slice o1 s.clients.length c1) := HR0.out.cell 3
  have k4 : w0.cell? ⟨w.heap.size, 4, none⟩ = some (.slice o2 s.conns.length c2) := HR0.out.cell 4
  have k5 : w0.cell? ⟨w.heap.size, 5, none⟩ = some (.slice o3 s.chans.length c3) := HR0.out.cell 5
  have k6 : w0.cell? ⟨w.heap.size, 6, none⟩ = some (.slice o4 s.sent.length c4) := HR0.out.cell 6
  have k7 : w0.cell? ⟨w.heap.size, 7, none⟩ = some (.slice o5 s.got.length c5) := HR0.out.cell 7
  have k8 : w0.cell? ⟨w.heap.size, 8, none⟩ = some (.slice o6 s.acks.length c6) := HR0.out.cell 8
  have k9 : w0.cell? ⟨w.heap.size, 9, none⟩ = some (.slice o7 s.purses.length c7) := HR0.out.cell 9
  have HW0 := hid hw0
  clear hv hpow hfit hw0
  go_enter Tryd.func6, Tryd.ntmps6
  go_upto_region 1 with fail
  rw [HW0.out]
  go_wp2_with fail
  refine (HW1.out _ HB0.out).mono ?_
  rintro e w1 ⟨rfl, hb1⟩
  have HB1 := hid (HB0.out.trans (hb1.mono HB0.out.size))
  have HR1 := hid (HR0.out.below hb1 HR0.out.lt)
  clear hb1 k0 k1 k2 k3 k4 k5 k6 k7 k8 k9
  by_cases hz : wrongS s = 0
  · have HZ := hid hz
    have HS := hid (wrongS_right hz)
    rw [HZ.out]
    clear hz
    have k0 : w1.cell? ⟨w.heap.size, 0, none⟩ = some (.string s.name) := HR1.out.cell 0
    have k1 : w1.cell? ⟨w.heap.size, 1, none⟩ = some (.int .i64 s.height) := HR1.out.cell 1
    have k2 : w1.cell? ⟨w.heap.size, 2, none⟩ = some (.int .i64 s.time) := HR1.out.cell 2
    have k3 : w1.cell? ⟨w.heap.size, 3, none⟩ = some (.slice o1 s.clients.length c1) := HR1.out.cell 3
    have k4 : w1.cell? ⟨w.heap.size, 4, none⟩ = some (.slice o2 s.conns.length c2) := HR1.out.cell 4
    have k5 : w1.cell? ⟨w.heap.size, 5, none⟩ = some (.slice o3 s.chans.length c3) := HR1.out.cell 5
    have k6 : w1.cell? ⟨w.heap.size, 6, none⟩ = some (.slice o4 s.sent.length c4) := HR1.out.cell 6
    have k7 : w1.cell? ⟨w.heap.size, 7, none⟩ = some (.slice o5 s.got.length c5) := HR1.out.cell 7
    have k8 : w1.cell? ⟨w.heap.size, 8, none⟩ = some (.slice o6 s.acks.length c6) := HR1.out.cell 8
    have k9 : w1.cell? ⟨w.heap.size, 9, none⟩ = some (.slice o7 s.purses.length c7) := HR1.out.cell 9
    go_wp2_with fail
    refine (HEN.out HS.out _ HB1.out).mono ?_
    rintro e w2 ⟨x, rfl, hdg, hb2⟩
    have HB2 := hid (HB1.out.trans (hb2.mono HB1.out.size))
    have HPL := hid (playC (entries s) x w2.heap.size w2 hdg (Nat.le_refl _) (by rw [entries_len]; have := HS.out.many; omega) (entries_fit HS.out))
    clear hdg hb2 k0 k1 k2 k3 k4 k5 k6 k7 k8 k9
    go_wp2_with fail
    refine HPL.out.mono ?_
    rintro e w3 ⟨hb3, ov, nv, cv, rfl, hpr⟩
    have HB3 := hid (HB2.out.trans (hb3.mono HB2.out.size))
    have hcode : pcode (entries s) = (0, 0) := by unfold pcode; rw [(book_of HS.out).1]
    rw [hcode]
    unfold faultV
    obtain ⟨w4, hw4⟩ : ∃ w4, w3.alloc (.cells #[.int .i64 0, .int .i64 0] 36) = w4 := ⟨_, rfl⟩
    have hb4 : Below w3.heap.size w3 w4 := by rw [← hw4]; exact (Below.refl _ _).alloc (Nat.le_refl _) _
    have HB4 := hid (HB3.out.trans (hb4.mono HB3.out.size))
    have q0 : w4.cell? ⟨w3.heap.size, 0, none⟩ = some (.int .i64 0) := (show Row w4 w3.heap.size 36 [.int .i64 0, .int .i64 0] by rw [← hw4]; exact Row.new _ _ _).cell 0
    have HPR := hid (show Pairs w4 w4.heap.size (.slice ov nv cv) (bookR s) by rw [bookR_ok HZ.out]; exact (hpr.below hb4).mono hb4.size)
    have HW4 := hid hw4
    clear hb3 hb4 hpr hcode hw4
    go_upto_region 5 with fail
    rw [HW4.out]
    go_quiet (fail)
    go_wp2
    go_ret2
    exact ⟨HB4.out.trans (below_drewH _ _ _), ov, nv, cv, by rw [HZ.out]; first | done | rfl, HPR.out⟩
  · have e0 : (wrongS s != 0) = true := by simpa using hz
    have HPR := hid (show Pairs w1 w1.heap.size (.slice none 0 0) (bookR s) by rw [bookR_no hz]; exact Pairs.nil _ _)
    clear hz
    generalize hzz : wrongS s = z at *
    have HZZ := hid hzz
    clear hzz
    go_wp2
    go_ret2
    exact ⟨HB1.out, none, 0, 0, by rw [HZZ.out]; first | done | rfl, HPR.out⟩
end Go.Proofs.YtooemgkjkngpcaaDoor
