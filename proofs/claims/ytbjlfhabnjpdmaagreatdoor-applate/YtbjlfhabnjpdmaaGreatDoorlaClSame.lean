/-
  What the document's Same answers of one client that lies in two places.
-/
import Derived.Test.YtbjlfhabnjpdmaaGreatDoorlaClMem
import Derived.Test.YtbjlfhabnjpdmaaGreatDoorlaSameB
import Derived.Test.YtbjlfhabnjpdmaaGreatDoorlaHdMems
import Derived.Deep.RegionHeld3
import Derived.Deep.RegionWith
namespace Go.Proofs.YtbjlfhabnjpdmaaGreatDoor
open Go.RowKit

set_option maxRecDepth 100000 in
set_option maxHeartbeats 4000000 in
theorem sameCl_any (c : Cl) (va vb : Value) (N : Nat) (w : World) (hN : N ≤ w.heap.size) (ha : ClV w N va c) (hb : ClV w N vb c) (hf : c.fits) :
    Calls Tryz.prog 24 #[va, vb] w fun e w' => e = .returned (.bool true) ∧ Below w.heap.size w w' := by
  obtain ⟨kv, rfl, hk⟩ := ha
  obtain ⟨oa, ca, rfl, _⟩ := hk.shape
  obtain ⟨kv', rfl, hk'⟩ := hb
  obtain ⟨ob, cb, rfl, _⟩ := hk'.shape
  obtain ⟨f1, f2, f3⟩ := hf
  obtain ⟨w0, hw0⟩ : ∃ w0, (w.alloc (.cells #[.string c.chain, .int .i64 c.trust, .bool c.frozen, .slice oa c.known.length ca] 79)).alloc (.cells #[.string c.chain, .int .i64 c.trust, .bool c.frozen, .slice ob c.known.length cb] 79) = w0 := ⟨_, rfl⟩
  have HB0 := hid (show Below w.heap.size w w0 by rw [← hw0]; exact ((Below.refl _ _).alloc (Nat.le_refl _) _).alloc (by simp) _)
  have HRA := hid (show Row w0 w.heap.size 79 [.string c.chain, .int .i64 c.trust, .bool c.frozen, .slice oa c.known.length ca] by rw [← hw0]; exact (Row.new _ _ _).alloc _)
  have HRB := hid (show Row w0 (w.heap.size + 1) 79 [.string c.chain, .int .i64 c.trust, .bool c.frozen, .slice ob c.known.length cb] by rw [← hw0]; exact Row.newAt _ _ _ _ (by simp))
  obtain ⟨⟨a0, a1, a2, a3⟩, _⟩ := HRA.out.four
  obtain ⟨⟨b0, b1, b2', b3⟩, _⟩ := HRB.out.four
  have HA := hid hk
  have HB := hid hk'
  have HF := hid f3
  have HW0 := hid hw0
  have q1 : (c.chain.toList == c.chain.toList) = true := by simp
  have q1' : (c.chain.toList != c.chain.toList) = false := by simp
  have q2 : (c.trust != c.trust) = false := by simp
  have q3 : (c.frozen != c.frozen) = false := by simp
  clear hk hk' f3 hw0
  generalize hl : c.known = l at *
  clear hl
  generalize hn : l.length = n at *
  have HN := hid hn
  clear hn
  have q4 : ((n : Int) != (n : Int)) = false := by simp
  go_enter Tryz.func24, Tryz.ntmps24
  go_wp2_with fail
  rw [HW0.out]
  go_loopw [5, 6, 7, 39] (fun _ _ _ i wr => ∃ k : Nat, k ≤ n ∧ i = .int .i64 (k : Int) ∧ Hid (Below w0.heap.size w0 wr)) (fun _ _ _ i _ => n - (intOf i).toNat)
  case atStart => exact ⟨0, by omega, rfl, hid (Below.refl _ _)⟩
  case round =>
    obtain ⟨k, hk, rfl, HT⟩ := hrel
    have HBW := hid (HB0.out.trans (HT.out.mono HB0.out.size))
    by_cases hlt : k < n
    · obtain ⟨x, hx0⟩ : ∃ x, l[k]? = some x := ⟨l[k]'(by rw [HN.out]; exact hlt), List.getElem?_eq_getElem _⟩
      obtain ⟨b, o, rfl, hcells⟩ := HA.out.spot (by omega)
      obtain ⟨b2, q2, rfl, hcells2⟩ := HB.out.spot (by omega)
      obtain ⟨hbN, vr, vn, d0, d1, d2, d3, g2, g3⟩ := hcells k x hx0
      obtain ⟨o3, c3, rfl, _⟩ := g2.shape
      obtain ⟨o4, c4, rfl, _⟩ := g3.shape
      obtain ⟨hbN2, vr, vn, e0, e1, e2, e3, h2, h3⟩ := hcells2 k x hx0
      obtain ⟨p3, d3', rfl, _⟩ := h2.shape
      obtain ⟨p4, d4, rfl, _⟩ := h3.shape
      have hbl : b < w.heap.size := by omega
      have hbl2 : b2 < w.heap.size := by omega
      have hlt' : (k : Int) < (n : Int) := by omega
      have HBC := hid (show ∀ wx, Below w0.heap.size w0 wx → (((wx.cell? ⟨w.heap.size, 3, none⟩ = some (.slice (some ⟨b, o, none⟩) n ca)) ∧ (wx.cell? ⟨w.heap.size + 1, 3, none⟩ = some (.slice (some ⟨b2, q2, none⟩) n cb))) ∧ ((wx.cell? ⟨b, o + k * 4, none⟩ = some (.int .i64 x.height)) ∧ ((wx.cell? ⟨b, o + k * 4 + 1, none⟩ = some (.int .i64 x.time)) ∧ (wx.cell? ⟨b, o + k * 4 + 2, none⟩ = some (.slice o3 x.root.length c3))))) ∧ (((wx.cell? ⟨b, o + k * 4 + 3, none⟩ = some (.slice o4 x.next.length c4)) ∧ (wx.cell? ⟨b2, q2 + k * 4, none⟩ = some (.int .i64 x.height))) ∧ ((wx.cell? ⟨b2, q2 + k * 4 + 1, none⟩ = some (.int .i64 x.time)) ∧ ((wx.cell? ⟨b2, q2 + k * 4 + 2, none⟩ = some (.slice p3 x.root.length d3')) ∧ (wx.cell? ⟨b2, q2 + k * 4 + 3, none⟩ = some (.slice p4 x.next.length d4))))) from fun wx hx => by
        have hxw := HB0.out.trans (hx.mono HB0.out.size)
        exact ⟨⟨⟨(HRA.out.below hx HRA.out.lt).cell 3, (HRB.out.below hx HRB.out.lt).cell 3⟩, ⟨(hxw.cell (p := ⟨b, o + k * 4, none⟩) hbl).trans d0, ⟨(hxw.cell (p := ⟨b, o + k * 4 + 1, none⟩) hbl).trans d1, (hxw.cell (p := ⟨b, o + k * 4 + 2, none⟩) hbl).trans d2⟩⟩⟩, ⟨⟨(hxw.cell (p := ⟨b, o + k * 4 + 3, none⟩) hbl).trans d3, (hxw.cell (p := ⟨b2, q2 + k * 4, none⟩) hbl2).trans e0⟩, ⟨(hxw.cell (p := ⟨b2, q2 + k * 4 + 1, none⟩) hbl2).trans e1, ⟨(hxw.cell (p := ⟨b2, q2 + k * 4 + 2, none⟩) hbl2).trans e2, (hxw.cell (p := ⟨b2, q2 + k * 4 + 3, none⟩) hbl2).trans e3⟩⟩⟩⟩)
      have s0 := HBC.out wr HT.out
      have m1 : w.heap.size < wr.heap.size := Nat.lt_of_lt_of_le HRA.out.lt HT.out.size
      have m2 : w.heap.size + 1 < wr.heap.size := Nat.lt_of_lt_of_le HRB.out.lt HT.out.size
      have n1 : wr.heap.size ≠ w.heap.size := by omega
      have n2 : wr.heap.size ≠ w.heap.size + 1 := by omega
      have n3 : wr.heap.size ≠ b := by omega
      have n4 : wr.heap.size ≠ b2 := by omega
      have n5 : wr.heap.size + 1 ≠ w.heap.size := by omega
      have n6 : wr.heap.size + 1 ≠ w.heap.size + 1 := by omega
      have n7 : wr.heap.size + 1 ≠ b := by omega
      have n8 : wr.heap.size + 1 ≠ b2 := by omega
      have HSM1 := hid (show ∀ wx, Below w0.heap.size w0 wx → Calls Tryz.prog 92 #[.slice o3 x.root.length c3, .slice p3 x.root.length d3'] wx fun e w' => e = .returned (.bool true) ∧ Below wx.heap.size wx w' from fun wx hx => by
        have hxw := (HB0.out.trans (hx.mono HB0.out.size)).mono hN
        refine (sameB_any x.root x.root _ _ N N wx (g2.below hxw) (h2.below hxw) (by have := (HF.out x (List.mem_of_getElem? hx0)).1; omega) (by have := (HF.out x (List.mem_of_getElem? hx0)).1; omega)).mono ?_
        rintro e w' ⟨rfl, q, rfl⟩
        exact ⟨by simp, below_drewH _ _ _⟩)
      have HSM2 := hid (show ∀ wx, Below w0.heap.size w0 wx → Calls Tryz.prog 92 #[.slice o4 x.next.length c4, .slice p4 x.next.length d4] wx fun e w' => e = .returned (.bool true) ∧ Below wx.heap.size wx w' from fun wx hx => by
        have hxw := (HB0.out.trans (hx.mono HB0.out.size)).mono hN
        refine (sameB_any x.next x.next _ _ N N wx (g3.below hxw) (h3.below hxw) (by have := (HF.out x (List.mem_of_getElem? hx0)).2; omega) (by have := (HF.out x (List.mem_of_getElem? hx0)).2; omega)).mono ?_
        rintro e w' ⟨rfl, q, rfl⟩
        exact ⟨by simp, below_drewH _ _ _⟩)
      have t1 : (x.height != x.height) = false := by simp
      have t2 : (x.time != x.time) = false := by simp
      clear hcells hcells2 d0 d1 d2 d3 e0 e1 e2 e3 g2 g3 h2 h3 hx0 a0 a1 a2 a3 b0 b1 b2' b3
      go_wp2_with fail
      go_region_held3 (fun W => (((W.cell? ⟨w.heap.size, 3, none⟩ = some (.slice (some ⟨b, o, none⟩) n ca)) ∧ (W.cell? ⟨w.heap.size + 1, 3, none⟩ = some (.slice (some ⟨b2, q2, none⟩) n cb))) ∧ ((W.cell? ⟨b, o + k * 4, none⟩ = some (.int .i64 x.height)) ∧ ((W.cell? ⟨b, o + k * 4 + 1, none⟩ = some (.int .i64 x.time)) ∧ (W.cell? ⟨b, o + k * 4 + 2, none⟩ = some (.slice o3 x.root.length c3))))) ∧ (((W.cell? ⟨b, o + k * 4 + 3, none⟩ = some (.slice o4 x.next.length c4)) ∧ (W.cell? ⟨b2, q2 + k * 4, none⟩ = some (.int .i64 x.height))) ∧ ((W.cell? ⟨b2, q2 + k * 4 + 1, none⟩ = some (.int .i64 x.time)) ∧ ((W.cell? ⟨b2, q2 + k * 4 + 2, none⟩ = some (.slice p3 x.root.length d3')) ∧ (W.cell? ⟨b2, q2 + k * 4 + 3, none⟩ = some (.slice p4 x.next.length d4)))))) (first | assumption | go_keep) (fail)
      · obtain ⟨w5, hw5⟩ : ∃ w5, ((wr.alloc (.cells #[.int .i64 x.height, .int .i64 x.time, .slice o3 x.root.length c3, .slice o4 x.next.length c4] 31)).alloc (.cells #[.int .i64 x.height, .int .i64 x.time, .slice p3 x.root.length d3', .slice p4 x.next.length d4] 31)).drew = w5 := ⟨_, rfl⟩
        have HB5 := hid (show Below w0.heap.size w0 w5 by rw [← hw5]; exact ((HT.out.alloc HT.out.size _).alloc (by have := HT.out.size; simp; omega) _).drew)
        have HR5 := hid (show Row w5 wr.heap.size 31 [.int .i64 x.height, .int .i64 x.time, .slice o3 x.root.length c3, .slice o4 x.next.length c4] by rw [← hw5]; exact ((Row.new _ _ _).alloc _).drew)
        have HS5 := hid (show Row w5 (wr.heap.size + 1) 31 [.int .i64 x.height, .int .i64 x.time, .slice p3 x.root.length d3', .slice p4 x.next.length d4] by rw [← hw5]; exact (Row.newAt _ _ _ _ (by simp)).drew)
        rw [hw5]
        clear hw5 s0 m1 m2 n1 n2 n3 n4 n5 n6 n7 n8
        obtain ⟨⟨x0, x1, x2, x3⟩, _⟩ := HR5.out.four
        obtain ⟨⟨y0, y1, y2, y3⟩, _⟩ := HS5.out.four
        go_wp2_with fail
        refine (HSM1.out _ HB5.out).mono ?_
        rintro e w6 ⟨rfl, hb6⟩
        have HB6 := hid (HB5.out.trans (hb6.mono HB5.out.size))
        have HR6 := hid (HR5.out.below hb6 HR5.out.lt)
        have HS6 := hid (HS5.out.below hb6 HS5.out.lt)
        clear hb6 x0 x1 x2 x3 y0 y1 y2 y3
        obtain ⟨⟨x0, x1, x2, x3⟩, _⟩ := HR6.out.four
        obtain ⟨⟨y0, y1, y2, y3⟩, _⟩ := HS6.out.four
        go_wp2_with fail
        refine (HSM2.out _ HB6.out).mono ?_
        rintro e w7 ⟨rfl, hb7⟩
        have HB7 := hid (HB6.out.trans (hb7.mono HB6.out.size))
        clear hb7 x0 x1 x2 x3 y0 y1 y2 y3
        go_wp2
        go_roundw
        case rel => exact ⟨k + 1, by omega, by go_num, hid HB7.out⟩
        case measure => simp [intOf]; omega
      · obtain ⟨w5, hw5⟩ : ∃ w5, ((wr.alloc (.cells #[.int .i64 x.height, .int .i64 x.time, .slice p3 x.root.length d3', .slice p4 x.next.length d4] 31)).alloc (.cells #[.int .i64 x.height, .int .i64 x.time, .slice o3 x.root.length c3, .slice o4 x.next.length c4] 31)).drew = w5 := ⟨_, rfl⟩
        have HB5 := hid (show Below w0.heap.size w0 w5 by rw [← hw5]; exact ((HT.out.alloc HT.out.size _).alloc (by have := HT.out.size; simp; omega) _).drew)
        have HR5 := hid (show Row w5 wr.heap.size 31 [.int .i64 x.height, .int .i64 x.time, .slice p3 x.root.length d3', .slice p4 x.next.length d4] by rw [← hw5]; exact ((Row.new _ _ _).alloc _).drew)
        have HS5 := hid (show Row w5 (wr.heap.size + 1) 31 [.int .i64 x.height, .int .i64 x.time, .slice o3 x.root.length c3, .slice o4 x.next.length c4] by rw [← hw5]; exact (Row.newAt _ _ _ _ (by simp)).drew)
        rw [hw5]
        clear hw5 s0 m1 m2 n1 n2 n3 n4 n5 n6 n7 n8
        obtain ⟨⟨x0, x1, x2, x3⟩, _⟩ := HR5.out.four
        obtain ⟨⟨y0, y1, y2, y3⟩, _⟩ := HS5.out.four
        go_wp2_with fail
        refine (HSM1.out _ HB5.out).mono ?_
        rintro e w6 ⟨rfl, hb6⟩
        have HB6 := hid (HB5.out.trans (hb6.mono HB5.out.size))
        have HR6 := hid (HR5.out.below hb6 HR5.out.lt)
        have HS6 := hid (HS5.out.below hb6 HS5.out.lt)
        clear hb6 x0 x1 x2 x3 y0 y1 y2 y3
        obtain ⟨⟨x0, x1, x2, x3⟩, _⟩ := HR6.out.four
        obtain ⟨⟨y0, y1, y2, y3⟩, _⟩ := HS6.out.four
        go_wp2_with fail
        refine (HSM2.out _ HB6.out).mono ?_
        rintro e w7 ⟨rfl, hb7⟩
        have HB7 := hid (HB6.out.trans (hb7.mono HB6.out.size))
        clear hb7 x0 x1 x2 x3 y0 y1 y2 y3
        go_wp2
        go_roundw
        case rel => exact ⟨k + 1, by omega, by go_num, hid HB7.out⟩
        case measure => simp [intOf]; omega
    · have hge : decide ((k : Int) < (n : Int)) = false := by simp; omega
      go_wp2
      go_ret
      exact ⟨rfl, HBW.out⟩
end Go.Proofs.YtbjlfhabnjpdmaaGreatDoor
