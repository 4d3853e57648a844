/-
  What the document's New, neighbour, same and Catch answer.
-/
import Derived.Test.YtiflkkelbnpniaaGreatDoorClRBel
import Derived.Test.YtiflkkelbnpniaaGreatDoorClCatch
import Derived.Test.YtiflkkelbnpniaaGreatDoorHdSame
namespace Go.Proofs.YtiflkkelbnpniaaGreatDoor
open Go.RowKit

set_option maxRecDepth 100000 in
set_option maxHeartbeats 4000000 in
theorem refNewC : NewC 9 := by
  intro ch tr k v N w hv hN hch hf
  obtain ⟨rv, nv, rfl, g1, g2⟩ := hv
  obtain ⟨o1, c1, rfl, -⟩ := g1.shape
  obtain ⟨o2, c2, rfl, -⟩ := g2.shape
  obtain ⟨w0, hw0⟩ : ∃ w0, (w.alloc (.cells #[.int .i64 k.height, .int .i64 k.time, .slice o1 k.root.length c1, .slice o2 k.next.length c2] 27)).alloc (.cells #[.string ⟨#[]⟩, .int .i64 0, .bool false, .slice none 0 0] 24) = w0 := ⟨_, rfl⟩
  have hsz0 : w0.heap.size = w.heap.size + 1 + 1 := by rw [← hw0]; simp
  have hb0 : Below w.heap.size w w0 := by rw [← hw0]; exact ((Below.refl _ _).alloc (Nat.le_refl _) _).alloc (by simp) _
  have hr0 : Row w0 w.heap.size 27 [.int .i64 k.height, .int .i64 k.time, .slice o1 k.root.length c1, .slice o2 k.next.length c2] := by rw [← hw0]; exact (Row.new _ _ _).alloc _
  have hr1 : Row w0 (w.heap.size + 1) 24 [.string ⟨#[]⟩, .int .i64 0, .bool false, .slice none 0 0] := by rw [← hw0]; exact Row.newAt _ _ _ _ (by simp)
  obtain ⟨⟨y0, y1, y2, y3⟩, -⟩ := hr0.four
  have HW0 := hid hw0
  obtain ⟨w1, hw1⟩ : ∃ w1, (w0.alloc (.cells #[.int .i64 k.height, .int .i64 k.time, .slice o1 k.root.length c1, .slice o2 k.next.length c2] 27)).alloc (.cells #[.string ch, .int .i64 tr, .bool false, .slice (some ⟨w.heap.size + 1 + 1, 0, none⟩) 1 1] 24) = w1 := ⟨_, rfl⟩
  have hb1 : Below w0.heap.size w0 w1 := by rw [← hw1]; exact ((Below.refl _ _).alloc (Nat.le_refl _) _).alloc (by simp) _
  have hbw1 : Below w.heap.size w w1 := hb0.trans (hb1.mono hb0.size)
  have hra : Row w1 (w.heap.size + 1 + 1) 27 [.int .i64 k.height, .int .i64 k.time, .slice o1 k.root.length c1, .slice o2 k.next.length c2] := by rw [← hw1]; exact (Row.newAt _ _ _ _ hsz0.symm).alloc _
  have hrb : Row w1 (w.heap.size + 1 + 1 + 1) 24 [.string ch, .int .i64 tr, .bool false, .slice (some ⟨w.heap.size + 1 + 1, 0, none⟩) 1 1] := by rw [← hw1]; exact Row.newAt _ _ _ _ (by simp [hsz0])
  have hkn : Knowns w1 w1.heap.size (.slice (some ⟨w.heap.size + 1 + 1, 0, none⟩) 1 1) [k] := ⟨[⟨k, .slice o1 k.root.length c1, .slice o2 k.next.length c2⟩], rfl, (oneKn hra).mono hra.lt, fun q hq => by
    obtain rfl : q = ⟨k, .slice o1 k.root.length c1, .slice o2 k.next.length c2⟩ := by simpa using hq
    exact ⟨(g1.below (hbw1.mono hN)).mono (Nat.le_trans hN hbw1.size), (g2.below (hbw1.mono hN)).mono (Nat.le_trans hN hbw1.size)⟩⟩
  have hfit : (newC ch tr k).fits := ⟨hch, by simp [newC], fun x hx => by
    obtain rfl : x = k := by simpa [newC] using hx
    exact hf⟩
  have HWR := hid (refClWrongC (newC ch tr k) (.agg #[.string ch, .int .i64 tr, .bool false, .slice (some ⟨w.heap.size + 1 + 1, 0, none⟩) 1 1]) w1.heap.size w1 ⟨_, rfl, hkn⟩ (Nat.le_refl _) hfit)
  have HBW1 := hid hbw1
  have HRB := hid hrb
  have HR1 := hid (hr1.below hb1 hr1.lt)
  have HKN := hid hkn
  have HW1 := hid hw1
  obtain ⟨⟨b0, b1, b2, b3⟩, -⟩ := hrb.four
  clear hw0 hw1 hb0 hb1 hr0 hr1 hbw1 hra hrb hkn hfit g1 g2 hsz0
  by_cases hc : wrongCl (newC ch tr k) = 0
  · have HNR := hid (show newR ch tr k = newC ch tr k by unfold newR; rw [if_pos hc])
    have HCZ := hid hc
    clear hc
    go_enter Tryz.func9, Tryz.ntmps9
    go_wp2_with fail
    rw [HW0.out, HW1.out]
    refine HWR.out.mono ?_
    rintro e w2 ⟨rfl, hb2⟩
    rw [HCZ.out]
    have HB2 := hid (HBW1.out.trans (hb2.mono HBW1.out.size))
    have HR2 := hid (HR1.out.below hb2 HR1.out.lt)
    have HK2 := hid ((HKN.out.below hb2).mono hb2.size)
    obtain ⟨⟨d0, d1, d2, d3⟩, -⟩ := (HRB.out.below hb2 HRB.out.lt).four
    clear hb2 b0 b1 b2 b3 y0 y1 y2 y3
    obtain ⟨⟨x0, x1, x2, x3⟩, z0, z1, z2, z3⟩ := HR2.out.four
    go_wp2
    have hrz := set4_row HR2.out (.string ch) (.int .i64 tr) (.bool false) (.slice (some ⟨w.heap.size + 1 + 1, 0, none⟩) 1 1)
    obtain ⟨⟨u0, u1, u2, u3⟩, -⟩ := hrz.four
    have hbz := set4_below HB2.out (show w.heap.size ≤ w.heap.size + 1 by omega) (.string ch) (.int .i64 tr) (.bool false) (.slice (some ⟨w.heap.size + 1 + 1, 0, none⟩) 1 1)
    have hkz := (HK2.out.cl HR2.out (set4_other w2 (w.heap.size + 1) (.string ch) (.int .i64 tr) (.bool false) (.slice (some ⟨w.heap.size + 1 + 1, 0, none⟩) 1 1))).mono (Nat.le_of_eq (set4_size w2 (w.heap.size + 1) (.string ch) (.int .i64 tr) (.bool false) (.slice (some ⟨w.heap.size + 1 + 1, 0, none⟩) 1 1)).symm)
    unfold set4 at u0 u1 u2 u3
    refine bodyPost_ret (v := .tuple #[.agg #[.string ch, .int .i64 tr, .bool false, .slice (some ⟨w.heap.size + 1 + 1, 0, none⟩) 1 1], .int .i64 0]) (by simp [results, Tryz.results9, go_sem, u0, u1, u2, u3]) rfl ⟨hbz, some ⟨w.heap.size + 1 + 1, 0, none⟩, 1, 1, ?_⟩
    rw [HNR.out, HCZ.out]
    exact ⟨rfl, hkz⟩
  · have HNR := hid (show newR ch tr k = Cl.none by unfold newR; rw [if_neg hc])
    have e1 : (wrongCl (newC ch tr k) != 0) = true := by simpa using hc
    clear hc
    generalize wrongCl (newC ch tr k) = z at *
    go_enter Tryz.func9, Tryz.ntmps9
    go_wp2_with fail
    rw [HW0.out, HW1.out]
    refine HWR.out.mono ?_
    rintro e w2 ⟨rfl, hb2⟩
    have HB2 := hid (HBW1.out.trans (hb2.mono HBW1.out.size))
    have HR2 := hid (HR1.out.below hb2 HR1.out.lt)
    clear hb2 b0 b1 b2 b3 y0 y1 y2 y3
    obtain ⟨⟨x0, x1, x2, x3⟩, z0, z1, z2, z3⟩ := HR2.out.four
    go_wp2
    have hrz := set4_row HR2.out (.string ⟨#[]⟩) (.int .i64 0) (.bool false) (.slice none 0 0)
    obtain ⟨⟨u0, u1, u2, u3⟩, -⟩ := hrz.four
    have hbz := set4_below HB2.out (show w.heap.size ≤ w.heap.size + 1 by omega) (.string ⟨#[]⟩) (.int .i64 0) (.bool false) (.slice none 0 0)
    unfold set4 at u0 u1 u2 u3
    refine bodyPost_ret (v := .tuple #[.agg #[.string ⟨#[]⟩, .int .i64 0, .bool false, .slice none 0 0], .int .i64 z]) (by simp [results, Tryz.results9, go_sem, u0, u1, u2, u3]) rfl ⟨hbz, none, 0, 0, ?_⟩
    rw [HNR.out]
    exact ⟨rfl, Knowns.nil _ _⟩
theorem nbB_take (l : List Kn) (a b : Int) (j : Nat) (k : Kn) (e : l[j]? = some k) : nbB (l.take (j + 1)) a b = (nbB (l.take j) a b && !((decide (a < k.height) && decide (k.height < b)) || (decide (b < k.height) && decide (k.height < a)))) := by
  obtain ⟨hj, rfl⟩ := List.getElem?_eq_some_iff.1 e
  unfold nbB
  rw [List.take_succ_eq_append_getElem hj, List.all_append]
  simp
theorem nbB_no {l : List Kn} {a b : Int} {k : Kn} (hk : k ∈ l) (h : ((decide (a < k.height) && decide (k.height < b)) || (decide (b < k.height) && decide (k.height < a))) = true) : nbB l a b = false := by
  unfold nbB
  rw [List.all_eq_false]
  exact ⟨k, hk, by rw [h]; decide⟩
set_option maxRecDepth 100000 in
set_option maxHeartbeats 4000000 in
theorem neighbour_any (c : Cl) (a b : Int) (v : Value) (N : Nat) (w : World) (hv : ClV w N v c) (hN : N ≤ w.heap.size) (h30 : c.known.length ≤ 30) :
    Calls Tryz.prog 38 #[v, .int .i64 a, .int .i64 b] w fun e w' => e = .returned (.bool (nbB c.known a b)) ∧ Below w.heap.size w w' := by
  obtain ⟨kv, rfl, hk⟩ := hv
  obtain ⟨oa, ca, rfl, hca⟩ := hk.shape
  have HK := hid hk
  obtain ⟨w0, hw0⟩ : ∃ w0, w.alloc (.cells #[.string c.chain, .int .i64 c.trust, .bool c.frozen, .slice oa c.known.length ca] 24) = w0 := ⟨_, rfl⟩
  have hb0 : Below w.heap.size w w0 := by rw [← hw0]; exact (Below.refl _ _).alloc (Nat.le_refl _) _
  have HB0 := hid hb0
  have hr0 : Row w0 w.heap.size 24 [.string c.chain, .int .i64 c.trust, .bool c.frozen, .slice oa c.known.length ca] := by rw [← hw0]; exact Row.new _ _ _
  have k3 := hr0.cell 3
  simp only [List.getElem?_cons_zero, List.getElem?_cons_succ] at k3
  clear hk hb0 hr0
  generalize hnn : c.known.length = n at *
  have HN := hid hnn
  clear hnn
  generalize hl : c.known = l at *
  clear hl
  go_enter Tryz.func38, Tryz.ntmps38
  go_wp2_with fail
  go_loopw [8, 12] (fun _ i wr => ∃ k : Nat, k ≤ n ∧ i = .int .i64 (k : Int) ∧ Hid (Below w0.heap.size w0 wr ∧ nbB (l.take k) a b = true)) (fun _ i _ => n - (intOf i).toNat)
  case atStart => exact ⟨0, Nat.zero_le _, rfl, hid ⟨Below.refl _ _, rfl⟩⟩
  case round =>
    obtain ⟨k, hk, rfl, HR⟩ := hrel
    have hszr := HR.out.1.size
    have HBW := hid (HB0.out.trans (HR.out.1.mono HB0.out.size))
    have hszw := HB0.out.size
    by_cases hlt : k < n
    · have hlt' : (k : Int) < (n : Int) := by omega
      obtain ⟨x, hx⟩ : ∃ x, l[k]? = some x := ⟨l[k]'(by rw [HN.out]; exact hlt), List.getElem?_eq_getElem _⟩
      obtain ⟨b', o, rfl, hcells⟩ := HK.out.spot (by omega)
      obtain ⟨hbN, vr, vn, d0, d1, d2, d3, b2, b3⟩ := hcells k x hx
      obtain ⟨o2, c2, rfl, -⟩ := b2.shape
      obtain ⟨o3, c3, rfl, -⟩ := b3.shape
      have hbl : b' < w.heap.size := by omega
      have f0 := (HBW.out.cell (p := ⟨b', o + k * 4, none⟩) hbl).trans d0
      have f1 := (HBW.out.cell (p := ⟨b', o + k * 4 + 1, none⟩) hbl).trans d1
      have f2 := (HBW.out.cell (p := ⟨b', o + k * 4 + 2, none⟩) hbl).trans d2
      have f3 := (HBW.out.cell (p := ⟨b', o + k * 4 + 3, none⟩) hbl).trans d3
      obtain ⟨w2, hw2⟩ : ∃ w2, wr.alloc (.cells #[.int .i64 x.height, .int .i64 x.time, .slice o2 x.root.length c2, .slice o3 x.next.length c3] 27) = w2 := ⟨_, rfl⟩
      have hbr2 : Below wr.heap.size wr w2 := by rw [← hw2]; exact (Below.refl _ _).alloc (Nat.le_refl _) _
      have HB2 := hid (HR.out.1.trans (hbr2.mono hszr))
      have HBW2 := hid (HBW.out.trans (hbr2.mono HBW.out.size))
      have hrow2 : Row w2 wr.heap.size 27 [.int .i64 x.height, .int .i64 x.time, .slice o2 x.root.length c2, .slice o3 x.next.length c3] := by rw [← hw2]; exact Row.new _ _ _
      obtain ⟨⟨q0, q1, q2, q3⟩, -⟩ := hrow2.four
      have HX := hid hx
      have HTK := hid (nbB_take l a b k x hx)
      have HNO := hid (nbB_no (a := a) (b := b) (List.mem_of_getElem? hx))
      clear hcells d0 d1 d2 d3 b2 b3 hx hbr2 hrow2
      by_cases t1 : a < x.height
      · have e1 : decide (a < x.height) = true := by simpa using t1
        have e4 : decide (x.height < a) = false := by simp; omega
        by_cases t2 : x.height < b
        · have e2 : decide (x.height < b) = true := by simpa using t2
          have HV := hid (HNO.out (by rw [e1, e2]; rfl))
          clear t1 t2
          go_wp2
          go_ret
          exact ⟨by rw [HV.out]; first | done | rfl, HBW2.out⟩
        · have e2 : decide (x.height < b) = false := by simpa using t2
          have HV := hid (show nbB (l.take (k + 1)) a b = true by rw [HTK.out, HR.out.2, e1, e2, e4]; simp)
          clear t1 t2
          cases e3 : decide (b < x.height) with
          | true =>
            go_wp2
            go_roundw
            case rel => exact ⟨k + 1, by omega, by go_num, hid ⟨HB2.out, HV.out⟩⟩
            case measure => simp [intOf]; omega
          | false =>
            go_wp2
            go_roundw
            case rel => exact ⟨k + 1, by omega, by go_num, hid ⟨HB2.out, HV.out⟩⟩
            case measure => simp [intOf]; omega
      · have e1 : decide (a < x.height) = false := by simpa using t1
        by_cases t3 : b < x.height
        · have e3 : decide (b < x.height) = true := by simpa using t3
          by_cases t4 : x.height < a
          · have e4 : decide (x.height < a) = true := by simpa using t4
            have HV := hid (HNO.out (by rw [e1, e3, e4]; simp))
            clear t1 t3 t4
            go_wp2
            go_ret
            exact ⟨by rw [HV.out]; first | done | rfl, HBW2.out⟩
          · have e4 : decide (x.height < a) = false := by simpa using t4
            have HV := hid (show nbB (l.take (k + 1)) a b = true by rw [HTK.out, HR.out.2, e1, e3, e4]; simp)
            clear t1 t3 t4
            go_wp2
            go_roundw
            case rel => exact ⟨k + 1, by omega, by go_num, hid ⟨HB2.out, HV.out⟩⟩
            case measure => simp [intOf]; omega
        · have e3 : decide (b < x.height) = false := by simpa using t3
          have HV := hid (show nbB (l.take (k + 1)) a b = true by rw [HTK.out, HR.out.2, e1, e3]; simp)
          clear t1 t3
          go_wp2
          go_roundw
          case rel => exact ⟨k + 1, by omega, by go_num, hid ⟨HB2.out, HV.out⟩⟩
          case measure => simp [intOf]; omega
    · have hge : decide ((k : Int) < (n : Int)) = false := by simp; omega
      have HV := hid (show nbB l a b = true by have := HR.out.2; rwa [List.take_of_length_le (by rw [HN.out]; omega)] at this)
      go_wp2
      go_ret
      exact ⟨by rw [HV.out]; first | done | rfl, HBW.out⟩
set_option maxRecDepth 100000 in
set_option maxHeartbeats 4000000 in
theorem refsame_any (c : Cl) (h : Hd) (k : Kn) (v hv : Value) (N : Nat) (w : World) (hN : N ≤ w.heap.size) (hcv : ClV w N v c) (hhv : HdV w N hv h) (hcf : c.fits) (hhf : h.fits) (hat : atK c.known h.height = some k) :
    Calls Tryz.prog 39 #[v, hv] w fun e w' => e = .returned (.bool (!sameK k (knOf h))) ∧ Below w.heap.size w w' := by
  have HAT := hid (show ∀ wx, Below w.heap.size w wx → _ from fun wx hx => refAtC c h.height v N wx (hcv.below (hx.mono hN)) (Nat.le_trans hN hx.size) hcf)
  obtain ⟨kv, rfl, hk⟩ := hcv
  obtain ⟨oa, ca, rfl, hca⟩ := hk.shape
  obtain ⟨x1, x2, x3, rfl, g1, g2, g3⟩ := hhv
  obtain ⟨o1, c1, rfl, -⟩ := g1.shape
  obtain ⟨o2, c2, rfl, -⟩ := g2.shape
  obtain ⟨o3, c3, rfl, -⟩ := g3.shape
  have HKF := hid (hcf.2.2 k (atK_some hat).1)
  have HHF := hid hhf
  have HG1 := hid g1
  have HG3 := hid g3
  have HKA := hid hat
  obtain ⟨w0, hw0⟩ : ∃ w0, (w.alloc (.cells #[.string c.chain, .int .i64 c.trust, .bool c.frozen, .slice oa c.known.length ca] 24)).alloc (.cells #[.string h.chain, .int .i64 h.height, .int .i64 h.time, .slice o1 h.root.length c1, .slice o2 h.vals.length c2, .slice o3 h.next.length c3] 29) = w0 := ⟨_, rfl⟩
  have HB0 := hid (show Below w.heap.size w w0 by rw [← hw0]; exact ((Below.refl _ _).alloc (Nat.le_refl _) _).alloc (by simp) _)
  have HRC0 := hid (show Row w0 w.heap.size 24 [.string c.chain, .int .i64 c.trust, .bool c.frozen, .slice oa c.known.length ca] by rw [← hw0]; exact (Row.new _ _ _).alloc _)
  have HRH0 := hid (show Row w0 (w.heap.size + 1) 29 [.string h.chain, .int .i64 h.height, .int .i64 h.time, .slice o1 h.root.length c1, .slice o2 h.vals.length c2, .slice o3 h.next.length c3] by rw [← hw0]; exact Row.newAt _ _ _ _ (by simp))
  have HW0 := hid hw0
  obtain ⟨⟨a0, a1, a2, a3⟩, -⟩ := HRC0.out.four
  obtain ⟨j0, j1, j2, j3, j4, j5⟩ := HRH0.out.six
  clear hk g1 g2 g3 hca hw0 hat hcf hhf
  go_enter Tryz.func39, Tryz.ntmps39
  go_wp2_with fail
  rw [HW0.out]
  refine (HAT.out _ HB0.out).mono ?_
  rintro e w2 ⟨hb2, p1, d1, p2, d2, rfl, hx1, hx2⟩
  rw [HKA.out]
  rw [knAt_some HKA.out] at hx1 hx2
  rw [knAt_some HKA.out]
  simp only [Option.isSome]
  have HB2 := hid (HB0.out.trans (hb2.mono HB0.out.size))
  have HRH2 := hid (HRH0.out.below hb2 HRH0.out.lt)
  obtain ⟨w3, hw3⟩ : ∃ w3, w2.alloc (.cells #[.int .i64 k.height, .int .i64 k.time, .slice p1 k.root.length d1, .slice p2 k.next.length d2] 27) = w3 := ⟨_, rfl⟩
  have hb3 : Below w2.heap.size w2 w3 := by rw [← hw3]; exact (Below.refl _ _).alloc (Nat.le_refl _) _
  have HB3 := hid (HB2.out.trans (hb3.mono HB2.out.size))
  have HRH3 := hid (HRH2.out.below hb3 HRH2.out.lt)
  have HRK3 := hid (show Row w3 w2.heap.size 27 [.int .i64 k.height, .int .i64 k.time, .slice p1 k.root.length d1, .slice p2 k.next.length d2] by rw [← hw3]; exact Row.new _ _ _)
  have HS1 := hid (show ∀ wx, Below w3.heap.size w3 wx → _ from fun wx hx => sameB_any k.root h.root (.slice p1 k.root.length d1) (.slice o1 h.root.length c1) w3.heap.size N wx (((hx1.below hb3).mono hb3.size).below hx) (HG1.out.below ((HB3.out.trans (hx.mono HB3.out.size)).mono hN)) (by have := HKF.out.1; omega) (by have := HHF.out.2.1; omega))
  have HS2 := hid (show ∀ wx, Below w3.heap.size w3 wx → _ from fun wx hx => sameB_any k.next h.next (.slice p2 k.next.length d2) (.slice o3 h.next.length c3) w3.heap.size N wx (((hx2.below hb3).mono hb3.size).below hx) (HG3.out.below ((HB3.out.trans (hx.mono HB3.out.size)).mono hN)) (by have := HKF.out.2; omega) (by have := HHF.out.2.2.2; omega))
  clear hb2 hb3 hx1 hx2 a0 a1 a2 a3 j0 j1 j2 j3 j4 j5
  obtain ⟨j0, j1, j2, j3, j4, j5⟩ := HRH3.out.six
  obtain ⟨⟨q0, q1, q2, q3⟩, -⟩ := HRK3.out.four
  by_cases t1 : k.time = h.time
  · have e1 : (k.time != h.time) = false := by simpa using t1
    have T1 := hid t1
    clear t1
    go_wp2_with fail
    refine (HS1.out _ (Below.refl _ _)).mono ?_
    rintro e w5 ⟨rfl, hdr⟩
    have hb5 : Below w3.heap.size w3 w5 := by obtain ⟨q, hq⟩ := hdr; rw [hq]; exact below_drewH _ _ _
    have HQ5 := hid hb5
    have HB5 := hid (HB3.out.trans (hb5.mono HB3.out.size))
    have HRH5 := hid (HRH3.out.below hb5 HRH3.out.lt)
    have HRK5 := hid (HRK3.out.below hb5 HRK3.out.lt)
    clear hb5 hdr hw3 j0 j1 j2 j3 j4 j5 q0 q1 q2 q3
    obtain ⟨j0, j1, j2, j3, j4, j5⟩ := HRH5.out.six
    obtain ⟨⟨q0, q1, q2, q3⟩, -⟩ := HRK5.out.four
    by_cases t2 : k.root = h.root
    · rw [decide_eq_true t2]
      have T2 := hid t2
      clear t2
      go_wp2_with fail
      refine (HS2.out _ HQ5.out).mono ?_
      rintro e w6 ⟨rfl, hdr⟩
      have HB6 := hid (show Below w.heap.size w w6 by obtain ⟨q, hq⟩ := hdr; rw [hq]; exact HB5.out.trans (below_drewH _ _ _))
      have HV := hid (show sameK k (knOf h) = decide (k.next = h.next) by unfold sameK knOf; simp [T1.out, T2.out])
      clear hdr j0 j1 j2 j3 j4 j5 q0 q1 q2 q3
      cases ht3 : decide (k.next = h.next) with
      | true =>
        rw [ht3] at HV
        clear ht3
        go_wp2
        go_ret
        exact ⟨by rw [HV.out]; first | done | rfl, HB6.out⟩
      | false =>
        rw [ht3] at HV
        clear ht3
        go_wp2
        go_ret
        exact ⟨by rw [HV.out]; first | done | rfl, HB6.out⟩
    · rw [decide_eq_false t2]
      have HV := hid (show sameK k (knOf h) = false by unfold sameK knOf; simp [t2])
      clear t2
      go_wp2
      go_ret
      exact ⟨by rw [HV.out]; first | done | rfl, HB5.out⟩
  · have e1 : (k.time != h.time) = true := by simpa using t1
    have HV := hid (show sameK k (knOf h) = false by unfold sameK knOf; simp [t1])
    clear t1
    go_wp2
    go_ret
    exact ⟨by rw [HV.out]; first | done | rfl, HB3.out⟩
end Go.Proofs.YtiflkkelbnpniaaGreatDoor
