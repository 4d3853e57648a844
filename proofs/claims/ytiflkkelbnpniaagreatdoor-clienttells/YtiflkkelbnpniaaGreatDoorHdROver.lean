/-
  What the document's Overlap answers: whether those who voted have more than a third of what is trusted.
-/
import Derived.Test.YtiflkkelbnpniaaGreatDoorHdMems
namespace Go.Proofs.YtiflkkelbnpniaaGreatDoor
open Go.RowKit

theorem votedB_append (key : Nat) : ∀ (vs : List Vl) (ts : List Vt) (v : Vl) (t : Vt), ts.length = vs.length → votedB key (vs ++ [v]) (ts ++ [t]) = (votedB key vs ts || (decide (v.key = key) && t.is))
  | [], [], v, t, _ => by simp [votedB]
  | [], _ :: _, _, _, h => by simp at h
  | _ :: _, [], _, _, h => by simp at h
  | a :: vs, b :: ts, v, t, h => by
    rw [List.cons_append, List.cons_append, votedB, votedB_append key vs ts v t (by simpa using h), votedB, Bool.or_assoc]
theorem votedB_take (key : Nat) (vs : List Vl) (ts : List Vt) (j : Nat) (v : Vl) (t : Vt) (hv : vs[j]? = some v) (ht : ts[j]? = some t) : votedB key (vs.take (j + 1)) (ts.take (j + 1)) = (votedB key (vs.take j) (ts.take j) || (decide (v.key = key) && t.is)) := by
  obtain ⟨h1, rfl⟩ := List.getElem?_eq_some_iff.1 hv
  obtain ⟨h2, rfl⟩ := List.getElem?_eq_some_iff.1 ht
  rw [List.take_succ_eq_append_getElem h1, List.take_succ_eq_append_getElem h2, votedB_append]
  simp
  omega
theorem beqC (a b : Nat) : ((a : Int) == (b : Int)) = decide (a = b) := by rw [Bool.eq_iff_iff]; simp; omega
theorem overP_take (s : Sg) (l : List Vl) (k : Nat) (v : Vl) (h : l[k]? = some v) : overP s (l.take (k + 1)) = overP s (l.take k) + (if votedB v.key s.vals s.votes then v.power else 0) := by
  have app : ∀ (a b : List Vl), overP s (a ++ b) = overP s a + overP s b := by
    intro a b
    induction a with
    | nil => simp [overP]
    | cons x a ih => rw [List.cons_append, overP, overP, ih]; omega
  obtain ⟨hk, rfl⟩ := List.getElem?_eq_some_iff.1 h
  rw [List.take_succ_eq_append_getElem hk, app]
  simp [overP]
set_option maxRecDepth 100000 in
set_option maxHeartbeats 2000000 in
theorem refOverC : OverC 74 := by
  intro t s tv v N w hN ht hv htv htok hsv hlen
  have HTV := hid ht
  obtain ⟨v1, v2, v3, _⟩ := valsN_ok htv
  obtain ⟨_, u2, _, u4⟩ := valsN_ok hsv
  have HV3 := hid v3
  obtain ⟨rv, vv, nv, lv, tsv, rfl, h1, h2, h3, h4, h5⟩ := hv
  have HL := hid h4
  have HT := hid h5
  obtain ⟨o1, c1, rfl, _⟩ := h1.shape
  obtain ⟨o2, c2, rfl, _⟩ := h2.shape
  obtain ⟨o3, c3, rfl, _⟩ := h3.shape
  obtain ⟨o4, c4, rfl, _⟩ := h4.shape
  obtain ⟨o5, c5, rfl, _⟩ := h5.shape
  obtain ⟨o, c, rfl, _⟩ := ht.shape
  clear h1 h2 h3 h4 h5 ht u4 v3 htv hsv htok
  have HOB := hid (show overB t s = decide (allP t < 3 * overP s t) from rfl)
  have HOT := hid (fun k v h => overP_take s t k v h)
  have HOL := hid (fun k => overP_le s (t.take k))
  obtain ⟨w0, hw0⟩ : ∃ w0, w.alloc (.cells #[.string s.hd.chain, .int .i64 s.hd.height, .int .i64 s.hd.time, .slice o1 s.hd.root.length c1, .slice o2 s.hd.vals.length c2, .slice o3 s.hd.next.length c3, .slice o4 s.vals.length c4, .slice o5 s.votes.length c5] 33) = w0 := ⟨_, rfl⟩
  have HB0 := hid (show Below w.heap.size w w0 by rw [← hw0]; exact (Below.refl _ _).alloc (Nat.le_refl _) _)
  have HR0 := hid (show Row w0 w.heap.size 33 [.string s.hd.chain, .int .i64 s.hd.height, .int .i64 s.hd.time, .slice o1 s.hd.root.length c1, .slice o2 s.hd.vals.length c2, .slice o3 s.hd.next.length c3, .slice o4 s.vals.length c4, .slice o5 s.votes.length c5] by rw [← hw0]; exact Row.new _ _ _)
  obtain ⟨ov, hov⟩ : ∃ ov : List Vl → Nat, (fun l => overP s l) = ov := ⟨_, rfl⟩
  generalize hvs : s.vals = vs at *
  generalize hts : s.votes = ts at *
  clear hvs hts hov ov
  generalize hn : t.length = n at *
  generalize hnv : vs.length = mv at *
  generalize hnt : ts.length = m at *
  subst hlen
  have HN := hid hn
  have HNV := hid hnv
  have HNT := hid hnt
  clear hn hnv hnt
  go_enter Tryz.func74, Tryz.ntmps74
  go_wp2_with fail
  go_loopw [5, 6, 8, 9, 10, 11, 14] (fun y z _ _ _ _ i wr => ∃ k : Nat, k ≤ n ∧ i = .int .i64 (k : Int) ∧ y = .int .u64 (overP s (t.take k) : Int) ∧ z = .int .u64 ((allP (t.take k) - overP s (t.take k) : Nat) : Int) ∧ Hid (Below w0.heap.size w0 wr)) (fun _ _ _ _ _ _ i _ => n - (intOf i).toNat)
  case atStart => exact ⟨0, by omega, rfl, rfl, rfl, hid (by first | (rw [hw0]; exact Below.refl _ _) | exact Below.refl _ _)⟩
  case round =>
    obtain ⟨k, hk, rfl, rfl, rfl, HI⟩ := hrel
    have hszr := HI.out.size
    have HBW := hid (HB0.out.trans (HI.out.mono HB0.out.size))
    have hpa : allP (t.take k) ≤ 10000000 := by
      have h1 := allP_le (t.take k) (fun v hv => (HV3.out v (List.mem_of_mem_take hv)).2)
      have h2 : (t.take k).length ≤ 10 := by rw [List.length_take, HN.out]; omega
      omega
    have hpo := HOL.out k
    by_cases hlt : k < n
    · obtain ⟨x, hx⟩ : ∃ x, t[k]? = some x := ⟨t[k]'(by rw [HN.out]; exact hlt), List.getElem?_eq_getElem _⟩
      obtain ⟨b, p, hop, hcells⟩ := HTV.out.spot (by omega)
      subst hop
      obtain ⟨hbN, d0, d1⟩ := hcells k x hx
      have hbl : b < w.heap.size := by omega
      have f0 := (HBW.out.cell (p := ⟨b, p + k * 2, none⟩) hbl).trans d0
      have f1 := (HBW.out.cell (p := ⟨b, p + k * 2 + 1, none⟩) hbl).trans d1
      have hlt' : (k : Int) < (n : Int) := by omega
      have hxp := (HV3.out x (List.mem_of_getElem? hx)).2
      have HA := hid (allP_take t k x hx)
      have HO := hid (HOT.out k x hx)
      have hpo2 := HOL.out (k + 1)
      obtain ⟨gx, hgx⟩ : ∃ gx, wr.heap.size = gx := ⟨_, rfl⟩
      obtain ⟨w2, hw2⟩ : ∃ w2, wr.alloc (.cells #[.int .u64 (x.key : Int), .int .u64 (x.power : Int)] 89) = w2 := ⟨_, rfl⟩
      have hb2 : Below wr.heap.size wr w2 := by rw [← hw2]; exact (Below.refl _ _).alloc (Nat.le_refl _) _
      have HI2 := hid (HI.out.trans (hb2.mono hszr))
      have HB2 := hid (HBW.out.trans (hb2.mono HBW.out.size))
      have HX2 := hid (show Row w2 gx 89 [.int .u64 (x.key : Int), .int .u64 (x.power : Int)] by rw [← hw2, ← hgx]; exact Row.new _ _ _)
      have HRW := hid (HR0.out.below HI2.out HR0.out.lt)
      have m6 : w2.cell? ⟨w.heap.size, 6, none⟩ = some (.slice o4 m c4) := HRW.out.cell 6
      rw [HA.out, HO.out] at hpo2
      clear d0 d1 hcells hb2 hx
      generalize allP (t.take k) = aa at *
      generalize overP s (t.take k) = oo at *
      have hwo : IntKind.u64.wrap ((oo : Int) + (x.power : Int)) = ((oo + x.power : Nat) : Int) := w64_add oo x.power (by omega)
      have hwn : IntKind.u64.wrap (((aa - oo : Nat) : Int) + (x.power : Int)) = ((aa - oo + x.power : Nat) : Int) := w64_add (aa - oo) x.power (by omega)
      generalize hno : aa - oo = no at *
      have HNO := hid hno
      clear hno
      go_wp2_with fail
      clear hw2
      generalize wr = wo at *
      go_loopw [9, 10, 11, 21] (fun y _ _ i wx => ∃ j : Nat, j ≤ m ∧ i = .int .i64 (j : Int) ∧ y = .bool (votedB x.key (vs.take j) (ts.take j)) ∧ Hid (Below w2.heap.size w2 wx)) (fun _ _ _ i _ => m - (intOf i).toNat)
      case atStart => exact ⟨0, by omega, rfl, by simp [votedB], hid (Below.refl _ _)⟩
      case round =>
        obtain ⟨j, hj, rfl, rfl, HJ⟩ := hrel
        have HBX := hid (HB2.out.trans (HJ.out.mono HB2.out.size))
        have HXX := hid (HX2.out.below HJ.out HX2.out.lt)
        have HRX := hid (HRW.out.below HJ.out HRW.out.lt)
        by_cases hjlt : j < m
        · obtain ⟨a, ha⟩ : ∃ a, vs[j]? = some a := ⟨vs[j]'(by rw [HNV.out]; exact hjlt), List.getElem?_eq_getElem _⟩
          obtain ⟨u, hu⟩ : ∃ u, ts[j]? = some u := ⟨ts[j]'(by rw [HNT.out]; exact hjlt), List.getElem?_eq_getElem _⟩
          obtain ⟨b4, p4, ho4, hcells⟩ := HL.out.spot (by omega)
          subst ho4
          obtain ⟨b5, p5, ho5, hcells2⟩ := HT.out.spot (by omega)
          subst ho5
          obtain ⟨hbN4, d0, d1⟩ := hcells j a ha
          obtain ⟨hbN5, a0, _, _⟩ := hcells2 j u hu
          have hb4 : b4 < w.heap.size := by omega
          have hb5 : b5 < w.heap.size := by omega
          have g0 := (HBX.out.cell (p := ⟨b4, p4 + j * 2, none⟩) hb4).trans d0
          have g1 := (HBX.out.cell (p := ⟨b4, p4 + j * 2 + 1, none⟩) hb4).trans d1
          have hjlt' : (j : Int) < (m : Int) := by omega
          have HVT := hid (votedB_take x.key vs ts j a u ha hu)
          obtain ⟨w4, hw4⟩ : ∃ w4, wr.alloc (.cells #[.int .u64 (a.key : Int), .int .u64 (a.power : Int)] 89) = w4 := ⟨_, rfl⟩
          have hb4w : Below wr.heap.size wr w4 := by rw [← hw4]; exact (Below.refl _ _).alloc (Nat.le_refl _) _
          have HJ4 := hid (HJ.out.trans (hb4w.mono HJ.out.size))
          have q0 := (show Row w4 wr.heap.size 89 [.int .u64 (a.key : Int), .int .u64 (a.power : Int)] by rw [← hw4]; exact Row.new _ _ _).cell 0
          have x0 := (HXX.out.below hb4w HXX.out.lt).cell 0
          have r7 : w4.cell? ⟨w.heap.size, 7, none⟩ = some (.slice (some ⟨b5, p5, none⟩) m c5) := (HRX.out.below hb4w HRX.out.lt).cell 7
          have t0 := ((HBX.out.trans (hb4w.mono HBX.out.size)).cell (p := ⟨b5, p5 + j * 3, none⟩) hb5).trans a0
          have hbe := beqC a.key x.key
          clear d0 d1 a0 hcells hcells2 hb4w ha hu
          generalize votedB x.key (vs.take j) (ts.take j) = vb at *
          cases vb with
          | true =>
            go_wp2_with fail
            go_roundw
            case rel => exact ⟨j + 1, by omega, by go_num, by rw [HVT.out]; simp, hid HJ4.out⟩
            case measure => simp [intOf]; omega
          | false =>
            by_cases hke : a.key = x.key
            · rw [decide_eq_true hke] at hbe HVT
              clear hke
              go_wp2_with fail
              go_roundw
              case rel => exact ⟨j + 1, by omega, by go_num, by rw [HVT.out]; simp, hid HJ4.out⟩
              case measure => simp [intOf]; omega
            · rw [decide_eq_false hke] at hbe HVT
              clear hke
              go_wp2_with fail
              go_roundw
              case rel => exact ⟨j + 1, by omega, by go_num, by rw [HVT.out]; simp, hid HJ4.out⟩
              case measure => simp [intOf]; omega
        · have hge : decide ((j : Int) < (m : Int)) = false := by simp; omega
          have hgen : decide (j < m) = false := decide_eq_false hjlt
          rw [List.take_of_length_le (show vs.length ≤ j by rw [HNV.out]; omega), List.take_of_length_le (show ts.length ≤ j by rw [HNT.out]; omega)]
          have x1 := HXX.out.cell 1
          have HIX := hid (HI2.out.trans (HJ.out.mono HI2.out.size))
          generalize votedB x.key vs ts = vb at *
          cases vb with
          | true =>
            go_wp2_with fail
            go_roundw
            case rel => exact ⟨k + 1, by omega, by go_num, by rw [HO.out]; simp, by rw [HA.out, HO.out]; simp; have := HNO.out; omega, hid HIX.out⟩
            case measure => simp [intOf]; omega
          | false =>
            go_wp2_with fail
            go_roundw
            case rel => exact ⟨k + 1, by omega, by go_num, by rw [HO.out]; simp, by rw [HA.out, HO.out]; simp; have := HNO.out; omega, hid HIX.out⟩
            case measure => simp [intOf]; omega
    · have hge : decide ((k : Int) < (n : Int)) = false := by simp; omega
      have hgen : decide (k < n) = false := decide_eq_false hlt
      rw [List.take_of_length_le (show t.length ≤ k by rw [HN.out]; omega)] at hpo hpa ⊢
      generalize overP s t = oo at *
      generalize allP t = aa at *
      generalize hno : aa - oo = no at *
      have hw2 : IntKind.u64.wrap (2 * (oo : Int)) = 2 * (oo : Int) := by simp [IntKind.wrap, IntKind.bits, IntKind.signed]; omega
      by_cases h3 : aa < 3 * oo
      · have e3 : decide ((no : Int) < 2 * (oo : Int)) = true := by simp; omega
        rw [decide_eq_true h3] at HOB
        clear h3 hno
        go_wp2
        go_ret
        exact ⟨by rw [HOB.out]; first | done | rfl | (simp [e3]; first | done | rfl), HBW.out⟩
      · have e3 : decide ((no : Int) < 2 * (oo : Int)) = false := by simp; omega
        rw [decide_eq_false h3] at HOB
        clear h3 hno
        go_wp2
        go_ret
        exact ⟨by rw [HOB.out]; first | done | rfl | (simp [e3]; first | done | rfl), HBW.out⟩
end Go.Proofs.YtiflkkelbnpniaaGreatDoor
