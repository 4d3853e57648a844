/-
  What the document's Same answers of two bare states.
-/
import Derived.Test.YtooemgkjkngpcaaDoorStBareM
namespace Go.Proofs.YtooemgkjkngpcaaDoor
open Go.RowKit

set_option maxRecDepth 100000 in
set_option maxHeartbeats 16000000 in
theorem sameS_any (s t : St) (o2 o3 o4 o5 o6 p2 p3 p4 p5 p6 : Option Addr) (c2 c3 c4 c5 c6 d2 d3 d4 d5 d6 : Nat) (N : Nat) (w : World) (hN : N ≤ w.heap.size) (ha : BareM w N s (.slice o2 s.conns.length c2) (.slice o3 s.chans.length c3) (.slice o4 s.sent.length c4) (.slice o5 s.got.length c5) (.slice o6 s.acks.length c6)) (hb : BareM w N t (.slice p2 t.conns.length d2) (.slice p3 t.chans.length d3) (.slice p4 t.sent.length d4) (.slice p5 t.got.length d5) (.slice p6 t.acks.length d6)) (hl2 : s.conns.length < 1000) (hl3 : s.chans.length < 1000) (hl4 : s.sent.length < 2305843009213693952) (hl5 : s.got.length < 2305843009213693952) (hl6 : s.acks.length < 2305843009213693952)
    (hf4 : ∀ m ∈ s.sent, m.fits) (hf5 : ∀ m ∈ s.got, m.fits) (hf6 : ∀ m ∈ s.acks, m.fits) (hg4 : ∀ m ∈ t.sent, m.fits) (hg5 : ∀ m ∈ t.got, m.fits) (hg6 : ∀ m ∈ t.acks, m.fits) :
    Calls Tryd.prog 11 #[.agg #[.string ⟨#[]⟩, .int .i64 0, .int .i64 0, .slice none 0 0, .slice o2 s.conns.length c2, .slice o3 s.chans.length c3, .slice o4 s.sent.length c4, .slice o5 s.got.length c5, .slice o6 s.acks.length c6, .slice none 0 0], .agg #[.string ⟨#[]⟩, .int .i64 0, .int .i64 0, .slice none 0 0, .slice p2 t.conns.length d2, .slice p3 t.chans.length d3, .slice p4 t.sent.length d4, .slice p5 t.got.length d5, .slice p6 t.acks.length d6, .slice none 0 0]] w fun e w' => ∃ bb, e = .returned (.bool bb) ∧ (bb = true ↔ Alike s t) ∧ Below w.heap.size w w' := by
  obtain ⟨w0, hw0⟩ : ∃ w0, (w.alloc (.cells #[.string ⟨#[]⟩, .int .i64 0, .int .i64 0, .slice none 0 0, .slice o2 s.conns.length c2, .slice o3 s.chans.length c3, .slice o4 s.sent.length c4, .slice o5 s.got.length c5, .slice o6 s.acks.length c6, .slice none 0 0] 28)).alloc (.cells #[.string ⟨#[]⟩, .int .i64 0, .int .i64 0, .slice none 0 0, .slice p2 t.conns.length d2, .slice p3 t.chans.length d3, .slice p4 t.sent.length d4, .slice p5 t.got.length d5, .slice p6 t.acks.length d6, .slice none 0 0] 28) = w0 := ⟨_, rfl⟩
  have hb0 : Below w.heap.size w w0 := by rw [← hw0]; exact ((Below.refl _ _).alloc (Nat.le_refl _) _).alloc (by simp) _
  have HB0 := hid hb0
  have HRA := hid (show Row w0 w.heap.size 28 [.string ⟨#[]⟩, .int .i64 0, .int .i64 0, .slice none 0 0, .slice o2 s.conns.length c2, .slice o3 s.chans.length c3, .slice o4 s.sent.length c4, .slice o5 s.got.length c5, .slice o6 s.acks.length c6, .slice none 0 0] by rw [← hw0]; exact (Row.new _ _ _).alloc _)
  have HRB := hid (show Row w0 (w.heap.size + 1) 28 [.string ⟨#[]⟩, .int .i64 0, .int .i64 0, .slice none 0 0, .slice p2 t.conns.length d2, .slice p3 t.chans.length d3, .slice p4 t.sent.length d4, .slice p5 t.got.length d5, .slice p6 t.acks.length d6, .slice none 0 0] by rw [← hw0]; exact Row.newAt _ _ _ _ (by simp))
  have HA := hid (ha.below (hb0.mono hN))
  have HB := hid (hb.below (hb0.mono hN))
  have HW0 := hid hw0
  clear hw0 hb0 ha hb
  obtain ⟨bsent, Esent⟩ : ∃ b : Bool, Hid (b = true ↔ s.sent = t.sent) := by
    by_cases h : s.sent = t.sent
    · exact ⟨true, hid (by simp [h])⟩
    · exact ⟨false, hid (by simp [h])⟩
  have HMsent := hid (fun wq : Nat => show Calls Tryd.prog 35 #[.slice o4 s.sent.length c4, .slice p4 t.sent.length d4] (w0.drewN wq) (fun e w' => e = .returned (.bool bsent) ∧ ∃ n, w' = w0.drewN n) from
    (sameMarks_any s.sent t.sent _ _ N N (w0.drewN wq) (HA.out.sent.below MkR.stays (drewN_belowSt _ _ _)) (HB.out.sent.below MkR.stays (drewN_belowSt _ _ _)) hl4 hf4 hg4).mono fun e w' ⟨bb, h1, h2, n', h3⟩ => ⟨by rw [h1]; congr 2; rw [Bool.eq_iff_iff, h2, Esent.out], wq + n', by rw [h3, World.drewN_drewN]⟩)
  obtain ⟨bgot, Egot⟩ : ∃ b : Bool, Hid (b = true ↔ s.got = t.got) := by
    by_cases h : s.got = t.got
    · exact ⟨true, hid (by simp [h])⟩
    · exact ⟨false, hid (by simp [h])⟩
  have HMgot := hid (fun wq : Nat => show Calls Tryd.prog 35 #[.slice o5 s.got.length c5, .slice p5 t.got.length d5] (w0.drewN wq) (fun e w' => e = .returned (.bool bgot) ∧ ∃ n, w' = w0.drewN n) from
    (sameMarks_any s.got t.got _ _ N N (w0.drewN wq) (HA.out.got.below MkR.stays (drewN_belowSt _ _ _)) (HB.out.got.below MkR.stays (drewN_belowSt _ _ _)) hl5 hf5 hg5).mono fun e w' ⟨bb, h1, h2, n', h3⟩ => ⟨by rw [h1]; congr 2; rw [Bool.eq_iff_iff, h2, Egot.out], wq + n', by rw [h3, World.drewN_drewN]⟩)
  obtain ⟨backs, Eacks⟩ : ∃ b : Bool, Hid (b = true ↔ s.acks = t.acks) := by
    by_cases h : s.acks = t.acks
    · exact ⟨true, hid (by simp [h])⟩
    · exact ⟨false, hid (by simp [h])⟩
  have HMacks := hid (fun wq : Nat => show Calls Tryd.prog 35 #[.slice o6 s.acks.length c6, .slice p6 t.acks.length d6] (w0.drewN wq) (fun e w' => e = .returned (.bool backs) ∧ ∃ n, w' = w0.drewN n) from
    (sameMarks_any s.acks t.acks _ _ N N (w0.drewN wq) (HA.out.acks.below MkR.stays (drewN_belowSt _ _ _)) (HB.out.acks.below MkR.stays (drewN_belowSt _ _ _)) hl6 hf6 hg6).mono fun e w' ⟨bb, h1, h2, n', h3⟩ => ⟨by rw [h1]; congr 2; rw [Bool.eq_iff_iff, h2, Eacks.out], wq + n', by rw [h3, World.drewN_drewN]⟩)
  have k0 : w0.cell? ⟨w.heap.size, 0, none⟩ = some (.string ⟨#[]⟩) := HRA.out.cell 0
  have k1 : w0.cell? ⟨w.heap.size, 1, none⟩ = some (.int .i64 0) := HRA.out.cell 1
  have k2 : w0.cell? ⟨w.heap.size, 2, none⟩ = some (.int .i64 0) := HRA.out.cell 2
  have k3 : w0.cell? ⟨w.heap.size, 3, none⟩ = some (.slice none 0 0) := HRA.out.cell 3
  have k4 : w0.cell? ⟨w.heap.size, 4, none⟩ = some (.slice o2 s.conns.length c2) := HRA.out.cell 4
  have k5 : w0.cell? ⟨w.heap.size, 5, none⟩ = some (.slice o3 s.chans.length c3) := HRA.out.cell 5
  have k6 : w0.cell? ⟨w.heap.size, 6, none⟩ = some (.slice o4 s.sent.length c4) := HRA.out.cell 6
  have k7 : w0.cell? ⟨w.heap.size, 7, none⟩ = some (.slice o5 s.got.length c5) := HRA.out.cell 7
  have k8 : w0.cell? ⟨w.heap.size, 8, none⟩ = some (.slice o6 s.acks.length c6) := HRA.out.cell 8
  have k9 : w0.cell? ⟨w.heap.size, 9, none⟩ = some (.slice none 0 0) := HRA.out.cell 9
  have j0 : w0.cell? ⟨w.heap.size + 1, 0, none⟩ = some (.string ⟨#[]⟩) := HRB.out.cell 0
  have j1 : w0.cell? ⟨w.heap.size + 1, 1, none⟩ = some (.int .i64 0) := HRB.out.cell 1
  have j2 : w0.cell? ⟨w.heap.size + 1, 2, none⟩ = some (.int .i64 0) := HRB.out.cell 2
  have j3 : w0.cell? ⟨w.heap.size + 1, 3, none⟩ = some (.slice none 0 0) := HRB.out.cell 3
  have j4 : w0.cell? ⟨w.heap.size + 1, 4, none⟩ = some (.slice p2 t.conns.length d2) := HRB.out.cell 4
  have j5 : w0.cell? ⟨w.heap.size + 1, 5, none⟩ = some (.slice p3 t.chans.length d3) := HRB.out.cell 5
  have j6 : w0.cell? ⟨w.heap.size + 1, 6, none⟩ = some (.slice p4 t.sent.length d4) := HRB.out.cell 6
  have j7 : w0.cell? ⟨w.heap.size + 1, 7, none⟩ = some (.slice p5 t.got.length d5) := HRB.out.cell 7
  have j8 : w0.cell? ⟨w.heap.size + 1, 8, none⟩ = some (.slice p6 t.acks.length d6) := HRB.out.cell 8
  have j9 : w0.cell? ⟨w.heap.size + 1, 9, none⟩ = some (.slice none 0 0) := HRB.out.cell 9
  clear hf4 hf5 hf6 hg4 hg5 hg6 hl4 hl5 hl6
  have n0 : ((0 : Int) != 0) = false := by simp
  by_cases q1 : s.conns.length = t.conns.length
  · have e1 : ((s.conns.length : Int) != (t.conns.length : Int)) = false := by simp; omega
    by_cases q2 : s.chans.length = t.chans.length
    · have e2 : ((s.chans.length : Int) != (t.chans.length : Int)) = false := by simp; omega
      by_cases q3 : s.sent = t.sent
      · obtain rfl : bsent = true := Esent.out.2 q3
        by_cases q4 : s.got = t.got
        · obtain rfl : bgot = true := Egot.out.2 q4
          by_cases q5 : s.acks = t.acks
          · obtain rfl : backs = true := Eacks.out.2 q5
            have HM := hid (show s.sent = t.sent ∧ s.got = t.got ∧ s.acks = t.acks from ⟨q3, q4, q5⟩)
            have Q1 := hid q1
            have Q2 := hid q2
            clear q1 q2 q3 q4 q5
            go_enter Tryd.func11, Tryd.ntmps11
            go_upto_region 1 with fail
            rw [HW0.out]
            rw [show w0 = w0.drewN 0 from rfl]
            go_wp2_with (first | (go_at_call_of 35 (Value.slice o4 s.sent.length c4); refine (HMsent.out _).mono ?_; rintro e w' ⟨rfl, n4, rfl⟩) | (go_at_call_of 35 (Value.slice o5 s.got.length c5); refine (HMgot.out _).mono ?_; rintro e w' ⟨rfl, n5, rfl⟩) | (go_at_call_of 35 (Value.slice o6 s.acks.length c6); refine (HMacks.out _).mono ?_; rintro e w' ⟨rfl, n6, rfl⟩))
            go_loopw [5, 91] (fun _ i wr => i = .int .i64 0 ∧ ∃ q : Nat, wr = w0.drewN q) (fun _ _ _ => 0)
            case atStart => exact ⟨rfl, _, rfl⟩
            case round =>
              obtain ⟨rfl, q, rfl⟩ := hrel
              have z0 : decide ((0 : Int) < 0) = false := by decide
              go_wp2_with fail
              go_loopw [6, 110] (fun _ i wr => ∃ k q : Nat, k ≤ s.conns.length ∧ i = .int .i64 (k : Int) ∧ wr = w0.drewN q ∧ Hid ((s.conns).take k = (t.conns).take k)) (fun _ i _ => s.conns.length - (intOf i).toNat)
              case atStart => exact ⟨0, _, by omega, rfl, rfl, hid rfl⟩
              case round =>
                obtain ⟨k, q, hk, rfl, rfl, HTa⟩ := hrel
                by_cases hlt : k < s.conns.length
                · obtain ⟨x, hx⟩ : ∃ x, (s.conns)[k]? = some x := ⟨_, List.getElem?_eq_getElem (by simpa using hlt)⟩
                  obtain ⟨y, hy⟩ : ∃ y, (t.conns)[k]? = some y := ⟨_, List.getElem?_eq_getElem (by have := Q1.out; simpa [this] using hlt)⟩
                  obtain ⟨b1, f1, rfl, gx⟩ := HA.out.conns.spot (by omega)
                  obtain ⟨b2, f2, rfl, gy⟩ := HB.out.conns.spot (by have := Q1.out; omega)
                  obtain ⟨_, rx, hrx, cx⟩ := gx k x hx
                  obtain ⟨_, ry, hry, cy⟩ := gy k y hy
                  subst hrx hry
                  have x0 := cx 0 _ rfl
                  have y0 := cy 0 _ rfl
                  have x1 := cx 1 _ rfl
                  have y1 := cy 1 _ rfl
                  have x2 := cx 2 _ rfl
                  have y2 := cy 2 _ rfl
                  have x3 := cx 3 _ rfl
                  have y3 := cy 3 _ rfl
                  simp only [Nat.add_zero] at x0 y0
                  have hlt' : (k : Int) < (s.conns.length : Int) := by omega
                  have hlt2 : (k : Int) < (t.conns.length : Int) := by have := Q1.out; omega
                  have HX := hid hx
                  have HY := hid hy
                  have hcm := neqCn x y
                  clear gx gy cx cy hx hy
                  by_cases he : x = y
                  · have HEQ := hid (take_eq (s.conns) (t.conns) k x HX.out (by rw [he]; exact HY.out) HTa.out)
                    rw [decide_eq_false (show ¬ _ from fun h => ((Cn.same).1 h) he)] at hcm
                    clear he
                    go_wp2_with fail
                    go_quiet (fail)
                    go_wp2
                    go_roundw
                    case rel => exact ⟨k + 1, _, by omega, by go_num, by first | rfl | exact World.drewN_drewN _ _ _, HEQ⟩
                    case measure => simp [intOf]; omega
                  · have HNE := hid (show ¬ Alike s t from fun h => get_ne (s.conns) (t.conns) k x y HX.out HY.out he h.conns)
                    rw [decide_eq_true ((Cn.same).2 he)] at hcm
                    clear he
                    go_wp2_with fail
                    go_quiet (fail)
                    go_wp2
                    go_ret
                    exact ⟨false, rfl, ⟨fun h => by simp at h, fun h => absurd h HNE.out⟩, by first | exact HB0.out.trans (drewN_belowSt w0 _ _) | (rw [World.drewN_drewN]; exact HB0.out.trans (drewN_belowSt w0 _ _))⟩
                · have hge : decide ((k : Int) < (s.conns.length : Int)) = false := by simp; omega
                  have HEQa := hid (show s.conns = t.conns by
                    have := HTa.out
                    rwa [List.take_of_length_le (by first | omega | (simp; omega)), List.take_of_length_le (by have := Q1.out; first | omega | (simp; omega))] at this)
                  go_wp2_with fail
                  go_loopw [7, 128] (fun _ i wr => ∃ k q : Nat, k ≤ s.chans.length ∧ i = .int .i64 (k : Int) ∧ wr = w0.drewN q ∧ Hid ((s.chans.map bareCh).take k = (t.chans.map bareCh).take k)) (fun _ i _ => s.chans.length - (intOf i).toNat)
                  case atStart => exact ⟨0, _, by omega, rfl, rfl, hid rfl⟩
                  case round =>
                    obtain ⟨k, q, hk, rfl, rfl, HTb⟩ := hrel
                    by_cases hlt : k < s.chans.length
                    · obtain ⟨x, hx⟩ : ∃ x, (s.chans.map bareCh)[k]? = some x := ⟨_, List.getElem?_eq_getElem (by simpa using hlt)⟩
                      obtain ⟨y, hy⟩ : ∃ y, (t.chans.map bareCh)[k]? = some y := ⟨_, List.getElem?_eq_getElem (by have := Q2.out; simpa [this] using hlt)⟩
                      obtain ⟨b1, f1, rfl, gx⟩ := HA.out.chans.spot (by omega)
                      obtain ⟨b2, f2, rfl, gy⟩ := HB.out.chans.spot (by have := Q2.out; omega)
                      obtain ⟨_, rx, hrx, cx⟩ := gx k x hx
                      obtain ⟨_, ry, hry, cy⟩ := gy k y hy
                      subst hrx hry
                      have x0 := cx 0 _ rfl
                      have y0 := cy 0 _ rfl
                      have x1 := cx 1 _ rfl
                      have y1 := cy 1 _ rfl
                      have x2 := cx 2 _ rfl
                      have y2 := cy 2 _ rfl
                      have x3 := cx 3 _ rfl
                      have y3 := cy 3 _ rfl
                      have x4 := cx 4 _ rfl
                      have y4 := cy 4 _ rfl
                      have x5 := cx 5 _ rfl
                      have y5 := cy 5 _ rfl
                      have x6 := cx 6 _ rfl
                      have y6 := cy 6 _ rfl
                      simp only [Nat.add_zero] at x0 y0
                      have hlt' : (k : Int) < (s.chans.length : Int) := by omega
                      have hlt2 : (k : Int) < (t.chans.length : Int) := by have := Q2.out; omega
                      have HX := hid hx
                      have HY := hid hy
                      have hcm := neqCh x y
                      clear gx gy cx cy hx hy
                      by_cases he : x = y
                      · have HEQ := hid (take_eq (s.chans.map bareCh) (t.chans.map bareCh) k x HX.out (by rw [he]; exact HY.out) HTb.out)
                        rw [decide_eq_false (show ¬ _ from fun h => ((Ch.same).1 h) he)] at hcm
                        clear he
                        go_wp2_with fail
                        go_quiet (fail)
                        go_wp2
                        go_roundw
                        case rel => exact ⟨k + 1, _, by omega, by go_num, by first | rfl | exact World.drewN_drewN _ _ _, HEQ⟩
                        case measure => simp [intOf]; omega
                      · have HNE := hid (show ¬ Alike s t from fun h => get_ne (s.chans.map bareCh) (t.chans.map bareCh) k x y HX.out HY.out he h.chans)
                        rw [decide_eq_true ((Ch.same).2 he)] at hcm
                        clear he
                        go_wp2_with fail
                        go_quiet (fail)
                        go_wp2
                        go_ret
                        exact ⟨false, rfl, ⟨fun h => by simp at h, fun h => absurd h HNE.out⟩, by first | exact HB0.out.trans (drewN_belowSt w0 _ _) | (rw [World.drewN_drewN]; exact HB0.out.trans (drewN_belowSt w0 _ _))⟩
                    · have hge : decide ((k : Int) < (s.chans.length : Int)) = false := by simp; omega
                      have HEQb := hid (show s.chans.map bareCh = t.chans.map bareCh by
                        have := HTb.out
                        rwa [List.take_of_length_le (by first | omega | (simp; omega)), List.take_of_length_le (by have := Q2.out; first | omega | (simp; omega))] at this)
                      go_wp2_with fail
                      go_loopw [8, 146] (fun _ i wr => i = .int .i64 0 ∧ ∃ q : Nat, wr = w0.drewN q) (fun _ _ _ => 0)
                      case atStart => exact ⟨rfl, _, rfl⟩
                      case round =>
                        obtain ⟨rfl, q, rfl⟩ := hrel
                        have z0 : decide ((0 : Int) < 0) = false := by decide
                        go_wp2
                        go_ret
                        exact ⟨true, rfl, ⟨fun _ => ⟨HEQa.out, HEQb.out, HM.out.1, HM.out.2.1, HM.out.2.2⟩, fun _ => rfl⟩, HB0.out.trans (drewN_belowSt w0 _ _)⟩
          · obtain rfl : backs = false := by cases backs with | false => rfl | true => exact absurd (Eacks.out.1 rfl) q5
            have HNE := hid (show ¬ Alike s t from fun h => q5 h.acks)
            clear q1 q2 q3 q4 q5
            go_enter Tryd.func11, Tryd.ntmps11
            go_upto_region 1 with fail
            rw [HW0.out]
            rw [show w0 = w0.drewN 0 from rfl]
            go_wp2_with (first | (go_at_call_of 35 (Value.slice o4 s.sent.length c4); refine (HMsent.out _).mono ?_; rintro e w' ⟨rfl, n4, rfl⟩) | (go_at_call_of 35 (Value.slice o5 s.got.length c5); refine (HMgot.out _).mono ?_; rintro e w' ⟨rfl, n5, rfl⟩) | (go_at_call_of 35 (Value.slice o6 s.acks.length c6); refine (HMacks.out _).mono ?_; rintro e w' ⟨rfl, n6, rfl⟩))
            go_ret
            exact ⟨false, rfl, ⟨fun h => by simp at h, fun h => absurd h HNE.out⟩, HB0.out.trans (drewN_belowSt w0 _ _)⟩
        · obtain rfl : bgot = false := by cases bgot with | false => rfl | true => exact absurd (Egot.out.1 rfl) q4
          have HNE := hid (show ¬ Alike s t from fun h => q4 h.got)
          clear q1 q2 q3 q4
          go_enter Tryd.func11, Tryd.ntmps11
          go_upto_region 1 with fail
          rw [HW0.out]
          rw [show w0 = w0.drewN 0 from rfl]
          go_wp2_with (first | (go_at_call_of 35 (Value.slice o4 s.sent.length c4); refine (HMsent.out _).mono ?_; rintro e w' ⟨rfl, n4, rfl⟩) | (go_at_call_of 35 (Value.slice o5 s.got.length c5); refine (HMgot.out _).mono ?_; rintro e w' ⟨rfl, n5, rfl⟩) | (go_at_call_of 35 (Value.slice o6 s.acks.length c6); refine (HMacks.out _).mono ?_; rintro e w' ⟨rfl, n6, rfl⟩))
          go_ret
          exact ⟨false, rfl, ⟨fun h => by simp at h, fun h => absurd h HNE.out⟩, HB0.out.trans (drewN_belowSt w0 _ _)⟩
      · obtain rfl : bsent = false := by cases bsent with | false => rfl | true => exact absurd (Esent.out.1 rfl) q3
        have HNE := hid (show ¬ Alike s t from fun h => q3 h.sent)
        clear q1 q2 q3
        go_enter Tryd.func11, Tryd.ntmps11
        go_upto_region 1 with fail
        rw [HW0.out]
        rw [show w0 = w0.drewN 0 from rfl]
        go_wp2_with (first | (go_at_call_of 35 (Value.slice o4 s.sent.length c4); refine (HMsent.out _).mono ?_; rintro e w' ⟨rfl, n4, rfl⟩) | (go_at_call_of 35 (Value.slice o5 s.got.length c5); refine (HMgot.out _).mono ?_; rintro e w' ⟨rfl, n5, rfl⟩) | (go_at_call_of 35 (Value.slice o6 s.acks.length c6); refine (HMacks.out _).mono ?_; rintro e w' ⟨rfl, n6, rfl⟩))
        go_ret
        exact ⟨false, rfl, ⟨fun h => by simp at h, fun h => absurd h HNE.out⟩, HB0.out.trans (drewN_belowSt w0 _ _)⟩
    · have e2 : ((s.chans.length : Int) != (t.chans.length : Int)) = true := by simp; omega
      have HNE := hid (show ¬ Alike s t from fun h => q2 (by have := congrArg List.length h.chans; simpa using this))
      clear q1 q2
      go_enter Tryd.func11, Tryd.ntmps11
      go_upto_region 1 with fail
      rw [HW0.out]
      rw [show w0 = w0.drewN 0 from rfl]
      go_wp2_with (first | (go_at_call_of 35 (Value.slice o4 s.sent.length c4); refine (HMsent.out _).mono ?_; rintro e w' ⟨rfl, n4, rfl⟩) | (go_at_call_of 35 (Value.slice o5 s.got.length c5); refine (HMgot.out _).mono ?_; rintro e w' ⟨rfl, n5, rfl⟩) | (go_at_call_of 35 (Value.slice o6 s.acks.length c6); refine (HMacks.out _).mono ?_; rintro e w' ⟨rfl, n6, rfl⟩))
      go_ret
      exact ⟨false, rfl, ⟨fun h => by simp at h, fun h => absurd h HNE.out⟩, HB0.out.trans (drewN_belowSt w0 _ _)⟩
  · have e1 : ((s.conns.length : Int) != (t.conns.length : Int)) = true := by simp; omega
    have HNE := hid (show ¬ Alike s t from fun h => q1 (by rw [h.conns]))
    clear q1
    go_enter Tryd.func11, Tryd.ntmps11
    go_upto_region 1 with fail
    rw [HW0.out]
    rw [show w0 = w0.drewN 0 from rfl]
    go_wp2_with (first | (go_at_call_of 35 (Value.slice o4 s.sent.length c4); refine (HMsent.out _).mono ?_; rintro e w' ⟨rfl, n4, rfl⟩) | (go_at_call_of 35 (Value.slice o5 s.got.length c5); refine (HMgot.out _).mono ?_; rintro e w' ⟨rfl, n5, rfl⟩) | (go_at_call_of 35 (Value.slice o6 s.acks.length c6); refine (HMacks.out _).mono ?_; rintro e w' ⟨rfl, n6, rfl⟩))
    go_ret
    exact ⟨false, rfl, ⟨fun h => by simp at h, fun h => absurd h HNE.out⟩, HB0.out.trans (drewN_belowSt w0 _ _)⟩
end Go.Proofs.YtooemgkjkngpcaaDoor
