/-
  The document's Marks: what is wrong with marks.
-/
import Derived.Test.YtnoaohlajllngaaDoortlSt8RKey
import Derived.Test.YtnoaohlajllngaaDoortlStByOne
import Derived.BigQuiet
namespace Go.Proofs.YtnoaohlajllngaaDoor
open Go.RowKit

def prevO {α : Type} (l : List α) : Nat → Option α
  | 0 => none
  | k + 1 => l[k]?
theorem upGo_at {α : Type} (f : α → Int) (lt : α → α → Bool) (p : Option α) (l : List α) (k : Nat) (x : α) (h : l[k]? = some x) : upGo f lt p (l.drop k) = if f x ≠ 0 then f x else if aheadOk lt p x = false then 2 else upGo f lt (prevO l (k + 1)) (l.drop (k + 1)) := by
  rw [drop_at l k x h, upGo, show prevO l (k + 1) = some x from h]
theorem below_quiet (w : World) (N n : Nat) : Below N w (w.drewN n) := ⟨rfl, rfl, rfl, Nat.le_refl _, fun _ _ => rfl⟩
set_option maxRecDepth 100000 in
set_option maxHeartbeats 8000000 in
theorem refMarks_any (l : List Mk) (sv : Value) (N : Nat) (w : World) (hN : N ≤ w.heap.size) (hv : Many MkR 3 w N sv l) (hl : l.length < 2305843009213693952) :
    Calls Tryd.prog 70 #[sv] w fun e w' => e = .returned (.int .i64 (marksN l)) ∧ Below w.heap.size w w' := by
  obtain ⟨oa, ca, rfl, hca⟩ := hv.shape
  have HV := hid hv
  clear hv
  generalize hn : l.length = n at *
  have HN := hid hn
  clear hn
  go_enter Tryd.func70, Tryd.ntmps70
  go_wp2_with fail
  go_loopw [7] (fun i wr => ∃ k : Nat, k ≤ n ∧ i = .int .i64 (k : Int) ∧ Hid (Below w.heap.size w wr ∧ marksN l = upGo wrongMk lessMk (prevO l k) (l.drop k))) (fun i _ => n - (intOf i).toNat)
  case atStart => exact ⟨0, by omega, rfl, hid ⟨Below.refl _ _, rfl⟩⟩
  case round =>
    obtain ⟨k, hk, rfl, HT⟩ := hrel
    have HBW := hid HT.out.1
    have HUP := hid HT.out.2
    clear HT
    have hszw := HBW.out.size
    by_cases hlt : k < n
    · obtain ⟨x, hx⟩ : ∃ x, l[k]? = some x := ⟨l[k]'(by rw [HN.out]; exact hlt), List.getElem?_eq_getElem _⟩
      obtain ⟨b, o, rfl, hcells⟩ := HV.out.spot (by omega)
      obtain ⟨hbN, r, hr, hc⟩ := hcells k x hx
      obtain ⟨dv, rfl, hdg⟩ := hr
      obtain ⟨od, cd, rfl, -⟩ := hdg.shape
      have hbl : b < w.heap.size := by omega
      have f0 := (HBW.out.cell (p := ⟨b, o + k * 3 + 0, none⟩) hbl).trans (hc 0 _ rfl)
      have f1 := (HBW.out.cell (p := ⟨b, o + k * 3 + 1, none⟩) hbl).trans (hc 1 _ rfl)
      have f2 := (HBW.out.cell (p := ⟨b, o + k * 3 + 2, none⟩) hbl).trans (hc 2 _ rfl)
      simp only [Nat.add_zero] at f0
      have hlt' : (k : Int) < (n : Int) := by omega
      obtain ⟨w2, hw2⟩ : ∃ w2, wr.alloc (.cells #[.int .i64 x.chan, .int .i64 x.seq, .slice od x.dig.length cd] 118) = w2 := ⟨_, rfl⟩
      have hbr2 : Below wr.heap.size wr w2 := by rw [← hw2]; exact (Below.refl _ _).alloc (Nat.le_refl _) _
      have HB2 := hid (HBW.out.trans (hbr2.mono hszw))
      have hrow2 : Row w2 wr.heap.size 118 [.int .i64 x.chan, .int .i64 x.seq, .slice od x.dig.length cd] := by rw [← hw2]; exact Row.new _ _ _
      obtain ⟨w3, hw3⟩ : ∃ w3, w2.alloc (.cells #[.int .i64 x.chan] 3) = w3 := ⟨_, rfl⟩
      have hb3 : Below w2.heap.size w2 w3 := by rw [← hw3]; exact (Below.refl _ _).alloc (Nat.le_refl _) _
      have HB3 := hid (HB2.out.trans (hb3.mono HB2.out.size))
      have hrow3 := hrow2.below hb3 hrow2.lt
      obtain ⟨w4, hw4⟩ : ∃ w4, w3.alloc (.cells #[.int .i64 x.seq] 3) = w4 := ⟨_, rfl⟩
      have hb4 : Below w3.heap.size w3 w4 := by rw [← hw4]; exact (Below.refl _ _).alloc (Nat.le_refl _) _
      have HB4 := hid (HB3.out.trans (hb4.mono HB3.out.size))
      have HR4 := hid (hrow3.below hb4 hrow3.lt)
      have q0 : w2.cell? ⟨wr.heap.size, 0, none⟩ = some (.int .i64 x.chan) := hrow2.cell 0
      have q1 : w3.cell? ⟨wr.heap.size, 1, none⟩ = some (.int .i64 x.seq) := hrow3.cell 1
      have HF0 := hid (refFrom_any 0 [x.chan] w2.heap.size 1 w3 (by rw [← hw3]; exact Row.new _ _ _) rfl (by decide))
      have HF1 := hid (refFrom_any 1 [x.seq] w3.heap.size 1 w4 (by rw [← hw4]; exact Row.new _ _ _) rfl (by decide))
      simp only [List.all_cons, List.all_nil, Bool.and_true] at HF0 HF1
      have HST := hid (upGo_at wrongMk lessMk (prevO l k) l k x hx)
      have HW2 := hid hw2
      have HW3 := hid hw3
      have HW4 := hid hw4
      have HCS := hid hcells
      clear hbr2 hrow2 hrow3 hw2 hw3 hw4 hb3 hb4 hcells hc hdg hx
      cases z0 : fromB 0 x.chan with
      | false =>
        have Z0 := hid z0
        have HVV := hid (show marksN l = 3 by rw [HUP.out, HST.out]; unfold wrongMk; simp [z0])
        clear z0
        go_upto_region 4 with fail
        rw [HW2.out]
        go_wp2_with fail
        rw [HW3.out]
        refine HF0.out.mono ?_
        rintro e w3' ⟨rfl, h3'⟩
        rw [h3']
        clear h3' w3'
        rw [Z0.out]
        go_wp2
        go_ret
        exact ⟨by rw [HVV.out]; first | done | rfl, HB3.out⟩
      | true =>
        have Z0 := hid z0
        cases z1 : fromB 1 x.seq with
        | false =>
          have Z1 := hid z1
          have HVV := hid (show marksN l = 3 by rw [HUP.out, HST.out]; unfold wrongMk; simp [z0, z1])
          clear z0 z1
          go_upto_region 4 with fail
          rw [HW2.out]
          go_wp2_with fail
          rw [HW3.out]
          refine HF0.out.mono ?_
          rintro e w3' ⟨rfl, h3'⟩
          rw [h3']
          clear h3' w3'
          rw [Z0.out]
          go_wp2_with fail
          rw [HW4.out]
          refine HF1.out.mono ?_
          rintro e w4' ⟨rfl, h4'⟩
          rw [h4']
          clear h4' w4'
          rw [Z1.out]
          go_wp2
          go_ret
          exact ⟨by rw [HVV.out]; first | done | rfl, HB4.out⟩
        | true =>
          have Z1 := hid z1
          by_cases z2 : x.dig.length = 32
          · have e2 : ((x.dig.length : Int) != 32) = false := by rw [z2]; rfl
            have HM := hid (show wrongMk x = 0 by unfold wrongMk; simp [z0, z1, z2])
            clear z0 z1 z2
            by_cases hk0 : k = 0
            · have hj0 : decide (0 < k) = false := by simp <;> omega
              have HVV := hid (show marksN l = upGo wrongMk lessMk (prevO l (k + 1)) (l.drop (k + 1)) by rw [HUP.out, HST.out, HM.out, hk0]; rfl)
              clear hk0
              go_upto_region 4 with fail
              rw [HW2.out]
              go_wp2_with fail
              rw [HW3.out]
              refine HF0.out.mono ?_
              rintro e w3' ⟨rfl, h3'⟩
              rw [h3']
              clear h3' w3'
              rw [Z0.out]
              go_wp2_with fail
              rw [HW4.out]
              refine HF1.out.mono ?_
              rintro e w4' ⟨rfl, h4'⟩
              rw [h4']
              clear h4' w4'
              rw [Z1.out]
              go_upto_region 6 with fail
              have c0 : w4.cell? ⟨wr.heap.size, 0, none⟩ = some (.int .i64 x.chan) := HR4.out.cell 0
              have c1 : w4.cell? ⟨wr.heap.size, 1, none⟩ = some (.int .i64 x.seq) := HR4.out.cell 1
              have c2 : w4.cell? ⟨wr.heap.size, 2, none⟩ = some (.slice od x.dig.length cd) := HR4.out.cell 2
              go_quiet (fail)
              go_wp2
              go_roundw
              case rel => exact ⟨k + 1, by omega, by go_num, hid ⟨HB4.out.trans (below_quiet _ _ _), HVV.out⟩⟩
              case measure => simp [intOf]; omega
            · obtain ⟨j, hjk⟩ : ∃ j, k = j + 1 := ⟨k - 1, by omega⟩
              obtain ⟨y, hy⟩ : ∃ y, l[j]? = some y := ⟨l[j]'(by rw [HN.out]; omega), List.getElem?_eq_getElem _⟩
              obtain ⟨_, r, hr, hc⟩ := HCS.out j y hy
              obtain ⟨dy, rfl, -⟩ := hr
              have p0 := (HB4.out.cell (p := ⟨b, o + j * 3 + 0, none⟩) hbl).trans (hc 0 _ rfl)
              have p1 := (HB4.out.cell (p := ⟨b, o + j * 3 + 1, none⟩) hbl).trans (hc 1 _ rfl)
              simp only [Nat.add_zero] at p0
              have hj1 : IntKind.i64.wrap ((k : Int) - 1) = (j : Int) := by rw [IntKind.wrap_i64]; omega
              have hj0 : decide (0 < k) = true := by simp <;> omega
              have hjn : j < n := by omega
              have hjn' : (j : Int) < (n : Int) := by omega
              have HA := hid (show aheadOk lessMk (prevO l k) x = lessMk y x by rw [hjk, show prevO l (j + 1) = some y from hy]; rfl)
              clear hc hy hk0 hjk
              by_cases h1 : y.chan < x.chan
              · have g1 : decide (y.chan < x.chan) = true := by simpa using h1
                have HL := hid (show lessMk y x = true by unfold lessMk; simp [h1])
                clear h1
                have HVV := hid (show marksN l = upGo wrongMk lessMk (prevO l (k + 1)) (l.drop (k + 1)) by rw [HUP.out, HST.out, HM.out, HA.out, HL.out]; rfl)
                go_upto_region 4 with fail
                rw [HW2.out]
                go_wp2_with fail
                rw [HW3.out]
                refine HF0.out.mono ?_
                rintro e w3' ⟨rfl, h3'⟩
                rw [h3']
                clear h3' w3'
                rw [Z0.out]
                go_wp2_with fail
                rw [HW4.out]
                refine HF1.out.mono ?_
                rintro e w4' ⟨rfl, h4'⟩
                rw [h4']
                clear h4' w4'
                rw [Z1.out]
                go_upto_region 6 with fail
                have c0 : w4.cell? ⟨wr.heap.size, 0, none⟩ = some (.int .i64 x.chan) := HR4.out.cell 0
                have c1 : w4.cell? ⟨wr.heap.size, 1, none⟩ = some (.int .i64 x.seq) := HR4.out.cell 1
                have c2 : w4.cell? ⟨wr.heap.size, 2, none⟩ = some (.slice od x.dig.length cd) := HR4.out.cell 2
                go_quiet (fail)
                go_wp2
                go_roundw
                case rel => exact ⟨k + 1, by omega, by go_num, hid ⟨HB4.out.trans (below_quiet _ _ _), HVV.out⟩⟩
                case measure => simp [intOf]; omega
              · have g1 : decide (y.chan < x.chan) = false := by simpa using h1
                by_cases h2 : y.chan = x.chan
                · have g2 : (y.chan == x.chan) = true := by simpa using h2
                  by_cases h3 : y.seq < x.seq
                  · have g3 : decide (y.seq < x.seq) = true := by simpa using h3
                    have HL := hid (show lessMk y x = true by unfold lessMk; simp [h2, h3])
                    clear h1 h2 h3
                    have HVV := hid (show marksN l = upGo wrongMk lessMk (prevO l (k + 1)) (l.drop (k + 1)) by rw [HUP.out, HST.out, HM.out, HA.out, HL.out]; rfl)
                    go_upto_region 4 with fail
                    rw [HW2.out]
                    go_wp2_with fail
                    rw [HW3.out]
                    refine HF0.out.mono ?_
                    rintro e w3' ⟨rfl, h3'⟩
                    rw [h3']
                    clear h3' w3'
                    rw [Z0.out]
                    go_wp2_with fail
                    rw [HW4.out]
                    refine HF1.out.mono ?_
                    rintro e w4' ⟨rfl, h4'⟩
                    rw [h4']
                    clear h4' w4'
                    rw [Z1.out]
                    go_upto_region 6 with fail
                    have c0 : w4.cell? ⟨wr.heap.size, 0, none⟩ = some (.int .i64 x.chan) := HR4.out.cell 0
                    have c1 : w4.cell? ⟨wr.heap.size, 1, none⟩ = some (.int .i64 x.seq) := HR4.out.cell 1
                    have c2 : w4.cell? ⟨wr.heap.size, 2, none⟩ = some (.slice od x.dig.length cd) := HR4.out.cell 2
                    go_quiet (fail)
                    go_wp2
                    go_roundw
                    case rel => exact ⟨k + 1, by omega, by go_num, hid ⟨HB4.out.trans (below_quiet _ _ _), HVV.out⟩⟩
                    case measure => simp [intOf]; omega
                  · have g3 : decide (y.seq < x.seq) = false := by simpa using h3
                    have HL := hid (show lessMk y x = false by unfold lessMk; simp [h2, h3])
                    clear h1 h2 h3
                    have HVV := hid (show marksN l = 2 by rw [HUP.out, HST.out, HM.out, HA.out, HL.out]; rfl)
                    go_upto_region 4 with fail
                    rw [HW2.out]
                    go_wp2_with fail
                    rw [HW3.out]
                    refine HF0.out.mono ?_
                    rintro e w3' ⟨rfl, h3'⟩
                    rw [h3']
                    clear h3' w3'
                    rw [Z0.out]
                    go_wp2_with fail
                    rw [HW4.out]
                    refine HF1.out.mono ?_
                    rintro e w4' ⟨rfl, h4'⟩
                    rw [h4']
                    clear h4' w4'
                    rw [Z1.out]
                    go_upto_region 6 with fail
                    have c0 : w4.cell? ⟨wr.heap.size, 0, none⟩ = some (.int .i64 x.chan) := HR4.out.cell 0
                    have c1 : w4.cell? ⟨wr.heap.size, 1, none⟩ = some (.int .i64 x.seq) := HR4.out.cell 1
                    have c2 : w4.cell? ⟨wr.heap.size, 2, none⟩ = some (.slice od x.dig.length cd) := HR4.out.cell 2
                    go_quiet (fail)
                    go_wp2
                    go_ret
                    exact ⟨by rw [HVV.out]; first | done | rfl, HB4.out.trans (below_quiet _ _ _)⟩
                · have g2 : (y.chan == x.chan) = false := by simpa using h2
                  have HL := hid (show lessMk y x = false by unfold lessMk; simp [h1, h2] <;> omega)
                  clear h1 h2
                  have HVV := hid (show marksN l = 2 by rw [HUP.out, HST.out, HM.out, HA.out, HL.out]; rfl)
                  go_upto_region 4 with fail
                  rw [HW2.out]
                  go_wp2_with fail
                  rw [HW3.out]
                  refine HF0.out.mono ?_
                  rintro e w3' ⟨rfl, h3'⟩
                  rw [h3']
                  clear h3' w3'
                  rw [Z0.out]
                  go_wp2_with fail
                  rw [HW4.out]
                  refine HF1.out.mono ?_
                  rintro e w4' ⟨rfl, h4'⟩
                  rw [h4']
                  clear h4' w4'
                  rw [Z1.out]
                  go_upto_region 6 with fail
                  have c0 : w4.cell? ⟨wr.heap.size, 0, none⟩ = some (.int .i64 x.chan) := HR4.out.cell 0
                  have c1 : w4.cell? ⟨wr.heap.size, 1, none⟩ = some (.int .i64 x.seq) := HR4.out.cell 1
                  have c2 : w4.cell? ⟨wr.heap.size, 2, none⟩ = some (.slice od x.dig.length cd) := HR4.out.cell 2
                  go_quiet (fail)
                  go_wp2
                  go_ret
                  exact ⟨by rw [HVV.out]; first | done | rfl, HB4.out.trans (below_quiet _ _ _)⟩
          · have e2 : ((x.dig.length : Int) != 32) = true := by simp; omega
            have HVV := hid (show marksN l = 2 by rw [HUP.out, HST.out]; unfold wrongMk; simp [z0, z1, z2])
            clear z0 z1 z2
            go_upto_region 4 with fail
            rw [HW2.out]
            go_wp2_with fail
            rw [HW3.out]
            refine HF0.out.mono ?_
            rintro e w3' ⟨rfl, h3'⟩
            rw [h3']
            clear h3' w3'
            rw [Z0.out]
            go_wp2_with fail
            rw [HW4.out]
            refine HF1.out.mono ?_
            rintro e w4' ⟨rfl, h4'⟩
            rw [h4']
            clear h4' w4'
            rw [Z1.out]
            go_upto_region 6 with fail
            have c0 : w4.cell? ⟨wr.heap.size, 0, none⟩ = some (.int .i64 x.chan) := HR4.out.cell 0
            have c1 : w4.cell? ⟨wr.heap.size, 1, none⟩ = some (.int .i64 x.seq) := HR4.out.cell 1
            have c2 : w4.cell? ⟨wr.heap.size, 2, none⟩ = some (.slice od x.dig.length cd) := HR4.out.cell 2
            go_quiet (fail)
            go_wp2
            go_ret
            exact ⟨by rw [HVV.out]; first | done | rfl, HB4.out.trans (below_quiet _ _ _)⟩
    · have hge : decide ((k : Int) < (n : Int)) = false := by simp; omega
      have HE := hid (show marksN l = 0 by rw [HUP.out, List.drop_eq_nil_of_le (by rw [HN.out]; omega)]; rfl)
      go_wp2
      go_ret
      exact ⟨by rw [HE.out]; first | done | rfl, HBW.out⟩
end Go.Proofs.YtnoaohlajllngaaDoor
