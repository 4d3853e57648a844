/-
  What package state's oneByOne answers: what is wrong with the first entry that is wrong.
-/
import Derived.Test.YtclhcjiblfokaaaGreatDoorppStOne
import Derived.Test.YtclhcjiblfokaaaGreatDoorppStCmp
import Derived.Test.YtclhcjiblfokaaaGreatDoorppClAsk
namespace Go.Proofs.YtclhcjiblfokaaaGreatDoor
open Go.RowKit

theorem aheadOk_some {α : Type} (lt : α → α → Bool) (a x : α) : aheadOk lt (some a) x = lt a x := rfl
theorem rowS {w : World} {g k : Nat} {t : TypeId} {cs : List Value} (h : Row w g t cs) {i : Nat} {v : Value} (hg : g ≠ k) : Row (w.setCell ⟨k, i, none⟩ v) g t cs := by
  unfold Row at *
  rw [heap_setCell_other _ _ _ _ hg]
  exact h
/-- the memory of what asks whether marks rise: what it asks first, how it compares, the one ahead -/
def RiseMk (w : World) (g : Nat) (p : Option Mk) : Prop :=
  Row w g 122 [.func (.func 68) #[] #[]] ∧ Row w (g + 1) 124 [.func (.func 69) #[] #[]] ∧ Row w (g + 2 + 1) 4 [.bool p.isNone] ∧
  match p with
  | none => Row w (g + 2) 59 [.int .i64 0, .int .i64 0, .slice none 0 0]
  | some a => ∃ o c, Row w (g + 2) 59 [.int .i64 a.chan, .int .i64 a.seq, .slice o a.dig.length c]
theorem RiseMk.below {w w' : World} {g : Nat} {p : Option Mk} (h : RiseMk w g p) (hb : Below w.heap.size w w') : RiseMk w' g p := by
  obtain ⟨h1, h2, h3, h4⟩ := h
  refine ⟨h1.below hb h1.lt, h2.below hb h2.lt, h3.below hb h3.lt, ?_⟩
  cases p with
  | none => exact Row.below h4 hb (Row.lt h4)
  | some a => obtain ⟨o, c, h⟩ := h4; exact ⟨o, c, h.below hb h.lt⟩
/-- what it is handed on as -/
def cloMk (g : Nat) : Value := .func (.func 115) #[] #[.pointer (some ⟨g, 0, none⟩), .pointer (some ⟨g + 2 + 1, 0, none⟩), .pointer (some ⟨g + 1, 0, none⟩), .pointer (some ⟨g + 2, 0, none⟩)]
set_option maxHeartbeats 2000000 in
theorem risingMk (w : World) : Calls Tryz.prog 67 #[.func (.func 68) #[] #[], .func (.func 69) #[] #[]] w fun e w' => e = .returned (cloMk w.heap.size) ∧ Below w.heap.size w w' ∧ RiseMk w' w.heap.size none := by
  obtain ⟨w0, hw0⟩ : ∃ w0, (((w.alloc (.cells #[.func (.func 68) #[] #[]] 122)).alloc (.cells #[.func (.func 69) #[] #[]] 124)).alloc (.cells #[.int .i64 0, .int .i64 0, .slice none 0 0] 59)).alloc (.cells #[.bool true] 4) = w0 := ⟨_, rfl⟩
  have HB0 := hid (show Below w.heap.size w w0 by rw [← hw0]; exact ((((Below.refl _ _).alloc (Nat.le_refl _) _).alloc (by simp) _).alloc (by simp; omega) _).alloc (by simp; omega) _)
  have HR := hid (show RiseMk w0 w.heap.size none by
    rw [← hw0]
    exact ⟨(((Row.new _ _ _).alloc _).alloc _).alloc _, ((Row.newAt _ _ _ _ (by simp)).alloc _).alloc _, Row.newAt _ _ _ _ (by simp), (Row.newAt _ _ _ _ (by simp)).alloc _⟩)
  have HW0 := hid hw0
  clear hw0
  go_enter Tryz.func67, Tryz.ntmps67
  go_wp2
  go_ret
  first | rw [HW0.out] | skip
  exact ⟨by first | done | rfl, HB0.out, HR.out⟩
def nextMk (p : Option Mk) (x : Mk) : Int := if wrongMk x ≠ 0 then wrongMk x else if aheadOk lessMk p x = false then 2 else 0
theorem upGoMk (p : Option Mk) (x : Mk) (r : List Mk) : upGo wrongMk lessMk p (x :: r) = if nextMk p x ≠ 0 then nextMk p x else upGo wrongMk lessMk (some x) r := by
  unfold nextMk
  rw [upGo]
  by_cases h1 : wrongMk x = 0
  · simp only [h1, ne_eq, not_true_eq_false, if_false]
    cases aheadOk lessMk p x <;> simp
  · simp [h1]
set_option maxRecDepth 100000 in
set_option maxHeartbeats 4000000 in
theorem riseMk_any (p : Option Mk) (x : Mk) (ox : Option Addr) (cx : Nat) (g : Nat) (w : World) (h : RiseMk w g p) :
    Calls Tryz.prog 115 #[.agg #[.int .i64 x.chan, .int .i64 x.seq, .slice ox x.dig.length cx], .pointer (some ⟨g, 0, none⟩), .pointer (some ⟨g + 2 + 1, 0, none⟩), .pointer (some ⟨g + 1, 0, none⟩), .pointer (some ⟨g + 2, 0, none⟩)] w fun e w' => e = .returned (.int .i64 (nextMk p x)) ∧ Below g w w' ∧ (nextMk p x = 0 → RiseMk w' g (some x)) := by
  obtain ⟨h0, h1, h3, h4⟩ := h
  have hg3 := h3.lt
  have hgw : g ≤ w.heap.size := by omega
  obtain ⟨w0, hw0⟩ : ∃ w0, w.alloc (.cells #[.int .i64 x.chan, .int .i64 x.seq, .slice ox x.dig.length cx] 59) = w0 := ⟨_, rfl⟩
  have hb0 : Below w.heap.size w w0 := by rw [← hw0]; exact (Below.refl _ _).alloc (Nat.le_refl _) _
  have HB0 := hid hb0
  have HX0 := hid (show Row w0 w.heap.size 59 [.int .i64 x.chan, .int .i64 x.seq, .slice ox x.dig.length cx] by rw [← hw0]; exact Row.new _ _ _)
  have H00 := hid (h0.below hb0 h0.lt)
  have H10 := hid (h1.below hb0 h1.lt)
  have H30 := hid (h3.below hb0 h3.lt)
  have HW0 := hid hw0
  have HWR := hid (show Calls Tryz.prog 68 #[.agg #[.int .i64 x.chan, .int .i64 x.seq, .slice ox x.dig.length cx]] w0 _ from wrongMark_any x ox cx w0)
  have k0 : w0.cell? ⟨g, 0, none⟩ = some (.func (.func 68) #[] #[]) := H00.out.cell 0
  have x0 : w0.cell? ⟨w.heap.size, 0, none⟩ = some (.int .i64 x.chan) := HX0.out.cell 0
  have x1 : w0.cell? ⟨w.heap.size, 1, none⟩ = some (.int .i64 x.seq) := HX0.out.cell 1
  have x2 : w0.cell? ⟨w.heap.size, 2, none⟩ = some (.slice ox x.dig.length cx) := HX0.out.cell 2
  have H4 := hid h4
  clear hw0 h0 h1 h3 h4 hb0
  by_cases hz : wrongMk x = 0
  · have HZ := hid hz
    clear hz
    cases p with
    | none =>
      have HNX := hid (show nextMk none x = 0 by unfold nextMk aheadOk; simp [HZ.out])
      go_enter Tryz.func115, Tryz.ntmps115
      go_upto_region 1 with fail
      rw [HW0.out]
      go_wp2_with fail
      refine HWR.out.mono ?_
      rintro e w1 ⟨rfl, hb1⟩
      rw [HZ.out]
      have HB1 := hid (HB0.out.trans (hb1.mono HB0.out.size))
      have hG0 := hid (H00.out.below hb1 H00.out.lt)
      have hG1 := hid (H10.out.below hb1 H10.out.lt)
      have hG3 := hid (H30.out.below hb1 H30.out.lt)
      have HX1 := hid (HX0.out.below hb1 HX0.out.lt)
      have HA1 := hid ((Row.below H4.out (HB0.out) (Row.lt H4.out)).below hb1 (Row.lt (Row.below H4.out (HB0.out) (Row.lt H4.out))))
      have b3 : w1.cell? ⟨g + 2 + 1, 0, none⟩ = some (.bool true) := hG3.out.cell 0
      have z0 : w1.cell? ⟨w.heap.size, 0, none⟩ = some (.int .i64 x.chan) := HX1.out.cell 0
      have z1 : w1.cell? ⟨w.heap.size, 1, none⟩ = some (.int .i64 x.seq) := HX1.out.cell 1
      have z2 : w1.cell? ⟨w.heap.size, 2, none⟩ = some (.slice ox x.dig.length cx) := HX1.out.cell 2
      have fr3 := hG3.out.frozen 0
      have y0 := HA1.out.cell 0
      have y1 := HA1.out.cell 1
      have y2 := HA1.out.cell 2
      simp at y0
      simp at y1
      simp at y2
      have fra0 := HA1.out.frozen 0
      have fra1 := HA1.out.frozen 1
      have fra2 := HA1.out.frozen 2
      clear hb1
      obtain ⟨wz, hwz⟩ : ∃ wz, ((((w1.setCell ⟨g + 2, 0, none⟩ (.int .i64 x.chan)).setCell ⟨g + 2, 1, none⟩ (.int .i64 x.seq)).setCell ⟨g + 2, 2, none⟩ (.slice ox x.dig.length cx)).setCell ⟨g + 2 + 1, 0, none⟩ (.bool false)) = wz := ⟨_, rfl⟩
      have HBZ := hid (show Below g w wz by rw [← hwz]; exact (((((HB1.out.mono hgw).setCell (show g ≤ g + 2 by omega) _).setCell (show g ≤ g + 2 by omega) _).setCell (show g ≤ g + 2 by omega) _).setCell (show g ≤ g + 2 + 1 by omega) _))
      have HRZ := hid (show RiseMk wz g (some x) by
        rw [← hwz]
        refine ⟨?_, ?_, ?_, ox, cx, ?_⟩
        · exact rowS (rowS (rowS (rowS hG0.out (by omega)) (by omega)) (by omega)) (by omega)
        · exact rowS (rowS (rowS (rowS hG1.out (by omega)) (by omega)) (by omega)) (by omega)
        · exact (rowS (rowS (rowS hG3.out (by omega)) (by omega)) (by omega)).set 0 _
        · exact rowS (((HA1.out.set 0 _).set 1 _).set 2 _) (by omega))
      have HWZ := hid hwz
      clear hwz
      go_wp2
      go_ret
      first | rw [HWZ.out] | skip
      exact ⟨by rw [HNX.out]; first | done | rfl, HBZ.out, fun _ => HRZ.out⟩
    | some a =>
      obtain ⟨oa, ca, hra⟩ : ∃ o c, Row w (g + 2) 59 [.int .i64 a.chan, .int .i64 a.seq, .slice o a.dig.length c] := H4.out
      have hra0 := hra.below HB0.out hra.lt
      have HRA0 := hid hra0
      clear H4 hra hra0
      go_enter Tryz.func115, Tryz.ntmps115
      go_upto_region 1 with fail
      rw [HW0.out]
      go_wp2_with fail
      refine HWR.out.mono ?_
      rintro e w1 ⟨rfl, hb1⟩
      rw [HZ.out]
      have HB1 := hid (HB0.out.trans (hb1.mono HB0.out.size))
      have hE0 := hid (H00.out.below hb1 H00.out.lt)
      have hE1 := hid (H10.out.below hb1 H10.out.lt)
      have hE3 := hid (H30.out.below hb1 H30.out.lt)
      have HX1 := hid (HX0.out.below hb1 HX0.out.lt)
      have HA1 := hid (HRA0.out.below hb1 HRA0.out.lt)
      have HCM := hid (show Calls Tryz.prog 69 #[.agg #[.int .i64 a.chan, .int .i64 a.seq, .slice oa a.dig.length ca], .agg #[.int .i64 x.chan, .int .i64 x.seq, .slice ox x.dig.length cx]] w1 _ from compareMarks_any a x oa ox ca cx w1)
      have b3 : w1.cell? ⟨g + 2 + 1, 0, none⟩ = some (.bool false) := hE3.out.cell 0
      have b1 : w1.cell? ⟨g + 1, 0, none⟩ = some (.func (.func 69) #[] #[]) := hE1.out.cell 0
      have q0 : w1.cell? ⟨g + 2, 0, none⟩ = some (.int .i64 a.chan) := HA1.out.cell 0
      have q1 : w1.cell? ⟨g + 2, 1, none⟩ = some (.int .i64 a.seq) := HA1.out.cell 1
      have q2 : w1.cell? ⟨g + 2, 2, none⟩ = some (.slice oa a.dig.length ca) := HA1.out.cell 2
      have z0 : w1.cell? ⟨w.heap.size, 0, none⟩ = some (.int .i64 x.chan) := HX1.out.cell 0
      have z1 : w1.cell? ⟨w.heap.size, 1, none⟩ = some (.int .i64 x.seq) := HX1.out.cell 1
      have z2 : w1.cell? ⟨w.heap.size, 2, none⟩ = some (.slice ox x.dig.length cx) := HX1.out.cell 2
      clear hb1
      go_wp2_with fail
      refine HCM.out.mono ?_
      rintro e w2 ⟨rfl, hb2⟩
      have HB2 := hid (HB1.out.trans (hb2.mono HB1.out.size))
      have hG0 := hid (hE0.out.below hb2 hE0.out.lt)
      have hG1 := hid (hE1.out.below hb2 hE1.out.lt)
      have hG3 := hid (hE3.out.below hb2 hE3.out.lt)
      have HX2 := hid (HX1.out.below hb2 HX1.out.lt)
      have HA2 := hid (HA1.out.below hb2 HA1.out.lt)
      clear hb2 b3 b1 q0 q1 q2 z0 z1 z2 x0 x1 x2 k0
      have z0 : w2.cell? ⟨w.heap.size, 0, none⟩ = some (.int .i64 x.chan) := HX2.out.cell 0
      have z1 : w2.cell? ⟨w.heap.size, 1, none⟩ = some (.int .i64 x.seq) := HX2.out.cell 1
      have z2 : w2.cell? ⟨w.heap.size, 2, none⟩ = some (.slice ox x.dig.length cx) := HX2.out.cell 2
      have fr3 := hG3.out.frozen 0
      have y0 := HA2.out.cell 0
      have y1 := HA2.out.cell 1
      have y2 := HA2.out.cell 2
      simp at y0
      simp at y1
      simp at y2
      have b3 : w2.cell? ⟨g + 2 + 1, 0, none⟩ = some (.bool false) := hG3.out.cell 0
      have fra0 := HA2.out.frozen 0
      have fra1 := HA2.out.frozen 1
      have fra2 := HA2.out.frozen 2
      have HLC := hid (lessMk_cmp a x)
      generalize hcz : orN [cmpN a.chan x.chan, cmpN a.seq x.seq] = zc at *
      clear hcz
      by_cases hlt : zc < 0
      · have e0 : decide ((0 : Int) ≤ zc) = false := decide_eq_false (by omega)
        have HNX := hid (show nextMk (some a) x = 0 by unfold nextMk; rw [aheadOk_some, HLC.out, decide_eq_true hlt]; simp [HZ.out])
        clear hlt HLC HCM
        obtain ⟨wz, hwz⟩ : ∃ wz, ((((w2.setCell ⟨g + 2, 0, none⟩ (.int .i64 x.chan)).setCell ⟨g + 2, 1, none⟩ (.int .i64 x.seq)).setCell ⟨g + 2, 2, none⟩ (.slice ox x.dig.length cx)).setCell ⟨g + 2 + 1, 0, none⟩ (.bool false)) = wz := ⟨_, rfl⟩
        have HBZ := hid (show Below g w wz by rw [← hwz]; exact (((((HB2.out.mono hgw).setCell (show g ≤ g + 2 by omega) _).setCell (show g ≤ g + 2 by omega) _).setCell (show g ≤ g + 2 by omega) _).setCell (show g ≤ g + 2 + 1 by omega) _))
        have HRZ := hid (show RiseMk wz g (some x) by
          rw [← hwz]
          refine ⟨?_, ?_, ?_, ox, cx, ?_⟩
          · exact rowS (rowS (rowS (rowS hG0.out (by omega)) (by omega)) (by omega)) (by omega)
          · exact rowS (rowS (rowS (rowS hG1.out (by omega)) (by omega)) (by omega)) (by omega)
          · exact (rowS (rowS (rowS hG3.out (by omega)) (by omega)) (by omega)).set 0 _
          · exact rowS (((HA2.out.set 0 _).set 1 _).set 2 _) (by omega))
        have HWZ := hid hwz
        clear hwz
        go_wp2
        go_ret
        first | rw [HWZ.out] | skip
        exact ⟨by rw [HNX.out]; first | done | rfl, HBZ.out, fun _ => HRZ.out⟩
      · have e0 : decide ((0 : Int) ≤ zc) = true := decide_eq_true (by omega)
        have HNX := hid (show nextMk (some a) x = 2 by unfold nextMk; rw [aheadOk_some, HLC.out, decide_eq_false hlt]; simp [HZ.out])
        clear hlt HLC HCM
        go_wp2
        go_ret
        exact ⟨by rw [HNX.out]; first | done | rfl, HB2.out.mono hgw, fun h => absurd h (by rw [HNX.out]; decide)⟩
  · have e0 : (wrongMk x != 0) = true := by simpa using hz
    have HNX := hid (show nextMk p x = wrongMk x by unfold nextMk; rw [if_pos hz])
    have HNZ := hid hz
    clear hz
    generalize hwx : wrongMk x = zx at *
    clear hwx
    go_enter Tryz.func115, Tryz.ntmps115
    go_upto_region 1 with fail
    rw [HW0.out]
    go_wp2_with fail
    refine HWR.out.mono ?_
    rintro e w1 ⟨rfl, hb1⟩
    have HB1 := hid (HB0.out.trans (hb1.mono HB0.out.size))
    clear hb1
    go_wp2
    go_ret
    exact ⟨by rw [HNX.out]; first | done | rfl, HB1.out.mono hgw, fun h => absurd h (by rw [HNX.out]; exact HNZ.out)⟩
/-- the memory of what asks whether purses rise: what it asks first, how it compares, the one ahead -/
def RisePu (w : World) (g : Nat) (p : Option Pu) : Prop :=
  Row w g 126 [.func (.func 72) #[] #[]] ∧ Row w (g + 1) 128 [.func (.func 73) #[] #[]] ∧ Row w (g + 2 + 1) 4 [.bool p.isNone] ∧
  match p with
  | none => Row w (g + 2) 98 [.string ⟨#[]⟩, .string ⟨#[]⟩, .int .u64 0]
  | some a => Row w (g + 2) 98 [.string a.owner, .string a.denom, .int .u64 (a.amount : Int)]
theorem RisePu.below {w w' : World} {g : Nat} {p : Option Pu} (h : RisePu w g p) (hb : Below w.heap.size w w') : RisePu w' g p := by
  obtain ⟨h1, h2, h3, h4⟩ := h
  refine ⟨h1.below hb h1.lt, h2.below hb h2.lt, h3.below hb h3.lt, ?_⟩
  cases p with
  | none => exact Row.below h4 hb (Row.lt h4)
  | some a => exact Row.below h4 hb (Row.lt h4)
/-- what it is handed on as -/
def cloPu (g : Nat) : Value := .func (.func 118) #[] #[.pointer (some ⟨g, 0, none⟩), .pointer (some ⟨g + 2 + 1, 0, none⟩), .pointer (some ⟨g + 1, 0, none⟩), .pointer (some ⟨g + 2, 0, none⟩)]
set_option maxHeartbeats 2000000 in
theorem risingPu (w : World) : Calls Tryz.prog 71 #[.func (.func 72) #[] #[], .func (.func 73) #[] #[]] w fun e w' => e = .returned (cloPu w.heap.size) ∧ Below w.heap.size w w' ∧ RisePu w' w.heap.size none := by
  obtain ⟨w0, hw0⟩ : ∃ w0, (((w.alloc (.cells #[.func (.func 72) #[] #[]] 126)).alloc (.cells #[.func (.func 73) #[] #[]] 128)).alloc (.cells #[.string ⟨#[]⟩, .string ⟨#[]⟩, .int .u64 0] 98)).alloc (.cells #[.bool true] 4) = w0 := ⟨_, rfl⟩
  have HB0 := hid (show Below w.heap.size w w0 by rw [← hw0]; exact ((((Below.refl _ _).alloc (Nat.le_refl _) _).alloc (by simp) _).alloc (by simp; omega) _).alloc (by simp; omega) _)
  have HR := hid (show RisePu w0 w.heap.size none by
    rw [← hw0]
    exact ⟨(((Row.new _ _ _).alloc _).alloc _).alloc _, ((Row.newAt _ _ _ _ (by simp)).alloc _).alloc _, Row.newAt _ _ _ _ (by simp), (Row.newAt _ _ _ _ (by simp)).alloc _⟩)
  have HW0 := hid hw0
  clear hw0
  go_enter Tryz.func71, Tryz.ntmps71
  go_wp2
  go_ret
  first | rw [HW0.out] | skip
  exact ⟨by first | done | rfl, HB0.out, HR.out⟩
def nextPu (p : Option Pu) (x : Pu) : Int := if wrongPu x ≠ 0 then wrongPu x else if aheadOk lessPu p x = false then 2 else 0
theorem upGoPu (p : Option Pu) (x : Pu) (r : List Pu) : upGo wrongPu lessPu p (x :: r) = if nextPu p x ≠ 0 then nextPu p x else upGo wrongPu lessPu (some x) r := by
  unfold nextPu
  rw [upGo]
  by_cases h1 : wrongPu x = 0
  · simp only [h1, ne_eq, not_true_eq_false, if_false]
    cases aheadOk lessPu p x <;> simp
  · simp [h1]
set_option maxRecDepth 100000 in
set_option maxHeartbeats 4000000 in
theorem risePu_any (p : Option Pu) (x : Pu) (g : Nat) (w : World) (h : RisePu w g p) :
    Calls Tryz.prog 118 #[.agg #[.string x.owner, .string x.denom, .int .u64 (x.amount : Int)], .pointer (some ⟨g, 0, none⟩), .pointer (some ⟨g + 2 + 1, 0, none⟩), .pointer (some ⟨g + 1, 0, none⟩), .pointer (some ⟨g + 2, 0, none⟩)] w fun e w' => e = .returned (.int .i64 (nextPu p x)) ∧ Below g w w' ∧ (nextPu p x = 0 → RisePu w' g (some x)) := by
  obtain ⟨h0, h1, h3, h4⟩ := h
  have hg3 := h3.lt
  have hgw : g ≤ w.heap.size := by omega
  obtain ⟨w0, hw0⟩ : ∃ w0, w.alloc (.cells #[.string x.owner, .string x.denom, .int .u64 (x.amount : Int)] 98) = w0 := ⟨_, rfl⟩
  have hb0 : Below w.heap.size w w0 := by rw [← hw0]; exact (Below.refl _ _).alloc (Nat.le_refl _) _
  have HB0 := hid hb0
  have HX0 := hid (show Row w0 w.heap.size 98 [.string x.owner, .string x.denom, .int .u64 (x.amount : Int)] by rw [← hw0]; exact Row.new _ _ _)
  have H00 := hid (h0.below hb0 h0.lt)
  have H10 := hid (h1.below hb0 h1.lt)
  have H30 := hid (h3.below hb0 h3.lt)
  have HW0 := hid hw0
  have HWR := hid (show Calls Tryz.prog 72 #[.agg #[.string x.owner, .string x.denom, .int .u64 (x.amount : Int)]] w0 _ from wrongPurse_any x w0)
  have k0 : w0.cell? ⟨g, 0, none⟩ = some (.func (.func 72) #[] #[]) := H00.out.cell 0
  have x0 : w0.cell? ⟨w.heap.size, 0, none⟩ = some (.string x.owner) := HX0.out.cell 0
  have x1 : w0.cell? ⟨w.heap.size, 1, none⟩ = some (.string x.denom) := HX0.out.cell 1
  have x2 : w0.cell? ⟨w.heap.size, 2, none⟩ = some (.int .u64 (x.amount : Int)) := HX0.out.cell 2
  have H4 := hid h4
  clear hw0 h0 h1 h3 h4 hb0
  by_cases hz : wrongPu x = 0
  · have HZ := hid hz
    clear hz
    cases p with
    | none =>
      have HNX := hid (show nextPu none x = 0 by unfold nextPu aheadOk; simp [HZ.out])
      go_enter Tryz.func118, Tryz.ntmps118
      go_upto_region 1 with fail
      rw [HW0.out]
      go_wp2_with fail
      refine HWR.out.mono ?_
      rintro e w1 ⟨rfl, hb1⟩
      rw [HZ.out]
      have HB1 := hid (HB0.out.trans (hb1.mono HB0.out.size))
      have hG0 := hid (H00.out.below hb1 H00.out.lt)
      have hG1 := hid (H10.out.below hb1 H10.out.lt)
      have hG3 := hid (H30.out.below hb1 H30.out.lt)
      have HX1 := hid (HX0.out.below hb1 HX0.out.lt)
      have HA1 := hid ((Row.below H4.out (HB0.out) (Row.lt H4.out)).below hb1 (Row.lt (Row.below H4.out (HB0.out) (Row.lt H4.out))))
      have b3 : w1.cell? ⟨g + 2 + 1, 0, none⟩ = some (.bool true) := hG3.out.cell 0
      have z0 : w1.cell? ⟨w.heap.size, 0, none⟩ = some (.string x.owner) := HX1.out.cell 0
      have z1 : w1.cell? ⟨w.heap.size, 1, none⟩ = some (.string x.denom) := HX1.out.cell 1
      have z2 : w1.cell? ⟨w.heap.size, 2, none⟩ = some (.int .u64 (x.amount : Int)) := HX1.out.cell 2
      have fr3 := hG3.out.frozen 0
      have y0 := HA1.out.cell 0
      have y1 := HA1.out.cell 1
      have y2 := HA1.out.cell 2
      simp at y0
      simp at y1
      simp at y2
      have fra0 := HA1.out.frozen 0
      have fra1 := HA1.out.frozen 1
      have fra2 := HA1.out.frozen 2
      clear hb1
      obtain ⟨wz, hwz⟩ : ∃ wz, ((((w1.setCell ⟨g + 2, 0, none⟩ (.string x.owner)).setCell ⟨g + 2, 1, none⟩ (.string x.denom)).setCell ⟨g + 2, 2, none⟩ (.int .u64 (x.amount : Int))).setCell ⟨g + 2 + 1, 0, none⟩ (.bool false)) = wz := ⟨_, rfl⟩
      have HBZ := hid (show Below g w wz by rw [← hwz]; exact (((((HB1.out.mono hgw).setCell (show g ≤ g + 2 by omega) _).setCell (show g ≤ g + 2 by omega) _).setCell (show g ≤ g + 2 by omega) _).setCell (show g ≤ g + 2 + 1 by omega) _))
      have HRZ := hid (show RisePu wz g (some x) by
        rw [← hwz]
        refine ⟨?_, ?_, ?_, ?_⟩
        · exact rowS (rowS (rowS (rowS hG0.out (by omega)) (by omega)) (by omega)) (by omega)
        · exact rowS (rowS (rowS (rowS hG1.out (by omega)) (by omega)) (by omega)) (by omega)
        · exact (rowS (rowS (rowS hG3.out (by omega)) (by omega)) (by omega)).set 0 _
        · exact rowS (((HA1.out.set 0 _).set 1 _).set 2 _) (by omega))
      have HWZ := hid hwz
      clear hwz
      go_wp2
      go_ret
      first | rw [HWZ.out] | skip
      exact ⟨by rw [HNX.out]; first | done | rfl, HBZ.out, fun _ => HRZ.out⟩
    | some a =>
      have hra : Row w (g + 2) 98 [.string a.owner, .string a.denom, .int .u64 (a.amount : Int)] := H4.out
      have hra0 := hra.below HB0.out hra.lt
      have HRA0 := hid hra0
      clear H4 hra hra0
      go_enter Tryz.func118, Tryz.ntmps118
      go_upto_region 1 with fail
      rw [HW0.out]
      go_wp2_with fail
      refine HWR.out.mono ?_
      rintro e w1 ⟨rfl, hb1⟩
      rw [HZ.out]
      have HB1 := hid (HB0.out.trans (hb1.mono HB0.out.size))
      have hE0 := hid (H00.out.below hb1 H00.out.lt)
      have hE1 := hid (H10.out.below hb1 H10.out.lt)
      have hE3 := hid (H30.out.below hb1 H30.out.lt)
      have HX1 := hid (HX0.out.below hb1 HX0.out.lt)
      have HA1 := hid (HRA0.out.below hb1 HRA0.out.lt)
      have HCM := hid (show Calls Tryz.prog 73 #[.agg #[.string a.owner, .string a.denom, .int .u64 (a.amount : Int)], .agg #[.string x.owner, .string x.denom, .int .u64 (x.amount : Int)]] w1 _ from comparePurses_any a x w1)
      have b3 : w1.cell? ⟨g + 2 + 1, 0, none⟩ = some (.bool false) := hE3.out.cell 0
      have b1 : w1.cell? ⟨g + 1, 0, none⟩ = some (.func (.func 73) #[] #[]) := hE1.out.cell 0
      have q0 : w1.cell? ⟨g + 2, 0, none⟩ = some (.string a.owner) := HA1.out.cell 0
      have q1 : w1.cell? ⟨g + 2, 1, none⟩ = some (.string a.denom) := HA1.out.cell 1
      have q2 : w1.cell? ⟨g + 2, 2, none⟩ = some (.int .u64 (a.amount : Int)) := HA1.out.cell 2
      have z0 : w1.cell? ⟨w.heap.size, 0, none⟩ = some (.string x.owner) := HX1.out.cell 0
      have z1 : w1.cell? ⟨w.heap.size, 1, none⟩ = some (.string x.denom) := HX1.out.cell 1
      have z2 : w1.cell? ⟨w.heap.size, 2, none⟩ = some (.int .u64 (x.amount : Int)) := HX1.out.cell 2
      clear hb1
      go_wp2_with fail
      refine HCM.out.mono ?_
      rintro e w2 ⟨rfl, hb2⟩
      have HB2 := hid (HB1.out.trans (hb2.mono HB1.out.size))
      have hG0 := hid (hE0.out.below hb2 hE0.out.lt)
      have hG1 := hid (hE1.out.below hb2 hE1.out.lt)
      have hG3 := hid (hE3.out.below hb2 hE3.out.lt)
      have HX2 := hid (HX1.out.below hb2 HX1.out.lt)
      have HA2 := hid (HA1.out.below hb2 HA1.out.lt)
      clear hb2 b3 b1 q0 q1 q2 z0 z1 z2 x0 x1 x2 k0
      have z0 : w2.cell? ⟨w.heap.size, 0, none⟩ = some (.string x.owner) := HX2.out.cell 0
      have z1 : w2.cell? ⟨w.heap.size, 1, none⟩ = some (.string x.denom) := HX2.out.cell 1
      have z2 : w2.cell? ⟨w.heap.size, 2, none⟩ = some (.int .u64 (x.amount : Int)) := HX2.out.cell 2
      have fr3 := hG3.out.frozen 0
      have y0 := HA2.out.cell 0
      have y1 := HA2.out.cell 1
      have y2 := HA2.out.cell 2
      simp at y0
      simp at y1
      simp at y2
      have b3 : w2.cell? ⟨g + 2 + 1, 0, none⟩ = some (.bool false) := hG3.out.cell 0
      have fra0 := HA2.out.frozen 0
      have fra1 := HA2.out.frozen 1
      have fra2 := HA2.out.frozen 2
      have HLC := hid (lessPu_cmp a x)
      generalize hcz : orN [cmpS a.owner x.owner, cmpS a.denom x.denom] = zc at *
      clear hcz
      by_cases hlt : zc < 0
      · have e0 : decide ((0 : Int) ≤ zc) = false := decide_eq_false (by omega)
        have HNX := hid (show nextPu (some a) x = 0 by unfold nextPu; rw [aheadOk_some, HLC.out, decide_eq_true hlt]; simp [HZ.out])
        clear hlt HLC HCM
        obtain ⟨wz, hwz⟩ : ∃ wz, ((((w2.setCell ⟨g + 2, 0, none⟩ (.string x.owner)).setCell ⟨g + 2, 1, none⟩ (.string x.denom)).setCell ⟨g + 2, 2, none⟩ (.int .u64 (x.amount : Int))).setCell ⟨g + 2 + 1, 0, none⟩ (.bool false)) = wz := ⟨_, rfl⟩
        have HBZ := hid (show Below g w wz by rw [← hwz]; exact (((((HB2.out.mono hgw).setCell (show g ≤ g + 2 by omega) _).setCell (show g ≤ g + 2 by omega) _).setCell (show g ≤ g + 2 by omega) _).setCell (show g ≤ g + 2 + 1 by omega) _))
        have HRZ := hid (show RisePu wz g (some x) by
          rw [← hwz]
          refine ⟨?_, ?_, ?_, ?_⟩
          · exact rowS (rowS (rowS (rowS hG0.out (by omega)) (by omega)) (by omega)) (by omega)
          · exact rowS (rowS (rowS (rowS hG1.out (by omega)) (by omega)) (by omega)) (by omega)
          · exact (rowS (rowS (rowS hG3.out (by omega)) (by omega)) (by omega)).set 0 _
          · exact rowS (((HA2.out.set 0 _).set 1 _).set 2 _) (by omega))
        have HWZ := hid hwz
        clear hwz
        go_wp2
        go_ret
        first | rw [HWZ.out] | skip
        exact ⟨by rw [HNX.out]; first | done | rfl, HBZ.out, fun _ => HRZ.out⟩
      · have e0 : decide ((0 : Int) ≤ zc) = true := decide_eq_true (by omega)
        have HNX := hid (show nextPu (some a) x = 2 by unfold nextPu; rw [aheadOk_some, HLC.out, decide_eq_false hlt]; simp [HZ.out])
        clear hlt HLC HCM
        go_wp2
        go_ret
        exact ⟨by rw [HNX.out]; first | done | rfl, HB2.out.mono hgw, fun h => absurd h (by rw [HNX.out]; decide)⟩
  · have e0 : (wrongPu x != 0) = true := by simpa using hz
    have HNX := hid (show nextPu p x = wrongPu x by unfold nextPu; rw [if_pos hz])
    have HNZ := hid hz
    clear hz
    generalize hwx : wrongPu x = zx at *
    clear hwx
    go_enter Tryz.func118, Tryz.ntmps118
    go_upto_region 1 with fail
    rw [HW0.out]
    go_wp2_with fail
    refine HWR.out.mono ?_
    rintro e w1 ⟨rfl, hb1⟩
    have HB1 := hid (HB0.out.trans (hb1.mono HB0.out.size))
    clear hb1
    go_wp2
    go_ret
    exact ⟨by rw [HNX.out]; first | done | rfl, HB1.out.mono hgw, fun h => absurd h (by rw [HNX.out]; exact HNZ.out)⟩
end Go.Proofs.YtclhcjiblfokaaaGreatDoor
namespace Go.Proofs.YtclhcjiblfokaaaGreatDoor
open Go.RowKit

theorem firstW_at {α : Type} (f : α → Int) (l : List α) (k : Nat) (x : α) (h : l[k]? = some x) : firstW f (l.drop k) = if f x ≠ 0 then f x else firstW f (l.drop (k + 1)) := by
  have hk := (List.getElem?_eq_some_iff.1 h).1
  rw [List.drop_eq_getElem_cons hk, (List.getElem?_eq_some_iff.1 h).2, firstW]
theorem drop_at {α : Type} (l : List α) (k : Nat) (x : α) (h : l[k]? = some x) : l.drop k = x :: l.drop (k + 1) := by
  have hk := (List.getElem?_eq_some_iff.1 h).1
  rw [List.drop_eq_getElem_cons hk, (List.getElem?_eq_some_iff.1 h).2]
set_option maxRecDepth 100000 in
set_option maxHeartbeats 4000000 in
theorem byOneCl (l : List Cl) (sv : Value) (N : Nat) (w : World) (hN : N ≤ w.heap.size) (hv : Many ClR 4 w N sv l) (hl : l.length < 2305843009213693952) (hfit : ∀ c ∈ l, c.fits) :
    Calls Tryz.prog 60 #[sv, .func (.func 61) #[] #[]] w fun e w' => e = .returned (.int .i64 (firstW wrongCl l)) ∧ Below w.heap.size w w' := by
  obtain ⟨oa, ca, rfl, hca⟩ := hv.shape
  have HV := hid hv
  clear hv
  generalize hn : l.length = n at *
  have HN := hid hn
  clear hn
  go_enter Tryz.func60, Tryz.ntmps60
  go_wp2_with fail
  go_loopw [6, 7, 10] (fun _ _ i wr => ∃ k : Nat, k ≤ n ∧ i = .int .i64 (k : Int) ∧ Hid (Below w.heap.size w wr ∧ firstW wrongCl l = firstW wrongCl (l.drop k))) (fun _ _ i _ => n - (intOf i).toNat)
  case atStart => exact ⟨0, by omega, rfl, hid ⟨Below.refl _ _, rfl⟩⟩
  case round =>
    obtain ⟨k, hk, rfl, HT⟩ := hrel
    have HBW := hid HT.out.1
    have HUP := hid HT.out.2
    clear HT
    have hszw := HBW.out.size
    by_cases hlt : k < n
    · obtain ⟨x, hx⟩ : ∃ x, l[k]? = some x := ⟨l[k]'(by rw [HN.out]; exact hlt), List.getElem?_eq_getElem _⟩
      obtain ⟨b, o, rfl, hcells⟩ := HV.out.spot (by omega)
      obtain ⟨hbN, r, hr, hc⟩ := hcells k x hx
      obtain ⟨kv, rfl, hkn⟩ := hr
      obtain ⟨ok, ck, rfl, -⟩ := hkn.shape
      have hbl : b < w.heap.size := by omega
      have f0 := (HBW.out.cell (p := ⟨b, o + k * 4 + 0, none⟩) hbl).trans (hc 0 _ rfl)
      have f1 := (HBW.out.cell (p := ⟨b, o + k * 4 + 1, none⟩) hbl).trans (hc 1 _ rfl)
      have f2 := (HBW.out.cell (p := ⟨b, o + k * 4 + 2, none⟩) hbl).trans (hc 2 _ rfl)
      have f3 := (HBW.out.cell (p := ⟨b, o + k * 4 + 3, none⟩) hbl).trans (hc 3 _ rfl)
      simp only [Nat.add_zero] at f0
      have hlt' : (k : Int) < (n : Int) := by omega
      obtain ⟨w2, hw2⟩ : ∃ w2, wr.alloc (.cells #[.string x.chain, .int .i64 x.trust, .bool x.frozen, .slice ok x.known.length ck] 79) = w2 := ⟨_, rfl⟩
      have hbr2 : Below wr.heap.size wr w2 := by rw [← hw2]; exact (Below.refl _ _).alloc (Nat.le_refl _) _
      have HB2 := hid (HBW.out.trans (hbr2.mono hszw))
      have hrow2 : Row w2 wr.heap.size 79 [.string x.chain, .int .i64 x.trust, .bool x.frozen, .slice ok x.known.length ck] := by rw [← hw2]; exact Row.new _ _ _
      have q0 : w2.cell? ⟨wr.heap.size, 0, none⟩ = some (.string x.chain) := hrow2.cell 0
      have q1 : w2.cell? ⟨wr.heap.size, 1, none⟩ = some (.int .i64 x.trust) := hrow2.cell 1
      have q2 : w2.cell? ⟨wr.heap.size, 2, none⟩ = some (.bool x.frozen) := hrow2.cell 2
      have q3 : w2.cell? ⟨wr.heap.size, 3, none⟩ = some (.slice ok x.known.length ck) := hrow2.cell 3
      have HCL := hid (show Calls Tryz.prog 61 #[.agg #[.string x.chain, .int .i64 x.trust, .bool x.frozen, .slice ok x.known.length ck]] w2 _ from clWrongC x _ N w2 ⟨_, rfl, hkn.below (HB2.out.mono hN)⟩ (Nat.le_trans hN HB2.out.size) (hfit x (List.mem_of_getElem? hx)))
      have HST := hid (firstW_at wrongCl l k x hx)
      have HW2 := hid hw2
      clear hbr2 hrow2 hw2 hcells hc hkn hx
      by_cases hz : wrongCl x = 0
      · have HZ := hid hz
        clear hz
        go_upto_region 4 with fail
        rw [HW2.out]
        go_wp2_with fail
        refine HCL.out.mono ?_
        rintro e w3 ⟨rfl, hb3⟩
        rw [HZ.out]
        have HB3 := hid (HB2.out.trans (hb3.mono HB2.out.size))
        have HV2 := hid (show firstW wrongCl l = firstW wrongCl (l.drop (k + 1)) by rw [HUP.out, HST.out, if_neg (by rw [HZ.out]; simp)])
        clear hb3
        go_wp2
        go_roundw
        case rel => exact ⟨k + 1, by omega, by go_num, hid ⟨HB3.out, HV2.out⟩⟩
        case measure => simp [intOf]; omega
      · have e0 : (wrongCl x != 0) = true := by simpa using hz
        have HV2 := hid (show firstW wrongCl l = wrongCl x by rw [HUP.out, HST.out, if_pos hz])
        clear hz
        generalize hzz : wrongCl x = z at *
        clear hzz
        go_upto_region 4 with fail
        rw [HW2.out]
        go_wp2_with fail
        refine HCL.out.mono ?_
        rintro e w3 ⟨rfl, hb3⟩
        have HB3 := hid (HB2.out.trans (hb3.mono HB2.out.size))
        clear hb3
        go_wp2
        go_ret
        exact ⟨by rw [HV2.out]; first | done | rfl, HB3.out⟩
    · have hge : decide ((k : Int) < (n : Int)) = false := by simp; omega
      have HE := hid (show firstW wrongCl l = 0 by rw [HUP.out, List.drop_eq_nil_of_le (by rw [HN.out]; omega)]; rfl)
      go_wp2
      go_ret
      exact ⟨by rw [HE.out]; first | done | rfl, HBW.out⟩
set_option maxRecDepth 100000 in
set_option maxHeartbeats 4000000 in
theorem byOneCn (l : List Cn) (sv : Value) (N : Nat) (w : World) (hN : N ≤ w.heap.size) (hv : Many CnR 4 w N sv l) (hl : l.length < 2305843009213693952) :
    Calls Tryz.prog 62 #[sv, .func (.func 63) #[] #[]] w fun e w' => e = .returned (.int .i64 (firstW wrongCn l)) ∧ Below w.heap.size w w' := by
  obtain ⟨oa, ca, rfl, hca⟩ := hv.shape
  have HV := hid hv
  clear hv
  generalize hn : l.length = n at *
  have HN := hid hn
  clear hn
  go_enter Tryz.func62, Tryz.ntmps62
  go_wp2_with fail
  go_loopw [6, 7, 10] (fun _ _ i wr => ∃ k : Nat, k ≤ n ∧ i = .int .i64 (k : Int) ∧ Hid (Below w.heap.size w wr ∧ firstW wrongCn l = firstW wrongCn (l.drop k))) (fun _ _ i _ => n - (intOf i).toNat)
  case atStart => exact ⟨0, by omega, rfl, hid ⟨Below.refl _ _, rfl⟩⟩
  case round =>
    obtain ⟨k, hk, rfl, HT⟩ := hrel
    have HBW := hid HT.out.1
    have HUP := hid HT.out.2
    clear HT
    have hszw := HBW.out.size
    by_cases hlt : k < n
    · obtain ⟨x, hx⟩ : ∃ x, l[k]? = some x := ⟨l[k]'(by rw [HN.out]; exact hlt), List.getElem?_eq_getElem _⟩
      obtain ⟨b, o, rfl, hcells⟩ := HV.out.spot (by omega)
      obtain ⟨hbN, r, hr, hc⟩ := hcells k x hx
      subst hr
      have hbl : b < w.heap.size := by omega
      have f0 := (HBW.out.cell (p := ⟨b, o + k * 4 + 0, none⟩) hbl).trans (hc 0 _ rfl)
      have f1 := (HBW.out.cell (p := ⟨b, o + k * 4 + 1, none⟩) hbl).trans (hc 1 _ rfl)
      have f2 := (HBW.out.cell (p := ⟨b, o + k * 4 + 2, none⟩) hbl).trans (hc 2 _ rfl)
      have f3 := (HBW.out.cell (p := ⟨b, o + k * 4 + 3, none⟩) hbl).trans (hc 3 _ rfl)
      simp only [Nat.add_zero] at f0
      have hlt' : (k : Int) < (n : Int) := by omega
      obtain ⟨w2, hw2⟩ : ∃ w2, wr.alloc (.cells #[.int .i64 x.state, .int .i64 x.client, .int .i64 x.oclient, .int .i64 x.oconn] 89) = w2 := ⟨_, rfl⟩
      have hbr2 : Below wr.heap.size wr w2 := by rw [← hw2]; exact (Below.refl _ _).alloc (Nat.le_refl _) _
      have HB2 := hid (HBW.out.trans (hbr2.mono hszw))
      have hrow2 : Row w2 wr.heap.size 89 [.int .i64 x.state, .int .i64 x.client, .int .i64 x.oclient, .int .i64 x.oconn] := by rw [← hw2]; exact Row.new _ _ _
      have q0 : w2.cell? ⟨wr.heap.size, 0, none⟩ = some (.int .i64 x.state) := hrow2.cell 0
      have q1 : w2.cell? ⟨wr.heap.size, 1, none⟩ = some (.int .i64 x.client) := hrow2.cell 1
      have q2 : w2.cell? ⟨wr.heap.size, 2, none⟩ = some (.int .i64 x.oclient) := hrow2.cell 2
      have q3 : w2.cell? ⟨wr.heap.size, 3, none⟩ = some (.int .i64 x.oconn) := hrow2.cell 3
      have HCL := hid (show Calls Tryz.prog 63 #[.agg #[.int .i64 x.state, .int .i64 x.client, .int .i64 x.oclient, .int .i64 x.oconn]] w2 _ from wrongConn_any x w2)
      have HST := hid (firstW_at wrongCn l k x hx)
      have HW2 := hid hw2
      clear hbr2 hrow2 hw2 hcells hc hx
      by_cases hz : wrongCn x = 0
      · have HZ := hid hz
        clear hz
        go_upto_region 4 with fail
        rw [HW2.out]
        go_wp2_with fail
        refine HCL.out.mono ?_
        rintro e w3 ⟨rfl, hb3⟩
        rw [HZ.out]
        have HB3 := hid (HB2.out.trans (hb3.mono HB2.out.size))
        have HV2 := hid (show firstW wrongCn l = firstW wrongCn (l.drop (k + 1)) by rw [HUP.out, HST.out, if_neg (by rw [HZ.out]; simp)])
        clear hb3
        go_wp2
        go_roundw
        case rel => exact ⟨k + 1, by omega, by go_num, hid ⟨HB3.out, HV2.out⟩⟩
        case measure => simp [intOf]; omega
      · have e0 : (wrongCn x != 0) = true := by simpa using hz
        have HV2 := hid (show firstW wrongCn l = wrongCn x by rw [HUP.out, HST.out, if_pos hz])
        clear hz
        generalize hzz : wrongCn x = z at *
        clear hzz
        go_upto_region 4 with fail
        rw [HW2.out]
        go_wp2_with fail
        refine HCL.out.mono ?_
        rintro e w3 ⟨rfl, hb3⟩
        have HB3 := hid (HB2.out.trans (hb3.mono HB2.out.size))
        clear hb3
        go_wp2
        go_ret
        exact ⟨by rw [HV2.out]; first | done | rfl, HB3.out⟩
    · have hge : decide ((k : Int) < (n : Int)) = false := by simp; omega
      have HE := hid (show firstW wrongCn l = 0 by rw [HUP.out, List.drop_eq_nil_of_le (by rw [HN.out]; omega)]; rfl)
      go_wp2
      go_ret
      exact ⟨by rw [HE.out]; first | done | rfl, HBW.out⟩
set_option maxRecDepth 100000 in
set_option maxHeartbeats 4000000 in
theorem byOneCh (l : List Ch) (sv : Value) (N : Nat) (w : World) (hN : N ≤ w.heap.size) (hv : Many ChR 7 w N sv l) (hl : l.length < 2305843009213693952) :
    Calls Tryz.prog 64 #[sv, .func (.func 65) #[] #[]] w fun e w' => e = .returned (.int .i64 (firstW wrongCh l)) ∧ Below w.heap.size w w' := by
  obtain ⟨oa, ca, rfl, hca⟩ := hv.shape
  have HV := hid hv
  clear hv
  generalize hn : l.length = n at *
  have HN := hid hn
  clear hn
  go_enter Tryz.func64, Tryz.ntmps64
  go_wp2_with fail
  go_loopw [6, 7, 10] (fun _ _ i wr => ∃ k : Nat, k ≤ n ∧ i = .int .i64 (k : Int) ∧ Hid (Below w.heap.size w wr ∧ firstW wrongCh l = firstW wrongCh (l.drop k))) (fun _ _ i _ => n - (intOf i).toNat)
  case atStart => exact ⟨0, by omega, rfl, hid ⟨Below.refl _ _, rfl⟩⟩
  case round =>
    obtain ⟨k, hk, rfl, HT⟩ := hrel
    have HBW := hid HT.out.1
    have HUP := hid HT.out.2
    clear HT
    have hszw := HBW.out.size
    by_cases hlt : k < n
    · obtain ⟨x, hx⟩ : ∃ x, l[k]? = some x := ⟨l[k]'(by rw [HN.out]; exact hlt), List.getElem?_eq_getElem _⟩
      obtain ⟨b, o, rfl, hcells⟩ := HV.out.spot (by omega)
      obtain ⟨hbN, r, hr, hc⟩ := hcells k x hx
      subst hr
      have hbl : b < w.heap.size := by omega
      have f0 := (HBW.out.cell (p := ⟨b, o + k * 7 + 0, none⟩) hbl).trans (hc 0 _ rfl)
      have f1 := (HBW.out.cell (p := ⟨b, o + k * 7 + 1, none⟩) hbl).trans (hc 1 _ rfl)
      have f2 := (HBW.out.cell (p := ⟨b, o + k * 7 + 2, none⟩) hbl).trans (hc 2 _ rfl)
      have f3 := (HBW.out.cell (p := ⟨b, o + k * 7 + 3, none⟩) hbl).trans (hc 3 _ rfl)
      have f4 := (HBW.out.cell (p := ⟨b, o + k * 7 + 4, none⟩) hbl).trans (hc 4 _ rfl)
      have f5 := (HBW.out.cell (p := ⟨b, o + k * 7 + 5, none⟩) hbl).trans (hc 5 _ rfl)
      have f6 := (HBW.out.cell (p := ⟨b, o + k * 7 + 6, none⟩) hbl).trans (hc 6 _ rfl)
      simp only [Nat.add_zero] at f0
      have hlt' : (k : Int) < (n : Int) := by omega
      obtain ⟨w2, hw2⟩ : ∃ w2, wr.alloc (.cells #[.int .i64 x.state, .bool x.ordered, .int .i64 x.conn, .int .i64 x.ochan, .int .i64 x.send, .int .i64 x.recv, .int .i64 x.ack] 53) = w2 := ⟨_, rfl⟩
      have hbr2 : Below wr.heap.size wr w2 := by rw [← hw2]; exact (Below.refl _ _).alloc (Nat.le_refl _) _
      have HB2 := hid (HBW.out.trans (hbr2.mono hszw))
      have hrow2 : Row w2 wr.heap.size 53 [.int .i64 x.state, .bool x.ordered, .int .i64 x.conn, .int .i64 x.ochan, .int .i64 x.send, .int .i64 x.recv, .int .i64 x.ack] := by rw [← hw2]; exact Row.new _ _ _
      have q0 : w2.cell? ⟨wr.heap.size, 0, none⟩ = some (.int .i64 x.state) := hrow2.cell 0
      have q1 : w2.cell? ⟨wr.heap.size, 1, none⟩ = some (.bool x.ordered) := hrow2.cell 1
      have q2 : w2.cell? ⟨wr.heap.size, 2, none⟩ = some (.int .i64 x.conn) := hrow2.cell 2
      have q3 : w2.cell? ⟨wr.heap.size, 3, none⟩ = some (.int .i64 x.ochan) := hrow2.cell 3
      have q4 : w2.cell? ⟨wr.heap.size, 4, none⟩ = some (.int .i64 x.send) := hrow2.cell 4
      have q5 : w2.cell? ⟨wr.heap.size, 5, none⟩ = some (.int .i64 x.recv) := hrow2.cell 5
      have q6 : w2.cell? ⟨wr.heap.size, 6, none⟩ = some (.int .i64 x.ack) := hrow2.cell 6
      have HCL := hid (show Calls Tryz.prog 65 #[.agg #[.int .i64 x.state, .bool x.ordered, .int .i64 x.conn, .int .i64 x.ochan, .int .i64 x.send, .int .i64 x.recv, .int .i64 x.ack]] w2 _ from wrongChan_any x w2)
      have HST := hid (firstW_at wrongCh l k x hx)
      have HW2 := hid hw2
      clear hbr2 hrow2 hw2 hcells hc hx
      by_cases hz : wrongCh x = 0
      · have HZ := hid hz
        clear hz
        go_upto_region 4 with fail
        rw [HW2.out]
        go_wp2_with fail
        refine HCL.out.mono ?_
        rintro e w3 ⟨rfl, hb3⟩
        rw [HZ.out]
        have HB3 := hid (HB2.out.trans (hb3.mono HB2.out.size))
        have HV2 := hid (show firstW wrongCh l = firstW wrongCh (l.drop (k + 1)) by rw [HUP.out, HST.out, if_neg (by rw [HZ.out]; simp)])
        clear hb3
        go_wp2
        go_roundw
        case rel => exact ⟨k + 1, by omega, by go_num, hid ⟨HB3.out, HV2.out⟩⟩
        case measure => simp [intOf]; omega
      · have e0 : (wrongCh x != 0) = true := by simpa using hz
        have HV2 := hid (show firstW wrongCh l = wrongCh x by rw [HUP.out, HST.out, if_pos hz])
        clear hz
        generalize hzz : wrongCh x = z at *
        clear hzz
        go_upto_region 4 with fail
        rw [HW2.out]
        go_wp2_with fail
        refine HCL.out.mono ?_
        rintro e w3 ⟨rfl, hb3⟩
        have HB3 := hid (HB2.out.trans (hb3.mono HB2.out.size))
        clear hb3
        go_wp2
        go_ret
        exact ⟨by rw [HV2.out]; first | done | rfl, HB3.out⟩
    · have hge : decide ((k : Int) < (n : Int)) = false := by simp; omega
      have HE := hid (show firstW wrongCh l = 0 by rw [HUP.out, List.drop_eq_nil_of_le (by rw [HN.out]; omega)]; rfl)
      go_wp2
      go_ret
      exact ⟨by rw [HE.out]; first | done | rfl, HBW.out⟩
set_option maxRecDepth 100000 in
set_option maxHeartbeats 4000000 in
theorem byOneMk (l : List Mk) (sv : Value) (N g : Nat) (w : World) (hR : RiseMk w g none) (hN : N ≤ g) (hv : Many MkR 3 w N sv l) (hl : l.length < 2305843009213693952) :
    Calls Tryz.prog 66 #[sv, cloMk g] w fun e w' => e = .returned (.int .i64 (marksN l)) ∧ Below g w w' := by
  have hgw : g + 2 + 1 < w.heap.size := hR.2.2.1.lt
  have HRI := hid hR
  unfold cloMk
  clear hR
  obtain ⟨oa, ca, rfl, hca⟩ := hv.shape
  have HV := hid hv
  clear hv
  generalize hn : l.length = n at *
  have HN := hid hn
  clear hn
  go_enter Tryz.func66, Tryz.ntmps66
  go_wp2_with fail
  go_loopw [6, 7, 10] (fun _ _ i wr => ∃ k : Nat, k ≤ n ∧ i = .int .i64 (k : Int) ∧ Hid (∃ p, RiseMk wr g p ∧ Below g w wr ∧ marksN l = upGo wrongMk lessMk p (l.drop k))) (fun _ _ i _ => n - (intOf i).toNat)
  case atStart => exact ⟨0, by omega, rfl, hid ⟨none, HRI.out, Below.refl _ _, rfl⟩⟩
  case round =>
    obtain ⟨k, hk, rfl, HT⟩ := hrel
    obtain ⟨p, hri, hbw, hup⟩ := HT.out
    have HBW := hid hbw
    have HRI2 := hid hri
    have HUP := hid hup
    clear HT hri hbw hup
    have hszw := HBW.out.size
    by_cases hlt : k < n
    · obtain ⟨x, hx⟩ : ∃ x, l[k]? = some x := ⟨l[k]'(by rw [HN.out]; exact hlt), List.getElem?_eq_getElem _⟩
      obtain ⟨b, o, rfl, hcells⟩ := HV.out.spot (by omega)
      obtain ⟨hbN, r, hr, hc⟩ := hcells k x hx
      obtain ⟨dv, rfl, hdv⟩ := hr
      obtain ⟨od, cd, rfl, -⟩ := hdv.shape
      have hbl : b < g := by omega
      have f0 := (HBW.out.cell (p := ⟨b, o + k * 3 + 0, none⟩) hbl).trans (hc 0 _ rfl)
      have f1 := (HBW.out.cell (p := ⟨b, o + k * 3 + 1, none⟩) hbl).trans (hc 1 _ rfl)
      have f2 := (HBW.out.cell (p := ⟨b, o + k * 3 + 2, none⟩) hbl).trans (hc 2 _ rfl)
      simp only [Nat.add_zero] at f0
      have hlt' : (k : Int) < (n : Int) := by omega
      obtain ⟨w2, hw2⟩ : ∃ w2, wr.alloc (.cells #[.int .i64 x.chan, .int .i64 x.seq, .slice od x.dig.length cd] 59) = w2 := ⟨_, rfl⟩
      have hbr2 : Below wr.heap.size wr w2 := by rw [← hw2]; exact (Below.refl _ _).alloc (Nat.le_refl _) _
      have HB2 := hid (HBW.out.trans (hbr2.mono (show g ≤ wr.heap.size by omega)))
      have hrow2 : Row w2 wr.heap.size 59 [.int .i64 x.chan, .int .i64 x.seq, .slice od x.dig.length cd] := by rw [← hw2]; exact Row.new _ _ _
      have q0 : w2.cell? ⟨wr.heap.size, 0, none⟩ = some (.int .i64 x.chan) := hrow2.cell 0
      have q1 : w2.cell? ⟨wr.heap.size, 1, none⟩ = some (.int .i64 x.seq) := hrow2.cell 1
      have q2 : w2.cell? ⟨wr.heap.size, 2, none⟩ = some (.slice od x.dig.length cd) := hrow2.cell 2
      have HRI3 := hid (HRI2.out.below hbr2)
      have HCL := hid (show Calls Tryz.prog 115 #[.agg #[.int .i64 x.chan, .int .i64 x.seq, .slice od x.dig.length cd], .pointer (some ⟨g, 0, none⟩), .pointer (some ⟨g + 2 + 1, 0, none⟩), .pointer (some ⟨g + 1, 0, none⟩), .pointer (some ⟨g + 2, 0, none⟩)] w2 _ from riseMk_any p x od cd g w2 HRI3.out)
      have HST := hid ((congrArg (upGo wrongMk lessMk p) (drop_at l k x hx)).trans (upGoMk p x (l.drop (k + 1))))
      have HW2 := hid hw2
      clear hbr2 hrow2 hw2 hcells hc hdv hx
      by_cases hz : nextMk p x = 0
      · have HZ := hid hz
        clear hz
        go_upto_region 4 with fail
        rw [HW2.out]
        go_wp2_with fail
        refine HCL.out.mono ?_
        rintro e w3 ⟨rfl, hb3, hri3⟩
        rw [HZ.out]
        have HB3 := hid (HB2.out.trans hb3)
        have HRI4 := hid (hri3 HZ.out)
        clear hri3
        have HV2 := hid (show marksN l = upGo wrongMk lessMk (some x) (l.drop (k + 1)) by rw [HUP.out, HST.out, if_neg (by rw [HZ.out]; simp)])
        clear hb3
        go_wp2
        go_roundw
        case rel => exact ⟨k + 1, by omega, by go_num, hid ⟨some x, HRI4.out, HB3.out, HV2.out⟩⟩
        case measure => simp [intOf]; omega
      · have e0 : (nextMk p x != 0) = true := by simpa using hz
        have HV2 := hid (show marksN l = nextMk p x by rw [HUP.out, HST.out, if_pos hz])
        clear hz
        generalize hzz : nextMk p x = z at *
        clear hzz
        go_upto_region 4 with fail
        rw [HW2.out]
        go_wp2_with fail
        refine HCL.out.mono ?_
        rintro e w3 ⟨rfl, hb3, hri3⟩
        have HB3 := hid (HB2.out.trans hb3)
        clear hb3
        go_wp2
        go_ret
        exact ⟨by rw [HV2.out]; first | done | rfl, HB3.out⟩
    · have hge : decide ((k : Int) < (n : Int)) = false := by simp; omega
      have HE := hid (show marksN l = 0 by rw [HUP.out, List.drop_eq_nil_of_le (by rw [HN.out]; omega)]; rfl)
      go_wp2
      go_ret
      exact ⟨by rw [HE.out]; first | done | rfl, HBW.out⟩
set_option maxRecDepth 100000 in
set_option maxHeartbeats 4000000 in
theorem byOnePu (l : List Pu) (sv : Value) (N g : Nat) (w : World) (hR : RisePu w g none) (hN : N ≤ g) (hv : Many PuR 3 w N sv l) (hl : l.length < 2305843009213693952) :
    Calls Tryz.prog 70 #[sv, cloPu g] w fun e w' => e = .returned (.int .i64 (pursesN l)) ∧ Below g w w' := by
  have hgw : g + 2 + 1 < w.heap.size := hR.2.2.1.lt
  have HRI := hid hR
  unfold cloPu
  clear hR
  obtain ⟨oa, ca, rfl, hca⟩ := hv.shape
  have HV := hid hv
  clear hv
  generalize hn : l.length = n at *
  have HN := hid hn
  clear hn
  go_enter Tryz.func70, Tryz.ntmps70
  go_wp2_with fail
  go_loopw [6, 7, 10] (fun _ _ i wr => ∃ k : Nat, k ≤ n ∧ i = .int .i64 (k : Int) ∧ Hid (∃ p, RisePu wr g p ∧ Below g w wr ∧ pursesN l = upGo wrongPu lessPu p (l.drop k))) (fun _ _ i _ => n - (intOf i).toNat)
  case atStart => exact ⟨0, by omega, rfl, hid ⟨none, HRI.out, Below.refl _ _, rfl⟩⟩
  case round =>
    obtain ⟨k, hk, rfl, HT⟩ := hrel
    obtain ⟨p, hri, hbw, hup⟩ := HT.out
    have HBW := hid hbw
    have HRI2 := hid hri
    have HUP := hid hup
    clear HT hri hbw hup
    have hszw := HBW.out.size
    by_cases hlt : k < n
    · obtain ⟨x, hx⟩ : ∃ x, l[k]? = some x := ⟨l[k]'(by rw [HN.out]; exact hlt), List.getElem?_eq_getElem _⟩
      obtain ⟨b, o, rfl, hcells⟩ := HV.out.spot (by omega)
      obtain ⟨hbN, r, hr, hc⟩ := hcells k x hx
      subst hr
      have hbl : b < g := by omega
      have f0 := (HBW.out.cell (p := ⟨b, o + k * 3 + 0, none⟩) hbl).trans (hc 0 _ rfl)
      have f1 := (HBW.out.cell (p := ⟨b, o + k * 3 + 1, none⟩) hbl).trans (hc 1 _ rfl)
      have f2 := (HBW.out.cell (p := ⟨b, o + k * 3 + 2, none⟩) hbl).trans (hc 2 _ rfl)
      simp only [Nat.add_zero] at f0
      have hlt' : (k : Int) < (n : Int) := by omega
      obtain ⟨w2, hw2⟩ : ∃ w2, wr.alloc (.cells #[.string x.owner, .string x.denom, .int .u64 (x.amount : Int)] 98) = w2 := ⟨_, rfl⟩
      have hbr2 : Below wr.heap.size wr w2 := by rw [← hw2]; exact (Below.refl _ _).alloc (Nat.le_refl _) _
      have HB2 := hid (HBW.out.trans (hbr2.mono (show g ≤ wr.heap.size by omega)))
      have hrow2 : Row w2 wr.heap.size 98 [.string x.owner, .string x.denom, .int .u64 (x.amount : Int)] := by rw [← hw2]; exact Row.new _ _ _
      have q0 : w2.cell? ⟨wr.heap.size, 0, none⟩ = some (.string x.owner) := hrow2.cell 0
      have q1 : w2.cell? ⟨wr.heap.size, 1, none⟩ = some (.string x.denom) := hrow2.cell 1
      have q2 : w2.cell? ⟨wr.heap.size, 2, none⟩ = some (.int .u64 (x.amount : Int)) := hrow2.cell 2
      have HRI3 := hid (HRI2.out.below hbr2)
      have HCL := hid (show Calls Tryz.prog 118 #[.agg #[.string x.owner, .string x.denom, .int .u64 (x.amount : Int)], .pointer (some ⟨g, 0, none⟩), .pointer (some ⟨g + 2 + 1, 0, none⟩), .pointer (some ⟨g + 1, 0, none⟩), .pointer (some ⟨g + 2, 0, none⟩)] w2 _ from risePu_any p x g w2 HRI3.out)
      have HST := hid ((congrArg (upGo wrongPu lessPu p) (drop_at l k x hx)).trans (upGoPu p x (l.drop (k + 1))))
      have HW2 := hid hw2
      clear hbr2 hrow2 hw2 hcells hc hx
      by_cases hz : nextPu p x = 0
      · have HZ := hid hz
        clear hz
        go_upto_region 4 with fail
        rw [HW2.out]
        go_wp2_with fail
        refine HCL.out.mono ?_
        rintro e w3 ⟨rfl, hb3, hri3⟩
        rw [HZ.out]
        have HB3 := hid (HB2.out.trans hb3)
        have HRI4 := hid (hri3 HZ.out)
        clear hri3
        have HV2 := hid (show pursesN l = upGo wrongPu lessPu (some x) (l.drop (k + 1)) by rw [HUP.out, HST.out, if_neg (by rw [HZ.out]; simp)])
        clear hb3
        go_wp2
        go_roundw
        case rel => exact ⟨k + 1, by omega, by go_num, hid ⟨some x, HRI4.out, HB3.out, HV2.out⟩⟩
        case measure => simp [intOf]; omega
      · have e0 : (nextPu p x != 0) = true := by simpa using hz
        have HV2 := hid (show pursesN l = nextPu p x by rw [HUP.out, HST.out, if_pos hz])
        clear hz
        generalize hzz : nextPu p x = z at *
        clear hzz
        go_upto_region 4 with fail
        rw [HW2.out]
        go_wp2_with fail
        refine HCL.out.mono ?_
        rintro e w3 ⟨rfl, hb3, hri3⟩
        have HB3 := hid (HB2.out.trans hb3)
        clear hb3
        go_wp2
        go_ret
        exact ⟨by rw [HV2.out]; first | done | rfl, HB3.out⟩
    · have hge : decide ((k : Int) < (n : Int)) = false := by simp; omega
      have HE := hid (show pursesN l = 0 by rw [HUP.out, List.drop_eq_nil_of_le (by rw [HN.out]; omega)]; rfl)
      go_wp2
      go_ret
      exact ⟨by rw [HE.out]; first | done | rfl, HBW.out⟩
end Go.Proofs.YtclhcjiblfokaaaGreatDoor
