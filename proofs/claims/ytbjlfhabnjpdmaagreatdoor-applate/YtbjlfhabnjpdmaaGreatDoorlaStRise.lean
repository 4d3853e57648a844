/-
  What package state's rising answers, and what it answers with: whether each entry is right, and greater than the one ahead. What oneByOne answers over it.
-/
import Derived.Test.YtbjlfhabnjpdmaaGreatDoorlaStOne
import Derived.Test.YtbjlfhabnjpdmaaGreatDoorlaStCmp
namespace Go.Proofs.YtbjlfhabnjpdmaaGreatDoor
open Go.RowKit

theorem aheadOk_some {α : Type} (lt : α → α → Bool) (a x : α) : aheadOk lt (some a) x = lt a x := rfl
theorem rowS {w : World} {g k : Nat} {t : TypeId} {cs : List Value} (h : Row w g t cs) {i : Nat} {v : Value} (hg : g ≠ k) : Row (w.setCell ⟨k, i, none⟩ v) g t cs := by
  unfold Row at *
  rw [heap_setCell_other _ _ _ _ hg]
  exact h
/-- the memory of what asks whether marks rise: what it asks first, how it compares, the one ahead -/
def RiseMk (w : World) (g : Nat) (p : Option Mk) : Prop :=
  Row w g 100 [.func (.func 38) #[] #[]] ∧ Row w (g + 1) 102 [.func (.func 39) #[] #[]] ∧ Row w (g + 2 + 1) 4 [.bool p.isNone] ∧
  match p with
  | none => Row w (g + 2) 99 [.int .i64 0, .int .i64 0, .slice none 0 0]
  | some a => ∃ o c, Row w (g + 2) 99 [.int .i64 a.chan, .int .i64 a.seq, .slice o a.dig.length c]
theorem RiseMk.below {w w' : World} {g : Nat} {p : Option Mk} (h : RiseMk w g p) (hb : Below w.heap.size w w') : RiseMk w' g p := by
  obtain ⟨h1, h2, h3, h4⟩ := h
  refine ⟨h1.below hb h1.lt, h2.below hb h2.lt, h3.below hb h3.lt, ?_⟩
  cases p with
  | none => exact Row.below h4 hb (Row.lt h4)
  | some a => obtain ⟨o, c, h⟩ := h4; exact ⟨o, c, h.below hb h.lt⟩
/-- what it is handed on as -/
def cloMk (g : Nat) : Value := .func (.func 95) #[] #[.pointer (some ⟨g, 0, none⟩), .pointer (some ⟨g + 2 + 1, 0, none⟩), .pointer (some ⟨g + 1, 0, none⟩), .pointer (some ⟨g + 2, 0, none⟩)]
set_option maxHeartbeats 2000000 in
theorem risingMk (w : World) : Calls Tryz.prog 37 #[.func (.func 38) #[] #[], .func (.func 39) #[] #[]] w fun e w' => e = .returned (cloMk w.heap.size) ∧ Below w.heap.size w w' ∧ RiseMk w' w.heap.size none := by
  obtain ⟨w0, hw0⟩ : ∃ w0, (((w.alloc (.cells #[.func (.func 38) #[] #[]] 100)).alloc (.cells #[.func (.func 39) #[] #[]] 102)).alloc (.cells #[.int .i64 0, .int .i64 0, .slice none 0 0] 99)).alloc (.cells #[.bool true] 4) = w0 := ⟨_, rfl⟩
  have HB0 := hid (show Below w.heap.size w w0 by rw [← hw0]; exact ((((Below.refl _ _).alloc (Nat.le_refl _) _).alloc (by simp) _).alloc (by simp; omega) _).alloc (by simp; omega) _)
  have HR := hid (show RiseMk w0 w.heap.size none by
    rw [← hw0]
    exact ⟨(((Row.new _ _ _).alloc _).alloc _).alloc _, ((Row.newAt _ _ _ _ (by simp)).alloc _).alloc _, Row.newAt _ _ _ _ (by simp), (Row.newAt _ _ _ _ (by simp)).alloc _⟩)
  have HW0 := hid hw0
  clear hw0
  go_enter Tryz.func37, Tryz.ntmps37
  go_wp2
  go_ret
  first | rw [HW0.out] | skip
  exact ⟨by first | done | rfl, HB0.out, HR.out⟩
def nextMk (p : Option Mk) (x : Mk) : Int := if wrongMk x ≠ 0 then wrongMk x else if aheadOk lessMk p x = false then 2 else 0
theorem upGoMk (p : Option Mk) (x : Mk) (r : List Mk) : upGo wrongMk lessMk p (x :: r) = if nextMk p x ≠ 0 then nextMk p x else upGo wrongMk lessMk (some x) r := by
  unfold nextMk
  rw [upGo]
  by_cases h1 : wrongMk x = 0
  · simp only [h1, ne_eq, not_true_eq_false, if_false]
    cases aheadOk lessMk p x <;> simp
  · simp [h1]
set_option maxRecDepth 100000 in
set_option maxHeartbeats 4000000 in
theorem riseMk_any (p : Option Mk) (x : Mk) (ox : Option Addr) (cx : Nat) (g : Nat) (w : World) (h : RiseMk w g p) :
    Calls Tryz.prog 95 #[.agg #[.int .i64 x.chan, .int .i64 x.seq, .slice ox x.dig.length cx], .pointer (some ⟨g, 0, none⟩), .pointer (some ⟨g + 2 + 1, 0, none⟩), .pointer (some ⟨g + 1, 0, none⟩), .pointer (some ⟨g + 2, 0, none⟩)] w fun e w' => e = .returned (.int .i64 (nextMk p x)) ∧ Below g w w' ∧ (nextMk p x = 0 → RiseMk w' g (some x)) := by
  obtain ⟨h0, h1, h3, h4⟩ := h
  have hg3 := h3.lt
  have hgw : g ≤ w.heap.size := by omega
  obtain ⟨w0, hw0⟩ : ∃ w0, w.alloc (.cells #[.int .i64 x.chan, .int .i64 x.seq, .slice ox x.dig.length cx] 99) = w0 := ⟨_, rfl⟩
  have hb0 : Below w.heap.size w w0 := by rw [← hw0]; exact (Below.refl _ _).alloc (Nat.le_refl _) _
  have HB0 := hid hb0
  have HX0 := hid (show Row w0 w.heap.size 99 [.int .i64 x.chan, .int .i64 x.seq, .slice ox x.dig.length cx] by rw [← hw0]; exact Row.new _ _ _)
  have H00 := hid (h0.below hb0 h0.lt)
  have H10 := hid (h1.below hb0 h1.lt)
  have H30 := hid (h3.below hb0 h3.lt)
  have HW0 := hid hw0
  have HWR := hid (show Calls Tryz.prog 38 #[.agg #[.int .i64 x.chan, .int .i64 x.seq, .slice ox x.dig.length cx]] w0 _ from wrongMark_any x ox cx w0)
  have k0 : w0.cell? ⟨g, 0, none⟩ = some (.func (.func 38) #[] #[]) := H00.out.cell 0
  have x0 : w0.cell? ⟨w.heap.size, 0, none⟩ = some (.int .i64 x.chan) := HX0.out.cell 0
  have x1 : w0.cell? ⟨w.heap.size, 1, none⟩ = some (.int .i64 x.seq) := HX0.out.cell 1
  have x2 : w0.cell? ⟨w.heap.size, 2, none⟩ = some (.slice ox x.dig.length cx) := HX0.out.cell 2
  have H4 := hid h4
  clear hw0 h0 h1 h3 h4 hb0
  by_cases hz : wrongMk x = 0
  · have HZ := hid hz
    clear hz
    cases p with
    | none =>
      have HNX := hid (show nextMk none x = 0 by unfold nextMk aheadOk; simp [HZ.out])
      go_enter Tryz.func95, Tryz.ntmps95
      go_upto_region 1 with fail
      rw [HW0.out]
      go_wp2_with fail
      refine HWR.out.mono ?_
      rintro e w1 ⟨rfl, hb1⟩
      rw [HZ.out]
      have HB1 := hid (HB0.out.trans (hb1.mono HB0.out.size))
      have hG0 := hid (H00.out.below hb1 H00.out.lt)
      have hG1 := hid (H10.out.below hb1 H10.out.lt)
      have hG3 := hid (H30.out.below hb1 H30.out.lt)
      have HX1 := hid (HX0.out.below hb1 HX0.out.lt)
      have HA1 := hid ((Row.below H4.out (HB0.out) (Row.lt H4.out)).below hb1 (Row.lt (Row.below H4.out (HB0.out) (Row.lt H4.out))))
      have b3 : w1.cell? ⟨g + 2 + 1, 0, none⟩ = some (.bool true) := hG3.out.cell 0
      have z0 : w1.cell? ⟨w.heap.size, 0, none⟩ = some (.int .i64 x.chan) := HX1.out.cell 0
      have z1 : w1.cell? ⟨w.heap.size, 1, none⟩ = some (.int .i64 x.seq) := HX1.out.cell 1
      have z2 : w1.cell? ⟨w.heap.size, 2, none⟩ = some (.slice ox x.dig.length cx) := HX1.out.cell 2
      have fr3 := hG3.out.frozen 0
      have y0 := HA1.out.cell 0
      have y1 := HA1.out.cell 1
      have y2 := HA1.out.cell 2
      simp at y0
      simp at y1
      simp at y2
      have fra0 := HA1.out.frozen 0
      have fra1 := HA1.out.frozen 1
      have fra2 := HA1.out.frozen 2
      clear hb1
      obtain ⟨wz, hwz⟩ : ∃ wz, ((((w1.setCell ⟨g + 2, 0, none⟩ (.int .i64 x.chan)).setCell ⟨g + 2, 1, none⟩ (.int .i64 x.seq)).setCell ⟨g + 2, 2, none⟩ (.slice ox x.dig.length cx)).setCell ⟨g + 2 + 1, 0, none⟩ (.bool false)) = wz := ⟨_, rfl⟩
      have HBZ := hid (show Below g w wz by rw [← hwz]; exact (((((HB1.out.mono hgw).setCell (show g ≤ g + 2 by omega) _).setCell (show g ≤ g + 2 by omega) _).setCell (show g ≤ g + 2 by omega) _).setCell (show g ≤ g + 2 + 1 by omega) _))
      have HRZ := hid (show RiseMk wz g (some x) by
        rw [← hwz]
        refine ⟨?_, ?_, ?_, ox, cx, ?_⟩
        · exact rowS (rowS (rowS (rowS hG0.out (by omega)) (by omega)) (by omega)) (by omega)
        · exact rowS (rowS (rowS (rowS hG1.out (by omega)) (by omega)) (by omega)) (by omega)
        · exact (rowS (rowS (rowS hG3.out (by omega)) (by omega)) (by omega)).set 0 _
        · exact rowS (((HA1.out.set 0 _).set 1 _).set 2 _) (by omega))
      have HWZ := hid hwz
      clear hwz
      go_wp2
      go_ret
      first | rw [HWZ.out] | skip
      exact ⟨by rw [HNX.out]; first | done | rfl, HBZ.out, fun _ => HRZ.out⟩
    | some a =>
      obtain ⟨oa, ca, hra⟩ : ∃ o c, Row w (g + 2) 99 [.int .i64 a.chan, .int .i64 a.seq, .slice o a.dig.length c] := H4.out
      have hra0 := hra.below HB0.out hra.lt
      have HRA0 := hid hra0
      clear H4 hra hra0
      go_enter Tryz.func95, Tryz.ntmps95
      go_upto_region 1 with fail
      rw [HW0.out]
      go_wp2_with fail
      refine HWR.out.mono ?_
      rintro e w1 ⟨rfl, hb1⟩
      rw [HZ.out]
      have HB1 := hid (HB0.out.trans (hb1.mono HB0.out.size))
      have hE0 := hid (H00.out.below hb1 H00.out.lt)
      have hE1 := hid (H10.out.below hb1 H10.out.lt)
      have hE3 := hid (H30.out.below hb1 H30.out.lt)
      have HX1 := hid (HX0.out.below hb1 HX0.out.lt)
      have HA1 := hid (HRA0.out.below hb1 HRA0.out.lt)
      have HCM := hid (show Calls Tryz.prog 39 #[.agg #[.int .i64 a.chan, .int .i64 a.seq, .slice oa a.dig.length ca], .agg #[.int .i64 x.chan, .int .i64 x.seq, .slice ox x.dig.length cx]] w1 _ from compareMarks_any a x oa ox ca cx w1)
      have b3 : w1.cell? ⟨g + 2 + 1, 0, none⟩ = some (.bool false) := hE3.out.cell 0
      have b1 : w1.cell? ⟨g + 1, 0, none⟩ = some (.func (.func 39) #[] #[]) := hE1.out.cell 0
      have q0 : w1.cell? ⟨g + 2, 0, none⟩ = some (.int .i64 a.chan) := HA1.out.cell 0
      have q1 : w1.cell? ⟨g + 2, 1, none⟩ = some (.int .i64 a.seq) := HA1.out.cell 1
      have q2 : w1.cell? ⟨g + 2, 2, none⟩ = some (.slice oa a.dig.length ca) := HA1.out.cell 2
      have z0 : w1.cell? ⟨w.heap.size, 0, none⟩ = some (.int .i64 x.chan) := HX1.out.cell 0
      have z1 : w1.cell? ⟨w.heap.size, 1, none⟩ = some (.int .i64 x.seq) := HX1.out.cell 1
      have z2 : w1.cell? ⟨w.heap.size, 2, none⟩ = some (.slice ox x.dig.length cx) := HX1.out.cell 2
      clear hb1
      go_wp2_with fail
      refine HCM.out.mono ?_
      rintro e w2 ⟨rfl, hb2⟩
      have HB2 := hid (HB1.out.trans (hb2.mono HB1.out.size))
      have hG0 := hid (hE0.out.below hb2 hE0.out.lt)
      have hG1 := hid (hE1.out.below hb2 hE1.out.lt)
      have hG3 := hid (hE3.out.below hb2 hE3.out.lt)
      have HX2 := hid (HX1.out.below hb2 HX1.out.lt)
      have HA2 := hid (HA1.out.below hb2 HA1.out.lt)
      clear hb2 b3 b1 q0 q1 q2 z0 z1 z2 x0 x1 x2 k0
      have z0 : w2.cell? ⟨w.heap.size, 0, none⟩ = some (.int .i64 x.chan) := HX2.out.cell 0
      have z1 : w2.cell? ⟨w.heap.size, 1, none⟩ = some (.int .i64 x.seq) := HX2.out.cell 1
      have z2 : w2.cell? ⟨w.heap.size, 2, none⟩ = some (.slice ox x.dig.length cx) := HX2.out.cell 2
      have fr3 := hG3.out.frozen 0
      have y0 := HA2.out.cell 0
      have y1 := HA2.out.cell 1
      have y2 := HA2.out.cell 2
      simp at y0
      simp at y1
      simp at y2
      have b3 : w2.cell? ⟨g + 2 + 1, 0, none⟩ = some (.bool false) := hG3.out.cell 0
      have fra0 := HA2.out.frozen 0
      have fra1 := HA2.out.frozen 1
      have fra2 := HA2.out.frozen 2
      have HLC := hid (lessMk_cmp a x)
      generalize hcz : orN [cmpN a.chan x.chan, cmpN a.seq x.seq] = zc at *
      clear hcz
      by_cases hlt : zc < 0
      · have e0 : decide ((0 : Int) ≤ zc) = false := decide_eq_false (by omega)
        have HNX := hid (show nextMk (some a) x = 0 by unfold nextMk; rw [aheadOk_some, HLC.out, decide_eq_true hlt]; simp [HZ.out])
        clear hlt HLC HCM
        obtain ⟨wz, hwz⟩ : ∃ wz, ((((w2.setCell ⟨g + 2, 0, none⟩ (.int .i64 x.chan)).setCell ⟨g + 2, 1, none⟩ (.int .i64 x.seq)).setCell ⟨g + 2, 2, none⟩ (.slice ox x.dig.length cx)).setCell ⟨g + 2 + 1, 0, none⟩ (.bool false)) = wz := ⟨_, rfl⟩
        have HBZ := hid (show Below g w wz by rw [← hwz]; exact (((((HB2.out.mono hgw).setCell (show g ≤ g + 2 by omega) _).setCell (show g ≤ g + 2 by omega) _).setCell (show g ≤ g + 2 by omega) _).setCell (show g ≤ g + 2 + 1 by omega) _))
        have HRZ := hid (show RiseMk wz g (some x) by
          rw [← hwz]
          refine ⟨?_, ?_, ?_, ox, cx, ?_⟩
          · exact rowS (rowS (rowS (rowS hG0.out (by omega)) (by omega)) (by omega)) (by omega)
          · exact rowS (rowS (rowS (rowS hG1.out (by omega)) (by omega)) (by omega)) (by omega)
          · exact (rowS (rowS (rowS hG3.out (by omega)) (by omega)) (by omega)).set 0 _
          · exact rowS (((HA2.out.set 0 _).set 1 _).set 2 _) (by omega))
        have HWZ := hid hwz
        clear hwz
        go_wp2
        go_ret
        first | rw [HWZ.out] | skip
        exact ⟨by rw [HNX.out]; first | done | rfl, HBZ.out, fun _ => HRZ.out⟩
      · have e0 : decide ((0 : Int) ≤ zc) = true := decide_eq_true (by omega)
        have HNX := hid (show nextMk (some a) x = 2 by unfold nextMk; rw [aheadOk_some, HLC.out, decide_eq_false hlt]; simp [HZ.out])
        clear hlt HLC HCM
        go_wp2
        go_ret
        exact ⟨by rw [HNX.out]; first | done | rfl, HB2.out.mono hgw, fun h => absurd h (by rw [HNX.out]; decide)⟩
  · have e0 : (wrongMk x != 0) = true := by simpa using hz
    have HNX := hid (show nextMk p x = wrongMk x by unfold nextMk; rw [if_pos hz])
    have HNZ := hid hz
    clear hz
    generalize hwx : wrongMk x = zx at *
    clear hwx
    go_enter Tryz.func95, Tryz.ntmps95
    go_upto_region 1 with fail
    rw [HW0.out]
    go_wp2_with fail
    refine HWR.out.mono ?_
    rintro e w1 ⟨rfl, hb1⟩
    have HB1 := hid (HB0.out.trans (hb1.mono HB0.out.size))
    clear hb1
    go_wp2
    go_ret
    exact ⟨by rw [HNX.out]; first | done | rfl, HB1.out.mono hgw, fun h => absurd h (by rw [HNX.out]; exact HNZ.out)⟩
/-- the memory of what asks whether purses rise: what it asks first, how it compares, the one ahead -/
def RisePu (w : World) (g : Nat) (p : Option Pu) : Prop :=
  Row w g 104 [.func (.func 42) #[] #[]] ∧ Row w (g + 1) 106 [.func (.func 43) #[] #[]] ∧ Row w (g + 2 + 1) 4 [.bool p.isNone] ∧
  match p with
  | none => Row w (g + 2) 85 [.string ⟨#[]⟩, .string ⟨#[]⟩, .int .u64 0]
  | some a => Row w (g + 2) 85 [.string a.owner, .string a.denom, .int .u64 (a.amount : Int)]
theorem RisePu.below {w w' : World} {g : Nat} {p : Option Pu} (h : RisePu w g p) (hb : Below w.heap.size w w') : RisePu w' g p := by
  obtain ⟨h1, h2, h3, h4⟩ := h
  refine ⟨h1.below hb h1.lt, h2.below hb h2.lt, h3.below hb h3.lt, ?_⟩
  cases p with
  | none => exact Row.below h4 hb (Row.lt h4)
  | some a => exact Row.below h4 hb (Row.lt h4)
/-- what it is handed on as -/
def cloPu (g : Nat) : Value := .func (.func 98) #[] #[.pointer (some ⟨g, 0, none⟩), .pointer (some ⟨g + 2 + 1, 0, none⟩), .pointer (some ⟨g + 1, 0, none⟩), .pointer (some ⟨g + 2, 0, none⟩)]
set_option maxHeartbeats 2000000 in
theorem risingPu (w : World) : Calls Tryz.prog 41 #[.func (.func 42) #[] #[], .func (.func 43) #[] #[]] w fun e w' => e = .returned (cloPu w.heap.size) ∧ Below w.heap.size w w' ∧ RisePu w' w.heap.size none := by
  obtain ⟨w0, hw0⟩ : ∃ w0, (((w.alloc (.cells #[.func (.func 42) #[] #[]] 104)).alloc (.cells #[.func (.func 43) #[] #[]] 106)).alloc (.cells #[.string ⟨#[]⟩, .string ⟨#[]⟩, .int .u64 0] 85)).alloc (.cells #[.bool true] 4) = w0 := ⟨_, rfl⟩
  have HB0 := hid (show Below w.heap.size w w0 by rw [← hw0]; exact ((((Below.refl _ _).alloc (Nat.le_refl _) _).alloc (by simp) _).alloc (by simp; omega) _).alloc (by simp; omega) _)
  have HR := hid (show RisePu w0 w.heap.size none by
    rw [← hw0]
    exact ⟨(((Row.new _ _ _).alloc _).alloc _).alloc _, ((Row.newAt _ _ _ _ (by simp)).alloc _).alloc _, Row.newAt _ _ _ _ (by simp), (Row.newAt _ _ _ _ (by simp)).alloc _⟩)
  have HW0 := hid hw0
  clear hw0
  go_enter Tryz.func41, Tryz.ntmps41
  go_wp2
  go_ret
  first | rw [HW0.out] | skip
  exact ⟨by first | done | rfl, HB0.out, HR.out⟩
def nextPu (p : Option Pu) (x : Pu) : Int := if wrongPu x ≠ 0 then wrongPu x else if aheadOk lessPu p x = false then 2 else 0
theorem upGoPu (p : Option Pu) (x : Pu) (r : List Pu) : upGo wrongPu lessPu p (x :: r) = if nextPu p x ≠ 0 then nextPu p x else upGo wrongPu lessPu (some x) r := by
  unfold nextPu
  rw [upGo]
  by_cases h1 : wrongPu x = 0
  · simp only [h1, ne_eq, not_true_eq_false, if_false]
    cases aheadOk lessPu p x <;> simp
  · simp [h1]
set_option maxRecDepth 100000 in
set_option maxHeartbeats 4000000 in
theorem risePu_any (p : Option Pu) (x : Pu) (g : Nat) (w : World) (h : RisePu w g p) :
    Calls Tryz.prog 98 #[.agg #[.string x.owner, .string x.denom, .int .u64 (x.amount : Int)], .pointer (some ⟨g, 0, none⟩), .pointer (some ⟨g + 2 + 1, 0, none⟩), .pointer (some ⟨g + 1, 0, none⟩), .pointer (some ⟨g + 2, 0, none⟩)] w fun e w' => e = .returned (.int .i64 (nextPu p x)) ∧ Below g w w' ∧ (nextPu p x = 0 → RisePu w' g (some x)) := by
  obtain ⟨h0, h1, h3, h4⟩ := h
  have hg3 := h3.lt
  have hgw : g ≤ w.heap.size := by omega
  obtain ⟨w0, hw0⟩ : ∃ w0, w.alloc (.cells #[.string x.owner, .string x.denom, .int .u64 (x.amount : Int)] 85) = w0 := ⟨_, rfl⟩
  have hb0 : Below w.heap.size w w0 := by rw [← hw0]; exact (Below.refl _ _).alloc (Nat.le_refl _) _
  have HB0 := hid hb0
  have HX0 := hid (show Row w0 w.heap.size 85 [.string x.owner, .string x.denom, .int .u64 (x.amount : Int)] by rw [← hw0]; exact Row.new _ _ _)
  have H00 := hid (h0.below hb0 h0.lt)
  have H10 := hid (h1.below hb0 h1.lt)
  have H30 := hid (h3.below hb0 h3.lt)
  have HW0 := hid hw0
  have HWR := hid (show Calls Tryz.prog 42 #[.agg #[.string x.owner, .string x.denom, .int .u64 (x.amount : Int)]] w0 _ from wrongPurse_any x w0)
  have k0 : w0.cell? ⟨g, 0, none⟩ = some (.func (.func 42) #[] #[]) := H00.out.cell 0
  have x0 : w0.cell? ⟨w.heap.size, 0, none⟩ = some (.string x.owner) := HX0.out.cell 0
  have x1 : w0.cell? ⟨w.heap.size, 1, none⟩ = some (.string x.denom) := HX0.out.cell 1
  have x2 : w0.cell? ⟨w.heap.size, 2, none⟩ = some (.int .u64 (x.amount : Int)) := HX0.out.cell 2
  have H4 := hid h4
  clear hw0 h0 h1 h3 h4 hb0
  by_cases hz : wrongPu x = 0
  · have HZ := hid hz
    clear hz
    cases p with
    | none =>
      have HNX := hid (show nextPu none x = 0 by unfold nextPu aheadOk; simp [HZ.out])
      go_enter Tryz.func98, Tryz.ntmps98
      go_upto_region 1 with fail
      rw [HW0.out]
      go_wp2_with fail
      refine HWR.out.mono ?_
      rintro e w1 ⟨rfl, hb1⟩
      rw [HZ.out]
      have HB1 := hid (HB0.out.trans (hb1.mono HB0.out.size))
      have hG0 := hid (H00.out.below hb1 H00.out.lt)
      have hG1 := hid (H10.out.below hb1 H10.out.lt)
      have hG3 := hid (H30.out.below hb1 H30.out.lt)
      have HX1 := hid (HX0.out.below hb1 HX0.out.lt)
      have HA1 := hid ((Row.below H4.out (HB0.out) (Row.lt H4.out)).below hb1 (Row.lt (Row.below H4.out (HB0.out) (Row.lt H4.out))))
      have b3 : w1.cell? ⟨g + 2 + 1, 0, none⟩ = some (.bool true) := hG3.out.cell 0
      have z0 : w1.cell? ⟨w.heap.size, 0, none⟩ = some (.string x.owner) := HX1.out.cell 0
      have z1 : w1.cell? ⟨w.heap.size, 1, none⟩ = some (.string x.denom) := HX1.out.cell 1
      have z2 : w1.cell? ⟨w.heap.size, 2, none⟩ = some (.int .u64 (x.amount : Int)) := HX1.out.cell 2
      have fr3 := hG3.out.frozen 0
      have y0 := HA1.out.cell 0
      have y1 := HA1.out.cell 1
      have y2 := HA1.out.cell 2
      simp at y0
      simp at y1
      simp at y2
      have fra0 := HA1.out.frozen 0
      have fra1 := HA1.out.frozen 1
      have fra2 := HA1.out.frozen 2
      clear hb1
      obtain ⟨wz, hwz⟩ : ∃ wz, ((((w1.setCell ⟨g + 2, 0, none⟩ (.string x.owner)).setCell ⟨g + 2, 1, none⟩ (.string x.denom)).setCell ⟨g + 2, 2, none⟩ (.int .u64 (x.amount : Int))).setCell ⟨g + 2 + 1, 0, none⟩ (.bool false)) = wz := ⟨_, rfl⟩
      have HBZ := hid (show Below g w wz by rw [← hwz]; exact (((((HB1.out.mono hgw).setCell (show g ≤ g + 2 by omega) _).setCell (show g ≤ g + 2 by omega) _).setCell (show g ≤ g + 2 by omega) _).setCell (show g ≤ g + 2 + 1 by omega) _))
      have HRZ := hid (show RisePu wz g (some x) by
        rw [← hwz]
        refine ⟨?_, ?_, ?_, ?_⟩
        · exact rowS (rowS (rowS (rowS hG0.out (by omega)) (by omega)) (by omega)) (by omega)
        · exact rowS (rowS (rowS (rowS hG1.out (by omega)) (by omega)) (by omega)) (by omega)
        · exact (rowS (rowS (rowS hG3.out (by omega)) (by omega)) (by omega)).set 0 _
        · exact rowS (((HA1.out.set 0 _).set 1 _).set 2 _) (by omega))
      have HWZ := hid hwz
      clear hwz
      go_wp2
      go_ret
      first | rw [HWZ.out] | skip
      exact ⟨by rw [HNX.out]; first | done | rfl, HBZ.out, fun _ => HRZ.out⟩
    | some a =>
      have hra : Row w (g + 2) 85 [.string a.owner, .string a.denom, .int .u64 (a.amount : Int)] := H4.out
      have hra0 := hra.below HB0.out hra.lt
      have HRA0 := hid hra0
      clear H4 hra hra0
      go_enter Tryz.func98, Tryz.ntmps98
      go_upto_region 1 with fail
      rw [HW0.out]
      go_wp2_with fail
      refine HWR.out.mono ?_
      rintro e w1 ⟨rfl, hb1⟩
      rw [HZ.out]
      have HB1 := hid (HB0.out.trans (hb1.mono HB0.out.size))
      have hE0 := hid (H00.out.below hb1 H00.out.lt)
      have hE1 := hid (H10.out.below hb1 H10.out.lt)
      have hE3 := hid (H30.out.below hb1 H30.out.lt)
      have HX1 := hid (HX0.out.below hb1 HX0.out.lt)
      have HA1 := hid (HRA0.out.below hb1 HRA0.out.lt)
      have HCM := hid (show Calls Tryz.prog 43 #[.agg #[.string a.owner, .string a.denom, .int .u64 (a.amount : Int)], .agg #[.string x.owner, .string x.denom, .int .u64 (x.amount : Int)]] w1 _ from comparePurses_any a x w1)
      have b3 : w1.cell? ⟨g + 2 + 1, 0, none⟩ = some (.bool false) := hE3.out.cell 0
      have b1 : w1.cell? ⟨g + 1, 0, none⟩ = some (.func (.func 43) #[] #[]) := hE1.out.cell 0
      have q0 : w1.cell? ⟨g + 2, 0, none⟩ = some (.string a.owner) := HA1.out.cell 0
      have q1 : w1.cell? ⟨g + 2, 1, none⟩ = some (.string a.denom) := HA1.out.cell 1
      have q2 : w1.cell? ⟨g + 2, 2, none⟩ = some (.int .u64 (a.amount : Int)) := HA1.out.cell 2
      have z0 : w1.cell? ⟨w.heap.size, 0, none⟩ = some (.string x.owner) := HX1.out.cell 0
      have z1 : w1.cell? ⟨w.heap.size, 1, none⟩ = some (.string x.denom) := HX1.out.cell 1
      have z2 : w1.cell? ⟨w.heap.size, 2, none⟩ = some (.int .u64 (x.amount : Int)) := HX1.out.cell 2
      clear hb1
      go_wp2_with fail
      refine HCM.out.mono ?_
      rintro e w2 ⟨rfl, hb2⟩
      have HB2 := hid (HB1.out.trans (hb2.mono HB1.out.size))
      have hG0 := hid (hE0.out.below hb2 hE0.out.lt)
      have hG1 := hid (hE1.out.below hb2 hE1.out.lt)
      have hG3 := hid (hE3.out.below hb2 hE3.out.lt)
      have HX2 := hid (HX1.out.below hb2 HX1.out.lt)
      have HA2 := hid (HA1.out.below hb2 HA1.out.lt)
      clear hb2 b3 b1 q0 q1 q2 z0 z1 z2 x0 x1 x2 k0
      have z0 : w2.cell? ⟨w.heap.size, 0, none⟩ = some (.string x.owner) := HX2.out.cell 0
      have z1 : w2.cell? ⟨w.heap.size, 1, none⟩ = some (.string x.denom) := HX2.out.cell 1
      have z2 : w2.cell? ⟨w.heap.size, 2, none⟩ = some (.int .u64 (x.amount : Int)) := HX2.out.cell 2
      have fr3 := hG3.out.frozen 0
      have y0 := HA2.out.cell 0
      have y1 := HA2.out.cell 1
      have y2 := HA2.out.cell 2
      simp at y0
      simp at y1
      simp at y2
      have b3 : w2.cell? ⟨g + 2 + 1, 0, none⟩ = some (.bool false) := hG3.out.cell 0
      have fra0 := HA2.out.frozen 0
      have fra1 := HA2.out.frozen 1
      have fra2 := HA2.out.frozen 2
      have HLC := hid (lessPu_cmp a x)
      generalize hcz : orN [cmpS a.owner x.owner, cmpS a.denom x.denom] = zc at *
      clear hcz
      by_cases hlt : zc < 0
      · have e0 : decide ((0 : Int) ≤ zc) = false := decide_eq_false (by omega)
        have HNX := hid (show nextPu (some a) x = 0 by unfold nextPu; rw [aheadOk_some, HLC.out, decide_eq_true hlt]; simp [HZ.out])
        clear hlt HLC HCM
        obtain ⟨wz, hwz⟩ : ∃ wz, ((((w2.setCell ⟨g + 2, 0, none⟩ (.string x.owner)).setCell ⟨g + 2, 1, none⟩ (.string x.denom)).setCell ⟨g + 2, 2, none⟩ (.int .u64 (x.amount : Int))).setCell ⟨g + 2 + 1, 0, none⟩ (.bool false)) = wz := ⟨_, rfl⟩
        have HBZ := hid (show Below g w wz by rw [← hwz]; exact (((((HB2.out.mono hgw).setCell (show g ≤ g + 2 by omega) _).setCell (show g ≤ g + 2 by omega) _).setCell (show g ≤ g + 2 by omega) _).setCell (show g ≤ g + 2 + 1 by omega) _))
        have HRZ := hid (show RisePu wz g (some x) by
          rw [← hwz]
          refine ⟨?_, ?_, ?_, ?_⟩
          · exact rowS (rowS (rowS (rowS hG0.out (by omega)) (by omega)) (by omega)) (by omega)
          · exact rowS (rowS (rowS (rowS hG1.out (by omega)) (by omega)) (by omega)) (by omega)
          · exact (rowS (rowS (rowS hG3.out (by omega)) (by omega)) (by omega)).set 0 _
          · exact rowS (((HA2.out.set 0 _).set 1 _).set 2 _) (by omega))
        have HWZ := hid hwz
        clear hwz
        go_wp2
        go_ret
        first | rw [HWZ.out] | skip
        exact ⟨by rw [HNX.out]; first | done | rfl, HBZ.out, fun _ => HRZ.out⟩
      · have e0 : decide ((0 : Int) ≤ zc) = true := decide_eq_true (by omega)
        have HNX := hid (show nextPu (some a) x = 2 by unfold nextPu; rw [aheadOk_some, HLC.out, decide_eq_false hlt]; simp [HZ.out])
        clear hlt HLC HCM
        go_wp2
        go_ret
        exact ⟨by rw [HNX.out]; first | done | rfl, HB2.out.mono hgw, fun h => absurd h (by rw [HNX.out]; decide)⟩
  · have e0 : (wrongPu x != 0) = true := by simpa using hz
    have HNX := hid (show nextPu p x = wrongPu x by unfold nextPu; rw [if_pos hz])
    have HNZ := hid hz
    clear hz
    generalize hwx : wrongPu x = zx at *
    clear hwx
    go_enter Tryz.func98, Tryz.ntmps98
    go_upto_region 1 with fail
    rw [HW0.out]
    go_wp2_with fail
    refine HWR.out.mono ?_
    rintro e w1 ⟨rfl, hb1⟩
    have HB1 := hid (HB0.out.trans (hb1.mono HB0.out.size))
    clear hb1
    go_wp2
    go_ret
    exact ⟨by rw [HNX.out]; first | done | rfl, HB1.out.mono hgw, fun h => absurd h (by rw [HNX.out]; exact HNZ.out)⟩
end Go.Proofs.YtbjlfhabnjpdmaaGreatDoor
