/-
  WireTells answers true of all pieces and all bytes, and turns nothing that was there.
-/
import Derived.Test.YthogidagokdipabWireTurnsW
import Derived.Test.YthogidagokdipabRef3Write
import Derived.Test.YthogidagokdipabRef3Read
namespace Go.Proofs.Ythogidagokdipab
open Go.RowKit

def outOf (l : List Pc) : List (BitVec 8) := match wrAll l with | .ok x => x | .error _ => []
def codeOf (l : List Pc) : Int × Nat := match wrAll l with | .ok _ => (0, 0) | .error e => e
def pcsOf (b : List (BitVec 8)) : List Pc := match rdAll b with | .ok m => m | .error _ => []
def rcOf (b : List (BitVec 8)) : Int := match rdAll b with | .ok _ => 0 | .error c => c
theorem outOf_len (l : List Pc) : (outOf l).length ≤ 20000 := by
  unfold outOf
  split
  · exact wr_len l _ (by assumption)
  · simp
theorem Wrote.out {w : World} {l : List Pc} {v : Value} {c : Int} {i : Nat} (h : Wrote w l v c i) : Bytes w w.heap.size v (outOf l) ∧ c = (codeOf l).1 ∧ i = (codeOf l).2 := by
  rcases h with ⟨rfl, rfl, x, h1, h2⟩ | ⟨_, h1, rfl⟩
  · simp only [outOf, codeOf, h1]
    exact ⟨h2, trivial, trivial⟩
  · simp only [outOf, codeOf, h1]
    exact ⟨.inl ⟨rfl, rfl⟩, trivial, trivial⟩
theorem ReadOf.out {w : World} {b : List (BitVec 8)} {v : Value} {c : Int} (h : ReadOf w b v c) : Pieces w w.heap.size v (pcsOf b) ∧ c = rcOf b := by
  rcases h with ⟨rfl, m, h1, h2⟩ | ⟨_, h1, rfl⟩
  · simp only [pcsOf, rcOf, h1]
    exact ⟨h2, trivial⟩
  · simp only [pcsOf, rcOf, h1]
    exact ⟨.inl ⟨rfl, rfl⟩, trivial⟩
theorem pcsOf_fits (b : List (BitVec 8)) : (∀ p ∈ pcsOf b, p.fits) ∧ (pcsOf b).length ≤ 200 := by
  unfold pcsOf
  split
  · exact rd_fits b _ (by assumption)
  · simp
theorem refWrite_all (l : List Pc) (sv : Value) (N : Nat) (w : World) (hb : Pieces w N sv l) (hN : N ≤ w.heap.size) (hlen : l.length < 2305843009213693952) (hfit : ∀ p ∈ l, p.fits) :
    Calls Try.prog 7 #[sv] w fun e w' => Below w.heap.size w w' ∧ ∃ ov nv cv c i, e = .returned (.tuple #[.slice ov nv cv, .agg #[.int .i64 c, .int .i64 ((i : Nat) : Int)]]) ∧ Wrote w' l (.slice ov nv cv) c i := by
  refine (refWrite_any l sv N w hb hN hlen hfit).mono ?_
  rintro e w' ⟨h1, ⟨x, v, h2, rfl, h3⟩ | ⟨c, i, h2, rfl⟩⟩
  · obtain ⟨ov, cv, rfl, _⟩ := h3.shape
    exact ⟨h1, ov, _, cv, 0, 0, rfl, .inl ⟨rfl, rfl, x, h2, h3.bytes⟩⟩
  · exact ⟨h1, none, 0, 0, c, i, rfl, .inr ⟨wr_code l c i h2, h2, rfl⟩⟩
theorem refRead_all (b : List (BitVec 8)) (sv : Value) (N : Nat) (w : World) (hb : Bytes w N sv b) (hN : N ≤ w.heap.size) (hlen : b.length ≤ 140737488355328) :
    Calls Try.prog 10 #[sv] w fun e w' => Below w.heap.size w w' ∧ ∃ ov nv cv c, e = .returned (.tuple #[.slice ov nv cv, .int .i64 c]) ∧ ReadOf w' b (.slice ov nv cv) c := by
  refine (refRead_any b sv N w hb hN hlen).mono ?_
  rintro e w' ⟨h1, ⟨m, v, h2, rfl, h3⟩ | ⟨c, h2, rfl⟩⟩
  · obtain ⟨ov, cv, rfl, _⟩ := h3.shape
    exact ⟨h1, ov, _, cv, 0, rfl, .inl ⟨rfl, m, h2, h3⟩⟩
  · exact ⟨h1, none, 0, 0, c, rfl, .inr ⟨rd_code b c h2, h2, rfl⟩⟩

set_option maxRecDepth 100000 in
set_option maxHeartbeats 2000000 in
theorem wireTells_any (l : List Pc) (b : List (BitVec 8)) (sa sb : Value) (N : Nat) (w : World) (hN : N ≤ w.heap.size) (ha : Pieces w N sa l) (hb : Bytes w N sb b) (hlen : l.length < 2305843009213693952) (hfl : ∀ p ∈ l, p.fits) (hbl : b.length ≤ 140737488351232) :
    Calls Try.prog 3 #[sa, sb] w fun e w' => e = .returned (.bool true) ∧ Below w.heap.size w w' := by
  have HA := hid ha
  have HB := hid hb
  have HFL := hid hfl
  have HWR := hid (write_all l sa N w ha hN hlen hfl)
  clear ha hb hfl
  go_enter Try.func3, Try.ntmps3
  go_wp2_with fail
  refine HWR.out.mono ?_
  rintro e w1 ⟨hb1, ov, nv, cv, c, i, rfl, hwr⟩
  have hsz1 := hb1.size
  obtain ⟨hx1, hc, hi⟩ := hwr.out
  obtain ⟨w2, hw2⟩ : ∃ w2, w1.alloc (.cells #[.int .i64 c, .int .i64 (i : Int)] 26) = w2 := ⟨_, rfl⟩
  have hsz2 : w2.heap.size = w1.heap.size + 1 := by rw [← hw2]; simp
  have hb2 : Below w1.heap.size w1 w2 := by rw [← hw2]; exact (Below.refl _ _).alloc (Nat.le_refl _) _
  have hrow2 : Row w2 w1.heap.size 26 [.int .i64 c, .int .i64 (i : Int)] := by rw [← hw2]; exact Row.new _ _ _
  have hb02 : Below w.heap.size w w2 := hb1.trans (hb2.mono (by omega))
  have HX2 := hid (hx1.below hb2)
  have HA2 := hid (HA.out.below (hb02.mono hN))
  have HC2 := hid (HB.out.below (hb02.mono hN))
  have HB2 := hid hb02
  have HR2 := hid hrow2
  have HW2 := hid hw2
  have HCI := hid (show c = (codeOf l).1 ∧ i = (codeOf l).2 from ⟨hc, hi⟩)
  have HWR2 := hid (refWrite_all l sa N w2 HA2.out (by omega) hlen HFL.out)
  clear hw2 hb1 hb2 hb02 hrow2 hwr hx1 hc hi HWR HA HB
  go_wp2_with fail
  rw [HW2.out]
  refine HWR2.out.mono ?_
  rintro e w3 ⟨hb3, ov3, nv3, cv3, c3, i3, rfl, hwr3⟩
  have hsz3 := hb3.size
  obtain ⟨hx3, hc3, hi3⟩ := hwr3.out
  obtain rfl : c3 = c := hc3.trans HCI.out.1.symm
  obtain rfl : i3 = i := hi3.trans HCI.out.2.symm
  obtain ⟨w4, hw4⟩ : ∃ w4, w3.alloc (.cells #[.int .i64 c3, .int .i64 (i3 : Int)] 26) = w4 := ⟨_, rfl⟩
  have hsz4 : w4.heap.size = w3.heap.size + 1 := by rw [← hw4]; simp
  have hb4 : Below w3.heap.size w3 w4 := by rw [← hw4]; exact (Below.refl _ _).alloc (Nat.le_refl _) _
  have hb24 : Below w2.heap.size w2 w4 := hb3.trans (hb4.mono (by omega))
  have f0 : (w3.alloc (.cells #[.int .i64 c3, .int .i64 (i3 : Int)] 26)).cell? ⟨w1.heap.size, 0, none⟩ = some (.int .i64 c3) := by rw [hw4]; exact (HR2.out.below hb24 (by omega)).cell 0
  have f1 : (w3.alloc (.cells #[.int .i64 c3, .int .i64 (i3 : Int)] 26)).cell? ⟨w1.heap.size, 1, none⟩ = some (.int .i64 (i3 : Int)) := by rw [hw4]; exact (HR2.out.below hb24 (by omega)).cell 1
  have hne : w1.heap.size ≠ w3.heap.size := by omega
  have HS := hid (sameB_any (outOf l) (outOf l) _ _ _ _ w4 (HX2.out.below (hb24.mono (by omega))) (hx3.below hb4) (by have := outOf_len l; omega) (by have := outOf_len l; omega))
  rw [decide_eq_true (show outOf l = outOf l from rfl)] at HS
  have HB4 := hid (HB2.out.trans (hb24.mono (by omega)))
  have HC4 := hid (HC2.out.below (hb24.mono (by omega)))
  have HW4 := hid hw4
  clear hw4 hb3 hb4 hb24 hwr3 hx3 hc3 hi3 HWR2 HA2 HC2 HB2 HCI
  go_wp2_with fail
  rw [HW4.out]
  refine HS.out.mono ?_
  rintro e w5 ⟨rfl, q, rfl⟩
  have HRD := hid (read_all b sb N (w4.drewN q) (HC4.out.drewN q) (by show N ≤ w4.heap.size; omega) (by omega))
  go_wp2_with fail
  refine HRD.out.mono ?_
  rintro e w6 ⟨hb6, ov6, nv6, cv6, c6, rfl, hrd6⟩
  obtain ⟨hp6, hc6⟩ := hrd6.out
  have hb46 : Below w4.heap.size w4 w6 := (drewN_below w4 q _).trans hb6
  have hsz6 := hb46.size
  have HC6 := hid (HC4.out.below (hb46.mono (by omega)))
  have HB6 := hid (HB4.out.trans (hb46.mono (by omega)))
  have HP6 := hid hp6
  have HC6' := hid hc6
  have HRD2 := hid (refRead_all b sb N w6 HC6.out (by omega) (by omega))
  clear hb6 hb46 hrd6 hp6 hc6 HRD
  go_wp2_with fail
  refine HRD2.out.mono ?_
  rintro e w7 ⟨hb7, ov7, nv7, cv7, c7, rfl, hrd7⟩
  obtain ⟨hp7, hc7⟩ := hrd7.out
  obtain rfl : c7 = c6 := hc7.trans HC6'.out.symm
  have hsz7 := hb7.size
  have HSP := hid (sameP_any (pcsOf b) (pcsOf b) _ _ _ _ w7 (HP6.out.below hb7) hp7 (by have := (pcsOf_fits b).2; omega) (by have := (pcsOf_fits b).2; omega) (pcsOf_fits b).1 (pcsOf_fits b).1)
  have HB7 := hid (HB6.out.trans (hb7.mono (by omega)))
  clear hb7 hrd7 hp7 hc7 HRD2
  go_wp2_with fail
  refine HSP.out.mono ?_
  rintro e w8 ⟨bb, rfl, hbb, q8, rfl⟩
  obtain rfl : bb = true := hbb.2 (by trivial)
  clear hbb
  go_wp2
  go_ret
  exact ⟨rfl, HB7.out.trans (drewN_below w7 q8 _)⟩
end Go.Proofs.Ythogidagokdipab
