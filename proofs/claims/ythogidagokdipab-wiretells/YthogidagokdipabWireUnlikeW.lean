/-
  WireUnlike answers true of all pieces, and turns nothing that was there.
-/
import Derived.Test.YthogidagokdipabWireAlive
import Derived.Test.YthogidagokdipabSameP
namespace Go.Proofs.Ythogidagokdipab
open Go.RowKit

theorem wrGo_code : ∀ (l : List Pc) (i : Nat) (out : List (BitVec 8)) (c : Int) (j : Nat), wrGo i out l = .error (c, j) → c ≠ 0 := by
  intro l
  induction l with
  | nil => intro i out c j h; simp [wrGo] at h
  | cons p r ih =>
    intro i out c j h
    rw [wrGo] at h
    split at h
    · obtain ⟨rfl, _⟩ : 1 = c ∧ i = j := by simpa using h
      decide
    · split at h
      · obtain ⟨rfl, _⟩ : 4 = c ∧ i = j := by simpa using h
        decide
      · exact ih _ _ _ _ h
theorem wr_code (l : List Pc) (c : Int) (j : Nat) (h : wrAll l = .error (c, j)) : c ≠ 0 := by
  unfold wrAll at h
  split at h
  · obtain ⟨rfl, _⟩ : 5 = c ∧ 0 = j := by simpa using h
    decide
  · exact wrGo_code _ _ _ _ _ h
theorem wr_len (l : List Pc) (x : List (BitVec 8)) (h : wrAll l = .ok x) : x.length ≤ 20000 := by
  unfold wrAll at h
  split at h
  · cases h
  · refine (wrGo_ok _ _ _ _ h).2.2 ?_
    have := numB_length 10 l.length (by simp; omega) (by omega)
    omega
/-- what Write told of pieces: bytes and no error, or an error and none -/
def Wrote (w : World) (l : List Pc) (v : Value) (c : Int) (i : Nat) : Prop :=
  (c = 0 ∧ i = 0 ∧ ∃ x, wrAll l = .ok x ∧ Bytes w w.heap.size v x) ∨ (c ≠ 0 ∧ wrAll l = .error (c, i) ∧ v = .slice none 0 0)
theorem write_all (l : List Pc) (sv : Value) (N : Nat) (w : World) (hb : Pieces w N sv l) (hN : N ≤ w.heap.size) (hlen : l.length < 2305843009213693952) (hfit : ∀ p ∈ l, p.fits) :
    Calls Try.prog 6 #[sv] w fun e w' => Below w.heap.size w w' ∧ ∃ ov nv cv c i, e = .returned (.tuple #[.slice ov nv cv, .agg #[.int .i64 c, .int .i64 ((i : Nat) : Int)]]) ∧ Wrote w' l (.slice ov nv cv) c i := by
  refine (write_any l sv N w hb hN hlen hfit).mono ?_
  rintro e w' ⟨h1, ⟨x, v, h2, rfl, h3⟩ | ⟨c, i, h2, rfl⟩⟩
  · obtain ⟨ov, cv, rfl, _⟩ := h3.shape
    exact ⟨h1, ov, _, cv, 0, 0, rfl, .inl ⟨rfl, rfl, x, h2, h3.bytes⟩⟩
  · exact ⟨h1, none, 0, 0, c, i, rfl, .inr ⟨wr_code l c i h2, h2, rfl⟩⟩

set_option maxRecDepth 100000 in
set_option maxHeartbeats 1000000 in
theorem wireUnlike_any (l m : List Pc) (sa sb : Value) (N : Nat) (w : World) (hN : N ≤ w.heap.size) (ha : Pieces w N sa l) (hb : Pieces w N sb m) (hlen : l.length < 2305843009213693952) (hlem : m.length < 2305843009213693952)
    (hfl : ∀ p ∈ l, p.fits) (hfm : ∀ p ∈ m, p.fits) :
    Calls Try.prog 5 #[sa, sb] w fun e w' => e = .returned (.bool true) ∧ Below w.heap.size w w' := by
  have HAL := hid (alive3_any w)
  have HA := hid ha
  have HB := hid hb
  have HFL := hid hfl
  have HFM := hid hfm
  clear ha hb hfl hfm
  go_enter Try.func5, Try.ntmps5
  go_wp2_with fail
  refine HAL.out.mono ?_
  rintro e w1 ⟨rfl, hb1⟩
  have hsz1 := hb1.size
  have HB1 := hid hb1
  have HA1 := hid (HA.out.below (hb1.mono hN))
  have HC1 := hid (HB.out.below (hb1.mono hN))
  have HWR := hid (write_all l sa N w1 HA1.out (by omega) hlen HFL.out)
  clear hb1 HAL HA HB
  go_wp2_with fail
  refine HWR.out.mono ?_
  rintro e w2 ⟨hb2, ov, nv, cv, c, i, rfl, hwr⟩
  have hsz2 := hb2.size
  obtain ⟨w3, hw3⟩ : ∃ w3, w2.alloc (.cells #[.int .i64 c, .int .i64 (i : Int)] 26) = w3 := ⟨_, rfl⟩
  have hsz3 : w3.heap.size = w2.heap.size + 1 := by rw [← hw3]; simp
  have hb3 : Below w2.heap.size w2 w3 := by rw [← hw3]; exact (Below.refl _ _).alloc (Nat.le_refl _) _
  have hrow3 : Row w3 w2.heap.size 26 [.int .i64 c, .int .i64 (i : Int)] := by rw [← hw3]; exact Row.new _ _ _
  have hb13 : Below w1.heap.size w1 w3 := hb2.trans (hb3.mono (by omega))
  have HA3 := hid (HA1.out.below (hb13.mono (by omega)))
  have HC3 := hid (HC1.out.below (hb13.mono (by omega)))
  have HB3 := hid (HB1.out.trans (hb13.mono (by omega)))
  have HR3 := hid hrow3
  have HW3 := hid hw3
  have HX3 := hid hwr
  have HBA := hid hb3
  have HWR2 := hid (write_all m sb N w3 HC3.out (by omega) hlem HFM.out)
  clear hw3 hb2 hb3 hb13 hrow3 hwr HWR HA1 HC1 HB1
  go_wp2_with fail
  rw [HW3.out]
  refine HWR2.out.mono ?_
  rintro e w4 ⟨hb4, ov', nv', cv', c', i', rfl, hwr'⟩
  have hsz4 := hb4.size
  obtain ⟨w5, hw5⟩ : ∃ w5, w4.alloc (.cells #[.int .i64 c', .int .i64 (i' : Int)] 26) = w5 := ⟨_, rfl⟩
  have hsz5 : w5.heap.size = w4.heap.size + 1 := by rw [← hw5]; simp
  have hb5 : Below w4.heap.size w4 w5 := by rw [← hw5]; exact (Below.refl _ _).alloc (Nat.le_refl _) _
  have hb35 : Below w3.heap.size w3 w5 := hb4.trans (hb5.mono (by omega))
  have HA5 := hid (HA3.out.below (hb35.mono (by omega)))
  have HC5 := hid (HC3.out.below (hb35.mono (by omega)))
  have HB5 := hid (HB3.out.trans (hb35.mono (by omega)))
  have f0 : (w4.alloc (.cells #[.int .i64 c', .int .i64 (i' : Int)] 26)).cell? ⟨w2.heap.size, 0, none⟩ = some (.int .i64 c) := by rw [hw5]; exact (HR3.out.below hb35 (by omega)).cell 0
  have hne : w2.heap.size ≠ w4.heap.size := by omega
  have HW5 := hid hw5
  have HX5 := hid hwr'
  have HBB := hid hb5
  have HBC := hid (HBA.out.trans (hb35.mono (by omega)))
  clear hw5 hb4 hb5 hb35 hwr' HWR2 HA3 HC3 HB3
  by_cases hc : c = 0
  · by_cases hc' : c' = 0
    · subst hc
      subst hc'
      obtain ⟨x, hx, hbx⟩ : ∃ x, wrAll l = .ok x ∧ Bytes w2 w2.heap.size (.slice ov nv cv) x := by
        rcases HX3.out with ⟨_, _, x, h⟩ | ⟨h, _⟩
        · exact ⟨x, h⟩
        · exact absurd rfl h
      obtain ⟨y, hy, hby⟩ : ∃ y, wrAll m = .ok y ∧ Bytes w4 w4.heap.size (.slice ov' nv' cv') y := by
        rcases HX5.out with ⟨_, _, x, h⟩ | ⟨h, _⟩
        · exact ⟨x, h⟩
        · exact absurd rfl h
      have HS := hid (sameB_any x y _ _ _ _ w5 (hbx.below HBC.out) (hby.below HBB.out) (by have := wr_len l x hx; omega) (by have := wr_len m y hy; omega))
      have HSP := hid (fun q : Nat => sameP_any l m sa sb N N (w5.drewN q) (HA5.out.below (drewN_below _ _ _)) (HC5.out.below (drewN_below _ _ _)) hlen hlem HFL.out HFM.out)
      have HIFF := hid (wr_inj l m x y (fun p hp => (HFL.out p hp).1) (fun p hp => (HFM.out p hp).1) hx hy)
      clear hx hy hbx hby
      go_wp2_with fail
      rw [HW5.out]
      refine HS.out.mono ?_
      rintro e w6 ⟨rfl, q, rfl⟩
      generalize hd : decide (x = y) = d
      have HD := hid hd
      clear hd
      go_wp2_with fail
      refine (HSP.out q).mono ?_
      rintro e w7 ⟨bb, rfl, hbb, q', rfl⟩
      have hdb : d = bb := by
        rw [← HD.out, Bool.eq_iff_iff, decide_eq_true_iff, hbb]
        exact HIFF.out
      subst hdb
      go_wp2
      go_ret
      exact ⟨by cases d <;> rfl, HB5.out.trans (drewN_below w5 (q + q') _)⟩
    · have e2 : (c' != 0) = true := by simpa using hc'
      subst hc
      go_wp2
      go_ret
      rw [HW5.out]
      exact ⟨rfl, HB5.out⟩
  · have e1 : (c != 0) = true := by simpa using hc
    go_wp2
    go_ret
    rw [HW5.out]
    exact ⟨rfl, HB5.out⟩
end Go.Proofs.Ythogidagokdipab
