/-
  WireTurns answers true of all pieces and all bytes, and turns nothing that was there.
-/
import Derived.Test.YthogidagokdipabWireUnlikeW
namespace Go.Proofs.Ythogidagokdipab
open Go.RowKit

theorem rd_code (b : List (BitVec 8)) (c : Int) (h : rdAll b = .error c) : c ≠ 0 := by
  unfold rdAll at h
  split at h
  · obtain rfl : 4 = c := by simpa using h
    decide
  · split at h
    · obtain rfl : 2 = c := by simpa using h
      decide
    · split at h
      · obtain rfl : 2 = c := by simpa using h
        decide
      · split at h
        · obtain rfl : 2 = c := by simpa using h
          decide
        · cases h
/-- what Read told of bytes: pieces and no error, or an error and none -/
def ReadOf (w : World) (b : List (BitVec 8)) (v : Value) (c : Int) : Prop :=
  (c = 0 ∧ ∃ m, rdAll b = .ok m ∧ Pieces w w.heap.size v m) ∨ (c ≠ 0 ∧ rdAll b = .error c ∧ v = .slice none 0 0)
theorem read_all (b : List (BitVec 8)) (sv : Value) (N : Nat) (w : World) (hb : Bytes w N sv b) (hN : N ≤ w.heap.size) (hlen : b.length ≤ 140737488355328) :
    Calls Try.prog 9 #[sv] w fun e w' => Below w.heap.size w w' ∧ ∃ ov nv cv c, e = .returned (.tuple #[.slice ov nv cv, .int .i64 c]) ∧ ReadOf w' b (.slice ov nv cv) c := by
  refine (read_any b sv N w hb hN hlen).mono ?_
  rintro e w' ⟨h1, ⟨m, v, h2, rfl, h3⟩ | ⟨c, h2, rfl⟩⟩
  · obtain ⟨ov, cv, rfl, _⟩ := h3.shape
    exact ⟨h1, ov, _, cv, 0, rfl, .inl ⟨rfl, m, h2, h3⟩⟩
  · exact ⟨h1, none, 0, 0, c, rfl, .inr ⟨rd_code b c h2, h2, rfl⟩⟩
theorem norm_idem (p : Pc) : p.norm.norm = p.norm := by
  rw [norm_eq]
  refine ⟨Pc.norm_k p, fun h => ?_, fun h => ?_⟩
  · rw [Pc.norm_k] at h; simp [Pc.norm, h]
  · rw [Pc.norm_k] at h; simp [Pc.norm, h]
theorem rd_fits (b : List (BitVec 8)) (m : List Pc) (h : rdAll b = .ok m) : (∀ p ∈ m, p.fits) ∧ m.length ≤ 200 := by
  obtain ⟨h1, h2, h3⟩ := wr_rd b m h
  refine ⟨fun p hp => ⟨(h3 p hp).1, ?_⟩, h2⟩
  have hn := (h3 p hp).2
  by_cases hk : p.k = 2
  · have hx : b = numB m.length ++ wrs m := by
      unfold wrAll at h1
      rw [if_neg (by omega)] at h1
      exact (wrGo_ok _ _ _ _ h1).1
    have h4 := mem_wrs m p hp hk
    have h5 := wr_len m b h1
    rw [hx, List.length_append] at h5
    omega
  · have : p.b = [] := by
      rw [← hn]
      unfold Pc.norm
      split
      · rfl
      · rfl
    rw [this]; simp

set_option maxRecDepth 100000 in
set_option maxHeartbeats 2000000 in
theorem wireTurns_any (l : List Pc) (b : List (BitVec 8)) (sa sb : Value) (N : Nat) (w : World) (hN : N ≤ w.heap.size) (ha : Pieces w N sa l) (hb : Bytes w N sb b) (hlen : l.length < 2305843009213693952) (hfl : ∀ p ∈ l, p.fits) (hbl : b.length ≤ 140737488351232) :
    Calls Try.prog 4 #[sa, sb] w fun e w' => e = .returned (.bool true) ∧ Below w.heap.size w w' := by
  have HAL := hid (alive3_any w)
  have HA := hid ha
  have HB := hid hb
  have HFL := hid hfl
  clear ha hb hfl
  go_enter Try.func4, Try.ntmps4
  go_wp2_with fail
  refine HAL.out.mono ?_
  rintro e w1 ⟨rfl, hb1⟩
  have hsz1 := hb1.size
  have HB1 := hid hb1
  have HA1 := hid (HA.out.below (hb1.mono hN))
  have HC1 := hid (HB.out.below (hb1.mono hN))
  have HWR := hid (write_all l sa N w1 HA1.out (by omega) hlen HFL.out)
  clear hb1 HAL HA HB
  go_wp2_with fail
  refine HWR.out.mono ?_
  rintro e w2 ⟨hb2, ov, nv, cv, c, i, rfl, hwr⟩
  have hsz2 := hb2.size
  obtain ⟨w3, hw3⟩ : ∃ w3, w2.alloc (.cells #[.int .i64 c, .int .i64 (i : Int)] 26) = w3 := ⟨_, rfl⟩
  have hsz3 : w3.heap.size = w2.heap.size + 1 := by rw [← hw3]; simp
  have hb3 : Below w2.heap.size w2 w3 := by rw [← hw3]; exact (Below.refl _ _).alloc (Nat.le_refl _) _
  have hb13 : Below w1.heap.size w1 w3 := hb2.trans (hb3.mono (by omega))
  have HA3 := hid (HA1.out.below (hb13.mono (by omega)))
  have HC3 := hid (HC1.out.below (hb13.mono (by omega)))
  have HB3 := hid (HB1.out.trans (hb13.mono (by omega)))
  have HW3 := hid hw3
  have HX3 := hid hwr
  have HBA := hid hb3
  clear hw3 hb2 hb3 hb13 hwr HWR HA1 HC1 HB1
  by_cases hc : c = 0
  · subst hc
    obtain ⟨x, hx, hbx⟩ : ∃ x, wrAll l = .ok x ∧ Bytes w2 w2.heap.size (.slice ov nv cv) x := by
      rcases HX3.out with ⟨_, _, x, h⟩ | ⟨h, _⟩
      · exact ⟨x, h⟩
      · exact absurd rfl h
    have HRDX := hid (rd_wr l x (fun p hp => (HFL.out p hp).1) hx)
    have HRD := hid (read_all x _ w2.heap.size w3 (hbx.below HBA.out) (by omega) (by have := wr_len l x hx; omega))
    clear hx hbx
    go_wp2_with fail
    rw [HW3.out]
    refine HRD.out.mono ?_
    rintro e w4 ⟨hb4, ov4, nv4, cv4, c4, rfl, hrd4⟩
    obtain ⟨rfl, hp4⟩ : c4 = 0 ∧ Pieces w4 w4.heap.size (.slice ov4 nv4 cv4) (l.map Pc.norm) := by
      rcases hrd4 with ⟨h1, m, h2, h3⟩ | ⟨_, h2, _⟩
      · rw [HRDX.out] at h2
        obtain rfl : l.map Pc.norm = m := by simpa using h2
        exact ⟨h1, h3⟩
      · rw [HRDX.out] at h2; cases h2
    have hsz4 := hb4.size
    have HSP := hid (sameP_any l (l.map Pc.norm) sa _ N w4.heap.size w4 (HA3.out.below (hb4.mono (by omega))) hp4 hlen (by simpa using hlen) HFL.out (fun p hp => by
      obtain ⟨p', hp', rfl⟩ := List.mem_map.1 hp
      have := HFL.out p' hp'
      refine ⟨Pc.norm_ok p' this.1, ?_⟩
      unfold Pc.norm
      split
      · simp
      · split
        · exact this.2
        · simp))
    have HB4 := hid (HB3.out.trans (hb4.mono (by omega)))
    have HC4 := hid (HC3.out.below (hb4.mono (by omega)))
    clear hb4 hrd4 hp4 HRD
    go_wp2_with fail
    refine HSP.out.mono ?_
    rintro e w5 ⟨bb, rfl, hbb, q, rfl⟩
    obtain rfl : bb = true := hbb.2 (by rw [List.map_map]; exact List.map_congr_left (fun p _ => (norm_idem p).symm))
    clear hbb
    have HBX := hid (HB4.out.trans (drewN_below w4 q _))
    have HCX := hid (HC4.out.drewN q)
    have HSZX := hid (show w.heap.size ≤ (w4.drewN q).heap.size by show w.heap.size ≤ w4.heap.size; omega)
    have HRD2 := hid (read_all b sb N (w4.drewN q) HCX.out (Nat.le_trans hN HSZX.out) (by omega))
    go_wp2_with fail
    refine HRD2.out.mono ?_
    rintro e w6 ⟨hb6, ov6, nv6, cv6, c6, rfl, hrd6⟩
    have hsz6 := hb6.size
    have HB6 := hid (HBX.out.trans (hb6.mono HSZX.out))
    have HC6 := hid (HCX.out.below (hb6.mono (Nat.le_trans hN HSZX.out)))
    have HX6 := hid hrd6
    clear hb6 hrd6
    by_cases hc6 : c6 = 0
    · subst hc6
      obtain ⟨m, hm, hpm⟩ : ∃ m, rdAll b = .ok m ∧ Pieces w6 w6.heap.size (.slice ov6 nv6 cv6) m := by
        rcases HX6.out with ⟨_, m, h⟩ | ⟨h, _⟩
        · exact ⟨m, h⟩
        · exact absurd rfl h
      have HWB := hid (wr_rd b m hm).1
      have HWR6 := hid (write_all m _ w6.heap.size w6 hpm (Nat.le_refl _) (by have := (rd_fits b m hm).2; omega) (rd_fits b m hm).1)
      clear hm hpm
      go_wp2_with fail
      refine HWR6.out.mono ?_
      rintro e w7 ⟨hb7, ov7, nv7, cv7, c7, i7, rfl, hwr7⟩
      obtain ⟨rfl, rfl, hp7⟩ : c7 = 0 ∧ i7 = 0 ∧ Bytes w7 w7.heap.size (.slice ov7 nv7 cv7) b := by
        rcases hwr7 with ⟨h1, h1', x, h2, h3⟩ | ⟨_, h2, _⟩
        · rw [HWB.out] at h2
          obtain rfl : b = x := by simpa using h2
          exact ⟨h1, h1', h3⟩
        · rw [HWB.out] at h2; cases h2
      have hsz7 := hb7.size
      obtain ⟨w8, hw8⟩ : ∃ w8, w7.alloc (.cells #[.int .i64 0, .int .i64 0] 26) = w8 := ⟨_, rfl⟩
      have hb8 : Below w7.heap.size w7 w8 := by rw [← hw8]; exact (Below.refl _ _).alloc (Nat.le_refl _) _
      have hb68 : Below w6.heap.size w6 w8 := hb7.trans (hb8.mono (by omega))
      have hszx := HSZX.out
      have HS := hid (sameB_any b b _ _ _ _ w8 (hp7.below hb8) (HC6.out.below (hb68.mono (by omega))) (by omega) (by omega))
      rw [decide_eq_true (show b = b from rfl)] at HS
      have HB8 := hid (HB6.out.trans (hb68.mono (by omega)))
      have HW8 := hid hw8
      clear hw8 hb8 hb68 hb7 hwr7 hp7 HWR6
      go_wp2_with fail
      rw [HW8.out]
      refine HS.out.mono ?_
      rintro e w9 ⟨rfl, q9, rfl⟩
      go_wp2
      go_ret
      exact ⟨rfl, HB8.out.trans (drewN_below w8 q9 _)⟩
    · have e6 : (c6 != 0) = true := by simpa using hc6
      obtain ⟨rfl, rfl, rfl⟩ : ov6 = none ∧ nv6 = 0 ∧ cv6 = 0 := by
        rcases HX6.out with ⟨h, _⟩ | ⟨_, _, h⟩
        · exact absurd h hc6
        · simpa using h
      go_wp2
      go_ret
      exact ⟨rfl, HB6.out⟩
  · have e1 : (c == 0) = false := by simpa using hc
    have HBX := HB3
    have HCX := HC3
    have HSZX := hid (show w.heap.size ≤ w3.heap.size by omega)
    have HRD2 := hid (read_all b sb N w3 HCX.out (Nat.le_trans hN HSZX.out) (by omega))
    go_wp2_with fail
    rw [HW3.out]
    refine HRD2.out.mono ?_
    rintro e w6 ⟨hb6, ov6, nv6, cv6, c6, rfl, hrd6⟩
    have hsz6 := hb6.size
    have HB6 := hid (HBX.out.trans (hb6.mono HSZX.out))
    have HC6 := hid (HCX.out.below (hb6.mono (Nat.le_trans hN HSZX.out)))
    have HX6 := hid hrd6
    clear hb6 hrd6
    by_cases hc6 : c6 = 0
    · subst hc6
      obtain ⟨m, hm, hpm⟩ : ∃ m, rdAll b = .ok m ∧ Pieces w6 w6.heap.size (.slice ov6 nv6 cv6) m := by
        rcases HX6.out with ⟨_, m, h⟩ | ⟨h, _⟩
        · exact ⟨m, h⟩
        · exact absurd rfl h
      have HWB := hid (wr_rd b m hm).1
      have HWR6 := hid (write_all m _ w6.heap.size w6 hpm (Nat.le_refl _) (by have := (rd_fits b m hm).2; omega) (rd_fits b m hm).1)
      clear hm hpm
      go_wp2_with fail
      refine HWR6.out.mono ?_
      rintro e w7 ⟨hb7, ov7, nv7, cv7, c7, i7, rfl, hwr7⟩
      obtain ⟨rfl, rfl, hp7⟩ : c7 = 0 ∧ i7 = 0 ∧ Bytes w7 w7.heap.size (.slice ov7 nv7 cv7) b := by
        rcases hwr7 with ⟨h1, h1', x, h2, h3⟩ | ⟨_, h2, _⟩
        · rw [HWB.out] at h2
          obtain rfl : b = x := by simpa using h2
          exact ⟨h1, h1', h3⟩
        · rw [HWB.out] at h2; cases h2
      have hsz7 := hb7.size
      obtain ⟨w8, hw8⟩ : ∃ w8, w7.alloc (.cells #[.int .i64 0, .int .i64 0] 26) = w8 := ⟨_, rfl⟩
      have hb8 : Below w7.heap.size w7 w8 := by rw [← hw8]; exact (Below.refl _ _).alloc (Nat.le_refl _) _
      have hb68 : Below w6.heap.size w6 w8 := hb7.trans (hb8.mono (by omega))
      have hszx := HSZX.out
      have HS := hid (sameB_any b b _ _ _ _ w8 (hp7.below hb8) (HC6.out.below (hb68.mono (by omega))) (by omega) (by omega))
      rw [decide_eq_true (show b = b from rfl)] at HS
      have HB8 := hid (HB6.out.trans (hb68.mono (by omega)))
      have HW8 := hid hw8
      clear hw8 hb8 hb68 hb7 hwr7 hp7 HWR6
      go_wp2_with fail
      rw [HW8.out]
      refine HS.out.mono ?_
      rintro e w9 ⟨rfl, q9, rfl⟩
      go_wp2
      go_ret
      exact ⟨rfl, HB8.out.trans (drewN_below w8 q9 _)⟩
    · have e6 : (c6 != 0) = true := by simpa using hc6
      obtain ⟨rfl, rfl, rfl⟩ : ov6 = none ∧ nv6 = 0 ∧ cv6 = 0 := by
        rcases HX6.out with ⟨h, _⟩ | ⟨_, _, h⟩
        · exact absurd h hc6
        · simpa using h
      go_wp2
      go_ret
      exact ⟨rfl, HB6.out⟩
end Go.Proofs.Ythogidagokdipab
