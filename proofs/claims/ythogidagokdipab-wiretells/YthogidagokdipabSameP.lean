/-
  What the document's Same answers of two slices of pieces: whether they read alike, in what their kinds have; it only reads.
-/
import Derived.Test.YthogidagokdipabSameB
import Derived.Test.YthogidagokdipabPiecesMem
import Derived.Deep.QuietTactic
import Derived.BigQuiet
namespace Go.Proofs.Ythogidagokdipab
open Go.RowKit

theorem drewN_belowS (w : World) (n N : Nat) : Below N w (w.drewN n) := ⟨rfl, rfl, rfl, Nat.le_refl _, fun _ _ => rfl⟩
theorem norm_eq (x y : Pc) : x.norm = y.norm ↔ x.k = y.k ∧ (x.k = 1 → x.n = y.n) ∧ (x.k = 2 → x.b = y.b) := by
  constructor
  · intro h
    have hk : x.k = y.k := by have := congrArg Pc.k h; rwa [Pc.norm_k, Pc.norm_k] at this
    refine ⟨hk, fun h1 => ?_, fun h2 => ?_⟩
    · have := congrArg Pc.n h
      simpa [Pc.norm, ← hk, h1] using this
    · have := congrArg Pc.b h
      simpa [Pc.norm, ← hk, h2] using this
  · rintro ⟨hk, h1, h2⟩
    by_cases e1 : x.k = 1
    · simp [Pc.norm, ← hk, e1, h1 e1]
    · by_cases e2 : x.k = 2
      · simp [Pc.norm, ← hk, e2, h2 e2]
      · simp [Pc.norm, ← hk, e1, e2]
theorem norm_take (l m : List Pc) (k : Nat) (x y : Pc) (hx : l[k]? = some x) (hy : m[k]? = some y) (h : (l.take k).map Pc.norm = (m.take k).map Pc.norm) (hn : x.norm = y.norm) : (l.take (k + 1)).map Pc.norm = (m.take (k + 1)).map Pc.norm := by
  obtain ⟨hl, rfl⟩ := List.getElem?_eq_some_iff.1 hx
  obtain ⟨hm, rfl⟩ := List.getElem?_eq_some_iff.1 hy
  rw [List.take_succ_eq_append_getElem hl, List.take_succ_eq_append_getElem hm, List.map_append, List.map_append, h]
  simp [hn]
theorem norm_get (l m : List Pc) (k : Nat) (x y : Pc) (hx : l[k]? = some x) (hy : m[k]? = some y) (h : l.map Pc.norm = m.map Pc.norm) : x.norm = y.norm := by
  have h1 : (l.map Pc.norm)[k]? = some x.norm := by simp [hx]
  rw [h] at h1
  simpa [hy] using h1.symm
set_option maxRecDepth 100000 in
set_option maxHeartbeats 4000000 in
theorem sameP_any (l m : List Pc) (sa sb : Value) (Na Nb : Nat) (w : World) (ha : Pieces w Na sa l) (hb : Pieces w Nb sb m) (hlen : l.length < 2305843009213693952) (_hlem : m.length < 2305843009213693952)
    (hfl : ∀ p ∈ l, p.fits) (hfm : ∀ p ∈ m, p.fits) :
    Calls Try.prog 11 #[sa, sb] w fun e w' => ∃ bb, e = .returned (.bool bb) ∧ (bb = true ↔ l.map Pc.norm = m.map Pc.norm) ∧ ∃ n, w' = w.drewN n := by
  obtain ⟨oa, ca, rfl, hca⟩ := ha.shape
  obtain ⟨ob, cb, rfl, hcb⟩ := hb.shape
  by_cases hne : l.length = m.length
  · have HA := hid ha
    have HB := hid hb
    have HFL := hid hfl
    have HFM := hid hfm
    clear ha hb hfl hfm
    rw [← hne] at HB hcb ⊢
    have HE := hid hne
    clear hne
    generalize hn : l.length = n at *
    have HN := hid hn
    clear hn
    have hnn : ((n : Int) != (n : Int)) = false := by simp
    go_enter Try.func11, Try.ntmps11
    go_wp2_with fail
    go_loopw [13] (fun i wr => ∃ k q : Nat, k ≤ n ∧ i = .int .i64 k ∧ wr = w.drewN q ∧ Hid ((l.take k).map Pc.norm = (m.take k).map Pc.norm)) (fun i _ => n - (intOf i).toNat)
    case atStart => exact ⟨0, 0, by omega, rfl, rfl, rfl⟩
    case round =>
      obtain ⟨k, q, hk, rfl, rfl, HT⟩ := hrel
      by_cases hlt : k < n
      · obtain ⟨x, hx⟩ : ∃ p, l[k]? = some p := ⟨l[k]'(by rw [HN.out]; exact hlt), List.getElem?_eq_getElem _⟩
        obtain ⟨y, hy⟩ : ∃ p, m[k]? = some p := ⟨m[k]'(by rw [← HE.out]; exact hlt), List.getElem?_eq_getElem _⟩
        obtain ⟨b1, o1, rfl, cx⟩ := HA.out.some (by omega)
        obtain ⟨b2, o2, rfl, cy⟩ := HB.out.some (by omega)
        obtain ⟨_, vx, x0, x1, x2, hvx⟩ := cx k x hx
        obtain ⟨_, vy, y0, y1, y2, hvy⟩ := cy k y hy
        obtain ⟨ox, ex, rfl, hex⟩ := hvx.shape
        obtain ⟨oy, ey, rfl, hey⟩ := hvy.shape
        have hlt' : (k : Int) < (n : Int) := by omega
        have HX := hid hx
        have HY := hid hy
        have hfx := HFL.out x (List.mem_of_getElem? hx)
        have hfy := HFM.out y (List.mem_of_getElem? hy)
        clear cx cy hx hy
        have HS := hid (fun wq : Nat => show Calls Try.prog 8 #[.slice ox x.b.length ex, .slice oy y.b.length ey] (w.drewN (q + wq)) (fun e w' => e = .returned (.bool (decide (x.b = y.b))) ∧ ∃ n, w' = w.drewN (q + n)) from
          (sameB_any x.b y.b _ _ Na Nb (w.drewN (q + wq)) (hvx.below (drewN_belowS _ _ _)) (hvy.below (drewN_belowS _ _ _)) (by have := hfx.2; omega) (by have := hfy.2; omega)).mono fun e w' ⟨h1, n', h2⟩ => ⟨h1, wq + n', by rw [h2, World.drewN_drewN, Nat.add_assoc]⟩)
        clear hvx hvy hfx hfy
        by_cases hkk : x.k = y.k
        · have e1 : (x.k != y.k) = false := by simpa using hkk
          by_cases hk1 : x.k = 1
          · have e2 : (x.k == 1) = true := by simpa using hk1
            have e2' : (x.k == 2) = false := by rw [hk1]; decide
            by_cases hnn' : x.n = y.n
            · have e3 : ((x.n : Int) != (y.n : Int)) = false := by rw [hnn']; simp
              have HEQ := hid ((norm_eq x y).2 ⟨hkk, fun _ => hnn', fun h => by omega⟩)
              have e1' := hid hkk
              clear hkk hk1 hnn'
              go_wp2_with fail
              go_quiet (fail)
              go_wp2
              go_roundw
              case rel => exact ⟨k + 1, q + nq, by omega, by go_num, rfl, norm_take l m k x y HX.out HY.out HT.out HEQ.out⟩
              case measure => simp [intOf]; omega
            · have e3 : ((x.n : Int) != (y.n : Int)) = true := by simp; omega
              have HNE := hid (show ¬ l.map Pc.norm = m.map Pc.norm from fun h => hnn' (((norm_eq x y).1 (norm_get l m k x y HX.out HY.out h)).2.1 hk1))
              clear hkk hk1 hnn'
              go_wp2_with fail
              go_quiet (fail)
              go_wp2
              go_ret
              exact ⟨false, rfl, ⟨fun h => by simp at h, fun h => absurd h HNE.out⟩, q + nq, World.drewN_drewN _ _ _⟩
          · have e2 : (x.k == 1) = false := by simpa using hk1
            by_cases hk2 : x.k = 2
            · have e2' : (x.k == 2) = true := by simpa using hk2
              by_cases hbb : x.b = y.b
              · have HEQ := hid ((norm_eq x y).2 ⟨hkk, fun h => absurd h hk1, fun _ => hbb⟩)
                have HSE := hid (show decide (x.b = y.b) = true from decide_eq_true hbb)
                rw [HSE.out] at HS
                clear hkk hk1 hk2 hbb
                go_wp2_with fail
                go_quiet (first | (go_at_call 8; exact HS.out _))
                go_wp2
                go_roundw
                case rel => exact ⟨k + 1, q + nq, by omega, by go_num, rfl, norm_take l m k x y HX.out HY.out HT.out HEQ.out⟩
                case measure => simp [intOf]; omega
              · have HNE := hid (show ¬ l.map Pc.norm = m.map Pc.norm from fun h => hbb (((norm_eq x y).1 (norm_get l m k x y HX.out HY.out h)).2.2 hk2))
                have HSE := hid (show decide (x.b = y.b) = false from decide_eq_false hbb)
                rw [HSE.out] at HS
                clear hkk hk1 hk2 hbb
                go_wp2_with fail
                go_quiet (first | (go_at_call 8; exact HS.out _))
                go_wp2
                go_ret
                exact ⟨false, rfl, ⟨fun h => by simp at h, fun h => absurd h HNE.out⟩, q + nq, World.drewN_drewN _ _ _⟩
            · have e2' : (x.k == 2) = false := by simpa using hk2
              have HEQ := hid ((norm_eq x y).2 ⟨hkk, fun h => absurd h hk1, fun h => absurd h hk2⟩)
              clear hkk hk1 hk2
              go_wp2_with fail
              go_quiet (fail)
              go_wp2
              go_roundw
              case rel => exact ⟨k + 1, q + nq, by omega, by go_num, rfl, norm_take l m k x y HX.out HY.out HT.out HEQ.out⟩
              case measure => simp [intOf]; omega
        · have e1 : (x.k != y.k) = true := by simpa using hkk
          have HNE := hid (show ¬ l.map Pc.norm = m.map Pc.norm from fun h => hkk ((norm_eq x y).1 (norm_get l m k x y HX.out HY.out h)).1)
          clear hkk
          go_wp2_with fail
          go_quiet (fail)
          go_wp2
          go_ret
          exact ⟨false, rfl, ⟨fun h => by simp at h, fun h => absurd h HNE.out⟩, q + nq, World.drewN_drewN _ _ _⟩
      · have HEQ := hid (show l.map Pc.norm = m.map Pc.norm by
          have := HT.out
          rwa [List.take_of_length_le (by rw [HN.out]; omega), List.take_of_length_le (by rw [← HE.out]; omega)] at this)
        go_wp2
        go_ret
        exact ⟨true, rfl, ⟨fun _ => HEQ.out, fun _ => rfl⟩, q, rfl⟩
  · have hnn : ((l.length : Int) != (m.length : Int)) = true := by simp; omega
    have HNE := hid (show ¬ l.map Pc.norm = m.map Pc.norm from fun h => hne (by have := congrArg List.length h; simpa using this))
    clear ha hb hfl hfm
    go_enter Try.func11, Try.ntmps11
    go_wp2
    go_ret
    exact ⟨false, rfl, ⟨fun h => by simp at h, fun h => absurd h HNE.out⟩, 0, rfl⟩
end Go.Proofs.Ythogidagokdipab
