/-
  What package client's learn answers, and what it is made of: where a height stands among rising ones, whether two blocks are unlike, whether a time is between others.
-/
import Derived.Test.YtfpngilmdgeikaaDoorClCopy
namespace Go.Proofs.YtfpngilmdgeikaaDoor
open Go.RowKit

def cmpI (a b : Int) : Int := if a < b then -1 else if b < a then 1 else 0
theorem cmpI_neg (a b : Int) : cmpI a b < 0 ↔ a < b := by unfold cmpI; split <;> (try split) <;> omega
theorem cmpI_zero (a b : Int) : cmpI a b = 0 ↔ a = b := by unfold cmpI; split <;> (try split) <;> omega
theorem isNaNI_any (a : Int) (w : World) : Calls Tryd.prog 179 #[.int .i64 a] w fun e w' => e = .returned (.bool false) ∧ w' = w := by
  have e1 : (a != a) = false := by simp
  go_enter Tryd.func179, Tryd.ntmps179
  go_wp2
  go_ret
  exact ⟨by simp; first | done | rfl, rfl⟩
theorem compareI_any (a b : Int) (w : World) : Calls Tryd.prog 161 #[.int .i64 a, .int .i64 b] w fun e w' => e = .returned (.int .i64 (cmpI a b)) ∧ w' = w := by
  by_cases h1 : a < b
  · have e1 : decide (a < b) = true := by simp; omega
    have HC := hid (show cmpI a b = -1 by unfold cmpI; rw [if_pos h1])
    clear h1
    go_enter Tryd.func161, Tryd.ntmps161
    go_wp2_with (go_at_call 179; refine (isNaNI_any _ _).mono ?_; rintro e w' ⟨rfl, hw⟩; obtain rfl := hw.symm)
    go_ret
    exact ⟨by rw [HC.out]; first | done | rfl, rfl⟩
  · have e1 : decide (a < b) = false := by simp; omega
    by_cases h2 : b < a
    · have e2 : decide (b < a) = true := by simp; omega
      have HC := hid (show cmpI a b = 1 by unfold cmpI; rw [if_neg h1, if_pos h2])
      clear h1 h2
      go_enter Tryd.func161, Tryd.ntmps161
      go_wp2_with (go_at_call 179; refine (isNaNI_any _ _).mono ?_; rintro e w' ⟨rfl, hw⟩; obtain rfl := hw.symm)
      go_ret
      exact ⟨by rw [HC.out]; first | done | rfl, rfl⟩
    · have e2 : decide (b < a) = false := by simp; omega
      have HC := hid (show cmpI a b = 0 by unfold cmpI; rw [if_neg h1, if_neg h2])
      clear h1 h2
      go_enter Tryd.func161, Tryd.ntmps161
      go_wp2_with (go_at_call 179; refine (isNaNI_any _ _).mono ?_; rintro e w' ⟨rfl, hw⟩; obtain rfl := hw.symm)
      go_ret
      exact ⟨by rw [HC.out]; first | done | rfl, rfl⟩
theorem compareHeight_any (k : Kn) (h : Int) (v : Value) (N : Nat) (w : World) (hv : KnV w N v k) :
    Calls Tryd.prog 129 #[v, .int .i64 h] w fun e w' => e = .returned (.int .i64 (cmpI k.height h)) ∧ Below w.heap.size w w' := by
  obtain ⟨rv, nv, rfl, g1, g2⟩ := hv
  obtain ⟨o1, c1, rfl, _⟩ := g1.shape
  obtain ⟨o2, c2, rfl, _⟩ := g2.shape
  clear g1 g2
  obtain ⟨w1, hw1⟩ : ∃ w1, w.alloc (.cells #[.int .i64 k.height, .int .i64 k.time, .slice o1 k.root.length c1, .slice o2 k.next.length c2] 73) = w1 := ⟨_, rfl⟩
  have HB1 := hid (show Below w.heap.size w w1 by rw [← hw1]; exact (Below.refl _ _).alloc (Nat.le_refl _) _)
  have g0 := (show Row w1 w.heap.size 73 [.int .i64 k.height, .int .i64 k.time, .slice o1 k.root.length c1, .slice o2 k.next.length c2] by rw [← hw1]; exact Row.new _ _ _).cell 0
  have HC := hid (compareI_any k.height h w1)
  have HW := hid hw1
  clear hw1
  generalize cmpI k.height h = cc at *
  go_enter Tryd.func129, Tryd.ntmps129
  go_wp2_with fail
  rw [HW.out]
  refine HC.out.mono ?_
  rintro e w2 ⟨rfl, hw2⟩
  obtain rfl := hw2.symm
  go_wp2
  go_ret
  exact ⟨rfl, HB1.out⟩
theorem risingK {l : List Kn} (h : Rising l) {i j : Nat} {a b : Kn} (hij : i < j) (ha : l[i]? = some a) (hb : l[j]? = some b) : a.height < b.height := by
  obtain ⟨hi, rfl⟩ := List.getElem?_eq_some_iff.1 ha
  obtain ⟨hj, rfl⟩ := List.getElem?_eq_some_iff.1 hb
  exact List.pairwise_iff_getElem.1 h i j hi hj hij
set_option maxRecDepth 100000 in
set_option maxHeartbeats 1000000 in
theorem searchK_any (l : List Kn) (k : Int) (sv : Value) (N : Nat) (w : World) (lb : Array Value) (hlb : lb = #[]) (hN : N ≤ w.heap.size) (hl : Knowns w N sv l) (hs : Rising l) (hlen : l.length ≤ 1000000) :
    Calls Tryd.prog 128 #[sv, .int .i64 k, .func (.func 129) #[] lb] w fun e w' => Below w.heap.size w w' ∧ ∃ i fd, AtI k l i fd ∧ e = .returned (.tuple #[.int .i64 (i : Nat), .bool fd]) := by
  subst hlb
  obtain ⟨oa, ca, rfl, hca⟩ := hl.shape
  have HL := hid hl
  have HS := hid hs
  clear hl hs
  generalize hn : l.length = n at *
  have HN := hid hn
  clear hn
  have HCMP := hid (show ∀ (wr : World) (b o j : Nat) (p : Kn), oa = some ⟨b, o, none⟩ → Below w.heap.size w wr → l[j]? = some p → ∃ o1 c1 o2 c2, wr.cell? ⟨b, o + j * 4, none⟩ = some (.int .i64 p.height) ∧ wr.cell? ⟨b, o + j * 4 + 1, none⟩ = some (.int .i64 p.time) ∧ wr.cell? ⟨b, o + j * 4 + 2, none⟩ = some (.slice o1 p.root.length c1) ∧ wr.cell? ⟨b, o + j * 4 + 3, none⟩ = some (.slice o2 p.next.length c2) ∧
      Calls Tryd.prog 129 #[.agg #[.int .i64 p.height, .int .i64 p.time, .slice o1 p.root.length c1, .slice o2 p.next.length c2], .int .i64 k] wr (fun e w' => e = .returned (.int .i64 (cmpI p.height k)) ∧ Below w.heap.size w w') from by
    intro wr b o j p hoa hb hp
    obtain ⟨b', o', he, hcells⟩ := HL.out.spot (by have := (List.getElem?_eq_some_iff.1 hp).1; rw [HN.out] at this; omega)
    rw [hoa] at he
    obtain ⟨rfl, rfl⟩ : b = b' ∧ o = o' := by simpa using he
    obtain ⟨hbN, vr, vn, d0, d1, d2, d3, b2, b3⟩ := hcells j p hp
    obtain ⟨o2, c2, rfl, _⟩ := b2.shape
    obtain ⟨o3, c3, rfl, _⟩ := b3.shape
    have hbl : b < w.heap.size := by omega
    refine ⟨o2, c2, o3, c3, (hb.cell (p := ⟨b, o + j * 4, none⟩) hbl).trans d0, (hb.cell (p := ⟨b, o + j * 4 + 1, none⟩) hbl).trans d1, (hb.cell (p := ⟨b, o + j * 4 + 2, none⟩) hbl).trans d2, (hb.cell (p := ⟨b, o + j * 4 + 3, none⟩) hbl).trans d3, ?_⟩
    refine (compareHeight_any p k _ N wr ⟨_, _, rfl, b2.below (hb.mono hN), b3.below (hb.mono hN)⟩).mono ?_
    rintro e w' ⟨rfl, hb2⟩
    exact ⟨rfl, hb.trans (hb2.mono hb.size)⟩)
  go_enter Tryd.func128, Tryd.ntmps128
  go_wp2_with fail
  go_loopw [9, 10] (fun s9 s10 wr => ∃ lo hi : Nat, s9 = .int .i64 lo ∧ s10 = .int .i64 hi ∧ lo ≤ hi ∧ hi ≤ n ∧ Hid (Below w.heap.size w wr) ∧ Hid ((∀ t p, t < lo → l[t]? = some p → p.height < k) ∧ (∀ t p, hi ≤ t → l[t]? = some p → k ≤ p.height))) (fun s9 s10 _ => (intOf s10 - intOf s9).toNat)
  case atStart => exact ⟨0, n, rfl, rfl, Nat.zero_le _, Nat.le_refl _, Below.refl _ _, fun t p ht => absurd ht (Nat.not_lt_zero _), fun t p h1 h2 => by have := (List.getElem?_eq_some_iff.1 h2).1; rw [HN.out] at this; omega⟩
  case round =>
    obtain ⟨lo, hi, rfl, rfl, hlh, hin, HB, HI⟩ := hrel
    by_cases hlt : lo < hi
    · have hml : (lo + hi) / 2 < n := by omega
      obtain ⟨p, hp⟩ : ∃ p, l[(lo + hi) / 2]? = some p := ⟨l[(lo + hi) / 2]'(by rw [HN.out]; exact hml), List.getElem?_eq_getElem _⟩
      obtain ⟨b, o, rfl, hxx⟩ := HL.out.spot (by omega)
      obtain ⟨p1, e1, p2, e2, d0, d1, d2, d3, hc⟩ := HCMP.out wr b o _ p rfl HB.out hp
      have HCC := hid hc
      have HP := hid hp
      clear hc hp hxx
      obtain ⟨h, hh⟩ : ∃ h, (lo + hi) / 2 = h := ⟨_, rfl⟩
      rw [hh] at d0 d1 d2 d3 HP hml
      have hh1 : ((lo : Int) + (hi : Int)) / 2 = (h : Int) := by omega
      have hlt' : (lo : Int) < (hi : Int) := by omega
      have HH := hid hh
      clear hh
      by_cases hyx : cmpI p.height k < 0
      · have HLT := hid ((cmpI_neg _ _).1 hyx)
        have hyx' : decide (cmpI p.height k < 0) = true := by simpa using hyx
        generalize cmpI p.height k = cc at *
        go_wp2_with fail
        refine HCC.out.mono ?_
        rintro e w2 ⟨rfl, hb2⟩
        have HB2 := hid hb2
        clear hb2
        go_wp2_with fail
        have hx := HH.out
        refine ⟨⟨h + 1, hi, by go_num, rfl, by omega, hin, HB2.out, ?_, HI.out.2⟩, by simp [intOf]; omega⟩
        intro t q ht hq
        by_cases e : t = h
        · subst e
          rw [HP.out] at hq
          obtain rfl : p = q := by simpa using hq
          exact HLT.out
        · exact Int.lt_trans (risingK HS.out (show t < h by omega) hq HP.out) HLT.out
      · have HLT := hid (fun h => hyx ((cmpI_neg p.height k).2 h))
        have hyx' : decide (cmpI p.height k < 0) = false := by simpa using hyx
        generalize cmpI p.height k = cc at *
        go_wp2_with fail
        refine HCC.out.mono ?_
        rintro e w2 ⟨rfl, hb2⟩
        have HB2 := hid hb2
        clear hb2
        go_wp2_with fail
        have hx := HH.out
        refine ⟨⟨lo, h, rfl, by go_num, by omega, by omega, HB2.out, HI.out.1, ?_⟩, by simp [intOf]; omega⟩
        intro t q ht hq
        have hph : k ≤ p.height := Int.not_lt.1 HLT.out
        by_cases e : t = h
        · subst e
          rw [HP.out] at hq
          obtain rfl : p = q := by simpa using hq
          exact hph
        · have := risingK HS.out (show h < t by omega) HP.out hq
          omega
    · obtain rfl : hi = lo := by omega
      have hge : decide ((hi : Int) < (hi : Int)) = false := by simp
      by_cases hn : hi < n
      · obtain ⟨p, hp⟩ : ∃ p, l[hi]? = some p := ⟨l[hi]'(by rw [HN.out]; exact hn), List.getElem?_eq_getElem _⟩
        obtain ⟨b, o, rfl, hxx⟩ := HL.out.spot (by omega)
        obtain ⟨p1, e1, p2, e2, d0, d1, d2, d3, hc⟩ := HCMP.out wr b o _ p rfl HB.out hp
        have HCC := hid hc
        have hlt' : (hi : Int) < (n : Int) := by omega
        have hlt2 : decide ((hi : Int) < (n : Int)) = true := by simpa using hlt'
        obtain ⟨fd, hfd⟩ : ∃ fd, decide (cmpI p.height k = 0) = fd := ⟨_, rfl⟩
        have HAT := hid (show AtI k l hi fd from ⟨by rw [HN.out]; exact hin, HI.out.1, HI.out.2, by
          rw [← hfd, decide_eq_true_eq, cmpI_zero]
          constructor
          · intro h
            exact ⟨p, hp, h⟩
          · rintro ⟨q, hq, h⟩
            rw [hp] at hq
            obtain rfl : p = q := by simpa using hq
            exact h⟩)
        clear hc hp hxx
        generalize cmpI p.height k = cc at *
        go_wp2_with fail
        refine HCC.out.mono ?_
        rintro e w2 ⟨rfl, hb2⟩
        have HB2 := hid hb2
        clear hb2
        go_wp2
        go_ret2
        exact ⟨HB2.out, hi, fd, HAT.out, by rw [← hfd]; rfl⟩
      · have hlt2 : decide ((hi : Int) < (n : Int)) = false := by simp; omega
        have HAT := hid (show AtI k l hi false from ⟨by rw [HN.out]; exact hin, HI.out.1, HI.out.2, by
          constructor
          · intro h; cases h
          · rintro ⟨q, hq, _⟩
            have := (List.getElem?_eq_some_iff.1 hq).1
            rw [HN.out] at this
            omega⟩)
        go_wp2
        go_ret2
        exact ⟨HB.out, hi, false, HAT.out, rfl⟩
theorem sameK_time {a b : Kn} (h : a.time ≠ b.time) : sameK a b = false := by simp [sameK, h]
theorem sameK_root {a b : Kn} (h : a.root ≠ b.root) : sameK a b = false := by simp [sameK, h]
theorem sameK_next {a b : Kn} (h : a.time = b.time) (h2 : a.root = b.root) : sameK a b = decide (a.next = b.next) := by simp [sameK, h, h2]
set_option maxRecDepth 100000 in
set_option maxHeartbeats 2000000 in
theorem unlike_any (a b : Kn) (va vb : Value) (N : Nat) (w : World) (ha : KnV w N va a) (hb : KnV w N vb b) (hN : N ≤ w.heap.size) :
    Calls Tryd.prog 130 #[va, vb] w fun e w' => e = .returned (.bool (!sameK a b)) ∧ Below w.heap.size w w' := by
  obtain ⟨rv, nv, rfl, g1, g2⟩ := ha
  obtain ⟨o1, c1, rfl, _⟩ := g1.shape
  obtain ⟨o2, c2, rfl, _⟩ := g2.shape
  obtain ⟨rv', nv', rfl, g3, g4⟩ := hb
  obtain ⟨o3, c3, rfl, _⟩ := g3.shape
  obtain ⟨o4, c4, rfl, _⟩ := g4.shape
  obtain ⟨w0, hw0⟩ : ∃ w0, (w.alloc (.cells #[.int .i64 a.height, .int .i64 a.time, .slice o1 a.root.length c1, .slice o2 a.next.length c2] 73)).alloc (.cells #[.int .i64 b.height, .int .i64 b.time, .slice o3 b.root.length c3, .slice o4 b.next.length c4] 73) = w0 := ⟨_, rfl⟩
  have hb0 : Below w.heap.size w w0 := by rw [← hw0]; exact ((Below.refl _ _).alloc (Nat.le_refl _) _).alloc (by simp) _
  have HB0 := hid hb0
  have hr0 : Row w0 w.heap.size 73 [.int .i64 a.height, .int .i64 a.time, .slice o1 a.root.length c1, .slice o2 a.next.length c2] := by rw [← hw0]; exact (Row.new _ _ _).alloc _
  have hr1 : Row w0 (w.heap.size + 1) 73 [.int .i64 b.height, .int .i64 b.time, .slice o3 b.root.length c3, .slice o4 b.next.length c4] := by rw [← hw0]; exact Row.newAt _ _ _ _ (by simp)
  obtain ⟨⟨y0, y1, y2, y3⟩, _⟩ := hr0.four
  obtain ⟨⟨x0, x1, x2, x3⟩, _⟩ := hr1.four
  have HE1 := hid (equal_any a.root b.root (.slice o1 a.root.length c1) (.slice o3 b.root.length c3) N N w0 (g1.below (hb0.mono hN)) (g3.below (hb0.mono hN)))
  have HE2 := hid (equal_any a.next b.next (.slice o2 a.next.length c2) (.slice o4 b.next.length c4) N N w0 (g2.below (hb0.mono hN)) (g4.below (hb0.mono hN)))
  have HW0 := hid hw0
  clear hw0 hb0 hr0 hr1 g1 g2 g3 g4
  by_cases h1 : a.time = b.time
  · have e1 : (a.time != b.time) = false := by simp [h1]
    by_cases h2 : a.root = b.root
    · have HS := hid (sameK_next h1 h2)
      rw [decide_eq_true h2] at HE1
      generalize a.root.length = n1 at *
      generalize b.root.length = n3 at *
      generalize a.next.length = n2 at *
      generalize b.next.length = n4 at *
      generalize decide (a.next = b.next) = dd at *
      clear h1 h2
      go_enter Tryd.func130, Tryd.ntmps130
      go_wp2_with fail
      rw [HW0.out]
      refine HE1.out.mono ?_
      rintro e w2 ⟨rfl, hw2⟩
      obtain rfl := hw2.symm
      go_wp2_with fail
      refine HE2.out.mono ?_
      rintro e w2 ⟨rfl, hw2⟩
      obtain rfl := hw2.symm
      go_wp2
      go_ret
      exact ⟨by rw [HS.out]; first | done | rfl, HB0.out⟩
    · have HS := hid (sameK_root h2)
      rw [decide_eq_false h2] at HE1
      generalize a.root.length = n1 at *
      generalize b.root.length = n3 at *
      clear h1 h2
      go_enter Tryd.func130, Tryd.ntmps130
      go_wp2_with fail
      rw [HW0.out]
      refine HE1.out.mono ?_
      rintro e w2 ⟨rfl, hw2⟩
      obtain rfl := hw2.symm
      go_wp2
      go_ret
      exact ⟨by rw [HS.out]; first | done | rfl, HB0.out⟩
  · have e1 : (a.time != b.time) = true := by simpa using h1
    have HS := hid (sameK_time h1)
    clear h1
    go_enter Tryd.func130, Tryd.ntmps130
    go_wp2_with fail
    rw [HW0.out]
    go_ret
    exact ⟨by rw [HS.out]; first | done | rfl, HB0.out⟩
theorem lowT_zero (l : List Kn) (t : Int) : lowT l 0 t = true := rfl
theorem lowT_succ {l : List Kn} {j : Nat} {k : Kn} (t : Int) (h : l[j]? = some k) : lowT l (j + 1) t = decide (k.time < t) := by unfold lowT; simp only [h]
theorem highT_some {l : List Kn} {i : Nat} {k : Kn} (t : Int) (h : l[i]? = some k) : highT l i t = decide (t < k.time) := by unfold highT; rw [h]
theorem highT_end {l : List Kn} {i : Nat} (t : Int) (h : l.length ≤ i) : highT l i t = true := by unfold highT; rw [List.getElem?_eq_none h]
set_option maxRecDepth 100000 in
set_option maxHeartbeats 2000000 in
theorem inTime_any (l : List Kn) (i : Nat) (t : Int) (v : Value) (N : Nat) (w : World) (hv : Knowns w N v l) (hi : i ≤ l.length) (hl : l.length ≤ 1000000) :
    Calls Tryd.prog 131 #[v, .int .i64 (i : Int), .int .i64 t] w fun e w' => e = .returned (.bool (lowT l i t && highT l i t)) ∧ w' = w := by
  obtain ⟨oa, ca, rfl, hca⟩ := hv.shape
  have HV := hid hv
  clear hv
  generalize hn : l.length = n at *
  have HN := hid hn
  clear hn
  have HHI := hid (show ∃ hb : Bool, highT l i t = hb ∧ (i = n ∧ hb = true ∨ i < n ∧ ∃ b o k, oa = some ⟨b, o, none⟩ ∧ w.cell? ⟨b, o + i * 4 + 1, none⟩ = some (.int .i64 k) ∧ hb = decide (t < k)) by
    by_cases he : i = n
    · exact ⟨true, highT_end t (by rw [HN.out]; omega), .inl ⟨he, rfl⟩⟩
    · obtain ⟨k, hk⟩ : ∃ k, l[i]? = some k := ⟨l[i]'(by rw [HN.out]; omega), List.getElem?_eq_getElem _⟩
      obtain ⟨b, o, hoa, hcells⟩ := HV.out.spot (by omega)
      obtain ⟨_, _, _, _, d1, _⟩ := hcells i k hk
      exact ⟨_, highT_some t hk, .inr ⟨by omega, b, o, k.time, hoa, d1, rfl⟩⟩)
  obtain ⟨hb, hhb, hcase⟩ := HHI.out
  have HHB := hid hhb
  clear HHI hhb
  cases i with
  | zero =>
    have e0 : ((0 : Int) == 0) = true := by decide
    rcases hcase with ⟨he, rfl⟩ | ⟨hlt, b, o, k, rfl, d1, rfl⟩
    · subst he
      go_enter Tryd.func131, Tryd.ntmps131
      go_wp2
      go_ret
      exact ⟨by rw [lowT_zero, HHB.out]; first | done | rfl, rfl⟩
    · have e1 : ((0 : Int) == (n : Int)) = false := by simp; omega
      have e1' : ((n : Int) == 0) = false := by simp; omega
      have e2 : (0 : Int) < (n : Int) := by omega
      have e3 : ¬ n = 0 := by omega
      have d1' : w.cell? ⟨b, o + 1, none⟩ = some (.int .i64 k) := by simpa using d1
      go_enter Tryd.func131, Tryd.ntmps131
      go_wp2
      go_ret
      exact ⟨by rw [lowT_zero, HHB.out]; first | done | rfl, rfl⟩
  | succ j =>
    obtain ⟨x, hx⟩ : ∃ x, l[j]? = some x := ⟨l[j]'(by rw [HN.out]; omega), List.getElem?_eq_getElem _⟩
    obtain ⟨b, o, hoa, hcells⟩ := HV.out.spot (by omega)
    obtain ⟨_, _, _, _, f1, _⟩ := hcells j x hx
    subst hoa
    have HLO := hid (lowT_succ t hx)
    have e0 : (((j + 1 : Nat) : Int) == 0) = false := by simp; omega
    have hj1 : ((j + 1 : Nat) : Int) - 1 = (j : Int) := by omega
    have hj2 : IntKind.i64.wrap (((j + 1 : Nat) : Int) - 1) = (j : Int) := by rw [hj1, IntKind.wrap_i64]; omega
    have hjn : (j : Int) < (n : Int) := by omega
    clear hcells hx hj1
    generalize x.time = xt at *
    by_cases hlow : xt < t
    · have g1 : decide (xt < t) = true := by simpa using hlow
      rcases hcase with ⟨he, rfl⟩ | ⟨hlt, b', o', k, hoa, d1, rfl⟩
      · have e1 : (((j + 1 : Nat) : Int) == (n : Int)) = true := by simp; omega
        generalize hm : ((j + 1 : Nat) : Int) = m at *
        go_enter Tryd.func131, Tryd.ntmps131
        go_wp2
        go_ret
        exact ⟨by rw [HLO.out, HHB.out, g1]; first | done | rfl, rfl⟩
      · obtain ⟨rfl, rfl⟩ : b = b' ∧ o = o' := by simpa using hoa
        have e1 : (((j + 1 : Nat) : Int) == (n : Int)) = false := by simp; omega
        have e2 : ((j + 1 : Nat) : Int) < (n : Int) := by omega
        clear hoa
        generalize hm : j + 1 = m at *
        clear hm
        go_enter Tryd.func131, Tryd.ntmps131
        go_wp2
        go_ret
        exact ⟨by rw [HLO.out, HHB.out, g1]; first | done | rfl, rfl⟩
    · have g1 : decide (xt < t) = false := by simpa using hlow
      clear hcase
      generalize hm : ((j + 1 : Nat) : Int) = m at *
      clear hm
      go_enter Tryd.func131, Tryd.ntmps131
      go_wp2
      go_ret
      exact ⟨by rw [HLO.out, g1]; first | done | rfl, rfl⟩
/-- what is owned outlives what is done with a row of another type -/
theorem own_other {w w' : World} {base e k n g : Nat} {t : TypeId} {v : Value} {xs cs : List Value} (h : w.ownsRow base e k v n xs) (hr : Row w g t cs) (ht : t ≠ e) (ho : ∀ j, j ≠ g → w'.heap[j]? = w.heap[j]?) : w'.ownsRow base e k v n xs := by
  obtain ⟨h1, h2⟩ := h
  refine ⟨h1, ?_⟩
  rcases h2 with h2 | ⟨b, cap, cur, h3, h4, h5, h6⟩
  · exact .inl h2
  · refine .inr ⟨b, cap, cur, h3, h4, (ho b ?_).trans h5, h6⟩
    rintro rfl
    unfold Row at hr
    rw [hr] at h5
    simp at h5
    exact ht h5.2
theorem OwnKn.other {w w' : World} {base g : Nat} {t : TypeId} {v : Value} {ps : List KnR} {cs : List Value} (h : OwnKn w base v ps) (hr : Row w g t cs) (ht : t ≠ 73) (ht2 : t ≠ 5) (ho : ∀ j, j ≠ g → w'.heap[j]? = w.heap[j]?) : OwnKn w' base v ps :=
  ⟨⟨h.1.1, own_other h.1.2 hr ht ho⟩, fun q hq => ⟨own_other (h.2 q hq).1 hr ht2 ho, own_other (h.2 q hq).2 hr ht2 ho⟩⟩
end Go.Proofs.YtfpngilmdgeikaaDoor
