/-
  What package client's learn answers, and what it is made of: where a height stands among rising ones, whether two blocks are unlike, whether a time is between others.
  What package client's learn answers: what a client is that believes a header.
  What package client's fit, doubtsOfLeap and doubts answer: why a client does not believe a header.
  What package client's doubts answers: why a client does not believe a header.
  What package client's doubts, as a function, and Follow answer.
-/
import Derived.Test.YtiflkkelbnpniaaGreatDoorClAsk
import Derived.Test.YtiflkkelbnpniaaGreatDoorHdCheck
import Derived.Test.YtiflkkelbnpniaaGreatDoorHdMems
namespace Go.Proofs.YtiflkkelbnpniaaGreatDoor
open Go.RowKit

def cmpI (a b : Int) : Int := if a < b then -1 else if b < a then 1 else 0
theorem cmpI_neg (a b : Int) : cmpI a b < 0 ↔ a < b := by unfold cmpI; split <;> (try split) <;> omega
theorem cmpI_zero (a b : Int) : cmpI a b = 0 ↔ a = b := by unfold cmpI; split <;> (try split) <;> omega
theorem isNaNI_any (a : Int) (w : World) : Calls Tryz.prog 122 #[.int .i64 a] w fun e w' => e = .returned (.bool false) ∧ w' = w := by
  have e1 : (a != a) = false := by simp
  go_enter Tryz.func122, Tryz.ntmps122
  go_wp2
  go_ret
  exact ⟨by simp; first | done | rfl, rfl⟩
theorem compareI_any (a b : Int) (w : World) : Calls Tryz.prog 94 #[.int .i64 a, .int .i64 b] w fun e w' => e = .returned (.int .i64 (cmpI a b)) ∧ w' = w := by
  by_cases h1 : a < b
  · have e1 : decide (a < b) = true := by simp; omega
    have HC := hid (show cmpI a b = -1 by unfold cmpI; rw [if_pos h1])
    clear h1
    go_enter Tryz.func94, Tryz.ntmps94
    go_wp2_with (go_at_call 122; refine (isNaNI_any _ _).mono ?_; rintro e w' ⟨rfl, hw⟩; obtain rfl := hw.symm)
    go_ret
    exact ⟨by rw [HC.out]; first | done | rfl, rfl⟩
  · have e1 : decide (a < b) = false := by simp; omega
    by_cases h2 : b < a
    · have e2 : decide (b < a) = true := by simp; omega
      have HC := hid (show cmpI a b = 1 by unfold cmpI; rw [if_neg h1, if_pos h2])
      clear h1 h2
      go_enter Tryz.func94, Tryz.ntmps94
      go_wp2_with (go_at_call 122; refine (isNaNI_any _ _).mono ?_; rintro e w' ⟨rfl, hw⟩; obtain rfl := hw.symm)
      go_ret
      exact ⟨by rw [HC.out]; first | done | rfl, rfl⟩
    · have e2 : decide (b < a) = false := by simp; omega
      have HC := hid (show cmpI a b = 0 by unfold cmpI; rw [if_neg h1, if_neg h2])
      clear h1 h2
      go_enter Tryz.func94, Tryz.ntmps94
      go_wp2_with (go_at_call 122; refine (isNaNI_any _ _).mono ?_; rintro e w' ⟨rfl, hw⟩; obtain rfl := hw.symm)
      go_ret
      exact ⟨by rw [HC.out]; first | done | rfl, rfl⟩
theorem compareHeight_any (k : Kn) (h : Int) (v : Value) (N : Nat) (w : World) (hv : KnV w N v k) :
    Calls Tryz.prog 65 #[v, .int .i64 h] w fun e w' => e = .returned (.int .i64 (cmpI k.height h)) ∧ Below w.heap.size w w' := by
  obtain ⟨rv, nv, rfl, g1, g2⟩ := hv
  obtain ⟨o1, c1, rfl, _⟩ := g1.shape
  obtain ⟨o2, c2, rfl, _⟩ := g2.shape
  clear g1 g2
  obtain ⟨w1, hw1⟩ : ∃ w1, w.alloc (.cells #[.int .i64 k.height, .int .i64 k.time, .slice o1 k.root.length c1, .slice o2 k.next.length c2] 27) = w1 := ⟨_, rfl⟩
  have HB1 := hid (show Below w.heap.size w w1 by rw [← hw1]; exact (Below.refl _ _).alloc (Nat.le_refl _) _)
  have g0 := (show Row w1 w.heap.size 27 [.int .i64 k.height, .int .i64 k.time, .slice o1 k.root.length c1, .slice o2 k.next.length c2] by rw [← hw1]; exact Row.new _ _ _).cell 0
  have HC := hid (compareI_any k.height h w1)
  have HW := hid hw1
  clear hw1
  generalize cmpI k.height h = cc at *
  go_enter Tryz.func65, Tryz.ntmps65
  go_wp2_with fail
  rw [HW.out]
  refine HC.out.mono ?_
  rintro e w2 ⟨rfl, hw2⟩
  obtain rfl := hw2.symm
  go_wp2
  go_ret
  exact ⟨rfl, HB1.out⟩
theorem risingK {l : List Kn} (h : Rising l) {i j : Nat} {a b : Kn} (hij : i < j) (ha : l[i]? = some a) (hb : l[j]? = some b) : a.height < b.height := by
  obtain ⟨hi, rfl⟩ := List.getElem?_eq_some_iff.1 ha
  obtain ⟨hj, rfl⟩ := List.getElem?_eq_some_iff.1 hb
  exact List.pairwise_iff_getElem.1 h i j hi hj hij
set_option maxRecDepth 100000 in
set_option maxHeartbeats 1000000 in
theorem searchK_any (l : List Kn) (k : Int) (sv : Value) (N : Nat) (w : World) (lb : Array Value) (hlb : lb = #[]) (hN : N ≤ w.heap.size) (hl : Knowns w N sv l) (hs : Rising l) (hlen : l.length ≤ 1000000) :
    Calls Tryz.prog 64 #[sv, .int .i64 k, .func (.func 65) #[] lb] w fun e w' => Below w.heap.size w w' ∧ ∃ i fd, AtI k l i fd ∧ e = .returned (.tuple #[.int .i64 (i : Nat), .bool fd]) := by
  subst hlb
  obtain ⟨oa, ca, rfl, hca⟩ := hl.shape
  have HL := hid hl
  have HS := hid hs
  clear hl hs
  generalize hn : l.length = n at *
  have HN := hid hn
  clear hn
  have HCMP := hid (show ∀ (wr : World) (b o j : Nat) (p : Kn), oa = some ⟨b, o, none⟩ → Below w.heap.size w wr → l[j]? = some p → ∃ o1 c1 o2 c2, wr.cell? ⟨b, o + j * 4, none⟩ = some (.int .i64 p.height) ∧ wr.cell? ⟨b, o + j * 4 + 1, none⟩ = some (.int .i64 p.time) ∧ wr.cell? ⟨b, o + j * 4 + 2, none⟩ = some (.slice o1 p.root.length c1) ∧ wr.cell? ⟨b, o + j * 4 + 3, none⟩ = some (.slice o2 p.next.length c2) ∧
      Calls Tryz.prog 65 #[.agg #[.int .i64 p.height, .int .i64 p.time, .slice o1 p.root.length c1, .slice o2 p.next.length c2], .int .i64 k] wr (fun e w' => e = .returned (.int .i64 (cmpI p.height k)) ∧ Below w.heap.size w w') from by
    intro wr b o j p hoa hb hp
    obtain ⟨b', o', he, hcells⟩ := HL.out.spot (by have := (List.getElem?_eq_some_iff.1 hp).1; rw [HN.out] at this; omega)
    rw [hoa] at he
    obtain ⟨rfl, rfl⟩ : b = b' ∧ o = o' := by simpa using he
    obtain ⟨hbN, vr, vn, d0, d1, d2, d3, b2, b3⟩ := hcells j p hp
    obtain ⟨o2, c2, rfl, _⟩ := b2.shape
    obtain ⟨o3, c3, rfl, _⟩ := b3.shape
    have hbl : b < w.heap.size := by omega
    refine ⟨o2, c2, o3, c3, (hb.cell (p := ⟨b, o + j * 4, none⟩) hbl).trans d0, (hb.cell (p := ⟨b, o + j * 4 + 1, none⟩) hbl).trans d1, (hb.cell (p := ⟨b, o + j * 4 + 2, none⟩) hbl).trans d2, (hb.cell (p := ⟨b, o + j * 4 + 3, none⟩) hbl).trans d3, ?_⟩
    refine (compareHeight_any p k _ N wr ⟨_, _, rfl, b2.below (hb.mono hN), b3.below (hb.mono hN)⟩).mono ?_
    rintro e w' ⟨rfl, hb2⟩
    exact ⟨rfl, hb.trans (hb2.mono hb.size)⟩)
  go_enter Tryz.func64, Tryz.ntmps64
  go_wp2_with fail
  go_loopw [9, 10] (fun s9 s10 wr => ∃ lo hi : Nat, s9 = .int .i64 lo ∧ s10 = .int .i64 hi ∧ lo ≤ hi ∧ hi ≤ n ∧ Hid (Below w.heap.size w wr) ∧ Hid ((∀ t p, t < lo → l[t]? = some p → p.height < k) ∧ (∀ t p, hi ≤ t → l[t]? = some p → k ≤ p.height))) (fun s9 s10 _ => (intOf s10 - intOf s9).toNat)
  case atStart => exact ⟨0, n, rfl, rfl, Nat.zero_le _, Nat.le_refl _, Below.refl _ _, fun t p ht => absurd ht (Nat.not_lt_zero _), fun t p h1 h2 => by have := (List.getElem?_eq_some_iff.1 h2).1; rw [HN.out] at this; omega⟩
  case round =>
    obtain ⟨lo, hi, rfl, rfl, hlh, hin, HB, HI⟩ := hrel
    by_cases hlt : lo < hi
    · have hml : (lo + hi) / 2 < n := by omega
      obtain ⟨p, hp⟩ : ∃ p, l[(lo + hi) / 2]? = some p := ⟨l[(lo + hi) / 2]'(by rw [HN.out]; exact hml), List.getElem?_eq_getElem _⟩
      obtain ⟨b, o, rfl, hxx⟩ := HL.out.spot (by omega)
      obtain ⟨p1, e1, p2, e2, d0, d1, d2, d3, hc⟩ := HCMP.out wr b o _ p rfl HB.out hp
      have HCC := hid hc
      have HP := hid hp
      clear hc hp hxx
      obtain ⟨h, hh⟩ : ∃ h, (lo + hi) / 2 = h := ⟨_, rfl⟩
      rw [hh] at d0 d1 d2 d3 HP hml
      have hh1 : ((lo : Int) + (hi : Int)) / 2 = (h : Int) := by omega
      have hlt' : (lo : Int) < (hi : Int) := by omega
      have HH := hid hh
      clear hh
      by_cases hyx : cmpI p.height k < 0
      · have HLT := hid ((cmpI_neg _ _).1 hyx)
        have hyx' : decide (cmpI p.height k < 0) = true := by simpa using hyx
        generalize cmpI p.height k = cc at *
        go_wp2_with fail
        refine HCC.out.mono ?_
        rintro e w2 ⟨rfl, hb2⟩
        have HB2 := hid hb2
        clear hb2
        go_wp2_with fail
        have hx := HH.out
        refine ⟨⟨h + 1, hi, by go_num, rfl, by omega, hin, HB2.out, ?_, HI.out.2⟩, by simp [intOf]; omega⟩
        intro t q ht hq
        by_cases e : t = h
        · subst e
          rw [HP.out] at hq
          obtain rfl : p = q := by simpa using hq
          exact HLT.out
        · exact Int.lt_trans (risingK HS.out (show t < h by omega) hq HP.out) HLT.out
      · have HLT := hid (fun h => hyx ((cmpI_neg p.height k).2 h))
        have hyx' : decide (cmpI p.height k < 0) = false := by simpa using hyx
        generalize cmpI p.height k = cc at *
        go_wp2_with fail
        refine HCC.out.mono ?_
        rintro e w2 ⟨rfl, hb2⟩
        have HB2 := hid hb2
        clear hb2
        go_wp2_with fail
        have hx := HH.out
        refine ⟨⟨lo, h, rfl, by go_num, by omega, by omega, HB2.out, HI.out.1, ?_⟩, by simp [intOf]; omega⟩
        intro t q ht hq
        have hph : k ≤ p.height := Int.not_lt.1 HLT.out
        by_cases e : t = h
        · subst e
          rw [HP.out] at hq
          obtain rfl : p = q := by simpa using hq
          exact hph
        · have := risingK HS.out (show h < t by omega) HP.out hq
          omega
    · obtain rfl : hi = lo := by omega
      have hge : decide ((hi : Int) < (hi : Int)) = false := by simp
      by_cases hn : hi < n
      · obtain ⟨p, hp⟩ : ∃ p, l[hi]? = some p := ⟨l[hi]'(by rw [HN.out]; exact hn), List.getElem?_eq_getElem _⟩
        obtain ⟨b, o, rfl, hxx⟩ := HL.out.spot (by omega)
        obtain ⟨p1, e1, p2, e2, d0, d1, d2, d3, hc⟩ := HCMP.out wr b o _ p rfl HB.out hp
        have HCC := hid hc
        have hlt' : (hi : Int) < (n : Int) := by omega
        have hlt2 : decide ((hi : Int) < (n : Int)) = true := by simpa using hlt'
        obtain ⟨fd, hfd⟩ : ∃ fd, decide (cmpI p.height k = 0) = fd := ⟨_, rfl⟩
        have HAT := hid (show AtI k l hi fd from ⟨by rw [HN.out]; exact hin, HI.out.1, HI.out.2, by
          rw [← hfd, decide_eq_true_eq, cmpI_zero]
          constructor
          · intro h
            exact ⟨p, hp, h⟩
          · rintro ⟨q, hq, h⟩
            rw [hp] at hq
            obtain rfl : p = q := by simpa using hq
            exact h⟩)
        clear hc hp hxx
        generalize cmpI p.height k = cc at *
        go_wp2_with fail
        refine HCC.out.mono ?_
        rintro e w2 ⟨rfl, hb2⟩
        have HB2 := hid hb2
        clear hb2
        go_wp2
        go_ret2
        exact ⟨HB2.out, hi, fd, HAT.out, by rw [← hfd]; rfl⟩
      · have hlt2 : decide ((hi : Int) < (n : Int)) = false := by simp; omega
        have HAT := hid (show AtI k l hi false from ⟨by rw [HN.out]; exact hin, HI.out.1, HI.out.2, by
          constructor
          · intro h; cases h
          · rintro ⟨q, hq, _⟩
            have := (List.getElem?_eq_some_iff.1 hq).1
            rw [HN.out] at this
            omega⟩)
        go_wp2
        go_ret2
        exact ⟨HB.out, hi, false, HAT.out, rfl⟩
theorem sameK_time {a b : Kn} (h : a.time ≠ b.time) : sameK a b = false := by simp [sameK, h]
theorem sameK_root {a b : Kn} (h : a.root ≠ b.root) : sameK a b = false := by simp [sameK, h]
theorem sameK_next {a b : Kn} (h : a.time = b.time) (h2 : a.root = b.root) : sameK a b = decide (a.next = b.next) := by simp [sameK, h, h2]
set_option maxRecDepth 100000 in
set_option maxHeartbeats 2000000 in
theorem unlike_any (a b : Kn) (va vb : Value) (N : Nat) (w : World) (ha : KnV w N va a) (hb : KnV w N vb b) (hN : N ≤ w.heap.size) :
    Calls Tryz.prog 66 #[va, vb] w fun e w' => e = .returned (.bool (!sameK a b)) ∧ Below w.heap.size w w' := by
  obtain ⟨rv, nv, rfl, g1, g2⟩ := ha
  obtain ⟨o1, c1, rfl, _⟩ := g1.shape
  obtain ⟨o2, c2, rfl, _⟩ := g2.shape
  obtain ⟨rv', nv', rfl, g3, g4⟩ := hb
  obtain ⟨o3, c3, rfl, _⟩ := g3.shape
  obtain ⟨o4, c4, rfl, _⟩ := g4.shape
  obtain ⟨w0, hw0⟩ : ∃ w0, (w.alloc (.cells #[.int .i64 a.height, .int .i64 a.time, .slice o1 a.root.length c1, .slice o2 a.next.length c2] 27)).alloc (.cells #[.int .i64 b.height, .int .i64 b.time, .slice o3 b.root.length c3, .slice o4 b.next.length c4] 27) = w0 := ⟨_, rfl⟩
  have hb0 : Below w.heap.size w w0 := by rw [← hw0]; exact ((Below.refl _ _).alloc (Nat.le_refl _) _).alloc (by simp) _
  have HB0 := hid hb0
  have hr0 : Row w0 w.heap.size 27 [.int .i64 a.height, .int .i64 a.time, .slice o1 a.root.length c1, .slice o2 a.next.length c2] := by rw [← hw0]; exact (Row.new _ _ _).alloc _
  have hr1 : Row w0 (w.heap.size + 1) 27 [.int .i64 b.height, .int .i64 b.time, .slice o3 b.root.length c3, .slice o4 b.next.length c4] := by rw [← hw0]; exact Row.newAt _ _ _ _ (by simp)
  obtain ⟨⟨y0, y1, y2, y3⟩, _⟩ := hr0.four
  obtain ⟨⟨x0, x1, x2, x3⟩, _⟩ := hr1.four
  have HE1 := hid (equal_any a.root b.root (.slice o1 a.root.length c1) (.slice o3 b.root.length c3) N N w0 (g1.below (hb0.mono hN)) (g3.below (hb0.mono hN)))
  have HE2 := hid (equal_any a.next b.next (.slice o2 a.next.length c2) (.slice o4 b.next.length c4) N N w0 (g2.below (hb0.mono hN)) (g4.below (hb0.mono hN)))
  have HW0 := hid hw0
  clear hw0 hb0 hr0 hr1 g1 g2 g3 g4
  by_cases h1 : a.time = b.time
  · have e1 : (a.time != b.time) = false := by simp [h1]
    by_cases h2 : a.root = b.root
    · have HS := hid (sameK_next h1 h2)
      rw [decide_eq_true h2] at HE1
      generalize a.root.length = n1 at *
      generalize b.root.length = n3 at *
      generalize a.next.length = n2 at *
      generalize b.next.length = n4 at *
      generalize decide (a.next = b.next) = dd at *
      clear h1 h2
      go_enter Tryz.func66, Tryz.ntmps66
      go_wp2_with fail
      rw [HW0.out]
      refine HE1.out.mono ?_
      rintro e w2 ⟨rfl, hw2⟩
      obtain rfl := hw2.symm
      go_wp2_with fail
      refine HE2.out.mono ?_
      rintro e w2 ⟨rfl, hw2⟩
      obtain rfl := hw2.symm
      go_wp2
      go_ret
      exact ⟨by rw [HS.out]; first | done | rfl, HB0.out⟩
    · have HS := hid (sameK_root h2)
      rw [decide_eq_false h2] at HE1
      generalize a.root.length = n1 at *
      generalize b.root.length = n3 at *
      clear h1 h2
      go_enter Tryz.func66, Tryz.ntmps66
      go_wp2_with fail
      rw [HW0.out]
      refine HE1.out.mono ?_
      rintro e w2 ⟨rfl, hw2⟩
      obtain rfl := hw2.symm
      go_wp2
      go_ret
      exact ⟨by rw [HS.out]; first | done | rfl, HB0.out⟩
  · have e1 : (a.time != b.time) = true := by simpa using h1
    have HS := hid (sameK_time h1)
    clear h1
    go_enter Tryz.func66, Tryz.ntmps66
    go_wp2_with fail
    rw [HW0.out]
    go_ret
    exact ⟨by rw [HS.out]; first | done | rfl, HB0.out⟩
theorem lowT_zero (l : List Kn) (t : Int) : lowT l 0 t = true := rfl
theorem lowT_succ {l : List Kn} {j : Nat} {k : Kn} (t : Int) (h : l[j]? = some k) : lowT l (j + 1) t = decide (k.time < t) := by unfold lowT; simp only [h]
theorem highT_some {l : List Kn} {i : Nat} {k : Kn} (t : Int) (h : l[i]? = some k) : highT l i t = decide (t < k.time) := by unfold highT; rw [h]
theorem highT_end {l : List Kn} {i : Nat} (t : Int) (h : l.length ≤ i) : highT l i t = true := by unfold highT; rw [List.getElem?_eq_none h]
set_option maxRecDepth 100000 in
set_option maxHeartbeats 2000000 in
theorem inTime_any (l : List Kn) (i : Nat) (t : Int) (v : Value) (N : Nat) (w : World) (hv : Knowns w N v l) (hi : i ≤ l.length) (hl : l.length ≤ 1000000) :
    Calls Tryz.prog 67 #[v, .int .i64 (i : Int), .int .i64 t] w fun e w' => e = .returned (.bool (lowT l i t && highT l i t)) ∧ w' = w := by
  obtain ⟨oa, ca, rfl, hca⟩ := hv.shape
  have HV := hid hv
  clear hv
  generalize hn : l.length = n at *
  have HN := hid hn
  clear hn
  have HHI := hid (show ∃ hb : Bool, highT l i t = hb ∧ (i = n ∧ hb = true ∨ i < n ∧ ∃ b o k, oa = some ⟨b, o, none⟩ ∧ w.cell? ⟨b, o + i * 4 + 1, none⟩ = some (.int .i64 k) ∧ hb = decide (t < k)) by
    by_cases he : i = n
    · exact ⟨true, highT_end t (by rw [HN.out]; omega), .inl ⟨he, rfl⟩⟩
    · obtain ⟨k, hk⟩ : ∃ k, l[i]? = some k := ⟨l[i]'(by rw [HN.out]; omega), List.getElem?_eq_getElem _⟩
      obtain ⟨b, o, hoa, hcells⟩ := HV.out.spot (by omega)
      obtain ⟨_, _, _, _, d1, _⟩ := hcells i k hk
      exact ⟨_, highT_some t hk, .inr ⟨by omega, b, o, k.time, hoa, d1, rfl⟩⟩)
  obtain ⟨hb, hhb, hcase⟩ := HHI.out
  have HHB := hid hhb
  clear HHI hhb
  cases i with
  | zero =>
    have e0 : ((0 : Int) == 0) = true := by decide
    rcases hcase with ⟨he, rfl⟩ | ⟨hlt, b, o, k, rfl, d1, rfl⟩
    · subst he
      go_enter Tryz.func67, Tryz.ntmps67
      go_wp2
      go_ret
      exact ⟨by rw [lowT_zero, HHB.out]; first | done | rfl, rfl⟩
    · have e1 : ((0 : Int) == (n : Int)) = false := by simp; omega
      have e1' : ((n : Int) == 0) = false := by simp; omega
      have e2 : (0 : Int) < (n : Int) := by omega
      have e3 : ¬ n = 0 := by omega
      have d1' : w.cell? ⟨b, o + 1, none⟩ = some (.int .i64 k) := by simpa using d1
      go_enter Tryz.func67, Tryz.ntmps67
      go_wp2
      go_ret
      exact ⟨by rw [lowT_zero, HHB.out]; first | done | rfl, rfl⟩
  | succ j =>
    obtain ⟨x, hx⟩ : ∃ x, l[j]? = some x := ⟨l[j]'(by rw [HN.out]; omega), List.getElem?_eq_getElem _⟩
    obtain ⟨b, o, hoa, hcells⟩ := HV.out.spot (by omega)
    obtain ⟨_, _, _, _, f1, _⟩ := hcells j x hx
    subst hoa
    have HLO := hid (lowT_succ t hx)
    have e0 : (((j + 1 : Nat) : Int) == 0) = false := by simp; omega
    have hj1 : ((j + 1 : Nat) : Int) - 1 = (j : Int) := by omega
    have hj2 : IntKind.i64.wrap (((j + 1 : Nat) : Int) - 1) = (j : Int) := by rw [hj1, IntKind.wrap_i64]; omega
    have hjn : (j : Int) < (n : Int) := by omega
    clear hcells hx hj1
    generalize x.time = xt at *
    by_cases hlow : xt < t
    · have g1 : decide (xt < t) = true := by simpa using hlow
      rcases hcase with ⟨he, rfl⟩ | ⟨hlt, b', o', k, hoa, d1, rfl⟩
      · have e1 : (((j + 1 : Nat) : Int) == (n : Int)) = true := by simp; omega
        generalize hm : ((j + 1 : Nat) : Int) = m at *
        go_enter Tryz.func67, Tryz.ntmps67
        go_wp2
        go_ret
        exact ⟨by rw [HLO.out, HHB.out, g1]; first | done | rfl, rfl⟩
      · obtain ⟨rfl, rfl⟩ : b = b' ∧ o = o' := by simpa using hoa
        have e1 : (((j + 1 : Nat) : Int) == (n : Int)) = false := by simp; omega
        have e2 : ((j + 1 : Nat) : Int) < (n : Int) := by omega
        clear hoa
        generalize hm : j + 1 = m at *
        clear hm
        go_enter Tryz.func67, Tryz.ntmps67
        go_wp2
        go_ret
        exact ⟨by rw [HLO.out, HHB.out, g1]; first | done | rfl, rfl⟩
    · have g1 : decide (xt < t) = false := by simpa using hlow
      clear hcase
      generalize hm : ((j + 1 : Nat) : Int) = m at *
      clear hm
      go_enter Tryz.func67, Tryz.ntmps67
      go_wp2
      go_ret
      exact ⟨by rw [HLO.out, g1]; first | done | rfl, rfl⟩
/-- what is owned outlives what is done with a row of another type -/
theorem own_other {w w' : World} {base e k n g : Nat} {t : TypeId} {v : Value} {xs cs : List Value} (h : w.ownsRow base e k v n xs) (hr : Row w g t cs) (ht : t ≠ e) (ho : ∀ j, j ≠ g → w'.heap[j]? = w.heap[j]?) : w'.ownsRow base e k v n xs := by
  obtain ⟨h1, h2⟩ := h
  refine ⟨h1, ?_⟩
  rcases h2 with h2 | ⟨b, cap, cur, h3, h4, h5, h6⟩
  · exact .inl h2
  · refine .inr ⟨b, cap, cur, h3, h4, (ho b ?_).trans h5, h6⟩
    rintro rfl
    unfold Row at hr
    rw [hr] at h5
    simp at h5
    exact ht h5.2
theorem OwnKn.other {w w' : World} {base g : Nat} {t : TypeId} {v : Value} {ps : List KnR} {cs : List Value} (h : OwnKn w base v ps) (hr : Row w g t cs) (ht : t ≠ 27) (ht2 : t ≠ 5) (ho : ∀ j, j ≠ g → w'.heap[j]? = w.heap[j]?) : OwnKn w' base v ps :=
  ⟨⟨h.1.1, own_other h.1.2 hr ht ho⟩, fun q hq => ⟨own_other (h.2 q hq).1 hr ht2 ho, own_other (h.2 q hq).2 hr ht2 ho⟩⟩
end Go.Proofs.YtiflkkelbnpniaaGreatDoor
namespace Go.Proofs.YtiflkkelbnpniaaGreatDoor
open Go.RowKit

theorem learn_yes {c : Cl} {k o : Kn} (h : atK c.known k.height = some o) : learnC c k = { c with frozen := !sameK o k } := by unfold learnC; rw [h]
theorem learn_late {c : Cl} {k : Kn} (h : atK c.known k.height = none) (h2 : timeB c.known k.height k.time = false) : learnC c k = { c with frozen := true } := by unfold learnC; rw [h]; simp [h2]
theorem learn_put {c : Cl} {k : Kn} (h : atK c.known k.height = none) (h2 : timeB c.known k.height k.time = true) : learnC c k = { c with known := cutK (putK c.known k) } := by unfold learnC; rw [h]; simp [h2]
set_option maxRecDepth 100000 in
set_option maxHeartbeats 4000000 in
theorem learn_any (c : Cl) (ps : List KnR) (q : KnR) (o : Option Addr) (m base : Nat) (w : World) (hc : ps.map (·.k) = c.known) (hfz : c.frozen = false) (hown : OwnKn w base (.slice o ps.length m) ps) (hq : OwnB w base q.r q.k.root ∧ OwnB w base q.n q.k.next) (hb : base ≤ w.heap.size) (hs : Rising c.known) (h30 : ps.length ≤ 30) :
    Calls Tryz.prog 34 #[.agg #[.string c.chain, .int .i64 c.trust, .bool false, .slice o ps.length m], .agg #[.int .i64 q.k.height, .int .i64 q.k.time, q.r, q.n]] w fun e w' => Below base w w' ∧ ∃ o' n' m', e = .returned (.agg #[.string c.chain, .int .i64 c.trust, .bool (learnC c q.k).frozen, .slice o' n' m']) ∧ Knowns w' w'.heap.size (.slice o' n' m') (learnC c q.k).known := by
  obtain ⟨o1, c1, hqr, _⟩ := hq.1.shape
  obtain ⟨o2, c2, hqn, _⟩ := hq.2.shape
  obtain ⟨qk, qr, qn⟩ := q
  simp only at hqr hqn hq
  subst hqr hqn
  obtain ⟨w0, hw0⟩ : ∃ w0, ((w.alloc (.cells #[.string c.chain, .int .i64 c.trust, .bool false, .slice o ps.length m] 24)).alloc (.cells #[.int .i64 qk.height, .int .i64 qk.time, .slice o1 qk.root.length c1, .slice o2 qk.next.length c2] 27)).alloc (.cells #[.string ⟨#[]⟩, .int .i64 0, .bool false, .slice none 0 0] 24) = w0 := ⟨_, rfl⟩
  have hb0 : Below w.heap.size w w0 := by rw [← hw0]; exact (((Below.refl _ _).alloc (Nat.le_refl _) _).alloc (by simp) _).alloc (by simp; omega) _
  have hr0 : Row w0 w.heap.size 24 [.string c.chain, .int .i64 c.trust, .bool false, .slice o ps.length m] := by rw [← hw0]; exact ((Row.new _ _ _).alloc _).alloc _
  have hr1 : Row w0 (w.heap.size + 1) 27 [.int .i64 qk.height, .int .i64 qk.time, .slice o1 qk.root.length c1, .slice o2 qk.next.length c2] := by rw [← hw0]; exact (Row.newAt _ _ _ _ (by simp)).alloc _
  have hr2 : Row w0 (w.heap.size + 1 + 1) 24 [.string ⟨#[]⟩, .int .i64 0, .bool false, .slice none 0 0] := by rw [← hw0]; exact Row.newAt _ _ _ _ (by simp)
  have hown0 := hown.below hb0
  have hq0 : OwnB w0 base (.slice o1 qk.root.length c1) qk.root ∧ OwnB w0 base (.slice o2 qk.next.length c2) qk.next := ⟨ownsRow_belowR hq.1 hb0, ownsRow_belowR hq.2 hb0⟩
  have HKW := hid (show Knowns w w.heap.size (.slice o ps.length m) c.known by have := hown.knowns; rw [hc] at this; exact this)
  have hkn0 := hown0.knowns
  rw [hc] at hkn0
  have hpl : ps.length = c.known.length := by rw [← hc]; simp
  have HSE := hid (searchK_any c.known qk.height (.slice o ps.length m) w0.heap.size w0 #[] rfl (Nat.le_refl _) hkn0 hs (by omega))
  have HO0 := hid hown0
  have HQ0 := hid hq0
  have HB0 := hid hb0
  have HR0 := hid hr0
  have HR1 := hid hr1
  have HR2 := hid hr2
  have HS := hid hs
  have HC := hid hc
  have HFZ := hid hfz
  obtain ⟨⟨y0, y1, y2, y3⟩, _⟩ := hr0.four
  obtain ⟨⟨x0, x1, x2, x3⟩, _⟩ := hr1.four
  have HW0 := hid hw0
  have HPL := hid hpl
  clear hw0 hb0 hr0 hr1 hr2 hown hq hown0 hq0 hkn0 hs hc hfz hpl
  generalize hn : ps.length = n at *
  have HN := hid hn
  clear hn
  go_enter Tryz.func34, Tryz.ntmps34
  go_wp2_with fail
  rw [HW0.out]
  refine HSE.out.mono ?_
  rintro e w1 ⟨hb1, i, fd, hat, rfl⟩
  have HB1 := hid (HB0.out.trans (hb1.mono HB0.out.size))
  have HO1 := hid (HO0.out.below hb1)
  have HQ1 := hid (show OwnB w1 base (.slice o1 qk.root.length c1) qk.root ∧ OwnB w1 base (.slice o2 qk.next.length c2) qk.next from ⟨ownsRow_belowR HQ0.out.1 hb1, ownsRow_belowR HQ0.out.2 hb1⟩)
  have HR01 := hid (HR0.out.below hb1 HR0.out.lt)
  have HR11 := hid (HR1.out.below hb1 HR1.out.lt)
  have HR21 := hid (HR2.out.below hb1 HR2.out.lt)
  have HAT := hid hat
  have HKN1 := hid (show Knowns w1 w1.heap.size (.slice o n m) c.known by have := HO1.out.knowns; rw [HC.out] at this; exact this)
  have hin : i ≤ n := by have := hat.1; rw [← HPL.out] at this; exact this
  obtain ⟨⟨a0, a1, a2, a3⟩, z0, z1, z2, z3⟩ := HR01.out.four
  obtain ⟨⟨b0, b1, b2, b3⟩, _⟩ := HR11.out.four
  obtain ⟨⟨d0, d1, d2, d3⟩, v0, v1, v2, v3⟩ := HR21.out.four
  clear hb1 hat y0 y1 y2 y3 x0 x1 x2 x3 HSE
  cases fd with
  | true =>
    obtain ⟨x, hx, hxh, hxat⟩ := HAT.out.yes HS.out
    have HLC := hid (learn_yes (c := c) (k := qk) hxat)
    have hilt : i < n := by have := (List.getElem?_eq_some_iff.1 hx).1; rw [← HPL.out] at this; exact this
    obtain ⟨b, off, rfl, hcells⟩ := HKW.out.spot (by omega)
    obtain ⟨hbN, vr, vn, f0, f1, f2, f3, g2, g3⟩ := hcells i x hx
    obtain ⟨o3, c3, rfl, _⟩ := g2.shape
    obtain ⟨o4, c4, rfl, _⟩ := g3.shape
    have HUN := hid (show ∀ wx, Below w1.heap.size w1 wx → Calls Tryz.prog 66 #[.agg #[.int .i64 x.height, .int .i64 x.time, .slice o3 x.root.length c3, .slice o4 x.next.length c4], .agg #[.int .i64 qk.height, .int .i64 qk.time, .slice o1 qk.root.length c1, .slice o2 qk.next.length c2]] wx fun e w' => e = .returned (.bool (!sameK x qk)) ∧ Below wx.heap.size wx w' from fun wx hx => by
      have hbx := HB1.out.trans (hx.mono HB1.out.size)
      exact unlike_any x qk _ _ w1.heap.size wx ⟨_, _, rfl, (g2.below hbx).mono HB1.out.size, (g3.below hbx).mono HB1.out.size⟩ ⟨_, _, rfl, HQ1.out.1.bytes.below hx, HQ1.out.2.bytes.below hx⟩ hx.size)
    have hil' : (i : Int) < (n : Int) := by omega
    have HSW := hid (show ∀ wx, Below w.heap.size w wx → (wx.cell? ⟨b, off + i * 4, none⟩ = some (.int .i64 x.height) ∧ wx.cell? ⟨b, off + i * 4 + 1, none⟩ = some (.int .i64 x.time)) ∧ (wx.cell? ⟨b, off + i * 4 + 2, none⟩ = some (.slice o3 x.root.length c3) ∧ wx.cell? ⟨b, off + i * 4 + 3, none⟩ = some (.slice o4 x.next.length c4)) from fun wx hx =>
      ⟨⟨(hx.cell (p := ⟨b, off + i * 4, none⟩) hbN).trans f0, (hx.cell (p := ⟨b, off + i * 4 + 1, none⟩) hbN).trans f1⟩, (hx.cell (p := ⟨b, off + i * 4 + 2, none⟩) hbN).trans f2, (hx.cell (p := ⟨b, off + i * 4 + 3, none⟩) hbN).trans f3⟩)
    have HBC := hid (show ∀ wx, Below w1.heap.size w1 wx → wx.cell? ⟨w.heap.size, 3, none⟩ = some (.slice (some ⟨b, off, none⟩) n m) ∧ ((wx.cell? ⟨b, off + i * 4, none⟩ = some (.int .i64 x.height) ∧ wx.cell? ⟨b, off + i * 4 + 1, none⟩ = some (.int .i64 x.time)) ∧ (wx.cell? ⟨b, off + i * 4 + 2, none⟩ = some (.slice o3 x.root.length c3) ∧ wx.cell? ⟨b, off + i * 4 + 3, none⟩ = some (.slice o4 x.next.length c4))) ∧ ((wx.cell? ⟨w.heap.size + 1, 0, none⟩ = some (.int .i64 qk.height) ∧ wx.cell? ⟨w.heap.size + 1, 1, none⟩ = some (.int .i64 qk.time)) ∧ (wx.cell? ⟨w.heap.size + 1, 2, none⟩ = some (.slice o1 qk.root.length c1) ∧ wx.cell? ⟨w.heap.size + 1, 3, none⟩ = some (.slice o2 qk.next.length c2))) from fun wx hx =>
      ⟨(HR01.out.below hx HR01.out.lt).cell 3, HSW.out wx (HB1.out.trans (hx.mono HB1.out.size)), by
        have hr := HR11.out.below hx HR11.out.lt
        exact ⟨⟨hr.cell 0, hr.cell 1⟩, hr.cell 2, hr.cell 3⟩⟩)
    have HBZ := hid (show ∀ wx fz, Below w1.heap.size w1 wx → (wx.setCell ⟨w.heap.size, 2, none⟩ (.bool fz)).cell? ⟨w.heap.size, 3, none⟩ = some (.slice (some ⟨b, off, none⟩) n m) ∧ (((wx.setCell ⟨w.heap.size, 2, none⟩ (.bool fz)).cell? ⟨b, off + i * 4, none⟩ = some (.int .i64 x.height) ∧ (wx.setCell ⟨w.heap.size, 2, none⟩ (.bool fz)).cell? ⟨b, off + i * 4 + 1, none⟩ = some (.int .i64 x.time)) ∧ ((wx.setCell ⟨w.heap.size, 2, none⟩ (.bool fz)).cell? ⟨b, off + i * 4 + 2, none⟩ = some (.slice o3 x.root.length c3) ∧ (wx.setCell ⟨w.heap.size, 2, none⟩ (.bool fz)).cell? ⟨b, off + i * 4 + 3, none⟩ = some (.slice o4 x.next.length c4))) ∧ (((wx.setCell ⟨w.heap.size, 2, none⟩ (.bool fz)).cell? ⟨w.heap.size + 1, 0, none⟩ = some (.int .i64 qk.height) ∧ (wx.setCell ⟨w.heap.size, 2, none⟩ (.bool fz)).cell? ⟨w.heap.size + 1, 1, none⟩ = some (.int .i64 qk.time)) ∧ ((wx.setCell ⟨w.heap.size, 2, none⟩ (.bool fz)).cell? ⟨w.heap.size + 1, 2, none⟩ = some (.slice o1 qk.root.length c1) ∧ (wx.setCell ⟨w.heap.size, 2, none⟩ (.bool fz)).cell? ⟨w.heap.size + 1, 3, none⟩ = some (.slice o2 qk.next.length c2))) from fun wx fz hx =>
      ⟨((HR01.out.below hx HR01.out.lt).set 2 (.bool fz)).cell 3, HSW.out _ ((HB1.out.trans (hx.mono HB1.out.size)).setCell (Nat.le_refl _) _), by
        have hr := (HR11.out.below hx HR11.out.lt).other (a := ⟨w.heap.size, 2, none⟩) (.bool fz) (by simp)
        exact ⟨⟨hr.cell 0, hr.cell 1⟩, hr.cell 2, hr.cell 3⟩⟩)
    have HBD := hid (show Below w1.heap.size w1 w1.drew from (Below.refl _ _).drew)
    have s0 := HBC.out w1 (Below.refl _ _)
    have s1 := HBC.out _ HBD.out
    clear hcells g2 g3 hx hxat f0 f1 f2 f3 b0 b1 b2 b3 a3 hxh
    generalize (!sameK x qk) = fz at *
    go_wp2_with fail
    go_region_held3 (fun W => W.cell? ⟨w.heap.size, 3, none⟩ = some (.slice (some ⟨b, off, none⟩) n m) ∧ ((W.cell? ⟨b, off + i * 4, none⟩ = some (.int .i64 x.height) ∧ W.cell? ⟨b, off + i * 4 + 1, none⟩ = some (.int .i64 x.time)) ∧ (W.cell? ⟨b, off + i * 4 + 2, none⟩ = some (.slice o3 x.root.length c3) ∧ W.cell? ⟨b, off + i * 4 + 3, none⟩ = some (.slice o4 x.next.length c4))) ∧ ((W.cell? ⟨w.heap.size + 1, 0, none⟩ = some (.int .i64 qk.height) ∧ W.cell? ⟨w.heap.size + 1, 1, none⟩ = some (.int .i64 qk.time)) ∧ (W.cell? ⟨w.heap.size + 1, 2, none⟩ = some (.slice o1 qk.root.length c1) ∧ W.cell? ⟨w.heap.size + 1, 3, none⟩ = some (.slice o2 qk.next.length c2)))) (first | assumption) (first
      | (go_at_call 66; refine (HUN.out _ HBD.out).mono ?_; rintro e w5 ⟨rfl, hb5⟩; have HB5 := hid (HBD.out.trans hb5); have s5 := HBC.out w5 HB5.out; have s6 := HBZ.out w5 fz HB5.out; have HR05 := hid (HR01.out.below HB5.out HR01.out.lt); have HR25 := hid (HR21.out.below HB5.out HR21.out.lt); obtain ⟨⟨p0, p1, p2, p3⟩, t0, t1, t2, t3⟩ := HR05.out.four; clear hb5))
    all_goals
      obtain ⟨w6, hw6⟩ : ∃ w6, w5.setCell ⟨w.heap.size, 2, none⟩ (.bool fz) = w6 := ⟨_, rfl⟩
      have HR6 := hid (show Row w6 w.heap.size 24 [.string c.chain, .int .i64 c.trust, .bool fz, .slice (some ⟨b, off, none⟩) n m] by rw [← hw6]; exact HR05.out.set 2 _)
      have HZ6 := hid (show Row w6 (w.heap.size + 1 + 1) 24 [.string ⟨#[]⟩, .int .i64 0, .bool false, .slice none 0 0] by rw [← hw6]; exact HR25.out.other _ (by simp only; omega))
      have HB6 := hid (show Below w.heap.size w w6 by rw [← hw6]; exact (HB1.out.trans (HB5.out.mono HB1.out.size)).setCell (Nat.le_refl _) _)
      obtain ⟨⟨k0, k1, k2, k3⟩, _⟩ := HR6.out.four
      obtain ⟨⟨j0, j1, j2, j3⟩, l0, l1, l2, l3⟩ := HZ6.out.four
      rw [hw6]
      clear hw6 s0 s1 s5 s6 p0 p1 p2 p3 t0 t1 t2 t3 a0 a1 a2 z0 z1 z2 z3 d0 d1 d2 d3 v0 v1 v2 v3
      go_wp2
      have hrz := set4_row HZ6.out (.string c.chain) (.int .i64 c.trust) (.bool fz) (.slice (some ⟨b, off, none⟩) n m)
      obtain ⟨⟨u0, u1, u2, u3⟩, _⟩ := hrz.four
      have hbz := set4_below HB6.out (show w.heap.size ≤ w.heap.size + 1 + 1 by omega) (.string c.chain) (.int .i64 c.trust) (.bool fz) (.slice (some ⟨b, off, none⟩) n m)
      have hkz := (HKW.out.below hbz).mono hbz.size
      unfold set4 at u0 u1 u2 u3
      refine bodyPost_ret (v := .agg #[.string c.chain, .int .i64 c.trust, .bool fz, .slice (some ⟨b, off, none⟩) n m]) (by simp [results, Tryz.results34, go_sem, u0, u1, u2, u3]) rfl ⟨hbz.mono hb, some ⟨b, off, none⟩, n, m, ?_⟩
      rw [HLC.out]
      exact ⟨rfl, hkz⟩
  | false =>
    have hno := HAT.out.no HS.out
    have HIT := hid (inTime_any c.known i qk.time (.slice o n m) w1.heap.size w1 HKN1.out HAT.out.1 (by rw [← HPL.out]; omega))
    rw [← HAT.out.time HS.out] at HIT
    cases ht : timeB c.known qk.height qk.time with
    | false =>
      have HLC := hid (learn_late hno.1 ht)
      rw [ht] at HIT
      clear hno ht
      go_wp2_with fail
      refine HIT.out.mono ?_
      rintro e w5 ⟨rfl, hw5⟩
      obtain rfl := hw5.symm
      go_wp2_with fail
      have HR6 := hid (HR01.out.set 2 (.bool true))
      have HZ6 := hid (HR21.out.other (a := ⟨w.heap.size, 2, none⟩) (.bool true) (by simp only; omega))
      have HB6 := hid (HB1.out.setCell (p := ⟨w.heap.size, 2, none⟩) (Nat.le_refl _) (.bool true))
      have hrz := set4_row HZ6.out (.string c.chain) (.int .i64 c.trust) (.bool true) (.slice o n m)
      obtain ⟨⟨u0, u1, u2, u3⟩, _⟩ := hrz.four
      have hbz := set4_below HB6.out (show w.heap.size ≤ w.heap.size + 1 + 1 by omega) (.string c.chain) (.int .i64 c.trust) (.bool true) (.slice o n m)
      have hkz := (HKW.out.below hbz).mono hbz.size
      unfold set4 at u0 u1 u2 u3
      refine bodyPost_ret (v := .agg #[.string c.chain, .int .i64 c.trust, .bool true, .slice o n m]) (by simp [results, Tryz.results34, go_sem, u0, u1, u2, u3]) rfl ⟨hbz.mono hb, o, n, m, ?_⟩
      rw [HLC.out]
      exact ⟨rfl, hkz⟩
    | true =>
      have HLC := hid (learn_put hno.1 ht)
      have HPUT := hid (HAT.out.put (k := qk) HS.out)
      rw [ht] at HIT
      obtain ⟨w2, hw2⟩ : ∃ w2, w1.alloc (.cells #[.int .i64 qk.height, .int .i64 qk.time, .slice o1 qk.root.length c1, .slice o2 qk.next.length c2] 27) = w2 := ⟨_, rfl⟩
      have hb2 : Below w1.heap.size w1 w2 := by rw [← hw2]; exact (Below.refl _ _).alloc (Nat.le_refl _) _
      have hr2 : Row w2 w1.heap.size 27 [.int .i64 qk.height, .int .i64 qk.time, .slice o1 qk.root.length c1, .slice o2 qk.next.length c2] := by rw [← hw2]; exact Row.new _ _ _
      have hown2 := HO1.out.below hb2
      have hq2 : OwnB w2 base (.slice o1 qk.root.length c1) qk.root ∧ OwnB w2 base (.slice o2 qk.next.length c2) qk.next := ⟨ownsRow_belowR HQ1.out.1 hb2, ownsRow_belowR HQ1.out.2 hb2⟩
      have hbase2 : base ≤ w2.heap.size := Nat.le_trans hb (Nat.le_trans HB1.out.size hb2.size)
      have HINS := hid (insertKn_any (ps.map knRow) i (knRow ⟨qk, .slice o1 qk.root.length c1, .slice o2 qk.next.length c2⟩) base w1.heap.size (.slice o n m) w2 hown2.1 hbase2 hr2 (KnR.ok.row (w := w2) (N := w2.heap.size) ⟨hq2.1.bytes, hq2.2.bytes⟩)
        (fun g hg => by
          have := HO1.out.1.2.lt g hg
          have h2 := this.2
          omega) (by rw [List.length_map, HN.out]; exact hin) (by rw [List.length_map, HN.out]; omega))
      have HB2 := hid (HB1.out.trans (hb2.mono HB1.out.size))
      have HO2 := hid hown2
      have HQ2 := hid hq2
      have HR02 := hid (HR01.out.below hb2 HR01.out.lt)
      have HR22 := hid (HR21.out.below hb2 HR21.out.lt)
      have HW2 := hid hw2
      have HBS2 := hid hbase2
      clear hno ht hw2 hb2 hr2 hown2 hq2 hbase2
      go_wp2_with fail
      refine HIT.out.mono ?_
      rintro e w5 ⟨rfl, hw5⟩
      obtain rfl := hw5.symm
      go_wp2_with fail
      rw [HW2.out]
      refine HINS.out.mono ?_
      rintro e w3 ⟨hg3, v3', rfl, hrow3⟩
      rw [map_insKn] at hrow3
      have hown3 := HO2.out.past hg3 hrow3 (fun q hq => by
        rcases List.mem_append.1 hq with hq | hq
        · exact .inl (List.mem_of_mem_take hq)
        · rcases List.mem_cons.1 hq with rfl | hq
          · exact .inr HQ2.out
          · exact .inl (List.mem_of_mem_drop hq))
      have hlen3 : (ps.take i ++ (⟨qk, .slice o1 qk.root.length c1, .slice o2 qk.next.length c2⟩ : KnR) :: ps.drop i).length = n + 1 := by
        have := HN.out
        simp
        omega
      have hmap3 : (ps.take i ++ (⟨qk, .slice o1 qk.root.length c1, .slice o2 qk.next.length c2⟩ : KnR) :: ps.drop i).map (·.k) = putK c.known qk := by
        rw [HPUT.out, ← HC.out, List.map_append, List.map_cons, List.map_take, List.map_drop]
      generalize (ps.take i ++ (⟨qk, .slice o1 qk.root.length c1, .slice o2 qk.next.length c2⟩ : KnR) :: ps.drop i) = ps' at *
      obtain ⟨o', m', hv3, _⟩ := hown3.shape
      rw [hlen3] at hv3
      subst hv3
      have HR03 := hid (HR02.out.grown hg3 (HO2.out.1.apart HR02.out (by decide)))
      have HR23 := hid (HR22.out.grown hg3 (HO2.out.1.apart HR22.out (by decide)))
      have HB3 := hid ((HB2.out.mono hb).trans (HO2.out.1.below_of HBS2.out hg3))
      have HO3 := hid hown3
      have HM3 := hid hmap3
      have HL3 := hid hlen3
      have HCK := hid (show cutK (putK c.known qk) = if 30 < n + 1 then (putK c.known qk).drop 1 else putK c.known qk by
        have : (putK c.known qk).length = n + 1 := by rw [← hmap3, List.length_map, hlen3]
        unfold cutK
        rw [this])
      have hgw : w.heap.size < w3.heap.size := HR03.out.lt
      clear hg3 hrow3 hown3 hlen3 hmap3 HR22 HR02 a0 a1 a2 a3 z0 z1 z2 z3 b0 b1 b2 b3 d0 d1 d2 d3 v0 v1 v2 v3
      obtain ⟨⟨a0, a1, a2, a3⟩, z0, z1, z2, z3⟩ := HR03.out.four
      have HR04 := hid (HR03.out.set 3 (.slice o' (n + 1) m'))
      have HR24 := hid (HR23.out.other (a := ⟨w.heap.size, 3, none⟩) (.slice o' (n + 1) m') (by simp only; omega))
      have HB4 := hid (HB3.out.setCell (p := ⟨w.heap.size, 3, none⟩) hb (.slice o' (n + 1) m'))
      have HO4 := hid (HO3.out.other (w' := w3.setCell ⟨w.heap.size, 3, none⟩ (.slice o' (n + 1) m')) HR03.out (by decide) (by decide) (fun j hj => heap_setCell_other _ _ _ _ hj))
      obtain ⟨w4, hw4⟩ : ∃ w4, w3.setCell ⟨w.heap.size, 3, none⟩ (.slice o' (n + 1) m') = w4 := ⟨_, rfl⟩
      rw [hw4] at HR04 HR24 HB4 HO4
      have HR04' := hid (show Row w4 w.heap.size 24 [.string c.chain, .int .i64 c.trust, .bool false, .slice o' (n + 1) m'] from HR04.out)
      have hgw4 : w4.heap.size = w3.heap.size := by rw [← hw4]; simp [World.setCell]
      have HW4 := hid hw4
      clear hw4 HR04
      obtain ⟨⟨d0, d1, d2, d3⟩, v0, v1, v2, v3⟩ := HR23.out.four
      by_cases h31 : 30 < n + 1
      · have HCK2 := hid (show cutK (putK c.known qk) = (putK c.known qk).drop 1 by rw [HCK.out, if_pos h31])
        have e30 : decide ((30 : Int) < ((n + 1 : Nat) : Int)) = true := decide_eq_true (by omega)
        have HDEL := hid (show Calls Tryz.prog 69 #[.slice o' (n + 1) m', .int .i64 0, .int .i64 1] w4 fun e w' => w4.grownBy w' (Value.slice o' (n + 1) m').ownBlock ∧ ∃ v', e = .returned v' ∧ RowKn w' base v' ((ps'.map knRow).take 0 ++ (ps'.map knRow).drop (0 + 1)) from
          deleteKn_any (ps'.map knRow) 0 base (.slice o' (n + 1) m') w4 HO4.out.1 (by rw [List.length_map, HL3.out]; omega) 1 rfl)
        have HBS4 := hid (show base ≤ w4.heap.size by omega)
        generalize hn1 : n + 1 = n1 at *
        have HN1 := hid hn1
        have e30' : decide (30 < n1) = true := decide_eq_true h31
        clear h31 hn1
        go_wp2_with fail
        rw [HW4.out]
        refine HDEL.out.mono ?_
        rintro e w5 ⟨hg5, v5', rfl, hrow5⟩
        rw [map_delKn] at hrow5
        have hown5 := HO4.out.past hg5 hrow5 (fun q hq => by
          rcases List.mem_append.1 hq with hq | hq
          · exact .inl (List.mem_of_mem_take hq)
          · exact .inl (List.mem_of_mem_drop hq))
        have hlen5 : (ps'.take 0 ++ ps'.drop (0 + 1)).length = n := by
          have h1 := HL3.out
          have h2 := HN1.out
          simp
          omega
        have hmap5 : (ps'.take 0 ++ ps'.drop (0 + 1)).map (·.k) = cutK (putK c.known qk) := by
          rw [HCK2.out, ← HM3.out]
          simp
        generalize (ps'.take 0 ++ ps'.drop (0 + 1)) = ps5 at *
        obtain ⟨o5, m5, hv5, _⟩ := hown5.shape
        rw [hlen5] at hv5
        subst hv5
        have HR05 := hid (HR04'.out.grown hg5 (HO4.out.1.apart HR04'.out (by decide)))
        have HR25 := hid (HR24.out.grown hg5 (HO4.out.1.apart HR24.out (by decide)))
        have HB5 := hid (HB4.out.trans (HO4.out.1.below_of HBS4.out hg5))
        have HO5 := hid hown5
        have HM5 := hid hmap5
        clear hg5 hrow5 hown5 hmap5 hlen5 a0 a1 a2 a3 z0 z1 z2 z3 d0 d1 d2 d3 v0 v1 v2 v3
        obtain ⟨⟨a0, a1, a2, a3⟩, z0, z1, z2, z3⟩ := HR05.out.four
        obtain ⟨⟨d0, d1, d2, d3⟩, v0, v1, v2, v3⟩ := HR25.out.four
        go_wp2
        have hr6 := HR05.out.set 3 (.slice o5 n m5)
        have hz6 := HR25.out.other (a := ⟨w.heap.size, 3, none⟩) (.slice o5 n m5) (by simp only; omega)
        have ho6 := HO5.out.other (w' := w5.setCell ⟨w.heap.size, 3, none⟩ (.slice o5 n m5)) HR05.out (by decide) (by decide) (fun j hj => heap_setCell_other _ _ _ _ hj)
        have hb6 := HB5.out.setCell (p := ⟨w.heap.size, 3, none⟩) hb (.slice o5 n m5)
        have hrz := set4_row hz6 (.string c.chain) (.int .i64 c.trust) (.bool false) (.slice o5 n m5)
        obtain ⟨⟨u0, u1, u2, u3⟩, _⟩ := hrz.four
        have hbz := set4_below hb6 (show base ≤ w.heap.size + 1 + 1 by omega) (.string c.chain) (.int .i64 c.trust) (.bool false) (.slice o5 n m5)
        have hoz := (ho6.other (w' := set4 (w5.setCell ⟨w.heap.size, 3, none⟩ (.slice o5 n m5)) (w.heap.size + 1 + 1) (.string c.chain) (.int .i64 c.trust) (.bool false) (.slice o5 n m5)) hz6 (by decide) (by decide) (set4_other _ _ _ _ _ _)).knowns
        rw [HM5.out] at hoz
        unfold set4 at u0 u1 u2 u3
        refine bodyPost_ret (v := .agg #[.string c.chain, .int .i64 c.trust, .bool false, .slice o5 n m5]) (by simp [results, Tryz.results34, go_sem, u0, u1, u2, u3]) rfl ⟨hbz, o5, n, m5, ?_⟩
        rw [HLC.out]
        exact ⟨by rw [HFZ.out], hoz⟩
      · have HCK2 := hid (show cutK (putK c.known qk) = putK c.known qk by rw [HCK.out, if_neg h31])
        have e30 : decide ((30 : Int) < ((n + 1 : Nat) : Int)) = false := decide_eq_false (by omega)
        generalize hn1 : n + 1 = n1 at *
        have e30' : decide (30 < n1) = false := decide_eq_false h31
        clear h31 hn1
        go_wp2_with fail
        have hz6 := HR23.out.other (a := ⟨w.heap.size, 3, none⟩) (.slice o' n1 m') (by simp only; omega)
        have ho6 := HO3.out.other (w' := w3.setCell ⟨w.heap.size, 3, none⟩ (.slice o' n1 m')) HR03.out (by decide) (by decide) (fun j hj => heap_setCell_other _ _ _ _ hj)
        have hb6 := HB3.out.setCell (p := ⟨w.heap.size, 3, none⟩) hb (.slice o' n1 m')
        have hrz := set4_row hz6 (.string c.chain) (.int .i64 c.trust) (.bool false) (.slice o' n1 m')
        obtain ⟨⟨u0, u1, u2, u3⟩, _⟩ := hrz.four
        have hbz := set4_below hb6 (show base ≤ w.heap.size + 1 + 1 by omega) (.string c.chain) (.int .i64 c.trust) (.bool false) (.slice o' n1 m')
        have hoz := (ho6.other (w' := set4 (w3.setCell ⟨w.heap.size, 3, none⟩ (.slice o' n1 m')) (w.heap.size + 1 + 1) (.string c.chain) (.int .i64 c.trust) (.bool false) (.slice o' n1 m')) hz6 (by decide) (by decide) (set4_other _ _ _ _ _ _)).knowns
        rw [HM3.out, ← HCK2.out] at hoz
        unfold set4 at u0 u1 u2 u3
        refine bodyPost_ret (v := .agg #[.string c.chain, .int .i64 c.trust, .bool false, .slice o' n1 m']) (by simp [results, Tryz.results34, go_sem, u0, u1, u2, u3]) rfl ⟨hbz, o', n1, m', ?_⟩
        rw [HLC.out]
        exact ⟨by rw [HFZ.out], hoz⟩
end Go.Proofs.YtiflkkelbnpniaaGreatDoor
namespace Go.Proofs.YtiflkkelbnpniaaGreatDoor
open Go.RowKit

/-- do two digests go together -/
def fitN (a b : List (BitVec 8)) : Int := if a = b then 0 else 8
theorem fit_any (a b : List (BitVec 8)) (va vb : Value) (N M : Nat) (w : World) (ha : Bytes w N va a) (hb : Bytes w M vb b) :
    Calls Tryz.prog 62 #[va, vb] w fun e w' => e = .returned (.int .i64 (fitN a b)) ∧ w' = w := by
  have HE := hid (equal_any a b va vb N M w ha hb)
  obtain ⟨o1, c1, rfl, _⟩ := ha.shape
  obtain ⟨o2, c2, rfl, _⟩ := hb.shape
  clear ha hb
  by_cases h : a = b
  · have HF := hid (show fitN a b = 0 by unfold fitN; rw [if_pos h])
    rw [decide_eq_true h] at HE
    generalize a.length = n1 at *
    generalize b.length = n2 at *
    clear h
    go_enter Tryz.func62, Tryz.ntmps62
    go_wp2_with fail
    refine HE.out.mono ?_
    rintro e w2 ⟨rfl, hw2⟩
    obtain rfl := hw2.symm
    go_wp2
    go_ret
    exact ⟨by rw [HF.out]; first | done | rfl, rfl⟩
  · have HF := hid (show fitN a b = 8 by unfold fitN; rw [if_neg h])
    rw [decide_eq_false h] at HE
    generalize a.length = n1 at *
    generalize b.length = n2 at *
    clear h
    go_enter Tryz.func62, Tryz.ntmps62
    go_wp2_with fail
    refine HE.out.mono ?_
    rintro e w2 ⟨rfl, hw2⟩
    obtain rfl := hw2.symm
    go_wp2
    go_ret
    exact ⟨by rw [HF.out]; first | done | rfl, rfl⟩
/-- why those who stood behind a block don't vouch -/
def leapN (k : Kn) (u : Up) : Int := if valsN u.trusted ≠ 0 then valsN u.trusted else if digV u.trusted ≠ k.next then 8 else if overB u.trusted u.sg = false then 10 else 0
/-- ten cells of an update -/
theorem Row.ten {w : World} {g : Nat} {t : TypeId} {a b c d e f x y z u : Value} (h : Row w g t [a, b, c, d, e, f, x, y, z, u]) :
    (w.cell? ⟨g, 0, none⟩ = some a ∧ w.cell? ⟨g, 1, none⟩ = some b ∧ w.cell? ⟨g, 2, none⟩ = some c ∧ w.cell? ⟨g, 3, none⟩ = some d ∧ w.cell? ⟨g, 4, none⟩ = some e) ∧ w.cell? ⟨g, 5, none⟩ = some f ∧ w.cell? ⟨g, 6, none⟩ = some x ∧ w.cell? ⟨g, 7, none⟩ = some y ∧ w.cell? ⟨g, 8, none⟩ = some z ∧ w.cell? ⟨g, 9, none⟩ = some u :=
  ⟨⟨h.cell 0, h.cell 1, h.cell 2, h.cell 3, h.cell 4⟩, h.cell 5, h.cell 6, h.cell 7, h.cell 8, h.cell 9⟩
/-- an update's cells, slices by their parts -/
theorem UpV.open {w : World} {N : Nat} {v : Value} {u : Up} (h : UpV w N v u) : ∃ o1 c1 o2 c2 o3 c3 o4 c4 o5 c5 o6 c6, v = .agg #[.int .i64 u.frm, .string u.sg.hd.chain, .int .i64 u.sg.hd.height, .int .i64 u.sg.hd.time, .slice o1 u.sg.hd.root.length c1, .slice o2 u.sg.hd.vals.length c2, .slice o3 u.sg.hd.next.length c3, .slice o4 u.sg.vals.length c4, .slice o5 u.sg.votes.length c5, .slice o6 u.trusted.length c6] ∧
    Bytes w N (.slice o1 u.sg.hd.root.length c1) u.sg.hd.root ∧ Bytes w N (.slice o2 u.sg.hd.vals.length c2) u.sg.hd.vals ∧ Bytes w N (.slice o3 u.sg.hd.next.length c3) u.sg.hd.next ∧ Vals w N (.slice o4 u.sg.vals.length c4) u.sg.vals ∧ Votes w N (.slice o5 u.sg.votes.length c5) u.sg.votes ∧ Vals w N (.slice o6 u.trusted.length c6) u.trusted := by
  obtain ⟨x0, x1, x2, x3, x4, x5, x6, x7, tv, rfl, ⟨rv, vv, nv, lv, sv, he, h1, h2, h3, h4, h5⟩, h6⟩ := h
  obtain ⟨o1, c1, rfl, _⟩ := h1.shape
  obtain ⟨o2, c2, rfl, _⟩ := h2.shape
  obtain ⟨o3, c3, rfl, _⟩ := h3.shape
  obtain ⟨o4, c4, rfl, _⟩ := h4.shape
  obtain ⟨o5, c5, rfl, _⟩ := h5.shape
  obtain ⟨o6, c6, rfl, _⟩ := h6.shape
  simp at he
  obtain ⟨rfl, rfl, rfl, rfl, rfl, rfl, rfl, rfl⟩ := he
  exact ⟨o1, c1, o2, c2, o3, c3, o4, c4, o5, c5, o6, c6, rfl, h1, h2, h3, h4, h5, h6⟩
set_option maxRecDepth 100000 in
set_option maxHeartbeats 4000000 in
theorem leap_any (k : Kn) (u : Up) (kv uv : Value) (N : Nat) (w : World) (htab : tableAt w) (hN : N ≤ w.heap.size) (hk : KnV w N kv k) (hu : UpV w N uv u) (hf : u.fits) (hck : checkN u.sg = 0) :
    Calls Tryz.prog 63 #[kv, uv] w fun e w' => e = .returned (.int .i64 (leapN k u)) ∧ Below w.heap.size w w' := by
  obtain ⟨rv, nv, rfl, g1, g2⟩ := hk
  obtain ⟨p1, d1, rfl, _⟩ := g1.shape
  obtain ⟨p2, d2, rfl, _⟩ := g2.shape
  obtain ⟨o1, c1, o2, c2, o3, c3, o4, c4, o5, c5, o6, c6, rfl, h1, h2, h3, h4, h5, h6⟩ := hu.open
  obtain ⟨hfs, hft, hfo⟩ := hf
  obtain ⟨w0, hw0⟩ : ∃ w0, (w.alloc (.cells #[.int .i64 k.height, .int .i64 k.time, .slice p1 k.root.length d1, .slice p2 k.next.length d2] 27)).alloc (.cells #[.int .i64 u.frm, .string u.sg.hd.chain, .int .i64 u.sg.hd.height, .int .i64 u.sg.hd.time, .slice o1 u.sg.hd.root.length c1, .slice o2 u.sg.hd.vals.length c2, .slice o3 u.sg.hd.next.length c3, .slice o4 u.sg.vals.length c4, .slice o5 u.sg.votes.length c5, .slice o6 u.trusted.length c6] 35) = w0 := ⟨_, rfl⟩
  have hb0 : Below w.heap.size w w0 := by rw [← hw0]; exact ((Below.refl _ _).alloc (Nat.le_refl _) _).alloc (by simp) _
  have hr0 : Row w0 w.heap.size 27 [.int .i64 k.height, .int .i64 k.time, .slice p1 k.root.length d1, .slice p2 k.next.length d2] := by rw [← hw0]; exact (Row.new _ _ _).alloc _
  have hr1 : Row w0 (w.heap.size + 1) 35 [.int .i64 u.frm, .string u.sg.hd.chain, .int .i64 u.sg.hd.height, .int .i64 u.sg.hd.time, .slice o1 u.sg.hd.root.length c1, .slice o2 u.sg.hd.vals.length c2, .slice o3 u.sg.hd.next.length c3, .slice o4 u.sg.vals.length c4, .slice o5 u.sg.votes.length c5, .slice o6 u.trusted.length c6] := by rw [← hw0]; exact Row.newAt _ _ _ _ (by simp)
  have HSG := hid (show SgV w N (.agg #[.string u.sg.hd.chain, .int .i64 u.sg.hd.height, .int .i64 u.sg.hd.time, .slice o1 u.sg.hd.root.length c1, .slice o2 u.sg.hd.vals.length c2, .slice o3 u.sg.hd.next.length c3, .slice o4 u.sg.vals.length c4, .slice o5 u.sg.votes.length c5]) u.sg from ⟨_, _, _, _, _, rfl, h1, h2, h3, h4, h5⟩)
  have HT := hid h6
  have HG2 := hid g2
  have HTAB := hid htab
  have HB0 := hid hb0
  have HR0 := hid hr0
  have HR1 := hid hr1
  have HOK := hid hfo
  have HCK := hid hck
  have HVA := hid (valsC u.trusted (.slice o6 u.trusted.length c6) N w0 (h6.below (hb0.mono hN)) (Nat.le_trans hN hb0.size) hft)
  have HSV := hid (checkN_right hck).2
  have HSL := hid (checkN_ok hck).2.1
  have HW0 := hid hw0
  have k9 := hr1.cell 9
  simp at k9
  clear g1 g2 h1 h2 h3 h4 h5 h6 htab hb0 hr0 hr1 hfo hck hw0 hfs
  by_cases hv : valsN u.trusted = 0
  · have HVZ := hid hv
    have HVK := hid (valsN_ok hv)
    have HDG := hid (show ∀ wx, Below w0.heap.size w0 wx → Calls Tryz.prog 78 #[.slice o6 u.trusted.length c6] wx fun e w' => ∃ x, e = .returned x ∧ Bytes w' w'.heap.size x (digV u.trusted) ∧ Below wx.heap.size wx w' from fun wx hx => by
      have hbx := HB0.out.trans (hx.mono HB0.out.size)
      exact digestC u.trusted _ N wx (HTAB.out.below hbx HTAB.out.lt) (HT.out.below (hbx.mono hN)) (Nat.le_trans hN hbx.size) HVK.out.2.1 HOK.out)
    have HFT := hid (show ∀ (wx : World) (M : Nat) (x : Value), Below w0.heap.size w0 wx → Bytes wx M x (digV u.trusted) → Calls Tryz.prog 62 #[x, .slice p2 k.next.length d2] wx fun e w' => e = .returned (.int .i64 (fitN (digV u.trusted) k.next)) ∧ w' = wx from fun wx M x hx hbx =>
      fit_any _ _ _ _ M N wx hbx (HG2.out.below ((HB0.out.trans (hx.mono HB0.out.size)).mono hN)))
    have HOV := hid (show ∀ wx, Below w0.heap.size w0 wx → Calls Tryz.prog 23 #[.slice o6 u.trusted.length c6, .agg #[.string u.sg.hd.chain, .int .i64 u.sg.hd.height, .int .i64 u.sg.hd.time, .slice o1 u.sg.hd.root.length c1, .slice o2 u.sg.hd.vals.length c2, .slice o3 u.sg.hd.next.length c3, .slice o4 u.sg.vals.length c4, .slice o5 u.sg.votes.length c5]] wx fun e w' => e = .returned (.bool (overB u.trusted u.sg)) ∧ Below wx.heap.size wx w' from fun wx hx => by
      have hbx := HB0.out.trans (hx.mono HB0.out.size)
      exact overC u.trusted u.sg _ _ N wx (Nat.le_trans hN hbx.size) (HT.out.below (hbx.mono hN)) (HSG.out.below (hbx.mono hN)) HVZ.out HOK.out HSV.out HSL.out)
    clear hv
    go_enter Tryz.func63, Tryz.ntmps63
    go_wp2_with fail
    rw [HW0.out]
    refine HVA.out.mono ?_
    rintro e w1 ⟨rfl, hb1⟩
    rw [HVZ.out]
    have HQ1 := hid hb1
    have HB1 := hid (HB0.out.trans (hb1.mono HB0.out.size))
    have HBC := hid (show ∀ wx, Below w0.heap.size w0 wx → wx.cell? ⟨w.heap.size, 3, none⟩ = some (.slice p2 k.next.length d2) ∧ wx.cell? ⟨w.heap.size + 1, 9, none⟩ = some (.slice o6 u.trusted.length c6) from fun wx hx => ⟨(HR0.out.below hx HR0.out.lt).cell 3, (HR1.out.below hx HR1.out.lt).cell 9⟩)
    have HBD := hid (show Below w0.heap.size w0 w1.drew from hb1.drew)
    have s0 := HBC.out w1 hb1
    have s1 := HBC.out _ HBD.out
    have HFC := hid (show (fitN (digV u.trusted) k.next = 0 ∧ digV u.trusted = k.next) ∨ (fitN (digV u.trusted) k.next = 8 ∧ leapN k u = 8) by
      by_cases h : digV u.trusted = k.next
      · exact .inl ⟨by unfold fitN; rw [if_pos h], h⟩
      · exact .inr ⟨by unfold fitN; rw [if_neg h], by unfold leapN; rw [if_neg (by simp [HVZ.out]), if_pos h]⟩)
    clear hb1 k9
    go_wp2_with fail
    go_region_held3 (fun W => W.cell? ⟨w.heap.size, 3, none⟩ = some (.slice p2 k.next.length d2) ∧ W.cell? ⟨w.heap.size + 1, 9, none⟩ = some (.slice o6 u.trusted.length c6)) (first | assumption) (first
      | (go_at_call 78; refine (HDG.out _ HBD.out).mono ?_; rintro e w6 ⟨x6, rfl, hx6, hb6⟩; obtain ⟨o7, c7, rfl, _⟩ := hx6.shape; have HX6 := hid hx6; have HB6 := hid (HBD.out.trans (hb6.mono HBD.out.size)); have s6 := HBC.out _ HB6.out; clear hb6 hx6)
      | (go_at_call 62; refine (HFT.out _ _ _ HB6.out HX6.out).mono ?_; rintro e w7 ⟨rfl, hw7⟩; obtain rfl := hw7.symm))
    all_goals
      have HBW := hid (HB0.out.trans (HB6.out.mono HB0.out.size))
      obtain ⟨⟨i0, i1, i2, i3, i4⟩, i5, i6, i7, i8, i9⟩ := (HR1.out.below HB6.out HR1.out.lt).ten
      rcases HFC.out with ⟨hz, hd⟩ | ⟨hz, hl⟩
      · rw [hz]
        have HD := hid hd
        clear hz hd s0 s1 s6
        go_wp2_with fail
        refine (HOV.out _ HB6.out).mono ?_
        rintro e w8 ⟨rfl, hb8⟩
        have HB8 := hid (HBW.out.trans (hb8.mono HBW.out.size))
        clear hb8
        cases ho : overB u.trusted u.sg with
        | true =>
          have HL := hid (show leapN k u = 0 by unfold leapN; rw [if_neg (by simp [HVZ.out]), if_neg (by simp [HD.out]), if_neg (by simp [ho])])
          clear ho
          go_wp2
          go_ret
          exact ⟨by rw [HL.out]; first | done | rfl, HB8.out⟩
        | false =>
          have HL := hid (show leapN k u = 10 by unfold leapN; rw [if_neg (by simp [HVZ.out]), if_neg (by simp [HD.out]), if_pos ho])
          clear ho
          go_wp2
          go_ret
          exact ⟨by rw [HL.out]; first | done | rfl, HB8.out⟩
      · rw [hz]
        have HL := hid hl
        clear hz hl s0 s1 s6
        go_wp2
        go_ret
        exact ⟨by rw [HL.out]; first | done | rfl, HBW.out⟩
  · have HL := hid (show leapN k u = valsN u.trusted by unfold leapN; rw [if_pos hv])
    have e1 : (valsN u.trusted != 0) = true := by simpa using hv
    clear hv
    generalize valsN u.trusted = z at *
    go_enter Tryz.func63, Tryz.ntmps63
    go_wp2_with fail
    rw [HW0.out]
    refine HVA.out.mono ?_
    rintro e w1 ⟨rfl, hb1⟩
    have HB1 := hid (HB0.out.trans (hb1.mono HB0.out.size))
    clear hb1
    go_wp2
    go_ret
    exact ⟨by rw [HL.out]; first | done | rfl, HB1.out⟩
end Go.Proofs.YtiflkkelbnpniaaGreatDoor
namespace Go.Proofs.YtiflkkelbnpniaaGreatDoor
open Go.RowKit

theorem bel_check {c : Cl} {u : Up} {now : Int} (h : checkN u.sg ≠ 0) : believeN c u now = checkN u.sg := by unfold believeN; rw [if_pos h]
theorem bel_none {c : Cl} {u : Up} {now : Int} (h : checkN u.sg = 0) (h2 : atK c.known u.frm = none) : believeN c u now = 6 := by unfold believeN; rw [if_neg (by omega), h2]
theorem bel_some {c : Cl} {u : Up} {now : Int} {k : Kn} (h : checkN u.sg = 0) (h2 : atK c.known u.frm = some k) : believeN c u now = believeAt c k u now := by unfold believeN; rw [if_neg (by omega), h2]
theorem bel_chain {c : Cl} {k : Kn} {u : Up} {now : Int} (h : u.sg.hd.chain ≠ c.chain) : believeAt c k u now = 7 := by unfold believeAt; rw [if_pos h]
theorem bel_old {c : Cl} {k : Kn} {u : Up} {now : Int} (h : u.sg.hd.chain = c.chain) (h2 : c.trust ≤ now - k.time) : believeAt c k u now = 11 := by unfold believeAt; rw [if_neg (by simp [h]), if_pos h2]
theorem bel_low {c : Cl} {k : Kn} {u : Up} {now : Int} (h : u.sg.hd.chain = c.chain) (h2 : ¬ c.trust ≤ now - k.time) (h3 : u.sg.hd.height ≤ k.height) : believeAt c k u now = 3 := by unfold believeAt; rw [if_neg (by simp [h]), if_neg h2, if_pos h3]
theorem bel_time {c : Cl} {k : Kn} {u : Up} {now : Int} (h : u.sg.hd.chain = c.chain) (h2 : ¬ c.trust ≤ now - k.time) (h3 : ¬ u.sg.hd.height ≤ k.height) (h4 : u.sg.hd.time ≤ k.time ∨ 10 < u.sg.hd.time - now) : believeAt c k u now = 11 := by unfold believeAt; rw [if_neg (by simp [h]), if_neg h2, if_neg h3, if_pos h4]
theorem bel_next {c : Cl} {k : Kn} {u : Up} {now : Int} (h : u.sg.hd.chain = c.chain) (h2 : ¬ c.trust ≤ now - k.time) (h3 : ¬ u.sg.hd.height ≤ k.height) (h4 : ¬ (u.sg.hd.time ≤ k.time ∨ 10 < u.sg.hd.time - now)) (h5 : u.sg.hd.height = k.height + 1) : believeAt c k u now = fitN u.sg.hd.vals k.next := by unfold believeAt fitN; rw [if_neg (by simp [h]), if_neg h2, if_neg h3, if_neg h4, if_pos h5]
theorem bel_leap {c : Cl} {k : Kn} {u : Up} {now : Int} (h : u.sg.hd.chain = c.chain) (h2 : ¬ c.trust ≤ now - k.time) (h3 : ¬ u.sg.hd.height ≤ k.height) (h4 : ¬ (u.sg.hd.time ≤ k.time ∨ 10 < u.sg.hd.time - now)) (h5 : ¬ u.sg.hd.height = k.height + 1) : believeAt c k u now = leapN k u := by unfold believeAt leapN; rw [if_neg (by simp [h]), if_neg h2, if_neg h3, if_neg h4, if_neg h5]
theorem str_ne {s t : ByteArray} (h : s ≠ t) : (s.toList == t.toList) = false := by
  rw [beq_eq_false_iff_ne]
  intro e
  exact h (by
    rw [Go.ByteArray.toList_eq, Go.ByteArray.toList_eq] at e
    obtain ⟨x⟩ := s
    obtain ⟨y⟩ := t
    simp at e
    rw [e])
set_option maxRecDepth 100000 in
set_option maxHeartbeats 8000000 in
theorem doubt_any (c : Cl) (u : Up) (now : Int) (gc gn : Nat) (oa : Option Addr) (ca : Nat) (uv : Value) (N : Nat) (w : World) (htab : tableAt w) (hN : N ≤ w.heap.size) (hrc : Row w gc 24 [.string c.chain, .int .i64 c.trust, .bool c.frozen, .slice oa c.known.length ca]) (hrn : Row w gn 3 [.int .i64 now])
    (hk : Knowns w N (.slice oa c.known.length ca) c.known) (hu : UpV w N uv u) (hcf : c.fits) (huf : u.fits) (hask : askedN c now = 0) :
    Calls Tryz.prog 61 #[uv, .pointer (some ⟨gc, 0, none⟩), .pointer (some ⟨gn, 0, none⟩)] w fun e w' => e = .returned (.int .i64 (believeN c u now)) ∧ Below w.heap.size w w' := by
  have HUV := hid hu
  obtain ⟨o1, c1, o2, c2, o3, c3, o4, c4, o5, c5, o6, c6, rfl, h1, h2, h3, h4, h5, h6⟩ := hu.open
  obtain ⟨hcw, hnow, -⟩ := askedN_ok hask
  obtain ⟨w0, hw0⟩ : ∃ w0, w.alloc (.cells #[.int .i64 u.frm, .string u.sg.hd.chain, .int .i64 u.sg.hd.height, .int .i64 u.sg.hd.time, .slice o1 u.sg.hd.root.length c1, .slice o2 u.sg.hd.vals.length c2, .slice o3 u.sg.hd.next.length c3, .slice o4 u.sg.vals.length c4, .slice o5 u.sg.votes.length c5, .slice o6 u.trusted.length c6] 35) = w0 := ⟨_, rfl⟩
  have hb0 : Below w.heap.size w w0 := by rw [← hw0]; exact (Below.refl _ _).alloc (Nat.le_refl _) _
  have hr1 : Row w0 w.heap.size 35 [.int .i64 u.frm, .string u.sg.hd.chain, .int .i64 u.sg.hd.height, .int .i64 u.sg.hd.time, .slice o1 u.sg.hd.root.length c1, .slice o2 u.sg.hd.vals.length c2, .slice o3 u.sg.hd.next.length c3, .slice o4 u.sg.vals.length c4, .slice o5 u.sg.votes.length c5, .slice o6 u.trusted.length c6] := by rw [← hw0]; exact Row.new _ _ _
  have hsg : SgV w N (.agg #[.string u.sg.hd.chain, .int .i64 u.sg.hd.height, .int .i64 u.sg.hd.time, .slice o1 u.sg.hd.root.length c1, .slice o2 u.sg.hd.vals.length c2, .slice o3 u.sg.hd.next.length c3, .slice o4 u.sg.vals.length c4, .slice o5 u.sg.votes.length c5]) u.sg := ⟨_, _, _, _, _, rfl, h1, h2, h3, h4, h5⟩
  have HCH := hid (checkC u.sg _ N w0 (htab.below hb0 htab.lt) (Nat.le_trans hN hb0.size) (hsg.below (hb0.mono hN)) huf.1)
  have HFI := hid (show ∀ wx, Below w.heap.size w wx → Calls Tryz.prog 47 #[.agg #[.string c.chain, .int .i64 c.trust, .bool c.frozen, .slice oa c.known.length ca], .int .i64 u.frm] wx _ from fun wx hx => findC c u.frm (.agg #[.string c.chain, .int .i64 c.trust, .bool c.frozen, .slice oa c.known.length ca]) N wx ⟨_, rfl, hk.below (hx.mono hN)⟩ (Nat.le_trans hN hx.size) hcf)
  have HK := hid hk
  have HV2 := hid h2
  have HTAB := hid htab
  have HB0 := hid hb0
  have HR1 := hid hr1
  have HRC := hid hrc
  have HRN := hid hrn
  have HUF := hid huf
  have HCW := hid hcw
  have HW0 := hid hw0
  obtain ⟨⟨i0, i1, i2, i3, i4⟩, i5, i6, i7, i8, i9⟩ := hr1.ten
  clear hsg h1 h2 h3 h4 h5 h6 htab hb0 hr1 hrc hrn hk hu hcf huf hask hcw hw0
  go_enter Tryz.func61, Tryz.ntmps61
  go_wp2_with fail
  rw [HW0.out]
  refine HCH.out.mono ?_
  rintro e w1 ⟨rfl, hb1⟩
  have HB1 := hid (HB0.out.trans (hb1.mono HB0.out.size))
  have HR11 := hid (HR1.out.below hb1 HR1.out.lt)
  have HRC1 := hid (HRC.out.below HB1.out HRC.out.lt)
  clear hb1 i0 i1 i2 i3 i4 i5 i6 i7 i8 i9
  obtain ⟨⟨a0, a1, a2, a3⟩, _⟩ := HRC1.out.four
  obtain ⟨⟨i0, i1, i2, i3, i4⟩, i5, i6, i7, i8, i9⟩ := HR11.out.ten
  by_cases hck : checkN u.sg = 0
  · rw [hck]
    have HCK := hid hck
    have HHR := hid (wrongH_ok (checkN_right hck).1).2.1
    clear hck
    go_wp2_with fail
    refine (HFI.out _ HB1.out).mono ?_
    rintro e w2 ⟨hb2, p1, d1, p2, d2, rfl, hx1, hx2⟩
    have HB2 := hid (HB1.out.trans (hb2.mono HB1.out.size))
    have HR12 := hid (HR11.out.below hb2 HR11.out.lt)
    have HRC2 := hid (HRC1.out.below hb2 HRC1.out.lt)
    have HX1 := hid hx1
    have HX2 := hid hx2
    clear hb2 a0 a1 a2 a3 i0 i1 i2 i3 i4 i5 i6 i7 i8 i9 hx1 hx2
    cases hat : atK c.known u.frm with
    | none =>
      have HBL := hid (bel_none (now := now) HCK.out hat)
      simp only [Option.isSome]
      clear hat
      generalize knAt c.known u.frm = k at *
      go_wp2
      go_ret
      exact ⟨by rw [HBL.out]; first | done | rfl, HB2.out.alloc HB2.out.size _⟩
    | some k =>
      have HKA := hid (knAt_some hat)
      have HKM := hid (atK_some hat)
      have hkr := ((wrongK_iff k).1 (((wrongCl_iff c).1 HCW.out).2.2.2.1 k (atK_some hat).1)).1
      have HKR := hid hkr
      have HBS := hid (bel_some (now := now) HCK.out hat)
      rw [HKA.out] at HX1 HX2
      rw [HKA.out]
      simp only [Option.isSome]
      obtain ⟨w4, hw4⟩ : ∃ w4, (w2.alloc (.cells #[.int .i64 k.height, .int .i64 k.time, .slice p1 k.root.length d1, .slice p2 k.next.length d2] 27)).alloc (.cells #[.string u.sg.hd.chain, .int .i64 u.sg.hd.height, .int .i64 u.sg.hd.time, .slice o1 u.sg.hd.root.length c1, .slice o2 u.sg.hd.vals.length c2, .slice o3 u.sg.hd.next.length c3] 29) = w4 := ⟨_, rfl⟩
      have hb4 : Below w2.heap.size w2 w4 := by rw [← hw4]; exact ((Below.refl _ _).alloc (Nat.le_refl _) _).alloc (by simp) _
      have HQ4 := hid hb4
      have HB4 := hid (HB2.out.trans (hb4.mono HB2.out.size))
      have HRK4 := hid (show Row w4 w2.heap.size 27 [.int .i64 k.height, .int .i64 k.time, .slice p1 k.root.length d1, .slice p2 k.next.length d2] by rw [← hw4]; exact (Row.new _ _ _).alloc _)
      have HRH4 := hid (show Row w4 (w2.heap.size + 1) 29 [.string u.sg.hd.chain, .int .i64 u.sg.hd.height, .int .i64 u.sg.hd.time, .slice o1 u.sg.hd.root.length c1, .slice o2 u.sg.hd.vals.length c2, .slice o3 u.sg.hd.next.length c3] by rw [← hw4]; exact Row.newAt _ _ _ _ (by simp))
      have HRC4 := hid (HRC2.out.below hb4 HRC2.out.lt)
      have HRU4 := hid (HR12.out.below hb4 HR12.out.lt)
      have HRN4 := hid (HRN.out.below HB4.out HRN.out.lt)
      have HX14 := hid (HX1.out.below hb4)
      have HX24 := hid (HX2.out.below hb4)
      have HW4 := hid hw4
      have hg1 : gc < w2.heap.size := HRC2.out.lt
      have hg2 : gc ≠ w2.heap.size := by omega
      have hg3 : gc ≠ w2.heap.size + 1 := by omega
      obtain ⟨⟨a0, a1, a2, a3⟩, _⟩ := HRC2.out.four
      obtain ⟨⟨i0, i1, i2, i3, i4⟩, i5, i6, i7, i8, i9⟩ := HR12.out.ten
      have hwl : w.heap.size < w2.heap.size := HR12.out.lt
      have HRN2 := hid (HRN.out.below HB2.out HRN.out.lt)
      have n0 := HRN2.out.cell 0
      simp only [List.getElem?_cons_zero] at n0
      have hn1 : gn < w2.heap.size := HRN2.out.lt
      have hn2 : gn ≠ w2.heap.size := by omega
      have hn3 : gn ≠ w2.heap.size + 1 := by omega
      clear hw4 hb4 hat hkr
      by_cases hch : u.sg.hd.chain = c.chain
      · have HCHN := hid hch
        have e1 : (u.sg.hd.chain.toList == c.chain.toList) = true := by simp [hch]
        have e1' : (u.sg.hd.chain.toList != c.chain.toList) = false := by simp [hch]
        have HTR := hid (trusts_any c k now (.agg #[.string c.chain, .int .i64 c.trust, .bool c.frozen, .slice oa c.known.length ca]) (.agg #[.int .i64 k.height, .int .i64 k.time, .slice p1 k.root.length d1, .slice p2 k.next.length d2]) w2.heap.size w4 ⟨_, rfl, (HK.out.below (HB4.out.mono hN)).mono (Nat.le_trans hN HB2.out.size)⟩ ⟨_, _, rfl, HX14.out, HX24.out⟩ hnow (by have := HKR.out; omega))
        clear hch
        go_wp2_with fail
        rw [HW4.out]
        refine HTR.out.mono ?_
        rintro e w5 ⟨rfl, hb5⟩
        have HQ5 := hid (HQ4.out.trans (hb5.mono HQ4.out.size))
        have HB5 := hid (HB4.out.trans (hb5.mono HB4.out.size))
        have HRK5 := hid (HRK4.out.below hb5 HRK4.out.lt)
        have HRH5 := hid (HRH4.out.below hb5 HRH4.out.lt)
        have HRU5 := hid (HRU4.out.below hb5 HRU4.out.lt)
        have HRN5 := hid (HRN4.out.below hb5 HRN4.out.lt)
        have HX15 := hid (HX14.out.below (hb5.mono HQ4.out.size))
        have HX25 := hid (HX24.out.below (hb5.mono HQ4.out.size))
        clear a0 a1 a2 a3 i0 i1 i2 i3 i4 i5 i6 i7 i8 i9 n0 hb5 hg1 hg2 hg3 hn1 hn2 hn3 hwl
        obtain ⟨⟨a0, a1, a2, a3⟩, _⟩ := HRK5.out.four
        obtain ⟨j0, j1, j2, j3, j4, j5⟩ := HRH5.out.six
        obtain ⟨⟨i0, i1, i2, i3, i4⟩, i5, i6, i7, i8, i9⟩ := HRU5.out.ten
        have n0 := HRN5.out.cell 0
        simp only [List.getElem?_cons_zero] at n0
        by_cases ht : c.trust ≤ now - k.time
        · have HBL := hid (show believeN c u now = 11 by rw [HBS.out, bel_old HCHN.out ht])
          have e2 : decide (now - k.time < c.trust) = false := by simp; omega
          rw [e2]
          clear ht e2
          go_wp2
          go_ret
          exact ⟨by rw [HBL.out]; first | done | rfl, HB5.out⟩
        · have e2 : decide (now - k.time < c.trust) = true := by simp; omega
          rw [e2]
          clear e2
          by_cases hh : u.sg.hd.height ≤ k.height
          · have HBL := hid (show believeN c u now = 3 by rw [HBS.out, bel_low HCHN.out ht hh])
            have e3 : decide (u.sg.hd.height ≤ k.height) = true := by simpa using hh
            clear ht hh
            go_wp2
            go_ret
            exact ⟨by rw [HBL.out]; first | done | rfl, HB5.out⟩
          · have e3 : decide (u.sg.hd.height ≤ k.height) = false := by simpa using hh
            have ww : IntKind.i64.wrap (u.sg.hd.time - now) = u.sg.hd.time - now := by have := HHR.out; rw [IntKind.wrap_i64]; omega
            by_cases h4 : u.sg.hd.time ≤ k.time ∨ 10 < u.sg.hd.time - now
            · have HBL := hid (show believeN c u now = 11 by rw [HBS.out, bel_time HCHN.out ht hh h4])
              by_cases h4a : u.sg.hd.time ≤ k.time
              · have e4 : decide (u.sg.hd.time ≤ k.time) = true := by simpa using h4a
                clear ht hh h4 h4a
                go_wp2
                go_ret
                exact ⟨by rw [HBL.out]; first | done | rfl, HB5.out⟩
              · have e4 : decide (u.sg.hd.time ≤ k.time) = false := by simpa using h4a
                have e5 : decide (10 < u.sg.hd.time - now) = true := by simp; omega
                clear ht hh h4 h4a
                go_wp2
                go_ret
                exact ⟨by rw [HBL.out]; first | done | rfl, HB5.out⟩
            · have e4 : decide (u.sg.hd.time ≤ k.time) = false := by simp; omega
              have e5 : decide (10 < u.sg.hd.time - now) = false := by simp; omega
              have w1' : IntKind.i64.wrap (k.height + 1) = k.height + 1 := by have := HKR.out; rw [IntKind.wrap_i64]; omega
              by_cases h5 : u.sg.hd.height = k.height + 1
              · have HBL := hid (show believeN c u now = fitN u.sg.hd.vals k.next by rw [HBS.out, bel_next HCHN.out ht hh h4 h5])
                have e6 : (u.sg.hd.height == k.height + 1) = true := by simpa using h5
                have HFT := hid (fit_any u.sg.hd.vals k.next (.slice o2 u.sg.hd.vals.length c2) (.slice p2 k.next.length d2) N w2.heap.size w5 (HV2.out.below (HB5.out.mono hN)) HX25.out)
                clear ht hh h4 h5
                generalize fitN u.sg.hd.vals k.next = z at *
                go_wp2_with fail
                refine HFT.out.mono ?_
                rintro e w6 ⟨rfl, hw6⟩
                obtain rfl := hw6.symm
                go_wp2
                go_ret
                exact ⟨by rw [HBL.out]; first | done | rfl, HB5.out⟩
              · have HBL := hid (show believeN c u now = leapN k u by rw [HBS.out, bel_leap HCHN.out ht hh h4 h5])
                have e6 : (u.sg.hd.height == k.height + 1) = false := by simpa using h5
                have HLP := hid (leap_any k u (.agg #[.int .i64 k.height, .int .i64 k.time, .slice p1 k.root.length d1, .slice p2 k.next.length d2]) _ w2.heap.size w5 (HTAB.out.below HB5.out HTAB.out.lt) HQ5.out.size ⟨_, _, rfl, HX15.out, HX25.out⟩ ((HUV.out.below (HB5.out.mono hN)).mono (Nat.le_trans hN HB2.out.size)) HUF.out HCK.out)
                clear ht hh h4 h5
                generalize leapN k u = z at *
                go_wp2_with fail
                refine HLP.out.mono ?_
                rintro e w6 ⟨rfl, hb6⟩
                have HB6 := hid (HB5.out.trans (hb6.mono HB5.out.size))
                clear hb6
                go_wp2
                go_ret
                exact ⟨by rw [HBL.out]; first | done | rfl, HB6.out⟩
      · have HBL := hid (show believeN c u now = 7 by rw [HBS.out, bel_chain hch])
        have e1 := str_ne hch
        have e1' : (u.sg.hd.chain.toList != c.chain.toList) = true := by rw [bne, e1]; rfl
        clear hch
        go_wp2
        go_ret
        rw [HW4.out]
        exact ⟨by rw [HBL.out]; first | done | rfl, HB4.out⟩
  · have HBL := hid (bel_check (c := c) (now := now) hck)
    have e1 : (checkN u.sg != 0) = true := by simpa using hck
    clear hck
    generalize checkN u.sg = z at *
    go_wp2
    go_ret
    exact ⟨by rw [HBL.out]; first | done | rfl, HB1.out⟩
end Go.Proofs.YtiflkkelbnpniaaGreatDoor
namespace Go.Proofs.YtiflkkelbnpniaaGreatDoor
open Go.RowKit

/-- what doubts answers: a function over two boxes -/
theorem doubts_any (c : Cl) (now : Int) (oa : Option Addr) (ca : Nat) (b : Bool) (n : Nat) (w : World) :
    Calls Tryz.prog 33 #[.agg #[.string c.chain, .int .i64 c.trust, .bool b, .slice oa n ca], .int .i64 now] w fun e w' => e = .returned (.func (.func 61) #[] #[.pointer (some ⟨w.heap.size, 0, none⟩), .pointer (some ⟨w.heap.size + 1, 0, none⟩)]) ∧ Row w' w.heap.size 24 [.string c.chain, .int .i64 c.trust, .bool b, .slice oa n ca] ∧ Row w' (w.heap.size + 1) 3 [.int .i64 now] ∧ Below w.heap.size w w' := by
  obtain ⟨w0, hw0⟩ : ∃ w0, (w.alloc (.cells #[.string c.chain, .int .i64 c.trust, .bool b, .slice oa n ca] 24)).alloc (.cells #[.int .i64 now] 3) = w0 := ⟨_, rfl⟩
  have HB0 := hid (show Below w.heap.size w w0 by rw [← hw0]; exact ((Below.refl _ _).alloc (Nat.le_refl _) _).alloc (by simp) _)
  have HR0 := hid (show Row w0 w.heap.size 24 [.string c.chain, .int .i64 c.trust, .bool b, .slice oa n ca] by rw [← hw0]; exact (Row.new _ _ _).alloc _)
  have HR1 := hid (show Row w0 (w.heap.size + 1) 3 [.int .i64 now] by rw [← hw0]; exact Row.newAt _ _ _ _ (by simp))
  have HW0 := hid hw0
  clear hw0
  go_enter Tryz.func33, Tryz.ntmps33
  go_wp2
  go_ret
  rw [HW0.out]
  exact ⟨rfl, HR0.out, HR1.out, HB0.out⟩
/-- a client's row is another block than what is known lies in -/
theorem cl_apart {w : World} {g : Nat} {t : TypeId} {s : ByteArray} {a x y : Int} {b : Bool} {o : Option Addr} {n m k j : Nat} (hr : Row w g t [.string s, .int .i64 a, .bool b, .slice o n m]) (h1 : w.cell? ⟨k, j, none⟩ = some (.int .i64 x)) (h2 : w.cell? ⟨k, j + 1, none⟩ = some (.int .i64 y)) : k ≠ g := by
  rintro rfl
  rw [hr.cell] at h1 h2
  rcases j with _ | _ | _ | _ | j
  · simp at h1
  · simp at h2
  · simp at h1
  · simp at h1
  · simp at h1
theorem Bytes.cl {w w' : World} {N g : Nat} {t : TypeId} {s : ByteArray} {a : Int} {b : Bool} {o : Option Addr} {n m : Nat} {v : Value} {l : List (BitVec 8)} (h : Bytes w N v l) (hr : Row w g t [.string s, .int .i64 a, .bool b, .slice o n m]) (ho : ∀ k, k ≠ g → w'.heap[k]? = w.heap[k]?) : Bytes w' N v l := by
  rcases h with h | h | ⟨k, off, cap, h1, h2, h3⟩
  · exact .inl h
  · exact .inr (.inl h)
  · refine .inr (.inr ⟨k, off, cap, h1, h2, fun i hi => ⟨(h3 i hi).1, ?_⟩⟩)
    have hc := (h3 i hi).2
    rw [← hc]
    refine World.cell?_of_block (ho k ?_)
    rintro rfl
    rw [hr.cell] at hc
    generalize off + i = x at hc
    rcases x with _ | _ | _ | _ | x
    · simp at hc
    · simp at hc
    · simp at hc
    · simp at hc
    · simp at hc
theorem Knowns.cl {w w' : World} {N g : Nat} {t : TypeId} {s : ByteArray} {a : Int} {b : Bool} {o : Option Addr} {n m : Nat} {v : Value} {l : List Kn} (h : Knowns w N v l) (hr : Row w g t [.string s, .int .i64 a, .bool b, .slice o n m]) (ho : ∀ k, k ≠ g → w'.heap[k]? = w.heap[k]?) : Knowns w' N v l := by
  obtain ⟨ps, h1, h2, h3⟩ := h
  refine ⟨ps, h1, ?_, fun q hq => ⟨(h3 q hq).1.cl hr ho, (h3 q hq).2.cl hr ho⟩⟩
  rcases h2 with h2 | h2 | ⟨k, off, cap, e1, e2, e3⟩
  · exact .inl h2
  · exact .inr (.inl h2)
  · refine .inr (.inr ⟨k, off, cap, e1, e2, fun i r hi => ?_⟩)
    obtain ⟨f1, f2⟩ := e3 i r hi
    refine ⟨f1, fun j x hx => ?_⟩
    obtain ⟨q, _, rfl⟩ := List.mem_map.1 (List.mem_of_getElem? hi)
    rw [← f2 j x hx]
    exact World.cell?_of_block (ho k (cl_apart hr (f2 0 _ rfl) (f2 1 _ rfl)))
/-- what Follow is to answer -/
def FollowC (f : FuncId) : Prop := ∀ (c : Cl) (u : Up) (now : Int) (cv uv : Value) (N : Nat) (w : World), tableAt w → N ≤ w.heap.size → ClV w N cv c → UpV w N uv u → c.fits → u.fits →
  Calls Tryz.prog f #[cv, uv, .int .i64 now] w fun e w' => Below w.heap.size w w' ∧ ∃ o n m, e = .returned (.tuple #[.agg #[.string (followC c u now).chain, .int .i64 (followC c u now).trust, .bool (followC c u now).frozen, .slice o n m], .int .i64 (followE c u now)]) ∧ Knowns w' w'.heap.size (.slice o n m) (followC c u now).known
theorem followC_no {c : Cl} {u : Up} {now : Int} (h : followE c u now ≠ 0) : followC c u now = Cl.none := by unfold followC; rw [if_neg h]
theorem followC_yes {c : Cl} {u : Up} {now : Int} (h : followE c u now = 0) : followC c u now = learnC c (knOf u.sg.hd) := by unfold followC; rw [if_pos h]
theorem followE_ask {c : Cl} {u : Up} {now : Int} (h : askedN c now ≠ 0) : followE c u now = askedN c now := by unfold followE; rw [if_pos h]
theorem followE_bel {c : Cl} {u : Up} {now : Int} (h : askedN c now = 0) : followE c u now = believeN c u now := by unfold followE; rw [if_neg (by omega)]
set_option maxRecDepth 100000 in
set_option maxHeartbeats 8000000 in
theorem clFollowC : FollowC 14 := by
  intro c u now cv uv N w htab hN hcv huv hcf huf
  have HUV := hid huv
  have HCV := hid hcv
  obtain ⟨kv, rfl, hk⟩ := hcv
  obtain ⟨oa, ca, rfl, hca⟩ := hk.shape
  obtain ⟨o1, c1, o2, c2, o3, c3, o4, c4, o5, c5, o6, c6, rfl, h1, h2, h3, h4, h5, h6⟩ := huv.open
  obtain ⟨w0, hw0⟩ : ∃ w0, ((w.alloc (.cells #[.string c.chain, .int .i64 c.trust, .bool c.frozen, .slice oa c.known.length ca] 24)).alloc (.cells #[.int .i64 u.frm, .string u.sg.hd.chain, .int .i64 u.sg.hd.height, .int .i64 u.sg.hd.time, .slice o1 u.sg.hd.root.length c1, .slice o2 u.sg.hd.vals.length c2, .slice o3 u.sg.hd.next.length c3, .slice o4 u.sg.vals.length c4, .slice o5 u.sg.votes.length c5, .slice o6 u.trusted.length c6] 35)).alloc (.cells #[.string ⟨#[]⟩, .int .i64 0, .bool false, .slice none 0 0] 24) = w0 := ⟨_, rfl⟩
  have hb0 : Below w.heap.size w w0 := by rw [← hw0]; exact (((Below.refl _ _).alloc (Nat.le_refl _) _).alloc (by simp) _).alloc (by simp; omega) _
  have HRC0 := hid (show Row w0 w.heap.size 24 [.string c.chain, .int .i64 c.trust, .bool c.frozen, .slice oa c.known.length ca] by rw [← hw0]; exact ((Row.new _ _ _).alloc _).alloc _)
  have HRU0 := hid (show Row w0 (w.heap.size + 1) 35 [.int .i64 u.frm, .string u.sg.hd.chain, .int .i64 u.sg.hd.height, .int .i64 u.sg.hd.time, .slice o1 u.sg.hd.root.length c1, .slice o2 u.sg.hd.vals.length c2, .slice o3 u.sg.hd.next.length c3, .slice o4 u.sg.vals.length c4, .slice o5 u.sg.votes.length c5, .slice o6 u.trusted.length c6] by rw [← hw0]; exact (Row.newAt _ _ _ _ (by simp)).alloc _)
  have HRZ0 := hid (show Row w0 (w.heap.size + 1 + 1) 24 [.string ⟨#[]⟩, .int .i64 0, .bool false, .slice none 0 0] by rw [← hw0]; exact Row.newAt _ _ _ _ (by simp))
  have HAS := hid (askedC c now (.agg #[.string c.chain, .int .i64 c.trust, .bool c.frozen, .slice oa c.known.length ca]) N w0 ⟨_, rfl, hk.below (hb0.mono hN)⟩ (Nat.le_trans hN hb0.size) hcf)
  have HK := hid hk
  have HH1 := hid h1
  have HH3 := hid h3
  have HTAB := hid htab
  have HB0 := hid hb0
  have HCF := hid hcf
  have HUF := hid huf
  have HW0 := hid hw0
  obtain ⟨⟨a0, a1, a2, a3⟩, _⟩ := HRC0.out.four
  clear hk h1 h2 h3 h4 h5 h6 htab hb0 hcf huf hw0
  by_cases hask : askedN c now = 0
  · have HASK := hid hask
    obtain ⟨hcw, -, hfz⟩ := askedN_ok hask
    obtain ⟨_, _, ⟨hk1, hk30⟩, hkall, hkris⟩ := (wrongCl_iff c).1 hcw
    have HFZ := hid hfz
    have HRIS := hid hkris
    have HFE := hid (followE_bel (u := u) hask)
    have HDB := hid (show ∀ (wx : World) (gc gn : Nat), Below w.heap.size w wx → Row wx gc 24 [.string c.chain, .int .i64 c.trust, .bool c.frozen, .slice oa c.known.length ca] → Row wx gn 3 [.int .i64 now] → Calls Tryz.prog 61 #[.agg #[.int .i64 u.frm, .string u.sg.hd.chain, .int .i64 u.sg.hd.height, .int .i64 u.sg.hd.time, .slice o1 u.sg.hd.root.length c1, .slice o2 u.sg.hd.vals.length c2, .slice o3 u.sg.hd.next.length c3, .slice o4 u.sg.vals.length c4, .slice o5 u.sg.votes.length c5, .slice o6 u.trusted.length c6], .pointer (some ⟨gc, 0, none⟩), .pointer (some ⟨gn, 0, none⟩)] wx fun e w' => e = .returned (.int .i64 (believeN c u now)) ∧ Below wx.heap.size wx w' from fun wx gc gn hx hr1 hr2 =>
      doubt_any c u now gc gn oa ca _ N wx (HTAB.out.below hx HTAB.out.lt) (Nat.le_trans hN hx.size) hr1 hr2 (HK.out.below (hx.mono hN)) (HUV.out.below (hx.mono hN)) HCF.out HUF.out HASK.out)
    have HCP := hid (show ∀ wx, Below w.heap.size w wx → Calls Tryz.prog 29 #[.agg #[.string c.chain, .int .i64 c.trust, .bool c.frozen, .slice oa c.known.length ca]] wx fun e w' => Below wx.heap.size wx w' ∧ ∃ o m ps, e = .returned (.agg #[.string c.chain, .int .i64 c.trust, .bool c.frozen, .slice o ps.length m]) ∧ OwnKn w' wx.heap.size (.slice o ps.length m) ps ∧ ps.map (·.k) = c.known from fun wx hx =>
      copiedCl_any c _ N wx (HCV.out.below (hx.mono hN)) (Nat.le_trans hN hx.size) HCF.out (by omega))
    have HKF := hid (show (knOf u.sg.hd).fits from ⟨HUF.out.1.1.2.1, HUF.out.1.1.2.2.2⟩)
    have HCK := hid (show ∀ wx, Below w.heap.size w wx → Calls Tryz.prog 35 #[.agg #[.int .i64 u.sg.hd.height, .int .i64 u.sg.hd.time, .slice o1 u.sg.hd.root.length c1, .slice o3 u.sg.hd.next.length c3]] wx fun e w' => Below wx.heap.size wx w' ∧ ∃ p1 d1 p2 d2, e = .returned (.agg #[.int .i64 (knOf u.sg.hd).height, .int .i64 (knOf u.sg.hd).time, .slice p1 (knOf u.sg.hd).root.length d1, .slice p2 (knOf u.sg.hd).next.length d2]) ∧ OwnB w' wx.heap.size (.slice p1 (knOf u.sg.hd).root.length d1) (knOf u.sg.hd).root ∧ OwnB w' wx.heap.size (.slice p2 (knOf u.sg.hd).next.length d2) (knOf u.sg.hd).next from fun wx hx =>
      copiedKnown_any (knOf u.sg.hd) (.agg #[.int .i64 u.sg.hd.height, .int .i64 u.sg.hd.time, .slice o1 u.sg.hd.root.length c1, .slice o3 u.sg.hd.next.length c3]) N wx ⟨_, _, rfl, HH1.out.below (hx.mono hN), HH3.out.below (hx.mono hN)⟩ (Nat.le_trans hN hx.size) HKF.out)
    have HLN := hid (show ∀ (wx : World) (base : Nat) (o : Option Addr) (m : Nat) (ps : List KnR) (rv nv : Value), ps.map (·.k) = c.known → OwnKn wx base (.slice o ps.length m) ps → OwnB wx base rv (knOf u.sg.hd).root → OwnB wx base nv (knOf u.sg.hd).next → base ≤ wx.heap.size → Calls Tryz.prog 34 #[.agg #[.string c.chain, .int .i64 c.trust, .bool false, .slice o ps.length m], .agg #[.int .i64 (knOf u.sg.hd).height, .int .i64 (knOf u.sg.hd).time, rv, nv]] wx fun e w' => Below base wx w' ∧ ∃ o' n' m', e = .returned (.agg #[.string c.chain, .int .i64 c.trust, .bool (learnC c (knOf u.sg.hd)).frozen, .slice o' n' m']) ∧ Knowns w' w'.heap.size (.slice o' n' m') (learnC c (knOf u.sg.hd)).known from fun wx base o m ps rv nv hps ho hr hn hb =>
      learn_any c ps ⟨knOf u.sg.hd, rv, nv⟩ o m base wx hps HFZ.out ho ⟨hr, hn⟩ hb HRIS.out (by have := congrArg List.length hps; rw [List.length_map] at this; omega))
    rw [HFZ.out] at HAS HDB HCP HRC0
    simp only [hfz] at a2
    have HW0' := hid HW0.out
    rw [HFZ.out] at HW0'
    rw [HFZ.out]
    clear hask hcw hfz hk1 hk30 hkall hkris hca HW0 HCV
    generalize hn : c.known.length = n at *
    clear hn
    go_enter Tryz.func14, Tryz.ntmps14
    go_wp2_with fail
    rw [HW0'.out]
    refine HAS.out.mono ?_
    rintro e w1 ⟨rfl, hb1⟩
    rw [HASK.out]
    have HB1 := hid (HB0.out.trans (hb1.mono HB0.out.size))
    have HRC1 := hid (HRC0.out.below hb1 HRC0.out.lt)
    have HRU1 := hid (HRU0.out.below hb1 HRU0.out.lt)
    have HRZ1 := hid (HRZ0.out.below hb1 HRZ0.out.lt)
    clear hb1 a0 a1 a2 a3
    have HBC := hid (show ∀ wx, Below w1.heap.size w1 wx → (((wx.cell? ⟨w.heap.size, 0, none⟩ = some (.string c.chain)) ∧ ((wx.cell? ⟨w.heap.size, 1, none⟩ = some (.int .i64 c.trust)) ∧ (wx.cell? ⟨w.heap.size, 2, none⟩ = some (.bool false)))) ∧ (((wx.cell? ⟨w.heap.size, 3, none⟩ = some (.slice oa n ca)) ∧ (wx.cell? ⟨w.heap.size + 1, 0, none⟩ = some (.int .i64 u.frm))) ∧ ((wx.cell? ⟨w.heap.size + 1, 1, none⟩ = some (.string u.sg.hd.chain)) ∧ (wx.cell? ⟨w.heap.size + 1, 2, none⟩ = some (.int .i64 u.sg.hd.height))))) ∧ (((wx.cell? ⟨w.heap.size + 1, 3, none⟩ = some (.int .i64 u.sg.hd.time)) ∧ ((wx.cell? ⟨w.heap.size + 1, 4, none⟩ = some (.slice o1 u.sg.hd.root.length c1)) ∧ (wx.cell? ⟨w.heap.size + 1, 5, none⟩ = some (.slice o2 u.sg.hd.vals.length c2)))) ∧ (((wx.cell? ⟨w.heap.size + 1, 6, none⟩ = some (.slice o3 u.sg.hd.next.length c3)) ∧ (wx.cell? ⟨w.heap.size + 1, 7, none⟩ = some (.slice o4 u.sg.vals.length c4))) ∧ ((wx.cell? ⟨w.heap.size + 1, 8, none⟩ = some (.slice o5 u.sg.votes.length c5)) ∧ (wx.cell? ⟨w.heap.size + 1, 9, none⟩ = some (.slice o6 u.trusted.length c6))))) from fun wx hx => ⟨⟨⟨(HRC1.out.below hx HRC1.out.lt).cell 0, ⟨(HRC1.out.below hx HRC1.out.lt).cell 1, (HRC1.out.below hx HRC1.out.lt).cell 2⟩⟩, ⟨⟨(HRC1.out.below hx HRC1.out.lt).cell 3, (HRU1.out.below hx HRU1.out.lt).cell 0⟩, ⟨(HRU1.out.below hx HRU1.out.lt).cell 1, (HRU1.out.below hx HRU1.out.lt).cell 2⟩⟩⟩, ⟨⟨(HRU1.out.below hx HRU1.out.lt).cell 3, ⟨(HRU1.out.below hx HRU1.out.lt).cell 4, (HRU1.out.below hx HRU1.out.lt).cell 5⟩⟩, ⟨⟨(HRU1.out.below hx HRU1.out.lt).cell 6, (HRU1.out.below hx HRU1.out.lt).cell 7⟩, ⟨(HRU1.out.below hx HRU1.out.lt).cell 8, (HRU1.out.below hx HRU1.out.lt).cell 9⟩⟩⟩⟩)
    have HBD := hid (show Below w1.heap.size w1 w1.drew from (Below.refl _ _).drew)
    have s0 := HBC.out w1 (Below.refl _ _)
    have s1 := HBC.out _ HBD.out
    go_wp2_with fail
    go_region_held3 (fun W => (((W.cell? ⟨w.heap.size, 0, none⟩ = some (.string c.chain)) ∧ ((W.cell? ⟨w.heap.size, 1, none⟩ = some (.int .i64 c.trust)) ∧ (W.cell? ⟨w.heap.size, 2, none⟩ = some (.bool false)))) ∧ (((W.cell? ⟨w.heap.size, 3, none⟩ = some (.slice oa n ca)) ∧ (W.cell? ⟨w.heap.size + 1, 0, none⟩ = some (.int .i64 u.frm))) ∧ ((W.cell? ⟨w.heap.size + 1, 1, none⟩ = some (.string u.sg.hd.chain)) ∧ (W.cell? ⟨w.heap.size + 1, 2, none⟩ = some (.int .i64 u.sg.hd.height))))) ∧ (((W.cell? ⟨w.heap.size + 1, 3, none⟩ = some (.int .i64 u.sg.hd.time)) ∧ ((W.cell? ⟨w.heap.size + 1, 4, none⟩ = some (.slice o1 u.sg.hd.root.length c1)) ∧ (W.cell? ⟨w.heap.size + 1, 5, none⟩ = some (.slice o2 u.sg.hd.vals.length c2)))) ∧ (((W.cell? ⟨w.heap.size + 1, 6, none⟩ = some (.slice o3 u.sg.hd.next.length c3)) ∧ (W.cell? ⟨w.heap.size + 1, 7, none⟩ = some (.slice o4 u.sg.vals.length c4))) ∧ ((W.cell? ⟨w.heap.size + 1, 8, none⟩ = some (.slice o5 u.sg.votes.length c5)) ∧ (W.cell? ⟨w.heap.size + 1, 9, none⟩ = some (.slice o6 u.trusted.length c6)))))) (first | assumption) (first
      | (go_at_call 33; refine (doubts_any c now oa ca false n _).mono ?_; rintro e w5 ⟨rfl, hr5, hs5, hb5⟩; have HB5 := hid (HBD.out.trans hb5); have s5 := HBC.out _ HB5.out; have HRD5 := hid hr5; have HRE5 := hid hs5; have HBW5 := hid (HB1.out.trans (HB5.out.mono HB1.out.size)); clear hb5 hr5 hs5)
      | (go_at_call 61; refine (HDB.out _ _ _ HBW5.out HRD5.out HRE5.out).mono ?_; rintro e w6 ⟨rfl, hb6⟩; have HB6 := hid (HB5.out.trans (hb6.mono HB5.out.size)); have s6 := HBC.out _ HB6.out; clear hb6))
    all_goals
      have HBW6 := hid (HB1.out.trans (HB6.out.mono HB1.out.size))
      have HRC6 := hid (HRC1.out.below HB6.out HRC1.out.lt)
      have HRU6 := hid (HRU1.out.below HB6.out HRU1.out.lt)
      have HRZ6 := hid (HRZ1.out.below HB6.out HRZ1.out.lt)
      clear s0 s1 s5 s6
      by_cases hbl : believeN c u now = 0
      · have HFE0 := hid (show followE c u now = 0 by rw [HFE.out, hbl])
        have HFC := hid (followC_yes HFE0.out)
        rw [hbl]
        clear hbl
        obtain ⟨gh, hgh⟩ : ∃ gh, w6.heap.size = gh := ⟨_, rfl⟩
        obtain ⟨w7, hw7⟩ : ∃ w7, w6.alloc (.cells #[.string u.sg.hd.chain, .int .i64 u.sg.hd.height, .int .i64 u.sg.hd.time, .slice o1 u.sg.hd.root.length c1, .slice o2 u.sg.hd.vals.length c2, .slice o3 u.sg.hd.next.length c3] 29) = w7 := ⟨_, rfl⟩
        have hb7 : Below w6.heap.size w6 w7 := by rw [← hw7]; exact (Below.refl _ _).alloc (Nat.le_refl _) _
        have HRH7 := hid (show Row w7 gh 29 [.string u.sg.hd.chain, .int .i64 u.sg.hd.height, .int .i64 u.sg.hd.time, .slice o1 u.sg.hd.root.length c1, .slice o2 u.sg.hd.vals.length c2, .slice o3 u.sg.hd.next.length c3] by rw [← hw7, ← hgh]; exact Row.new _ _ _)
        have HRC7 := hid (HRC6.out.below hb7 HRC6.out.lt)
        have HRZ7 := hid (HRZ6.out.below hb7 HRZ6.out.lt)
        have HBW7 := hid (HBW6.out.trans (hb7.mono HBW6.out.size))
        have HBC8 := hid (show ∀ wx, Below w7.heap.size w7 wx → (((wx.cell? ⟨w.heap.size, 0, none⟩ = some (.string c.chain)) ∧ (wx.cell? ⟨w.heap.size, 1, none⟩ = some (.int .i64 c.trust))) ∧ ((wx.cell? ⟨w.heap.size, 2, none⟩ = some (.bool false)) ∧ (wx.cell? ⟨w.heap.size, 3, none⟩ = some (.slice oa n ca)))) ∧ (((wx.cell? ⟨gh, 1, none⟩ = some (.int .i64 u.sg.hd.height)) ∧ (wx.cell? ⟨gh, 2, none⟩ = some (.int .i64 u.sg.hd.time))) ∧ ((wx.cell? ⟨gh, 3, none⟩ = some (.slice o1 u.sg.hd.root.length c1)) ∧ (wx.cell? ⟨gh, 5, none⟩ = some (.slice o3 u.sg.hd.next.length c3)))) from fun wx hx => ⟨⟨⟨(HRC7.out.below hx HRC7.out.lt).cell 0, (HRC7.out.below hx HRC7.out.lt).cell 1⟩, ⟨(HRC7.out.below hx HRC7.out.lt).cell 2, (HRC7.out.below hx HRC7.out.lt).cell 3⟩⟩, ⟨⟨(HRH7.out.below hx HRH7.out.lt).cell 1, (HRH7.out.below hx HRH7.out.lt).cell 2⟩, ⟨(HRH7.out.below hx HRH7.out.lt).cell 3, (HRH7.out.below hx HRH7.out.lt).cell 5⟩⟩⟩)
        have HBZ8 := hid (show ∀ (wx : World) (x : Bool) (o9 : Option Addr) (n9 m9 : Nat), Below w7.heap.size w7 wx → ((((set4 wx (w.heap.size + 1 + 1) (.string c.chain) (.int .i64 c.trust) (.bool x) (.slice o9 n9 m9)).cell? ⟨w.heap.size, 0, none⟩ = some (.string c.chain)) ∧ ((set4 wx (w.heap.size + 1 + 1) (.string c.chain) (.int .i64 c.trust) (.bool x) (.slice o9 n9 m9)).cell? ⟨w.heap.size, 1, none⟩ = some (.int .i64 c.trust))) ∧ (((set4 wx (w.heap.size + 1 + 1) (.string c.chain) (.int .i64 c.trust) (.bool x) (.slice o9 n9 m9)).cell? ⟨w.heap.size, 2, none⟩ = some (.bool false)) ∧ ((set4 wx (w.heap.size + 1 + 1) (.string c.chain) (.int .i64 c.trust) (.bool x) (.slice o9 n9 m9)).cell? ⟨w.heap.size, 3, none⟩ = some (.slice oa n ca)))) ∧ ((((set4 wx (w.heap.size + 1 + 1) (.string c.chain) (.int .i64 c.trust) (.bool x) (.slice o9 n9 m9)).cell? ⟨gh, 1, none⟩ = some (.int .i64 u.sg.hd.height)) ∧ ((set4 wx (w.heap.size + 1 + 1) (.string c.chain) (.int .i64 c.trust) (.bool x) (.slice o9 n9 m9)).cell? ⟨gh, 2, none⟩ = some (.int .i64 u.sg.hd.time))) ∧ (((set4 wx (w.heap.size + 1 + 1) (.string c.chain) (.int .i64 c.trust) (.bool x) (.slice o9 n9 m9)).cell? ⟨gh, 3, none⟩ = some (.slice o1 u.sg.hd.root.length c1)) ∧ ((set4 wx (w.heap.size + 1 + 1) (.string c.chain) (.int .i64 c.trust) (.bool x) (.slice o9 n9 m9)).cell? ⟨gh, 5, none⟩ = some (.slice o3 u.sg.hd.next.length c3)))) from fun wx x o9 n9 m9 hx => by
          have hz := HRZ7.out.below hx HRZ7.out.lt
          have ho := set4_other wx (w.heap.size + 1 + 1) (.string c.chain) (.int .i64 c.trust) (.bool x) (.slice o9 n9 m9)
          have hne : gh ≠ w.heap.size + 1 + 1 := by have := HRZ6.out.lt; omega
          have r1 : Row (set4 wx (w.heap.size + 1 + 1) (.string c.chain) (.int .i64 c.trust) (.bool x) (.slice o9 n9 m9)) w.heap.size 24 [.string c.chain, .int .i64 c.trust, .bool false, .slice oa n ca] := by
            have := HRC7.out.below hx HRC7.out.lt
            unfold Row at *
            rw [ho _ (by omega)]
            exact this
          have r2 : Row (set4 wx (w.heap.size + 1 + 1) (.string c.chain) (.int .i64 c.trust) (.bool x) (.slice o9 n9 m9)) gh 29 [.string u.sg.hd.chain, .int .i64 u.sg.hd.height, .int .i64 u.sg.hd.time, .slice o1 u.sg.hd.root.length c1, .slice o2 u.sg.hd.vals.length c2, .slice o3 u.sg.hd.next.length c3] := by
            have := HRH7.out.below hx HRH7.out.lt
            unfold Row at *
            rw [ho _ hne]
            exact this
          exact ⟨⟨⟨(r1).cell 0, (r1).cell 1⟩, ⟨(r1).cell 2, (r1).cell 3⟩⟩, ⟨⟨(r2).cell 1, (r2).cell 2⟩, ⟨(r2).cell 3, (r2).cell 5⟩⟩⟩)
        have HBD8 := hid (show Below w7.heap.size w7 w7.drew from (Below.refl _ _).drew)
        have HBWD := hid (HBW7.out.trans (HBD8.out.mono HBW7.out.size))
        have t0 := HBC8.out w7 (Below.refl _ _)
        have t1 := HBC8.out _ HBD8.out
        have HW7 := hid hw7
        have HGH := hid hgh
        obtain ⟨⟨i0, i1, i2, i3, i4⟩, i5, i6, i7, i8, i9⟩ := HRU6.out.ten
        clear hgh hw7 hb7
        go_wp2_with fail
        rw [HW7.out, HGH.out]
        clear i0 i1 i2 i3 i4 i5 i6 i7 i8 i9
        go_region_held3 (fun W => (((W.cell? ⟨w.heap.size, 0, none⟩ = some (.string c.chain)) ∧ (W.cell? ⟨w.heap.size, 1, none⟩ = some (.int .i64 c.trust))) ∧ ((W.cell? ⟨w.heap.size, 2, none⟩ = some (.bool false)) ∧ (W.cell? ⟨w.heap.size, 3, none⟩ = some (.slice oa n ca)))) ∧ (((W.cell? ⟨gh, 1, none⟩ = some (.int .i64 u.sg.hd.height)) ∧ (W.cell? ⟨gh, 2, none⟩ = some (.int .i64 u.sg.hd.time))) ∧ ((W.cell? ⟨gh, 3, none⟩ = some (.slice o1 u.sg.hd.root.length c1)) ∧ (W.cell? ⟨gh, 5, none⟩ = some (.slice o3 u.sg.hd.next.length c3))))) (first | assumption) (first
          | (go_at_call 29; refine (HCP.out _ HBWD.out).mono ?_; rintro e w9 ⟨hb9, o8, m8, ps, rfl, hown9, hps⟩; have HB9 := hid (HBD8.out.trans hb9); have HBW9 := hid (HBW7.out.trans (HB9.out.mono HBW7.out.size)); have t9 := HBC8.out _ HB9.out; have HO9 := hid hown9; have HPS := hid hps; clear hb9 hown9 hps)
          | (go_at_call 35; refine (HCK.out _ HBW9.out).mono ?_; rintro e w10 ⟨hb10, p1, d1, p2, d2, rfl, hx1, hx2⟩; have HB10 := hid (HB9.out.trans (hb10.mono HB9.out.size)); have HBW10 := hid (HBW7.out.trans (HB10.out.mono HBW7.out.size)); have t10 := HBC8.out _ HB10.out; have HO10 := hid (show OwnKn w10 w7.heap.size (.slice o8 ps.length m8) ps from HO9.out.below hb10); have HX1 := hid (hx1.mono HB9.out.size); have HX2 := hid (hx2.mono HB9.out.size); clear hb10 hx1 hx2)
          | (go_at_call 34; refine (HLN.out _ w7.heap.size o8 m8 ps _ _ HPS.out HO10.out HX1.out HX2.out HB10.out.size).mono ?_; rintro e w11 ⟨hb11, o9, n9, m9, rfl, hkn11⟩; have HB11 := hid (HB10.out.trans hb11); have HBW11 := hid (HBW7.out.trans (HB11.out.mono HBW7.out.size)); have t11 := HBC8.out _ HB11.out; have t12 : (((((((w11.setCell ⟨w.heap.size + 1 + 1, 0, none⟩ (.string c.chain)).setCell ⟨w.heap.size + 1 + 1, 1, none⟩ (.int .i64 c.trust)).setCell ⟨w.heap.size + 1 + 1, 2, none⟩ (.bool (learnC c (knOf u.sg.hd)).frozen)).setCell ⟨w.heap.size + 1 + 1, 3, none⟩ (.slice o9 n9 m9)).cell? ⟨w.heap.size, 0, none⟩ = some (.string c.chain)) ∧ (((((w11.setCell ⟨w.heap.size + 1 + 1, 0, none⟩ (.string c.chain)).setCell ⟨w.heap.size + 1 + 1, 1, none⟩ (.int .i64 c.trust)).setCell ⟨w.heap.size + 1 + 1, 2, none⟩ (.bool (learnC c (knOf u.sg.hd)).frozen)).setCell ⟨w.heap.size + 1 + 1, 3, none⟩ (.slice o9 n9 m9)).cell? ⟨w.heap.size, 1, none⟩ = some (.int .i64 c.trust))) ∧ ((((((w11.setCell ⟨w.heap.size + 1 + 1, 0, none⟩ (.string c.chain)).setCell ⟨w.heap.size + 1 + 1, 1, none⟩ (.int .i64 c.trust)).setCell ⟨w.heap.size + 1 + 1, 2, none⟩ (.bool (learnC c (knOf u.sg.hd)).frozen)).setCell ⟨w.heap.size + 1 + 1, 3, none⟩ (.slice o9 n9 m9)).cell? ⟨w.heap.size, 2, none⟩ = some (.bool false)) ∧ (((((w11.setCell ⟨w.heap.size + 1 + 1, 0, none⟩ (.string c.chain)).setCell ⟨w.heap.size + 1 + 1, 1, none⟩ (.int .i64 c.trust)).setCell ⟨w.heap.size + 1 + 1, 2, none⟩ (.bool (learnC c (knOf u.sg.hd)).frozen)).setCell ⟨w.heap.size + 1 + 1, 3, none⟩ (.slice o9 n9 m9)).cell? ⟨w.heap.size, 3, none⟩ = some (.slice oa n ca)))) ∧ (((((((w11.setCell ⟨w.heap.size + 1 + 1, 0, none⟩ (.string c.chain)).setCell ⟨w.heap.size + 1 + 1, 1, none⟩ (.int .i64 c.trust)).setCell ⟨w.heap.size + 1 + 1, 2, none⟩ (.bool (learnC c (knOf u.sg.hd)).frozen)).setCell ⟨w.heap.size + 1 + 1, 3, none⟩ (.slice o9 n9 m9)).cell? ⟨gh, 1, none⟩ = some (.int .i64 u.sg.hd.height)) ∧ (((((w11.setCell ⟨w.heap.size + 1 + 1, 0, none⟩ (.string c.chain)).setCell ⟨w.heap.size + 1 + 1, 1, none⟩ (.int .i64 c.trust)).setCell ⟨w.heap.size + 1 + 1, 2, none⟩ (.bool (learnC c (knOf u.sg.hd)).frozen)).setCell ⟨w.heap.size + 1 + 1, 3, none⟩ (.slice o9 n9 m9)).cell? ⟨gh, 2, none⟩ = some (.int .i64 u.sg.hd.time))) ∧ ((((((w11.setCell ⟨w.heap.size + 1 + 1, 0, none⟩ (.string c.chain)).setCell ⟨w.heap.size + 1 + 1, 1, none⟩ (.int .i64 c.trust)).setCell ⟨w.heap.size + 1 + 1, 2, none⟩ (.bool (learnC c (knOf u.sg.hd)).frozen)).setCell ⟨w.heap.size + 1 + 1, 3, none⟩ (.slice o9 n9 m9)).cell? ⟨gh, 3, none⟩ = some (.slice o1 u.sg.hd.root.length c1)) ∧ (((((w11.setCell ⟨w.heap.size + 1 + 1, 0, none⟩ (.string c.chain)).setCell ⟨w.heap.size + 1 + 1, 1, none⟩ (.int .i64 c.trust)).setCell ⟨w.heap.size + 1 + 1, 2, none⟩ (.bool (learnC c (knOf u.sg.hd)).frozen)).setCell ⟨w.heap.size + 1 + 1, 3, none⟩ (.slice o9 n9 m9)).cell? ⟨gh, 5, none⟩ = some (.slice o3 u.sg.hd.next.length c3)))) := HBZ8.out w11 (learnC c (knOf u.sg.hd)).frozen o9 n9 m9 HB11.out; have HKN11 := hid hkn11; have HRZ11 := hid (HRZ7.out.below HB11.out HRZ7.out.lt); obtain ⟨⟨x0, x1, x2, x3⟩, z0, z1, z2, z3⟩ := HRZ11.out.four; clear hb11 hkn11))
        all_goals
          clear t0 t1 t9 t10 t11 t12
          go_wp2
          have hrz := set4_row HRZ11.out (.string c.chain) (.int .i64 c.trust) (.bool (learnC c (knOf u.sg.hd)).frozen) (.slice o9 n9 m9)
          obtain ⟨⟨u0, u1, u2, u3⟩, _⟩ := hrz.four
          have hbz := set4_below HBW11.out (show w.heap.size ≤ w.heap.size + 1 + 1 by omega) (.string c.chain) (.int .i64 c.trust) (.bool (learnC c (knOf u.sg.hd)).frozen) (.slice o9 n9 m9)
          have hkz := (HKN11.out.cl HRZ11.out (set4_other w11 (w.heap.size + 1 + 1) (.string c.chain) (.int .i64 c.trust) (.bool (learnC c (knOf u.sg.hd)).frozen) (.slice o9 n9 m9))).mono (Nat.le_of_eq (set4_size w11 (w.heap.size + 1 + 1) (.string c.chain) (.int .i64 c.trust) (.bool (learnC c (knOf u.sg.hd)).frozen) (.slice o9 n9 m9)).symm)
          unfold set4 at u0 u1 u2 u3
          refine bodyPost_ret (v := .tuple #[.agg #[.string c.chain, .int .i64 c.trust, .bool (learnC c (knOf u.sg.hd)).frozen, .slice o9 n9 m9], .int .i64 0]) (by simp [results, Tryz.results14, go_sem, u0, u1, u2, u3]) rfl ⟨hbz, o9, n9, m9, ?_⟩
          rw [HFC.out, HFE0.out, learn_same.1, learn_same.2]
          exact ⟨rfl, hkz⟩
      · have HFC := hid (followC_no (c := c) (u := u) (now := now) (by rw [HFE.out]; exact hbl))
        have e1 : (believeN c u now != 0) = true := by simpa using hbl
        clear hbl
        generalize believeN c u now = z at *
        obtain ⟨⟨x0, x1, x2, x3⟩, z0, z1, z2, z3⟩ := HRZ6.out.four
        go_wp2
        have hrz := set4_row HRZ6.out (.string ⟨#[]⟩) (.int .i64 0) (.bool false) (.slice none 0 0)
        obtain ⟨⟨u0, u1, u2, u3⟩, _⟩ := hrz.four
        have hbz := set4_below HBW6.out (show w.heap.size ≤ w.heap.size + 1 + 1 by omega) (.string ⟨#[]⟩) (.int .i64 0) (.bool false) (.slice none 0 0)
        unfold set4 at u0 u1 u2 u3
        refine bodyPost_ret (v := .tuple #[.agg #[.string ⟨#[]⟩, .int .i64 0, .bool false, .slice none 0 0], .int .i64 z]) (by simp [results, Tryz.results14, go_sem, u0, u1, u2, u3]) rfl ⟨hbz, none, 0, 0, ?_⟩
        rw [HFC.out, HFE.out]
        exact ⟨rfl, Knowns.nil _ _⟩
  · have HFE := hid (followE_ask (u := u) hask)
    have HFC := hid (followC_no (c := c) (u := u) (now := now) (by rw [HFE.out]; exact hask))
    have e1 : (askedN c now != 0) = true := by simpa using hask
    clear hask
    generalize askedN c now = z at *
    go_enter Tryz.func14, Tryz.ntmps14
    go_wp2_with fail
    rw [HW0.out]
    refine HAS.out.mono ?_
    rintro e w1 ⟨rfl, hb1⟩
    have HB1 := hid (HB0.out.trans (hb1.mono HB0.out.size))
    have HRZ1 := hid (HRZ0.out.below hb1 HRZ0.out.lt)
    obtain ⟨⟨x0, x1, x2, x3⟩, z0, z1, z2, z3⟩ := HRZ1.out.four
    clear hb1 a0 a1 a2 a3
    go_wp2
    have hrz := set4_row HRZ1.out (.string ⟨#[]⟩) (.int .i64 0) (.bool false) (.slice none 0 0)
    obtain ⟨⟨u0, u1, u2, u3⟩, _⟩ := hrz.four
    have hbz := set4_below HB1.out (show w.heap.size ≤ w.heap.size + 1 + 1 by omega) (.string ⟨#[]⟩) (.int .i64 0) (.bool false) (.slice none 0 0)
    unfold set4 at u0 u1 u2 u3
    refine bodyPost_ret (v := .tuple #[.agg #[.string ⟨#[]⟩, .int .i64 0, .bool false, .slice none 0 0], .int .i64 z]) (by simp [results, Tryz.results14, go_sem, u0, u1, u2, u3]) rfl ⟨hbz, none, 0, 0, ?_⟩
    rw [HFC.out, HFE.out]
    exact ⟨rfl, Knowns.nil _ _⟩
end Go.Proofs.YtiflkkelbnpniaaGreatDoor
