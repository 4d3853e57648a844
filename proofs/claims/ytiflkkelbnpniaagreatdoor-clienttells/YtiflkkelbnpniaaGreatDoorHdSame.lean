/-
  What the document's SameHeader and SameSigned answer: whether two headers are the same; that a signed header is the same as itself.
-/
import Derived.Test.YtiflkkelbnpniaaGreatDoorHdMems
import Derived.Test.YtiflkkelbnpniaaGreatDoorSameB
import Derived.Test.YtiflkkelbnpniaaGreatDoorSealGood
namespace Go.Proofs.YtiflkkelbnpniaaGreatDoor
open Go.RowKit

set_option maxRecDepth 100000 in
set_option maxHeartbeats 4000000 in
theorem sameHeader_any (a b : Hd) (va vb : Value) (N : Nat) (w : World) (hN : N ≤ w.heap.size) (ha : HdV w N va a) (hb : HdV w N vb b) (fa : a.fits) (fb : b.fits) :
    Calls Tryz.prog 41 #[va, vb] w fun e w' => (∃ r, e = .returned (.bool r) ∧ (r = true ↔ a = b)) ∧ Below w.heap.size w w' := by
  obtain ⟨rv, vv, nv, rfl, h1, h2, h3⟩ := ha
  obtain ⟨rv', vv', nv', rfl, g1, g2, g3⟩ := hb
  have H1 := hid h1
  have H2 := hid h2
  have H3 := hid h3
  have G1 := hid g1
  have G2 := hid g2
  have G3 := hid g3
  obtain ⟨o1, c1, rfl, _⟩ := h1.shape
  obtain ⟨o2, c2, rfl, _⟩ := h2.shape
  obtain ⟨o3, c3, rfl, _⟩ := h3.shape
  obtain ⟨p1, d1, rfl, _⟩ := g1.shape
  obtain ⟨p2, d2, rfl, _⟩ := g2.shape
  obtain ⟨p3, d3, rfl, _⟩ := g3.shape
  obtain ⟨_, fa1, fa2, fa3⟩ := fa
  obtain ⟨_, fb1, fb2, fb3⟩ := fb
  clear h1 h2 h3 g1 g2 g3
  obtain ⟨w0, hw0⟩ : ∃ w0, w.alloc (.cells #[.string a.chain, .int .i64 a.height, .int .i64 a.time, .slice o1 a.root.length c1, .slice o2 a.vals.length c2, .slice o3 a.next.length c3] 29) = w0 := ⟨_, rfl⟩
  have hb0 : Below w.heap.size w w0 := by rw [← hw0]; exact (Below.refl _ _).alloc (Nat.le_refl _) _
  have hr0 : Row w0 w.heap.size 29 [.string a.chain, .int .i64 a.height, .int .i64 a.time, .slice o1 a.root.length c1, .slice o2 a.vals.length c2, .slice o3 a.next.length c3] := by rw [← hw0]; exact Row.new _ _ _
  have hsz0 : w0.heap.size = w.heap.size + 1 := by rw [← hw0]; simp
  obtain ⟨w1, hw1⟩ : ∃ w1, w0.alloc (.cells #[.string b.chain, .int .i64 b.height, .int .i64 b.time, .slice p1 b.root.length d1, .slice p2 b.vals.length d2, .slice p3 b.next.length d3] 29) = w1 := ⟨_, rfl⟩
  have hb1 : Below w0.heap.size w0 w1 := by rw [← hw1]; exact (Below.refl _ _).alloc (Nat.le_refl _) _
  have hr1 := hr0.below hb1 hr0.lt
  have hs1 : Row w1 (w.heap.size + 1) 29 [.string b.chain, .int .i64 b.height, .int .i64 b.time, .slice p1 b.root.length d1, .slice p2 b.vals.length d2, .slice p3 b.next.length d3] := by rw [← hw1, ← hsz0]; exact Row.new _ _ _
  have HB1 := hid (hb0.trans (hb1.mono hb0.size))
  have HR := hid hr1
  have HS := hid hs1
  have HC1 := hid (show ∀ q, Calls Tryz.prog 21 #[.slice o1 a.root.length c1, .slice p1 b.root.length d1] (w1.drewN q) fun e w' => e = .returned (.bool (decide (a.root = b.root))) ∧ ∃ n, w' = w1.drewN n from fun q =>
    (sameB_any a.root b.root _ _ N N (w1.drewN q) ((H1.out.below (HB1.out.mono hN)).below (below_drewH _ _ _)) ((G1.out.below (HB1.out.mono hN)).below (below_drewH _ _ _)) (by omega) (by omega)).mono fun e w' ⟨h1, n, h2⟩ => ⟨h1, q + n, by rw [h2, drewN_add]⟩)
  have HC2 := hid (show ∀ q, Calls Tryz.prog 21 #[.slice o2 a.vals.length c2, .slice p2 b.vals.length d2] (w1.drewN q) fun e w' => e = .returned (.bool (decide (a.vals = b.vals))) ∧ ∃ n, w' = w1.drewN n from fun q =>
    (sameB_any a.vals b.vals _ _ N N (w1.drewN q) ((H2.out.below (HB1.out.mono hN)).below (below_drewH _ _ _)) ((G2.out.below (HB1.out.mono hN)).below (below_drewH _ _ _)) (by omega) (by omega)).mono fun e w' ⟨h1, n, h2⟩ => ⟨h1, q + n, by rw [h2, drewN_add]⟩)
  have HC3 := hid (show ∀ q, Calls Tryz.prog 21 #[.slice o3 a.next.length c3, .slice p3 b.next.length d3] (w1.drewN q) fun e w' => e = .returned (.bool (decide (a.next = b.next))) ∧ ∃ n, w' = w1.drewN n from fun q =>
    (sameB_any a.next b.next _ _ N N (w1.drewN q) ((H3.out.below (HB1.out.mono hN)).below (below_drewH _ _ _)) ((G3.out.below (HB1.out.mono hN)).below (below_drewH _ _ _)) (by omega) (by omega)).mono fun e w' ⟨h1, n, h2⟩ => ⟨h1, q + n, by rw [h2, drewN_add]⟩)
  have kk : ∀ q i, (w1.drewN q).cell? ⟨w.heap.size, i, none⟩ = ([.string a.chain, .int .i64 a.height, .int .i64 a.time, .slice o1 a.root.length c1, .slice o2 a.vals.length c2, .slice o3 a.next.length c3] : List Value)[i]? := fun q i => HR.out.cell i
  have jj : ∀ q i, (w1.drewN q).cell? ⟨w.heap.size + 1, i, none⟩ = ([.string b.chain, .int .i64 b.height, .int .i64 b.time, .slice p1 b.root.length d1, .slice p2 b.vals.length d2, .slice p3 b.next.length d3] : List Value)[i]? := fun q i => HS.out.cell i
  have k0 := HR.out.cell 0
  have k1 := HR.out.cell 1
  have k2 := HR.out.cell 2
  have k3 := HR.out.cell 3
  have j0 := HS.out.cell 0
  have j1 := HS.out.cell 1
  have j2 := HS.out.cell 2
  have j3 := HS.out.cell 3
  have k4 := fun q => kk q 4
  have k5 := fun q => kk q 5
  have j4 := fun q => jj q 4
  have j5 := fun q => jj q 5
  simp at k0 k1 k2 k3 k4 k5 j0 j1 j2 j3 j4 j5
  have HEQ := hid (show a = b ↔ a.chain = b.chain ∧ a.height = b.height ∧ a.time = b.time ∧ a.root = b.root ∧ a.vals = b.vals ∧ a.next = b.next by
    constructor
    · rintro rfl; exact ⟨rfl, rfl, rfl, rfl, rfl, rfl⟩
    · rintro ⟨h1, h2, h3, h4, h5, h6⟩
      obtain ⟨a1, a2, a3, a4, a5, a6⟩ := a
      obtain ⟨b1, b2, b3, b4, b5, b6⟩ := b
      simp at h1 h2 h3 h4 h5 h6
      rw [h1, h2, h3, h4, h5, h6])
  clear hb0 hr0 hb1 hr1 hs1 kk jj HR HS
  have hne : ∀ {s t : ByteArray}, s ≠ t → (s.toList == t.toList) = false := fun {s t} h => by
    rw [beq_eq_false_iff_ne]
    intro e
    exact h (by
      rw [Go.ByteArray.toList_eq, Go.ByteArray.toList_eq] at e
      obtain ⟨x⟩ := s
      obtain ⟨y⟩ := t
      simp at e
      rw [e])
  by_cases q1 : a.chain = b.chain
  · have e1 : (a.chain.toList == b.chain.toList) = true := by simp [q1]
    by_cases q2 : a.height = b.height
    · have e2 : (a.height == b.height) = true := by simp [q2]
      by_cases q3 : a.time = b.time
      · have e3 : (a.time == b.time) = true := by simp [q3]
        have HQ := hid (show a.chain = b.chain ∧ a.height = b.height ∧ a.time = b.time from ⟨q1, q2, q3⟩)
        clear q1 q2 q3 hne
        by_cases q4 : a.root = b.root
        · rw [decide_eq_true q4] at HC1
          have HQ4 := hid q4
          clear q4
          by_cases q5 : a.vals = b.vals
          · rw [decide_eq_true q5] at HC2
            have HQ5 := hid q5
            clear q5
            by_cases q6 : a.next = b.next
            · rw [decide_eq_true q6] at HC3
              have HQ6 := hid q6
              clear q6
              go_enter Tryz.func41, Tryz.ntmps41
              go_wp2_with fail
              refine (HC1.out 0).mono ?_
              rintro e w2 ⟨rfl, n1, rfl⟩
              go_wp2_with fail
              refine (HC2.out n1).mono ?_
              rintro e w2 ⟨rfl, n2, rfl⟩
              go_wp2_with fail
              refine (HC3.out n2).mono ?_
              rintro e w2 ⟨rfl, n3, rfl⟩
              go_wp2
              go_ret
              exact ⟨⟨true, rfl, fun _ => HEQ.out.2 ⟨HQ.out.1, HQ.out.2.1, HQ.out.2.2, HQ4.out, HQ5.out, HQ6.out⟩, fun _ => rfl⟩, HB1.out.trans (below_drewH _ _ _)⟩
            · rw [decide_eq_false q6] at HC3
              have HQ6 := hid q6
              clear q6
              go_enter Tryz.func41, Tryz.ntmps41
              go_wp2_with fail
              refine (HC1.out 0).mono ?_
              rintro e w2 ⟨rfl, n1, rfl⟩
              go_wp2_with fail
              refine (HC2.out n1).mono ?_
              rintro e w2 ⟨rfl, n2, rfl⟩
              go_wp2_with fail
              refine (HC3.out n2).mono ?_
              rintro e w2 ⟨rfl, n3, rfl⟩
              go_wp2
              go_ret
              exact ⟨⟨false, rfl, (fun h => absurd h (by decide)), fun h => absurd (HEQ.out.1 h).2.2.2.2.2 HQ6.out⟩, HB1.out.trans (below_drewH _ _ _)⟩
          · rw [decide_eq_false q5] at HC2
            have HQ5 := hid q5
            clear q5
            go_enter Tryz.func41, Tryz.ntmps41
            go_wp2_with fail
            refine (HC1.out 0).mono ?_
            rintro e w2 ⟨rfl, n1, rfl⟩
            go_wp2_with fail
            refine (HC2.out n1).mono ?_
            rintro e w2 ⟨rfl, n2, rfl⟩
            go_wp2
            go_ret
            exact ⟨⟨false, rfl, (fun h => absurd h (by decide)), fun h => absurd (HEQ.out.1 h).2.2.2.2.1 HQ5.out⟩, HB1.out.trans (below_drewH _ _ _)⟩
        · rw [decide_eq_false q4] at HC1
          have HQ4 := hid q4
          clear q4
          go_enter Tryz.func41, Tryz.ntmps41
          go_wp2_with fail
          refine (HC1.out 0).mono ?_
          rintro e w2 ⟨rfl, n1, rfl⟩
          go_wp2
          go_ret
          exact ⟨⟨false, rfl, (fun h => absurd h (by decide)), fun h => absurd (HEQ.out.1 h).2.2.2.1 HQ4.out⟩, HB1.out.trans (below_drewH _ _ _)⟩
      · have e3 : (a.time == b.time) = false := by simp [q3]
        have HQ := hid q3
        clear q1 q2 q3 hne
        go_enter Tryz.func41, Tryz.ntmps41
        go_wp2
        go_ret
        exact ⟨⟨false, rfl, (fun h => absurd h (by decide)), fun h => absurd (HEQ.out.1 h).2.2.1 HQ.out⟩, HB1.out⟩
    · have e2 : (a.height == b.height) = false := by simp [q2]
      have HQ := hid q2
      clear q1 q2 hne
      go_enter Tryz.func41, Tryz.ntmps41
      go_wp2
      go_ret
      exact ⟨⟨false, rfl, (fun h => absurd h (by decide)), fun h => absurd (HEQ.out.1 h).2.1 HQ.out⟩, HB1.out⟩
  · have e1 := hne q1
    have HQ := hid q1
    clear q1 hne
    go_enter Tryz.func41, Tryz.ntmps41
    go_wp2
    go_ret
    exact ⟨⟨false, rfl, (fun h => absurd h (by decide)), fun h => absurd (HEQ.out.1 h).1 HQ.out⟩, HB1.out⟩
end Go.Proofs.YtiflkkelbnpniaaGreatDoor
