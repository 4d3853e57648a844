/-
  What the document's SameHeader and SameSigned answer: whether two headers are the same; that a signed header is the same as itself.
-/
import Derived.Test.YtfpngilmdgeikaaDoorHdMems
import Derived.Test.YtfpngilmdgeikaaDoorHdNameVals
import Derived.Test.YtfpngilmdgeikaaDoorSameB
import Derived.Test.YtfpngilmdgeikaaDoorSealDivs
namespace Go.Proofs.YtfpngilmdgeikaaDoor
open Go.RowKit

set_option maxRecDepth 100000 in
set_option maxHeartbeats 4000000 in
theorem sameHeader_any (a b : Hd) (va vb : Value) (N : Nat) (w : World) (hN : N ≤ w.heap.size) (ha : HdV w N va a) (hb : HdV w N vb b) (fa : a.fits) (fb : b.fits) :
    Calls Tryd.prog 32 #[va, vb] w fun e w' => (∃ r, e = .returned (.bool r) ∧ (r = true ↔ a = b)) ∧ Below w.heap.size w w' := by
  obtain ⟨rv, vv, nv, rfl, h1, h2, h3⟩ := ha
  obtain ⟨rv', vv', nv', rfl, g1, g2, g3⟩ := hb
  have H1 := hid h1
  have H2 := hid h2
  have H3 := hid h3
  have G1 := hid g1
  have G2 := hid g2
  have G3 := hid g3
  obtain ⟨o1, c1, rfl, _⟩ := h1.shape
  obtain ⟨o2, c2, rfl, _⟩ := h2.shape
  obtain ⟨o3, c3, rfl, _⟩ := h3.shape
  obtain ⟨p1, d1, rfl, _⟩ := g1.shape
  obtain ⟨p2, d2, rfl, _⟩ := g2.shape
  obtain ⟨p3, d3, rfl, _⟩ := g3.shape
  obtain ⟨_, fa1, fa2, fa3⟩ := fa
  obtain ⟨_, fb1, fb2, fb3⟩ := fb
  clear h1 h2 h3 g1 g2 g3
  obtain ⟨w0, hw0⟩ : ∃ w0, w.alloc (.cells #[.string a.chain, .int .i64 a.height, .int .i64 a.time, .slice o1 a.root.length c1, .slice o2 a.vals.length c2, .slice o3 a.next.length c3] 25) = w0 := ⟨_, rfl⟩
  have hb0 : Below w.heap.size w w0 := by rw [← hw0]; exact (Below.refl _ _).alloc (Nat.le_refl _) _
  have hr0 : Row w0 w.heap.size 25 [.string a.chain, .int .i64 a.height, .int .i64 a.time, .slice o1 a.root.length c1, .slice o2 a.vals.length c2, .slice o3 a.next.length c3] := by rw [← hw0]; exact Row.new _ _ _
  have hsz0 : w0.heap.size = w.heap.size + 1 := by rw [← hw0]; simp
  obtain ⟨w1, hw1⟩ : ∃ w1, w0.alloc (.cells #[.string b.chain, .int .i64 b.height, .int .i64 b.time, .slice p1 b.root.length d1, .slice p2 b.vals.length d2, .slice p3 b.next.length d3] 25) = w1 := ⟨_, rfl⟩
  have hb1 : Below w0.heap.size w0 w1 := by rw [← hw1]; exact (Below.refl _ _).alloc (Nat.le_refl _) _
  have hr1 := hr0.below hb1 hr0.lt
  have hs1 : Row w1 (w.heap.size + 1) 25 [.string b.chain, .int .i64 b.height, .int .i64 b.time, .slice p1 b.root.length d1, .slice p2 b.vals.length d2, .slice p3 b.next.length d3] := by rw [← hw1, ← hsz0]; exact Row.new _ _ _
  have HB1 := hid (hb0.trans (hb1.mono hb0.size))
  have HR := hid hr1
  have HS := hid hs1
  have HC1 := hid (show ∀ q, Calls Tryd.prog 22 #[.slice o1 a.root.length c1, .slice p1 b.root.length d1] (w1.drewN q) fun e w' => e = .returned (.bool (decide (a.root = b.root))) ∧ ∃ n, w' = w1.drewN n from fun q =>
    (sameB_any a.root b.root _ _ N N (w1.drewN q) ((H1.out.below (HB1.out.mono hN)).below (below_drewH _ _ _)) ((G1.out.below (HB1.out.mono hN)).below (below_drewH _ _ _)) (by omega) (by omega)).mono fun e w' ⟨h1, n, h2⟩ => ⟨h1, q + n, by rw [h2, drewN_add]⟩)
  have HC2 := hid (show ∀ q, Calls Tryd.prog 22 #[.slice o2 a.vals.length c2, .slice p2 b.vals.length d2] (w1.drewN q) fun e w' => e = .returned (.bool (decide (a.vals = b.vals))) ∧ ∃ n, w' = w1.drewN n from fun q =>
    (sameB_any a.vals b.vals _ _ N N (w1.drewN q) ((H2.out.below (HB1.out.mono hN)).below (below_drewH _ _ _)) ((G2.out.below (HB1.out.mono hN)).below (below_drewH _ _ _)) (by omega) (by omega)).mono fun e w' ⟨h1, n, h2⟩ => ⟨h1, q + n, by rw [h2, drewN_add]⟩)
  have HC3 := hid (show ∀ q, Calls Tryd.prog 22 #[.slice o3 a.next.length c3, .slice p3 b.next.length d3] (w1.drewN q) fun e w' => e = .returned (.bool (decide (a.next = b.next))) ∧ ∃ n, w' = w1.drewN n from fun q =>
    (sameB_any a.next b.next _ _ N N (w1.drewN q) ((H3.out.below (HB1.out.mono hN)).below (below_drewH _ _ _)) ((G3.out.below (HB1.out.mono hN)).below (below_drewH _ _ _)) (by omega) (by omega)).mono fun e w' ⟨h1, n, h2⟩ => ⟨h1, q + n, by rw [h2, drewN_add]⟩)
  have kk : ∀ q i, (w1.drewN q).cell? ⟨w.heap.size, i, none⟩ = ([.string a.chain, .int .i64 a.height, .int .i64 a.time, .slice o1 a.root.length c1, .slice o2 a.vals.length c2, .slice o3 a.next.length c3] : List Value)[i]? := fun q i => HR.out.cell i
  have jj : ∀ q i, (w1.drewN q).cell? ⟨w.heap.size + 1, i, none⟩ = ([.string b.chain, .int .i64 b.height, .int .i64 b.time, .slice p1 b.root.length d1, .slice p2 b.vals.length d2, .slice p3 b.next.length d3] : List Value)[i]? := fun q i => HS.out.cell i
  have k0 := HR.out.cell 0
  have k1 := HR.out.cell 1
  have k2 := HR.out.cell 2
  have k3 := HR.out.cell 3
  have j0 := HS.out.cell 0
  have j1 := HS.out.cell 1
  have j2 := HS.out.cell 2
  have j3 := HS.out.cell 3
  have k4 := fun q => kk q 4
  have k5 := fun q => kk q 5
  have j4 := fun q => jj q 4
  have j5 := fun q => jj q 5
  simp at k0 k1 k2 k3 k4 k5 j0 j1 j2 j3 j4 j5
  have HEQ := hid (show a = b ↔ a.chain = b.chain ∧ a.height = b.height ∧ a.time = b.time ∧ a.root = b.root ∧ a.vals = b.vals ∧ a.next = b.next by
    constructor
    · rintro rfl; exact ⟨rfl, rfl, rfl, rfl, rfl, rfl⟩
    · rintro ⟨h1, h2, h3, h4, h5, h6⟩
      obtain ⟨a1, a2, a3, a4, a5, a6⟩ := a
      obtain ⟨b1, b2, b3, b4, b5, b6⟩ := b
      simp at h1 h2 h3 h4 h5 h6
      rw [h1, h2, h3, h4, h5, h6])
  clear hb0 hr0 hb1 hr1 hs1 kk jj HR HS
  have hne : ∀ {s t : ByteArray}, s ≠ t → (s.toList == t.toList) = false := fun {s t} h => by
    rw [beq_eq_false_iff_ne]
    intro e
    exact h (by
      rw [Go.ByteArray.toList_eq, Go.ByteArray.toList_eq] at e
      obtain ⟨x⟩ := s
      obtain ⟨y⟩ := t
      simp at e
      rw [e])
  by_cases q1 : a.chain = b.chain
  · have e1 : (a.chain.toList == b.chain.toList) = true := by simp [q1]
    by_cases q2 : a.height = b.height
    · have e2 : (a.height == b.height) = true := by simp [q2]
      by_cases q3 : a.time = b.time
      · have e3 : (a.time == b.time) = true := by simp [q3]
        have HQ := hid (show a.chain = b.chain ∧ a.height = b.height ∧ a.time = b.time from ⟨q1, q2, q3⟩)
        clear q1 q2 q3 hne
        by_cases q4 : a.root = b.root
        · rw [decide_eq_true q4] at HC1
          have HQ4 := hid q4
          clear q4
          by_cases q5 : a.vals = b.vals
          · rw [decide_eq_true q5] at HC2
            have HQ5 := hid q5
            clear q5
            by_cases q6 : a.next = b.next
            · rw [decide_eq_true q6] at HC3
              have HQ6 := hid q6
              clear q6
              go_enter Tryd.func32, Tryd.ntmps32
              go_wp2_with fail
              refine (HC1.out 0).mono ?_
              rintro e w2 ⟨rfl, n1, rfl⟩
              go_wp2_with fail
              refine (HC2.out n1).mono ?_
              rintro e w2 ⟨rfl, n2, rfl⟩
              go_wp2_with fail
              refine (HC3.out n2).mono ?_
              rintro e w2 ⟨rfl, n3, rfl⟩
              go_wp2
              go_ret
              exact ⟨⟨true, rfl, fun _ => HEQ.out.2 ⟨HQ.out.1, HQ.out.2.1, HQ.out.2.2, HQ4.out, HQ5.out, HQ6.out⟩, fun _ => rfl⟩, HB1.out.trans (below_drewH _ _ _)⟩
            · rw [decide_eq_false q6] at HC3
              have HQ6 := hid q6
              clear q6
              go_enter Tryd.func32, Tryd.ntmps32
              go_wp2_with fail
              refine (HC1.out 0).mono ?_
              rintro e w2 ⟨rfl, n1, rfl⟩
              go_wp2_with fail
              refine (HC2.out n1).mono ?_
              rintro e w2 ⟨rfl, n2, rfl⟩
              go_wp2_with fail
              refine (HC3.out n2).mono ?_
              rintro e w2 ⟨rfl, n3, rfl⟩
              go_wp2
              go_ret
              exact ⟨⟨false, rfl, (fun h => absurd h (by decide)), fun h => absurd (HEQ.out.1 h).2.2.2.2.2 HQ6.out⟩, HB1.out.trans (below_drewH _ _ _)⟩
          · rw [decide_eq_false q5] at HC2
            have HQ5 := hid q5
            clear q5
            go_enter Tryd.func32, Tryd.ntmps32
            go_wp2_with fail
            refine (HC1.out 0).mono ?_
            rintro e w2 ⟨rfl, n1, rfl⟩
            go_wp2_with fail
            refine (HC2.out n1).mono ?_
            rintro e w2 ⟨rfl, n2, rfl⟩
            go_wp2
            go_ret
            exact ⟨⟨false, rfl, (fun h => absurd h (by decide)), fun h => absurd (HEQ.out.1 h).2.2.2.2.1 HQ5.out⟩, HB1.out.trans (below_drewH _ _ _)⟩
        · rw [decide_eq_false q4] at HC1
          have HQ4 := hid q4
          clear q4
          go_enter Tryd.func32, Tryd.ntmps32
          go_wp2_with fail
          refine (HC1.out 0).mono ?_
          rintro e w2 ⟨rfl, n1, rfl⟩
          go_wp2
          go_ret
          exact ⟨⟨false, rfl, (fun h => absurd h (by decide)), fun h => absurd (HEQ.out.1 h).2.2.2.1 HQ4.out⟩, HB1.out.trans (below_drewH _ _ _)⟩
      · have e3 : (a.time == b.time) = false := by simp [q3]
        have HQ := hid q3
        clear q1 q2 q3 hne
        go_enter Tryd.func32, Tryd.ntmps32
        go_wp2
        go_ret
        exact ⟨⟨false, rfl, (fun h => absurd h (by decide)), fun h => absurd (HEQ.out.1 h).2.2.1 HQ.out⟩, HB1.out⟩
    · have e2 : (a.height == b.height) = false := by simp [q2]
      have HQ := hid q2
      clear q1 q2 hne
      go_enter Tryd.func32, Tryd.ntmps32
      go_wp2
      go_ret
      exact ⟨⟨false, rfl, (fun h => absurd h (by decide)), fun h => absurd (HEQ.out.1 h).2.1 HQ.out⟩, HB1.out⟩
  · have e1 := hne q1
    have HQ := hid q1
    clear q1 hne
    go_enter Tryd.func32, Tryd.ntmps32
    go_wp2
    go_ret
    exact ⟨⟨false, rfl, (fun h => absurd h (by decide)), fun h => absurd (HEQ.out.1 h).1 HQ.out⟩, HB1.out⟩
set_option maxRecDepth 100000 in
set_option maxHeartbeats 4000000 in
theorem sameSigned_any (s : Sg) (va vb : Value) (N : Nat) (w : World) (hN : N ≤ w.heap.size) (ha : SgV w N va s) (hb : SgV w N vb s) (hf : s.fits) :
    Calls Tryd.prog 21 #[va, vb] w fun e w' => e = .returned (.bool true) ∧ Below w.heap.size w w' := by
  obtain ⟨rv, vv, nv, lv, tv, rfl, h1, h2, h3, h4, h5⟩ := ha
  obtain ⟨rv', vv', nv', lv', tv', rfl, g1, g2, g3, g4, g5⟩ := hb
  have HA := hid (show HdV w N (.agg #[.string s.hd.chain, .int .i64 s.hd.height, .int .i64 s.hd.time, rv, vv, nv]) s.hd from ⟨_, _, _, rfl, h1, h2, h3⟩)
  have HB := hid (show HdV w N (.agg #[.string s.hd.chain, .int .i64 s.hd.height, .int .i64 s.hd.time, rv', vv', nv']) s.hd from ⟨_, _, _, rfl, g1, g2, g3⟩)
  have H4 := hid h4
  have H5 := hid h5
  have G4 := hid g4
  have G5 := hid g5
  obtain ⟨o1, c1, rfl, _⟩ := h1.shape
  obtain ⟨o2, c2, rfl, _⟩ := h2.shape
  obtain ⟨o3, c3, rfl, _⟩ := h3.shape
  obtain ⟨o4, c4, rfl, _⟩ := h4.shape
  obtain ⟨o5, c5, rfl, _⟩ := h5.shape
  obtain ⟨p1, d1, rfl, _⟩ := g1.shape
  obtain ⟨p2, d2, rfl, _⟩ := g2.shape
  obtain ⟨p3, d3, rfl, _⟩ := g3.shape
  obtain ⟨p4, d4, rfl, _⟩ := g4.shape
  obtain ⟨p5, d5, rfl, _⟩ := g5.shape
  obtain ⟨hfh, hln, htn, _, _⟩ := hf
  clear h1 h2 h3 h4 h5 g1 g2 g3 g4 g5
  obtain ⟨w0, hw0⟩ : ∃ w0, w.alloc (.cells #[.string s.hd.chain, .int .i64 s.hd.height, .int .i64 s.hd.time, .slice o1 s.hd.root.length c1, .slice o2 s.hd.vals.length c2, .slice o3 s.hd.next.length c3, .slice o4 s.vals.length c4, .slice o5 s.votes.length c5] 29) = w0 := ⟨_, rfl⟩
  have hb0 : Below w.heap.size w w0 := by rw [← hw0]; exact (Below.refl _ _).alloc (Nat.le_refl _) _
  have hr0 : Row w0 w.heap.size 29 [.string s.hd.chain, .int .i64 s.hd.height, .int .i64 s.hd.time, .slice o1 s.hd.root.length c1, .slice o2 s.hd.vals.length c2, .slice o3 s.hd.next.length c3, .slice o4 s.vals.length c4, .slice o5 s.votes.length c5] := by rw [← hw0]; exact Row.new _ _ _
  have hsz0 : w0.heap.size = w.heap.size + 1 := by rw [← hw0]; simp
  obtain ⟨w1, hw1⟩ : ∃ w1, w0.alloc (.cells #[.string s.hd.chain, .int .i64 s.hd.height, .int .i64 s.hd.time, .slice p1 s.hd.root.length d1, .slice p2 s.hd.vals.length d2, .slice p3 s.hd.next.length d3, .slice p4 s.vals.length d4, .slice p5 s.votes.length d5] 29) = w1 := ⟨_, rfl⟩
  have hb1 : Below w0.heap.size w0 w1 := by rw [← hw1]; exact (Below.refl _ _).alloc (Nat.le_refl _) _
  have hr1 := hr0.below hb1 hr0.lt
  have hs1 : Row w1 (w.heap.size + 1) 29 [.string s.hd.chain, .int .i64 s.hd.height, .int .i64 s.hd.time, .slice p1 s.hd.root.length d1, .slice p2 s.hd.vals.length d2, .slice p3 s.hd.next.length d3, .slice p4 s.vals.length d4, .slice p5 s.votes.length d5] := by rw [← hw1, ← hsz0]; exact Row.new _ _ _
  have HB1 := hid (hb0.trans (hb1.mono hb0.size))
  have HR := hid hr1
  have HS := hid hs1
  obtain ⟨k0, k1, k2, k3, k4, k5, k6, k7⟩ := hr1.eight
  obtain ⟨j0, j1, j2, j3, j4, j5, j6, j7⟩ := hs1.eight
  have HSH := hid (sameHeader_any s.hd s.hd _ _ N w1 (Nat.le_trans hN HB1.out.size) (HA.out.below (HB1.out.mono hN)) (HB.out.below (HB1.out.mono hN)) hfh hfh)
  clear hb0 hr0 hb1 hr1 hs1
  generalize hvs : s.vals = vs at *
  generalize hts : s.votes = ts at *
  clear hvs hts
  generalize hn : vs.length = n at *
  generalize hnt : ts.length = m at *
  have HN := hid hn
  have HNT := hid hnt
  clear hn hnt
  go_enter Tryd.func21, Tryd.ntmps21
  go_wp2_with fail
  refine HSH.out.mono ?_
  rintro e w2 ⟨⟨r, rfl, hr⟩, hb2⟩
  obtain rfl : r = true := hr.2 (by first | rfl | trivial)
  have HB2 := hid (HB1.out.trans (hb2.mono HB1.out.size))
  have HR2 := hid (HR.out.below hb2 HR.out.lt)
  have HS2 := hid (HS.out.below hb2 HS.out.lt)
  obtain ⟨_, _, _, _, _, _, r6, r7⟩ := HR2.out.eight
  obtain ⟨_, _, _, _, _, _, s6, s7⟩ := HS2.out.eight
  have ebn : ((n : Int) != (n : Int)) = false := by simp
  have ebm : ((m : Int) != (m : Int)) = false := by simp
  have r6' : ∀ q, (w2.drewN q).cell? ⟨w.heap.size, 6, none⟩ = some (.slice o4 n c4) := fun _ => r6
  have r7' : ∀ q, (w2.drewN q).cell? ⟨w.heap.size, 7, none⟩ = some (.slice o5 m c5) := fun _ => r7
  have s6' : ∀ q, (w2.drewN q).cell? ⟨w.heap.size + 1, 6, none⟩ = some (.slice p4 n d4) := fun _ => s6
  have s7' : ∀ q, (w2.drewN q).cell? ⟨w.heap.size + 1, 7, none⟩ = some (.slice p5 m d5) := fun _ => s7
  clear hb2 hr hw0 hw1
  go_wp2_with fail
  go_loopw [5, 34] (fun _ i wr => ∃ k : Nat, k ≤ n ∧ i = .int .i64 (k : Int) ∧ ∃ q, wr = w2.drewN q) (fun _ i _ => n - (intOf i).toNat)
  case atStart => exact ⟨0, by omega, rfl, 0, rfl⟩
  case round =>
    obtain ⟨k, hk, rfl, q, rfl⟩ := hrel
    by_cases hlt : k < n
    · obtain ⟨v, hv⟩ : ∃ v, vs[k]? = some v := ⟨vs[k]'(by rw [HN.out]; exact hlt), List.getElem?_eq_getElem _⟩
      obtain ⟨b, o, ho, hcells⟩ := H4.out.spot (by omega)
      subst ho
      obtain ⟨b2, o2', ho2, hcells2⟩ := G4.out.spot (by omega)
      subst ho2
      obtain ⟨hbN, x0, x1⟩ := hcells k v hv
      obtain ⟨hbN2, y0, y1⟩ := hcells2 k v hv
      have f0 : ∀ q, (w2.drewN q).cell? ⟨b, o + k * 2, none⟩ = some (.int .u64 (v.key : Int)) := fun _ => (HB2.out.cell (p := ⟨b, o + k * 2, none⟩) (by show b < _; omega)).trans x0
      have f1 : ∀ q, (w2.drewN q).cell? ⟨b, o + k * 2 + 1, none⟩ = some (.int .u64 (v.power : Int)) := fun _ => (HB2.out.cell (p := ⟨b, o + k * 2 + 1, none⟩) (by show b < _; omega)).trans x1
      have g0 : ∀ q, (w2.drewN q).cell? ⟨b2, o2' + k * 2, none⟩ = some (.int .u64 (v.key : Int)) := fun _ => (HB2.out.cell (p := ⟨b2, o2' + k * 2, none⟩) (by show b2 < _; omega)).trans y0
      have g1 : ∀ q, (w2.drewN q).cell? ⟨b2, o2' + k * 2 + 1, none⟩ = some (.int .u64 (v.power : Int)) := fun _ => (HB2.out.cell (p := ⟨b2, o2' + k * 2 + 1, none⟩) (by show b2 < _; omega)).trans y1
      have hlt' : (k : Int) < (n : Int) := by omega
      clear hcells hcells2 x0 x1 y0 y1 hv
      go_wp2_with fail
      go_quiet (fail)
      go_wp2_with fail
      go_roundw
      case rel => exact ⟨k + 1, by omega, by go_num, _, rfl⟩
      case measure => simp [intOf]; omega
    · have hge : decide ((k : Int) < (n : Int)) = false := by simp; omega
      have hgen : decide (k < n) = false := decide_eq_false hlt
      go_wp2_with fail
      go_loopw [6, 52] (fun _ i wr => ∃ k : Nat, k ≤ m ∧ i = .int .i64 (k : Int) ∧ ∃ q, wr = w2.drewN q) (fun _ i _ => m - (intOf i).toNat)
      case atStart => exact ⟨0, by omega, rfl, q, rfl⟩
      case round =>
        obtain ⟨j, hj, rfl, q2, rfl⟩ := hrel
        by_cases hjlt : j < m
        · obtain ⟨v, hv⟩ : ∃ v, ts[j]? = some v := ⟨ts[j]'(by rw [HNT.out]; exact hjlt), List.getElem?_eq_getElem _⟩
          obtain ⟨b, o, ho, hcells⟩ := H5.out.spot (by omega)
          subst ho
          obtain ⟨b2, o2', ho2, hcells2⟩ := G5.out.spot (by omega)
          subst ho2
          obtain ⟨hbN, x0, x1, x2⟩ := hcells j v hv
          obtain ⟨hbN2, y0, y1, y2⟩ := hcells2 j v hv
          have f0 : ∀ q, (w2.drewN q).cell? ⟨b, o + j * 3, none⟩ = some (.bool v.is) := fun _ => (HB2.out.cell (p := ⟨b, o + j * 3, none⟩) (by show b < _; omega)).trans x0
          have f1 : ∀ q, (w2.drewN q).cell? ⟨b, o + j * 3 + 1, none⟩ = some (.int .u64 (v.r : Int)) := fun _ => (HB2.out.cell (p := ⟨b, o + j * 3 + 1, none⟩) (by show b < _; omega)).trans x1
          have f2 : ∀ q, (w2.drewN q).cell? ⟨b, o + j * 3 + 2, none⟩ = some (.int .u64 (v.s : Int)) := fun _ => (HB2.out.cell (p := ⟨b, o + j * 3 + 2, none⟩) (by show b < _; omega)).trans x2
          have g0 : ∀ q, (w2.drewN q).cell? ⟨b2, o2' + j * 3, none⟩ = some (.bool v.is) := fun _ => (HB2.out.cell (p := ⟨b2, o2' + j * 3, none⟩) (by show b2 < _; omega)).trans y0
          have g1 : ∀ q, (w2.drewN q).cell? ⟨b2, o2' + j * 3 + 1, none⟩ = some (.int .u64 (v.r : Int)) := fun _ => (HB2.out.cell (p := ⟨b2, o2' + j * 3 + 1, none⟩) (by show b2 < _; omega)).trans y1
          have g2 : ∀ q, (w2.drewN q).cell? ⟨b2, o2' + j * 3 + 2, none⟩ = some (.int .u64 (v.s : Int)) := fun _ => (HB2.out.cell (p := ⟨b2, o2' + j * 3 + 2, none⟩) (by show b2 < _; omega)).trans y2
          have hlt' : (j : Int) < (m : Int) := by omega
          clear hcells hcells2 x0 x1 x2 y0 y1 y2 hv
          go_wp2_with fail
          go_quiet (fail)
          go_wp2_with fail
          go_roundw
          case rel => exact ⟨j + 1, by omega, by go_num, _, rfl⟩
          case measure => simp [intOf]; omega
        · have hge : decide ((j : Int) < (m : Int)) = false := by simp; omega
          have hgen : decide (j < m) = false := decide_eq_false hjlt
          go_wp2
          go_ret
          exact ⟨rfl, HB2.out.trans (below_drewH _ _ _)⟩
end Go.Proofs.YtfpngilmdgeikaaDoor
