/-
  HeaderTells answers true, whatever it is handed, and turns nothing that was there.
-/
import Derived.Test.YtfpngilmdgeikaaDoorHdTells7
import Derived.Test.YtfpngilmdgeikaaDoorHdTells9
namespace Go.Proofs.YtfpngilmdgeikaaDoor
open Go.RowKit

theorem votesOf_ok (seeds : List (List (BitVec 8))) (m : List (BitVec 8)) (l : List Vl) : ∀ t ∈ votesOf seeds m l, t.ok := by
  intro t ht
  obtain ⟨v, _, rfl⟩ := List.mem_map.1 ht
  unfold voteOf
  split
  · exact ⟨by simp [Vt.none], by simp [Vt.none]⟩
  · rename_i s _
    exact ⟨by have := sealR_lt s m; simp only; omega, by have := sealS_lt s m; simp only; omega⟩
theorem signS_fits (h : Hd) (l : List Vl) (seeds : List (List (BitVec 8))) (hf : h.fits) (hok : ∀ v ∈ l, v.ok) : (signS h l seeds).fits := by
  by_cases e : togetherN h l = 0
  · rw [signS_ok e]
    have := (valsN_ok (togetherN_ok e).2.1).2.1
    exact ⟨hf, by simp only; omega, by simp only [votesOf, List.length_map]; omega, hok, votesOf_ok _ _ _⟩
  · rw [signS_no e]
    refine ⟨⟨?_, ?_, ?_, ?_⟩, ?_, ?_, ?_, ?_⟩ <;> simp [Sg.none, Hd.none]
    decide
set_option maxRecDepth 100000 in
set_option maxHeartbeats 4000000 in
theorem headerTells_any (l : List Vl) (h : Hd) (seeds : List (List (BitVec 8))) (s : Sg) (t : List Vl) (lv hv sv gv tv : Value) (N : Nat) (w : World) (htab : tableAt w) (hN : N ≤ w.heap.size) (hl : Vals w N lv l) (hhv : HdV w N hv h) (hs : Lists w N sv seeds) (hg : SgV w N gv s) (ht : Vals w N tv t)
    (hll : l.length < 2305843009213693952) (hok : ∀ v ∈ l, v.ok) (hf : h.fits) (hsl : seeds.length ≤ 35184372088832) (hsf : ∀ s ∈ seeds, s.length ≤ 140737488351232) (hgf : s.fits) (htl : t.length < 2305843009213693952) (htok : ∀ v ∈ t, v.ok) :
    Calls Tryd.prog 3 #[lv, hv, sv, gv, tv] w fun e w' => e = .returned (.bool true) ∧ Below w.heap.size w w' := by
  have HL := hid hl
  have HV := hid hhv
  have HS := hid hs
  have HG := hid hg
  have HTT := hid ht
  have HTAB := hid htab
  have HSF := hid hsf
  have HOK := hid hok
  have HTOK := hid htok
  obtain ⟨rv, vv, nv, rfl, h1, h2, h3⟩ := hhv
  obtain ⟨o1, c1, rfl, _⟩ := h1.shape
  obtain ⟨o2, c2, rfl, _⟩ := h2.shape
  obtain ⟨o3, c3, rfl, _⟩ := h3.shape
  obtain ⟨rv', vv', nv', lv', tv', rfl, g1, g2, g3, g4, g5⟩ := hg
  obtain ⟨p1, d1, rfl, _⟩ := g1.shape
  obtain ⟨p2, d2, rfl, _⟩ := g2.shape
  obtain ⟨p3, d3, rfl, _⟩ := g3.shape
  obtain ⟨p4, d4, rfl, _⟩ := g4.shape
  obtain ⟨p5, d5, rfl, _⟩ := g5.shape
  obtain ⟨ol, cl, rfl, _⟩ := hl.shape
  obtain ⟨os, cs, rfl, _⟩ := hs.shape
  obtain ⟨ot, ct, rfl, _⟩ := ht.shape
  obtain ⟨w0, hw0⟩ : ∃ w0, w.alloc (.cells #[.string h.chain, .int .i64 h.height, .int .i64 h.time, .slice o1 h.root.length c1, .slice o2 h.vals.length c2, .slice o3 h.next.length c3] 25) = w0 := ⟨_, rfl⟩
  have hb0 : Below w.heap.size w w0 := by rw [← hw0]; exact (Below.refl _ _).alloc (Nat.le_refl _) _
  have hr0 : Row w0 w.heap.size 25 [.string h.chain, .int .i64 h.height, .int .i64 h.time, .slice o1 h.root.length c1, .slice o2 h.vals.length c2, .slice o3 h.next.length c3] := by rw [← hw0]; exact Row.new _ _ _
  have hsz0 : w0.heap.size = w.heap.size + 1 := by rw [← hw0]; simp
  obtain ⟨w1, hw1⟩ : ∃ w1, w0.alloc (.cells #[.string s.hd.chain, .int .i64 s.hd.height, .int .i64 s.hd.time, .slice p1 s.hd.root.length d1, .slice p2 s.hd.vals.length d2, .slice p3 s.hd.next.length d3, .slice p4 s.vals.length d4, .slice p5 s.votes.length d5] 29) = w1 := ⟨_, rfl⟩
  have hb1 : Below w0.heap.size w0 w1 := by rw [← hw1]; exact (Below.refl _ _).alloc (Nat.le_refl _) _
  have HR1 := hid (hr0.below hb1 hr0.lt)
  have HS1 := hid (show Row w1 (w.heap.size + 1) 29 [.string s.hd.chain, .int .i64 s.hd.height, .int .i64 s.hd.time, .slice p1 s.hd.root.length d1, .slice p2 s.hd.vals.length d2, .slice p3 s.hd.next.length d3, .slice p4 s.vals.length d4, .slice p5 s.votes.length d5] by rw [← hw1, ← hsz0]; exact Row.new _ _ _)
  have HB1 := hid (hb0.trans (hb1.mono hb0.size))
  clear h1 h2 h3 g1 g2 g3 g4 g5 hl hs ht htab hsf hok htok hb0 hr0 hb1
  go_enter Tryd.func3, Tryd.ntmps3
  go_wp2_with fail
  refine tellsRegion1 l h s _ o1 o2 o3 p1 p2 p3 p4 p5 c1 c2 c3 d1 d2 d3 d4 d5 (hid (HTAB.out.below HB1.out HTAB.out.lt)) (Nat.le_trans hN HB1.out.size) HR1 HS1 (hid (HL.out.below (HB1.out.mono hN))) hll HOK (hid (HV.out.below (HB1.out.mono hN))) hf (hid (HG.out.below (HB1.out.mono hN))) hgf _ (hid ?_)
  intro σ1 w2 hb2 h18
  have HB2 := hid (HB1.out.trans (hb2.mono HB1.out.size))
  have HR2 := hid (HR1.out.below hb2 HR1.out.lt)
  have HS2 := hid (HS1.out.below hb2 HS1.out.lt)
  obtain ⟨k0, k1, k2, k3, k4, k5⟩ := HR2.out.six
  have HSA := hid (signC h l seeds _ _ _ N w2 (HTAB.out.below HB2.out HTAB.out.lt) (Nat.le_trans hN HB2.out.size) (HV.out.below (HB2.out.mono hN)) hf (HL.out.below (HB2.out.mono hN)) hll HOK.out (HS.out.below (HB2.out.mono hN)) hsl HSF.out)
  have HFIT := hid (signS_fits h l seeds hf HOK.out)
  rw [h18]
  clear hb2 h18 hw0 hw1
  generalize hS : signS h l seeds = S at *
  have HSS := hid hS
  clear hS
  generalize htg : togetherN h l = tg at *
  have HTG := hid htg
  clear htg
  go_wp2_with fail
  refine HSA.out.mono ?_
  rintro e w3 ⟨va, rfl, hva, hb3⟩
  have HB3 := hid (HB2.out.trans (hb3.mono HB2.out.size))
  have HR3 := hid (HR2.out.below hb3 HR2.out.lt)
  have HS3 := hid (HS2.out.below hb3 HS2.out.lt)
  have HVA := hid hva
  obtain ⟨a1, a2, a3, a4, a5, rfl, x1, x2, x3, x4, x5⟩ := hva
  obtain ⟨q1, e1, rfl, _⟩ := x1.shape
  obtain ⟨q2, e2, rfl, _⟩ := x2.shape
  obtain ⟨q3, e3, rfl, _⟩ := x3.shape
  obtain ⟨q4, e4, rfl, _⟩ := x4.shape
  obtain ⟨q5, e5, rfl, _⟩ := x5.shape
  obtain ⟨w4, hw4⟩ : ∃ w4, w3.alloc (.cells #[.string S.hd.chain, .int .i64 S.hd.height, .int .i64 S.hd.time, .slice q1 S.hd.root.length e1, .slice q2 S.hd.vals.length e2, .slice q3 S.hd.next.length e3, .slice q4 S.vals.length e4, .slice q5 S.votes.length e5] 29) = w4 := ⟨_, rfl⟩
  have hb4 : Below w3.heap.size w3 w4 := by rw [← hw4]; exact (Below.refl _ _).alloc (Nat.le_refl _) _
  obtain ⟨ga, hga⟩ : ∃ ga, w3.heap.size = ga := ⟨_, rfl⟩
  have HA4 := hid (show Row w4 ga 29 [.string S.hd.chain, .int .i64 S.hd.height, .int .i64 S.hd.time, .slice q1 S.hd.root.length e1, .slice q2 S.hd.vals.length e2, .slice q3 S.hd.next.length e3, .slice q4 S.vals.length e4, .slice q5 S.votes.length e5] by rw [← hw4, ← hga]; exact Row.new _ _ _)
  have HB4 := hid (HB3.out.trans (hb4.mono HB3.out.size))
  have HR4 := hid (HR3.out.below hb4 HR3.out.lt)
  have HS4 := hid (HS3.out.below hb4 HS3.out.lt)
  have HVA4 := hid ((HVA.out.below hb4).mono hb4.size)
  obtain ⟨k0, k1, k2, k3, k4, k5⟩ := HR4.out.six
  have HSB := hid (refSignC h l seeds _ _ _ N w4 (HTAB.out.below HB4.out HTAB.out.lt) (Nat.le_trans hN HB4.out.size) (HV.out.below (HB4.out.mono hN)) hf (HL.out.below (HB4.out.mono hN)) hll HOK.out (HS.out.below (HB4.out.mono hN)) hsl HSF.out)
  rw [HSS.out, HTG.out] at HSB
  clear hb3 x1 x2 x3 x4 x5 hb4 HSA
  go_wp2_with fail
  refine HSB.out.mono ?_
  rintro e w5 ⟨vb, rfl, hvb, hb5⟩
  have HB5 := hid (HB4.out.trans (hb5.mono HB4.out.size))
  have HR5 := hid (HR4.out.below hb5 HR4.out.lt)
  have HS5 := hid (HS4.out.below hb5 HS4.out.lt)
  have HA5 := hid (HA4.out.below hb5 HA4.out.lt)
  have HVA5 := hid ((HVA4.out.below hb5).mono hb5.size)
  have HVB := hid hvb
  obtain ⟨b1, b2, b3, b4, b5, rfl, y1, y2, y3, y4, y5⟩ := hvb
  obtain ⟨r1, f1, rfl, _⟩ := y1.shape
  obtain ⟨r2, f2, rfl, _⟩ := y2.shape
  obtain ⟨r3, f3, rfl, _⟩ := y3.shape
  obtain ⟨r4, f4, rfl, _⟩ := y4.shape
  obtain ⟨r5, f5, rfl, _⟩ := y5.shape
  obtain ⟨w6, hw6⟩ : ∃ w6, w5.alloc (.cells #[.string S.hd.chain, .int .i64 S.hd.height, .int .i64 S.hd.time, .slice r1 S.hd.root.length f1, .slice r2 S.hd.vals.length f2, .slice r3 S.hd.next.length f3, .slice r4 S.vals.length f4, .slice r5 S.votes.length f5] 29) = w6 := ⟨_, rfl⟩
  have hb6 : Below w5.heap.size w5 w6 := by rw [← hw6]; exact (Below.refl _ _).alloc (Nat.le_refl _) _
  obtain ⟨gc, hgc⟩ : ∃ gc, w5.heap.size = gc := ⟨_, rfl⟩
  have HC6 := hid (show Row w6 gc 29 [.string S.hd.chain, .int .i64 S.hd.height, .int .i64 S.hd.time, .slice r1 S.hd.root.length f1, .slice r2 S.hd.vals.length f2, .slice r3 S.hd.next.length f3, .slice r4 S.vals.length f4, .slice r5 S.votes.length f5] by rw [← hw6, ← hgc]; exact Row.new _ _ _)
  have HB6 := hid (HB5.out.trans (hb6.mono HB5.out.size))
  have HR6 := hid (HR5.out.below hb6 HR5.out.lt)
  have HS6 := hid (HS5.out.below hb6 HS5.out.lt)
  have HA6 := hid (HA5.out.below hb6 HA5.out.lt)
  have HSM := hid (sameSigned_any S _ _ w6.heap.size w6 (Nat.le_refl _) ((HVA5.out.below hb6).mono hb6.size) ((HVB.out.below hb6).mono hb6.size) HFIT.out)
  obtain ⟨m0, m1, m2, m3, m4, m5, m6, m7⟩ := HA6.out.eight
  obtain ⟨n0, n1, n2, n3, n4, n5, n6, n7⟩ := HC6.out.eight
  have ebt : (tg != tg) = false := by simp
  clear hb5 y1 y2 y3 y4 y5 hb6 HSB hw4 hga
  go_wp2_with fail
  refine HSM.out.mono ?_
  rintro e w7 ⟨rfl, hb7⟩
  have HB7 := hid (HB6.out.trans (hb7.mono HB6.out.size))
  have HR7 := hid (HR6.out.below hb7 HR6.out.lt)
  have HS7 := hid (HS6.out.below hb7 HS6.out.lt)
  clear hb7 hw6 hgc HSM m0 m1 m2 m3 m4 m5 m6 m7 n0 n1 n2 n3 n4 n5 n6 n7 k0 k1 k2 k3 k4 k5
  go_wp2_with fail
  have A1 := hid (HTAB.out.below HB7.out HTAB.out.lt)
  have A2 := Nat.le_trans hN HB7.out.size
  have A3 := hid (HL.out.below (HB7.out.mono hN))
  have A4 := hid (HV.out.below (HB7.out.mono hN))
  have A5 := hid (HG.out.below (HB7.out.mono hN))
  by_cases q1 : valsN l = 0
  all_goals by_cases q2 : wrongH h = 0
  · refine tellsRegion7vw l h s _ o1 o2 o3 p1 p2 p3 p4 p5 c1 c2 c3 d1 d2 d3 d4 d5 A1 A2 HR7 HS7 A3 hll HOK A4 hf A5 hgf (valsN_ok q1).2.1 (hid q2) (by simp [q1]) (by simp [q2]) _ (hid ?_)
    clear q1 q2
    intro σ7 w8 hb8 h23
    have HB8 := hid (HB7.out.trans (hb8.mono HB7.out.size))
    have HR8 := hid (HR7.out.below hb8 HR7.out.lt)
    have HS8 := hid (HS7.out.below hb8 HS7.out.lt)
    rw [h23]
    clear hb8 h23 A1 A3 A4 A5
    go_wp2_with fail
    have A1 := hid (HTAB.out.below HB8.out HTAB.out.lt)
    have A3 := hid (HL.out.below (HB8.out.mono hN))
    have A4 := hid (HV.out.below (HB8.out.mono hN))
    have A5 := hid (HG.out.below (HB8.out.mono hN))
    have A6 := hid (HTT.out.below (HB8.out.mono hN))
    by_cases q3 : checkN s = 0
    · by_cases q4 : valsN t = 0
      · have hck := checkN_ok q3
        refine tellsRegion9cv l t h s _ _ o1 o2 o3 p1 p2 p3 p4 p5 c1 c2 c3 d1 d2 d3 d4 d5 A1 (Nat.le_trans hN HB8.out.size) HR8 HS8 A3 hll HOK A4 hf A5 hgf A6 htl (by simp [q3]) (by simp [q4]) (hid q4) HTOK (hid (togetherN_ok hck.1).2.1) (hid hck.2.1) _ (hid ?_)
        clear q3 q4 hck
        intro σ9 w9 hb9 h17
        have HB9 := hid (HB8.out.trans (hb9.mono HB8.out.size))
        rw [h17]
        clear hb9 h17
        go_wp2
        go_ret
        exact ⟨rfl, HB9.out⟩
      · refine tellsRegion9cn l t h s _ _ o1 o2 o3 p1 p2 p3 p4 p5 c1 c2 c3 d1 d2 d3 d4 d5 A1 (Nat.le_trans hN HB8.out.size) HR8 HS8 A3 hll HOK A4 hf A5 hgf A6 htl (by simp [q3]) (by simp [q4]) _ (hid ?_)
        clear q3 q4
        intro σ9 w9 hb9 h17
        have HB9 := hid (HB8.out.trans (hb9.mono HB8.out.size))
        rw [h17]
        clear hb9 h17
        go_wp2
        go_ret
        exact ⟨rfl, HB9.out⟩
    · refine tellsRegion9nn l t h s _ _ o1 o2 o3 p1 p2 p3 p4 p5 c1 c2 c3 d1 d2 d3 d4 d5 A1 (Nat.le_trans hN HB8.out.size) HR8 HS8 A3 hll HOK A4 hf A5 hgf A6 htl (by simp [q3]) _ (hid ?_)
      clear q3
      intro σ9 w9 hb9 h17
      have HB9 := hid (HB8.out.trans (hb9.mono HB8.out.size))
      rw [h17]
      clear hb9 h17
      go_wp2
      go_ret
      exact ⟨rfl, HB9.out⟩
  · refine tellsRegion7vn l h s _ o1 o2 o3 p1 p2 p3 p4 p5 c1 c2 c3 d1 d2 d3 d4 d5 A1 A2 HR7 HS7 A3 hll HOK A4 hf A5 hgf (valsN_ok q1).2.1 (by simp [q1]) (by simp [q2]) _ (hid ?_)
    clear q1 q2
    intro σ7 w8 hb8 h23
    have HB8 := hid (HB7.out.trans (hb8.mono HB7.out.size))
    have HR8 := hid (HR7.out.below hb8 HR7.out.lt)
    have HS8 := hid (HS7.out.below hb8 HS7.out.lt)
    rw [h23]
    clear hb8 h23 A1 A3 A4 A5
    go_wp2_with fail
    have A1 := hid (HTAB.out.below HB8.out HTAB.out.lt)
    have A3 := hid (HL.out.below (HB8.out.mono hN))
    have A4 := hid (HV.out.below (HB8.out.mono hN))
    have A5 := hid (HG.out.below (HB8.out.mono hN))
    have A6 := hid (HTT.out.below (HB8.out.mono hN))
    by_cases q3 : checkN s = 0
    · by_cases q4 : valsN t = 0
      · have hck := checkN_ok q3
        refine tellsRegion9cv l t h s _ _ o1 o2 o3 p1 p2 p3 p4 p5 c1 c2 c3 d1 d2 d3 d4 d5 A1 (Nat.le_trans hN HB8.out.size) HR8 HS8 A3 hll HOK A4 hf A5 hgf A6 htl (by simp [q3]) (by simp [q4]) (hid q4) HTOK (hid (togetherN_ok hck.1).2.1) (hid hck.2.1) _ (hid ?_)
        clear q3 q4 hck
        intro σ9 w9 hb9 h17
        have HB9 := hid (HB8.out.trans (hb9.mono HB8.out.size))
        rw [h17]
        clear hb9 h17
        go_wp2
        go_ret
        exact ⟨rfl, HB9.out⟩
      · refine tellsRegion9cn l t h s _ _ o1 o2 o3 p1 p2 p3 p4 p5 c1 c2 c3 d1 d2 d3 d4 d5 A1 (Nat.le_trans hN HB8.out.size) HR8 HS8 A3 hll HOK A4 hf A5 hgf A6 htl (by simp [q3]) (by simp [q4]) _ (hid ?_)
        clear q3 q4
        intro σ9 w9 hb9 h17
        have HB9 := hid (HB8.out.trans (hb9.mono HB8.out.size))
        rw [h17]
        clear hb9 h17
        go_wp2
        go_ret
        exact ⟨rfl, HB9.out⟩
    · refine tellsRegion9nn l t h s _ _ o1 o2 o3 p1 p2 p3 p4 p5 c1 c2 c3 d1 d2 d3 d4 d5 A1 (Nat.le_trans hN HB8.out.size) HR8 HS8 A3 hll HOK A4 hf A5 hgf A6 htl (by simp [q3]) _ (hid ?_)
      clear q3
      intro σ9 w9 hb9 h17
      have HB9 := hid (HB8.out.trans (hb9.mono HB8.out.size))
      rw [h17]
      clear hb9 h17
      go_wp2
      go_ret
      exact ⟨rfl, HB9.out⟩
  · refine tellsRegion7nw l h s _ o1 o2 o3 p1 p2 p3 p4 p5 c1 c2 c3 d1 d2 d3 d4 d5 A1 A2 HR7 HS7 A3 hll HOK A4 hf A5 hgf (hid q2) (by simp [q1]) (by simp [q2]) _ (hid ?_)
    clear q1 q2
    intro σ7 w8 hb8 h23
    have HB8 := hid (HB7.out.trans (hb8.mono HB7.out.size))
    have HR8 := hid (HR7.out.below hb8 HR7.out.lt)
    have HS8 := hid (HS7.out.below hb8 HS7.out.lt)
    rw [h23]
    clear hb8 h23 A1 A3 A4 A5
    go_wp2_with fail
    have A1 := hid (HTAB.out.below HB8.out HTAB.out.lt)
    have A3 := hid (HL.out.below (HB8.out.mono hN))
    have A4 := hid (HV.out.below (HB8.out.mono hN))
    have A5 := hid (HG.out.below (HB8.out.mono hN))
    have A6 := hid (HTT.out.below (HB8.out.mono hN))
    by_cases q3 : checkN s = 0
    · by_cases q4 : valsN t = 0
      · have hck := checkN_ok q3
        refine tellsRegion9cv l t h s _ _ o1 o2 o3 p1 p2 p3 p4 p5 c1 c2 c3 d1 d2 d3 d4 d5 A1 (Nat.le_trans hN HB8.out.size) HR8 HS8 A3 hll HOK A4 hf A5 hgf A6 htl (by simp [q3]) (by simp [q4]) (hid q4) HTOK (hid (togetherN_ok hck.1).2.1) (hid hck.2.1) _ (hid ?_)
        clear q3 q4 hck
        intro σ9 w9 hb9 h17
        have HB9 := hid (HB8.out.trans (hb9.mono HB8.out.size))
        rw [h17]
        clear hb9 h17
        go_wp2
        go_ret
        exact ⟨rfl, HB9.out⟩
      · refine tellsRegion9cn l t h s _ _ o1 o2 o3 p1 p2 p3 p4 p5 c1 c2 c3 d1 d2 d3 d4 d5 A1 (Nat.le_trans hN HB8.out.size) HR8 HS8 A3 hll HOK A4 hf A5 hgf A6 htl (by simp [q3]) (by simp [q4]) _ (hid ?_)
        clear q3 q4
        intro σ9 w9 hb9 h17
        have HB9 := hid (HB8.out.trans (hb9.mono HB8.out.size))
        rw [h17]
        clear hb9 h17
        go_wp2
        go_ret
        exact ⟨rfl, HB9.out⟩
    · refine tellsRegion9nn l t h s _ _ o1 o2 o3 p1 p2 p3 p4 p5 c1 c2 c3 d1 d2 d3 d4 d5 A1 (Nat.le_trans hN HB8.out.size) HR8 HS8 A3 hll HOK A4 hf A5 hgf A6 htl (by simp [q3]) _ (hid ?_)
      clear q3
      intro σ9 w9 hb9 h17
      have HB9 := hid (HB8.out.trans (hb9.mono HB8.out.size))
      rw [h17]
      clear hb9 h17
      go_wp2
      go_ret
      exact ⟨rfl, HB9.out⟩
  · refine tellsRegion7nn l h s _ o1 o2 o3 p1 p2 p3 p4 p5 c1 c2 c3 d1 d2 d3 d4 d5 A1 A2 HR7 HS7 A3 hll HOK A4 hf A5 hgf (by simp [q1]) (by simp [q2]) _ (hid ?_)
    clear q1 q2
    intro σ7 w8 hb8 h23
    have HB8 := hid (HB7.out.trans (hb8.mono HB7.out.size))
    have HR8 := hid (HR7.out.below hb8 HR7.out.lt)
    have HS8 := hid (HS7.out.below hb8 HS7.out.lt)
    rw [h23]
    clear hb8 h23 A1 A3 A4 A5
    go_wp2_with fail
    have A1 := hid (HTAB.out.below HB8.out HTAB.out.lt)
    have A3 := hid (HL.out.below (HB8.out.mono hN))
    have A4 := hid (HV.out.below (HB8.out.mono hN))
    have A5 := hid (HG.out.below (HB8.out.mono hN))
    have A6 := hid (HTT.out.below (HB8.out.mono hN))
    by_cases q3 : checkN s = 0
    · by_cases q4 : valsN t = 0
      · have hck := checkN_ok q3
        refine tellsRegion9cv l t h s _ _ o1 o2 o3 p1 p2 p3 p4 p5 c1 c2 c3 d1 d2 d3 d4 d5 A1 (Nat.le_trans hN HB8.out.size) HR8 HS8 A3 hll HOK A4 hf A5 hgf A6 htl (by simp [q3]) (by simp [q4]) (hid q4) HTOK (hid (togetherN_ok hck.1).2.1) (hid hck.2.1) _ (hid ?_)
        clear q3 q4 hck
        intro σ9 w9 hb9 h17
        have HB9 := hid (HB8.out.trans (hb9.mono HB8.out.size))
        rw [h17]
        clear hb9 h17
        go_wp2
        go_ret
        exact ⟨rfl, HB9.out⟩
      · refine tellsRegion9cn l t h s _ _ o1 o2 o3 p1 p2 p3 p4 p5 c1 c2 c3 d1 d2 d3 d4 d5 A1 (Nat.le_trans hN HB8.out.size) HR8 HS8 A3 hll HOK A4 hf A5 hgf A6 htl (by simp [q3]) (by simp [q4]) _ (hid ?_)
        clear q3 q4
        intro σ9 w9 hb9 h17
        have HB9 := hid (HB8.out.trans (hb9.mono HB8.out.size))
        rw [h17]
        clear hb9 h17
        go_wp2
        go_ret
        exact ⟨rfl, HB9.out⟩
    · refine tellsRegion9nn l t h s _ _ o1 o2 o3 p1 p2 p3 p4 p5 c1 c2 c3 d1 d2 d3 d4 d5 A1 (Nat.le_trans hN HB8.out.size) HR8 HS8 A3 hll HOK A4 hf A5 hgf A6 htl (by simp [q3]) _ (hid ?_)
      clear q3
      intro σ9 w9 hb9 h17
      have HB9 := hid (HB8.out.trans (hb9.mono HB8.out.size))
      rw [h17]
      clear hb9 h17
      go_wp2
      go_ret
      exact ⟨rfl, HB9.out⟩
end Go.Proofs.YtfpngilmdgeikaaDoor
