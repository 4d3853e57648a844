/-
  What package client's fit, doubtsOfLeap and doubts answer: why a client does not believe a header.
-/
import Derived.Test.YtfpngilmdgeikaaDoorClAsk
import Derived.Test.YtfpngilmdgeikaaDoorHdCheck
import Derived.Test.YtfpngilmdgeikaaDoorHdFindOver
namespace Go.Proofs.YtfpngilmdgeikaaDoor
open Go.RowKit

/-- do two digests go together -/
def fitN (a b : List (BitVec 8)) : Int := if a = b then 0 else 8
theorem fit_any (a b : List (BitVec 8)) (va vb : Value) (N M : Nat) (w : World) (ha : Bytes w N va a) (hb : Bytes w M vb b) :
    Calls Tryd.prog 126 #[va, vb] w fun e w' => e = .returned (.int .i64 (fitN a b)) ∧ w' = w := by
  have HE := hid (equal_any a b va vb N M w ha hb)
  obtain ⟨o1, c1, rfl, _⟩ := ha.shape
  obtain ⟨o2, c2, rfl, _⟩ := hb.shape
  clear ha hb
  by_cases h : a = b
  · have HF := hid (show fitN a b = 0 by unfold fitN; rw [if_pos h])
    rw [decide_eq_true h] at HE
    generalize a.length = n1 at *
    generalize b.length = n2 at *
    clear h
    go_enter Tryd.func126, Tryd.ntmps126
    go_wp2_with fail
    refine HE.out.mono ?_
    rintro e w2 ⟨rfl, hw2⟩
    obtain rfl := hw2.symm
    go_wp2
    go_ret
    exact ⟨by rw [HF.out]; first | done | rfl, rfl⟩
  · have HF := hid (show fitN a b = 8 by unfold fitN; rw [if_neg h])
    rw [decide_eq_false h] at HE
    generalize a.length = n1 at *
    generalize b.length = n2 at *
    clear h
    go_enter Tryd.func126, Tryd.ntmps126
    go_wp2_with fail
    refine HE.out.mono ?_
    rintro e w2 ⟨rfl, hw2⟩
    obtain rfl := hw2.symm
    go_wp2
    go_ret
    exact ⟨by rw [HF.out]; first | done | rfl, rfl⟩
/-- why those who stood behind a block don't vouch -/
def leapN (k : Kn) (u : Up) : Int := if valsN u.trusted ≠ 0 then valsN u.trusted else if digV u.trusted ≠ k.next then 8 else if overB u.trusted u.sg = false then 10 else 0
/-- ten cells of an update -/
theorem Row.ten {w : World} {g : Nat} {t : TypeId} {a b c d e f x y z u : Value} (h : Row w g t [a, b, c, d, e, f, x, y, z, u]) :
    (w.cell? ⟨g, 0, none⟩ = some a ∧ w.cell? ⟨g, 1, none⟩ = some b ∧ w.cell? ⟨g, 2, none⟩ = some c ∧ w.cell? ⟨g, 3, none⟩ = some d ∧ w.cell? ⟨g, 4, none⟩ = some e) ∧ w.cell? ⟨g, 5, none⟩ = some f ∧ w.cell? ⟨g, 6, none⟩ = some x ∧ w.cell? ⟨g, 7, none⟩ = some y ∧ w.cell? ⟨g, 8, none⟩ = some z ∧ w.cell? ⟨g, 9, none⟩ = some u :=
  ⟨⟨h.cell 0, h.cell 1, h.cell 2, h.cell 3, h.cell 4⟩, h.cell 5, h.cell 6, h.cell 7, h.cell 8, h.cell 9⟩
/-- an update's cells, slices by their parts -/
theorem UpV.open {w : World} {N : Nat} {v : Value} {u : Up} (h : UpV w N v u) : ∃ o1 c1 o2 c2 o3 c3 o4 c4 o5 c5 o6 c6, v = .agg #[.int .i64 u.frm, .string u.sg.hd.chain, .int .i64 u.sg.hd.height, .int .i64 u.sg.hd.time, .slice o1 u.sg.hd.root.length c1, .slice o2 u.sg.hd.vals.length c2, .slice o3 u.sg.hd.next.length c3, .slice o4 u.sg.vals.length c4, .slice o5 u.sg.votes.length c5, .slice o6 u.trusted.length c6] ∧
    Bytes w N (.slice o1 u.sg.hd.root.length c1) u.sg.hd.root ∧ Bytes w N (.slice o2 u.sg.hd.vals.length c2) u.sg.hd.vals ∧ Bytes w N (.slice o3 u.sg.hd.next.length c3) u.sg.hd.next ∧ Vals w N (.slice o4 u.sg.vals.length c4) u.sg.vals ∧ Votes w N (.slice o5 u.sg.votes.length c5) u.sg.votes ∧ Vals w N (.slice o6 u.trusted.length c6) u.trusted := by
  obtain ⟨x0, x1, x2, x3, x4, x5, x6, x7, tv, rfl, ⟨rv, vv, nv, lv, sv, he, h1, h2, h3, h4, h5⟩, h6⟩ := h
  obtain ⟨o1, c1, rfl, _⟩ := h1.shape
  obtain ⟨o2, c2, rfl, _⟩ := h2.shape
  obtain ⟨o3, c3, rfl, _⟩ := h3.shape
  obtain ⟨o4, c4, rfl, _⟩ := h4.shape
  obtain ⟨o5, c5, rfl, _⟩ := h5.shape
  obtain ⟨o6, c6, rfl, _⟩ := h6.shape
  simp at he
  obtain ⟨rfl, rfl, rfl, rfl, rfl, rfl, rfl, rfl⟩ := he
  exact ⟨o1, c1, o2, c2, o3, c3, o4, c4, o5, c5, o6, c6, rfl, h1, h2, h3, h4, h5, h6⟩
set_option maxRecDepth 100000 in
set_option maxHeartbeats 4000000 in
theorem leap_any (k : Kn) (u : Up) (kv uv : Value) (N : Nat) (w : World) (htab : tableAt w) (hN : N ≤ w.heap.size) (hk : KnV w N kv k) (hu : UpV w N uv u) (hf : u.fits) (hck : checkN u.sg = 0) :
    Calls Tryd.prog 127 #[kv, uv] w fun e w' => e = .returned (.int .i64 (leapN k u)) ∧ Below w.heap.size w w' := by
  obtain ⟨rv, nv, rfl, g1, g2⟩ := hk
  obtain ⟨p1, d1, rfl, _⟩ := g1.shape
  obtain ⟨p2, d2, rfl, _⟩ := g2.shape
  obtain ⟨o1, c1, o2, c2, o3, c3, o4, c4, o5, c5, o6, c6, rfl, h1, h2, h3, h4, h5, h6⟩ := hu.open
  obtain ⟨hfs, hft, hfo⟩ := hf
  obtain ⟨w0, hw0⟩ : ∃ w0, (w.alloc (.cells #[.int .i64 k.height, .int .i64 k.time, .slice p1 k.root.length d1, .slice p2 k.next.length d2] 73)).alloc (.cells #[.int .i64 u.frm, .string u.sg.hd.chain, .int .i64 u.sg.hd.height, .int .i64 u.sg.hd.time, .slice o1 u.sg.hd.root.length c1, .slice o2 u.sg.hd.vals.length c2, .slice o3 u.sg.hd.next.length c3, .slice o4 u.sg.vals.length c4, .slice o5 u.sg.votes.length c5, .slice o6 u.trusted.length c6] 68) = w0 := ⟨_, rfl⟩
  have hb0 : Below w.heap.size w w0 := by rw [← hw0]; exact ((Below.refl _ _).alloc (Nat.le_refl _) _).alloc (by simp) _
  have hr0 : Row w0 w.heap.size 73 [.int .i64 k.height, .int .i64 k.time, .slice p1 k.root.length d1, .slice p2 k.next.length d2] := by rw [← hw0]; exact (Row.new _ _ _).alloc _
  have hr1 : Row w0 (w.heap.size + 1) 68 [.int .i64 u.frm, .string u.sg.hd.chain, .int .i64 u.sg.hd.height, .int .i64 u.sg.hd.time, .slice o1 u.sg.hd.root.length c1, .slice o2 u.sg.hd.vals.length c2, .slice o3 u.sg.hd.next.length c3, .slice o4 u.sg.vals.length c4, .slice o5 u.sg.votes.length c5, .slice o6 u.trusted.length c6] := by rw [← hw0]; exact Row.newAt _ _ _ _ (by simp)
  have HSG := hid (show SgV w N (.agg #[.string u.sg.hd.chain, .int .i64 u.sg.hd.height, .int .i64 u.sg.hd.time, .slice o1 u.sg.hd.root.length c1, .slice o2 u.sg.hd.vals.length c2, .slice o3 u.sg.hd.next.length c3, .slice o4 u.sg.vals.length c4, .slice o5 u.sg.votes.length c5]) u.sg from ⟨_, _, _, _, _, rfl, h1, h2, h3, h4, h5⟩)
  have HT := hid h6
  have HG2 := hid g2
  have HTAB := hid htab
  have HB0 := hid hb0
  have HR0 := hid hr0
  have HR1 := hid hr1
  have HOK := hid hfo
  have HCK := hid hck
  have HVA := hid (valsC u.trusted (.slice o6 u.trusted.length c6) N w0 (h6.below (hb0.mono hN)) (Nat.le_trans hN hb0.size) hft)
  have HSV := hid (checkN_right hck).2
  have HSL := hid (checkN_ok hck).2.1
  have HW0 := hid hw0
  have k9 := hr1.cell 9
  simp at k9
  clear g1 g2 h1 h2 h3 h4 h5 h6 htab hb0 hr0 hr1 hfo hck hw0 hfs
  by_cases hv : valsN u.trusted = 0
  · have HVZ := hid hv
    have HVK := hid (valsN_ok hv)
    have HDG := hid (show ∀ wx, Below w0.heap.size w0 wx → Calls Tryd.prog 23 #[.slice o6 u.trusted.length c6] wx fun e w' => ∃ x, e = .returned x ∧ Bytes w' w'.heap.size x (digV u.trusted) ∧ Below wx.heap.size wx w' from fun wx hx => by
      have hbx := HB0.out.trans (hx.mono HB0.out.size)
      exact digestC u.trusted _ N wx (HTAB.out.below hbx HTAB.out.lt) (HT.out.below (hbx.mono hN)) (Nat.le_trans hN hbx.size) HVK.out.2.1 HOK.out)
    have HFT := hid (show ∀ (wx : World) (M : Nat) (x : Value), Below w0.heap.size w0 wx → Bytes wx M x (digV u.trusted) → Calls Tryd.prog 126 #[x, .slice p2 k.next.length d2] wx fun e w' => e = .returned (.int .i64 (fitN (digV u.trusted) k.next)) ∧ w' = wx from fun wx M x hx hbx =>
      fit_any _ _ _ _ M N wx hbx (HG2.out.below ((HB0.out.trans (hx.mono HB0.out.size)).mono hN)))
    have HOV := hid (show ∀ wx, Below w0.heap.size w0 wx → Calls Tryd.prog 27 #[.slice o6 u.trusted.length c6, .agg #[.string u.sg.hd.chain, .int .i64 u.sg.hd.height, .int .i64 u.sg.hd.time, .slice o1 u.sg.hd.root.length c1, .slice o2 u.sg.hd.vals.length c2, .slice o3 u.sg.hd.next.length c3, .slice o4 u.sg.vals.length c4, .slice o5 u.sg.votes.length c5]] wx fun e w' => e = .returned (.bool (overB u.trusted u.sg)) ∧ Below wx.heap.size wx w' from fun wx hx => by
      have hbx := HB0.out.trans (hx.mono HB0.out.size)
      exact overC u.trusted u.sg _ _ N wx (Nat.le_trans hN hbx.size) (HT.out.below (hbx.mono hN)) (HSG.out.below (hbx.mono hN)) HVZ.out HOK.out HSV.out HSL.out)
    clear hv
    go_enter Tryd.func127, Tryd.ntmps127
    go_wp2_with fail
    rw [HW0.out]
    refine HVA.out.mono ?_
    rintro e w1 ⟨rfl, hb1⟩
    rw [HVZ.out]
    have HQ1 := hid hb1
    have HB1 := hid (HB0.out.trans (hb1.mono HB0.out.size))
    have HBC := hid (show ∀ wx, Below w0.heap.size w0 wx → wx.cell? ⟨w.heap.size, 3, none⟩ = some (.slice p2 k.next.length d2) ∧ wx.cell? ⟨w.heap.size + 1, 9, none⟩ = some (.slice o6 u.trusted.length c6) from fun wx hx => ⟨(HR0.out.below hx HR0.out.lt).cell 3, (HR1.out.below hx HR1.out.lt).cell 9⟩)
    have HBD := hid (show Below w0.heap.size w0 w1.drew from hb1.drew)
    have s0 := HBC.out w1 hb1
    have s1 := HBC.out _ HBD.out
    have HFC := hid (show (fitN (digV u.trusted) k.next = 0 ∧ digV u.trusted = k.next) ∨ (fitN (digV u.trusted) k.next = 8 ∧ leapN k u = 8) by
      by_cases h : digV u.trusted = k.next
      · exact .inl ⟨by unfold fitN; rw [if_pos h], h⟩
      · exact .inr ⟨by unfold fitN; rw [if_neg h], by unfold leapN; rw [if_neg (by simp [HVZ.out]), if_pos h]⟩)
    clear hb1 k9
    go_wp2_with fail
    go_region_held3 (fun W => W.cell? ⟨w.heap.size, 3, none⟩ = some (.slice p2 k.next.length d2) ∧ W.cell? ⟨w.heap.size + 1, 9, none⟩ = some (.slice o6 u.trusted.length c6)) (first | assumption) (first
      | (go_at_call 23; refine (HDG.out _ HBD.out).mono ?_; rintro e w6 ⟨x6, rfl, hx6, hb6⟩; obtain ⟨o7, c7, rfl, _⟩ := hx6.shape; have HX6 := hid hx6; have HB6 := hid (HBD.out.trans (hb6.mono HBD.out.size)); have s6 := HBC.out _ HB6.out; clear hb6 hx6)
      | (go_at_call 126; refine (HFT.out _ _ _ HB6.out HX6.out).mono ?_; rintro e w7 ⟨rfl, hw7⟩; obtain rfl := hw7.symm))
    all_goals
      have HBW := hid (HB0.out.trans (HB6.out.mono HB0.out.size))
      obtain ⟨⟨i0, i1, i2, i3, i4⟩, i5, i6, i7, i8, i9⟩ := (HR1.out.below HB6.out HR1.out.lt).ten
      rcases HFC.out with ⟨hz, hd⟩ | ⟨hz, hl⟩
      · rw [hz]
        have HD := hid hd
        clear hz hd s0 s1 s6
        go_wp2_with fail
        refine (HOV.out _ HB6.out).mono ?_
        rintro e w8 ⟨rfl, hb8⟩
        have HB8 := hid (HBW.out.trans (hb8.mono HBW.out.size))
        clear hb8
        cases ho : overB u.trusted u.sg with
        | true =>
          have HL := hid (show leapN k u = 0 by unfold leapN; rw [if_neg (by simp [HVZ.out]), if_neg (by simp [HD.out]), if_neg (by simp [ho])])
          clear ho
          go_wp2
          go_ret
          exact ⟨by rw [HL.out]; first | done | rfl, HB8.out⟩
        | false =>
          have HL := hid (show leapN k u = 10 by unfold leapN; rw [if_neg (by simp [HVZ.out]), if_neg (by simp [HD.out]), if_pos ho])
          clear ho
          go_wp2
          go_ret
          exact ⟨by rw [HL.out]; first | done | rfl, HB8.out⟩
      · rw [hz]
        have HL := hid hl
        clear hz hl s0 s1 s6
        go_wp2
        go_ret
        exact ⟨by rw [HL.out]; first | done | rfl, HBW.out⟩
  · have HL := hid (show leapN k u = valsN u.trusted by unfold leapN; rw [if_pos hv])
    have e1 : (valsN u.trusted != 0) = true := by simpa using hv
    clear hv
    generalize valsN u.trusted = z at *
    go_enter Tryd.func127, Tryd.ntmps127
    go_wp2_with fail
    rw [HW0.out]
    refine HVA.out.mono ?_
    rintro e w1 ⟨rfl, hb1⟩
    have HB1 := hid (HB0.out.trans (hb1.mono HB0.out.size))
    clear hb1
    go_wp2
    go_ret
    exact ⟨by rw [HL.out]; first | done | rfl, HB1.out⟩
end Go.Proofs.YtfpngilmdgeikaaDoor
