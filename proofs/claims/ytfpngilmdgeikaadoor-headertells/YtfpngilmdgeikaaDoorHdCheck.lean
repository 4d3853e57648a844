/-
  What Check answers: what keeps a signed header from being one that its validators voted for.
-/
import Derived.Test.YtfpngilmdgeikaaDoorHdTog
import Derived.Test.YtfpngilmdgeikaaDoorHdGood
import Derived.Test.YtfpngilmdgeikaaDoorHdPow
namespace Go.Proofs.YtfpngilmdgeikaaDoor
open Go.RowKit

/-- what Check is to answer -/
def CheckC (f : FuncId) : Prop := ∀ (s : Sg) (v : Value) (N : Nat) (w : World), tableAt w → N ≤ w.heap.size → SgV w N v s → s.fits →
  Calls Tryd.prog f #[v] w fun e w' => e = .returned (.int .i64 (checkN s)) ∧ Below w.heap.size w w'
/-- the place's vote is one -/
def isAt (ts : List Vt) (k : Nat) : Bool := match ts[k]? with
  | some t => t.is
  | none => false
theorem isAt_some {ts : List Vt} {k : Nat} {t : Vt} (h : ts[k]? = some t) : isAt ts k = t.is := by unfold isAt; rw [h]
theorem check1_any (ts : List Vt) (k g c : Nat) (o : Option Addr) (N : Nat) (w : World) (hc : w.cell? ⟨g, 7, none⟩ = some (.slice o ts.length c)) (ht : Votes w N (.slice o ts.length c) ts) (hk : k < ts.length) (hn : ts.length ≤ 10) :
    Calls Tryd.prog 48 #[.int .i64 (k : Int), .pointer (some ⟨g, 0, none⟩)] w fun e w' => e = .returned (.bool (isAt ts k)) ∧ Below w.heap.size w w' := by
  obtain ⟨b, p, rfl, hcells⟩ := ht.spot (by omega)
  obtain ⟨t, h⟩ : ∃ t, ts[k]? = some t := ⟨ts[k], List.getElem?_eq_getElem hk⟩
  obtain ⟨_, a0, _, _⟩ := hcells k t h
  have HI := hid (isAt_some h)
  have hlt : (k : Int) < (ts.length : Int) := by omega
  clear hcells ht h
  generalize ts.length = n at *
  go_enter Tryd.func48, Tryd.ntmps48
  go_wp2
  go_ret
  exact ⟨by rw [HI.out]; first | done | rfl, Below.refl _ _⟩
set_option maxRecDepth 100000 in
set_option maxHeartbeats 1000000 in
theorem checkC : CheckC 17 := by
  intro s v N w htab hN hv hfit
  have HSV := hid hv
  obtain ⟨rv, vv, nv, lv, tv, rfl, h1, h2, h3, h4, h5⟩ := hv
  obtain ⟨hf, hln, htn, hok, hot⟩ := hfit
  obtain ⟨o1, c1, rfl, _⟩ := h1.shape
  obtain ⟨o2, c2, rfl, _⟩ := h2.shape
  obtain ⟨o3, c3, rfl, _⟩ := h3.shape
  have HL := hid h4
  have HT := hid h5
  obtain ⟨o4, c4, rfl, _⟩ := h4.shape
  obtain ⟨o5, c5, rfl, _⟩ := h5.shape
  have HHV := hid (show HdV w N (.agg #[.string s.hd.chain, .int .i64 s.hd.height, .int .i64 s.hd.time, .slice o1 s.hd.root.length c1, .slice o2 s.hd.vals.length c2, .slice o3 s.hd.next.length c3]) s.hd from ⟨_, _, _, rfl, h1, h2, h3⟩)
  have HTAB := hid htab
  have HOK := hid hok
  have HOT := hid hot
  obtain ⟨w0, hw0⟩ : ∃ w0, w.alloc (.cells #[.string s.hd.chain, .int .i64 s.hd.height, .int .i64 s.hd.time, .slice o1 s.hd.root.length c1, .slice o2 s.hd.vals.length c2, .slice o3 s.hd.next.length c3, .slice o4 s.vals.length c4, .slice o5 s.votes.length c5] 29) = w0 := ⟨_, rfl⟩
  have HB0 := hid (show Below w.heap.size w w0 by rw [← hw0]; exact (Below.refl _ _).alloc (Nat.le_refl _) _)
  have hr0 : Row w0 w.heap.size 29 [.string s.hd.chain, .int .i64 s.hd.height, .int .i64 s.hd.time, .slice o1 s.hd.root.length c1, .slice o2 s.hd.vals.length c2, .slice o3 s.hd.next.length c3, .slice o4 s.vals.length c4, .slice o5 s.votes.length c5] := by rw [← hw0]; exact Row.new _ _ _
  have HR0 := hid hr0
  obtain ⟨k0, k1, k2, k3, k4, k5, k6, k7⟩ := hr0.eight
  have HTG := hid (together_any s.hd s.vals _ _ N w0 (htab.below HB0.out htab.lt) (Nat.le_trans hN HB0.out.size) (HHV.out.below (HB0.out.mono hN)) hf (HL.out.below (HB0.out.mono hN)) hln hok)
  clear h1 h2 h3 h4 h5 htab hok hot hr0
  by_cases ht : togetherN s.hd s.vals = 0
  · have e1 : (togetherN s.hd s.vals != 0) = false := by simp [ht]
    have t1 := (togetherN_ok ht).1
    have t2 := (togetherN_ok ht).2.1
    have HVO := hid (valsN_ok t2)
    have HW1 := hid t1
    by_cases hlen : s.votes.length = s.vals.length
    · have e2 : ((s.votes.length : Int) != (s.vals.length : Int)) = false := by simp [hlen]
      have HAG := hid (show ∀ wq, Below w.heap.size w wq → Calls Tryd.prog 46 #[.agg #[.string s.hd.chain, .int .i64 s.hd.height, .int .i64 s.hd.time, .slice o1 s.hd.root.length c1, .slice o2 s.hd.vals.length c2, .slice o3 s.hd.next.length c3, .slice o4 s.vals.length c4, .slice o5 s.votes.length c5]] wq fun e w' => e = .returned (.bool (goodAll (bytesH s.hd) s.vals s.votes)) ∧ Below wq.heap.size wq w' from fun wq hq =>
        allGood_any s _ N wq (HTAB.out.below hq HTAB.out.lt) (Nat.le_trans hN hq.size) (HSV.out.below (hq.mono hN)) HW1.out hlen HVO.out.2.1 HOK.out HOT.out)
      by_cases hga : goodAll (bytesH s.hd) s.vals s.votes = true
      · have HPW := hid (show ∀ wq, Below w0.heap.size w0 wq → Calls Tryd.prog 47 #[.slice o4 s.vals.length c4, .func (.func 48) #[] #[.pointer (some ⟨w.heap.size, 0, none⟩)]] wq fun e w' => e = .returned (.tuple #[.int .u64 (yesP s.vals s.votes : Int), .int .u64 (allP s.vals : Int)]) ∧ Below wq.heap.size wq w' from fun wq hq => by
          have hqw := HB0.out.trans (hq.mono HB0.out.size)
          have := powerCheck w.heap.size s.vals (isAt s.votes) _ N wq (Nat.le_trans hN hqw.size) (HL.out.below (hqw.mono hN)) HVO.out.2.1 (fun v hv => (HVO.out.2.2.1 v hv).2) (fun k wr hk hb => by
            have hbw := hqw.trans (hb.mono hqw.size)
            have hb0 := hq.trans (hb.mono hq.size)
            exact check1_any s.votes k w.heap.size c5 o5 N wr ((HR0.out.below hb0 HR0.out.lt).cell 7) (HT.out.below (hbw.mono hN)) (by rw [hlen]; exact hk) (by rw [hlen]; exact HVO.out.2.1))
          rw [sumIx_yes s.vals s.votes 0 (isAt s.votes) hlen (fun i t h => by rw [Nat.zero_add]; exact isAt_some h)] at this
          exact this)
        have hyl := yesP_le s.vals s.votes
        have hal := allP_le s.vals (fun v hv => (HVO.out.2.2.1 v hv).2)
        have hvl := HVO.out.2.1
        have HLEN := hid hlen
        have HGA := hid hga
        by_cases h3 : 3 * yesP s.vals s.votes ≤ 2 * allP s.vals
        · have HC := hid (show checkN s = 10 by unfold checkN; rw [if_neg (by simp [ht]), if_neg (by simp [hlen]), if_neg (by simp [hga]), if_pos h3])
          rw [hga] at HAG
          clear ht t1 t2 hga HLEN
          generalize s.vals.length = nn at *
          generalize s.votes.length = n at *
          subst hlen
          clear e2
          generalize yesP s.vals s.votes = yy at *
          generalize allP s.vals = aa at *
          have hw3 : IntKind.u64.wrap (3 * (yy : Int)) = 3 * (yy : Int) := by simp [IntKind.wrap, IntKind.bits, IntKind.signed]; omega
          have hw2 : IntKind.u64.wrap (2 * (aa : Int)) = 2 * (aa : Int) := by simp [IntKind.wrap, IntKind.bits, IntKind.signed]; omega
          have e3 : decide (3 * (yy : Int) ≤ 2 * (aa : Int)) = true := by simp; omega
          go_enter Tryd.func17, Tryd.ntmps17
          go_wp2_with fail
          refine HTG.out.mono ?_
          rintro e w1 ⟨rfl, hb1⟩
          have HB1 := hid (HB0.out.trans (hb1.mono HB0.out.size))
          have HR1 := hid (HR0.out.below hb1 HR0.out.lt)
          have HQ1 := hid hb1
          obtain ⟨j0, j1, j2, j3, j4, j5, j6, j7⟩ := HR1.out.eight
          clear hb1
          generalize togetherN s.hd s.vals = tt at *
          go_wp2_with fail
          refine (HAG.out w1 HB1.out).mono ?_
          rintro e w2 ⟨rfl, hb2⟩
          have HB2 := hid (HB1.out.trans (hb2.mono HB1.out.size))
          have HQ2 := hid (HQ1.out.trans (hb2.mono HQ1.out.size))
          have i6 := (HR1.out.below hb2 HR1.out.lt).cell 6
          clear hb2
          go_wp2_with fail
          refine (HPW.out w2 HQ2.out).mono ?_
          rintro e w3 ⟨rfl, hb3⟩
          have HB3 := hid (HB2.out.trans (hb3.mono HB2.out.size))
          clear hb3
          go_wp2
          go_ret
          exact ⟨by rw [HC.out]; first | done | rfl, HB3.out⟩
        · have HC := hid (show checkN s = 0 by unfold checkN; rw [if_neg (by simp [ht]), if_neg (by simp [hlen]), if_neg (by simp [hga]), if_neg h3])
          rw [hga] at HAG
          clear ht t1 t2 hga HLEN
          generalize s.vals.length = nn at *
          generalize s.votes.length = n at *
          subst hlen
          clear e2
          generalize yesP s.vals s.votes = yy at *
          generalize allP s.vals = aa at *
          have hw3 : IntKind.u64.wrap (3 * (yy : Int)) = 3 * (yy : Int) := by simp [IntKind.wrap, IntKind.bits, IntKind.signed]; omega
          have hw2 : IntKind.u64.wrap (2 * (aa : Int)) = 2 * (aa : Int) := by simp [IntKind.wrap, IntKind.bits, IntKind.signed]; omega
          have e3 : decide (3 * (yy : Int) ≤ 2 * (aa : Int)) = false := by simp; omega
          go_enter Tryd.func17, Tryd.ntmps17
          go_wp2_with fail
          refine HTG.out.mono ?_
          rintro e w1 ⟨rfl, hb1⟩
          have HB1 := hid (HB0.out.trans (hb1.mono HB0.out.size))
          have HR1 := hid (HR0.out.below hb1 HR0.out.lt)
          have HQ1 := hid hb1
          obtain ⟨j0, j1, j2, j3, j4, j5, j6, j7⟩ := HR1.out.eight
          clear hb1
          generalize togetherN s.hd s.vals = tt at *
          go_wp2_with fail
          refine (HAG.out w1 HB1.out).mono ?_
          rintro e w2 ⟨rfl, hb2⟩
          have HB2 := hid (HB1.out.trans (hb2.mono HB1.out.size))
          have HQ2 := hid (HQ1.out.trans (hb2.mono HQ1.out.size))
          have i6 := (HR1.out.below hb2 HR1.out.lt).cell 6
          clear hb2
          go_wp2_with fail
          refine (HPW.out w2 HQ2.out).mono ?_
          rintro e w3 ⟨rfl, hb3⟩
          have HB3 := hid (HB2.out.trans (hb3.mono HB2.out.size))
          clear hb3
          go_wp2
          go_ret
          exact ⟨by rw [HC.out]; first | done | rfl, HB3.out⟩
      · have hga' : goodAll (bytesH s.hd) s.vals s.votes = false := by simpa using hga
        have HC := hid (show checkN s = 10 by unfold checkN; rw [if_neg (by simp [ht]), if_neg (by simp [hlen]), if_pos hga'])
        rw [hga'] at HAG
        clear ht t1 t2 hga hga'
        generalize s.vals.length = nn at *
        generalize s.votes.length = n at *
        subst hlen
        clear e2
        go_enter Tryd.func17, Tryd.ntmps17
        go_wp2_with fail
        refine HTG.out.mono ?_
        rintro e w1 ⟨rfl, hb1⟩
        have HB1 := hid (HB0.out.trans (hb1.mono HB0.out.size))
        have HR1 := hid (HR0.out.below hb1 HR0.out.lt)
        obtain ⟨j0, j1, j2, j3, j4, j5, j6, j7⟩ := HR1.out.eight
        clear hb1
        generalize togetherN s.hd s.vals = tt at *
        go_wp2_with fail
        refine (HAG.out w1 HB1.out).mono ?_
        rintro e w2 ⟨rfl, hb2⟩
        have HB2 := hid (HB1.out.trans (hb2.mono HB1.out.size))
        clear hb2
        go_wp2
        go_ret
        exact ⟨by rw [HC.out]; first | done | rfl, HB2.out⟩
    · have e2 : ((s.votes.length : Int) != (s.vals.length : Int)) = true := by simp; omega
      have HC := hid (show checkN s = 8 by unfold checkN; rw [if_neg (by simp [ht]), if_pos hlen])
      clear ht hlen t1 t2
      go_enter Tryd.func17, Tryd.ntmps17
      go_wp2_with fail
      refine HTG.out.mono ?_
      rintro e w1 ⟨rfl, hb1⟩
      have HB1 := hid (HB0.out.trans (hb1.mono HB0.out.size))
      have HR1 := hid (HR0.out.below hb1 HR0.out.lt)
      obtain ⟨j0, j1, j2, j3, j4, j5, j6, j7⟩ := HR1.out.eight
      clear hb1
      generalize togetherN s.hd s.vals = tt at *
      go_wp2
      go_ret
      exact ⟨by rw [HC.out]; first | done | rfl, HB1.out⟩
  · have e1 : (togetherN s.hd s.vals != 0) = true := by simp [ht]
    have HC := hid (show checkN s = togetherN s.hd s.vals by unfold checkN; rw [if_pos ht])
    clear ht
    go_enter Tryd.func17, Tryd.ntmps17
    go_wp2_with fail
    refine HTG.out.mono ?_
    rintro e w1 ⟨rfl, hb1⟩
    have HB1 := hid (HB0.out.trans (hb1.mono HB0.out.size))
    clear hb1
    generalize togetherN s.hd s.vals = tt at *
    go_wp2
    go_ret
    exact ⟨by rw [HC.out]; first | done | rfl, HB1.out⟩
end Go.Proofs.YtfpngilmdgeikaaDoor
