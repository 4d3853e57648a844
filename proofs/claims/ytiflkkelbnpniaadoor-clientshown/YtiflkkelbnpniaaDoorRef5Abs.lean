/-
  What the document's Shown answers: whether a proof shows something of a root.
  What the document's Absent answers: whether a gap shows that a key does not stand in the book with a root.
-/
import Derived.Test.YtiflkkelbnpniaaDoorBookMath
import Derived.Test.YtiflkkelbnpniaaDoorPairsAll
import Derived.Test.YtiflkkelbnpniaaDoorBookTree
import Derived.Test.YtiflkkelbnpniaaDoorSameB
import Derived.Test.YtiflkkelbnpniaaDoorClShown
namespace Go.Proofs.YtiflkkelbnpniaaDoor
open Go.RowKit

theorem drewN_belowS (w : World) (n N : Nat) : Below N w (w.drewN n) := ⟨rfl, rfl, rfl, Nat.le_refl _, fun _ _ => rfl⟩
set_option maxRecDepth 100000 in
set_option maxHeartbeats 4000000 in
theorem refShown_any (r : List (BitVec 8)) (p : Prf) (rv v : Value) (N : Nat) (w : World) (hN : N ≤ w.heap.size) (hr : Bytes w N rv r) (hp : PrfV w N v p) (_hf : p.fits) (hrl : r.length ≤ 140737488351232) :
    Calls Tryd.prog 23 #[rv, v] w fun e w' => Below w.heap.size w w' ∧ Tells (shownB r p) e := by
  obtain ⟨kv, vv, pv, rfl, hk, hv, hpt⟩ := hp
  obtain ⟨o1, c1, rfl, _⟩ := hk.shape
  obtain ⟨o2, c2, rfl, _⟩ := hv.shape
  obtain ⟨o3, c3, rfl, _⟩ := hpt.shape
  obtain ⟨w1, hw1⟩ : ∃ w1, w.alloc (.cells #[.int .i64 p.index, .int .i64 p.size, .slice o1 p.key.length c1, .slice o2 p.val.length c2, .slice o3 p.path.length c3] 28) = w1 := ⟨_, rfl⟩
  have hsz1 : w1.heap.size = w.heap.size + 1 := by rw [← hw1]; simp
  have hb1 : Below w.heap.size w w1 := by rw [← hw1]; exact (Below.refl _ _).alloc (Nat.le_refl _) _
  have hrow1 : Row w1 w.heap.size 28 [.int .i64 p.index, .int .i64 p.size, .slice o1 p.key.length c1, .slice o2 p.val.length c2, .slice o3 p.path.length c3] := by rw [← hw1]; exact Row.new _ _ _
  have HB1 := hid hb1
  have HR1 := hid hrow1
  have HW1 := hid hw1
  have HK := hid (hk.below (hb1.mono hN))
  have HV := hid (hv.below (hb1.mono hN))
  have HP := hid (hpt.below (hb1.mono hN))
  have HR := hid (hr.below (hb1.mono hN))
  have q0 := HR1.out.cell 0
  have q1 := HR1.out.cell 1
  have q2 := HR1.out.cell 2
  have q3 := HR1.out.cell 3
  have q4 := HR1.out.cell 4
  clear hk hv hpt hr hb1 hrow1 hw1
  have HSH := hid (show shownB r p ↔ (1 ≤ p.size ∧ p.size ≤ 200 ∧ 0 ≤ p.index ∧ p.index < p.size ∧ p.key.length ≤ 60 ∧ p.val.length ≤ 200 ∧ p.path.length = (wayL p.index.toNat p.size.toNat 0).length ∧ (∀ d ∈ p.path, d.length = 32) ∧
    topD p.size.toNat (upD (wayL p.index.toNat p.size.toNat 0) p.path.reverse (leafD p.key p.val)) = r) from Iff.rfl)
  go_enter Tryd.func23, Tryd.ntmps23
  by_cases g1 : p.size < 1
  · have e1 : decide (p.size < 1) = true := by simpa using g1
    go_wp2
    go_ret
    exact ⟨by rw [HW1.out]; exact HB1.out, Tells.no (fun h => by have h := HSH.out.1 h; omega)⟩
  have e1 : decide (p.size < 1) = false := by simpa using g1
  by_cases g2 : 200 < p.size
  · have e2 : decide ((200 : Int) < p.size) = true := by simpa using g2
    go_wp2
    go_ret
    exact ⟨by rw [HW1.out]; exact HB1.out, Tells.no (fun h => by have h := HSH.out.1 h; omega)⟩
  have e2 : decide ((200 : Int) < p.size) = false := by simpa using g2
  by_cases g3 : p.index < 0
  · have e3 : decide (p.index < 0) = true := by simpa using g3
    go_wp2
    go_ret
    exact ⟨by rw [HW1.out]; exact HB1.out, Tells.no (fun h => by have h := HSH.out.1 h; omega)⟩
  have e3 : decide (p.index < 0) = false := by simpa using g3
  by_cases g4 : p.size ≤ p.index
  · have e4 : decide (p.size ≤ p.index) = true := by simpa using g4
    go_wp2
    go_ret
    exact ⟨by rw [HW1.out]; exact HB1.out, Tells.no (fun h => by have h := HSH.out.1 h; omega)⟩
  have e4 : decide (p.size ≤ p.index) = false := by simpa using g4
  by_cases g5 : 60 < p.key.length
  · have e5 : decide ((60 : Int) < (p.key.length : Int)) = true := by simp; omega
    go_wp2
    go_ret
    exact ⟨by rw [HW1.out]; exact HB1.out, Tells.no (fun h => by have h := HSH.out.1 h; omega)⟩
  have e5 : decide ((60 : Int) < (p.key.length : Int)) = false := by simp; omega
  by_cases g6 : 200 < p.val.length
  · have e6 : decide ((200 : Int) < (p.val.length : Int)) = true := by simp; omega
    go_wp2
    go_ret
    exact ⟨by rw [HW1.out]; exact HB1.out, Tells.no (fun h => by have h := HSH.out.1 h; omega)⟩
  have e6 : decide ((200 : Int) < (p.val.length : Int)) = false := by simp; omega
  obtain ⟨n, hn⟩ : ∃ n : Nat, p.size = (n : Int) := ⟨p.size.toNat, by omega⟩
  obtain ⟨i, hi⟩ : ∃ i : Nat, p.index = (i : Int) := ⟨p.index.toNat, by omega⟩
  have HWY := hid (refWay_any i n w1 (by omega) (by omega))
  rw [← hn, ← hi] at HWY
  obtain ⟨ws, hws⟩ : ∃ ws, wayL i n 0 = ws := ⟨_, rfl⟩
  rw [hws] at HWY
  have HWL := hid (show ws.length ≤ n by rw [← hws]; exact wayL_length n i 0)
  have HSH2 := hid (show shownB r p ↔ (p.path.length = ws.length ∧ (∀ d ∈ p.path, d.length = 32) ∧ topD n (upD ws p.path.reverse (leafD p.key p.val)) = r) from by
    rw [HSH.out, hn, hi, Int.toNat_natCast, Int.toNat_natCast, hws]
    constructor
    · rintro ⟨_, _, _, _, _, _, h1, h2, h3⟩
      exact ⟨h1, h2, h3⟩
    · rintro ⟨h1, h2, h3⟩
      exact ⟨by omega, by omega, by omega, by omega, by omega, by omega, h1, h2, h3⟩)
  have hn200 : n ≤ 200 := by omega
  have HSZP := hid hn
  have HKL := hid (show p.key.length ≤ 60 ∧ p.val.length ≤ 200 by omega)
  clear hws hn hi HSH
  go_wp2_with fail
  rw [HW1.out]
  refine HWY.out.mono ?_
  rintro e w2 ⟨vw, rfl, hrw, hb2⟩
  have hsz2 := hb2.size
  obtain ⟨ow, cw, rfl, hcw⟩ := hrw.shape
  have HRW := hid hrw
  have HB2 := hid (HB1.out.trans (hb2.mono (by omega)))
  have HR2 := hid (HR1.out.below hb2 (by omega))
  have HK2 := hid (HK.out.below (hb2.mono (by omega)))
  have HV2 := hid (HV.out.below (hb2.mono (by omega)))
  have HP2 := hid (HP.out.below (hb2.mono (by omega)))
  have HRT2 := hid (HR.out.below (hb2.mono (by omega)))
  clear hrw hb2 HWY q0 q1 q2 q3 q4 e1 e2 e3 e4 e5 e6 g1 g2 g3 g4 g5 g6 HK HV HP HR HR1
  have q1 := HR2.out.cell 1
  have q2 := HR2.out.cell 2
  have q3 := HR2.out.cell 3
  have q4 := HR2.out.cell 4
  generalize hm : ws.length = m at *
  have HM := hid hm
  clear hm
  generalize hmp : p.path.length = mp at *
  have HMP := hid hmp
  clear hmp
  by_cases hlen : mp = m
  · subst hlen
    have hmp200 : mp ≤ 200 := by have := HWL.out; omega
    have e1 : ((mp : Int) != (mp : Int)) = false := by simp
    have HLF := hid (refLeaf_any p.key p.val (.slice o1 p.key.length c1) (.slice o2 p.val.length c2) N w2 (by omega) HK2.out HV2.out (by have := HKL.out; omega) (by have := HKL.out; omega))
    go_wp2_with fail
    refine HLF.out.mono ?_
    rintro e w3 ⟨o4, c4, rfl, hown3, hb3⟩
    have hsz3 := hb3.size
    have HB3 := hid (HB2.out.trans (hb3.mono (by omega)))
    have HR3 := hid (HR2.out.below hb3 (by omega))
    have HP3 := hid (HP2.out.below (hb3.mono (by omega)))
    have HRT3 := hid (HRT2.out.below (hb3.mono (by omega)))
    have HRW3 := hid (HRW.out.below hb3)
    have HO3 := hid hown3
    clear hb3 hown3 q1 q2 q3 q4 HLF HRW HR2 HK2 HV2 HP2 HRT2
    have q4 := HR3.out.cell 4
    go_wp2_with fail
    go_loopw [6, 60] (fun s6 s60 wr => ∃ k : Nat, k ≤ mp ∧ s60 = .int .i64 (k : Int) ∧ Hid (OwnB wr w2.heap.size s6 (upK ws p.path k (leafD p.key p.val)) ∧ Below w3.heap.size w3 wr ∧ ∀ d ∈ p.path.take k, d.length = 32)) (fun _ s60 _ => mp - (intOf s60).toNat)
    case atStart => exact ⟨0, Nat.zero_le _, rfl, hid ⟨by rw [upK_zero]; exact HO3.out, Below.refl _ _, by simp⟩⟩
    case round =>
      obtain ⟨k, hk, rfl, HR⟩ := hrel
      have hszr := HR.out.2.1.size
      by_cases hlt : k < mp
      · have hlp : Lists w3 N (.slice o3 p.path.length c3) p.path := by rw [HMP.out]; exact HP3.out
        obtain ⟨b, o, rfl, hc⟩ := hlp.some (by rw [HMP.out]; omega)
        obtain ⟨hbN, x, hx, hbx⟩ := hc k (by rw [HMP.out]; exact hlt)
        obtain ⟨d, hd⟩ : ∃ d, p.path.getD k [] = d := ⟨_, rfl⟩
        have hdk : p.path[k]? = some d := by rw [← hd]; exact getD_some _ _ _ (by rw [HMP.out]; exact hlt)
        rw [hd] at hbx
        obtain ⟨od, cd, rfl, _⟩ := hbx.shape
        have f0 := (HR.out.2.1.cell (p := ⟨b, o + k, none⟩) (show b < w3.heap.size by omega)).trans hx
        have HDB := hid (hbx.below (HR.out.2.1.mono (show N ≤ w3.heap.size by omega)))
        have HDM := hid (List.mem_of_getElem? hdk)
        have HDK := hid hdk
        have hlt' : (k : Int) < (mp : Int) := by omega
        obtain ⟨oy, cy, hsy, _⟩ := HR.out.1.shape
        have HY32 := hid (upK_len ws p.path k (leafD p.key p.val) (by unfold leafD; exact sha_length _))
        rw [HY32.out] at hsy
        subst hsy
        clear hlp hc hx hbx hd hdk
        by_cases h32 : d.length = 32
        · have e2 : ((d.length : Int) != 32) = false := by simp; omega
          obtain ⟨t, ht⟩ : ∃ t, ws[mp - 1 - k]? = some t := ⟨ws[mp - 1 - k]'(by rw [HM.out]; omega), List.getElem?_eq_getElem _⟩
          obtain ⟨gw, rfl, _, hgw, hcw2⟩ := HRW3.out.get (by omega)
          obtain ⟨t0, _, _⟩ := hcw2 (mp - 1 - k) t ht
          have k0 := (HR.out.2.1.cell (p := ⟨gw, (mp - 1 - k) * 3, none⟩) hgw).trans t0
          have HUP := hid (upK_succ ws p.path k (leafD p.key p.val) t d (by rw [HM.out]; exact ht) (by rw [HM.out]; exact hlt) HDK.out)
          have HTK := hid (show ∀ d' ∈ p.path.take (k + 1), d'.length = 32 from fun d' hd' => by
            obtain ⟨j, hj, rfl⟩ := List.getElem_of_mem hd'
            rw [List.getElem_take]
            by_cases ej : j = k
            · subst ej
              have := HDK.out
              rw [List.getElem?_eq_getElem (by rw [HMP.out]; omega)] at this
              obtain h := Option.some.inj this
              rw [h]
              exact h32
            · have hjl : j < k := by simp at hj; omega
              refine HR.out.2.2 _ ?_
              rw [List.mem_iff_getElem]
              exact ⟨j, by simp; rw [HMP.out]; omega, by rw [List.getElem_take]⟩)
          have j1 : IntKind.i64.wrap ((mp : Int) - 1) = (mp : Int) - 1 := by rw [IntKind.wrap_i64]; omega
          have j2 : (mp : Int) - 1 - (k : Int) = ((mp - 1 - k : Nat) : Int) := by omega
          have j3 : IntKind.i64.wrap ((mp : Int) - 1 - (k : Int)) = ((mp - 1 - k : Nat) : Int) := by rw [IntKind.wrap_i64]; omega
          have j4 : ((mp - 1 - k : Nat) : Int) < (mp : Int) := by omega
          have hdl : d.length ≤ 100000 := by omega
          have HSZR := hid (show w2.heap.size ≤ wr.heap.size by omega)
          rw [h32] at f0 HDB
          obtain ⟨jj, hjj⟩ : ∃ jj, mp - 1 - k = jj := ⟨_, rfl⟩
          rw [hjj] at k0 j2 j3 j4
          clear hcw2 t0 hjj e2
          cases htr : t.right with
          | true =>
            rw [htr] at k0
            have HND := hid (refNode_any d (upK ws p.path k (leafD p.key p.val)) (.slice od 32 cd) (.slice oy 32 cy) wr.heap.size wr (Nat.le_refl _) (HDB.out.mono (by omega)) HR.out.1.bytes hdl (by rw [HY32.out]; decide))
            have HU2 := hid (show upK ws p.path (k + 1) (leafD p.key p.val) = nodeD d (upK ws p.path k (leafD p.key p.val)) by rw [HUP.out, if_pos htr])
            clear htr
            go_wp2_with fail
            refine HND.out.mono ?_
            rintro e w5 ⟨o5, c5, rfl, hown5, hb5⟩
            have HO5 := hid (hown5.mono HSZR.out)
            have HB5 := hid (HR.out.2.1.trans (hb5.mono hszr))
            clear hown5 hb5
            go_wp2_with fail
            exact ⟨⟨k + 1, by omega, by go_num, hid ⟨by rw [HU2.out]; exact HO5.out, HB5.out, HTK.out⟩⟩, by simp [intOf]; omega⟩
          | false =>
            rw [htr] at k0
            have HND := hid (refNode_any (upK ws p.path k (leafD p.key p.val)) d (.slice oy 32 cy) (.slice od 32 cd) wr.heap.size wr (Nat.le_refl _) HR.out.1.bytes (HDB.out.mono (by omega)) (by rw [HY32.out]; decide) hdl)
            have HU2 := hid (show upK ws p.path (k + 1) (leafD p.key p.val) = nodeD (upK ws p.path k (leafD p.key p.val)) d by rw [HUP.out, if_neg (by rw [htr]; decide)])
            clear htr
            go_wp2_with fail
            refine HND.out.mono ?_
            rintro e w5 ⟨o5, c5, rfl, hown5, hb5⟩
            have HO5 := hid (hown5.mono HSZR.out)
            have HB5 := hid (HR.out.2.1.trans (hb5.mono hszr))
            clear hown5 hb5
            go_wp2_with fail
            exact ⟨⟨k + 1, by omega, by go_num, hid ⟨by rw [HU2.out]; exact HO5.out, HB5.out, HTK.out⟩⟩, by simp [intOf]; omega⟩
        · have e2 : ((d.length : Int) != 32) = true := by simp; omega
          have HBR := hid (HB3.out.trans (HR.out.2.1.mono (by omega)))
          go_wp2
          go_ret
          exact ⟨HBR.out, Tells.no (fun h => h32 ((HSH2.out.1 h).2.1 d HDM.out))⟩
      · have hge : decide ((k : Int) < (mp : Int)) = false := by simp; omega
        obtain rfl : k = mp := by omega
        have HRR := hid (HR3.out.below HR.out.2.1 (by omega))
        have r1 := HRR.out.cell 1
        have HUA := hid (show upK ws p.path k (leafD p.key p.val) = upD ws p.path.reverse (leafD p.key p.val) by
          have := upK_all ws p.path (leafD p.key p.val) (by rw [HMP.out, HM.out])
          rw [HM.out] at this
          exact this)
        have HALL := hid (show ∀ d ∈ p.path, d.length = 32 from fun d hd => HR.out.2.2 d (by rw [List.take_of_length_le (by rw [HMP.out]; exact Nat.le_refl _)]; exact hd))
        have HTP := hid (refTop_any n (upK ws p.path k (leafD p.key p.val)) u6 wr.heap.size wr (Nat.le_refl _) HR.out.1.bytes (by omega) (by rw [upK_len ws p.path k (leafD p.key p.val) (by unfold leafD; exact sha_length _)]; decide))
        rw [← HSZP.out] at HTP
        have HBR := hid (HB3.out.trans (HR.out.2.1.mono (by omega)))
        have HRTR := hid (HRT3.out.below (HR.out.2.1.mono (by omega)))
        go_wp2_with fail
        refine HTP.out.mono ?_
        rintro e w5 ⟨o5, c5, rfl, hown5, hb5⟩
        have HB5 := hid (HBR.out.trans (hb5.mono (by omega)))
        have HS5 := hid (sameB_any (topD n (upK ws p.path k (leafD p.key p.val))) r (.slice o5 32 c5) rv w5.heap.size N w5 hown5.bytes (HRTR.out.below (hb5.mono (by omega))) (by unfold topD; rw [sha_length]; decide) (by omega))
        clear hown5 hb5 HTP
        go_wp2_with fail
        refine HS5.out.mono ?_
        rintro e w6 ⟨rfl, q6, rfl⟩
        go_wp2
        go_ret
        refine ⟨HB5.out.trans (drewN_belowS _ _ _), _, rfl, ?_⟩
        rw [decide_eq_true_iff, HSH2.out, HUA.out]
        constructor
        · intro h
          exact ⟨by trivial, HALL.out, h⟩
        · rintro ⟨_, _, h⟩
          exact h
  · have e1 : ((m : Int) != (mp : Int)) = true := by simp; omega
    go_wp2
    go_ret
    exact ⟨HB2.out, Tells.no (fun h => by have h := HSH2.out.1 h; exact absurd h.1 hlen)⟩
end Go.Proofs.YtiflkkelbnpniaaDoor
namespace Go.Proofs.YtiflkkelbnpniaaDoor
open Go.RowKit

set_option maxRecDepth 100000 in
set_option maxHeartbeats 4000000 in
theorem refAbsentC : AbsentC 26 := by
  intro r k g rv kv v N w _ hN hr hk hg hf hrl hkl
  obtain ⟨orr, cr, rfl, _⟩ := hr.shape
  obtain ⟨ok, ck, rfl, _⟩ := hk.shape
  obtain ⟨k1, v1, p1, k2, v2, p2, rfl, hk1, hv1, hp1, hk2, hv2, hp2⟩ := hg
  obtain ⟨a1, b1, rfl, _⟩ := hk1.shape
  obtain ⟨a2, b2, rfl, _⟩ := hv1.shape
  obtain ⟨a3, b3, rfl, _⟩ := hp1.shape
  obtain ⟨a4, b4, rfl, _⟩ := hk2.shape
  obtain ⟨a5, b5, rfl, _⟩ := hv2.shape
  obtain ⟨a6, b6, rfl, _⟩ := hp2.shape
  obtain ⟨L, hL⟩ : ∃ L, g.hasL = L := ⟨_, rfl⟩
  obtain ⟨R, hR⟩ : ∃ R, g.hasR = R := ⟨_, rfl⟩
  have HAB := hid (show absentB r k g ↔ if L = false ∧ R = false then r = topD 0 [] else (L = true → shownB r g.left ∧ lessB g.left.key k = true) ∧ (R = true → shownB r g.right ∧ lessB k g.right.key = true) ∧
      ((L = true → R = true → g.right.size = g.left.size ∧ g.left.index + 1 = g.right.index) ∧ (L = true → R = false → g.left.index + 1 = g.left.size) ∧ (L = false → R = true → g.right.index = 0)) by
    unfold absentB
    rw [hL, hR])
  rw [hL, hR]
  obtain ⟨w1, hw1⟩ : ∃ w1, w.alloc (.cells #[.bool L, .bool R, .int .i64 g.left.index, .int .i64 g.left.size, .slice a1 g.left.key.length b1, .slice a2 g.left.val.length b2, .slice a3 g.left.path.length b3, .int .i64 g.right.index, .int .i64 g.right.size, .slice a4 g.right.key.length b4, .slice a5 g.right.val.length b5, .slice a6 g.right.path.length b6] 30) = w1 := ⟨_, rfl⟩
  have hsz1 : w1.heap.size = w.heap.size + 1 := by rw [← hw1]; simp
  have hb1 : Below w.heap.size w w1 := by rw [← hw1]; exact (Below.refl _ _).alloc (Nat.le_refl _) _
  have hrow1 : Row w1 w.heap.size 30 [.bool L, .bool R, .int .i64 g.left.index, .int .i64 g.left.size, .slice a1 g.left.key.length b1, .slice a2 g.left.val.length b2, .slice a3 g.left.path.length b3, .int .i64 g.right.index, .int .i64 g.right.size, .slice a4 g.right.key.length b4, .slice a5 g.right.val.length b5, .slice a6 g.right.path.length b6] := by rw [← hw1]; exact Row.new _ _ _
  have HBX := hid (show ∀ wx, Below w1.heap.size w1 wx → Below w.heap.size w wx from fun wx hx => hb1.trans (hx.mono (by omega)))
  have HRX := hid (show ∀ wx, Below w1.heap.size w1 wx → Row wx w.heap.size 30 [.bool L, .bool R, .int .i64 g.left.index, .int .i64 g.left.size, .slice a1 g.left.key.length b1, .slice a2 g.left.val.length b2, .slice a3 g.left.path.length b3, .int .i64 g.right.index, .int .i64 g.right.size, .slice a4 g.right.key.length b4, .slice a5 g.right.val.length b5, .slice a6 g.right.path.length b6] from fun wx hx => hrow1.below hx (by omega))
  have HSL := hid (show ∀ wx, Below w1.heap.size w1 wx → Calls Tryd.prog 23 #[.slice orr r.length cr, .agg #[.int .i64 g.left.index, .int .i64 g.left.size, .slice a1 g.left.key.length b1, .slice a2 g.left.val.length b2, .slice a3 g.left.path.length b3]] wx fun e w' => Below wx.heap.size wx w' ∧ Tells (shownB r g.left) e from fun wx hx =>
    have hb := HBX.out wx hx
    refShown_any r g.left _ _ N wx (Nat.le_trans hN hb.size) (hr.below (hb.mono hN)) ⟨_, _, _, rfl, hk1.below (hb.mono hN), hv1.below (hb.mono hN), hp1.below (hb.mono hN)⟩ hf.1 hrl)
  have HSR := hid (show ∀ wx, Below w1.heap.size w1 wx → Calls Tryd.prog 23 #[.slice orr r.length cr, .agg #[.int .i64 g.right.index, .int .i64 g.right.size, .slice a4 g.right.key.length b4, .slice a5 g.right.val.length b5, .slice a6 g.right.path.length b6]] wx fun e w' => Below wx.heap.size wx w' ∧ Tells (shownB r g.right) e from fun wx hx =>
    have hb := HBX.out wx hx
    refShown_any r g.right _ _ N wx (Nat.le_trans hN hb.size) (hr.below (hb.mono hN)) ⟨_, _, _, rfl, hk2.below (hb.mono hN), hv2.below (hb.mono hN), hp2.below (hb.mono hN)⟩ hf.2 hrl)
  have HCL := hid (show ∀ wx, Below w1.heap.size w1 wx → Calls Tryd.prog 51 #[.slice a1 g.left.key.length b1, .slice ok k.length ck] wx fun e w' => e = .returned (.bool (lessB g.left.key k)) ∧ Below wx.heap.size wx w' from fun wx hx =>
    have hb := HBX.out wx hx
    (refLess_any _ _ _ _ N N wx (hk1.below (hb.mono hN)) (hk.below (hb.mono hN)) (by have := hf.1.1; omega) (by omega)).mono fun e w' ⟨h1, n, h2⟩ => ⟨h1, by rw [h2]; exact drewN_belowS _ _ _⟩)
  have HCR := hid (show ∀ wx, Below w1.heap.size w1 wx → Calls Tryd.prog 51 #[.slice ok k.length ck, .slice a4 g.right.key.length b4] wx fun e w' => e = .returned (.bool (lessB k g.right.key)) ∧ Below wx.heap.size wx w' from fun wx hx =>
    have hb := HBX.out wx hx
    (refLess_any _ _ _ _ N N wx (hk.below (hb.mono hN)) (hk2.below (hb.mono hN)) (by omega) (by have := hf.2.1; omega)).mono fun e w' ⟨h1, n, h2⟩ => ⟨h1, by rw [h2]; exact drewN_belowS _ _ _⟩)
  have HRT := hid hr
  have q0 := hrow1.cell 0
  have q1 := hrow1.cell 1
  have q2 := hrow1.cell 2
  have q3 := hrow1.cell 3
  have q4 := hrow1.cell 4
  have q5 := hrow1.cell 5
  have q6 := hrow1.cell 6
  have q7 := hrow1.cell 7
  have q8 := hrow1.cell 8
  have q9 := hrow1.cell 9
  have q10 := hrow1.cell 10
  have q11 := hrow1.cell 11
  clear hk1 hv1 hp1 hk2 hv2 hp2 hL hR hb1 hrow1 hr hk hf
  go_enter Tryd.func26, Tryd.ntmps26
  have HB11 := hid (Below.refl w1.heap.size w1)
  cases L with
  | false =>
    cases R with
    | false =>
      have HTP := hid (refTop_any 0 [] (.slice none 0 0) w1.heap.size w1 (Nat.le_refl _) (.inl ⟨rfl, rfl⟩) (by decide) (by decide))
      go_wp2_with fail
      refine HTP.out.mono ?_
      rintro e w2 ⟨o2, c2, rfl, hown2, hb2⟩
      have HB2 := hid hb2
      have HSM := hid (sameB_any r (topD 0 []) (.slice orr r.length cr) (.slice o2 32 c2) N w2.heap.size w2 (HRT.out.below ((HBX.out w2 hb2).mono hN)) hown2.bytes (by omega) (by unfold topD; rw [sha_length]; decide))
      clear hown2 hb2
      go_wp2_with fail
      refine HSM.out.mono ?_
      rintro e w3 ⟨rfl, n3, rfl⟩
      go_wp2
      go_ret
      refine ⟨(HBX.out w2 HB2.out).trans (drewN_belowS _ _ _), _, rfl, ?_⟩
      rw [decide_eq_true_iff, HAB.out, if_pos (by simp)]
    | true =>
      go_wp2_with fail
      refine (HSR.out w1 HB11.out).mono ?_
      rintro e w3 ⟨hbw, bb, rfl, hbb⟩
      have HTR := hid hbb
      have HB3 := hid (HB11.out.trans (hbw.mono HB11.out.size))
      clear hbw hbb
      clear q0 q1 q2 q3 q4 q5 q6 q7 q8 q9 q10 q11
      have q0 := (HRX.out w3 HB3.out).cell 0
      have q1 := (HRX.out w3 HB3.out).cell 1
      have q2 := (HRX.out w3 HB3.out).cell 2
      have q3 := (HRX.out w3 HB3.out).cell 3
      have q4 := (HRX.out w3 HB3.out).cell 4
      have q5 := (HRX.out w3 HB3.out).cell 5
      have q6 := (HRX.out w3 HB3.out).cell 6
      have q7 := (HRX.out w3 HB3.out).cell 7
      have q8 := (HRX.out w3 HB3.out).cell 8
      have q9 := (HRX.out w3 HB3.out).cell 9
      have q10 := (HRX.out w3 HB3.out).cell 10
      have q11 := (HRX.out w3 HB3.out).cell 11
      cases bb with
      | false =>
        go_wp2
        go_ret
        refine ⟨HBX.out _ HB3.out, Tells.no (fun h => ?_)⟩
        have h := HAB.out.1 h
        rw [if_neg (by simp)] at h
        exact absurd (HTR.out.2 (h.2.1 (by trivial)).1) (by simp)
      | true =>
        have HSRR := hid (HTR.out.1 rfl)
        cases hcR : lessB k g.right.key with
        | false =>
          rw [hcR] at HCR
          have HNR := hid hcR
          clear hcR
          go_wp2_with fail
          refine (HCR.out w3 HB3.out).mono ?_
          rintro e w4 ⟨rfl, hbz⟩
          have HB4 := hid (HB3.out.trans (hbz.mono HB3.out.size))
          clear hbz
          go_wp2
          go_ret
          refine ⟨HBX.out _ HB4.out, Tells.no (fun h => ?_)⟩
          have h := HAB.out.1 h
          rw [if_neg (by simp)] at h
          exact absurd (HNR.out.symm.trans (h.2.1 (by trivial)).2) (by simp)
        | true =>
          rw [hcR] at HCR
          have HYR := hid hcR
          clear hcR
          go_wp2_with fail
          refine (HCR.out w3 HB3.out).mono ?_
          rintro e w4 ⟨rfl, hbz⟩
          have HB4 := hid (HB3.out.trans (hbz.mono HB3.out.size))
          clear hbz
          clear q0 q1 q2 q3 q4 q5 q6 q7 q8 q9 q10 q11
          have q0 := (HRX.out w4 HB4.out).cell 0
          have q1 := (HRX.out w4 HB4.out).cell 1
          have q2 := (HRX.out w4 HB4.out).cell 2
          have q3 := (HRX.out w4 HB4.out).cell 3
          have q4 := (HRX.out w4 HB4.out).cell 4
          have q5 := (HRX.out w4 HB4.out).cell 5
          have q6 := (HRX.out w4 HB4.out).cell 6
          have q7 := (HRX.out w4 HB4.out).cell 7
          have q8 := (HRX.out w4 HB4.out).cell 8
          have q9 := (HRX.out w4 HB4.out).cell 9
          have q10 := (HRX.out w4 HB4.out).cell 10
          have q11 := (HRX.out w4 HB4.out).cell 11
          go_wp2
          go_ret
          refine ⟨HBX.out _ HB4.out, _, rfl, ?_⟩
          rw [HAB.out, if_neg (by simp)]
          constructor
          · intro h
            have h := of_decide_eq_true h
            exact ⟨fun h => absurd h (by simp), fun _ => ⟨HSRR.out, HYR.out⟩, fun h => absurd h (by simp), fun h => absurd h (by simp), fun _ _ => by omega⟩
          · rintro ⟨_, _, _, _, h⟩
            have := h (by trivial) (by trivial)
            exact decide_eq_true (by omega)
  | true =>
    cases R with
    | false =>
      go_wp2_with fail
      refine (HSL.out w1 HB11.out).mono ?_
      rintro e w2 ⟨hbw, bb, rfl, hbb⟩
      have HTL := hid hbb
      have HB2 := hid (HB11.out.trans (hbw.mono HB11.out.size))
      clear hbw hbb
      clear q0 q1 q2 q3 q4 q5 q6 q7 q8 q9 q10 q11
      have q0 := (HRX.out w2 HB2.out).cell 0
      have q1 := (HRX.out w2 HB2.out).cell 1
      have q2 := (HRX.out w2 HB2.out).cell 2
      have q3 := (HRX.out w2 HB2.out).cell 3
      have q4 := (HRX.out w2 HB2.out).cell 4
      have q5 := (HRX.out w2 HB2.out).cell 5
      have q6 := (HRX.out w2 HB2.out).cell 6
      have q7 := (HRX.out w2 HB2.out).cell 7
      have q8 := (HRX.out w2 HB2.out).cell 8
      have q9 := (HRX.out w2 HB2.out).cell 9
      have q10 := (HRX.out w2 HB2.out).cell 10
      have q11 := (HRX.out w2 HB2.out).cell 11
      cases bb with
      | false =>
        go_wp2
        go_ret
        refine ⟨HBX.out _ HB2.out, Tells.no (fun h => ?_)⟩
        have h := HAB.out.1 h
        rw [if_neg (by simp)] at h
        exact absurd (HTL.out.2 (h.1 (by trivial)).1) (by simp)
      | true =>
        have HSLL := hid (HTL.out.1 rfl)
        cases hcL : lessB g.left.key k with
        | false =>
          rw [hcL] at HCL
          have HNL := hid hcL
          clear hcL
          go_wp2_with fail
          refine (HCL.out w2 HB2.out).mono ?_
          rintro e w3 ⟨rfl, hbz⟩
          have HB3 := hid (HB2.out.trans (hbz.mono HB2.out.size))
          clear hbz
          go_wp2
          go_ret
          refine ⟨HBX.out _ HB3.out, Tells.no (fun h => ?_)⟩
          have h := HAB.out.1 h
          rw [if_neg (by simp)] at h
          exact absurd (HNL.out.symm.trans (h.1 (by trivial)).2) (by simp)
        | true =>
          rw [hcL] at HCL
          have HYL := hid hcL
          clear hcL
          go_wp2_with fail
          refine (HCL.out w2 HB2.out).mono ?_
          rintro e w3 ⟨rfl, hbz⟩
          have HB3 := hid (HB2.out.trans (hbz.mono HB2.out.size))
          clear hbz
          clear q0 q1 q2 q3 q4 q5 q6 q7 q8 q9 q10 q11
          have q0 := (HRX.out w3 HB3.out).cell 0
          have q1 := (HRX.out w3 HB3.out).cell 1
          have q2 := (HRX.out w3 HB3.out).cell 2
          have q3 := (HRX.out w3 HB3.out).cell 3
          have q4 := (HRX.out w3 HB3.out).cell 4
          have q5 := (HRX.out w3 HB3.out).cell 5
          have q6 := (HRX.out w3 HB3.out).cell 6
          have q7 := (HRX.out w3 HB3.out).cell 7
          have q8 := (HRX.out w3 HB3.out).cell 8
          have q9 := (HRX.out w3 HB3.out).cell 9
          have q10 := (HRX.out w3 HB3.out).cell 10
          have q11 := (HRX.out w3 HB3.out).cell 11
          have hbd : 1 ≤ g.left.size ∧ g.left.size ≤ 200 ∧ 0 ≤ g.left.index ∧ g.left.index < g.left.size := ⟨HSLL.out.1, HSLL.out.2.1, HSLL.out.2.2.1, HSLL.out.2.2.2.1⟩
          go_wp2_with fail
          go_region
          all_goals
            go_wp2
            go_ret
            refine ⟨HBX.out _ HB3.out.drew, _, rfl, ?_⟩
            rw [HAB.out, if_neg (by simp)]
            constructor
            · intro h
              have h := of_decide_eq_true h
              exact ⟨fun _ => ⟨HSLL.out, HYL.out⟩, fun h => absurd h (by simp), fun _ h => absurd h (by simp), fun _ _ => by omega, fun h => absurd h (by simp)⟩
            · rintro ⟨_, _, _, h, _⟩
              have := h (by trivial) (by trivial)
              exact decide_eq_true (by omega)
    | true =>
      go_wp2_with fail
      refine (HSL.out w1 HB11.out).mono ?_
      rintro e w2 ⟨hbw, bb, rfl, hbb⟩
      have HTL := hid hbb
      have HB2 := hid (HB11.out.trans (hbw.mono HB11.out.size))
      clear hbw hbb
      clear q0 q1 q2 q3 q4 q5 q6 q7 q8 q9 q10 q11
      have q0 := (HRX.out w2 HB2.out).cell 0
      have q1 := (HRX.out w2 HB2.out).cell 1
      have q2 := (HRX.out w2 HB2.out).cell 2
      have q3 := (HRX.out w2 HB2.out).cell 3
      have q4 := (HRX.out w2 HB2.out).cell 4
      have q5 := (HRX.out w2 HB2.out).cell 5
      have q6 := (HRX.out w2 HB2.out).cell 6
      have q7 := (HRX.out w2 HB2.out).cell 7
      have q8 := (HRX.out w2 HB2.out).cell 8
      have q9 := (HRX.out w2 HB2.out).cell 9
      have q10 := (HRX.out w2 HB2.out).cell 10
      have q11 := (HRX.out w2 HB2.out).cell 11
      cases bb with
      | false =>
        go_wp2
        go_ret
        refine ⟨HBX.out _ HB2.out, Tells.no (fun h => ?_)⟩
        have h := HAB.out.1 h
        rw [if_neg (by simp)] at h
        exact absurd (HTL.out.2 (h.1 (by trivial)).1) (by simp)
      | true =>
        have HSLL := hid (HTL.out.1 rfl)
        cases hcL : lessB g.left.key k with
        | false =>
          rw [hcL] at HCL
          have HNL := hid hcL
          clear hcL
          go_wp2_with fail
          refine (HCL.out w2 HB2.out).mono ?_
          rintro e w3 ⟨rfl, hbz⟩
          have HB3 := hid (HB2.out.trans (hbz.mono HB2.out.size))
          clear hbz
          go_wp2
          go_ret
          refine ⟨HBX.out _ HB3.out, Tells.no (fun h => ?_)⟩
          have h := HAB.out.1 h
          rw [if_neg (by simp)] at h
          exact absurd (HNL.out.symm.trans (h.1 (by trivial)).2) (by simp)
        | true =>
          rw [hcL] at HCL
          have HYL := hid hcL
          clear hcL
          go_wp2_with fail
          refine (HCL.out w2 HB2.out).mono ?_
          rintro e w3 ⟨rfl, hbz⟩
          have HB3 := hid (HB2.out.trans (hbz.mono HB2.out.size))
          clear hbz
          clear q0 q1 q2 q3 q4 q5 q6 q7 q8 q9 q10 q11
          have q0 := (HRX.out w3 HB3.out).cell 0
          have q1 := (HRX.out w3 HB3.out).cell 1
          have q2 := (HRX.out w3 HB3.out).cell 2
          have q3 := (HRX.out w3 HB3.out).cell 3
          have q4 := (HRX.out w3 HB3.out).cell 4
          have q5 := (HRX.out w3 HB3.out).cell 5
          have q6 := (HRX.out w3 HB3.out).cell 6
          have q7 := (HRX.out w3 HB3.out).cell 7
          have q8 := (HRX.out w3 HB3.out).cell 8
          have q9 := (HRX.out w3 HB3.out).cell 9
          have q10 := (HRX.out w3 HB3.out).cell 10
          have q11 := (HRX.out w3 HB3.out).cell 11
          have hbd : 1 ≤ g.left.size ∧ g.left.size ≤ 200 ∧ 0 ≤ g.left.index ∧ g.left.index < g.left.size := ⟨HSLL.out.1, HSLL.out.2.1, HSLL.out.2.2.1, HSLL.out.2.2.2.1⟩
          have HBD := hid (show Below w1.heap.size w1 w3.drew from HB3.out.drew)
          obtain ⟨w4, hw4⟩ : ∃ w4, w3.drew = w4 := ⟨_, rfl⟩
          rw [hw4] at HBD
          have x2 := (HRX.out w4 HBD.out).cell 2
          have x3 := (HRX.out w4 HBD.out).cell 3
          go_wp2_with fail
          go_region
          try rw [hw4]
          clear hw4 x2 x3
          clear q0 q1 q2 q3 q4 q5 q6 q7 q8 q9 q10 q11
          have q0 := (HRX.out w4 HBD.out).cell 0
          have q1 := (HRX.out w4 HBD.out).cell 1
          have q2 := (HRX.out w4 HBD.out).cell 2
          have q3 := (HRX.out w4 HBD.out).cell 3
          have q4 := (HRX.out w4 HBD.out).cell 4
          have q5 := (HRX.out w4 HBD.out).cell 5
          have q6 := (HRX.out w4 HBD.out).cell 6
          have q7 := (HRX.out w4 HBD.out).cell 7
          have q8 := (HRX.out w4 HBD.out).cell 8
          have q9 := (HRX.out w4 HBD.out).cell 9
          have q10 := (HRX.out w4 HBD.out).cell 10
          have q11 := (HRX.out w4 HBD.out).cell 11
          go_wp2_with fail
          refine (HSR.out w4 HBD.out).mono ?_
          rintro e w5 ⟨hbw, bb, rfl, hbb⟩
          have HTR := hid hbb
          have HB5 := hid (HBD.out.trans (hbw.mono HBD.out.size))
          clear hbw hbb
          clear q0 q1 q2 q3 q4 q5 q6 q7 q8 q9 q10 q11
          have q0 := (HRX.out w5 HB5.out).cell 0
          have q1 := (HRX.out w5 HB5.out).cell 1
          have q2 := (HRX.out w5 HB5.out).cell 2
          have q3 := (HRX.out w5 HB5.out).cell 3
          have q4 := (HRX.out w5 HB5.out).cell 4
          have q5 := (HRX.out w5 HB5.out).cell 5
          have q6 := (HRX.out w5 HB5.out).cell 6
          have q7 := (HRX.out w5 HB5.out).cell 7
          have q8 := (HRX.out w5 HB5.out).cell 8
          have q9 := (HRX.out w5 HB5.out).cell 9
          have q10 := (HRX.out w5 HB5.out).cell 10
          have q11 := (HRX.out w5 HB5.out).cell 11
          cases bb with
          | false =>
            go_wp2
            go_ret
            refine ⟨HBX.out _ HB5.out, Tells.no (fun h => ?_)⟩
            have h := HAB.out.1 h
            rw [if_neg (by simp)] at h
            exact absurd (HTR.out.2 (h.2.1 (by trivial)).1) (by simp)
          | true =>
            have HSRR := hid (HTR.out.1 rfl)
            cases hcR : lessB k g.right.key with
            | false =>
              rw [hcR] at HCR
              have HNR := hid hcR
              clear hcR
              go_wp2_with fail
              refine (HCR.out w5 HB5.out).mono ?_
              rintro e w6 ⟨rfl, hbz⟩
              have HB6 := hid (HB5.out.trans (hbz.mono HB5.out.size))
              clear hbz
              go_wp2
              go_ret
              refine ⟨HBX.out _ HB6.out, Tells.no (fun h => ?_)⟩
              have h := HAB.out.1 h
              rw [if_neg (by simp)] at h
              exact absurd (HNR.out.symm.trans (h.2.1 (by trivial)).2) (by simp)
            | true =>
              rw [hcR] at HCR
              have HYR := hid hcR
              clear hcR
              go_wp2_with fail
              refine (HCR.out w5 HB5.out).mono ?_
              rintro e w6 ⟨rfl, hbz⟩
              have HB6 := hid (HB5.out.trans (hbz.mono HB5.out.size))
              clear hbz
              clear q0 q1 q2 q3 q4 q5 q6 q7 q8 q9 q10 q11
              have q0 := (HRX.out w6 HB6.out).cell 0
              have q1 := (HRX.out w6 HB6.out).cell 1
              have q2 := (HRX.out w6 HB6.out).cell 2
              have q3 := (HRX.out w6 HB6.out).cell 3
              have q4 := (HRX.out w6 HB6.out).cell 4
              have q5 := (HRX.out w6 HB6.out).cell 5
              have q6 := (HRX.out w6 HB6.out).cell 6
              have q7 := (HRX.out w6 HB6.out).cell 7
              have q8 := (HRX.out w6 HB6.out).cell 8
              have q9 := (HRX.out w6 HB6.out).cell 9
              have q10 := (HRX.out w6 HB6.out).cell 10
              have q11 := (HRX.out w6 HB6.out).cell 11
              by_cases hs : g.right.size = g.left.size
              · have es : (g.right.size != g.left.size) = false := by simpa using hs
                have HSZ := hid hs
                clear hs
                go_wp2
                go_ret
                refine ⟨HBX.out _ HB6.out, _, rfl, ?_⟩
                rw [HAB.out, if_neg (by simp)]
                constructor
                · intro h
                  have h := of_decide_eq_true h
                  exact ⟨fun _ => ⟨HSLL.out, HYL.out⟩, fun _ => ⟨HSRR.out, HYR.out⟩, fun _ _ => ⟨HSZ.out, by omega⟩, fun _ h => absurd h (by simp), fun h => absurd h (by simp)⟩
                · rintro ⟨_, _, h, _, _⟩
                  have := h (by trivial) (by trivial)
                  exact decide_eq_true (by omega)
              · have es : (g.right.size != g.left.size) = true := by simpa using hs
                have HSZ := hid hs
                clear hs
                go_wp2
                go_ret
                refine ⟨HBX.out _ HB6.out, Tells.no (fun h => ?_)⟩
                have h := HAB.out.1 h
                rw [if_neg (by simp)] at h
                exact absurd (h.2.2.1 (by trivial) (by trivial)).1 HSZ.out
theorem refShownC : ShownC 23 := fun r p rv v N w _ hN hr hp hf hrl => refShown_any r p rv v N w hN hr hp hf hrl
end Go.Proofs.YtiflkkelbnpniaaDoor
