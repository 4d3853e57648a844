/-
  ProofBoth answers true of all pairs, every proof and every gap, given what package book's Root and package proof's functions answer; it turns nothing that was there.
-/
import Derived.Test.YtdlcjhigmdgbcaaDoorProofFace
import Derived.Test.YtdlcjhigmdgbcaaDoorBookTree
import Derived.Test.YtdlcjhigmdgbcaaDoorSameB
import Derived.Deep.QuietTactic
import Derived.BigQuiet
namespace Go.Proofs.YtdlcjhigmdgbcaaDoor
open Go.RowKit

/-- a proof's five cells -/
def prfCells (p : Prf) (o1 : Option Addr) (c1 : Nat) (o2 : Option Addr) (c2 : Nat) (o3 : Option Addr) (c3 : Nat) : List Value := [.int .i64 p.index, .int .i64 p.size, .slice o1 p.key.length c1, .slice o2 p.val.length c2, .slice o3 p.path.length c3]
set_option maxRecDepth 100000 in
set_option maxHeartbeats 4000000 in
theorem proofBoth_any (HALC : AliveC 9) (HRC : RootC 10) (HSC : ShownC 14) (HNC : AbsentC 16) (HCC : ClashC 17)
    (l : List Pr) (p : Prf) (g : Gp) (sv v gv : Value) (N : Nat) (w : World) (hK : tableAt w) (hN : N ≤ w.heap.size) (hl : Pairs w N sv l) (hp : PrfV w N v p) (hg : GpV w N gv g) (hlen : l.length < 2305843009213693952) (hfl : ∀ p ∈ l, p.fits) (hfp : p.fits) (hfg : g.fits) :
    Calls Tryd.prog 6 #[sv, v, gv] w fun e w' => e = .returned (.bool true) ∧ Below w.heap.size w w' := by
  obtain ⟨oa, ca, rfl, hca⟩ := hl.shape
  obtain ⟨kv, vv, pv, rfl, hk, hv, hpt⟩ := hp
  obtain ⟨o1, c1, rfl, _⟩ := hk.shape
  obtain ⟨o2, c2, rfl, _⟩ := hv.shape
  obtain ⟨o3, c3, rfl, _⟩ := hpt.shape
  obtain ⟨k1, v1, p1, k2, v2, p2, rfl, hg1, hg2, hg3, hg4, hg5, hg6⟩ := hg
  obtain ⟨q1, d1, rfl, _⟩ := hg1.shape
  obtain ⟨q2, d2, rfl, _⟩ := hg2.shape
  obtain ⟨q3, d3, rfl, _⟩ := hg3.shape
  obtain ⟨q4, d4, rfl, _⟩ := hg4.shape
  obtain ⟨q5, d5, rfl, _⟩ := hg5.shape
  obtain ⟨q6, d6, rfl, _⟩ := hg6.shape
  obtain ⟨wa, hwa⟩ : ∃ wa, w.alloc (.cells #[.int .i64 p.index, .int .i64 p.size, .slice o1 p.key.length c1, .slice o2 p.val.length c2, .slice o3 p.path.length c3] 34) = wa := ⟨_, rfl⟩
  have hsza : wa.heap.size = w.heap.size + 1 := by rw [← hwa]; simp
  have hba : Below w.heap.size w wa := by rw [← hwa]; exact (Below.refl _ _).alloc (Nat.le_refl _) _
  have hrowa : Row wa w.heap.size 34 [.int .i64 p.index, .int .i64 p.size, .slice o1 p.key.length c1, .slice o2 p.val.length c2, .slice o3 p.path.length c3] := by rw [← hwa]; exact Row.new _ _ _
  obtain ⟨w0, hw0⟩ : ∃ w0, wa.alloc (.cells #[.bool g.hasL, .bool g.hasR, .int .i64 g.left.index, .int .i64 g.left.size, .slice q1 g.left.key.length d1, .slice q2 g.left.val.length d2, .slice q3 g.left.path.length d3, .int .i64 g.right.index, .int .i64 g.right.size, .slice q4 g.right.key.length d4, .slice q5 g.right.val.length d5, .slice q6 g.right.path.length d6] 38) = w0 := ⟨_, rfl⟩
  have hsz0 : w0.heap.size = wa.heap.size + 1 := by rw [← hw0]; simp
  have hba0 : Below wa.heap.size wa w0 := by rw [← hw0]; exact (Below.refl _ _).alloc (Nat.le_refl _) _
  have hb0 : Below w.heap.size w w0 := hba.trans (hba0.mono (by omega))
  have hrow0 := hrowa.below hba0 (by omega)
  have hrowg : Row w0 (w.heap.size + 1) 38 [.bool g.hasL, .bool g.hasR, .int .i64 g.left.index, .int .i64 g.left.size, .slice q1 g.left.key.length d1, .slice q2 g.left.val.length d2, .slice q3 g.left.path.length d3, .int .i64 g.right.index, .int .i64 g.right.size, .slice q4 g.right.key.length d4, .slice q5 g.right.val.length d5, .slice q6 g.right.path.length d6] := by rw [← hw0, ← hsza]; exact Row.new _ _ _
  have HAL := hid (HALC w0 (hK.past hb0))
  have HR := hid (show RootC 10 from HRC)
  have HS := hid (show ShownC 14 from HSC)
  have HNA := hid (show AbsentC 16 from HNC)
  have HC := hid (show ClashC 17 from HCC)
  have HK := hid hK
  have HL := hid hl
  have HPK := hid hk
  have HFL := hid hfl
  have HFP := hid hfp
  have HFG := hid hfg
  have HB0 := hid hb0
  have HR0 := hid hrow0
  have HG0 := hid hrowg
  have HW0 := hid hw0
  have HPR := hid (show ∀ w', Below w.heap.size w w' → PrfV w' N (.agg #[.int .i64 p.index, .int .i64 p.size, .slice o1 p.key.length c1, .slice o2 p.val.length c2, .slice o3 p.path.length c3]) p from fun w' hw' => ⟨_, _, _, rfl, hk.below (hw'.mono hN), hv.below (hw'.mono hN), hpt.below (hw'.mono hN)⟩)
  have HGR := hid (show ∀ w', Below w.heap.size w w' → GpV w' N (.agg #[.bool g.hasL, .bool g.hasR, .int .i64 g.left.index, .int .i64 g.left.size, .slice q1 g.left.key.length d1, .slice q2 g.left.val.length d2, .slice q3 g.left.path.length d3, .int .i64 g.right.index, .int .i64 g.right.size, .slice q4 g.right.key.length d4, .slice q5 g.right.val.length d5, .slice q6 g.right.path.length d6]) g from fun w' hw' =>
    ⟨_, _, _, _, _, _, rfl, hg1.below (hw'.mono hN), hg2.below (hw'.mono hN), hg3.below (hw'.mono hN), hg4.below (hw'.mono hN), hg5.below (hw'.mono hN), hg6.below (hw'.mono hN)⟩)
  have HLR := hid (show ∀ w', Below w.heap.size w w' → PrfV w' N (.agg #[.int .i64 g.left.index, .int .i64 g.left.size, .slice q1 g.left.key.length d1, .slice q2 g.left.val.length d2, .slice q3 g.left.path.length d3]) g.left ∧ PrfV w' N (.agg #[.int .i64 g.right.index, .int .i64 g.right.size, .slice q4 g.right.key.length d4, .slice q5 g.right.val.length d5, .slice q6 g.right.path.length d6]) g.right from fun w' hw' =>
    ⟨⟨_, _, _, rfl, hg1.below (hw'.mono hN), hg2.below (hw'.mono hN), hg3.below (hw'.mono hN)⟩, ⟨_, _, _, rfl, hg4.below (hw'.mono hN), hg5.below (hw'.mono hN), hg6.below (hw'.mono hN)⟩⟩)
  clear hK hl hk hv hpt hfl hfp hb0 hrow0 HALC HRC HSC HCC HNC hg1 hg2 hg3 hg4 hg5 hg6 hfg hba hba0 hrowa hrowg hw0
  go_enter Tryd.func6, Tryd.ntmps6
  go_wp2_with fail
  rw [HW0.out]
  refine HAL.out.mono ?_
  rintro e w1 ⟨rfl, hb1⟩
  have hsz1 := hb1.size
  have HB1 := hid (HB0.out.trans (hb1.mono (by omega)))
  have HR1 := hid (HR0.out.below hb1 (by omega))
  have HG1 := hid (HG0.out.below hb1 (by omega))
  have HC1 := hid (HR.out l (.slice oa l.length ca) N w1 (HK.out.past HB1.out) (HL.out.below (HB1.out.mono hN)) (by omega) hlen HFL.out)
  obtain ⟨wc, hwc⟩ : ∃ wc, (wrongL l).1 = wc := ⟨_, rfl⟩
  obtain ⟨wi, hwi⟩ : ∃ wi, (wrongL l).2 = wi := ⟨_, rfl⟩
  rw [hwc, hwi] at HC1
  unfold faultV at HC1
  clear hb1 HAL hwi hwa
  go_wp2_with fail
  refine HC1.out.mono ?_
  rintro e w2 ⟨hb2, o4, n4, c4, rfl, hx2⟩
  have hsz2 := hb2.size
  obtain ⟨w3, hw3⟩ : ∃ w3, w2.alloc (.cells #[.int .i64 wc, .int .i64 (wi : Int)] 27) = w3 := ⟨_, rfl⟩
  have hsz3 : w3.heap.size = w2.heap.size + 1 := by rw [← hw3]; simp
  have hb23 : Below w2.heap.size w2 w3 := by rw [← hw3]; exact (Below.refl _ _).alloc (Nat.le_refl _) _
  have hb13 := hb2.trans (hb23.mono (by omega))
  have HB3 := hid (HB1.out.trans (hb13.mono (by omega)))
  have HR3 := hid (HR1.out.below hb13 (by omega))
  have HG3 := hid (HG1.out.below hb13 (by omega))
  have HX3 := hid (hx2.below hb23)
  have f0 : w3.cell? ⟨w2.heap.size, 0, none⟩ = some (.int .i64 wc) := by rw [← hw3]; exact (Row.new w2 27 [.int .i64 wc, .int .i64 (wi : Int)]).cell 0
  have r0 := HR3.out.cell 0
  have r1 := HR3.out.cell 1
  have r2 := HR3.out.cell 2
  have r3 := HR3.out.cell 3
  have r4 := HR3.out.cell 4
  clear hb2 hb23 hx2 HC1 hb13
  by_cases hwc0 : wc = 0
  · subst hwc0
    have hrl := rout_root l hwc
    rw [hrl] at HX3
    have HWC := hid hwc
    have HBK := hid (wrongL_sorted l hwc)
    have HSH := hid (HS.out (rootD l) p (.slice o4 n4 c4) _ w2.heap.size w3 (HK.out.past HB3.out) (by omega) HX3.out ((HPR.out w3 HB3.out).mono (by omega)) HFP.out (by rw [rootD_len]; decide))
    clear hrl hwc
    go_wp2_with fail
    clear hw3
    refine HSH.out.mono ?_
    rintro e w4 ⟨hb4, bb, rfl, hbb⟩
    have hsz4 := hb4.size
    have HB4 := hid (HB3.out.trans (hb4.mono (by omega)))
    have HR4 := hid (HR3.out.below hb4 (by omega))
    have HG4 := hid (HG3.out.below hb4 (by omega))
    have HX4 := hid (HX3.out.below (hb4.mono (by omega)))
    have HBB := hid hbb
    clear hb4 hbb f0 r0 r1 r2 r3 r4 HSH
    have r2 := HR4.out.cell 2
    have s0 := HG4.out.cell 0
    have s1 := HG4.out.cell 1
    have s2 := HG4.out.cell 2
    have s3 := HG4.out.cell 3
    have s4 := HG4.out.cell 4
    have s5 := HG4.out.cell 5
    have s6 := HG4.out.cell 6
    have s7 := HG4.out.cell 7
    have s8 := HG4.out.cell 8
    have s9 := HG4.out.cell 9
    have s10 := HG4.out.cell 10
    have s11 := HG4.out.cell 11
    cases bb with
    | false =>
      go_wp2
      go_ret
      exact ⟨rfl, HB4.out⟩
    | true =>
      have HSHN := hid (HBB.out.1 rfl)
      have HAB := hid (HNA.out (rootD l) p.key g (.slice o4 n4 c4) (.slice o1 p.key.length c1) _ w2.heap.size w4 (HK.out.past HB4.out) (by omega) HX4.out ((HPK.out.below (HB4.out.mono hN)).mono (by omega)) ((HGR.out w4 HB4.out).mono (by omega)) HFG.out (by rw [rootD_len]; decide) HFP.out.1)
      go_wp2_with fail
      refine HAB.out.mono ?_
      rintro e w5 ⟨hb5, bb, rfl, hbb⟩
      have hsz5 := hb5.size
      have HB5 := hid (HB4.out.trans (hb5.mono (by omega)))
      have HR5 := hid (HR4.out.below hb5 (by omega))
      have HG5 := hid (HG4.out.below hb5 (by omega))
      have HBB5 := hid hbb
      clear hb5 hbb r2 s0 s1 s2 s3 s4 s5 s6 s7 s8 s9 s10 s11 HAB HBB
      cases bb with
      | false =>
        go_wp2
        go_ret
        exact ⟨rfl, HB5.out⟩
      | true =>
        have HABS := hid (HBB5.out.1 rfl)
        have r0 := HR5.out.cell 0
        have r1 := HR5.out.cell 1
        have r2 := HR5.out.cell 2
        have r3 := HR5.out.cell 3
        have r4 := HR5.out.cell 4
        have s2 := HG5.out.cell 2
        have s3 := HG5.out.cell 3
        have s4 := HG5.out.cell 4
        have s5 := HG5.out.cell 5
        have s6 := HG5.out.cell 6
        have s7 := HG5.out.cell 7
        have s8 := HG5.out.cell 8
        have s9 := HG5.out.cell 9
        have s10 := HG5.out.cell 10
        have s11 := HG5.out.cell 11
        obtain ⟨w6, hw6⟩ : ∃ w6, w5.alloc (.cells #[.int .i64 p.index, .int .i64 p.size, .slice o1 p.key.length c1, .slice o2 p.val.length c2, .slice o3 p.path.length c3, .int .i64 g.left.index, .int .i64 g.left.size, .slice q1 g.left.key.length d1, .slice q2 g.left.val.length d2, .slice q3 g.left.path.length d3, .int .i64 g.right.index, .int .i64 g.right.size, .slice q4 g.right.key.length d4, .slice q5 g.right.val.length d5, .slice q6 g.right.path.length d6] 34) = w6 := ⟨_, rfl⟩
        have hsz6 : w6.heap.size = w5.heap.size + 1 := by rw [← hw6]; simp
        have hb56 : Below w5.heap.size w5 w6 := by rw [← hw6]; exact (Below.refl _ _).alloc (Nat.le_refl _) _
        have hrow6 : Row w6 w5.heap.size 34 [.int .i64 p.index, .int .i64 p.size, .slice o1 p.key.length c1, .slice o2 p.val.length c2, .slice o3 p.path.length c3, .int .i64 g.left.index, .int .i64 g.left.size, .slice q1 g.left.key.length d1, .slice q2 g.left.val.length d2, .slice q3 g.left.path.length d3, .int .i64 g.right.index, .int .i64 g.right.size, .slice q4 g.right.key.length d4, .slice q5 g.right.val.length d5, .slice q6 g.right.path.length d6] := by rw [← hw6]; exact Row.new _ _ _
        have HB6 := hid (HB5.out.trans (hb56.mono (by omega)))
        have HG6 := hid (HG5.out.below hb56 (by omega))
        have HQ := hid (show ∀ k, k < 3 → ∃ (q : Prf) (a1 : Option Addr) (e1 : Nat) (a2 : Option Addr) (e2 : Nat) (a3 : Option Addr) (e3 : Nat), [p, g.left, g.right][k]? = some q ∧
            (∀ wr, Below w6.heap.size w6 wr → wr.cell? ⟨w5.heap.size, k * 5, none⟩ = some (.int .i64 q.index) ∧ wr.cell? ⟨w5.heap.size, k * 5 + 1, none⟩ = some (.int .i64 q.size) ∧ wr.cell? ⟨w5.heap.size, k * 5 + 2, none⟩ = some (.slice a1 q.key.length e1) ∧ wr.cell? ⟨w5.heap.size, k * 5 + 3, none⟩ = some (.slice a2 q.val.length e2) ∧ wr.cell? ⟨w5.heap.size, k * 5 + 4, none⟩ = some (.slice a3 q.path.length e3)) ∧
            (∀ w', Below w.heap.size w w' → PrfV w' N (.agg #[.int .i64 q.index, .int .i64 q.size, .slice a1 q.key.length e1, .slice a2 q.val.length e2, .slice a3 q.path.length e3]) q) ∧ q.fits from fun k hk => by
          match k, hk with
          | 0, _ => exact ⟨p, o1, c1, o2, c2, o3, c3, rfl, (fun wr hwr => by have h := hrow6.below hwr (by omega); exact ⟨h.cell 0, h.cell 1, h.cell 2, h.cell 3, h.cell 4⟩), HPR.out, HFP.out⟩
          | 1, _ => exact ⟨g.left, q1, d1, q2, d2, q3, d3, rfl, (fun wr hwr => by have h := hrow6.below hwr (by omega); exact ⟨h.cell 5, h.cell 6, h.cell 7, h.cell 8, h.cell 9⟩), (fun w' hw' => (HLR.out w' hw').1), HFG.out.1⟩
          | 2, _ => exact ⟨g.right, q4, d4, q5, d5, q6, d6, rfl, (fun wr hwr => by have h := hrow6.below hwr (by omega); exact ⟨h.cell 10, h.cell 11, h.cell 12, h.cell 13, h.cell 14⟩), (fun w' hw' => (HLR.out w' hw').2), HFG.out.2⟩
          | k + 3, h => omega)
        clear hb56 hrow6
        go_wp2_with fail
        clear hw6 r0 r1 r2 r3 r4 s2 s3 s4 s5 s6 s7 s8 s9 s10 s11
        go_loopw [47] (fun s47 wr => ∃ k : Nat, k ≤ 3 ∧ s47 = .int .i64 (k : Int) ∧ Hid (Below w6.heap.size w6 wr ∧ ∀ j q, j < k → [p, g.left, g.right][j]? = some q → shownB (rootD l) q → soB l q)) (fun s47 _ => 3 - (intOf s47).toNat)
        case atStart => exact ⟨0, by omega, rfl, hid ⟨Below.refl _ _, fun j q hj => absurd hj (Nat.not_lt_zero _)⟩⟩
        case round =>
          obtain ⟨k, hk, rfl, HRL⟩ := hrel
          have hszr := HRL.out.1.size
          by_cases hlt : k < 3
          · obtain ⟨q, a1, e1, a2, e2, a3, e3, hq, hcells, hprf, hqf⟩ := HQ.out k hlt
            obtain ⟨t0, t1, t2, t3, t4⟩ := hcells wr HRL.out.1
            have hlt' : (k : Int) < 3 := by omega
            have e9 : decide ((k : Int) < 3) = true := by simpa using hlt'
            obtain ⟨w7, hw7⟩ : ∃ w7, wr.alloc (.cells #[.int .i64 q.index, .int .i64 q.size, .slice a1 q.key.length e1, .slice a2 q.val.length e2, .slice a3 q.path.length e3] 34) = w7 := ⟨_, rfl⟩
            have hsz7 : w7.heap.size = wr.heap.size + 1 := by rw [← hw7]; simp
            have hb7 : Below wr.heap.size wr w7 := by rw [← hw7]; exact (Below.refl _ _).alloc (Nat.le_refl _) _
            have HB67 := hid (HRL.out.1.trans (hb7.mono hszr))
            have HB7 := hid (HB6.out.trans (HB67.out.mono (by omega)))
            have HCL := hid (HC.out l q (.slice oa l.length ca) _ N w7 (HK.out.past HB7.out) (by omega) (HL.out.below (HB7.out.mono hN)) (hprf w7 HB7.out) hlen HFL.out hqf)
            have HW7 := hid hw7
            have HQE := hid hq
            clear hcells hprf hqf hb7 hq hw7
            go_wp2_with fail
            rw [HW7.out]
            refine HCL.out.mono ?_
            rintro e w8 ⟨hb8, oA, nA, cA, oB, nB, cB, ok, a, b, rfl, hba, hbb, hcl⟩
            have hsz8 := hb8.size
            have HB8 := hid (HB7.out.trans (hb8.mono (by omega)))
            have HB68 := hid (HB67.out.trans (hb8.mono (by omega)))
            have HBA := hid hba
            have HBB2 := hid hbb
            have HCB := hid hcl
            clear hb8 hba hbb hcl HCL t0 t1 t2 t3 t4 e9
            cases ok with
            | true =>
              obtain ⟨hne, hsh, hla, hlb⟩ := HCB.out.1 rfl
              have HS5 := hid (sameB_any a b (.slice oA nA cA) (.slice oB nB cB) w8.heap.size w8.heap.size w8 HBA.out HBB2.out (by omega) (by omega))
              rw [decide_eq_false hne] at HS5
              have HSH2 := hid hsh
              have HLA := hid hla
              have HLB := hid hlb
              clear hne hsh hla hlb
              go_wp2_with fail
              refine HS5.out.mono ?_
              rintro e w10 ⟨rfl, q10, hw10⟩
              have hb10 : Below w8.heap.size w8 w10 := by rw [hw10]; exact drewN_belowC _ _ _
              have hsz10 := hb10.size
              have HB10 := hid (HB8.out.trans (hb10.mono (by omega)))
              have HBA10 := hid (HBA.out.below hb10)
              have HBB10 := hid (HBB2.out.below hb10)
              have HSA := hid (sumC a (.slice oA nA cA) w8.heap.size w10 hsz10 HBA10.out (HK.out.past HB10.out) HLA.out)
              clear hb10 hw10 HS5
              go_wp2_with fail
              refine HSA.out.mono ?_
              rintro e w11 ⟨oD, cD, rfl, hown11, hb11⟩
              have hsz11 := hb11.size
              have HB11 := hid (HB10.out.trans (hb11.mono (by omega)))
              have HD11 := hid hown11
              have HSB2 := hid (sumC b (.slice oB nB cB) w8.heap.size w11 (by omega) (HBB10.out.below (hb11.mono (by omega))) (HK.out.past HB11.out) HLB.out)
              clear hb11 hown11 HSA
              go_wp2_with fail
              refine HSB2.out.mono ?_
              rintro e w12 ⟨oE, cE, rfl, hown12, hb12⟩
              have hsz12 := hb12.size
              have HB12 := hid (HB11.out.trans (hb12.mono (by omega)))
              have HS12 := hid (sameB_any (sha a) (sha b) (.slice oD 32 cD) (.slice oE 32 cE) w11.heap.size w12.heap.size w12 (HD11.out.bytes.below hb12) hown12.bytes (by rw [sha_length]; decide) (by rw [sha_length]; decide))
              rw [decide_eq_true HSH2.out] at HS12
              clear hb12 hown12 HSB2
              go_wp2_with fail
              refine HS12.out.mono ?_
              rintro e w13 ⟨rfl, q13, rfl⟩
              go_wp2
              go_ret
              exact ⟨rfl, HB12.out.trans (drewN_belowC _ _ _)⟩
            | false =>
              have HSO := hid (show shownB (rootD l) q → soB l q from fun h => Classical.byContradiction fun h2 => by
                have h3 := HCB.out.2.2 ⟨HWC.out, h, h2⟩
                cases h3)
              go_wp2_with fail
              refine ⟨⟨k + 1, by omega, by go_num, hid ⟨HB68.out, fun j q' hj hq' => ?_⟩⟩, by simp [intOf]; omega⟩
              by_cases ej : j = k
              · subst ej
                rw [HQE.out] at hq'
                obtain rfl : q = q' := by simpa using hq'
                exact HSO.out
              · exact HRL.out.2 j q' (by omega) hq'
          · obtain rfl : k = 3 := by omega
            have HBR := hid (HB6.out.trans (HRL.out.1.mono (by omega)))
            have HGR6 := hid (HG6.out.below HRL.out.1 (by omega))
            have s0 := HGR6.out.cell 0
            have s1 := HGR6.out.cell 1
            have HPS := hid (HRL.out.2 0 p (by omega) rfl HSHN.out)
            have HNO := hid (show g.hasL = false ∧ g.hasR = false from by
              have hno : ¬ (g.hasL = true ∨ g.hasR = true) := fun h => by
                have habs := HABS.out
                have h2 := habs
                unfold absentB at h2
                rw [if_neg (by rintro ⟨h3, h4⟩; rw [h3, h4] at h; simp at h)] at h2
                exact both_not l HBK.out.1 (rootD l) p g HPS.out habs (fun hL => HRL.out.2 1 g.left (by omega) rfl (h2.1 hL).1) (fun hR => HRL.out.2 2 g.right (by omega) rfl (h2.2.1 hR).1) h
              exact ⟨by cases h : g.hasL with
                | false => rfl
                | true => exact absurd (.inl h) hno, by cases h : g.hasR with
                | false => rfl
                | true => exact absurd (.inr h) hno⟩)
            rw [HNO.out.1] at s0
            rw [HNO.out.2] at s1
            have HEQ := hid (show rootD l = topD 0 [] from by
              have habs := HABS.out
              unfold absentB at habs
              rw [if_pos HNO.out] at habs
              exact habs)
            have HPOS := hid (show 0 < l.length from by
              obtain ⟨_, _, q, hq, _⟩ := HPS.out
              have := (List.getElem?_eq_some_iff.1 hq).1
              omega)
            have hge : decide ((3 : Int) < (3 : Int)) = false := by simp
            obtain ⟨wA, hwA⟩ : ∃ wA, wr.alloc (.cells #[.int .u8 2] 5) = wA := ⟨_, rfl⟩
            have hszA : wA.heap.size = wr.heap.size + 1 := by rw [← hwA]; simp
            have hbA : Below wr.heap.size wr wA := by rw [← hwA]; exact (Below.refl _ _).alloc (Nat.le_refl _) _
            have hlA : Bytes wA wA.heap.size (.slice (some ⟨wr.heap.size, 0, none⟩) 1 1) [2] := by rw [hszA, ← hwA]; exact letter_new wr 2 2 rfl
            have HBA := hid (HBR.out.trans (hbA.mono (by omega)))
            have HLA := hid hlA
            have HFO := hid (fours l.length wA (by have := HBK.out.2.2; omega))
            obtain ⟨ps, hps, hsrc, hok⟩ := pairs_src HL.out
            have HPSE := hid hps
            have HTR := hid (show ∀ wB, Below w.heap.size w wB → Calls Tryd.prog 23 #[.slice oa l.length ca] wB (fun e w' => ∃ oa nv cap, e = .returned (.slice oa nv cap) ∧ OwnB w' wB.heap.size (.slice oa nv cap) (treeD l) ∧ Below wB.heap.size wB w') from fun wB hB => by
              have hpl : ps.length = l.length := by rw [← hps]; simp
              have h := refTree_any ps.length ps (.slice oa l.length ca) N N wB (Nat.le_refl _) (Nat.le_trans hN hB.size) (Nat.le_trans hN hB.size) (hsrc.below (hB.mono hN)) (fun q hq => (hok q hq).below (hB.mono hN)) (fun q hq => by
                have := HBK.out.2.1 q.p (by rw [← hps]; exact List.mem_map_of_mem hq)
                exact ⟨by omega, by omega⟩) (by have := HBK.out.2.2; omega)
              rw [hps] at h
              exact h)
            clear hbA hlA hps hsrc hok
            go_wp2_with fail
            clear hwA
            refine HFO.out.mono ?_
            rintro e wB ⟨rfl, hfB, hbB⟩
            have hszB := hbB.size
            have HBB3 := hid (HBA.out.trans (hbB.mono (by omega)))
            have HFB := hid hfB
            have HLB := hid (HLA.out.below hbB)
            clear hfB hbB HFO
            go_wp2_with fail
            refine (HTR.out wB HBB3.out).mono ?_
            rintro e wC ⟨oT, nT, cT, rfl, hownC, hbC⟩
            have hszC := hbC.size
            have HBC := hid (HBB3.out.trans (hbC.mono (by omega)))
            obtain ⟨wD, hwD⟩ : ∃ wD, wC.alloc (.cells #[.slice (some ⟨wr.heap.size, 0, none⟩) 1 1, .slice (some ⟨wA.heap.size, 0, none⟩) 4 4, .slice oT nT cT] 23) = wD := ⟨_, rfl⟩
            have hszD : wD.heap.size = wC.heap.size + 1 := by rw [← hwD]; simp
            have hbD : Below wC.heap.size wC wD := by rw [← hwD]; exact (Below.refl _ _).alloc (Nat.le_refl _) _
            have hls : Lists wD wD.heap.size (.slice (some ⟨wC.heap.size, 0, none⟩) 3 3) [[2], fourB l.length, treeD l] := by
              rw [hszD, ← hwD]
              exact lists3 ((HLB.out.below (hbC.mono (by omega))).mono (by omega)) ((HFB.out.below hbC).mono hszC) hownC.bytes
            have hfl2 : [[2], fourB l.length, treeD l].flatten = 2 :: (fourB l.length ++ treeD l) := by rw [flat3]; rfl
            have HJ := hid (refJoin_any [[2], fourB l.length, treeD l] _ wD.heap.size wD (Nat.le_refl _) hls (by rw [hfl2]; have := treeD_len l; simp [fourB]; omega) (by simp))
            rw [hfl2] at HJ
            have HBD := hid (HBC.out.trans (hbD.mono (by omega)))
            rw [hszA] at hwD
            clear hownC hbC hbD hls hfl2
            go_wp2_with fail
            clear hwD
            refine HJ.out.mono ?_
            rintro e wE ⟨vE, rfl, hownE, hbE⟩
            have hszE := hbE.size
            have HBE := hid (HBD.out.trans (hbE.mono (by omega)))
            obtain ⟨oE1, cE1, hvE, _⟩ := hownE.shape
            generalize (2 :: (fourB l.length ++ treeD l)).length = nE at hvE
            subst hvE
            obtain ⟨wF, hwF⟩ : ∃ wF, wE.alloc (.cells #[.int .u8 2, .int .u8 0, .int .u8 0, .int .u8 0, .int .u8 0] 5) = wF := ⟨_, rfl⟩
            have hszF : wF.heap.size = wE.heap.size + 1 := by rw [← hwF]; simp
            have hbF : Below wE.heap.size wE wF := by rw [← hwF]; exact (Below.refl _ _).alloc (Nat.le_refl _) _
            have hbyF : Bytes wF wF.heap.size (.slice (some ⟨wE.heap.size, 0, none⟩) 5 5) [2, 0, 0, 0, 0] := by
              rw [hszF, ← hwF]
              exact bytes_new wE [2, 0, 0, 0, 0] 5 (0, 0) 5 (by simp)
            have HBF := hid (HBE.out.trans (hbF.mono (by omega)))
            have HaF := hid (hownE.bytes.below hbF)
            have HbF := hid hbyF
            have HNEQ := hid (show (2 :: (fourB l.length ++ treeD l)) ≠ ([2, 0, 0, 0, 0] : List (BitVec 8)) from fun h => by
              have h1 := congrArg List.length h
              have h2 := treeD_len32 l HPOS.out
              simp [fourB, h2] at h1)
            have HSHE := hid (show sha (2 :: (fourB l.length ++ treeD l)) = sha [2, 0, 0, 0, 0] from HEQ.out)
            obtain ⟨la, hla⟩ : ∃ la, (2 :: (fourB l.length ++ treeD l)) = la := ⟨_, rfl⟩
            have HLAL := hid (show la.length ≤ 1000000 by rw [← hla]; have := treeD_len l; simp [fourB]; omega)
            rw [hla] at HaF HNEQ HSHE
            obtain ⟨lb, hlb⟩ : ∃ lb : List (BitVec 8), [2, 0, 0, 0, 0] = lb := ⟨_, rfl⟩
            have HLBL := hid (show lb.length ≤ 1000000 by rw [← hlb]; decide)
            rw [hlb] at HbF HNEQ HSHE
            have HSF := hid (sameB_any la lb (.slice oE1 nE cE1) (.slice (some ⟨wE.heap.size, 0, none⟩) 5 5) wE.heap.size wF.heap.size wF HaF.out HbF.out (by have := HLAL.out; omega) (by have := HLBL.out; omega))
            rw [decide_eq_false HNEQ.out] at HSF
            clear hownE hbE hbF hbyF hla hlb HJ
            go_wp2_with fail
            clear hwF
            refine HSF.out.mono ?_
            rintro e w10 ⟨rfl, q10, hw10⟩
            have hb10 : Below wF.heap.size wF w10 := by rw [hw10]; exact drewN_belowC _ _ _
            have hsz10 := hb10.size
            have HB10 := hid (HBF.out.trans (hb10.mono (by omega)))
            have HBA10 := hid (HaF.out.below (hb10.mono (by omega)))
            have HBB10 := hid (HbF.out.below hb10)
            have HSA := hid (sumC la (.slice oE1 nE cE1) wE.heap.size w10 (by omega) HBA10.out (HK.out.past HB10.out) HLAL.out)
            clear hb10 hw10 HSF
            go_wp2_with fail
            refine HSA.out.mono ?_
            rintro e w11 ⟨oD, cD, rfl, hown11, hb11⟩
            have hsz11 := hb11.size
            have HB11 := hid (HB10.out.trans (hb11.mono (by omega)))
            have HD11 := hid hown11
            have HSB2 := hid (sumC lb (.slice (some ⟨wE.heap.size, 0, none⟩) 5 5) wF.heap.size w11 (by omega) (HBB10.out.below (hb11.mono (by omega))) (HK.out.past HB11.out) HLBL.out)
            clear hb11 hown11 HSA
            go_wp2_with fail
            refine HSB2.out.mono ?_
            rintro e w12 ⟨oE, cE, rfl, hown12, hb12⟩
            have hsz12 := hb12.size
            have HB12 := hid (HB11.out.trans (hb12.mono (by omega)))
            have HS12 := hid (sameB_any (sha la) (sha lb) (.slice oD 32 cD) (.slice oE 32 cE) w11.heap.size w12.heap.size w12 (HD11.out.bytes.below hb12) hown12.bytes (by rw [sha_length]; decide) (by rw [sha_length]; decide))
            rw [decide_eq_true HSHE.out] at HS12
            clear hb12 hown12 HSB2
            go_wp2_with fail
            refine HS12.out.mono ?_
            rintro e w13 ⟨rfl, q13, rfl⟩
            go_wp2
            go_ret
            exact ⟨rfl, HB12.out.trans (drewN_belowC _ _ _)⟩
  · have e1 : (wc != 0) = true := by simpa using hwc0
    go_wp2
    go_ret
    exact ⟨rfl, HB3.out⟩
end Go.Proofs.YtdlcjhigmdgbcaaDoor
