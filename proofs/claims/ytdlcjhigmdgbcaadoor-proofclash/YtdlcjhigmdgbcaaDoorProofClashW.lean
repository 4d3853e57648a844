/-
  ProofClash answers true of all pairs and every proof, given what package book's Root and package proof's functions answer; it turns nothing that was there.
-/
import Derived.Test.YtdlcjhigmdgbcaaDoorProofFace
import Derived.Test.YtdlcjhigmdgbcaaDoorBookTree
import Derived.Test.YtdlcjhigmdgbcaaDoorSameB
import Derived.Deep.QuietTactic
import Derived.BigQuiet
namespace Go.Proofs.YtdlcjhigmdgbcaaDoor
open Go.RowKit

set_option maxRecDepth 100000 in
set_option maxHeartbeats 4000000 in
theorem proofClash_any (HALC : AliveC 9) (HRC : RootC 10) (HSC : ShownC 14) (HCC : ClashC 17)
    (l : List Pr) (p : Prf) (sv v : Value) (N : Nat) (w : World) (hK : tableAt w) (hN : N ≤ w.heap.size) (hl : Pairs w N sv l) (hp : PrfV w N v p) (hlen : l.length < 2305843009213693952) (hfl : ∀ p ∈ l, p.fits) (hfp : p.fits) :
    Calls Tryd.prog 4 #[sv, v] w fun e w' => e = .returned (.bool true) ∧ Below w.heap.size w w' := by
  obtain ⟨oa, ca, rfl, hca⟩ := hl.shape
  obtain ⟨kv, vv, pv, rfl, hk, hv, hpt⟩ := hp
  obtain ⟨o1, c1, rfl, _⟩ := hk.shape
  obtain ⟨o2, c2, rfl, _⟩ := hv.shape
  obtain ⟨o3, c3, rfl, _⟩ := hpt.shape
  obtain ⟨w0, hw0⟩ : ∃ w0, w.alloc (.cells #[.int .i64 p.index, .int .i64 p.size, .slice o1 p.key.length c1, .slice o2 p.val.length c2, .slice o3 p.path.length c3] 34) = w0 := ⟨_, rfl⟩
  have hsz0 : w0.heap.size = w.heap.size + 1 := by rw [← hw0]; simp
  have hb0 : Below w.heap.size w w0 := by rw [← hw0]; exact (Below.refl _ _).alloc (Nat.le_refl _) _
  have hrow0 : Row w0 w.heap.size 34 [.int .i64 p.index, .int .i64 p.size, .slice o1 p.key.length c1, .slice o2 p.val.length c2, .slice o3 p.path.length c3] := by rw [← hw0]; exact Row.new _ _ _
  have HAL := hid (HALC w0 (hK.past hb0))
  have HR := hid (show RootC 10 from HRC)
  have HS := hid (show ShownC 14 from HSC)
  have HC := hid (show ClashC 17 from HCC)
  have HK := hid hK
  have HL := hid hl
  have HPK := hid hk
  have HPV := hid hv
  have HPP := hid hpt
  have HFL := hid hfl
  have HFP := hid hfp
  have HB0 := hid hb0
  have HR0 := hid hrow0
  have HPR := hid (show ∀ w', Below w.heap.size w w' → PrfV w' N (.agg #[.int .i64 p.index, .int .i64 p.size, .slice o1 p.key.length c1, .slice o2 p.val.length c2, .slice o3 p.path.length c3]) p from fun w' hw' => ⟨_, _, _, rfl, hk.below (hw'.mono hN), hv.below (hw'.mono hN), hpt.below (hw'.mono hN)⟩)
  clear hK hl hk hv hpt hfl hfp hb0 hrow0 HALC HRC HSC HCC
  go_enter Tryd.func4, Tryd.ntmps4
  go_wp2_with fail
  refine HAL.out.mono ?_
  rintro e w1 ⟨rfl, hb1⟩
  have hsz1 := hb1.size
  have HB1 := hid (HB0.out.trans (hb1.mono (by omega)))
  have HR1 := hid (HR0.out.below hb1 (by omega))
  have HC1 := hid (HR.out l (.slice oa l.length ca) N w1 (HK.out.past HB1.out) (HL.out.below (HB1.out.mono hN)) (by omega) hlen HFL.out)
  obtain ⟨wc, hwc⟩ : ∃ wc, (wrongL l).1 = wc := ⟨_, rfl⟩
  obtain ⟨wi, hwi⟩ : ∃ wi, (wrongL l).2 = wi := ⟨_, rfl⟩
  rw [hwc, hwi] at HC1
  unfold faultV at HC1
  clear hb1 hw0 HAL hwi
  go_wp2_with fail
  refine HC1.out.mono ?_
  rintro e w2 ⟨hb2, o4, n4, c4, rfl, hx2⟩
  have hsz2 := hb2.size
  obtain ⟨w3, hw3⟩ : ∃ w3, w2.alloc (.cells #[.int .i64 wc, .int .i64 (wi : Int)] 27) = w3 := ⟨_, rfl⟩
  have hsz3 : w3.heap.size = w2.heap.size + 1 := by rw [← hw3]; simp
  have hb23 : Below w2.heap.size w2 w3 := by rw [← hw3]; exact (Below.refl _ _).alloc (Nat.le_refl _) _
  have HB3 := hid (HB1.out.trans ((hb2.trans (hb23.mono (by omega))).mono (by omega)))
  have HR3 := hid (HR1.out.below (hb2.trans (hb23.mono (by omega))) (by omega))
  have HF3 := hid (show Row w3 w2.heap.size 27 [.int .i64 wc, .int .i64 (wi : Int)] by rw [← hw3]; exact Row.new _ _ _)
  have HX3 := hid (hx2.below hb23)
  have HW3 := hid hw3
  have f0 := HF3.out.cell 0
  have q0 := HR3.out.cell 0
  have q1 := HR3.out.cell 1
  have q2 := HR3.out.cell 2
  have q3 := HR3.out.cell 3
  have q4 := HR3.out.cell 4
  clear hb2 hb23 hx2 HC1
  by_cases hwc0 : wc = 0
  · subst hwc0
    have hrl := rout_root l hwc
    rw [hrl] at HX3
    have HWC := hid hwc
    have HBK := hid (wrongL_sorted l hwc)
    have HSH := hid (HS.out (rootD l) p (.slice o4 n4 c4) _ w2.heap.size w3 (HK.out.past HB3.out) (by omega) HX3.out ((HPR.out w3 HB3.out).mono (by omega)) HFP.out (by rw [rootD_len]; decide))
    clear hrl hwc
    go_wp2_with fail
    clear hw3
    refine HSH.out.mono ?_
    rintro e w4 ⟨hb4, bb, rfl, hbb⟩
    have hsz4 := hb4.size
    have HB4 := hid (HB3.out.trans (hb4.mono (by omega)))
    have HR4 := hid (HR3.out.below hb4 (by omega))
    have HBB := hid hbb
    clear hb4 hbb f0 q0 q1 q2 q3 q4
    have q0 := HR4.out.cell 0
    have q1 := HR4.out.cell 1
    have q2 := HR4.out.cell 2
    have q3 := HR4.out.cell 3
    have q4 := HR4.out.cell 4
    cases bb with
    | false =>
      go_wp2
      go_ret
      exact ⟨rfl, HB4.out⟩
    | true =>
      have HSHN := hid (HBB.out.1 rfl)
      have HCL := hid (HC.out l p (.slice oa l.length ca) _ N w4 (HK.out.past HB4.out) (by omega) (HL.out.below (HB4.out.mono hN)) (HPR.out w4 HB4.out) hlen HFL.out HFP.out)
      go_wp2_with fail
      refine HCL.out.mono ?_
      rintro e w5 ⟨hb5, oA, nA, cA, oB, nB, cB, ok, a, b, rfl, hba, hbb, hcl⟩
      have hsz5 := hb5.size
      have HB5 := hid (HB4.out.trans (hb5.mono (by omega)))
      have HR5 := hid (HR4.out.below hb5 (by omega))
      have HBA := hid hba
      have HBB2 := hid hbb
      have HCB := hid hcl
      clear hb5 hba hbb hcl HCL q0 q1 q2 q3 q4
      cases ok with
      | true =>
        obtain ⟨hne, hsh, hla, hlb⟩ := HCB.out.1 rfl
        have HS5 := hid (sameB_any a b (.slice oA nA cA) (.slice oB nB cB) w5.heap.size w5.heap.size w5 HBA.out HBB2.out (by omega) (by omega))
        rw [decide_eq_false hne] at HS5
        have HSH2 := hid hsh
        have HLA := hid hla
        have HLB := hid hlb
        clear hne hsh hla hlb
        go_wp2_with fail
        refine HS5.out.mono ?_
        rintro e w6 ⟨rfl, q6, hw6⟩
        have hb6 : Below w5.heap.size w5 w6 := by rw [hw6]; exact drewN_belowC _ _ _
        have hsz6 := hb6.size
        have HB6 := hid (HB5.out.trans (hb6.mono (by omega)))
        have HBA6 := hid (HBA.out.below hb6)
        have HBB6 := hid (HBB2.out.below hb6)
        have HSA := hid (sumC a (.slice oA nA cA) w5.heap.size w6 hsz6 HBA6.out (HK.out.past HB6.out) HLA.out)
        clear hb6 hw6 HS5
        go_wp2_with fail
        refine HSA.out.mono ?_
        rintro e w7 ⟨oD, cD, rfl, hown7, hb7⟩
        have hsz7 := hb7.size
        have HB7 := hid (HB6.out.trans (hb7.mono (by omega)))
        have HD7 := hid hown7
        have HSB := hid (sumC b (.slice oB nB cB) w5.heap.size w7 (by omega) (HBB6.out.below (hb7.mono (by omega))) (HK.out.past HB7.out) HLB.out)
        clear hb7 hown7 HSA
        go_wp2_with fail
        refine HSB.out.mono ?_
        rintro e w8 ⟨oE, cE, rfl, hown8, hb8⟩
        have hsz8 := hb8.size
        have HB8 := hid (HB7.out.trans (hb8.mono (by omega)))
        have HS8 := hid (sameB_any (sha a) (sha b) (.slice oD 32 cD) (.slice oE 32 cE) w7.heap.size w8.heap.size w8 (HD7.out.bytes.below hb8) hown8.bytes (by rw [sha_length]; decide) (by rw [sha_length]; decide))
        rw [decide_eq_true HSH2.out] at HS8
        clear hb8 hown8 HSB
        go_wp2_with fail
        refine HS8.out.mono ?_
        rintro e w9 ⟨rfl, q9, rfl⟩
        go_wp2
        go_ret
        exact ⟨rfl, HB8.out.trans (drewN_belowC _ _ _)⟩
      | false =>
        have hso : soB l p := Classical.byContradiction fun h => by
          have h2 := HCB.out.2.2 ⟨HWC.out, HSHN.out, h⟩
          cases h2
        obtain ⟨hsz, hi0, q, hq, hqk, hqv⟩ := hso
        obtain ⟨i, hi⟩ : ∃ i : Nat, p.index = (i : Int) := ⟨p.index.toNat, by omega⟩
        rw [hi, Int.toNat_natCast] at hq
        have hil : i < l.length := (List.getElem?_eq_some_iff.1 hq).1
        obtain ⟨b', o', rfl, hcells⟩ := HL.out.some (by omega)
        obtain ⟨hbN, vk, vv', d0, d1, hvk, hvv⟩ := hcells i q hq
        obtain ⟨ok1, ck1, rfl, _⟩ := hvk.shape
        obtain ⟨ok2, ck2, rfl, _⟩ := hvv.shape
        have hbl : b' < w.heap.size := by omega
        have f0 := (HB5.out.cell (p := ⟨b', o' + i * 2, none⟩) hbl).trans d0
        have f1 := (HB5.out.cell (p := ⟨b', o' + i * 2 + 1, none⟩) hbl).trans d1
        have q0 := HR5.out.cell 0
        have q1 := HR5.out.cell 1
        have q2 := HR5.out.cell 2
        have q3 := HR5.out.cell 3
        rw [hi] at q0
        rw [hsz] at q1
        have hfq := HFL.out q (List.mem_of_getElem? hq)
        have HK1 := hid (fun wq : Nat => show Calls Tryd.prog 15 #[.slice ok1 q.key.length ck1, .slice o1 p.key.length c1] (w5.drewN wq) (fun e w' => e = .returned (.bool true) ∧ ∃ n, w' = w5.drewN n) from
          (sameB_any q.key p.key _ _ N N (w5.drewN wq) ((hvk.below (HB5.out.mono hN)).below (drewN_belowC _ _ _)) ((HPK.out.below (HB5.out.mono hN)).below (drewN_belowC _ _ _)) (by have := hfq.1; omega) (by have := HFP.out.1; omega)).mono fun e w' ⟨h1, n', h2⟩ => ⟨by rw [h1, decide_eq_true hqk], wq + n', by rw [h2, World.drewN_drewN]⟩)
        have HK2 := hid (fun wq : Nat => show Calls Tryd.prog 15 #[.slice ok2 q.val.length ck2, .slice o2 p.val.length c2] (w5.drewN wq) (fun e w' => e = .returned (.bool true) ∧ ∃ n, w' = w5.drewN n) from
          (sameB_any q.val p.val _ _ N N (w5.drewN wq) ((hvv.below (HB5.out.mono hN)).below (drewN_belowC _ _ _)) ((HPV.out.below (HB5.out.mono hN)).below (drewN_belowC _ _ _)) (by have := hfq.2; omega) (by have := HFP.out.2.1; omega)).mono fun e w' ⟨h1, n', h2⟩ => ⟨by rw [h1, decide_eq_true hqv], wq + n', by rw [h2, World.drewN_drewN]⟩)
        have hil' : (i : Int) < (l.length : Int) := by omega
        have e9 : ((l.length : Int) == (l.length : Int)) = true := by simp
        have HB5' := HB5
        clear hcells hvk hvv d0 d1 hq hqk hqv hfq hi hsz HCB
        go_wp2_with fail
        go_quiet (first | (go_at_call_of 15 (Value.slice ok1 q.key.length ck1); exact HK1.out _) | (go_at_call_of 15 (Value.slice ok2 q.val.length ck2); exact HK2.out _))
        go_wp2
        go_ret
        exact ⟨rfl, HB5.out.trans (drewN_belowC _ _ _)⟩
  · have e1 : (wc != 0) = true := by simpa using hwc0
    go_wp2
    go_ret
    exact ⟨rfl, HB3.out⟩
end Go.Proofs.YtdlcjhigmdgbcaaDoor
