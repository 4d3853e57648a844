/-
  ProofClashes answers true of all pairs and every proof, given what package proof's Clash answers; it turns nothing that was there.
-/
import Derived.Test.YtdlcjhigmdgbcaaDoorProofFace
import Derived.Test.YtdlcjhigmdgbcaaDoorBookTree
import Derived.Test.YtdlcjhigmdgbcaaDoorSameB
import Derived.Deep.QuietTactic
import Derived.BigQuiet
import Derived.Test.YtdlcjhigmdgbcaaDoorRef5Shown
namespace Go.Proofs.YtdlcjhigmdgbcaaDoor
open Go.RowKit

set_option maxRecDepth 100000 in
set_option maxHeartbeats 4000000 in
theorem proofClashes_any (HALC : AliveC 9) (HCC : ClashC 17)
    (l : List Pr) (p : Prf) (sv v : Value) (N : Nat) (w : World) (hK : tableAt w) (hN : N ≤ w.heap.size) (hl : Pairs w N sv l) (hp : PrfV w N v p) (hlen : l.length < 2305843009213693952) (hfl : ∀ p ∈ l, p.fits) (hfp : p.fits) :
    Calls Tryd.prog 5 #[sv, v] w fun e w' => e = .returned (.bool true) ∧ Below w.heap.size w w' := by
  obtain ⟨oa, ca, rfl, hca⟩ := hl.shape
  obtain ⟨kv, vv, pv, rfl, hk, hv, hpt⟩ := hp
  obtain ⟨o1, c1, rfl, _⟩ := hk.shape
  obtain ⟨o2, c2, rfl, _⟩ := hv.shape
  obtain ⟨o3, c3, rfl, _⟩ := hpt.shape
  obtain ⟨w0, hw0⟩ : ∃ w0, w.alloc (.cells #[.int .i64 p.index, .int .i64 p.size, .slice o1 p.key.length c1, .slice o2 p.val.length c2, .slice o3 p.path.length c3] 34) = w0 := ⟨_, rfl⟩
  have hsz0 : w0.heap.size = w.heap.size + 1 := by rw [← hw0]; simp
  have hb0 : Below w.heap.size w w0 := by rw [← hw0]; exact (Below.refl _ _).alloc (Nat.le_refl _) _
  have hrow0 : Row w0 w.heap.size 34 [.int .i64 p.index, .int .i64 p.size, .slice o1 p.key.length c1, .slice o2 p.val.length c2, .slice o3 p.path.length c3] := by rw [← hw0]; exact Row.new _ _ _
  have HAL := hid (HALC w0 (hK.past hb0))
  have HC := hid (show ClashC 17 from HCC)
  have HK := hid hK
  have HL := hid hl
  have HPK := hid hk
  have HPV := hid hv
  have HFL := hid hfl
  have HFP := hid hfp
  have HB0 := hid hb0
  have HR0 := hid hrow0
  have HPR := hid (show ∀ w', Below w.heap.size w w' → PrfV w' N (.agg #[.int .i64 p.index, .int .i64 p.size, .slice o1 p.key.length c1, .slice o2 p.val.length c2, .slice o3 p.path.length c3]) p from fun w' hw' => ⟨_, _, _, rfl, hk.below (hw'.mono hN), hv.below (hw'.mono hN), hpt.below (hw'.mono hN)⟩)
  clear hK hl hk hv hpt hfl hfp hb0 hrow0 HALC HCC
  go_enter Tryd.func5, Tryd.ntmps5
  go_wp2_with fail
  refine HAL.out.mono ?_
  rintro e w1 ⟨rfl, hb1⟩
  have hsz1 := hb1.size
  have HB1 := hid (HB0.out.trans (hb1.mono (by omega)))
  have HR1 := hid (HR0.out.below hb1 (by omega))
  have HCL := hid (HC.out l p (.slice oa l.length ca) _ N w1 (HK.out.past HB1.out) (by omega) (HL.out.below (HB1.out.mono hN)) (HPR.out w1 HB1.out) hlen HFL.out HFP.out)
  have q0 := HR1.out.cell 0
  have q1 := HR1.out.cell 1
  have q2 := HR1.out.cell 2
  have q3 := HR1.out.cell 3
  have q4 := HR1.out.cell 4
  clear hb1 hw0 HAL
  go_wp2_with fail
  refine HCL.out.mono ?_
  rintro e w2 ⟨hb2, oA, nA, cA, oB, nB, cB, ok, a, b, rfl, hba, hbb, hcl⟩
  have hsz2 := hb2.size
  have HB2 := hid (HB1.out.trans (hb2.mono (by omega)))
  have HR2 := hid (HR1.out.below hb2 (by omega))
  have HCB := hid hcl.2
  have HC1 := hid (refRootC l (.slice oa l.length ca) N w2 (HK.out.past HB2.out) (HL.out.below (HB2.out.mono hN)) (by omega) hlen HFL.out)
  obtain ⟨wc, hwc⟩ : ∃ wc, (wrongL l).1 = wc := ⟨_, rfl⟩
  obtain ⟨wi, hwi⟩ : ∃ wi, (wrongL l).2 = wi := ⟨_, rfl⟩
  rw [hwc, hwi] at HC1
  unfold faultV at HC1
  clear hb2 hba hbb hcl HCL q0 q1 q2 q3 q4 hwi
  go_wp2_with fail
  refine HC1.out.mono ?_
  rintro e w3 ⟨hb3, o4, n4, c4, rfl, hx3⟩
  have hsz3 := hb3.size
  obtain ⟨w4, hw4⟩ : ∃ w4, w3.alloc (.cells #[.int .i64 wc, .int .i64 (wi : Int)] 27) = w4 := ⟨_, rfl⟩
  have hsz4 : w4.heap.size = w3.heap.size + 1 := by rw [← hw4]; simp
  have hb34 : Below w3.heap.size w3 w4 := by rw [← hw4]; exact (Below.refl _ _).alloc (Nat.le_refl _) _
  have hb24 : Below w2.heap.size w2 w4 := hb3.trans (hb34.mono (by omega))
  have HB4 := hid (HB2.out.trans (hb24.mono (by omega)))
  have HR4 := hid (HR2.out.below hb24 (by omega))
  have HX4 := hid (hx3.below hb34)
  have f0 : w4.cell? ⟨w3.heap.size, 0, none⟩ = some (.int .i64 wc) := by rw [← hw4]; exact (Row.new w3 27 [.int .i64 wc, .int .i64 (wi : Int)]).cell 0
  have q0 := HR4.out.cell 0
  have q1 := HR4.out.cell 1
  have q2 := HR4.out.cell 2
  have q3 := HR4.out.cell 3
  have q4 := HR4.out.cell 4
  clear hb3 hb34 hb24 hx3 HC1
  by_cases hwc0 : wc = 0
  · subst hwc0
    have HWC := hid hwc
    have HRT := hid (rout_root l hwc)
    rw [HRT.out] at HX4
    have HSH := hid (refShown_any (rootD l) p (.slice o4 n4 c4) _ w3.heap.size w4 (by omega) HX4.out ((HPR.out w4 HB4.out).mono (by omega)) HFP.out (by rw [rootD_len]; decide))
    clear hwc
    go_wp2_with fail
    clear hw4
    refine HSH.out.mono ?_
    rintro e w5 ⟨hb5, bb, rfl, hbb⟩
    have hsz5 := hb5.size
    have HB5 := hid (HB4.out.trans (hb5.mono (by omega)))
    have HR5 := hid (HR4.out.below hb5 (by omega))
    have HBB := hid hbb
    clear hb5 hbb f0 q0 q1 q2 q3 q4 HSH
    cases bb with
    | false =>
      obtain rfl : ok = false := by
        cases hok : ok with
        | false => rfl
        | true =>
          have h1 := HBB.out.2 (HCB.out.1 hok).2.1
          cases h1
      go_wp2
      go_ret
      exact ⟨rfl, HB5.out⟩
    | true =>
      have HSHN := hid (HBB.out.1 rfl)
      have q0 := HR5.out.cell 0
      have q1 := HR5.out.cell 1
      have q2 := HR5.out.cell 2
      have q3 := HR5.out.cell 3
      obtain ⟨i, hi⟩ : ∃ i : Nat, p.index = (i : Int) := ⟨p.index.toNat, by have := HSHN.out.2.2.1; omega⟩
      rw [hi] at q0
      have HOK := hid (show ¬ soB l p → ok = true from fun h => HCB.out.2 ⟨HWC.out, HSHN.out, h⟩)
      by_cases hsz : p.size = (l.length : Int)
      · have hil : i < l.length := by have := HSHN.out.2.2.2.1; omega
        obtain ⟨q, hq⟩ : ∃ q, l[i]? = some q := ⟨l[i], List.getElem?_eq_getElem hil⟩
        have HSO := hid (show soB l p ↔ q.key = p.key ∧ q.val = p.val from by
          constructor
          · rintro ⟨_, _, q', hq', h1, h2⟩
            rw [hi, Int.toNat_natCast, hq] at hq'
            obtain rfl : q = q' := by simpa using hq'
            exact ⟨h1, h2⟩
          · rintro ⟨h1, h2⟩
            exact ⟨hsz, by omega, q, by rw [hi, Int.toNat_natCast]; exact hq, h1, h2⟩)
        rw [hsz] at q1
        obtain ⟨b', o', rfl, hcells⟩ := HL.out.some (by omega)
        obtain ⟨hbN, vk, vv', d0, d1, hvk, hvv⟩ := hcells i q hq
        obtain ⟨ok1, ck1, rfl, _⟩ := hvk.shape
        obtain ⟨ok2, ck2, rfl, _⟩ := hvv.shape
        have hbl : b' < w.heap.size := by omega
        have f0 := (HB5.out.cell (p := ⟨b', o' + i * 2, none⟩) hbl).trans d0
        have f1 := (HB5.out.cell (p := ⟨b', o' + i * 2 + 1, none⟩) hbl).trans d1
        have hfq := HFL.out q (List.mem_of_getElem? hq)
        obtain ⟨kb, hkb⟩ : ∃ kb, decide (q.key = p.key) = kb := ⟨_, rfl⟩
        obtain ⟨vb, hvb⟩ : ∃ vb, decide (q.val = p.val) = vb := ⟨_, rfl⟩
        have HK1 := hid (fun wq : Nat => show Calls Tryd.prog 15 #[.slice ok1 q.key.length ck1, .slice o1 p.key.length c1] (w5.drewN wq) (fun e w' => e = .returned (.bool kb) ∧ ∃ n, w' = w5.drewN n) from
          (sameB_any q.key p.key _ _ N N (w5.drewN wq) ((hvk.below (HB5.out.mono hN)).below (drewN_belowC _ _ _)) ((HPK.out.below (HB5.out.mono hN)).below (drewN_belowC _ _ _)) (by have := hfq.1; omega) (by have := HFP.out.1; omega)).mono fun e w' ⟨h1, n', h2⟩ => ⟨by rw [h1, hkb], wq + n', by rw [h2, World.drewN_drewN]⟩)
        have HK2 := hid (fun wq : Nat => show Calls Tryd.prog 15 #[.slice ok2 q.val.length ck2, .slice o2 p.val.length c2] (w5.drewN wq) (fun e w' => e = .returned (.bool vb) ∧ ∃ n, w' = w5.drewN n) from
          (sameB_any q.val p.val _ _ N N (w5.drewN wq) ((hvv.below (HB5.out.mono hN)).below (drewN_belowC _ _ _)) ((HPV.out.below (HB5.out.mono hN)).below (drewN_belowC _ _ _)) (by have := hfq.2; omega) (by have := HFP.out.2.1; omega)).mono fun e w' ⟨h1, n', h2⟩ => ⟨by rw [h1, hvb], wq + n', by rw [h2, World.drewN_drewN]⟩)
        have hil' : (i : Int) < (l.length : Int) := by omega
        have e9 : ((l.length : Int) == (l.length : Int)) = true := by simp
        have e8 : decide ((i : Int) < (l.length : Int)) = true := by simpa using hil'
        have HKB := hid hkb
        have HVB := hid hvb
        clear hcells hvk hvv d0 d1 hq hfq hi hsz hkb hvb
        cases kb with
        | true =>
          cases vb with
          | true =>
            go_wp2_with fail
            go_quiet (first | (go_at_call_of 15 (Value.slice ok1 q.key.length ck1); exact HK1.out _) | (go_at_call_of 15 (Value.slice ok2 q.val.length ck2); exact HK2.out _))
            go_wp2
            go_ret
            exact ⟨rfl, HB5.out.trans (drewN_belowC _ _ _)⟩
          | false =>
            obtain rfl : ok = true := HOK.out fun h => by
              have h1 := (HSO.out.1 h).2
              have h2 := HVB.out
              rw [decide_eq_true h1] at h2
              cases h2
            go_wp2_with fail
            go_quiet (first | (go_at_call_of 15 (Value.slice ok1 q.key.length ck1); exact HK1.out _) | (go_at_call_of 15 (Value.slice ok2 q.val.length ck2); exact HK2.out _))
            go_wp2
            go_ret
            exact ⟨rfl, HB5.out.trans (drewN_belowC _ _ _)⟩
        | false =>
          obtain rfl : ok = true := HOK.out fun h => by
            have h1 := (HSO.out.1 h).1
            have h2 := HKB.out
            rw [decide_eq_true h1] at h2
            cases h2
          go_wp2_with fail
          go_quiet (first | (go_at_call_of 15 (Value.slice ok1 q.key.length ck1); exact HK1.out _))
          go_wp2
          go_ret
          exact ⟨rfl, HB5.out.trans (drewN_belowC _ _ _)⟩
      · obtain rfl : ok = true := HOK.out fun h => hsz h.1
        have e9 : (p.size == (l.length : Int)) = false := by simpa using hsz
        go_wp2_with fail
        go_quiet (fail)
        go_wp2
        go_ret
        exact ⟨rfl, HB5.out.trans (drewN_belowC _ _ _)⟩
  · have e1 : (wc != 0) = true := by simpa using hwc0
    obtain rfl : ok = false := by
      cases hok : ok with
      | false => rfl
      | true => exact absurd ((HCB.out.1 hok).1) (by rw [hwc]; exact hwc0)
    go_wp2
    go_ret
    exact ⟨rfl, HB4.out⟩
end Go.Proofs.YtdlcjhigmdgbcaaDoor
