/-
  HeaderVoted answers true, whatever it is handed, and turns nothing that was there.
-/
import Derived.Test.YtfpngilmdgeikaaDoorHdBlock
import Derived.Test.YtfpngilmdgeikaaDoorHdPow
import Derived.Test.YtfpngilmdgeikaaDoorRef2Key
namespace Go.Proofs.YtfpngilmdgeikaaDoor
open Go.RowKit

set_option maxRecDepth 100000 in
set_option maxHeartbeats 4000000 in
theorem votedRegion14 {y0 y1 y2 y3 y4 y5 y6 y7 y8 y9 y10 y11 y13 y15 y16 y17 y18 y19 y20 y21 y22 y23 y24 y25 y26 y27 y28 y29 y30 y31 y32 y33 y34 y35 y36 y37 y38 y39 y40 y41 y42 y43 y44 y45 y51 y52 y53 y54 y55 y56 y57 y58 y59 y60 y61 y62 y63 y64 y65 z46 z47 z48 z49 z50 : Value} {gb N : Nat} (s : List (BitVec 8)) (v : Vl) (x : Value) {w : World} (hN : N ≤ w.heap.size) (hr : Hid (Row w gb 45 [.int .u64 (v.key : Int), .int .u64 (v.power : Int)])) (hx : Hid (Bytes w N x s)) (hsl : s.length ≤ 140737488351232) (Q : Exit → Act → World → Prop)
    (hQ : Hid (∀ (σ : Nat → Value) (w' : World), Below w.heap.size w w' → /-4-/ σ 4 = .bool (decide (keyN s = v.key)) → Q .normal ⟨#[y0, y1, y2, y3, y4, y5, y6, y7, y8, y9, y10, y11, .pointer (some ⟨gb, 0, none⟩), y13, x, y15, y16, y17, y18, y19, y20, y21, y22, y23, y24, y25, y26, y27, y28, y29, y30, y31, y32, y33, y34, y35, y36, y37, y38, y39, y40, y41, y42, y43, y44, y45, σ 0, σ 1, σ 2, σ 3, σ 4, y51, y52, y53, y54, y55, y56, y57, y58, y59, y60, y61, y62, y63, y64, y65], []⟩ w')) :
    Code.wp Tryd.prog (.region 14 ((Tryd.f4.body.bind (regOf 14)).getD #[]) true) Q ⟨#[y0, y1, y2, y3, y4, y5, y6, y7, y8, y9, y10, y11, .pointer (some ⟨gb, 0, none⟩), y13, x, y15, y16, y17, y18, y19, y20, y21, y22, y23, y24, y25, y26, y27, y28, y29, y30, y31, y32, y33, y34, y35, y36, y37, y38, y39, y40, y41, y42, y43, y44, y45, z46, z47, z48, z49, z50, y51, y52, y53, y54, y55, y56, y57, y58, y59, y60, y61, y62, y63, y64, y65], []⟩ w := by
  conv => arg 2; arg 2; whnf
  conv => arg 4; dsimp only
  refine region_grows (by kernel_rfl) (fun σ => #[y0, y1, y2, y3, y4, y5, y6, y7, y8, y9, y10, y11, .pointer (some ⟨gb, 0, none⟩), y13, x, y15, y16, y17, y18, y19, y20, y21, y22, y23, y24, y25, y26, y27, y28, y29, y30, y31, y32, y33, y34, y35, y36, y37, y38, y39, y40, y41, y42, y43, y44, y45, σ 0, σ 1, σ 2, σ 3, σ 4, y51, y52, y53, y54, y55, y56, y57, y58, y59, y60, y61, y62, y63, y64, y65]) (fun i => ([z46, z47, z48, z49, z50] : List Value).getD i undef) rfl (fun i X W => match i with
    | 0 => X = x
    | 1 => X = .int .u64 (keyN s : Int)
    | 2 => X = .pointer (some ⟨gb, 0, none⟩)
    | 3 => X = .int .u64 (v.key : Int)
    | 4 => X = .bool (decide (keyN s = v.key))
    | _ => True) ?_ (by kernel_rfl) ?_ ?_
  · intro i X W W' HB H
    match i, H with
    | 0, H => exact H
    | 1, H => exact H
    | 2, H => exact H
    | 3, H => exact H
    | 4, H => exact H
    | _ + 5, _ => exact trivial
  · refine ⟨?_, ?_, ?_, ?_, ?_, trivial⟩
    · -- 0: Op.move t14
      intro σ W HJ hdep
      simp [Region.binds] at hdep
      have HJ := hid HJ
      refine wpOp_plain rfl rfl ?_
      go_simp
      exact Left.mk0 (x) (by first | rfl | simp [updF, *]) HJ.out rfl
    · -- 1: Op.call { value (Operand.func 26), args := #[t46], argTypes 
      intro σ W HJ hdep
      simp [Region.binds] at hdep
      have HJ := hid HJ
      have HC := hid (refKey_any s x N W (Nat.le_trans hN HJ.out.size) (hx.out.below (HJ.out.mono hN)) hsl)
      refine wpOp_plain rfl rfl ?_
      go_simp
      refine (HC.out).mono ?_
      rintro e w2 ⟨rfl, hb2⟩
      exact Left.mk (.int .u64 (keyN s : Int)) (by first | rfl | simp [updF, *]) hb2 HJ.out rfl
    · -- 2: Op.fieldAddr 45 t12 0
      intro σ W HJ hdep
      simp [Region.binds] at hdep
      have HJ := hid HJ
      refine wpOp_plain rfl rfl ?_
      go_simp
      exact Left.mk0 (.pointer (some ⟨gb, 0, none⟩)) (by first | rfl | simp [updF, *]) HJ.out rfl
    · -- 3: Op.load 43 t48
      intro σ W HJ hdep
      simp [Region.binds] at hdep
      have HJ := hid HJ
      have k := (hr.out.below HJ.out hr.out.lt).cell 0
      simp at k
      refine wpOp_plain rfl rfl ?_
      go_simp
      exact Left.mk0 (.int .u64 (v.key : Int)) (by first | rfl | simp [updF, *]) HJ.out rfl
    · -- 4: Op.binOp BinOp.eql 43 t47 t49 43
      intro σ W HJ hdep
      simp [Region.binds] at hdep
      have HJ := hid HJ
      obtain ⟨e1, e3⟩ : σ 1 = .int .u64 (keyN s : Int) ∧ σ 3 = .int .u64 (v.key : Int) := by first | exact ⟨hdep.1, hdep.2.1⟩ | exact hdep
      clear hdep
      have eb : ((keyN s : Int) == (v.key : Int)) = decide (keyN s = v.key) := by
        by_cases e : keyN s = v.key
        · simp [e]
        · simp [e]; omega
      have eb2 : decide ((keyN s : Int) = (v.key : Int)) = decide (keyN s = v.key) := by
        by_cases e : keyN s = v.key
        · simp [e]
        · simp [e]; omega
      refine wpOp_plain rfl rfl ?_
      go_simp
      exact Left.mk0 (.bool (decide (keyN s = v.key))) (by first | rfl | simp [updF, *]) HJ.out rfl
  · intro σ w' hb hg
    exact hQ.out σ w' hb (by first | exact ⟨hg 4 (by decide)⟩ | exact hg 4 (by decide))
theorem keyP_append (seeds : List (List (BitVec 8))) : ∀ a b : List Vl, keyP seeds (a ++ b) = keyP seeds a + keyP seeds b
  | [], b => by simp [keyP]
  | v :: a, b => by rw [List.cons_append, keyP, keyP_append seeds a b, keyP]; omega
theorem keyP_take (seeds : List (List (BitVec 8))) (l : List Vl) (k : Nat) (v : Vl) (h : l[k]? = some v) : keyP seeds (l.take (k + 1)) = keyP seeds (l.take k) + (if hasKey seeds v.key then v.power else 0) := by
  obtain ⟨hk, rfl⟩ := List.getElem?_eq_some_iff.1 h
  rw [List.take_succ_eq_append_getElem hk, keyP_append]
  simp [keyP]
theorem hasKey_yes {seeds : List (List (BitVec 8))} {k j : Nat} {s : List (BitVec 8)} (h : seeds[j]? = some s) (e : keyN s = k) : hasKey seeds k = true := by
  unfold hasKey
  rw [List.any_eq_true]
  exact ⟨s, List.mem_of_getElem? h, by simpa using e⟩
theorem hasKey_no {seeds : List (List (BitVec 8))} {k : Nat} (h : ∀ i s, i < seeds.length → seeds[i]? = some s → keyN s ≠ k) : hasKey seeds k = false := by
  unfold hasKey
  rw [List.any_eq_false]
  intro s hs
  obtain ⟨i, hi⟩ := List.mem_iff_getElem?.1 hs
  simpa using h i s (List.getElem?_eq_some_iff.1 hi).1 hi
set_option maxRecDepth 100000 in
set_option maxHeartbeats 8000000 in
theorem headerVoted_any (hal : AliveC6 29) (l : List Vl) (h : Hd) (seeds : List (List (BitVec 8))) (lv hv sv : Value) (N : Nat) (w : World) (htab : tableAt w) (hN : N ≤ w.heap.size) (hl : Vals w N lv l) (hhv : HdV w N hv h) (hs : Lists w N sv seeds)
    (hll : l.length < 2305843009213693952) (hok : ∀ v ∈ l, v.ok) (hf : h.fits) (hsl : seeds.length ≤ 35184372088832) (hsf : ∀ s ∈ seeds, s.length ≤ 140737488351232) :
    Calls Tryd.prog 4 #[lv, hv, sv] w fun e w' => e = .returned (.bool true) ∧ Below w.heap.size w w' := by
  have HL := hid hl
  have HV := hid hhv
  have HS := hid hs
  have HTAB := hid htab
  have HSF := hid hsf
  have HOK := hid hok
  obtain ⟨rv, vv, nv, rfl, h1, h2, h3⟩ := hhv
  obtain ⟨o1, c1, rfl, _⟩ := h1.shape
  obtain ⟨o2, c2, rfl, _⟩ := h2.shape
  obtain ⟨o3, c3, rfl, _⟩ := h3.shape
  obtain ⟨ol, cl, rfl, _⟩ := hl.shape
  obtain ⟨os, cs, rfl, _⟩ := hs.shape
  obtain ⟨w1, hw1⟩ : ∃ w1, w.alloc (.cells #[.string h.chain, .int .i64 h.height, .int .i64 h.time, .slice o1 h.root.length c1, .slice o2 h.vals.length c2, .slice o3 h.next.length c3] 25) = w1 := ⟨_, rfl⟩
  have HB1 := hid (show Below w.heap.size w w1 by rw [← hw1]; exact (Below.refl _ _).alloc (Nat.le_refl _) _)
  have HR1 := hid (show Row w1 w.heap.size 25 [.string h.chain, .int .i64 h.height, .int .i64 h.time, .slice o1 h.root.length c1, .slice o2 h.vals.length c2, .slice o3 h.next.length c3] by rw [← hw1]; exact Row.new _ _ _)
  have HAL := hid (hal w1 (htab.below HB1.out htab.lt))
  clear h1 h2 h3 hl hs htab hsf hok hal
  go_enter Tryd.func4, Tryd.ntmps4
  go_wp2_with fail
  refine HAL.out.mono ?_
  rintro e w2 ⟨rfl, hb2⟩
  have HB2 := hid (HB1.out.trans (hb2.mono HB1.out.size))
  have HR2 := hid (HR1.out.below hb2 HR1.out.lt)
  obtain ⟨k0, k1, k2, k3, k4, k5⟩ := HR2.out.six
  have HSA := hid (signC h l seeds _ _ _ N w2 (HTAB.out.below HB2.out HTAB.out.lt) (Nat.le_trans hN HB2.out.size) (HV.out.below (HB2.out.mono hN)) hf (HL.out.below (HB2.out.mono hN)) hll HOK.out (HS.out.below (HB2.out.mono hN)) hsl HSF.out)
  have HFIT := hid (signS_fitsA h l seeds hf HOK.out)
  clear hb2 HAL hw1
  generalize hSg : signS h l seeds = S at *
  have HSS := hid hSg
  clear hSg
  generalize htg : togetherN h l = tg at *
  have HTG := hid htg
  clear htg
  go_wp2_with fail
  refine HSA.out.mono ?_
  rintro e w3 ⟨va, rfl, hva, hb3⟩
  have HB3 := hid (HB2.out.trans (hb3.mono HB2.out.size))
  have HVA := hid hva
  obtain ⟨a1, a2, a3, a4, a5, rfl, x1, x2, x3, x4, x5⟩ := hva
  obtain ⟨q1, e1, rfl, _⟩ := x1.shape
  obtain ⟨q2, e2, rfl, _⟩ := x2.shape
  obtain ⟨q3, e3, rfl, _⟩ := x3.shape
  obtain ⟨q4, e4, rfl, _⟩ := x4.shape
  obtain ⟨q5, e5, rfl, _⟩ := x5.shape
  obtain ⟨w4, hw4⟩ : ∃ w4, w3.alloc (.cells #[.string S.hd.chain, .int .i64 S.hd.height, .int .i64 S.hd.time, .slice q1 S.hd.root.length e1, .slice q2 S.hd.vals.length e2, .slice q3 S.hd.next.length e3, .slice q4 S.vals.length e4, .slice q5 S.votes.length e5] 29) = w4 := ⟨_, rfl⟩
  have hb4 : Below w3.heap.size w3 w4 := by rw [← hw4]; exact (Below.refl _ _).alloc (Nat.le_refl _) _
  obtain ⟨ga, hga⟩ : ∃ ga, w3.heap.size = ga := ⟨_, rfl⟩
  have HA4 := hid (show Row w4 ga 29 [.string S.hd.chain, .int .i64 S.hd.height, .int .i64 S.hd.time, .slice q1 S.hd.root.length e1, .slice q2 S.hd.vals.length e2, .slice q3 S.hd.next.length e3, .slice q4 S.vals.length e4, .slice q5 S.votes.length e5] by rw [← hw4, ← hga]; exact Row.new _ _ _)
  have HB4 := hid (HB3.out.trans (hb4.mono HB3.out.size))
  have HVA4 := hid ((HVA.out.below hb4).mono hb4.size)
  clear hb3 x1 x2 x3 x4 x5 hb4 HSA k0 k1 k2 k3 k4 k5
  obtain ⟨k0, k1, k2, k3, k4, k5, k6, k7⟩ := HA4.out.eight
  by_cases hz : tg = 0
  · have ez : (tg != 0) = false := by simp [hz]
    have HTO := hid (togetherN_ok (HTG.out.trans hz))
    have HSE := hid (show S = ⟨h, l, votesOf seeds (bytesH h) l⟩ by rw [← HSS.out]; exact signS_ok (HTG.out.trans hz))
    have HCK := hid (show checkN S = if 3 * keyP seeds l ≤ 2 * allP l then 10 else 0 by rw [HSE.out, check_sign seeds (HTG.out.trans hz), yes_keys])
    have HVO := hid (valsN_ok HTO.out.2.1)
    have hl10 := HVO.out.2.1
    have HP := hid (fun v hv => (HVO.out.2.2.1 v hv).2)
    clear hz k0 k1 k2 k3 k4 k5 k6 k7
    obtain ⟨n, hn⟩ : ∃ n, l.length = n := ⟨_, rfl⟩
    obtain ⟨ns, hns⟩ : ∃ n, seeds.length = n := ⟨_, rfl⟩
    have HN := hid hn
    have HNS := hid hns
    rw [hn] at hl10 hll HL
    rw [hns] at hsl HS
    rw [hn, hns]
    clear hn hns
    go_wp2_with fail
    go_loopw [9, 10, 12, 14, 32] (fun s9 s10 _ _ i wr => ∃ k : Nat, k ≤ n ∧ i = .int .i64 (k : Int) ∧ s9 = .int .u64 (allP (l.take k) : Int) ∧ s10 = .int .u64 (keyP seeds (l.take k) : Int) ∧ Hid (Below w4.heap.size w4 wr)) (fun _ _ _ _ i _ => n - (intOf i).toNat)
    case atStart => exact ⟨0, by omega, rfl, rfl, rfl, hid (Below.refl _ _)⟩
    case round =>
      obtain ⟨k, hk, rfl, rfl, rfl, HT⟩ := hrel
      have hszr := HT.out.size
      have hpa : allP (l.take k) ≤ 10000000 := by
        have h1 := allP_le (l.take k) (fun v hv => HP.out v (List.mem_of_mem_take hv))
        have h2 : (l.take k).length ≤ 10 := by rw [List.length_take, HN.out]; omega
        omega
      have hps := keyP_le seeds (l.take k)
      by_cases hlt : k < n
      · obtain ⟨v, hv⟩ : ∃ v, l[k]? = some v := ⟨l[k]'(by rw [HN.out]; exact hlt), List.getElem?_eq_getElem _⟩
        obtain ⟨b, o, rfl, hcells⟩ := HL.out.spot (by omega)
        obtain ⟨hbN, d0, d1⟩ := hcells k v hv
        have HBr := hid (HB4.out.trans (HT.out.mono HB4.out.size))
        have hbl : b < w.heap.size := by omega
        have f0 := (HBr.out.cell (p := ⟨b, o + k * 2, none⟩) hbl).trans d0
        have f1 := (HBr.out.cell (p := ⟨b, o + k * 2 + 1, none⟩) hbl).trans d1
        have hlt' : (k : Int) < (n : Int) := by omega
        have hvp := HP.out v (List.mem_of_getElem? hv)
        obtain ⟨wo, hwo⟩ : ∃ wo, wr.alloc (.cells #[.int .u64 (v.key : Int), .int .u64 (v.power : Int)] 45) = wo := ⟨_, rfl⟩
        have hb2 : Below wr.heap.size wr wo := by rw [← hwo]; exact (Below.refl _ _).alloc (Nat.le_refl _) _
        have HB2 := hid (HT.out.trans (hb2.mono hszr))
        obtain ⟨gb, hgb⟩ : ∃ gb, wr.heap.size = gb := ⟨_, rfl⟩
        have hr2 : Row wo gb 45 [.int .u64 (v.key : Int), .int .u64 (v.power : Int)] := by rw [← hwo, ← hgb]; exact Row.new _ _ _
        have p1 := hr2.cell 1
        have HR2 := hid hr2
        have HA := hid (allP_take l k v hv)
        have HKT := hid (keyP_take seeds l k v hv)
        clear d0 d1 hcells hb2 hv hr2
        generalize allP (l.take k) = aa at *
        generalize keyP seeds (l.take k) = ss at *
        have hwa : IntKind.u64.wrap ((aa : Int) + (v.power : Int)) = ((aa + v.power : Nat) : Int) := w64_add aa v.power (by omega)
        have hws : IntKind.u64.wrap ((ss : Int) + (v.power : Int)) = ((ss + v.power : Nat) : Int) := w64_add ss v.power (by omega)
        have HWO := hid hwo
        have HGB := hid hgb
        clear hwo hgb
        go_wp2_with fail
        rw [HWO.out, HGB.out]
        go_wp2_with fail
        go_loopw [10, 14, 42] (fun s10 _ i wi => ∃ j : Nat, j ≤ ns ∧ i = .int .i64 (j : Int) ∧ s10 = .int .u64 (ss : Int) ∧ Hid (Below wo.heap.size wo wi ∧ ∀ i s, i < j → seeds[i]? = some s → keyN s ≠ v.key)) (fun _ _ i _ => ns - (intOf i).toNat)
        case atStart => exact ⟨0, by omega, rfl, rfl, hid ⟨Below.refl _ _, fun i s hi => by omega⟩⟩
        case round =>
          obtain ⟨j, hj, rfl, rfl, HI⟩ := hrel
          have hszi := HI.out.1.size
          have HBi4 := hid (HB2.out.trans (HI.out.1.mono HB2.out.size))
          have HBi := hid (HB4.out.trans (HBi4.out.mono HB4.out.size))
          by_cases hjs : j < ns
          · obtain ⟨s, hs⟩ : ∃ s, seeds[j]? = some s := ⟨seeds[j]'(by rw [HNS.out]; exact hjs), List.getElem?_eq_getElem _⟩
            obtain ⟨bs, o2, hos, hcells⟩ := Lists.some (show Lists w N (.slice os seeds.length cs) seeds by rw [HNS.out]; exact HS.out) (by rw [HNS.out]; omega)
            subst hos
            obtain ⟨hbN2, x, hx, hbx⟩ := hcells j (by rw [HNS.out]; exact hjs)
            have hgd : seeds.getD j [] = s := by simp [List.getD, hs]
            rw [hgd] at hbx
            have hbl2 : bs < w.heap.size := by omega
            have hxc := (HBi.out.cell (p := ⟨bs, o2 + j, none⟩) hbl2).trans hx
            obtain ⟨ox, cx, rfl, _⟩ := hbx.shape
            have HBX := hid (hbx.below (HBi.out.mono hN))
            have hsl2 := HSF.out s (List.mem_of_getElem? hs)
            have hlt2 : (j : Int) < (ns : Int) := by omega
            have HRi := hid (HR2.out.below HI.out.1 HR2.out.lt)
            have HSJ := hid hs
            clear hcells hx hbx hgd hs
            go_wp2_with fail
            refine votedRegion14 s v (.slice ox s.length cx) (Nat.le_trans hN HBi.out.size) HRi HBX hsl2 _ (hid ?_)
            intro σ w9 hb9 h4
            have HB9 := hid (HBi4.out.trans (hb9.mono HBi4.out.size))
            have HI9 := hid (HI.out.1.trans (hb9.mono HI.out.1.size))
            have p9 := (HRi.out.below hb9 HRi.out.lt).cell 1
            simp at p9
            by_cases hkey : keyN s = v.key
            · rw [h4, decide_eq_true hkey]
              have HHK := hid (hasKey_yes HSJ.out hkey)
              clear h4 hb9 hkey
              go_wp2_with fail
              go_roundw
              case rel => exact ⟨k + 1, by omega, by go_num, by rw [HA.out]; first | rfl | go_num, by rw [HKT.out, HHK.out]; simp, hid HB9.out⟩
              case measure => simp [intOf]; omega
            · rw [h4, decide_eq_false hkey]
              have HNK := hid hkey
              clear h4 hb9 hkey
              go_wp2_with fail
              go_roundw
              case rel => exact ⟨j + 1, by omega, by go_num, rfl, hid ⟨HI9.out, fun i t hi ht => by
                rcases Nat.lt_or_ge i j with h | h
                · exact HI.out.2 i t h ht
                · obtain rfl : i = j := by omega
                  rw [HSJ.out] at ht
                  obtain rfl : s = t := by simpa using ht
                  exact HNK.out⟩⟩
              case measure => simp [intOf]; omega
          · have hge : decide ((j : Int) < (ns : Int)) = false := by simp; omega
            have HHK := hid (hasKey_no (seeds := seeds) (k := v.key) (fun i s hi hs => HI.out.2 i s (by rw [HNS.out] at hi; omega) hs))
            go_wp2_with fail
            go_roundw
            case rel => exact ⟨k + 1, by omega, by go_num, by rw [HA.out]; first | rfl | go_num, by rw [HKT.out, HHK.out]; simp, hid HBi4.out⟩
            case measure => simp [intOf]; omega
      · have hge : decide ((k : Int) < (n : Int)) = false := by simp; omega
        have HK := hid (show l.take k = l from List.take_of_length_le (by rw [HN.out]; omega))
        rw [HK.out] at hpa hps
        rw [HK.out]
        generalize allP l = aa at *
        generalize keyP seeds l = yy at *
        have HBr := hid (HB4.out.trans (HT.out.mono HB4.out.size))
        have HA9 := hid (HA4.out.below HT.out HA4.out.lt)
        obtain ⟨k0, k1, k2, k3, k4, k5, k6, k7⟩ := HA9.out.eight
        have HC := hid (checkC S _ wr.heap.size wr (HTAB.out.below HBr.out HTAB.out.lt) (Nat.le_refl _) ((HVA4.out.below HT.out).mono hszr) HFIT.out)
        have hw3 : IntKind.u64.wrap (3 * (yy : Int)) = 3 * (yy : Int) := by simp [IntKind.wrap, IntKind.bits, IntKind.signed]; omega
        have hw2 : IntKind.u64.wrap (2 * (aa : Int)) = 2 * (aa : Int) := by simp [IntKind.wrap, IntKind.bits, IntKind.signed]; omega
        rw [HCK.out] at HC
        by_cases h3 : 3 * yy ≤ 2 * aa
        · have e3' : decide (2 * (aa : Int) < 3 * (yy : Int)) = false := by simp; omega
          rw [if_pos h3] at HC
          go_wp2_with fail
          refine HC.out.mono ?_
          rintro e wz ⟨rfl, hbz⟩
          have HBz := hid (HBr.out.trans (hbz.mono HBr.out.size))
          clear hbz
          go_wp2
          go_ret
          exact ⟨rfl, HBz.out⟩
        · have e3' : decide (2 * (aa : Int) < 3 * (yy : Int)) = true := by simp; omega
          rw [if_neg h3] at HC
          go_wp2_with fail
          refine HC.out.mono ?_
          rintro e wz ⟨rfl, hbz⟩
          have HBz := hid (HBr.out.trans (hbz.mono HBr.out.size))
          clear hbz
          go_wp2
          go_ret
          exact ⟨rfl, HBz.out⟩
  · have ez : (tg != 0) = true := by simp [hz]
    have hv0 : S.votes.length = 0 := by rw [← HSS.out, signS_no (fun e => hz (HTG.out.symm.trans e))]; rfl
    have ev : ((S.votes.length : Int) == 0) = true := by rw [hv0]; rfl
    clear hz hv0
    go_wp2
    go_ret
    exact ⟨rfl, HB4.out⟩
end Go.Proofs.YtfpngilmdgeikaaDoor
