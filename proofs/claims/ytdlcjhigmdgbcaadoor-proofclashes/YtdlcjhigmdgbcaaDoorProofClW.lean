/-
  What package proof's Clash answers: two unlike lists of bytes with one digest, just if a proof that is shown says of a book what is not so.
-/
import Derived.Test.YtdlcjhigmdgbcaaDoorProofUnl
import Derived.Test.YtdlcjhigmdgbcaaDoorProofAtW
import Derived.Test.YtdlcjhigmdgbcaaDoorBookRoots
namespace Go.Proofs.YtdlcjhigmdgbcaaDoor
open Go.RowKit

/-- two books of unlike sizes with one root -/
theorem clash_size {l : List Pr} {p : Prf} (hw : (wrongL l).1 = 0) (hs : shownB (rootD l) p) (hne : p.size ≠ (l.length : Int)) {y : List (BitVec 8)} (hy : (layP p)[0]? = some y) : clashB l p (2 :: (fourB l.length ++ treeD l)) y true := by
  have hl := (wrongL_sorted l hw).2.2
  have hy' : topX p.size.toNat (upD (wayP p) p.path.reverse (leafD p.key p.val)) = y := by simpa [layP] using hy
  obtain ⟨h1, h2, _, _, _, _, _, _, h9⟩ := id hs
  refine ⟨fun _ => ⟨?_, ?_, ?_, ?_⟩, fun _ => ⟨hw, hs, fun h => hne h.1⟩, fun _ => rfl⟩
  · rw [← hy']
    exact topX_unlike (by omega) (by omega) (by omega)
  · rw [← hy']
    exact h9.symm
  · have := treeD_len l
    simp [fourB]
    omega
  · have := layP_small hs y (List.mem_of_getElem? hy)
    omega
/-- nothing is shown, or what is shown is so -/
theorem clash_none {l : List Pr} {p : Prf} (h : (wrongL l).1 = 0 → shownB (rootD l) p → soB l p) : clashB l p [] [] false :=
  ⟨fun h => absurd h (by simp), fun h => absurd h (by simp), fun ⟨h1, h2, h3⟩ => absurd (h h1 h2) h3⟩
/-- the pair that stands at the place is another one -/
theorem clash_pair {l : List Pr} {p : Prf} (hw : (wrongL l).1 = 0) (hs : shownB (rootD l) p) (hz : p.size = (l.length : Int)) {q : Pr} (hq : l[p.index.toNat]? = some q) (hn : ¬(q.key = p.key ∧ q.val = p.val)) :
    (¬ ∀ j : Nat, j < (layP (proofAt l p.index.toNat q)).length → (layP (proofAt l p.index.toNat q))[j]? = (layP p)[j]?) ∧
    ∀ (i : Nat) (x y : List (BitVec 8)), (layP (proofAt l p.index.toNat q))[i]? = some x → (layP p)[i]? = some y → x ≠ y → (∀ j : Nat, j < i → (layP (proofAt l p.index.toNat q))[j]? = (layP p)[j]?) → clashB l p x y true := by
  obtain ⟨_, hft, hl⟩ := wrongL_sorted l hw
  have hsq := shown_at l _ q hq hft hl
  have hi : (proofAt l p.index.toNat q).index = p.index := by
    have := hs.2.2.1
    unfold proofAt
    simp
    omega
  have hsz : (proofAt l p.index.toNat q).size = p.size := hz.symm
  refine ⟨fun h => hn (layP_same hsq hs hi hsz h), fun i x y hx hy hne hj => ⟨fun _ => ⟨hne, layP_clash hsq hs hi hsz i x y hj hx hy, ?_, ?_⟩, fun _ => ⟨hw, hs, ?_⟩, fun _ => rfl⟩⟩
  · have := layP_small hsq x (List.mem_of_getElem? hx)
    omega
  · have := layP_small hs y (List.mem_of_getElem? hy)
    omega
  · rintro ⟨_, _, q', hq', h1, h2⟩
    rw [hq] at hq'
    obtain rfl := Option.some.inj hq'
    exact hn ⟨h1, h2⟩

/-- what a call of Clash leaves -/
def ClashOut (l : List Pr) (p : Prf) (w : World) (e : Ending) (w' : World) : Prop :=
  Below w.heap.size w w' ∧ ∃ o1 n1 c1 o2 n2 c2 ok a b, e = .returned (.tuple #[.slice o1 n1 c1, .slice o2 n2 c2, .bool ok]) ∧ Bytes w' w'.heap.size (.slice o1 n1 c1) a ∧ Bytes w' w'.heap.size (.slice o2 n2 c2) b ∧ clashB l p a b ok
theorem clashOut {l : List Pr} {p : Prf} {w w' : World} {o1 o2 : Option Addr} {n1 c1 n2 c2 : Nat} {ok : Bool} {a b : List (BitVec 8)} (h : Below w.heap.size w w') (ha : Bytes w' w'.heap.size (.slice o1 n1 c1) a) (hb : Bytes w' w'.heap.size (.slice o2 n2 c2) b) (hc : clashB l p a b ok) :
    ClashOut l p w (.returned (.tuple #[.slice o1 n1 c1, .slice o2 n2 c2, .bool ok])) w' := ⟨h, _, _, _, _, _, _, _, _, _, rfl, ha, hb, hc⟩
set_option maxRecDepth 100000 in
set_option maxHeartbeats 4000000 in
theorem clash_any (l : List Pr) (p : Prf) (sv v : Value) (N : Nat) (w : World) (hT : tableAt w) (hN : N ≤ w.heap.size) (hb : Pairs w N sv l) (hp : PrfV w N v p) (hlen : l.length < 2305843009213693952) (hfit : ∀ p ∈ l, p.fits) (hpf : p.fits) :
    Calls Tryd.prog 17 #[sv, v] w fun e w' => ClashOut l p w e w' := by
  obtain ⟨oa, ca, rfl, hca⟩ := hb.shape
  obtain ⟨kv, vv, pv, rfl, hk, hv, hpt⟩ := hp
  obtain ⟨o1, c1, rfl, _⟩ := hk.shape
  obtain ⟨o2, c2, rfl, _⟩ := hv.shape
  obtain ⟨o3, c3, rfl, _⟩ := hpt.shape
  obtain ⟨w0, hw0⟩ : ∃ w0, w.alloc (.cells #[.int .i64 p.index, .int .i64 p.size, .slice o1 p.key.length c1, .slice o2 p.val.length c2, .slice o3 p.path.length c3] 34) = w0 := ⟨_, rfl⟩
  have hsz0 : w0.heap.size = w.heap.size + 1 := by rw [← hw0]; simp
  have hb0 : Below w.heap.size w w0 := by rw [← hw0]; exact (Below.refl _ _).alloc (Nat.le_refl _) _
  have hrow0 : Row w0 w.heap.size 34 [.int .i64 p.index, .int .i64 p.size, .slice o1 p.key.length c1, .slice o2 p.val.length c2, .slice o3 p.path.length c3] := by rw [← hw0]; exact Row.new _ _ _
  have HC1 := hid (rootC l (.slice oa l.length ca) N w0 (hT.past hb0) (hb.below (hb0.mono hN)) (by omega) hlen hfit)
  obtain ⟨wc, hwc⟩ : ∃ wc, (wrongL l).1 = wc := ⟨_, rfl⟩
  obtain ⟨wi, hwi⟩ : ∃ wi, (wrongL l).2 = wi := ⟨_, rfl⟩
  rw [hwc, hwi] at HC1
  unfold faultV at HC1
  have HT := hid hT
  have HL := hid hb
  have HFP := hid hpf
  have HB0 := hid hb0
  have HR0 := hid hrow0
  have HPR := hid (show ∀ w', Below w.heap.size w w' → PrfV w' N (.agg #[.int .i64 p.index, .int .i64 p.size, .slice o1 p.key.length c1, .slice o2 p.val.length c2, .slice o3 p.path.length c3]) p from fun w' hw' => ⟨_, _, _, rfl, hk.below (hw'.mono hN), hv.below (hw'.mono hN), hpt.below (hw'.mono hN)⟩)
  have HWC := hid hwc
  clear hT hb hk hv hpt hfit hpf hb0 hrow0 hwi hwc
  go_enter Tryd.func17, Tryd.ntmps17
  go_wp2_with fail
  refine HC1.out.mono ?_
  rintro e w2 ⟨hb2, o4, n4, c4, rfl, hx2⟩
  have hsz2 := hb2.size
  obtain ⟨w3, hw3⟩ : ∃ w3, w2.alloc (.cells #[.int .i64 wc, .int .i64 (wi : Int)] 27) = w3 := ⟨_, rfl⟩
  have hsz3 : w3.heap.size = w2.heap.size + 1 := by rw [← hw3]; simp
  have hb23 : Below w2.heap.size w2 w3 := by rw [← hw3]; exact (Below.refl _ _).alloc (Nat.le_refl _) _
  have HB3 := hid (HB0.out.trans ((hb2.trans (hb23.mono (by omega))).mono (by omega)))
  have HR3 := hid (HR0.out.below (hb2.trans (hb23.mono (by omega))) (by omega))
  have HF3 := hid (show Row w3 w2.heap.size 27 [.int .i64 wc, .int .i64 (wi : Int)] by rw [← hw3]; exact Row.new _ _ _)
  have HX3 := hid (hx2.below hb23)
  have f0 := HF3.out.cell 0
  have q0 := HR3.out.cell 0
  have q1 := HR3.out.cell 1
  have q2 := HR3.out.cell 2
  have q3 := HR3.out.cell 3
  have q4 := HR3.out.cell 4
  clear hb2 hb23 hx2 HC1 hw0
  by_cases hwc0 : wc = 0
  · subst hwc0
    have hrl := rout_root l HWC.out
    rw [hrl] at HX3
    have HBK := hid (wrongL_sorted l HWC.out)
    have HSH := hid (shownC (rootD l) p (.slice o4 n4 c4) _ w2.heap.size w3 (HT.out.past HB3.out) (by omega) HX3.out ((HPR.out w3 HB3.out).mono (by omega)) HFP.out (by rw [rootD_len]; decide))
    clear hrl
    go_wp2_with fail
    clear hw3
    refine HSH.out.mono ?_
    rintro e w4 ⟨hb4, bb, rfl, hbb⟩
    have hsz4 := hb4.size
    have HB4 := hid (HB3.out.trans (hb4.mono (by omega)))
    have HR4 := hid (HR3.out.below hb4 (by omega))
    have HBB := hid hbb
    clear hb4 hbb f0 q0 q1 q2 q3 q4
    have q0 := HR4.out.cell 0
    have q1 := HR4.out.cell 1
    have q2 := HR4.out.cell 2
    have q3 := HR4.out.cell 3
    have q4 := HR4.out.cell 4
    cases bb with
    | false =>
      go_wp2_with fail
      refine bodyPost_ret (v := .tuple #[.slice none 0 0, .slice none 0 0, .bool false]) (by simp [results, Tryd.results17, go_sem]) rfl (clashOut (HB4.out) ((.inl ⟨rfl, rfl⟩ : Bytes _ _ (.slice none 0 0) [])) ((.inl ⟨rfl, rfl⟩ : Bytes _ _ (.slice none 0 0) [])) (clash_none fun _ h => absurd (HBB.out.2 h) (by simp)))
    | true =>
      have hs : shownB (rootD l) p := HBB.out.1 rfl
      have HS := hid hs
      obtain ⟨h1, h2, h3, h4, h5, h6, h7, h8, _⟩ := hs
      have HLA := hid (layers_any p _ N w4 (HT.out.past HB4.out) (by omega) (HPR.out w4 HB4.out) h1 h2 h3 h4 h5 h6 h7 h8)
      have HLEN := hid (layP_length p h7)
      have HP7 := hid h7
      have HPLE := hid (show p.path.length ≤ 8 by
        rw [h7]
        exact wayL_short 8 _ _ _ (by omega))
      obtain ⟨i, hi⟩ : ∃ i : Nat, p.index = (i : Int) := ⟨p.index.toNat, by omega⟩
      obtain ⟨n, hn⟩ : ∃ n : Nat, p.size = (n : Int) := ⟨p.size.toNat, by omega⟩
      have HIN := hid (show i < n ∧ n ≤ 200 ∧ p.index.toNat = i ∧ p.size = (n : Int) by omega)
      have HL2 := hid HBK.out.2.2
      have HI := hid hi
      have HNN := hid hn
      clear hi hn h1 h2 h3 h4 h5 h6 h7 h8 HSH HBB
      go_wp2_with fail
      refine HLA.out.mono ?_
      rintro e w5 ⟨hb5, lv, rfl, ho5⟩
      have hsz5 := hb5.size
      obtain ⟨o5, c5, hlv, _⟩ := ho5.shape
      rw [HLEN.out] at hlv
      subst hlv
      obtain ⟨y, hy0⟩ : ∃ y, (layP p)[0]? = some y := ⟨_, rfl⟩
      have HB5 := hid (HB4.out.trans (hb5.mono (by omega)))
      have HR5 := hid (HR4.out.below hb5 (by omega))
      have HBW := hid (show ∀ wx, Below w5.heap.size w5 wx → Below w.heap.size w wx from fun wx hx => HB5.out.trans (hx.mono (by omega)))
      have HRX := hid (show ∀ wx, Below w5.heap.size w5 wx → Row wx w.heap.size 34 [.int .i64 (i : Int), .int .i64 (n : Int), .slice o1 p.key.length c1, .slice o2 p.val.length c2, .slice o3 p.path.length c3] from fun wx hx => by
        rw [← HI.out, ← HNN.out]
        exact HR5.out.below hx (by omega))
      have HPR2 := hid (show ∀ w', Below w.heap.size w w' → PrfV w' N (.agg #[.int .i64 (i : Int), .int .i64 (n : Int), .slice o1 p.key.length c1, .slice o2 p.val.length c2, .slice o3 p.path.length c3]) p from by
        rw [← HI.out, ← HNN.out]
        exact HPR.out)
      have HO5 := hid ho5
      have HY0 := hid hy0
      have HB55 := hid (Below.refl w5.heap.size w5)
      have HBD := hid (show Below w5.heap.size w5 w5.drew from (Below.refl _ _).drew)
      clear hb5 ho5 hy0 HLA q0 q1 q2 q3 q4 HI HNN HPR HR4 HR3 HX3 HF3 HR0
      have q0 := (HRX.out w5 HB55.out).cell 0
      have q1 := (HRX.out w5 HB55.out).cell 1
      generalize hL : l.length = L at *
      have HLL := hid hL
      clear hL
      by_cases hz : n = L
      · subst hz
        obtain ⟨q, hq⟩ : ∃ q, l[i]? = some q := ⟨l[i]'(by rw [HLL.out]; exact HIN.out.1), List.getElem?_eq_getElem _⟩
        have HQ := hid hq
        obtain ⟨b, o, rfl, hcells⟩ := HL.out.some (by have := HIN.out.1; omega)
        obtain ⟨hbN, vk, vv, d0, d1, hvk, hvv⟩ := hcells i q hq
        obtain ⟨ok1, ck1, rfl, _⟩ := hvk.shape
        obtain ⟨ok2, ck2, rfl, _⟩ := hvv.shape
        have HDX := hid (show ∀ wx, Below w5.heap.size w5 wx → wx.cell? ⟨b, o + i * 2, none⟩ = some (.slice ok1 q.key.length ck1) ∧ wx.cell? ⟨b, o + i * 2 + 1, none⟩ = some (.slice ok2 q.val.length ck2) from fun wx hx =>
          ⟨((HBW.out wx hx).cell (p := ⟨b, o + i * 2, none⟩) (show b < w.heap.size by omega)).trans d0, ((HBW.out wx hx).cell (p := ⟨b, o + i * 2 + 1, none⟩) (show b < w.heap.size by omega)).trans d1⟩)
        have HWD := hid (HBW.out _ HBD.out)
        have HSP := hid (samePair_any q p (.slice ok1 q.key.length ck1) (.slice ok2 q.val.length ck2) (.agg #[.int .i64 (i : Int), .int .i64 (n : Int), .slice o1 p.key.length c1, .slice o2 p.val.length c2, .slice o3 p.path.length c3]) N w5.drew (Nat.le_trans hN HWD.out.size) (hvk.below (HWD.out.mono hN)) (hvv.below (HWD.out.mono hN)) (HPR2.out w5.drew HWD.out))
        have hsq := shown_at l i q hq HBK.out.2.1 (by rw [HLL.out]; exact HL2.out)
        have HSQ := hid hsq
        have HPA := hid (show ∀ wx, Below w5.heap.size w5 wx → _ from fun wx hx => proofAt_any l i q (.slice (some ⟨b, o, none⟩) n ca) N wx (HT.out.past (HBW.out wx hx)) (Nat.le_trans hN (HBW.out wx hx).size) (HL.out.below ((HBW.out wx hx).mono hN)) hq HBK.out.2.1 (by rw [HLL.out]; exact HL2.out))
        rw [HLL.out] at HPA
        have s0 := (HRX.out _ HBD.out).cell 0
        have s1 := (HRX.out _ HBD.out).cell 1
        have s2 := (HRX.out _ HBD.out).cell 2
        have s3 := (HRX.out _ HBD.out).cell 3
        have s4 := (HRX.out _ HBD.out).cell 4
        have s5 := HDX.out _ HBD.out
        have e1 : ((n : Int) != (n : Int)) = false := by simp
        have hin : (i : Int) < (n : Int) := by have := HIN.out.1; omega
        clear hcells hvk hvv d0 d1 hq hsq
        go_wp2_with fail
        go_region_with (go_at_call 35; refine HSP.out.mono ?_; rintro e w6 ⟨hb6, bb, rfl, hbb⟩; have HB6 := hid (HBD.out.trans hb6); have HBB := hid hbb; clear hb6 hbb)
        all_goals
          clear q0 q1 s0 s1 s2 s3 s4 s5
          have HB06 := hid (HBW.out w6 HB6.out)
          cases bb with
          | true =>
            have HKV := hid (HBB.out.1 rfl)
            go_wp2_with fail
            refine bodyPost_ret (v := .tuple #[.slice none 0 0, .slice none 0 0, .bool false]) (by simp [results, Tryd.results17, go_sem]) rfl (clashOut (HB06.out) ((.inl ⟨rfl, rfl⟩ : Bytes _ _ (.slice none 0 0) [])) ((.inl ⟨rfl, rfl⟩ : Bytes _ _ (.slice none 0 0) [])) (clash_none fun _ _ => ⟨by rw [HLL.out]; exact HIN.out.2.2.2, HS.out.2.2.1, q, by rw [HIN.out.2.2.1]; exact HQ.out, HKV.out.1, HKV.out.2⟩))
          | false =>
            have HCP := hid (clash_pair HWC.out HS.out (by rw [HLL.out]; exact HIN.out.2.2.2) (q := q) (by rw [HIN.out.2.2.1]; exact HQ.out) (fun h => absurd (HBB.out.2 h) (by simp)))
            rw [HIN.out.2.2.1] at HCP
            have q0 := (HRX.out w6 HB6.out).cell 0
            go_wp2_with fail
            refine (HPA.out w6 HB6.out).mono ?_
            rintro e w7 ⟨hb7, a1, n1, b1, a2, n2, b2, a3, n3, b3, rfl, hk7, hv7, hp7⟩
            have HB7 := hid (HB6.out.trans (hb7.mono HB6.out.size))
            have HLB := hid (layers_any (proofAt l i q) (.agg #[.int .i64 (i : Int), .int .i64 (n : Int), .slice a1 n1 b1, .slice a2 n2 b2, .slice a3 n3 b3]) w7.heap.size w7 (HT.out.past (HBW.out w7 HB7.out)) (Nat.le_refl _) ⟨_, _, _, by rw [← HLL.out]; rfl, hk7.bytes, hv7.bytes, hp7.lists⟩
              HSQ.out.1 HSQ.out.2.1 HSQ.out.2.2.1 HSQ.out.2.2.2.1 HSQ.out.2.2.2.2.1 HSQ.out.2.2.2.2.2.1 HSQ.out.2.2.2.2.2.2.1 HSQ.out.2.2.2.2.2.2.2.1)
            clear hb7 hk7 hv7 hp7 q0
            go_wp2_with fail
            refine HLB.out.mono ?_
            rintro e w8 ⟨hb8, lv8, rfl, ho8⟩
            have HB8 := hid (HB7.out.trans (hb8.mono HB7.out.size))
            have hpe : (proofAt l i q).path.length = p.path.length := by
              rw [HSQ.out.2.2.2.2.2.2.1, HP7.out, HIN.out.2.2.1, HIN.out.2.2.2]
              show (wayL i (l.length : Int).toNat 0).length = _
              rw [HLL.out]
            have HFU := hid (firstUnlike_any (layP (proofAt l i q)) (layP p) lv8 (.slice o5 (p.path.length + 2) c5) w8.heap.size w8 (Nat.le_refl _) ho8.lists (HO5.out.below HB8.out).lists (by rw [HLEN.out, layP_length _ HSQ.out.2.2.2.2.2.2.1, hpe]) (by rw [layP_length _ HSQ.out.2.2.2.2.2.2.1, hpe]; have := HPLE.out; omega))
            clear hb8 ho8 hpe
            go_wp2_with fail
            refine HFU.out.mono ?_
            rintro e w9 ⟨hb9, ⟨rfl, hall⟩ | ⟨j, x, z, a4, m4, b4, a5, m5, b5, hx, hzz, hne, hj, rfl, hbx, hby⟩⟩
            · exact absurd hall HCP.out.1
            · have HR9 := hid (HCP.out.2 j x z hx hzz hne hj)
              have HBX := hid (hbx.mono hb9.size)
              have HBY := hid (hby.mono hb9.size)
              have HB9 := hid (HB8.out.trans (hb9.mono HB8.out.size))
              clear hx hzz hne hj hbx hby hb9
              go_wp2_with fail
              refine bodyPost_ret (v := .tuple #[.slice a4 m4 b4, .slice a5 m5 b5, .bool true]) (by simp [results, Tryd.results17, go_sem]) rfl (clashOut (HBW.out _ HB9.out) (HBX.out) (HBY.out) (HR9.out))
      · have e1 : ((n : Int) != (L : Int)) = true := by simp; omega
        have HCS := hid (clash_size HWC.out HS.out (by rw [HLL.out, HIN.out.2.2.2]; omega) HY0.out)
        rw [HLL.out] at HCS
        obtain ⟨g, yv, hg, hyc, hown⟩ := HO5.out.get 0 y HY0.out
        subst hg
        obtain ⟨o6, c6, rfl, _⟩ := hown.shape
        have hgl : g < w5.heap.size := by
          have hll := HO5.out.lists
          rw [← HLEN.out] at hll
          obtain ⟨b', o', hbo, hc⟩ := hll.some (by rw [HLEN.out]; omega)
          have h := (hc 0 (by rw [HLEN.out]; omega)).1
          simp at hbo
          omega
        obtain ⟨ps, hps, hsrc, hok⟩ := pairs_src HL.out
        have HTR := hid (show ∀ wx, Below w5.heap.size w5 wx → Calls Tryd.prog 26 #[.slice oa L ca] wx (fun e w' => ∃ oa nv cap, e = .returned (.slice oa nv cap) ∧ OwnB w' wx.heap.size (.slice oa nv cap) (treeD l) ∧ Below wx.heap.size wx w') from fun wx hx => by
          have hB := HBW.out wx hx
          have hpl : ps.length = L := by rw [← HLL.out, ← hps]; simp
          have h := tree_any ps.length ps (.slice oa L ca) N N wx (Nat.le_refl _) (HT.out.past hB) (Nat.le_trans hN hB.size) (Nat.le_trans hN hB.size) (hsrc.below (hB.mono hN)) (fun q hq => (hok q hq).below (hB.mono hN)) (fun q hq => by
            have := HBK.out.2.1 q.p (by rw [← hps]; exact List.mem_map_of_mem hq)
            exact ⟨by omega, by omega⟩) (by have := HL2.out; omega)
          rw [hps] at h
          exact h)
        have HYC := hid (show ∀ wx, Below w5.heap.size w5 wx → wx.cell? ⟨g, 0, none⟩ = some (.slice o6 y.length c6) from fun wx hx => (hx.cell (p := ⟨g, 0, none⟩) hgl).trans hyc)
        have HYB := hid (show ∀ wx, Below w5.heap.size w5 wx → Bytes wx wx.heap.size (.slice o6 y.length c6) y from fun wx hx => (hown.below hx).bytes)
        have s0 := HYC.out _ HB55.out
        have s1 := HYC.out _ HBD.out
        have e2 : (0 : Int) < (p.path.length : Int) + 2 := by omega
        clear hps hsrc hok hyc hown
        generalize y.length = ny at *
        go_wp2_with fail
        go_region_held3 (fun W => W.cell? ⟨g, 0, none⟩ = some (.slice o6 ny c6)) (first | assumption) (first
          | (go_at_call 26; refine (HTR.out _ HBD.out).mono ?_; rintro e w6 ⟨o7, n7, c7, rfl, hown7, hb7⟩; have HB6 := hid (HBD.out.trans hb7); have HBK6 := hid (bookBytes_any L (treeD l) (.slice o7 n7 c7) w6.heap.size w6 (Nat.le_refl _) hown7.bytes (by have := HL2.out; omega) (by have := treeD_len l; omega)); have s6 := HYC.out _ HB6.out; clear hown7 hb7)
          | (go_at_call 25; refine HBK6.out.mono ?_; rintro e w8 ⟨o8, n8, c8, rfl, hown8, hb8⟩; have HB8 := hid (HB6.out.trans (hb8.mono HB6.out.size)); have HO8 := hid hown8; have s8 := HYC.out _ HB8.out; clear hown8 hb8))
        all_goals
          go_wp2_with fail
          refine bodyPost_ret (v := .tuple #[.slice o8 n8 c8, .slice o6 ny c6, .bool true]) (by simp [results, Tryd.results17, go_sem]) rfl (clashOut (HBW.out _ HB8.out) (HO8.out.bytes) (HYB.out _ HB8.out) (HCS.out))
  · have e1 : (wc != 0) = true := by simpa using hwc0
    go_wp2_with fail
    refine bodyPost_ret (v := .tuple #[.slice none 0 0, .slice none 0 0, .bool false]) (by simp [results, Tryd.results17, go_sem]) rfl (clashOut (HB3.out) ((.inl ⟨rfl, rfl⟩ : Bytes _ _ (.slice none 0 0) [])) ((.inl ⟨rfl, rfl⟩ : Bytes _ _ (.slice none 0 0) [])) (clash_none fun h => absurd (HWC.out.symm.trans h) hwc0))
theorem clashC : ClashC 17 := fun l p sv v N w hT hN hb hp hlen hfit hpf => clash_any l p sv v N w hT hN hb hp hlen hfit hpf
end Go.Proofs.YtdlcjhigmdgbcaaDoor
