/-
  BankTells: the walk.
-/
import Derived.Test.YtnoaohlajllngaaDoortlBkTellsC
namespace Go.Proofs.YtnoaohlajllngaaDoor
open Go.RowKit

theorem fbox8 {P : Program} {c : Code} {Q : Exit → Act → World → Prop} {a : Act} {w : World} {t0 : TypeId} {c0 : List Value} {t1 : TypeId} {c1 : List Value} {t2 : TypeId} {c2 : List Value} {t3 : TypeId} {c3 : List Value} {t4 : TypeId} {c4 : List Value} {t5 : TypeId} {c5 : List Value} {t6 : TypeId} {c6 : List Value} {t7 : TypeId} {c7 : List Value} (h : ∀ w0, Fr w [(w.heap.size, t0, c0), (w.heap.size + 1, t1, c1), (w.heap.size + 1 + 1, t2, c2), (w.heap.size + 1 + 1 + 1, t3, c3), (w.heap.size + 1 + 1 + 1 + 1, t4, c4), (w.heap.size + 1 + 1 + 1 + 1 + 1, t5, c5), (w.heap.size + 1 + 1 + 1 + 1 + 1 + 1, t6, c6), (w.heap.size + 1 + 1 + 1 + 1 + 1 + 1 + 1, t7, c7)] w0 → w.heap.size + 8 ≤ w0.heap.size → c.wp P Q a w0) : c.wp P Q a ((((((((w.alloc (.cells c0.toArray t0)).alloc (.cells c1.toArray t1)).alloc (.cells c2.toArray t2)).alloc (.cells c3.toArray t3)).alloc (.cells c4.toArray t4)).alloc (.cells c5.toArray t5)).alloc (.cells c6.toArray t6)).alloc (.cells c7.toArray t7)) :=
  h _ (((((((((Fr.nil w).addAt rfl).addAt (by simp)).addAt (by simp)).addAt (by simp)).addAt (by simp)).addAt (by simp)).addAt (by simp)).addAt (by simp)) (by simp)
set_option maxRecDepth 100000 in
set_option maxHeartbeats 4000000 in
theorem bankTells_any (l : List Pu) (o r d : ByteArray) (n : Nat) (z y : Int) (t : Tr) (b : List (BitVec 8)) (sv bv : Value) (N : Nat) (w : World) (hp : powAt w) (hN : N ≤ w.heap.size) (hl : Many PuR 3 w N sv l) (hf : ∀ p ∈ l, p.fits) (hlen : l.length < 2305843009213693952) (hn : n < 18446744073709551616) (ht : t.fits) (hz : z ≤ 9223372036854775807) (hy : y ≤ 9223372036854775807) (hb : Bytes w N bv b) (hbl : b.length ≤ 140737488351232) (_hd : d.size ≤ 140737488351232) :
    Calls Tryd.prog 3 #[sv, .string o, .string r, .string d, .int .u64 (n : Int), .int .i64 z, .int .i64 y, .agg #[.string t.denom, .int .u64 (t.amount : Int), .string t.sender, .string t.reader], bv] w fun e w' => e = .returned (.bool true) ∧ Below w.heap.size w w' := by
  have HP := hid (fun W (h : Below w.heap.size w W) => hp.below h)
  have HLL := hid (fun W (h : Below w.heap.size w W) => And.intro (Nat.le_trans hN h.size) (hl.below PuR.stays (h.mono hN)))
  have HR12 := hid (fun W (h : Below w.heap.size w W) => right12 l sv N W (Nat.le_trans hN h.size) (hl.below PuR.stays (h.mono hN)) hf hlen)
  have HPA := hid (fun W (h : Below w.heap.size w W) => parse_any b bv N W (hb.below (h.mono hN)) (Nat.le_trans hN h.size) (by omega))
  have HPB := hid (fun W (h : Below w.heap.size w W) => rparse_any b bv N W (hb.below (h.mono hN)) (Nat.le_trans hN h.size) (by omega))
  have HBA := hid (fun W => (bytesT_any t W ht).mono (R' := fun e W' => ∃ v, e = .returned v ∧ Below W.heap.size W W' ∧ ByB (bytesT t) v W') (by rintro e W' ⟨hb, v, rfl, h⟩; obtain ⟨o, c, rfl, -⟩ := h.shape; exact ⟨_, rfl, hb, o, _, c, rfl, h⟩))
  have HBB := hid (fun W => (rbytesT_any t W ht).mono (R' := fun e W' => ∃ v, e = .returned v ∧ Below W.heap.size W W' ∧ ByB (bytesT t) v W') (by rintro e W' ⟨hb, v, rfl, h⟩; obtain ⟨o, c, rfl, -⟩ := h.shape; exact ⟨_, rfl, hb, o, _, c, rfl, h⟩))
  have HFI := hid hf
  have HLE := hid hlen
  have hta := ht.2.1
  have htd := ht.1
  have HRI := hid (rightB_iff (l := l) fun p hp => (hf p hp).2.2)
  obtain ⟨oa, ca, rfl, -⟩ := hl.shape
  obtain ⟨ob, cb, rfl, -⟩ := hb.shape
  clear hl hb hp hf hlen hbl ht _hd
  generalize hm : l.length = m at *
  have HM := hid hm
  clear hm
  generalize b.length = bl at *
  generalize parseE b = pe at *
  generalize parseT b = x at *
  unfold trV at *
  go_enter Tryd.func3, Tryd.ntmps3
  go_upto_region 1 with fail
  refine fbox8 ?_
  intro w0 F0 hs0
  clear hs0
  go_wp2_with fail
  refine (HPA.out w0 F0.b).mono ?_
  rintro e w1 ⟨rfl, hb1⟩
  have F1 := F0.go hb1
  clear hb1 F0
  go_upto_region 2 with fail
  refine F1.box ?_
  intro w2 F2 hs2 hb2
  clear hs2 hb2 F1
  go_wp2_with fail
  refine (HPB.out w2 F2.b).mono ?_
  rintro e w3 ⟨rfl, hb3⟩
  have F3 := F2.go hb3
  clear hb3 F2
  go_upto_region 3 with fail
  refine F3.box ?_
  intro w4 F4 hs4 hb4
  clear hs4 hb4 F3
  have HF4 := hid (fun W (hb : Below w4.heap.size w4 W) => F4.go hb)
  have hq := neqTr2 x
  clear F4
  apply region_go (by kernel_rfl) (fun W hb => And.intro (HF4.out W hb).r7.k4 (And.intro (HF4.out W hb).r8.k4 (HF4.out W hb).r9.k4)) (by kernel_rfl)
  · intro σ; simp [slotAll]; exact rfl
  iterate 4 (apply RK.val rfl; · intro σ W hb hc ⟨hd, hu⟩; simp [Fresh, Region.binds] at hd hu; go_simp; exact rfl)
  iterate 3 (apply RK.valW; · intro σ W hb hc ⟨hd, hu⟩; simp [Fresh, Region.binds] at hd hu; refine ⟨by simp [Region.wanted, yielded, *], ?_⟩; go_simp; exact rfl)
  iterate 2 (apply RK.val rfl; · intro σ W hb hc ⟨hd, hu⟩; simp [Fresh, Region.binds] at hd hu; go_simp; exact rfl)
  iterate 1 (apply RK.valW; · intro σ W hb hc ⟨hd, hu⟩; simp [Fresh, Region.binds] at hd hu; refine ⟨by simp [Region.wanted, yielded, *], ?_⟩; go_simp; exact rfl)
  apply RK.callGW (ByB (bytesT t)) (ByB.stay _)
  · intro σ W hb hc ⟨hd, hu⟩; simp [Fresh, Region.binds] at hd hu; exact ⟨by simp [Region.wanted, yielded, *], _, _, by go_simp <;> first | exact rfl | exact ⟨rfl, rfl⟩, HBA.out W⟩
  apply RK.valW
  · intro σ W hb hc ⟨hd, hu⟩; simp [Fresh, Region.binds] at hd hu
    obtain ⟨⟨o', n', c', e, h⟩, hgd⟩ := hd
    have q := conv_str h
    clear h
    refine ⟨by simp [Region.wanted, yielded, *], ?_⟩
    go_simp
    exact rfl
  iterate 1 (apply RK.valW; · intro σ W hb hc ⟨hd, hu⟩; simp [Fresh, Region.binds] at hd hu; refine ⟨by simp [Region.wanted, yielded, *], ?_⟩; go_simp; exact rfl)
  apply RK.callGW (ByB (bytesT t)) (ByB.stay _)
  · intro σ W hb hc ⟨hd, hu⟩; simp [Fresh, Region.binds] at hd hu; exact ⟨by simp [Region.wanted, yielded, *], _, _, by go_simp <;> first | exact rfl | exact ⟨rfl, rfl⟩, HBB.out W⟩
  apply RK.valW
  · intro σ W hb hc ⟨hd, hu⟩; simp [Fresh, Region.binds] at hd hu
    obtain ⟨⟨o', n', c', e, h⟩, hgd⟩ := hd
    have q := conv_str h
    clear h
    refine ⟨by simp [Region.wanted, yielded, *], ?_⟩
    go_simp
    exact rfl
  iterate 1 (apply RK.valW; · intro σ W hb hc ⟨hd, hu⟩; simp [Fresh, Region.binds] at hd hu; refine ⟨by simp [Region.wanted, yielded, *], ?_⟩; go_simp; exact rfl)
  apply RK.val rfl
  · intro σ W hb hc ⟨hd, hu⟩; simp [Fresh, Region.binds] at hd hu; go_simp; exact rfl
  intro σ W hb _
  simp only [AllF, List.nil_append, List.cons_append, Nat.reduceAdd]
  intro hF
  obtain ⟨-, -, -, -, -, -, -, -, -, -, -, -, -, -, -, -, e16, -⟩ := hF
  simp only [e16]
  have HB4 := hid hb
  have F5 := HF4.out W hb
  have k0 := F5.r0.k1
  clear hb e16 hq
  by_cases hrt : rightB l = false
  · have HC5 := hid (HR12.out W F5.b)
    have HBZ := hid F5.b
    rw [hrt] at HC5
    clear F5
    go_wp2_with fail
    refine HC5.out.mono ?_
    rintro e w6 ⟨rfl, hb6⟩
    have HB6 := hid (HBZ.out.trans (hb6.mono HBZ.out.size))
    clear hb6
    go_wp2
    go_ret
    exact ⟨rfl, HB6.out⟩
  have hrt' : rightB l = true := by simpa using hrt
  have HRU0 := HRI.out.1 hrt'
  have HC5 := hid (HR12.out W F5.b)
  rw [hrt'] at HC5
  clear hrt hrt'
  go_wp2_with fail
  refine HC5.out.mono ?_
  rintro e w6 ⟨rfl, hb6⟩
  have F6 := F5.go hb6
  have HB6 := hid (HB4.out.trans (hb6.mono HB4.out.size))
  clear hb6 F5 k0 HC5
  have HBZ := hid F6.b
  have k5 := F6.r5.k1
  have k6 := F6.r6.k1
  clear F6
  by_cases hz0 : z < 0
  · have q1 : decide (z < 0) = true := by simpa using hz0
    go_wp2
    go_ret
    exact ⟨rfl, HBZ.out⟩
  have q1 : decide (z < 0) = false := by simpa using hz0
  by_cases hy0 : y < 0
  · have q2 : decide (y < 0) = true := by simpa using hy0
    go_wp2
    go_ret
    exact ⟨rfl, HBZ.out⟩
  have q2 : decide (y < 0) = false := by simpa using hy0
  obtain ⟨ch, rfl⟩ : ∃ ch : Nat, z = (ch : Int) := ⟨z.toNat, by omega⟩
  obtain ⟨ot, rfl⟩ : ∃ ot : Nat, y = (ot : Int) := ⟨y.toNat, by omega⟩
  have hch : ch ≤ 9223372036854775807 := by omega
  have hot : ot ≤ 9223372036854775807 := by omega
  have HRU := hid (And.intro HRU0.2 (show l.length ≤ 60 by have := HRU0.1; have := HM.out; omega))
  have HSA := hid (fun W (h : Below w.heap.size w W) => supply_any l d (.slice oa m ca) N W (HLL.out W h).1 (HLL.out W h).2 (fun p hp => (HFI.out p hp).2.2) (by have := HM.out; have := HLE.out; omega))
  have HSB := hid (fun W (h : Below w.heap.size w W) => rsupply_any l d (.slice oa m ca) N W (HLL.out W h).1 (HLL.out W h).2 (fun p hp => (HFI.out p hp).2.2) (by have := HM.out; have := HLE.out; omega))
  have HAA := hid (fun W (h : Below w.heap.size w W) => amount_any l o d (.slice oa m ca) N W (HLL.out W h).1 (HLL.out W h).2 HRU.out.1.sort (by have := HRU.out.2; omega))
  have HAB := hid (fun W (h : Below w.heap.size w W) => ramount_any l o d (.slice oa m ca) N W (HLL.out W h).1 (HLL.out W h).2 HRU.out.1.sort (by have := HRU.out.2; omega))
  obtain ⟨pn, pb, hsu⟩ : ∃ (pn : Int) (pb : Bool), supE l d = .tuple #[.int .u64 pn, .bool pb] := ⟨_, _, rfl⟩
  rw [hsu] at HSA HSB
  generalize (amtU l o d : Int) = am at *
  have HF := hid (fun W (hb : Below w6.heap.size w6 W) => HF4.out W (HB6.out.trans (hb.mono HB6.out.size)))
  clear hsu HBZ HRU0 HF4 HB6 HB4 HPA HPB HBA HBB HR12 hz0 hy0 hz hy
  go_upto_region 7 with fail
  clear k5 k6 q1 q2
  have k0 := (HF.out w6 (Below.refl _ _)).r0.k1
  have k3 := (HF.out w6 (Below.refl _ _)).r3.k1
  go_wp2_with fail
  refine (HSA.out w6 (HF.out w6 (Below.refl _ _)).b).mono ?_
  rintro e w7 ⟨rfl, hb7⟩
  have HB7 := hid hb7
  clear k0 k3 hb7
  have k0 := (HF.out w7 HB7.out).r0.k1
  have k3 := (HF.out w7 HB7.out).r3.k1
  go_wp2_with fail
  refine (HSB.out w7 (HF.out w7 HB7.out).b).mono ?_
  rintro e w8 ⟨rfl, hb8⟩
  have HB8 := hid (HB7.out.trans (hb8.mono HB7.out.size))
  clear k0 k3 hb8 HB7
  go_upto_region 9 with fail
  apply region_go (by kernel_rfl) (fun W hb => And.intro (HF.out W (HB8.out.trans (hb.mono HB8.out.size))).r0.k1 (And.intro (HF.out W (HB8.out.trans (hb.mono HB8.out.size))).r1.k1 (HF.out W (HB8.out.trans (hb.mono HB8.out.size))).r3.k1)) (by kernel_rfl)
  · intro σ; simp [slotAll]; exact rfl
  iterate 3 (apply RK.val rfl; · intro σ W hb hc ⟨hd, hu⟩; simp [Fresh, Region.binds] at hd hu; go_simp; exact rfl)
  apply RK.callV rfl
  · intro σ W hb hc ⟨hd, hu⟩; simp [Fresh, Region.binds] at hd hu; go_simp; exact ⟨rfl, rfl⟩
  · intro W hb _; exact HAA.out W (HF.out W (HB8.out.trans (hb.mono HB8.out.size))).b
  iterate 3 (apply RK.val rfl; · intro σ W hb hc ⟨hd, hu⟩; simp [Fresh, Region.binds] at hd hu; go_simp; exact rfl)
  apply RK.callV rfl
  · intro σ W hb hc ⟨hd, hu⟩; simp [Fresh, Region.binds] at hd hu; go_simp; exact ⟨rfl, rfl⟩
  · intro W hb _; exact HAB.out W (HF.out W (HB8.out.trans (hb.mono HB8.out.size))).b
  iterate 2 (apply RK.val rfl; · intro σ W hb hc ⟨hd, hu⟩; simp [Fresh, Region.binds] at hd hu; go_simp; exact rfl)
  iterate 3 (apply RK.valW; · intro σ W hb hc ⟨hd, hu⟩; simp [Fresh, Region.binds] at hd hu; refine ⟨by simp [Region.wanted, yielded, *], ?_⟩; go_simp; exact rfl)
  iterate 2 (apply RK.val rfl; · intro σ W hb hc ⟨hd, hu⟩; simp [Fresh, Region.binds] at hd hu; go_simp; exact rfl)
  iterate 3 (apply RK.valW; · intro σ W hb hc ⟨hd, hu⟩; simp [Fresh, Region.binds] at hd hu; refine ⟨by simp [Region.wanted, yielded, *], ?_⟩; go_simp; exact rfl)
  apply RK.val rfl
  · intro σ W hb hc ⟨hd, hu⟩; simp [Fresh, Region.binds] at hd hu; go_simp; exact rfl
  intro σ W hb _
  simp only [AllF, List.nil_append, List.cons_append, Nat.reduceAdd]
  intro hF
  obtain ⟨-, -, -, -, -, -, -, -, -, -, -, -, -, -, -, -, -, -, e18, -⟩ := hF
  simp only [e18]
  have HB9 := hid (HB8.out.trans (hb.mono HB8.out.size))
  clear hb e18 HB8 HSA HSB HAA HAB
  go_wp2_with fail
  refine boxK ?_
  intro w9 hr9 hb9
  have HBX := hid (HB9.out.trans (hb9.mono HB9.out.size))
  have HFS := hid (fun W' (hb : Below w9.heap.size w9 W') => hr9.below hb hr9.lt)
  have HFX := hid (fun W' (hb : Below w9.heap.size w9 W') => HF.out W' (HBX.out.trans (hb.mono HBX.out.size)))
  clear hr9 hb9 HF HB9 HBX
  have HF := hid HFX.out
  clear HFX
  go_loopw [110] (fun s110 wr => ∃ k : Nat, k ≤ 6 ∧ s110 = .int .i64 k ∧ Hid (Below w9.heap.size w9 wr)) (fun s110 _ => 6 - (intOf s110).toNat)
  case atStart => exact ⟨0, by omega, rfl, Below.refl _ _⟩
  case round =>
    obtain ⟨k, hk, rfl, HBW⟩ := hrel
    by_cases hlt : k < 6
    · rcases (show k = 0 ∨ k = 1 ∨ k = 2 ∨ k = 3 ∨ k = 4 ∨ k = 5 by omega) with rfl | rfl | rfl | rfl | rfl | rfl
      · have F1 := HF.out wr HBW.out
        have k0 := (F1).r0.k1
        have k1 := (F1).r1.k1
        have k3 := (F1).r3.k1
        have k4 := (F1).r4.k1
        have kf := (HFS.out wr HBW.out).cell 0
        have HC1 := hid (tc1 oa m ca o d n _ _ _ _ wr (mintE l o d n) (mintL l o d n) k0 k1 k3 k4 (mint_any l o d n _ N wr (HLL.out wr F1.b).1 (HLL.out wr F1.b).2 HRU.out.1 HRU.out.2 hn))
        have HLN := hid (show (mintL l o d n).length ≤ 1000 by have := mintL_len l o d n; have := HRU.out.2; omega)
        generalize hE : mintE l o d n = E at *
        generalize hL : mintL l o d n = L at *
        clear k0 k1 k3 k4
        clear F1
        simp only [List.getElem?_cons_zero] at kf
        go_wp2_with fail
        refine HC1.out.mono ?_
        rintro e w3 ⟨hb3, v3, rfl, hv3⟩
        have HB3 := hid (HBW.out.trans (hb3.mono HBW.out.size))
        have HV3 := hid hv3
        obtain ⟨o3, c3, rfl, -⟩ := hv3.shape
        clear hb3 hv3 kf HC1
        have F3 := HF.out w3 HB3.out
        have HC3 := hid (rmint_any l o d n _ N w3 (HLL.out w3 F3.b).1 (HLL.out w3 F3.b).2 HRU.out.1 HRU.out.2 hn)
        have k0 := (F3).r0.k1
        have k1 := (F3).r1.k1
        have k3 := (F3).r3.k1
        have k4 := (F3).r4.k1
        clear F3
        rw [hE, hL] at HC3
        clear hL hE
        generalize hll : L.length = ll at *
        have HQL := hid hll
        clear hll
        go_wp2_with fail
        refine HC3.out.mono ?_
        rintro e w4 ⟨hb4, v4, rfl, hv4⟩
        have HB4 := hid (HB3.out.trans (hb4.mono HB3.out.size))
        have HS := hid (sameU_eq L _ _ _ _ w4 hb4.size (Nat.le_refl _) (HV3.out.below PuR.stays hb4) hv4 (by have := HLN.out; have := HQL.out; omega))
        obtain ⟨o4, c4, rfl, -⟩ := hv4.shape
        clear hb4 hv4 HC3 HV3
        generalize L.length = l4 at *
        clear k0 k1 k3 k4
        go_wp2_with fail
        refine HS.out.mono ?_
        rintro e w5 ⟨rfl, hb5⟩
        have HB5 := hid (HB4.out.trans (hb5.mono HB4.out.size))
        clear hb5 HS
        go_wp2_with fail
        exact ⟨⟨1, by omega, by go_num, HB5⟩, by simp [intOf]⟩
      · have F1 := HF.out wr HBW.out
        have k0 := (F1).r0.k1
        have k1 := (F1).r1.k1
        have k3 := (F1).r3.k1
        have k4 := (F1).r4.k1
        have kf := (HFS.out wr HBW.out).cell 1
        have HC1 := hid (tc2 oa m ca o d n _ _ _ _ wr (burnE l o d n) (burnL l o d n) k0 k1 k3 k4 (burn_any l o d n _ N wr (HLL.out wr F1.b).1 (HLL.out wr F1.b).2 HRU.out.1 HRU.out.2))
        have HLN := hid (show (burnL l o d n).length ≤ 1000 by have := burnL_len l o d n; have := HRU.out.2; omega)
        generalize hE : burnE l o d n = E at *
        generalize hL : burnL l o d n = L at *
        clear k0 k1 k3 k4
        clear F1
        simp only [List.getElem?_cons_zero, List.getElem?_cons_succ] at kf
        go_wp2_with fail
        refine HC1.out.mono ?_
        rintro e w3 ⟨hb3, v3, rfl, hv3⟩
        have HB3 := hid (HBW.out.trans (hb3.mono HBW.out.size))
        have HV3 := hid hv3
        obtain ⟨o3, c3, rfl, -⟩ := hv3.shape
        clear hb3 hv3 kf HC1
        have F3 := HF.out w3 HB3.out
        have HC3 := hid (rburn_any l o d n _ N w3 (HLL.out w3 F3.b).1 (HLL.out w3 F3.b).2 HRU.out.1 HRU.out.2)
        have k0 := (F3).r0.k1
        have k1 := (F3).r1.k1
        have k3 := (F3).r3.k1
        have k4 := (F3).r4.k1
        clear F3
        rw [hE, hL] at HC3
        clear hL hE
        generalize hll : L.length = ll at *
        have HQL := hid hll
        clear hll
        go_wp2_with fail
        refine HC3.out.mono ?_
        rintro e w4 ⟨hb4, v4, rfl, hv4⟩
        have HB4 := hid (HB3.out.trans (hb4.mono HB3.out.size))
        have HS := hid (sameU_eq L _ _ _ _ w4 hb4.size (Nat.le_refl _) (HV3.out.below PuR.stays hb4) hv4 (by have := HLN.out; have := HQL.out; omega))
        obtain ⟨o4, c4, rfl, -⟩ := hv4.shape
        clear hb4 hv4 HC3 HV3
        generalize L.length = l4 at *
        clear k0 k1 k3 k4
        go_wp2_with fail
        refine HS.out.mono ?_
        rintro e w5 ⟨rfl, hb5⟩
        have HB5 := hid (HB4.out.trans (hb5.mono HB4.out.size))
        clear hb5 HS
        go_wp2_with fail
        exact ⟨⟨2, by omega, by go_num, HB5⟩, by simp [intOf]⟩
      · have F1 := HF.out wr HBW.out
        have k0 := (F1).r0.k1
        have k1 := (F1).r1.k1
        have k2 := (F1).r2.k1
        have k3 := (F1).r3.k1
        have k4 := (F1).r4.k1
        have kf := (HFS.out wr HBW.out).cell 2
        have HC1 := hid (tc3 oa m ca o r d n _ _ _ _ _ wr (moveE l o r d n) (moveL l o r d n) k0 k1 k2 k3 k4 (move_any l o r d n _ N wr (HLL.out wr F1.b).1 (HLL.out wr F1.b).2 HRU.out.1 HRU.out.2 hn))
        have HLN := hid (show (moveL l o r d n).length ≤ 1000 by have := moveL_len l o r d n; have := HRU.out.2; omega)
        generalize hE : moveE l o r d n = E at *
        generalize hL : moveL l o r d n = L at *
        clear k0 k1 k2 k3 k4
        clear F1
        simp only [List.getElem?_cons_zero, List.getElem?_cons_succ] at kf
        go_wp2_with fail
        refine HC1.out.mono ?_
        rintro e w3 ⟨hb3, v3, rfl, hv3⟩
        have HB3 := hid (HBW.out.trans (hb3.mono HBW.out.size))
        have HV3 := hid hv3
        obtain ⟨o3, c3, rfl, -⟩ := hv3.shape
        clear hb3 hv3 kf HC1
        have F3 := HF.out w3 HB3.out
        have HC3 := hid (rmove_any l o r d n _ N w3 (HLL.out w3 F3.b).1 (HLL.out w3 F3.b).2 HRU.out.1 HRU.out.2 hn)
        have k0 := (F3).r0.k1
        have k1 := (F3).r1.k1
        have k2 := (F3).r2.k1
        have k3 := (F3).r3.k1
        have k4 := (F3).r4.k1
        clear F3
        rw [hE, hL] at HC3
        clear hL hE
        generalize hll : L.length = ll at *
        have HQL := hid hll
        clear hll
        go_wp2_with fail
        refine HC3.out.mono ?_
        rintro e w4 ⟨hb4, v4, rfl, hv4⟩
        have HB4 := hid (HB3.out.trans (hb4.mono HB3.out.size))
        have HS := hid (sameU_eq L _ _ _ _ w4 hb4.size (Nat.le_refl _) (HV3.out.below PuR.stays hb4) hv4 (by have := HLN.out; have := HQL.out; omega))
        obtain ⟨o4, c4, rfl, -⟩ := hv4.shape
        clear hb4 hv4 HC3 HV3
        generalize L.length = l4 at *
        clear k0 k1 k2 k3 k4
        go_wp2_with fail
        refine HS.out.mono ?_
        rintro e w5 ⟨rfl, hb5⟩
        have HB5 := hid (HB4.out.trans (hb5.mono HB4.out.size))
        clear hb5 HS
        go_wp2_with fail
        exact ⟨⟨3, by omega, by go_num, HB5⟩, by simp [intOf]⟩
      · have F1 := HF.out wr HBW.out
        have k0 := (F1).r0.k1
        have k5 := (F1).r5.k1
        obtain ⟨k70, k71, k72, k73⟩ := (F1).r7.k4
        have kf := (HFS.out wr HBW.out).cell 3
        have HC1 := hid (tc4 oa m ca ch t _ _ _ wr (leaveE l ch t) (leaveL l ch t) k0 k5 k70 k71 k72 k73 (leave_any l ch t _ N wr (HP.out wr F1.b) (HLL.out wr F1.b).1 (HLL.out wr F1.b).2 HRU.out.1 HRU.out.2 hta hch))
        have HLN := hid (show (leaveL l ch t).length ≤ 1000 by have := leaveL_len l ch t; have := HRU.out.2; omega)
        generalize hE : leaveE l ch t = E at *
        generalize hL : leaveL l ch t = L at *
        clear k0 k5 k70 k71 k72 k73
        clear F1
        simp only [List.getElem?_cons_zero, List.getElem?_cons_succ] at kf
        go_wp2_with fail
        refine HC1.out.mono ?_
        rintro e w3 ⟨hb3, v3, rfl, hv3⟩
        have HB3 := hid (HBW.out.trans (hb3.mono HBW.out.size))
        have HV3 := hid hv3
        obtain ⟨o3, c3, rfl, -⟩ := hv3.shape
        clear hb3 hv3 kf HC1
        have F3 := HF.out w3 HB3.out
        have HC3 := hid (rleave_any l ch t _ N w3 (HLL.out w3 F3.b).1 (HLL.out w3 F3.b).2 HRU.out.1 HRU.out.2 hta hch)
        have k0 := (F3).r0.k1
        have k5 := (F3).r5.k1
        obtain ⟨k70, k71, k72, k73⟩ := (F3).r7.k4
        clear F3
        rw [hE, hL] at HC3
        clear hL hE
        generalize hll : L.length = ll at *
        have HQL := hid hll
        clear hll
        go_wp2_with fail
        refine HC3.out.mono ?_
        rintro e w4 ⟨hb4, v4, rfl, hv4⟩
        have HB4 := hid (HB3.out.trans (hb4.mono HB3.out.size))
        have HS := hid (sameU_eq L _ _ _ _ w4 hb4.size (Nat.le_refl _) (HV3.out.below PuR.stays hb4) hv4 (by have := HLN.out; have := HQL.out; omega))
        obtain ⟨o4, c4, rfl, -⟩ := hv4.shape
        clear hb4 hv4 HC3 HV3
        generalize L.length = l4 at *
        clear k0 k5 k70 k71 k72 k73
        go_wp2_with fail
        refine HS.out.mono ?_
        rintro e w5 ⟨rfl, hb5⟩
        have HB5 := hid (HB4.out.trans (hb5.mono HB4.out.size))
        clear hb5 HS
        go_wp2_with fail
        exact ⟨⟨4, by omega, by go_num, HB5⟩, by simp [intOf]⟩
      · have F1 := HF.out wr HBW.out
        have k0 := (F1).r0.k1
        have k5 := (F1).r5.k1
        obtain ⟨k70, k71, k72, k73⟩ := (F1).r7.k4
        have kf := (HFS.out wr HBW.out).cell 4
        have HC1 := hid (tc5 oa m ca ch t _ _ _ wr (backE l ch t) (backL l ch t) k0 k5 k70 k71 k72 k73 (back_any l ch t _ N wr (HP.out wr F1.b) (HLL.out wr F1.b).1 (HLL.out wr F1.b).2 HRU.out.1 HRU.out.2 hta hch))
        have HLN := hid (show (backL l ch t).length ≤ 1000 by have := backL_len l ch t; have := HRU.out.2; omega)
        generalize hE : backE l ch t = E at *
        generalize hL : backL l ch t = L at *
        clear k0 k5 k70 k71 k72 k73
        clear F1
        simp only [List.getElem?_cons_zero, List.getElem?_cons_succ] at kf
        go_wp2_with fail
        refine HC1.out.mono ?_
        rintro e w3 ⟨hb3, v3, rfl, hv3⟩
        have HB3 := hid (HBW.out.trans (hb3.mono HBW.out.size))
        have HV3 := hid hv3
        obtain ⟨o3, c3, rfl, -⟩ := hv3.shape
        clear hb3 hv3 kf HC1
        have F3 := HF.out w3 HB3.out
        have HC3 := hid (rback_any l ch t _ N w3 (HLL.out w3 F3.b).1 (HLL.out w3 F3.b).2 HRU.out.1 HRU.out.2 hta hch)
        have k0 := (F3).r0.k1
        have k5 := (F3).r5.k1
        obtain ⟨k70, k71, k72, k73⟩ := (F3).r7.k4
        clear F3
        rw [hE, hL] at HC3
        clear hL hE
        generalize hll : L.length = ll at *
        have HQL := hid hll
        clear hll
        go_wp2_with fail
        refine HC3.out.mono ?_
        rintro e w4 ⟨hb4, v4, rfl, hv4⟩
        have HB4 := hid (HB3.out.trans (hb4.mono HB3.out.size))
        have HS := hid (sameU_eq L _ _ _ _ w4 hb4.size (Nat.le_refl _) (HV3.out.below PuR.stays hb4) hv4 (by have := HLN.out; have := HQL.out; omega))
        obtain ⟨o4, c4, rfl, -⟩ := hv4.shape
        clear hb4 hv4 HC3 HV3
        generalize L.length = l4 at *
        clear k0 k5 k70 k71 k72 k73
        go_wp2_with fail
        refine HS.out.mono ?_
        rintro e w5 ⟨rfl, hb5⟩
        have HB5 := hid (HB4.out.trans (hb5.mono HB4.out.size))
        clear hb5 HS
        go_wp2_with fail
        exact ⟨⟨5, by omega, by go_num, HB5⟩, by simp [intOf]⟩
      · have F1 := HF.out wr HBW.out
        have k0 := (F1).r0.k1
        have k5 := (F1).r5.k1
        have k6 := (F1).r6.k1
        obtain ⟨k70, k71, k72, k73⟩ := (F1).r7.k4
        have kf := (HFS.out wr HBW.out).cell 5
        have HC1 := hid (tc6 oa m ca ch ot t _ _ _ _ wr (comeE l ch ot t) (comeL l ch ot t) k0 k5 k6 k70 k71 k72 k73 (come_any l ch ot t _ N wr (HP.out wr F1.b) (HLL.out wr F1.b).1 (HLL.out wr F1.b).2 HRU.out.1 HRU.out.2 hta hch hot htd))
        have HLN := hid (show (comeL l ch ot t).length ≤ 1000 by have := comeL_len l ch ot t; have := HRU.out.2; omega)
        generalize hE : comeE l ch ot t = E at *
        generalize hL : comeL l ch ot t = L at *
        clear k0 k5 k6 k70 k71 k72 k73
        clear F1
        simp only [List.getElem?_cons_zero, List.getElem?_cons_succ] at kf
        go_wp2_with fail
        refine HC1.out.mono ?_
        rintro e w3 ⟨hb3, v3, rfl, hv3⟩
        have HB3 := hid (HBW.out.trans (hb3.mono HBW.out.size))
        have HV3 := hid hv3
        obtain ⟨o3, c3, rfl, -⟩ := hv3.shape
        clear hb3 hv3 kf HC1
        have F3 := HF.out w3 HB3.out
        have HC3 := hid (rcome_any l ch ot t _ N w3 (HLL.out w3 F3.b).1 (HLL.out w3 F3.b).2 HRU.out.1 HRU.out.2 hta hch hot htd)
        have k0 := (F3).r0.k1
        have k5 := (F3).r5.k1
        have k6 := (F3).r6.k1
        obtain ⟨k70, k71, k72, k73⟩ := (F3).r7.k4
        clear F3
        rw [hE, hL] at HC3
        clear hL hE
        generalize hll : L.length = ll at *
        have HQL := hid hll
        clear hll
        go_wp2_with fail
        refine HC3.out.mono ?_
        rintro e w4 ⟨hb4, v4, rfl, hv4⟩
        have HB4 := hid (HB3.out.trans (hb4.mono HB3.out.size))
        have HS := hid (sameU_eq L _ _ _ _ w4 hb4.size (Nat.le_refl _) (HV3.out.below PuR.stays hb4) hv4 (by have := HLN.out; have := HQL.out; omega))
        obtain ⟨o4, c4, rfl, -⟩ := hv4.shape
        clear hb4 hv4 HC3 HV3
        generalize L.length = l4 at *
        clear k0 k5 k6 k70 k71 k72 k73
        go_wp2_with fail
        refine HS.out.mono ?_
        rintro e w5 ⟨rfl, hb5⟩
        have HB5 := hid (HB4.out.trans (hb5.mono HB4.out.size))
        clear hb5 HS
        go_wp2_with fail
        exact ⟨⟨6, by omega, by go_num, HB5⟩, by simp [intOf]⟩
    · obtain rfl : k = 6 := by omega
      have HBZ := hid (HF.out wr HBW.out).b
      go_wp2
      go_ret
      exact ⟨rfl, HBZ.out⟩
end Go.Proofs.YtnoaohlajllngaaDoor
