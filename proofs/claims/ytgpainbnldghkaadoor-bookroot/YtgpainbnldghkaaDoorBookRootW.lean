/-
  BookRoot answers true of all doings, given what package book's functions answer; it turns nothing that was there.
-/
import Derived.Test.YtgpainbnldghkaaDoorBookAlive
namespace Go.Proofs.YtgpainbnldghkaaDoor
open Go.RowKit

theorem pout_none (l : List Dg) (h : (pcode l).1 ≠ 0) : pout l = [] := by
  unfold pcode at h
  unfold pout
  split at h
  · exact absurd rfl h
  · rename_i e he
    simp
theorem wrong_pout (l : List Dg) : wrongL (pout l) = (0, 0) := wrongL_book _ (pout_book l).1 (pout_book l).2.1 (pout_book l).2.2
theorem top_bytes (n : Nat) (t : List (BitVec 8)) (hn : n ≤ 200) : (2 : BitVec 8) :: (fourB n ++ t) = [2, 0, 0, BitVec.ofNat 8 (n / 256), BitVec.ofNat 8 (n % 256)] ++ t := by
  unfold fourB
  rw [show n / 16777216 % 256 = 0 by omega, show n / 65536 % 256 = 0 by omega, show n / 256 % 256 = n / 256 by omega]
  rfl
theorem five_new (w : World) (n : Nat) (hn : n ≤ 200) : Bytes (w.alloc (.cells #[.int .u8 2, .int .u8 0, .int .u8 0, .int .u8 ((n : Int) / 256), .int .u8 ((n : Int) % 256)] 5)) (w.heap.size + 1) (.slice (some ⟨w.heap.size, 0, none⟩) 5 5) [2, 0, 0, BitVec.ofNat 8 (n / 256), BitVec.ofNat 8 (n % 256)] := by
  have h := bytes_new w [2, 0, 0, BitVec.ofNat 8 (n / 256), BitVec.ofNat 8 (n % 256)] 5 (0, 0) 5 (by simp)
  have e : ([2, 0, 0, BitVec.ofNat 8 (n / 256), BitVec.ofNat 8 (n % 256)] : List (BitVec 8)).map V = [.int .u8 2, .int .u8 0, .int .u8 0, .int .u8 ((n : Int) / 256), .int .u8 ((n : Int) % 256)] := by
    simp only [List.map_cons, List.map_nil]
    rw [V_ofNat _ (by omega), V_ofNat _ (by omega)]
    simp [V, b8]
  rw [e] at h
  exact h
set_option maxRecDepth 100000 in
set_option maxHeartbeats 4000000 in
theorem bookRoot_any (HPC : PlayC 7) (HRC : RootC 12)
    (l : List Dg) (sa : Value) (N : Nat) (w : World) (hK : tableAt w) (hN : N ≤ w.heap.size) (ha : Doings w N sa l) (hlen : l.length < 2305843009213693952) (hfl : ∀ d ∈ l, d.fits) :
    Calls Tryd.prog 6 #[sa] w fun e w' => e = .returned (.bool true) ∧ Below w.heap.size w w' := by
  have HAL := hid (alive4_any HPC HRC w hK)
  have HP := hid (show PlayC 7 from HPC)
  have HR := hid (show RootC 12 from HRC)
  have HA := hid ha
  have HFL := hid hfl
  have HK := hid hK
  clear ha hfl hK HPC HRC
  go_enter Tryd.func6, Tryd.ntmps6
  go_wp2_with fail
  refine HAL.out.mono ?_
  rintro e w1 ⟨rfl, hb1⟩
  have hsz1 := hb1.size
  have HC1 := hid (HP.out l sa N w1 (HA.out.below (hb1.mono hN)) (by omega) hlen HFL.out)
  obtain ⟨pc, hpc⟩ : ∃ pc, (pcode l).1 = pc := ⟨_, rfl⟩
  obtain ⟨pi, hpi⟩ : ∃ pi, (pcode l).2 = pi := ⟨_, rfl⟩
  rw [hpc, hpi] at HC1
  unfold faultV at HC1
  have HB1 := hid hb1
  clear hb1 HAL
  go_wp2_with fail
  refine HC1.out.mono ?_
  rintro e w2 ⟨hb2, o2, n2, c2, rfl, hx2⟩
  have hsz2 := hb2.size
  obtain ⟨x, hxe⟩ : ∃ x, pout l = x := ⟨_, rfl⟩
  have hbk := pout_book l
  have hwr := wrong_pout l
  have hpn := pout_none l
  rw [hxe] at hx2 hbk hwr hpn
  rw [hpc] at hpn
  obtain ⟨o2', c2', he2, _⟩ := hx2.shape
  obtain ⟨rfl, rfl, rfl⟩ : o2 = o2' ∧ n2 = x.length ∧ c2 = c2' := by simpa using he2
  obtain ⟨w3, hw3⟩ : ∃ w3, w2.alloc (.cells #[.int .i64 pc, .int .i64 (pi : Int)] 27) = w3 := ⟨_, rfl⟩
  have hsz3 : w3.heap.size = w2.heap.size + 1 := by rw [← hw3]; simp
  have hb23 : Below w2.heap.size w2 w3 := by rw [← hw3]; exact (Below.refl _ _).alloc (Nat.le_refl _) _
  have HB3 := hid (HB1.out.trans ((hb2.trans (hb23.mono (by omega))).mono hsz1))
  have HX3 := hid (hx2.below hb23)
  have HW3 := hid hw3
  clear hb2 hb23 hx2 hw3 HC1 hpc hpi he2 HB1 hxe
  by_cases hp0 : pc = 0
  · subst hp0
    clear hpn
    have HC2 := hid (HR.out x _ w2.heap.size w3 (HK.out.below HB3.out HK.out.lt) HX3.out (by omega) (by have := hbk.2.2; omega) (fits_of hbk.2.1))
    rw [hwr] at HC2
    unfold faultV at HC2
    go_wp2_with fail
    rw [HW3.out]
    refine HC2.out.mono ?_
    rintro e w4 ⟨hb4, o4, n4, c4, rfl, hx4⟩
    have hsz4 := hb4.size
    obtain ⟨o4', c4', he4, _⟩ := hx4.shape
    obtain ⟨rfl, rfl, rfl⟩ : o4 = o4' ∧ n4 = 32 ∧ c4 = c4' := by simpa [rout_len x hwr] using he4
    obtain ⟨w5, hw5⟩ : ∃ w5, w4.alloc (.cells #[.int .i64 0, .int .i64 0] 27) = w5 := ⟨_, rfl⟩
    have hsz5 : w5.heap.size = w4.heap.size + 1 := by rw [← hw5]; simp
    have hb45 : Below w4.heap.size w4 w5 := by rw [← hw5]; exact (Below.refl _ _).alloc (Nat.le_refl _) _
    have HR5 := hid (show Row w5 w4.heap.size 27 [.int .i64 0, .int .i64 0] by rw [← hw5]; exact Row.new _ _ _)
    have hb35 : Below w3.heap.size w3 w5 := hb4.trans (hb45.mono (by omega))
    have HB5 := hid (HB3.out.trans (hb35.mono (by omega)))
    have HX5 := hid (HX3.out.below (hb35.mono (by omega)))
    have HRA5 := hid (hx4.below hb45)
    have HW5 := hid hw5
    have HC3 := hid (HR.out x _ w2.heap.size w5 (HK.out.below HB5.out HK.out.lt) HX5.out (by omega) (by have := hbk.2.2; omega) (fits_of hbk.2.1))
    rw [hwr] at HC3
    unfold faultV at HC3
    clear hb4 hb45 hb35 hx4 hw5 HC2 he4 HB3 HX3
    go_wp2_with fail
    rw [HW5.out]
    refine HC3.out.mono ?_
    rintro e w6 ⟨hb6, o6, n6, c6, rfl, hx6⟩
    have hsz6 := hb6.size
    obtain ⟨w7, hw7⟩ : ∃ w7, w6.alloc (.cells #[.int .i64 0, .int .i64 0] 27) = w7 := ⟨_, rfl⟩
    have hsz7 : w7.heap.size = w6.heap.size + 1 := by rw [← hw7]; simp
    have hb67 : Below w6.heap.size w6 w7 := by rw [← hw7]; exact (Below.refl _ _).alloc (Nat.le_refl _) _
    have hb57 : Below w5.heap.size w5 w7 := hb6.trans (hb67.mono (by omega))
    have f0 : (w6.alloc (.cells #[.int .i64 0, .int .i64 0] 27)).cell? ⟨w4.heap.size, 0, none⟩ = some (.int .i64 0) := by rw [hw7]; exact (HR5.out.below hb57 (by omega)).cell 0
    have hne : w4.heap.size ≠ w6.heap.size := by omega
    have HB7 := hid (HB5.out.trans (hb57.mono (by omega)))
    have HX7 := hid (HX5.out.below (hb57.mono (by omega)))
    have HRA7 := hid (HRA5.out.below (hb57.mono (by omega)))
    have HS := hid (sameB_any (rout x) (rout x) _ _ _ _ w7 HRA7.out (hx6.below hb67) (by rw [rout_len x hwr]; omega) (by rw [rout_len x hwr]; omega))
    rw [decide_eq_true (show rout x = rout x from rfl)] at HS
    have HW7 := hid hw7
    clear hb6 hb67 hb57 hx6 hw7 HC3 HB5 HX5 HRA5
    go_wp2_with fail
    rw [HW7.out]
    refine HS.out.mono ?_
    rintro e w8 ⟨rfl, q, rfl⟩
    obtain ⟨w8, hw8⟩ : ∃ w8, w7.drewN q = w8 := ⟨_, rfl⟩
    rw [hw8]
    have hb78 : Below w7.heap.size w7 w8 := by rw [← hw8]; exact drewN_belowB _ _ _
    have hsz8 : w8.heap.size = w7.heap.size := by rw [← hw8]; rfl
    obtain ⟨n, hn⟩ : ∃ n, x.length = n := ⟨_, rfl⟩
    have hn200 : n ≤ 200 := by rw [← hn]; exact hbk.2.2
    rw [hn]
    obtain ⟨w9, hw9⟩ : ∃ w9, w8.alloc (.cells #[.int .u8 2, .int .u8 0, .int .u8 0, .int .u8 ((n : Int) / 256), .int .u8 ((n : Int) % 256)] 5) = w9 := ⟨_, rfl⟩
    have hsz9 : w9.heap.size = w8.heap.size + 1 := by rw [← hw9]; simp
    have hb89 : Below w8.heap.size w8 w9 := by rw [← hw9]; exact (Below.refl _ _).alloc (Nat.le_refl _) _
    have h5 : Bytes w9 w9.heap.size (.slice (some ⟨w8.heap.size, 0, none⟩) 5 5) [2, 0, 0, BitVec.ofNat 8 (n / 256), BitVec.ofNat 8 (n % 256)] := by rw [hsz9, ← hw9]; exact five_new w8 n hn200
    have hb79 : Below w7.heap.size w7 w9 := hb78.trans (hb89.mono (by omega))
    obtain ⟨ps, hps, hsrc, hok⟩ := pairs_src (HX7.out.below (hb79.mono (by omega)))
    rw [hn] at hsrc
    have hpl : ps.length = n := by rw [← hn, ← hps]; simp
    have HT := hid (refTree_any ps.length ps _ w2.heap.size w2.heap.size w9 (Nat.le_refl _) (by omega) (by omega) hsrc hok (fun q hq => by
      have := hbk.2.1 q.p (by rw [← hps]; exact List.mem_map_of_mem hq)
      exact ⟨by omega, by omega⟩) (by omega))
    rw [hps] at HT
    have HB9 := hid (HB7.out.trans (hb79.mono (by omega)))
    have HRA9 := hid (HRA7.out.below (hb79.mono (by omega)))
    have H5 := hid h5
    have HZ := hid (show w.heap.size ≤ w9.heap.size ∧ w4.heap.size ≤ w9.heap.size by omega)
    have HN := hid hn
    have HRE := hid (show rout x = sha ([2, 0, 0, BitVec.ofNat 8 (n / 256), BitVec.ofNat 8 (n % 256)] ++ treeD x) by
      unfold rout
      rw [hwr, if_pos rfl, hn]
      unfold topD
      rw [top_bytes n _ hn200])
    have e1 : IntKind.u8.wrap ((n : Int) / 256) = (n : Int) / 256 := by simp [IntKind.wrap, IntKind.bits, IntKind.signed]; omega
    have e2 : IntKind.u8.wrap ((n : Int) % 256) = (n : Int) % 256 := by simp [IntKind.wrap, IntKind.bits, IntKind.signed]
    clear hw8 hb78 hb89 hb79 hsrc hok hps hpl h5 f0 hne HB7 HX7 HRA7 HS hsz9
    go_wp2_with fail
    refine HT.out.mono ?_
    rintro e w10 ⟨o10, n10, c10, rfl, hown10, hb10⟩
    have hsz10 := hb10.size
    obtain ⟨w11, hw11⟩ : ∃ w11, w10.alloc (.cells #[.slice (some ⟨w8.heap.size, 0, none⟩) 5 5, .slice o10 n10 c10] 24) = w11 := ⟨_, rfl⟩
    have hsz11 : w11.heap.size = w10.heap.size + 1 := by rw [← hw11]; simp
    have hb1011 : Below w10.heap.size w10 w11 := by rw [← hw11]; exact (Below.refl _ _).alloc (Nat.le_refl _) _
    have hls : Lists w11 w11.heap.size (.slice (some ⟨w10.heap.size, 0, none⟩) 2 2) [[2, 0, 0, BitVec.ofNat 8 (n / 256), BitVec.ofNat 8 (n % 256)], treeD x] := by
      rw [hsz11, ← hw11]
      exact lists2 ((H5.out.below hb10).mono hsz10) hown10.bytes
    have htl := treeD_len x
    have HJ := hid (refJoin_any [[2, 0, 0, BitVec.ofNat 8 (n / 256), BitVec.ofNat 8 (n % 256)], treeD x] _ w11.heap.size w11 (Nat.le_refl _) hls (by rw [flat2]; simp; omega) (by simp))
    rw [flat2] at HJ
    have hb911 : Below w9.heap.size w9 w11 := hb10.trans (hb1011.mono (by omega))
    have HB11 := hid (HB9.out.trans (hb911.mono HZ.out.1))
    have HRA11 := hid (HRA9.out.below (hb911.mono HZ.out.2))
    have HZ11 := hid (show w.heap.size ≤ w11.heap.size ∧ w4.heap.size ≤ w11.heap.size by have := HZ.out; omega)
    rw [hsz8, hsz7] at hw11
    clear hb10 hb1011 hb911 hls hown10 HT HB9 HRA9 H5
    go_wp2_with fail
    refine HJ.out.mono ?_
    rintro e w12 ⟨v12, rfl, hown12, hb12⟩
    have hsz12 := hb12.size
    have HSM := hid (sums _ v12 w12.heap.size w12 (Nat.le_refl _) hown12.bytes (by simp; omega))
    have HB12 := hid (HB11.out.trans (hb12.mono HZ11.out.1))
    have HRA12 := hid (HRA11.out.below (hb12.mono HZ11.out.2))
    have HZ12 := hid (show w.heap.size ≤ w12.heap.size ∧ w4.heap.size ≤ w12.heap.size by have := HZ11.out; omega)
    clear hb12 hown12 HJ HB11 HRA11 hw11
    go_wp2_with fail
    refine HSM.out.mono ?_
    rintro e w13 ⟨o13, c13, rfl, hown13, hb13⟩
    rw [← HRE.out] at hown13
    have HS3 := hid (sameB_any (rout x) (rout x) _ _ _ _ w13 (HRA12.out.below (hb13.mono HZ12.out.2)) hown13.bytes (by rw [rout_len x hwr]; omega) (by rw [rout_len x hwr]; omega))
    rw [decide_eq_true (show rout x = rout x from rfl)] at HS3
    have HB13 := hid (HB12.out.trans (hb13.mono HZ12.out.1))
    clear hb13 hown13 HSM HB12 HRA12
    go_wp2_with fail
    refine HS3.out.mono ?_
    rintro e w14 ⟨rfl, q14, rfl⟩
    go_wp2
    go_ret
    exact ⟨rfl, HB13.out.trans (drewN_belowB _ _ _)⟩
  · have e1 : (pc != 0) = true := by simpa using hp0
    have hx0 := hpn hp0
    subst hx0
    go_wp2
    go_ret
    rw [HW3.out]
    exact ⟨rfl, HB3.out⟩
end Go.Proofs.YtgpainbnldghkaaDoor
