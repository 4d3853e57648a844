/-
  PacketPlaces returns true of every state and packet, of every lists of bytes, of every numbers and of whatever is shown, the listed package variables (cubes of package sha, uint64pow10 of internal/strconv, deBruijn32tab and deBruijn64tab of math/bits) holding what the program text lays, and each argument reads behind the call as it did; no condition besides.
-/
import Derived.Test.YtclhcjiblfokaaaGreatDoorppMemB
import Derived.Test.YtclhcjiblfokaaaGreatDoorppHdMems
import Derived.Test.YtclhcjiblfokaaaGreatDoorppClMem
import Derived.Test.YtclhcjiblfokaaaGreatDoorppStMem
import Derived.Test.YtclhcjiblfokaaaGreatDoorppPairsAll
import Derived.Test.YtclhcjiblfokaaaGreatDoorppBookMath
import Derived.Test.YtclhcjiblfokaaaGreatDoorppPkPlF
import Derived.Test.YtclhcjiblfokaaaGreatDoorppPkOnceW
import Derived.Test.YtclhcjiblfokaaaGreatDoorRows
import Derived.Test.YtclhcjiblfokaaaGreatDoorppStApp
import Derived.Test.YtclhcjiblfokaaaGreatDoorppShaAll
import Derived.Test.YtclhcjiblfokaaaGreatDoorppCoMath
import Derived.Test.YtclhcjiblfokaaaGreatDoorppPkMath
import Derived.Test.YtclhcjiblfokaaaGreatDoorCards
import Derived.Test.YtclhcjiblfokaaaGreatDoorTie
import Derived.Deep.Slices
import Derived.Deep.Strs
import Derived.Deep.FieldsWide
import Derived.ProofKit
import Derived.OpenShut
import Derived.ShutString
import Derived.ChangeOld
import Derived.Below
import Derived.SizedLaws
import Derived.Deep.DeepHandedRow
import Derived.Lib.LaidTab
namespace Go.Proofs.YtclhcjiblfokaaaGreatDoor
open Go.RowKit

theorem holdsS_keep {N base g : Nat} {w w' : World} {v : Value} {t : St} (h : HoldsS N base w v t) (O : Only g w w') (h1 : N ≤ g) (h2 : g < base) : HoldsS N base w' v t :=
  h.on (O.below.mono (Nat.zero_le _)) (fun b _ hb => O.same b (by omega))
set_option maxRecDepth 100000 in
set_option maxHeartbeats 16000000 in
theorem packetPlaces_any (s : St) (v dv pv av hv2 : Value) (data : List (BitVec 8)) (p : Pk) (ack : List (BitVec 8)) (i tmo next : Int) (h : Sh) (N : Nat) (w : World) (hpow : powAt w) (htab : tableAt w) (hN : N ≤ w.heap.size) (hv : StV w N v s) (hd : Bytes w N dv data) (hp : PkV w N pv p) (ha : Bytes w N av ack) (hh : ShV w N hv2 h) (hfit : s.fits) (hdl : data.length ≤ 140737488351232) (hal : ack.length ≤ 140737488351232) (hhf : h.fits) :
    Calls Tryz.prog 6 #[v, .int .i64 i, dv, .int .i64 tmo, pv, av, .int .i64 next, hv2] w fun e w' => e = .returned (.bool true) ∧ Below w.heap.size w w' := by
  obtain ⟨zr, hzr⟩ := askRecv_some s p h
  obtain ⟨za, hza⟩ := askDone_some s p ack h
  obtain ⟨zl, hzl⟩ := askLate_some s p next h
  have HVS := hid (fun W (hx : Below w.heap.size w W) => (hv.below (hx.mono hN)).mono (Nat.le_trans hN hx.size))
  have HSN := hid (fun W (hx : Below w.heap.size w W) => psendC s v dv data N W i tmo (hv.below (hx.mono hN)) (hd.below (hx.mono hN)) (Nat.le_trans hN hx.size) hfit hdl (htab.past hx))
  have HRC := hid (fun W (hx : Below w.heap.size w W) => precvC s v pv av hv2 p ack h N W zr (hv.below (hx.mono hN)) (hp.below (hx.mono hN)) (ha.below (hx.mono hN)) (hh.below (hx.mono hN)) (Nat.le_trans hN hx.size) hfit hhf hal (htab.past hx) (hpow.below hx) hzr)
  have HAC := hid (fun W (hx : Below w.heap.size w W) => packC s v pv av hv2 p ack h N W za (hv.below (hx.mono hN)) (hp.below (hx.mono hN)) (ha.below (hx.mono hN)) (hh.below (hx.mono hN)) (Nat.le_trans hN hx.size) hfit hhf hal (htab.past hx) (hpow.below hx) hza)
  have HLC := hid (fun W (hx : Below w.heap.size w W) => platC s v pv hv2 p next h N W zl (hv.below (hx.mono hN)) (hp.below (hx.mono hN)) (hh.below (hx.mono hN)) (Nat.le_trans hN hx.size) hfit hhf (htab.past hx) (hpow.below hx) hzl)
  have HAL := hid (fun W (hx : Below w.heap.size w W) => alive11_any W (htab.past hx))
  have HFIT := hid hfit
  have HAS := hid (fun (hz : sendN s i data tmo = 0) => show ApartS s i (sendS s i data tmo) from (show sendS s i data tmo = sentS s (sendPk s i data tmo) from if_pos hz) ▸ apart_sent hz hfit)
  have HAR := hid (fun (hz : recvN s p ack.length zr = 0) => show ApartS s p.dst (recvS s p ack zr) from (show recvS s p ack zr = gotS s p ack from if_pos hz) ▸ apart_got (recvN_zero hz) hfit)
  have HAA := hid (fun (hz : packN s p ack.length za = 0) => show ApartS s p.src (packS s p ack.length za) from (show packS s p ack.length za = goneS s p (chAt s p.src).ack1 from if_pos hz) ▸ apart_gone (packN_zero hz).1 (ack_right hz hfit).1 (ack_right hz hfit).2.1)
  have HAT := hid (fun (hz : lateN s p next h.height zl = 0) => show ApartS s p.src (lateS s p next h.height zl) from (show lateS s p next h.height zl = goneS s p (chAt s p.src).shut from if_pos hz) ▸ apart_gone (lateN_zero hz) (shut_right hz hfit).1 (shut_right hz hfit).2.1)
  obtain ⟨o1, c1, o2, c2, o3, c3, o4, c4, o5, c5, o6, c6, o7, c7, rfl, hm⟩ := hv.open
  have HM := hid hm
  obtain ⟨odd, cdd, rfl, hdd⟩ := hp.open
  obtain ⟨oa, ca, rfl, -⟩ := ha.shape
  obtain ⟨oe, ce, rfl, -⟩ := hd.shape
  obtain ⟨q1, e1, q2, e2, q3, e3, r1, s1, r2, s2, r3, s3, r4, s4, r5, s5, r6, s6, rfl, -⟩ := hh.open
  clear hv hd hp ha hh hm hdd hfit hhf htab hpow hzr hza hzl hal hdl
  go_enter Tryz.func6, Tryz.ntmps6
  go_upto_region 1 with fail
  refine fbox3 ?_
  intro w0 F0 hs0
  go_wp2_with fail
  refine (HAL.out w0 F0.b).mono ?_
  rintro e w1 ⟨rfl, hb1⟩
  have F1 := F0.go hb1
  clear hb1 hs0 F0 HAL
  go_upto_region 4 with fail
  refine F1.box ?_
  intro w2 F2 hs2 hb2
  clear hs2 hb2
  go_wp2_with (refine F2.load 0 rfl rfl rfl rfl structState ?_)
  refine (HSN.out w2 F2.b).mono ?_
  rintro e wa ⟨hb, va, pa, rfl, hh, hpp⟩
  obtain ⟨q0a, q1a, q2a, q3a, q4a, q5a, q6a, q7a, q8a, q9a, rfl, hon⟩ := hh.now.ten
  obtain ⟨oda, cda, rfl, -⟩ := hpp.now.open
  have FAa := F2.go hb
  have HHa := hid hh
  have HONa := hid hon
  have HG4 := hid FAa.b.size
  clear hb hh hon hpp
  go_upto_region 6 with (first | (refine ((FAa.addAt (g := wa.heap.size) (t := 28) (cs := [.string ⟨#[]⟩, .int .i64 0, .int .i64 0, .slice none 0 0, .slice none 0 0, .slice none 0 0, .slice none 0 0, .slice none 0 0, .slice none 0 0, .slice none 0 0]) rfl).addAt (g := wa.heap.size + 1) (t := 31) (cs := [.int .i64 0, .int .i64 0, .int .i64 0, .slice none 0 0, .int .i64 0]) (by simp)).store 4 rfl rfl rfl rfl rfl structState rfl HONa.out ?_; intro wba FBa OBa) | (refine FBa.store 5 rfl rfl rfl rfl rfl structPacket rfl (by simp [Value.oneCell']) ?_; intro w3 F3 OCa))
  have HV3 := hid (HHa.out.below (two_new OBa OCa)).now
  clear HHa HONa FAa FBa OBa OCa
  go_wp2_with (refine F3.load 4 rfl rfl rfl rfl structState ?_)
  refine (apart_any s (sendS s i data tmo) i (sendN s i data tmo) _ _ _ N w3 (Nat.le_trans hN F3.b.size) F3.r0 F3.r3 (HM.out.below (F3.b.mono hN)) HFIT.out HV3.out HAS.out).mono ?_
  rintro e w4 ⟨rfl, hb4⟩
  have F4 := F3.go hb4
  clear hb4
  obtain ⟨kp0, kp1, -⟩ := F4.r1.k5
  have ko := F4.r3.k1
  have kz := F4.r3.frozen 0
  go_upto_region 9 with fail
  clear kp0 kp1 ko kz
  refine F4.cell 3 rfl ?_
  intro w5 F5 O5
  clear O5
  go_wp2_with (first | refine F5.load 0 rfl rfl rfl rfl structState ?_ | refine F5.load 1 rfl rfl rfl rfl structPacket ?_ | refine F5.load 2 rfl rfl rfl rfl structShown ?_)
  refine (HRC.out w5 F5.b).mono ?_
  rintro e wa6 ⟨hb, va, rfl, hh⟩
  obtain ⟨q06, q16, q26, q36, q46, q56, q66, q76, q86, q96, rfl, hon⟩ := hh.now.ten
  have FA6 := F5.go hb
  have HH6 := hid hh
  have HON6 := hid hon
  have HL6 := hid F5.r4.lt
  clear hb hh hon
  go_upto_region 10 with (refine FA6.store 4 rfl rfl rfl rfl rfl structState rfl HON6.out ?_; intro w6 F6 O6)
  have HV6 := hid (holdsS_keep HH6.out O6 (Nat.le_trans hN HG4.out) HL6.out).now
  clear HH6 HON6 FA6 O6 HL6
  go_wp2_with (refine F6.load 4 rfl rfl rfl rfl structState ?_)
  refine (apart_any s (recvS s p ack zr) p.dst (recvN s p ack.length zr) _ _ _ N w6 (Nat.le_trans hN F6.b.size) F6.r0 F6.r3 (HM.out.below (F6.b.mono hN)) HFIT.out HV6.out HAR.out).mono ?_
  rintro e w7 ⟨rfl, hb7⟩
  have F7 := F6.go hb7
  clear hb7
  obtain ⟨kp0, kp1, -⟩ := F7.r1.k5
  have ko := F7.r3.k1
  have kz := F7.r3.frozen 0
  go_upto_region 13 with fail
  clear kp0 kp1 ko kz
  refine F7.cell 3 rfl ?_
  intro w8 F8 O8
  clear O8
  go_wp2_with (first | refine F8.load 0 rfl rfl rfl rfl structState ?_ | refine F8.load 1 rfl rfl rfl rfl structPacket ?_ | refine F8.load 2 rfl rfl rfl rfl structShown ?_)
  refine (HAC.out w8 F8.b).mono ?_
  rintro e wa9 ⟨hb, va, rfl, hh⟩
  obtain ⟨q09, q19, q29, q39, q49, q59, q69, q79, q89, q99, rfl, hon⟩ := hh.now.ten
  have FA9 := F8.go hb
  have HH9 := hid hh
  have HON9 := hid hon
  have HL9 := hid F8.r4.lt
  clear hb hh hon
  go_upto_region 14 with (refine FA9.store 4 rfl rfl rfl rfl rfl structState rfl HON9.out ?_; intro w9 F9 O9)
  have HV9 := hid (holdsS_keep HH9.out O9 (Nat.le_trans hN HG4.out) HL9.out).now
  clear HH9 HON9 FA9 O9 HL9
  go_wp2_with (refine F9.load 4 rfl rfl rfl rfl structState ?_)
  refine (apart_any s (packS s p ack.length za) p.src (packN s p ack.length za) _ _ _ N w9 (Nat.le_trans hN F9.b.size) F9.r0 F9.r3 (HM.out.below (F9.b.mono hN)) HFIT.out HV9.out HAA.out).mono ?_
  rintro e w10 ⟨rfl, hb10⟩
  have F10 := F9.go hb10
  clear hb10
  go_wp2_with (first | refine F10.load 0 rfl rfl rfl rfl structState ?_ | refine F10.load 1 rfl rfl rfl rfl structPacket ?_ | refine F10.load 2 rfl rfl rfl rfl structShown ?_)
  refine (HLC.out w10 F10.b).mono ?_
  rintro e wa11 ⟨hb, va, rfl, hh⟩
  obtain ⟨q011, q111, q211, q311, q411, q511, q611, q711, q811, q911, rfl, hon⟩ := hh.now.ten
  have FA11 := F10.go hb
  have HH11 := hid hh
  have HON11 := hid hon
  have HL11 := hid F10.r4.lt
  clear hb hh hon
  go_upto_region 17 with (refine FA11.store 4 rfl rfl rfl rfl rfl structState rfl HON11.out ?_; intro w11 F11 O11)
  have HV11 := hid (holdsS_keep HH11.out O11 (Nat.le_trans hN HG4.out) HL11.out).now
  clear HH11 HON11 FA11 O11 HL11
  go_wp2_with (refine F11.load 4 rfl rfl rfl rfl structState ?_)
  refine (apart_any s (lateS s p next h.height zl) p.src (lateN s p next h.height zl) _ _ _ N w11 (Nat.le_trans hN F11.b.size) F11.r0 F11.r3 (HM.out.below (F11.b.mono hN)) HFIT.out HV11.out HAT.out).mono ?_
  rintro e w12 ⟨rfl, hb12⟩
  have F12 := F11.go hb12
  clear hb12
  go_wp2
  go_ret
  exact ⟨rfl, F12.b⟩
end Go.Proofs.YtclhcjiblfokaaaGreatDoor
namespace Go.Proofs.YtclhcjiblfokaaaGreatDoor
open Go.ChangeShapes Go.WideShapes Go.ChangeAt Go.RowKit

theorem gPow : Tryz.prog.globalNamed "internal/strconv.uint64pow10" = some 2 := by kernel_rfl
theorem gPowType : (Tryz.prog.globals[2]?).map (·.type) = some 235 := by kernel_rfl
theorem cellsPow : Tryz.prog.cellsOf 235 = 20 := by kernel_rfl
theorem cellsU64 : Tryz.prog.cellsOf 69 = 1 := by kernel_rfl
theorem pow_data : (Rows.laid_internal_strconv_uint64pow10 : DataW Unit) = Lib.tabData .u64 Lib.pow10Tab := by kernel_rfl
/-- for the witness: a world's table blocks made to hold what their initialisers lay -/
def withRow (w : World) (g : Nat) (cs : Array Value) : World :=
  { w with heap := w.heap.modify g fun
      | .cells _ t frozen => .cells cs t frozen
      | o => o }
def withTables (w : World) : World := withRow (withRow (withRow w 3 #[.int .u8 0, .int .u8 1, .int .u8 28, .int .u8 2, .int .u8 29, .int .u8 14, .int .u8 24, .int .u8 3, .int .u8 30, .int .u8 22, .int .u8 20, .int .u8 15, .int .u8 25, .int .u8 17, .int .u8 4, .int .u8 8, .int .u8 31, .int .u8 27, .int .u8 13, .int .u8 23, .int .u8 21, .int .u8 19, .int .u8 16, .int .u8 7, .int .u8 26, .int .u8 12, .int .u8 18, .int .u8 6, .int .u8 11, .int .u8 5, .int .u8 10, .int .u8 9]) 4 #[.int .u8 0, .int .u8 1, .int .u8 56, .int .u8 2, .int .u8 57, .int .u8 49, .int .u8 28, .int .u8 3, .int .u8 61, .int .u8 58, .int .u8 42, .int .u8 50, .int .u8 38, .int .u8 29, .int .u8 17, .int .u8 4, .int .u8 62, .int .u8 47, .int .u8 59, .int .u8 36, .int .u8 45, .int .u8 43, .int .u8 51, .int .u8 22, .int .u8 53, .int .u8 39, .int .u8 33, .int .u8 30, .int .u8 24, .int .u8 18, .int .u8 12, .int .u8 5, .int .u8 63, .int .u8 55, .int .u8 48, .int .u8 27, .int .u8 60, .int .u8 41, .int .u8 37, .int .u8 16, .int .u8 46, .int .u8 35, .int .u8 44, .int .u8 21, .int .u8 52, .int .u8 32, .int .u8 23, .int .u8 11, .int .u8 54, .int .u8 26, .int .u8 40, .int .u8 15, .int .u8 34, .int .u8 20, .int .u8 31, .int .u8 10, .int .u8 25, .int .u8 14, .int .u8 19, .int .u8 9, .int .u8 13, .int .u8 8, .int .u8 7, .int .u8 6]) 2 #[.int .u64 1, .int .u64 10, .int .u64 100, .int .u64 1000, .int .u64 10000, .int .u64 100000, .int .u64 1000000, .int .u64 10000000, .int .u64 100000000, .int .u64 1000000000, .int .u64 10000000000, .int .u64 100000000000, .int .u64 1000000000000, .int .u64 10000000000000, .int .u64 100000000000000, .int .u64 1000000000000000, .int .u64 10000000000000000, .int .u64 100000000000000000, .int .u64 1000000000000000000, .int .u64 10000000000000000000]
end Go.Proofs.YtclhcjiblfokaaaGreatDoor
namespace Go.Proofs.YtclhcjiblfokaaaGreatDoor
open Go.ChangeShapes Go.WideShapes Go.ChangeAt Go.RowKit

def cubeInts : List Int := [1116352408, 1899447441, 3049323471, 3921009573, 961987163, 1508970993, 2453635748, 2870763221, 3624381080, 310598401, 607225278, 1426881987, 1925078388, 2162078206, 2614888103, 3248222580, 3835390401, 4022224774, 264347078, 604807628, 770255983, 1249150122, 1555081692, 1996064986, 2554220882, 2821834349, 2952996808, 3210313671, 3336571891, 3584528711, 113926993, 338241895, 666307205, 773529912, 1294757372, 1396182291, 1695183700, 1986661051, 2177026350, 2456956037, 2730485921, 2820302411, 3259730800, 3345764771, 3516065817, 3600352804, 4094571909, 275423344, 430227734, 506948616, 659060556, 883997877, 958139571, 1322822218, 1537002063, 1747873779, 1955562222, 2024104815, 2227730452, 2361852424, 2428436474, 2756734187, 3204031479, 3329325298]
theorem gTab : Tryz.prog.globalNamed "landbridge/sha.cubes" = some 0 := by kernel_rfl
theorem gTabType : (Tryz.prog.globals[0]?).map (·.type) = some 194 := by kernel_rfl
theorem cellsTab : Tryz.prog.cellsOf 194 = 64 := by kernel_rfl
theorem cellsWord : Tryz.prog.cellsOf 133 = 1 := by kernel_rfl
theorem cubes_k : ∀ t, t < 64 → cubeInts.getD t 0 = u (kTab.getD t 0) := by decide +kernel
end Go.Proofs.YtclhcjiblfokaaaGreatDoor
namespace Go.Proofs.YtclhcjiblfokaaaGreatDoor
open Go.ChangeShapes Go.WideShapes Go.ChangeAt Go.RowKit

theorem cub_data : (Rows.laid_landbridge_sha_cubes : DataW Unit) = Lib.tabData .u32 cubeInts := by kernel_rfl
theorem pow_laidZ {W : World} {a b d : String × DataW Unit} (h : laidMet Tryz.prog [a, b, ("internal/strconv.uint64pow10", Rows.laid_internal_strconv_uint64pow10), d] W) : powAt W := by
  rw [pow_data] at h
  obtain ⟨_, ⟨_, _, _, _, _, _, _, _, _, _, ⟨_, _, _, _, _, _, _, _, _, _, ⟨g', t', cs, fuel, p, q, hg', ht', hvar, hd, _, _⟩, _⟩, _⟩, _⟩ := h
  obtain rfl := Option.some.inj (gPow.symm.trans hg')
  obtain rfl := Option.some.inj (gPowType.symm.trans ht')
  unfold powAt Lib.TabIs
  rw [hvar, ← Lib.cells_of_tab Tryz.underlying235 Tryz.underlying69 cellsU64 cellsPow hd]
theorem table_laidZ {W : World} {a b c : String × DataW Unit} (h : laidMet Tryz.prog [a, b, c, ("landbridge/sha.cubes", Rows.laid_landbridge_sha_cubes)] W) : tableAt W := by
  rw [cub_data] at h
  obtain ⟨_, ⟨_, _, _, _, _, _, _, _, _, _, ⟨_, _, _, _, _, _, _, _, _, _, ⟨_, _, _, _, _, _, _, _, _, _, ⟨g', t', cs, fuel, p, q, hg', ht', hvar, hd, _, _⟩, _⟩, _⟩, _⟩, _⟩ := h
  obtain rfl := Option.some.inj (gTab.symm.trans hg')
  obtain rfl := Option.some.inj (gTabType.symm.trans ht')
  have ht : Lib.TabIs Tryz.prog W "landbridge/sha.cubes" .u32 cubeInts := by
    unfold Lib.TabIs
    rw [hvar, ← Lib.cells_of_tab Tryz.underlying194 Tryz.underlying133 cellsWord cellsTab hd]
  intro t hlt
  rw [ht.cell gTab t hlt, cubes_k t hlt]
def withTablesZ (w : World) : World := withRow (withTables w) 0 #[.int .u32 1116352408, .int .u32 1899447441, .int .u32 3049323471, .int .u32 3921009573, .int .u32 961987163, .int .u32 1508970993, .int .u32 2453635748, .int .u32 2870763221, .int .u32 3624381080, .int .u32 310598401, .int .u32 607225278, .int .u32 1426881987, .int .u32 1925078388, .int .u32 2162078206, .int .u32 2614888103, .int .u32 3248222580, .int .u32 3835390401, .int .u32 4022224774, .int .u32 264347078, .int .u32 604807628, .int .u32 770255983, .int .u32 1249150122, .int .u32 1555081692, .int .u32 1996064986, .int .u32 2554220882, .int .u32 2821834349, .int .u32 2952996808, .int .u32 3210313671, .int .u32 3336571891, .int .u32 3584528711, .int .u32 113926993, .int .u32 338241895, .int .u32 666307205, .int .u32 773529912, .int .u32 1294757372, .int .u32 1396182291, .int .u32 1695183700, .int .u32 1986661051, .int .u32 2177026350, .int .u32 2456956037, .int .u32 2730485921, .int .u32 2820302411, .int .u32 3259730800, .int .u32 3345764771, .int .u32 3516065817, .int .u32 3600352804, .int .u32 4094571909, .int .u32 275423344, .int .u32 430227734, .int .u32 506948616, .int .u32 659060556, .int .u32 883997877, .int .u32 958139571, .int .u32 1322822218, .int .u32 1537002063, .int .u32 1747873779, .int .u32 1955562222, .int .u32 2024104815, .int .u32 2227730452, .int .u32 2361852424, .int .u32 2428436474, .int .u32 2756734187, .int .u32 3204031479, .int .u32 3329325298]
end Go.Proofs.YtclhcjiblfokaaaGreatDoor
namespace Go.Proofs.YtclhcjiblfokaaaGreatDoor
open Go.ChangeShapes Go.WideShapes Go.ChangeAt Go.RowKit

theorem addr_addH (b off i : Nat) : (⟨b, off, none⟩ : Addr).add i = ⟨b, off + i, none⟩ := by unfold Addr.add; split <;> simp_all
/-- a cell that reads as a slice of bytes -/
theorem bytes_cell_sizedH {H : Type} {enc : TypeId × Value → H} {W : World} {fuel : Nat} {v : Value} {x : DataW H × List MemPlace}
    (hf : DataW.trod enc Tryz.prog W 0 (fun _ => true) true fuel 29 [v] = some x) (hsz : ∀ y ∈ x.1.weights Tryz.prog 29, y ≤ reachBytes) :
    ∃ l, Bytes W W.heap.size v l ∧ l.length ≤ 140737488351232 := by
  rcases open_ints Tryz.underlying29 Tryz.underlying5 (by kernel_rfl) hf with ⟨hcs, _⟩ | ⟨a, len, cap, zs, hcs, _⟩
  · obtain rfl : v = .slice none 0 0 := by simpa using hcs
    exact ⟨[], .inl ⟨rfl, rfl⟩, by simp⟩
  · obtain rfl : v = .slice (some a) len cap := by simpa using hcs
    refine bytes_read_len (a0 := some a) (len0 := len) (cap0 := cap) (x := x) hf (fun elems spare he => ?_)
    refine hsz _ ?_
    rw [he]
    simp [DataW.weights, Tryz.underlying29]
theorem weights_all_memH {H : Type} (P : Program) (e : TypeId) (l : List (DataW H)) (d : DataW H) (hd : d ∈ l) (y : Nat) (hy : y ∈ d.weights P e) : y ∈ DataW.weightsAll P e l := by
  induction l with
  | nil => simp at hd
  | cons a r ih =>
    simp only [DataW.weightsAll, List.mem_append]
    rcases List.mem_cons.1 hd with rfl | h
    · exact .inl hy
    · exact .inr (ih h)
/-- rows of k cells, each of which reads -/
theorem recs_of {W : World} {a : Addr} {len m k : Nat} {α : Type} [Inhabited α] (row : α → List Value) (P : α → Prop) (hk : 0 < k) (hrow : ∀ r, (row r).length = k) (hl : len ≤ m)
    (each : ∀ i, i < len → ∃ r, W.cells? 0 (a.add (i * k)) k = some (row r) ∧ P r) : ∃ l : List α, Recs W W.heap.size (.slice (some a) len m) k (l.map row) ∧ (∀ r ∈ l, P r) ∧ l.length = len := by
  obtain ⟨f, hfs⟩ := Deep.choose_lt each
  refine ⟨(List.range len).map f, ?_, fun r hr => ?_, by simp⟩
  · by_cases h0 : len = 0
    · subst h0
      exact .inr (.inl ⟨a, m, rfl, rfl⟩)
    · have cell : ∀ i, i < len → ∀ j, j < k → W.cell? ((a.add (i * k)).add j) = (row (f i))[j]? := fun i hi j hj => (World.cells?_some (hfs i hi).1).2.2 j hj
      obtain ⟨b, off, spot⟩ := a
      have hc := cell 0 (by omega) 0 hk
      rw [List.getElem?_eq_getElem (by rw [hrow]; exact hk)] at hc
      have hspot : spot = none := by simpa [Addr.add] using World.cell?_spot hc
      subst hspot
      refine .inr (.inr ⟨b, off, m, by simp, by simpa using hl, fun i r hr => ?_⟩)
      have hi : i < len := by have := (List.getElem?_eq_some_iff.1 hr).1; simpa using this
      obtain rfl : row (f i) = r := by
        rw [List.getElem?_map, List.getElem?_map, List.getElem?_range hi] at hr
        simpa using hr
      have hcell : ∀ j x, (row (f i))[j]? = some x → W.cell? ⟨b, off + i * k + j, none⟩ = some x := fun j x hx => by
        have hj : j < k := by have := (List.getElem?_eq_some_iff.1 hx).1; rwa [hrow] at this
        have := cell i hi j hj
        rwa [addr_addH, addr_addH, hx] at this
      refine ⟨block_lt_of_cell (hcell 0 _ (List.getElem?_eq_getElem (by rw [hrow]; exact hk))), hcell⟩
  · obtain ⟨i, hi, rfl⟩ := List.mem_map.1 hr
    exact (hfs i (List.mem_range.1 hi)).2
theorem num_of {z : Int} (h : (Lit.int .u64 z).wf = true) : ∃ n : Nat, z = n ∧ n < 18446744073709551616 := by
  have : 0 ≤ z ∧ z < 18446744073709551616 := by
    simp [Lit.wf, IntKind.min, IntKind.max, IntKind.signed, IntKind.bits] at h
    omega
  exact ⟨z.toNat, by omega, by omega⟩
end Go.Proofs.YtclhcjiblfokaaaGreatDoor
namespace Go.Proofs.YtclhcjiblfokaaaGreatDoor
open Go.ChangeShapes Go.WideShapes Go.ChangeAt Go.RowKit

/-- four cells of what is known of a block -/
theorem known_cells {H : Type} {enc : TypeId × Value → H} {W : World} {fuel : Nat} {c0 c1 c2 c3 : Value} {x : DataW H × List MemPlace}
    (hf : DataW.trod enc Tryz.prog W 0 (fun _ => true) true fuel 93 [c0, c1, c2, c3] = some x) (hsz : ∀ y ∈ x.1.weights Tryz.prog 93, y ≤ reachBytes) :
    ∃ k : Kn, c0 = .int .i64 k.height ∧ c1 = .int .i64 k.time ∧ Bytes W W.heap.size c2 k.root ∧ Bytes W W.heap.size c3 k.next ∧ k.fits := by
  obtain ⟨xs, n', _, hd, _, hlen, hfs⟩ := DataW.trod_struct Tryz.underlying93 hf
  have e1 : Tryz.prog.cellsOf 3 = 1 := by kernel_rfl
  have e3 : Tryz.prog.cellsOf 29 = 1 := by kernel_rfl
  match xs, hlen with
  | [y0, y1, y2, y3], _ =>
    have t0 : DataW.trod enc Tryz.prog W 0 (fun _ => true) true n' 3 [c0] = some y0 := by
      have := hfs 0 _ rfl
      simpa [e1] using this
    have t1 : DataW.trod enc Tryz.prog W 0 (fun _ => true) true n' 3 [c1] = some y1 := by
      have := hfs 1 _ rfl
      simpa [e1] using this
    have t2 : DataW.trod enc Tryz.prog W 0 (fun _ => true) true n' 29 [c2] = some y2 := by
      have := hfs 2 _ rfl
      simpa [e3] using this
    have t3 : DataW.trod enc Tryz.prog W 0 (fun _ => true) true n' 29 [c3] = some y3 := by
      have := hfs 3 _ rfl
      simpa [e3] using this
    have hw : ∀ y, y ∈ y2.1.weights Tryz.prog 29 ∨ y ∈ y3.1.weights Tryz.prog 29 → y ≤ reachBytes := fun y hy => hsz y (by
      rw [hd]
      simp only [DataW.weights, Tryz.underlying93]
      simp [DataW.weightsEach]
      rcases hy with hy | hy
      · exact .inr (.inr (.inl hy))
      · exact .inr (.inr (.inr hy)))
    obtain ⟨l2, hb2, hl2⟩ := bytes_cell_sizedH t2 (fun y hy => hw y (.inl hy))
    obtain ⟨l3, hb3, hl3⟩ := bytes_cell_sizedH t3 (fun y hy => hw y (.inr hy))
    obtain ⟨z0, g0, _⟩ := DataW.trod_int Tryz.underlying3 t0
    obtain ⟨z1, g1, _⟩ := DataW.trod_int Tryz.underlying3 t1
    obtain rfl : c0 = .int .i64 z0 := by simpa using g0
    obtain rfl : c1 = .int .i64 z1 := by simpa using g1
    exact ⟨⟨z0, z1, l2, l3⟩, rfl, rfl, hb2, hb3, hl2, hl3⟩
/-- a cell that reads as a slice of what is known -/
theorem knowns_read {H : Type} {enc : TypeId × Value → H} {W : World} {fuel : Nat} {v : Value} {x : DataW H × List MemPlace}
    (hf : DataW.trod enc Tryz.prog W 0 (fun _ => true) true fuel 77 [v] = some x) (hsz : ∀ y ∈ x.1.weights Tryz.prog 77, y ≤ reachBytes) :
    ∃ l, Knowns W W.heap.size v l ∧ (∀ k ∈ l, k.fits) ∧ l.length < 2305843009213693952 := by
  rcases Deep.open_slice Tryz.underlying77 hf with ⟨hcs, _⟩ | ⟨a, len, cap, m, n, D, Pl, hcs, _, hl, hm, hmm, hx, hel⟩
  · obtain rfl : v = .slice none 0 0 := by simpa using hcs
    exact ⟨[], Knowns.nil _ _, by simp, by simp⟩
  · obtain rfl : v = .slice (some a) len cap := by simpa using hcs
    have hm' : m = cap := by simpa using hmm
    subst hm'
    have hc4 : Tryz.prog.cellsOf 93 = 4 := by kernel_rfl
    have hb64 : Tryz.prog.bytesOf 93 = 64 := by kernel_rfl
    have hlen : len < 2305843009213693952 := by
      have := hsz ((len + (m - len)) * 64) (by rw [hx]; simp [DataW.weights, Tryz.underlying77, hb64])
      simp only [reachBytes] at this
      omega
    haveI : Inhabited KnR := ⟨⟨Kn.none, undef, undef⟩⟩
    obtain ⟨l, h1, h2, h3⟩ := recs_of (W := W) (a := a) (len := len) (m := m) (k := 4) knRow (fun q : KnR => q.ok W W.heap.size ∧ q.k.fits) (by omega) (fun _ => rfl) hl (fun i hi => by
      obtain ⟨cs', g1, g2⟩ := hel i (by omega)
      rw [hc4] at g1
      obtain ⟨_, hcl, _⟩ := World.cells?_some g1
      match cs', hcl with
      | [c0, c1, c2, c3], _ =>
        obtain ⟨k, rfl, rfl, b2, b3, hfit⟩ := known_cells g2 (fun y hy => hsz y (by
          rw [hx]
          simp only [DataW.weights, Tryz.underlying77, List.mem_cons, List.mem_append]
          exact .inr (.inl (weights_all_memH _ _ _ (D i) (List.mem_map.2 ⟨i, List.mem_range.2 hi, rfl⟩) y hy))))
        exact ⟨⟨k, c2, c3⟩, g1, ⟨b2, b3⟩, hfit⟩)
    refine ⟨l.map (·.k), ⟨l, rfl, h1, fun q hq => (h2 q hq).1⟩, fun k hk => ?_, by simp; omega⟩
    obtain ⟨q, hq, rfl⟩ := List.mem_map.1 hk
    exact (h2 q hq).2
/-- a client's four cells -/
theorem client_cells {H : Type} {enc : TypeId × Value → H} {W : World} {fuel : Nat} {c0 c1 c2 c3 : Value} {x : DataW H × List MemPlace}
    (hf : DataW.trod enc Tryz.prog W 0 (fun _ => true) true fuel 79 [c0, c1, c2, c3] = some x) (hsz : ∀ y ∈ x.1.weights Tryz.prog 79, y ≤ reachBytes) :
    ∃ c : Cl, c0 = .string c.chain ∧ c1 = .int .i64 c.trust ∧ c2 = .bool c.frozen ∧ Knowns W W.heap.size c3 c.known ∧ c.fits := by
  obtain ⟨xs, n', _, hd, _, hlen, hfs⟩ := DataW.trod_struct Tryz.underlying79 hf
  have e0 : Tryz.prog.cellsOf 9 = 1 := by kernel_rfl
  have e1 : Tryz.prog.cellsOf 3 = 1 := by kernel_rfl
  have e2 : Tryz.prog.cellsOf 4 = 1 := by kernel_rfl
  have e3 : Tryz.prog.cellsOf 77 = 1 := by kernel_rfl
  match xs, hlen with
  | [y0, y1, y2, y3], _ =>
    have t0 : DataW.trod enc Tryz.prog W 0 (fun _ => true) true n' 9 [c0] = some y0 := by
      have := hfs 0 _ rfl
      simpa [e0] using this
    have t1 : DataW.trod enc Tryz.prog W 0 (fun _ => true) true n' 3 [c1] = some y1 := by
      have := hfs 1 _ rfl
      simpa [e1] using this
    have t2 : DataW.trod enc Tryz.prog W 0 (fun _ => true) true n' 4 [c2] = some y2 := by
      have := hfs 2 _ rfl
      simpa [e2] using this
    have t3 : DataW.trod enc Tryz.prog W 0 (fun _ => true) true n' 77 [c3] = some y3 := by
      have := hfs 3 _ rfl
      simpa [e3] using this
    have hw : ∀ y, y ∈ y0.1.weights Tryz.prog 9 ∨ y ∈ y3.1.weights Tryz.prog 77 → y ≤ reachBytes := fun y hy => hsz y (by
      rw [hd]
      simp only [DataW.weights, Tryz.underlying79]
      simp [DataW.weightsEach]
      rcases hy with hy | hy
      · exact .inl hy
      · exact .inr (.inr (.inr hy)))
    obtain ⟨l3, hb3, hf3, hl3⟩ := knowns_read t3 (fun y hy => hw y (.inr hy))
    obtain ⟨s, g0, q0, _⟩ := DataW.trod_string Tryz.underlying9 t0
    obtain ⟨z1, g1, _⟩ := DataW.trod_int Tryz.underlying3 t1
    obtain ⟨z2, g2, _⟩ := DataW.trod_bool Tryz.underlying4 t2
    obtain rfl : c0 = .string s := by simpa using g0
    obtain rfl : c1 = .int .i64 z1 := by simpa using g1
    obtain rfl : c2 = .bool z2 := by simpa using g2
    have hs : s.size ≤ 140737488351232 := by
      have := hw s.size (.inl (by rw [q0]; simp [DataW.weights]))
      simpa [reachBytes] using this
    exact ⟨⟨s, z1, z2, l3⟩, rfl, rfl, rfl, hb3, hs, hl3, hf3⟩
end Go.Proofs.YtclhcjiblfokaaaGreatDoor
namespace Go.Proofs.YtclhcjiblfokaaaGreatDoor
open Go.ChangeShapes Go.WideShapes Go.ChangeAt Go.RowKit

/-- rows of k cells, each of which reads as something -/
theorem many_of {W : World} {a : Addr} {len m k : Nat} {α : Type} {R : World → Nat → List Value → α → Prop} (d : α) (P : α → Prop) (hk : 0 < k) (hl : len ≤ m)
    (each : ∀ i, i < len → ∃ r x, W.cells? 0 (a.add (i * k)) k = some r ∧ r.length = k ∧ R W W.heap.size r x ∧ P x) : ∃ l : List α, Many R k W W.heap.size (.slice (some a) len m) l ∧ (∀ x ∈ l, P x) ∧ l.length = len := by
  haveI : Inhabited { p : List Value × α // p.1.length = k } := ⟨⟨(List.replicate k undef, d), by simp⟩⟩
  obtain ⟨l, h1, h2, h3⟩ := recs_of (W := W) (a := a) (len := len) (m := m) (k := k) (fun p : { p : List Value × α // p.1.length = k } => p.1.1) (fun p => R W W.heap.size p.1.1 p.1.2 ∧ P p.1.2) hk (fun p => p.2) hl (fun i hi => by
    obtain ⟨r, x, g1, g2, g3⟩ := each i hi
    exact ⟨⟨(r, x), g2⟩, g1, g3⟩)
  refine ⟨l.map (fun p => p.1.2), ⟨_, by simp, h1, fun i r x hr hx => ?_⟩, fun x hx => ?_, by simpa using h3⟩
  · rw [List.getElem?_map] at hr hx
    cases e : l[i]? with
    | none => rw [e] at hr; simp at hr
    | some p =>
      rw [e] at hr hx
      simp at hr hx
      subst hr hx
      exact (h2 p (List.mem_of_getElem? e)).1
  · obtain ⟨p, hp, rfl⟩ := List.mem_map.1 hx
    exact (h2 p hp).2
theorem cn_cellsS {H : Type} {enc : TypeId × Value → H} {W : World} {fuel : Nat} {c0 c1 c2 c3 : Value} {x : DataW H × List MemPlace}
    (hf : DataW.trod enc Tryz.prog W 0 (fun _ => true) true fuel 89 [c0, c1, c2, c3] = some x) (_hsz : ∀ y ∈ x.1.weights Tryz.prog 89, y ≤ reachBytes) :
    ∃ q : Cn, CnR W W.heap.size [c0, c1, c2, c3] q ∧ True := by
  obtain ⟨xs, n', _, hd, _, hlen, hfs⟩ := DataW.trod_struct Tryz.underlying89 hf
  have ei : Tryz.prog.cellsOf 3 = 1 := by kernel_rfl
  match xs, hlen with
  | [y0, y1, y2, y3], _ =>
    have t0 : DataW.trod enc Tryz.prog W 0 (fun _ => true) true n' 3 [c0] = some y0 := by
      have := hfs 0 _ rfl
      simpa [ei] using this
    have t1 : DataW.trod enc Tryz.prog W 0 (fun _ => true) true n' 3 [c1] = some y1 := by
      have := hfs 1 _ rfl
      simpa [ei] using this
    have t2 : DataW.trod enc Tryz.prog W 0 (fun _ => true) true n' 3 [c2] = some y2 := by
      have := hfs 2 _ rfl
      simpa [ei] using this
    have t3 : DataW.trod enc Tryz.prog W 0 (fun _ => true) true n' 3 [c3] = some y3 := by
      have := hfs 3 _ rfl
      simpa [ei] using this
    obtain ⟨z0, g0, _⟩ := DataW.trod_int Tryz.underlying3 t0
    obtain rfl : c0 = .int .i64 z0 := by simpa using g0
    obtain ⟨z1, g1, _⟩ := DataW.trod_int Tryz.underlying3 t1
    obtain rfl : c1 = .int .i64 z1 := by simpa using g1
    obtain ⟨z2, g2, _⟩ := DataW.trod_int Tryz.underlying3 t2
    obtain rfl : c2 = .int .i64 z2 := by simpa using g2
    obtain ⟨z3, g3, _⟩ := DataW.trod_int Tryz.underlying3 t3
    obtain rfl : c3 = .int .i64 z3 := by simpa using g3
    exact ⟨⟨z0, z1, z2, z3⟩, rfl, trivial⟩
theorem ch_cellsS {H : Type} {enc : TypeId × Value → H} {W : World} {fuel : Nat} {c0 c1 c2 c3 c4 c5 c6 : Value} {x : DataW H × List MemPlace}
    (hf : DataW.trod enc Tryz.prog W 0 (fun _ => true) true fuel 53 [c0, c1, c2, c3, c4, c5, c6] = some x) (_hsz : ∀ y ∈ x.1.weights Tryz.prog 53, y ≤ reachBytes) :
    ∃ q : Ch, ChR W W.heap.size [c0, c1, c2, c3, c4, c5, c6] q ∧ True := by
  obtain ⟨xs, n', _, hd, _, hlen, hfs⟩ := DataW.trod_struct Tryz.underlying53 hf
  have eb : Tryz.prog.cellsOf 4 = 1 := by kernel_rfl
  have ei : Tryz.prog.cellsOf 3 = 1 := by kernel_rfl
  match xs, hlen with
  | [y0, y1, y2, y3, y4, y5, y6], _ =>
    have t0 : DataW.trod enc Tryz.prog W 0 (fun _ => true) true n' 3 [c0] = some y0 := by
      have := hfs 0 _ rfl
      simpa [eb, ei] using this
    have t1 : DataW.trod enc Tryz.prog W 0 (fun _ => true) true n' 4 [c1] = some y1 := by
      have := hfs 1 _ rfl
      simpa [eb, ei] using this
    have t2 : DataW.trod enc Tryz.prog W 0 (fun _ => true) true n' 3 [c2] = some y2 := by
      have := hfs 2 _ rfl
      simpa [eb, ei] using this
    have t3 : DataW.trod enc Tryz.prog W 0 (fun _ => true) true n' 3 [c3] = some y3 := by
      have := hfs 3 _ rfl
      simpa [eb, ei] using this
    have t4 : DataW.trod enc Tryz.prog W 0 (fun _ => true) true n' 3 [c4] = some y4 := by
      have := hfs 4 _ rfl
      simpa [eb, ei] using this
    have t5 : DataW.trod enc Tryz.prog W 0 (fun _ => true) true n' 3 [c5] = some y5 := by
      have := hfs 5 _ rfl
      simpa [eb, ei] using this
    have t6 : DataW.trod enc Tryz.prog W 0 (fun _ => true) true n' 3 [c6] = some y6 := by
      have := hfs 6 _ rfl
      simpa [eb, ei] using this
    obtain ⟨z0, g0, _⟩ := DataW.trod_int Tryz.underlying3 t0
    obtain rfl : c0 = .int .i64 z0 := by simpa using g0
    obtain ⟨z1, g1, _⟩ := DataW.trod_bool Tryz.underlying4 t1
    obtain rfl : c1 = .bool z1 := by simpa using g1
    obtain ⟨z2, g2, _⟩ := DataW.trod_int Tryz.underlying3 t2
    obtain rfl : c2 = .int .i64 z2 := by simpa using g2
    obtain ⟨z3, g3, _⟩ := DataW.trod_int Tryz.underlying3 t3
    obtain rfl : c3 = .int .i64 z3 := by simpa using g3
    obtain ⟨z4, g4, _⟩ := DataW.trod_int Tryz.underlying3 t4
    obtain rfl : c4 = .int .i64 z4 := by simpa using g4
    obtain ⟨z5, g5, _⟩ := DataW.trod_int Tryz.underlying3 t5
    obtain rfl : c5 = .int .i64 z5 := by simpa using g5
    obtain ⟨z6, g6, _⟩ := DataW.trod_int Tryz.underlying3 t6
    obtain rfl : c6 = .int .i64 z6 := by simpa using g6
    exact ⟨⟨z0, z1, z2, z3, z4, z5, z6⟩, rfl, trivial⟩
theorem mk_cellsS {H : Type} {enc : TypeId × Value → H} {W : World} {fuel : Nat} {c0 c1 c2 : Value} {x : DataW H × List MemPlace}
    (hf : DataW.trod enc Tryz.prog W 0 (fun _ => true) true fuel 59 [c0, c1, c2] = some x) (hsz : ∀ y ∈ x.1.weights Tryz.prog 59, y ≤ reachBytes) :
    ∃ q : Mk, MkR W W.heap.size [c0, c1, c2] q ∧ q.fits := by
  obtain ⟨xs, n', _, hd, _, hlen, hfs⟩ := DataW.trod_struct Tryz.underlying59 hf
  have ei : Tryz.prog.cellsOf 3 = 1 := by kernel_rfl
  have ey : Tryz.prog.cellsOf 29 = 1 := by kernel_rfl
  match xs, hlen with
  | [y0, y1, y2], _ =>
    have t0 : DataW.trod enc Tryz.prog W 0 (fun _ => true) true n' 3 [c0] = some y0 := by
      have := hfs 0 _ rfl
      simpa [ei, ey] using this
    have t1 : DataW.trod enc Tryz.prog W 0 (fun _ => true) true n' 3 [c1] = some y1 := by
      have := hfs 1 _ rfl
      simpa [ei, ey] using this
    have t2 : DataW.trod enc Tryz.prog W 0 (fun _ => true) true n' 29 [c2] = some y2 := by
      have := hfs 2 _ rfl
      simpa [ei, ey] using this
    have hw : ∀ y, y ∈ y2.1.weights Tryz.prog 29 → y ≤ reachBytes := fun y hy => hsz y (by
      rw [hd]
      simp only [DataW.weights, Tryz.underlying59]
      simp [DataW.weightsEach]
      exact (.inr (.inr hy)))
    obtain ⟨z0, g0, _⟩ := DataW.trod_int Tryz.underlying3 t0
    obtain rfl : c0 = .int .i64 z0 := by simpa using g0
    obtain ⟨z1, g1, _⟩ := DataW.trod_int Tryz.underlying3 t1
    obtain rfl : c1 = .int .i64 z1 := by simpa using g1
    obtain ⟨l2, hb2, hl2⟩ := bytes_cell_sizedH t2 (fun y hy => hw y hy)
    exact ⟨⟨z0, z1, l2⟩, ⟨c2, rfl, hb2⟩, hl2⟩
theorem pu_cellsS {H : Type} {enc : TypeId × Value → H} {W : World} {fuel : Nat} {c0 c1 c2 : Value} {x : DataW H × List MemPlace}
    (hf : DataW.trod enc Tryz.prog W 0 (fun _ => true) true fuel 98 [c0, c1, c2] = some x) (hsz : ∀ y ∈ x.1.weights Tryz.prog 98, y ≤ reachBytes) :
    ∃ q : Pu, PuR W W.heap.size [c0, c1, c2] q ∧ q.fits := by
  obtain ⟨xs, n', _, hd, _, hlen, hfs⟩ := DataW.trod_struct Tryz.underlying98 hf
  have es : Tryz.prog.cellsOf 9 = 1 := by kernel_rfl
  have eu : Tryz.prog.cellsOf 69 = 1 := by kernel_rfl
  match xs, hlen with
  | [y0, y1, y2], _ =>
    have t0 : DataW.trod enc Tryz.prog W 0 (fun _ => true) true n' 9 [c0] = some y0 := by
      have := hfs 0 _ rfl
      simpa [es, eu] using this
    have t1 : DataW.trod enc Tryz.prog W 0 (fun _ => true) true n' 9 [c1] = some y1 := by
      have := hfs 1 _ rfl
      simpa [es, eu] using this
    have t2 : DataW.trod enc Tryz.prog W 0 (fun _ => true) true n' 69 [c2] = some y2 := by
      have := hfs 2 _ rfl
      simpa [es, eu] using this
    have hw : ∀ y, y ∈ y0.1.weights Tryz.prog 9 ∨ y ∈ y1.1.weights Tryz.prog 9 → y ≤ reachBytes := fun y hy => hsz y (by
      rw [hd]
      simp only [DataW.weights, Tryz.underlying98]
      simp [DataW.weightsEach]
      rcases hy with hy | hy
      · exact (.inl hy)
      · exact (.inr (.inl hy)))
    obtain ⟨s0, g0, q0, _⟩ := DataW.trod_string Tryz.underlying9 t0
    obtain rfl : c0 = .string s0 := by simpa using g0
    have hs0 : s0.size ≤ 140737488351232 := by
      have := hw s0.size ((fun hy => (.inl hy)) (by rw [q0]; simp [DataW.weights]))
      simpa [reachBytes] using this
    obtain ⟨s1, g1, q1, _⟩ := DataW.trod_string Tryz.underlying9 t1
    obtain rfl : c1 = .string s1 := by simpa using g1
    have hs1 : s1.size ≤ 140737488351232 := by
      have := hw s1.size ((fun hy => (.inr hy)) (by rw [q1]; simp [DataW.weights]))
      simpa [reachBytes] using this
    obtain ⟨z2, g2, _, f2⟩ := DataW.trod_int Tryz.underlying69 t2
    obtain ⟨n2, rfl, b2⟩ := num_of f2
    obtain rfl : c2 = .int .u64 n2 := by simpa using g2
    exact ⟨⟨s0, s1, n2⟩, rfl, hs0, hs1, b2⟩
theorem conns_read {H : Type} {enc : TypeId × Value → H} {W : World} {fuel : Nat} {v : Value} {x : DataW H × List MemPlace}
    (hf : DataW.trod enc Tryz.prog W 0 (fun _ => true) true fuel 23 [v] = some x) (hsz : ∀ y ∈ x.1.weights Tryz.prog 23, y ≤ reachBytes) :
    ∃ l : List Cn, Many CnR 4 W W.heap.size v l ∧ (∀ q ∈ l, True) ∧ l.length < 2305843009213693952 := by
  rcases Deep.open_slice Tryz.underlying23 hf with ⟨hcs, _⟩ | ⟨a, len, cap, m, n, D, Pl, hcs, _, hl, hm, hmm, hx, hel⟩
  · obtain rfl : v = .slice none 0 0 := by simpa using hcs
    exact ⟨[], Many.nil _ _ _ _, fun _ h => (by cases h), by simp⟩
  · obtain rfl : v = .slice (some a) len cap := by simpa using hcs
    have hm' : m = cap := by simpa using hmm
    subst hm'
    have hck : Tryz.prog.cellsOf 89 = 4 := by kernel_rfl
    have hbk : Tryz.prog.bytesOf 89 = 32 := by kernel_rfl
    have hlen : len < 2305843009213693952 := by
      have := hsz ((len + (m - len)) * 32) (by rw [hx]; simp [DataW.weights, Tryz.underlying23, hbk])
      simp only [reachBytes] at this
      omega
    obtain ⟨l, h1, h2, h3⟩ := many_of (W := W) (a := a) (len := len) (m := m) (k := 4) (R := CnR) ⟨0, 0, 0, 0⟩ (fun q => True) (by omega) hl (fun i hi => by
      obtain ⟨cs', g1, g2⟩ := hel i (by omega)
      rw [hck] at g1
      obtain ⟨_, hcl, _⟩ := World.cells?_some g1
      match cs', hcl with
      | [c0, c1, c2, c3], _ =>
        obtain ⟨q, hq, _⟩ := cn_cellsS g2 (fun y hy => hsz y (by
          rw [hx]
          simp only [DataW.weights, Tryz.underlying23, List.mem_cons, List.mem_append]
          exact .inr (.inl (weights_all_memH _ _ _ (D i) (List.mem_map.2 ⟨i, List.mem_range.2 hi, rfl⟩) y hy))))
        exact ⟨_, q, g1, rfl, hq, trivial⟩)
    exact ⟨l, h1, h2, by omega⟩
theorem chans_read {H : Type} {enc : TypeId × Value → H} {W : World} {fuel : Nat} {v : Value} {x : DataW H × List MemPlace}
    (hf : DataW.trod enc Tryz.prog W 0 (fun _ => true) true fuel 24 [v] = some x) (hsz : ∀ y ∈ x.1.weights Tryz.prog 24, y ≤ reachBytes) :
    ∃ l : List Ch, Many ChR 7 W W.heap.size v l ∧ (∀ q ∈ l, True) ∧ l.length < 2305843009213693952 := by
  rcases Deep.open_slice Tryz.underlying24 hf with ⟨hcs, _⟩ | ⟨a, len, cap, m, n, D, Pl, hcs, _, hl, hm, hmm, hx, hel⟩
  · obtain rfl : v = .slice none 0 0 := by simpa using hcs
    exact ⟨[], Many.nil _ _ _ _, fun _ h => (by cases h), by simp⟩
  · obtain rfl : v = .slice (some a) len cap := by simpa using hcs
    have hm' : m = cap := by simpa using hmm
    subst hm'
    have hck : Tryz.prog.cellsOf 53 = 7 := by kernel_rfl
    have hbk : Tryz.prog.bytesOf 53 = 56 := by kernel_rfl
    have hlen : len < 2305843009213693952 := by
      have := hsz ((len + (m - len)) * 56) (by rw [hx]; simp [DataW.weights, Tryz.underlying24, hbk])
      simp only [reachBytes] at this
      omega
    obtain ⟨l, h1, h2, h3⟩ := many_of (W := W) (a := a) (len := len) (m := m) (k := 7) (R := ChR) ⟨0, false, 0, 0, 0, 0, 0⟩ (fun q => True) (by omega) hl (fun i hi => by
      obtain ⟨cs', g1, g2⟩ := hel i (by omega)
      rw [hck] at g1
      obtain ⟨_, hcl, _⟩ := World.cells?_some g1
      match cs', hcl with
      | [c0, c1, c2, c3, c4, c5, c6], _ =>
        obtain ⟨q, hq, _⟩ := ch_cellsS g2 (fun y hy => hsz y (by
          rw [hx]
          simp only [DataW.weights, Tryz.underlying24, List.mem_cons, List.mem_append]
          exact .inr (.inl (weights_all_memH _ _ _ (D i) (List.mem_map.2 ⟨i, List.mem_range.2 hi, rfl⟩) y hy))))
        exact ⟨_, q, g1, rfl, hq, trivial⟩)
    exact ⟨l, h1, h2, by omega⟩
theorem marks_read {H : Type} {enc : TypeId × Value → H} {W : World} {fuel : Nat} {v : Value} {x : DataW H × List MemPlace}
    (hf : DataW.trod enc Tryz.prog W 0 (fun _ => true) true fuel 25 [v] = some x) (hsz : ∀ y ∈ x.1.weights Tryz.prog 25, y ≤ reachBytes) :
    ∃ l : List Mk, Many MkR 3 W W.heap.size v l ∧ (∀ q ∈ l, q.fits) ∧ l.length < 2305843009213693952 := by
  rcases Deep.open_slice Tryz.underlying25 hf with ⟨hcs, _⟩ | ⟨a, len, cap, m, n, D, Pl, hcs, _, hl, hm, hmm, hx, hel⟩
  · obtain rfl : v = .slice none 0 0 := by simpa using hcs
    exact ⟨[], Many.nil _ _ _ _, fun _ h => (by cases h), by simp⟩
  · obtain rfl : v = .slice (some a) len cap := by simpa using hcs
    have hm' : m = cap := by simpa using hmm
    subst hm'
    have hck : Tryz.prog.cellsOf 59 = 3 := by kernel_rfl
    have hbk : Tryz.prog.bytesOf 59 = 40 := by kernel_rfl
    have hlen : len < 2305843009213693952 := by
      have := hsz ((len + (m - len)) * 40) (by rw [hx]; simp [DataW.weights, Tryz.underlying25, hbk])
      simp only [reachBytes] at this
      omega
    obtain ⟨l, h1, h2, h3⟩ := many_of (W := W) (a := a) (len := len) (m := m) (k := 3) (R := MkR) ⟨0, 0, []⟩ (fun q => q.fits) (by omega) hl (fun i hi => by
      obtain ⟨cs', g1, g2⟩ := hel i (by omega)
      rw [hck] at g1
      obtain ⟨_, hcl, _⟩ := World.cells?_some g1
      match cs', hcl with
      | [c0, c1, c2], _ =>
        obtain ⟨q, hq, hqf⟩ := mk_cellsS g2 (fun y hy => hsz y (by
          rw [hx]
          simp only [DataW.weights, Tryz.underlying25, List.mem_cons, List.mem_append]
          exact .inr (.inl (weights_all_memH _ _ _ (D i) (List.mem_map.2 ⟨i, List.mem_range.2 hi, rfl⟩) y hy))))
        exact ⟨_, q, g1, rfl, hq, hqf⟩)
    exact ⟨l, h1, h2, by omega⟩
theorem purses_read {H : Type} {enc : TypeId × Value → H} {W : World} {fuel : Nat} {v : Value} {x : DataW H × List MemPlace}
    (hf : DataW.trod enc Tryz.prog W 0 (fun _ => true) true fuel 26 [v] = some x) (hsz : ∀ y ∈ x.1.weights Tryz.prog 26, y ≤ reachBytes) :
    ∃ l : List Pu, Many PuR 3 W W.heap.size v l ∧ (∀ q ∈ l, q.fits) ∧ l.length < 2305843009213693952 := by
  rcases Deep.open_slice Tryz.underlying26 hf with ⟨hcs, _⟩ | ⟨a, len, cap, m, n, D, Pl, hcs, _, hl, hm, hmm, hx, hel⟩
  · obtain rfl : v = .slice none 0 0 := by simpa using hcs
    exact ⟨[], Many.nil _ _ _ _, fun _ h => (by cases h), by simp⟩
  · obtain rfl : v = .slice (some a) len cap := by simpa using hcs
    have hm' : m = cap := by simpa using hmm
    subst hm'
    have hck : Tryz.prog.cellsOf 98 = 3 := by kernel_rfl
    have hbk : Tryz.prog.bytesOf 98 = 40 := by kernel_rfl
    have hlen : len < 2305843009213693952 := by
      have := hsz ((len + (m - len)) * 40) (by rw [hx]; simp [DataW.weights, Tryz.underlying26, hbk])
      simp only [reachBytes] at this
      omega
    obtain ⟨l, h1, h2, h3⟩ := many_of (W := W) (a := a) (len := len) (m := m) (k := 3) (R := PuR) ⟨⟨#[]⟩, ⟨#[]⟩, 0⟩ (fun q => q.fits) (by omega) hl (fun i hi => by
      obtain ⟨cs', g1, g2⟩ := hel i (by omega)
      rw [hck] at g1
      obtain ⟨_, hcl, _⟩ := World.cells?_some g1
      match cs', hcl with
      | [c0, c1, c2], _ =>
        obtain ⟨q, hq, hqf⟩ := pu_cellsS g2 (fun y hy => hsz y (by
          rw [hx]
          simp only [DataW.weights, Tryz.underlying26, List.mem_cons, List.mem_append]
          exact .inr (.inl (weights_all_memH _ _ _ (D i) (List.mem_map.2 ⟨i, List.mem_range.2 hi, rfl⟩) y hy))))
        exact ⟨_, q, g1, rfl, hq, hqf⟩)
    exact ⟨l, h1, h2, by omega⟩
theorem clients_read {H : Type} {enc : TypeId × Value → H} {W : World} {fuel : Nat} {v : Value} {x : DataW H × List MemPlace}
    (hf : DataW.trod enc Tryz.prog W 0 (fun _ => true) true fuel 22 [v] = some x) (hsz : ∀ y ∈ x.1.weights Tryz.prog 22, y ≤ reachBytes) :
    ∃ l : List Cl, Many ClR 4 W W.heap.size v l ∧ (∀ q ∈ l, q.fits) ∧ l.length < 2305843009213693952 := by
  rcases Deep.open_slice Tryz.underlying22 hf with ⟨hcs, _⟩ | ⟨a, len, cap, m, n, D, Pl, hcs, _, hl, hm, hmm, hx, hel⟩
  · obtain rfl : v = .slice none 0 0 := by simpa using hcs
    exact ⟨[], Many.nil _ _ _ _, fun _ h => (by cases h), by simp⟩
  · obtain rfl : v = .slice (some a) len cap := by simpa using hcs
    have hm' : m = cap := by simpa using hmm
    subst hm'
    have hck : Tryz.prog.cellsOf 79 = 4 := by kernel_rfl
    have hbk : Tryz.prog.bytesOf 79 = 56 := by kernel_rfl
    have hlen : len < 2305843009213693952 := by
      have := hsz ((len + (m - len)) * 56) (by rw [hx]; simp [DataW.weights, Tryz.underlying22, hbk])
      simp only [reachBytes] at this
      omega
    obtain ⟨l, h1, h2, h3⟩ := many_of (W := W) (a := a) (len := len) (m := m) (k := 4) (R := ClR) Cl.none (fun q => q.fits) (by omega) hl (fun i hi => by
      obtain ⟨cs', g1, g2⟩ := hel i (by omega)
      rw [hck] at g1
      obtain ⟨_, hcl, _⟩ := World.cells?_some g1
      match cs', hcl with
      | [c0, c1, c2, c3], _ =>
        obtain ⟨q, rfl, rfl, rfl, hq, hqf⟩ := client_cells g2 (fun y hy => hsz y (by
          rw [hx]
          simp only [DataW.weights, Tryz.underlying22, List.mem_cons, List.mem_append]
          exact .inr (.inl (weights_all_memH _ _ _ (D i) (List.mem_map.2 ⟨i, List.mem_range.2 hi, rfl⟩) y hy))))
        exact ⟨_, q, g1, rfl, ⟨c3, rfl, hq⟩, hqf⟩)
    exact ⟨l, h1, h2, by omega⟩
theorem cellsState : Tryz.prog.cellsOf 28 = 10 := by kernel_rfl
set_option maxRecDepth 100000 in
/-- an argument that reads as a state -/
theorem state_read {H : Type} {enc : TypeId × Value → H} {W : World} {base : Nat} {v : Value} {d : DataW H} {p : List MemPlace}
    (hval : Value.okWide Tryz.prog W .any base 28 v) (h : DataW.Trod enc Tryz.prog W 0 (fun _ => true) true 28 v d p) (hsz : ∀ y ∈ d.weights Tryz.prog 28, y ≤ reachBytes) :
    ∃ g : St, StV W W.heap.size v g ∧ g.fits := by
  obtain ⟨cs, rfl, hcs⟩ := okWide_struct Tryz.underlying28 hval
  rw [cellsState] at hcs
  obtain ⟨l⟩ := cs
  match l, hcs with
  | [c0, c1, c2, c3, c4, c5, c6, c7, c8, c9], _ =>
    obtain ⟨fuel, hf⟩ := h
    have hf' : DataW.trod enc Tryz.prog W 0 (fun _ => true) true fuel 28 [c0, c1, c2, c3, c4, c5, c6, c7, c8, c9] = some (d, p) := hf
    obtain ⟨xs, n', _, hd, _, hlen, hfs⟩ := DataW.trod_struct Tryz.underlying28 hf'
    have e1 : Tryz.prog.cellsOf 9 = 1 := by kernel_rfl
    have e2 : Tryz.prog.cellsOf 3 = 1 := by kernel_rfl
    have e3 : Tryz.prog.cellsOf 22 = 1 := by kernel_rfl
    have e4 : Tryz.prog.cellsOf 23 = 1 := by kernel_rfl
    have e5 : Tryz.prog.cellsOf 24 = 1 := by kernel_rfl
    have e6 : Tryz.prog.cellsOf 25 = 1 := by kernel_rfl
    have e7 : Tryz.prog.cellsOf 26 = 1 := by kernel_rfl
    match xs, hlen with
    | [y0, y1, y2, y3, y4, y5, y6, y7, y8, y9], _ =>
      have t0 : DataW.trod enc Tryz.prog W 0 (fun _ => true) true n' 9 [c0] = some y0 := by
        have := hfs 0 _ rfl
        simpa [e1, e2, e3, e4, e5, e6, e7] using this
      have t1 : DataW.trod enc Tryz.prog W 0 (fun _ => true) true n' 3 [c1] = some y1 := by
        have := hfs 1 _ rfl
        simpa [e1, e2, e3, e4, e5, e6, e7] using this
      have t2 : DataW.trod enc Tryz.prog W 0 (fun _ => true) true n' 3 [c2] = some y2 := by
        have := hfs 2 _ rfl
        simpa [e1, e2, e3, e4, e5, e6, e7] using this
      have t3 : DataW.trod enc Tryz.prog W 0 (fun _ => true) true n' 22 [c3] = some y3 := by
        have := hfs 3 _ rfl
        simpa [e1, e2, e3, e4, e5, e6, e7] using this
      have t4 : DataW.trod enc Tryz.prog W 0 (fun _ => true) true n' 23 [c4] = some y4 := by
        have := hfs 4 _ rfl
        simpa [e1, e2, e3, e4, e5, e6, e7] using this
      have t5 : DataW.trod enc Tryz.prog W 0 (fun _ => true) true n' 24 [c5] = some y5 := by
        have := hfs 5 _ rfl
        simpa [e1, e2, e3, e4, e5, e6, e7] using this
      have t6 : DataW.trod enc Tryz.prog W 0 (fun _ => true) true n' 25 [c6] = some y6 := by
        have := hfs 6 _ rfl
        simpa [e1, e2, e3, e4, e5, e6, e7] using this
      have t7 : DataW.trod enc Tryz.prog W 0 (fun _ => true) true n' 25 [c7] = some y7 := by
        have := hfs 7 _ rfl
        simpa [e1, e2, e3, e4, e5, e6, e7] using this
      have t8 : DataW.trod enc Tryz.prog W 0 (fun _ => true) true n' 25 [c8] = some y8 := by
        have := hfs 8 _ rfl
        simpa [e1, e2, e3, e4, e5, e6, e7] using this
      have t9 : DataW.trod enc Tryz.prog W 0 (fun _ => true) true n' 26 [c9] = some y9 := by
        have := hfs 9 _ rfl
        simpa [e1, e2, e3, e4, e5, e6, e7] using this
      have hd1 : d = .agg [y0.1, y1.1, y2.1, y3.1, y4.1, y5.1, y6.1, y7.1, y8.1, y9.1] := congrArg Prod.fst hd
      have w0 : ∀ y ∈ y0.1.weights Tryz.prog 9, y ≤ reachBytes := fun y hy => hsz y (by
        rw [hd1]
        simp only [DataW.weights, Tryz.underlying28]
        simp [DataW.weightsEach]
        exact (.inl hy))
      have w3 : ∀ y ∈ y3.1.weights Tryz.prog 22, y ≤ reachBytes := fun y hy => hsz y (by
        rw [hd1]
        simp only [DataW.weights, Tryz.underlying28]
        simp [DataW.weightsEach]
        exact (.inr (.inr (.inr (.inl hy)))))
      have w4 : ∀ y ∈ y4.1.weights Tryz.prog 23, y ≤ reachBytes := fun y hy => hsz y (by
        rw [hd1]
        simp only [DataW.weights, Tryz.underlying28]
        simp [DataW.weightsEach]
        exact (.inr (.inr (.inr (.inr (.inl hy))))))
      have w5 : ∀ y ∈ y5.1.weights Tryz.prog 24, y ≤ reachBytes := fun y hy => hsz y (by
        rw [hd1]
        simp only [DataW.weights, Tryz.underlying28]
        simp [DataW.weightsEach]
        exact (.inr (.inr (.inr (.inr (.inr (.inl hy)))))))
      have w6 : ∀ y ∈ y6.1.weights Tryz.prog 25, y ≤ reachBytes := fun y hy => hsz y (by
        rw [hd1]
        simp only [DataW.weights, Tryz.underlying28]
        simp [DataW.weightsEach]
        exact (.inr (.inr (.inr (.inr (.inr (.inr (.inl hy))))))))
      have w7 : ∀ y ∈ y7.1.weights Tryz.prog 25, y ≤ reachBytes := fun y hy => hsz y (by
        rw [hd1]
        simp only [DataW.weights, Tryz.underlying28]
        simp [DataW.weightsEach]
        exact (.inr (.inr (.inr (.inr (.inr (.inr (.inr (.inl hy)))))))))
      have w8 : ∀ y ∈ y8.1.weights Tryz.prog 25, y ≤ reachBytes := fun y hy => hsz y (by
        rw [hd1]
        simp only [DataW.weights, Tryz.underlying28]
        simp [DataW.weightsEach]
        exact (.inr (.inr (.inr (.inr (.inr (.inr (.inr (.inr (.inl hy))))))))))
      have w9 : ∀ y ∈ y9.1.weights Tryz.prog 26, y ≤ reachBytes := fun y hy => hsz y (by
        rw [hd1]
        simp only [DataW.weights, Tryz.underlying28]
        simp [DataW.weightsEach]
        exact (.inr (.inr (.inr (.inr (.inr (.inr (.inr (.inr (.inr hy))))))))))
      obtain ⟨s, g0, q0, _⟩ := DataW.trod_string Tryz.underlying9 t0
      obtain ⟨z1, g1, _⟩ := DataW.trod_int Tryz.underlying3 t1
      obtain ⟨z2, g2, _⟩ := DataW.trod_int Tryz.underlying3 t2
      obtain rfl : c0 = .string s := by simpa using g0
      obtain rfl : c1 = .int .i64 z1 := by simpa using g1
      obtain rfl : c2 = .int .i64 z2 := by simpa using g2
      have hs : s.size ≤ 140737488351232 := by
        have := w0 s.size (by rw [q0]; simp [DataW.weights])
        simpa [reachBytes] using this
      obtain ⟨l3, m3, f3, n3⟩ := clients_read t3 w3
      obtain ⟨l4, m4, _, n4⟩ := conns_read t4 w4
      obtain ⟨l5, m5, _, n5⟩ := chans_read t5 w5
      obtain ⟨l6, m6, f6, n6⟩ := marks_read t6 w6
      obtain ⟨l7, m7, f7, n7⟩ := marks_read t7 w7
      obtain ⟨l8, m8, f8, n8⟩ := marks_read t8 w8
      obtain ⟨l9, m9, f9, n9⟩ := purses_read t9 w9
      exact ⟨⟨s, z1, z2, l3, l4, l5, l6, l7, l8, l9⟩, ⟨c3, c4, c5, c6, c7, c8, c9, rfl, m3, m4, m5, m6, m7, m8, m9⟩, hs, ⟨n3, f3⟩, n4, n5, ⟨n6, f6⟩, ⟨n7, f7⟩, ⟨n8, f8⟩, n9, f9⟩
end Go.Proofs.YtclhcjiblfokaaaGreatDoor
namespace Go.Proofs.YtclhcjiblfokaaaGreatDoor
open Go.ChangeShapes Go.WideShapes Go.ChangeAt Go.RowKit

theorem addr_addP (b off i : Nat) : (⟨b, off, none⟩ : Addr).add i = ⟨b, off + i, none⟩ := by unfold Addr.add; split <;> simp_all
/-- a cell that reads as a slice of bytes -/
theorem bytes_cell_sizedP {H : Type} {enc : TypeId × Value → H} {W : World} {fuel : Nat} {v : Value} {x : DataW H × List MemPlace}
    (hf : DataW.trod enc Tryz.prog W 0 (fun _ => true) true fuel 29 [v] = some x) (hsz : ∀ y ∈ x.1.weights Tryz.prog 29, y ≤ reachBytes) :
    ∃ l, Bytes W W.heap.size v l ∧ l.length ≤ 140737488351232 := by
  rcases open_ints Tryz.underlying29 Tryz.underlying5 (by kernel_rfl) hf with ⟨hcs, _⟩ | ⟨a, len, cap, zs, hcs, _⟩
  · obtain rfl : v = .slice none 0 0 := by simpa using hcs
    exact ⟨[], .inl ⟨rfl, rfl⟩, by simp⟩
  · obtain rfl : v = .slice (some a) len cap := by simpa using hcs
    refine bytes_read_len (a0 := some a) (len0 := len) (cap0 := cap) (x := x) hf (fun elems spare he => ?_)
    refine hsz _ ?_
    rw [he]
    simp [DataW.weights, Tryz.underlying29]
theorem weights_all_memP {H : Type} (P : Program) (e : TypeId) (l : List (DataW H)) (d : DataW H) (hd : d ∈ l) (y : Nat) (hy : y ∈ d.weights P e) : y ∈ DataW.weightsAll P e l := by
  induction l with
  | nil => simp at hd
  | cons a r ih =>
    simp only [DataW.weightsAll, List.mem_append]
    rcases List.mem_cons.1 hd with rfl | h
    · exact .inl hy
    · exact .inr (ih h)
end Go.Proofs.YtclhcjiblfokaaaGreatDoor
namespace Go.Proofs.YtclhcjiblfokaaaGreatDoor
open Go.ChangeShapes Go.WideShapes Go.ChangeAt Go.RowKit

theorem addr_add0 (a : Addr) : a.add 0 = a := by unfold Addr.add; split <;> simp_all
/-- a cell that reads as a slice of slices of bytes -/
theorem lists_cell_sized {H : Type} {enc : TypeId × Value → H} {W : World} {fuel : Nat} {v : Value} {x : DataW H × List MemPlace}
    (hf : DataW.trod enc Tryz.prog W 0 (fun _ => true) true fuel 32 [v] = some x) (hsz : ∀ y ∈ x.1.weights Tryz.prog 32, y ≤ reachBytes) :
    ∃ l, Lists W W.heap.size v l ∧ (∀ d ∈ l, d.length ≤ 140737488351232) ∧ l.length < 2305843009213693952 := by
  rcases Deep.open_slice Tryz.underlying32 hf with ⟨hcs, _⟩ | ⟨a, len, cap, m, n, D, Pl, hcs, _, hl, hm, hmm, hx, hel⟩
  · obtain rfl : v = .slice none 0 0 := by simpa using hcs
    exact ⟨[], .inl ⟨rfl, rfl⟩, by simp, by simp⟩
  · obtain rfl : v = .slice (some a) len cap := by simpa using hcs
    have hm' : m = cap := by simpa using hmm
    subst hm'
    have hc1 : Tryz.prog.cellsOf 29 = 1 := by kernel_rfl
    have hb24 : Tryz.prog.bytesOf 29 = 24 := by kernel_rfl
    have hlen : len < 2305843009213693952 := by
      have := hsz ((len + (m - len)) * 24) (by rw [hx]; simp [DataW.weights, Tryz.underlying32, hb24])
      simp only [reachBytes] at this
      omega
    have each : ∀ i, i < len → ∃ p : Value × List (BitVec 8), W.cell? (a.add (i * 1)) = some p.1 ∧ Bytes W W.heap.size p.1 p.2 ∧ p.2.length ≤ 140737488351232 := fun i hi => by
      obtain ⟨cs', h1, h2⟩ := hel i (by omega)
      rw [hc1] at h1
      obtain ⟨_, hcl, hcc⟩ := World.cells?_some h1
      match cs', hcl with
      | [c0], _ =>
        have g0 := hcc 0 (by omega)
        rw [addr_add0] at g0
        obtain ⟨l0, hb0, hl0⟩ := bytes_cell_sizedP h2 (fun y hy => hsz y (by
          rw [hx]
          simp only [DataW.weights, Tryz.underlying32, List.mem_cons, List.mem_append]
          exact .inr (.inl (weights_all_memP _ _ _ (D i) (List.mem_map.2 ⟨i, List.mem_range.2 hi, rfl⟩) y hy))))
        exact ⟨(c0, l0), g0, hb0, hl0⟩
    haveI : Inhabited (Value × List (BitVec 8)) := ⟨(undef, [])⟩
    obtain ⟨f, hfs⟩ := Deep.choose_lt each
    refine ⟨(List.range len).map fun i => (f i).2, ?_, ?_, by simpa using hlen⟩
    · by_cases h0 : len = 0
      · subst h0
        exact .inr (.inl ⟨a, m, rfl, rfl⟩)
      · obtain ⟨b, off, spot⟩ := a
        have hc := (hfs 0 (by omega)).1
        have hspot : spot = none := by simpa [Addr.add] using World.cell?_spot hc
        subst hspot
        refine .inr (.inr ⟨b, off, m, by simp, by simpa using hl, fun i hi => ?_⟩)
        have hi' : i < len := by simpa using hi
        obtain ⟨h1, h2, _⟩ := hfs i hi'
        rw [addr_addP, Nat.mul_one] at h1
        refine ⟨block_lt_of_cell h1, (f i).1, h1, ?_⟩
        rw [show ((List.range len).map fun i => (f i).2).getD i [] = (f i).2 by simp [hi']]
        exact h2
    · intro p hp
      obtain ⟨i, hi, rfl⟩ := List.mem_map.1 hp
      exact (hfs i (List.mem_range.1 hi)).2.2
/-- a proof's five cells -/
theorem proof_cells {H : Type} {enc : TypeId × Value → H} {W : World} {fuel : Nat} {c0 c1 c2 c3 c4 : Value} {x : DataW H × List MemPlace}
    (hf : DataW.trod enc Tryz.prog W 0 (fun _ => true) true fuel 34 [c0, c1, c2, c3, c4] = some x) (hsz : ∀ y ∈ x.1.weights Tryz.prog 34, y ≤ reachBytes) :
    ∃ p : Prf, c0 = .int .i64 p.index ∧ c1 = .int .i64 p.size ∧ Bytes W W.heap.size c2 p.key ∧ Bytes W W.heap.size c3 p.val ∧ Lists W W.heap.size c4 p.path ∧ p.fits := by
  obtain ⟨xs, n', _, hd, _, hlen, hfs⟩ := DataW.trod_struct Tryz.underlying34 hf
  have e1 : Tryz.prog.cellsOf 3 = 1 := by kernel_rfl
  have e3 : Tryz.prog.cellsOf 29 = 1 := by kernel_rfl
  have e4 : Tryz.prog.cellsOf 32 = 1 := by kernel_rfl
  match xs, hlen with
  | [y0, y1, y2, y3, y4], _ =>
    have t0 : DataW.trod enc Tryz.prog W 0 (fun _ => true) true n' 3 [c0] = some y0 := by
      have := hfs 0 _ rfl
      simpa [e1] using this
    have t1 : DataW.trod enc Tryz.prog W 0 (fun _ => true) true n' 3 [c1] = some y1 := by
      have := hfs 1 _ rfl
      simpa [e1] using this
    have t2 : DataW.trod enc Tryz.prog W 0 (fun _ => true) true n' 29 [c2] = some y2 := by
      have := hfs 2 _ rfl
      simpa [e3] using this
    have t3 : DataW.trod enc Tryz.prog W 0 (fun _ => true) true n' 29 [c3] = some y3 := by
      have := hfs 3 _ rfl
      simpa [e3] using this
    have t4 : DataW.trod enc Tryz.prog W 0 (fun _ => true) true n' 32 [c4] = some y4 := by
      have := hfs 4 _ rfl
      simpa [e4] using this
    have hw : ∀ y, y ∈ y2.1.weights Tryz.prog 29 ∨ y ∈ y3.1.weights Tryz.prog 29 ∨ y ∈ y4.1.weights Tryz.prog 32 → y ≤ reachBytes := fun y hy => hsz y (by
      rw [hd]
      simp only [DataW.weights, Tryz.underlying34]
      simp [DataW.weightsEach]
      rcases hy with hy | hy | hy
      · exact .inr (.inr (.inl hy))
      · exact .inr (.inr (.inr (.inl hy)))
      · exact .inr (.inr (.inr (.inr hy))))
    obtain ⟨l2, hb2, hl2⟩ := bytes_cell_sizedP t2 (fun y hy => hw y (.inl hy))
    obtain ⟨l3, hb3, hl3⟩ := bytes_cell_sizedP t3 (fun y hy => hw y (.inr (.inl hy)))
    obtain ⟨l4, hb4, hf4, hl4⟩ := lists_cell_sized t4 (fun y hy => hw y (.inr (.inr hy)))
    obtain ⟨z0, g0, _⟩ := DataW.trod_int Tryz.underlying3 t0
    obtain ⟨z1, g1, _⟩ := DataW.trod_int Tryz.underlying3 t1
    obtain rfl : c0 = .int .i64 z0 := by simpa using g0
    obtain rfl : c1 = .int .i64 z1 := by simpa using g1
    exact ⟨⟨z0, z1, l2, l3, l4⟩, rfl, rfl, hb2, hb3, hb4, hl2, hl3, hl4, hf4⟩
theorem cellsProof : Tryz.prog.cellsOf 34 = 5 := by kernel_rfl
theorem cellsGap : Tryz.prog.cellsOf 36 = 12 := by kernel_rfl
/-- a gap's twelve cells -/
theorem gap_cells {H : Type} {enc : TypeId × Value → H} {W : World} {fuel : Nat} {b0 b1 c0 c1 c2 c3 c4 d0 d1 d2 d3 d4 : Value} {x : DataW H × List MemPlace}
    (hf : DataW.trod enc Tryz.prog W 0 (fun _ => true) true fuel 36 [b0, b1, c0, c1, c2, c3, c4, d0, d1, d2, d3, d4] = some x) (hsz : ∀ y ∈ x.1.weights Tryz.prog 36, y ≤ reachBytes) :
    ∃ g : Gp, GpV W W.heap.size (.agg #[b0, b1, c0, c1, c2, c3, c4, d0, d1, d2, d3, d4]) g ∧ g.fits := by
  obtain ⟨xs, n', _, hd, _, hlen, hfs⟩ := DataW.trod_struct Tryz.underlying36 hf
  have e1 : Tryz.prog.cellsOf 4 = 1 := by kernel_rfl
  match xs, hlen with
  | [y0, y1, y2, y3], _ =>
    have t0 : DataW.trod enc Tryz.prog W 0 (fun _ => true) true n' 4 [b0] = some y0 := by
      have := hfs 0 _ rfl
      simpa [e1] using this
    have t1 : DataW.trod enc Tryz.prog W 0 (fun _ => true) true n' 4 [b1] = some y1 := by
      have := hfs 1 _ rfl
      simpa [e1] using this
    have t2 : DataW.trod enc Tryz.prog W 0 (fun _ => true) true n' 34 [c0, c1, c2, c3, c4] = some y2 := by
      have := hfs 2 _ rfl
      simpa [cellsProof] using this
    have t3 : DataW.trod enc Tryz.prog W 0 (fun _ => true) true n' 34 [d0, d1, d2, d3, d4] = some y3 := by
      have := hfs 3 _ rfl
      simpa [cellsProof] using this
    have hw : ∀ y, y ∈ y2.1.weights Tryz.prog 34 ∨ y ∈ y3.1.weights Tryz.prog 34 → y ≤ reachBytes := fun y hy => hsz y (by
      rw [hd]
      simp only [DataW.weights, Tryz.underlying36]
      simp [DataW.weightsEach]
      rcases hy with hy | hy
      · exact .inr (.inr (.inl hy))
      · exact .inr (.inr (.inr hy)))
    obtain ⟨p, rfl, rfl, h2, h3, h4, h5⟩ := proof_cells t2 (fun y hy => hw y (.inl hy))
    obtain ⟨q, rfl, rfl, k2, k3, k4, k5⟩ := proof_cells t3 (fun y hy => hw y (.inr hy))
    obtain ⟨z0, g0, _⟩ := DataW.trod_bool Tryz.underlying4 t0
    obtain ⟨z1, g1, _⟩ := DataW.trod_bool Tryz.underlying4 t1
    obtain rfl : b0 = .bool z0 := by simpa using g0
    obtain rfl : b1 = .bool z1 := by simpa using g1
    exact ⟨⟨z0, z1, p, q⟩, ⟨c2, c3, c4, d2, d3, d4, rfl, h2, h3, h4, k2, k3, k4⟩, h5, k5⟩
end Go.Proofs.YtclhcjiblfokaaaGreatDoor
namespace Go.Proofs.YtclhcjiblfokaaaGreatDoor
open Go.ChangeShapes Go.WideShapes Go.ChangeAt Go.RowKit

theorem cellsShown : Tryz.prog.cellsOf 38 = 18 := by kernel_rfl
/-- its eighteen cells -/
theorem shown_cells {H : Type} {enc : TypeId × Value → H} {W : World} {fuel : Nat} {a0 c0 c1 c2 c3 c4 b0 b1 d0 d1 d2 d3 d4 e0 e1 e2 e3 e4 : Value} {x : DataW H × List MemPlace}
    (hf : DataW.trod enc Tryz.prog W 0 (fun _ => true) true fuel 38 [a0, c0, c1, c2, c3, c4, b0, b1, d0, d1, d2, d3, d4, e0, e1, e2, e3, e4] = some x) (hsz : ∀ y ∈ x.1.weights Tryz.prog 38, y ≤ reachBytes) :
    ∃ g : Sh, ShV W W.heap.size (.agg #[a0, c0, c1, c2, c3, c4, b0, b1, d0, d1, d2, d3, d4, e0, e1, e2, e3, e4]) g ∧ g.fits := by
  obtain ⟨xs, n', _, hd, _, hlen, hfs⟩ := DataW.trod_struct Tryz.underlying38 hf
  have i1 : Tryz.prog.cellsOf 3 = 1 := by kernel_rfl
  match xs, hlen with
  | [y0, y1, y2], _ =>
    have t0 : DataW.trod enc Tryz.prog W 0 (fun _ => true) true n' 3 [a0] = some y0 := by
      have := hfs 0 _ rfl
      simpa [i1] using this
    have t1 : DataW.trod enc Tryz.prog W 0 (fun _ => true) true n' 34 [c0, c1, c2, c3, c4] = some y1 := by
      have := hfs 1 _ rfl
      simpa [i1, cellsProof] using this
    have t2 : DataW.trod enc Tryz.prog W 0 (fun _ => true) true n' 36 [b0, b1, d0, d1, d2, d3, d4, e0, e1, e2, e3, e4] = some y2 := by
      have := hfs 2 _ rfl
      simpa [i1, cellsProof, cellsGap] using this
    have hw : ∀ y, y ∈ y1.1.weights Tryz.prog 34 ∨ y ∈ y2.1.weights Tryz.prog 36 → y ≤ reachBytes := fun y hy => hsz y (by
      rw [hd]
      simp only [DataW.weights, Tryz.underlying38]
      simp [DataW.weightsEach]
      rcases hy with hy | hy
      · exact .inr (.inl hy)
      · exact .inr (.inr hy))
    obtain ⟨g1, rfl, rfl, h2, h3, h4, h5⟩ := proof_cells t1 (fun y hy => hw y (.inl hy))
    obtain ⟨g2, hg2, k5⟩ := gap_cells t2 (fun y hy => hw y (.inr hy))
    obtain ⟨z0, q0, _⟩ := DataW.trod_int Tryz.underlying3 t0
    obtain rfl : a0 = .int .i64 z0 := by simpa using q0
    have hg2' := hg2
    obtain ⟨k1, v1, p1, k2, v2, p2, eg, -⟩ := hg2
    simp at eg
    obtain ⟨rfl, rfl, rfl, rfl, rfl, rfl, rfl, rfl, rfl, rfl, rfl, rfl⟩ := eg
    exact ⟨⟨z0, g1, g2⟩, ⟨_, _, _, _, _, _, _, _, _, rfl, ⟨_, _, _, rfl, h2, h3, h4⟩, hg2'⟩, h5, k5⟩
set_option maxRecDepth 100000 in
/-- an argument that reads as what is shown -/
theorem shown_read {H : Type} {enc : TypeId × Value → H} {W : World} {base : Nat} {v : Value} {d : DataW H} {p : List MemPlace}
    (hval : Value.okWide Tryz.prog W .any base 38 v) (h : DataW.Trod enc Tryz.prog W 0 (fun _ => true) true 38 v d p) (hsz : ∀ y ∈ d.weights Tryz.prog 38, y ≤ reachBytes) :
    ∃ g : Sh, ShV W W.heap.size v g ∧ g.fits := by
  obtain ⟨cs, rfl, hcs⟩ := okWide_struct Tryz.underlying38 hval
  rw [cellsShown] at hcs
  obtain ⟨l⟩ := cs
  match l, hcs with
  | [a0, c0, c1, c2, c3, c4, b0, b1, d0, d1, d2, d3, d4, e0, e1, e2, e3, e4], _ =>
    obtain ⟨fuel, hf⟩ := h
    exact shown_cells (x := (d, p)) hf hsz
end Go.Proofs.YtclhcjiblfokaaaGreatDoor
namespace Go.Proofs.YtclhcjiblfokaaaGreatDoor
open Go.ChangeShapes Go.WideShapes Go.ChangeAt Go.RowKit

theorem cellsPacket : Tryz.prog.cellsOf 31 = 5 := by kernel_rfl
/-- its five cells -/
theorem packet_cells {H : Type} {enc : TypeId × Value → H} {W : World} {fuel : Nat} {c0 c1 c2 c3 c4 : Value} {x : DataW H × List MemPlace}
    (hf : DataW.trod enc Tryz.prog W 0 (fun _ => true) true fuel 31 [c0, c1, c2, c3, c4] = some x) (hsz : ∀ y ∈ x.1.weights Tryz.prog 31, y ≤ reachBytes) :
    ∃ p : Pk, PkV W W.heap.size (.agg #[c0, c1, c2, c3, c4]) p ∧ p.fits := by
  obtain ⟨xs, n', _, hd, _, hlen, hfs⟩ := DataW.trod_struct Tryz.underlying31 hf
  have e1 : Tryz.prog.cellsOf 3 = 1 := by kernel_rfl
  have e3 : Tryz.prog.cellsOf 29 = 1 := by kernel_rfl
  match xs, hlen with
  | [y0, y1, y2, y3, y4], _ =>
    have t0 : DataW.trod enc Tryz.prog W 0 (fun _ => true) true n' 3 [c0] = some y0 := by
      have := hfs 0 _ rfl
      simpa [e1] using this
    have t1 : DataW.trod enc Tryz.prog W 0 (fun _ => true) true n' 3 [c1] = some y1 := by
      have := hfs 1 _ rfl
      simpa [e1] using this
    have t2 : DataW.trod enc Tryz.prog W 0 (fun _ => true) true n' 3 [c2] = some y2 := by
      have := hfs 2 _ rfl
      simpa [e1] using this
    have t3 : DataW.trod enc Tryz.prog W 0 (fun _ => true) true n' 29 [c3] = some y3 := by
      have := hfs 3 _ rfl
      simpa [e1, e3] using this
    have t4 : DataW.trod enc Tryz.prog W 0 (fun _ => true) true n' 3 [c4] = some y4 := by
      have := hfs 4 _ rfl
      simpa [e1, e3] using this
    have hw : ∀ y, y ∈ y3.1.weights Tryz.prog 29 → y ≤ reachBytes := fun y hy => hsz y (by
      rw [hd]
      simp only [DataW.weights, Tryz.underlying31]
      simp [DataW.weightsEach]
      exact .inr (.inr (.inr (.inl hy))))
    obtain ⟨l3, hb3, hl3⟩ := bytes_cell_sizedP t3 hw
    obtain ⟨z0, g0, _⟩ := DataW.trod_int Tryz.underlying3 t0
    obtain ⟨z1, g1, _⟩ := DataW.trod_int Tryz.underlying3 t1
    obtain ⟨z2, g2, _⟩ := DataW.trod_int Tryz.underlying3 t2
    obtain ⟨z4, g4, _⟩ := DataW.trod_int Tryz.underlying3 t4
    obtain rfl : c0 = .int .i64 z0 := by simpa using g0
    obtain rfl : c1 = .int .i64 z1 := by simpa using g1
    obtain rfl : c2 = .int .i64 z2 := by simpa using g2
    obtain rfl : c4 = .int .i64 z4 := by simpa using g4
    exact ⟨⟨z0, z1, z2, l3, z4⟩, ⟨c3, rfl, hb3⟩, hl3⟩
set_option maxRecDepth 100000 in
/-- an argument that reads as a packet -/
theorem packet_read {H : Type} {enc : TypeId × Value → H} {W : World} {base : Nat} {v : Value} {d : DataW H} {p : List MemPlace}
    (hval : Value.okWide Tryz.prog W .any base 31 v) (h : DataW.Trod enc Tryz.prog W 0 (fun _ => true) true 31 v d p) (hsz : ∀ y ∈ d.weights Tryz.prog 31, y ≤ reachBytes) :
    ∃ g : Pk, PkV W W.heap.size v g ∧ g.fits := by
  obtain ⟨cs, rfl, hcs⟩ := okWide_struct Tryz.underlying31 hval
  rw [cellsPacket] at hcs
  obtain ⟨l⟩ := cs
  match l, hcs with
  | [c0, c1, c2, c3, c4], _ =>
    obtain ⟨fuel, hf⟩ := h
    exact packet_cells (x := (d, p)) hf hsz
end Go.Proofs.YtclhcjiblfokaaaGreatDoor
namespace Go.Proofs.YtclhcjiblfokaaaGreatDoor.packetPlaces
open Go.ChangeShapes Go.WideShapes Go.ChangeAt Go.RowKit

theorem own : ownKnob Tryz.prog.godebug = none := by kernel_rfl
theorem laidOut : laidOutB Tryz.prog = true := by kernel_rfl

set_option maxRecDepth 100000 in
theorem contract (H : Type) (enc : TypeId × Value → H) (W : World) (base : Nat) (args : Array Value) (ds gs : List (DataW H)) (before : List MemPlace)
    (hval : ∀ (j : Nat) t v, Tryz.f6.params[j]? = some t → args[j]? = some v → Value.okWide Tryz.prog W .any base t v)
    (hW : DataW.Whole enc Tryz.prog Tryz.f6.params.toList Rows.packetPlacesSpec.vars false W args.toList ds gs before)
    (hsz0 : (DataW.weightsEach Tryz.prog (Tryz.f6.params.toList ++ (OpenSpec.ofChange Rows.packetPlacesSpec).bare.plain.varTypes Tryz.prog) (ds ++ gs)).all (· ≤ reachBytes) = true)
    (hL : laidMetH Tryz.prog Rows.packetPlacesRow.laid W) :
    Calls Tryz.prog 6 args W fun e W' => ∃ v, e = .returned v ∧ Rows.packetPlacesSpec.post enc Tryz.prog Tryz.f6 false true false false W args v W' := by
  have htab : tableAt W := table_laidZ hL
  have hpow : powAt W := pow_laidZ hL
  have hW' := hW
  obtain ⟨p, q, hA0, hV, rfl, hfz, hnd⟩ := hW
  have hA : DataW.TrodAll enc Tryz.prog W 0 (fun _ => true) true Tryz.f6.params.toList args.toList ds p := hA0
  rw [Tryz.params6] at hA hval hsz0
  obtain ⟨v0, vs0, d0, ds0, p0, q0, hargs0, rfl, rfl, h0, r0⟩ := trodAll_cons hA
  obtain ⟨v1, vs1, d1, ds1, p1, q1, hargs1, rfl, rfl, h1, r1⟩ := trodAll_cons r0
  subst hargs1
  obtain ⟨v2, vs2, d2, ds2, p2, q2, hargs2, rfl, rfl, h2, r2⟩ := trodAll_cons r1
  subst hargs2
  obtain ⟨v3, vs3, d3, ds3, p3, q3, hargs3, rfl, rfl, h3, r3⟩ := trodAll_cons r2
  subst hargs3
  obtain ⟨v4, vs4, d4, ds4, p4, q4, hargs4, rfl, rfl, h4, r4⟩ := trodAll_cons r3
  subst hargs4
  obtain ⟨v5, vs5, d5, ds5, p5, q5, hargs5, rfl, rfl, h5, r5⟩ := trodAll_cons r4
  subst hargs5
  obtain ⟨v6, vs6, d6, ds6, p6, q6, hargs6, rfl, rfl, h6, r6⟩ := trodAll_cons r5
  subst hargs6
  obtain ⟨v7, vs7, d7, ds7, p7, q7, hargs7, rfl, rfl, h7, r7⟩ := trodAll_cons r6
  subst hargs7
  obtain ⟨rfl, rfl, rfl⟩ := trodAll_nil r7
  obtain rfl : args = #[v0, v1, v2, v3, v4, v5, v6, v7] := by cases args; simp_all
  obtain ⟨rfl, rfl⟩ := trodVars_none hV
  have k0 := h0
  have lt0 : ∀ x ∈ p0, x.block < W.heap.size := by obtain ⟨m, hm⟩ := k0; exact DataW.trod_lt m _ _ _ hm
  have hw0 : ∀ y ∈ d0.weights Tryz.prog 28, y ≤ reachBytes := fun y hy => by
    have := List.all_eq_true.1 hsz0 _ (DataW.weights_mem_each (j := 0) (t := 28) rfl rfl y hy)
    simpa using this
  obtain ⟨g0, hg0, hgf0⟩ := state_read (hval 0 28 v0 rfl rfl) h0 hw0
  have k1 := h1
  have lt1 : ∀ x ∈ p1, x.block < W.heap.size := by obtain ⟨m, hm⟩ := k1; exact DataW.trod_lt m _ _ _ hm
  have hw1 : ∀ y ∈ d1.weights Tryz.prog 3, y ≤ reachBytes := fun y hy => by
    have := List.all_eq_true.1 hsz0 _ (DataW.weights_mem_each (j := 1) (t := 3) rfl rfl y hy)
    simpa using this
  obtain ⟨z1, rfl, _, _, _⟩ := open_int Tryz.underlying3 (hval 1 3 v1 rfl rfl) h1
  have k2 := h2
  have lt2 : ∀ x ∈ p2, x.block < W.heap.size := by obtain ⟨m, hm⟩ := k2; exact DataW.trod_lt m _ _ _ hm
  have hw2 : ∀ y ∈ d2.weights Tryz.prog 29, y ≤ reachBytes := fun y hy => by
    have := List.all_eq_true.1 hsz0 _ (DataW.weights_mem_each (j := 2) (t := 29) rfl rfl y hy)
    simpa using this
  obtain ⟨a2, len2, cap2, rfl⟩ := okWide_slice Tryz.underlying29 (hval 2 29 v2 rfl rfl)
  obtain ⟨l2, hby2, hll2⟩ : ∃ l, Bytes W W.heap.size (.slice a2 len2 cap2) l ∧ l.length ≤ 140737488351232 := by
    obtain ⟨fuel, hf⟩ := h2
    exact bytes_cell_sizedP hf hw2
  have k3 := h3
  have lt3 : ∀ x ∈ p3, x.block < W.heap.size := by obtain ⟨m, hm⟩ := k3; exact DataW.trod_lt m _ _ _ hm
  have hw3 : ∀ y ∈ d3.weights Tryz.prog 3, y ≤ reachBytes := fun y hy => by
    have := List.all_eq_true.1 hsz0 _ (DataW.weights_mem_each (j := 3) (t := 3) rfl rfl y hy)
    simpa using this
  obtain ⟨z3, rfl, _, _, _⟩ := open_int Tryz.underlying3 (hval 3 3 v3 rfl rfl) h3
  have k4 := h4
  have lt4 : ∀ x ∈ p4, x.block < W.heap.size := by obtain ⟨m, hm⟩ := k4; exact DataW.trod_lt m _ _ _ hm
  have hw4 : ∀ y ∈ d4.weights Tryz.prog 31, y ≤ reachBytes := fun y hy => by
    have := List.all_eq_true.1 hsz0 _ (DataW.weights_mem_each (j := 4) (t := 31) rfl rfl y hy)
    simpa using this
  obtain ⟨g4, hg4, hgf4⟩ := packet_read (hval 4 31 v4 rfl rfl) h4 hw4
  have k5 := h5
  have lt5 : ∀ x ∈ p5, x.block < W.heap.size := by obtain ⟨m, hm⟩ := k5; exact DataW.trod_lt m _ _ _ hm
  have hw5 : ∀ y ∈ d5.weights Tryz.prog 29, y ≤ reachBytes := fun y hy => by
    have := List.all_eq_true.1 hsz0 _ (DataW.weights_mem_each (j := 5) (t := 29) rfl rfl y hy)
    simpa using this
  obtain ⟨a5, len5, cap5, rfl⟩ := okWide_slice Tryz.underlying29 (hval 5 29 v5 rfl rfl)
  obtain ⟨l5, hby5, hll5⟩ : ∃ l, Bytes W W.heap.size (.slice a5 len5 cap5) l ∧ l.length ≤ 140737488351232 := by
    obtain ⟨fuel, hf⟩ := h5
    exact bytes_cell_sizedP hf hw5
  have k6 := h6
  have lt6 : ∀ x ∈ p6, x.block < W.heap.size := by obtain ⟨m, hm⟩ := k6; exact DataW.trod_lt m _ _ _ hm
  have hw6 : ∀ y ∈ d6.weights Tryz.prog 3, y ≤ reachBytes := fun y hy => by
    have := List.all_eq_true.1 hsz0 _ (DataW.weights_mem_each (j := 6) (t := 3) rfl rfl y hy)
    simpa using this
  obtain ⟨z6, rfl, _, _, _⟩ := open_int Tryz.underlying3 (hval 6 3 v6 rfl rfl) h6
  have k7 := h7
  have lt7 : ∀ x ∈ p7, x.block < W.heap.size := by obtain ⟨m, hm⟩ := k7; exact DataW.trod_lt m _ _ _ hm
  have hw7 : ∀ y ∈ d7.weights Tryz.prog 38, y ≤ reachBytes := fun y hy => by
    have := List.all_eq_true.1 hsz0 _ (DataW.weights_mem_each (j := 7) (t := 38) rfl rfl y hy)
    simpa using this
  obtain ⟨g7, hg7, hgf7⟩ := shown_read (hval 7 38 v7 rfl rfl) h7 hw7
  clear hA0
  refine (packetPlaces_any g0 v0 (.slice a2 len2 cap2) v4 (.slice a5 len5 cap5) v7 l2 g4 l5 z1 z3 z6 g7 W.heap.size W hpow htab (Nat.le_refl _) hg0 hby2 hg4 hby5 hg7 hgf0 hll2 hll5 hgf7).mono fun e W' ⟨he, bel⟩ => ?_
  subst he
  exact ⟨_, rfl, _, _, _, [], _, [], hW', trodAll_mk1 (shut_bool Tryz.underlying4 _), (trodAll_cons_mk (Below.trod laidOut (by kernel_rfl) (of_decide_eq_true (by kernel_rfl)) k0 bel lt0) (trodAll_cons_mk (Below.trod laidOut (by kernel_rfl) (of_decide_eq_true (by kernel_rfl)) k1 bel lt1) (trodAll_cons_mk (Below.trod laidOut (by kernel_rfl) (of_decide_eq_true (by kernel_rfl)) k2 bel lt2) (trodAll_cons_mk (Below.trod laidOut (by kernel_rfl) (of_decide_eq_true (by kernel_rfl)) k3 bel lt3) (trodAll_cons_mk (Below.trod laidOut (by kernel_rfl) (of_decide_eq_true (by kernel_rfl)) k4 bel lt4) (trodAll_cons_mk (Below.trod laidOut (by kernel_rfl) (of_decide_eq_true (by kernel_rfl)) k5 bel lt5) (trodAll_cons_mk (Below.trod laidOut (by kernel_rfl) (of_decide_eq_true (by kernel_rfl)) k6 bel lt6) (trodAll_cons_mk (Below.trod laidOut (by kernel_rfl) (of_decide_eq_true (by kernel_rfl)) k7 bel lt7) trodAll_mk0)))))))), rfl, bel.frame _, fun h => by cases h⟩

theorem laid_met (os : Os) : laidMet Tryz.prog Rows.packetPlacesRow.laid ((withTablesZ (World.holding Tryz.prog os ⟨#[], #[], []⟩)).forCall (fun _ _ => 0) ⟨#[], #[.agg #[.string ⟨#[]⟩, .int .i64 0, .int .i64 0, .slice none 0 0, .slice none 0 0, .slice none 0 0, .slice none 0 0, .slice none 0 0, .slice none 0 0, .slice none 0 0], .int .i64 0, .slice none 0 0, .int .i64 0, .agg #[.int .i64 0, .int .i64 0, .int .i64 0, .slice none 0 0, .int .i64 0], .slice none 0 0, .int .i64 0, .agg #[.int .i64 0, .int .i64 0, .int .i64 0, .slice none 0 0, .slice none 0 0, .slice none 0 0, .bool false, .bool false, .int .i64 0, .int .i64 0, .slice none 0 0, .slice none 0 0, .slice none 0 0, .int .i64 0, .int .i64 0, .slice none 0 0, .slice none 0 0, .slice none 0 0]], []⟩).memory :=
  laidMet_of_run' 8 (by kernel_rfl) (by kernel_rfl)
theorem reads (os : Os) {H : Type} (enc : TypeId × Value → H) : ∃ places, DataW.whole enc Tryz.prog ((withTablesZ (World.holding Tryz.prog os ⟨#[], #[], []⟩)).forCall (fun _ _ => 0) ⟨#[], #[.agg #[.string ⟨#[]⟩, .int .i64 0, .int .i64 0, .slice none 0 0, .slice none 0 0, .slice none 0 0, .slice none 0 0, .slice none 0 0, .slice none 0 0, .slice none 0 0], .int .i64 0, .slice none 0 0, .int .i64 0, .agg #[.int .i64 0, .int .i64 0, .int .i64 0, .slice none 0 0, .int .i64 0], .slice none 0 0, .int .i64 0, .agg #[.int .i64 0, .int .i64 0, .int .i64 0, .slice none 0 0, .slice none 0 0, .slice none 0 0, .bool false, .bool false, .int .i64 0, .int .i64 0, .slice none 0 0, .slice none 0 0, .slice none 0 0, .int .i64 0, .int .i64 0, .slice none 0 0, .slice none 0 0, .slice none 0 0]], []⟩).memory Tryz.f6.params.toList Rows.packetPlacesSpec.vars false #[Value.agg #[.string ⟨#[]⟩, .int .i64 0, .int .i64 0, .slice none 0 0, .slice none 0 0, .slice none 0 0, .slice none 0 0, .slice none 0 0, .slice none 0 0, .slice none 0 0], Value.int .i64 0, Value.slice none 0 0, Value.int .i64 0, Value.agg #[.int .i64 0, .int .i64 0, .int .i64 0, .slice none 0 0, .int .i64 0], Value.slice none 0 0, Value.int .i64 0, Value.agg #[.int .i64 0, .int .i64 0, .int .i64 0, .slice none 0 0, .slice none 0 0, .slice none 0 0, .bool false, .bool false, .int .i64 0, .int .i64 0, .slice none 0 0, .slice none 0 0, .slice none 0 0, .int .i64 0, .int .i64 0, .slice none 0 0, .slice none 0 0, .slice none 0 0]].toList 8 = some ([.agg [.lit (.string []), .lit (.int .i64 0), .lit (.int .i64 0), .nil, .nil, .nil, .nil, .nil, .nil, .nil], .lit (.int .i64 0), .nil, .lit (.int .i64 0), .agg [.lit (.int .i64 0), .lit (.int .i64 0), .lit (.int .i64 0), .nil, .lit (.int .i64 0)], .nil, .lit (.int .i64 0), .agg [.lit (.int .i64 0), .agg [.lit (.int .i64 0), .lit (.int .i64 0), .nil, .nil, .nil], .agg [.lit (.bool false), .lit (.bool false), .agg [.lit (.int .i64 0), .lit (.int .i64 0), .nil, .nil, .nil], .agg [.lit (.int .i64 0), .lit (.int .i64 0), .nil, .nil, .nil]]]], [], places) :=
  ⟨[], by kernel_rfl⟩

set_option maxRecDepth 100000 in
theorem lifted (os : Os) (started : os.Started) (H : Type) (enc : TypeId × Value → H) (F : Stop.Interp) :
    ReturnsInHanded {} Tryz.checked os 6 .any ((OpenSpec.ofChange Rows.packetPlacesSpec).preRow enc Tryz.prog Tryz.f6 Rows.packetPlacesRow.domain false Rows.packetPlacesRow.laid) (((OpenSpec.ofChange Rows.packetPlacesSpec).at F).post enc Tryz.prog Tryz.f6 false true false false) := by
  obtain ⟨places, hx⟩ := reads os enc
  refine returnsInHanded_of_row (C := Tryz.checked) (s := OpenSpec.ofChange Rows.packetPlacesSpec) own started (by kernel_rfl) Tryz.func6
    (witness_row_at (enc := enc) (C := Tryz.checked) false (withTablesZ (World.holding Tryz.prog os ⟨#[], #[], []⟩)) #[.agg #[.string ⟨#[]⟩, .int .i64 0, .int .i64 0, .slice none 0 0, .slice none 0 0, .slice none 0 0, .slice none 0 0, .slice none 0 0, .slice none 0 0, .slice none 0 0], .int .i64 0, .slice none 0 0, .int .i64 0, .agg #[.int .i64 0, .int .i64 0, .int .i64 0, .slice none 0 0, .int .i64 0], .slice none 0 0, .int .i64 0, .agg #[.int .i64 0, .int .i64 0, .int .i64 0, .slice none 0 0, .slice none 0 0, .slice none 0 0, .bool false, .bool false, .int .i64 0, .int .i64 0, .slice none 0 0, .slice none 0 0, .slice none 0 0, .int .i64 0, .int .i64 0, .slice none 0 0, .slice none 0 0, .slice none 0 0]] rfl (by kernel_rfl) (by kernel_rfl) (by kernel_rfl)
      (OpenSpec.preRow_of_cond 8 hx (by kernel_rfl) (fun k hk => by cases hk) (by kernel_rfl) (laid_met os))) ?_
  intro W base args ds gs before hval hW _ _ hsz hL _ _
  exact contract H enc W base args ds gs before hval hW hsz hL

theorem said : Rows.PacketPlacesSaid :=
  OpenClaim.holds_of_cond 6 Tryz.f6 rfl rfl rfl rfl rfl rfl rfl ⟨rfl, rfl, rfl, rfl, rfl⟩ rfl rfl rfl rfl rfl (by kernel_rfl) Tryz.func6 (by kernel_rfl)
    (of_decide_eq_true (by kernel_rfl)) (by unfold Func.isWrapper; first | (rw [if_pos (by decide +kernel)]; kernel_rfl) | (rw [if_neg (by decide +kernel)]; exact ⟨rfl, rfl⟩))
    (fun os started H enc _ F => by rw [OpenClaim.pre_eq_preRow]; exact lifted os started H enc F)

theorem plain (f : FuncId) (fn : Func) (hf : Tryz.pinned.checked.prog.funcNamed "landbridge/landlaw11.PacketPlaces" = some f) (hfn : Tryz.pinned.checked.prog.funcs[f]? = some fn) :
    false = Tryz.pinned.checked.prog.looks [] ∧ ∀ (j : Nat) t, fn.params[j]? = some t → Tryz.pinned.checked.prog.wantsStandIn t = false := by
  obtain rfl : f = 6 := Option.some.inj ((show Tryz.prog.funcNamed "landbridge/landlaw11.PacketPlaces" = some 6 by kernel_rfl).symm.trans hf) |>.symm
  obtain rfl : fn = Tryz.f6 := (Option.some.inj (Tryz.func6.symm.trans hfn)).symm
  refine ⟨by kernel_rfl, fun j t ht => ?_⟩
  rw [Tryz.params6] at ht
  have hm : t = 28 ∨ t = 3 ∨ t = 29 ∨ t = 3 ∨ t = 31 ∨ t = 29 ∨ t = 3 ∨ t = 38 := by simpa using Array.mem_of_getElem? ht
  rcases hm with rfl | rfl | rfl | rfl | rfl | rfl | rfl | rfl
  · exact (show Tryz.prog.wantsStandIn 28 = false by kernel_rfl)
  · exact (show Tryz.prog.wantsStandIn 3 = false by kernel_rfl)
  · exact (show Tryz.prog.wantsStandIn 29 = false by kernel_rfl)
  · exact (show Tryz.prog.wantsStandIn 3 = false by kernel_rfl)
  · exact (show Tryz.prog.wantsStandIn 31 = false by kernel_rfl)
  · exact (show Tryz.prog.wantsStandIn 29 = false by kernel_rfl)
  · exact (show Tryz.prog.wantsStandIn 3 = false by kernel_rfl)
  · exact (show Tryz.prog.wantsStandIn 38 = false by kernel_rfl)
end Go.Proofs.YtclhcjiblfokaaaGreatDoor.packetPlaces
namespace Go.Proofs.YtclhcjiblfokaaaGreatDoor
theorem packetPlaces_card : Rows.PacketPlacesCardSaid :=
  Claim7.holds_tied_plain_at .later [] _ _ _ _ packetPlaces.said (fun _ h => by cases h) (by kernel_rfl) (fun _ h => by cases h) packetPlaces_row_tie rfl ⟨rfl, rfl⟩ (by kernel_rfl) rfl packetPlaces.plain (by kernel_rfl)
end Go.Proofs.YtclhcjiblfokaaaGreatDoor
