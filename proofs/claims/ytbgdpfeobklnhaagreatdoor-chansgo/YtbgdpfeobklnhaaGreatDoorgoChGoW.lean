/-
  ChansGo returns true, whatever a state, numbers and what is shown read as.
-/
import Derived.Test.YtbgdpfeobklnhaaGreatDoorgoChUse
import Derived.Test.YtbgdpfeobklnhaaGreatDoorgoChAdd
import Derived.Test.YtbgdpfeobklnhaaGreatDoorgoChMem
import Derived.Test.YtbgdpfeobklnhaaGreatDoorgoSt9RKit
import Derived.Test.YtbgdpfeobklnhaaGreatDoorgoFrKit
import Derived.Test.YtbgdpfeobklnhaaGreatDoorgoChFol
import Derived.Test.YtbgdpfeobklnhaaGreatDoorgoCoAfter
import Derived.Test.YtbgdpfeobklnhaaGreatDoorgoRef1All
import Derived.Test.YtbgdpfeobklnhaaGreatDoorgoChGoO
import Derived.Test.YtbgdpfeobklnhaaGreatDoorgoChGoF2
import Derived.Test.YtbgdpfeobklnhaaGreatDoorgoChAlive
import Derived.Test.YtbgdpfeobklnhaaGreatDoorgoChAlong
namespace Go.Proofs.YtbgdpfeobklnhaaGreatDoor
open Go.RowKit

set_option maxRecDepth 1000000 in
set_option maxHeartbeats 8000000 in
theorem goSteps {sl0 sl1 sl2 sl3 sl4 sl6 sl7 sl8 sl9 sl10 sl12 sl13 sl14 sl15 sl16 sl17 sl18 sl19 sl20 sl21 sl22 sl23 sl24 sl25 sl26 sl27 sl28 sl32 sl33 sl34 sl35 sl36 sl37 sl38 sl39 sl40 sl41 sl42 sl43 sl44 sl45 sl46 sl47 sl48 sl49 sl50 sl51 sl52 sl53 sl54 sl55 sl56 sl57 sl58 sl59 sl60 sl61 sl62 sl63 sl64 sl65 sl66 sl67 sl68 sl69 sl70 sl71 sl72 sl73 sl74 sl75 sl76 sl77 sl78 sl79 sl80 sl81 sl82 sl83 sl84 sl85 sl86 sl87 sl88 sl89 sl90 sl91 sl92 sl93 sl94 sl95 sl96 sl97 sl98 sl99 sl100 sl101 sl102 sl103 sl104 sl105 sl106 sl107 sl108 sl109 sl110 sl111 sl112 sl113 sl114 sl115 sl116 sl117 sl118 sl119 sl120 sl121 sl122 sl123 sl124 sl125 : Value} {gf N : Nat} {gs : Nat} {w1 : World} (s : St) (i : Int) (fs : List Value) (HF : Hid (Row w1 gf 50 fs)) (hN : N ≤ w1.heap.size)
    (HC : Hid (∀ k : Nat, k < 6 → ∃ (fid : FuncId) (caps : Array Value) (n : Int) (t : St), fs[k]? = some (.func (.func fid) #[] caps) ∧ (n = 0 → FollowsC s i t) ∧ (∀ W : World, (callFunc fid caps).run Tryz.prog W = .ok (.enter fid caps) W) ∧ ∀ W, Below w1.heap.size w1 W → Calls Tryz.prog fid caps W fun e w' => Below W.heap.size W w' ∧ ∃ v', e = .returned (.tuple #[v', .int .i64 n]) ∧ HoldsS N W.heap.size w' v' t)) (Q : Exit → Act → World → Prop)
    (hGo : Hid (∀ (u13 u14 u15 u31 u32 u33 u34 u35 u36 u37 u38 u39 u40 u41 u42 u43 u44 u45 u46 v : Value) (l : List St) (w' : World), Below w1.heap.size w1 w' → After w' w1.heap.size v l → (∀ t ∈ l, FollowsC s i t) → l.length ≤ 6 → Q .normal ⟨#[sl0, sl1, sl2, sl3, sl4, .pointer (some ⟨gs, 0, none⟩), sl6, sl7, sl8, sl9, sl10, v, sl12, u13, u14, u15, sl16, sl17, sl18, sl19, sl20, sl21, sl22, sl23, sl24, sl25, sl26, sl27, sl28, .slice (some ⟨gf, 0, none⟩) 6 6, .int .i64 6, u31, u32, u33, u34, u35, u36, u37, u38, u39, u40, u41, u42, u43, u44, u45, u46, sl47, sl48, sl49, sl50, sl51, sl52, sl53, sl54, sl55, sl56, sl57, sl58, sl59, sl60, sl61, sl62, sl63, sl64, sl65, sl66, sl67, sl68, sl69, sl70, sl71, sl72, sl73, sl74, sl75, sl76, sl77, sl78, sl79, sl80, sl81, sl82, sl83, sl84, sl85, sl86, sl87, sl88, sl89, sl90, sl91, sl92, sl93, sl94, sl95, sl96, sl97, sl98, sl99, sl100, sl101, sl102, sl103, sl104, sl105, sl106, sl107, sl108, sl109, sl110, sl111, sl112, sl113, sl114, sl115, sl116, sl117, sl118, sl119, sl120, sl121, sl122, sl123, sl124, sl125], []⟩ w')) :
    Code.wp Tryz.prog ((Tryz.f4.body.bind (inBlock 0)).getD .skip) (Exit.inBlock 0 Q) ⟨#[sl0, sl1, sl2, sl3, sl4, .pointer (some ⟨gs, 0, none⟩), sl6, sl7, sl8, sl9, sl10, .slice none 0 0, sl12, sl13, sl14, sl15, sl16, sl17, sl18, sl19, sl20, sl21, sl22, sl23, sl24, sl25, sl26, sl27, sl28, .slice (some ⟨gf, 0, none⟩) 6 6, .int .i64 6, .int .i64 0, sl32, sl33, sl34, sl35, sl36, sl37, sl38, sl39, sl40, sl41, sl42, sl43, sl44, sl45, sl46, sl47, sl48, sl49, sl50, sl51, sl52, sl53, sl54, sl55, sl56, sl57, sl58, sl59, sl60, sl61, sl62, sl63, sl64, sl65, sl66, sl67, sl68, sl69, sl70, sl71, sl72, sl73, sl74, sl75, sl76, sl77, sl78, sl79, sl80, sl81, sl82, sl83, sl84, sl85, sl86, sl87, sl88, sl89, sl90, sl91, sl92, sl93, sl94, sl95, sl96, sl97, sl98, sl99, sl100, sl101, sl102, sl103, sl104, sl105, sl106, sl107, sl108, sl109, sl110, sl111, sl112, sl113, sl114, sl115, sl116, sl117, sl118, sl119, sl120, sl121, sl122, sl123, sl124, sl125], []⟩ w1 := by
  conv => arg 2; whnf
  conv => arg 4; dsimp only
  go_loopw [11, 31] (fun va j wr => ∃ k : Nat, k ≤ 6 ∧ j = .int .i64 (k : Int) ∧ Hid (Below w1.heap.size w1 wr) ∧ ∃ l, Hid (After wr w1.heap.size va l) ∧ Hid (∀ t ∈ l, FollowsC s i t) ∧ l.length ≤ k) (fun _ j _ => 6 - (intOf j).toNat)
  case atStart => exact ⟨0, by omega, rfl, hid (Below.refl _ _), [], hid (After.nil _ _), hid (fun t h => absurd h List.not_mem_nil), Nat.le_refl _⟩
  case round =>
    obtain ⟨k, hk, rfl, HBW, l, HAF, HFO, hl⟩ := hrel
    by_cases hlt : k < 6
    · obtain ⟨fid, caps, n, t, hfk, hfo, hcf, hcall⟩ := HC.out k hlt
      have hcw := hcf wr
      have hlt' : (k : Int) < 6 := by omega
      have kf := ((HF.out.below HBW.out HF.out.lt).cell k).trans hfk
      have HCK := hid hcall
      have HFK := hid hfo
      obtain ⟨oa, cap, rfl⟩ := HAF.out.shape
      clear hfk hcall hfo hcf
      go_wp2_with fail
      first | rw [hcw, Oper.upon_enter] | skip
      refine (HCK.out wr HBW.out).mono ?_
      rintro e w3 ⟨hb3, v', rfl, hva⟩
      obtain ⟨p0, p1, p2, p3, p4, p5, p6, p7, p8, p9, rfl, hon⟩ := hva.now.ten
      have HVA := hid hva
      have HON := hid hon
      have HB3 := hid (HBW.out.trans (hb3.mono HBW.out.size))
      have HA3 := hid (HAF.out.below hb3)
      have hsz3 := HBW.out.size
      have HS3 := hid hsz3
      clear hb3 hva hon kf hsz3 hcw
      go_upto_region 8 with (refine storeNew rfl rfl rfl rfl structState rfl HON.out ?_; intro w4 hr4 hb4)
      have HB4 := hid (HB3.out.trans (hb4.mono HB3.out.size))
      have HA4 := hid (HA3.out.below hb4)
      have HV4 := hid (HVA.out.below hb4)
      have HR4 := hid hr4
      by_cases hz : n = 0
      · have HFT := hid (HFK.out hz)
        subst hz
        obtain ⟨k0, k1, k2, k3, k4, k5, k6, k7, k8, k9⟩ := hr4.k10
        clear hb4 hr4
        go_wp2_with (at_builtin; refine Hid.out ?_)
        refine hid ?_
        refine boxL ?_
        intro w5 hr5 hb5
        have hown := (HA4.out.below hb5)
        have hgb := hown.own
        have hvv := HV4.out.below hb5
        refine wpList_more rfl _ _ rfl w1.heap.size _ l rfl hown _ _ t rfl hr5 ⟨rfl, by simpa using HON.out⟩ _ hvv (fun b hF e => ?_) (by omega) (Nat.le_trans (Nat.le_trans HB4.out.size (Nat.le_refl _)) hb5.size) ?_
        · have h1 := HAF.out.own b e
          have h2 := HS3.out
          rcases hF.1 with h | h <;> omega
        intro v5 w6 haf hb6 hg6
        have HB6 := hid (HB4.out.trans ((hb5.mono HB4.out.size).trans hb6))
        have HA6 := hid haf
        have HF6 := hid (show ∀ u ∈ l ++ [t], FollowsC s i u from fun u hu => by
          rcases List.mem_append.1 hu with h | h
          · exact HFO.out u h
          · rw [List.mem_singleton.1 h]; exact HFT.out)
        clear hb5 hr5 hown hgb hvv haf hb6 hg6 k0 k1 k2 k3 k4 k5 k6 k7 k8 k9
        go_wp2
        go_roundw
        case rel => exact ⟨k + 1, by omega, by go_num, HB6, l ++ [t], HA6, HF6, by simp; omega⟩
        case measure => simp [intOf]; omega
      · have e0 : (n == 0) = false := by simpa using hz
        clear hz hb4 hr4
        go_wp2
        go_roundw
        case rel => exact ⟨k + 1, by omega, by go_num, HB4, l, HA4, HFO, by omega⟩
        case measure => simp [intOf]; omega
    · have hge : decide ((k : Int) < 6) = false := by simp; omega
      go_wp2
      apply hGo.out
      · exact HBW.out
      · exact HAF.out
      · exact HFO.out
      · omega
end Go.Proofs.YtbgdpfeobklnhaaGreatDoor
namespace Go.Proofs.YtbgdpfeobklnhaaGreatDoor
open Go.RowKit

set_option maxRecDepth 100000 in
set_option maxHeartbeats 4000000 in
theorem clo1_any {x0 x1 x2 x3 x4 x5 x6 x7 x8 x9 a o m : Value} {gs ga go N : Nat} {n : Int} {t : St} (w : World) (hN : N ≤ w.heap.size) (hgs : Row w gs 28 [x0, x1, x2, x3, x4, x5, x6, x7, x8, x9]) (hga : Row w ga 3 [a]) (hgo : Row w go 4 [o]) (hc : ∀ W, Below w.heap.size w W → Calls Tryz.prog 5 #[.agg #[x0, x1, x2, x3, x4, x5, x6, x7, x8, x9], a, o] W fun e w' => Below W.heap.size W w' ∧ ∃ v', e = .returned (.tuple #[v', m, .int .i64 n]) ∧ HoldsS N W.heap.size w' v' t) :
    Calls Tryz.prog 14 #[.pointer (some ⟨gs, 0, none⟩), .pointer (some ⟨ga, 0, none⟩), .pointer (some ⟨go, 0, none⟩)] w fun e w' => Below w.heap.size w w' ∧ ∃ v', e = .returned (.tuple #[v', .int .i64 n]) ∧ HoldsS N w.heap.size w' v' t := by
  have Hgs := hid hgs
  have Hga := hid hga
  have Hgo := hid hgo
  have HC := hid hc
  clear hc hgs hga hgo
  go_enter Tryz.func14, Tryz.ntmps14
  go_upto_region 1 with fail
  refine fbox1 ?_
  intro w0 F hs
  clear hs
  obtain ⟨gsc0, gsc1, gsc2, gsc3, gsc4, gsc5, gsc6, gsc7, gsc8, gsc9⟩ := (Hgs.out.below F.b Hgs.out.lt).k10
  have gac := ((Hga.out.below F.b Hga.out.lt).cell 0)
  simp at gac
  have goc := ((Hgo.out.below F.b Hgo.out.lt).cell 0)
  simp at goc
  go_wp2_with fail
  refine (HC.out _ F.b).mono ?_
  rintro e w1 ⟨hb1, v', rfl, hva⟩
  have F1 := F.go hb1
  clear hb1 gsc0 gsc1 gsc2 gsc3 gsc4 gsc5 gsc6 gsc7 gsc8 gsc9 gac goc
  obtain ⟨a0, a1, a2, a3, a4, a5, a6, a7, a8, a9, rfl, hon⟩ := hva.now.ten
  have HVA := hid hva
  have HON := hid hon
  clear hva hon
  have HNE := hid F.b.size
  go_upto_region 2 with (refine storeNew rfl rfl rfl rfl structState rfl HON.out ?_; intro w3 hr3 hb3)
  have F3 := F1.go hb3
  have HV3 := hid (HVA.out.below hb3)
  obtain ⟨b0, b1, b2, b3, b4, b5, b6, b7, b8, b9⟩ := hr3.k10
  go_wp2_with (refine F3.store 0 rfl rfl rfl rfl rfl structState rfl HON.out ?_; intro w4 F4 O4)
  refine ret_ct Tryz.results14 rfl F4.r0 structState rfl ⟨F4.b, _, rfl, ?_⟩
  exact (HV3.out.only O4 hN F.r0.lt).lower F.b.size
set_option maxRecDepth 100000 in
set_option maxHeartbeats 4000000 in
theorem clo2_any {x0 x1 x2 x3 x4 x5 x6 x7 x8 x9 a o q u0 u1 u2 u3 u4 u5 u6 u7 u8 u9 u10 u11 u12 u13 u14 u15 u16 u17 m : Value} {gs ga go gq gh N : Nat} {n : Int} {t : St} (w : World) (hN : N ≤ w.heap.size) (hgs : Row w gs 28 [x0, x1, x2, x3, x4, x5, x6, x7, x8, x9]) (hga : Row w ga 3 [a]) (hgo : Row w go 4 [o]) (hgq : Row w gq 3 [q]) (hgh : Row w gh 36 [u0, u1, u2, u3, u4, u5, u6, u7, u8, u9, u10, u11, u12, u13, u14, u15, u16, u17]) (hc : ∀ W, Below w.heap.size w W → Calls Tryz.prog 8 #[.agg #[x0, x1, x2, x3, x4, x5, x6, x7, x8, x9], a, o, q, .agg #[u0, u1, u2, u3, u4, u5, u6, u7, u8, u9, u10, u11, u12, u13, u14, u15, u16, u17]] W fun e w' => Below W.heap.size W w' ∧ ∃ v', e = .returned (.tuple #[v', m, .int .i64 n]) ∧ HoldsS N W.heap.size w' v' t) :
    Calls Tryz.prog 15 #[.pointer (some ⟨gs, 0, none⟩), .pointer (some ⟨ga, 0, none⟩), .pointer (some ⟨go, 0, none⟩), .pointer (some ⟨gq, 0, none⟩), .pointer (some ⟨gh, 0, none⟩)] w fun e w' => Below w.heap.size w w' ∧ ∃ v', e = .returned (.tuple #[v', .int .i64 n]) ∧ HoldsS N w.heap.size w' v' t := by
  have Hgs := hid hgs
  have Hga := hid hga
  have Hgo := hid hgo
  have Hgq := hid hgq
  have Hgh := hid hgh
  have HC := hid hc
  clear hc hgs hga hgo hgq hgh
  go_enter Tryz.func15, Tryz.ntmps15
  go_upto_region 1 with fail
  refine fbox1 ?_
  intro w0 F hs
  clear hs
  obtain ⟨gsc0, gsc1, gsc2, gsc3, gsc4, gsc5, gsc6, gsc7, gsc8, gsc9⟩ := (Hgs.out.below F.b Hgs.out.lt).k10
  have gac := ((Hga.out.below F.b Hga.out.lt).cell 0)
  simp at gac
  have goc := ((Hgo.out.below F.b Hgo.out.lt).cell 0)
  simp at goc
  have gqc := ((Hgq.out.below F.b Hgq.out.lt).cell 0)
  simp at gqc
  obtain ⟨ghc0, ghc1, ghc2, ghc3, ghc4, ghc5, ghc6, ghc7, ghc8, ghc9, ghc10, ghc11, ghc12, ghc13, ghc14, ghc15, ghc16, ghc17⟩ := (Hgh.out.below F.b Hgh.out.lt).k18
  go_wp2_with fail
  refine (HC.out _ F.b).mono ?_
  rintro e w1 ⟨hb1, v', rfl, hva⟩
  have F1 := F.go hb1
  clear hb1 gsc0 gsc1 gsc2 gsc3 gsc4 gsc5 gsc6 gsc7 gsc8 gsc9 gac goc gqc ghc0 ghc1 ghc2 ghc3 ghc4 ghc5 ghc6 ghc7 ghc8 ghc9 ghc10 ghc11 ghc12 ghc13 ghc14 ghc15 ghc16 ghc17
  obtain ⟨a0, a1, a2, a3, a4, a5, a6, a7, a8, a9, rfl, hon⟩ := hva.now.ten
  have HVA := hid hva
  have HON := hid hon
  clear hva hon
  have HNE := hid F.b.size
  go_upto_region 2 with (refine storeNew rfl rfl rfl rfl structState rfl HON.out ?_; intro w3 hr3 hb3)
  have F3 := F1.go hb3
  have HV3 := hid (HVA.out.below hb3)
  obtain ⟨b0, b1, b2, b3, b4, b5, b6, b7, b8, b9⟩ := hr3.k10
  go_wp2_with (refine F3.store 0 rfl rfl rfl rfl rfl structState rfl HON.out ?_; intro w4 F4 O4)
  refine ret_ct Tryz.results15 rfl F4.r0 structState rfl ⟨F4.b, _, rfl, ?_⟩
  exact (HV3.out.only O4 hN F.r0.lt).lower F.b.size
end Go.Proofs.YtbgdpfeobklnhaaGreatDoor
namespace Go.Proofs.YtbgdpfeobklnhaaGreatDoor
open Go.RowKit

set_option maxRecDepth 100000 in
set_option maxHeartbeats 4000000 in
theorem ctry_any (s : St) (v hv2 : Value) (N : Nat) (w : World) (i q z : Int) (od : Bool) (h : Sh) (hv : StV w N v s) (hh : ShV w N hv2 h) (hN : N ≤ w.heap.size) (hfit : s.fits) (hhf : h.fits) (htab : tableAt w) (hpow : powAt w) (hz : askCh s ⟨2, od, i, q, 0, 0, 0⟩ 1 (-1) h z) :
    Calls Tryz.prog 8 #[v, .int .i64 i, .bool od, .int .i64 q, hv2] w fun e w' => Below w.heap.size w w' ∧ ∃ v', e = .returned (.tuple #[v', .int .i64 (addChI s (ctryN s i q z)), .int .i64 (ctryN s i q z)]) ∧ HoldsS N w.heap.size w' v' (ctryS s i od q z) := by
  have HST := hid (fun wx (hx : Below w.heap.size w wx) => cstart_any s v N wx i (hv.below (hx.mono hN)) (Nat.le_trans hN hx.size) hfit)
  have HAD := hid (fun (h0 : cstartN s i = 0) wx (hx : Below w.heap.size w wx) => cadded_any s v N wx ⟨2, od, i, q, 0, 0, 0⟩ (hv.below (hx.mono hN)) (Nat.le_trans hN hx.size) hfit (wrongS_few (cstartN_ok h0).1))
  have HMB := hid (fun (h0 : cstartN s i = 0) (hq : fromB 0 q = true) wx (hx : Below w.heap.size w wx) => cmem_any s v hv2 N wx 1 (-1) z ⟨2, od, i, q, 0, 0, 0⟩ h (hv.below (hx.mono hN)) (hh.below (hx.mono hN)) (Nat.le_trans hN hx.size) hfit hhf (htab.past hx) (hpow.below hx) (cstartN_ok h0).1 (cstartN_ok h0).2 ((fromB_iff _ _).1 hq) (by omega) (by omega) hz)
  have HD := hid (show ctryN s i q z = if cstartN s i ≠ 0 then cstartN s i else if fromB 0 q = false then 3 else if z ≠ 0 then z else manyChN s from rfl)
  have HSS := hid (show ctryS s i od q z = addCh s (ctryN s i q z) ⟨2, od, i, q, 1, 1, 1⟩ from rfl)
  obtain ⟨o1, c1, o2, c2, o3, c3, o4, c4, o5, c5, o6, c6, o7, c7, rfl, hm⟩ := hv.open
  obtain ⟨q1, e1, q2, e2, q3, e3, r1, s1, r2, s2, r3, s3, r4, s4, r5, s5, r6, s6, rfl, hpv⟩ := hh.open
  clear hv hm hfit hh hpv hhf htab hpow hz
  go_enter Tryz.func8, Tryz.ntmps8
  go_upto_region 1 with fail
  refine fbox3 ?_
  intro w0 F0 hs
  clear hs
  obtain ⟨k0, k1, k2, k3, k4, k5, k6, k7, k8, k9⟩ := F0.r0.k10
  go_wp2_with fail
  refine (HST.out _ F0.b).mono ?_
  rintro e w1 ⟨rfl, hb1⟩
  have F := F0.go hb1
  clear hb1 k0 k1 k2 k3 k4 k5 k6 k7 k8 k9 F0
  by_cases hz : cstartN s i = 0
  · have HD2 := hid (HD.out.trans (if_neg (by simp [hz])))
    have HA2 := hid (HAD.out hz)
    have HM2 := hid (HMB.out hz)
    rw [hz]
    clear hz
    cases hfq : fromB 0 q with
    | false =>
      have HFQ := hid hfq
      have HI := hid (show ctryN s i q z = 3 from HD2.out.trans (if_pos hfq))
      have HNO := hid (show ctryS s i od q z = St.none by rw [HSS.out, HI.out]; exact if_neg (by decide))
      clear hfq
      go_wp2_with (first | (go_at_call 33; refine (from_any _ _ _).mono ?_; rintro e w' ⟨rfl, hww⟩; obtain rfl := hww.symm; rw [HFQ.out]) | (refine F.store 2 rfl rfl rfl rfl rfl structState rfl (by simp [Value.oneCell']) ?_; intro wz FZ OZ))
      refine ret_ctt Tryz.results8 rfl FZ.r2 structState rfl ⟨FZ.b, _, by rw [HI.out]; rfl, ?_⟩
      rw [HNO.out]
      exact holdsS_none _ _ _
    | true =>
      have HFQ := hid hfq
      have HD3 := hid (HD2.out.trans (if_neg (by simp [hfq])))
      have HM3 := hid (HM2.out hfq)
      clear hfq
      go_upto_region 7 with (go_at_call 33; refine (from_any _ _ _).mono ?_; rintro e w' ⟨rfl, hww⟩; obtain rfl := hww.symm; rw [HFQ.out])
      refine F.box ?_
      intro w2 F2 hs2 hb2
      clear hs2 hb2
      obtain ⟨k0, k1, k2, k3, k4, k5, k6, k7, k8, k9⟩ := F2.r0.k10
      obtain ⟨h0, h1, h2, h3, h4, h5, h6, h7, h8, h9, h10, h11, h12, h13, h14, h15, h16, h17⟩ := F2.r1.k18
      obtain ⟨a0, a1, a2, a3, a4, a5, a6⟩ := F2.r3.k7
      go_wp2_with fail
      refine (HM3.out _ F2.b).mono ?_
      rintro e w3 ⟨rfl, hb3⟩
      have F3 := F2.go hb3
      clear hb3 k0 k1 k2 k3 k4 k5 k6 k7 k8 k9 h0 h1 h2 h3 h4 h5 h6 h7 h8 h9 h10 h11 h12 h13 h14 h15 h16 h17 a0 a1 a2 a3 a4 a5 a6 F2
      by_cases hz : z = 0
      · subst hz
        have HI := hid (show ctryN s i q 0 = manyChN s from HD3.out.trans (if_neg (by simp)))
        obtain ⟨k0, k1, k2, k3, k4, k5, k6, k7, k8, k9⟩ := F3.r0.k10
        obtain ⟨a0, a1, a2, a3, a4, a5, a6⟩ := F3.r3.k7
        go_wp2_with fail
        refine (HA2.out _ F3.b).mono ?_
        rintro e w4 ⟨hb4, v', rfl, hva⟩
        have F4 := F3.go hb4
        clear hb4 k0 k1 k2 k3 k4 k5 k6 k7 k8 k9 a0 a1 a2 a3 a4 a5 a6
        obtain ⟨a0, a1, a2, a3, a4, a5, a6, a7, a8, a9, rfl, hon⟩ := hva.now.ten
        have HVA := hid hva
        have HON := hid hon
        clear hva hon
        go_wp2_with (refine F4.store 2 rfl rfl rfl rfl rfl structState rfl HON.out ?_; intro w5 F5 O5)
        refine ret_ctt Tryz.results8 rfl F5.r2 structState rfl ⟨F5.b, _, by rw [HI.out]; rfl, ?_⟩
        rw [HSS.out, HI.out]
        exact (HVA.out.only O5 (by omega) F3.r2.lt).lower F3.b.size
      · have e0 : (z != 0) = true := by simpa using hz
        have HI := hid (show ctryN s i q z = z from HD3.out.trans (if_pos hz))
        have HNO := hid (show ctryS s i od q z = St.none from HSS.out.trans (by rw [HD3.out, if_pos hz]; exact if_neg hz))
        have HN0 := hid (show addChI s (z) = 0 from if_neg hz)
        clear hz
        go_wp2_with (refine F3.store 2 rfl rfl rfl rfl rfl structState rfl (by simp [Value.oneCell']) ?_; intro wz FZ OZ)
        refine ret_ctt Tryz.results8 rfl FZ.r2 structState rfl ⟨FZ.b, _, by rw [HI.out, HN0.out]; rfl, ?_⟩
        rw [HNO.out]
        exact holdsS_none _ _ _
  · have e0 : (cstartN s i != 0) = true := by simpa using hz
    have HI := hid (show ctryN s i q z = cstartN s i from HD.out.trans (if_pos hz))
    have HNO := hid (show ctryS s i od q z = St.none from HSS.out.trans (by rw [HD.out, if_pos hz]; exact if_neg hz))
    have HN0 := hid (show addChI s (cstartN s i) = 0 from if_neg hz)
    clear hz
    generalize cstartN s i = zz at *
    go_wp2_with (refine F.store 2 rfl rfl rfl rfl rfl structState rfl (by simp [Value.oneCell']) ?_; intro wz FZ OZ)
    refine ret_ctt Tryz.results8 rfl FZ.r2 structState rfl ⟨FZ.b, _, by rw [HI.out, HN0.out]; rfl, ?_⟩
    rw [HNO.out]
    exact holdsS_none _ _ _
end Go.Proofs.YtbgdpfeobklnhaaGreatDoor
namespace Go.Proofs.YtbgdpfeobklnhaaGreatDoor
open Go.RowKit

set_option maxRecDepth 100000 in
set_option maxHeartbeats 4000000 in
theorem cack_any (s : St) (v hv2 : Value) (N : Nat) (w : World) (i q z : Int) (h : Sh) (hv : StV w N v s) (hh : ShV w N hv2 h) (hN : N ≤ w.heap.size) (hfit : s.fits) (hhf : h.fits) (htab : tableAt w) (hpow : powAt w) (hz : askCh s ⟨3, (chAt s i).ordered, (chAt s i).conn, q, 0, 0, 0⟩ 2 i h z) :
    Calls Tryz.prog 9 #[v, .int .i64 i, .int .i64 q, hv2] w fun e w' => Below w.heap.size w w' ∧ ∃ v', e = .returned (.tuple #[v', .int .i64 (cackN s i q z)]) ∧ HoldsS N w.heap.size w' v' (cackS s i q z) := by
  have HST := hid (fun wx (hx : Below w.heap.size w wx) => cend_any s v N wx i 1 (hv.below (hx.mono hN)) (Nat.le_trans hN hx.size) hfit)
  have HAD := hid (fun (h0 : cendN s i 1 = 0) (o : Ch) wx (hx : Below w.heap.size w wx) => creplaced_any s v N wx i o (hv.below (hx.mono hN)) (Nat.le_trans hN hx.size) hfit (wrongS_few (cendN_ok h0).1) (cendN_ok h0).2.1)
  have HMB := hid (fun (h0 : cendN s i 1 = 0) (hq : fromB 0 q = true) wx (hx : Below w.heap.size w wx) => cmem_any s v hv2 N wx 2 i z ((chAt s i).turned (chAt s i).state q) h (hv.below (hx.mono hN)) (hh.below (hx.mono hN)) (Nat.le_trans hN hx.size) hfit hhf (htab.past hx) (hpow.below hx) (cendN_ok h0).1 (cendN_ok h0).2.2.2 ((fromB_iff _ _).1 hq) (by omega) (by have := (cendN_ok h0).2.1; have := (wrongS_few (cendN_ok h0).1).2.2.1; omega) hz)
  have HD := hid (show cackN s i q z = if cendN s i 1 ≠ 0 then cendN s i 1 else if fromB 0 q = false then 3 else z from rfl)
  have HSS := hid (show cackS s i q z = putCh s (cackN s i q z) i ((chAt s i).turned 3 q) from rfl)
  obtain ⟨o1, c1, o2, c2, o3, c3, o4, c4, o5, c5, o6, c6, o7, c7, rfl, hm⟩ := hv.open
  obtain ⟨q1, e1, q2, e2, q3, e3, r1, s1, r2, s2, r3, s3, r4, s4, r5, s5, r6, s6, rfl, hpv⟩ := hh.open
  have HM := hid hm
  clear hv hm hfit hh hpv hhf htab hpow hz
  go_enter Tryz.func9, Tryz.ntmps9
  go_upto_region 1 with fail
  refine fbox3 ?_
  intro w0 F0 hs
  clear hs
  obtain ⟨k0, k1, k2, k3, k4, k5, k6, k7, k8, k9⟩ := F0.r0.k10
  go_wp2_with fail
  refine (HST.out _ F0.b).mono ?_
  rintro e w1 ⟨rfl, hb1⟩
  have F := F0.go hb1
  clear hb1 k0 k1 k2 k3 k4 k5 k6 k7 k8 k9 F0
  by_cases hz : cendN s i 1 = 0
  · have HD2 := hid (HD.out.trans (if_neg (by simp [hz])))
    have HA2 := hid (HAD.out hz)
    have HM2 := hid (HMB.out hz)
    have hr := (cendN_ok hz).2.1
    rw [hz]
    clear hz
    cases hfq : fromB 0 q with
    | false =>
      have HFQ := hid hfq
      have HI := hid (show cackN s i q z = 3 from HD2.out.trans (if_pos hfq))
      have HNO := hid (show cackS s i q z = St.none by rw [HSS.out, HI.out]; exact if_neg (by decide))
      clear hfq
      go_wp2_with (first | (go_at_call 33; refine (from_any _ _ _).mono ?_; rintro e w' ⟨rfl, hww⟩; obtain rfl := hww.symm; rw [HFQ.out]) | (refine F.store 2 rfl rfl rfl rfl rfl structState rfl (by simp [Value.oneCell']) ?_; intro wz FZ OZ))
      refine ret_ct Tryz.results9 rfl FZ.r2 structState rfl ⟨FZ.b, _, by rw [HI.out]; rfl, ?_⟩
      rw [HNO.out]
      exact holdsS_none _ _ _
    | true =>
      have HFQ := hid hfq
      have HI := hid (show cackN s i q z = z from HD2.out.trans (if_neg (by simp [hfq])))
      have HM3 := hid (HM2.out hfq)
      clear hfq
      obtain ⟨k, rfl⟩ : ∃ k : Nat, i = (k : Int) := ⟨i.toNat, by omega⟩
      obtain ⟨x, hx⟩ : ∃ x, s.chans[k]? = some x := ⟨_, List.getElem?_eq_getElem (by omega)⟩
      have HX := hid hx
      rw [chAt_some hx] at HSS HM3
      clear hx
      have hlt : (k : Int) < (s.chans.length : Int) := by omega
      obtain ⟨b, f, rfl, hb, x0, x1, x2, x3, x4, x5, x6⟩ := (HM.out.below (F.b.mono hN)).chans.chan rfl HX.out
      have k5 := F.r0.k10.2.2.2.2.2.1
      go_upto_region 7 with (first | (go_at_call 33; refine (from_any _ _ _).mono ?_; rintro e w' ⟨rfl, hww⟩; obtain rfl := hww.symm; rw [HFQ.out]))
      refine F.box ?_
      intro w2 F2 hs2 hb2
      clear hs2 hb2 x0 x1 x2 x3 x4 x5 x6 k5
      have a3 := F2.r3.k7.2.2.2.1
      have z3 := F2.r3.frozen 3
      go_upto_region 8 with fail
      refine F2.cell 3 rfl ?_
      intro w3 F3 O3
      clear a3 z3 O3 F2
      obtain ⟨k0, k1, k2, k3, k4, k5, k6, k7, k8, k9⟩ := F3.r0.k10
      obtain ⟨h0, h1, h2, h3, h4, h5, h6, h7, h8, h9, h10, h11, h12, h13, h14, h15, h16, h17⟩ := F3.r1.k18
      obtain ⟨a0, a1, a2, a3, a4, a5, a6⟩ := F3.r3.k7
      go_wp2_with fail
      refine (HM3.out _ F3.b).mono ?_
      rintro e w4 ⟨rfl, hb4⟩
      have F4 := F3.go hb4
      clear hb4 k0 k1 k2 k3 k4 k5 k6 k7 k8 k9 h0 h1 h2 h3 h4 h5 h6 h7 h8 h9 h10 h11 h12 h13 h14 h15 h16 h17 a0 a1 a2 a3 a4 a5 a6 F3
      by_cases hz : z = 0
      · subst hz
        have a0 := F4.r3.k7.1
        have z0 := F4.r3.frozen 0
        go_upto_region 12 with fail
        refine F4.cell 3 rfl ?_
        intro w5 F5 O5
        clear a0 z0 O5 F4
        obtain ⟨k0, k1, k2, k3, k4, k5, k6, k7, k8, k9⟩ := F5.r0.k10
        obtain ⟨a0, a1, a2, a3, a4, a5, a6⟩ := F5.r3.k7
        go_wp2_with fail
        refine (HA2.out (x.turned 3 q) _ F5.b).mono ?_
        rintro e w6 ⟨hb6, v', rfl, hva⟩
        have F6 := F5.go hb6
        clear hb6 k0 k1 k2 k3 k4 k5 k6 k7 k8 k9 a0 a1 a2 a3 a4 a5 a6
        obtain ⟨a0, a1, a2, a3, a4, a5, a6, a7, a8, a9, rfl, hon⟩ := hva.now.ten
        have HVA := hid hva
        have HON := hid hon
        clear hva hon
        go_wp2_with (refine F6.store 2 rfl rfl rfl rfl rfl structState rfl HON.out ?_; intro w7 F7 O7)
        refine ret_ct Tryz.results9 rfl F7.r2 structState rfl ⟨F7.b, _, by rw [HI.out]; rfl, ?_⟩
        rw [HSS.out, HI.out]
        exact (HVA.out.only O7 (by omega) F5.r2.lt).lower F5.b.size
      · have e0 : (z != 0) = true := by simpa using hz
        have HI := hid (HI.out)
        have HNO := hid (show cackS s (k : Int) q z = St.none from HSS.out.trans (by rw [HI.out]; exact if_neg hz))
        clear hz
        go_wp2_with (refine F4.store 2 rfl rfl rfl rfl rfl structState rfl (by simp [Value.oneCell']) ?_; intro wz FZ OZ)
        refine ret_ct Tryz.results9 rfl FZ.r2 structState rfl ⟨FZ.b, _, by rw [HI.out]; rfl, ?_⟩
        rw [HNO.out]
        exact holdsS_none _ _ _
  · have e0 : (cendN s i 1 != 0) = true := by simpa using hz
    have HI := hid (show cackN s i q z = cendN s i 1 from HD.out.trans (if_pos hz))
    have HNO := hid (show cackS s i q z = St.none from HSS.out.trans (by rw [HD.out, if_pos hz]; exact if_neg hz))
    clear hz
    generalize cendN s i 1 = zz at *
    go_wp2_with (refine F.store 2 rfl rfl rfl rfl rfl structState rfl (by simp [Value.oneCell']) ?_; intro wz FZ OZ)
    refine ret_ct Tryz.results9 rfl FZ.r2 structState rfl ⟨FZ.b, _, by rw [HI.out]; rfl, ?_⟩
    rw [HNO.out]
    exact holdsS_none _ _ _
end Go.Proofs.YtbgdpfeobklnhaaGreatDoor
namespace Go.Proofs.YtbgdpfeobklnhaaGreatDoor
open Go.RowKit

set_option maxRecDepth 1000000 in
set_option maxHeartbeats 8000000 in
theorem chansGo_any (s : St) (v hv2 : Value) (N : Nat) (w : World) (i q : Int) (od : Bool) (h : Sh) (hpow : powAt w) (htab : tableAt w) (hN : N ≤ w.heap.size) (hv : StV w N v s) (hh : ShV w N hv2 h) (hfit : s.fits) (hhf : h.fits) :
    Calls Tryz.prog 4 #[v, .int .i64 i, .bool od, .int .i64 q, hv2] w fun e w' => e = .returned (.bool true) ∧ Below w.heap.size w w' := by
  obtain ⟨zt, hzt⟩ : ∃ z, askCh s ⟨2, od, i, q, 0, 0, 0⟩ 1 (-1) h z := by unfold askCh MemberAt; exact ShownN.some _ _ _ _
  obtain ⟨za, hza⟩ : ∃ z, askCh s ⟨3, (chAt s i).ordered, (chAt s i).conn, q, 0, 0, 0⟩ 2 i h z := by unfold askCh MemberAt; exact ShownN.some _ _ _ _
  obtain ⟨zc, hzc⟩ : ∃ z, askCh s ⟨2, (chAt s i).ordered, (chAt s i).conn, (chAt s i).ochan, 0, 0, 0⟩ 3 i h z := by unfold askCh MemberAt; exact ShownN.some _ _ _ _
  obtain ⟨zy, hzy⟩ : ∃ z, askCh s ⟨3, (chAt s i).ordered, (chAt s i).conn, (chAt s i).ochan, 0, 0, 0⟩ 4 i h z := by unfold askCh MemberAt; exact ShownN.some _ _ _ _
  have HIN := hid (fun wx (hx : Below w.heap.size w wx) => cinit_any s v N wx i od (hv.below (hx.mono hN)) (Nat.le_trans hN hx.size) hfit)
  have HTR := hid (fun wx (hx : Below w.heap.size w wx) => ctry_any s v hv2 N wx i q zt od h (hv.below (hx.mono hN)) (hh.below (hx.mono hN)) (Nat.le_trans hN hx.size) hfit hhf (htab.past hx) (hpow.below hx) hzt)
  have HAK := hid (fun wx (hx : Below w.heap.size w wx) => cack_any s v hv2 N wx i q za h (hv.below (hx.mono hN)) (hh.below (hx.mono hN)) (Nat.le_trans hN hx.size) hfit hhf (htab.past hx) (hpow.below hx) hza)
  have HCF := hid (fun wx (hx : Below w.heap.size w wx) => cconf_any s v hv2 N wx i zc h (hv.below (hx.mono hN)) (hh.below (hx.mono hN)) (Nat.le_trans hN hx.size) hfit hhf (htab.past hx) (hpow.below hx) hzc)
  have HCL := hid (fun wx (hx : Below w.heap.size w wx) => cclose_any s v N wx i (hv.below (hx.mono hN)) (Nat.le_trans hN hx.size) hfit)
  have HCD := hid (fun wx (hx : Below w.heap.size w wx) => cclosed_any s v hv2 N wx i zy h (hv.below (hx.mono hN)) (hh.below (hx.mono hN)) (Nat.le_trans hN hx.size) hfit hhf (htab.past hx) (hpow.below hx) hzy)
  obtain ⟨o1, c1, o2, c2, o3, c3, o4, c4, o5, c5, o6, c6, o7, c7, rfl, hm⟩ := hv.open
  obtain ⟨q1, e1, q2, e2, q3, e3, r1, s1, r2, s2, r3, s3, r4, s4, r5, s5, r6, s6, rfl, hpv⟩ := hh.open
  have HSF := hid hfit
  have HM := hid hm
  clear hv hm hh hfit hhf htab hpow hzt hza hzc hzy hpv
  go_enter Tryz.func4, Tryz.ntmps4
  go_upto_region 1 with fail
  refine fbox5 ?_
  intro w0 F0 hs
  clear hs
  go_wp2_with fail
  refine (alive10_any _).mono ?_
  rintro e w1 ⟨rfl, hb1⟩
  have F1 := F0.go hb1
  clear hb1
  go_wp2_with fail
  refine F1.box ?_
  intro w2 F2 hs2 hb2
  clear hs2 hb2
  have hN2 : N ≤ w2.heap.size := Nat.le_trans hN F2.b.size
  refine goSteps s i _ (hid F2.r5) hN2 (hid fun k hk => ?_) _ (hid ?_)
  · have hk6 : k = 0 ∨ k = 1 ∨ k = 2 ∨ k = 3 ∨ k = 4 ∨ k = 5 := by omega
    rcases hk6 with rfl | rfl | rfl | rfl | rfl | rfl
    · exact ⟨_, _, cinitN s i, cinitS s i od, rfl, fun e => follows_cinit HSF.out e, fun _ => rfl, fun W hW => clo1_any W (Nat.le_trans hN2 hW.size) (F2.go hW).r0 (F2.go hW).r1 (F2.go hW).r2 (fun X hX => HIN.out X ((F2.go hW).go hX).b)⟩
    · exact ⟨_, _, ctryN s i q zt, ctryS s i od q zt, rfl, fun e => follows_ctry HSF.out e, fun _ => rfl, fun W hW => clo2_any W (Nat.le_trans hN2 hW.size) (F2.go hW).r0 (F2.go hW).r1 (F2.go hW).r2 (F2.go hW).r3 (F2.go hW).r4 (fun X hX => HTR.out X ((F2.go hW).go hX).b)⟩
    · exact ⟨_, _, cackN s i q za, cackS s i q za, rfl, fun e => follows_cack HSF.out e, fun _ => rfl, fun W hW => clo3_any W (Nat.le_trans hN2 hW.size) (F2.go hW).r0 (F2.go hW).r1 (F2.go hW).r3 (F2.go hW).r4 (fun X hX => HAK.out X ((F2.go hW).go hX).b)⟩
    · exact ⟨_, _, alongN s i 2 zc, alongS s i 2 zc 3, rfl, fun e => follows_along HSF.out (by omega) (by omega) (by omega) e, fun _ => rfl, fun W hW => clo4_any W (Nat.le_trans hN2 hW.size) (F2.go hW).r0 (F2.go hW).r1 (F2.go hW).r4 (fun X hX => HCF.out X ((F2.go hW).go hX).b)⟩
    · exact ⟨_, _, cendN s i 3, closeS s i, rfl, fun e => follows_close HSF.out e, fun _ => rfl, fun W hW => clo5_any W (Nat.le_trans hN2 hW.size) (F2.go hW).r0 (F2.go hW).r1 (fun X hX => HCL.out X ((F2.go hW).go hX).b)⟩
    · exact ⟨_, _, alongN s i 3 zy, alongS s i 3 zy 4, rfl, fun e => follows_along HSF.out (by omega) (by omega) (by omega) e, fun _ => rfl, fun W hW => clo6_any W (Nat.le_trans hN2 hW.size) (F2.go hW).r0 (F2.go hW).r1 (F2.go hW).r4 (fun X hX => HCD.out X ((F2.go hW).go hX).b)⟩
  intro z13 z14 z15 z31 z32 z33 z34 z35 z36 z37 z38 z39 z40 z41 z42 z43 z44 z45 z46 va l w3 hb3 haf hfo hl
  have F3 := F2.go hb3
  obtain ⟨oa, cap, rfl⟩ := haf.shape
  have HAF := hid haf
  have HFO := hid hfo
  clear hb3 haf hfo
  go_wp2_with fail
  refine goOut s i o1 o2 o3 o4 o5 o6 o7 c1 c2 c3 c4 c5 c6 c7 l oa cap (hid F3.r0) (hid F3.r1) (hid (HM.out.below (F3.b.mono hN))) (Nat.le_trans hN F3.b.size) HSF HAF HFO (by omega) _ (hid ?_)
  intro y10 y17 y18 y19 y20 y49 y50 y51 y52 y53 y54 y55 y56 y57 y58 y59 y60 y61 y62 y63 y64 y65 y66 y67 y68 y69 y70 y71 y72 y73 y74 y75 y76 y77 y78 y79 y80 y81 y82 y83 y84 y85 y86 y87 y88 y89 y90 y91 y92 y93 y94 y95 y96 y97 y98 y99 y100 y101 y102 y103 y104 y105 y106 y107 y108 y109 y110 y111 y112 y113 y114 y115 y116 y117 y118 y119 y120 y121 y122 y123 y124 y125 w4 hb4
  have F4 := F3.go hb4
  clear hb4
  go_wp2
  go_ret
  exact ⟨rfl, F4.b⟩
end Go.Proofs.YtbgdpfeobklnhaaGreatDoor
