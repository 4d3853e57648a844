/-
  The law's alive: a gift is made.
-/
import Derived.Test.YtbjlfhabnjpdmaaGreatDoorProg
import Derived.Test.YtbjlfhabnjpdmaaGreatDoorlaBkMint
import Derived.Test.YtbjlfhabnjpdmaaGreatDoorlaBkTr
import Derived.Test.YtbjlfhabnjpdmaaGreatDoorlaStApp
import Derived.Test.YtbjlfhabnjpdmaaGreatDoorlaRegGo
import Derived.Test.YtbjlfhabnjpdmaaGreatDoorlaApGiveM
import Derived.Test.YtbjlfhabnjpdmaaGreatDoorlaBkParse
import Derived.Test.YtbjlfhabnjpdmaaGreatDoorlaApKit
import Derived.Test.YtbjlfhabnjpdmaaGreatDoorlaApFit
import Derived.Test.YtbjlfhabnjpdmaaGreatDoorlaApObKit
import Derived.Test.YtbjlfhabnjpdmaaGreatDoorlaApDo
import Derived.Shelf.Strconv.Itoa3
import Derived.Shelf.Strings.Prefix
import Derived.Ground.NamesProg
import Derived.Lib.ItoaLen
import Derived.Laws.Concat
namespace Go.Proofs.YtbjlfhabnjpdmaaGreatDoor
open Go.RowKit

set_option maxRecDepth 100000 in
set_option maxHeartbeats 4000000 in
theorem obey18 (s : St) (m : Ms) (o : Nat → Option Addr) (c : Nat → Nat) (v : Value) (N : Nat) (w : World) (hk : m.kind = 18) (hv : StV w N v s) (hN : N ≤ w.heap.size)
    (hc : ∀ W, Below w.heap.size w W → Calls Tryz.prog 65 #[v, .agg (msC m o c).toArray] W fun e w' => Below W.heap.size W w' ∧ ∃ v', e = .returned (.tuple #[v', .int .i64 (giveE s m.tr)]) ∧ HoldsS N W.heap.size w' v' (giveS s m.tr)) :
    Calls Tryz.prog 18 #[v, .agg (msC m o c).toArray] w fun e w' => Below w.heap.size w w' ∧ ∃ x, e = .returned x ∧ OutV N w.heap.size w' x ⟨giveS s m.tr, giveE s m.tr, 0, Pk.none⟩ := by
  obtain ⟨o1, c1, o2, c2, o3, c3, o4, c4, o5, c5, o6, c6, o7, c7, rfl, -⟩ := hv.open
  have HC := hid hc
  clear hc hv
  generalize s.clients.length = n1, s.conns.length = n2, s.chans.length = n3, s.sent.length = n4, s.got.length = n5, s.acks.length = n6, s.purses.length = n7 at *
  go_enter Tryz.func18, Tryz.ntmps18
  go_upto_region 1 with fail
  refine fbox4 ?_
  intro w0 F0 hs
  have q0 : w0.cell? ⟨w.heap.size + 1, 0, none⟩ = some (.int .i64 18) := hk ▸ F0.r1.cell 0
  have hkk := hid hk
  clear hs hk
  go_wp2_with (first | refine F0.load 0 rfl rfl rfl rfl structState ?_ | refine F0.load 1 rfl rfl rfl rfl structMsg ?_)
  refine (HC.out _ F0.b).mono ?_
  rintro e w1 ⟨hb1, v', rfl, hh⟩
  have F1 := F0.go hb1
  have HH := hid hh
  have l2 := F0.r2.lt
  have l3 := F0.r3.lt
  have HBS := hid F0.b.size
  obtain ⟨a1, b1, d1, a2, b2, d2, a3, b3, d3, a4, b4, d4, a5, b5, d5, a6, b6, d6, a7, b7, d7, rfl⟩ := hh.open
  clear hb1 hh HC F0 q0
  go_wp2_with fail
  refine (changed_any _ _ _ _ _ _ _ _ _ _ _ _ _ _ _ _ _ _ _ _ _ _ _ _ _ _).mono ?_
  rintro e w2 ⟨rfl, hb2⟩
  have F2 := F1.go hb2
  have HH2 := hid (HH.out.below hb2)
  clear hb2 F1 HH
  go_wp2_with (first | (refine F2.store 2 rfl rfl rfl rfl rfl structState rfl (by simp [Value.oneCell']) ?_; intro w3 F3 O3) | (refine F3.store 3 rfl rfl rfl rfl rfl structDone rfl (by simp [Value.oneCell']) ?_; intro w4 F4 O4))
  refine ret_cc Tryz.results18 rfl F4.r2 structState rfl F4.r3 structDone rfl ⟨F4.b, _, rfl, _, none, 0, 0, rfl, ?_, holdsP_none _ _ _⟩
  exact (((HH2.out.only O3 (by omega) l2).only O4 (by omega) l3)).lower HBS.out
end Go.Proofs.YtbjlfhabnjpdmaaGreatDoor
namespace Go.Proofs
open Go.Shelf
def Tryz.laysPre99_ren : Go.Shelf.Ren := ⟨fun | 99 => 182 | 206 => 234 | n => n, fun | 9 => 9 | 4 => 4 | 3 => 3 | n => n, fun | n => n⟩
theorem Tryz.laysPre99 : Go.Proofs.Lays.n99 Tryz.prog Tryz.laysPre99_ren := {
  mixed := by kernel_rfl
  f99 := Tryz.func182.trans (congrArg some (by kernel_rfl))
  f206 := Tryz.func234.trans (congrArg some (by kernel_rfl))
  t3 := Tryz.underlying3
  a3 := Tryz.isAgg3
  z3 := Tryz.sizeOf3
  v3 := Tryz.zeroValue3
  t4 := Tryz.underlying4
  a4 := Tryz.isAgg4
  z4 := Tryz.sizeOf4
  v4 := Tryz.zeroValue4
  t9 := Tryz.underlying9
  a9 := Tryz.isAgg9
  z9 := Tryz.sizeOf9
  v9 := Tryz.zeroValue9 }
end Go.Proofs
namespace Go.Proofs.YtbjlfhabnjpdmaaGreatDoor
open Go.RowKit

theorem prefix_any (s p : ByteArray) (w : World) : Calls Tryz.prog 182 #[.string s, .string p] w fun e w' => e = .returned (.bool (Lib.hasPrefix s.data.toList p.data.toList)) ∧ Below w.heap.size w w' := by
  refine (Any.strings_HasPrefix Tryz.laysPre99 s p w).mono ?_
  rintro e w' ⟨rfl, rfl⟩
  exact ⟨rfl, Below.refl _ _⟩
end Go.Proofs.YtbjlfhabnjpdmaaGreatDoor
namespace Go.Proofs.YtbjlfhabnjpdmaaGreatDoor
open Go.RowKit

set_option maxRecDepth 100000 in
set_option maxHeartbeats 4000000 in
theorem asSafe_any (o : ByteArray) (w : World) : Calls Tryz.prog 175 #[.string o] w fun e w' => e = .returned (.bool (safeB o)) ∧ Below w.heap.size w w' := by
  have HP := hid (show ∀ W, Calls Tryz.prog 182 #[.string o, .string ⟨#[35]⟩] W fun e w' => e = .returned (.bool (safeB o)) ∧ Below W.heap.size W w' from fun W => prefix_any o ⟨#[35]⟩ W)
  go_enter Tryz.func175, Tryz.ntmps175
  go_wp2_with fail
  refine (HP.out w).mono ?_
  rintro e w1 ⟨rfl, hb⟩
  have HB := hid hb
  clear hb
  go_wp2
  go_ret
  exact ⟨rfl, HB.out⟩
/-- the place of the first one, if there is any -/
def IdxS (ss : List ByteArray) (i : Int) : Prop := (i = -1 ∧ ss.any safeB = false) ∨ (0 ≤ i ∧ ss.any safeB = true)
set_option maxRecDepth 100000 in
set_option maxHeartbeats 4000000 in
theorem indexSafe_any (ss : List ByteArray) (g n : Nat) (w : World) (hr : Row w g 9 (ss.map Value.string)) (hn : n = ss.length) (hl : n ≤ 10) :
    Calls Tryz.prog 227 #[.slice (some ⟨g, 0, none⟩) n n, .func (.func 175) #[] #[]] w fun e w' => Below w.heap.size w w' ∧ ∃ i : Int, e = .returned (.int .i64 i) ∧ IdxS ss i := by
  have HR0 := hid hr
  have HN := hid hn
  have hgl := hr.lt
  clear hr hn
  go_enter Tryz.func227, Tryz.ntmps227
  go_wp2_with fail
  go_loopw [5, 8] (fun _ s8 wr => ∃ k : Nat, k ≤ n ∧ s8 = .int .i64 (k : Int) ∧ Hid (Below w.heap.size w wr ∧ ∀ x ∈ ss.take k, safeB x = false)) (fun _ s8 _ => n - (intOf s8).toNat)
  case atStart => exact ⟨0, Nat.zero_le _, rfl, hid ⟨Below.refl _ _, by simp⟩⟩
  case round =>
    obtain ⟨k, hk, rfl, HR⟩ := hrel
    have hszr := HR.out.1.size
    by_cases hlt : k < n
    · have hlt' : (k : Int) < (n : Int) := by omega
      obtain ⟨x, hx⟩ : ∃ x, ss[k]? = some x := ⟨ss[k]'(by rw [← HN.out]; exact hlt), List.getElem?_eq_getElem _⟩
      have f0 := (HR.out.1.cell (p := ⟨g, k, none⟩) hgl).trans ((HR0.out.cell k).trans (show (ss.map Value.string)[k]? = some (.string x) by simp [hx]))
      have HF := hid (asSafe_any x wr)
      have HX := hid hx
      clear hx
      cases hsb : safeB x with
      | true =>
        have HE := hid hsb
        rw [hsb] at HF
        clear hsb
        go_wp2_with fail
        refine HF.out.mono ?_
        rintro e w5 ⟨rfl, hb5⟩
        have HB5 := hid (HR.out.1.trans (hb5.mono hszr))
        clear hb5
        go_wp2
        go_ret
        exact ⟨HB5.out, _, rfl, .inr ⟨by omega, List.any_eq_true.2 ⟨x, List.mem_of_getElem? HX.out, HE.out⟩⟩⟩
      | false =>
        have HE := hid hsb
        rw [hsb] at HF
        have HTK := hid (show ∀ y ∈ ss.take (k + 1), safeB y = false from fun y hy => by
          rw [List.take_add_one, HX.out] at hy
          rcases List.mem_append.1 hy with hy | hy
          · exact HR.out.2 y hy
          · obtain rfl : y = x := by simpa using hy
            exact HE.out)
        clear hsb
        go_wp2_with fail
        refine HF.out.mono ?_
        rintro e w5 ⟨rfl, hb5⟩
        have HB5 := hid (HR.out.1.trans (hb5.mono hszr))
        clear hb5
        go_wp2
        go_roundw
        case rel => exact ⟨k + 1, by omega, by go_num, hid ⟨HB5.out, HTK.out⟩⟩
        case measure => simp [intOf]; omega
    · have hge : decide ((k : Int) < (n : Int)) = false := by simp; omega
      go_wp2
      go_ret
      refine ⟨HR.out.1, _, rfl, .inl ⟨rfl, List.any_eq_false.2 fun x hx => ?_⟩⟩
      rw [HR.out.2 x (by rw [List.take_of_length_le (by rw [← HN.out]; omega)]; exact hx)]
      exact Bool.false_ne_true
set_option maxRecDepth 100000 in
set_option maxHeartbeats 4000000 in
theorem anySafe_any (ss : List ByteArray) (g n : Nat) (w : World) (hr : Row w g 9 (ss.map Value.string)) (hn : n = ss.length) (hl : n ≤ 10) :
    Calls Tryz.prog 174 #[.slice (some ⟨g, 0, none⟩) n n, .func (.func 175) #[] #[]] w fun e w' => e = .returned (.bool (ss.any safeB)) ∧ Below w.heap.size w w' := by
  have HC := hid (indexSafe_any ss g n w hr hn hl)
  clear hr hn
  go_enter Tryz.func174, Tryz.ntmps174
  go_wp2_with fail
  refine HC.out.mono ?_
  rintro e w1 ⟨hb, i, rfl, hi⟩
  have HB := hid hb
  have HI := hid (show decide (0 ≤ i) = ss.any safeB by
    rcases hi with ⟨rfl, h⟩ | ⟨h1, h⟩
    · rw [h]; rfl
    · rw [h]; simpa using h1)
  clear hb hi
  go_wp2
  go_ret
  exact ⟨by rw [← HI.out]; rfl, HB.out⟩
set_option maxRecDepth 100000 in
set_option maxHeartbeats 4000000 in
theorem trN_any (t : Tr) (ss : List ByteArray) (g n : Nat) (w : World) (ht : t.fits) (hr : Row w g 9 (ss.map Value.string)) (hn : n = ss.length) (hl : n ≤ 10) :
    Calls Tryz.prog 114 #[.agg #[.string t.denom, .int .u64 (t.amount : Int), .string t.sender, .string t.reader], .slice (some ⟨g, 0, none⟩) n n] w fun e w' => e = .returned (.int .i64 (trN t ss)) ∧ Below w.heap.size w w' := by
  have HBY := hid (fun W => bytesT_any t W ht)
  have HPA := hid (fun (sv : Value) (W : World) (hb : Bytes W W.heap.size sv (bytesT t)) => parse_any (bytesT t) sv W.heap.size W hb (Nat.le_refl _) (by have := bytesT_max t; omega))
  have HCO := hid (fun W (hb : Below w.heap.size w W) => anySafe_any ss g n W (hr.below hb hr.lt) hn hl)
  have HE := hid (show trN t ss = if parseE (bytesT t) ≠ 0 then parseE (bytesT t) else if ss.any safeB = true then 7 else 0 from rfl)
  clear hr hn ht
  go_enter Tryz.func114, Tryz.ntmps114
  go_upto_region 1 with fail
  refine fbox1 ?_
  intro w0 F0 hs
  clear hs
  obtain ⟨k0, k1, k2, k3⟩ := F0.r0.k4
  go_wp2_with fail
  refine (HBY.out _).mono ?_
  rintro e w1 ⟨hb1, v1, rfl, hv1⟩
  have F1 := F0.go hb1
  have HV1 := hid hv1
  obtain ⟨o1, c1, rfl, -⟩ := hv1.shape
  clear hb1 hv1 k0 k1 k2 k3 F0
  go_wp2_with fail
  refine (HPA.out _ w1 HV1.out).mono ?_
  rintro e w2 ⟨rfl, hb2⟩
  have F2 := F1.go hb2
  clear hb2 F1 HV1
  by_cases hz : parseE (bytesT t) = 0
  · rw [hz] at HE ⊢
    have HE2 := hid (HE.out.trans (if_neg (by simp)))
    clear hz HE
    unfold trV
    go_upto_region 2 with fail
    refine F2.box ?_
    intro w3 F3 hs3 hb3
    clear hs3 hb3 F2
    go_wp2_with fail
    refine (HCO.out _ F3.b).mono ?_
    rintro e w4 ⟨rfl, hb4⟩
    have HB := hid (F3.go hb4).b
    clear hb4 F3
    cases ha : ss.any safeB with
    | true =>
      rw [ha] at HE2
      clear ha
      go_wp2
      go_ret
      exact ⟨by rw [HE2.out]; rfl, HB.out⟩
    | false =>
      rw [ha] at HE2
      clear ha
      go_wp2
      go_ret
      exact ⟨by rw [HE2.out]; rfl, HB.out⟩
  · have HE2 := hid (HE.out.trans (if_pos hz))
    have hz' : (parseE (bytesT t) == 0) = false := by simpa using hz
    generalize parseE (bytesT t) = pe at *
    have hd : decide (pe = 0) = false := by simpa using hz
    clear HE
    unfold trV
    go_upto_region 2 with fail
    refine F2.box ?_
    intro w3 F3 hs3 hb3
    clear hs3 hb3 F2
    have HB := hid F3.b
    clear F3
    go_wp2
    go_ret
    exact ⟨by rw [HE2.out]; rfl, HB.out⟩
end Go.Proofs.YtbjlfhabnjpdmaaGreatDoor
namespace Go.Proofs.YtbjlfhabnjpdmaaGreatDoor
open Go.RowKit

set_option maxRecDepth 100000 in
set_option maxHeartbeats 4000000 in
theorem give_any (s : St) (m : Ms) (o : Nat → Option Addr) (c : Nat → Nat) (v : Value) (N : Nat) (w : World) (hv : StV w N v s) (hN : N ≤ w.heap.size) (hfit : s.fits) (htf : m.tr.fits) (hw : wrongS s = 0) :
    Calls Tryz.prog 65 #[v, .agg (msC m o c).toArray] w fun e w' => Below w.heap.size w w' ∧ ∃ v', e = .returned (.tuple #[v', .int .i64 (giveE s m.tr)]) ∧ HoldsS N w.heap.size w' v' (giveS s m.tr) := by
  obtain ⟨o1, c1, o2, c2, o3, c3, o4, c4, o5, c5, o6, c6, o7, c7, rfl, hm⟩ := hv.open
  have HM := hid (fun W (hb : Below w.heap.size w W) => hm.below (hb.mono hN))
  have HTR := hid (fun W g (hr : Row W g 9 [.string m.tr.sender, .string m.tr.reader]) => trN_any m.tr [m.tr.sender, m.tr.reader] g 2 W htf hr rfl (by omega))
  have hRU := wrongS_purses hw hfit
  have HMV := hid (fun W (hb : Below w.heap.size w W) => move_new s.purses m.tr.sender m.tr.reader m.tr.denom m.tr.amount _ N W (Nat.le_trans hN hb.size) (HM.out W hb).purses hRU.2 hRU.1 htf.2.1)
  have HOK := hid (fun h => move_ok (a := m.tr.sender) (b := m.tr.reader) (d := m.tr.denom) (n := m.tr.amount) hRU.2 hRU.1 htf.2.1 h)
  have HE := hid (show giveE s m.tr = if trN m.tr [m.tr.sender, m.tr.reader] ≠ 0 then trN m.tr [m.tr.sender, m.tr.reader] else moveE s.purses m.tr.sender m.tr.reader m.tr.denom m.tr.amount from rfl)
  have HSS := hid (show giveS s m.tr = if giveE s m.tr = 0 then { s with purses := moveL s.purses m.tr.sender m.tr.reader m.tr.denom m.tr.amount } else St.none from rfl)
  have HFW := hid (And.intro (wrongS_few hw) hfit)
  have hsp : 0 ≤ s.purses.length := Nat.zero_le _
  clear hv hm hfit htf hw hRU
  go_enter Tryz.func65, Tryz.ntmps65
  go_upto_region 1 with fail
  refine fbox3 ?_
  intro w0 F0 hs
  clear hs
  go_upto_region 2 with (refine F0.loadMid 1 50 [.string m.tr.denom, .int .u64 (m.tr.amount : Int), .string m.tr.sender, .string m.tr.reader] rfl rfl rfl rfl rfl structTr ?_)
  refine F0.box ?_
  intro w1 F1 hs1 hb1
  clear hs1 hb1 F0
  obtain ⟨a0, a1, a2, a3⟩ := F1.r3.k4
  go_wp2_with fail
  refine boxC ?_
  intro w2 hr2 hb2
  have F2 := F1.go hb2
  refine (HTR.out w2 _ hr2).mono ?_
  rintro e w3 ⟨rfl, hb3⟩
  have F3 := F2.go hb3
  clear hb2 hb3 hr2 a0 a1 a2 a3 F1 F2
  generalize trN m.tr [m.tr.sender, m.tr.reader] = te at *
  by_cases hz : te = 0
  · subst hz
    rw [if_neg (by simp)] at HE
    have k9 := F3.r0.k10.2.2.2.2.2.2.2.2.2
    obtain ⟨a0, a1, a2, a3⟩ := F3.r3.k4
    go_wp2_with fail
    refine (HMV.out _ F3.b).mono ?_
    rintro e w4 ⟨hb4, pv, rfl, hpv⟩
    have F4 := F3.go hb4
    have HPV := hid hpv
    have hw3 : w.heap.size < w3.heap.size := by have := F3.r0.lt; omega
    obtain ⟨op, cp, rfl, -⟩ := hpv.shape
    clear hb4 hpv k9 a0 a1 a2 a3 F3
    generalize moveE s.purses m.tr.sender m.tr.reader m.tr.denom m.tr.amount = me at *
    by_cases hz : me = 0
    · subst hz
      have hlm := (HOK.out rfl).len
      have HRR := hid (HOK.out rfl).right
      generalize moveL s.purses m.tr.sender m.tr.reader m.tr.denom m.tr.amount = L at *
      rw [if_pos HE.out] at HSS
      have k9 := F4.r0.k10.2.2.2.2.2.2.2.2.2
      have z9 := F4.r0.frozen 9
      go_upto_region 9 with fail
      refine F4.cell 0 rfl ?_
      intro w5 F5 O5
      have HP5 := hid ((HPV.out.only O5 hw3).now)
      have HB5 := hid F5.b
      have HCP := hid (copyG { s with purses := L } o1 o2 o3 o4 o5 o6 op c1 c2 c3 c4 c5 c6 cp N w5.heap.size w5 (stMem_purses (HM.out w5 F5.b) (Nat.le_trans hN F5.b.size) HP5.out) (stMem_bare (HM.out w5 F5.b)) (Nat.le_trans hN F5.b.size) (Nat.le_refl _) (purses_fits HFW.out.2 HRR.out hlm) ⟨HFW.out.1.1, HFW.out.1.2.1, HFW.out.1.2.2.1, HFW.out.1.2.2.2.1, HFW.out.1.2.2.2.2.1, HFW.out.1.2.2.2.2.2.1, by show L.length ≤ 100; omega, HFW.out.1.2.2.2.2.2.2.2⟩)
      clear k9 z9 O5 F4 hlm
      generalize L.length = LL at *
      go_wp2_with (refine F5.load 0 rfl rfl rfl rfl structState ?_)
      refine HCP.out.mono ?_
      rintro e w6 ⟨hb6, p1, d1, p2, d2, p3, d3, p4, d4, p5, d5, p6, d6, p7, d7, rfl, hown⟩
      have F6 := F5.go hb6
      have HH := hid (hown.toOwn.holds)
      have hbs := F5.r2.lt
      clear hb6 hown F5
      go_wp2_with (refine F6.store 2 rfl rfl rfl rfl rfl structState rfl (by simp [Value.oneCell']) ?_; intro w7 F7 O7)
      refine ret_ct Tryz.results65 rfl F7.r2 structState rfl ⟨F7.b, _, by rw [HE.out]; rfl, ?_⟩
      rw [HSS.out]
      exact (HH.out.only O7 (by omega) hbs).lower HB5.out.size
    · have HNE := hid (show ¬ giveE s m.tr = 0 by rw [HE.out]; exact hz)
      have hzb : (me != 0) = true := by simpa using hz
      rw [if_neg HNE.out] at HSS
      go_wp2_with (refine F4.store 2 rfl rfl rfl rfl rfl structState rfl (by simp [Value.oneCell']) ?_; intro w7 F7 O7)
      refine ret_ct Tryz.results65 rfl F7.r2 structState rfl ⟨F7.b, _, by rw [HE.out]; rfl, ?_⟩
      rw [HSS.out]
      exact holdsS_none _ _ _
  · rw [if_pos hz] at HE
    have HNE := hid (show ¬ giveE s m.tr = 0 by rw [HE.out]; exact hz)
    have hzb : (te != 0) = true := by simpa using hz
    rw [if_neg HNE.out] at HSS
    go_wp2_with (refine F3.store 2 rfl rfl rfl rfl rfl structState rfl (by simp [Value.oneCell']) ?_; intro w7 F7 O7)
    refine ret_ct Tryz.results65 rfl F7.r2 structState rfl ⟨F7.b, _, by rw [HE.out]; rfl, ?_⟩
    rw [HSS.out]
    exact holdsS_none _ _ _
end Go.Proofs.YtbjlfhabnjpdmaaGreatDoor
namespace Go.Proofs.YtbjlfhabnjpdmaaGreatDoor
open Go.RowKit

def tr0 : Tr := ⟨⟨#[103, 111, 108, 100]⟩, 2, ⟨#[97, 110, 110]⟩, ⟨#[98, 111, 98]⟩⟩
def st0 : St := ⟨⟨#[97]⟩, 0, 0, [], [], [], [], [], [], [⟨⟨#[97, 110, 110]⟩, ⟨#[103, 111, 108, 100]⟩, 5⟩]⟩
def hd0 : Hd := ⟨⟨#[]⟩, 0, 0, [], [], []⟩
def ms0 : Ms := ⟨18, ⟨#[]⟩, 0, Kn.none, 0, ⟨0, ⟨hd0, [], []⟩, []⟩, ⟨0, ⟨hd0, [], []⟩, []⟩, 0, 0, 0, false, ⟨0, ⟨0, 0, [], [], []⟩, ⟨false, false, ⟨0, 0, [], [], []⟩, ⟨0, 0, [], [], []⟩⟩⟩, tr0, 0, 0, Pk.none, []⟩
theorem par0 : parseE (bytesT tr0) = 0 := by kernel_rfl
theorem saf0 : [tr0.sender, tr0.reader].any safeB = false := by kernel_rfl
theorem mov0 : moveE st0.purses tr0.sender tr0.reader tr0.denom tr0.amount = 0 := by kernel_rfl
theorem mov1 : (moveL st0.purses tr0.sender tr0.reader tr0.denom tr0.amount).length = 2 := by kernel_rfl
theorem wro0 : wrongS st0 = 0 := by kernel_rfl
theorem giv0 : giveE st0 tr0 = 0 := by
  unfold giveE
  have h : trN tr0 [tr0.sender, tr0.reader] = 0 := by unfold trN; rw [par0, saf0]; rfl
  rw [h, if_neg (by simp)]
  exact mov0
theorem tr0_fits : tr0.fits := ⟨by show 4 ≤ _; omega, by show 2 < _; omega, by show 3 ≤ _; omega, by show 3 ≤ _; omega⟩
theorem st0_fits : st0.fits := ⟨by show 1 ≤ _; omega, ⟨by show 0 < _; omega, fun _ h => by cases h⟩, by show 0 < _; omega, by show 0 < _; omega, ⟨by show 0 < _; omega, fun _ h => by cases h⟩, ⟨by show 0 < _; omega, fun _ h => by cases h⟩, ⟨by show 0 < _; omega, fun _ h => by cases h⟩, by show 1 < _; omega, fun p hp => by
  obtain rfl := List.mem_singleton.1 hp
  exact ⟨by show 3 ≤ _; omega, by show 4 ≤ _; omega, by show 5 < _; omega⟩⟩
theorem out0 : doOf st0 (giveO st0 ms0) = ⟨{ st0 with purses := moveL st0.purses tr0.sender tr0.reader tr0.denom tr0.amount }, 0, 0, Pk.none⟩ := by
  have h : giveO st0 ms0 = ⟨{ st0 with purses := moveL st0.purses tr0.sender tr0.reader tr0.denom tr0.amount }, 0, 0, Pk.none⟩ := by
    unfold giveO giveS
    rw [show giveE st0 ms0.tr = 0 from giv0, if_pos rfl]
    rfl
  unfold doOf
  rw [wro0, if_neg (by simp), h, if_neg (by simp)]
set_option maxRecDepth 100000 in
set_option maxHeartbeats 4000000 in
theorem alive13 (w : World) : Calls Tryz.prog 14 #[] w fun e w' => e = .returned (.bool true) ∧ Below w.heap.size w w' := by
  go_enter Tryz.func14, Tryz.ntmps14
  go_upto_region 2 with (refine Fr.store (((Fr.nil w).addAt (t := 85) (cs := [.string ⟨#[97, 110, 110]⟩, .string ⟨#[103, 111, 108, 100]⟩, .int .u64 5]) rfl).addAt (t := 28) (cs := [.string ⟨#[]⟩, .int .i64 0, .int .i64 0, .slice none 0 0, .slice none 0 0, .slice none 0 0, .slice none 0 0, .slice none 0 0, .slice none 0 0, .slice none 0 0]) (g := w.heap.size + 1) (by simp)) 1 rfl rfl rfl rfl rfl structState rfl (by simp [Value.oneCell']) ?_; intro w1 F1 O1)
  have HV := hid (show StV w1 w1.heap.size (.agg #[.string ⟨#[97]⟩, .int .i64 0, .int .i64 0, .slice none 0 0, .slice none 0 0, .slice none 0 0, .slice none 0 0, .slice none 0 0, .slice none 0 0, .slice (some ⟨w.heap.size, 0, none⟩) 1 1]) st0 from ⟨_, _, _, _, _, _, _, rfl, Many.nil _ _ _ _, Many.nil _ _ _ _, Many.nil _ _ _ _, Many.nil _ _ _ _, Many.nil _ _ _ _, Many.nil _ _ _ _, manyU (.inr (.inr ⟨w.heap.size, 0, 1, rfl, Nat.le_refl _, fun i r hi => by
    match i, hi with
    | 0, hi =>
      obtain rfl := Option.some.inj hi
      refine ⟨F1.r0.lt, fun j y hy => ?_⟩
      have := F1.r0.cell j
      simp only [Nat.zero_mul, Nat.zero_add]
      rw [this]
      exact hy⟩))⟩)
  have HDO := hid (do_any st0 ms0 (fun _ => none) (fun _ => 0) _ w1.heap.size w1 (giveO st0 ms0) HV.out (Nat.le_refl _) st0_fits (fun _ W hb => obey18 st0 ms0 _ _ _ w1.heap.size W rfl (HV.out.below hb) hb.size (fun W2 hb2 => give_any st0 ms0 _ _ _ w1.heap.size W2 ((HV.out.below hb).below (hb2.mono hb.size)) (Nat.le_trans hb.size hb2.size) st0_fits tr0_fits wro0)))
  rw [out0] at HDO
  clear HV O1
  go_wp2_with (refine F1.load 1 rfl rfl rfl rfl structState ?_)
  refine Calls.mono (show Calls Tryz.prog 8 #[_, .agg (msC ms0 (fun _ => none) (fun _ => 0)).toArray] w1 _ from HDO.out) ?_
  rintro e w2 ⟨hb2, x, rfl, v', od, nd, cd, rfl, hh, -⟩
  have F2 := F1.go hb2
  have hln : (moveL st0.purses tr0.sender tr0.reader tr0.denom tr0.amount).length = 2 := mov1
  obtain ⟨o1, c1, o2, c2, o3, c3, o4, c4, o5, c5, o6, c6, o7, c7, rfl, -⟩ := hh.now.open
  simp only [hln]
  clear hb2 hh HDO F1 hln
  simp only [st0, Pk.none]
  go_upto_region 3 with (first | (refine Fr.store ((F2.addAt (t := 28) (cs := [.string ⟨#[]⟩, .int .i64 0, .int .i64 0, .slice none 0 0, .slice none 0 0, .slice none 0 0, .slice none 0 0, .slice none 0 0, .slice none 0 0, .slice none 0 0]) rfl).addAt (t := 56) (cs := [.int .i64 0, .int .i64 0, .int .i64 0, .int .i64 0, .int .i64 0, .slice none 0 0, .int .i64 0]) (g := w2.heap.size + 1) (by simp)) 2 rfl rfl rfl rfl rfl structState rfl (by simp [Value.oneCell']) ?_; intro w3 F3 O3) | (refine F3.store 3 rfl rfl rfl rfl rfl structDone rfl (by simp [Value.oneCell']) ?_; intro w4 F4 O4))
  have k9 := F4.r2.k10.2.2.2.2.2.2.2.2.2
  have d0 := F4.r3.k7.1
  have HB := hid F4.b
  clear O3 O4 F2 F3 F4
  go_wp2
  go_ret
  exact ⟨rfl, HB.out⟩
end Go.Proofs.YtbjlfhabnjpdmaaGreatDoor
