/-
  AppLate: the walk.
-/
import Derived.Test.YtbjlfhabnjpdmaaGreatDoorlaApKit
import Derived.Test.YtbjlfhabnjpdmaaGreatDoorlaApFit
import Derived.Test.YtbjlfhabnjpdmaaGreatDoorlaStWrong
import Derived.Test.YtbjlfhabnjpdmaaGreatDoorlaRegGoR
import Derived.Test.YtbjlfhabnjpdmaaGreatDoorlaCoMath
import Derived.Test.YtbjlfhabnjpdmaaGreatDoorlaHdMems
import Derived.Test.YtbjlfhabnjpdmaaGreatDoorlaClAsk
import Derived.Test.YtbjlfhabnjpdmaaGreatDoorlaRegions
import Derived.Test.YtbjlfhabnjpdmaaGreatDoorlaStApp
import Derived.Test.YtbjlfhabnjpdmaaGreatDoorlaStMem
import Derived.Test.YtbjlfhabnjpdmaaGreatDoorlaPairsAll
import Derived.Test.YtbjlfhabnjpdmaaGreatDoorlaBookMath
import Derived.Test.YtbjlfhabnjpdmaaGreatDoorlaBookTree
import Derived.Test.YtbjlfhabnjpdmaaGreatDoorlaShaAll
import Derived.Test.YtbjlfhabnjpdmaaGreatDoorlaSameB
import Derived.Test.YtbjlfhabnjpdmaaGreatDoorlaApAlive
import Derived.Test.YtbjlfhabnjpdmaaGreatDoorlaStSameF
import Derived.Laws.RangeString
import Derived.Deep.AppendLies
import Derived.Deep.RegionHeld3
import Derived.Deep.RegionWith
import Derived.Deep.RegionLaw
import Derived.Lib.BytesEntry
import Derived.Lib.Bytealg
import Derived.Laws.Externs
import Derived.Lib.SliceRun
namespace Go.Proofs.YtbjlfhabnjpdmaaGreatDoor
open Go.RowKit

def nextE (s : St) (l : Int) : Int := if wrongS s ≠ 0 then wrongS s else if (fromB 1 l && (fromB 1 (s.time + l) && fromB 1 (s.height + 1))) = false then 3 else 0
def nextS (s : St) (l : Int) : St := if nextE s l = 0 then { s with height := s.height + 1, time := s.time + l } else St.none
theorem nextE_ok {s : St} {l : Int} (h : nextE s l = 0) : wrongS s = 0 ∧ (1 ≤ l ∧ l ≤ 1000000000000) := by
  unfold nextE at h
  split at h
  · rename_i h1; exact absurd h h1
  rename_i h1
  split at h
  · cases h
  rename_i h2
  simp at h2
  exact ⟨by simpa using h1, (fromB_iff _ _).1 h2.1⟩
set_option maxRecDepth 100000 in
set_option maxHeartbeats 4000000 in
theorem appNext_any (s : St) (l : Int) (v : Value) (N : Nat) (w : World) (hv : StV w N v s) (hN : N ≤ w.heap.size) (hfit : s.fits) :
    Calls Tryz.prog 12 #[v, .int .i64 l] w fun e w' => Below w.heap.size w w' ∧ ∃ v', e = .returned (.tuple #[v', .int .i64 (nextE s l)]) ∧ HoldsS N w.heap.size w' v' (nextS s l) := by
  have HW := hid (fun W (hb : Below w.heap.size w W) => stWrongC s v N W (hv.below (hb.mono hN)) (Nat.le_trans hN hb.size) hfit)
  have HCP := hid (fun (h0 : wrongS s = 0) W (hb : Below w.heap.size w W) => copyC s v N W (hv.below (hb.mono hN)) (Nat.le_trans hN hb.size) hfit (wrongS_few h0))
  have HE := hid (show nextE s l = if wrongS s ≠ 0 then wrongS s else if (fromB 1 l && (fromB 1 (s.time + l) && fromB 1 (s.height + 1))) = false then 3 else 0 from rfl)
  have HSS := hid (show nextS s l = if nextE s l = 0 then { s with height := s.height + 1, time := s.time + l } else St.none from rfl)
  have HRG := hid (fun (h : wrongS s = 0) => (show (0 ≤ s.height ∧ s.height ≤ 1000000000000) ∧ (0 ≤ s.time ∧ s.time ≤ 1000000000000) from ⟨(fromB_iff _ _).1 (wrongS_name h).2.1.1, (fromB_iff _ _).1 (wrongS_name h).2.1.2⟩))
  obtain ⟨o1, c1, o2, c2, o3, c3, o4, c4, o5, c5, o6, c6, o7, c7, rfl, -⟩ := hv.open
  clear hv hfit
  go_enter Tryz.func12, Tryz.ntmps12
  go_upto_region 1 with fail
  refine fbox2 ?_
  intro w0 F0 hs
  clear hs
  go_wp2_with (refine F0.load 0 rfl rfl rfl rfl structState ?_)
  refine (HW.out _ F0.b).mono ?_
  rintro e w1 ⟨rfl, hb1⟩
  have F1 := F0.go hb1
  clear hb1 F0 HW
  by_cases hz : wrongS s = 0
  · replace HE := hid (HE.out.trans (if_neg (by simp [hz])))
    have hh1 := (HRG.out hz).1
    have hh2 := (HRG.out hz).2
    replace HCP := hid (HCP.out hz)
    rw [hz]
    clear hz HRG
    have k1 := F1.r0.k10.2.1
    have k2 := F1.r0.k10.2.2.1
    have v1 : IntKind.i64.wrap (s.height + 1) = s.height + 1 := by rw [IntKind.wrap_i64]; omega
    go_wp2_with fail
    refine (from_any _ _ _).mono ?_
    rintro e w' ⟨rfl, hww⟩
    obtain rfl := hww.symm
    cases f1 : fromB 1 l with
    | false =>
      have HF := hid (HE.out.trans (if_pos (by simp [f1])))
      have HNO := hid (HSS.out.trans (if_neg (by rw [HF.out]; decide)))
      go_wp2_with (refine F1.store 1 rfl rfl rfl rfl rfl structState rfl (by simp [Value.oneCell']) ?_; intro w3 F3 O3)
      refine ret_ct Tryz.results12 rfl F3.r1 structState rfl ⟨F3.b, _, by rw [HF.out]; rfl, ?_⟩
      rw [HNO.out]
      exact holdsS_none _ _ _
    | true =>
      have hl := (fromB_iff _ _).1 f1
      have v2 : IntKind.i64.wrap (s.time + l) = s.time + l := by rw [IntKind.wrap_i64]; omega
      rw [f1, Bool.true_and] at HE
      clear f1
      go_wp2_with fail
      refine (from_any _ _ _).mono ?_
      rintro e w' ⟨rfl, hww⟩
      obtain rfl := hww.symm
      cases f2 : fromB 1 (s.time + l) with
      | false =>
        have HF := hid (HE.out.trans (if_pos (by simp [f2])))
        have HNO := hid (HSS.out.trans (if_neg (by rw [HF.out]; decide)))
        go_wp2_with (refine F1.store 1 rfl rfl rfl rfl rfl structState rfl (by simp [Value.oneCell']) ?_; intro w3 F3 O3)
        refine ret_ct Tryz.results12 rfl F3.r1 structState rfl ⟨F3.b, _, by rw [HF.out]; rfl, ?_⟩
        rw [HNO.out]
        exact holdsS_none _ _ _
      | true =>
        rw [f2, Bool.true_and] at HE
        clear f2
        go_wp2_with fail
        refine (from_any _ _ _).mono ?_
        rintro e w' ⟨rfl, hww⟩
        obtain rfl := hww.symm
        cases f3 : fromB 1 (s.height + 1) with
        | false =>
          have HF := hid (HE.out.trans (if_pos (by simp [f3])))
          have HNO := hid (HSS.out.trans (if_neg (by rw [HF.out]; decide)))
          go_wp2_with (refine F1.store 1 rfl rfl rfl rfl rfl structState rfl (by simp [Value.oneCell']) ?_; intro w3 F3 O3)
          refine ret_ct Tryz.results12 rfl F3.r1 structState rfl ⟨F3.b, _, by rw [HF.out]; rfl, ?_⟩
          rw [HNO.out]
          exact holdsS_none _ _ _
        | true =>
          rw [f3, if_neg (by simp)] at HE
          rw [if_pos HE.out] at HSS
          clear f3 k1 k2
          go_wp2_with (refine F1.load 0 rfl rfl rfl rfl structState ?_)
          refine (HCP.out _ F1.b).mono ?_
          rintro e w2 ⟨hb2, p1, d1, p2, d2, p3, d3, p4, d4, p5, d5, p6, d6, p7, d7, rfl, hown⟩
          have F2 := F1.go hb2
          have HO := hid (show StOwn N w1.heap.size w2 { s with height := s.height + 1, time := s.time + l } (.slice p1 s.clients.length d1) (.slice p2 s.conns.length d2) (.slice p3 s.chans.length d3) (.slice p4 s.sent.length d4) (.slice p5 s.got.length d5) (.slice p6 s.acks.length d6) (.slice p7 s.purses.length d7) from hown)
          have HH := hid HO.out.holds
          have HB1 := hid F1.b.size
          have l0 := F1.r0.lt
          have l1 := F1.r1.lt
          clear hb2 hown F1 HO
          go_upto_region 7 with (refine F2.store 0 rfl rfl rfl rfl rfl structState rfl (by simp [Value.oneCell']) ?_; intro w3 F3 O3)
          have k1 := F3.r0.k10.2.1
          have z1 := F3.r0.frozen 1
          go_upto_region 8 with fail
          refine F3.cell 0 rfl ?_
          intro w4 F4 O4
          clear k1 z1
          have k2 := F4.r0.k10.2.2.1
          have z2 := F4.r0.frozen 2
          go_upto_region 9 with fail
          refine F4.cell 0 rfl ?_
          intro w5 F5 O5
          clear k2 z2
          go_wp2_with (first | refine F5.load 0 rfl rfl rfl rfl structState ?_ | (refine F5.store 1 rfl rfl rfl rfl rfl structState rfl (by simp [Value.oneCell']) ?_; intro w6 F6 O6))
          refine ret_ct Tryz.results12 rfl F6.r1 structState rfl ⟨F6.b, _, by rw [HE.out]; rfl, ?_⟩
          rw [HSS.out]
          exact (((((HH.out.only O3 (by omega) l0).only O4 (by omega) l0).only O5 (by omega) l0).only O6 (by omega) l1)).lower HB1.out
  · have HZ := hid (HE.out.trans (if_pos hz))
    have HNO := hid (HSS.out.trans (if_neg (by rw [HZ.out]; exact hz)))
    have hzb : (wrongS s != 0) = true := by simpa using hz
    generalize wrongS s = ws at *
    go_wp2_with (refine F1.store 1 rfl rfl rfl rfl rfl structState rfl (by simp [Value.oneCell']) ?_; intro w3 F3 O3)
    refine ret_ct Tryz.results12 rfl F3.r1 structState rfl ⟨F3.b, _, by rw [HZ.out]; rfl, ?_⟩
    rw [HNO.out]
    exact holdsS_none _ _ _
end Go.Proofs.YtbjlfhabnjpdmaaGreatDoor
namespace Go.Proofs.YtbjlfhabnjpdmaaGreatDoor
open Go.RowKit

theorem none_fits : St.none.fits := ⟨by decide, ⟨by decide, fun _ h => by cases h⟩, by decide, by decide, ⟨by decide, fun _ h => by cases h⟩, ⟨by decide, fun _ h => by cases h⟩, ⟨by decide, fun _ h => by cases h⟩, by decide, fun _ h => by cases h⟩
end Go.Proofs.YtbjlfhabnjpdmaaGreatDoor
namespace Go.Proofs.YtbjlfhabnjpdmaaGreatDoor
open Go.RowKit

/-- a variable is read whole -/
theorem Row.loadV {ops : Array Oper} {rest : List Oper} {o : Oper} {a : Act} {w1 : World} {Q : Exit → Act → World → Prop} {g : Nat} {t : TypeId} {x : Operand} {cs : List Value} (hr : Row w1 g t cs) (hgd : o.guard = none) (ho : o.op = .load t x) (hx : a.eval x = .pointer (some ⟨g, 0, none⟩)) (hs : Struct t cs.length)
    (h : wpList Tryz.prog ops Q rest (a.put o.dst (.agg cs.toArray)) w1) : wpList Tryz.prog ops Q (o :: rest) a w1 := by
  obtain ⟨⟨d, hu, hd⟩, hz⟩ := hs
  exact wpList_load_row hgd t x ho g hx t cs.toArray (0, 0) d hr hu (by cases d <;> first | rfl | cases hd) (by simpa using hz) h
set_option maxRecDepth 100000 in
set_option maxHeartbeats 4000000 in
theorem appLate_any (s : St) (l : Int) (v : Value) (N : Nat) (w : World) (hv : StV w N v s) (hN : N ≤ w.heap.size) (hfit : s.fits) :
    Calls Tryz.prog 7 #[v, .int .i64 l] w fun e w' => e = .returned (.bool true) ∧ Below w.heap.size w w' := by
  have HNX := hid (fun W (hb : Below w.heap.size w W) => appNext_any s l v N W (hv.below (hb.mono hN)) (Nat.le_trans hN hb.size) hfit)
  have HS0 := hid (fun W v' (h : StV W W.heap.size v' St.none) => sameS_eq St.none v' (.agg #[.string ⟨#[]⟩, .int .i64 0, .int .i64 0, .slice none 0 0, .slice none 0 0, .slice none 0 0, .slice none 0 0, .slice none 0 0, .slice none 0 0, .slice none 0 0]) W.heap.size W (Nat.le_refl _) h (stV_none _ _) none_fits)
  have HS1 := hid (fun W v' (hb : Below w.heap.size w W) (h : StV W W.heap.size v' s) => sameS_eq s v v' W.heap.size W (Nat.le_refl _) ((hv.below (hb.mono hN)).mono (Nat.le_trans hN hb.size)) h hfit)
  have HNO := hid (fun (h : nextE s l ≠ 0) => (show nextS s l = St.none from if_neg h))
  have HYE := hid (fun (h : nextE s l = 0) => (show nextS s l = { s with height := s.height + 1, time := s.time + l } from if_pos h))
  have HRG := hid (fun (h : wrongS s = 0) => (show (0 ≤ s.height ∧ s.height ≤ 1000000000000) ∧ (0 ≤ s.time ∧ s.time ≤ 1000000000000) from ⟨(fromB_iff _ _).1 (wrongS_name h).2.1.1, (fromB_iff _ _).1 (wrongS_name h).2.1.2⟩))
  have HOK := hid (nextE_ok (s := s) (l := l))
  obtain ⟨o1, c1, o2, c2, o3, c3, o4, c4, o5, c5, o6, c6, o7, c7, rfl, -⟩ := hv.open
  clear hv hfit
  go_enter Tryz.func7, Tryz.ntmps7
  go_upto_region 1 with fail
  refine fbox1 ?_
  intro w0 F0 hs
  clear hs
  go_wp2_with fail
  refine (alive13 _).mono ?_
  rintro e w1 ⟨rfl, hb1⟩
  have F1 := F0.go hb1
  clear hb1 F0
  go_wp2_with (refine F1.load 0 rfl rfl rfl rfl structState ?_)
  refine (HNX.out _ F1.b).mono ?_
  rintro e w2 ⟨hb2, v', rfl, hh⟩
  have F2 := F1.go hb2
  have hlt := F1.r0.lt
  have h12 := hb2.size
  clear hb2 HNX
  by_cases hz : nextE s l = 0
  · have hl := (HOK.out hz).2
    have hh1 := (HRG.out (HOK.out hz).1).1
    have hh2 := (HRG.out (HOK.out hz).1).2
    rw [HYE.out hz] at hh
    rw [hz]
    clear hz HYE HNO HS0 HOK HRG
    obtain ⟨p1, q1, r1, p2, q2, r2, p3, q3, r3, p4, q4, r4, p5, q5, r5, p6, q6, r6, p7, q7, r7, rfl⟩ := hh.open
    have HH := hid (show HoldsS N w1.heap.size w2 (.agg #[.string s.name, .int .i64 s.height, .int .i64 s.time, .slice p1 q1 r1, .slice p2 q2 r2, .slice p3 q3 r3, .slice p4 q4 r4, .slice p5 q5 r5, .slice p6 q6 r6, .slice p7 q7 r7]) s from ⟨hh.1, fun wz hz hk => by
      obtain ⟨v1, v2, v3, v4, v5, v6, v7, e, hm⟩ := hh.2 wz hz hk
      simp at e
      obtain ⟨rfl, rfl, rfl, rfl, rfl, rfl, rfl⟩ := e
      exact ⟨_, _, _, _, _, _, _, rfl, hm.clients, hm.conns, hm.chans, hm.sent, hm.got, hm.acks, hm.purses⟩⟩)
    clear hh F1
    go_upto_region 4 with (refine Fr.store (F2.addAt (t := 28) (cs := [.string ⟨#[]⟩, .int .i64 0, .int .i64 0, .slice none 0 0, .slice none 0 0, .slice none 0 0, .slice none 0 0, .slice none 0 0, .slice none 0 0, .slice none 0 0]) rfl) 1 rfl rfl rfl rfl rfl structState rfl (by simp [Value.oneCell']) ?_; intro w3 F3 O3)
    have hb3 := O3.down ((Below.refl w2.heap.size w2).alloc (Nat.le_refl _) _) (Nat.le_refl _)
    have HB3 := hid hb3
    have v1 : IntKind.i64.wrap (s.height + 1) = s.height + 1 := by rw [IntKind.wrap_i64]; omega
    have v2 : IntKind.i64.wrap (s.time + l) = s.time + l := by rw [IntKind.wrap_i64]; omega
    have v3 : decide (l < 1) = false := by simp; omega
    have k1 := F3.r0.k10.2.1
    have k2 := F3.r0.k10.2.2.1
    have j1 := F3.r1.k10.2.1
    have j2 := F3.r1.k10.2.2.1
    clear hb3 O3 F2
    go_upto_region 8 with fail
    have HF3 := hid F3
    have hg5 := F3.r1.lt
    clear k1 k2 j1 j2 v1 v2 v3 F3
    have HR := hid (show Rel (Wr [w2.heap.size] [fun W => ∃ x, Row W w2.heap.size 28 [.string s.name, .int .i64 s.height, x, .slice p1 q1 r1, .slice p2 q2 r2, .slice p3 q3 r3, .slice p4 q4 r4, .slice p5 q5 r5, .slice p6 q6 r6, .slice p7 q7 r7], fun W => ∃ x, Row W w2.heap.size 28 [.string s.name, x, .int .i64 s.time, .slice p1 q1 r1, .slice p2 q2 r2, .slice p3 q3 r3, .slice p4 q4 r4, .slice p5 q5 r5, .slice p6 q6 r6, .slice p7 q7 r7], fun W => ∃ x y, Row W w2.heap.size 28 [.string s.name, x, y, .slice p1 q1 r1, .slice p2 q2 r2, .slice p3 q3 r3, .slice p4 q4 r4, .slice p5 q5 r5, .slice p6 q6 r6, .slice p7 q7 r7]]) from Wr.rel (by
      intro A hA W W' hb h
      simp only [List.mem_cons, List.not_mem_nil, or_false] at hA
      rcases hA with rfl | rfl | rfl
      · obtain ⟨x, h⟩ := h; exact ⟨x, h.below hb h.lt⟩
      · obtain ⟨x, h⟩ := h; exact ⟨x, h.below hb h.lt⟩
      · obtain ⟨x, y, h⟩ := h; exact ⟨x, y, h.below hb h.lt⟩))
    have S3 := hid (show ∃ x y, Row w3 w2.heap.size 28 [.string s.name, x, y, .slice p1 q1 r1, .slice p2 q2 r2, .slice p3 q3 r3, .slice p4 q4 r4, .slice p5 q5 r5, .slice p6 q6 r6, .slice p7 q7 r7] from ⟨_, _, HF3.out.r1⟩)
    apply region_goR HR.out (by kernel_rfl) (fun W hb => And.intro (hb.row HF3.out.r0 (by simp; omega)).k10.2.1 (hb.row HF3.out.r0 (by simp; omega)).k10.2.2.1) (by kernel_rfl)
    · intro σ; simp [slotAll]; exact rfl
    iterate 5 (apply RS.val HR.out rfl; · intro σ W hb hc ⟨hd, hu⟩; simp [Fresh, Region.binds] at hd hu; go_simp; exact rfl)
    apply RS.sto (fun W => ∃ x, Row W w2.heap.size 28 [.string s.name, .int .i64 s.height, x, .slice p1 q1 r1, .slice p2 q2 r2, .slice p3 q3 r3, .slice p4 q4 r4, .slice p5 q5 r5, .slice p6 q6 r6, .slice p7 q7 r7]) (fun W W' hb h => hb.2.2 (fun W => ∃ x, Row W w2.heap.size 28 [.string s.name, .int .i64 s.height, x, .slice p1 q1 r1, .slice p2 q2 r2, .slice p3 q3 r3, .slice p4 q4 r4, .slice p5 q5 r5, .slice p6 q6 r6, .slice p7 q7 r7]) (by simp) h) rfl
    · intro σ W hb hc ⟨hd, hu⟩
      obtain ⟨x, y, hr⟩ := hb.2.2 (fun W => ∃ x y, Row W w2.heap.size 28 [.string s.name, x, y, .slice p1 q1 r1, .slice p2 q2 r2, .slice p3 q3 r3, .slice p4 q4 r4, .slice p5 q5 r5, .slice p6 q6 r6, .slice p7 q7 r7]) (by simp) S3.out
      have HX := hid hr
      have j1 := hr.k10.2.1
      have z1 := hr.frozen 1
      clear hr
      simp [Fresh, Region.binds] at hd hu
      refine ⟨W.setCell ⟨w2.heap.size, 1, none⟩ (.int .i64 s.height), by go_simp <;> exact rfl, Wr.write ((Only.refl _ _).cell 1 _) (by simp) ?_, y, HX.out.set 1 _⟩
      intro A hA h
      simp only [List.mem_cons, List.not_mem_nil, or_false] at hA
      rcases hA with rfl | rfl | rfl
      · exact ⟨y, HX.out.set 1 _⟩
      · obtain ⟨x', h⟩ := h; exact ⟨_, h.set 1 _⟩
      · exact ⟨_, y, HX.out.set 1 _⟩
    apply RS.val HR.out rfl; · intro σ W hb hc ⟨hd, hu⟩; simp [Fresh, Region.binds] at hd hu; go_simp; exact rfl
    apply RS.sto (fun W => ∃ x, Row W w2.heap.size 28 [.string s.name, x, .int .i64 s.time, .slice p1 q1 r1, .slice p2 q2 r2, .slice p3 q3 r3, .slice p4 q4 r4, .slice p5 q5 r5, .slice p6 q6 r6, .slice p7 q7 r7]) (fun W W' hb h => hb.2.2 (fun W => ∃ x, Row W w2.heap.size 28 [.string s.name, x, .int .i64 s.time, .slice p1 q1 r1, .slice p2 q2 r2, .slice p3 q3 r3, .slice p4 q4 r4, .slice p5 q5 r5, .slice p6 q6 r6, .slice p7 q7 r7]) (by simp) h) rfl
    · intro σ W hb hc ⟨hd, hu⟩
      obtain ⟨x, y, hr⟩ := hb.2.2 (fun W => ∃ x y, Row W w2.heap.size 28 [.string s.name, x, y, .slice p1 q1 r1, .slice p2 q2 r2, .slice p3 q3 r3, .slice p4 q4 r4, .slice p5 q5 r5, .slice p6 q6 r6, .slice p7 q7 r7]) (by simp) S3.out
      have HX := hid hr
      have j1 := hr.k10.2.2.1
      have z1 := hr.frozen 2
      clear hr
      simp [Fresh, Region.binds] at hd hu
      refine ⟨W.setCell ⟨w2.heap.size, 2, none⟩ (.int .i64 s.time), by go_simp <;> exact rfl, Wr.write ((Only.refl _ _).cell 2 _) (by simp) ?_, x, HX.out.set 2 _⟩
      intro A hA h
      simp only [List.mem_cons, List.not_mem_nil, or_false] at hA
      rcases hA with rfl | rfl | rfl
      · obtain ⟨x', h⟩ := h; exact ⟨_, h.set 2 _⟩
      · exact ⟨x, HX.out.set 2 _⟩
      · exact ⟨x, _, HX.out.set 2 _⟩
    intro σ W hb _
    simp only [AllF, List.nil_append, List.cons_append, Nat.reduceAdd]
    intro hF
    obtain ⟨-, -, -, -, -, ⟨x, hx⟩, -, ⟨y, hy⟩, -⟩ := hF
    have hxy := hx.k10.2.2.1.symm.trans hy.k10.2.2.1
    obtain rfl := Option.some.inj hxy
    have HRT := hid hx
    have HBW := hid (HF3.out.b.trans (hb.below (by omega) (by simp; omega)))
    have HSW := hid (hb.row HF3.out.r0 (by simp; omega))
    have HS2 := hid (HS1.out W _ HBW.out (HH.out.2 W ((HB3.out.mono (Nat.zero_le _)).trans hb.1) fun b hF => (hb.2.1 b (Nat.lt_of_lt_of_le hF.2 HB3.out.size) (by simp; omega)).trans (HB3.out.block b hF.2)))
    clear hb hx hy hxy HR S3 HH HS1
    go_wp2_with (first | refine Row.loadV HSW.out rfl rfl rfl structState ?_ | refine Row.loadV HRT.out rfl rfl rfl structState ?_)
    refine HS2.out.mono ?_
    rintro e w4 ⟨rfl, hb4⟩
    have HB := hid (HBW.out.trans (hb4.mono HBW.out.size))
    clear hb4
    go_wp2
    go_ret
    exact ⟨rfl, HB.out⟩
  · have hzb : (nextE s l != 0) = true := by simpa using hz
    rw [HNO.out hz] at hh
    generalize nextE s l = ne at *
    obtain ⟨p1, q1, r1, p2, q2, r2, p3, q3, r3, p4, q4, r4, p5, q5, r5, p6, q6, r6, p7, q7, r7, rfl⟩ := hh.open
    have HH := hid hh
    clear hh F1 hz
    go_upto_region 4 with (refine Fr.store (F2.addAt (t := 28) (cs := [.string ⟨#[]⟩, .int .i64 0, .int .i64 0, .slice none 0 0, .slice none 0 0, .slice none 0 0, .slice none 0 0, .slice none 0 0, .slice none 0 0, .slice none 0 0]) rfl) 1 rfl rfl rfl rfl rfl structState rfl (by simp [Value.oneCell']) ?_; intro w3 F3 O3)
    have hb3 := O3.down ((Below.refl w2.heap.size w2).alloc (Nat.le_refl _) _) (Nat.le_refl _)
    replace HH := hid (HH.out.below hb3).now
    clear hb3 O3 F2
    go_wp2_with (refine F3.load 1 rfl rfl rfl rfl structState ?_)
    refine (HS0.out _ _ HH.out).mono ?_
    rintro e w4 ⟨rfl, hb4⟩
    have HB := hid (F3.go hb4).b
    clear hb4 F3
    go_wp2
    go_ret
    exact ⟨rfl, HB.out⟩
end Go.Proofs.YtbjlfhabnjpdmaaGreatDoor
