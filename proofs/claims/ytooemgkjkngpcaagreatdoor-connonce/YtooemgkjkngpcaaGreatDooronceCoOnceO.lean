/-
  ConnOnce: the loop over the states that follow.
-/
import Derived.Test.YtooemgkjkngpcaaGreatDooronceCoAfter
import Derived.Test.YtooemgkjkngpcaaGreatDooronceRef1All
import Derived.Test.YtooemgkjkngpcaaGreatDooronceStSameF
import Derived.BigQuiet
import Derived.Deep.RegionHeld3
import Derived.Deep.RegionWith
namespace Go.Proofs.YtooemgkjkngpcaaGreatDoor
open Go.RowKit

set_option maxRecDepth 1000000 in
set_option maxHeartbeats 8000000 in
theorem onceIn {sl0 sl2 sl3 sl4 sl5 sl6 sl7 sl8 sl9 sl10 sl11 sl12 sl13 sl14 sl15 sl16 sl17 sl18 sl19 sl20 sl21 sl22 sl23 sl24 sl26 sl27 sl28 sl29 sl30 sl31 sl32 sl33 sl34 sl35 sl36 sl37 sl38 sl39 sl40 sl41 sl42 sl43 sl44 sl45 sl46 sl47 sl48 sl49 sl50 sl51 sl52 sl53 sl54 sl55 sl56 sl57 sl58 sl59 sl60 sl61 sl62 sl63 sl64 sl65 sl66 sl67 sl68 sl69 sl70 sl71 sl72 sl73 sl74 sl75 sl76 sl77 sl78 sl79 sl80 sl81 sl82 sl83 sl84 sl85 sl86 sl87 sl88 sl89 sl90 sl91 sl92 sl93 sl94 sl95 sl96 sl97 sl98 sl99 sl100 sl101 sl102 sl103 sl104 sl105 sl106 sl110 sl111 sl112 sl113 sl114 sl115 sl116 sl117 sl118 sl119 sl120 sl121 sl122 sl123 sl124 sl125 sl126 sl127 sl128 sl129 sl130 sl131 sl132 sl133 sl134 sl135 sl136 sl137 sl138 sl139 : Value} {gt : Nat} {w : World} (s t : St) (i : Int) (oa ob : Option Addr) (ca cb : Nat) (pp0 pp1 pp2 pp3 pp5 pp6 pp7 pp8 pp9 : Value) (HT : Hid (Row w gt 28 [pp0, pp1, pp2, pp3, .slice ob t.conns.length cb, pp5, pp6, pp7, pp8, pp9])) (hA : Hid (Many CnR 4 w w.heap.size (.slice oa s.conns.length ca) s.conns)) (hB : Hid (Many CnR 4 w w.heap.size (.slice ob t.conns.length cb) t.conns)) (HFO : Hid (Follows s i t)) (Q : Exit → Act → World → Prop)
    (hGo : Hid (∀ (u12 u26 u27 u109 u110 u111 u112 u113 u114 u115 u116 u117 u118 u119 u120 u121 u122 u123 u124 u125 u126 u127 u128 u129 u130 u131 : Value) (w' : World), Below w.heap.size w w' → Q .normal ⟨#[sl0, .int .i64 i, sl2, sl3, sl4, sl5, sl6, sl7, sl8, sl9, sl10, sl11, u12, sl13, sl14, sl15, sl16, sl17, sl18, sl19, sl20, sl21, sl22, sl23, sl24, .pointer (some ⟨gt, 0, none⟩), u26, u27, sl28, sl29, sl30, sl31, sl32, sl33, sl34, sl35, sl36, sl37, sl38, sl39, sl40, sl41, sl42, sl43, sl44, sl45, sl46, sl47, sl48, sl49, sl50, sl51, sl52, sl53, sl54, sl55, sl56, sl57, sl58, sl59, sl60, sl61, sl62, sl63, sl64, sl65, sl66, sl67, sl68, sl69, sl70, sl71, sl72, sl73, sl74, sl75, sl76, sl77, sl78, sl79, sl80, sl81, sl82, sl83, sl84, sl85, sl86, sl87, sl88, sl89, sl90, sl91, sl92, sl93, sl94, sl95, sl96, sl97, sl98, sl99, sl100, sl101, sl102, sl103, sl104, sl105, sl106, .slice oa s.conns.length ca, .int .i64 (s.conns.length : Int), u109, u110, u111, u112, u113, u114, u115, u116, u117, u118, u119, u120, u121, u122, u123, u124, u125, u126, u127, u128, u129, u130, u131, sl132, sl133, sl134, sl135, sl136, sl137, sl138, sl139], []⟩ w')) :
    Code.wp Tryz.prog ((Tryz.f6.body.bind (inBlock 2)).getD .skip) (Exit.inBlock 2 Q) ⟨#[sl0, .int .i64 i, sl2, sl3, sl4, sl5, sl6, sl7, sl8, sl9, sl10, sl11, sl12, sl13, sl14, sl15, sl16, sl17, sl18, sl19, sl20, sl21, sl22, sl23, sl24, .pointer (some ⟨gt, 0, none⟩), sl26, sl27, sl28, sl29, sl30, sl31, sl32, sl33, sl34, sl35, sl36, sl37, sl38, sl39, sl40, sl41, sl42, sl43, sl44, sl45, sl46, sl47, sl48, sl49, sl50, sl51, sl52, sl53, sl54, sl55, sl56, sl57, sl58, sl59, sl60, sl61, sl62, sl63, sl64, sl65, sl66, sl67, sl68, sl69, sl70, sl71, sl72, sl73, sl74, sl75, sl76, sl77, sl78, sl79, sl80, sl81, sl82, sl83, sl84, sl85, sl86, sl87, sl88, sl89, sl90, sl91, sl92, sl93, sl94, sl95, sl96, sl97, sl98, sl99, sl100, sl101, sl102, sl103, sl104, sl105, sl106, .slice oa s.conns.length ca, .int .i64 (s.conns.length : Int), .int .i64 0, sl110, sl111, sl112, sl113, sl114, sl115, sl116, sl117, sl118, sl119, sl120, sl121, sl122, sl123, sl124, sl125, sl126, sl127, sl128, sl129, sl130, sl131, sl132, sl133, sl134, sl135, sl136, sl137, sl138, sl139], []⟩ w := by
  conv => arg 2; whnf
  conv => arg 4; dsimp only
  have hmt := (wrongS_few HFO.out.right).2.1
  have hlt2 := HFO.out.len
  have hgt := HT.out.lt
  generalize hn : s.conns.length = n at *
  have HNN := hid hn
  generalize htn : t.conns.length = tn at *
  have HTN := hid htn
  clear hn htn
  go_loopw [109] (fun j wr => ∃ k : Nat, k ≤ n ∧ j = .int .i64 (k : Int) ∧ Hid (Below w.heap.size w wr)) (fun j _ => n - (intOf j).toNat)
  case atStart => exact ⟨0, by omega, rfl, hid (Below.refl _ _)⟩
  case round =>
    obtain ⟨k, hk, rfl, HBW⟩ := hrel
    have hszw := HBW.out.size
    by_cases hlt : k < n
    · obtain ⟨x, hx⟩ : ∃ x, s.conns[k]? = some x := ⟨s.conns[k]'(by rw [HNN.out]; exact hlt), List.getElem?_eq_getElem _⟩
      have hlt' : (k : Int) < (n : Int) := by omega
      have hltt : (k : Int) < (tn : Int) := by omega
      obtain ⟨b, f, rfl, gx⟩ := hA.out.spot (by omega)
      obtain ⟨hbN, r, hr, cx⟩ := gx k x hx
      subst hr
      have f0 := (HBW.out.cell (p := ⟨b, f + k * 4 + 0, none⟩) hbN).trans (cx 0 _ rfl)
      have f1 := (HBW.out.cell (p := ⟨b, f + k * 4 + 1, none⟩) hbN).trans (cx 1 _ rfl)
      have f2 := (HBW.out.cell (p := ⟨b, f + k * 4 + 2, none⟩) hbN).trans (cx 2 _ rfl)
      have f3 := (HBW.out.cell (p := ⟨b, f + k * 4 + 3, none⟩) hbN).trans (cx 3 _ rfl)
      simp only [Nat.add_zero] at f0
      obtain ⟨w3, hw3⟩ : ∃ w3, wr.alloc (.cells #[.int .i64 x.state, .int .i64 x.client, .int .i64 x.oclient, .int .i64 x.oconn] 58) = w3 := ⟨_, rfl⟩
      have hbr3 : Below wr.heap.size wr w3 := by rw [← hw3]; exact (Below.refl _ _).alloc (Nat.le_refl _) _
      have HR3 := hid (show Row w3 wr.heap.size 58 [.int .i64 x.state, .int .i64 x.client, .int .i64 x.oclient, .int .i64 x.oconn] by rw [← hw3]; exact Row.new _ _ _)
      have HB3 := hid (HBW.out.trans (hbr3.mono hszw))
      have HG3 := hid (HT.out.below HB3.out hgt)
      have HW3 := hid hw3
      clear hbr3 hw3 gx cx
      by_cases hst : x.state = 3
      · have e0 : (x.state == 3) = true := by simpa using hst
        have hxt : t.conns[k]? = some x := HFO.out.same k x hx (.inl hst)
        obtain ⟨b2, f2', rfl, gy⟩ := hB.out.spot (by omega)
        obtain ⟨hb2N, r2, hr2, cy⟩ := gy k x hxt
        subst hr2
        have y0 := (HB3.out.cell (p := ⟨b2, f2' + k * 4 + 0, none⟩) hb2N).trans (cy 0 _ rfl)
        have y1 := (HB3.out.cell (p := ⟨b2, f2' + k * 4 + 1, none⟩) hb2N).trans (cy 1 _ rfl)
        have y2 := (HB3.out.cell (p := ⟨b2, f2' + k * 4 + 2, none⟩) hb2N).trans (cy 2 _ rfl)
        have y3 := (HB3.out.cell (p := ⟨b2, f2' + k * 4 + 3, none⟩) hb2N).trans (cy 3 _ rfl)
        simp only [Nat.add_zero] at y0
        clear gy cy hxt hx hst
        go_upto_region 28 with fail
        rw [HW3.out]
        clear f0 f1 f2 f3
        have q0 : w3.cell? ⟨wr.heap.size, 0, none⟩ = some (.int .i64 x.state) := HR3.out.cell 0
        have q1 : w3.cell? ⟨wr.heap.size, 1, none⟩ = some (.int .i64 x.client) := HR3.out.cell 1
        have q2 : w3.cell? ⟨wr.heap.size, 2, none⟩ = some (.int .i64 x.oclient) := HR3.out.cell 2
        have q3 : w3.cell? ⟨wr.heap.size, 3, none⟩ = some (.int .i64 x.oconn) := HR3.out.cell 3
        have q4 : w3.cell? ⟨gt, 4, none⟩ = some (.slice (some ⟨b2, f2', none⟩) tn cb) := HG3.out.cell 4
        go_quiet (fail)
        go_wp2
        go_roundw
        case rel => exact ⟨k + 1, by omega, by go_num, hid (HB3.out.trans (below_drewH _ _ _))⟩
        case measure => simp [intOf]; omega
      · have e0 : (x.state == 3) = false := by simpa using hst
        by_cases hki : (k : Int) = i
        · have e1 : ((k : Int) != i) = false := by simpa using hki
          clear hx hki hst
          go_upto_region 28 with fail
          rw [HW3.out]
          clear f0 f1 f2 f3
          have q0 : w3.cell? ⟨wr.heap.size, 0, none⟩ = some (.int .i64 x.state) := HR3.out.cell 0
          have q1 : w3.cell? ⟨wr.heap.size, 1, none⟩ = some (.int .i64 x.client) := HR3.out.cell 1
          have q2 : w3.cell? ⟨wr.heap.size, 2, none⟩ = some (.int .i64 x.oclient) := HR3.out.cell 2
          have q3 : w3.cell? ⟨wr.heap.size, 3, none⟩ = some (.int .i64 x.oconn) := HR3.out.cell 3
          have q4 : w3.cell? ⟨gt, 4, none⟩ = some (.slice ob tn cb) := HG3.out.cell 4
          go_quiet (fail)
          go_wp2
          go_roundw
          case rel => exact ⟨k + 1, by omega, by go_num, hid (HB3.out.trans (below_drewH _ _ _))⟩
          case measure => simp [intOf]; omega
        · have e1 : ((k : Int) != i) = true := by simpa using hki
          have hxt : t.conns[k]? = some x := HFO.out.same k x hx (.inr hki)
          obtain ⟨b2, f2', rfl, gy⟩ := hB.out.spot (by omega)
          obtain ⟨hb2N, r2, hr2, cy⟩ := gy k x hxt
          subst hr2
          have y0 := (HB3.out.cell (p := ⟨b2, f2' + k * 4 + 0, none⟩) hb2N).trans (cy 0 _ rfl)
          have y1 := (HB3.out.cell (p := ⟨b2, f2' + k * 4 + 1, none⟩) hb2N).trans (cy 1 _ rfl)
          have y2 := (HB3.out.cell (p := ⟨b2, f2' + k * 4 + 2, none⟩) hb2N).trans (cy 2 _ rfl)
          have y3 := (HB3.out.cell (p := ⟨b2, f2' + k * 4 + 3, none⟩) hb2N).trans (cy 3 _ rfl)
          simp only [Nat.add_zero] at y0
          clear gy cy hxt hx hst hki
          go_upto_region 28 with fail
          rw [HW3.out]
          clear f0 f1 f2 f3
          have q0 : w3.cell? ⟨wr.heap.size, 0, none⟩ = some (.int .i64 x.state) := HR3.out.cell 0
          have q1 : w3.cell? ⟨wr.heap.size, 1, none⟩ = some (.int .i64 x.client) := HR3.out.cell 1
          have q2 : w3.cell? ⟨wr.heap.size, 2, none⟩ = some (.int .i64 x.oclient) := HR3.out.cell 2
          have q3 : w3.cell? ⟨wr.heap.size, 3, none⟩ = some (.int .i64 x.oconn) := HR3.out.cell 3
          have q4 : w3.cell? ⟨gt, 4, none⟩ = some (.slice (some ⟨b2, f2', none⟩) tn cb) := HG3.out.cell 4
          go_quiet (fail)
          go_wp2
          go_roundw
          case rel => exact ⟨k + 1, by omega, by go_num, hid (HB3.out.trans (below_drewH _ _ _))⟩
          case measure => simp [intOf]; omega
    · have hge : decide ((k : Int) < (n : Int)) = false := by simp; omega
      go_wp2
      apply hGo.out
      exact HBW.out
end Go.Proofs.YtooemgkjkngpcaaGreatDoor
namespace Go.Proofs.YtooemgkjkngpcaaGreatDoor
open Go.RowKit

set_option maxRecDepth 1000000 in
set_option maxHeartbeats 8000000 in
theorem onceOut {sl0 sl2 sl3 sl4 sl5 sl7 sl8 sl9 sl10 sl11 sl12 sl13 sl14 sl15 sl16 sl17 sl18 sl19 sl20 sl21 sl22 sl23 sl24 sl25 sl26 sl27 sl28 sl29 sl30 sl31 sl32 sl33 sl34 sl35 sl36 sl37 sl38 sl39 sl40 sl41 sl42 sl43 sl44 sl45 sl46 sl47 sl48 sl49 sl50 sl51 sl52 sl53 sl54 sl55 sl56 sl57 sl58 sl59 sl60 sl61 sl62 sl63 sl64 sl65 sl66 sl67 sl68 sl69 sl70 sl71 sl72 sl73 sl74 sl75 sl76 sl77 sl78 sl79 sl80 sl81 sl82 sl83 sl84 sl85 sl86 sl87 sl88 sl89 sl90 sl91 sl92 sl93 sl94 sl95 sl96 sl100 sl101 sl102 sl103 sl104 sl105 sl106 sl107 sl108 sl109 sl110 sl111 sl112 sl113 sl114 sl115 sl116 sl117 sl118 sl119 sl120 sl121 sl122 sl123 sl124 sl125 sl126 sl127 sl128 sl129 sl130 sl131 sl132 sl133 sl134 sl135 sl136 sl137 sl138 sl139 : Value} {gs N base : Nat} {w1 : World} (s : St) (i : Int) (o1 o2 o3 o4 o5 o6 o7 : Option Addr) (c1 c2 c3 c4 c5 c6 c7 : Nat) (l : List St) (oa : Option Addr) (cap : Nat) (HA : Hid (Row w1 gs 28 [.string s.name, .int .i64 s.height, .int .i64 s.time, .slice o1 s.clients.length c1, .slice o2 s.conns.length c2, .slice o3 s.chans.length c3, .slice o4 s.sent.length c4, .slice o5 s.got.length c5, .slice o6 s.acks.length c6, .slice o7 s.purses.length c7])) (HM : Hid (StMem w1 N s (.slice o1 s.clients.length c1) (.slice o2 s.conns.length c2) (.slice o3 s.chans.length c3) (.slice o4 s.sent.length c4) (.slice o5 s.got.length c5) (.slice o6 s.acks.length c6) (.slice o7 s.purses.length c7))) (hN : N ≤ w1.heap.size) (hfit : Hid s.fits) (HAF : Hid (After w1 base (.slice oa l.length cap) l)) (HFO : Hid (∀ t ∈ l, Follows s i t)) (hl : l.length ≤ 1000) (Q : Exit → Act → World → Prop)
    (hGo : Hid (∀ (u12 u25 u26 u27 u99 u100 u101 u102 u103 u104 u105 u106 u107 u108 u109 u110 u111 u112 u113 u114 u115 u116 u117 u118 u119 u120 u121 u122 u123 u124 u125 u126 u127 u128 u129 u130 u131 u132 u133 u134 u135 u136 u137 u138 u139 : Value) (w' : World), Below w1.heap.size w1 w' → Q .normal ⟨#[sl0, .int .i64 i, sl2, sl3, sl4, sl5, .pointer (some ⟨gs, 0, none⟩), sl7, sl8, sl9, sl10, sl11, u12, sl13, sl14, sl15, sl16, sl17, sl18, sl19, sl20, sl21, sl22, sl23, sl24, u25, u26, u27, sl28, sl29, sl30, sl31, sl32, sl33, sl34, sl35, sl36, sl37, sl38, sl39, sl40, sl41, sl42, sl43, sl44, sl45, sl46, sl47, sl48, sl49, sl50, sl51, sl52, sl53, sl54, sl55, sl56, sl57, sl58, sl59, sl60, sl61, sl62, sl63, sl64, sl65, sl66, sl67, sl68, sl69, sl70, sl71, sl72, sl73, sl74, sl75, sl76, sl77, sl78, sl79, sl80, sl81, sl82, sl83, sl84, sl85, sl86, sl87, sl88, sl89, sl90, sl91, sl92, sl93, sl94, sl95, sl96, .slice oa l.length cap, .int .i64 (l.length : Int), u99, u100, u101, u102, u103, u104, u105, u106, u107, u108, u109, u110, u111, u112, u113, u114, u115, u116, u117, u118, u119, u120, u121, u122, u123, u124, u125, u126, u127, u128, u129, u130, u131, u132, u133, u134, u135, u136, u137, u138, u139], []⟩ w')) :
    Code.wp Tryz.prog ((Tryz.f6.body.bind (inBlock 0)).getD .skip) (Exit.inBlock 0 Q) ⟨#[sl0, .int .i64 i, sl2, sl3, sl4, sl5, .pointer (some ⟨gs, 0, none⟩), sl7, sl8, sl9, sl10, sl11, sl12, sl13, sl14, sl15, sl16, sl17, sl18, sl19, sl20, sl21, sl22, sl23, sl24, sl25, sl26, sl27, sl28, sl29, sl30, sl31, sl32, sl33, sl34, sl35, sl36, sl37, sl38, sl39, sl40, sl41, sl42, sl43, sl44, sl45, sl46, sl47, sl48, sl49, sl50, sl51, sl52, sl53, sl54, sl55, sl56, sl57, sl58, sl59, sl60, sl61, sl62, sl63, sl64, sl65, sl66, sl67, sl68, sl69, sl70, sl71, sl72, sl73, sl74, sl75, sl76, sl77, sl78, sl79, sl80, sl81, sl82, sl83, sl84, sl85, sl86, sl87, sl88, sl89, sl90, sl91, sl92, sl93, sl94, sl95, sl96, .slice oa l.length cap, .int .i64 (l.length : Int), .int .i64 0, sl100, sl101, sl102, sl103, sl104, sl105, sl106, sl107, sl108, sl109, sl110, sl111, sl112, sl113, sl114, sl115, sl116, sl117, sl118, sl119, sl120, sl121, sl122, sl123, sl124, sl125, sl126, sl127, sl128, sl129, sl130, sl131, sl132, sl133, sl134, sl135, sl136, sl137, sl138, sl139], []⟩ w1 := by
  conv => arg 2; whnf
  conv => arg 4; dsimp only
  have hgs := HA.out.lt
  have HIZ := hid (show (Tryz.prog.info? 28).map (·.size) = some 10 by kernel_rfl)
  generalize hn : l.length = n at *
  have HNN := hid hn
  clear hn
  go_loopw [99] (fun j wr => ∃ k : Nat, k ≤ n ∧ j = .int .i64 (k : Int) ∧ Hid (Below w1.heap.size w1 wr)) (fun j _ => n - (intOf j).toNat)
  case atStart => exact ⟨0, by omega, rfl, hid (Below.refl _ _)⟩
  case round =>
    obtain ⟨k, hk, rfl, HBW⟩ := hrel
    have hszw := HBW.out.size
    by_cases hlt : k < n
    · obtain ⟨t, ht⟩ : ∃ t, l[k]? = some t := ⟨l[k]'(by rw [HNN.out]; exact hlt), List.getElem?_eq_getElem _⟩
      have hlt' : (k : Int) < (n : Int) := by omega
      have HFT := hid (HFO.out t (List.mem_of_getElem? ht))
      obtain ⟨g, cap', pp0, pp1, pp2, pp3, pp4, pp5, pp6, pp7, pp8, pp9, hve, hglt, hst, d0, d1, d2, d3, d4, d5, d6, d7, d8, d9⟩ := (HAF.out.below HBW.out).get ht
      simp only [Value.slice.injEq] at hve
      obtain ⟨rfl, -, rfl⟩ := hve
      obtain ⟨ao0, ac0, ao1, ac1, ao2, ac2, ao3, ac3, ao4, ac4, ao5, ac5, ao6, ac6, hag, hmt⟩ := hst.open
      simp only [Value.agg.injEq, Array.mk.injEq, List.cons.injEq, and_true] at hag
      obtain ⟨rfl, rfl, rfl, rfl, rfl, rfl, rfl, rfl, rfl, rfl⟩ := hag
      have HMT := hid hmt
      obtain ⟨w2, hw2⟩ : ∃ w2, wr.alloc (.cells #[.string ⟨#[]⟩, .int .i64 0, .int .i64 0, .slice none 0 0, .slice none 0 0, .slice none 0 0, .slice none 0 0, .slice none 0 0, .slice none 0 0, .slice none 0 0] 28) = w2 := ⟨_, rfl⟩
      have hbr2 : Below wr.heap.size wr w2 := by rw [← hw2]; exact (Below.refl _ _).alloc (Nat.le_refl _) _
      have HR2 := hid (show Row w2 wr.heap.size 28 [.string ⟨#[]⟩, .int .i64 0, .int .i64 0, .slice none 0 0, .slice none 0 0, .slice none 0 0, .slice none 0 0, .slice none 0 0, .slice none 0 0, .slice none 0 0] by rw [← hw2]; exact Row.new _ _ _)
      obtain ⟨w3, hw3⟩ : ∃ w3, w2.setRow (wr.heap.size) #[.string t.name, .int .i64 t.height, .int .i64 t.time, .slice ao0 t.clients.length ac0, .slice ao1 t.conns.length ac1, .slice ao2 t.chans.length ac2, .slice ao3 t.sent.length ac3, .slice ao4 t.got.length ac4, .slice ao5 t.acks.length ac5, .slice ao6 t.purses.length ac6] = w3 := ⟨_, rfl⟩
      have HRS3 := hid (show Row w3 (wr.heap.size) 28 [.string t.name, .int .i64 t.height, .int .i64 t.time, .slice ao0 t.clients.length ac0, .slice ao1 t.conns.length ac1, .slice ao2 t.chans.length ac2, .slice ao3 t.sent.length ac3, .slice ao4 t.got.length ac4, .slice ao5 t.acks.length ac5, .slice ao6 t.purses.length ac6] by rw [← hw3]; exact Row.setRow HR2.out _)
      have HHZ3 := hid (show w2.heap[wr.heap.size]? = some (.cells #[.string ⟨#[]⟩, .int .i64 0, .int .i64 0, .slice none 0 0, .slice none 0 0, .slice none 0 0, .slice none 0 0, .slice none 0 0, .slice none 0 0, .slice none 0 0] 28 (0, 0)) from HR2.out)
      have HON3 := hid (show (#[.string t.name, .int .i64 t.height, .int .i64 t.time, .slice ao0 t.clients.length ac0, .slice ao1 t.conns.length ac1, .slice ao2 t.chans.length ac2, .slice ao3 t.sent.length ac3, .slice ao4 t.got.length ac4, .slice ao5 t.acks.length ac5, .slice ao6 t.purses.length ac6] : Array Value).all (·.oneCell') = true by simp [Value.oneCell'])
      have HSW3 := hid hw3
      have hbr3 : Below wr.heap.size wr w3 := by rw [← hw3]; exact setRow_below hbr2 (Nat.le_refl _) _
      have HB3 := hid (HBW.out.trans (hbr3.mono hszw))
      have HX3 := hid hbr3
      have HA3 := hid (HA.out.below HB3.out hgs)
      have HWC := hid (stWrongC t _ w3.heap.size w3 ((hst.below hbr3).mono hbr3.size) (Nat.le_refl _) HFT.out.fit)
      have HW2 := hid hw2
      clear hbr2 hbr3 hw2 hw3 hst hmt ht
      rw [HFT.out.right] at HWC
      go_upto_region 23 with (first | rw [HW2.out] | skip; refine wpList_store_row rfl 28 (.tmp 25) (.tmp 102) rfl (wr.heap.size) #[.string t.name, .int .i64 t.height, .int .i64 t.time, .slice ao0 t.clients.length ac0, .slice ao1 t.conns.length ac1, .slice ao2 t.chans.length ac2, .slice ao3 t.sent.length ac3, .slice ao4 t.got.length ac4, .slice ao5 t.acks.length ac5, .slice ao6 t.purses.length ac6] rfl rfl 28 #[.string ⟨#[]⟩, .int .i64 0, .int .i64 0, .slice none 0 0, .slice none 0 0, .slice none 0 0, .slice none 0 0, .slice none 0 0, .slice none 0 0, .slice none 0 0] HHZ3.out HIZ.out rfl HON3.out ?_; rw [HSW3.out])
      clear d0 d1 d2 d3 d4 d5 d6 d7 d8 d9
      have k0 : w3.cell? ⟨wr.heap.size, 0, none⟩ = some (.string t.name) := HRS3.out.cell 0
      have k1 : w3.cell? ⟨wr.heap.size, 1, none⟩ = some (.int .i64 t.height) := HRS3.out.cell 1
      have k2 : w3.cell? ⟨wr.heap.size, 2, none⟩ = some (.int .i64 t.time) := HRS3.out.cell 2
      have k3 : w3.cell? ⟨wr.heap.size, 3, none⟩ = some (.slice ao0 t.clients.length ac0) := HRS3.out.cell 3
      have k4 : w3.cell? ⟨wr.heap.size, 4, none⟩ = some (.slice ao1 t.conns.length ac1) := HRS3.out.cell 4
      have k5 : w3.cell? ⟨wr.heap.size, 5, none⟩ = some (.slice ao2 t.chans.length ac2) := HRS3.out.cell 5
      have k6 : w3.cell? ⟨wr.heap.size, 6, none⟩ = some (.slice ao3 t.sent.length ac3) := HRS3.out.cell 6
      have k7 : w3.cell? ⟨wr.heap.size, 7, none⟩ = some (.slice ao4 t.got.length ac4) := HRS3.out.cell 7
      have k8 : w3.cell? ⟨wr.heap.size, 8, none⟩ = some (.slice ao5 t.acks.length ac5) := HRS3.out.cell 8
      have k9 : w3.cell? ⟨wr.heap.size, 9, none⟩ = some (.slice ao6 t.purses.length ac6) := HRS3.out.cell 9
      go_wp2_with fail
      refine HWC.out.mono ?_
      rintro e w4 ⟨rfl, hb4⟩
      have HX4 := hid (HX3.out.trans (hb4.mono HX3.out.size))
      have HB4 := hid (HB3.out.trans (hb4.mono HB3.out.size))
      have HA4 := hid (HA3.out.below hb4 HA3.out.lt)
      have HT4 := hid (HRS3.out.below hb4 HRS3.out.lt)
      clear hb4 k0 k1 k2 k3 k4 k5 k6 k7 k8 k9
      have k4 : w4.cell? ⟨gs, 4, none⟩ = some (.slice o2 s.conns.length c2) := HA4.out.cell 4
      have hs4 : N ≤ w4.heap.size := Nat.le_trans hN HB4.out.size
      go_wp2_with fail
      refine onceIn s t i o2 ao1 c2 ac1 _ _ _ _ _ _ _ _ _ HT4 (hid ((HM.out.below (HB4.out.mono hN)).mono hs4).conns) (hid ((HMT.out.below HX4.out).mono HX4.out.size).conns) HFT _ (hid ?_)
      intro i12 i26 i27 i109 i110 i111 i112 i113 i114 i115 i116 i117 i118 i119 i120 i121 i122 i123 i124 i125 i126 i127 i128 i129 i130 i131 w5 hb5
      have HX5 := hid (HX4.out.trans (hb5.mono HX4.out.size))
      have HB5 := hid (HB4.out.trans (hb5.mono HB4.out.size))
      have HA5 := hid (HA4.out.below hb5 HA4.out.lt)
      have HT5 := hid (HT4.out.below hb5 HT4.out.lt)
      clear hb5 k4
      have k4 : w5.cell? ⟨gs, 4, none⟩ = some (.slice o2 s.conns.length c2) := HA5.out.cell 4
      have j4 : w5.cell? ⟨wr.heap.size, 4, none⟩ = some (.slice ao1 t.conns.length ac1) := HT5.out.cell 4
      have z4 : w5.frozen? ⟨wr.heap.size, 4, none⟩ = false := HT5.out.frozen 4
      obtain ⟨w6, hw6⟩ : ∃ w6, w5.setCell ⟨wr.heap.size, 4, none⟩ (.slice o2 s.conns.length c2) = w6 := ⟨_, rfl⟩
      have HX6 := hid (show Below wr.heap.size wr w6 by rw [← hw6]; exact HX5.out.setCell (Nat.le_refl _) _)
      have HB6 := hid (show Below w1.heap.size w1 w6 by rw [← hw6]; exact HB5.out.setCell hszw _)
      have HA6 := hid (HA.out.below HB6.out hgs)
      have HT6 := hid (show Row w6 wr.heap.size 28 [.string t.name, .int .i64 t.height, .int .i64 t.time, .slice ao0 t.clients.length ac0, .slice o2 s.conns.length c2, .slice ao2 t.chans.length ac2, .slice ao3 t.sent.length ac3, .slice ao4 t.got.length ac4, .slice ao5 t.acks.length ac5, .slice ao6 t.purses.length ac6] by rw [← hw6]; exact HT5.out.set 4 _)
      have hs6 : N ≤ w6.heap.size := Nat.le_trans hN HB6.out.size
      have HSM := hid (sameS_eq s (.agg #[.string s.name, .int .i64 s.height, .int .i64 s.time, .slice o1 s.clients.length c1, .slice o2 s.conns.length c2, .slice o3 s.chans.length c3, .slice o4 s.sent.length c4, .slice o5 s.got.length c5, .slice o6 s.acks.length c6, .slice o7 s.purses.length c7]) (.agg #[.string t.name, .int .i64 t.height, .int .i64 t.time, .slice ao0 t.clients.length ac0, .slice o2 s.conns.length c2, .slice ao2 t.chans.length ac2, .slice ao3 t.sent.length ac3, .slice ao4 t.got.length ac4, .slice ao5 t.acks.length ac5, .slice ao6 t.purses.length ac6]) w6.heap.size w6 (Nat.le_refl _) (⟨_, _, _, _, _, _, _, rfl, (HM.out.below (HB6.out.mono hN)).mono hs6⟩) (stV_turned (HM.out.below (HB6.out.mono hN)) (HMT.out.below HX6.out) hs6 HX6.out.size HFT.out.rest) hfit.out)
      have HW6 := hid hw6
      clear hw6
      go_upto_region 32 with fail
      rw [HW6.out]
      clear k4 j4 z4
      have k0 : w6.cell? ⟨gs, 0, none⟩ = some (.string s.name) := HA6.out.cell 0
      have k1 : w6.cell? ⟨gs, 1, none⟩ = some (.int .i64 s.height) := HA6.out.cell 1
      have k2 : w6.cell? ⟨gs, 2, none⟩ = some (.int .i64 s.time) := HA6.out.cell 2
      have k3 : w6.cell? ⟨gs, 3, none⟩ = some (.slice o1 s.clients.length c1) := HA6.out.cell 3
      have k4 : w6.cell? ⟨gs, 4, none⟩ = some (.slice o2 s.conns.length c2) := HA6.out.cell 4
      have k5 : w6.cell? ⟨gs, 5, none⟩ = some (.slice o3 s.chans.length c3) := HA6.out.cell 5
      have k6 : w6.cell? ⟨gs, 6, none⟩ = some (.slice o4 s.sent.length c4) := HA6.out.cell 6
      have k7 : w6.cell? ⟨gs, 7, none⟩ = some (.slice o5 s.got.length c5) := HA6.out.cell 7
      have k8 : w6.cell? ⟨gs, 8, none⟩ = some (.slice o6 s.acks.length c6) := HA6.out.cell 8
      have k9 : w6.cell? ⟨gs, 9, none⟩ = some (.slice o7 s.purses.length c7) := HA6.out.cell 9
      have j0 : w6.cell? ⟨wr.heap.size, 0, none⟩ = some (.string t.name) := HT6.out.cell 0
      have j1 : w6.cell? ⟨wr.heap.size, 1, none⟩ = some (.int .i64 t.height) := HT6.out.cell 1
      have j2 : w6.cell? ⟨wr.heap.size, 2, none⟩ = some (.int .i64 t.time) := HT6.out.cell 2
      have j3 : w6.cell? ⟨wr.heap.size, 3, none⟩ = some (.slice ao0 t.clients.length ac0) := HT6.out.cell 3
      have j4 : w6.cell? ⟨wr.heap.size, 4, none⟩ = some (.slice o2 s.conns.length c2) := HT6.out.cell 4
      have j5 : w6.cell? ⟨wr.heap.size, 5, none⟩ = some (.slice ao2 t.chans.length ac2) := HT6.out.cell 5
      have j6 : w6.cell? ⟨wr.heap.size, 6, none⟩ = some (.slice ao3 t.sent.length ac3) := HT6.out.cell 6
      have j7 : w6.cell? ⟨wr.heap.size, 7, none⟩ = some (.slice ao4 t.got.length ac4) := HT6.out.cell 7
      have j8 : w6.cell? ⟨wr.heap.size, 8, none⟩ = some (.slice ao5 t.acks.length ac5) := HT6.out.cell 8
      have j9 : w6.cell? ⟨wr.heap.size, 9, none⟩ = some (.slice ao6 t.purses.length ac6) := HT6.out.cell 9
      go_wp2_with fail
      refine HSM.out.mono ?_
      rintro e w7 ⟨rfl, hb7⟩
      have HB7 := hid (HB6.out.trans (hb7.mono HB6.out.size))
      clear hb7 k0 j0 k1 j1 k2 j2 k3 j3 k4 j4 k5 j5 k6 j6 k7 j7 k8 j8 k9 j9
      go_wp2
      go_roundw
      case rel => exact ⟨k + 1, by omega, by go_num, hid HB7.out⟩
      case measure => simp [intOf]; omega
    · have hge : decide ((k : Int) < (n : Int)) = false := by simp; omega
      go_wp2
      apply hGo.out
      exact HBW.out
end Go.Proofs.YtooemgkjkngpcaaGreatDoor
