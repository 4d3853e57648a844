/-
  ChansGo: the loop over the states that follow.
-/
import Derived.Test.YtbgdpfeobklnhaaGreatDoorgoChFol
import Derived.Test.YtbgdpfeobklnhaaGreatDoorgoFrKit
import Derived.Test.YtbgdpfeobklnhaaGreatDoorgoRef1All
import Derived.Test.YtbgdpfeobklnhaaGreatDoorgoStSameF
import Derived.Test.YtbgdpfeobklnhaaGreatDoorgoCoAfter
import Derived.BigQuiet
import Derived.Deep.RegionHeld3
import Derived.Deep.RegionWith
namespace Go.Proofs.YtbgdpfeobklnhaaGreatDoor
open Go.RowKit

set_option maxRecDepth 1000000 in
set_option maxHeartbeats 8000000 in
theorem goIn {sl0 sl1 sl2 sl3 sl4 sl5 sl7 sl8 sl9 sl10 sl11 sl12 sl13 sl14 sl15 sl16 sl18 sl19 sl20 sl21 sl22 sl23 sl24 sl25 sl26 sl27 sl28 sl29 sl30 sl31 sl32 sl33 sl34 sl35 sl36 sl37 sl38 sl39 sl40 sl41 sl42 sl43 sl44 sl45 sl46 sl47 sl48 sl49 sl50 sl51 sl52 sl53 sl54 sl55 sl56 sl57 sl58 sl59 sl60 sl61 sl62 sl63 sl64 sl65 sl69 sl70 sl71 sl72 sl73 sl74 sl75 sl76 sl77 sl78 sl79 sl80 sl81 sl82 sl83 sl84 sl85 sl86 sl87 sl88 sl89 sl90 sl91 sl92 sl93 sl94 sl95 sl96 sl97 sl98 sl99 sl100 sl101 sl102 sl103 sl104 sl105 sl106 sl107 sl108 sl109 sl110 sl111 sl112 sl113 sl114 sl115 sl116 sl117 sl118 sl119 sl120 sl121 sl122 sl123 sl124 sl125 : Value} {gt ga : Nat} {w : World} (s t : St) (i : Int) (oa ob : Option Addr) (ca cb : Nat) (pp0 pp1 pp2 pp3 pp4 pp6 pp7 pp8 pp9 : Value) (HT : Hid (Row w gt 28 [pp0, pp1, pp2, pp3, pp4, .slice ob t.chans.length cb, pp6, pp7, pp8, pp9])) (HG : Hid (Row w ga 3 [.int .i64 i])) (hA : Hid (Many ChR 7 w w.heap.size (.slice oa s.chans.length ca) s.chans)) (hB : Hid (Many ChR 7 w w.heap.size (.slice ob t.chans.length cb) t.chans)) (HFO : Hid (FollowsC s i t)) (Q : Exit → Act → World → Prop)
    (hGo : Hid (∀ (u10 u18 u19 u20 u68 u69 u70 u71 u72 u73 u74 u75 u76 u77 u78 u79 u80 u81 u82 u83 u84 u85 u86 u87 u88 u89 u90 u91 u92 u93 u94 u95 u96 u97 u98 u99 u100 u101 u102 u103 u104 u105 u106 u107 u108 u109 u110 u111 u112 u113 u114 u115 u116 u117 : Value) (w' : World), Below w.heap.size w w' → Q .normal ⟨#[sl0, sl1, sl2, sl3, sl4, sl5, .pointer (some ⟨ga, 0, none⟩), sl7, sl8, sl9, u10, sl11, sl12, sl13, sl14, sl15, sl16, .pointer (some ⟨gt, 0, none⟩), u18, u19, u20, sl21, sl22, sl23, sl24, sl25, sl26, sl27, sl28, sl29, sl30, sl31, sl32, sl33, sl34, sl35, sl36, sl37, sl38, sl39, sl40, sl41, sl42, sl43, sl44, sl45, sl46, sl47, sl48, sl49, sl50, sl51, sl52, sl53, sl54, sl55, sl56, sl57, sl58, sl59, sl60, sl61, sl62, sl63, sl64, sl65, .slice oa s.chans.length ca, .int .i64 (s.chans.length : Int), u68, u69, u70, u71, u72, u73, u74, u75, u76, u77, u78, u79, u80, u81, u82, u83, u84, u85, u86, u87, u88, u89, u90, u91, u92, u93, u94, u95, u96, u97, u98, u99, u100, u101, u102, u103, u104, u105, u106, u107, u108, u109, u110, u111, u112, u113, u114, u115, u116, u117, sl118, sl119, sl120, sl121, sl122, sl123, sl124, sl125], []⟩ w')) :
    Code.wp Tryz.prog ((Tryz.f4.body.bind (inBlock 4)).getD .skip) (Exit.inBlock 4 Q) ⟨#[sl0, sl1, sl2, sl3, sl4, sl5, .pointer (some ⟨ga, 0, none⟩), sl7, sl8, sl9, sl10, sl11, sl12, sl13, sl14, sl15, sl16, .pointer (some ⟨gt, 0, none⟩), sl18, sl19, sl20, sl21, sl22, sl23, sl24, sl25, sl26, sl27, sl28, sl29, sl30, sl31, sl32, sl33, sl34, sl35, sl36, sl37, sl38, sl39, sl40, sl41, sl42, sl43, sl44, sl45, sl46, sl47, sl48, sl49, sl50, sl51, sl52, sl53, sl54, sl55, sl56, sl57, sl58, sl59, sl60, sl61, sl62, sl63, sl64, sl65, .slice oa s.chans.length ca, .int .i64 (s.chans.length : Int), .int .i64 0, sl69, sl70, sl71, sl72, sl73, sl74, sl75, sl76, sl77, sl78, sl79, sl80, sl81, sl82, sl83, sl84, sl85, sl86, sl87, sl88, sl89, sl90, sl91, sl92, sl93, sl94, sl95, sl96, sl97, sl98, sl99, sl100, sl101, sl102, sl103, sl104, sl105, sl106, sl107, sl108, sl109, sl110, sl111, sl112, sl113, sl114, sl115, sl116, sl117, sl118, sl119, sl120, sl121, sl122, sl123, sl124, sl125], []⟩ w := by
  conv => arg 2; whnf
  conv => arg 4; dsimp only
  have hlt2 := HFO.out.len
  have hmt := (wrongS_few HFO.out.right).2.2.1
  generalize hn : s.chans.length = n at *
  have HNN := hid hn
  generalize htn : t.chans.length = tn at *
  have HTN := hid htn
  clear hn htn
  go_loopw [68] (fun j wr => ∃ k : Nat, k ≤ n ∧ j = .int .i64 (k : Int) ∧ Hid (Below w.heap.size w wr)) (fun j _ => n - (intOf j).toNat)
  case atStart => exact ⟨0, by omega, rfl, hid (Below.refl _ _)⟩
  case round =>
    obtain ⟨k, hk, rfl, HBW⟩ := hrel
    by_cases hlt : k < n
    · obtain ⟨x, hx⟩ : ∃ x, s.chans[k]? = some x := ⟨s.chans[k]'(by rw [HNN.out]; exact hlt), List.getElem?_eq_getElem _⟩
      have hlt' : (k : Int) < (n : Int) := by omega
      have hltt : (k : Int) < (tn : Int) := by omega
      obtain ⟨d, hd, h1, h2, h3, h4, h5⟩ := HFO.out.each k x hx
      obtain ⟨b, f, rfl, hb, x0, x1, x2, x3, x4, x5, x6⟩ := hA.out.chan HNN.out.symm hx
      replace x0 := (HBW.out.cell (by exact hb)).trans x0
      replace x1 := (HBW.out.cell (by exact hb)).trans x1
      replace x2 := (HBW.out.cell (by exact hb)).trans x2
      replace x3 := (HBW.out.cell (by exact hb)).trans x3
      replace x4 := (HBW.out.cell (by exact hb)).trans x4
      replace x5 := (HBW.out.cell (by exact hb)).trans x5
      replace x6 := (HBW.out.cell (by exact hb)).trans x6
      have HD := hid hd
      have H1 := hid h1
      have H2 := hid h2
      have H3 := hid h3
      have H4 := hid h4
      have H5 := hid h5
      clear hd h1 h2 h3 h4 h5 hx
      go_upto_region 19 with fail
      refine (Fr.nil wr).box ?_
      intro w3 F3 hs3 hb3
      clear x0 x1 x2 x3 x4 x5 x6 hs3 hb3 hb
      have HB3 := hid (HBW.out.trans (F3.b.mono HBW.out.size))
      obtain ⟨b2, f2, rfl, hb2, x0, x1, x2, x3, x4, x5, x6⟩ := hB.out.chan HTN.out.symm HD.out
      replace x0 := (HB3.out.cell (by exact hb2)).trans x0
      replace x1 := (HB3.out.cell (by exact hb2)).trans x1
      replace x2 := (HB3.out.cell (by exact hb2)).trans x2
      replace x3 := (HB3.out.cell (by exact hb2)).trans x3
      replace x4 := (HB3.out.cell (by exact hb2)).trans x4
      replace x5 := (HB3.out.cell (by exact hb2)).trans x5
      replace x6 := (HB3.out.cell (by exact hb2)).trans x6
      have k5 := (HT.out.below HB3.out HT.out.lt).k10.2.2.2.2.2.1
      go_upto_region 20 with fail
      refine F3.box ?_
      intro w4 F4 hs4 hb4
      clear x0 x1 x2 x3 x4 x5 x6 k5 hs4 hb4 hb2
      have HB4 := hid (HBW.out.trans (F4.b.mono HBW.out.size))
      have kg := (HG.out.below HB4.out HG.out.lt).cell 0
      simp at kg
      obtain ⟨p0, p1, p2, p3, p4, p5, p6⟩ := F4.r0.k7
      by_cases hq : x.state = 4 ∨ (k : Int) ≠ i
      · have hdx : d = x := by rcases hq with h | h; exact H3.out h; exact H5.out h
        subst hdx
        obtain ⟨q0, q1, q2, q3, q4, q5, q6⟩ := F4.r1.k7
        have e2 : (d.ordered != d.ordered) = false := by simp
        have e3 : decide (d.state < d.state) = false := by simp
        clear F3 hq
        by_cases hs : d.state = 4
        · have e1 : (d.state == 4) = true := by simpa using hs
          by_cases hi : (k : Int) = i
          · have e4 : ((k : Int) != i) = false := by simpa using hi
            clear hi hs
            go_wp2
            go_roundw
            case rel => exact ⟨k + 1, by omega, by go_num, hid HB4.out⟩
            case measure => simp [intOf]; omega
          · have e4 : ((k : Int) != i) = true := by simpa using hi
            clear hi hs
            go_wp2
            go_roundw
            case rel => exact ⟨k + 1, by omega, by go_num, hid HB4.out⟩
            case measure => simp [intOf]; omega
        · have e1 : (d.state == 4) = false := by simpa using hs
          by_cases hi : (k : Int) = i
          · have e4 : ((k : Int) != i) = false := by simpa using hi
            clear hi hs
            go_wp2
            go_roundw
            case rel => exact ⟨k + 1, by omega, by go_num, hid HB4.out⟩
            case measure => simp [intOf]; omega
          · have e4 : ((k : Int) != i) = true := by simpa using hi
            clear hi hs
            go_wp2
            go_roundw
            case rel => exact ⟨k + 1, by omega, by go_num, hid HB4.out⟩
            case measure => simp [intOf]; omega
      · have e1 : (x.state == 4) = false := by simp; exact fun h => hq (.inl h)
        have e4 : ((k : Int) != i) = false := by simp; exact Classical.byContradiction fun h => hq (.inr h)
        clear hq
        obtain ⟨q0, q1, q2, q3, q4, q5, q6⟩ := F4.r1.k7
        rw [H1.out] at q2
        rw [H2.out] at q1
        have e2 : (x.ordered != x.ordered) = false := by simp
        have e3 : decide (d.state < x.state) = false := by have := H4.out; simp; omega
        go_wp2
        go_roundw
        case rel => exact ⟨k + 1, by omega, by go_num, hid HB4.out⟩
        case measure => simp [intOf]; omega
    · have hge : decide ((k : Int) < (n : Int)) = false := by simp; omega
      go_wp2
      apply hGo.out
      exact HBW.out
end Go.Proofs.YtbgdpfeobklnhaaGreatDoor
namespace Go.Proofs.YtbgdpfeobklnhaaGreatDoor
open Go.RowKit

theorem stV_turnedCh {w : World} {N M : Nat} {s t : St} {v1 v2 v3 v4 v5 v6 v7 u1 u2 u3 u4 u5 u6 u7 : Value} (hs : StMem w N s v1 v2 v3 v4 v5 v6 v7) (ht : StMem w M t u1 u2 u3 u4 u5 u6 u7) (hN : N ≤ w.heap.size) (hM : M ≤ w.heap.size) (hr : ({ t with chans := s.chans } : St) = s) : StV w w.heap.size (.agg #[.string t.name, .int .i64 t.height, .int .i64 t.time, u1, u2, v3, u4, u5, u6, u7]) s := by
  have h1 := hs.mono hN
  have h2 := ht.mono hM
  have h3 : StV w w.heap.size (.agg #[.string t.name, .int .i64 t.height, .int .i64 t.time, u1, u2, v3, u4, u5, u6, u7]) ({ t with chans := s.chans } : St) := ⟨u1, u2, v3, u4, u5, u6, u7, rfl, ⟨h2.clients, h2.conns, h1.chans, h2.sent, h2.got, h2.acks, h2.purses⟩⟩
  rw [hr] at h3
  exact h3
set_option maxRecDepth 1000000 in
set_option maxHeartbeats 8000000 in
theorem goOut {sl0 sl1 sl2 sl3 sl4 sl7 sl8 sl9 sl10 sl11 sl12 sl13 sl14 sl15 sl16 sl17 sl18 sl19 sl20 sl21 sl22 sl23 sl24 sl25 sl26 sl27 sl28 sl29 sl30 sl31 sl32 sl33 sl34 sl35 sl36 sl37 sl38 sl39 sl40 sl41 sl42 sl43 sl44 sl45 sl46 sl50 sl51 sl52 sl53 sl54 sl55 sl56 sl57 sl58 sl59 sl60 sl61 sl62 sl63 sl64 sl65 sl66 sl67 sl68 sl69 sl70 sl71 sl72 sl73 sl74 sl75 sl76 sl77 sl78 sl79 sl80 sl81 sl82 sl83 sl84 sl85 sl86 sl87 sl88 sl89 sl90 sl91 sl92 sl93 sl94 sl95 sl96 sl97 sl98 sl99 sl100 sl101 sl102 sl103 sl104 sl105 sl106 sl107 sl108 sl109 sl110 sl111 sl112 sl113 sl114 sl115 sl116 sl117 sl118 sl119 sl120 sl121 sl122 sl123 sl124 sl125 : Value} {gs ga N base : Nat} {w1 : World} (s : St) (i : Int) (o1 o2 o3 o4 o5 o6 o7 : Option Addr) (c1 c2 c3 c4 c5 c6 c7 : Nat) (l : List St) (oa : Option Addr) (cap : Nat) (HA : Hid (Row w1 gs 28 [.string s.name, .int .i64 s.height, .int .i64 s.time, .slice o1 s.clients.length c1, .slice o2 s.conns.length c2, .slice o3 s.chans.length c3, .slice o4 s.sent.length c4, .slice o5 s.got.length c5, .slice o6 s.acks.length c6, .slice o7 s.purses.length c7])) (HG : Hid (Row w1 ga 3 [.int .i64 i])) (HM : Hid (StMem w1 N s (.slice o1 s.clients.length c1) (.slice o2 s.conns.length c2) (.slice o3 s.chans.length c3) (.slice o4 s.sent.length c4) (.slice o5 s.got.length c5) (.slice o6 s.acks.length c6) (.slice o7 s.purses.length c7))) (hN : N ≤ w1.heap.size) (hfit : Hid s.fits) (HAF : Hid (After w1 base (.slice oa l.length cap) l)) (HFO : Hid (∀ t ∈ l, FollowsC s i t)) (hl : l.length ≤ 1000) (Q : Exit → Act → World → Prop)
    (hGo : Hid (∀ (u10 u17 u18 u19 u20 u49 u50 u51 u52 u53 u54 u55 u56 u57 u58 u59 u60 u61 u62 u63 u64 u65 u66 u67 u68 u69 u70 u71 u72 u73 u74 u75 u76 u77 u78 u79 u80 u81 u82 u83 u84 u85 u86 u87 u88 u89 u90 u91 u92 u93 u94 u95 u96 u97 u98 u99 u100 u101 u102 u103 u104 u105 u106 u107 u108 u109 u110 u111 u112 u113 u114 u115 u116 u117 u118 u119 u120 u121 u122 u123 u124 u125 : Value) (w' : World), Below w1.heap.size w1 w' → Q .normal ⟨#[sl0, sl1, sl2, sl3, sl4, .pointer (some ⟨gs, 0, none⟩), .pointer (some ⟨ga, 0, none⟩), sl7, sl8, sl9, u10, sl11, sl12, sl13, sl14, sl15, sl16, u17, u18, u19, u20, sl21, sl22, sl23, sl24, sl25, sl26, sl27, sl28, sl29, sl30, sl31, sl32, sl33, sl34, sl35, sl36, sl37, sl38, sl39, sl40, sl41, sl42, sl43, sl44, sl45, sl46, .slice oa l.length cap, .int .i64 (l.length : Int), u49, u50, u51, u52, u53, u54, u55, u56, u57, u58, u59, u60, u61, u62, u63, u64, u65, u66, u67, u68, u69, u70, u71, u72, u73, u74, u75, u76, u77, u78, u79, u80, u81, u82, u83, u84, u85, u86, u87, u88, u89, u90, u91, u92, u93, u94, u95, u96, u97, u98, u99, u100, u101, u102, u103, u104, u105, u106, u107, u108, u109, u110, u111, u112, u113, u114, u115, u116, u117, u118, u119, u120, u121, u122, u123, u124, u125], []⟩ w')) :
    Code.wp Tryz.prog ((Tryz.f4.body.bind (inBlock 2)).getD .skip) (Exit.inBlock 2 Q) ⟨#[sl0, sl1, sl2, sl3, sl4, .pointer (some ⟨gs, 0, none⟩), .pointer (some ⟨ga, 0, none⟩), sl7, sl8, sl9, sl10, sl11, sl12, sl13, sl14, sl15, sl16, sl17, sl18, sl19, sl20, sl21, sl22, sl23, sl24, sl25, sl26, sl27, sl28, sl29, sl30, sl31, sl32, sl33, sl34, sl35, sl36, sl37, sl38, sl39, sl40, sl41, sl42, sl43, sl44, sl45, sl46, .slice oa l.length cap, .int .i64 (l.length : Int), .int .i64 0, sl50, sl51, sl52, sl53, sl54, sl55, sl56, sl57, sl58, sl59, sl60, sl61, sl62, sl63, sl64, sl65, sl66, sl67, sl68, sl69, sl70, sl71, sl72, sl73, sl74, sl75, sl76, sl77, sl78, sl79, sl80, sl81, sl82, sl83, sl84, sl85, sl86, sl87, sl88, sl89, sl90, sl91, sl92, sl93, sl94, sl95, sl96, sl97, sl98, sl99, sl100, sl101, sl102, sl103, sl104, sl105, sl106, sl107, sl108, sl109, sl110, sl111, sl112, sl113, sl114, sl115, sl116, sl117, sl118, sl119, sl120, sl121, sl122, sl123, sl124, sl125], []⟩ w1 := by
  conv => arg 2; whnf
  conv => arg 4; dsimp only
  generalize hn : l.length = n at *
  have HNN := hid hn
  clear hn
  go_loopw [49] (fun j wr => ∃ k : Nat, k ≤ n ∧ j = .int .i64 (k : Int) ∧ Hid (Below w1.heap.size w1 wr)) (fun j _ => n - (intOf j).toNat)
  case atStart => exact ⟨0, by omega, rfl, hid (Below.refl _ _)⟩
  case round =>
    obtain ⟨k, hk, rfl, HBW⟩ := hrel
    by_cases hlt : k < n
    · obtain ⟨t, ht⟩ : ∃ t, l[k]? = some t := ⟨l[k]'(by rw [HNN.out]; exact hlt), List.getElem?_eq_getElem _⟩
      have hlt' : (k : Int) < (n : Int) := by omega
      have HFT := hid (HFO.out t (List.mem_of_getElem? ht))
      obtain ⟨g, cap', pp0, pp1, pp2, pp3, pp4, pp5, pp6, pp7, pp8, pp9, hve, hglt, hst, d0, d1, d2, d3, d4, d5, d6, d7, d8, d9⟩ := (HAF.out.below HBW.out).get ht
      simp only [Value.slice.injEq] at hve
      obtain ⟨rfl, -, rfl⟩ := hve
      obtain ⟨a1, b1, a2, b2, a3, b3, a4, b4, a5, b5, a6, b6, a7, b7, hag, hmt⟩ := hst.open
      simp only [Value.agg.injEq, Array.mk.injEq, List.cons.injEq, and_true] at hag
      obtain ⟨rfl, rfl, rfl, rfl, rfl, rfl, rfl, rfl, rfl, rfl⟩ := hag
      have HMT := hid hmt
      have HST := hid hst
      clear hst hmt ht
      go_upto_region 14 with (refine (Fr.nil wr).storeNew rfl rfl rfl rfl structState rfl (by simp [Value.oneCell']) ?_; intro w3 F3 hb3)
      clear d0 d1 d2 d3 d4 d5 d6 d7 d8 d9 hb3
      have HWC := hid (stWrongC t _ w3.heap.size w3 ((HST.out.below F3.b).mono F3.b.size) (Nat.le_refl _) HFT.out.fit)
      rw [HFT.out.right] at HWC
      obtain ⟨j0, j1, j2, j3, j4, j5, j6, j7, j8, j9⟩ := F3.r0.k10
      go_wp2_with fail
      refine HWC.out.mono ?_
      rintro e w4 ⟨rfl, hb4⟩
      have F4 := F3.go hb4
      have HB4 := hid (HBW.out.trans (F4.b.mono HBW.out.size))
      clear hb4 j0 j1 j2 j3 j4 j5 j6 j7 j8 j9
      have k5 := (HA.out.below HB4.out HA.out.lt).k10.2.2.2.2.2.1
      have j5 := F4.r0.k10.2.2.2.2.2.1
      have el : decide ((t.chans.length : Int) < (s.chans.length : Int)) = false := by have := HFT.out.len; simp; omega
      have el2 : decide (t.chans.length < s.chans.length) = false := by have := HFT.out.len; simp; omega
      have hs4 : N ≤ w4.heap.size := Nat.le_trans hN HB4.out.size
      go_wp2_with fail
      refine goIn s t i o3 a3 c3 b3 _ _ _ _ _ _ _ _ _ (hid F4.r0) (hid (HG.out.below HB4.out HG.out.lt)) (hid ((HM.out.below (HB4.out.mono hN)).mono hs4).chans) (hid ((HMT.out.below F4.b).mono F4.b.size).chans) HFT _ (hid ?_)
      intro i10 i18 i19 i20 i68 i69 i70 i71 i72 i73 i74 i75 i76 i77 i78 i79 i80 i81 i82 i83 i84 i85 i86 i87 i88 i89 i90 i91 i92 i93 i94 i95 i96 i97 i98 i99 i100 i101 i102 i103 i104 i105 i106 i107 i108 i109 i110 i111 i112 i113 i114 i115 i116 i117 w5 hb5
      have F5 := F4.go hb5
      have HB5 := hid (HBW.out.trans (F5.b.mono HBW.out.size))
      clear hb5 k5 j5 el el2 hs4
      have k5 := (HA.out.below HB5.out HA.out.lt).k10.2.2.2.2.2.1
      have j5 := F5.r0.k10.2.2.2.2.2.1
      have z5 := F5.r0.frozen 5
      go_upto_region 24 with fail
      refine F5.cell 0 rfl ?_
      intro w6 F6 O6
      have HB6 := hid (HBW.out.trans (F6.b.mono HBW.out.size))
      have hs6 : N ≤ w6.heap.size := Nat.le_trans hN HB6.out.size
      have HSM := hid (sameS_eq s (.agg #[.string s.name, .int .i64 s.height, .int .i64 s.time, .slice o1 s.clients.length c1, .slice o2 s.conns.length c2, .slice o3 s.chans.length c3, .slice o4 s.sent.length c4, .slice o5 s.got.length c5, .slice o6 s.acks.length c6, .slice o7 s.purses.length c7]) _ w6.heap.size w6 (Nat.le_refl _) (⟨_, _, _, _, _, _, _, rfl, (HM.out.below (HB6.out.mono hN)).mono hs6⟩) (stV_turnedCh (HM.out.below (HB6.out.mono hN)) (HMT.out.below F6.b) hs6 F6.b.size HFT.out.rest) hfit.out)
      clear k5 j5 z5 hs6 O6
      obtain ⟨k0, k1, k2, k3, k4, k5, k6, k7, k8, k9⟩ := (HA.out.below HB6.out HA.out.lt).k10
      obtain ⟨j0, j1, j2, j3, j4, j5, j6, j7, j8, j9⟩ := F6.r0.k10
      go_wp2_with fail
      refine HSM.out.mono ?_
      rintro e w7 ⟨rfl, hb7⟩
      have HB7 := hid (HB6.out.trans (hb7.mono HB6.out.size))
      clear hb7 k0 k1 k2 k3 k4 k5 k6 k7 k8 k9 j0 j1 j2 j3 j4 j5 j6 j7 j8 j9
      go_wp2
      go_roundw
      case rel => exact ⟨k + 1, by omega, by go_num, hid HB7.out⟩
      case measure => simp [intOf]; omega
    · have hge : decide ((k : Int) < (n : Int)) = false := by simp; omega
      go_wp2
      apply hGo.out
      exact HBW.out
end Go.Proofs.YtbgdpfeobklnhaaGreatDoor
