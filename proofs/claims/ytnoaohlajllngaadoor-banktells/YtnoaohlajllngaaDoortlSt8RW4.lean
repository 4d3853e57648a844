/-
  The document's Wrong, its fourth loop: channels.
-/
import Derived.Test.YtnoaohlajllngaaDoortlSt8RMarks
import Derived.Test.YtnoaohlajllngaaDoortlRef1All
import Derived.BigQuiet
import Derived.Deep.RegionHeld3
import Derived.Deep.RegionWith
namespace Go.Proofs.YtnoaohlajllngaaDoor
open Go.RowKit

set_option maxRecDepth 1000000 in
set_option maxHeartbeats 8000000 in
theorem wrCh_block {s0 s1 s2 s3 s4 s5 s6 s7 s8 s9 s10 s11 s12 s13 s14 s15 s16 s17 s18 s19 s20 s21 s22 s23 s24 s25 s26 s27 s28 s29 s30 s31 s32 s33 s34 s35 s36 s37 s38 s39 s40 s41 s42 s43 s44 s45 s46 s47 s48 s49 s50 s51 s52 s53 s54 s55 s56 s57 s58 s59 s60 s61 s62 s63 s64 s65 s66 s67 s68 s69 s70 s71 s72 s73 s74 s75 s76 s77 s78 s79 s80 s81 s82 s83 s84 s85 s86 s87 s88 s89 s90 s91 s92 s93 s94 s95 s96 s97 s98 s99 s100 s101 s102 s103 s104 s105 s106 s107 s108 s109 s110 s111 s112 s116 s117 s118 s119 s120 s121 s122 s123 s124 s125 s126 s127 s128 s129 s130 s131 s132 s133 s134 s135 s136 s137 s138 s139 s140 s141 s142 s143 s144 s145 s146 s147 s148 s149 s150 s151 s152 s153 s154 s155 s156 s157 s158 s159 s160 s161 s162 s163 s164 s165 s166 s167 s168 s169 s170 s171 s172 s173 s174 s175 s176 s177 s178 s179 s180 s181 s182 s183 s184 s185 s186 s187 s188 s189 s190 s191 s192 s193 s194 s195 s196 s197 s198 s199 s200 s201 s202 s203 s204 s205 s206 s207 s208 s209 s210 s211 s212 s213 s214 s215 s216 s217 s218 s219 s220 s221 s222 s223 s224 s225 s226 s227 s228 s229 : Value} (l : List Ch) (oa : Option Addr) (ca N : Nat) (w : World) (hN : N ≤ w.heap.size) (hv : Hid (Many ChR 7 w N (.slice oa l.length ca) l)) (hl : l.length < 2305843009213693952) (Q : Exit → Act → World → Prop)
    (hGo : Hid (∀ (u2 u11 u115 u116 u117 u118 u119 u120 u121 u122 u123 u124 u125 u126 u127 u128 u129 u130 u131 u132 u133 u134 u135 u136 u137 u138 u139 u140 u141 u142 u143 u144 u145 u146 u147 u148 u149 u150 : Value) (w' : World), Below w.heap.size w w' → firstW wrongCh l = 0 → Q .normal ⟨#[s0, s1, u2, s3, s4, s5, s6, s7, s8, s9, s10, u11, s12, s13, s14, s15, s16, s17, s18, s19, s20, s21, s22, s23, s24, s25, s26, s27, s28, s29, s30, s31, s32, s33, s34, s35, s36, s37, s38, s39, s40, s41, s42, s43, s44, s45, s46, s47, s48, s49, s50, s51, s52, s53, s54, s55, s56, s57, s58, s59, s60, s61, s62, s63, s64, s65, s66, s67, s68, s69, s70, s71, s72, s73, s74, s75, s76, s77, s78, s79, s80, s81, s82, s83, s84, s85, s86, s87, s88, s89, s90, s91, s92, s93, s94, s95, s96, s97, s98, s99, s100, s101, s102, s103, s104, s105, s106, s107, s108, s109, s110, s111, s112, .slice oa l.length ca, .int .i64 (l.length : Int), u115, u116, u117, u118, u119, u120, u121, u122, u123, u124, u125, u126, u127, u128, u129, u130, u131, u132, u133, u134, u135, u136, u137, u138, u139, u140, u141, u142, u143, u144, u145, u146, u147, u148, u149, u150, s151, s152, s153, s154, s155, s156, s157, s158, s159, s160, s161, s162, s163, s164, s165, s166, s167, s168, s169, s170, s171, s172, s173, s174, s175, s176, s177, s178, s179, s180, s181, s182, s183, s184, s185, s186, s187, s188, s189, s190, s191, s192, s193, s194, s195, s196, s197, s198, s199, s200, s201, s202, s203, s204, s205, s206, s207, s208, s209, s210, s211, s212, s213, s214, s215, s216, s217, s218, s219, s220, s221, s222, s223, s224, s225, s226, s227, s228, s229], []⟩ w'))
    (hRet : Hid (∀ (u11 u115 u116 u117 u118 u119 u120 u121 u122 u123 u124 u125 u126 u127 u128 u129 u130 u131 u132 u133 u134 u135 u136 u137 u138 u139 u140 u141 u142 u143 u144 u145 u146 u147 u148 u149 u150 : Value) (w' : World), Below w.heap.size w w' → firstW wrongCh l ≠ 0 → Q .ret ⟨#[s0, s1, .int .i64 (firstW wrongCh l), s3, s4, s5, s6, s7, s8, s9, s10, u11, s12, s13, s14, s15, s16, s17, s18, s19, s20, s21, s22, s23, s24, s25, s26, s27, s28, s29, s30, s31, s32, s33, s34, s35, s36, s37, s38, s39, s40, s41, s42, s43, s44, s45, s46, s47, s48, s49, s50, s51, s52, s53, s54, s55, s56, s57, s58, s59, s60, s61, s62, s63, s64, s65, s66, s67, s68, s69, s70, s71, s72, s73, s74, s75, s76, s77, s78, s79, s80, s81, s82, s83, s84, s85, s86, s87, s88, s89, s90, s91, s92, s93, s94, s95, s96, s97, s98, s99, s100, s101, s102, s103, s104, s105, s106, s107, s108, s109, s110, s111, s112, .slice oa l.length ca, .int .i64 (l.length : Int), u115, u116, u117, u118, u119, u120, u121, u122, u123, u124, u125, u126, u127, u128, u129, u130, u131, u132, u133, u134, u135, u136, u137, u138, u139, u140, u141, u142, u143, u144, u145, u146, u147, u148, u149, u150, s151, s152, s153, s154, s155, s156, s157, s158, s159, s160, s161, s162, s163, s164, s165, s166, s167, s168, s169, s170, s171, s172, s173, s174, s175, s176, s177, s178, s179, s180, s181, s182, s183, s184, s185, s186, s187, s188, s189, s190, s191, s192, s193, s194, s195, s196, s197, s198, s199, s200, s201, s202, s203, s204, s205, s206, s207, s208, s209, s210, s211, s212, s213, s214, s215, s216, s217, s218, s219, s220, s221, s222, s223, s224, s225, s226, s227, s228, s229], []⟩ w')) :
    Code.wp Tryd.prog ((Tryd.f45.body.bind (inBlock 6)).getD .skip) (Exit.inBlock 6 Q) ⟨#[s0, s1, s2, s3, s4, s5, s6, s7, s8, s9, s10, s11, s12, s13, s14, s15, s16, s17, s18, s19, s20, s21, s22, s23, s24, s25, s26, s27, s28, s29, s30, s31, s32, s33, s34, s35, s36, s37, s38, s39, s40, s41, s42, s43, s44, s45, s46, s47, s48, s49, s50, s51, s52, s53, s54, s55, s56, s57, s58, s59, s60, s61, s62, s63, s64, s65, s66, s67, s68, s69, s70, s71, s72, s73, s74, s75, s76, s77, s78, s79, s80, s81, s82, s83, s84, s85, s86, s87, s88, s89, s90, s91, s92, s93, s94, s95, s96, s97, s98, s99, s100, s101, s102, s103, s104, s105, s106, s107, s108, s109, s110, s111, s112, .slice oa l.length ca, .int .i64 (l.length : Int), .int .i64 0, s116, s117, s118, s119, s120, s121, s122, s123, s124, s125, s126, s127, s128, s129, s130, s131, s132, s133, s134, s135, s136, s137, s138, s139, s140, s141, s142, s143, s144, s145, s146, s147, s148, s149, s150, s151, s152, s153, s154, s155, s156, s157, s158, s159, s160, s161, s162, s163, s164, s165, s166, s167, s168, s169, s170, s171, s172, s173, s174, s175, s176, s177, s178, s179, s180, s181, s182, s183, s184, s185, s186, s187, s188, s189, s190, s191, s192, s193, s194, s195, s196, s197, s198, s199, s200, s201, s202, s203, s204, s205, s206, s207, s208, s209, s210, s211, s212, s213, s214, s215, s216, s217, s218, s219, s220, s221, s222, s223, s224, s225, s226, s227, s228, s229], []⟩ w := by
  conv => arg 2; whnf
  conv => arg 4; dsimp only
  generalize hn : l.length = n at *
  have HN := hid hn
  clear hn
  go_loopw [115] (fun i wr => ∃ k : Nat, k ≤ n ∧ i = .int .i64 (k : Int) ∧ Hid (Below w.heap.size w wr ∧ firstW wrongCh l = firstW wrongCh (l.drop k))) (fun i _ => n - (intOf i).toNat)
  case atStart => exact ⟨0, by omega, rfl, hid ⟨Below.refl _ _, rfl⟩⟩
  case round =>
    obtain ⟨k, hk, rfl, HT⟩ := hrel
    have HBW := hid HT.out.1
    have HUP := hid HT.out.2
    clear HT
    have hszw := HBW.out.size
    by_cases hlt : k < n
    · obtain ⟨x, hx⟩ : ∃ x, l[k]? = some x := ⟨l[k]'(by rw [HN.out]; exact hlt), List.getElem?_eq_getElem _⟩
      have hlt' : (k : Int) < (n : Int) := by omega
      obtain ⟨b, o, rfl, hcells⟩ := hv.out.spot (by omega)
      obtain ⟨hbN, r, hr, hc⟩ := hcells k x hx
      obtain rfl := hr
      have hbl : b < w.heap.size := by omega
      have f0 := (HBW.out.cell (p := ⟨b, o + k * 7 + 0, none⟩) hbl).trans (hc 0 _ rfl)
      have f1 := (HBW.out.cell (p := ⟨b, o + k * 7 + 1, none⟩) hbl).trans (hc 1 _ rfl)
      have f2 := (HBW.out.cell (p := ⟨b, o + k * 7 + 2, none⟩) hbl).trans (hc 2 _ rfl)
      have f3 := (HBW.out.cell (p := ⟨b, o + k * 7 + 3, none⟩) hbl).trans (hc 3 _ rfl)
      have f4 := (HBW.out.cell (p := ⟨b, o + k * 7 + 4, none⟩) hbl).trans (hc 4 _ rfl)
      have f5 := (HBW.out.cell (p := ⟨b, o + k * 7 + 5, none⟩) hbl).trans (hc 5 _ rfl)
      have f6 := (HBW.out.cell (p := ⟨b, o + k * 7 + 6, none⟩) hbl).trans (hc 6 _ rfl)
      simp only [Nat.add_zero] at f0
      obtain ⟨w2, hw2⟩ : ∃ w2, wr.alloc (.cells #[.int .i64 x.state, .bool x.ordered, .int .i64 x.conn, .int .i64 x.ochan, .int .i64 x.send, .int .i64 x.recv, .int .i64 x.ack] 105) = w2 := ⟨_, rfl⟩
      have hbr2 : Below wr.heap.size wr w2 := by rw [← hw2]; exact (Below.refl _ _).alloc (Nat.le_refl _) _
      have HB2 := hid (HBW.out.trans (hbr2.mono hszw))
      have hrow2 : Row w2 wr.heap.size 105 [.int .i64 x.state, .bool x.ordered, .int .i64 x.conn, .int .i64 x.ochan, .int .i64 x.send, .int .i64 x.recv, .int .i64 x.ack] := by rw [← hw2]; exact Row.new _ _ _
      obtain ⟨w3, hw3⟩ : ∃ w3, w2.alloc (.cells #[.int .i64 x.conn] 3) = w3 := ⟨_, rfl⟩
      have hb3 : Below w2.heap.size w2 w3 := by rw [← hw3]; exact (Below.refl _ _).alloc (Nat.le_refl _) _
      have HB3 := hid (HB2.out.trans (hb3.mono HB2.out.size))
      have hrow3 := hrow2.below hb3 hrow2.lt
      have HF0 := hid (refFrom_any 0 [x.conn] w2.heap.size 1 w3 (by rw [← hw3]; exact Row.new _ _ _) rfl (by decide))
      have HW3 := hid hw3
      obtain ⟨w4, hw4⟩ : ∃ w4, w3.alloc (.cells #[.int .i64 x.ochan] 3) = w4 := ⟨_, rfl⟩
      have hb4 : Below w3.heap.size w3 w4 := by rw [← hw4]; exact (Below.refl _ _).alloc (Nat.le_refl _) _
      have HB4 := hid (HB3.out.trans (hb4.mono HB3.out.size))
      have hrow4 := hrow3.below hb4 hrow3.lt
      have HF1 := hid (refFrom_any (-1) [x.ochan] w3.heap.size 1 w4 (by rw [← hw4]; exact Row.new _ _ _) rfl (by decide))
      have HW4 := hid hw4
      obtain ⟨w5, hw5⟩ : ∃ w5, w4.alloc (.cells #[.int .i64 x.send, .int .i64 x.recv, .int .i64 x.ack] 3) = w5 := ⟨_, rfl⟩
      have hb5 : Below w4.heap.size w4 w5 := by rw [← hw5]; exact (Below.refl _ _).alloc (Nat.le_refl _) _
      have HB5 := hid (HB4.out.trans (hb5.mono HB4.out.size))
      have hrow5 := hrow4.below hb5 hrow4.lt
      have HF2 := hid (refFrom_any 1 [x.send, x.recv, x.ack] w4.heap.size 3 w5 (by rw [← hw5]; exact Row.new _ _ _) rfl (by decide))
      have HW5 := hid hw5
      simp only [List.all_cons, List.all_nil, Bool.and_true] at HF0 HF1 HF2
      have q0 : w2.cell? ⟨wr.heap.size, 0, none⟩ = some (.int .i64 x.state) := hrow2.cell 0
      have q2 : w2.cell? ⟨wr.heap.size, 2, none⟩ = some (.int .i64 x.conn) := hrow2.cell 2
      have q1_3 : w3.cell? ⟨wr.heap.size, 3, none⟩ = some (.int .i64 x.ochan) := hrow3.cell 3
      have q2_4 : w4.cell? ⟨wr.heap.size, 4, none⟩ = some (.int .i64 x.send) := hrow4.cell 4
      have q2_5 : w4.cell? ⟨wr.heap.size, 5, none⟩ = some (.int .i64 x.recv) := hrow4.cell 5
      have q2_6 : w4.cell? ⟨wr.heap.size, 6, none⟩ = some (.int .i64 x.ack) := hrow4.cell 6
      have HST := hid (firstW_at wrongCh l k x hx)
      have HW2 := hid hw2
      clear hbr2 hrow2 hw2 hcells hc hx hb3 hw3 hrow3 hb4 hw4 hrow4 hb5 hw5 hrow5
      by_cases q0' : x.state < 1
      · have e0 : decide (x.state < 1) = true := by simpa using q0'
        have HV2 := hid (show firstW wrongCh l = 1 by rw [HUP.out, HST.out]; unfold wrongCh; simp [q0'])
        clear q0'
        go_upto_region 29 with fail
        rw [HW2.out]
        go_wp2
        rw [← HV2.out]
        apply hRet.out
        · exact HB2.out
        · rw [HV2.out]; decide
      · have e0 : decide (x.state < 1) = false := by simpa using q0'
        by_cases q1' : 4 < x.state
        · have e1 : decide (4 < x.state) = true := by simpa using q1'
          have HV2 := hid (show firstW wrongCh l = 1 by rw [HUP.out, HST.out]; unfold wrongCh; simp [q0', q1'])
          clear q0' q1'
          go_upto_region 29 with fail
          rw [HW2.out]
          go_wp2
          rw [← HV2.out]
          apply hRet.out
          · exact HB2.out
          · rw [HV2.out]; decide
        · have e1 : decide (4 < x.state) = false := by simpa using q1'
          cases z0_0 : fromB 0 x.conn with
          | false =>
            have HV2 := hid (show firstW wrongCh l = 3 by rw [HUP.out, HST.out]; unfold wrongCh; simp [q0', q1', z0_0])
            rw [show fromB 0 x.conn = false by rw [z0_0]; first | done | rfl] at HF0
            clear q0' q1' z0_0
            go_upto_region 29 with fail
            rw [HW2.out]
            go_wp2_with fail
            rw [HW3.out]
            refine HF0.out.mono ?_
            rintro e w3' ⟨rfl, h3'⟩
            rw [h3']
            clear h3' w3'
            go_wp2
            rw [← HV2.out]
            apply hRet.out
            · exact HB3.out
            · rw [HV2.out]; decide
          | true =>
            cases z1_0 : fromB (-1) x.ochan with
            | false =>
              have HV2 := hid (show firstW wrongCh l = 3 by rw [HUP.out, HST.out]; unfold wrongCh; simp [q0', q1', z0_0, z1_0])
              rw [show fromB 0 x.conn = true by rw [z0_0]; first | done | rfl] at HF0
              rw [show fromB (-1) x.ochan = false by rw [z1_0]; first | done | rfl] at HF1
              clear q0' q1' z0_0 z1_0
              go_upto_region 29 with fail
              rw [HW2.out]
              go_wp2_with fail
              rw [HW3.out]
              refine HF0.out.mono ?_
              rintro e w3' ⟨rfl, h3'⟩
              rw [h3']
              clear h3' w3'
              go_wp2_with fail
              rw [HW4.out]
              refine HF1.out.mono ?_
              rintro e w4' ⟨rfl, h4'⟩
              rw [h4']
              clear h4' w4'
              go_wp2
              rw [← HV2.out]
              apply hRet.out
              · exact HB4.out
              · rw [HV2.out]; decide
            | true =>
              cases z2_0 : fromB 1 x.send with
              | false =>
                have HV2 := hid (show firstW wrongCh l = 3 by rw [HUP.out, HST.out]; unfold wrongCh; simp [q0', q1', z0_0, z1_0, z2_0])
                rw [show fromB 0 x.conn = true by rw [z0_0]; first | done | rfl] at HF0
                rw [show fromB (-1) x.ochan = true by rw [z1_0]; first | done | rfl] at HF1
                rw [show (fromB 1 x.send && (fromB 1 x.recv && fromB 1 x.ack)) = false by rw [z2_0]; first | done | rfl] at HF2
                clear q0' q1' z0_0 z1_0 z2_0
                go_upto_region 29 with fail
                rw [HW2.out]
                go_wp2_with fail
                rw [HW3.out]
                refine HF0.out.mono ?_
                rintro e w3' ⟨rfl, h3'⟩
                rw [h3']
                clear h3' w3'
                go_wp2_with fail
                rw [HW4.out]
                refine HF1.out.mono ?_
                rintro e w4' ⟨rfl, h4'⟩
                rw [h4']
                clear h4' w4'
                go_wp2_with fail
                rw [HW5.out]
                refine HF2.out.mono ?_
                rintro e w5' ⟨rfl, h5'⟩
                rw [h5']
                clear h5' w5'
                go_wp2
                rw [← HV2.out]
                apply hRet.out
                · exact HB5.out
                · rw [HV2.out]; decide
              | true =>
                cases z2_1 : fromB 1 x.recv with
                | false =>
                  have HV2 := hid (show firstW wrongCh l = 3 by rw [HUP.out, HST.out]; unfold wrongCh; simp [q0', q1', z0_0, z1_0, z2_0, z2_1])
                  rw [show fromB 0 x.conn = true by rw [z0_0]; first | done | rfl] at HF0
                  rw [show fromB (-1) x.ochan = true by rw [z1_0]; first | done | rfl] at HF1
                  rw [show (fromB 1 x.send && (fromB 1 x.recv && fromB 1 x.ack)) = false by rw [z2_0, z2_1]; first | done | rfl] at HF2
                  clear q0' q1' z0_0 z1_0 z2_0 z2_1
                  go_upto_region 29 with fail
                  rw [HW2.out]
                  go_wp2_with fail
                  rw [HW3.out]
                  refine HF0.out.mono ?_
                  rintro e w3' ⟨rfl, h3'⟩
                  rw [h3']
                  clear h3' w3'
                  go_wp2_with fail
                  rw [HW4.out]
                  refine HF1.out.mono ?_
                  rintro e w4' ⟨rfl, h4'⟩
                  rw [h4']
                  clear h4' w4'
                  go_wp2_with fail
                  rw [HW5.out]
                  refine HF2.out.mono ?_
                  rintro e w5' ⟨rfl, h5'⟩
                  rw [h5']
                  clear h5' w5'
                  go_wp2
                  rw [← HV2.out]
                  apply hRet.out
                  · exact HB5.out
                  · rw [HV2.out]; decide
                | true =>
                  cases z2_2 : fromB 1 x.ack with
                  | false =>
                    have HV2 := hid (show firstW wrongCh l = 3 by rw [HUP.out, HST.out]; unfold wrongCh; simp [q0', q1', z0_0, z1_0, z2_0, z2_1, z2_2])
                    rw [show fromB 0 x.conn = true by rw [z0_0]; first | done | rfl] at HF0
                    rw [show fromB (-1) x.ochan = true by rw [z1_0]; first | done | rfl] at HF1
                    rw [show (fromB 1 x.send && (fromB 1 x.recv && fromB 1 x.ack)) = false by rw [z2_0, z2_1, z2_2]; first | done | rfl] at HF2
                    clear q0' q1' z0_0 z1_0 z2_0 z2_1 z2_2
                    go_upto_region 29 with fail
                    rw [HW2.out]
                    go_wp2_with fail
                    rw [HW3.out]
                    refine HF0.out.mono ?_
                    rintro e w3' ⟨rfl, h3'⟩
                    rw [h3']
                    clear h3' w3'
                    go_wp2_with fail
                    rw [HW4.out]
                    refine HF1.out.mono ?_
                    rintro e w4' ⟨rfl, h4'⟩
                    rw [h4']
                    clear h4' w4'
                    go_wp2_with fail
                    rw [HW5.out]
                    refine HF2.out.mono ?_
                    rintro e w5' ⟨rfl, h5'⟩
                    rw [h5']
                    clear h5' w5'
                    go_wp2
                    rw [← HV2.out]
                    apply hRet.out
                    · exact HB5.out
                    · rw [HV2.out]; decide
                  | true =>
                    have HV2 := hid (show firstW wrongCh l = firstW wrongCh (l.drop (k + 1)) by rw [HUP.out, HST.out]; unfold wrongCh; simp [q0', q1', z0_0, z1_0, z2_0, z2_1, z2_2])
                    rw [show fromB 0 x.conn = true by rw [z0_0]; first | done | rfl] at HF0
                    rw [show fromB (-1) x.ochan = true by rw [z1_0]; first | done | rfl] at HF1
                    rw [show (fromB 1 x.send && (fromB 1 x.recv && fromB 1 x.ack)) = true by rw [z2_0, z2_1, z2_2]; first | done | rfl] at HF2
                    clear q0' q1' z0_0 z1_0 z2_0 z2_1 z2_2
                    go_upto_region 29 with fail
                    rw [HW2.out]
                    go_wp2_with fail
                    rw [HW3.out]
                    refine HF0.out.mono ?_
                    rintro e w3' ⟨rfl, h3'⟩
                    rw [h3']
                    clear h3' w3'
                    go_wp2_with fail
                    rw [HW4.out]
                    refine HF1.out.mono ?_
                    rintro e w4' ⟨rfl, h4'⟩
                    rw [h4']
                    clear h4' w4'
                    go_wp2_with fail
                    rw [HW5.out]
                    refine HF2.out.mono ?_
                    rintro e w5' ⟨rfl, h5'⟩
                    rw [h5']
                    clear h5' w5'
                    go_wp2
                    go_roundw
                    case rel => exact ⟨k + 1, by omega, by go_num, hid ⟨HB5.out, HV2.out⟩⟩
                    case measure => simp [intOf]; omega
    · have hge : decide ((k : Int) < (n : Int)) = false := by simp; omega
      have HE := hid (show firstW wrongCh l = 0 by rw [HUP.out, List.drop_eq_nil_of_le (by rw [HN.out]; omega)]; rfl)
      go_wp2
      apply hGo.out
      · exact HBW.out
      · exact HE.out
end Go.Proofs.YtnoaohlajllngaaDoor
