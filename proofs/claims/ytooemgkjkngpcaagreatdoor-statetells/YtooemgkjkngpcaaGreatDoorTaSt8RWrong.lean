/-
  The document's Wrong: what is wrong with a state.
-/
import Derived.Test.YtooemgkjkngpcaaGreatDoorTaSt8RMarks
import Derived.Test.YtooemgkjkngpcaaGreatDoorTaRef1All
import Derived.Test.YtooemgkjkngpcaaGreatDoorTaSt8RW2
import Derived.Test.YtooemgkjkngpcaaGreatDoorTaSt8RW3
import Derived.Test.YtooemgkjkngpcaaGreatDoorTaSt8RW4
import Derived.Test.YtooemgkjkngpcaaGreatDoorTaSt8RW6
import Derived.Test.YtooemgkjkngpcaaGreatDoorTaStWrong
import Derived.Test.YtooemgkjkngpcaaGreatDoorTaClRAsk
import Derived.BigQuiet
import Derived.Deep.RegionHeld3
import Derived.Deep.RegionWith
namespace Go.Proofs.YtooemgkjkngpcaaGreatDoor
open Go.RowKit

set_option maxRecDepth 1000000 in
set_option maxHeartbeats 8000000 in
theorem wrMany_block {s0 s1 s2 s3 s4 s5 s6 s7 s8 s9 s10 s11 s12 s13 s14 s15 s16 s17 s18 s19 s20 s21 s22 s23 s24 s25 s26 s27 s28 s29 s30 s31 s32 s33 s34 s35 s36 s37 s38 s39 s40 s41 s42 s43 s44 s45 s46 s47 s48 s49 s50 s51 s52 s53 s54 s55 s56 s60 s61 s62 s63 s64 s65 s66 s67 s68 s69 s70 s71 s72 s73 s74 s75 s76 s77 s78 s79 s80 s81 s82 s83 s84 s85 s86 s87 s88 s89 s90 s91 s92 s93 s94 s95 s96 s97 s98 s99 s100 s101 s102 s103 s104 s105 s106 s107 s108 s109 s110 s111 s112 s113 s114 s115 s116 s117 s118 s119 s120 s121 s122 s123 s124 s125 s126 s127 s128 s129 s130 s131 s132 s133 s134 s135 s136 s137 s138 s139 s140 s141 s142 s143 s144 s145 s146 s147 s148 s149 s150 s151 s152 s153 s154 s155 s156 s157 s158 s159 s160 s161 s162 s163 s164 s165 s166 s167 s168 s169 s170 s171 s172 s173 s174 s175 s176 s177 s178 s179 s180 s181 s182 s183 s184 s185 s186 s187 s188 s189 s190 s191 s192 s193 s194 s195 s196 s197 s198 s199 s200 s201 s202 s203 s204 s205 s206 s207 s208 s209 s210 s211 s212 s213 s214 s215 s216 s217 s218 s219 s220 s221 s222 s223 s224 s225 s226 s227 s228 s229 : Value} (ps : List (Int × Int)) (g : Nat) (w : World) (hg : g < w.heap.size) (hlen : Hid (ps.length = 7)) (hc : Hid (∀ k p, ps[k]? = some p → w.cell? ⟨g, k * 2, none⟩ = some (.int .i64 p.1) ∧ w.cell? ⟨g, k * 2 + 1, none⟩ = some (.int .i64 p.2))) (Q : Exit → Act → World → Prop)
    (hGo : Hid (∀ (u2 u4 u59 u60 u61 u62 u63 u64 u65 u66 u67 u68 : Value) (w' : World), Below w.heap.size w w' → (∀ p ∈ ps, ¬ p.2 < p.1) → Q .normal ⟨#[s0, s1, u2, s3, u4, s5, s6, s7, s8, s9, s10, s11, s12, s13, s14, s15, s16, s17, s18, s19, s20, s21, s22, s23, s24, s25, s26, s27, s28, s29, s30, s31, s32, s33, s34, s35, s36, s37, s38, s39, s40, s41, s42, s43, s44, s45, s46, s47, s48, s49, s50, s51, s52, s53, s54, s55, s56, .slice (some ⟨g, 0, none⟩) 7 7, .int .i64 7, u59, u60, u61, u62, u63, u64, u65, u66, u67, u68, s69, s70, s71, s72, s73, s74, s75, s76, s77, s78, s79, s80, s81, s82, s83, s84, s85, s86, s87, s88, s89, s90, s91, s92, s93, s94, s95, s96, s97, s98, s99, s100, s101, s102, s103, s104, s105, s106, s107, s108, s109, s110, s111, s112, s113, s114, s115, s116, s117, s118, s119, s120, s121, s122, s123, s124, s125, s126, s127, s128, s129, s130, s131, s132, s133, s134, s135, s136, s137, s138, s139, s140, s141, s142, s143, s144, s145, s146, s147, s148, s149, s150, s151, s152, s153, s154, s155, s156, s157, s158, s159, s160, s161, s162, s163, s164, s165, s166, s167, s168, s169, s170, s171, s172, s173, s174, s175, s176, s177, s178, s179, s180, s181, s182, s183, s184, s185, s186, s187, s188, s189, s190, s191, s192, s193, s194, s195, s196, s197, s198, s199, s200, s201, s202, s203, s204, s205, s206, s207, s208, s209, s210, s211, s212, s213, s214, s215, s216, s217, s218, s219, s220, s221, s222, s223, s224, s225, s226, s227, s228, s229], []⟩ w'))
    (hRet : Hid (∀ (u4 u59 u60 u61 u62 u63 u64 u65 u66 u67 u68 : Value) (w' : World), Below w.heap.size w w' → (∃ p ∈ ps, p.2 < p.1) → Q .ret ⟨#[s0, s1, .int .i64 5, s3, u4, s5, s6, s7, s8, s9, s10, s11, s12, s13, s14, s15, s16, s17, s18, s19, s20, s21, s22, s23, s24, s25, s26, s27, s28, s29, s30, s31, s32, s33, s34, s35, s36, s37, s38, s39, s40, s41, s42, s43, s44, s45, s46, s47, s48, s49, s50, s51, s52, s53, s54, s55, s56, .slice (some ⟨g, 0, none⟩) 7 7, .int .i64 7, u59, u60, u61, u62, u63, u64, u65, u66, u67, u68, s69, s70, s71, s72, s73, s74, s75, s76, s77, s78, s79, s80, s81, s82, s83, s84, s85, s86, s87, s88, s89, s90, s91, s92, s93, s94, s95, s96, s97, s98, s99, s100, s101, s102, s103, s104, s105, s106, s107, s108, s109, s110, s111, s112, s113, s114, s115, s116, s117, s118, s119, s120, s121, s122, s123, s124, s125, s126, s127, s128, s129, s130, s131, s132, s133, s134, s135, s136, s137, s138, s139, s140, s141, s142, s143, s144, s145, s146, s147, s148, s149, s150, s151, s152, s153, s154, s155, s156, s157, s158, s159, s160, s161, s162, s163, s164, s165, s166, s167, s168, s169, s170, s171, s172, s173, s174, s175, s176, s177, s178, s179, s180, s181, s182, s183, s184, s185, s186, s187, s188, s189, s190, s191, s192, s193, s194, s195, s196, s197, s198, s199, s200, s201, s202, s203, s204, s205, s206, s207, s208, s209, s210, s211, s212, s213, s214, s215, s216, s217, s218, s219, s220, s221, s222, s223, s224, s225, s226, s227, s228, s229], []⟩ w')) :
    Code.wp Tryz.prog ((Tryz.f8.body.bind (inBlock 0)).getD .skip) (Exit.inBlock 0 Q) ⟨#[s0, s1, s2, s3, s4, s5, s6, s7, s8, s9, s10, s11, s12, s13, s14, s15, s16, s17, s18, s19, s20, s21, s22, s23, s24, s25, s26, s27, s28, s29, s30, s31, s32, s33, s34, s35, s36, s37, s38, s39, s40, s41, s42, s43, s44, s45, s46, s47, s48, s49, s50, s51, s52, s53, s54, s55, s56, .slice (some ⟨g, 0, none⟩) 7 7, .int .i64 7, .int .i64 0, s60, s61, s62, s63, s64, s65, s66, s67, s68, s69, s70, s71, s72, s73, s74, s75, s76, s77, s78, s79, s80, s81, s82, s83, s84, s85, s86, s87, s88, s89, s90, s91, s92, s93, s94, s95, s96, s97, s98, s99, s100, s101, s102, s103, s104, s105, s106, s107, s108, s109, s110, s111, s112, s113, s114, s115, s116, s117, s118, s119, s120, s121, s122, s123, s124, s125, s126, s127, s128, s129, s130, s131, s132, s133, s134, s135, s136, s137, s138, s139, s140, s141, s142, s143, s144, s145, s146, s147, s148, s149, s150, s151, s152, s153, s154, s155, s156, s157, s158, s159, s160, s161, s162, s163, s164, s165, s166, s167, s168, s169, s170, s171, s172, s173, s174, s175, s176, s177, s178, s179, s180, s181, s182, s183, s184, s185, s186, s187, s188, s189, s190, s191, s192, s193, s194, s195, s196, s197, s198, s199, s200, s201, s202, s203, s204, s205, s206, s207, s208, s209, s210, s211, s212, s213, s214, s215, s216, s217, s218, s219, s220, s221, s222, s223, s224, s225, s226, s227, s228, s229], []⟩ w := by
  conv => arg 2; whnf
  conv => arg 4; dsimp only
  go_loopw [59] (fun i wr => ∃ k : Nat, k ≤ 7 ∧ i = .int .i64 (k : Int) ∧ Hid (Below w.heap.size w wr ∧ ∀ j p, j < k → ps[j]? = some p → ¬ p.2 < p.1)) (fun i _ => 7 - (intOf i).toNat)
  case atStart => exact ⟨0, by omega, rfl, hid ⟨Below.refl _ _, fun j p h => by omega⟩⟩
  case round =>
    obtain ⟨k, hk, rfl, HT⟩ := hrel
    have HBW := hid HT.out.1
    have HUP := hid HT.out.2
    clear HT
    have hszw := HBW.out.size
    by_cases hlt : k < 7
    · obtain ⟨p, hp⟩ : ∃ p, ps[k]? = some p := ⟨ps[k]'(by rw [hlen.out]; exact hlt), List.getElem?_eq_getElem _⟩
      obtain ⟨p0, p1⟩ := p
      have f0 := (HBW.out.cell (p := ⟨g, k * 2, none⟩) hg).trans (hc.out k _ hp).1
      have f1 := (HBW.out.cell (p := ⟨g, k * 2 + 1, none⟩) hg).trans (hc.out k _ hp).2
      have hlt' : (k : Int) < 7 := by omega
      obtain ⟨w2, hw2⟩ : ∃ w2, wr.alloc (.cells #[.int .i64 p0, .int .i64 p1] 91) = w2 := ⟨_, rfl⟩
      have hbr2 : Below wr.heap.size wr w2 := by rw [← hw2]; exact (Below.refl _ _).alloc (Nat.le_refl _) _
      have HB2 := hid (HBW.out.trans (hbr2.mono hszw))
      have hrow2 : Row w2 wr.heap.size 91 [.int .i64 p0, .int .i64 p1] := by rw [← hw2]; exact Row.new _ _ _
      have q0 : w2.cell? ⟨wr.heap.size, 0, none⟩ = some (.int .i64 p0) := hrow2.cell 0
      have q1 : w2.cell? ⟨wr.heap.size, 1, none⟩ = some (.int .i64 p1) := hrow2.cell 1
      have HP := hid hp
      have HW2 := hid hw2
      clear hbr2 hrow2 hw2 hp
      by_cases hz : p1 < p0
      · have e0 : decide (p1 < p0) = true := by simpa using hz
        have HBAD := hid (show ∃ p ∈ ps, p.2 < p.1 from ⟨_, List.mem_of_getElem? HP.out, hz⟩)
        clear hz
        go_upto_region 8 with fail
        rw [HW2.out]
        go_wp2
        apply hRet.out
        · exact HB2.out
        · exact HBAD.out
      · have e0 : decide (p1 < p0) = false := by simpa using hz
        have HOK := hid hz
        clear hz
        go_upto_region 8 with fail
        rw [HW2.out]
        go_wp2
        go_roundw
        case rel => exact ⟨k + 1, by omega, by go_num, hid ⟨HB2.out, fun j p hj hp => by
          by_cases e : j = k
          · subst e
            rw [HP.out] at hp
            cases hp
            exact HOK.out
          · exact HUP.out j p (by omega) hp⟩⟩
        case measure => simp [intOf]; omega
    · obtain rfl : k = 7 := by omega
      go_wp2
      apply hGo.out
      · exact HBW.out
      · intro p hp
        obtain ⟨j, hj⟩ := List.getElem?_of_mem hp
        have := (List.getElem?_eq_some_iff.1 hj).1
        exact HUP.out j p (by rw [← hlen.out]; exact this) hj
end Go.Proofs.YtooemgkjkngpcaaGreatDoor
namespace Go.Proofs.YtooemgkjkngpcaaGreatDoor
open Go.RowKit

set_option maxRecDepth 1000000 in
set_option maxHeartbeats 8000000 in
theorem wrMk_block {s0 s1 s2 s3 s4 s5 s6 s7 s8 s9 s10 s11 s12 s13 s14 s15 s16 s17 s18 s19 s20 s21 s22 s23 s24 s25 s26 s27 s28 s29 s30 s31 s32 s33 s34 s35 s36 s37 s38 s39 s40 s41 s42 s43 s44 s45 s46 s47 s48 s49 s50 s51 s52 s53 s54 s55 s56 s57 s58 s59 s60 s61 s62 s63 s64 s65 s66 s67 s68 s69 s70 s71 s72 s73 s74 s75 s76 s77 s78 s79 s80 s81 s82 s83 s84 s85 s86 s87 s88 s89 s90 s91 s92 s93 s94 s95 s96 s97 s98 s99 s100 s101 s102 s103 s104 s105 s106 s107 s108 s109 s110 s111 s112 s113 s114 s115 s116 s117 s118 s119 s120 s121 s122 s123 s124 s125 s126 s127 s128 s129 s130 s131 s132 s133 s134 s135 s136 s137 s138 s139 s140 s141 s142 s143 s144 s145 s146 s147 s148 s149 s150 s151 s152 s153 s154 s155 s156 s160 s161 s162 s163 s164 s165 s166 s167 s168 s169 s170 s171 s172 s173 s174 s175 s176 s177 s178 s179 s180 s181 s182 s183 s184 s185 s186 s187 s188 s189 s190 s191 s192 s193 s194 s195 s196 s197 s198 s199 s200 s201 s202 s203 s204 s205 s206 s207 s208 s209 s210 s211 s212 s213 s214 s215 s216 s217 s218 s219 s220 s221 s222 s223 s224 s225 s226 s227 s228 s229 : Value} (l : List (List Mk)) (g N : Nat) (w : World) (hN : N ≤ w.heap.size) (hg : g < w.heap.size) (hlen : Hid (l.length = 3)) (hc : Hid (∀ k x, l[k]? = some x → ∃ o c, w.cell? ⟨g, k, none⟩ = some (.slice o x.length c) ∧ Many MkR 3 w N (.slice o x.length c) x ∧ x.length < 2305843009213693952)) (Q : Exit → Act → World → Prop)
    (hGo : Hid (∀ (u2 u13 u14 u159 u160 u161 u162 u163 u164 u165 u166 u167 u168 : Value) (w' : World), Below w.heap.size w w' → firstW marksN l = 0 → Q .normal ⟨#[s0, s1, u2, s3, s4, s5, s6, s7, s8, s9, s10, s11, s12, u13, u14, s15, s16, s17, s18, s19, s20, s21, s22, s23, s24, s25, s26, s27, s28, s29, s30, s31, s32, s33, s34, s35, s36, s37, s38, s39, s40, s41, s42, s43, s44, s45, s46, s47, s48, s49, s50, s51, s52, s53, s54, s55, s56, s57, s58, s59, s60, s61, s62, s63, s64, s65, s66, s67, s68, s69, s70, s71, s72, s73, s74, s75, s76, s77, s78, s79, s80, s81, s82, s83, s84, s85, s86, s87, s88, s89, s90, s91, s92, s93, s94, s95, s96, s97, s98, s99, s100, s101, s102, s103, s104, s105, s106, s107, s108, s109, s110, s111, s112, s113, s114, s115, s116, s117, s118, s119, s120, s121, s122, s123, s124, s125, s126, s127, s128, s129, s130, s131, s132, s133, s134, s135, s136, s137, s138, s139, s140, s141, s142, s143, s144, s145, s146, s147, s148, s149, s150, s151, s152, s153, s154, s155, s156, .slice (some ⟨g, 0, none⟩) 3 3, .int .i64 3, u159, u160, u161, u162, u163, u164, u165, u166, u167, u168, s169, s170, s171, s172, s173, s174, s175, s176, s177, s178, s179, s180, s181, s182, s183, s184, s185, s186, s187, s188, s189, s190, s191, s192, s193, s194, s195, s196, s197, s198, s199, s200, s201, s202, s203, s204, s205, s206, s207, s208, s209, s210, s211, s212, s213, s214, s215, s216, s217, s218, s219, s220, s221, s222, s223, s224, s225, s226, s227, s228, s229], []⟩ w'))
    (hRet : Hid (∀ (u13 u14 u159 u160 u161 u162 u163 u164 u165 u166 u167 u168 : Value) (w' : World), Below w.heap.size w w' → firstW marksN l ≠ 0 → Q .ret ⟨#[s0, s1, .int .i64 (firstW marksN l), s3, s4, s5, s6, s7, s8, s9, s10, s11, s12, u13, u14, s15, s16, s17, s18, s19, s20, s21, s22, s23, s24, s25, s26, s27, s28, s29, s30, s31, s32, s33, s34, s35, s36, s37, s38, s39, s40, s41, s42, s43, s44, s45, s46, s47, s48, s49, s50, s51, s52, s53, s54, s55, s56, s57, s58, s59, s60, s61, s62, s63, s64, s65, s66, s67, s68, s69, s70, s71, s72, s73, s74, s75, s76, s77, s78, s79, s80, s81, s82, s83, s84, s85, s86, s87, s88, s89, s90, s91, s92, s93, s94, s95, s96, s97, s98, s99, s100, s101, s102, s103, s104, s105, s106, s107, s108, s109, s110, s111, s112, s113, s114, s115, s116, s117, s118, s119, s120, s121, s122, s123, s124, s125, s126, s127, s128, s129, s130, s131, s132, s133, s134, s135, s136, s137, s138, s139, s140, s141, s142, s143, s144, s145, s146, s147, s148, s149, s150, s151, s152, s153, s154, s155, s156, .slice (some ⟨g, 0, none⟩) 3 3, .int .i64 3, u159, u160, u161, u162, u163, u164, u165, u166, u167, u168, s169, s170, s171, s172, s173, s174, s175, s176, s177, s178, s179, s180, s181, s182, s183, s184, s185, s186, s187, s188, s189, s190, s191, s192, s193, s194, s195, s196, s197, s198, s199, s200, s201, s202, s203, s204, s205, s206, s207, s208, s209, s210, s211, s212, s213, s214, s215, s216, s217, s218, s219, s220, s221, s222, s223, s224, s225, s226, s227, s228, s229], []⟩ w')) :
    Code.wp Tryz.prog ((Tryz.f8.body.bind (inBlock 8)).getD .skip) (Exit.inBlock 8 Q) ⟨#[s0, s1, s2, s3, s4, s5, s6, s7, s8, s9, s10, s11, s12, s13, s14, s15, s16, s17, s18, s19, s20, s21, s22, s23, s24, s25, s26, s27, s28, s29, s30, s31, s32, s33, s34, s35, s36, s37, s38, s39, s40, s41, s42, s43, s44, s45, s46, s47, s48, s49, s50, s51, s52, s53, s54, s55, s56, s57, s58, s59, s60, s61, s62, s63, s64, s65, s66, s67, s68, s69, s70, s71, s72, s73, s74, s75, s76, s77, s78, s79, s80, s81, s82, s83, s84, s85, s86, s87, s88, s89, s90, s91, s92, s93, s94, s95, s96, s97, s98, s99, s100, s101, s102, s103, s104, s105, s106, s107, s108, s109, s110, s111, s112, s113, s114, s115, s116, s117, s118, s119, s120, s121, s122, s123, s124, s125, s126, s127, s128, s129, s130, s131, s132, s133, s134, s135, s136, s137, s138, s139, s140, s141, s142, s143, s144, s145, s146, s147, s148, s149, s150, s151, s152, s153, s154, s155, s156, .slice (some ⟨g, 0, none⟩) 3 3, .int .i64 3, .int .i64 0, s160, s161, s162, s163, s164, s165, s166, s167, s168, s169, s170, s171, s172, s173, s174, s175, s176, s177, s178, s179, s180, s181, s182, s183, s184, s185, s186, s187, s188, s189, s190, s191, s192, s193, s194, s195, s196, s197, s198, s199, s200, s201, s202, s203, s204, s205, s206, s207, s208, s209, s210, s211, s212, s213, s214, s215, s216, s217, s218, s219, s220, s221, s222, s223, s224, s225, s226, s227, s228, s229], []⟩ w := by
  conv => arg 2; whnf
  conv => arg 4; dsimp only
  have HN := hlen
  go_loopw [159] (fun i wr => ∃ k : Nat, k ≤ 3 ∧ i = .int .i64 (k : Int) ∧ Hid (Below w.heap.size w wr ∧ firstW marksN l = firstW marksN (l.drop k))) (fun i _ => 3 - (intOf i).toNat)
  case atStart => exact ⟨0, by omega, rfl, hid ⟨Below.refl _ _, rfl⟩⟩
  case round =>
    obtain ⟨k, hk, rfl, HT⟩ := hrel
    have HBW := hid HT.out.1
    have HUP := hid HT.out.2
    clear HT
    have hszw := HBW.out.size
    by_cases hlt : k < 3
    · obtain ⟨x, hx⟩ : ∃ x, l[k]? = some x := ⟨l[k]'(by rw [HN.out]; exact hlt), List.getElem?_eq_getElem _⟩
      have hlt' : (k : Int) < 3 := by omega
      obtain ⟨ob, cb, hcell, hm, hlx⟩ := hc.out k x hx
      have f0 := (HBW.out.cell (p := ⟨g, k, none⟩) hg).trans hcell
      have HCL := hid (refMarks_any x _ N wr (Nat.le_trans hN hszw) (hm.below MkR.stays (HBW.out.mono hN)) hlx)
      have HST := hid (firstW_at marksN l k x hx)
      clear hx hm hlx hcell
      by_cases hz : marksN x = 0
      · have HZ := hid hz
        clear hz
        go_wp2_with fail
        refine HCL.out.mono ?_
        rintro e w3 ⟨rfl, hb3⟩
        rw [HZ.out]
        have HB3 := hid (HBW.out.trans (hb3.mono hszw))
        have HV2 := hid (show firstW marksN l = firstW marksN (l.drop (k + 1)) by rw [HUP.out, HST.out, if_neg (by rw [HZ.out]; simp)])
        clear hb3
        go_wp2
        go_roundw
        case rel => exact ⟨k + 1, by omega, by go_num, hid ⟨HB3.out, HV2.out⟩⟩
        case measure => simp [intOf]; omega
      · have e0 : (marksN x != 0) = true := by simpa using hz
        have HV2 := hid (show firstW marksN l = marksN x by rw [HUP.out, HST.out, if_pos hz])
        have HNZ := hid hz
        clear hz
        generalize hzz : marksN x = z at *
        clear hzz
        go_wp2_with fail
        refine HCL.out.mono ?_
        rintro e w3 ⟨rfl, hb3⟩
        have HB3 := hid (HBW.out.trans (hb3.mono hszw))
        clear hb3
        go_wp2
        rw [← HV2.out]
        apply hRet.out
        · exact HB3.out
        · rw [HV2.out]; exact HNZ.out
    · obtain rfl : k = 3 := by omega
      have HE := hid (show firstW marksN l = 0 by rw [HUP.out, List.drop_eq_nil_of_le (by rw [HN.out]; omega)]; rfl)
      go_wp2
      apply hGo.out
      · exact HBW.out
      · exact HE.out
end Go.Proofs.YtooemgkjkngpcaaGreatDoor
namespace Go.Proofs.YtooemgkjkngpcaaGreatDoor
open Go.RowKit

theorem orN_marks (a b c : List Mk) (r : List Int) : orN (marksN a :: marksN b :: marksN c :: r) = if firstW marksN [a, b, c] ≠ 0 then firstW marksN [a, b, c] else orN r := by
  simp only [orN, firstW]
  by_cases h1 : marksN a = 0 <;> by_cases h2 : marksN b = 0 <;> by_cases h3 : marksN c = 0 <;> simp [h1, h2, h3]
def manyL (s : St) : List (Int × Int) := [((s.clients.length : Int), 4), ((s.conns.length : Int), 8), ((s.chans.length : Int), 8), ((s.sent.length : Int), 50), ((s.got.length : Int), 50), ((s.acks.length : Int), 50), ((s.purses.length : Int), 60)]
theorem manyL_yes {s : St} (h : ∃ p ∈ manyL s, p.2 < p.1) : manyB s = true := by
  simp only [manyL, List.mem_cons, List.not_mem_nil, or_false] at h
  obtain ⟨p, hp, hlt⟩ := h
  refine decide_eq_true ?_
  rcases hp with rfl | rfl | rfl | rfl | rfl | rfl | rfl <;> simp only at hlt <;> omega
theorem manyL_no {s : St} (h : ∀ p ∈ manyL s, ¬ p.2 < p.1) : manyB s = false := by
  simp only [manyL, List.mem_cons, List.not_mem_nil, or_false, forall_eq_or_imp, forall_eq] at h
  obtain ⟨h1, h2, h3, h4, h5, h6, h7⟩ := h
  exact decide_eq_false (by omega)
theorem deep_clients {s : St} (h : firstW wrongCl s.clients ≠ 0) : deepS s = firstW wrongCl s.clients := by unfold deepS; rw [orN, if_pos h]
theorem deep_conns {s : St} (h1 : firstW wrongCl s.clients = 0) (h : firstW wrongCn s.conns ≠ 0) : deepS s = firstW wrongCn s.conns := by unfold deepS; rw [orN, if_neg (by simp [h1]), orN, if_pos h]
theorem deep_chans {s : St} (h1 : firstW wrongCl s.clients = 0) (h2 : firstW wrongCn s.conns = 0) (h : firstW wrongCh s.chans ≠ 0) : deepS s = firstW wrongCh s.chans := by unfold deepS; rw [orN, if_neg (by simp [h1]), orN, if_neg (by simp [h2]), orN, if_pos h]
theorem deep_rest {s : St} (h1 : firstW wrongCl s.clients = 0) (h2 : firstW wrongCn s.conns = 0) (h3 : firstW wrongCh s.chans = 0) : deepS s = orN [marksN s.sent, marksN s.got, marksN s.acks, pursesN s.purses] := by unfold deepS; rw [orN, if_neg (by simp [h1]), orN, if_neg (by simp [h2]), orN, if_neg (by simp [h3])]
theorem orN_one (n : Int) : orN [n] = n := by
  by_cases h : n = 0 <;> simp [orN, h]
set_option maxRecDepth 1000000 in
set_option maxHeartbeats 8000000 in
theorem refStWrongC : StWrongC 8 := by
  intro s v N w hv hN hfit
  obtain ⟨o1, c1, o2, c2, o3, c3, o4, c4, o5, c5, o6, c6, o7, c7, rfl, hm⟩ := hv.open
  have HM := hid hm
  obtain ⟨hfn, ⟨hf1, hf1'⟩, hf2, hf3, ⟨hf4, _⟩, ⟨hf5, _⟩, ⟨hf6, _⟩, hf7, _⟩ := hfit
  have HF1 := hid hf1'
  clear hv hm hf1'
  obtain ⟨w0, hw0⟩ : ∃ w0, w.alloc (.cells #[.string s.name, .int .i64 s.height, .int .i64 s.time, .slice o1 s.clients.length c1, .slice o2 s.conns.length c2, .slice o3 s.chans.length c3, .slice o4 s.sent.length c4, .slice o5 s.got.length c5, .slice o6 s.acks.length c6, .slice o7 s.purses.length c7] 28) = w0 := ⟨_, rfl⟩
  have HB0 := hid (show Below w.heap.size w w0 by rw [← hw0]; exact (Below.refl _ _).alloc (Nat.le_refl _) _)
  have HR0 := hid (show Row w0 w.heap.size 28 [.string s.name, .int .i64 s.height, .int .i64 s.time, .slice o1 s.clients.length c1, .slice o2 s.conns.length c2, .slice o3 s.chans.length c3, .slice o4 s.sent.length c4, .slice o5 s.got.length c5, .slice o6 s.acks.length c6, .slice o7 s.purses.length c7] by rw [← hw0]; exact Row.new _ _ _)
  have k0 : w0.cell? ⟨w.heap.size, 0, none⟩ = some (.string s.name) := HR0.out.cell 0
  have HW0 := hid hw0
  have HNM := hid (refName_any s.name w0 hfn)
  have HDN := hid (show wrongS s = if nameB s.name = false then 7 else if (fromB 0 s.height && fromB 0 s.time) = false then 3 else if manyB s = true then 5 else deepS s from rfl)
  clear hw0
  go_enter Tryz.func8, Tryz.ntmps8
  go_upto_region 1 with fail
  rw [HW0.out]
  go_wp2_with fail
  refine HNM.out.mono ?_
  rintro e w1 ⟨rfl, hb1⟩
  have HB1 := hid (HB0.out.trans (hb1.mono HB0.out.size))
  have HR1 := hid (HR0.out.below hb1 HR0.out.lt)
  clear hb1 k0
  cases hn : nameB s.name with
  | false =>
    have HW := hid (show wrongS s = 7 by rw [HDN.out, hn]; rfl)
    clear hn
    go_wp2
    go_ret
    exact ⟨by rw [HW.out]; first | done | rfl, HB1.out⟩
  | true =>
    have HNN := hid hn
    clear hn
    have k1 : w1.cell? ⟨w.heap.size, 1, none⟩ = some (.int .i64 s.height) := HR1.out.cell 1
    have k2 : w1.cell? ⟨w.heap.size, 2, none⟩ = some (.int .i64 s.time) := HR1.out.cell 2
    obtain ⟨w2, hw2⟩ : ∃ w2, w1.alloc (.cells #[.int .i64 s.height, .int .i64 s.time] 3) = w2 := ⟨_, rfl⟩
    have hb2 : Below w1.heap.size w1 w2 := by rw [← hw2]; exact (Below.refl _ _).alloc (Nat.le_refl _) _
    have HB2 := hid (HB1.out.trans (hb2.mono HB1.out.size))
    have HR2 := hid (HR1.out.below hb2 HR1.out.lt)
    have HFR := hid (refFrom_any 0 [s.height, s.time] w1.heap.size 2 w2 (by rw [← hw2]; exact Row.new _ _ _) rfl (by decide))
    simp only [List.all_cons, List.all_nil, Bool.and_true] at HFR
    have HW2 := hid hw2
    clear hb2 hw2
    go_wp2_with fail
    rw [HW2.out]
    refine HFR.out.mono ?_
    rintro e w2' ⟨rfl, h2'⟩
    rw [h2']
    clear h2' w2' k1 k2
    cases hq : (fromB 0 s.height && fromB 0 s.time) with
    | false =>
      have HW := hid (show wrongS s = 3 by rw [HDN.out, HNN.out, hq]; rfl)
      clear hq
      go_wp2
      go_ret
      exact ⟨by rw [HW.out]; first | done | rfl, HB2.out⟩
    | true =>
      have HQ := hid hq
      clear hq
      have k3 : w2.cell? ⟨w.heap.size, 3, none⟩ = some (.slice o1 s.clients.length c1) := HR2.out.cell 3
      have k4 : w2.cell? ⟨w.heap.size, 4, none⟩ = some (.slice o2 s.conns.length c2) := HR2.out.cell 4
      have k5 : w2.cell? ⟨w.heap.size, 5, none⟩ = some (.slice o3 s.chans.length c3) := HR2.out.cell 5
      have k6 : w2.cell? ⟨w.heap.size, 6, none⟩ = some (.slice o4 s.sent.length c4) := HR2.out.cell 6
      have k7 : w2.cell? ⟨w.heap.size, 7, none⟩ = some (.slice o5 s.got.length c5) := HR2.out.cell 7
      have k8 : w2.cell? ⟨w.heap.size, 8, none⟩ = some (.slice o6 s.acks.length c6) := HR2.out.cell 8
      have k9 : w2.cell? ⟨w.heap.size, 9, none⟩ = some (.slice o7 s.purses.length c7) := HR2.out.cell 9
      obtain ⟨w3, hw3⟩ : ∃ w3, w2.alloc (.cells #[.int .i64 (s.clients.length : Int), .int .i64 4, .int .i64 (s.conns.length : Int), .int .i64 8, .int .i64 (s.chans.length : Int), .int .i64 8, .int .i64 (s.sent.length : Int), .int .i64 50, .int .i64 (s.got.length : Int), .int .i64 50, .int .i64 (s.acks.length : Int), .int .i64 50, .int .i64 (s.purses.length : Int), .int .i64 60] 91) = w3 := ⟨_, rfl⟩
      have hb3 : Below w2.heap.size w2 w3 := by rw [← hw3]; exact (Below.refl _ _).alloc (Nat.le_refl _) _
      have HB3 := hid (HB2.out.trans (hb3.mono HB2.out.size))
      have HR3 := hid (HR2.out.below hb3 HR2.out.lt)
      have hr3 : Row w3 w2.heap.size 91 [.int .i64 (s.clients.length : Int), .int .i64 4, .int .i64 (s.conns.length : Int), .int .i64 8, .int .i64 (s.chans.length : Int), .int .i64 8, .int .i64 (s.sent.length : Int), .int .i64 50, .int .i64 (s.got.length : Int), .int .i64 50, .int .i64 (s.acks.length : Int), .int .i64 50, .int .i64 (s.purses.length : Int), .int .i64 60] := by rw [← hw3]; exact Row.new _ _ _
      have hg3 := hr3.lt
      have HC3 := hid (show ∀ k p, (manyL s)[k]? = some p → w3.cell? ⟨w2.heap.size, k * 2, none⟩ = some (.int .i64 p.1) ∧ w3.cell? ⟨w2.heap.size, k * 2 + 1, none⟩ = some (.int .i64 p.2) from fun k p hp =>
        match k, hp with
        | 0, hp => by cases hp; exact ⟨hr3.cell 0, hr3.cell 1⟩
        | 1, hp => by cases hp; exact ⟨hr3.cell 2, hr3.cell 3⟩
        | 2, hp => by cases hp; exact ⟨hr3.cell 4, hr3.cell 5⟩
        | 3, hp => by cases hp; exact ⟨hr3.cell 6, hr3.cell 7⟩
        | 4, hp => by cases hp; exact ⟨hr3.cell 8, hr3.cell 9⟩
        | 5, hp => by cases hp; exact ⟨hr3.cell 10, hr3.cell 11⟩
        | 6, hp => by cases hp; exact ⟨hr3.cell 12, hr3.cell 13⟩
        | _ + 7, hp => by cases hp)
      have HW3 := hid hw3
      clear hb3 hr3 hw3
      go_wp2_with fail
      rw [HW3.out]
      clear k3 k4 k5 k6 k7 k8 k9
      refine wrMany_block (manyL s) w2.heap.size w3 hg3 (hid rfl) HC3 _ (hid ?_) (hid ?_)
      rotate_left
      · intro u4 u59 u60 u61 u62 u63 u64 u65 u66 u67 u68 w4 hb4 hbad
        have HW := hid (show wrongS s = 5 by rw [HDN.out, HNN.out, HQ.out, manyL_yes hbad]; rfl)
        have HB4 := hid (HB3.out.trans (hb4.mono HB3.out.size))
        clear hb4 hbad
        go_ret
        exact ⟨by rw [HW.out]; first | done | rfl, HB4.out⟩
      intro u2 u4 u59 u60 u61 u62 u63 u64 u65 u66 u67 u68 w4 hb4 hok
      have HD := hid (show wrongS s = deepS s by rw [HDN.out, HNN.out, HQ.out, manyL_no hok]; rfl)
      have HB4 := hid (HB3.out.trans (hb4.mono HB3.out.size))
      have HR4 := hid (HR3.out.below hb4 HR3.out.lt)
      clear hb4 hok HDN HC3 hg3
      have k3 : w4.cell? ⟨w.heap.size, 3, none⟩ = some (.slice o1 s.clients.length c1) := HR4.out.cell 3
      go_wp2_with fail
      refine wrCl_block s.clients o1 c1 N w4 (Nat.le_trans hN HB4.out.size) (hid (HM.out.below (HB4.out.mono hN)).clients) hf1 HF1 _ (hid ?_) (hid ?_)
      rotate_left
      · intro u6 u7 u72 u73 u74 u75 u76 u77 u78 u79 u80 u81 w5 hb5 hbad
        have HB5 := hid (HB4.out.trans (hb5.mono HB4.out.size))
        have HW := hid (HD.out.trans (deep_clients hbad))
        clear hb5 hbad
        go_ret
        exact ⟨by rw [HW.out]; first | done | rfl, HB5.out⟩
      intro u2 u6 u7 u72 u73 u74 u75 u76 u77 u78 u79 u80 u81 w5 hb5 e5
      have E5 := hid e5
      have HB5 := hid (HB4.out.trans (hb5.mono HB4.out.size))
      have HR5 := hid (HR4.out.below hb5 HR4.out.lt)
      clear hb5 e5
      clear k3
      have k4 : w5.cell? ⟨w.heap.size, 4, none⟩ = some (.slice o2 s.conns.length c2) := HR5.out.cell 4
      go_wp2_with fail
      refine wrCn_block s.conns o2 c2 N w5 (Nat.le_trans hN HB5.out.size) (hid (HM.out.below (HB5.out.mono hN)).conns) hf2 _ (hid ?_) (hid ?_)
      rotate_left
      · intro u9 u85 u86 u87 u88 u89 u90 u91 u92 u93 u94 u95 u96 u97 u98 u99 u100 u101 u102 u103 u104 u105 u106 u107 u108 u109 u110 u111 w6 hb6 hbad
        have HB6 := hid (HB5.out.trans (hb6.mono HB5.out.size))
        have HW := hid (HD.out.trans (deep_conns E5.out hbad))
        clear hb6 hbad
        go_ret
        exact ⟨by rw [HW.out]; first | done | rfl, HB6.out⟩
      intro u2 u9 u85 u86 u87 u88 u89 u90 u91 u92 u93 u94 u95 u96 u97 u98 u99 u100 u101 u102 u103 u104 u105 u106 u107 u108 u109 u110 u111 w6 hb6 e6
      have E6 := hid e6
      have HB6 := hid (HB5.out.trans (hb6.mono HB5.out.size))
      have HR6 := hid (HR5.out.below hb6 HR5.out.lt)
      clear hb6 e6
      clear k4
      have k5 : w6.cell? ⟨w.heap.size, 5, none⟩ = some (.slice o3 s.chans.length c3) := HR6.out.cell 5
      go_wp2_with fail
      refine wrCh_block s.chans o3 c3 N w6 (Nat.le_trans hN HB6.out.size) (hid (HM.out.below (HB6.out.mono hN)).chans) hf3 _ (hid ?_) (hid ?_)
      rotate_left
      · intro u11 u115 u116 u117 u118 u119 u120 u121 u122 u123 u124 u125 u126 u127 u128 u129 u130 u131 u132 u133 u134 u135 u136 u137 u138 u139 u140 u141 u142 u143 u144 u145 u146 u147 u148 u149 u150 w7 hb7 hbad
        have HB7 := hid (HB6.out.trans (hb7.mono HB6.out.size))
        have HW := hid (HD.out.trans (deep_chans E5.out E6.out hbad))
        clear hb7 hbad
        go_ret
        exact ⟨by rw [HW.out]; first | done | rfl, HB7.out⟩
      intro u2 u11 u115 u116 u117 u118 u119 u120 u121 u122 u123 u124 u125 u126 u127 u128 u129 u130 u131 u132 u133 u134 u135 u136 u137 u138 u139 u140 u141 u142 u143 u144 u145 u146 u147 u148 u149 u150 w7 hb7 e7
      have E7 := hid e7
      have HB7 := hid (HB6.out.trans (hb7.mono HB6.out.size))
      have HR7 := hid (HR6.out.below hb7 HR6.out.lt)
      clear hb7 e7
      clear k5
      have k6 : w7.cell? ⟨w.heap.size, 6, none⟩ = some (.slice o4 s.sent.length c4) := HR7.out.cell 6
      have k7 : w7.cell? ⟨w.heap.size, 7, none⟩ = some (.slice o5 s.got.length c5) := HR7.out.cell 7
      have k8 : w7.cell? ⟨w.heap.size, 8, none⟩ = some (.slice o6 s.acks.length c6) := HR7.out.cell 8
      obtain ⟨w8, hw8⟩ : ∃ w8, w7.alloc (.cells #[.slice o4 s.sent.length c4, .slice o5 s.got.length c5, .slice o6 s.acks.length c6] 25) = w8 := ⟨_, rfl⟩
      have hb8 : Below w7.heap.size w7 w8 := by rw [← hw8]; exact (Below.refl _ _).alloc (Nat.le_refl _) _
      have HB8 := hid (HB7.out.trans (hb8.mono HB7.out.size))
      have HR8 := hid (HR7.out.below hb8 HR7.out.lt)
      have hr8 : Row w8 w7.heap.size 25 [.slice o4 s.sent.length c4, .slice o5 s.got.length c5, .slice o6 s.acks.length c6] := by rw [← hw8]; exact Row.new _ _ _
      have hg8 := hr8.lt
      have HM8 := hid (HM.out.below (HB8.out.mono hN))
      have HC8 := hid (show ∀ k x, [s.sent, s.got, s.acks][k]? = some x → ∃ o c, w8.cell? ⟨w7.heap.size, k, none⟩ = some (.slice o x.length c) ∧ Many MkR 3 w8 N (.slice o x.length c) x ∧ x.length < 2305843009213693952 from fun k x hx =>
        match k, hx with
        | 0, hx => by cases hx; exact ⟨_, _, hr8.cell 0, HM8.out.sent, hf4⟩
        | 1, hx => by cases hx; exact ⟨_, _, hr8.cell 1, HM8.out.got, hf5⟩
        | 2, hx => by cases hx; exact ⟨_, _, hr8.cell 2, HM8.out.acks, hf6⟩
        | _ + 3, hx => by cases hx)
      have HW8 := hid hw8
      clear hb8 hw8 hr8
      go_wp2_with fail
      rw [HW8.out]
      refine wrMk_block [s.sent, s.got, s.acks] w7.heap.size N w8 (Nat.le_trans hN HB8.out.size) hg8 (hid rfl) HC8 _ (hid ?_) (hid ?_)
      rotate_left
      · intro u13 u14 u159 u160 u161 u162 u163 u164 u165 u166 u167 u168 w9 hb9 hbad
        have HB9 := hid (HB8.out.trans (hb9.mono HB8.out.size))
        have HW := hid (HD.out.trans (show deepS s = firstW marksN [s.sent, s.got, s.acks] by rw [deep_rest E5.out E6.out E7.out, orN_marks, if_pos hbad]))
        clear hb9 hbad
        go_ret
        exact ⟨by rw [HW.out]; first | done | rfl, HB9.out⟩
      intro u2 u13 u14 u159 u160 u161 u162 u163 u164 u165 u166 u167 u168 w9 hb9 e9
      have E9 := hid e9
      have HB9 := hid (HB8.out.trans (hb9.mono HB8.out.size))
      have HR9 := hid (HR8.out.below hb9 HR8.out.lt)
      clear hb9 e9
      clear k6 k7 k8
      have k9 : w9.cell? ⟨w.heap.size, 9, none⟩ = some (.slice o7 s.purses.length c7) := HR9.out.cell 9
      go_wp2_with fail
      refine wrPu_block s.purses o7 c7 N w.heap.size w9 (Nat.le_trans hN HB9.out.size) HR9.out.lt k9 (hid (HM.out.below (HB9.out.mono hN)).purses) hf7 _ (hid ?_) (hid ?_)
      rotate_left
      · intro u15 u16 u17 u172 u173 u174 u175 u176 u177 u178 u179 u180 u181 u182 u183 u184 u185 u186 u187 u188 u189 u190 u191 u192 u193 u194 u195 u196 u197 u198 u199 u200 u201 u202 u203 u204 u205 u206 u207 u208 u209 u210 u211 u212 u213 u214 u215 u216 u217 u218 u219 u220 u221 u222 u223 u224 u225 u226 u227 u228 u229 w10 hb10 hbad
        have HB10 := hid (HB9.out.trans (hb10.mono HB9.out.size))
        have HW := hid (show wrongS s = pursesN s.purses by rw [HD.out, deep_rest E5.out E6.out E7.out, orN_marks, if_neg (by simp [E9.out]), orN_one])
        clear hb10 hbad
        go_ret
        exact ⟨by rw [HW.out]; first | done | rfl, HB10.out⟩
      intro u2 u15 u16 u17 u172 u173 u174 u175 u176 u177 u178 u179 u180 u181 u182 u183 u184 u185 u186 u187 u188 u189 u190 u191 u192 u193 u194 u195 u196 u197 u198 u199 u200 u201 u202 u203 u204 u205 u206 u207 u208 u209 u210 u211 u212 u213 u214 u215 u216 u217 u218 u219 u220 u221 u222 u223 u224 u225 u226 u227 u228 u229 w10 hb10 e10
      have HB10 := hid (HB9.out.trans (hb10.mono HB9.out.size))
      have HW := hid (show wrongS s = 0 by rw [HD.out, deep_rest E5.out E6.out E7.out, orN_marks, if_neg (by simp [E9.out]), orN_one]; exact e10)
      clear hb10 e10
      go_wp2
      go_ret
      exact ⟨by rw [HW.out]; first | done | rfl, HB10.out⟩
end Go.Proofs.YtooemgkjkngpcaaGreatDoor
