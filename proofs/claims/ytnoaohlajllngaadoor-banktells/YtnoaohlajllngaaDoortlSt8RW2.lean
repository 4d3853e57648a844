/-
  The document's Wrong, its second loop: clients.
-/
import Derived.Test.YtnoaohlajllngaaDoortlSt8RMarks
import Derived.Test.YtnoaohlajllngaaDoortlRef1All
import Derived.Test.YtnoaohlajllngaaDoortlClRAsk
import Derived.BigQuiet
import Derived.Deep.RegionHeld3
import Derived.Deep.RegionWith
namespace Go.Proofs.YtnoaohlajllngaaDoor
open Go.RowKit

set_option maxRecDepth 1000000 in
set_option maxHeartbeats 8000000 in
theorem wrCl_block {s0 s1 s2 s3 s4 s5 s6 s7 s8 s9 s10 s11 s12 s13 s14 s15 s16 s17 s18 s19 s20 s21 s22 s23 s24 s25 s26 s27 s28 s29 s30 s31 s32 s33 s34 s35 s36 s37 s38 s39 s40 s41 s42 s43 s44 s45 s46 s47 s48 s49 s50 s51 s52 s53 s54 s55 s56 s57 s58 s59 s60 s61 s62 s63 s64 s65 s66 s67 s68 s69 s73 s74 s75 s76 s77 s78 s79 s80 s81 s82 s83 s84 s85 s86 s87 s88 s89 s90 s91 s92 s93 s94 s95 s96 s97 s98 s99 s100 s101 s102 s103 s104 s105 s106 s107 s108 s109 s110 s111 s112 s113 s114 s115 s116 s117 s118 s119 s120 s121 s122 s123 s124 s125 s126 s127 s128 s129 s130 s131 s132 s133 s134 s135 s136 s137 s138 s139 s140 s141 s142 s143 s144 s145 s146 s147 s148 s149 s150 s151 s152 s153 s154 s155 s156 s157 s158 s159 s160 s161 s162 s163 s164 s165 s166 s167 s168 s169 s170 s171 s172 s173 s174 s175 s176 s177 s178 s179 s180 s181 s182 s183 s184 s185 s186 s187 s188 s189 s190 s191 s192 s193 s194 s195 s196 s197 s198 s199 s200 s201 s202 s203 s204 s205 s206 s207 s208 s209 s210 s211 s212 s213 s214 s215 s216 s217 s218 s219 s220 s221 s222 s223 s224 s225 s226 s227 s228 s229 : Value} (l : List Cl) (oa : Option Addr) (ca N : Nat) (w : World) (hN : N ≤ w.heap.size) (hv : Hid (Many ClR 4 w N (.slice oa l.length ca) l)) (hl : l.length < 2305843009213693952) (hfit : Hid (∀ c ∈ l, c.fits)) (Q : Exit → Act → World → Prop)
    (hGo : Hid (∀ (u2 u6 u7 u72 u73 u74 u75 u76 u77 u78 u79 u80 u81 : Value) (w' : World), Below w.heap.size w w' → firstW wrongCl l = 0 → Q .normal ⟨#[s0, s1, u2, s3, s4, s5, u6, u7, s8, s9, s10, s11, s12, s13, s14, s15, s16, s17, s18, s19, s20, s21, s22, s23, s24, s25, s26, s27, s28, s29, s30, s31, s32, s33, s34, s35, s36, s37, s38, s39, s40, s41, s42, s43, s44, s45, s46, s47, s48, s49, s50, s51, s52, s53, s54, s55, s56, s57, s58, s59, s60, s61, s62, s63, s64, s65, s66, s67, s68, s69, .slice oa l.length ca, .int .i64 (l.length : Int), u72, u73, u74, u75, u76, u77, u78, u79, u80, u81, s82, s83, s84, s85, s86, s87, s88, s89, s90, s91, s92, s93, s94, s95, s96, s97, s98, s99, s100, s101, s102, s103, s104, s105, s106, s107, s108, s109, s110, s111, s112, s113, s114, s115, s116, s117, s118, s119, s120, s121, s122, s123, s124, s125, s126, s127, s128, s129, s130, s131, s132, s133, s134, s135, s136, s137, s138, s139, s140, s141, s142, s143, s144, s145, s146, s147, s148, s149, s150, s151, s152, s153, s154, s155, s156, s157, s158, s159, s160, s161, s162, s163, s164, s165, s166, s167, s168, s169, s170, s171, s172, s173, s174, s175, s176, s177, s178, s179, s180, s181, s182, s183, s184, s185, s186, s187, s188, s189, s190, s191, s192, s193, s194, s195, s196, s197, s198, s199, s200, s201, s202, s203, s204, s205, s206, s207, s208, s209, s210, s211, s212, s213, s214, s215, s216, s217, s218, s219, s220, s221, s222, s223, s224, s225, s226, s227, s228, s229], []⟩ w'))
    (hRet : Hid (∀ (u6 u7 u72 u73 u74 u75 u76 u77 u78 u79 u80 u81 : Value) (w' : World), Below w.heap.size w w' → firstW wrongCl l ≠ 0 → Q .ret ⟨#[s0, s1, .int .i64 (firstW wrongCl l), s3, s4, s5, u6, u7, s8, s9, s10, s11, s12, s13, s14, s15, s16, s17, s18, s19, s20, s21, s22, s23, s24, s25, s26, s27, s28, s29, s30, s31, s32, s33, s34, s35, s36, s37, s38, s39, s40, s41, s42, s43, s44, s45, s46, s47, s48, s49, s50, s51, s52, s53, s54, s55, s56, s57, s58, s59, s60, s61, s62, s63, s64, s65, s66, s67, s68, s69, .slice oa l.length ca, .int .i64 (l.length : Int), u72, u73, u74, u75, u76, u77, u78, u79, u80, u81, s82, s83, s84, s85, s86, s87, s88, s89, s90, s91, s92, s93, s94, s95, s96, s97, s98, s99, s100, s101, s102, s103, s104, s105, s106, s107, s108, s109, s110, s111, s112, s113, s114, s115, s116, s117, s118, s119, s120, s121, s122, s123, s124, s125, s126, s127, s128, s129, s130, s131, s132, s133, s134, s135, s136, s137, s138, s139, s140, s141, s142, s143, s144, s145, s146, s147, s148, s149, s150, s151, s152, s153, s154, s155, s156, s157, s158, s159, s160, s161, s162, s163, s164, s165, s166, s167, s168, s169, s170, s171, s172, s173, s174, s175, s176, s177, s178, s179, s180, s181, s182, s183, s184, s185, s186, s187, s188, s189, s190, s191, s192, s193, s194, s195, s196, s197, s198, s199, s200, s201, s202, s203, s204, s205, s206, s207, s208, s209, s210, s211, s212, s213, s214, s215, s216, s217, s218, s219, s220, s221, s222, s223, s224, s225, s226, s227, s228, s229], []⟩ w')) :
    Code.wp Tryd.prog ((Tryd.f45.body.bind (inBlock 2)).getD .skip) (Exit.inBlock 2 Q) ⟨#[s0, s1, s2, s3, s4, s5, s6, s7, s8, s9, s10, s11, s12, s13, s14, s15, s16, s17, s18, s19, s20, s21, s22, s23, s24, s25, s26, s27, s28, s29, s30, s31, s32, s33, s34, s35, s36, s37, s38, s39, s40, s41, s42, s43, s44, s45, s46, s47, s48, s49, s50, s51, s52, s53, s54, s55, s56, s57, s58, s59, s60, s61, s62, s63, s64, s65, s66, s67, s68, s69, .slice oa l.length ca, .int .i64 (l.length : Int), .int .i64 0, s73, s74, s75, s76, s77, s78, s79, s80, s81, s82, s83, s84, s85, s86, s87, s88, s89, s90, s91, s92, s93, s94, s95, s96, s97, s98, s99, s100, s101, s102, s103, s104, s105, s106, s107, s108, s109, s110, s111, s112, s113, s114, s115, s116, s117, s118, s119, s120, s121, s122, s123, s124, s125, s126, s127, s128, s129, s130, s131, s132, s133, s134, s135, s136, s137, s138, s139, s140, s141, s142, s143, s144, s145, s146, s147, s148, s149, s150, s151, s152, s153, s154, s155, s156, s157, s158, s159, s160, s161, s162, s163, s164, s165, s166, s167, s168, s169, s170, s171, s172, s173, s174, s175, s176, s177, s178, s179, s180, s181, s182, s183, s184, s185, s186, s187, s188, s189, s190, s191, s192, s193, s194, s195, s196, s197, s198, s199, s200, s201, s202, s203, s204, s205, s206, s207, s208, s209, s210, s211, s212, s213, s214, s215, s216, s217, s218, s219, s220, s221, s222, s223, s224, s225, s226, s227, s228, s229], []⟩ w := by
  conv => arg 2; whnf
  conv => arg 4; dsimp only
  generalize hn : l.length = n at *
  have HN := hid hn
  clear hn
  go_loopw [72] (fun i wr => ∃ k : Nat, k ≤ n ∧ i = .int .i64 (k : Int) ∧ Hid (Below w.heap.size w wr ∧ firstW wrongCl l = firstW wrongCl (l.drop k))) (fun i _ => n - (intOf i).toNat)
  case atStart => exact ⟨0, by omega, rfl, hid ⟨Below.refl _ _, rfl⟩⟩
  case round =>
    obtain ⟨k, hk, rfl, HT⟩ := hrel
    have HBW := hid HT.out.1
    have HUP := hid HT.out.2
    clear HT
    have hszw := HBW.out.size
    by_cases hlt : k < n
    · obtain ⟨x, hx⟩ : ∃ x, l[k]? = some x := ⟨l[k]'(by rw [HN.out]; exact hlt), List.getElem?_eq_getElem _⟩
      have hlt' : (k : Int) < (n : Int) := by omega
      obtain ⟨b, o, rfl, hcells⟩ := hv.out.spot (by omega)
      obtain ⟨hbN, r, hr, hc⟩ := hcells k x hx
      obtain ⟨kv, rfl, hkn⟩ := hr
      obtain ⟨ok, ck, rfl, -⟩ := hkn.shape
      have hbl : b < w.heap.size := by omega
      have f0 := (HBW.out.cell (p := ⟨b, o + k * 4 + 0, none⟩) hbl).trans (hc 0 _ rfl)
      have f1 := (HBW.out.cell (p := ⟨b, o + k * 4 + 1, none⟩) hbl).trans (hc 1 _ rfl)
      have f2 := (HBW.out.cell (p := ⟨b, o + k * 4 + 2, none⟩) hbl).trans (hc 2 _ rfl)
      have f3 := (HBW.out.cell (p := ⟨b, o + k * 4 + 3, none⟩) hbl).trans (hc 3 _ rfl)
      simp only [Nat.add_zero] at f0
      obtain ⟨w2, hw2⟩ : ∃ w2, wr.alloc (.cells #[.string x.chain, .int .i64 x.trust, .bool x.frozen, .slice ok x.known.length ck] 100) = w2 := ⟨_, rfl⟩
      have hbr2 : Below wr.heap.size wr w2 := by rw [← hw2]; exact (Below.refl _ _).alloc (Nat.le_refl _) _
      have HB2 := hid (HBW.out.trans (hbr2.mono hszw))
      have hrow2 : Row w2 wr.heap.size 100 [.string x.chain, .int .i64 x.trust, .bool x.frozen, .slice ok x.known.length ck] := by rw [← hw2]; exact Row.new _ _ _
      have q0 : w2.cell? ⟨wr.heap.size, 0, none⟩ = some (.string x.chain) := hrow2.cell 0
      have q1 : w2.cell? ⟨wr.heap.size, 1, none⟩ = some (.int .i64 x.trust) := hrow2.cell 1
      have q2 : w2.cell? ⟨wr.heap.size, 2, none⟩ = some (.bool x.frozen) := hrow2.cell 2
      have q3 : w2.cell? ⟨wr.heap.size, 3, none⟩ = some (.slice ok x.known.length ck) := hrow2.cell 3
      have HCL := hid (show Calls Tryd.prog 69 #[.agg #[.string x.chain, .int .i64 x.trust, .bool x.frozen, .slice ok x.known.length ck]] w2 _ from refClWrongC x _ N w2 ⟨_, rfl, hkn.below (HB2.out.mono hN)⟩ (Nat.le_trans hN HB2.out.size) (hfit.out x (List.mem_of_getElem? hx)))
      have HST := hid (firstW_at wrongCl l k x hx)
      have HW2 := hid hw2
      clear hbr2 hrow2 hw2 hcells hc hkn hx
      by_cases hz : wrongCl x = 0
      · have HZ := hid hz
        clear hz
        go_upto_region 14 with fail
        rw [HW2.out]
        go_wp2_with fail
        refine HCL.out.mono ?_
        rintro e w3 ⟨rfl, hb3⟩
        rw [HZ.out]
        have HB3 := hid (HB2.out.trans (hb3.mono HB2.out.size))
        have HV2 := hid (show firstW wrongCl l = firstW wrongCl (l.drop (k + 1)) by rw [HUP.out, HST.out, if_neg (by rw [HZ.out]; simp)])
        clear hb3
        go_wp2
        go_roundw
        case rel => exact ⟨k + 1, by omega, by go_num, hid ⟨HB3.out, HV2.out⟩⟩
        case measure => simp [intOf]; omega
      · have e0 : (wrongCl x != 0) = true := by simpa using hz
        have HV2 := hid (show firstW wrongCl l = wrongCl x by rw [HUP.out, HST.out, if_pos hz])
        have HNZ := hid hz
        clear hz
        generalize hzz : wrongCl x = z at *
        clear hzz
        go_upto_region 14 with fail
        rw [HW2.out]
        go_wp2_with fail
        refine HCL.out.mono ?_
        rintro e w3 ⟨rfl, hb3⟩
        have HB3 := hid (HB2.out.trans (hb3.mono HB2.out.size))
        clear hb3
        go_wp2
        rw [← HV2.out]
        apply hRet.out
        · exact HB3.out
        · rw [HV2.out]; exact HNZ.out
    · have hge : decide ((k : Int) < (n : Int)) = false := by simp; omega
      have HE := hid (show firstW wrongCl l = 0 by rw [HUP.out, List.drop_eq_nil_of_le (by rw [HN.out]; omega)]; rfl)
      go_wp2
      apply hGo.out
      · exact HBW.out
      · exact HE.out
end Go.Proofs.YtnoaohlajllngaaDoor
