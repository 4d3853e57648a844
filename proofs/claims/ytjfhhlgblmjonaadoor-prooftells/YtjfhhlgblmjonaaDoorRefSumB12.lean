/-
  The document's Sum, its block 12: the 64 rounds of a block.
  The document's Sum, its block 14: what came of a block is added to the eight words.
-/
import Derived.Test.YtjfhhlgblmjonaaDoorRefShaA
namespace Go.Proofs.YtjfhhlgblmjonaaDoor
open Go.RowKit
attribute [local go_sem] u_xor u_and u_or u_add u_add' u_andNot
theorem turn_z (x : BitVec 32) (n : Nat) (z : Int) (hz : z = (n : Int)) (hn : n < 32) (h0 : 0 < n) (w : World) :
    Calls Tryd.prog 66 #[.int .u32 (u x), .int .i64 z] w fun e w' => e = .returned (.int .u32 (u (rotr x n))) ∧ w' = w.drew := by
  rw [hz]; exact turn_any x n hn h0 w
set_option maxRecDepth 1000000 in
set_option maxHeartbeats 4000000 in
theorem rounds_block (s0 s1 s2 s3 s5 s6 s7 s8 s9 s10 s11 s13 s14 s15 s16 s17 s18 s28 s29 s30 s31 s32 s33 s34 s35 s36 s37 s38 s39 s40 s41 s42 s43 s44 s45 s46 s47 s48 s49 s50 s51 s52 s53 s54 s55 s56 s57 s58 s59 s60 s61 s62 s63 s64 s65 s66 s67 s68 s69 s70 s71 s72 s73 s74 s75 s76 s77 s78 s79 s80 s81 s82 s83 s84 s85 s86 s87 s88 s89 s90 s91 s92 s93 s94 s95 s96 s97 s98 s99 s100 s101 s102 s103 s104 s105 s106 s107 s108 s109 s110 s111 s112 s113 s114 s115 s116 s117 s118 s119 s120 s121 s122 s123 s124 s125 s126 s127 s128 s129 s130 s131 s132 s133 s134 s135 s136 s137 s138 s139 s140 s141 s142 s143 s144 s145 s146 s147 s148 s149 s150 s151 s152 s153 s154 s155 s156 s157 s158 s159 s160 s161 s162 s163 s164 s165 s166 s167 s168 s169 s170 s171 s172 s173 s174 s175 s176 s177 s178 s179 s180 s181 s182 s183 s184 s185 s186 s187 s188 s189 s190 s191 s192 s193 s194 s195 s196 s197 s198 s199 s200 s201 s202 s203 s204 s205 s206 s207 s208 s209 s210 s211 s212 s213 s214 s215 s216 s217 s218 s219 s220 s221 s222 s223 s224 s225 s226 s227 s228 s229 s230 s231 s232 s233 s234 s235 s236 s237 s238 s239 s240 s241 s242 s243 s244 s245 s246 s247 s248 s249 s250 s251 s252 s253 s254 s255 s256 s257 s258 s259 s260 s261 s262 s263 s264 s265 s266 s267 s268 s269 s270 s271 s272 s273 s274 s275 s276 s277 s278 s279 s280 s281 s282 s283 s284 s285 s286 s287 s288 s289 s290 s291 s292 s293 s294 s295 s296 s297 s298 s299 s300 s301 : Value) (gk capk gw capw : Nat) (W : List (BitVec 32)) (s : Oct) (w : World)
    (hk : Hid (∀ t, t < 64 → w.cell? ⟨gk, t, none⟩ = some (.int .u32 (u (kTab.getD t 0))))) (hw : Hid (∀ t, t < 64 → w.cell? ⟨gw, t, none⟩ = some (.int .u32 (u (W.getD t 0))))) (Q : Exit → Act → World → Prop)
    (hQ : Hid (∀ (u27 u28 u29 u30 u31 u191 u192 u193 u194 u195 u196 u197 u198 u199 u200 u201 u202 u203 u204 u205 u206 u207 u208 u209 u210 u211 u212 u213 u214 u215 u216 u217 u218 u219 u220 u221 u222 u223 u224 u225 u226 u227 u228 u229 u230 u231 u232 u233 u234 u235 u236 u237 u238 u239 u240 u241 u242 u243 u244 u245 u246 u247 u248 u249 u250 u251 u252 u253 u254 u255 u256 : Value) (n : Nat), Q .normal ⟨#[s0, s1, s2, s3, .slice (some ⟨gk, 0, none⟩) 64 capk, s5, s6, s7, s8, s9, s10, s11, .slice (some ⟨gw, 0, none⟩) 64 capw, s13, s14, s15, s16, s17, s18, .int .u32 (u (rTo W s 64).a), .int .u32 (u (rTo W s 64).b), .int .u32 (u (rTo W s 64).c), .int .u32 (u (rTo W s 64).d), .int .u32 (u (rTo W s 64).e), .int .u32 (u (rTo W s 64).f), .int .u32 (u (rTo W s 64).g), .int .u32 (u (rTo W s 64).h), u27, u28, u29, u30, u31, s32, s33, s34, s35, s36, s37, s38, s39, s40, s41, s42, s43, s44, s45, s46, s47, s48, s49, s50, s51, s52, s53, s54, s55, s56, s57, s58, s59, s60, s61, s62, s63, s64, s65, s66, s67, s68, s69, s70, s71, s72, s73, s74, s75, s76, s77, s78, s79, s80, s81, s82, s83, s84, s85, s86, s87, s88, s89, s90, s91, s92, s93, s94, s95, s96, s97, s98, s99, s100, s101, s102, s103, s104, s105, s106, s107, s108, s109, s110, s111, s112, s113, s114, s115, s116, s117, s118, s119, s120, s121, s122, s123, s124, s125, s126, s127, s128, s129, s130, s131, s132, s133, s134, s135, s136, s137, s138, s139, s140, s141, s142, s143, s144, s145, s146, s147, s148, s149, s150, s151, s152, s153, s154, s155, s156, s157, s158, s159, s160, s161, s162, s163, s164, s165, s166, s167, s168, s169, s170, s171, s172, s173, s174, s175, s176, s177, s178, s179, s180, s181, s182, s183, s184, s185, s186, s187, s188, s189, s190, u191, u192, u193, u194, u195, u196, u197, u198, u199, u200, u201, u202, u203, u204, u205, u206, u207, u208, u209, u210, u211, u212, u213, u214, u215, u216, u217, u218, u219, u220, u221, u222, u223, u224, u225, u226, u227, u228, u229, u230, u231, u232, u233, u234, u235, u236, u237, u238, u239, u240, u241, u242, u243, u244, u245, u246, u247, u248, u249, u250, u251, u252, u253, u254, u255, u256, s257, s258, s259, s260, s261, s262, s263, s264, s265, s266, s267, s268, s269, s270, s271, s272, s273, s274, s275, s276, s277, s278, s279, s280, s281, s282, s283, s284, s285, s286, s287, s288, s289, s290, s291, s292, s293, s294, s295, s296, s297, s298, s299, s300, s301], []⟩ (w.drewN n))) :
    Code.wp Tryd.prog ((Tryd.f51.body.bind (inBlock 12)).getD .skip) (Exit.inBlock 12 Q) ⟨#[s0, s1, s2, s3, .slice (some ⟨gk, 0, none⟩) 64 capk, s5, s6, s7, s8, s9, s10, s11, .slice (some ⟨gw, 0, none⟩) 64 capw, s13, s14, s15, s16, s17, s18, .int .u32 (u s.a), .int .u32 (u s.b), .int .u32 (u s.c), .int .u32 (u s.d), .int .u32 (u s.e), .int .u32 (u s.f), .int .u32 (u s.g), .int .u32 (u s.h), .int .i64 0, s28, s29, s30, s31, s32, s33, s34, s35, s36, s37, s38, s39, s40, s41, s42, s43, s44, s45, s46, s47, s48, s49, s50, s51, s52, s53, s54, s55, s56, s57, s58, s59, s60, s61, s62, s63, s64, s65, s66, s67, s68, s69, s70, s71, s72, s73, s74, s75, s76, s77, s78, s79, s80, s81, s82, s83, s84, s85, s86, s87, s88, s89, s90, s91, s92, s93, s94, s95, s96, s97, s98, s99, s100, s101, s102, s103, s104, s105, s106, s107, s108, s109, s110, s111, s112, s113, s114, s115, s116, s117, s118, s119, s120, s121, s122, s123, s124, s125, s126, s127, s128, s129, s130, s131, s132, s133, s134, s135, s136, s137, s138, s139, s140, s141, s142, s143, s144, s145, s146, s147, s148, s149, s150, s151, s152, s153, s154, s155, s156, s157, s158, s159, s160, s161, s162, s163, s164, s165, s166, s167, s168, s169, s170, s171, s172, s173, s174, s175, s176, s177, s178, s179, s180, s181, s182, s183, s184, s185, s186, s187, s188, s189, s190, s191, s192, s193, s194, s195, s196, s197, s198, s199, s200, s201, s202, s203, s204, s205, s206, s207, s208, s209, s210, s211, s212, s213, s214, s215, s216, s217, s218, s219, s220, s221, s222, s223, s224, s225, s226, s227, s228, s229, s230, s231, s232, s233, s234, s235, s236, s237, s238, s239, s240, s241, s242, s243, s244, s245, s246, s247, s248, s249, s250, s251, s252, s253, s254, s255, s256, s257, s258, s259, s260, s261, s262, s263, s264, s265, s266, s267, s268, s269, s270, s271, s272, s273, s274, s275, s276, s277, s278, s279, s280, s281, s282, s283, s284, s285, s286, s287, s288, s289, s290, s291, s292, s293, s294, s295, s296, s297, s298, s299, s300, s301], []⟩ w := by
  conv => arg 2; whnf
  conv => arg 4; dsimp only
  go_loopw [19, 20, 21, 22, 23, 24, 25, 26, 27] (fun va vb vc vd ve vf vg vh i wr => ∃ (t n : Nat) (r : Oct), t ≤ 64 ∧ i = .int .i64 t ∧ Hid (r = rTo W s t) ∧
      va = .int .u32 (u r.a) ∧ vb = .int .u32 (u r.b) ∧ vc = .int .u32 (u r.c) ∧ vd = .int .u32 (u r.d) ∧ ve = .int .u32 (u r.e) ∧ vf = .int .u32 (u r.f) ∧ vg = .int .u32 (u r.g) ∧ vh = .int .u32 (u r.h) ∧ Hid (wr = w.drewN n))
    (fun _ _ _ _ _ _ _ _ i _ => 64 - (intOf i).toNat)
  case atStart => exact ⟨0, 0, s, by omega, rfl, hid rfl, rfl, rfl, rfl, rfl, rfl, rfl, rfl, rfl, hid rfl⟩
  case round =>
    obtain ⟨t, n, r, ht, rfl, HR, rfl, rfl, rfl, rfl, rfl, rfl, rfl, rfl, HWR⟩ := hrel
    by_cases hlt : t < 64
    · have ck : wr.cell? ⟨gk, t, none⟩ = some (.int .u32 (u (kTab.getD t 0))) := by rw [HWR.out]; exact hk.out t hlt
      have cw : wr.cell? ⟨gw, t, none⟩ = some (.int .u32 (u (W.getD t 0))) := by rw [HWR.out]; exact hw.out t hlt
      have hlt' : (t : Int) < 64 := by omega
      obtain ⟨kt, hkt⟩ : ∃ kt, kTab.getD t 0 = kt := ⟨_, rfl⟩
      obtain ⟨wt, hwt⟩ : ∃ wt, W.getD t 0 = wt := ⟨_, rfl⟩
      rw [hkt] at ck
      rw [hwt] at cw
      have HKT := hid hkt
      have HWT := hid hwt
      clear hkt hwt
      go_wp2_with fail
      rw [chs_or, maj_or]
      go_quiet (exact turn_q _ _ _ rfl (by decide) (by decide) _ _)
      go_wp2_with (go_at_call 66; refine (turn_z _ _ _ rfl (by decide) (by decide) _).mono ?_; rintro e w' ⟨rfl, rfl⟩)
      go_roundw
      case rel =>
        refine ⟨t + 1, n + nq + 1 + 1 + 1, step kt wt r, by omega, by go_num, hid ?_, rfl, rfl, rfl, rfl, rfl, rfl, rfl, rfl, hid ?_⟩
        · rw [HR.out, ← HKT.out, ← HWT.out]; rfl
        · rw [HWR.out]; simp [World.drewN, Nat.add_assoc]
      case measure => simp [intOf]; omega
    · obtain rfl : t = 64 := by omega
      obtain rfl := HR.out
      obtain rfl := HWR.out
      clear hk hw
      go_wp2_with fail
      apply hQ.out
end Go.Proofs.YtjfhhlgblmjonaaDoor
namespace Go.Proofs.YtjfhhlgblmjonaaDoor
open Go.RowKit
attribute [local go_sem] u_add u_add'
/-- eight words stand at the front of a block, and may be written -/
def Eight (w : World) (g : Nat) (s : Oct) : Prop := ∀ i, i < 8 → w.cell? ⟨g, i, none⟩ = some (.int .u32 (u (s.list.getD i 0))) ∧ w.frozen? ⟨g, i, none⟩ = false
theorem plus_at (s r : Oct) (i : Nat) (h : i < 8) : (s.plus r).list.getD i 0 = s.list.getD i 0 + r.list.getD i 0 := by
  match i, h with
  | 0, _ | 1, _ | 2, _ | 3, _ | 4, _ | 5, _ | 6, _ | 7, _ => rfl
set_option maxRecDepth 1000000 in
set_option maxHeartbeats 4000000 in
theorem plus_block (s0 s1 s2 s3 s4 s6 s7 s8 s9 s10 s11 s12 s13 s14 s15 s16 s17 s18 s19 s20 s21 s22 s23 s24 s25 s26 s27 s28 s29 s30 s31 s32 s33 s34 s35 s36 s37 s38 s39 s40 s41 s42 s43 s44 s45 s46 s47 s48 s49 s50 s51 s52 s53 s54 s55 s56 s57 s58 s59 s60 s61 s62 s63 s64 s65 s66 s67 s68 s69 s70 s71 s72 s73 s74 s75 s76 s77 s78 s79 s80 s81 s82 s83 s84 s85 s86 s87 s88 s89 s90 s91 s92 s93 s94 s95 s96 s97 s98 s99 s100 s101 s102 s103 s104 s105 s106 s107 s108 s109 s110 s111 s112 s113 s114 s115 s116 s117 s118 s119 s120 s121 s122 s123 s124 s125 s126 s127 s128 s129 s130 s131 s132 s133 s134 s135 s136 s137 s138 s139 s140 s141 s142 s143 s144 s145 s146 s147 s148 s149 s150 s151 s152 s153 s154 s155 s156 s157 s158 s159 s160 s161 s162 s163 s164 s165 s166 s167 s168 s169 s170 s171 s172 s173 s174 s175 s176 s177 s178 s179 s180 s181 s182 s183 s184 s185 s186 s187 s188 s189 s190 s191 s192 s193 s194 s195 s196 s197 s198 s199 s200 s201 s202 s203 s204 s205 s206 s207 s208 s209 s210 s211 s212 s213 s214 s215 s216 s217 s218 s219 s220 s221 s222 s223 s224 s225 s226 s227 s228 s229 s230 s231 s232 s233 s234 s235 s236 s237 s238 s239 s240 s241 s242 s243 s244 s245 s246 s247 s248 s249 s250 s251 s252 s253 s254 s255 s256 s257 s258 s259 s260 s261 s262 s263 s264 s268 s269 s270 s271 s272 s273 s274 s275 s276 s277 s278 s279 s280 s281 s282 s283 s284 s285 s286 s287 s288 s289 s290 s291 s292 s293 s294 s295 s296 s297 s298 s299 s300 s301 : Value) (gh caph gl : Nat) (s r : Oct) (w : World) (hne : gl ≠ gh) (hgl : gl < w.heap.size)
    (hh : Hid (Eight w gh s)) (hr : Hid (∀ i, i < 8 → w.cell? ⟨gl, i, none⟩ = some (.int .u32 (u (r.list.getD i 0))))) (Q : Exit → Act → World → Prop)
    (hQ : Hid (∀ (u32 u33 u267 u268 u269 u270 u271 u272 u273 u274 u275 u276 u277 u278 u279 u280 u281 : Value) (w' : World), Eight w' gh (s.plus r) → w.grownBy w' (some gh) → Q .normal ⟨#[s0, s1, s2, s3, s4, .slice (some ⟨gh, 0, none⟩) 8 caph, s6, s7, s8, s9, s10, s11, s12, s13, s14, s15, s16, s17, s18, s19, s20, s21, s22, s23, s24, s25, s26, s27, s28, s29, s30, s31, u32, u33, s34, s35, s36, s37, s38, s39, s40, s41, s42, s43, s44, s45, s46, s47, s48, s49, s50, s51, s52, s53, s54, s55, s56, s57, s58, s59, s60, s61, s62, s63, s64, s65, s66, s67, s68, s69, s70, s71, s72, s73, s74, s75, s76, s77, s78, s79, s80, s81, s82, s83, s84, s85, s86, s87, s88, s89, s90, s91, s92, s93, s94, s95, s96, s97, s98, s99, s100, s101, s102, s103, s104, s105, s106, s107, s108, s109, s110, s111, s112, s113, s114, s115, s116, s117, s118, s119, s120, s121, s122, s123, s124, s125, s126, s127, s128, s129, s130, s131, s132, s133, s134, s135, s136, s137, s138, s139, s140, s141, s142, s143, s144, s145, s146, s147, s148, s149, s150, s151, s152, s153, s154, s155, s156, s157, s158, s159, s160, s161, s162, s163, s164, s165, s166, s167, s168, s169, s170, s171, s172, s173, s174, s175, s176, s177, s178, s179, s180, s181, s182, s183, s184, s185, s186, s187, s188, s189, s190, s191, s192, s193, s194, s195, s196, s197, s198, s199, s200, s201, s202, s203, s204, s205, s206, s207, s208, s209, s210, s211, s212, s213, s214, s215, s216, s217, s218, s219, s220, s221, s222, s223, s224, s225, s226, s227, s228, s229, s230, s231, s232, s233, s234, s235, s236, s237, s238, s239, s240, s241, s242, s243, s244, s245, s246, s247, s248, s249, s250, s251, s252, s253, s254, s255, s256, s257, s258, s259, s260, s261, s262, s263, s264, .slice (some ⟨gl, 0, none⟩) 8 8, .int .i64 8, u267, u268, u269, u270, u271, u272, u273, u274, u275, u276, u277, u278, u279, u280, u281, s282, s283, s284, s285, s286, s287, s288, s289, s290, s291, s292, s293, s294, s295, s296, s297, s298, s299, s300, s301], []⟩ w')) :
    Code.wp Tryd.prog ((Tryd.f51.body.bind (inBlock 14)).getD .skip) (Exit.inBlock 14 Q) ⟨#[s0, s1, s2, s3, s4, .slice (some ⟨gh, 0, none⟩) 8 caph, s6, s7, s8, s9, s10, s11, s12, s13, s14, s15, s16, s17, s18, s19, s20, s21, s22, s23, s24, s25, s26, s27, s28, s29, s30, s31, s32, s33, s34, s35, s36, s37, s38, s39, s40, s41, s42, s43, s44, s45, s46, s47, s48, s49, s50, s51, s52, s53, s54, s55, s56, s57, s58, s59, s60, s61, s62, s63, s64, s65, s66, s67, s68, s69, s70, s71, s72, s73, s74, s75, s76, s77, s78, s79, s80, s81, s82, s83, s84, s85, s86, s87, s88, s89, s90, s91, s92, s93, s94, s95, s96, s97, s98, s99, s100, s101, s102, s103, s104, s105, s106, s107, s108, s109, s110, s111, s112, s113, s114, s115, s116, s117, s118, s119, s120, s121, s122, s123, s124, s125, s126, s127, s128, s129, s130, s131, s132, s133, s134, s135, s136, s137, s138, s139, s140, s141, s142, s143, s144, s145, s146, s147, s148, s149, s150, s151, s152, s153, s154, s155, s156, s157, s158, s159, s160, s161, s162, s163, s164, s165, s166, s167, s168, s169, s170, s171, s172, s173, s174, s175, s176, s177, s178, s179, s180, s181, s182, s183, s184, s185, s186, s187, s188, s189, s190, s191, s192, s193, s194, s195, s196, s197, s198, s199, s200, s201, s202, s203, s204, s205, s206, s207, s208, s209, s210, s211, s212, s213, s214, s215, s216, s217, s218, s219, s220, s221, s222, s223, s224, s225, s226, s227, s228, s229, s230, s231, s232, s233, s234, s235, s236, s237, s238, s239, s240, s241, s242, s243, s244, s245, s246, s247, s248, s249, s250, s251, s252, s253, s254, s255, s256, s257, s258, s259, s260, s261, s262, s263, s264, .slice (some ⟨gl, 0, none⟩) 8 8, .int .i64 8, .int .i64 0, s268, s269, s270, s271, s272, s273, s274, s275, s276, s277, s278, s279, s280, s281, s282, s283, s284, s285, s286, s287, s288, s289, s290, s291, s292, s293, s294, s295, s296, s297, s298, s299, s300, s301], []⟩ w := by
  conv => arg 2; whnf
  conv => arg 4; dsimp only
  go_loopw [267] (fun i wr => ∃ k : Nat, k ≤ 8 ∧ i = .int .i64 k ∧ (∀ i, i < 8 → wr.cell? ⟨gh, i, none⟩ = some (.int .u32 (u (if i < k then s.list.getD i 0 + r.list.getD i 0 else s.list.getD i 0))) ∧ wr.frozen? ⟨gh, i, none⟩ = false) ∧ w.grownBy wr (some gh)) (fun i _ => 8 - (intOf i).toNat)
  case atStart => exact ⟨0, by omega, rfl, fun i hi => by simpa using hh.out i hi, grown_refl _ _⟩
  case round =>
    obtain ⟨k, hk, rfl, hcell, hgr⟩ := hrel
    by_cases hlt : k < 8
    · have hlt' : (k : Int) < 8 := by omega
      obtain ⟨c1, f1⟩ := hcell k hlt
      rw [if_neg (Nat.lt_irrefl k)] at c1
      have c2 : wr.cell? ⟨gl, k, none⟩ = some (.int .u32 (u (r.list.getD k 0))) := by
        rw [← hr.out k hlt]
        exact World.cell?_of_block (hgr.block gl hgl (by simp; omega))
      have HC := hid hcell
      have HG := hid hgr
      clear hcell hgr
      obtain ⟨x, hx⟩ : ∃ x, s.list.getD k 0 = x := ⟨_, rfl⟩
      obtain ⟨y, hy⟩ : ∃ y, r.list.getD k 0 = y := ⟨_, rfl⟩
      rw [hx] at c1
      rw [hy] at c2
      have HX := hid hx
      have HY := hid hy
      clear hx hy
      go_wp2_with fail
      go_roundw
      case rel =>
        refine ⟨k + 1, by omega, by go_num, fun i hi => ?_, grown_trans HG.out (grown_set _ _ _ _)⟩
        refine ⟨?_, by rw [World.frozen?_setCell]; exact (HC.out i hi).2⟩
        by_cases e : i = k
        · subst e
          rw [World.cell?_setCell_same _ _ _ c1, if_pos (by omega), HX.out, HY.out]
        · rw [World.cell?_setCell_other _ _ _ _ (by intro h; cases h; exact e rfl), (HC.out i hi).1]
          by_cases q : i < k
          · rw [if_pos q, if_pos (by omega)]
          · rw [if_neg q, if_neg (by omega)]
      case measure => simp [intOf]; omega
    · obtain rfl : k = 8 := by omega
      have HC : Hid (Eight wr gh (s.plus r)) := hid (fun i hi => by
        rw [plus_at s r i hi]
        have h := hcell i hi
        rw [if_pos hi] at h
        exact h)
      have HG := hid hgr
      clear hcell hgr hr hh
      go_wp2_with fail
      apply hQ.out
      · exact HC.out
      · exact HG.out
end Go.Proofs.YtjfhhlgblmjonaaDoor
