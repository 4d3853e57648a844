/-
  The document's Sum, its block 6: block by block.
-/
import Derived.Test.YtjfhhlgblmjonaaDoorRefSumB8
import Derived.Test.YtjfhhlgblmjonaaDoorRefSumB12
namespace Go.Proofs.YtjfhhlgblmjonaaDoor
open Go.RowKit
set_option maxRecDepth 1000000 in
set_option maxHeartbeats 4000000 in
theorem main_block (s0 s1 s2 s3 s6 s7 s9 s10 s12 s13 s14 s15 s16 s17 s18 s19 s20 s21 s22 s23 s24 s25 s26 s27 s28 s29 s30 s31 s32 s33 s34 s35 s36 s37 s38 s39 s40 s41 s42 s43 s44 s45 s46 s47 s48 s49 s50 s51 s52 s53 s54 s55 s56 s57 s58 s59 s60 s61 s62 s63 s64 s65 s66 s67 s68 s69 s70 s71 s72 s73 s74 s75 s76 s77 s78 s79 s80 s81 s82 s83 s84 s85 s86 s87 s88 s89 s90 s91 s92 s93 s94 s95 s96 s97 s98 s99 s100 s101 s102 s103 s104 s105 s106 s107 s108 s109 s110 s111 s112 s113 s114 s115 s116 s117 s118 s119 s120 s121 s122 s123 s124 s125 s126 s127 s128 s129 s130 s131 s132 s133 s134 s135 s136 s137 s138 s139 s140 s141 s142 s143 s144 s145 s146 s147 s148 s149 s150 s151 s152 s153 s154 s155 s156 s157 s158 s159 s160 s161 s162 s163 s164 s165 s166 s167 s168 s169 s170 s171 s172 s173 s174 s175 s176 s177 s178 s179 s180 s181 s182 s183 s184 s185 s186 s187 s188 s189 s190 s191 s192 s193 s194 s195 s196 s197 s198 s199 s200 s201 s202 s203 s204 s205 s206 s207 s208 s209 s210 s211 s212 s213 s214 s215 s216 s217 s218 s219 s220 s221 s222 s223 s224 s225 s226 s227 s228 s229 s230 s231 s232 s233 s234 s235 s236 s237 s238 s239 s240 s241 s242 s243 s244 s245 s246 s247 s248 s249 s250 s251 s252 s253 s254 s255 s256 s257 s258 s259 s260 s261 s262 s263 s264 s265 s266 s267 s268 s269 s270 s271 s272 s273 s274 s275 s276 s277 s278 s279 s280 s281 s282 s283 s284 s285 s286 s287 s288 s289 s290 s291 s292 s293 s294 s295 s296 s297 s298 s299 s300 s301 : Value) (gk capk gh caph gm M capm nb : Nat) (P : List (BitVec 8)) (so : Oct) (w : World) (hkh : gk ≠ gh) (hmh : gm ≠ gh) (hgk : gk < w.heap.size) (hgh : gh < w.heap.size) (hgm : gm < w.heap.size)
    (hM : M = 64 * nb) (hM48 : M < 140737488353000) (hcap : M ≤ capm) (hm : Hid (∀ i, i < M → w.cell? ⟨gm, i, none⟩ = some (.int .u8 (b8 (P.getD i 0))))) (hk : Hid (∀ t, t < 64 → w.cell? ⟨gk, t, none⟩ = some (.int .u32 (u (kTab.getD t 0)))))
    (hh : Hid (Eight w gh so)) (Q : Exit → Act → World → Prop)
    (hQ : Hid (∀ (u11 u12 u13 u14 u15 u16 u17 u18 u19 u20 u21 u22 u23 u24 u25 u26 u27 u28 u29 u30 u31 u32 u33 u87 u88 u89 u90 u91 u92 u93 u94 u95 u96 u97 u98 u99 u100 u101 u102 u103 u104 u105 u106 u107 u108 u109 u110 u111 u112 u113 u114 u115 u116 u117 u118 u119 u120 u121 u122 u123 u124 u125 u126 u127 u128 u129 u130 u131 u132 u133 u134 u135 u136 u137 u138 u139 u140 u141 u142 u143 u144 u145 u146 u147 u148 u149 u150 u151 u152 u153 u154 u155 u156 u157 u158 u159 u160 u161 u162 u163 u164 u165 u166 u167 u168 u169 u170 u171 u172 u173 u174 u175 u176 u177 u178 u179 u180 u181 u182 u183 u184 u185 u186 u187 u188 u189 u190 u191 u192 u193 u194 u195 u196 u197 u198 u199 u200 u201 u202 u203 u204 u205 u206 u207 u208 u209 u210 u211 u212 u213 u214 u215 u216 u217 u218 u219 u220 u221 u222 u223 u224 u225 u226 u227 u228 u229 u230 u231 u232 u233 u234 u235 u236 u237 u238 u239 u240 u241 u242 u243 u244 u245 u246 u247 u248 u249 u250 u251 u252 u253 u254 u255 u256 u257 u258 u259 u260 u261 u262 u263 u264 u265 u266 u267 u268 u269 u270 u271 u272 u273 u274 u275 u276 u277 u278 u279 u280 u281 : Value) (w' : World), Eight w' gh (mixAll nb so P) → w.grownBy w' (some gh) → Q .normal ⟨#[s0, s1, s2, s3, .slice (some ⟨gk, 0, none⟩) 64 capk, .slice (some ⟨gh, 0, none⟩) 8 caph, s6, s7, .slice (some ⟨gm, 0, none⟩) M capm, s9, s10, u11, u12, u13, u14, u15, u16, u17, u18, u19, u20, u21, u22, u23, u24, u25, u26, u27, u28, u29, u30, u31, u32, u33, s34, s35, s36, s37, s38, s39, s40, s41, s42, s43, s44, s45, s46, s47, s48, s49, s50, s51, s52, s53, s54, s55, s56, s57, s58, s59, s60, s61, s62, s63, s64, s65, s66, s67, s68, s69, s70, s71, s72, s73, s74, s75, s76, s77, s78, s79, s80, s81, s82, s83, s84, s85, s86, u87, u88, u89, u90, u91, u92, u93, u94, u95, u96, u97, u98, u99, u100, u101, u102, u103, u104, u105, u106, u107, u108, u109, u110, u111, u112, u113, u114, u115, u116, u117, u118, u119, u120, u121, u122, u123, u124, u125, u126, u127, u128, u129, u130, u131, u132, u133, u134, u135, u136, u137, u138, u139, u140, u141, u142, u143, u144, u145, u146, u147, u148, u149, u150, u151, u152, u153, u154, u155, u156, u157, u158, u159, u160, u161, u162, u163, u164, u165, u166, u167, u168, u169, u170, u171, u172, u173, u174, u175, u176, u177, u178, u179, u180, u181, u182, u183, u184, u185, u186, u187, u188, u189, u190, u191, u192, u193, u194, u195, u196, u197, u198, u199, u200, u201, u202, u203, u204, u205, u206, u207, u208, u209, u210, u211, u212, u213, u214, u215, u216, u217, u218, u219, u220, u221, u222, u223, u224, u225, u226, u227, u228, u229, u230, u231, u232, u233, u234, u235, u236, u237, u238, u239, u240, u241, u242, u243, u244, u245, u246, u247, u248, u249, u250, u251, u252, u253, u254, u255, u256, u257, u258, u259, u260, u261, u262, u263, u264, u265, u266, u267, u268, u269, u270, u271, u272, u273, u274, u275, u276, u277, u278, u279, u280, u281, s282, s283, s284, s285, s286, s287, s288, s289, s290, s291, s292, s293, s294, s295, s296, s297, s298, s299, s300, s301], []⟩ w')) :
    Code.wp Tryd.prog ((Tryd.f51.body.bind (inBlock 6)).getD .skip) (Exit.inBlock 6 Q) ⟨#[s0, s1, s2, s3, .slice (some ⟨gk, 0, none⟩) 64 capk, .slice (some ⟨gh, 0, none⟩) 8 caph, s6, s7, .slice (some ⟨gm, 0, none⟩) M capm, s9, s10, .int .i64 0, s12, s13, s14, s15, s16, s17, s18, s19, s20, s21, s22, s23, s24, s25, s26, s27, s28, s29, s30, s31, s32, s33, s34, s35, s36, s37, s38, s39, s40, s41, s42, s43, s44, s45, s46, s47, s48, s49, s50, s51, s52, s53, s54, s55, s56, s57, s58, s59, s60, s61, s62, s63, s64, s65, s66, s67, s68, s69, s70, s71, s72, s73, s74, s75, s76, s77, s78, s79, s80, s81, s82, s83, s84, s85, s86, s87, s88, s89, s90, s91, s92, s93, s94, s95, s96, s97, s98, s99, s100, s101, s102, s103, s104, s105, s106, s107, s108, s109, s110, s111, s112, s113, s114, s115, s116, s117, s118, s119, s120, s121, s122, s123, s124, s125, s126, s127, s128, s129, s130, s131, s132, s133, s134, s135, s136, s137, s138, s139, s140, s141, s142, s143, s144, s145, s146, s147, s148, s149, s150, s151, s152, s153, s154, s155, s156, s157, s158, s159, s160, s161, s162, s163, s164, s165, s166, s167, s168, s169, s170, s171, s172, s173, s174, s175, s176, s177, s178, s179, s180, s181, s182, s183, s184, s185, s186, s187, s188, s189, s190, s191, s192, s193, s194, s195, s196, s197, s198, s199, s200, s201, s202, s203, s204, s205, s206, s207, s208, s209, s210, s211, s212, s213, s214, s215, s216, s217, s218, s219, s220, s221, s222, s223, s224, s225, s226, s227, s228, s229, s230, s231, s232, s233, s234, s235, s236, s237, s238, s239, s240, s241, s242, s243, s244, s245, s246, s247, s248, s249, s250, s251, s252, s253, s254, s255, s256, s257, s258, s259, s260, s261, s262, s263, s264, s265, s266, s267, s268, s269, s270, s271, s272, s273, s274, s275, s276, s277, s278, s279, s280, s281, s282, s283, s284, s285, s286, s287, s288, s289, s290, s291, s292, s293, s294, s295, s296, s297, s298, s299, s300, s301], []⟩ w := by
  conv => arg 2; whnf
  conv => arg 4; dsimp only
  have HM := hid hM
  clear hM
  go_loopw [11] (fun iv w' => ∃ j : Nat, j ≤ nb ∧ iv = .int .i64 (64 * (j : Int)) ∧ Eight w' gh (mixAll j so P) ∧ w.grownBy w' (some gh)) (fun iv _ => M - (intOf iv).toNat)
  case atStart => exact ⟨0, by omega, by go_num, hh.out, grown_refl _ _⟩
  case round =>
    clear hh
    obtain ⟨j, hj, rfl, hh, hgr⟩ := hrel
    have hszC := hgr.size
    by_cases hlt : j < nb
    · have hlt' : 64 * (j : Int) < (M : Int) := by have := HM.out; omega
      have hlt2 : 64 * j + 64 ≤ M := by have := HM.out; omega
      obtain ⟨blk, hblk⟩ : ∃ blk, (P.drop (64 * j)).take 64 = blk := ⟨_, rfl⟩
      have HMC : Hid (∀ i, i < 64 → wr.cell? ⟨gm, 64 * j + i, none⟩ = some (.int .u8 (b8 (blk.getD i 0)))) := hid (fun i hi => by
        have h1 := hm.out (64 * j + i) (by omega)
        rw [← hblk]
        have e : ((P.drop (64 * j)).take 64).getD i 0 = P.getD (64 * j + i) 0 := by simp [hi]
        rw [e, ← h1]
        exact World.cell?_of_block (hgr.block gm hgm (by simp; omega)))
      have HKC : Hid (∀ t, t < 64 → wr.cell? ⟨gk, t, none⟩ = some (.int .u32 (u (kTab.getD t 0)))) := hid (fun t ht => by
        rw [← hk.out t ht]
        exact World.cell?_of_block (hgr.block gk hgk (by simp; omega)))
      have hnext := hid (mixAll_succ j so P)
      rw [hblk] at hnext
      obtain ⟨s, hs⟩ : ∃ s, mixAll j so P = s := ⟨_, rfl⟩
      rw [hs] at hnext hh
      have HHH := hid hh
      have HGR := hid hgr
      clear hh hgr hblk hs
      have hgmr : gm < wr.heap.size := by omega
      go_wp2_with fail
      refine sched_block _ _ _ _ _ _ _ _ _ _ _ _ _ _ _ _ _ _ _ _ _ _ _ _ _ _ _ _ _ _ _ _ _ _ _ _ _ _ _ _ _ _ _ _ _ _ _ _ _ _ _ _ _ _ _ _ _ _ _ _ _ _ _ _ _ _ _ _ _ _ _ _ _ _ _ _ _ _ _ _ _ _ _ _ _ _ _ _ _ _ _ _ _ _ _ _ _ _ _ _ _ _ _ _ _ _ _ _ _ _ _ _ _ _ _ _ _ _ _ _ _ _ _ _ _ _ _ _ _ _ _ _ _ _ _ _ _ _ _ _ _ _ _ _ _ _ _ _ _ _ _ _ _ _ _ _ _ _ _ _ _ _ _ _ _ _ _ _ _ _ _ _ _ _ _ _ _ _ _ _ _ _ _ _ _ _ _ _ _ _ _ _ _ _ _ _ _ _ _ _ _ _ _ _ _ _ _ _ _ _ _ _ _ _ _ _ _ _ _ _ _ _ _ _ _ _ _ _ _ _ _ _ _ _ _ _ _ _ _ _ _ _ _ _ _ _ _ _ _ _ _ _ _ _ _ _ _ _ _ _ _ _ _ _ _ _ _ _ _ _ _ _ _ _ _ _ _ _ _ _ _ _ _ _ _ _ _ _ _ _ _ _ _ _ _ _ _ _ gm M capm j blk wr hlt2 hM48 hcap HMC hgmr _ (hid ?_)
      intro u13 u14 u16 u17 u18 u93 u94 u95 u96 u97 u98 u99 u100 u101 u102 u103 u104 u105 u106 u107 u108 u109 u110 u111 u112 u113 u114 u115 u116 u117 u118 u119 u120 u121 u122 u123 u124 u125 u126 u127 u128 u129 u130 u131 u132 u133 u134 u135 u136 u137 u138 u139 u140 u141 u142 u143 u144 u145 u146 u147 u148 u149 u150 u151 u152 u153 u154 u155 u156 u157 u158 u159 u160 u161 u162 u163 u164 u165 u166 vw w1 hownw hbw
      obtain ⟨ow, capw, rfl, _, hsw⟩ := ownsRow_shape hownw
      obtain ⟨gw, rfl, hgw, hglw, hcw⟩ := hsw (by omega)
      have hsz1 := hbw.size
      have HHH1 : Hid (Eight w1 gh s) := hid (fun i hi => by
        rw [hbw.cell (by show gh < _; omega), hbw.frozen (by show gh < _; omega)]; exact HHH.out i hi)
      have HKC1 : Hid (∀ t, t < 64 → w1.cell? ⟨gk, t, none⟩ = some (.int .u32 (u (kTab.getD t 0)))) := hid (fun t ht => by
        rw [hbw.cell (by show gk < _; omega)]; exact HKC.out t ht)
      have HWC1 : Hid (∀ t, t < 64 → w1.cell? ⟨gw, t, none⟩ = some (.int .u32 (u ((wTo blk 64).getD t 0)))) := hid (fun t ht => by
        rw [(hcw t ht).1, List.getElem?_map, getD_some (wTo blk 64) t 0 (by rw [wTo_length]; exact ht)]; rfl)
      have HG1 := hid (grown_trans HGR.out (grown_below (r := some gh) hbw))
      obtain ⟨c0, _⟩ := HHH1.out 0 (by omega)
      obtain ⟨c1, _⟩ := HHH1.out 1 (by omega)
      obtain ⟨c2, _⟩ := HHH1.out 2 (by omega)
      obtain ⟨c3, _⟩ := HHH1.out 3 (by omega)
      obtain ⟨c4, _⟩ := HHH1.out 4 (by omega)
      obtain ⟨c5, _⟩ := HHH1.out 5 (by omega)
      obtain ⟨c6, _⟩ := HHH1.out 6 (by omega)
      obtain ⟨c7, _⟩ := HHH1.out 7 (by omega)
      replace c0 : w1.cell? ⟨gh, 0, none⟩ = some (.int .u32 (u s.a)) := c0
      replace c1 : w1.cell? ⟨gh, 1, none⟩ = some (.int .u32 (u s.b)) := c1
      replace c2 : w1.cell? ⟨gh, 2, none⟩ = some (.int .u32 (u s.c)) := c2
      replace c3 : w1.cell? ⟨gh, 3, none⟩ = some (.int .u32 (u s.d)) := c3
      replace c4 : w1.cell? ⟨gh, 4, none⟩ = some (.int .u32 (u s.e)) := c4
      replace c5 : w1.cell? ⟨gh, 5, none⟩ = some (.int .u32 (u s.f)) := c5
      replace c6 : w1.cell? ⟨gh, 6, none⟩ = some (.int .u32 (u s.g)) := c6
      replace c7 : w1.cell? ⟨gh, 7, none⟩ = some (.int .u32 (u s.h)) := c7
      clear hownw hbw hsw hcw HGR HMC HHH HKC hgw
      go_wp2_with fail
      refine region_still (by kernel_rfl) (by kernel_rfl) ?_
      repeat still_step
      refine wpStill_nil ?_
      go_wp2_with fail
      refine region_still (by kernel_rfl) (by kernel_rfl) ?_
      repeat still_step
      refine wpStill_nil ?_
      clear c0 c1 c2 c3 c4 c5 c6 c7
      go_wp2_with fail
      refine rounds_block _ _ _ _ _ _ _ _ _ _ _ _ _ _ _ _ _ _ _ _ _ _ _ _ _ _ _ _ _ _ _ _ _ _ _ _ _ _ _ _ _ _ _ _ _ _ _ _ _ _ _ _ _ _ _ _ _ _ _ _ _ _ _ _ _ _ _ _ _ _ _ _ _ _ _ _ _ _ _ _ _ _ _ _ _ _ _ _ _ _ _ _ _ _ _ _ _ _ _ _ _ _ _ _ _ _ _ _ _ _ _ _ _ _ _ _ _ _ _ _ _ _ _ _ _ _ _ _ _ _ _ _ _ _ _ _ _ _ _ _ _ _ _ _ _ _ _ _ _ _ _ _ _ _ _ _ _ _ _ _ _ _ _ _ _ _ _ _ _ _ _ _ _ _ _ _ _ _ _ _ _ _ _ _ _ _ _ _ _ _ _ _ _ _ _ _ _ _ _ _ _ _ _ _ _ _ _ _ _ _ _ _ _ _ _ _ _ _ _ _ _ _ _ _ _ _ _ _ _ _ _ _ _ _ _ _ _ _ _ _ _ _ _ _ _ _ _ _ _ _ _ _ _ _ _ _ _ _ _ _ _ _ _ _ _ _ _ _ _ _ _ _ _ _ _ _ _ _ _ _ _ _ _ _ _ _ _ _ _ _ _ gk capk gw capw (wTo blk 64) s w1.drew.drew (hid HKC1.out) (hid HWC1.out) _ (hid ?_)
      intro u27 u28 u29 u30 u31 u191 u192 u193 u194 u195 u196 u197 u198 u199 u200 u201 u202 u203 u204 u205 u206 u207 u208 u209 u210 u211 u212 u213 u214 u215 u216 u217 u218 u219 u220 u221 u222 u223 u224 u225 u226 u227 u228 u229 u230 u231 u232 u233 u234 u235 u236 u237 u238 u239 u240 u241 u242 u243 u244 u245 u246 u247 u248 u249 u250 u251 u252 u253 u254 u255 u256 n
      obtain ⟨w2, hw2⟩ : ∃ w2, w1.drew.drew.drewN n = w2 := ⟨_, rfl⟩
      have HHH2 : Hid (Eight w2 gh s) := hid (by rw [← hw2]; exact HHH1.out)
      have HG2 : Hid (w.grownBy w2 (some gh)) := hid (by rw [← hw2]; exact ⟨HG1.out.os, HG1.out.tape, HG1.out.output, HG1.out.size, HG1.out.block⟩)
      have hsz2 : w.heap.size ≤ w2.heap.size := HG2.out.size
      rw [hw2]
      clear hw2 HHH1 HG1 HKC1 HWC1 hsz1 hglw
      obtain ⟨r, hr⟩ : ∃ r, rTo (wTo blk 64) s 64 = r := ⟨_, rfl⟩
      rw [hr]
      have hmix := hid (show mixAll (j + 1) so P = s.plus r by rw [hnext.out, ← hr]; rfl)
      clear hr hnext
      have HN : Hid (∀ (o : Obj), Eight (w2.alloc o) gh s ∧ w.grownBy (w2.alloc o) (some gh)) := hid (fun o => by
        have hb := (Below.refl w2.heap.size w2).alloc (Nat.le_refl _) o
        refine ⟨fun i hi => ?_, grown_trans HG2.out (grown_below (r := some gh) hb)⟩
        rw [hb.cell (by show gh < _; omega), hb.frozen (by show gh < _; omega)]
        exact HHH2.out i hi)
      go_wp2_with fail
      refine plus_block _ _ _ _ _ _ _ _ _ _ _ _ _ _ _ _ _ _ _ _ _ _ _ _ _ _ _ _ _ _ _ _ _ _ _ _ _ _ _ _ _ _ _ _ _ _ _ _ _ _ _ _ _ _ _ _ _ _ _ _ _ _ _ _ _ _ _ _ _ _ _ _ _ _ _ _ _ _ _ _ _ _ _ _ _ _ _ _ _ _ _ _ _ _ _ _ _ _ _ _ _ _ _ _ _ _ _ _ _ _ _ _ _ _ _ _ _ _ _ _ _ _ _ _ _ _ _ _ _ _ _ _ _ _ _ _ _ _ _ _ _ _ _ _ _ _ _ _ _ _ _ _ _ _ _ _ _ _ _ _ _ _ _ _ _ _ _ _ _ _ _ _ _ _ _ _ _ _ _ _ _ _ _ _ _ _ _ _ _ _ _ _ _ _ _ _ _ _ _ _ _ _ _ _ _ _ _ _ _ _ _ _ _ _ _ _ _ _ _ _ _ _ _ _ _ _ _ _ _ _ _ _ _ _ _ _ _ _ _ _ _ _ _ _ _ _ _ _ _ _ _ _ _ _ _ _ _ _ _ _ _ _ _ _ _ _ _ _ _ _ _ _ _ _ _ _ _ _ _ _ _ _ _ _ _ _ _ _ _ _ _ _ _ _ _ _ _ _ gh caph w2.heap.size s r _ (by omega) (by simp) (hid (HN.out _).1) (hid ?_) _ (hid ?_)
      · intro i hi
        match i, hi with
        | 0, _ | 1, _ | 2, _ | 3, _ | 4, _ | 5, _ | 6, _ | 7, _ => simp [World.cell?_alloc_new, Oct.list]
      intro u32 u33 u267 u268 u269 u270 u271 u272 u273 u274 u275 u276 u277 u278 u279 u280 u281 w3 h83 hg3
      have HH3 := hid h83
      have HG3 := hid (grown_trans (HN.out _).2 hg3)
      clear h83 hg3 HN HG2 HHH2
      go_wp2_with fail
      go_roundw
      case rel =>
        refine ⟨j + 1, by omega, by go_num, ?_, HG3.out⟩
        rw [hmix.out]; exact HH3.out
      case measure => simp [intOf]; omega
    · obtain rfl : j = nb := by omega
      have hge : (M : Int) ≤ 64 * (j : Int) := by have := HM.out; omega
      have HC := hid hh
      have HG := hid hgr
      clear hh hgr hm hk
      go_wp2_with fail
      apply hQ.out
      · exact HC.out
      · exact HG.out
end Go.Proofs.YtjfhhlgblmjonaaDoor
