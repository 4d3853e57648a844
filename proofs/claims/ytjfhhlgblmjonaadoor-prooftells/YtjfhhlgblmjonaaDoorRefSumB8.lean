/-
  The document's Sum, its block 8: a block's schedule of 64 words.
-/
import Derived.Test.YtjfhhlgblmjonaaDoorRefShaA
namespace Go.Proofs.YtjfhhlgblmjonaaDoor
open Go.RowKit
attribute [local go_sem] u_xor u_and u_or u_add u_add' u_andNot u_mul256 wrap_b8 u_shr3 u_shr10
set_option maxRecDepth 1000000 in
set_option maxHeartbeats 4000000 in
theorem sched_block (s0 s1 s2 s3 s4 s5 s6 s7 s9 s10 s14 s15 s16 s17 s18 s19 s20 s21 s22 s23 s24 s25 s26 s27 s28 s29 s30 s31 s32 s33 s34 s35 s36 s37 s38 s39 s40 s41 s42 s43 s44 s45 s46 s47 s48 s49 s50 s51 s52 s53 s54 s55 s56 s57 s58 s59 s60 s61 s62 s63 s64 s65 s66 s67 s68 s69 s70 s71 s72 s73 s74 s75 s76 s77 s78 s79 s80 s81 s82 s83 s84 s85 s86 s87 s88 s89 s90 s91 s92 s93 s94 s95 s96 s97 s98 s99 s100 s101 s102 s103 s104 s105 s106 s107 s108 s109 s110 s111 s112 s113 s114 s115 s116 s117 s118 s119 s120 s121 s122 s123 s124 s125 s126 s127 s128 s129 s130 s131 s132 s133 s134 s135 s136 s137 s138 s139 s140 s141 s142 s143 s144 s145 s146 s147 s148 s149 s150 s151 s152 s153 s154 s155 s156 s157 s158 s159 s160 s161 s162 s163 s164 s165 s166 s167 s168 s169 s170 s171 s172 s173 s174 s175 s176 s177 s178 s179 s180 s181 s182 s183 s184 s185 s186 s187 s188 s189 s190 s191 s192 s193 s194 s195 s196 s197 s198 s199 s200 s201 s202 s203 s204 s205 s206 s207 s208 s209 s210 s211 s212 s213 s214 s215 s216 s217 s218 s219 s220 s221 s222 s223 s224 s225 s226 s227 s228 s229 s230 s231 s232 s233 s234 s235 s236 s237 s238 s239 s240 s241 s242 s243 s244 s245 s246 s247 s248 s249 s250 s251 s252 s253 s254 s255 s256 s257 s258 s259 s260 s261 s262 s263 s264 s265 s266 s267 s268 s269 s270 s271 s272 s273 s274 s275 s276 s277 s278 s279 s280 s281 s282 s283 s284 s285 s286 s287 s288 s289 s290 s291 s292 s293 s294 s295 s296 s297 s298 s299 s300 s301 : Value) (gm M capm j : Nat) (blk : List (BitVec 8)) (w : World) (hM : 64 * j + 64 ≤ M) (hM48 : M < 140737488353000) (hcap : M ≤ capm)
    (hm : Hid (∀ i, i < 64 → w.cell? ⟨gm, 64 * j + i, none⟩ = some (.int .u8 (b8 (blk.getD i 0))))) (hgm : gm < w.heap.size) (Q : Exit → Act → World → Prop)
    (hQ : Hid (∀ (u13 u14 u16 u17 u18 u93 u94 u95 u96 u97 u98 u99 u100 u101 u102 u103 u104 u105 u106 u107 u108 u109 u110 u111 u112 u113 u114 u115 u116 u117 u118 u119 u120 u121 u122 u123 u124 u125 u126 u127 u128 u129 u130 u131 u132 u133 u134 u135 u136 u137 u138 u139 u140 u141 u142 u143 u144 u145 u146 u147 u148 u149 u150 u151 u152 u153 u154 u155 u156 u157 u158 u159 u160 u161 u162 u163 u164 u165 u166 v : Value) (w' : World), w'.ownsRow w.heap.size 69 1 v 64 ((wTo blk 64).map U) → Below w.heap.size w w' →
      Q .normal ⟨#[s0, s1, s2, s3, s4, s5, s6, s7, .slice (some ⟨gm, 0, none⟩) M capm, s9, s10, .int .i64 (64 * (j : Int)), v, u13, u14, s15, u16, u17, u18, s19, s20, s21, s22, s23, s24, s25, s26, s27, s28, s29, s30, s31, s32, s33, s34, s35, s36, s37, s38, s39, s40, s41, s42, s43, s44, s45, s46, s47, s48, s49, s50, s51, s52, s53, s54, s55, s56, s57, s58, s59, s60, s61, s62, s63, s64, s65, s66, s67, s68, s69, s70, s71, s72, s73, s74, s75, s76, s77, s78, s79, s80, s81, s82, s83, s84, s85, s86, s87, s88, s89, s90, s91, s92, u93, u94, u95, u96, u97, u98, u99, u100, u101, u102, u103, u104, u105, u106, u107, u108, u109, u110, u111, u112, u113, u114, u115, u116, u117, u118, u119, u120, u121, u122, u123, u124, u125, u126, u127, u128, u129, u130, u131, u132, u133, u134, u135, u136, u137, u138, u139, u140, u141, u142, u143, u144, u145, u146, u147, u148, u149, u150, u151, u152, u153, u154, u155, u156, u157, u158, u159, u160, u161, u162, u163, u164, u165, u166, s167, s168, s169, s170, s171, s172, s173, s174, s175, s176, s177, s178, s179, s180, s181, s182, s183, s184, s185, s186, s187, s188, s189, s190, s191, s192, s193, s194, s195, s196, s197, s198, s199, s200, s201, s202, s203, s204, s205, s206, s207, s208, s209, s210, s211, s212, s213, s214, s215, s216, s217, s218, s219, s220, s221, s222, s223, s224, s225, s226, s227, s228, s229, s230, s231, s232, s233, s234, s235, s236, s237, s238, s239, s240, s241, s242, s243, s244, s245, s246, s247, s248, s249, s250, s251, s252, s253, s254, s255, s256, s257, s258, s259, s260, s261, s262, s263, s264, s265, s266, s267, s268, s269, s270, s271, s272, s273, s274, s275, s276, s277, s278, s279, s280, s281, s282, s283, s284, s285, s286, s287, s288, s289, s290, s291, s292, s293, s294, s295, s296, s297, s298, s299, s300, s301], []⟩ w')) :
    Code.wp Tryd.prog ((Tryd.f51.body.bind (inBlock 8)).getD .skip) (Exit.inBlock 8 Q) ⟨#[s0, s1, s2, s3, s4, s5, s6, s7, .slice (some ⟨gm, 0, none⟩) M capm, s9, s10, .int .i64 (64 * (j : Int)), .slice none 0 0, .int .i64 0, s14, s15, s16, s17, s18, s19, s20, s21, s22, s23, s24, s25, s26, s27, s28, s29, s30, s31, s32, s33, s34, s35, s36, s37, s38, s39, s40, s41, s42, s43, s44, s45, s46, s47, s48, s49, s50, s51, s52, s53, s54, s55, s56, s57, s58, s59, s60, s61, s62, s63, s64, s65, s66, s67, s68, s69, s70, s71, s72, s73, s74, s75, s76, s77, s78, s79, s80, s81, s82, s83, s84, s85, s86, s87, s88, s89, s90, s91, s92, s93, s94, s95, s96, s97, s98, s99, s100, s101, s102, s103, s104, s105, s106, s107, s108, s109, s110, s111, s112, s113, s114, s115, s116, s117, s118, s119, s120, s121, s122, s123, s124, s125, s126, s127, s128, s129, s130, s131, s132, s133, s134, s135, s136, s137, s138, s139, s140, s141, s142, s143, s144, s145, s146, s147, s148, s149, s150, s151, s152, s153, s154, s155, s156, s157, s158, s159, s160, s161, s162, s163, s164, s165, s166, s167, s168, s169, s170, s171, s172, s173, s174, s175, s176, s177, s178, s179, s180, s181, s182, s183, s184, s185, s186, s187, s188, s189, s190, s191, s192, s193, s194, s195, s196, s197, s198, s199, s200, s201, s202, s203, s204, s205, s206, s207, s208, s209, s210, s211, s212, s213, s214, s215, s216, s217, s218, s219, s220, s221, s222, s223, s224, s225, s226, s227, s228, s229, s230, s231, s232, s233, s234, s235, s236, s237, s238, s239, s240, s241, s242, s243, s244, s245, s246, s247, s248, s249, s250, s251, s252, s253, s254, s255, s256, s257, s258, s259, s260, s261, s262, s263, s264, s265, s266, s267, s268, s269, s270, s271, s272, s273, s274, s275, s276, s277, s278, s279, s280, s281, s282, s283, s284, s285, s286, s287, s288, s289, s290, s291, s292, s293, s294, s295, s296, s297, s298, s299, s300, s301], []⟩ w := by
  conv => arg 2; whnf
  conv => arg 4; dsimp only
  obtain ⟨i32, hi32, hz32, hs32, hb32⟩ := info_parts info_u32
  go_loopw [12, 13] (fun v i wr => ∃ t : Nat, t ≤ 64 ∧ i = .int .i64 t ∧ wr.ownsRow w.heap.size 69 1 v t ((wTo blk t).map U) ∧ Below w.heap.size w wr) (fun _ i _ => 64 - (intOf i).toNat)
  case atStart => exact ⟨0, by omega, rfl, World.ownsRow_nil _ _ _ _, Below.refl _ _⟩
  case round =>
    obtain ⟨t, ht, rfl, hown, hbe⟩ := hrel
    have hszr := hbe.size
    have HO := hid hown
    have HB := hid hbe
    clear hown hbe
    by_cases hlt : t < 64
    · have hlt' : (t : Int) < 64 := by omega
      have hlen := wTo_length blk t
      by_cases h16 : t < 16
      · have h16' : (t : Int) < 16 := by omega
        have hl4 : 64 * j + 4 * t + 4 - (64 * j + 4 * t) = 4 := by omega
        have hnx := hid (show wTo blk (t + 1) = wTo blk t ++ [fold4 blk t 4] by rw [fold4_be4]; show wTo blk t ++ [wNext blk t (wTo blk t)] = _; unfold wNext; rw [if_pos h16])
        have HC : Hid (∀ r, r < 4 → wr.cell? ⟨gm, 64 * j + 4 * t + r, none⟩ = some (.int .u8 (b8 (blk.getD (4 * t + r) 0)))) := hid (fun r hr => by
          rw [HB.out.cell hgm, Nat.add_assoc]; exact hm.out (4 * t + r) (by omega))
        go_wp2_with fail
        clear hl4
        go_loopw [14, 111] (fun xv iv w' => ∃ r : Nat, r ≤ 4 ∧ iv = .int .i64 r ∧ xv = .int .u32 (u (fold4 blk t r)) ∧ wr = w') (fun _ iv _ => 4 - (intOf iv).toNat)
        case atStart => exact ⟨0, by omega, rfl, rfl, rfl⟩
        case round =>
          obtain ⟨r, hr, rfl, rfl, rfl⟩ := hrel
          by_cases hr4 : r < 4
          · have dr := HC.out r hr4
            have hstep := hid (show fold4 blk t (r + 1) = fold4 blk t r * 256 + (blk.getD (4 * t + r) 0).setWidth 32 from rfl)
            obtain ⟨c, hc⟩ : ∃ c, blk.getD (4 * t + r) 0 = c := ⟨_, rfl⟩
            obtain ⟨f, hf⟩ : ∃ f, fold4 blk t r = f := ⟨_, rfl⟩
            rw [hc] at dr hstep
            rw [hf] at hstep ⊢
            clear hc hf
            have hrl : (r : Int) < 4 := by omega
            go_wp2
            go_roundw
            case rel => exact ⟨r + 1, by omega, by go_num, by rw [hstep.out]; rfl, by trivial⟩
            case measure => simp [intOf]; omega
          · obtain rfl : r = 4 := by omega
            obtain ⟨x, hx⟩ : ∃ x, fold4 blk t 4 = x := ⟨_, rfl⟩
            rw [hx] at hnx ⊢
            clear hx HC
            go_wp2_with (at_builtin; refine wpList_append_own _ rfl (.tmp 121) (.tmp 123) 88 rfl w.heap.size 69 i32 (.int .u32 0) 1 4 Tryd.underlying88 hi32 hz32 hs32 hb32 rfl (by decide) _ _ _ rfl (HO.out.alloc _) ⟨wr.heap.size, 0, none⟩ 1 1 [U x] rfl rfl (cells_new _ _ _) (by simp [U, Value.oneCell']) (by unfold maxLen; omega) (by omega) (by simp; omega) ?_; intro v5 w5 hown5 hg5 _; have HO5 := hid hown5; have HB5 := hid (below_app HB.out hszr HO.out _ hg5); clear hown5 hg5)
            go_roundw
            case rel =>
              refine ⟨t + 1, by omega, by go_num, ?_, HB5.out⟩
              rw [hnx.out, List.map_append]; exact HO5.out
            case measure => simp [intOf]; omega
      · have h16' : (16 : Int) ≤ (t : Int) := by omega
        obtain ⟨ow, capw, rfl, _, hsw⟩ := ownsRow_shape HO.out
        obtain ⟨gw, rfl, hgw, hglw, hcw⟩ := hsw (by omega)
        have cw : ∀ i, i < t → wr.cell? ⟨gw, i, none⟩ = some (.int .u32 (u ((wTo blk t).getD i 0))) := fun i hi => by
          rw [(hcw i hi).1, List.getElem?_map, getD_some (wTo blk t) i 0 (by rw [hlen]; exact hi)]; rfl
        have hnx := hid (show wTo blk (t + 1) = wTo blk t ++ [sS1 ((wTo blk t).getD (t - 2) 0) + (wTo blk t).getD (t - 7) 0 + sS0 ((wTo blk t).getD (t - 15) 0) + (wTo blk t).getD (t - 16) 0] by
          show wTo blk t ++ [wNext blk t (wTo blk t)] = _; unfold wNext; rw [if_neg h16])
        have c2 := cw (t - 2) (by omega)
        have c7 := cw (t - 7) (by omega)
        have c15 := cw (t - 15) (by omega)
        have c16 := cw (t - 16) (by omega)
        clear cw hcw hsw hm hgm hcap hM
        generalize (wTo blk t).getD (t - 2) 0 = x2 at *
        generalize (wTo blk t).getD (t - 7) 0 = x7 at *
        generalize (wTo blk t).getD (t - 15) 0 = x15 at *
        generalize (wTo blk t).getD (t - 16) 0 = x16 at *
        have e2 : ((t : Int) - 2).toNat = t - 2 := by omega
        have e7 : ((t : Int) - 7).toNat = t - 7 := by omega
        have e15 : ((t : Int) - 15).toNat = t - 15 := by omega
        have e16 : ((t : Int) - 16).toNat = t - 16 := by omega
        have r2 : IntKind.i64.wrap ((t : Int) - 2) = (t : Int) - 2 := by simp [IntKind.wrap, IntKind.bits, IntKind.signed]; split <;> omega
        have r7 : IntKind.i64.wrap ((t : Int) - 7) = (t : Int) - 7 := by simp [IntKind.wrap, IntKind.bits, IntKind.signed]; split <;> omega
        have r15 : IntKind.i64.wrap ((t : Int) - 15) = (t : Int) - 15 := by simp [IntKind.wrap, IntKind.bits, IntKind.signed]; split <;> omega
        have r16 : IntKind.i64.wrap ((t : Int) - 16) = (t : Int) - 16 := by simp [IntKind.wrap, IntKind.bits, IntKind.signed]; split <;> omega
        have l2 : (t : Int) - 2 < (t : Int) := by omega
        have l7 : (t : Int) - 7 < (t : Int) := by omega
        have l15 : (t : Int) - 15 < (t : Int) := by omega
        have l16 : (t : Int) - 16 < (t : Int) := by omega
        have i2 : (2 : Int) ≤ (t : Int) := by omega
        have i7 : (7 : Int) ≤ (t : Int) := by omega
        have i15 : (15 : Int) ≤ (t : Int) := by omega
        go_wp2_with fail
        refine region_still (by kernel_rfl) (by kernel_rfl) ?_
        repeat still_step
        refine wpStill_nil ?_
        go_wp2_with fail
        obtain ⟨wd, hwd⟩ : ∃ wd, wr.drew = wd := ⟨_, rfl⟩
        have HOD : Hid (wd.ownsRow w.heap.size 69 1 (.slice (some ⟨gw, 0, none⟩) t capw) t ((wTo blk t).map U)) := hid (by rw [← hwd]; exact HO.out.drew)
        have HBD : Hid (Below w.heap.size w wd) := hid (by rw [← hwd]; exact HB.out.drew)
        have hszd : w.heap.size ≤ wd.heap.size := by rw [← hwd]; exact hszr
        replace c2 : wd.cell? ⟨gw, t - 2, none⟩ = some (.int .u32 (u x2)) := by rw [← hwd]; exact c2
        replace c7 : wd.cell? ⟨gw, t - 7, none⟩ = some (.int .u32 (u x7)) := by rw [← hwd]; exact c7
        replace c15 : wd.cell? ⟨gw, t - 15, none⟩ = some (.int .u32 (u x15)) := by rw [← hwd]; exact c15
        replace c16 : wd.cell? ⟨gw, t - 16, none⟩ = some (.int .u32 (u x16)) := by rw [← hwd]; exact c16
        rw [hwd]
        clear hwd HO HB hszr hglw hgw
        refine region_late 30 (.tmp 12) (fun _ _ => rfl) rfl (by kernel_rfl) (by kernel_rfl) ?_
        simp only [List.take_succ_cons, List.take_zero]
        repeat (quiet_step (exact turn_q _ _ _ rfl (by decide) (by decide) _ _))
        refine wpQuiet_nil ?_
        intro k
        obtain ⟨x, hx⟩ : ∃ x, x16 + (rotr x15 7 ^^^ rotr x15 18 ^^^ x15 >>> 3) + x7 + (rotr x2 17 ^^^ rotr x2 19 ^^^ x2 >>> 10) = x := ⟨_, rfl⟩
        obtain ⟨wk, hwk⟩ : ∃ wk, wd.drewN k = wk := ⟨_, rfl⟩
        have HOK : Hid (wk.ownsRow w.heap.size 69 1 (.slice (some ⟨gw, 0, none⟩) t capw) t ((wTo blk t).map U)) := hid (by rw [← hwk]; exact HOD.out)
        have HBK : Hid (Below w.heap.size w wk) := hid (by rw [← hwk]; exact below_drewN HBD.out k)
        have hszk : w.heap.size ≤ wk.heap.size := by rw [← hwk]; exact hszd
        rw [hwk, hx]
        clear hwk HOD HBD hszd c2 c7 c15 c16
        have HX := hid hx
        clear hx
        simp only [List.drop_succ_cons, List.drop_zero]
        go_wp2_with (at_builtin; refine wpList_append_own _ rfl (.tmp 135) (.tmp 165) 88 rfl w.heap.size 69 i32 (.int .u32 0) 1 4 Tryd.underlying88 hi32 hz32 hs32 hb32 rfl (by decide) _ _ _ rfl (HOK.out.alloc _) ⟨wk.heap.size, 0, none⟩ 1 1 [U x] rfl rfl (cells_new _ _ _) (by simp [U, Value.oneCell']) (by unfold maxLen; omega) (by omega) (by simp; omega) ?_; intro v5 w5 hown5 hg5 _; have HO5 := hid hown5; have HB5 := hid (below_app HBK.out hszk HOK.out _ hg5); clear hown5 hg5)
        refine ⟨⟨t + 1, by omega, by go_num, ?_, HB5.out⟩, ?_⟩
        · rw [hnx.out, sched_sum, List.map_append]
          have h := HO5.out
          rw [← HX.out] at h
          exact h
        · simp [intOf]; omega
    · obtain rfl : t = 64 := by omega
      go_wp2_with fail
      apply hQ.out
      · exact HO.out
      · exact HB.out
end Go.Proofs.YtjfhhlgblmjonaaDoor
