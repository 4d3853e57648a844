/-
  The document's Sum, its block 16: the eight words' bytes.
-/
import Derived.Test.YtjfhhlgblmjonaaDoorRefShaA
namespace Go.Proofs.YtjfhhlgblmjonaaDoor
open Go.RowKit
theorem wb_at (x : BitVec 32) (r : Nat) (h : r < 4) : (wordBytes x).take (r + 1) = (wordBytes x).take r ++ [(x >>> (8 * (3 - r))).setWidth 8] := by
  match r, h with
  | 0, _ | 1, _ | 2, _ | 3, _ => rfl
theorem wb_byte (x : BitVec 32) (k : Nat) : IntKind.u8.wrap (u x / 2 ^ k) = b8 ((x >>> k).setWidth 8) := by
  rw [u_shr]
  show IntKind.u8.wrap (((x >>> k).toNat : Nat) : Int) = _
  rw [wrap_u8_byte]
  congr 1
theorem words_step (s : Oct) (k : Nat) (h : k < 8) : (s.list.take (k + 1)).flatMap wordBytes = (s.list.take k).flatMap wordBytes ++ wordBytes (s.list.getD k 0) := by
  match k, h with
  | 0, _ | 1, _ | 2, _ | 3, _ | 4, _ | 5, _ | 6, _ | 7, _ => rfl
set_option maxRecDepth 1000000 in
set_option maxHeartbeats 4000000 in
theorem out_block (s0 s1 s2 s3 s4 s5 s6 s7 s8 s9 s10 s11 s12 s13 s14 s15 s16 s17 s18 s19 s20 s21 s22 s23 s24 s25 s26 s27 s28 s29 s30 s31 s32 s33 s35 s36 s37 s38 s39 s40 s41 s42 s43 s44 s45 s46 s47 s48 s49 s50 s51 s52 s53 s54 s55 s56 s57 s58 s59 s60 s61 s62 s63 s64 s65 s66 s67 s68 s69 s70 s71 s72 s73 s74 s75 s76 s77 s78 s79 s80 s81 s82 s83 s84 s85 s86 s87 s88 s89 s90 s91 s92 s93 s94 s95 s96 s97 s98 s99 s100 s101 s102 s103 s104 s105 s106 s107 s108 s109 s110 s111 s112 s113 s114 s115 s116 s117 s118 s119 s120 s121 s122 s123 s124 s125 s126 s127 s128 s129 s130 s131 s132 s133 s134 s135 s136 s137 s138 s139 s140 s141 s142 s143 s144 s145 s146 s147 s148 s149 s150 s151 s152 s153 s154 s155 s156 s157 s158 s159 s160 s161 s162 s163 s164 s165 s166 s167 s168 s169 s170 s171 s172 s173 s174 s175 s176 s177 s178 s179 s180 s181 s182 s183 s184 s185 s186 s187 s188 s189 s190 s191 s192 s193 s194 s195 s196 s197 s198 s199 s200 s201 s202 s203 s204 s205 s206 s207 s208 s209 s210 s211 s212 s213 s214 s215 s216 s217 s218 s219 s220 s221 s222 s223 s224 s225 s226 s227 s228 s229 s230 s231 s232 s233 s234 s235 s236 s237 s238 s239 s240 s241 s242 s243 s244 s245 s246 s247 s248 s249 s250 s251 s252 s253 s254 s255 s256 s257 s258 s259 s260 s261 s262 s263 s264 s265 s266 s267 s268 s269 s270 s271 s272 s273 s274 s275 s276 s277 s278 s279 s280 s281 s285 s286 s287 s288 s289 s290 s291 s292 s293 s294 s295 s296 s297 s298 s299 s300 s301 : Value) (gh caph : Nat) (s : Oct) (w : World) (hgh : gh < w.heap.size)
    (hh : Hid (∀ i, i < 8 → w.cell? ⟨gh, i, none⟩ = some (.int .u32 (u (s.list.getD i 0))))) (Q : Exit → Act → World → Prop)
    (hQ : Hid (∀ (u36 u37 u284 u285 u286 u287 u288 u289 u290 u291 u292 u293 u294 u295 u296 u297 u298 u299 u300 v : Value) (w' : World), w'.ownsRow w.heap.size 5 1 v 32 ((s.list.flatMap wordBytes).map V) → Below w.heap.size w w' → Q .normal ⟨#[s0, s1, s2, s3, s4, s5, s6, s7, s8, s9, s10, s11, s12, s13, s14, s15, s16, s17, s18, s19, s20, s21, s22, s23, s24, s25, s26, s27, s28, s29, s30, s31, s32, s33, v, s35, u36, u37, s38, s39, s40, s41, s42, s43, s44, s45, s46, s47, s48, s49, s50, s51, s52, s53, s54, s55, s56, s57, s58, s59, s60, s61, s62, s63, s64, s65, s66, s67, s68, s69, s70, s71, s72, s73, s74, s75, s76, s77, s78, s79, s80, s81, s82, s83, s84, s85, s86, s87, s88, s89, s90, s91, s92, s93, s94, s95, s96, s97, s98, s99, s100, s101, s102, s103, s104, s105, s106, s107, s108, s109, s110, s111, s112, s113, s114, s115, s116, s117, s118, s119, s120, s121, s122, s123, s124, s125, s126, s127, s128, s129, s130, s131, s132, s133, s134, s135, s136, s137, s138, s139, s140, s141, s142, s143, s144, s145, s146, s147, s148, s149, s150, s151, s152, s153, s154, s155, s156, s157, s158, s159, s160, s161, s162, s163, s164, s165, s166, s167, s168, s169, s170, s171, s172, s173, s174, s175, s176, s177, s178, s179, s180, s181, s182, s183, s184, s185, s186, s187, s188, s189, s190, s191, s192, s193, s194, s195, s196, s197, s198, s199, s200, s201, s202, s203, s204, s205, s206, s207, s208, s209, s210, s211, s212, s213, s214, s215, s216, s217, s218, s219, s220, s221, s222, s223, s224, s225, s226, s227, s228, s229, s230, s231, s232, s233, s234, s235, s236, s237, s238, s239, s240, s241, s242, s243, s244, s245, s246, s247, s248, s249, s250, s251, s252, s253, s254, s255, s256, s257, s258, s259, s260, s261, s262, s263, s264, s265, s266, s267, s268, s269, s270, s271, s272, s273, s274, s275, s276, s277, s278, s279, s280, s281, .slice (some ⟨gh, 0, none⟩) 8 caph, .int .i64 8, u284, u285, u286, u287, u288, u289, u290, u291, u292, u293, u294, u295, u296, u297, u298, u299, u300, s301], []⟩ w')) :
    Code.wp Tryd.prog ((Tryd.f51.body.bind (inBlock 16)).getD .skip) (Exit.inBlock 16 Q) ⟨#[s0, s1, s2, s3, s4, s5, s6, s7, s8, s9, s10, s11, s12, s13, s14, s15, s16, s17, s18, s19, s20, s21, s22, s23, s24, s25, s26, s27, s28, s29, s30, s31, s32, s33, .slice none 0 0, s35, s36, s37, s38, s39, s40, s41, s42, s43, s44, s45, s46, s47, s48, s49, s50, s51, s52, s53, s54, s55, s56, s57, s58, s59, s60, s61, s62, s63, s64, s65, s66, s67, s68, s69, s70, s71, s72, s73, s74, s75, s76, s77, s78, s79, s80, s81, s82, s83, s84, s85, s86, s87, s88, s89, s90, s91, s92, s93, s94, s95, s96, s97, s98, s99, s100, s101, s102, s103, s104, s105, s106, s107, s108, s109, s110, s111, s112, s113, s114, s115, s116, s117, s118, s119, s120, s121, s122, s123, s124, s125, s126, s127, s128, s129, s130, s131, s132, s133, s134, s135, s136, s137, s138, s139, s140, s141, s142, s143, s144, s145, s146, s147, s148, s149, s150, s151, s152, s153, s154, s155, s156, s157, s158, s159, s160, s161, s162, s163, s164, s165, s166, s167, s168, s169, s170, s171, s172, s173, s174, s175, s176, s177, s178, s179, s180, s181, s182, s183, s184, s185, s186, s187, s188, s189, s190, s191, s192, s193, s194, s195, s196, s197, s198, s199, s200, s201, s202, s203, s204, s205, s206, s207, s208, s209, s210, s211, s212, s213, s214, s215, s216, s217, s218, s219, s220, s221, s222, s223, s224, s225, s226, s227, s228, s229, s230, s231, s232, s233, s234, s235, s236, s237, s238, s239, s240, s241, s242, s243, s244, s245, s246, s247, s248, s249, s250, s251, s252, s253, s254, s255, s256, s257, s258, s259, s260, s261, s262, s263, s264, s265, s266, s267, s268, s269, s270, s271, s272, s273, s274, s275, s276, s277, s278, s279, s280, s281, .slice (some ⟨gh, 0, none⟩) 8 caph, .int .i64 8, .int .i64 0, s285, s286, s287, s288, s289, s290, s291, s292, s293, s294, s295, s296, s297, s298, s299, s300, s301], []⟩ w := by
  conv => arg 2; whnf
  conv => arg 4; dsimp only
  obtain ⟨i8, hi8, hz8, hs8, hb8⟩ := info_parts info_u8
  go_loopw [34, 284] (fun v i wr => ∃ k : Nat, k ≤ 8 ∧ i = .int .i64 k ∧ wr.ownsRow w.heap.size 5 1 v (4 * k) (((s.list.take k).flatMap wordBytes).map V) ∧ Below w.heap.size w wr) (fun _ i _ => 8 - (intOf i).toNat)
  case atStart => exact ⟨0, by omega, rfl, World.ownsRow_nil _ _ _ _, Below.refl _ _⟩
  case round =>
    obtain ⟨k, hk, rfl, hown, hbe⟩ := hrel
    have hszr := hbe.size
    by_cases hlt : k < 8
    · have hlt' : (k : Int) < 8 := by omega
      have c1 : wr.cell? ⟨gh, k, none⟩ = some (.int .u32 (u (s.list.getD k 0))) := by rw [hbe.cell hgh]; exact hh.out k hlt
      have hws := words_step s k hlt
      obtain ⟨x, hx⟩ : ∃ x, s.list.getD k 0 = x := ⟨_, rfl⟩
      rw [hx] at c1 hws
      have HO : Hid (wr.ownsRow w.heap.size 5 1 u34 (4 * k + 0) (((s.list.take k).flatMap wordBytes ++ (wordBytes x).take 0).map V)) := hid (by simpa using hown)
      have HB := hid hbe
      have HWS := hid hws
      clear hown hbe hx hws
      go_wp2_with fail
      go_loopw [34, 37] (fun v i w' => ∃ r : Nat, r ≤ 4 ∧ i = .int .i64 ((3 : Int) - (r : Int)) ∧ w'.ownsRow w.heap.size 5 1 v (4 * k + r) (((s.list.take k).flatMap wordBytes ++ (wordBytes x).take r).map V) ∧ Below w.heap.size w w') (fun _ i _ => (intOf i + 1).toNat)
      case atStart => exact ⟨0, by omega, by go_num, HO.out, HB.out⟩
      case round =>
        clear HO HB c1 hszr
        obtain ⟨r, hr, rfl, hown, hbe⟩ := hrel
        have hszr := hbe.size
        have HO := hid hown
        have HB := hid hbe
        clear hown hbe
        by_cases hlt4 : r < 4
        · have e1 : ((8 : Int) * ((3 : Int) - (r : Int))).toNat = 8 * (3 - r) := by omega
          have h1 : (0 : Int) ≤ (8 : Int) * ((3 : Int) - (r : Int)) := by omega
          have h0 : (0 : Int) ≤ (3 : Int) - (r : Int) := by omega
          have h0' : (r : Int) ≤ 3 := by omega
          have hmn : min (8 * (3 - r)) 32 = 8 * (3 - r) := by omega
          have hby := wb_byte x (8 * (3 - r))
          have hwb := hid (wb_at x r hlt4)
          obtain ⟨y, hy⟩ : ∃ y, (x >>> (8 * (3 - r))).setWidth 8 = y := ⟨_, rfl⟩
          rw [hy] at hby hwb
          clear hy
          go_wp2_with (at_builtin; refine wpList_append_own _ rfl (.tmp 292) (.tmp 298) 23 rfl w.heap.size 5 i8 (.int .u8 0) 1 1 Tryd.underlying23 hi8 hz8 hs8 hb8 rfl (by decide) _ _ _ rfl (HO.out.alloc _) ⟨wr.heap.size, 0, none⟩ 1 1 [V y] rfl rfl (cells_new _ _ _) (by simp [V, Value.oneCell']) (by unfold maxLen; omega) (by omega) (by simp; omega) ?_; intro v5 w5 hown5 hg5 _; have HO5 := hid hown5; have HB5 := hid (below_app HB.out hszr HO.out _ hg5); clear hown5 hg5)
          go_roundw
          case rel =>
            refine ⟨r + 1, by omega, by congr 1; omega, ?_, HB5.out⟩
            rw [hwb.out, ← List.append_assoc, List.map_append]
            exact HO5.out
          case measure => simp [intOf]; omega
        · obtain rfl : r = 4 := by omega
          go_wp2_with fail
          go_roundw
          case rel =>
            refine ⟨k + 1, by omega, by go_num, ?_, HB.out⟩
            rw [HWS.out]
            exact HO.out
          case measure => simp [intOf]; omega
    · obtain rfl : k = 8 := by omega
      have HO := hid hown
      have HB := hid hbe
      clear hown hbe hh
      go_wp2_with fail
      apply hQ.out
      · exact HO.out
      · exact HB.out
end Go.Proofs.YtjfhhlgblmjonaaDoor
