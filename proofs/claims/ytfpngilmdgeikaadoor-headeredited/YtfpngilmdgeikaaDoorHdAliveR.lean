/-
  What the law's alive does in its two regions that draw their order: it lays a block's header of four validators, has it signed by the first seeds and keeps what was signed.
-/
import Derived.Test.YtfpngilmdgeikaaDoorHdBlock
namespace Go.Proofs.YtfpngilmdgeikaaDoor
open Go.RowKit

/-- what is known while a header is laid, signed and kept -/
structure Alv (w0 : World) (lv sv pv : Value) (h : Hd) (s : Sg) (b : Nat → Bool) (σ : Nat → Value) (W : World) : Prop where
  base : Below w0.heap.size w0 W
  cl : b 10 = true → b 1 = true ∧ b 5 = true ∧ b 7 = true ∧ b 9 = true
  f0 : b 0 = true → σ 0 = lv
  f1 : b 1 = true → b 10 = false → HdV W W.heap.size (σ 1) h
  f2 : b 2 = true → σ 2 = lv
  f3 : b 3 = true → σ 3 = sv
  f4 : b 4 = true → σ 4 = pv
  f5 : b 5 = true → ∃ v, σ 5 = .tuple #[v, .int .i64 0] ∧ (b 10 = false → SgV W W.heap.size v s)
  f6 : b 6 = true → ∃ v, σ 6 = .tuple #[v, .int .i64 0] ∧ (b 10 = false → SgV W W.heap.size v s)
  f7 : b 7 = true → b 10 = false → SgV W W.heap.size (σ 7) s
  f8 : b 8 = true → σ 8 = .int .i64 0
  f9 : b 9 = true → b 10 = false → ∃ g, σ 9 = .pointer (some ⟨g, 0, none⟩) ∧ w0.heap.size ≤ g ∧ Row W g 29 [.string ⟨#[]⟩, .int .i64 0, .int .i64 0, .slice none 0 0, .slice none 0 0, .slice none 0 0, .slice none 0 0, .slice none 0 0]
  f10 : b 10 = true → ∃ g rv vv nv lw tv, σ 9 = .pointer (some ⟨g, 0, none⟩) ∧ Row W g 29 [.string s.hd.chain, .int .i64 s.hd.height, .int .i64 s.hd.time, rv, vv, nv, lw, tv] ∧ SgV W W.heap.size (.agg #[.string s.hd.chain, .int .i64 s.hd.height, .int .i64 s.hd.time, rv, vv, nv, lw, tv]) s
  f11 : b 11 = true → σ 11 = .int .i64 0
set_option maxRecDepth 100000 in
set_option maxHeartbeats 4000000 in
theorem aliveRegion2 {y0 y5 y6 y7 y8 y9 y10 y20 y21 y22 y23 y24 y25 y26 y27 y28 y29 y30 y31 y32 y33 y34 y35 y36 y37 y38 y39 y40 y41 y42 y43 y44 z3 z4 z11 z12 z13 z14 z15 z16 z17 z18 z19 : Value} (l : List Vl) (sd : List (List (BitVec 8))) (lv sv pv : Value) {w : World} (htab : Hid (tableAt w)) (hl : Hid (Vals w w.heap.size lv l)) (hp : Hid (Lists w w.heap.size pv sd)) (hrun : Hid (∀ w', (Instr.sliceAt 26 sv none (some (.int .i64 3)) none).run Tryd.prog w' = .ok pv w')) (h10 : l.length ≤ 10) (hok : Hid (∀ v ∈ l, v.ok)) (hsd : sd.length ≤ 10) (hsf : Hid (∀ s ∈ sd, s.length ≤ 140737488351232)) (htg : Hid (togetherN (blockH l) l = 0)) (Q : Exit → Act → World → Prop)
    (hQ : Hid (∀ (σ : Nat → Value) (w' : World) (s : Sg), s = signS (blockH l) l sd → Below w.heap.size w w' → (∃ g rv vv nv lw tv, σ 9 = .pointer (some ⟨g, 0, none⟩) ∧ Row w' g 29 [.string s.hd.chain, .int .i64 s.hd.height, .int .i64 s.hd.time, rv, vv, nv, lw, tv] ∧ SgV w' w'.heap.size (.agg #[.string s.hd.chain, .int .i64 s.hd.height, .int .i64 s.hd.time, rv, vv, nv, lw, tv]) s) → σ 11 = .int .i64 0 → Q .normal ⟨#[y0, lv, sv, σ 9, σ 11, y5, y6, y7, y8, y9, y10, σ 6, σ 0, σ 1, σ 2, σ 3, σ 4, σ 5, σ 7, σ 8, y20, y21, y22, y23, y24, y25, y26, y27, y28, y29, y30, y31, y32, y33, y34, y35, y36, y37, y38, y39, y40, y41, y42, y43, y44], []⟩ w')) :
    Code.wp Tryd.prog (.region 2 ((Tryd.f29.body.bind (regOf 2)).getD #[]) true) Q ⟨#[y0, lv, sv, z3, z4, y5, y6, y7, y8, y9, y10, z11, z12, z13, z14, z15, z16, z17, z18, z19, y20, y21, y22, y23, y24, y25, y26, y27, y28, y29, y30, y31, y32, y33, y34, y35, y36, y37, y38, y39, y40, y41, y42, y43, y44], []⟩ w := by
  obtain ⟨s, hs⟩ : ∃ s, s = signS (blockH l) l sd := ⟨_, rfl⟩
  have HS := hid hs
  clear hs
  conv => arg 2; arg 2; whnf
  conv => arg 4; dsimp only
  refine region_flags (by kernel_rfl) (fun σ => #[y0, lv, sv, σ 9, σ 11, y5, y6, y7, y8, y9, y10, σ 6, σ 0, σ 1, σ 2, σ 3, σ 4, σ 5, σ 7, σ 8, y20, y21, y22, y23, y24, y25, y26, y27, y28, y29, y30, y31, y32, y33, y34, y35, y36, y37, y38, y39, y40, y41, y42, y43, y44]) (fun i => ([z12, z13, z14, z15, z16, z17, z11, z18, z19, z3, undef, z4] : List Value).getD i undef) rfl (Alv w lv sv pv (blockH l) s) ?_ (by kernel_rfl) ?_ ?_
  · exact ⟨(Below.refl _ _).drew, ft', ft', ft', ft', ft', ft', ft', ft', ft', ft', ft', ft', ft'⟩
  · refine ⟨?_, ?_, ?_, ?_, ?_, ?_, ?_, ?_, ?_, ?_, ?_, ?_, trivial⟩
    · -- 0
      intro b σ W hb H hdep
      simp [Region.binds] at hdep
      have H := hid H
      refine wpOp_plain rfl rfl ?_
      go_simp
      exact ⟨lv, (by first | rfl | simp [updF, *]), ⟨H.out.base, H.out.cl, fun _ => rfl, H.out.f1, H.out.f2, H.out.f3, H.out.f4, H.out.f5, H.out.f6, H.out.f7, H.out.f8, H.out.f9, H.out.f10, H.out.f11⟩⟩
    · -- 1
      intro b σ W hb H hdep
      simp [Region.binds] at hdep
      have H := hid H
      have hn10 : b 10 = false := by
        cases hx : b 10 with
        | false => rfl
        | true => have := (H.out.cl hx).1; rw [hb] at this; cases this
      have e0 := H.out.f0 hdep
      have HC := hid (block_any l lv w.heap.size W (htab.out.below H.out.base htab.out.lt) (hl.out.below H.out.base) H.out.base.size h10 hok.out)
      clear hdep hb
      refine wpOp_plain rfl rfl ?_
      go_simp
      refine HC.out.mono ?_
      rintro e w2 ⟨v, rfl, hv2, hb2⟩
      exact ⟨v, (by first | rfl | simp [updF, *]), ⟨H.out.base.trans ((hb2).mono H.out.base.size), fun e => absurd (hn10.symm.trans e) (by decide), H.out.f0, fun _ _ => hv2, H.out.f2, H.out.f3, H.out.f4, fun e1 => by obtain ⟨v, h1, h2⟩ := H.out.f5 e1; exact ⟨v, h1, fun e => ((h2 e).below hb2).mono (hb2).size⟩, fun e1 => by obtain ⟨v, h1, h2⟩ := H.out.f6 e1; exact ⟨v, h1, fun e => ((h2 e).below hb2).mono (hb2).size⟩, fun e1 e2 => ((H.out.f7 e1 e2).below hb2).mono (hb2).size, H.out.f8, fun e1 e2 => by obtain ⟨g, h1, h2, h3⟩ := H.out.f9 e1 e2; exact ⟨g, h1, h2, h3.below hb2 h3.lt⟩, fun e => absurd (hn10.symm.trans e) (by decide), H.out.f11⟩⟩
    · -- 2
      intro b σ W hb H hdep
      simp [Region.binds] at hdep
      have H := hid H
      refine wpOp_plain rfl rfl ?_
      go_simp
      exact ⟨lv, (by first | rfl | simp [updF, *]), ⟨H.out.base, H.out.cl, H.out.f0, H.out.f1, fun _ => rfl, H.out.f3, H.out.f4, H.out.f5, H.out.f6, H.out.f7, H.out.f8, H.out.f9, H.out.f10, H.out.f11⟩⟩
    · -- 3
      intro b σ W hb H hdep
      simp [Region.binds] at hdep
      have H := hid H
      refine wpOp_plain rfl rfl ?_
      go_simp
      exact ⟨sv, (by first | rfl | simp [updF, *]), ⟨H.out.base, H.out.cl, H.out.f0, H.out.f1, H.out.f2, fun _ => rfl, H.out.f4, H.out.f5, H.out.f6, H.out.f7, H.out.f8, H.out.f9, H.out.f10, H.out.f11⟩⟩
    · -- 4
      intro b σ W hb H hdep
      simp [Region.binds] at hdep
      have H := hid H
      have e3 := H.out.f3 hdep
      have hrun := hrun.out
      clear hdep hb
      refine wpOp_plain rfl rfl ?_
      go_simp
      exact ⟨pv, (by first | rfl | simp [updF, *]), ⟨H.out.base, H.out.cl, H.out.f0, H.out.f1, H.out.f2, H.out.f3, fun _ => rfl, H.out.f5, H.out.f6, H.out.f7, H.out.f8, H.out.f9, H.out.f10, H.out.f11⟩⟩
    · -- 5
      intro b σ W hb H hdep
      simp [Region.binds] at hdep
      have H := hid H
      have hn10 : b 10 = false := by
        cases hx : b 10 with
        | false => rfl
        | true => have := (H.out.cl hx).2.1; rw [hb] at this; cases this
      obtain ⟨hd1, hd2, hd4⟩ : b 1 = true ∧ b 2 = true ∧ b 4 = true := by refine ⟨?_, ?_, ?_⟩ <;> simp [hdep]
      have h1 := H.out.f1 hd1 hn10
      have e2 := H.out.f2 hd2
      have e4 := H.out.f4 hd4
      have HC := hid (signC (blockH l) l sd (σ 1) lv pv W.heap.size W (htab.out.below H.out.base htab.out.lt) (Nat.le_refl _) h1 (blockH_fits l) ((hl.out.below H.out.base).mono H.out.base.size) (by omega) hok.out ((hp.out.below H.out.base).up H.out.base.size) (by omega) hsf.out)
      rw [htg.out, ← HS.out] at HC
      clear hdep hb h1 hd1 hd2 hd4
      refine wpOp_plain rfl rfl ?_
      go_simp
      refine HC.out.mono ?_
      rintro e w2 ⟨v, rfl, hv2, hb2⟩
      exact ⟨(.tuple #[v, .int .i64 0]), (by first | rfl | simp [updF, *]), ⟨H.out.base.trans ((hb2).mono H.out.base.size), fun e => absurd (hn10.symm.trans e) (by decide), H.out.f0, fun e1 e2 => ((H.out.f1 e1 e2).below hb2).mono (hb2).size, H.out.f2, H.out.f3, H.out.f4, fun _ => ⟨v, rfl, fun _ => hv2⟩, fun e1 => by obtain ⟨v, h1, h2⟩ := H.out.f6 e1; exact ⟨v, h1, fun e => ((h2 e).below hb2).mono (hb2).size⟩, fun e1 e2 => ((H.out.f7 e1 e2).below hb2).mono (hb2).size, H.out.f8, fun e1 e2 => by obtain ⟨g, h1, h2, h3⟩ := H.out.f9 e1 e2; exact ⟨g, h1, h2, h3.below hb2 h3.lt⟩, fun e => absurd (hn10.symm.trans e) (by decide), H.out.f11⟩⟩
    · -- 6
      intro b σ W hb H hdep
      simp [Region.binds] at hdep
      have H := hid H
      have h5 := H.out.f5 hdep
      clear hdep hb
      refine wpOp_plain rfl rfl ?_
      go_simp
      exact ⟨(σ 5), (by first | rfl | simp [updF, *]), ⟨H.out.base, H.out.cl, H.out.f0, H.out.f1, H.out.f2, H.out.f3, H.out.f4, H.out.f5, fun _ => h5, H.out.f7, H.out.f8, H.out.f9, H.out.f10, H.out.f11⟩⟩
    · -- 7
      intro b σ W hb H hdep
      simp [Region.binds] at hdep
      have H := hid H
      have hn10 : b 10 = false := by
        cases hx : b 10 with
        | false => rfl
        | true => have := (H.out.cl hx).2.2.1; rw [hb] at this; cases this
      obtain ⟨v, e6, hv⟩ := H.out.f6 hdep
      have HV := hid hv
      clear hdep hb hv
      refine wpOp_plain rfl rfl ?_
      go_simp
      exact ⟨v, (by first | rfl | simp [updF, *]), ⟨H.out.base, fun e => absurd (hn10.symm.trans e) (by decide), H.out.f0, H.out.f1, H.out.f2, H.out.f3, H.out.f4, H.out.f5, H.out.f6, fun _ e => HV.out e, H.out.f8, H.out.f9, H.out.f10, H.out.f11⟩⟩
    · -- 8
      intro b σ W hb H hdep
      simp [Region.binds] at hdep
      have H := hid H
      obtain ⟨v, e6, hv⟩ := H.out.f6 hdep
      clear hdep hb hv
      refine wpOp_plain rfl rfl ?_
      go_simp
      exact ⟨(.int .i64 0), (by first | rfl | simp [updF, *]), ⟨H.out.base, H.out.cl, H.out.f0, H.out.f1, H.out.f2, H.out.f3, H.out.f4, H.out.f5, H.out.f6, H.out.f7, fun _ => rfl, H.out.f9, H.out.f10, H.out.f11⟩⟩
    · -- 9
      intro b σ W hb H hdep
      simp [Region.binds] at hdep
      have H := hid H
      have hn10 : b 10 = false := by
        cases hx : b 10 with
        | false => rfl
        | true => have := (H.out.cl hx).2.2.2; rw [hb] at this; cases this
      clear hdep hb
      refine wpOp_plain rfl rfl ?_
      go_simp
      exact ⟨(.pointer (some ⟨W.heap.size, 0, none⟩)), (by first | rfl | simp [updF, *]), ⟨H.out.base.trans ((((Below.refl _ _).alloc (Nat.le_refl _) _)).mono H.out.base.size), fun e => absurd (hn10.symm.trans e) (by decide), H.out.f0, fun e1 e2 => ((H.out.f1 e1 e2).below ((Below.refl _ _).alloc (Nat.le_refl _) _)).mono (((Below.refl _ _).alloc (Nat.le_refl _) _)).size, H.out.f2, H.out.f3, H.out.f4, fun e1 => by obtain ⟨v, h1, h2⟩ := H.out.f5 e1; exact ⟨v, h1, fun e => ((h2 e).below ((Below.refl _ _).alloc (Nat.le_refl _) _)).mono (((Below.refl _ _).alloc (Nat.le_refl _) _)).size⟩, fun e1 => by obtain ⟨v, h1, h2⟩ := H.out.f6 e1; exact ⟨v, h1, fun e => ((h2 e).below ((Below.refl _ _).alloc (Nat.le_refl _) _)).mono (((Below.refl _ _).alloc (Nat.le_refl _) _)).size⟩, fun e1 e2 => ((H.out.f7 e1 e2).below ((Below.refl _ _).alloc (Nat.le_refl _) _)).mono (((Below.refl _ _).alloc (Nat.le_refl _) _)).size, H.out.f8, fun _ _ => ⟨W.heap.size, rfl, H.out.base.size, Row.new _ _ _⟩, fun e => absurd (hn10.symm.trans e) (by decide), H.out.f11⟩⟩
    · -- 10
      intro b σ W hb H hdep
      simp [Region.binds] at hdep
      have H := hid H
      obtain ⟨hd9, hd7, hd5, hd1⟩ : b 9 = true ∧ b 7 = true ∧ b 5 = true ∧ b 1 = true := by refine ⟨?_, ?_, ?_, ?_⟩ <;> simp [hdep]
      obtain ⟨g, e9, hg, hrow⟩ := H.out.f9 hd9 hb
      obtain ⟨rv, vv, nv, lw, tv, e7, x1, x2, x3, x4, x5⟩ := H.out.f7 hd7 hb
      have HSG := hid (show SgV W W.heap.size (.agg #[.string s.hd.chain, .int .i64 s.hd.height, .int .i64 s.hd.time, rv, vv, nv, lw, tv]) s from ⟨rv, vv, nv, lw, tv, rfl, x1, x2, x3, x4, x5⟩)
      have HROW := hid hrow
      obtain ⟨k0, k1, k2, k3, k4, k5, k6, k7⟩ := hrow.eight
      have hlt := hrow.lt
      have z0 := hrow.frozen 0
      have z1 := hrow.frozen 1
      have z2 := hrow.frozen 2
      have z3 := hrow.frozen 3
      have z4 := hrow.frozen 4
      have z5 := hrow.frozen 5
      have z6 := hrow.frozen 6
      have z7 := hrow.frozen 7
      obtain ⟨o1, c1, rfl, _⟩ := x1.shape
      obtain ⟨o2, c2, rfl, _⟩ := x2.shape
      obtain ⟨o3, c3, rfl, _⟩ := x3.shape
      obtain ⟨o4, c4, rfl, _⟩ := x4.shape
      obtain ⟨o5, c5, rfl, _⟩ := x5.shape
      have HD := hid (And.intro hd1 (And.intro hd5 (And.intro hd7 hd9)))
      clear hdep hrow x1 x2 x3 x4 x5 hd1 hd5 hd7 hd9
      refine wpOp_plain rfl rfl ?_
      go_simp
      refine ⟨undef, (by first | rfl | simp [updF, *]), ?_⟩
      exact ⟨set8_below H.out.base hg _ _ _ _ _ _ _ _, fun _ => HD.out, H.out.f0, fun _ e => tf' e, H.out.f2, H.out.f3, H.out.f4, fun e1 => by obtain ⟨v, h1, h2⟩ := H.out.f5 e1; exact ⟨v, h1, fun e => tf' e⟩, fun e1 => by obtain ⟨v, h1, h2⟩ := H.out.f6 e1; exact ⟨v, h1, fun e => tf' e⟩, fun _ e => tf' e, H.out.f8, fun _ e => tf' e, fun _ => ⟨g, _, _, _, _, _, e9, set8_row HROW.out (.string s.hd.chain) (.int .i64 s.hd.height) (.int .i64 s.hd.time) (.slice o1 s.hd.root.length c1) (.slice o2 s.hd.vals.length c2) (.slice o3 s.hd.next.length c3) (.slice o4 s.vals.length c4) (.slice o5 s.votes.length c5), (HSG.out.only HROW.out rfl (set8_other W g (.string s.hd.chain) (.int .i64 s.hd.height) (.int .i64 s.hd.time) (.slice o1 s.hd.root.length c1) (.slice o2 s.hd.vals.length c2) (.slice o3 s.hd.next.length c3) (.slice o4 s.vals.length c4) (.slice o5 s.votes.length c5))).mono (Nat.le_of_eq (set8_size W g (.string s.hd.chain) (.int .i64 s.hd.height) (.int .i64 s.hd.time) (.slice o1 s.hd.root.length c1) (.slice o2 s.hd.vals.length c2) (.slice o3 s.hd.next.length c3) (.slice o4 s.vals.length c4) (.slice o5 s.votes.length c5)).symm)⟩, H.out.f11⟩
    · -- 11
      intro b σ W hb H hdep
      simp [Region.binds] at hdep
      have H := hid H
      have e8 : σ 8 = .int .i64 0 := H.out.f8 (by simp [hdep])
      clear hdep hb
      refine wpOp_plain rfl rfl ?_
      go_simp
      exact ⟨(.int .i64 0), (by first | rfl | simp [updF, *]), ⟨H.out.base, H.out.cl, H.out.f0, H.out.f1, H.out.f2, H.out.f3, H.out.f4, H.out.f5, H.out.f6, H.out.f7, H.out.f8, H.out.f9, H.out.f10, fun _ => rfl⟩⟩
  · intro b σ w' H hall
    exact hQ.out σ w' s HS.out H.base (H.f10 (hall 10 (by decide))) (H.f11 (hall 11 (by decide)))
set_option maxRecDepth 100000 in
set_option maxHeartbeats 4000000 in
theorem aliveRegion3 {y0 y3 y4 y7 y8 y9 y10 y11 y12 y13 y14 y15 y16 y17 y18 y19 y29 y30 y31 y32 y33 y34 y35 y36 y37 y38 y39 y40 y41 y42 y43 y44 z5 z6 z20 z21 z22 z23 z24 z25 z26 z27 z28 : Value} (l : List Vl) (sd : List (List (BitVec 8))) (lv sv pv : Value) {w : World} (htab : Hid (tableAt w)) (hl : Hid (Vals w w.heap.size lv l)) (hp : Hid (Lists w w.heap.size pv sd)) (hrun : Hid (∀ w', (Instr.sliceAt 26 sv none (some (.int .i64 2)) none).run Tryd.prog w' = .ok pv w')) (h10 : l.length ≤ 10) (hok : Hid (∀ v ∈ l, v.ok)) (hsd : sd.length ≤ 10) (hsf : Hid (∀ s ∈ sd, s.length ≤ 140737488351232)) (htg : Hid (togetherN (blockH l) l = 0)) (Q : Exit → Act → World → Prop)
    (hQ : Hid (∀ (σ : Nat → Value) (w' : World) (s : Sg), s = signS (blockH l) l sd → Below w.heap.size w w' → (∃ g rv vv nv lw tv, σ 9 = .pointer (some ⟨g, 0, none⟩) ∧ Row w' g 29 [.string s.hd.chain, .int .i64 s.hd.height, .int .i64 s.hd.time, rv, vv, nv, lw, tv] ∧ SgV w' w'.heap.size (.agg #[.string s.hd.chain, .int .i64 s.hd.height, .int .i64 s.hd.time, rv, vv, nv, lw, tv]) s) → σ 11 = .int .i64 0 → Q .normal ⟨#[y0, lv, sv, y3, y4, σ 9, σ 11, y7, y8, y9, y10, y11, y12, y13, y14, y15, y16, y17, y18, y19, σ 6, σ 0, σ 1, σ 2, σ 3, σ 4, σ 5, σ 7, σ 8, y29, y30, y31, y32, y33, y34, y35, y36, y37, y38, y39, y40, y41, y42, y43, y44], []⟩ w')) :
    Code.wp Tryd.prog (.region 3 ((Tryd.f29.body.bind (regOf 3)).getD #[]) true) Q ⟨#[y0, lv, sv, y3, y4, z5, z6, y7, y8, y9, y10, y11, y12, y13, y14, y15, y16, y17, y18, y19, z20, z21, z22, z23, z24, z25, z26, z27, z28, y29, y30, y31, y32, y33, y34, y35, y36, y37, y38, y39, y40, y41, y42, y43, y44], []⟩ w := by
  obtain ⟨s, hs⟩ : ∃ s, s = signS (blockH l) l sd := ⟨_, rfl⟩
  have HS := hid hs
  clear hs
  conv => arg 2; arg 2; whnf
  conv => arg 4; dsimp only
  refine region_flags (by kernel_rfl) (fun σ => #[y0, lv, sv, y3, y4, σ 9, σ 11, y7, y8, y9, y10, y11, y12, y13, y14, y15, y16, y17, y18, y19, σ 6, σ 0, σ 1, σ 2, σ 3, σ 4, σ 5, σ 7, σ 8, y29, y30, y31, y32, y33, y34, y35, y36, y37, y38, y39, y40, y41, y42, y43, y44]) (fun i => ([z21, z22, z23, z24, z25, z26, z20, z27, z28, z5, undef, z6] : List Value).getD i undef) rfl (Alv w lv sv pv (blockH l) s) ?_ (by kernel_rfl) ?_ ?_
  · exact ⟨(Below.refl _ _).drew, ft', ft', ft', ft', ft', ft', ft', ft', ft', ft', ft', ft', ft'⟩
  · refine ⟨?_, ?_, ?_, ?_, ?_, ?_, ?_, ?_, ?_, ?_, ?_, ?_, trivial⟩
    · -- 0
      intro b σ W hb H hdep
      simp [Region.binds] at hdep
      have H := hid H
      refine wpOp_plain rfl rfl ?_
      go_simp
      exact ⟨lv, (by first | rfl | simp [updF, *]), ⟨H.out.base, H.out.cl, fun _ => rfl, H.out.f1, H.out.f2, H.out.f3, H.out.f4, H.out.f5, H.out.f6, H.out.f7, H.out.f8, H.out.f9, H.out.f10, H.out.f11⟩⟩
    · -- 1
      intro b σ W hb H hdep
      simp [Region.binds] at hdep
      have H := hid H
      have hn10 : b 10 = false := by
        cases hx : b 10 with
        | false => rfl
        | true => have := (H.out.cl hx).1; rw [hb] at this; cases this
      have e0 := H.out.f0 hdep
      have HC := hid (block_any l lv w.heap.size W (htab.out.below H.out.base htab.out.lt) (hl.out.below H.out.base) H.out.base.size h10 hok.out)
      clear hdep hb
      refine wpOp_plain rfl rfl ?_
      go_simp
      refine HC.out.mono ?_
      rintro e w2 ⟨v, rfl, hv2, hb2⟩
      exact ⟨v, (by first | rfl | simp [updF, *]), ⟨H.out.base.trans ((hb2).mono H.out.base.size), fun e => absurd (hn10.symm.trans e) (by decide), H.out.f0, fun _ _ => hv2, H.out.f2, H.out.f3, H.out.f4, fun e1 => by obtain ⟨v, h1, h2⟩ := H.out.f5 e1; exact ⟨v, h1, fun e => ((h2 e).below hb2).mono (hb2).size⟩, fun e1 => by obtain ⟨v, h1, h2⟩ := H.out.f6 e1; exact ⟨v, h1, fun e => ((h2 e).below hb2).mono (hb2).size⟩, fun e1 e2 => ((H.out.f7 e1 e2).below hb2).mono (hb2).size, H.out.f8, fun e1 e2 => by obtain ⟨g, h1, h2, h3⟩ := H.out.f9 e1 e2; exact ⟨g, h1, h2, h3.below hb2 h3.lt⟩, fun e => absurd (hn10.symm.trans e) (by decide), H.out.f11⟩⟩
    · -- 2
      intro b σ W hb H hdep
      simp [Region.binds] at hdep
      have H := hid H
      refine wpOp_plain rfl rfl ?_
      go_simp
      exact ⟨lv, (by first | rfl | simp [updF, *]), ⟨H.out.base, H.out.cl, H.out.f0, H.out.f1, fun _ => rfl, H.out.f3, H.out.f4, H.out.f5, H.out.f6, H.out.f7, H.out.f8, H.out.f9, H.out.f10, H.out.f11⟩⟩
    · -- 3
      intro b σ W hb H hdep
      simp [Region.binds] at hdep
      have H := hid H
      refine wpOp_plain rfl rfl ?_
      go_simp
      exact ⟨sv, (by first | rfl | simp [updF, *]), ⟨H.out.base, H.out.cl, H.out.f0, H.out.f1, H.out.f2, fun _ => rfl, H.out.f4, H.out.f5, H.out.f6, H.out.f7, H.out.f8, H.out.f9, H.out.f10, H.out.f11⟩⟩
    · -- 4
      intro b σ W hb H hdep
      simp [Region.binds] at hdep
      have H := hid H
      have e3 := H.out.f3 hdep
      have hrun := hrun.out
      clear hdep hb
      refine wpOp_plain rfl rfl ?_
      go_simp
      exact ⟨pv, (by first | rfl | simp [updF, *]), ⟨H.out.base, H.out.cl, H.out.f0, H.out.f1, H.out.f2, H.out.f3, fun _ => rfl, H.out.f5, H.out.f6, H.out.f7, H.out.f8, H.out.f9, H.out.f10, H.out.f11⟩⟩
    · -- 5
      intro b σ W hb H hdep
      simp [Region.binds] at hdep
      have H := hid H
      have hn10 : b 10 = false := by
        cases hx : b 10 with
        | false => rfl
        | true => have := (H.out.cl hx).2.1; rw [hb] at this; cases this
      obtain ⟨hd1, hd2, hd4⟩ : b 1 = true ∧ b 2 = true ∧ b 4 = true := by refine ⟨?_, ?_, ?_⟩ <;> simp [hdep]
      have h1 := H.out.f1 hd1 hn10
      have e2 := H.out.f2 hd2
      have e4 := H.out.f4 hd4
      have HC := hid (signC (blockH l) l sd (σ 1) lv pv W.heap.size W (htab.out.below H.out.base htab.out.lt) (Nat.le_refl _) h1 (blockH_fits l) ((hl.out.below H.out.base).mono H.out.base.size) (by omega) hok.out ((hp.out.below H.out.base).up H.out.base.size) (by omega) hsf.out)
      rw [htg.out, ← HS.out] at HC
      clear hdep hb h1 hd1 hd2 hd4
      refine wpOp_plain rfl rfl ?_
      go_simp
      refine HC.out.mono ?_
      rintro e w2 ⟨v, rfl, hv2, hb2⟩
      exact ⟨(.tuple #[v, .int .i64 0]), (by first | rfl | simp [updF, *]), ⟨H.out.base.trans ((hb2).mono H.out.base.size), fun e => absurd (hn10.symm.trans e) (by decide), H.out.f0, fun e1 e2 => ((H.out.f1 e1 e2).below hb2).mono (hb2).size, H.out.f2, H.out.f3, H.out.f4, fun _ => ⟨v, rfl, fun _ => hv2⟩, fun e1 => by obtain ⟨v, h1, h2⟩ := H.out.f6 e1; exact ⟨v, h1, fun e => ((h2 e).below hb2).mono (hb2).size⟩, fun e1 e2 => ((H.out.f7 e1 e2).below hb2).mono (hb2).size, H.out.f8, fun e1 e2 => by obtain ⟨g, h1, h2, h3⟩ := H.out.f9 e1 e2; exact ⟨g, h1, h2, h3.below hb2 h3.lt⟩, fun e => absurd (hn10.symm.trans e) (by decide), H.out.f11⟩⟩
    · -- 6
      intro b σ W hb H hdep
      simp [Region.binds] at hdep
      have H := hid H
      have h5 := H.out.f5 hdep
      clear hdep hb
      refine wpOp_plain rfl rfl ?_
      go_simp
      exact ⟨(σ 5), (by first | rfl | simp [updF, *]), ⟨H.out.base, H.out.cl, H.out.f0, H.out.f1, H.out.f2, H.out.f3, H.out.f4, H.out.f5, fun _ => h5, H.out.f7, H.out.f8, H.out.f9, H.out.f10, H.out.f11⟩⟩
    · -- 7
      intro b σ W hb H hdep
      simp [Region.binds] at hdep
      have H := hid H
      have hn10 : b 10 = false := by
        cases hx : b 10 with
        | false => rfl
        | true => have := (H.out.cl hx).2.2.1; rw [hb] at this; cases this
      obtain ⟨v, e6, hv⟩ := H.out.f6 hdep
      have HV := hid hv
      clear hdep hb hv
      refine wpOp_plain rfl rfl ?_
      go_simp
      exact ⟨v, (by first | rfl | simp [updF, *]), ⟨H.out.base, fun e => absurd (hn10.symm.trans e) (by decide), H.out.f0, H.out.f1, H.out.f2, H.out.f3, H.out.f4, H.out.f5, H.out.f6, fun _ e => HV.out e, H.out.f8, H.out.f9, H.out.f10, H.out.f11⟩⟩
    · -- 8
      intro b σ W hb H hdep
      simp [Region.binds] at hdep
      have H := hid H
      obtain ⟨v, e6, hv⟩ := H.out.f6 hdep
      clear hdep hb hv
      refine wpOp_plain rfl rfl ?_
      go_simp
      exact ⟨(.int .i64 0), (by first | rfl | simp [updF, *]), ⟨H.out.base, H.out.cl, H.out.f0, H.out.f1, H.out.f2, H.out.f3, H.out.f4, H.out.f5, H.out.f6, H.out.f7, fun _ => rfl, H.out.f9, H.out.f10, H.out.f11⟩⟩
    · -- 9
      intro b σ W hb H hdep
      simp [Region.binds] at hdep
      have H := hid H
      have hn10 : b 10 = false := by
        cases hx : b 10 with
        | false => rfl
        | true => have := (H.out.cl hx).2.2.2; rw [hb] at this; cases this
      clear hdep hb
      refine wpOp_plain rfl rfl ?_
      go_simp
      exact ⟨(.pointer (some ⟨W.heap.size, 0, none⟩)), (by first | rfl | simp [updF, *]), ⟨H.out.base.trans ((((Below.refl _ _).alloc (Nat.le_refl _) _)).mono H.out.base.size), fun e => absurd (hn10.symm.trans e) (by decide), H.out.f0, fun e1 e2 => ((H.out.f1 e1 e2).below ((Below.refl _ _).alloc (Nat.le_refl _) _)).mono (((Below.refl _ _).alloc (Nat.le_refl _) _)).size, H.out.f2, H.out.f3, H.out.f4, fun e1 => by obtain ⟨v, h1, h2⟩ := H.out.f5 e1; exact ⟨v, h1, fun e => ((h2 e).below ((Below.refl _ _).alloc (Nat.le_refl _) _)).mono (((Below.refl _ _).alloc (Nat.le_refl _) _)).size⟩, fun e1 => by obtain ⟨v, h1, h2⟩ := H.out.f6 e1; exact ⟨v, h1, fun e => ((h2 e).below ((Below.refl _ _).alloc (Nat.le_refl _) _)).mono (((Below.refl _ _).alloc (Nat.le_refl _) _)).size⟩, fun e1 e2 => ((H.out.f7 e1 e2).below ((Below.refl _ _).alloc (Nat.le_refl _) _)).mono (((Below.refl _ _).alloc (Nat.le_refl _) _)).size, H.out.f8, fun _ _ => ⟨W.heap.size, rfl, H.out.base.size, Row.new _ _ _⟩, fun e => absurd (hn10.symm.trans e) (by decide), H.out.f11⟩⟩
    · -- 10
      intro b σ W hb H hdep
      simp [Region.binds] at hdep
      have H := hid H
      obtain ⟨hd9, hd7, hd5, hd1⟩ : b 9 = true ∧ b 7 = true ∧ b 5 = true ∧ b 1 = true := by refine ⟨?_, ?_, ?_, ?_⟩ <;> simp [hdep]
      obtain ⟨g, e9, hg, hrow⟩ := H.out.f9 hd9 hb
      obtain ⟨rv, vv, nv, lw, tv, e7, x1, x2, x3, x4, x5⟩ := H.out.f7 hd7 hb
      have HSG := hid (show SgV W W.heap.size (.agg #[.string s.hd.chain, .int .i64 s.hd.height, .int .i64 s.hd.time, rv, vv, nv, lw, tv]) s from ⟨rv, vv, nv, lw, tv, rfl, x1, x2, x3, x4, x5⟩)
      have HROW := hid hrow
      obtain ⟨k0, k1, k2, k3, k4, k5, k6, k7⟩ := hrow.eight
      have hlt := hrow.lt
      have z0 := hrow.frozen 0
      have z1 := hrow.frozen 1
      have z2 := hrow.frozen 2
      have z3 := hrow.frozen 3
      have z4 := hrow.frozen 4
      have z5 := hrow.frozen 5
      have z6 := hrow.frozen 6
      have z7 := hrow.frozen 7
      obtain ⟨o1, c1, rfl, _⟩ := x1.shape
      obtain ⟨o2, c2, rfl, _⟩ := x2.shape
      obtain ⟨o3, c3, rfl, _⟩ := x3.shape
      obtain ⟨o4, c4, rfl, _⟩ := x4.shape
      obtain ⟨o5, c5, rfl, _⟩ := x5.shape
      have HD := hid (And.intro hd1 (And.intro hd5 (And.intro hd7 hd9)))
      clear hdep hrow x1 x2 x3 x4 x5 hd1 hd5 hd7 hd9
      refine wpOp_plain rfl rfl ?_
      go_simp
      refine ⟨undef, (by first | rfl | simp [updF, *]), ?_⟩
      exact ⟨set8_below H.out.base hg _ _ _ _ _ _ _ _, fun _ => HD.out, H.out.f0, fun _ e => tf' e, H.out.f2, H.out.f3, H.out.f4, fun e1 => by obtain ⟨v, h1, h2⟩ := H.out.f5 e1; exact ⟨v, h1, fun e => tf' e⟩, fun e1 => by obtain ⟨v, h1, h2⟩ := H.out.f6 e1; exact ⟨v, h1, fun e => tf' e⟩, fun _ e => tf' e, H.out.f8, fun _ e => tf' e, fun _ => ⟨g, _, _, _, _, _, e9, set8_row HROW.out (.string s.hd.chain) (.int .i64 s.hd.height) (.int .i64 s.hd.time) (.slice o1 s.hd.root.length c1) (.slice o2 s.hd.vals.length c2) (.slice o3 s.hd.next.length c3) (.slice o4 s.vals.length c4) (.slice o5 s.votes.length c5), (HSG.out.only HROW.out rfl (set8_other W g (.string s.hd.chain) (.int .i64 s.hd.height) (.int .i64 s.hd.time) (.slice o1 s.hd.root.length c1) (.slice o2 s.hd.vals.length c2) (.slice o3 s.hd.next.length c3) (.slice o4 s.vals.length c4) (.slice o5 s.votes.length c5))).mono (Nat.le_of_eq (set8_size W g (.string s.hd.chain) (.int .i64 s.hd.height) (.int .i64 s.hd.time) (.slice o1 s.hd.root.length c1) (.slice o2 s.hd.vals.length c2) (.slice o3 s.hd.next.length c3) (.slice o4 s.vals.length c4) (.slice o5 s.votes.length c5)).symm)⟩, H.out.f11⟩
    · -- 11
      intro b σ W hb H hdep
      simp [Region.binds] at hdep
      have H := hid H
      have e8 : σ 8 = .int .i64 0 := H.out.f8 (by simp [hdep])
      clear hdep hb
      refine wpOp_plain rfl rfl ?_
      go_simp
      exact ⟨(.int .i64 0), (by first | rfl | simp [updF, *]), ⟨H.out.base, H.out.cl, H.out.f0, H.out.f1, H.out.f2, H.out.f3, H.out.f4, H.out.f5, H.out.f6, H.out.f7, H.out.f8, H.out.f9, H.out.f10, fun _ => rfl⟩⟩
  · intro b σ w' H hall
    exact hQ.out σ w' s HS.out H.base (H.f10 (hall 10 (by decide))) (H.f11 (hall 11 (by decide)))
end Go.Proofs.YtfpngilmdgeikaaDoor
