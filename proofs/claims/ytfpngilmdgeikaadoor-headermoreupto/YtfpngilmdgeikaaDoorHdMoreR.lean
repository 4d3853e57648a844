/-
  What HeaderMore's region does that joins the seeds: a row of slices that a call owns, append onto it; what is signed by all of them is kept.
-/
import Derived.Test.YtfpngilmdgeikaaDoorHdBlock
import Derived.Deep.Slices
namespace Go.Proofs.YtfpngilmdgeikaaDoor
open Go.RowKit

/-- a row of slices that a call owns -/
def OwnC (w : World) (base : Nat) (v : Value) (cs : List Value) : Prop := w.ownsRow base 23 1 v cs.length cs
theorem OwnC.below {w w' : World} {base : Nat} {v : Value} {cs : List Value} (h : OwnC w base v cs) (hg : Below w.heap.size w w') : OwnC w' base v cs := ownsRow_below h hg
theorem OwnC.none {w : World} {base h : Nat} (hr : Row w h 23 []) (hb : base ≤ h) : OwnC w base (.slice (some ⟨h, 0, none⟩) 0 0) [] :=
  ⟨rfl, .inr ⟨h, 0, #[], rfl, hb, hr, Nat.le_refl _, by unfold maxLen; omega, rfl, rfl⟩⟩
theorem OwnC.lists {w : World} {base : Nat} {v : Value} {cs : List Value} {ls : List (List (BitVec 8))} (h : OwnC w base v cs) (hl : cs.length = ls.length) (hb : ∀ i x, cs[i]? = some x → Bytes w w.heap.size x (ls.getD i [])) : Lists w w.heap.size v ls := by
  obtain ⟨oa, cap, rfl, hc, hs⟩ := ownsRow_shape h
  by_cases h0 : cs.length = 0
  · obtain rfl : ls = [] := List.length_eq_zero_iff.1 (by omega)
    cases oa with
    | none =>
      obtain ⟨_, h4⟩ := h
      rcases h4 with ⟨h5, _⟩ | ⟨_, _, _, h5, _⟩
      · exact .inl ⟨h5, rfl⟩
      · simp at h5
    | some a => exact .inr (.inl ⟨a, cap, by rw [h0], rfl⟩)
  · obtain ⟨g, rfl, _, hlt, hcell⟩ := hs (by omega)
    refine .inr (.inr ⟨g, 0, cap, by rw [hl], by omega, fun i hi => ⟨hlt, ?_⟩⟩)
    obtain ⟨x, hx⟩ : ∃ x, cs[i]? = some x := ⟨cs[i]'(by omega), List.getElem?_eq_getElem _⟩
    refine ⟨x, ?_, hb i x hx⟩
    rw [Nat.zero_add, (hcell i (by omega)).1, hx]
theorem lists_cells {w : World} {N : Nat} {sv : Value} {ls : List (List (BitVec 8))} (h : Lists w N sv ls) :
    ∃ cs : List Value, cs.length = ls.length ∧ (∀ i x, cs[i]? = some x → Bytes w N x (ls.getD i [])) ∧ ((sv = .slice none 0 0 ∧ cs = []) ∨ ∃ ad cap, sv = .slice (some ad) cs.length cap ∧ ∀ j v, cs[j]? = some v → ad.block < N ∧ w.cell? (ad.add j) = some v) := by
  rcases h with ⟨rfl, rfl⟩ | ⟨a, cap, rfl, rfl⟩ | ⟨b, off, cap, rfl, _, hc⟩
  · exact ⟨[], rfl, by simp, .inl ⟨rfl, rfl⟩⟩
  · exact ⟨[], rfl, by simp, .inr ⟨a, cap, rfl, by simp⟩⟩
  · haveI : Inhabited Value := ⟨undef⟩
    obtain ⟨f, hf⟩ := Deep.choose_lt (fun i hi => (hc i hi).2)
    have hget : ∀ i x, ((List.range ls.length).map f)[i]? = some x → i < ls.length ∧ f i = x := fun i x hx => by
      have hi : i < ls.length := by have := (List.getElem?_eq_some_iff.1 hx).1; simpa using this
      rw [List.getElem?_map, List.getElem?_range hi] at hx
      exact ⟨hi, by simpa using hx⟩
    refine ⟨(List.range ls.length).map f, by simp, fun i x hx => ?_, .inr ⟨⟨b, off, none⟩, cap, by simp, fun j v hv => ?_⟩⟩
    · obtain ⟨hi, rfl⟩ := hget i x hx
      exact (hf i hi).2
    · obtain ⟨hi, rfl⟩ := hget j v hv
      refine ⟨(hc j hi).1, ?_⟩
      rw [show (⟨b, off, none⟩ : Addr).add j = ⟨b, off + j, none⟩ by unfold Addr.add; split <;> simp_all]
      exact (hf j hi).1
theorem bytes_one {w : World} {N : Nat} {x : Value} {l : List (BitVec 8)} (h : Bytes w N x l) : x.oneCell' = true := by
  obtain ⟨oa, cap, rfl, _⟩ := h.shape
  rfl
theorem wp_append_c {o : Oper} {a : Act} {w : World} {K : Act → World → Prop} {Q : Exit → Act → World → Prop} (s x : Operand)
    (ho : o.op = .call { callee := .builtin .append, args := #[s, x], argTypes := #[26, 26] })
    (base : Nat) (v : Value) (m : List Value) (hs : a.eval s = v) (hown : OwnC w base v m) (sv : Value) (l : List Value) (hx : a.eval x = sv)
    (hsrc : (sv = .slice none 0 0 ∧ l = []) ∨ ∃ ad cap, sv = .slice (some ad) l.length cap ∧ ∀ j v, l[j]? = some v → w.cell? (ad.add j) = some v) (hone : ∀ u ∈ l, u.oneCell' = true)
    (hle : m.length + l.length ≤ 3000000) (hbase : base ≤ w.heap.size)
    (h : ∀ v' w', OwnC w' base v' (m ++ l) → w.grownBy w' v.ownBlock → Below base w w' → K (a.put o.dst v') w') : o.wp Tryd.prog a w K Q := by
  obtain ⟨i0, hi0, hz0, hz1, hz2⟩ := info_parts (show (Tryd.prog.info? 23).map (fun i => (i.zero, i.size, i.bytes)) = some (some (.slice none 0 0), 1, 24) by kernel_rfl)
  rcases hsrc with ⟨rfl, rfl⟩ | ⟨ad, cap, rfl, hsrc⟩
  · have hrun := run_append_owned_none (P := Tryd.prog) (w := w) base 26 o.type 23 i0 1 Tryd.underlying26 hi0 v m.length m hown
    unfold Oper.wp
    simp [execOp, ho, resolve, invoke, builtin, hs, hx, hrun, Result.andThen]
    exact h v w (by simpa using hown) (grown_refl _ _) (Below.refl _ _)
  · refine wp_append_own w s x 26 ho base 23 i0 _ 1 24 Tryd.underlying26 hi0 hz0 hz1 hz2 rfl (by decide) v m.length m hs hown ad l.length cap l hx (by simp) hsrc
      hone (by unfold maxLen; omega) (by omega) hbase ?_
    intro v' w' h1 h2 _
    refine h v' w' ?_ h2 ((Below.refl base w).grown h2 hbase (fun k hk => (hown.lt k hk).1))
    unfold OwnC
    rw [List.length_append]
    exact h1
/-- what is known while seeds are joined, a header is signed by them and kept -/
structure Mor (w0 : World) (hv lv sv mv : Value) (cs ds : List Value) (s : Sg) (z : Int) (b : Nat → Bool) (σ : Nat → Value) (W : World) : Prop where
  base : Below w0.heap.size w0 W
  cl : (b 6 = true → b 4 = true) ∧ (b 7 = true → b 6 = true) ∧ (b 8 = true → b 7 = true) ∧ (b 9 = true → b 8 = true) ∧ (b 12 = true → b 9 = true ∧ b 11 = true) ∧ (b 4 = true → b 2 = true)
  f0 : b 0 = true → σ 0 = hv
  f1 : b 1 = true → σ 1 = lv
  f2 : b 2 = true → b 4 = false → ∃ h, σ 2 = .slice (some ⟨h, 0, none⟩) 0 0 ∧ Row W h 23 [] ∧ w0.heap.size ≤ h
  f3 : b 3 = true → σ 3 = sv
  f4 : b 4 = true → b 6 = false → OwnC W w0.heap.size (σ 4) cs
  f5 : b 5 = true → σ 5 = mv
  f6 : b 6 = true → b 12 = false → OwnC W w0.heap.size (σ 6) (cs ++ ds)
  f7 : b 7 = true → ∃ v, σ 7 = .tuple #[v, .int .i64 z] ∧ (b 12 = false → SgV W W.heap.size v s)
  f8 : b 8 = true → ∃ v, σ 8 = .tuple #[v, .int .i64 z] ∧ (b 12 = false → SgV W W.heap.size v s)
  f9 : b 9 = true → b 12 = false → SgV W W.heap.size (σ 9) s
  f10 : b 10 = true → σ 10 = .int .i64 z
  f11 : b 11 = true → b 12 = false → ∃ g, σ 11 = .pointer (some ⟨g, 0, none⟩) ∧ w0.heap.size ≤ g ∧ Row W g 29 [.string ⟨#[]⟩, .int .i64 0, .int .i64 0, .slice none 0 0, .slice none 0 0, .slice none 0 0, .slice none 0 0, .slice none 0 0]
  f12 : b 12 = true → ∃ g rv vv nv lw tv, σ 11 = .pointer (some ⟨g, 0, none⟩) ∧ Row W g 29 [.string s.hd.chain, .int .i64 s.hd.height, .int .i64 s.hd.time, rv, vv, nv, lw, tv] ∧ SgV W W.heap.size (.agg #[.string s.hd.chain, .int .i64 s.hd.height, .int .i64 s.hd.time, rv, vv, nv, lw, tv]) s
  f13 : b 13 = true → σ 13 = .int .i64 z
theorem src_below {w W : World} {v : Value} {cs : List Value} (h : ((v = .slice none 0 0 ∧ cs = []) ∨ ∃ ad cap, v = .slice (some ad) cs.length cap ∧ ∀ j v, cs[j]? = some v → ad.block < w.heap.size ∧ w.cell? (ad.add j) = some v)) (hb : Below w.heap.size w W) : (v = .slice none 0 0 ∧ cs = []) ∨ ∃ ad cap, v = .slice (some ad) cs.length cap ∧ ∀ j v, cs[j]? = some v → W.cell? (ad.add j) = some v := by
  rcases h with h | ⟨ad, cap, h1, h2⟩
  · exact .inl h
  · refine .inr ⟨ad, cap, h1, fun j v hv => ?_⟩
    obtain ⟨h3, h4⟩ := h2 j v hv
    exact (hb.cell (p := ad.add j) (by unfold Addr.add; split <;> exact h3)).trans h4
set_option maxRecDepth 100000 in
set_option maxHeartbeats 4000000 in
theorem moreRegion {y1 y4 y6 y7 y8 y9 y10 y13 y14 y15 y16 y17 y18 y19 y20 y21 y33 y34 y35 y36 y37 y38 y39 y40 y41 y42 y43 y44 y45 y46 y47 y48 y49 z11 z12 z22 z23 z24 z25 z26 z27 z28 z29 z30 z31 z32 : Value} {gh : Nat} (h : Hd) (l : List Vl) (ls : List (List (BitVec 8))) (cs ds : List Value) (lv sv mv : Value) (z : Int) (o1 o2 o3 : Option Addr) (c1 c2 c3 : Nat) {w : World} (htab : Hid (tableAt w)) (hr : Hid (Row w gh 25 [.string h.chain, .int .i64 h.height, .int .i64 h.time, .slice o1 h.root.length c1, .slice o2 h.vals.length c2, .slice o3 h.next.length c3])) (hhv : Hid (HdV w w.heap.size (.agg #[.string h.chain, .int .i64 h.height, .int .i64 h.time, .slice o1 h.root.length c1, .slice o2 h.vals.length c2, .slice o3 h.next.length c3]) h)) (hf : h.fits) (hl : Hid (Vals w w.heap.size lv l)) (hll : l.length < 2305843009213693952) (hok : Hid (∀ v ∈ l, v.ok)) (hsv : Hid ((sv = .slice none 0 0 ∧ cs = []) ∨ ∃ ad cap, sv = .slice (some ad) cs.length cap ∧ ∀ j v, cs[j]? = some v → ad.block < w.heap.size ∧ w.cell? (ad.add j) = some v)) (hmv : Hid ((mv = .slice none 0 0 ∧ ds = []) ∨ ∃ ad cap, mv = .slice (some ad) ds.length cap ∧ ∀ j v, ds[j]? = some v → ad.block < w.heap.size ∧ w.cell? (ad.add j) = some v)) (hc1 : Hid (∀ u ∈ cs, u.oneCell' = true)) (hc2 : Hid (∀ u ∈ ds, u.oneCell' = true)) (hcd : cs.length + ds.length ≤ 3000000) (hlen : Hid ((cs ++ ds).length = ls.length)) (hby : Hid (∀ i x, (cs ++ ds)[i]? = some x → Bytes w w.heap.size x (ls.getD i []))) (hls : ls.length ≤ 35184372088832) (hsf : Hid (∀ s ∈ ls, s.length ≤ 140737488351232)) (htg : Hid (togetherN h l = z)) (Q : Exit → Act → World → Prop)
    (hQ : Hid (∀ (σ : Nat → Value) (w' : World) (s : Sg), s = signS h l ls → Below w.heap.size w w' → (∃ g rv vv nv lw tv, σ 11 = .pointer (some ⟨g, 0, none⟩) ∧ Row w' g 29 [.string s.hd.chain, .int .i64 s.hd.height, .int .i64 s.hd.time, rv, vv, nv, lw, tv] ∧ SgV w' w'.heap.size (.agg #[.string s.hd.chain, .int .i64 s.hd.height, .int .i64 s.hd.time, rv, vv, nv, lw, tv]) s) → σ 13 = .int .i64 z → Q .normal ⟨#[lv, y1, sv, mv, y4, .pointer (some ⟨gh, 0, none⟩), y6, y7, y8, y9, y10, σ 11, σ 13, y13, y14, y15, y16, y17, y18, y19, y20, y21, σ 8, σ 0, σ 1, σ 2, σ 3, σ 4, σ 5, σ 6, σ 7, σ 9, σ 10, y33, y34, y35, y36, y37, y38, y39, y40, y41, y42, y43, y44, y45, y46, y47, y48, y49], []⟩ w')) :
    Code.wp Tryd.prog (.region 4 ((Tryd.f7.body.bind (regOf 4)).getD #[]) true) Q ⟨#[lv, y1, sv, mv, y4, .pointer (some ⟨gh, 0, none⟩), y6, y7, y8, y9, y10, z11, z12, y13, y14, y15, y16, y17, y18, y19, y20, y21, z22, z23, z24, z25, z26, z27, z28, z29, z30, z31, z32, y33, y34, y35, y36, y37, y38, y39, y40, y41, y42, y43, y44, y45, y46, y47, y48, y49], []⟩ w := by
  obtain ⟨s, hs⟩ : ∃ s, s = signS h l ls := ⟨_, rfl⟩
  have HS := hid hs
  clear hs
  conv => arg 2; arg 2; whnf
  conv => arg 4; dsimp only
  refine region_flags (by kernel_rfl) (fun σ => #[lv, y1, sv, mv, y4, .pointer (some ⟨gh, 0, none⟩), y6, y7, y8, y9, y10, σ 11, σ 13, y13, y14, y15, y16, y17, y18, y19, y20, y21, σ 8, σ 0, σ 1, σ 2, σ 3, σ 4, σ 5, σ 6, σ 7, σ 9, σ 10, y33, y34, y35, y36, y37, y38, y39, y40, y41, y42, y43, y44, y45, y46, y47, y48, y49]) (fun i => ([z23, z24, z25, z26, z27, z28, z29, z30, z22, z31, z32, z11, undef, z12] : List Value).getD i undef) rfl (Mor w (.agg #[.string h.chain, .int .i64 h.height, .int .i64 h.time, .slice o1 h.root.length c1, .slice o2 h.vals.length c2, .slice o3 h.next.length c3]) lv sv mv cs ds s z) ?_ (by kernel_rfl) ?_ ?_
  · exact ⟨(Below.refl _ _).drew, ⟨ft', ft', ft', ft', ft', ft'⟩, ft', ft', ft', ft', ft', ft', ft', ft', ft', ft', ft', ft', ft', ft'⟩
  · refine ⟨?_, ?_, ?_, ?_, ?_, ?_, ?_, ?_, ?_, ?_, ?_, ?_, ?_, ?_, trivial⟩
    · -- 0
      intro b σ W hb H hdep
      simp [Region.binds] at hdep
      have H := hid H
      have k0 := (hr.out.below H.out.base hr.out.lt).cell 0
      have k1 := (hr.out.below H.out.base hr.out.lt).cell 1
      have k2 := (hr.out.below H.out.base hr.out.lt).cell 2
      have k3 := (hr.out.below H.out.base hr.out.lt).cell 3
      have k4 := (hr.out.below H.out.base hr.out.lt).cell 4
      have k5 := (hr.out.below H.out.base hr.out.lt).cell 5
      simp at k0 k1 k2 k3 k4 k5
      refine wpOp_plain rfl rfl ?_
      go_simp
      exact ⟨(.agg #[.string h.chain, .int .i64 h.height, .int .i64 h.time, .slice o1 h.root.length c1, .slice o2 h.vals.length c2, .slice o3 h.next.length c3]), (by first | rfl | simp [updF, *]), ⟨H.out.base, H.out.cl, fun _ => rfl, H.out.f1, H.out.f2, H.out.f3, H.out.f4, H.out.f5, H.out.f6, H.out.f7, H.out.f8, H.out.f9, H.out.f10, H.out.f11, H.out.f12, H.out.f13⟩⟩
    · -- 1
      intro b σ W hb H hdep
      simp [Region.binds] at hdep
      have H := hid H
      refine wpOp_plain rfl rfl ?_
      go_simp
      exact ⟨lv, (by first | rfl | simp [updF, *]), ⟨H.out.base, H.out.cl, H.out.f0, fun _ => rfl, H.out.f2, H.out.f3, H.out.f4, H.out.f5, H.out.f6, H.out.f7, H.out.f8, H.out.f9, H.out.f10, H.out.f11, H.out.f12, H.out.f13⟩⟩
    · -- 2
      intro b σ W hb H hdep
      simp [Region.binds] at hdep
      have H := hid H
      clear hdep
      refine wpOp_plain rfl rfl ?_
      go_simp
      exact ⟨(.slice (some ⟨W.heap.size, 0, none⟩) 0 0), (by first | rfl | simp [updF, *]), ⟨H.out.base.trans ((((Below.refl _ _).alloc (Nat.le_refl _) _)).mono H.out.base.size), ⟨H.out.cl.1, H.out.cl.2.1, H.out.cl.2.2.1, H.out.cl.2.2.2.1, H.out.cl.2.2.2.2.1, fun _ => rfl⟩, H.out.f0, H.out.f1, fun _ _ => ⟨W.heap.size, rfl, Row.new _ _ _, H.out.base.size⟩, H.out.f3, fun e1 e2 => (H.out.f4 e1 e2).below ((Below.refl _ _).alloc (Nat.le_refl _) _), H.out.f5, fun e1 e2 => (H.out.f6 e1 e2).below ((Below.refl _ _).alloc (Nat.le_refl _) _), fun e1 => by obtain ⟨v, h1, h2⟩ := H.out.f7 e1; exact ⟨v, h1, fun e => ((h2 e).below ((Below.refl _ _).alloc (Nat.le_refl _) _)).mono (((Below.refl _ _).alloc (Nat.le_refl _) _)).size⟩, fun e1 => by obtain ⟨v, h1, h2⟩ := H.out.f8 e1; exact ⟨v, h1, fun e => ((h2 e).below ((Below.refl _ _).alloc (Nat.le_refl _) _)).mono (((Below.refl _ _).alloc (Nat.le_refl _) _)).size⟩, fun e1 e2 => ((H.out.f9 e1 e2).below ((Below.refl _ _).alloc (Nat.le_refl _) _)).mono (((Below.refl _ _).alloc (Nat.le_refl _) _)).size, H.out.f10, fun e1 e2 => by obtain ⟨g, h1, h2, h3⟩ := H.out.f11 e1 e2; exact ⟨g, h1, h2, h3.below ((Below.refl _ _).alloc (Nat.le_refl _) _) h3.lt⟩, fun e1 => by obtain ⟨g, rv, vv, nv, lw, tv, h1, h2, h3⟩ := H.out.f12 e1; exact ⟨g, rv, vv, nv, lw, tv, h1, h2.below ((Below.refl _ _).alloc (Nat.le_refl _) _) h2.lt, (h3.below ((Below.refl _ _).alloc (Nat.le_refl _) _)).mono (((Below.refl _ _).alloc (Nat.le_refl _) _)).size⟩, H.out.f13⟩⟩
    · -- 3
      intro b σ W hb H hdep
      simp [Region.binds] at hdep
      have H := hid H
      refine wpOp_plain rfl rfl ?_
      go_simp
      exact ⟨sv, (by first | rfl | simp [updF, *]), ⟨H.out.base, H.out.cl, H.out.f0, H.out.f1, H.out.f2, fun _ => rfl, H.out.f4, H.out.f5, H.out.f6, H.out.f7, H.out.f8, H.out.f9, H.out.f10, H.out.f11, H.out.f12, H.out.f13⟩⟩
    · -- 4
      intro b σ W hb H hdep
      simp [Region.binds] at hdep
      have H := hid H
      have hn6 : b 6 = false := by
        cases hx : b 6 with
        | false => rfl
        | true => have := H.out.cl.1 hx; rw [hb] at this; cases this
      have hn7 : b 7 = false := by
        cases hx : b 7 with
        | false => rfl
        | true => have := H.out.cl.2.1 hx; rw [hn6] at this; cases this
      have hn8 : b 8 = false := by
        cases hx : b 8 with
        | false => rfl
        | true => have := H.out.cl.2.2.1 hx; rw [hn7] at this; cases this
      have hn9 : b 9 = false := by
        cases hx : b 9 with
        | false => rfl
        | true => have := H.out.cl.2.2.2.1 hx; rw [hn8] at this; cases this
      have hn12 : b 12 = false := by
        cases hx : b 12 with
        | false => rfl
        | true => have := (H.out.cl.2.2.2.2.1 hx).1; rw [hn9] at this; cases this
      obtain ⟨hd2, hd3⟩ : b 2 = true ∧ b 3 = true := by refine ⟨?_, ?_⟩ <;> simp [hdep]
      obtain ⟨h, e2, hrow, hBh⟩ := H.out.f2 hd2 hb
      have e3 := H.out.f3 hd3
      have hown := OwnC.none hrow hBh
      have hsr := src_below hsv.out H.out.base
      refine wpOp_plain rfl rfl ?_
      refine wp_append_c (.tmp 25) (.tmp 26) rfl w.heap.size (.slice (some ⟨h, 0, none⟩) 0 0) [] e2 hown sv cs e3 hsr hc1.out (by simp; omega) H.out.base.size ?_
      intro v4 w4 hown4 hgr hbw
      exact ⟨v4, (by first | rfl | simp [updF, *]), ⟨H.out.base.trans hbw, ⟨fun _ => rfl, H.out.cl.2.1, H.out.cl.2.2.1, H.out.cl.2.2.2.1, H.out.cl.2.2.2.2.1, fun _ => hd2⟩, H.out.f0, H.out.f1, fun _ e => tf' e, H.out.f3, fun _ _ => hown4, H.out.f5, fun e => absurd (hn6.symm.trans e) (by decide), fun e => absurd (hn7.symm.trans e) (by decide), fun e => absurd (hn8.symm.trans e) (by decide), fun e => absurd (hn9.symm.trans e) (by decide), H.out.f10, fun e1 e2 => by obtain ⟨g, h1, h2, h3⟩ := H.out.f11 e1 e2; exact ⟨g, h1, h2, h3.past hown (by decide) hgr⟩, fun e => absurd (hn12.symm.trans e) (by decide), H.out.f13⟩⟩
    · -- 5
      intro b σ W hb H hdep
      simp [Region.binds] at hdep
      have H := hid H
      refine wpOp_plain rfl rfl ?_
      go_simp
      exact ⟨mv, (by first | rfl | simp [updF, *]), ⟨H.out.base, H.out.cl, H.out.f0, H.out.f1, H.out.f2, H.out.f3, H.out.f4, fun _ => rfl, H.out.f6, H.out.f7, H.out.f8, H.out.f9, H.out.f10, H.out.f11, H.out.f12, H.out.f13⟩⟩
    · -- 6
      intro b σ W hb H hdep
      simp [Region.binds] at hdep
      have H := hid H
      have hn7 : b 7 = false := by
        cases hx : b 7 with
        | false => rfl
        | true => have := H.out.cl.2.1 hx; rw [hb] at this; cases this
      have hn8 : b 8 = false := by
        cases hx : b 8 with
        | false => rfl
        | true => have := H.out.cl.2.2.1 hx; rw [hn7] at this; cases this
      have hn9 : b 9 = false := by
        cases hx : b 9 with
        | false => rfl
        | true => have := H.out.cl.2.2.2.1 hx; rw [hn8] at this; cases this
      have hn12 : b 12 = false := by
        cases hx : b 12 with
        | false => rfl
        | true => have := (H.out.cl.2.2.2.2.1 hx).1; rw [hn9] at this; cases this
      obtain ⟨hd4, hd5⟩ : b 4 = true ∧ b 5 = true := by refine ⟨?_, ?_⟩ <;> simp [hdep]
      have hown := H.out.f4 hd4 hb
      have e5 := H.out.f5 hd5
      have hsr := src_below hmv.out H.out.base
      refine wpOp_plain rfl rfl ?_
      refine wp_append_c (.tmp 27) (.tmp 28) rfl w.heap.size (σ 4) cs rfl hown mv ds e5 hsr hc2.out (by omega) H.out.base.size ?_
      intro v6 w6 hown6 hgr hbw
      exact ⟨v6, (by first | rfl | simp [updF, *]), ⟨H.out.base.trans hbw, ⟨fun _ => hd4, fun _ => rfl, H.out.cl.2.2.1, H.out.cl.2.2.2.1, H.out.cl.2.2.2.2.1, H.out.cl.2.2.2.2.2⟩, H.out.f0, H.out.f1, fun _ e => absurd (e.symm.trans hd4) (by decide), H.out.f3, fun _ e => tf' e, H.out.f5, fun _ _ => hown6, fun e => absurd (hn7.symm.trans e) (by decide), fun e => absurd (hn8.symm.trans e) (by decide), fun e => absurd (hn9.symm.trans e) (by decide), H.out.f10, fun e1 e2 => by obtain ⟨g, h1, h2, h3⟩ := H.out.f11 e1 e2; exact ⟨g, h1, h2, h3.past hown (by decide) hgr⟩, fun e => absurd (hn12.symm.trans e) (by decide), H.out.f13⟩⟩
    · -- 7
      intro b σ W hb H hdep
      simp [Region.binds] at hdep
      have H := hid H
      have hn8 : b 8 = false := by
        cases hx : b 8 with
        | false => rfl
        | true => have := H.out.cl.2.2.1 hx; rw [hb] at this; cases this
      have hn9 : b 9 = false := by
        cases hx : b 9 with
        | false => rfl
        | true => have := H.out.cl.2.2.2.1 hx; rw [hn8] at this; cases this
      have hn12 : b 12 = false := by
        cases hx : b 12 with
        | false => rfl
        | true => have := (H.out.cl.2.2.2.2.1 hx).1; rw [hn9] at this; cases this
      obtain ⟨hd0, hd1, hd6⟩ : b 0 = true ∧ b 1 = true ∧ b 6 = true := by refine ⟨?_, ?_, ?_⟩ <;> simp [hdep]
      have e0 := H.out.f0 hd0
      have e1 := H.out.f1 hd1
      have h6 := H.out.f6 hd6 hn12
      have HD6 := hid hd6
      have HC := hid (signC h l ls (.agg #[.string h.chain, .int .i64 h.height, .int .i64 h.time, .slice o1 h.root.length c1, .slice o2 h.vals.length c2, .slice o3 h.next.length c3]) lv (σ 6) W.heap.size W (htab.out.below H.out.base htab.out.lt) (Nat.le_refl _) ((hhv.out.below H.out.base).mono H.out.base.size) hf ((hl.out.below H.out.base).mono H.out.base.size) hll hok.out (h6.lists hlen.out (fun i x hx => ((hby.out i x hx).below H.out.base).mono H.out.base.size)) hls hsf.out)
      rw [htg.out, ← HS.out] at HC
      clear hdep hb h6 hd0 hd1 hd6
      refine wpOp_plain rfl rfl ?_
      go_simp
      refine HC.out.mono ?_
      rintro e w2 ⟨v, rfl, hv2, hb2⟩
      exact ⟨(.tuple #[v, .int .i64 z]), (by first | rfl | simp [updF, *]), ⟨H.out.base.trans ((hb2).mono H.out.base.size), ⟨H.out.cl.1, fun _ => HD6.out, fun _ => rfl, H.out.cl.2.2.2.1, H.out.cl.2.2.2.2.1, H.out.cl.2.2.2.2.2⟩, H.out.f0, H.out.f1, fun e1 e2 => by obtain ⟨h, h1, h2, h3⟩ := H.out.f2 e1 e2; exact ⟨h, h1, h2.below hb2 h2.lt, h3⟩, H.out.f3, fun e1 e2 => (H.out.f4 e1 e2).below hb2, H.out.f5, fun e1 e2 => (H.out.f6 e1 e2).below hb2, fun _ => ⟨v, rfl, fun _ => hv2⟩, fun e1 => by obtain ⟨v, h1, h2⟩ := H.out.f8 e1; exact ⟨v, h1, fun e => ((h2 e).below hb2).mono (hb2).size⟩, fun e1 e2 => ((H.out.f9 e1 e2).below hb2).mono (hb2).size, H.out.f10, fun e1 e2 => by obtain ⟨g, h1, h2, h3⟩ := H.out.f11 e1 e2; exact ⟨g, h1, h2, h3.below hb2 h3.lt⟩, fun e1 => by obtain ⟨g, rv, vv, nv, lw, tv, h1, h2, h3⟩ := H.out.f12 e1; exact ⟨g, rv, vv, nv, lw, tv, h1, h2.below hb2 h2.lt, (h3.below hb2).mono (hb2).size⟩, H.out.f13⟩⟩
    · -- 8
      intro b σ W hb H hdep
      simp [Region.binds] at hdep
      have H := hid H
      have h7 := H.out.f7 hdep
      have hd7 := hid hdep
      clear hdep hb
      refine wpOp_plain rfl rfl ?_
      go_simp
      exact ⟨(σ 7), (by first | rfl | simp [updF, *]), ⟨H.out.base, ⟨H.out.cl.1, H.out.cl.2.1, fun _ => hd7.out, fun _ => rfl, H.out.cl.2.2.2.2.1, H.out.cl.2.2.2.2.2⟩, H.out.f0, H.out.f1, H.out.f2, H.out.f3, H.out.f4, H.out.f5, H.out.f6, H.out.f7, fun _ => h7, H.out.f9, H.out.f10, H.out.f11, H.out.f12, H.out.f13⟩⟩
    · -- 9
      intro b σ W hb H hdep
      simp [Region.binds] at hdep
      have H := hid H
      obtain ⟨v, e8, hv⟩ := H.out.f8 hdep
      have HV := hid hv
      have hd8 := hid hdep
      clear hdep hb hv
      refine wpOp_plain rfl rfl ?_
      go_simp
      exact ⟨v, (by first | rfl | simp [updF, *]), ⟨H.out.base, ⟨H.out.cl.1, H.out.cl.2.1, H.out.cl.2.2.1, fun _ => hd8.out, fun e => ⟨rfl, (H.out.cl.2.2.2.2.1 e).2⟩, H.out.cl.2.2.2.2.2⟩, H.out.f0, H.out.f1, H.out.f2, H.out.f3, H.out.f4, H.out.f5, H.out.f6, H.out.f7, H.out.f8, fun _ e => HV.out e, H.out.f10, H.out.f11, H.out.f12, H.out.f13⟩⟩
    · -- 10
      intro b σ W hb H hdep
      simp [Region.binds] at hdep
      have H := hid H
      obtain ⟨v, e8, hv⟩ := H.out.f8 hdep
      clear hdep hb hv
      refine wpOp_plain rfl rfl ?_
      go_simp
      exact ⟨(.int .i64 z), (by first | rfl | simp [updF, *]), ⟨H.out.base, H.out.cl, H.out.f0, H.out.f1, H.out.f2, H.out.f3, H.out.f4, H.out.f5, H.out.f6, H.out.f7, H.out.f8, H.out.f9, fun _ => rfl, H.out.f11, H.out.f12, H.out.f13⟩⟩
    · -- 11
      intro b σ W hb H hdep
      simp [Region.binds] at hdep
      have H := hid H
      have hn12 : b 12 = false := by
        cases hx : b 12 with
        | false => rfl
        | true => have := (H.out.cl.2.2.2.2.1 hx).2; rw [hb] at this; cases this
      clear hdep hb
      refine wpOp_plain rfl rfl ?_
      go_simp
      exact ⟨(.pointer (some ⟨W.heap.size, 0, none⟩)), (by first | rfl | simp [updF, *]), ⟨H.out.base.trans ((((Below.refl _ _).alloc (Nat.le_refl _) _)).mono H.out.base.size), ⟨H.out.cl.1, H.out.cl.2.1, H.out.cl.2.2.1, H.out.cl.2.2.2.1, fun e => absurd (hn12.symm.trans e) (by decide), H.out.cl.2.2.2.2.2⟩, H.out.f0, H.out.f1, fun e1 e2 => by obtain ⟨h, h1, h2, h3⟩ := H.out.f2 e1 e2; exact ⟨h, h1, h2.below ((Below.refl _ _).alloc (Nat.le_refl _) _) h2.lt, h3⟩, H.out.f3, fun e1 e2 => (H.out.f4 e1 e2).below ((Below.refl _ _).alloc (Nat.le_refl _) _), H.out.f5, fun e1 e2 => (H.out.f6 e1 e2).below ((Below.refl _ _).alloc (Nat.le_refl _) _), fun e1 => by obtain ⟨v, h1, h2⟩ := H.out.f7 e1; exact ⟨v, h1, fun e => ((h2 e).below ((Below.refl _ _).alloc (Nat.le_refl _) _)).mono (((Below.refl _ _).alloc (Nat.le_refl _) _)).size⟩, fun e1 => by obtain ⟨v, h1, h2⟩ := H.out.f8 e1; exact ⟨v, h1, fun e => ((h2 e).below ((Below.refl _ _).alloc (Nat.le_refl _) _)).mono (((Below.refl _ _).alloc (Nat.le_refl _) _)).size⟩, fun e1 e2 => ((H.out.f9 e1 e2).below ((Below.refl _ _).alloc (Nat.le_refl _) _)).mono (((Below.refl _ _).alloc (Nat.le_refl _) _)).size, H.out.f10, fun _ _ => ⟨W.heap.size, rfl, H.out.base.size, Row.new _ _ _⟩, fun e => absurd (hn12.symm.trans e) (by decide), H.out.f13⟩⟩
    · -- 12
      intro b σ W hb H hdep
      simp [Region.binds] at hdep
      have H := hid H
      obtain ⟨hd11, hd9, hd6, hd4⟩ : b 11 = true ∧ b 9 = true ∧ b 6 = true ∧ b 4 = true := by refine ⟨?_, ?_, ?_, ?_⟩ <;> simp [hdep]
      obtain ⟨g, e11, hg, hrow⟩ := H.out.f11 hd11 hb
      obtain ⟨rv, vv, nv, lw, tv, e9, x1, x2, x3, x4, x5⟩ := H.out.f9 hd9 hb
      have HSG := hid (show SgV W W.heap.size (.agg #[.string s.hd.chain, .int .i64 s.hd.height, .int .i64 s.hd.time, rv, vv, nv, lw, tv]) s from ⟨rv, vv, nv, lw, tv, rfl, x1, x2, x3, x4, x5⟩)
      have HROW := hid hrow
      obtain ⟨k0, k1, k2, k3, k4, k5, k6, k7⟩ := hrow.eight
      have z0 := hrow.frozen 0
      have z1 := hrow.frozen 1
      have z2 := hrow.frozen 2
      have z3 := hrow.frozen 3
      have z4 := hrow.frozen 4
      have z5 := hrow.frozen 5
      have z6 := hrow.frozen 6
      have z7 := hrow.frozen 7
      obtain ⟨u1, d1, rfl, _⟩ := x1.shape
      obtain ⟨u2, d2, rfl, _⟩ := x2.shape
      obtain ⟨u3, d3, rfl, _⟩ := x3.shape
      obtain ⟨u4, d4, rfl, _⟩ := x4.shape
      obtain ⟨u5, d5, rfl, _⟩ := x5.shape
      have HD := hid (And.intro hd9 hd11)
      have HD4 := hid hd4
      have HD6 := hid hd6
      clear hdep hrow x1 x2 x3 x4 x5 hd9 hd11 hd4 hd6
      refine wpOp_plain rfl rfl ?_
      go_simp
      refine ⟨undef, (by first | rfl | simp [updF, *]), ?_⟩
      exact ⟨set8_below H.out.base hg _ _ _ _ _ _ _ _, ⟨H.out.cl.1, H.out.cl.2.1, H.out.cl.2.2.1, H.out.cl.2.2.2.1, fun _ => HD.out, H.out.cl.2.2.2.2.2⟩, H.out.f0, H.out.f1, fun _ e => absurd (e.symm.trans HD4.out) (by decide), H.out.f3, fun _ e => absurd (e.symm.trans HD6.out) (by decide), H.out.f5, fun _ e => tf' e, fun e1 => by obtain ⟨v, h1, h2⟩ := H.out.f7 e1; exact ⟨v, h1, fun e => tf' e⟩, fun e1 => by obtain ⟨v, h1, h2⟩ := H.out.f8 e1; exact ⟨v, h1, fun e => tf' e⟩, fun _ e => tf' e, H.out.f10, fun _ e => tf' e, fun _ => ⟨g, _, _, _, _, _, e11, set8_row HROW.out (.string s.hd.chain) (.int .i64 s.hd.height) (.int .i64 s.hd.time) (.slice u1 s.hd.root.length d1) (.slice u2 s.hd.vals.length d2) (.slice u3 s.hd.next.length d3) (.slice u4 s.vals.length d4) (.slice u5 s.votes.length d5), (HSG.out.only HROW.out rfl (set8_other W g (.string s.hd.chain) (.int .i64 s.hd.height) (.int .i64 s.hd.time) (.slice u1 s.hd.root.length d1) (.slice u2 s.hd.vals.length d2) (.slice u3 s.hd.next.length d3) (.slice u4 s.vals.length d4) (.slice u5 s.votes.length d5))).mono (Nat.le_of_eq (set8_size W g (.string s.hd.chain) (.int .i64 s.hd.height) (.int .i64 s.hd.time) (.slice u1 s.hd.root.length d1) (.slice u2 s.hd.vals.length d2) (.slice u3 s.hd.next.length d3) (.slice u4 s.vals.length d4) (.slice u5 s.votes.length d5)).symm)⟩, H.out.f13⟩
    · -- 13
      intro b σ W hb H hdep
      simp [Region.binds] at hdep
      have H := hid H
      have e10 : σ 10 = .int .i64 z := H.out.f10 (by simp [hdep])
      clear hdep hb
      refine wpOp_plain rfl rfl ?_
      go_simp
      exact ⟨(.int .i64 z), (by first | rfl | simp [updF, *]), ⟨H.out.base, H.out.cl, H.out.f0, H.out.f1, H.out.f2, H.out.f3, H.out.f4, H.out.f5, H.out.f6, H.out.f7, H.out.f8, H.out.f9, H.out.f10, H.out.f11, H.out.f12, fun _ => rfl⟩⟩
  · intro b σ w' H hall
    exact hQ.out σ w' s HS.out H.base (H.f12 (hall 12 (by decide))) (H.f13 (hall 13 (by decide)))
end Go.Proofs.YtfpngilmdgeikaaDoor
