/-
  What the law's four does: validators of four seeds, by keys. Slices of validators; append onto validators that a call owns.
  What the law's four and block answer: validators of four seeds, by keys, and the seeds; a block of theirs.
-/
import Derived.Test.YtfpngilmdgeikaaDoorHdSignAll
import Derived.Test.YtfpngilmdgeikaaDoorHdFacts
import Derived.Test.YtfpngilmdgeikaaDoorRegions
import Derived.Test.YtfpngilmdgeikaaDoorRef2Key
import Derived.Test.YtfpngilmdgeikaaDoorHdRDig
import Derived.Test.YtfpngilmdgeikaaDoorHdRSignAll
import Derived.Deep.QuietTactic
import Derived.BigQuiet
namespace Go.Proofs.YtfpngilmdgeikaaDoor
open Go.RowKit

theorem sizeV (w : World) : (sizeOf (Tryd.prog.elem 22)).run Tryd.prog w = .ok 2 w := by kernel_rfl
theorem vals_between {w : World} {N : Nat} {oa : Option Addr} {n ca : Nat} {l : List Vl} (h : Vals w N (.slice oa n ca) l) (i j : Nat) (hij : i ≤ j) (hj : j ≤ n) : Vals w N (sliced oa i j ca 2) ((l.drop i).take (j - i)) := by
  obtain ⟨oa', ca', he, hc⟩ := h.shape
  obtain ⟨rfl, hn, rfl⟩ : oa = oa' ∧ n = l.length ∧ ca = ca' := by simpa using he
  subst hn
  by_cases h0 : i = j
  · subst h0
    have e : (l.drop i).take (i - i) = [] := by simp
    rw [e]
    cases oa with
    | none =>
      rcases h with ⟨h1, h2⟩ | ⟨a, cap, h1, _⟩ | ⟨b, off, cap, h1, _, _⟩
      · obtain ⟨h3, rfl⟩ : l.length = 0 ∧ ca = 0 := by simpa using h1
        left
        have : i = 0 := by omega
        subst this
        simp [sliced]
      · simp at h1
      · simp at h1
    | some a =>
      right; left
      refine ⟨if ca = i then a else a.add (i * 2), ca - i, ?_, rfl⟩
      simp only [sliced, Nat.sub_self]
      split <;> simp
  · obtain ⟨b, o, rfl, c1⟩ := Recs.spot h (by omega)
    have hne : ¬ ca = i := by omega
    right; right
    have hl : (((l.drop i).take (j - i)).map vlRow).length = j - i := by simp; omega
    refine ⟨b, o + i * 2, ca - i, ?_, ?_, ?_⟩
    · rw [hl]
      simp [sliced, hne, Addr.add]
    · rw [hl]; omega
    · intro q r hq
      have hq' : (l.map vlRow)[i + q]? = some r := by
        rw [← hq]
        have : q < j - i := by have := (List.getElem?_eq_some_iff.1 hq).1; rw [hl] at this; exact this
        simp [this]
      have := c1 (i + q) r hq'
      refine ⟨this.1, fun t x hx => ?_⟩
      have h2 := this.2 t x hx
      rw [show o + i * 2 + q * 2 + t = o + (i + q) * 2 + t by omega]
      exact h2
theorem sliceV_from {w : World} {N : Nat} {oa : Option Addr} {n ca : Nat} {l : List Vl} (h : Vals w N (.slice oa n ca) l) (kd : IntKind) (i : Nat) (hi : i ≤ n) :
    ∃ v, (∀ w', (Instr.sliceAt 22 (.slice oa n ca) (some (.int kd (i : Int))) none none).run Tryd.prog w' = .ok v w') ∧ Vals w N v (l.drop i) := by
  have hn : n = l.length := by obtain ⟨oa', ca', he, _⟩ := h.shape; simp at he; exact he.2.1
  refine ⟨sliced oa i n ca 2, fun w' => ?_, ?_⟩
  · rw [run_sliceAt_slice w' _ _ _ _ _ elemV, run_slice_l w' _ _ _ _ elemV kd (i : Int) (by omega) (by omega), sizeV]
    rfl
  · have := vals_between h i n hi (Nat.le_refl _)
    rwa [List.take_of_length_le (by simp; omega)] at this
theorem sliceV_to {w : World} {N : Nat} {oa : Option Addr} {n ca : Nat} {l : List Vl} (h : Vals w N (.slice oa n ca) l) (kd : IntKind) (j : Nat) (hj : j ≤ n) :
    ∃ v, (∀ w', (Instr.sliceAt 22 (.slice oa n ca) none (some (.int kd (j : Int))) none).run Tryd.prog w' = .ok v w') ∧ Vals w N v (l.take j) := by
  have hc : n ≤ ca := by obtain ⟨oa', ca', he, hc⟩ := h.shape; simp at he; omega
  refine ⟨sliced oa 0 j ca 2, fun w' => ?_, ?_⟩
  · rw [run_sliceAt_slice w' _ _ _ _ _ elemV, run_slice_h w' _ _ _ _ elemV kd (j : Int) (by omega) (by omega), sizeV]
    rfl
  · have := vals_between h 0 j (Nat.zero_le _) hj
    simpa using this
/-- a row of validators that a call owns -/
def OwnVl (w : World) (base : Nat) (v : Value) (l : List Vl) : Prop := w.ownsRow base 45 2 v l.length ((l.map vlRow).flatten)
theorem OwnVl.below {w w' : World} {base : Nat} {v : Value} {l : List Vl} (h : OwnVl w base v l) (hg : Below w.heap.size w w') : OwnVl w' base v l := ownsRow_below h hg
theorem OwnVl.vals {w : World} {base : Nat} {v : Value} {l : List Vl} (h : OwnVl w base v l) : Vals w w.heap.size v l := by
  unfold OwnVl at h
  rw [show l.length = (l.map vlRow).length by simp] at h
  exact ownsRow_recs h vlRow_len
theorem OwnVl.none {w : World} {base h : Nat} (hr : Row w h 45 []) (hb : base ≤ h) : OwnVl w base (.slice (some ⟨h, 0, none⟩) 0 0) [] :=
  ⟨rfl, .inr ⟨h, 0, #[], rfl, hb, hr, Nat.le_refl _, by unfold maxLen; omega, rfl, rfl⟩⟩
theorem vlOne (l : List Vl) : ∀ u ∈ (l.map vlRow).flatten, u.oneCell' = true := by
  intro u hu
  obtain ⟨r, hr, hur⟩ := List.mem_flatten.1 hu
  obtain ⟨v, _, rfl⟩ := List.mem_map.1 hr
  simp [vlRow] at hur
  rcases hur with rfl | rfl <;> rfl
theorem wp_append_vl {o : Oper} {a : Act} {w : World} {K : Act → World → Prop} {Q : Exit → Act → World → Prop} (s x : Operand)
    (ho : o.op = .call { callee := .builtin .append, args := #[s, x], argTypes := #[22, 22] })
    (base : Nat) (v : Value) (m : List Vl) (hs : a.eval s = v) (hown : OwnVl w base v m) (sv : Value) (l : List Vl) (hx : a.eval x = sv) {N : Nat} (hb : Vals w N sv l)
    (hle : m.length + l.length ≤ 1000) (hbase : base ≤ w.heap.size)
    (h : ∀ v' w', OwnVl w' base v' (m ++ l) → w.grownBy w' v.ownBlock → Below base w w' → K (a.put o.dst v') w') : o.wp Tryd.prog a w K Q := by
  obtain ⟨i0, hi0, hz0, hz1, hz2⟩ := info_parts info_val
  rcases Recs.source hb vlRow_len (by omega) with ⟨rfl, h0⟩ | ⟨ad, cap, rfl, hsrc⟩
  · obtain rfl : l = [] := by simpa using h0
    have hrun := run_append_owned_none (P := Tryd.prog) (w := w) base 22 o.type 45 i0 2 Tryd.underlying22 hi0 v m.length ((m.map vlRow).flatten) hown
    unfold Oper.wp
    simp [execOp, ho, resolve, invoke, builtin, hs, hx, hrun, Result.andThen]
    exact h v w (by simpa using hown) (grown_refl _ _) (Below.refl _ _)
  · refine wp_append_own w s x 22 ho base 45 i0 _ 2 16 Tryd.underlying22 hi0 hz0 hz1 hz2 rfl (by decide) v m.length ((m.map vlRow).flatten) hs hown ad (l.map vlRow).length cap ((l.map vlRow).flatten) hx (by rw [vlFlat_len, List.length_map]) hsrc
      (vlOne l) (by rw [List.length_map]; unfold maxLen; omega) (by rw [List.length_map]; omega) hbase ?_
    intro v' w' h1 h2 _
    refine h v' w' ?_ h2 ((Below.refl base w).grown h2 hbase (fun k hk => (hown.lt k hk).1))
    unfold OwnVl
    rw [List.length_append, List.map_append, List.flatten_append]
    rw [List.length_map] at h1
    exact h1
theorem vals_one {w : World} {g : Nat} {v : Vl} (h : Row w g 45 (vlRow v)) : Vals w w.heap.size (.slice (some ⟨g, 0, none⟩) 1 1) [v] := by
  refine .inr (.inr ⟨g, 0, 1, rfl, by simp, fun i r hr => ⟨h.lt, fun j x hx => ?_⟩⟩)
  obtain rfl : i = 0 := by
    have := (List.getElem?_eq_some_iff.1 hr).1
    simpa using this
  obtain rfl : vlRow v = r := by simpa using hr
  rw [h.cell]
  simpa using hx
/-- what is known while a list of validators is laid anew with one more in it -/
structure Four (B : Nat) (w0 : World) (lv : Value) (l : List Vl) (v : Vl) (k : Nat) (b : Nat → Bool) (σ : Nat → Value) (W : World) : Prop where
  base : Below B w0 W
  cl : (b 7 = true → b 4 = true ∧ b 6 = true) ∧ (b 11 = true → b 7 = true) ∧ (b 12 = true → b 1 = true ∧ b 8 = true ∧ b 11 = true)
  e4 : b 12 = false → σ 12 = lv
  f0 : b 0 = true → b 4 = false → ∃ h, σ 0 = .slice (some ⟨h, 0, none⟩) 0 0 ∧ Row W h 45 [] ∧ B ≤ h
  f1 : b 1 = true → σ 1 = lv
  f2 : b 2 = true → σ 2 = .int .i64 (k : Int)
  f3 : b 3 = true → Vals w0 B (σ 3) (l.take k)
  f4 : b 4 = true → b 7 = false → OwnVl W B (σ 4) (l.take k)
  f5 : b 5 = true → σ 5 = .agg #[.int .u64 (v.key : Int), .int .u64 (v.power : Int)]
  f6 : b 6 = true → b 7 = false → ∃ g, σ 6 = .slice (some ⟨g, 0, none⟩) 1 1 ∧ Row W g 45 (vlRow v)
  f7 : b 7 = true → b 11 = false → OwnVl W B (σ 7) (l.take k ++ [v])
  f8 : b 8 = true → σ 8 = lv
  f9 : b 9 = true → σ 9 = .int .i64 (k : Int)
  f10 : b 10 = true → Vals w0 B (σ 10) (l.drop k)
  f11 : b 11 = true → b 12 = false → OwnVl W B (σ 11) (l.take k ++ [v] ++ l.drop k)
  f12 : b 12 = true → OwnVl W B (σ 12) (l.take k ++ [v] ++ l.drop k)
theorem tf' {p : Prop} (h : true = false) : p := by cases h
theorem ft' {p : Prop} (h : false = true) : p := by cases h
set_option maxRecDepth 100000 in
set_option maxHeartbeats 4000000 in
theorem fourRegion {y0 y1 y2 y3 y5 y6 y7 y10 y11 y12 y13 y14 y15 y16 y17 y18 y19 y20 y21 y22 y23 y24 y25 y26 y27 y28 y29 y30 y31 y32 y33 y34 y35 y48 y49 y50 y51 y52 y53 z36 z37 z38 z39 z40 z41 z42 z43 z44 z45 z46 z47 : Value} {gb : Nat} (l : List Vl) (v : Vl) (k : Nat) (oa : Option Addr) (ca : Nat) {w : World} (hl : Hid (Vals w w.heap.size (.slice oa l.length ca) l)) (hr : Hid (Row w gb 45 [.int .u64 (v.key : Int), .int .u64 (v.power : Int)])) (hk : k ≤ l.length) (hlen : l.length ≤ 100) (Q : Exit → Act → World → Prop)
    (hQ : Hid (∀ (σ : Nat → Value) (w' : World), Below w.heap.size w w' → OwnVl w' w.heap.size (σ 12) (l.take k ++ [v] ++ l.drop k) → Q .normal ⟨#[y0, y1, y2, y3, σ 12, y5, y6, y7, .pointer (some ⟨gb, 0, none⟩), .int .i64 (k : Int), y10, y11, y12, y13, y14, y15, y16, y17, y18, y19, y20, y21, y22, y23, y24, y25, y26, y27, y28, y29, y30, y31, y32, y33, y34, y35, σ 0, σ 1, σ 2, σ 3, σ 4, σ 5, σ 6, σ 7, σ 8, σ 9, σ 10, σ 11, y48, y49, y50, y51, y52, y53], []⟩ w')) :
    Code.wp Tryd.prog (.region 11 ((Tryd.f64.body.bind (regOf 11)).getD #[]) true) Q ⟨#[y0, y1, y2, y3, .slice oa l.length ca, y5, y6, y7, .pointer (some ⟨gb, 0, none⟩), .int .i64 (k : Int), y10, y11, y12, y13, y14, y15, y16, y17, y18, y19, y20, y21, y22, y23, y24, y25, y26, y27, y28, y29, y30, y31, y32, y33, y34, y35, z36, z37, z38, z39, z40, z41, z42, z43, z44, z45, z46, z47, y48, y49, y50, y51, y52, y53], []⟩ w := by
  conv => arg 2; arg 2; whnf
  conv => arg 4; dsimp only
  refine region_flags (by kernel_rfl) (fun σ => #[y0, y1, y2, y3, σ 12, y5, y6, y7, .pointer (some ⟨gb, 0, none⟩), .int .i64 (k : Int), y10, y11, y12, y13, y14, y15, y16, y17, y18, y19, y20, y21, y22, y23, y24, y25, y26, y27, y28, y29, y30, y31, y32, y33, y34, y35, σ 0, σ 1, σ 2, σ 3, σ 4, σ 5, σ 6, σ 7, σ 8, σ 9, σ 10, σ 11, y48, y49, y50, y51, y52, y53]) (fun i => ([z36, z37, z38, z39, z40, z41, z42, z43, z44, z45, z46, z47, .slice oa l.length ca] : List Value).getD i undef) rfl (Four w.heap.size w (.slice oa l.length ca) l v k) ?_ (by kernel_rfl) ?_ ?_
  · exact ⟨(Below.refl _ _).drew, ⟨ft', ft', ft'⟩, fun _ => rfl, ft', ft', ft', ft', ft', ft', ft', ft', ft', ft', ft', ft', ft'⟩
  · refine ⟨?_, ?_, ?_, ?_, ?_, ?_, ?_, ?_, ?_, ?_, ?_, ?_, ?_, trivial⟩
    · -- 0
      intro b σ W hb H hdep
      simp [Region.binds] at hdep
      have H := hid H
      refine wpOp_plain rfl rfl ?_
      go_simp
      exact ⟨.slice (some ⟨W.heap.size, 0, none⟩) 0 0, (by first | rfl | simp [updF, *]), ⟨H.out.base.alloc H.out.base.size _, H.out.cl, H.out.e4, fun _ _ => ⟨W.heap.size, rfl, Row.new _ _ _, H.out.base.size⟩, H.out.f1, H.out.f2, H.out.f3, fun e1 e2 => (H.out.f4 e1 e2).below ((Below.refl _ _).alloc (Nat.le_refl _) _), H.out.f5, fun e1 e2 => by obtain ⟨g, h1, h2⟩ := H.out.f6 e1 e2; exact ⟨g, h1, h2.alloc _⟩, fun e1 e2 => (H.out.f7 e1 e2).below ((Below.refl _ _).alloc (Nat.le_refl _) _), H.out.f8, H.out.f9, H.out.f10, fun e1 e2 => (H.out.f11 e1 e2).below ((Below.refl _ _).alloc (Nat.le_refl _) _), fun e1 => (H.out.f12 e1).below ((Below.refl _ _).alloc (Nat.le_refl _) _)⟩⟩
    · -- 1
      intro b σ W hb H hdep
      simp [Region.binds] at hdep
      have H := hid H
      have hb12 : b 12 = false := by
        cases h12 : b 12 with
        | false => rfl
        | true => have := (H.out.cl.2.2 h12).1; rw [hb] at this; cases this
      have e4 := H.out.e4 hb12
      refine wpOp_plain rfl rfl ?_
      go_simp
      exact ⟨.slice oa l.length ca, (by first | rfl | simp [updF, *]), ⟨H.out.base, ⟨H.out.cl.1, H.out.cl.2.1, fun e => ⟨rfl, (H.out.cl.2.2 e).2⟩⟩, H.out.e4, H.out.f0, fun _ => rfl, H.out.f2, H.out.f3, H.out.f4, H.out.f5, H.out.f6, H.out.f7, H.out.f8, H.out.f9, H.out.f10, H.out.f11, H.out.f12⟩⟩
    · -- 2
      intro b σ W hb H hdep
      simp [Region.binds] at hdep
      have H := hid H
      refine wpOp_plain rfl rfl ?_
      go_simp
      exact ⟨.int .i64 (k : Int), (by first | rfl | simp [updF, *]), ⟨H.out.base, H.out.cl, H.out.e4, H.out.f0, H.out.f1, fun _ => rfl, H.out.f3, H.out.f4, H.out.f5, H.out.f6, H.out.f7, H.out.f8, H.out.f9, H.out.f10, H.out.f11, H.out.f12⟩⟩
    · -- 3
      intro b σ W hb H hdep
      simp [Region.binds] at hdep
      have H := hid H
      have e1 := H.out.f1 hdep.1
      have e2 := H.out.f2 hdep.2
      obtain ⟨v3, hrun, hv3⟩ := sliceV_to (n := l.length) hl.out .i64 k hk
      have HV3 := hid hv3
      clear hv3 hdep
      refine wpOp_plain rfl rfl ?_
      go_simp
      exact ⟨v3, (by first | rfl | simp [updF, *]), ⟨H.out.base, H.out.cl, H.out.e4, H.out.f0, H.out.f1, H.out.f2, fun _ => HV3.out, H.out.f4, H.out.f5, H.out.f6, H.out.f7, H.out.f8, H.out.f9, H.out.f10, H.out.f11, H.out.f12⟩⟩
    · -- 4
      intro b σ W hb H hdep
      simp [Region.binds] at hdep
      have H := hid H
      obtain ⟨h, e0, hrow, hBh⟩ := H.out.f0 hdep.1 hb
      have h3 := H.out.f3 hdep.2
      have hn7 : b 7 = false := by
        cases h7 : b 7 with
        | false => rfl
        | true => have := (H.out.cl.1 h7).1; rw [hb] at this; cases this
      have hn11 : b 11 = false := by
        cases h11 : b 11 with
        | false => rfl
        | true => have := H.out.cl.2.1 h11; rw [hn7] at this; cases this
      have hn12 : b 12 = false := by
        cases h12 : b 12 with
        | false => rfl
        | true => have := (H.out.cl.2.2 h12).2.2; rw [hn11] at this; cases this
      refine wpOp_plain rfl rfl ?_
      refine wp_append_vl (.tmp 36) (.tmp 39) rfl w.heap.size (.slice (some ⟨h, 0, none⟩) 0 0) [] e0 (OwnVl.none hrow hBh) (σ 3) (l.take k) rfl (h3.below H.out.base) (by simp; omega) H.out.base.size ?_
      intro v4 w4 hown hgr hbw
      exact ⟨v4, (by first | rfl | simp [updF, *]), ⟨H.out.base.trans hbw, ⟨fun e => absurd (hn7.symm.trans e) (by decide), H.out.cl.2.1, H.out.cl.2.2⟩, H.out.e4, fun _ e => tf' e, H.out.f1, H.out.f2, H.out.f3, fun _ _ => hown, H.out.f5, fun e1 e2 => by obtain ⟨g, h1, h2⟩ := H.out.f6 e1 e2; exact ⟨g, h1, h2.grown hgr (by intro e; have e' : g = h := (by simpa [Value.ownBlock] using e); rw [e'] at h2; unfold Row at h2 hrow; rw [hrow] at h2; simp [vlRow] at h2)⟩, fun e => absurd (hn7.symm.trans e) (by decide), H.out.f8, H.out.f9, H.out.f10, fun e => absurd (hn11.symm.trans e) (by decide), fun e => absurd (hn12.symm.trans e) (by decide)⟩⟩
    · -- 5
      intro b σ W hb H hdep
      simp [Region.binds] at hdep
      have H := hid H
      have k0 := (hr.out.below H.out.base hr.out.lt).cell 0
      have k1 := (hr.out.below H.out.base hr.out.lt).cell 1
      simp at k0 k1
      refine wpOp_plain rfl rfl ?_
      go_simp
      exact ⟨.agg #[.int .u64 (v.key : Int), .int .u64 (v.power : Int)], (by first | rfl | simp [updF, *]), ⟨H.out.base, H.out.cl, H.out.e4, H.out.f0, H.out.f1, H.out.f2, H.out.f3, H.out.f4, fun _ => rfl, H.out.f6, H.out.f7, H.out.f8, H.out.f9, H.out.f10, H.out.f11, H.out.f12⟩⟩
    · -- 6
      intro b σ W hb H hdep
      simp [Region.binds] at hdep
      have H := hid H
      have e5 := H.out.f5 hdep
      refine wpOp_plain rfl rfl ?_
      go_simp
      exact ⟨.slice (some ⟨W.heap.size, 0, none⟩) 1 1, (by first | rfl | simp [updF, *]), ⟨H.out.base.alloc H.out.base.size _, ⟨fun e => ⟨(H.out.cl.1 e).1, rfl⟩, H.out.cl.2.1, H.out.cl.2.2⟩, H.out.e4, fun e1 e2 => by obtain ⟨h, h1, h2, h3⟩ := H.out.f0 e1 e2; exact ⟨h, h1, h2.alloc _, h3⟩, H.out.f1, H.out.f2, H.out.f3, fun e1 e2 => (H.out.f4 e1 e2).below ((Below.refl _ _).alloc (Nat.le_refl _) _), H.out.f5, fun _ _ => ⟨W.heap.size, rfl, Row.new _ _ _⟩, fun e1 e2 => (H.out.f7 e1 e2).below ((Below.refl _ _).alloc (Nat.le_refl _) _), H.out.f8, H.out.f9, H.out.f10, fun e1 e2 => (H.out.f11 e1 e2).below ((Below.refl _ _).alloc (Nat.le_refl _) _), fun e1 => (H.out.f12 e1).below ((Below.refl _ _).alloc (Nat.le_refl _) _)⟩⟩
    · -- 7
      intro b σ W hb H hdep
      simp [Region.binds] at hdep
      have H := hid H
      have h4 := H.out.f4 hdep.1 hb
      obtain ⟨g, e6, hrow⟩ := H.out.f6 hdep.2.1 hb
      have hd := hdep
      have hn11 : b 11 = false := by
        cases h11 : b 11 with
        | false => rfl
        | true => have := H.out.cl.2.1 h11; rw [hb] at this; cases this
      have hn12 : b 12 = false := by
        cases h12 : b 12 with
        | false => rfl
        | true => have := (H.out.cl.2.2 h12).2.2; rw [hn11] at this; cases this
      refine wpOp_plain rfl rfl ?_
      refine wp_append_vl (.tmp 40) (.tmp 42) rfl w.heap.size (σ 4) (l.take k) rfl h4 (.slice (some ⟨g, 0, none⟩) 1 1) [v] e6 (vals_one hrow) (by simp; omega) H.out.base.size ?_
      intro v7 w7 hown hgr hbw
      exact ⟨v7, (by first | rfl | simp [updF, *]), ⟨H.out.base.trans hbw, ⟨fun _ => ⟨hd.1, hd.2.1⟩, fun e => absurd (hn11.symm.trans e) (by decide), H.out.cl.2.2⟩, H.out.e4, fun _ e => absurd (e.symm.trans hd.1) (by decide), H.out.f1, H.out.f2, H.out.f3, fun _ e => tf' e, H.out.f5, fun _ e => tf' e, fun _ _ => hown, H.out.f8, H.out.f9, H.out.f10, fun e => absurd (hn11.symm.trans e) (by decide), fun e => absurd (hn12.symm.trans e) (by decide)⟩⟩
    · -- 8
      intro b σ W hb H hdep
      simp [Region.binds] at hdep
      have H := hid H
      have hb12 : b 12 = false := by
        cases h12 : b 12 with
        | false => rfl
        | true => have := (H.out.cl.2.2 h12).2.1; rw [hb] at this; cases this
      have e4 := H.out.e4 hb12
      refine wpOp_plain rfl rfl ?_
      go_simp
      exact ⟨.slice oa l.length ca, (by first | rfl | simp [updF, *]), ⟨H.out.base, ⟨H.out.cl.1, H.out.cl.2.1, fun e => ⟨(H.out.cl.2.2 e).1, rfl, (H.out.cl.2.2 e).2.2⟩⟩, H.out.e4, H.out.f0, H.out.f1, H.out.f2, H.out.f3, H.out.f4, H.out.f5, H.out.f6, H.out.f7, fun _ => rfl, H.out.f9, H.out.f10, H.out.f11, H.out.f12⟩⟩
    · -- 9
      intro b σ W hb H hdep
      simp [Region.binds] at hdep
      have H := hid H
      refine wpOp_plain rfl rfl ?_
      go_simp
      exact ⟨.int .i64 (k : Int), (by first | rfl | simp [updF, *]), ⟨H.out.base, H.out.cl, H.out.e4, H.out.f0, H.out.f1, H.out.f2, H.out.f3, H.out.f4, H.out.f5, H.out.f6, H.out.f7, H.out.f8, fun _ => rfl, H.out.f10, H.out.f11, H.out.f12⟩⟩
    · -- 10
      intro b σ W hb H hdep
      simp [Region.binds] at hdep
      have H := hid H
      have e8 := H.out.f8 hdep.1
      have e9 := H.out.f9 hdep.2
      obtain ⟨v3, hrun, hv3⟩ := sliceV_from (n := l.length) hl.out .i64 k hk
      have HV3 := hid hv3
      clear hv3 hdep
      refine wpOp_plain rfl rfl ?_
      go_simp
      exact ⟨v3, (by first | rfl | simp [updF, *]), ⟨H.out.base, H.out.cl, H.out.e4, H.out.f0, H.out.f1, H.out.f2, H.out.f3, H.out.f4, H.out.f5, H.out.f6, H.out.f7, H.out.f8, H.out.f9, fun _ => HV3.out, H.out.f11, H.out.f12⟩⟩
    · -- 11
      intro b σ W hb H hdep
      simp [Region.binds] at hdep
      have H := hid H
      have h7 := H.out.f7 hdep.1 hb
      have h10 := H.out.f10 hdep.2.1
      have hd := hdep
      have h46 := H.out.cl.1 hd.1
      have hn12 : b 12 = false := by
        cases h12 : b 12 with
        | false => rfl
        | true => have := (H.out.cl.2.2 h12).2.2; rw [hb] at this; cases this
      refine wpOp_plain rfl rfl ?_
      refine wp_append_vl (.tmp 43) (.tmp 46) rfl w.heap.size (σ 7) (l.take k ++ [v]) rfl h7 (σ 10) (l.drop k) rfl (h10.below H.out.base) (by simp; omega) H.out.base.size ?_
      intro v11 w11 hown hgr hbw
      exact ⟨v11, (by first | rfl | simp [updF, *]), ⟨H.out.base.trans hbw, ⟨H.out.cl.1, fun _ => hd.1, fun e => absurd (hn12.symm.trans e) (by decide)⟩, H.out.e4, fun _ e => absurd (e.symm.trans h46.1) (by decide), H.out.f1, H.out.f2, H.out.f3, fun _ e => absurd (e.symm.trans hd.1) (by decide), H.out.f5, fun _ e => absurd (e.symm.trans hd.1) (by decide), fun _ e => tf' e, H.out.f8, H.out.f9, H.out.f10, fun _ _ => hown, fun e => absurd (hn12.symm.trans e) (by decide)⟩⟩
    · -- 12
      intro b σ W hb H hdep
      simp [Region.binds] at hdep
      have H := hid H
      obtain ⟨h11, h1, h8⟩ : b 11 = true ∧ b 1 = true ∧ b 8 = true := by
        first | (refine ⟨?_, ?_, ?_⟩ <;> simp [hdep])
      have hown := H.out.f11 h11 hb
      clear hdep
      refine wpOp_plain rfl rfl ?_
      go_simp
      exact ⟨σ 11, (by first | rfl | simp [updF, *]), ⟨H.out.base, ⟨H.out.cl.1, H.out.cl.2.1, fun _ => ⟨h1, h8, h11⟩⟩, fun e => tf' e, H.out.f0, H.out.f1, H.out.f2, H.out.f3, H.out.f4, H.out.f5, H.out.f6, H.out.f7, H.out.f8, H.out.f9, H.out.f10, fun _ e => tf' e, fun _ => hown⟩⟩
  · intro b σ w' H hall
    exact hQ.out σ w' H.base (H.f12 (hall 12 (by decide)))
end Go.Proofs.YtfpngilmdgeikaaDoor
namespace Go.Proofs.YtfpngilmdgeikaaDoor
open Go.RowKit

theorem rankV_eq : ∀ (l : List Vl) (key k : Nat), (∀ j v, j < k → l[j]? = some v → v.key < key) → k ≤ l.length → (∀ v, l[k]? = some v → key ≤ v.key) → rankV l key = k
  | [], key, k, _, hk, _ => by
    have : k = 0 := by simpa using hk
    subst this
    rfl
  | v :: l, key, 0, _, _, h => by
    have := h v rfl
    unfold rankV
    rw [List.takeWhile_cons_of_neg (by simp; omega)]
    rfl
  | v :: l, key, k + 1, h1, hk, h2 => by
    have hv := h1 0 v (by omega) rfl
    have ih := rankV_eq l key k (fun j x hj hx => h1 (j + 1) x (by omega) (by simpa using hx)) (by simpa using hk) (fun x hx => h2 x (by simpa using hx))
    unfold rankV at ih ⊢
    rw [List.takeWhile_cons_of_pos (by simpa using hv), List.length_cons, ih]
/-- single letters, each in a row of its own, in a row that a call owns -/
def OwnSd (w : World) (base : Nat) (v : Value) (bs : List (BitVec 8)) : Prop :=
  ∃ gs : List Nat, gs.length = bs.length ∧ w.ownsRow base 23 1 v bs.length (gs.map fun g => .slice (some ⟨g, 0, none⟩) 1 1) ∧ ∀ (i g : Nat) (b : BitVec 8), gs[i]? = some g → bs[i]? = some b → Row w g 5 [V b]
theorem OwnSd.nil (w : World) (base : Nat) : OwnSd w base (.slice none 0 0) [] := ⟨[], rfl, World.ownsRow_nil _ _ _ _, fun i g b h => by simp at h⟩
theorem OwnSd.below {w w' : World} {base : Nat} {v : Value} {bs : List (BitVec 8)} (h : OwnSd w base v bs) (hg : Below w.heap.size w w') : OwnSd w' base v bs := by
  obtain ⟨gs, h1, h2, h3⟩ := h
  exact ⟨gs, h1, ownsRow_below h2 hg, fun i g b hg' hb => (h3 i g b hg' hb).below hg (h3 i g b hg' hb).lt⟩
theorem OwnSd.shape {w : World} {base : Nat} {v : Value} {bs : List (BitVec 8)} (h : OwnSd w base v bs) : ∃ oa cap, v = .slice oa bs.length cap ∧ bs.length ≤ cap := by
  obtain ⟨gs, _, h2, _⟩ := h
  obtain ⟨oa, cap, h3, h4, _⟩ := ownsRow_shape h2
  exact ⟨oa, cap, h3, h4⟩
theorem OwnSd.lists {w : World} {base : Nat} {v : Value} {bs : List (BitVec 8)} (h : OwnSd w base v bs) : Lists w w.heap.size v (bs.map fun b => [b]) := by
  obtain ⟨gs, h1, h2, h3⟩ := h
  obtain ⟨oa, cap, rfl, hc, hs⟩ := ownsRow_shape h2
  by_cases h0 : bs.length = 0
  · obtain rfl : bs = [] := List.length_eq_zero_iff.1 h0
    cases oa with
    | none =>
      obtain ⟨_, h4⟩ := h2
      rcases h4 with ⟨h5, _⟩ | ⟨_, _, _, h5, _⟩
      · exact .inl ⟨h5, rfl⟩
      · simp at h5
    | some a => exact .inr (.inl ⟨a, cap, rfl, rfl⟩)
  · obtain ⟨g, rfl, _, hlt, hcell⟩ := hs (by omega)
    refine .inr (.inr ⟨g, 0, cap, by simp, by simpa using hc, fun i hi => ⟨hlt, ?_⟩⟩)
    have hi' : i < bs.length := by simpa using hi
    obtain ⟨gi, hgi⟩ : ∃ gi, gs[i]? = some gi := ⟨gs[i]'(by omega), List.getElem?_eq_getElem _⟩
    obtain ⟨b, hb⟩ : ∃ b, bs[i]? = some b := ⟨bs[i], List.getElem?_eq_getElem hi'⟩
    have hr := h3 i gi b hgi hb
    refine ⟨.slice (some ⟨gi, 0, none⟩) 1 1, ?_, ?_⟩
    · rw [Nat.zero_add, (hcell i hi').1]
      simp [hgi]
    · have e : (bs.map fun b => [b]).getD i [] = [b] := by simp [List.getD, hb]
      rw [e]
      refine .inr (.inr ⟨gi, 0, 1, rfl, by simp, fun q hq => ⟨hr.lt, ?_⟩⟩)
      obtain rfl : q = 0 := by simpa using hq
      rw [hr.cell]
      rfl
theorem wpList_append_sd {ops : Array Oper} {rest : List Oper} {o : Oper} {a : Act} {wr : World} {Q : Exit → Act → World → Prop} (hgd : o.guard = none) (s x : Operand)
    (ho : o.op = .call { callee := .builtin .append, args := #[s, x], argTypes := #[26, 26] })
    (base : Nat) (v : Value) (bs : List (BitVec 8)) (hs : a.eval s = v) (hown : OwnSd wr base v bs) (g : Nat) (b : BitVec 8) (hr : Row wr g 5 [V b]) (hx : a.eval x = .slice (some ⟨wr.heap.size, 0, none⟩) 1 1) (hl : bs.length ≤ 1000) (hbase : base ≤ wr.heap.size)
    (h : ∀ v' w', OwnSd w' base v' (bs ++ [b]) → (∀ k cs, Row wr k 45 cs → Row w' k 45 cs) → Below base wr w' → wr.heap.size ≤ w'.heap.size → (∀ v l, OwnVl wr base v l → OwnVl w' base v l) → wpList Tryd.prog ops Q rest (a.put o.dst v') w') :
    wpList Tryd.prog ops Q (o :: rest) a (wr.alloc (.cells #[.slice (some ⟨g, 0, none⟩) 1 1] 23)) := by
  obtain ⟨i0, hi0, hz0, hz1, hz2⟩ := info_parts (show (Tryd.prog.info? 23).map (fun i => (i.zero, i.size, i.bytes)) = some (some (.slice none 0 0), 1, 24) by kernel_rfl)
  have hbe : Below wr.heap.size wr (wr.alloc (.cells #[.slice (some ⟨g, 0, none⟩) 1 1] 23)) := (Below.refl _ _).alloc (Nat.le_refl _) _
  obtain ⟨gs, g1, g2, g3⟩ := hown.below hbe
  refine wpList_append_own _ hgd s x 26 ho base 23 i0 _ 1 24 Tryd.underlying26 hi0 hz0 hz1 hz2 rfl (by decide) v bs.length _ hs g2 ⟨wr.heap.size, 0, none⟩ 1 1
    [.slice (some ⟨g, 0, none⟩) 1 1] hx rfl (cells_new _ _ _) (by simp [Value.oneCell']) (by unfold maxLen; omega) (by omega) (Nat.le_trans hbase hbe.size) ?_
  intro v' w' h1 h2 _
  refine h v' w' ⟨gs ++ [g], by simp [g1], ?_, fun i x b' hx' hb' => ?_⟩ (fun k cs hk => ((hk.alloc _).past g2 (by decide) h2)) ((hbe.mono hbase).trans ((Below.refl base _).grown h2 (Nat.le_trans hbase hbe.size) (fun k hk => (g2.lt k hk).1))) (Nat.le_trans hbe.size h2.size) (fun v l hv => ?_)
  · rw [List.length_append, List.map_append]
    exact h1
  · by_cases hi : i < gs.length
    · rw [List.getElem?_append_left hi] at hx'
      rw [List.getElem?_append_left (by omega)] at hb'
      exact (g3 i x b' hx' hb').past g2 (by decide) h2
    · rw [List.getElem?_append_right (by omega)] at hx' hb'
      rw [g1] at hx'
      have hz : i - bs.length = 0 := by
        have := (List.getElem?_eq_some_iff.1 hb').1
        simpa using this
      rw [hz] at hx' hb'
      obtain rfl : g = x := by simpa using hx'
      obtain rfl : b = b' := by simpa using hb'
      exact (hr.alloc _).past g2 (by decide) h2
  · obtain ⟨k1, k2⟩ := hv
    refine ⟨k1, ?_⟩
    rcases k2 with k2 | ⟨q, cap, cur, k3, k4, k5, k6⟩
    · exact .inl k2
    · have hq : Row wr q 45 cur.toList := by unfold Row; rw [k5]
      have := (hq.alloc (.cells #[.slice (some ⟨g, 0, none⟩) 1 1] 23)).past g2 (by decide) h2
      refine .inr ⟨q, cap, cur, k3, k4, ?_, k6⟩
      unfold Row at this
      simpa using this
theorem OwnVl.mono {w : World} {base base' : Nat} {v : Value} {l : List Vl} (h : OwnVl w base v l) (hb : base' ≤ base) : OwnVl w base' v l := by
  obtain ⟨h1, h2⟩ := h
  refine ⟨h1, ?_⟩
  rcases h2 with h2 | ⟨g, cap, cur, h3, h4, h5⟩
  · exact .inl h2
  · exact .inr ⟨g, cap, cur, h3, Nat.le_trans hb h4, h5⟩
def bsV (m : Nat) : List (BitVec 8) := (List.range m).map (BitVec.ofNat 8)
theorem bsV_succ (m : Nat) : bsV (m + 1) = bsV m ++ [BitVec.ofNat 8 m] := by simp [bsV, List.range_succ]
theorem bsV_length (m : Nat) : (bsV m).length = m := by simp [bsV]
set_option maxRecDepth 100000 in
set_option maxHeartbeats 4000000 in
theorem four_any (w : World) : Calls Tryd.prog 64 #[.int .u64 1] w fun e w' => ∃ lv sv, e = .returned (.tuple #[lv, sv]) ∧ Vals w' w'.heap.size lv (fourV 1 4) ∧ Lists w' w'.heap.size sv ((bsV 4).map fun b => [b]) ∧ Below w.heap.size w w' := by
  go_enter Tryd.func64, Tryd.ntmps64
  go_wp2_with fail
  go_loopw [4, 5, 6, 7, 8, 9] (fun lv sv i _ _ _ wr => ∃ m : Nat, m ≤ 4 ∧ i = .int .u8 (m : Int) ∧ Hid (OwnVl wr w.heap.size lv (fourV 1 m) ∧ OwnSd wr w.heap.size sv (bsV m) ∧ Below w.heap.size w wr)) (fun _ _ i _ _ _ _ => 4 - (intOf i).toNat)
  case atStart => exact ⟨0, by omega, rfl, hid ⟨World.ownsRow_nil _ _ _ _, OwnSd.nil _ _, Below.refl _ _⟩⟩
  case round =>
    obtain ⟨m, hm, rfl, HI⟩ := hrel
    have hszr := HI.out.2.2.size
    obtain ⟨os, cs, rfl, _⟩ := HI.out.2.1.shape
    have HV := hid HI.out.1.vals
    obtain ⟨ol, cl, rfl, _⟩ := HI.out.1.vals.shape
    by_cases hlt : m < 4
    · have e1 : decide ((m : Int) < 4) = true := by simp; omega
      have hbm : ((BitVec.ofNat 8 m).toNat : Int) = (m : Int) := by simp; omega
      obtain ⟨w1, hw1⟩ : ∃ w1, wr.alloc (.cells #[.int .u8 (m : Int)] 5) = w1 := ⟨_, rfl⟩
      have hb1 : Below wr.heap.size wr w1 := by rw [← hw1]; exact (Below.refl _ _).alloc (Nat.le_refl _) _
      obtain ⟨gs, hgs⟩ : ∃ gs, wr.heap.size = gs := ⟨_, rfl⟩
      have hr1 : Row w1 gs 5 [V (BitVec.ofNat 8 m)] := by
        rw [← hw1, ← hgs]
        have : V (BitVec.ofNat 8 m) = .int .u8 (m : Int) := by unfold V b8; rw [hbm]
        rw [this]
        exact Row.new _ _ _
      have HR1 := hid hr1
      have HS1 := hid (show Bytes w1 w1.heap.size (.slice (some ⟨gs, 0, none⟩) 1 1) [BitVec.ofNat 8 m] from .inr (.inr ⟨gs, 0, 1, rfl, by simp, fun q hq => ⟨hr1.lt, by
        obtain rfl : q = 0 := by simpa using hq
        rw [hr1.cell]
        rfl⟩⟩))
      have HK := hid (refKey_any [BitVec.ofNat 8 m] _ w1.heap.size w1 (Nat.le_refl _) HS1.out (by simp))
      have HO1 := hid (HI.out.1.below hb1)
      have HD1 := hid (HI.out.2.1.below hb1)
      have HB1 := hid (HI.out.2.2.trans (hb1.mono hszr))
      have HFL := hid (fourV_length 1 m)
      have HBL := hid (bsV_length m)
      have HF1 := hid (show fourV 1 (m + 1) = insV (fourV 1 m) ⟨keyN [BitVec.ofNat 8 m], 1⟩ from rfl)
      have HBS := hid (bsV_succ m)
      clear hb1 hr1 hbm
      generalize fourV 1 m = lm at *
      generalize keyN [BitVec.ofNat 8 m] = key at *
      go_wp2_with fail
      refine HK.out.mono ?_
      rintro e w2 ⟨rfl, hb2⟩
      have HR2 := hid (HR1.out.below hb2 HR1.out.lt)
      have HO2 := hid (HO1.out.below hb2)
      have HD2 := hid (HD1.out.below hb2)
      have HB2 := hid (HB1.out.trans (hb2.mono HB1.out.size))
      obtain ⟨gb, hgb⟩ : ∃ gb, w2.heap.size = gb := ⟨_, rfl⟩
      obtain ⟨w3, hw3⟩ : ∃ w3, w2.alloc (.cells #[.int .u64 (key : Int), .int .u64 1] 45) = w3 := ⟨_, rfl⟩
      have hb3 : Below w2.heap.size w2 w3 := by rw [← hw3]; exact (Below.refl _ _).alloc (Nat.le_refl _) _
      have HX3 := hid (show Row w3 gb 45 [.int .u64 (key : Int), .int .u64 ((1 : Nat) : Int)] by rw [← hw3, ← hgb]; exact Row.new _ _ _)
      have HR3 := hid (HR2.out.below hb3 HR2.out.lt)
      have HO3 := hid (HO2.out.below hb3)
      have HD3 := hid (HD2.out.below hb3)
      have HB3 := hid (HB2.out.trans (hb3.mono HB2.out.size))
      have HV3 := hid HO3.out.vals
      clear hb2 hb3 hw1 HK
      go_wp2_with fail
      clear hw3
      go_loopw [9] (fun k wx => ∃ q : Nat, q ≤ m ∧ k = .int .i64 (q : Int) ∧ (∃ d, wx = w3.drewN d) ∧ Hid (∀ j v, j < q → lm[j]? = some v → v.key < key)) (fun k _ => m - (intOf k).toNat)
      case atStart => exact ⟨0, by omega, rfl, ⟨0, by first | rfl | trivial⟩, hid (fun j v hj => absurd hj (by omega))⟩
      case round =>
        obtain ⟨q, hq, rfl, ⟨d, rfl⟩, HQ⟩ := hrel
        have hlm : lm.length = m := HFL.out
        by_cases hqm : q < m
        · obtain ⟨y, hy⟩ : ∃ y, lm[q]? = some y := ⟨lm[q]'(by omega), List.getElem?_eq_getElem _⟩
          obtain ⟨b, o, ho, hcells⟩ := HV3.out.spot (by omega)
          subst ho
          obtain ⟨hbN, d0, d1⟩ := hcells q y hy
          have f0 : ∀ d, (w3.drewN d).cell? ⟨b, o + q * 2, none⟩ = some (.int .u64 (y.key : Int)) := fun _ => d0
          have x0 : ∀ d, (w3.drewN d).cell? ⟨gb, 0, none⟩ = some (.int .u64 (key : Int)) := fun _ => HX3.out.cell 0
          have hqm' : (q : Int) < (lm.length : Int) := by omega
          have e2 : decide ((q : Int) < (lm.length : Int)) = true := by simp; omega
          have e2n : decide (q < lm.length) = true := decide_eq_true (by omega)
          have HY := hid hy
          clear d0 d1 hcells hy
          by_cases hk : y.key < key
          · have e3 : decide ((y.key : Int) < (key : Int)) = true := by simp; omega
            have e3n : decide (y.key < key) = true := decide_eq_true hk
            have HKK := hid hk
            clear hk hlm
            go_wp2_with fail
            go_quiet (fail)
            go_wp2_with fail
            go_roundw
            case rel => exact ⟨q + 1, by omega, by go_num, ⟨_, rfl⟩, hid (fun j v hj hv => by
              by_cases e : j = q
              · subst e
                rw [HY.out] at hv
                obtain rfl : y = v := by simpa using hv
                exact HKK.out
              · exact HQ.out j v (by omega) hv)⟩
            case measure => simp [intOf]; omega
          · have e3 : decide ((y.key : Int) < (key : Int)) = false := by simp; omega
            have e3n : decide (y.key < key) = false := decide_eq_false hk
            have HRK := hid (show rankV lm key = q from rankV_eq lm key q HQ.out (by omega) (fun v hv => by
              rw [HY.out] at hv
              obtain rfl : y = v := by simpa using hv
              omega))
            clear hk hlm
            go_wp2_with fail
            go_quiet (fail)
            go_wp2_with fail
            refine fourRegion (w := (w3.drewN d).drewN nq) lm ⟨key, 1⟩ q _ _ (hid (Vals.below HO3.out.vals ((below_drewH w3 d _).trans (below_drewH _ nq _)))) (hid (show Row ((w3.drewN d).drewN nq) gb 45 [.int .u64 (key : Int), .int .u64 ((1 : Nat) : Int)] from HX3.out)) (by have := HFL.out; omega) (by have := HFL.out; omega) _ (hid ?_)
            intro σ w4 hb4 hown4
            have HB34 := hid (show Below w3.heap.size w3 w4 from ((below_drewH w3 d _).trans (below_drewH _ nq _)).trans hb4)
            have HO4 := hid (show OwnVl w4 w.heap.size (σ 12) (insV lm ⟨key, 1⟩) by
              unfold insV
              simp only
              rw [HRK.out]
              exact OwnVl.mono hown4 HB3.out.size)
            have HR4 := hid (HR3.out.below HB34.out HR3.out.lt)
            have HD4 := hid (HD3.out.below HB34.out)
            have HB4 := hid (HB3.out.trans (HB34.out.mono HB3.out.size))
            have HWS := hid HB4.out.size
            have HBB := hid (show (bsV m).length ≤ 1000 by rw [HBL.out]; omega)
            have hw8 : IntKind.u8.wrap ((m : Int) + 1) = ((m + 1 : Nat) : Int) := by simp [IntKind.wrap, IntKind.bits, IntKind.signed]; omega
            generalize σ 12 = nv at *
            clear hb4 hown4
            go_wp2_with (at_builtin; refine wpList_append_sd rfl (.tmp 48) (.tmp 50) rfl w.heap.size _ (bsV m) rfl HD4.out gs (BitVec.ofNat 8 m) HR4.out rfl HBB.out HWS.out ?_; intro v5 w5 hs5 _ hb5 _ hv5)
            go_roundw
            case rel => exact ⟨m + 1, by omega, by go_num, hid ⟨by rw [HF1.out]; exact hv5 _ _ HO4.out, by rw [HBS.out]; exact hs5, HB4.out.trans hb5⟩⟩
            case measure => simp [intOf]; omega
        · have e2 : decide ((q : Int) < (lm.length : Int)) = false := by simp; omega
          have e2n : decide (q < lm.length) = false := decide_eq_false (by omega)
          have HRK := hid (show rankV lm key = q from rankV_eq lm key q HQ.out (by omega) (fun v hv => by
            have := (List.getElem?_eq_some_iff.1 hv).1
            omega))
          clear hlm
          go_wp2_with fail
          go_quiet (fail)
          go_wp2_with fail
          refine fourRegion (w := (w3.drewN d).drewN nq) lm ⟨key, 1⟩ q _ _ (hid (Vals.below HO3.out.vals ((below_drewH w3 d _).trans (below_drewH _ nq _)))) (hid (show Row ((w3.drewN d).drewN nq) gb 45 [.int .u64 (key : Int), .int .u64 ((1 : Nat) : Int)] from HX3.out)) (by have := HFL.out; omega) (by have := HFL.out; omega) _ (hid ?_)
          intro σ w4 hb4 hown4
          have HB34 := hid (show Below w3.heap.size w3 w4 from ((below_drewH w3 d _).trans (below_drewH _ nq _)).trans hb4)
          have HO4 := hid (show OwnVl w4 w.heap.size (σ 12) (insV lm ⟨key, 1⟩) by
            unfold insV
            simp only
            rw [HRK.out]
            exact OwnVl.mono hown4 HB3.out.size)
          have HR4 := hid (HR3.out.below HB34.out HR3.out.lt)
          have HD4 := hid (HD3.out.below HB34.out)
          have HB4 := hid (HB3.out.trans (HB34.out.mono HB3.out.size))
          have HWS := hid HB4.out.size
          have HBB := hid (show (bsV m).length ≤ 1000 by rw [HBL.out]; omega)
          have hw8 : IntKind.u8.wrap ((m : Int) + 1) = ((m + 1 : Nat) : Int) := by simp [IntKind.wrap, IntKind.bits, IntKind.signed]; omega
          generalize σ 12 = nv at *
          clear hb4 hown4
          go_wp2_with (at_builtin; refine wpList_append_sd rfl (.tmp 48) (.tmp 50) rfl w.heap.size _ (bsV m) rfl HD4.out gs (BitVec.ofNat 8 m) HR4.out rfl HBB.out HWS.out ?_; intro v5 w5 hs5 _ hb5 _ hv5)
          go_roundw
          case rel => exact ⟨m + 1, by omega, by go_num, hid ⟨by rw [HF1.out]; exact hv5 _ _ HO4.out, by rw [HBS.out]; exact hs5, HB4.out.trans hb5⟩⟩
          case measure => simp [intOf]; omega
    · have e1 : decide ((m : Int) < 4) = false := by simp; omega
      obtain rfl : m = 4 := by omega
      go_wp2
      go_ret2
      exact ⟨_, _, rfl, HV.out, HI.out.2.1.lists, HI.out.2.2⟩
end Go.Proofs.YtfpngilmdgeikaaDoor
