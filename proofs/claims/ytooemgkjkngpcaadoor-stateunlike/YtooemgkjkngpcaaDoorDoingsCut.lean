/-
  Rows of doings: what came in as a source of cells; what a call owns; appends onto it.
-/
import Derived.Test.YtooemgkjkngpcaaDoorPairsAll
import Derived.Deep.Slices
namespace Go.Proofs.YtooemgkjkngpcaaDoor
open Go.RowKit

theorem info_doing : (Tryd.prog.info? 83).map (fun i => (i.zero, i.size, i.bytes)) = some (some (.agg #[.slice none 0 0, .slice none 0 0, .bool false]), 3, 56) := by kernel_rfl
/-- a doing, and the two slices that hold it -/
structure DgV where
  d : Dg
  k : Value
  v : Value
def dgCells (q : DgV) : List Value := [q.k, q.v, .bool q.d.gone]
def DgV.ok (w : World) (N : Nat) (q : DgV) : Prop := Bytes w N q.k q.d.key ∧ Bytes w N q.v q.d.val
theorem DgV.ok.below {w w' : World} {N : Nat} {q : DgV} (h : q.ok w N) (hg : Below N w w') : q.ok w' N := ⟨h.1.below hg, h.2.below hg⟩
theorem DgV.ok.mono {w : World} {N M : Nat} {q : DgV} (h : q.ok w N) (hN : N ≤ M) : q.ok w M := ⟨h.1.mono hN, h.2.mono hN⟩
theorem DgV.ok.one {w : World} {N : Nat} {q : DgV} (h : q.ok w N) : q.k.oneCell' = true ∧ q.v.oneCell' = true := by
  obtain ⟨o1, c1, e1, _⟩ := h.1.shape
  obtain ⟨o2, c2, e2, _⟩ := h.2.shape
  rw [e1, e2]
  simp [Value.oneCell']
theorem flatDg_get (ps : List DgV) : ∀ (i j : Nat) (q : DgV), ps[i]? = some q → j < 3 → (ps.flatMap dgCells)[i * 3 + j]? = (dgCells q)[j]? := by
  induction ps with
  | nil => intro i j q h; simp at h
  | cons a ps ih =>
    intro i j q h hj
    rw [List.flatMap_cons]
    have ha : (dgCells a).length = 3 := rfl
    cases i with
    | zero =>
      obtain rfl : a = q := by simpa using h
      rw [Nat.zero_mul, Nat.zero_add, List.getElem?_append_left (by omega)]
    | succ i =>
      rw [List.getElem?_append_right (by omega), ha, show (i + 1) * 3 + j - 3 = i * 3 + j by omega]
      exact ih i j q (by simpa using h) hj
theorem flatDg_len (ps : List DgV) : (ps.flatMap dgCells).length = ps.length * 3 := by
  induction ps with
  | nil => rfl
  | cons a r ih => rw [List.flatMap_cons, List.length_append, ih]; simp [dgCells]; omega
/-- sv is a slice whose cells are those of ps, nil, empty or neither, in a block below M -/
def SrcDg (w : World) (M : Nat) (sv : Value) (ps : List DgV) : Prop :=
  (sv = .slice none 0 0 ∧ ps = []) ∨ (∃ a cap, sv = .slice (some a) 0 cap ∧ ps = []) ∨
  ∃ b off cap, sv = .slice (some ⟨b, off, none⟩) ps.length cap ∧ ps.length ≤ cap ∧ ∀ i q, ps[i]? = some q → b < M ∧ w.cell? ⟨b, off + i * 3, none⟩ = some q.k ∧ w.cell? ⟨b, off + i * 3 + 1, none⟩ = some q.v ∧ w.cell? ⟨b, off + i * 3 + 2, none⟩ = some (.bool q.d.gone)
theorem SrcDg.below {w w' : World} {M : Nat} {sv : Value} {ps : List DgV} (h : SrcDg w M sv ps) (hg : Below M w w') : SrcDg w' M sv ps := by
  rcases h with h | h | ⟨b, off, cap, h1, h2, h3⟩
  · exact .inl h
  · exact .inr (.inl h)
  · refine .inr (.inr ⟨b, off, cap, h1, h2, fun i q hq => ?_⟩)
    obtain ⟨hb, d0, d1, d2⟩ := h3 i q hq
    exact ⟨hb, (hg.cell hb).trans d0, (hg.cell hb).trans d1, (hg.cell hb).trans d2⟩
theorem doings_src {w : World} {N : Nat} {sv : Value} {l : List Dg} (h : Doings w N sv l) : ∃ ps : List DgV, ps.map (·.d) = l ∧ SrcDg w N sv ps ∧ ∀ q ∈ ps, q.ok w N := by
  rcases h with ⟨rfl, rfl⟩ | ⟨a, cap, rfl, rfl⟩ | ⟨b, off, cap, rfl, hc, hcell⟩
  · exact ⟨[], rfl, .inl ⟨rfl, rfl⟩, fun q hq => by simp at hq⟩
  · exact ⟨[], rfl, .inr (.inl ⟨a, cap, rfl, rfl⟩), fun q hq => by simp at hq⟩
  · have each : ∀ i, i < l.length → ∃ x : DgV, l[i]? = some x.d ∧ b < N ∧ w.cell? ⟨b, off + i * 3, none⟩ = some x.k ∧ w.cell? ⟨b, off + i * 3 + 1, none⟩ = some x.v ∧ w.cell? ⟨b, off + i * 3 + 2, none⟩ = some (.bool x.d.gone) ∧ x.ok w N := fun i hi => by
      obtain ⟨hb, vk, vv, d0, d1, d2, d3, d4⟩ := hcell i l[i] (List.getElem?_eq_getElem hi)
      exact ⟨⟨l[i], vk, vv⟩, List.getElem?_eq_getElem hi, hb, d0, d1, d2, d3, d4⟩
    haveI : Inhabited DgV := ⟨⟨⟨[], [], false⟩, undef, undef⟩⟩
    obtain ⟨f, hf⟩ := Deep.choose_lt each
    refine ⟨(List.range l.length).map f, ?_, ?_, ?_⟩
    · apply List.ext_getElem?
      intro i
      by_cases hi : i < l.length
      · rw [List.getElem?_map, List.getElem?_map, List.getElem?_range hi, (hf i hi).1]
        rfl
      · rw [List.getElem?_eq_none (by simp; omega), List.getElem?_eq_none (by omega)]
    · refine .inr (.inr ⟨b, off, cap, by simp, by simpa using hc, fun i q hq => ?_⟩)
      have hi : i < l.length := by have := (List.getElem?_eq_some_iff.1 hq).1; simpa using this
      obtain rfl : f i = q := by rw [List.getElem?_map, List.getElem?_range hi] at hq; simpa using hq
      exact ⟨(hf i hi).2.1, (hf i hi).2.2.1, (hf i hi).2.2.2.1, (hf i hi).2.2.2.2.1⟩
    · intro q hq
      obtain ⟨i, hi, rfl⟩ := List.mem_map.1 hq
      exact (hf i (List.mem_range.1 hi)).2.2.2.2.2
/-- doings in a row that a call owns -/
def RowDg (w : World) (base : Nat) (v : Value) (ps : List DgV) : Prop := w.ownsRow base 83 3 v ps.length (ps.flatMap dgCells)
theorem RowDg.nil (w : World) (base : Nat) : RowDg w base (.slice none 0 0) [] := World.ownsRow_nil w base 83 3
theorem RowDg.below {w w' : World} {base : Nat} {v : Value} {ps : List DgV} (h : RowDg w base v ps) (hg : Below w.heap.size w w') : RowDg w' base v ps := ownsRow_belowP h hg
/-- what is owned reads as doings -/
theorem RowDg.doings {w : World} {base N : Nat} {v : Value} {ps : List DgV} (h : RowDg w base v ps) (hN : N ≤ w.heap.size) (hb : ∀ q ∈ ps, q.ok w N) : Doings w w.heap.size v (ps.map (·.d)) := by
  obtain ⟨h1, h2⟩ := h
  rcases h2 with ⟨rfl, h0⟩ | ⟨g, cap, cur, rfl, _, hg, hn, _, hc, hx⟩
  · exact .inl ⟨rfl, by rw [List.length_eq_zero_iff.1 h0]; rfl⟩
  · refine .inr (.inr ⟨g, 0, cap, by simp, by simpa using hn, fun i p hp => ?_⟩)
    obtain ⟨q, hq, rfl⟩ : ∃ q, ps[i]? = some q ∧ q.d = p := by simpa using hp
    refine ⟨(Array.getElem?_eq_some_iff.1 hg).1, q.k, q.v, ?_⟩
    have hil : i < ps.length := (List.getElem?_eq_some_iff.1 hq).1
    have cell : ∀ j, j < 3 → w.cell? ⟨g, 0 + i * 3 + j, none⟩ = (dgCells q)[j]? := fun j hj => by
      rw [cell_of_row w g _ cur _ _ hg, ← flatDg_get ps i j q hq hj, ← hx, List.getElem?_take, if_pos (by omega), Nat.zero_add, Array.getElem?_toList]
    have hok := (hb q (List.mem_of_getElem? hq)).mono hN
    exact ⟨cell 0 (by omega), cell 1 (by omega), cell 2 (by omega), hok.1, hok.2⟩
/-- one doing in a new block is a source -/
theorem srcDg_one {W : World} {g : Nat} {q : DgV} (h0 : W.cell? ⟨g, 0, none⟩ = some q.k) (h1 : W.cell? ⟨g, 1, none⟩ = some q.v) (h2 : W.cell? ⟨g, 2, none⟩ = some (.bool q.d.gone)) : SrcDg W (g + 1) (.slice (some ⟨g, 0, none⟩) 1 1) [q] := by
  refine .inr (.inr ⟨g, 0, 1, rfl, Nat.le_refl _, fun i q' hq => ?_⟩)
  have hi : i = 0 := by have := (List.getElem?_eq_some_iff.1 hq).1; simp at this; exact this
  subst hi
  obtain rfl : q = q' := by simpa using hq
  exact ⟨by omega, h0, h1, h2⟩
theorem rowDg_none {W : World} {base g : Nat} (hg : W.heap[g]? = some (.cells #[] 83 (0, 0))) (hb : base ≤ g) : RowDg W base (.slice (some ⟨g, 0, none⟩) 0 0) [] :=
  ⟨rfl, .inr ⟨g, 0, #[], rfl, hb, hg, Nat.le_refl _, by simp [maxLen], rfl, rfl⟩⟩
theorem wp_append_dgs {o : Oper} {a : Act} {W : World} {K : Act → World → Prop} {Q : Exit → Act → World → Prop} (s x : Operand)
    (ho : o.op = .call { callee := .builtin .append, args := #[s, x], argTypes := #[51, 51] })
    (base : Nat) (v : Value) (ps : List DgV) (hs : a.eval s = v) (hown : RowDg W base v ps) (sv : Value) (qs : List DgV) {M : Nat} (hx : a.eval x = sv) (hsrc : SrcDg W M sv qs)
    (hone : ∀ q ∈ qs, q.k.oneCell' = true ∧ q.v.oneCell' = true) (hl : (ps.length + qs.length) * 56 ≤ 140737488355328) (hbase : base ≤ W.heap.size)
    (h : ∀ v' w', RowDg w' base v' (ps ++ qs) → Below base W w' → W.grownBy w' v.ownBlock → K (a.put o.dst v') w') : o.wp Tryd.prog a W K Q := by
  obtain ⟨i0, hi0, hz0, hz1, hz2⟩ := info_parts info_doing
  have some_case : ∀ (ad : Addr) (cap : Nat), sv = .slice (some ad) qs.length cap → (∀ j u, (qs.flatMap dgCells)[j]? = some u → W.cell? (ad.add j) = some u) → o.wp Tryd.prog a W K Q := by
    rintro ad cap rfl hcs
    refine wp_append_own W s x 51 ho base 83 i0 _ 3 56 Tryd.underlying51 hi0 hz0 hz1 hz2 rfl (by decide) v ps.length (ps.flatMap dgCells) hs hown ad qs.length cap (qs.flatMap dgCells) hx (flatDg_len qs) hcs ?_ (by unfold maxLen; omega) hl hbase ?_
    · intro u hu
      obtain ⟨q, hq, hu⟩ := List.mem_flatMap.1 hu
      simp [dgCells] at hu
      rcases hu with rfl | rfl | rfl
      · exact (hone q hq).1
      · exact (hone q hq).2
      · rfl
    · intro v' w' h1 h2 _
      refine h v' w' ?_ ((Below.refl base W).grown h2 hbase (fun k hk => (World.ownsRow.lt hown k hk).1)) h2
      unfold RowDg
      rw [List.length_append, List.flatMap_append]
      exact h1
  rcases hsrc with ⟨rfl, rfl⟩ | ⟨ad, cap, rfl, rfl⟩ | ⟨b, off, cap, rfl, hc, hcell⟩
  · have hrun := run_append_owned_none (P := Tryd.prog) (w := W) base 51 o.type 83 i0 3 Tryd.underlying51 hi0 v ps.length (ps.flatMap dgCells) hown
    unfold Oper.wp
    simp [execOp, ho, resolve, invoke, builtin, hs, hx, hrun, Result.andThen]
    exact h v W (by simpa using hown) (Below.refl _ _) (grown_refl _ _)
  · exact some_case ad cap rfl (fun j u hu => by simp at hu)
  · refine some_case _ cap rfl (fun j u hu => ?_)
    have hadd : (⟨b, off, none⟩ : Addr).add j = ⟨b, off + j, none⟩ := by unfold Addr.add; split <;> simp_all
    have hjl : j < qs.length * 3 := by have := (List.getElem?_eq_some_iff.1 hu).1; rw [flatDg_len] at this; exact this
    obtain ⟨q, hq⟩ : ∃ q, qs[j / 3]? = some q := ⟨qs[j / 3]'(by omega), List.getElem?_eq_getElem _⟩
    have hg := flatDg_get qs (j / 3) (j % 3) q hq (by omega)
    rw [show j / 3 * 3 + j % 3 = j by omega, hu] at hg
    obtain ⟨_, d0, d1, d2⟩ := hcell (j / 3) q hq
    rw [hadd]
    have hm : j % 3 = 0 ∨ j % 3 = 1 ∨ j % 3 = 2 := by omega
    rcases hm with e | e | e
    · rw [e] at hg
      rw [show off + j = off + j / 3 * 3 by omega, d0]
      simpa [dgCells] using hg.symm
    · rw [e] at hg
      rw [show off + j = off + j / 3 * 3 + 1 by omega, d1]
      simpa [dgCells] using hg.symm
    · rw [e] at hg
      rw [show off + j = off + j / 3 * 3 + 2 by omega, d2]
      simpa [dgCells] using hg.symm
theorem step_append_dgs {ops : Array Oper} {o : Oper} {a : Act} {W : World} {K : Act → World → Prop} {Q : Exit → Act → World → Prop} {E : Prop} (hgd : o.guard = none) (s x : Operand)
    (ho : o.op = .call { callee := .builtin .append, args := #[s, x], argTypes := #[51, 51] })
    (base : Nat) (v : Value) (ps : List DgV) (hs : a.eval s = v) (hown : RowDg W base v ps) (sv : Value) (qs : List DgV) {M : Nat} (hx : a.eval x = sv) (hsrc : SrcDg W M sv qs)
    (hone : ∀ q ∈ qs, q.k.oneCell' = true ∧ q.v.oneCell' = true) (hl : (ps.length + qs.length) * 56 ≤ 140737488355328) (hbase : base ≤ W.heap.size)
    (h : ∀ v' w', RowDg w' base v' (ps ++ qs) → Below base W w' → W.grownBy w' v.ownBlock → K (a.put o.dst v') w') : if Region.wanted o (yielded ops a.tmps) = true then Oper.wp Tryd.prog o a W K Q else E := by
  have hw : Region.wanted o (yielded ops a.tmps) = true := by simp [Region.wanted, hgd]
  rw [if_pos hw]
  exact wp_append_dgs s x ho base v ps hs hown sv qs hx hsrc hone hl hbase h
theorem wpList_append_dgs {ops : Array Oper} {rest : List Oper} {o : Oper} {a : Act} {W : World} {Q : Exit → Act → World → Prop} (hgd : o.guard = none) (s x : Operand)
    (ho : o.op = .call { callee := .builtin .append, args := #[s, x], argTypes := #[51, 51] })
    (base : Nat) (v : Value) (ps : List DgV) (hs : a.eval s = v) (hown : RowDg W base v ps) (sv : Value) (qs : List DgV) {M : Nat} (hx : a.eval x = sv) (hsrc : SrcDg W M sv qs)
    (hone : ∀ q ∈ qs, q.k.oneCell' = true ∧ q.v.oneCell' = true) (hl : (ps.length + qs.length) * 56 ≤ 140737488355328) (hbase : base ≤ W.heap.size)
    (h : ∀ v' w', RowDg w' base v' (ps ++ qs) → Below base W w' → W.grownBy w' v.ownBlock → wpList Tryd.prog ops Q rest (a.put o.dst v') w') : wpList Tryd.prog ops Q (o :: rest) a W :=
  wpList_plain hgd fun _ hK => wp_append_dgs s x ho base v ps hs hown sv qs hx hsrc hone hl hbase fun v' w' h1 h2 h3 => hK _ _ (h v' w' h1 h2 h3)
end Go.Proofs.YtooemgkjkngpcaaDoor
