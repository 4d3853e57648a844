/-
  Rows of pairs that are written in place: cells that are set, copied and cleared. No function of the program is walked here.
-/
import Derived.Test.YtgpainbnldghkaaDoorPairsAll
import Derived.Test.YtgpainbnldghkaaDoorMemB
import Derived.Laws.IdiomCopy
import Derived.Lib.SliceRun
import Derived.Lib.AppendZerosOnto
import Derived.Lib.Overlaps
import Derived.Deep.RegionLaw
import Derived.Laws.NewBlocks
namespace Go.Proofs.YtgpainbnldghkaaDoor
open Go.RowKit

/-- cells set from a place on -/
def putL (cs : List Value) (o : Nat) (vs : List Value) : List Value := cs.take o ++ vs ++ cs.drop (o + vs.length)
theorem putL_length (cs : List Value) (o : Nat) (vs : List Value) (h : o + vs.length ≤ cs.length) : (putL cs o vs).length = cs.length := by
  unfold putL
  simp
  omega
theorem putL_cons (cs : List Value) (o : Nat) (v : Value) (r : List Value) (h : o + (v :: r).length ≤ cs.length) : putL cs o (v :: r) = putL (cs.set o v) (o + 1) r := by
  have ho : o < cs.length := by simp at h; omega
  unfold putL
  have e1 : (cs.set o v).take (o + 1) = cs.take o ++ [v] := by
    rw [List.take_succ_eq_append_getElem (by simpa using ho), List.take_set_of_le (Nat.le_refl _)]
    simp
  have e2 : (cs.set o v).drop (o + 1 + r.length) = cs.drop (o + 1 + r.length) := List.drop_set_of_lt (by omega)
  rw [e1, e2, List.length_cons, show o + (r.length + 1) = o + 1 + r.length by omega]
  simp
theorem putL_take (cs : List Value) (o : Nat) (vs : List Value) (ho : o ≤ cs.length) (M : Nat) (hM : o + vs.length ≤ M) : (putL cs o vs).take M = cs.take o ++ vs ++ (cs.drop (o + vs.length)).take (M - (o + vs.length)) := by
  unfold putL
  have e : (cs.take o ++ vs).length = o + vs.length := by simp; omega
  rw [List.take_append, e, List.take_of_length_le (by rw [e]; exact hM)]
theorem putL_take_le (cs : List Value) (o : Nat) (vs : List Value) (ho : o ≤ cs.length) (m : Nat) (hm : m ≤ o) : (putL cs o vs).take m = cs.take m := by
  unfold putL
  rw [List.append_assoc, List.take_append_of_le_length (by simp; omega), List.take_take, Nat.min_eq_left hm]
theorem putL_drop (cs : List Value) (o : Nat) (vs : List Value) (ho : o ≤ cs.length) : (putL cs o vs).drop o = vs ++ cs.drop (o + vs.length) := by
  unfold putL
  rw [List.append_assoc, List.drop_append_of_le_length (by simp; omega), List.drop_take, Nat.sub_self, List.take_zero, List.nil_append]
theorem Row.setCells {g : Nat} {t : TypeId} : ∀ (vs : List Value) (o : Nat) (w : World) (cs : List Value), Row w g t cs → o + vs.length ≤ cs.length → Row (w.setCells g o vs) g t (putL cs o vs)
  | [], o, w, cs, h, _ => by
    have : putL cs o [] = cs := by simp [putL]
    rw [this]
    exact h
  | v :: r, o, w, cs, h, hl => by
    rw [putL_cons cs o v r hl]
    exact Row.setCells r (o + 1) _ _ (h.set o v) (by simp at hl ⊢; omega)
theorem grown_setCells (g : Nat) : ∀ (vs : List Value) (o : Nat) (w : World), w.grownBy (w.setCells g o vs) (some g)
  | [], _, w => grown_refl w _
  | v :: r, o, w => grown_trans (grown_set w g o v) (grown_setCells g r (o + 1) _)
theorem grown_alloc (w : World) (o : Obj) (r : Option Nat) : w.grownBy (w.alloc o) r := ⟨rfl, rfl, rfl, by simp, fun k hk _ => Below.heap_alloc w o k hk⟩
/-- copy of cells, of elements of whatever size -/
theorem run_copy_wide {P : Program} (w : World) (dT sT ty elem : TypeId) (k : Nat) (b o dLen dCap : Nat) (a : Addr) (sLen sCap : Nat) (cs : List Value) (hu : P.underlying dT = some (.slice elem)) (hs : (P.info? elem).map (·.size) = some k)
    (hn : cs.length = Nat.min sLen dLen * k) (hsrc : ∀ j v, cs[j]? = some v → w.cell? (a.add j) = some v) (hc : ∀ j, j < cs.length → (w.cell? ⟨b, o + j, none⟩).isSome = true) (hf : ∀ j, j < cs.length → w.frozen? ⟨b, o + j, none⟩ = false) (h1 : ∀ v ∈ cs, v.oneCell' = true) :
    (Builtin.copy_ #[dT, sT] ty #[.slice (some ⟨b, o, none⟩) dLen dCap, .slice (some a) sLen sCap]).run P w = .ok (goInt (Nat.min sLen dLen)) (w.setCells b o cs) := by
  have hl := run_loadCells_list (P := P) w a cs hsrc
  have hst := run_storeCells_cells (P := P) b o cs 0 w (by simpa using hc) (by simpa using hf) h1
  cases hq : P.info? elem with
  | none => simp [hq] at hs
  | some i =>
    have hi : i.size = k := by simpa [hq] using hs
    simp [Builtin.copy_, run_underlying hu, Builtin.lenOf, Builtin.firstCells, sizeOf, typeInfo, hq, hi, ← hn, hl, hst]
theorem wp_copy_run {P : Program} (w : World) {o : Oper} {a : Act} {K : Act → World → Prop} {Q : Exit → Act → World → Prop} (d s : Operand) (t t' : TypeId)
    (ho : o.op = .call { callee := .builtin .copy, args := #[d, s], argTypes := #[t, t'] }) (v u : Value) (hd : a.eval d = v) (hs : a.eval s = u) {v' : Value} {w' : World}
    (hr : (Builtin.copy_ #[t, t'] o.type #[v, u]).run P w = .ok v' w') (h : K (a.put o.dst v') w') : o.wp P a w K Q := by
  unfold Oper.wp execOp
  simp only [ho, resolve, invoke, builtin, Sem.run_bind, Sem.run_pure, Result.andThen_ok, List.map_toArray, List.map_cons, List.map_nil, hd, hs, hr]
  exact h
theorem wpList_copy_run {P : Program} (w : World) {ops : Array Oper} {rest : List Oper} {o : Oper} {a : Act} {Q : Exit → Act → World → Prop} (hgd : o.guard = none) (d s : Operand) (t t' : TypeId)
    (ho : o.op = .call { callee := .builtin .copy, args := #[d, s], argTypes := #[t, t'] }) (v u : Value) (hd : a.eval d = v) (hs : a.eval s = u) {v' : Value} {w' : World}
    (hr : (Builtin.copy_ #[t, t'] o.type #[v, u]).run P w = .ok v' w') (h : wpList P ops Q rest (a.put o.dst v') w') : wpList P ops Q (o :: rest) a w :=
  wpList_plain hgd fun _ hK => wp_copy_run w d s t t' ho v u hd hs hr (hK _ _ h)
theorem step_copy_run {P : Program} {ops : Array Oper} {o : Oper} {a : Act} {w : World} {K : Act → World → Prop} {Q : Exit → Act → World → Prop} {E : Prop}
    (hg : o.guard = none) (d x : Operand) (dT sT : TypeId) (hop : o.op = Op.call { callee := Callee.builtin Builtin.copy, args := #[d, x], argTypes := #[dT, sT] })
    (v u : Value) (hd : a.eval d = v) (hx : a.eval x = u) {v' : Value} {w' : World} (hr : (Builtin.copy_ #[dT, sT] o.type #[v, u]).run P w = .ok v' w') (hK : K (a.put o.dst v') w') :
    if Region.wanted o (yielded ops a.tmps) = true then Oper.wp P o a w K Q else E := by
  have hw : Region.wanted o (yielded ops a.tmps) = true := by simp [Region.wanted, hg]
  rw [if_pos hw]
  exact wp_copy_run w d x dT sT hop v u hd hx hr hK
/-- a row that is owned and is not nil -/
theorem RowPr.row {w : World} {base : Nat} {v : Value} {ps : List PrV} (h : RowPr w base v ps) (h0 : 0 < ps.length) : ∃ g c cs, v = .slice (some ⟨g, 0, none⟩) ps.length c ∧ base ≤ g ∧ Row w g 43 cs ∧ ps.length ≤ c ∧ c ≤ maxLen ∧ cs.length = c * 2 ∧ cs.take (ps.length * 2) = ps.flatMap prCells := by
  obtain ⟨h1, h2⟩ := h
  rcases h2 with ⟨_, h3⟩ | ⟨g, c, cur, h3, h4, h5, h6, h7, h8, h9⟩
  · omega
  · exact ⟨g, c, cur.toList, h3, h4, h5, h6, h7, by simpa using h8, h9⟩
theorem RowPr.of_row {w : World} {base g n c : Nat} {cs : List Value} {ps : List PrV} (hb : base ≤ g) (hr : Row w g 43 cs) (hn : n = ps.length) (hc : n ≤ c) (hm : c ≤ maxLen) (hl : cs.length = c * 2) (ht : cs.take (n * 2) = ps.flatMap prCells) : RowPr w base (.slice (some ⟨g, 0, none⟩) n c) ps := by
  subst hn
  exact ⟨flatPr_len ps, .inr ⟨g, c, cs.toArray, rfl, hb, hr, hc, hm, by simpa using hl, ht⟩⟩
theorem flat_get_some {ps : List PrV} {cs : List Value} {n : Nat} (h : cs.take (n * 2) = ps.flatMap prCells) (j : Nat) (u : Value) (hu : (ps.flatMap prCells)[j]? = some u) : cs[j]? = some u := by
  rw [← h, List.getElem?_take] at hu
  split at hu
  · exact hu
  · cases hu
theorem flat_drop (ps : List PrV) (i : Nat) : (ps.drop i).flatMap prCells = (ps.flatMap prCells).drop (i * 2) := by
  induction ps generalizing i with
  | nil => simp
  | cons a r ih =>
    cases i with
    | zero => simp
    | succ i =>
      rw [List.drop_succ_cons, ih, List.flatMap_cons, List.drop_append]
      have ha : (prCells a).length = 2 := rfl
      rw [show (prCells a).drop ((i + 1) * 2) = [] from List.drop_eq_nil_of_le (by rw [ha]; omega), ha, List.nil_append, show (i + 1) * 2 - 2 = i * 2 by omega]
theorem flat_take (ps : List PrV) (i : Nat) : (ps.take i).flatMap prCells = (ps.flatMap prCells).take (i * 2) := by
  induction ps generalizing i with
  | nil => simp
  | cons a r ih =>
    cases i with
    | zero => simp
    | succ i =>
      rw [List.take_succ_cons, List.flatMap_cons, ih, List.flatMap_cons, List.take_append]
      have ha : (prCells a).length = 2 := rfl
      rw [List.take_of_length_le (l := prCells a) (by rw [ha]; omega), ha, show (i + 1) * 2 - 2 = i * 2 by omega]
theorem flat_one {ps : List PrV} (h : ∀ q ∈ ps, q.k.oneCell' = true ∧ q.v.oneCell' = true) : ∀ u ∈ ps.flatMap prCells, u.oneCell' = true := by
  intro u hu
  obtain ⟨q, hq, hu⟩ := List.mem_flatMap.1 hu
  simp [prCells] at hu
  rcases hu with rfl | rfl
  · exact (h q hq).1
  · exact (h q hq).2
/-- bytes that are owned outlive what is done with a row of pairs -/
theorem OwnB.past {w w' : World} {base : Nat} {v rv : Value} {l : List (BitVec 8)} {ps : List PrV} (h : OwnB w base v l) (hr : RowPr w base rv ps) (hg : w.grownBy w' rv.ownBlock) : OwnB w' base v l := by
  obtain ⟨h1, h2⟩ := h
  refine ⟨h1, ?_⟩
  rcases h2 with h2 | ⟨g, cap, cur, h3, h4, h5, h6⟩
  · exact .inl h2
  · refine .inr ⟨g, cap, cur, h3, h4, (hg.block g (Array.getElem?_eq_some_iff.1 h5).1 ?_).trans h5, h6⟩
    intro he
    rcases hr.2 with ⟨rfl, _⟩ | ⟨g', c', cur', rfl, _, h8, _⟩
    · simp [Value.ownBlock] at he
    · obtain rfl : g = g' := by simpa [Value.ownBlock] using he
      rw [h5] at h8
      simp at h8
theorem RowPr.below_of {w w' : World} {base : Nat} {v : Value} {ps : List PrV} (h : RowPr w base v ps) (hb : base ≤ w.heap.size) (hg : w.grownBy w' v.ownBlock) : Below base w w' :=
  (Below.refl base w).grown hg hb (fun k hk => (World.ownsRow.lt h k hk).1)
end Go.Proofs.YtgpainbnldghkaaDoor
