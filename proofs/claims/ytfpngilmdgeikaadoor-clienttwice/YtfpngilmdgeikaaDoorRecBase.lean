/-
  Rows of records that are written in place: cells that are set, copied and cleared; lists of rows, laid flat. No function of the program is named here.
-/
import Derived.Test.YtfpngilmdgeikaaDoorMemB
import Derived.Laws.IdiomCopy
import Derived.Lib.SliceRun
import Derived.Lib.AppendZerosOnto
import Derived.Lib.Overlaps
import Derived.Deep.RegionLaw
import Derived.Laws.NewBlocks
import Derived.Laws.MakeOwn
namespace Go.Proofs.YtfpngilmdgeikaaDoor
open Go.RowKit

/-- cells set from a place on -/
def putL (cs : List Value) (o : Nat) (vs : List Value) : List Value := cs.take o ++ vs ++ cs.drop (o + vs.length)
theorem putL_length (cs : List Value) (o : Nat) (vs : List Value) (h : o + vs.length ≤ cs.length) : (putL cs o vs).length = cs.length := by
  unfold putL
  simp
  omega
theorem putL_cons (cs : List Value) (o : Nat) (v : Value) (r : List Value) (h : o + (v :: r).length ≤ cs.length) : putL cs o (v :: r) = putL (cs.set o v) (o + 1) r := by
  have ho : o < cs.length := by simp at h; omega
  unfold putL
  have e1 : (cs.set o v).take (o + 1) = cs.take o ++ [v] := by
    rw [List.take_succ_eq_append_getElem (by simpa using ho), List.take_set_of_le (Nat.le_refl _)]
    simp
  have e2 : (cs.set o v).drop (o + 1 + r.length) = cs.drop (o + 1 + r.length) := List.drop_set_of_lt (by omega)
  rw [e1, e2, List.length_cons, show o + (r.length + 1) = o + 1 + r.length by omega]
  simp
theorem putL_take (cs : List Value) (o : Nat) (vs : List Value) (ho : o ≤ cs.length) (M : Nat) (hM : o + vs.length ≤ M) : (putL cs o vs).take M = cs.take o ++ vs ++ (cs.drop (o + vs.length)).take (M - (o + vs.length)) := by
  unfold putL
  have e : (cs.take o ++ vs).length = o + vs.length := by simp; omega
  rw [List.take_append, e, List.take_of_length_le (by rw [e]; exact hM)]
theorem putL_take_le (cs : List Value) (o : Nat) (vs : List Value) (ho : o ≤ cs.length) (m : Nat) (hm : m ≤ o) : (putL cs o vs).take m = cs.take m := by
  unfold putL
  rw [List.append_assoc, List.take_append_of_le_length (by simp; omega), List.take_take, Nat.min_eq_left hm]
theorem putL_drop (cs : List Value) (o : Nat) (vs : List Value) (ho : o ≤ cs.length) : (putL cs o vs).drop o = vs ++ cs.drop (o + vs.length) := by
  unfold putL
  rw [List.append_assoc, List.drop_append_of_le_length (by simp; omega), List.drop_take, Nat.sub_self, List.take_zero, List.nil_append]
theorem Row.setCells {g : Nat} {t : TypeId} : ∀ (vs : List Value) (o : Nat) (w : World) (cs : List Value), Row w g t cs → o + vs.length ≤ cs.length → Row (w.setCells g o vs) g t (putL cs o vs)
  | [], o, w, cs, h, _ => by
    have : putL cs o [] = cs := by simp [putL]
    rw [this]
    exact h
  | v :: r, o, w, cs, h, hl => by
    rw [putL_cons cs o v r hl]
    exact Row.setCells r (o + 1) _ _ (h.set o v) (by simp at hl ⊢; omega)
theorem grown_setCells (g : Nat) : ∀ (vs : List Value) (o : Nat) (w : World), w.grownBy (w.setCells g o vs) (some g)
  | [], _, w => grown_refl w _
  | v :: r, o, w => grown_trans (grown_set w g o v) (grown_setCells g r (o + 1) _)
theorem grown_alloc (w : World) (o : Obj) (r : Option Nat) : w.grownBy (w.alloc o) r := ⟨rfl, rfl, rfl, by simp, fun k hk _ => Below.heap_alloc w o k hk⟩
/-- copy of cells, of elements of whatever size -/
theorem run_copy_wide {P : Program} (w : World) (dT sT ty elem : TypeId) (k : Nat) (b o dLen dCap : Nat) (a : Addr) (sLen sCap : Nat) (cs : List Value) (hu : P.underlying dT = some (.slice elem)) (hs : (P.info? elem).map (·.size) = some k)
    (hn : cs.length = Nat.min sLen dLen * k) (hsrc : ∀ j v, cs[j]? = some v → w.cell? (a.add j) = some v) (hc : ∀ j, j < cs.length → (w.cell? ⟨b, o + j, none⟩).isSome = true) (hf : ∀ j, j < cs.length → w.frozen? ⟨b, o + j, none⟩ = false) (h1 : ∀ v ∈ cs, v.oneCell' = true) :
    (Builtin.copy_ #[dT, sT] ty #[.slice (some ⟨b, o, none⟩) dLen dCap, .slice (some a) sLen sCap]).run P w = .ok (goInt (Nat.min sLen dLen)) (w.setCells b o cs) := by
  have hl := run_loadCells_list (P := P) w a cs hsrc
  have hst := run_storeCells_cells (P := P) b o cs 0 w (by simpa using hc) (by simpa using hf) h1
  cases hq : P.info? elem with
  | none => simp [hq] at hs
  | some i =>
    have hi : i.size = k := by simpa [hq] using hs
    simp [Builtin.copy_, run_underlying hu, Builtin.lenOf, Builtin.firstCells, sizeOf, typeInfo, hq, hi, ← hn, hl, hst]
theorem wp_copy_run {P : Program} (w : World) {o : Oper} {a : Act} {K : Act → World → Prop} {Q : Exit → Act → World → Prop} (d s : Operand) (t t' : TypeId)
    (ho : o.op = .call { callee := .builtin .copy, args := #[d, s], argTypes := #[t, t'] }) (v u : Value) (hd : a.eval d = v) (hs : a.eval s = u) {v' : Value} {w' : World}
    (hr : (Builtin.copy_ #[t, t'] o.type #[v, u]).run P w = .ok v' w') (h : K (a.put o.dst v') w') : o.wp P a w K Q := by
  unfold Oper.wp execOp
  simp only [ho, resolve, invoke, builtin, Sem.run_bind, Sem.run_pure, Result.andThen_ok, List.map_toArray, List.map_cons, List.map_nil, hd, hs, hr]
  exact h
theorem wpList_copy_run {P : Program} (w : World) {ops : Array Oper} {rest : List Oper} {o : Oper} {a : Act} {Q : Exit → Act → World → Prop} (hgd : o.guard = none) (d s : Operand) (t t' : TypeId)
    (ho : o.op = .call { callee := .builtin .copy, args := #[d, s], argTypes := #[t, t'] }) (v u : Value) (hd : a.eval d = v) (hs : a.eval s = u) {v' : Value} {w' : World}
    (hr : (Builtin.copy_ #[t, t'] o.type #[v, u]).run P w = .ok v' w') (h : wpList P ops Q rest (a.put o.dst v') w') : wpList P ops Q (o :: rest) a w :=
  wpList_plain hgd fun _ hK => wp_copy_run w d s t t' ho v u hd hs hr (hK _ _ h)
theorem step_copy_run {P : Program} {ops : Array Oper} {o : Oper} {a : Act} {w : World} {K : Act → World → Prop} {Q : Exit → Act → World → Prop} {E : Prop}
    (hg : o.guard = none) (d x : Operand) (dT sT : TypeId) (hop : o.op = Op.call { callee := Callee.builtin Builtin.copy, args := #[d, x], argTypes := #[dT, sT] })
    (v u : Value) (hd : a.eval d = v) (hx : a.eval x = u) {v' : Value} {w' : World} (hr : (Builtin.copy_ #[dT, sT] o.type #[v, u]).run P w = .ok v' w') (hK : K (a.put o.dst v') w') :
    if Region.wanted o (yielded ops a.tmps) = true then Oper.wp P o a w K Q else E := by
  have hw : Region.wanted o (yielded ops a.tmps) = true := by simp [Region.wanted, hg]
  rw [if_pos hw]
  exact wp_copy_run w d x dT sT hop v u hd hx hr hK
theorem ownsRow_belowR {w w' : World} {base e size n : Nat} {v : Value} {xs : List Value} (h : w.ownsRow base e size v n xs) (hg : Below w.heap.size w w') : w'.ownsRow base e size v n xs := by
  obtain ⟨h1, h2⟩ := h
  refine ⟨h1, ?_⟩
  rcases h2 with h2 | ⟨g, cap, cur, h3, h4, h5, h6⟩
  · exact .inl h2
  · exact .inr ⟨g, cap, cur, h3, h4, (hg.block g (Array.getElem?_eq_some_iff.1 h5).1).trans h5, h6⟩
theorem grown_pastR {w w1 w2 : World} {r : Option Nat} {b : Nat} (h : w.grownBy w1 r) (hb : w.heap.size ≤ b) (k : w1.grownBy w2 (some b)) : w.grownBy w2 r :=
  ⟨k.os.trans h.os, k.tape.trans h.tape, k.output.trans h.output, Nat.le_trans h.size k.size, fun i hi hr => (k.block i (Nat.lt_of_lt_of_le hi h.size) (by simp; omega)).trans (h.block i hi hr)⟩
theorem flat_get_someR {fl cs : List Value} {m : Nat} (h : cs.take m = fl) (j : Nat) (u : Value) (hu : fl[j]? = some u) : cs[j]? = some u := by
  rw [← h, List.getElem?_take] at hu
  split at hu
  · exact hu
  · cases hu
theorem flat_lenR {k : Nat} : ∀ (rs : List (List Value)), (∀ r ∈ rs, r.length = k) → rs.flatten.length = rs.length * k
  | [], _ => by simp
  | r :: rs, h => by
    rw [List.flatten_cons, List.length_append, flat_lenR rs (fun r hr => h r (List.mem_cons_of_mem _ hr)), h r List.mem_cons_self, List.length_cons, Nat.succ_mul]
    omega
theorem flat_dropR {k : Nat} : ∀ (rs : List (List Value)), (∀ r ∈ rs, r.length = k) → ∀ i, (rs.drop i).flatten = rs.flatten.drop (i * k)
  | [], _, i => by simp
  | r :: rs, h, 0 => by simp
  | r :: rs, h, i + 1 => by
    have hr := h r List.mem_cons_self
    rw [List.drop_succ_cons, flat_dropR rs (fun r hr => h r (List.mem_cons_of_mem _ hr)) i, List.flatten_cons, List.drop_append, show r.drop ((i + 1) * k) = [] from List.drop_eq_nil_of_le (by rw [hr, Nat.succ_mul]; omega), hr, List.nil_append, Nat.succ_mul, Nat.add_sub_cancel]
theorem flat_takeR {k : Nat} : ∀ (rs : List (List Value)), (∀ r ∈ rs, r.length = k) → ∀ i, (rs.take i).flatten = rs.flatten.take (i * k)
  | [], _, i => by simp
  | r :: rs, h, 0 => by simp
  | r :: rs, h, i + 1 => by
    have hr := h r List.mem_cons_self
    rw [List.take_succ_cons, List.flatten_cons, flat_takeR rs (fun r hr => h r (List.mem_cons_of_mem _ hr)) i, List.flatten_cons, List.take_append, List.take_of_length_le (l := r) (by rw [hr, Nat.succ_mul]; omega), hr, Nat.succ_mul, Nat.add_sub_cancel]
/-- a record put at a place -/
def insR (rs : List (List Value)) (i : Nat) (q : List Value) : List (List Value) := rs.take i ++ q :: rs.drop i
theorem insR_length (rs : List (List Value)) (i : Nat) (q : List Value) (hi : i ≤ rs.length) : (insR rs i q).length = rs.length + 1 := by
  unfold insR
  simp
  omega
theorem insR_all {rs : List (List Value)} {i : Nat} {q : List Value} {P : List Value → Prop} (h : ∀ r ∈ rs, P r) (hq : P q) : ∀ r ∈ insR rs i q, P r := by
  intro r hr
  unfold insR at hr
  rcases List.mem_append.1 hr with hr | hr
  · exact h r (List.mem_of_mem_take hr)
  · rcases List.mem_cons.1 hr with rfl | hr
    · exact hq
    · exact h r (List.mem_of_mem_drop hr)
theorem flat_insR {rs : List (List Value)} {k : Nat} (h : ∀ r ∈ rs, r.length = k) {i : Nat} {q : List Value} : (insR rs i q).flatten = rs.flatten.take (i * k) ++ q ++ rs.flatten.drop (i * k) := by
  unfold insR
  rw [List.flatten_append, List.flatten_cons, flat_takeR rs h, flat_dropR rs h]
  simp
/-- the next record of a row is written -/
theorem putL_next {ps : List (List Value)} {k m : Nat} {z r : List Value} (h : ∀ r ∈ ps, r.length = k) (hz : z.length = k) (hr : r.length = k) : putL (ps ++ List.replicate (m + 1) z).flatten (ps.length * k) r = ((ps ++ [r]) ++ List.replicate m z).flatten := by
  have hl := flat_lenR ps h
  unfold putL
  rw [List.flatten_append, List.replicate_succ, List.flatten_cons, List.flatten_append, List.flatten_append, ← hl, List.take_append_of_le_length (Nat.le_refl _), List.take_length]
  rw [show ps.flatten.length + r.length = ps.flatten.length + z.length by rw [hr, hz], ← List.append_assoc, List.drop_append, List.drop_eq_nil_of_le (by simp)]
  simp
theorem madeCells_rows {z : Array Value} {k : Nat} (hz : z.size = k) (hk : 0 < k) : ∀ n, (List.replicate n z.toList).flatten = (madeCells z (n * k)).toList
  | 0 => by simp [madeCells]
  | n + 1 => by
    rw [List.replicate_succ', List.flatten_append, madeCells_rows hz hk n]
    apply List.ext_getElem?
    intro i
    have hsz : (madeCells z (n * k)).toList.length = n * k := by simp [madeCells]
    have hm : (n + 1) * k = n * k + k := Nat.succ_mul n k
    rcases Nat.lt_or_ge i (n * k) with h | h
    · rw [List.getElem?_append_left (by omega)]
      simp [madeCells, h, show i < (n + 1) * k by omega]
    · rw [List.getElem?_append_right (by omega), hsz]
      rcases Nat.lt_or_ge i ((n + 1) * k) with h2 | h2
      · have e1 : i % k = i - n * k := by
          have : i = (i - n * k) + k * n := by rw [Nat.mul_comm k n]; omega
          conv => lhs; rw [this]
          rw [Nat.add_mul_mod_self_left, Nat.mod_eq_of_lt (by omega)]
        simp [madeCells, h2, e1, hz]
        rw [Array.getElem?_eq_getElem (by omega)]
        simp [show i - n * k < z.size by omega]
      · rw [List.getElem?_eq_none (by simp [hz]; omega), List.getElem?_eq_none (by simp [madeCells]; omega)]
end Go.Proofs.YtfpngilmdgeikaaDoor
