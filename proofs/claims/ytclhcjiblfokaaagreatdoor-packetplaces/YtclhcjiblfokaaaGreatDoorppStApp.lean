/-
  Bytes that a call owns, in a row that may bear a mark behind its end (what a conversion of a text leaves): append onto them; what strconv.AppendInt answers of a number from 0 on, onto such bytes.
-/
import Derived.Test.YtclhcjiblfokaaaGreatDoorppStMath
import Derived.Test.YtclhcjiblfokaaaGreatDoorppHdCheck
import Derived.Test.YtclhcjiblfokaaaGreatDoorppStShelf
import Derived.Lib.AppendIntMem
import Derived.Lib.FrozenHead
import Derived.Lib.ItoaLen
namespace Go.Proofs.YtclhcjiblfokaaaGreatDoor
open Go.RowKit

/-- the bytes l, owned from base on; the row may bear a mark behind its end -/
def OwnM (w : World) (base : Nat) (v : Value) (l : List (BitVec 8)) : Prop :=
  ∃ g cap cur fz, v = .slice (some ⟨g, 0, none⟩) l.length cap ∧ base ≤ g ∧ w.heap[g]? = some (.cells cur 5 fz) ∧ (fz.2 = 0 ∨ cur.size ≤ fz.1) ∧ l.length ≤ cap ∧ cap ≤ maxLen ∧ cur.size = cap ∧ cur.toList.take l.length = l.map V
theorem OwnM.lt {w : World} {base : Nat} {v : Value} {l : List (BitVec 8)} (h : OwnM w base v l) : ∃ g, v.ownBlock = some g ∧ base ≤ g ∧ g < w.heap.size := by
  obtain ⟨g, cap, cur, fz, rfl, hb, hg, _⟩ := h
  exact ⟨g, rfl, hb, (Array.getElem?_eq_some_iff.1 hg).1⟩
theorem OwnM.below {w w' : World} {base : Nat} {v : Value} {l : List (BitVec 8)} (h : OwnM w base v l) (hb : Below w.heap.size w w') : OwnM w' base v l := by
  obtain ⟨g, cap, cur, fz, h1, h2, hg, h3⟩ := h
  exact ⟨g, cap, cur, fz, h1, h2, (hb.block g (Array.getElem?_eq_some_iff.1 hg).1).trans hg, h3⟩
theorem OwnM.shape {w : World} {base : Nat} {v : Value} {l : List (BitVec 8)} (h : OwnM w base v l) : ∃ oa cap, v = .slice oa l.length cap := by
  obtain ⟨g, cap, cur, fz, rfl, _⟩ := h
  exact ⟨_, _, rfl⟩
theorem OwnM.cell {w : World} {base : Nat} {l : List (BitVec 8)} {g c : Nat} (h : OwnM w base (.slice (some ⟨g, 0, none⟩) l.length c) l) (j : Nat) (u : Value) (hu : (l.map V)[j]? = some u) : w.cell? ⟨g, j, none⟩ = some u := by
  obtain ⟨g', cap, cur, fz, e, hb, hg, hfz, hn, hm, hc, ht⟩ := h
  simp at e
  obtain ⟨rfl, rfl⟩ := e
  have hj : j < l.length := by have := (List.getElem?_eq_some_iff.1 hu).1; simpa using this
  rw [cell_of_row w g j cur _ fz hg, ← hu, ← ht, List.getElem?_take, if_pos hj, Array.getElem?_toList]
theorem OwnM.bytes {w : World} {base : Nat} {v : Value} {l : List (BitVec 8)} (h : OwnM w base v l) : Bytes w w.heap.size v l := by
  have h' := h
  obtain ⟨g, cap, cur, fz, rfl, hb, hg, hfz, hn, hm, hc, ht⟩ := h
  refine .inr (.inr ⟨g, 0, cap, rfl, hn, fun i hi => ⟨(Array.getElem?_eq_some_iff.1 hg).1, ?_⟩⟩)
  rw [Nat.zero_add]
  refine h'.cell i _ ?_
  rw [List.getElem?_map, List.getElem?_eq_getElem hi]
  simp [V, List.getD, List.getElem?_eq_getElem hi]
/-- cells laid into a row where no mark stands -/
theorem run_storeM (P : Program) (g o : Nat) (t : TypeId) (fz : Nat × Nat) : ∀ (vs : List Value) (i : Nat) (cur : Array Value) (w : World), w.heap[g]? = some (.cells cur t fz) → (fz.2 = 0 ∨ cur.size ≤ fz.1) → o + i + vs.length ≤ cur.size → (∀ v ∈ vs, v.oneCell' = true) →
    (storeCells ⟨g, o, none⟩ vs i).run P w = .ok () (w.setRow g (cur.toList.take (o + i) ++ vs ++ cur.toList.drop (o + i + vs.length)).toArray) := by
  intro vs
  induction vs with
  | nil =>
    intro i cur w hg _ _ _
    have e : (cur.toList.take (o + i) ++ [] ++ cur.toList.drop (o + i + ([] : List Value).length)).toArray = cur := by simp
    rw [e, setRow_self w g cur t fz hg]
    rfl
  | cons v rest ih =>
    intro i cur w hg hfz hl h1
    rw [List.length_cons] at hl
    have hi : o + i < cur.size := by omega
    have hadd : (⟨g, o, none⟩ : Addr).add i = ⟨g, o + i, none⟩ := by unfold Addr.add; split <;> simp_all
    have hcell : w.cell? ⟨g, o + i, none⟩ = some cur[o + i] := by simp [World.cell?, hg, hi]
    have hfro : w.frozen? ⟨g, o + i, none⟩ = false := by
      obtain ⟨lo, up⟩ := fz
      simp only [World.frozen?, hg]
      simp only at hfz
      rw [Bool.and_eq_false_iff]
      rcases hfz with h | h
      · right; simp; omega
      · left; simp; omega
    have hst : (store ((⟨g, o, none⟩ : Addr).add i) v).run P w = .ok () (w.setRow g (cur.setIfInBounds (o + i) v)) := by
      rw [hadd, run_store P w _ v _ (h1 v List.mem_cons_self), hcell]
      simp [hfro, setCell_eq_setRow w g (o + i) cur t fz v hg]
    have hr := ih (i + 1) (cur.setIfInBounds (o + i) v) (w.setRow g (cur.setIfInBounds (o + i) v)) (setRow_heap w g cur _ t _ hg) (by rw [Array.size_setIfInBounds]; exact hfz) (by rw [Array.size_setIfInBounds]; omega) (fun x hx => h1 x (List.mem_cons_of_mem _ hx))
    rw [storeCells, Sem.run_bind, hst, Result.andThen_ok, hr, setRow_setRow]
    have e := list_seg_step cur.toList (o + i) v rest (by simp; omega)
    congr 3
    simpa [Array.toList_setIfInBounds, Nat.add_assoc] using e
theorem V_one (l : List (BitVec 8)) : ∀ u ∈ l.map V, u.oneCell' = true := by
  intro u hu
  obtain ⟨b, _, rfl⟩ := List.mem_map.1 hu
  rfl
/-- what a row is behind an append with room -/
theorem OwnM.room {w : World} {base g cap : Nat} {cur : Array Value} {fz : Nat × Nat} {l m : List (BitVec 8)} (hb : base ≤ g) (hg : w.heap[g]? = some (.cells cur 5 fz)) (hfz : fz.2 = 0 ∨ cur.size ≤ fz.1) (hm : cap ≤ maxLen) (hc : cur.size = cap) (ht : cur.toList.take l.length = l.map V) (hroom : l.length + m.length ≤ cap) :
    OwnM (w.setRow g (cur.toList.take l.length ++ m.map V ++ cur.toList.drop (l.length + m.length)).toArray) base (.slice (some ⟨g, 0, none⟩) (l.length + m.length) cap) (l ++ m) := by
  refine ⟨g, cap, _, fz, by rw [List.length_append], hb, setRow_heap w g cur _ _ _ hg, ?_, by rw [List.length_append]; exact hroom, hm, ?_, ?_⟩
  · have : (cur.toList.take l.length ++ m.map V ++ cur.toList.drop (l.length + m.length)).toArray.size = cur.size := by
      simp only [List.size_toArray, List.length_append, List.length_take, List.length_drop, Array.length_toList, List.length_map]
      omega
    rw [this]; exact hfz
  · simp only [List.size_toArray, List.length_append, List.length_take, List.length_drop, Array.length_toList, List.length_map]
    omega
  · rw [ht, List.length_append, List.map_append]
    have : l.length + m.length = (l.map V ++ m.map V).length := by simp
    rw [this]
    exact List.take_left
theorem OwnM.of_new {w : World} {base n : Nat} {v : Value} {l : List (BitVec 8)} (h : w.ownsRow base 5 1 v n (l.map V)) (hne : v ≠ .slice none 0 0) : OwnM w base v l := by
  obtain ⟨h1, ⟨rfl, _⟩ | ⟨g, cap, cur, rfl, hb, hg, hn, hm, hc, ht⟩⟩ := h
  · exact absurd rfl hne
  · have : n = l.length := by simpa using h1.symm
    subst this
    exact ⟨g, cap, cur, (0, 0), rfl, hb, hg, .inl rfl, hn, hm, by simpa using hc, by simpa using ht⟩
theorem keeps_setRow {w : World} {g : Nat} {cur : Array Value} {fz : Nat × Nat} (hg : w.heap[g]? = some (.cells cur 5 fz)) (x : Array Value) : Keeps w (w.setRow g x) := fun k cs t fr hk ht => by
  by_cases e : k = g
  · subst e
    rw [hg] at hk
    simp at hk
    exact absurd hk.2.1.symm ht
  · exact setRow_other w g k _ e
theorem below_setRow {w : World} {base g : Nat} (x : Array Value) (hb : base ≤ g) : Below base w (w.setRow g x) := ⟨rfl, rfl, rfl, by simp, fun k hk => setRow_other w g k _ (by omega)⟩
/-- append of bytes -/
theorem run_appendM (ty : TypeId) (w : World) (base : Nat) (v x : Value) (l m : List (BitVec 8)) (hown : OwnM w base v l) (N : Nat) (hx : Bytes w N x m) (hl : l.length + m.length ≤ 140737488355328) (hbase : base ≤ w.heap.size) :
    ∃ v' w', (Builtin.append_ #[29, 29] ty #[v, x]).run Tryz.prog w = .ok v' w' ∧ OwnM w' base v' (l ++ m) ∧ Below base w w' ∧ Keeps w w' := by
  obtain ⟨i0, hi, hz0, hz1, hz2⟩ := info_parts info_u8
  have ho := hown
  obtain ⟨g, cap, cur, fz, rfl, hb, hg, hfz, hn, hm, hc, ht⟩ := hown
  obtain ⟨oa, ca, rfl, hca⟩ := hx.shape
  -- the source's cells
  have hsrc : m = [] ∨ ∃ a, oa = some a ∧ ∀ j u, (m.map V)[j]? = some u → w.cell? (a.add j) = some u := by
    rcases hx with ⟨_, h⟩ | ⟨_, _, _, h⟩ | ⟨b, off, c, h, _, hcell⟩
    · exact .inl h
    · exact .inl h
    · simp at h
      refine .inr ⟨_, h.1, fun j u hu => ?_⟩
      have hj : j < m.length := by have := (List.getElem?_eq_some_iff.1 hu).1; simpa using this
      have hadd : (⟨b, off, none⟩ : Addr).add j = ⟨b, off + j, none⟩ := by unfold Addr.add; split <;> simp_all
      rw [hadd, (hcell j hj).2, ← hu, List.getElem?_map, List.getElem?_eq_getElem hj]
      simp [V, List.getD, List.getElem?_eq_getElem hj]
  by_cases hroom : l.length + m.length ≤ cap
  · have hst := run_storeM Tryz.prog g l.length 5 fz (m.map V) 0 cur w hg hfz (by simp; omega) (V_one m)
    simp only [Nat.add_zero, List.length_map] at hst
    refine ⟨_, _, ?_, OwnM.room hb hg hfz hm hc ht hroom, below_setRow _ hb, keeps_setRow hg _⟩
    rcases hsrc with rfl | ⟨a, rfl, hcells⟩
    · have hf : (Builtin.firstCells 1 0 (.slice oa 0 ca)).run Tryz.prog w = .ok #[] w := by
        cases oa with
        | none => exact run_firstCells_none w 1 0 0 ca
        | some a => simpa using run_firstCells_some (P := Tryz.prog) w 1 0 a 0 ca [] rfl (fun j v h => by simp at h)
      simp at hst hroom
      simp [Builtin.append_, run_underlying Tryz.underlying29, sizeOf, typeInfo, hi, hz1, Builtin.lenOf, hn, hf, Addr.add_lit, hst]
    · have hf := run_firstCells_some (P := Tryz.prog) w 1 m.length a m.length ca (m.map V) (by simp) hcells
      simp [Builtin.append_, run_underlying Tryz.underlying29, sizeOf, typeInfo, hi, hz1, Builtin.lenOf, hroom, hf, Addr.add_lit, hst]
  · rcases hsrc with rfl | ⟨a, rfl, hcells⟩
    · simp at hroom; omega
    · have hold : ∀ j u, (l.map V)[j]? = some u → w.cell? ((⟨g, 0, none⟩ : Addr).add j) = some u := fun j u hu => by
        have hadd : (⟨g, 0, none⟩ : Addr).add j = ⟨g, j, none⟩ := by unfold Addr.add; split <;> simp_all
        rw [hadd]; exact ho.cell j u hu
      have hr := run_append_grow (P := Tryz.prog) w 29 ty 5 i0 (.int .u8 0) Tryz.underlying29 hi hz0 ⟨g, 0, none⟩ l.length cap (l.map V) (by rw [hz1]; simp) hold a m.length ca (m.map V) (by rw [hz1]; simp) hcells (by omega) (by omega) (by rw [hz2]; exact growslice_fits (by omega) (by omega))
      have hge := grownCap_ge w (l.length + m.length) cap 5
      have hgm : grownCap w (l.length + m.length) cap 5 ≤ maxLen := grownCap_le_maxLen w (l.length + m.length) cap 5 (by simp only [maxLen]; omega)
      refine ⟨_, _, hr, ⟨w.heap.size, _, _, (0, 0), by rw [List.length_append], hbase, heap_alloc_new w.drew _, .inl rfl, by rw [List.length_append]; exact hge, hgm, ?_, ?_⟩, ?_, ?_⟩
      · have hz8 : (Value.int IntKind.u8 0).cells.size = 1 := rfl
        simp only [Array.size_append, List.size_toArray, size_zeroCells, hz8, List.length_map]
        omega
      · simp only [Array.toList_append, List.append_assoc, List.length_append, List.map_append]
        have : l.length + m.length = (l.map V ++ m.map V).length := by simp
        rw [← List.append_assoc, this]
        exact List.take_left
      · exact ⟨rfl, rfl, rfl, by simp, fun k hk => heap_alloc_old w.drew _ (show k < w.heap.size by omega)⟩
      · intro k cs t fr hk _
        exact heap_alloc_old w.drew _ (Array.getElem?_eq_some_iff.1 hk).1
theorem wpList_appendM {ops : Array Oper} {rest : List Oper} {o : Oper} {a : Act} {w : World} {Q : Exit → Act → World → Prop} (hgd : o.guard = none) (s x : Operand)
    (ho : o.op = .call { callee := .builtin .append, args := #[s, x], argTypes := #[29, 29] })
    (base : Nat) (v xv : Value) (l m : List (BitVec 8)) (hs : a.eval s = v) (hown : OwnM w base v l) (N : Nat) (hx : a.eval x = xv) (hb : Bytes w N xv m) (hl : l.length + m.length ≤ 140737488355328) (hbase : base ≤ w.heap.size)
    (h : ∀ v' w', OwnM w' base v' (l ++ m) → Below base w w' → Keeps w w' → wpList Tryz.prog ops Q rest (a.put o.dst v') w') : wpList Tryz.prog ops Q (o :: rest) a w := by
  refine wpList_plain hgd fun K hK => ?_
  obtain ⟨v', w', hr, h2, h3, h4⟩ := run_appendM o.type w base v xv l m hown N hb hl hbase
  unfold Oper.wp execOp
  simp only [ho, resolve, invoke, builtin, Sem.run_bind, Sem.run_pure, Result.andThen_ok, List.map_toArray, List.map_cons, List.map_nil, hs, hx, hr]
  exact hK _ _ (h v' w' h2 h3 h4)
/-- append of a text's bytes -/
theorem run_appendS (ty : TypeId) (w : World) (base : Nat) (v : Value) (l m : List (BitVec 8)) (hown : OwnM w base v l) (x : ByteArray) (hx : Lib.strCells x = m.map V) (hl : l.length + m.length ≤ 140737488355328) (hbase : base ≤ w.heap.size) :
    ∃ v' w', (Builtin.append_ #[29, 9] ty #[v, .string x]).run Tryz.prog w = .ok v' w' ∧ OwnM w' base v' (l ++ m) ∧ Below base w w' ∧ Keeps w w' := by
  obtain ⟨i0, hi, hz0, hz1, hz2⟩ := info_parts info_u8
  have ho := hown
  obtain ⟨g, cap, cur, fz, rfl, hb, hg, hfz, hn, hm, hc, ht⟩ := hown
  have hxs : x.size = m.length := by rw [← Lib.strCells_length, hx, List.length_map]
  by_cases hroom : l.length + m.length ≤ cap
  · have hst := run_storeM Tryz.prog g l.length 5 fz (m.map V) 0 cur w hg hfz (by simp; omega) (V_one m)
    simp only [Nat.add_zero, List.length_map] at hst
    refine ⟨_, _, ?_, OwnM.room hb hg hfz hm hc ht hroom, below_setRow _ hb, keeps_setRow hg _⟩
    have hf := Lib.run_firstCells_string (P := Tryz.prog) w 1 x
    rw [hx, hxs] at hf
    simp [Builtin.append_, run_underlying Tryz.underlying29, run_underlying Tryz.underlying9, sizeOf, typeInfo, hi, hz1, Builtin.lenOf, hxs, hroom, hf, Addr.add_lit, hst]
  · have hold : ∀ j u, (l.map V)[j]? = some u → w.cell? ((⟨g, 0, none⟩ : Addr).add j) = some u := fun j u hu => by
      have hadd : (⟨g, 0, none⟩ : Addr).add j = ⟨g, j, none⟩ := by unfold Addr.add; split <;> simp_all
      rw [hadd]; exact ho.cell j u hu
    have hr := Lib.run_append_grow_string (P := Tryz.prog) w 29 9 ty 5 i0 (.int .u8 0) Tryz.underlying29 Tryz.underlying9 hi hz0 ⟨g, 0, none⟩ l.length cap (l.map V) (by rw [hz1]; simp) hold x (by omega) (by omega) (by rw [hz2]; exact growslice_fits (by omega) (by omega))
    rw [hx, hxs] at hr
    have hge := grownCap_ge w (l.length + m.length) cap 5
    have hgm : grownCap w (l.length + m.length) cap 5 ≤ maxLen := grownCap_le_maxLen w (l.length + m.length) cap 5 (by simp only [maxLen]; omega)
    refine ⟨_, _, hr, ⟨w.heap.size, _, _, (0, 0), by rw [List.length_append], hbase, heap_alloc_new w.drew _, .inl rfl, by rw [List.length_append]; exact hge, hgm, ?_, ?_⟩, ?_, ?_⟩
    · have hz8 : (Value.int IntKind.u8 0).cells.size = 1 := rfl
      simp only [Array.size_append, List.size_toArray, size_zeroCells, hz8, List.length_map]
      omega
    · simp only [Array.toList_append, List.append_assoc, List.length_append, List.map_append]
      have : l.length + m.length = (l.map V ++ m.map V).length := by simp
      rw [← List.append_assoc, this]
      exact List.take_left
    · exact ⟨rfl, rfl, rfl, by simp, fun k hk => heap_alloc_old w.drew _ (show k < w.heap.size by omega)⟩
    · intro k cs t fr hk _
      exact heap_alloc_old w.drew _ (Array.getElem?_eq_some_iff.1 hk).1
theorem wpList_appendS {ops : Array Oper} {rest : List Oper} {o : Oper} {a : Act} {w : World} {Q : Exit → Act → World → Prop} (hgd : o.guard = none) (s x : Operand)
    (ho : o.op = .call { callee := .builtin .append, args := #[s, x], argTypes := #[29, 9] })
    (base : Nat) (v : Value) (l m : List (BitVec 8)) (hs : a.eval s = v) (hown : OwnM w base v l) (xb : ByteArray) (hx : a.eval x = .string xb) (hb : Lib.strCells xb = m.map V) (hl : l.length + m.length ≤ 140737488355328) (hbase : base ≤ w.heap.size)
    (h : ∀ v' w', OwnM w' base v' (l ++ m) → Below base w w' → Keeps w w' → wpList Tryz.prog ops Q rest (a.put o.dst v') w') : wpList Tryz.prog ops Q (o :: rest) a w := by
  refine wpList_plain hgd fun K hK => ?_
  obtain ⟨v', w', hr, h2, h3, h4⟩ := run_appendS o.type w base v l m hown xb hb hl hbase
  unfold Oper.wp execOp
  simp only [ho, resolve, invoke, builtin, Sem.run_bind, Sem.run_pure, Result.andThen_ok, List.map_toArray, List.map_cons, List.map_nil, hs, hx, hr]
  exact hK _ _ (h v' w' h2 h3 h4)
theorem digN_cells (u : Nat) : Lib.byteCells (Lib.decDigits u) = (digN u).map V := by
  unfold Lib.byteCells digN
  rw [List.map_map]
  refine List.map_congr_left fun x _ => ?_
  simp [V, b8]
theorem digN_length (u : Nat) : (digN u).length = Lib.nDigits u := by unfold digN; rw [List.length_map, Lib.decDigits_length]
/-- the table of powers of ten lies as it is laid -/
def powAt (w : World) : Prop := Lib.TabIs Tryz.prog w "internal/strconv.uint64pow10" .u64 Lib.pow10Tab
theorem powAt.below {w w' : World} (h : powAt w) (hb : Below w.heap.size w w') : powAt w' := Lib.tabBelow_of_tabIs h w' hb
set_option maxHeartbeats 6400000 in
set_option maxRecDepth 100000 in
theorem appendUint_small (u : Nat) (hu : u < 100) (l : List (BitVec 8)) (v : Value) (base : Nat) (w : World) (hb : base ≤ w.heap.size) (hown : OwnM w base v l) (hl : l.length ≤ 1000000) :
    Calls Tryz.prog 192 #[v, .int .u64 (u : Int), .int .i64 10] w fun e w' => ∃ v', e = .returned v' ∧ OwnM w' base v' (l ++ digN u) ∧ Below base w w' ∧ Keeps w w' := by
  have HO := hid hown
  have iu : decide ((u : Int) < 100) = true := decide_eq_true (by omega)
  have hw64 : IntKind.i64.wrap (u : Int) = (u : Int) := by rw [IntKind.wrap_i64]; omega
  have hdl : (digN u).length ≤ 13 := digN_len 12 u (by omega)
  have HS := hid (show Lib.strCells ⟨(Lib.decDigits u).toArray⟩ = (digN u).map V by rw [Lib.strCells_toArray]; exact digN_cells u)
  clear hown
  go_enter Tryz.func192, Tryz.ntmps192
  go_wp2_with (first
    | (go_at_call 198; refine (Any.internal_strconv_small Tryz.laysSmall283 u hu _).mono ?_; rintro e w' ⟨rfl, hw'⟩; obtain rfl := hw'.symm)
    | (at_builtin; refine wpList_appendS rfl (.tmp 13) (.tmp 16) rfl base _ l (digN u) rfl HO.out _ rfl HS.out (by omega) hb ?_; intro v' w1 hown' hbe' hke'))
  go_ret
  exact ⟨_, rfl, hown', hbe', hke'⟩
set_option maxHeartbeats 12800000 in
set_option maxRecDepth 100000 in
theorem appendUint_big (u : Nat) (hu : 100 ≤ u) (hu64 : u < 18446744073709551616) (l : List (BitVec 8)) (v : Value) (base : Nat) (w : World) (hb : base ≤ w.heap.size) (hown : OwnM w base v l) (hl : l.length ≤ 1000000) (htab : powAt w) :
    Calls Tryz.prog 192 #[v, .int .u64 (u : Int), .int .i64 10] w fun e w' => ∃ v', e = .returned v' ∧ OwnM w' base v' (l ++ digN u) ∧ Below base w w' ∧ Keeps w w' := by
  have HO := hid hown
  have hu1 : 1 ≤ u := by omega
  have hnd : Lib.nDigits u ≤ 20 := by have := Lib.numDigits_eq u hu1 hu64; split at this <;> omega
  have hal : Tryz.prog.arrayLen 228 = 24 := by kernel_rfl
  have hsl : ∀ W, (Instr.sliceAt 228 (.pointer (some ⟨w.heap.size, 0, none⟩)) none (some (.int .i64 (Lib.nDigits u : Int))) none).run Tryz.prog W = .ok (.slice (some ⟨w.heap.size, 0, none⟩) (Lib.nDigits u) 24) W := fun W => by
    rw [run_sliceAt_array_h W 228 ⟨w.heap.size, 0, none⟩ (by kernel_rfl) .i64 (Lib.nDigits u : Int) (by omega) (by rw [hal]; omega)]
    go_simp
  have hz := Lib.holds_zero0 w 228 (Lib.nDigits u) (by omega)
  have hfmt := Any.internal_strconv_formatBase10 Tryz.laysFmt285 w.heap.size 0 24 u (Array.replicate (Lib.nDigits u) 0) (w.alloc (.cells Lib.zeros24 228)) hz (by rw [Array.size_replicate]; exact Lib.lt_pow_nDigits u) hu64 (by rw [Array.size_replicate]; omega)
  rw [Array.size_replicate] at hfmt
  have HZ := hid hz
  have HFM := hid hfmt
  have HT := hid htab
  have iu : decide ((u : Int) < 100) = false := decide_eq_false (by omega)
  clear hz hal hown hfmt htab
  go_enter Tryz.func192, Tryz.ntmps192
  go_wp2_with (go_at_call 199; refine (Any.internal_strconv_numDigits Tryz.laysDig284 u hu1 hu64 _ (Lib.tabIs_alloc HT.out _)).mono ?_; rintro e w' ⟨rfl, hw'⟩; obtain rfl := hw'.symm)
  refine HFM.out.mono ?_
  rintro e W2 ⟨rfl, k, v', dk, hW2, hF⟩
  obtain ⟨os, eo⟩ := Lib.fin_at w (.cells Lib.zeros24 228) dk k 0
  have hb2 : Below w.heap.size w W2 := by rw [hW2, eo]; exact Lib.below_grow w.heap.size w (Nat.le_refl _) k os
  have hcells : ∀ j, j < (digN u).length → W2.cell? ⟨w.heap.size, 0 + j, none⟩ = some (.int .u8 (b8 ((digN u).getD j 0))) := by
    intro j hj
    have hjn : j < Lib.nDigits u := by rw [← digN_length]; exact hj
    have hjl : j < (Lib.decDigits u).length := by rw [Lib.decDigits_length]; exact hjn
    rw [hW2, World.cell?_drewN, Sort.cell?_putRow (fun (b : UInt8) => Value.int .u8 (b.toNat : Int)) _ w.heap.size 0 _ dk HZ.out (by rw [hF.size, Array.size_replicate]) j (by rw [hF.size]; exact hjn), ← Lib.row_is_numeral hF j hjl]
    congr 2
    rw [List.getD, List.getElem?_eq_getElem hj, Option.getD_some]
    simp [digN, b8]
  have hsz : w.heap.size < W2.heap.size := by
    rw [hW2]
    simp [World.drewN, Sort.putRow, Sort.mapBlock]
  have HX := hid (show Bytes W2 W2.heap.size (.slice (some ⟨w.heap.size, 0, none⟩) (Lib.nDigits u) 24) (digN u) from .inr (.inr ⟨w.heap.size, 0, 24, by rw [digN_length], by rw [digN_length]; omega, fun i hi => ⟨hsz, hcells i hi⟩⟩))
  have HB2 := hid hb2
  have HO2 := hid (HO.out.below hb2)
  have hln : (digN u).length ≤ 20 := by rw [digN_length]; exact hnd
  clear hW2 hF eo hcells hb2 HFM HZ
  go_wp2_with (at_builtin; refine wpList_appendM rfl (.tmp 24) (.tmp 26) rfl base _ _ l (digN u) rfl HO2.out _ rfl HX.out (by omega) (Nat.le_trans hb HB2.out.size) ?_; intro v2 w3 hown' hbe' hke')
  go_ret
  refine ⟨_, rfl, hown', (HB2.out.mono hb).trans hbe', Keeps.trans ?_ hke'⟩
  exact fun k cs t fr hk _ => HB2.out.block k (Array.getElem?_eq_some_iff.1 hk).1
theorem appendUint_any (u : Nat) (hu64 : u < 18446744073709551616) (l : List (BitVec 8)) (v : Value) (base : Nat) (w : World) (hb : base ≤ w.heap.size) (hown : OwnM w base v l) (hl : l.length ≤ 1000000) (htab : powAt w) :
    Calls Tryz.prog 192 #[v, .int .u64 (u : Int), .int .i64 10] w fun e w' => ∃ v', e = .returned v' ∧ OwnM w' base v' (l ++ digN u) ∧ Below base w w' ∧ Keeps w w' := by
  by_cases h : u < 100
  · exact appendUint_small u h l v base w hb hown hl
  · exact appendUint_big u (by omega) hu64 l v base w hb hown hl htab
theorem appendIntI_any (u : Nat) (hu : u ≤ 9223372036854775807) (l : List (BitVec 8)) (v : Value) (base : Nat) (w : World) (hb : base ≤ w.heap.size) (hown : OwnM w base v l) (hl : l.length ≤ 1000000) (htab : powAt w) :
    Calls Tryz.prog 173 #[v, .int .i64 (u : Int), .int .i64 10] w fun e w' => ∃ v', e = .returned v' ∧ OwnM w' base v' (l ++ digN u) ∧ Below base w w' ∧ Keeps w w' := by
  have HC := hid (appendUint_any u (by omega) l v base w hb hown hl htab)
  have e0 : decide ((u : Int) < 0) = false := decide_eq_false (by omega)
  have hw64 : IntKind.u64.wrap (u : Int) = (u : Int) := by rw [IntKind.wrap_u64]; omega
  clear hown htab
  go_enter Tryz.func173, Tryz.ntmps173
  go_wp2_with (go_at_call 192; refine (HC.out).mono ?_; rintro e w' ⟨v', rfl, ho', hb', hk'⟩)
  go_ret
  exact ⟨_, rfl, ho', hb', hk'⟩
theorem appendInt_any (u : Nat) (hu : u ≤ 9223372036854775807) (l : List (BitVec 8)) (v : Value) (base : Nat) (w : World) (hb : base ≤ w.heap.size) (hown : OwnM w base v l) (hl : l.length ≤ 1000000) (htab : powAt w) :
    Calls Tryz.prog 142 #[v, .int .i64 (u : Int), .int .i64 10] w fun e w' => ∃ v', e = .returned v' ∧ OwnM w' base v' (l ++ digN u) ∧ Below base w w' ∧ Keeps w w' := by
  have HC := hid (appendIntI_any u hu l v base w hb hown hl htab)
  clear hown htab
  go_enter Tryz.func142, Tryz.ntmps142
  go_wp2_with (go_at_call 173; refine (HC.out).mono ?_; rintro e w' ⟨v', rfl, ho', hb', hk'⟩)
  go_ret
  exact ⟨_, rfl, ho', hb', hk'⟩
end Go.Proofs.YtclhcjiblfokaaaGreatDoor
