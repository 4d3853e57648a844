/-
  Lists of records in memory of a call's own; a state whose lists may be changed, one without the others.
-/
import Derived.Test.YtbjlfhabnjpdmaaGreatDoorlaStMem
import Derived.Laws.AppendOwnNone
namespace Go.Proofs.YtbjlfhabnjpdmaaGreatDoor
open Go.RowKit

/-- rows of k cells each in memory of a call's own -/
def RowT (t : TypeId) (k : Nat) (w : World) (base : Nat) (v : Value) (rs : List (List Value)) : Prop := (∀ r ∈ rs, r.length = k ∧ ∀ x ∈ r, x.oneCell' = true) ∧ w.ownsRow base t k v rs.length rs.flatten
theorem RowT.shape {t : TypeId} {k : Nat} {w : World} {base : Nat} {v : Value} {rs : List (List Value)} (h : RowT t k w base v rs) : ∃ oa cap, v = .slice oa rs.length cap ∧ rs.length ≤ cap := by
  obtain ⟨_, _, h2⟩ := h
  rcases h2 with ⟨h3, h4⟩ | ⟨g, cap, cur, h3, _, _, h4, _⟩
  · exact ⟨none, 0, by rw [h4]; exact h3, by omega⟩
  · exact ⟨_, cap, h3, h4⟩
theorem RowT.below {t : TypeId} {k : Nat} {w w' : World} {base : Nat} {v : Value} {rs : List (List Value)} (h : RowT t k w base v rs) (hg : Below w.heap.size w w') : RowT t k w' base v rs := ⟨h.1, ownsRow_belowR h.2 hg⟩
theorem RowT.mono {t : TypeId} {k : Nat} {w : World} {base base' : Nat} {v : Value} {rs : List (List Value)} (h : RowT t k w base v rs) (hb : base' ≤ base) : RowT t k w base' v rs := by
  obtain ⟨h0, h1, h2⟩ := h
  refine ⟨h0, h1, ?_⟩
  rcases h2 with h2 | ⟨g, cap, cur, h3, h4, h5⟩
  · exact .inl h2
  · exact .inr ⟨g, cap, cur, h3, Nat.le_trans hb h4, h5⟩
/-- its block is from base on, and there -/
theorem RowT.own {t : TypeId} {k : Nat} {w : World} {base : Nat} {v : Value} {rs : List (List Value)} (h : RowT t k w base v rs) : ∀ g, v.ownBlock = some g → base ≤ g ∧ g < w.heap.size := fun g hg => World.ownsRow.lt h.2 g hg
theorem RowT.recs {t : TypeId} {k : Nat} {w : World} {base : Nat} {v : Value} {rs : List (List Value)} (h : RowT t k w base v rs) : Recs w w.heap.size v k rs := ownsRow_recs h.2 (fun r hr => (h.1 r hr).1)
/-- .. wherever that block stands as it does -/
theorem RowT.keep {t : TypeId} {k : Nat} {w w' : World} {base : Nat} {v : Value} {rs : List (List Value)} (h : RowT t k w base v rs) (hk : ∀ g, v.ownBlock = some g → w'.heap[g]? = w.heap[g]?) : RowT t k w' base v rs := by
  obtain ⟨h0, h1, h2⟩ := h
  refine ⟨h0, h1, ?_⟩
  rcases h2 with h2 | ⟨g, cap, cur, h3, h4, h5, h6⟩
  · exact .inl h2
  · exact .inr ⟨g, cap, cur, h3, h4, (hk g (by rw [h3]; rfl)).trans h5, h6⟩
theorem flatT_one {k : Nat} {rs : List (List Value)} (h : ∀ r ∈ rs, r.length = k ∧ ∀ x ∈ r, x.oneCell' = true) : ∀ u ∈ rs.flatten, u.oneCell' = true := by
  intro u hu
  obtain ⟨r, hr, hu⟩ := List.mem_flatten.1 hu
  exact (h r hr).2 u hu
/-- what is known of a record's type: its cells, and a list's -/
def RecF (t st : TypeId) (k : Nat) : Prop := Tryz.prog.underlying st = some (.slice t) ∧ ∃ i z B, Tryz.prog.info? t = some i ∧ i.zero = some z ∧ i.size = k ∧ i.bytes = B ∧ z.cells.size = k ∧ 0 < k ∧ B ≤ 1000
theorem recF_of {t st : TypeId} {k : Nat} {z : Value} {B : Nat} (hu : Tryz.prog.underlying st = some (.slice t)) (hi : (Tryz.prog.info? t).map (fun i => (i.zero, i.size, i.bytes)) = some (some z, k, B)) (hz : z.cells.size = k) (h0 : 0 < k) (hB : B ≤ 1000) : RecF t st k := by
  obtain ⟨i0, hi0, hz0, hz1, hz2⟩ := info_parts hi
  exact ⟨hu, i0, z, B, hi0, hz0, hz1, hz2, hz, h0, hB⟩
/-- a record more, or several -/
theorem wp_appendT {t st : TypeId} {k : Nat} (hF : RecF t st k) {o : Oper} {a : Act} {W : World} {K : Act → World → Prop} {Q : Exit → Act → World → Prop} (s x : Operand)
    (ho : o.op = .call { callee := .builtin .append, args := #[s, x], argTypes := #[st, st] })
    (base : Nat) (v : Value) (rs : List (List Value)) (hs : a.eval s = v) (hown : RowT t k W base v rs) (sv : Value) (qs : List (List Value)) {M : Nat} (hx : a.eval x = sv) (hsrc : Recs W M sv k qs)
    (hok : ∀ r ∈ qs, r.length = k ∧ ∀ x ∈ r, x.oneCell' = true) (hl : rs.length + qs.length ≤ 1000000) (hbase : base ≤ W.heap.size)
    (h : ∀ v' w', RowT t k w' base v' (rs ++ qs) → Below base W w' → W.grownBy w' v.ownBlock → K (a.put o.dst v') w') : o.wp Tryz.prog a W K Q := by
  obtain ⟨hu, i0, z, B, hi0, hz0, hz1, hz2, hz3, h0, hB⟩ := hF
  rcases hsrc.source (fun r hr => (hok r hr).1) h0 with ⟨rfl, rfl⟩ | ⟨ad, cap, rfl, hcs⟩
  · have hrun := run_append_owned_none (P := Tryz.prog) (w := W) base st o.type t i0 k hu hi0 v rs.length rs.flatten hown.2
    unfold Oper.wp
    simp [execOp, ho, resolve, invoke, builtin, hs, hx, hrun, Result.andThen]
    exact h v W (by simpa using hown) (Below.refl _ _) (grown_refl _ _)
  · have hby : (rs.length + qs.length) * B ≤ 140737488355328 := by
      have h1 := Nat.mul_le_mul hl hB
      omega
    refine wp_append_own W s x st ho base t i0 z k B hu hi0 hz0 hz1 hz2 hz3 h0 v rs.length rs.flatten hs hown.2 ad qs.length cap qs.flatten hx (flat_lenR qs (fun r hr => (hok r hr).1)) hcs (flatT_one hok) (by unfold maxLen; omega) hby hbase ?_
    intro v' w' h1 h2 _
    refine h v' w' ⟨fun r hr => ?_, ?_⟩ ((Below.refl base W).grown h2 hbase (fun k hk => (World.ownsRow.lt hown.2 k hk).1)) h2
    · rcases List.mem_append.1 hr with hr | hr
      · exact hown.1 r hr
      · exact hok r hr
    · rw [List.length_append, List.flatten_append]
      exact h1
theorem wpList_appendT {t st : TypeId} {k : Nat} (hF : RecF t st k) {ops : Array Oper} {rest : List Oper} {o : Oper} {a : Act} {W : World} {Q : Exit → Act → World → Prop} (hgd : o.guard = none) (s x : Operand)
    (ho : o.op = .call { callee := .builtin .append, args := #[s, x], argTypes := #[st, st] })
    (base : Nat) (v : Value) (rs : List (List Value)) (hs : a.eval s = v) (hown : RowT t k W base v rs) (sv : Value) (qs : List (List Value)) {M : Nat} (hx : a.eval x = sv) (hsrc : Recs W M sv k qs)
    (hok : ∀ r ∈ qs, r.length = k ∧ ∀ x ∈ r, x.oneCell' = true) (hl : rs.length + qs.length ≤ 1000000) (hbase : base ≤ W.heap.size)
    (h : ∀ v' w', RowT t k w' base v' (rs ++ qs) → Below base W w' → W.grownBy w' v.ownBlock → wpList Tryz.prog ops Q rest (a.put o.dst v') w') : wpList Tryz.prog ops Q (o :: rest) a W :=
  wpList_plain hgd fun _ hK => wp_appendT hF s x ho base v rs hs hown sv qs hx hsrc hok hl hbase fun v' w' h1 h2 h3 => hK _ _ (h v' w' h1 h2 h3)
theorem RowT.made {t : TypeId} {k : Nat} (w : World) (base : Nat) (hb : base ≤ w.heap.size) : RowT t k (w.alloc (.cells #[] t)) base (.slice (some ⟨w.heap.size, 0, none⟩) 0 0) [] :=
  ⟨fun _ h => (by cases h), by
    have := World.ownsRow_made (e := t) (size := k) w #[] 0 hb (Nat.zero_le _) (by simp)
    simpa using this⟩
theorem flat_set {k : Nat} (rs : List (List Value)) (h : ∀ r ∈ rs, r.length = k) (i : Nat) (r : List Value) (hi : i < rs.length) (hr : r.length = k) : (rs.set i r).flatten = putL rs.flatten (i * k) r := by
  rw [List.set_eq_take_append_cons_drop, if_pos hi, List.flatten_append, List.flatten_cons, flat_takeR rs h, flat_dropR rs h]
  unfold putL
  rw [hr, Nat.succ_mul, List.append_assoc]
/-- one record's cells, changed where they stand -/
theorem RowT.put {t : TypeId} {k : Nat} {w : World} {base g c i : Nat} {n : Nat} {rs : List (List Value)} {r : List Value} (h : RowT t k w base (.slice (some ⟨g, 0, none⟩) n c) rs) (hi : i < rs.length) (hr : r.length = k ∧ ∀ x ∈ r, x.oneCell' = true) :
    RowT t k (w.setCells g (i * k) r) base (.slice (some ⟨g, 0, none⟩) n c) (rs.set i r) := by
  obtain ⟨h0, h1, h2⟩ := h
  have hk : ∀ r' ∈ rs.set i r, r'.length = k := fun x hx => by
    rcases List.mem_or_eq_of_mem_set hx with hx | rfl
    · exact (h0 x hx).1
    · exact hr.1
  refine ⟨fun x hx => ?_, flat_lenR _ hk, ?_⟩
  · rcases List.mem_or_eq_of_mem_set hx with hx | rfl
    · exact h0 x hx
    · exact hr
  · rcases h2 with ⟨h3, h4⟩ | ⟨g', cap, cur, h3, h4, h5, h6, h7, h8, h9⟩
    · cases h3
    · simp only [Value.slice.injEq, Option.some.injEq, Addr.mk.injEq] at h3
      obtain ⟨⟨rfl, -, -⟩, rfl, rfl⟩ := h3
      have hik : i * k + k ≤ rs.length * k := by have := Nat.mul_le_mul_right k hi; rw [Nat.succ_mul] at this; exact this
      have hck : rs.length * k ≤ c * k := Nat.mul_le_mul_right k h6
      have hcl : cur.toList.length = c * k := by simpa using h8
      have h10 := Row.setCells r (i * k) w cur.toList (show Row w g t cur.toList by unfold Row; simpa using h5) (by rw [hr.1, hcl]; omega)
      refine .inr ⟨g, c, (putL cur.toList (i * k) r).toArray, by rw [List.length_set], h4, h10, by rw [List.length_set]; exact h6, h7, ?_, ?_⟩
      · rw [List.size_toArray, putL_length _ _ _ (by rw [hr.1, hcl]; omega), hcl]
      · rw [List.length_set, flat_set rs (fun r hr => (h0 r hr).1) i r hi hr.1, ← h9]
        show (putL cur.toList (i * k) r).take (rs.length * k) = _
        rw [putL_take _ _ _ (by omega) _ (by rw [hr.1]; exact hik)]
        unfold putL
        rw [List.take_take, Nat.min_eq_left (by omega), List.drop_take]

theorem below_setCells {B g : Nat} {a : World} (hg : B ≤ g) : ∀ (vs : List Value) (o : Nat) (w : World), Below B a w → Below B a (w.setCells g o vs)
  | [], _, _, h => h
  | v :: vs, o, w, h => below_setCells hg vs (o + 1) (w.setCell ⟨g, o, none⟩ v) (h.setCell hg v)
theorem heap_setCells (g : Nat) : ∀ (vs : List Value) (o : Nat) (w : World) (k : Nat), k ≠ g → (w.setCells g o vs).heap[k]? = w.heap[k]?
  | [], _, _, _, _ => rfl
  | v :: vs, o, w, k, h => (heap_setCells g vs (o + 1) (w.setCell ⟨g, o, none⟩ v) k h).trans (Below.heap_setCell _ _ _ _ h)
theorem grown_putCells (w : World) (g o : Nat) (vs : List Value) : w.grownBy (w.setCells g o vs) (some g) :=
  have h := below_setCells (Nat.zero_le g) vs o w (Below.refl 0 w)
  ⟨h.os, h.tape, h.output, h.size, fun k _ hne => heap_setCells g vs o w k (fun e => hne (by rw [e]))⟩
/-- what reads in the blocks of F alone -/
def Held (F : Nat → Prop) (w : World) (P : World → Prop) : Prop := (∀ k, F k → k < w.heap.size) ∧ ∀ w2, Below 0 w w2 → (∀ k, F k → w2.heap[k]? = w.heap[k]?) → P w2
theorem Held.now {F : Nat → Prop} {w : World} {P : World → Prop} (h : Held F w P) : P w := h.2 w (Below.refl _ _) (fun _ _ => rfl)
theorem Held.on {F : Nat → Prop} {w w2 : World} {P : World → Prop} (h : Held F w P) (hb : Below 0 w w2) (hk : ∀ k, F k → w2.heap[k]? = w.heap[k]?) : Held F w2 P :=
  ⟨fun k hF => Nat.lt_of_lt_of_le (h.1 k hF) hb.size, fun w3 h3 hk3 => h.2 w3 (hb.trans h3) (fun k hF => (hk3 k hF).trans (hk k hF))⟩
theorem Held.below {F : Nat → Prop} {w w2 : World} {P : World → Prop} (h : Held F w P) (hb : Below w.heap.size w w2) : Held F w2 P := h.on (hb.mono (Nat.zero_le _)) (fun k hF => hb.block k (h.1 k hF))
theorem grown_below0 {w w2 : World} {r : Option Nat} (hg : w.grownBy w2 r) : Below 0 w w2 := ⟨hg.os, hg.tape, hg.output, hg.size, fun _ hk => absurd hk (Nat.not_lt_zero _)⟩
theorem Held.grown {F : Nat → Prop} {w w2 : World} {P : World → Prop} (h : Held F w P) {r : Option Nat} (hg : w.grownBy w2 r) (hr : ∀ k, r = some k → ¬ F k) : Held F w2 P :=
  h.on (grown_below0 hg) (fun k hF => hg.block k (h.1 k hF) (fun e => hr k e.symm hF))
theorem Held.set {F : Nat → Prop} {w : World} {P : World → Prop} (h : Held F w P) {g : Nat} (hg : ¬ F g) (o : Nat) (r : List Value) : Held F (w.setCells g o r) P :=
  h.on (below_setCells (Nat.zero_le _) r o w (Below.refl 0 w)) (fun k hF => heap_setCells g r o w k (fun e => hg (e ▸ hF)))
theorem Held.wide {F G : Nat → Prop} {w : World} {P : World → Prop} (h : Held F w P) (hFG : ∀ k, F k → G k) (hG : ∀ k, G k → k < w.heap.size) : Held G w P := ⟨hG, fun w2 hb hk => h.2 w2 hb (fun k hF => hk k (hFG k hF))⟩
/-- a list that lies below block number N -/
theorem Many.held {α : Type} {R : World → Nat → List Value → α → Prop} (hR : Stays R) {k N : Nat} {w : World} {v : Value} {l : List α} (h : Many R k w N v l) (hN : N ≤ w.heap.size) : Held (fun b => b < N) w (fun w2 => Many R k w2 w2.heap.size v l) :=
  ⟨fun _ hb => Nat.lt_of_lt_of_le hb hN, fun _ hb hk => (h.below hR ⟨hb.os, hb.tape, hb.output, hb.size, hk⟩).mono hR (Nat.le_trans hN hb.size)⟩
/-- entries that are their cells -/
def cellsR {α : Type} (c : α → List Value) (_ : World) (_ : Nat) (r : List Value) (x : α) : Prop := r = c x
/-- a list of entries that are their cells, in a row of a call's own -/
def OwnC {α : Type} (t : TypeId) (c : α → List Value) (k : Nat) (w : World) (base : Nat) (v : Value) (l : List α) : Prop := RowT t k w base v (l.map c)
theorem OwnC.held {α : Type} {t : TypeId} {c : α → List Value} {k : Nat} {w : World} {base : Nat} {v : Value} {l : List α} (h : OwnC t c k w base v l) : Held (fun b => v.ownBlock = some b) w (fun w2 => Many (cellsR c) k w2 w2.heap.size v l) :=
  ⟨fun b hb => (h.own b hb).2, fun w2 _ hk => ⟨l.map c, by rw [List.length_map], (RowT.keep h (fun g hg => hk g hg)).recs, fun i r x hr hx => by
    rw [List.getElem?_map, hx] at hr
    exact (Option.some.inj hr).symm⟩⟩
theorem many_cells {α : Type} {c : α → List Value} {k : Nat} {w : World} {N : Nat} {v : Value} {l : List α} (h : Many (cellsR c) k w N v l) : Recs w N v k (l.map c) := by
  obtain ⟨rs, h1, h2, h3⟩ := h
  have : rs = l.map c := by
    refine List.ext_getElem? fun i => ?_
    rw [List.getElem?_map]
    cases hl : l[i]? with
    | none =>
      have : rs.length ≤ i := by rw [h1]; exact List.getElem?_eq_none_iff.1 hl
      rw [List.getElem?_eq_none this]
      rfl
    | some x =>
      have hi : i < rs.length := by rw [h1]; exact (List.getElem?_eq_some_iff.1 hl).1
      obtain ⟨r, hr⟩ : ∃ r, rs[i]? = some r := ⟨_, List.getElem?_eq_getElem hi⟩
      rw [hr, h3 i r x hr hl]
      rfl
  rw [← this]
  exact h2
theorem OwnC.below {α : Type} {t : TypeId} {c : α → List Value} {k : Nat} {w w' : World} {base : Nat} {v : Value} {l : List α} (h : OwnC t c k w base v l) (hg : Below w.heap.size w w') : OwnC t c k w' base v l := RowT.below h hg

theorem flat_set1 {k : Nat} : ∀ (rs : List (List Value)) (i j : Nat) (r : List Value) (x : Value), (∀ r ∈ rs, r.length = k) → rs[i]? = some r → j < k → (rs.set i (r.set j x)).flatten = rs.flatten.set (i * k + j) x
  | [], i, j, r, x, _, h, _ => by simp at h
  | a :: rs, i, j, r, x, hk, h, hj => by
    have ha := hk a List.mem_cons_self
    cases i with
    | zero =>
      obtain rfl : a = r := by simpa using h
      rw [List.set_cons_zero, List.flatten_cons, List.flatten_cons, Nat.zero_mul, Nat.zero_add, List.set_append_left _ _ (by omega)]
    | succ i =>
      rw [List.set_cons_succ, List.flatten_cons, List.flatten_cons, flat_set1 rs i j r x (fun r hr => hk r (List.mem_cons_of_mem _ hr)) (by simpa using h) hj, List.set_append_right _ _ (by rw [ha, Nat.succ_mul]; omega), ha, show (i + 1) * k + j - k = i * k + j by rw [Nat.succ_mul]; omega]
/-- one cell of a record, changed where it stands -/
theorem RowT.putCell {t : TypeId} {k : Nat} {w : World} {base g c i j : Nat} {n : Nat} {rs : List (List Value)} {r : List Value} {x : Value} (h : RowT t k w base (.slice (some ⟨g, 0, none⟩) n c) rs) (hi : rs[i]? = some r) (hj : j < k) (hx : x.oneCell' = true) :
    RowT t k (w.setCell ⟨g, i * k + j, none⟩ x) base (.slice (some ⟨g, 0, none⟩) n c) (rs.set i (r.set j x)) := by
  obtain ⟨h0, h1, h2⟩ := h
  have hil : i < rs.length := (List.getElem?_eq_some_iff.1 hi).1
  have hrm := h0 r (List.mem_of_getElem? hi)
  have hall : ∀ r' ∈ rs.set i (r.set j x), r'.length = k ∧ ∀ y ∈ r', y.oneCell' = true := fun y hy => by
    rcases List.mem_or_eq_of_mem_set hy with hy | rfl
    · exact h0 y hy
    · refine ⟨by rw [List.length_set]; exact hrm.1, fun u hu => ?_⟩
      rcases List.mem_or_eq_of_mem_set hu with hu | rfl
      · exact hrm.2 u hu
      · exact hx
  refine ⟨hall, flat_lenR _ (fun r hr => (hall r hr).1), ?_⟩
  rcases h2 with ⟨h3, h4⟩ | ⟨g', cap, cur, h3, h4, h5, h6, h7, h8, h9⟩
  · cases h3
  · simp only [Value.slice.injEq, Option.some.injEq, Addr.mk.injEq] at h3
    obtain ⟨⟨rfl, -, -⟩, rfl, rfl⟩ := h3
    have h10 := Row.set (show Row w g t cur.toList by unfold Row; simpa using h5) (i * k + j) x
    refine .inr ⟨g, c, (cur.toList.set (i * k + j) x).toArray, by rw [List.length_set], h4, h10, by rw [List.length_set]; exact h6, h7, ?_, ?_⟩
    · simpa using h8
    · rw [List.length_set, flat_set1 rs i j r x (fun r hr => (h0 r hr).1) hi hj, ← h9]
      show (cur.toList.set (i * k + j) x).take (rs.length * k) = _
      rw [List.take_set]
/-- a list in a row of a call's own, what its entries read outside it -/
def RowsH {α : Type} (t : TypeId) (R : World → Nat → List Value → α → Prop) (k N base : Nat) (w : World) (v : Value) (l : List α) : Prop :=
  ∃ rs : List (List Value), rs.length = l.length ∧ RowT t k w base v rs ∧ ∀ (i : Nat) r x, rs[i]? = some r → l[i]? = some x → Held (fun b => some b ≠ v.ownBlock ∧ (b < N ∨ base ≤ b) ∧ b < w.heap.size) w (fun w2 => R w2 w2.heap.size r x)
theorem RowsH.shape {α : Type} {t : TypeId} {R : World → Nat → List Value → α → Prop} {k N base : Nat} {w : World} {v : Value} {l : List α} (h : RowsH t R k N base w v l) : ∃ oa cap, v = .slice oa l.length cap ∧ l.length ≤ cap := by
  obtain ⟨rs, h1, h2, _⟩ := h
  rw [← h1]
  exact h2.shape
theorem RowsH.held {α : Type} {t : TypeId} {R : World → Nat → List Value → α → Prop} {k N base : Nat} {w : World} {v : Value} {l : List α} (h : RowsH t R k N base w v l) : Held (fun b => (b < N ∨ base ≤ b) ∧ b < w.heap.size) w (fun w2 => Many R k w2 w2.heap.size v l) := by
  obtain ⟨rs, h1, h2, h3⟩ := h
  refine ⟨fun b hb => hb.2, fun w2 hb hk => ⟨rs, h1, (h2.keep fun g hg => hk g ⟨.inr (h2.own g hg).1, (h2.own g hg).2⟩).recs, fun i r x hr hx => (h3 i r x hr hx).2 w2 hb fun b hF => hk b hF.2⟩⟩
theorem RowsH.below {α : Type} {t : TypeId} {R : World → Nat → List Value → α → Prop} {k N base : Nat} {w w' : World} {v : Value} {l : List α} (h : RowsH t R k N base w v l) (hg : Below w.heap.size w w') : RowsH t R k N base w' v l := by
  obtain ⟨rs, h1, h2, h3⟩ := h
  exact ⟨rs, h1, h2.below hg, fun i r x hr hx => ((h3 i r x hr hx).below hg).wide (fun b hF => ⟨hF.1, hF.2.1, Nat.lt_of_lt_of_le hF.2.2 hg.size⟩) (fun b hF => hF.2.2)⟩
/-- as a copy comes: its entries read where they did -/
theorem RowsH.new {α : Type} {t : TypeId} {R : World → Nat → List Value → α → Prop} (hR : Stays R) {k N base : Nat} {w w' : World} {v' : Value} {l : List α} {rs : List (List Value)} (h0 : rs.length = l.length) (h : RowT t k w' base v' rs) (hm : ∀ (i : Nat) r x, rs[i]? = some r → l[i]? = some x → R w N r x) (hN : N ≤ base) (hNw : N ≤ w.heap.size) (hb : Below w.heap.size w w') : RowsH t R k N base w' v' l :=
  ⟨rs, h0, h, fun i r x hr hx => ⟨fun b hF => hF.2.2, fun w2 hb2 hk => hR.mono (hR.below (hm i r x hr hx) ⟨hb2.os.trans hb.os, hb2.tape.trans hb.tape, hb2.output.trans hb.output, Nat.le_trans hb.size hb2.size, fun b hlt => by
    have hlt2 : b < w.heap.size := Nat.lt_of_lt_of_le hlt hNw
    refine (hk b ⟨fun e => ?_, .inl hlt, Nat.lt_of_lt_of_le hlt2 hb.size⟩).trans (hb.block b hlt2)
    have := (h.own b e.symm).1
    omega⟩) (Nat.le_trans hNw (Nat.le_trans hb.size hb2.size))⟩⟩
/-- an entry is another one's -/
theorem RowsH.put {α : Type} {t : TypeId} {R : World → Nat → List Value → α → Prop} {k N base g n c i : Nat} {w w' : World} {l : List α} {rs : List (List Value)} {r : List Value} {x : α} (h0 : rs.length = l.length)
    (h3 : ∀ (i : Nat) r x, rs[i]? = some r → l[i]? = some x → Held (fun b => b ≠ g ∧ (b < N ∨ base ≤ b) ∧ b < w.heap.size) w (fun w2 => R w2 w2.heap.size r x)) (hx : l[i]? = some x)
    (hr : Held (fun b => b ≠ g ∧ (b < N ∨ base ≤ b) ∧ b < w.heap.size) w (fun w2 => R w2 w2.heap.size r x)) (hg : w.grownBy w' (some g)) (h : RowT t k w' base (.slice (some ⟨g, 0, none⟩) n c) (rs.set i r)) : RowsH t R k N base w' (.slice (some ⟨g, 0, none⟩) n c) l := by
  have W : ∀ (P : World → Prop), Held (fun b => b ≠ g ∧ (b < N ∨ base ≤ b) ∧ b < w.heap.size) w P → Held (fun b => some b ≠ (Value.slice (some ⟨g, 0, none⟩) n c).ownBlock ∧ (b < N ∨ base ≤ b) ∧ b < w'.heap.size) w' P := fun P hP =>
    (hP.grown hg (fun b e hF => hF.1 (Option.some.inj e).symm)).wide (fun b hF => ⟨fun e => hF.1 (Option.some.inj e), hF.2.1, Nat.lt_of_lt_of_le hF.2.2 hg.size⟩) (fun b hF => hF.2.2)
  refine ⟨rs.set i r, by rw [List.length_set]; exact h0, h, fun j r' y hr' hy => ?_⟩
  by_cases e : i = j
  · subst e
    have hil : i < rs.length := by rw [h0]; exact (List.getElem?_eq_some_iff.1 hx).1
    rw [List.getElem?_set_self hil] at hr'
    obtain rfl := Option.some.inj hr'
    obtain rfl := Option.some.inj (hx.symm.trans hy)
    exact W _ hr
  · rw [List.getElem?_set_ne e] at hr'
    exact W _ (h3 j r' y hr' hy)
/-- a state whose lists of connections, channels and purses may be changed, one without the others: N: what was handed in lies below it; base: from it on lies what is the call's own; between them nothing is read -/
def StOwn (N base : Nat) (w : World) (s : St) (v1 v2 v3 v4 v5 v6 v7 : Value) : Prop :=
  ∃ F : Nat → Nat → Prop, (∀ i b, F i b → b < N ∨ base ≤ b) ∧
    Held (F 1) w (fun w2 => Many ClR 4 w2 w2.heap.size v1 s.clients) ∧
    OwnC 81 cnCells 4 w base v2 s.conns ∧ OwnC 83 chCells 7 w base v3 s.chans ∧
    Held (F 4) w (fun w2 => Many MkR 3 w2 w2.heap.size v4 s.sent) ∧ Held (F 5) w (fun w2 => Many MkR 3 w2 w2.heap.size v5 s.got) ∧ Held (F 6) w (fun w2 => Many MkR 3 w2 w2.heap.size v6 s.acks) ∧
    OwnC 85 puCells 3 w base v7 s.purses ∧
    (∀ b, v2.ownBlock = some b → F 2 b ∧ ∀ i, i ≠ 2 → ¬ F i b) ∧ (∀ b, v3.ownBlock = some b → F 3 b ∧ ∀ i, i ≠ 3 → ¬ F i b) ∧ (∀ b, v7.ownBlock = some b → F 7 b ∧ ∀ i, i ≠ 7 → ¬ F i b)
theorem StOwn.mem {N base : Nat} {w : World} {s : St} {v1 v2 v3 v4 v5 v6 v7 : Value} (h : StOwn N base w s v1 v2 v3 v4 v5 v6 v7) : StMem w w.heap.size s v1 v2 v3 v4 v5 v6 v7 := by
  obtain ⟨F, _, h1, h2, h3, h4, h5, h6, h7, _⟩ := h
  exact ⟨h1.now, h2.held.now, h3.held.now, h4.now, h5.now, h6.now, h7.held.now⟩
theorem StOwn.conns {N base : Nat} {w : World} {s : St} {v1 v2 v3 v4 v5 v6 v7 : Value} (h : StOwn N base w s v1 v2 v3 v4 v5 v6 v7) : OwnC 81 cnCells 4 w base v2 s.conns := by
  obtain ⟨F, _, _, h2, _⟩ := h
  exact h2
theorem StOwn.chans {N base : Nat} {w : World} {s : St} {v1 v2 v3 v4 v5 v6 v7 : Value} (h : StOwn N base w s v1 v2 v3 v4 v5 v6 v7) : OwnC 83 chCells 7 w base v3 s.chans := by
  obtain ⟨F, _, _, _, h3, _⟩ := h
  exact h3
theorem OwnC.keep {α : Type} {t : TypeId} {c : α → List Value} {k : Nat} {w w' : World} {base : Nat} {v : Value} {l : List α} (h : OwnC t c k w base v l) (hk : ∀ g, v.ownBlock = some g → w'.heap[g]? = w.heap[g]?) : OwnC t c k w' base v l := RowT.keep h hk
/-- .. where only blocks that nothing is read in were changed -/
theorem StOwn.on {N base : Nat} {w w' : World} {s : St} {v1 v2 v3 v4 v5 v6 v7 : Value} (h : StOwn N base w s v1 v2 v3 v4 v5 v6 v7) (hb : Below 0 w w') (hk : ∀ b, b < w.heap.size → b < N ∨ base ≤ b → w'.heap[b]? = w.heap[b]?) : StOwn N base w' s v1 v2 v3 v4 v5 v6 v7 := by
  obtain ⟨F, h0, h1, h2, h3, h4, h5, h6, h7, k2, k3, k7⟩ := h
  have H : ∀ (i : Nat) (P : World → Prop), Held (F i) w P → Held (F i) w' P := fun i P hP => hP.on hb (fun b hF => hk b (hP.1 b hF) (h0 i b hF))
  exact ⟨F, h0, H _ _ h1, h2.keep fun b hb' => hk b (h2.own b hb').2 (h0 2 b (k2 b hb').1), h3.keep fun b hb' => hk b (h3.own b hb').2 (h0 3 b (k3 b hb').1), H _ _ h4, H _ _ h5, H _ _ h6, h7.keep fun b hb' => hk b (h7.own b hb').2 (h0 7 b (k7 b hb').1), k2, k3, k7⟩
theorem StOwn.below {N base : Nat} {w w' : World} {s : St} {v1 v2 v3 v4 v5 v6 v7 : Value} (h : StOwn N base w s v1 v2 v3 v4 v5 v6 v7) (hb : Below w.heap.size w w') : StOwn N base w' s v1 v2 v3 v4 v5 v6 v7 :=
  h.on (hb.mono (Nat.zero_le _)) (fun b hlt _ => hb.block b hlt)
/-- a variable between them is written -/
theorem StOwn.setCell {N base : Nat} {w : World} {s : St} {v1 v2 v3 v4 v5 v6 v7 : Value} (h : StOwn N base w s v1 v2 v3 v4 v5 v6 v7) {a : Addr} (ha : N ≤ a.block) (hb : a.block < base) (x : Value) : StOwn N base (w.setCell a x) s v1 v2 v3 v4 v5 v6 v7 :=
  h.on ((Below.refl 0 w).setCell (Nat.zero_le _) x) (fun b _ hlt => Below.heap_setCell _ _ _ _ (by omega))
end Go.Proofs.YtbjlfhabnjpdmaaGreatDoor
