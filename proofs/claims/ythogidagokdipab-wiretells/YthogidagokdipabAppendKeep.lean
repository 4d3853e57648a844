/-
  Laws for append of bytes onto what the call owns that tell, too, that no block of another element type is turned: at an operation, in a plain region's list, at a step of a region that draws its order.
-/
import Derived.Test.YthogidagokdipabBytesMem
import Derived.Laws.OwnMore
import Derived.Deep.AppendLies
namespace Go.Proofs.Ythogidagokdipab
open Go.RowKit

/-- blocks whose cells are not bytes are as they were -/
def Keeps (w w' : World) : Prop := ∀ (k : Nat) (cs : Array Value) (t : TypeId) (fr : Nat × Nat), w.heap[k]? = some (.cells cs t fr) → t ≠ 5 → w'.heap[k]? = w.heap[k]?
theorem Keeps.refl (w : World) : Keeps w w := fun _ _ _ _ _ _ => rfl
theorem Keeps.trans {w w1 w2 : World} (h : Keeps w w1) (k : Keeps w1 w2) : Keeps w w2 := fun i cs t fr hi ht => by
  have h1 := h i cs t fr hi ht
  exact (k i cs t fr (h1.trans hi) ht).trans h1
theorem Keeps.alloc (w : World) (o : Obj) : Keeps w (w.alloc o) := fun k _ _ _ hk _ => Below.heap_alloc w o k (Array.getElem?_eq_some_iff.1 hk).1
theorem Keeps.drewN {w w' : World} (h : Keeps w w') (n : Nat) : Keeps w (w'.drewN n) := h
theorem Keeps.of_below {w w' : World} (h : Below w.heap.size w w') : Keeps w w' := fun k _ _ _ hk _ => h.block k (Array.getElem?_eq_some_iff.1 hk).1
theorem Keeps.row {w w' : World} (h : Keeps w w') {g : Nat} {t : TypeId} {cs : List Value} (hr : Row w g t cs) (ht : t ≠ 5) : Row w' g t cs := by
  unfold Row at *
  rw [h g _ t _ hr ht, hr]
/-- what is owned, with bytes in it -/
def OwnB (w : World) (base : Nat) (v : Value) (l : List (BitVec 8)) : Prop := w.ownsRow base 5 1 v l.length (l.map V)
theorem OwnB.nil (w : World) (base : Nat) : OwnB w base (.slice none 0 0) [] := World.ownsRow_nil w base 5 1
theorem OwnB.bytes {w : World} {base : Nat} {v : Value} {l : List (BitVec 8)} (h : OwnB w base v l) : Bytes w w.heap.size v l := ownsRow_bytes h
theorem OwnB.keep {w w' : World} {base : Nat} {v : Value} {l : List (BitVec 8)} (h : OwnB w base v l) (hk : ∀ g, base ≤ g → w'.heap[g]? = w.heap[g]?) : OwnB w' base v l := by
  obtain ⟨h1, h2⟩ := h
  refine ⟨h1, ?_⟩
  rcases h2 with h2 | ⟨g, cap, cur, h3, h4, h5, h6⟩
  · exact .inl h2
  · exact .inr ⟨g, cap, cur, h3, h4, (hk g h4).trans h5, h6⟩
theorem OwnB.mono {w : World} {base base' : Nat} {v : Value} {l : List (BitVec 8)} (h : OwnB w base v l) (hb : base' ≤ base) : OwnB w base' v l := by
  obtain ⟨h1, h2⟩ := h
  refine ⟨h1, ?_⟩
  rcases h2 with h2 | ⟨g, cap, cur, h3, h4, h5⟩
  · exact .inl h2
  · exact .inr ⟨g, cap, cur, h3, Nat.le_trans hb h4, h5⟩
theorem OwnB.shape {w : World} {base : Nat} {v : Value} {l : List (BitVec 8)} (h : OwnB w base v l) : ∃ oa cap, v = .slice oa l.length cap ∧ l.length ≤ cap := by
  obtain ⟨oa, cap, h1, h2, _⟩ := ownsRow_shape h
  exact ⟨oa, cap, h1, h2⟩
theorem OwnB.alloc {w : World} {base : Nat} {v : Value} {l : List (BitVec 8)} (h : OwnB w base v l) (o : Obj) : OwnB (w.alloc o) base v l := World.ownsRow.alloc h _
theorem OwnB.drewN {w : World} {base : Nat} {v : Value} {l : List (BitVec 8)} (h : OwnB w base v l) (n : Nat) : OwnB (w.drewN n) base v l := h
theorem Bytes.drewN {w : World} {N : Nat} {v : Value} {l : List (BitVec 8)} (h : Bytes w N v l) (n : Nat) : Bytes (w.drewN n) N v l := h.below ⟨rfl, rfl, rfl, Nat.le_refl _, fun _ _ => rfl⟩

theorem wp_append_keep {o : Oper} {a : Act} {w : World} {K : Act → World → Prop} {Q : Exit → Act → World → Prop} (s x : Operand)
    (ho : o.op = .call { callee := .builtin .append, args := #[s, x], argTypes := #[23, 23] })
    (base : Nat) (v : Value) (m : List (BitVec 8)) (hs : a.eval s = v) (hown : OwnB w base v m) (sv : Value) (l : List (BitVec 8)) (hx : a.eval x = sv) {N : Nat} (hb : Bytes w N sv l)
    (hle : m.length + l.length ≤ 140737488355328) (hbase : base ≤ w.heap.size)
    (h : ∀ v' w', OwnB w' base v' (m ++ l) → Below base w w' → Keeps w w' → K (a.put o.dst v') w') : o.wp Try.prog a w K Q := by
  obtain ⟨i0, hi0, hz0, hz1, hz2⟩ := info_parts info_u8
  rcases bytes_source hb with ⟨rfl, rfl⟩ | ⟨ad, cap, rfl, hsrc⟩
  · have hrun := run_append_owned_none (P := Try.prog) (w := w) base 23 o.type 5 i0 1 Try.underlying23 hi0 v m.length (m.map V) hown
    unfold Oper.wp
    simp [execOp, ho, resolve, invoke, builtin, hs, hx, hrun, Result.andThen]
    exact h v w (by simpa using hown) (Below.refl _ _) (Keeps.refl _)
  · refine wp_append_own w s x 23 ho base 5 i0 (.int .u8 0) 1 1 Try.underlying23 hi0 hz0 hz1 hz2 rfl (by decide) v m.length (m.map V) hs hown ad l.length cap (l.map V) hx (by simp) hsrc
      (fun y hy => by obtain ⟨z, _, rfl⟩ := List.mem_map.1 hy; rfl) (by unfold maxLen; omega) (by omega) hbase ?_
    intro v' w' h1 h2 _
    refine h v' w' ?_ ((Below.refl base w).grown h2 hbase (fun k hk => (hown.lt k hk).1)) ?_
    · unfold OwnB
      rw [List.length_append, List.map_append]
      exact h1
    · intro k cs t fr hk ht
      refine h2.block k (Array.getElem?_eq_some_iff.1 hk).1 ?_
      intro he
      obtain ⟨_, h4⟩ := hown
      rcases h4 with ⟨rfl, _⟩ | ⟨g, c, cur, rfl, _, hg, _⟩
      · simp [Value.ownBlock] at he
      · obtain rfl : k = g := by simpa [Value.ownBlock] using he
        rw [hg] at hk
        simp at hk
        exact ht hk.2.1.symm
theorem wpList_append_keep {ops : Array Oper} {rest : List Oper} {o : Oper} {a : Act} {w : World} {Q : Exit → Act → World → Prop} (hgd : o.guard = none) (s x : Operand)
    (ho : o.op = .call { callee := .builtin .append, args := #[s, x], argTypes := #[23, 23] })
    (base : Nat) (v : Value) (m : List (BitVec 8)) (hs : a.eval s = v) (hown : OwnB w base v m) (sv : Value) (l : List (BitVec 8)) (hx : a.eval x = sv) {N : Nat} (hb : Bytes w N sv l)
    (hle : m.length + l.length ≤ 140737488355328) (hbase : base ≤ w.heap.size)
    (h : ∀ v' w', OwnB w' base v' (m ++ l) → Below base w w' → Keeps w w' → wpList Try.prog ops Q rest (a.put o.dst v') w') : wpList Try.prog ops Q (o :: rest) a w :=
  wpList_plain hgd fun _ hK => wp_append_keep s x ho base v m hs hown sv l hx hb hle hbase fun v' w' h1 h2 h3 => hK _ _ (h v' w' h1 h2 h3)
theorem step_append_keep {ops : Array Oper} {o : Oper} {a : Act} {w : World} {K : Act → World → Prop} {Q : Exit → Act → World → Prop} {E : Prop} (hgd : o.guard = none) (s x : Operand)
    (ho : o.op = .call { callee := .builtin .append, args := #[s, x], argTypes := #[23, 23] })
    (base : Nat) (v : Value) (m : List (BitVec 8)) (hs : a.eval s = v) (hown : OwnB w base v m) (sv : Value) (l : List (BitVec 8)) (hx : a.eval x = sv) {N : Nat} (hb : Bytes w N sv l)
    (hle : m.length + l.length ≤ 140737488355328) (hbase : base ≤ w.heap.size)
    (h : ∀ v' w', OwnB w' base v' (m ++ l) → Below base w w' → Keeps w w' → K (a.put o.dst v') w') : if Region.wanted o (yielded ops a.tmps) = true then Oper.wp Try.prog o a w K Q else E := by
  have hw : Region.wanted o (yielded ops a.tmps) = true := by simp [Region.wanted, hgd]
  rw [if_pos hw]
  exact wp_append_keep s x ho base v m hs hown sv l hx hb hle hbase h
/-- append of one letter, in a row of its own, onto what is owned -/
theorem wpList_append_one {ops : Array Oper} {rest : List Oper} {o : Oper} {a : Act} {wr : World} {Q : Exit → Act → World → Prop} (hgd : o.guard = none) (s x : Operand)
    (ho : o.op = .call { callee := .builtin .append, args := #[s, x], argTypes := #[23, 23] })
    (base : Nat) (v : Value) (m : List (BitVec 8)) (hs : a.eval s = v) (hown : OwnB wr base v m) (y : Int) (b : BitVec 8) (hy : y = b8 b) (hx : a.eval x = .slice (some ⟨wr.heap.size, 0, none⟩) 1 1)
    (hl : m.length ≤ 140737488355000) (hbase : base ≤ wr.heap.size)
    (h : ∀ v' w', OwnB w' base v' (m ++ [b]) → Below base wr w' → Keeps wr w' → wpList Try.prog ops Q rest (a.put o.dst v') w') : wpList Try.prog ops Q (o :: rest) a (wr.alloc (.cells #[.int .u8 y] 5)) := by
  subst hy
  have hsz : (wr.alloc (.cells #[.int .u8 (b8 b)] 5)).heap.size = wr.heap.size + 1 := by simp
  have hb := bytes_new wr [b] 5 (0, 0) 1 (by simp)
  refine wpList_append_keep hgd s x ho base v m hs (OwnB.alloc hown _) _ [b] hx hb (by simp; omega) (by omega) ?_
  intro v' w' h1 h2 h3
  exact h v' w' h1 (((Below.refl base wr).alloc hbase _).trans h2) ((Keeps.alloc _ _).trans h3)
end Go.Proofs.Ythogidagokdipab
