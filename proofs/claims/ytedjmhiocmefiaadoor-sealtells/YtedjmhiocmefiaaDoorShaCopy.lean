/-
  Bytes behind a slice value; what copy and clear do to the rest of a digest in the making.
-/
import Derived.Test.YtedjmhiocmefiaaDoorShaBegin
namespace Go.Proofs.YtedjmhiocmefiaaDoor
open Go.RowKit

/-- sv is a slice that reads as l, nil, empty or neither; its cells lie below block number N -/
def Bytes (w : World) (N : Nat) (sv : Value) (l : List (BitVec 8)) : Prop :=
  (sv = .slice none 0 0 ∧ l = []) ∨ (∃ a cap, sv = .slice (some a) 0 cap ∧ l = []) ∨ ∃ b off cap, sv = .slice (some ⟨b, off, none⟩) l.length cap ∧ l.length ≤ cap ∧ ∀ i, i < l.length → b < N ∧ w.cell? ⟨b, off + i, none⟩ = some (.int .u8 (b8 (l.getD i 0)))
theorem Bytes.grown {w w' : World} {N B : Nat} {sv : Value} {l : List (BitVec 8)} (h : Bytes w N sv l) (hg : w.grownBy w' (some B)) (hN : N ≤ B) (hw : N ≤ w.heap.size) : Bytes w' N sv l := by
  rcases h with h | h | ⟨b, off, cap, h1, h2, h3⟩
  · exact .inl h
  · exact .inr (.inl h)
  · refine .inr (.inr ⟨b, off, cap, h1, h2, fun i hi => ⟨(h3 i hi).1, ?_⟩⟩)
    have := (h3 i hi).1
    rw [← (h3 i hi).2]
    exact World.cell?_of_block (hg.block b (by omega) (by simp; omega))
theorem Bytes.below {w w' : World} {N : Nat} {sv : Value} {l : List (BitVec 8)} (h : Bytes w N sv l) (hg : Below N w w') : Bytes w' N sv l := by
  rcases h with h | h | ⟨b, off, cap, h1, h2, h3⟩
  · exact .inl h
  · exact .inr (.inl h)
  · refine .inr (.inr ⟨b, off, cap, h1, h2, fun i hi => ⟨(h3 i hi).1, ?_⟩⟩)
    rw [← (h3 i hi).2]
    exact hg.cell (h3 i hi).1
theorem Bytes.mono {w : World} {N M : Nat} {sv : Value} {l : List (BitVec 8)} (h : Bytes w N sv l) (hN : N ≤ M) : Bytes w M sv l := by
  rcases h with h | h | ⟨b, off, cap, h1, h2, h3⟩
  · exact .inl h
  · exact .inr (.inl h)
  · exact .inr (.inr ⟨b, off, cap, h1, h2, fun i hi => ⟨Nat.lt_of_lt_of_le (h3 i hi).1 hN, (h3 i hi).2⟩⟩)
/-- what is left behind the first n -/
theorem Bytes.tail {w : World} {N : Nat} {l : List (BitVec 8)} (b off cap n : Nat) (hn : n ≤ l.length) (hc : l.length ≤ cap)
    (h : ∀ i, i < l.length → b < N ∧ w.cell? ⟨b, off + i, none⟩ = some (.int .u8 (b8 (l.getD i 0)))) :
    Bytes w N (.slice (some ⟨b, off + n, none⟩) (l.length - n) (cap - n)) (l.drop n) := by
  refine .inr (.inr ⟨b, off + n, cap - n, by simp, by simp; omega, fun i hi => ?_⟩)
  simp at hi
  have := h (n + i) (by omega)
  refine ⟨this.1, ?_⟩
  rw [Nat.add_assoc, this.2]
  simp
theorem Bytes.none_left {w : World} {N : Nat} {l : List (BitVec 8)} (a : Addr) (cap n : Nat) (hn : l.length = n) : Bytes w N (.slice (some a) (l.length - n) (cap - n)) (l.drop n) := by
  subst hn
  exact .inr (.inl ⟨a, _, by rw [Nat.sub_self], by simp⟩)

/-- the walk's rule for the built-in copy, where its run is known -/
theorem wpList_copy {P : Program} {ops : Array Oper} {rest : List Oper} {o : Oper} {a : Act} {w w' : World} {Q : Exit → Act → World → Prop} (hgd : o.guard = none) (s x : Operand) (t t' : TypeId)
    (ho : o.op = .call { callee := .builtin .copy, args := #[s, x], argTypes := #[t, t'] }) (dv sv v : Value) (hs : a.eval s = dv) (hx : a.eval x = sv)
    (hr : (Builtin.copy_ #[t, t'] o.type #[dv, sv]).run P w = .ok v w') (h : wpList P ops Q rest (a.put o.dst v) w') : wpList P ops Q (o :: rest) a w :=
  wpList_plain hgd fun K hK => by
    unfold Oper.wp execOp
    simp only [ho, resolve, invoke, builtin, Sem.run_bind, Sem.run_pure, Result.andThen_ok, List.map_toArray, List.map_cons, List.map_nil, hs, hx, hr]
    exact hK _ _ h
theorem wpList_clear {P : Program} {ops : Array Oper} {rest : List Oper} {o : Oper} {a : Act} {w w' : World} {Q : Exit → Act → World → Prop} (hgd : o.guard = none) (s : Operand) (t : TypeId)
    (ho : o.op = .call { callee := .builtin .clear, args := #[s], argTypes := #[t] }) (dv v : Value) (hs : a.eval s = dv)
    (hr : (Builtin.clear_ #[t] o.type #[dv]).run P w = .ok v w') (h : wpList P ops Q rest (a.put o.dst v) w') : wpList P ops Q (o :: rest) a w :=
  wpList_plain hgd fun K hK => by
    unfold Oper.wp execOp
    simp only [ho, resolve, invoke, builtin, Sem.run_bind, Sem.run_pure, Result.andThen_ok, List.map_toArray, List.map_cons, List.map_nil, hs, hr]
    exact hK _ _ h

theorem grown_setRow (w : World) (g : Nat) (cs : Array Value) : w.grownBy (w.setRow g cs) (some g) :=
  ⟨rfl, rfl, rfl, by simp, fun j _ hne => setRow_other _ _ _ _ (fun e => hne (by rw [e]))⟩

/-- what copy does to the rest -/
theorem copy_rest (s : Oct) (R l : List (BitVec 8)) (h z i c N B : Nat) (ty : TypeId) (sv : Value) (w : World) (hB : Row w B 44 (dig s R h z)) (hR : R.length = 64) (hi : i ≤ 64) (hb : Bytes w N sv l) :
    ∃ w', (Builtin.copy_ #[22, 22] ty #[.slice (some ⟨B, 8 + i, none⟩) (64 - i) c, sv]).run Tryd.prog w = .ok (goInt ((min l.length (64 - i) : Nat) : Int)) w' ∧ w.grownBy w' (some B) ∧
      Row w' B 44 (dig s (R.take i ++ l.take (64 - i) ++ R.drop (i + min l.length (64 - i))) h z) := by
  have key : ∀ (a : Addr) (cap : Nat), sv = .slice (some a) l.length cap → (∀ j v, ((l.take (64 - i)).map V)[j]? = some v → w.cell? (a.add j) = some v) →
      ∃ w', (Builtin.copy_ #[22, 22] ty #[.slice (some ⟨B, 8 + i, none⟩) (64 - i) c, sv]).run Tryd.prog w = .ok (goInt ((min l.length (64 - i) : Nat) : Int)) w' ∧ w.grownBy w' (some B) ∧
        Row w' B 44 (dig s (R.take i ++ l.take (64 - i) ++ R.drop (i + min l.length (64 - i))) h z) := by
    rintro a cap rfl hsrc
    have hlen : ((l.take (64 - i)).map V).length = Nat.min l.length (64 - i) := by simp; exact Nat.min_comm _ _
    have hsz : (dig s R h z).toArray.size = 74 := by simp [dig_length, hR]
    have hr := run_copy_row Tryd.prog w 22 22 ty 5 B (8 + i) (64 - i) c a l.length cap (dig s R h z).toArray 44 ((l.take (64 - i)).map V)
      Tryd.underlying22 (by kernel_rfl) hB hlen hsrc
      (by rw [hsz, hlen]; have : Nat.min l.length (64 - i) ≤ 64 - i := Nat.min_le_right _ _; omega) (fun v hv => by obtain ⟨x, _, rfl⟩ := List.mem_map.1 hv; rfl)
    refine ⟨_, by rw [hr, hlen], grown_setRow _ _ _, ?_⟩
    unfold Row
    rw [setRow_heap w B _ _ 44 _ hB]
    have hl2 : (l.take (64 - i)).length = min l.length (64 - i) := by simp; exact Nat.min_comm _ _
    have hsp := dig_splice s R (l.take (64 - i)) h z i (by rw [hl2, hR]; omega)
    rw [hl2] at hsp
    have e : l.length.min (64 - i) = min l.length (64 - i) := rfl
    rw [e]
    exact congrArg (fun x : List Value => some (Obj.cells x.toArray 44 (0, 0))) hsp
  rcases hb with ⟨rfl, rfl⟩ | ⟨a, cap, rfl, rfl⟩ | ⟨b, off, cap, rfl, hc, hcells⟩
  · refine ⟨w, ?_, grown_refl _ _, ?_⟩
    · rw [run_copy_nil Tryd.prog w 22 22 ty 5 _ _ _ Tryd.underlying22 (by kernel_rfl)]
      simp
    · simpa using hB
  · exact key a cap rfl (fun j v hv => by simp at hv)
  · refine key ⟨b, off, none⟩ cap rfl (fun j v hv => ?_)
    have hadd : (⟨b, off, none⟩ : Addr).add j = ⟨b, off + j, none⟩ := by unfold Addr.add; split <;> simp_all
    have hjl : j < (l.take (64 - i)).length := by
      have := (List.getElem?_eq_some_iff.1 hv).1; simpa using this
    have hj : j < l.length := by simp at hjl; omega
    have hj2 : j < 64 - i := by simp at hjl; omega
    rw [hadd, (hcells j hj).2, ← hv]
    simp [hj2, V, hj]

/-- what clear does to the rest -/
theorem clear_rest (s : Oct) (R : List (BitVec 8)) (h z i c B : Nat) (w : World) (hB : Row w B 44 (dig s R h z)) (hR : R.length = 64) (hi : i < 64) :
    ∃ w', (∀ ty, (Builtin.clear_ #[22] ty #[.slice (some ⟨B, 8 + i, none⟩) (64 - i) c]).run Tryd.prog w = .ok (.tuple #[]) w') ∧ w.grownBy w' (some B) ∧
      Row w' B 44 (dig s (R.take i ++ List.replicate (64 - i) 0) h z) := by
  have hsz : (dig s R h z).toArray.size = 74 := by simp [dig_length, hR]
  have hst := run_storeCells_at Tryd.prog B (8 + i) 44 ((List.replicate (64 - i) (0 : BitVec 8)).map V) 0 (dig s R h z).toArray w hB (by rw [hsz]; simp; omega) (fun v hv => by obtain ⟨x, _, rfl⟩ := List.mem_map.1 hv; rfl)
  have hzv : (zeroValue 5).run Tryd.prog w = .ok (.int .u8 0) w := by kernel_rfl
  have hV : V (0 : BitVec 8) = Value.int .u8 0 := rfl
  have hzc : (Builtin.zeroCells #[Value.int .u8 0] (64 - i)).toList = (List.replicate (64 - i) (0 : BitVec 8)).map V := by
    rw [List.map_replicate, hV]
    simp [Builtin.zeroCells]
    apply List.ext_getElem
    · simp
    · intro i h1 h2
      simp [Nat.mod_one]
  simp only [Nat.add_zero] at hst
  refine ⟨w.setRow B (List.take (8 + i) (dig s R h z) ++ (List.replicate (64 - i) (0 : BitVec 8)).map V ++ List.drop (8 + i + (List.replicate (64 - i) (0 : BitVec 8)).length) (dig s R h z)).toArray, fun ty => ?_, grown_setRow w B _, ?_⟩
  · rw [← hzc] at hst
    have hlen : (List.replicate (64 - i) (0 : BitVec 8)).length = (Builtin.zeroCells #[Value.int .u8 0] (64 - i)).toList.length := by rw [hzc]; simp
    rw [hlen, ← hzc]
    obtain ⟨m, hm⟩ : ∃ m, 64 - i = m + 1 := ⟨63 - i, by omega⟩
    rw [hm] at hst ⊢
    simp only [Builtin.clear_, List.getElem?_toArray, List.getElem?_cons_zero, Sem.run_bind, run_underlying Tryd.underlying22, Result.andThen_ok, hzv, Value.cells, hst, Sem.run_pure]
  · unfold Row
    rw [setRow_heap w B _ _ 44 _ hB]
    have hsp := dig_splice s R (List.replicate (64 - i) (0 : BitVec 8)) h z i (by simp; omega)
    rw [hsp]
    have hd : R.drop (i + (List.replicate (64 - i) (0 : BitVec 8)).length) = [] := by
      apply List.drop_eq_nil_of_le; simp; omega
    rw [hd, List.append_nil]
end Go.Proofs.YtedjmhiocmefiaaDoor
