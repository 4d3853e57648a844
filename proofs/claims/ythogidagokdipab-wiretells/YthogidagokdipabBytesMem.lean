/-
  Bytes behind a slice value; what a call owns reads as bytes; what is appended onto it. No function of the program is named here.
-/
import Derived.Test.YthogidagokdipabProg
import Derived.Test.YthogidagokdipabShaMem
import Derived.Below
import Derived.Laws.AppendOwnNone
namespace Go.Proofs.Ythogidagokdipab
open Go.RowKit

/-- sv is a slice that reads as l, nil, empty or neither; its cells lie below block number N -/
def Bytes (w : World) (N : Nat) (sv : Value) (l : List (BitVec 8)) : Prop :=
  (sv = .slice none 0 0 ∧ l = []) ∨ (∃ a cap, sv = .slice (some a) 0 cap ∧ l = []) ∨ ∃ b off cap, sv = .slice (some ⟨b, off, none⟩) l.length cap ∧ l.length ≤ cap ∧ ∀ i, i < l.length → b < N ∧ w.cell? ⟨b, off + i, none⟩ = some (.int .u8 (b8 (l.getD i 0)))
theorem Bytes.grown {w w' : World} {N B : Nat} {sv : Value} {l : List (BitVec 8)} (h : Bytes w N sv l) (hg : w.grownBy w' (some B)) (hN : N ≤ B) (hw : N ≤ w.heap.size) : Bytes w' N sv l := by
  rcases h with h | h | ⟨b, off, cap, h1, h2, h3⟩
  · exact .inl h
  · exact .inr (.inl h)
  · refine .inr (.inr ⟨b, off, cap, h1, h2, fun i hi => ⟨(h3 i hi).1, ?_⟩⟩)
    have := (h3 i hi).1
    rw [← (h3 i hi).2]
    exact World.cell?_of_block (hg.block b (by omega) (by simp; omega))
theorem Bytes.below {w w' : World} {N : Nat} {sv : Value} {l : List (BitVec 8)} (h : Bytes w N sv l) (hg : Below N w w') : Bytes w' N sv l := by
  rcases h with h | h | ⟨b, off, cap, h1, h2, h3⟩
  · exact .inl h
  · exact .inr (.inl h)
  · refine .inr (.inr ⟨b, off, cap, h1, h2, fun i hi => ⟨(h3 i hi).1, ?_⟩⟩)
    rw [← (h3 i hi).2]
    exact hg.cell (h3 i hi).1
theorem Bytes.mono {w : World} {N M : Nat} {sv : Value} {l : List (BitVec 8)} (h : Bytes w N sv l) (hN : N ≤ M) : Bytes w M sv l := by
  rcases h with h | h | ⟨b, off, cap, h1, h2, h3⟩
  · exact .inl h
  · exact .inr (.inl h)
  · exact .inr (.inr ⟨b, off, cap, h1, h2, fun i hi => ⟨Nat.lt_of_lt_of_le (h3 i hi).1 hN, (h3 i hi).2⟩⟩)
/-- what is left behind the first n -/
theorem Bytes.tail {w : World} {N : Nat} {l : List (BitVec 8)} (b off cap n : Nat) (hn : n ≤ l.length) (hc : l.length ≤ cap)
    (h : ∀ i, i < l.length → b < N ∧ w.cell? ⟨b, off + i, none⟩ = some (.int .u8 (b8 (l.getD i 0)))) :
    Bytes w N (.slice (some ⟨b, off + n, none⟩) (l.length - n) (cap - n)) (l.drop n) := by
  refine .inr (.inr ⟨b, off + n, cap - n, by simp, by simp; omega, fun i hi => ?_⟩)
  simp at hi
  have := h (n + i) (by omega)
  refine ⟨this.1, ?_⟩
  rw [Nat.add_assoc, this.2]
  simp
theorem Bytes.none_left {w : World} {N : Nat} {l : List (BitVec 8)} (a : Addr) (cap n : Nat) (hn : l.length = n) : Bytes w N (.slice (some a) (l.length - n) (cap - n)) (l.drop n) := by
  subst hn
  exact .inr (.inl ⟨a, _, by rw [Nat.sub_self], by simp⟩)

theorem Bytes.shape {w : World} {N : Nat} {sv : Value} {l : List (BitVec 8)} (h : Bytes w N sv l) : ∃ oa cap, sv = .slice oa l.length cap ∧ l.length ≤ cap := by
  rcases h with ⟨rfl, rfl⟩ | ⟨a, cap, rfl, rfl⟩ | ⟨b, off, cap, rfl, hc, _⟩
  · exact ⟨none, 0, rfl, Nat.le_refl _⟩
  · exact ⟨_, cap, rfl, Nat.zero_le _⟩
  · exact ⟨_, cap, rfl, hc⟩
theorem Bytes.some {w : World} {N : Nat} {oa : Option Addr} {cap : Nat} {l : List (BitVec 8)} (h : Bytes w N (.slice oa l.length cap) l) (hl : 0 < l.length) :
    ∃ b off, oa = some ⟨b, off, none⟩ ∧ ∀ i, i < l.length → b < N ∧ w.cell? ⟨b, off + i, none⟩ = some (.int .u8 (b8 (l.getD i 0))) := by
  rcases h with ⟨_, rfl⟩ | ⟨_, _, _, rfl⟩ | ⟨b, off, c, h1, _, h3⟩
  · simp at hl
  · simp at hl
  · simp at h1
    exact ⟨b, off, h1.1, h3⟩
/-- how long a slice value is -/
def lenOf : Value → Nat
  | .slice _ n _ => n
  | _ => 0
/-- what a call owns reads as bytes -/
theorem ownsRow_bytes {w : World} {base n : Nat} {v : Value} {l : List (BitVec 8)} (h : w.ownsRow base 5 1 v n (l.map V)) : Bytes w w.heap.size v l := by
  obtain ⟨h1, h2⟩ := h
  have hl : l.length = n := by simpa using h1
  subst hl
  rcases h2 with ⟨rfl, h3⟩ | ⟨g, cap, cur, rfl, _, hg, hn, _, hc, hx⟩
  · exact .inl ⟨rfl, List.length_eq_zero_iff.1 h3⟩
  · refine .inr (.inr ⟨g, 0, cap, rfl, hn, fun i hi => ⟨(Array.getElem?_eq_some_iff.1 hg).1, ?_⟩⟩)
    rw [Nat.zero_add, cell_of_row w g i cur _ _ hg]
    have h4 : (cur.toList.take (l.length * 1))[i]? = (l.map V)[i]? := by rw [hx]
    rw [Nat.mul_one, List.getElem?_take, if_pos hi] at h4
    rw [← Array.getElem?_toList, h4, List.getElem?_map, getD_some l i 0 hi]
    rfl
/-- a slice that reads as l, as a source of cells -/
theorem bytes_source {w : World} {N : Nat} {x : Value} {l : List (BitVec 8)} (h : Bytes w N x l) :
    (x = .slice none 0 0 ∧ l = []) ∨ ∃ ad cap, x = .slice (some ad) l.length cap ∧ ∀ j v, (l.map V)[j]? = some v → w.cell? (ad.add j) = some v := by
  rcases h with h | ⟨a, cap, rfl, rfl⟩ | ⟨b, off, cap, rfl, _, hc⟩
  · exact .inl h
  · exact .inr ⟨a, cap, rfl, fun j v hv => by simp at hv⟩
  · refine .inr ⟨_, cap, rfl, fun j v hv => ?_⟩
    have hj : j < l.length := by have := (List.getElem?_eq_some_iff.1 hv).1; simpa using this
    have hadd : (⟨b, off, none⟩ : Addr).add j = ⟨b, off + j, none⟩ := by unfold Addr.add; split <;> simp_all
    rw [hadd, (hc j hj).2, ← hv, List.getElem?_map, getD_some l j 0 hj]
    rfl

theorem ownsRow_shape {w : World} {base e n : Nat} {v : Value} {xs : List Value} (h : w.ownsRow base e 1 v n xs) : ∃ oa cap, v = .slice oa n cap ∧ n ≤ cap ∧
    (0 < n → ∃ g, oa = some ⟨g, 0, none⟩ ∧ base ≤ g ∧ g < w.heap.size ∧ ∀ j, j < n → w.cell? ⟨g, j, none⟩ = xs[j]? ∧ w.frozen? ⟨g, j, none⟩ = false) := by
  obtain ⟨h1, h2⟩ := h
  rcases h2 with ⟨rfl, rfl⟩ | ⟨g, cap, cur, rfl, hb, hg, hc, _, hs, hx⟩
  · exact ⟨none, 0, rfl, Nat.le_refl _, fun h => absurd h (by omega)⟩
  · refine ⟨_, cap, rfl, hc, fun _ => ⟨g, rfl, hb, (Array.getElem?_eq_some_iff.1 hg).1, fun j hj => ⟨?_, frozen_of_row w g j cur e hg⟩⟩⟩
    rw [cell_of_row w g j cur _ _ hg, ← hx, Nat.mul_one, List.getElem?_take, if_pos hj, Array.getElem?_toList]
/-- bytes in a new block, of whatever frozen range -/
theorem bytes_new (w : World) (l : List (BitVec 8)) (t : TypeId) (fr : Nat × Nat) (cap : Nat) (hc : l.length ≤ cap) : Bytes (w.alloc (.cells (l.map V).toArray t fr)) (w.heap.size + 1) (.slice (some ⟨w.heap.size, 0, none⟩) l.length cap) l := by
  refine .inr (.inr ⟨w.heap.size, 0, cap, rfl, hc, fun i hi => ⟨by omega, ?_⟩⟩)
  rw [cell_of_row _ _ _ _ _ _ (heap_alloc_new w _), Nat.zero_add]
  simp only [List.getElem?_toArray, List.getElem?_map]
  rw [getD_some l i 0 hi]
  rfl
theorem info_u8 : (Try.prog.info? 5).map (fun i => (i.zero, i.size, i.bytes)) = some (some (.int .u8 0), 1, 1) := by kernel_rfl
/-- append of what a slice reads as, nil or not, onto what the call owns -/
theorem wpList_append_bytes {ops : Array Oper} {rest : List Oper} {o : Oper} {a : Act} {w : World} {Q : Exit → Act → World → Prop} (hgd : o.guard = none) (s x : Operand)
    (ho : o.op = .call { callee := .builtin .append, args := #[s, x], argTypes := #[23, 23] })
    (base : Nat) (v : Value) (n : Nat) (xs : List Value) (hs : a.eval s = v) (hown : w.ownsRow base 5 1 v n xs) (sv : Value) (l : List (BitVec 8)) (hx : a.eval x = sv) {N : Nat} (hb : Bytes w N sv l)
    (hle : n + l.length ≤ 140737488355328) (hbase : base ≤ w.heap.size)
    (h : ∀ v' w', w'.ownsRow base 5 1 v' (n + l.length) (xs ++ l.map V) → Below base w w' → wpList Try.prog ops Q rest (a.put o.dst v') w') : wpList Try.prog ops Q (o :: rest) a w := by
  obtain ⟨i0, hi0, hz0, hz1, hz2⟩ := info_parts info_u8
  rcases bytes_source hb with ⟨rfl, rfl⟩ | ⟨ad, cap, rfl, hsrc⟩
  · refine wpList_append_own_none hgd s x 23 ho base 5 i0 1 Try.underlying23 hi0 v n xs hs hown hx ?_
    exact h v w (by simpa using hown) (Below.refl _ _)
  · refine wpList_append_own w hgd s x 23 ho base 5 i0 (.int .u8 0) 1 1 Try.underlying23 hi0 hz0 hz1 hz2 rfl (by decide) v n xs hs hown ad l.length cap (l.map V) hx (by simp) hsrc
      (fun y hy => by obtain ⟨z, _, rfl⟩ := List.mem_map.1 hy; rfl) (by unfold maxLen; omega) (by omega) hbase ?_
    intro v' w' h1 h2 _
    exact h v' w' h1 ((Below.refl base w).grown h2 hbase (fun k hk => (hown.lt k hk).1))
end Go.Proofs.Ythogidagokdipab
