/-
  Laws for append where what comes out may pass 2^47 bytes a little: how long it is, that nothing else was turned, and, where it does not pass, what it reads as.
-/
import Derived.Test.YthogidagokdipabAppendKeep
namespace Go.Proofs.Ythogidagokdipab
open Go.RowKit

theorem cap_more {need old : Nat} (h : old < need) (hn : need ≤ 150000000000000) : Builtin.nextslicecap need old * 1 ≤ 281474976710656 := by
  unfold Builtin.nextslicecap
  split
  · omega
  · split
    · omega
    · rw [growBy_four]
      repeat' split
      all_goals omega
theorem below_row {w : World} {base g : Nat} (h : base ≤ g) (c : Array Value) : Below base w (w.setRow g c) :=
  ⟨rfl, rfl, rfl, by simp, fun k hk => setRow_other w g k _ (by omega)⟩
theorem wp_append_over {o : Oper} {a : Act} {w : World} {K : Act → World → Prop} {Q : Exit → Act → World → Prop} (s x : Operand)
    (ho : o.op = .call { callee := .builtin .append, args := #[s, x], argTypes := #[23, 23] })
    (base : Nat) (v : Value) (m : List (BitVec 8)) (hs : a.eval s = v) (hown : OwnB w base v m) (sv : Value) (l : List (BitVec 8)) (hx : a.eval x = sv) {N : Nat} (hb : Bytes w N sv l)
    (hn : m.length ≤ 1000000) (hl : l.length ≤ 140737488355328) (hbase : base ≤ w.heap.size)
    (h : ∀ oa cap w', Below base w w' → Keeps w w' → (m.length + l.length ≤ 140737488355328 → OwnB w' base (.slice oa (m.length + l.length) cap) (m ++ l)) → K (a.put o.dst (.slice oa (m.length + l.length) cap)) w') : o.wp Try.prog a w K Q := by
  by_cases hsm : m.length + l.length ≤ 140737488355328
  · refine wp_append_keep s x ho base v m hs hown sv l hx hb hsm hbase ?_
    intro v' w' h1 h2 h3
    obtain ⟨oa, cap, rfl, hc⟩ := h1.shape
    rw [List.length_append] at h1 ⊢
    exact h oa cap w' h2 h3 (fun _ => h1)
  · obtain ⟨i0, hi0, hz0, hz1, hz2⟩ := info_parts info_u8
    rcases bytes_source hb with ⟨rfl, rfl⟩ | ⟨ad, cap, rfl, hsrc⟩
    · exact absurd (show m.length + 0 ≤ 140737488355328 by omega) hsm
    · have hown' := hown
      obtain ⟨hxl, h2⟩ := hown'
      rcases h2 with ⟨rfl, h0⟩ | ⟨g, c, cur, rfl, hbg, hg, hnc, hcm, hcs, htake⟩
      · exact absurd (show m.length + l.length ≤ 140737488355328 by omega) hsm
      · have hlm : (l.map V).length = l.length * i0.size := by rw [hz1]; simp
        have h1 : ∀ u ∈ l.map V, u.oneCell' = true := fun y hy => by obtain ⟨z, _, rfl⟩ := List.mem_map.1 hy; rfl
        by_cases hroom : m.length + l.length ≤ c
        · have hrun := run_append_room (P := Try.prog) w 23 o.type 5 i0 Try.underlying23 hi0 g m.length c cur hg ad l.length cap (l.map V) hlm hsrc h1 hroom (by rw [hz1, hcs]; simp; omega)
          unfold Oper.wp execOp
          simp only [ho, resolve, invoke, builtin, Sem.run_bind, Sem.run_pure, Result.andThen_ok, List.map_toArray, List.map_cons, List.map_nil, hs, hx, hrun]
          refine h _ _ _ (below_row hbg _) (fun k cs t fr hk ht => setRow_other w g k _ ?_) (fun h => absurd h hsm)
          rintro rfl
          rw [hg] at hk
          simp at hk
          exact ht hk.2.1.symm
        · have hrun := run_append_grow (P := Try.prog) w 23 o.type 5 i0 (.int .u8 0) Try.underlying23 hi0 hz0 ⟨g, 0, none⟩ m.length c (m.map V) (by rw [hz1]; exact hxl) (World.ownsRow.cells hown (g := g) rfl) ad l.length cap (l.map V) hlm hsrc (by omega) (by omega) (by rw [hz2]; exact cap_more (by omega) (by omega))
          unfold Oper.wp execOp
          simp only [ho, resolve, invoke, builtin, Sem.run_bind, Sem.run_pure, Result.andThen_ok, List.map_toArray, List.map_cons, List.map_nil, hs, hx, hrun]
          refine h _ _ _ ?_ ?_ (fun h => absurd h hsm)
          · exact ⟨rfl, rfl, rfl, by simp, fun k hk => Below.heap_alloc w.drew _ k (by show k < w.heap.size; omega)⟩
          · exact fun k _ _ _ hk _ => Below.heap_alloc w.drew _ k (Array.getElem?_eq_some_iff.1 hk).1
theorem step_append_over {ops : Array Oper} {o : Oper} {a : Act} {w : World} {K : Act → World → Prop} {Q : Exit → Act → World → Prop} {E : Prop} (hgd : o.guard = none) (s x : Operand)
    (ho : o.op = .call { callee := .builtin .append, args := #[s, x], argTypes := #[23, 23] })
    (base : Nat) (v : Value) (m : List (BitVec 8)) (hs : a.eval s = v) (hown : OwnB w base v m) (sv : Value) (l : List (BitVec 8)) (hx : a.eval x = sv) {N : Nat} (hb : Bytes w N sv l)
    (hn : m.length ≤ 1000000) (hl : l.length ≤ 140737488355328) (hbase : base ≤ w.heap.size)
    (h : ∀ oa cap w', Below base w w' → Keeps w w' → (m.length + l.length ≤ 140737488355328 → OwnB w' base (.slice oa (m.length + l.length) cap) (m ++ l)) → K (a.put o.dst (.slice oa (m.length + l.length) cap)) w') :
    if Region.wanted o (yielded ops a.tmps) = true then Oper.wp Try.prog o a w K Q else E := by
  have hw : Region.wanted o (yielded ops a.tmps) = true := by simp [Region.wanted, hgd]
  rw [if_pos hw]
  exact wp_append_over s x ho base v m hs hown sv l hx hb hn hl hbase h
end Go.Proofs.Ythogidagokdipab
