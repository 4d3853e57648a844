/-
  Rows of records of one type that a call owns: appended to, inserted into, deleted from. (Made by rec/mkrec.py.)
-/
import Derived.Test.YtooemgkjkngpcaaDoorHdMems
import Derived.Test.YtooemgkjkngpcaaDoorMemB
namespace Go.Proofs.YtooemgkjkngpcaaDoor
open Go.RowKit

theorem infoCh : (Tryd.prog.info? 40).map (fun i => (i.zero, i.size, i.bytes)) = some (some (.agg #[.int .i64 0, .bool false, .int .i64 0, .int .i64 0, .int .i64 0, .int .i64 0, .int .i64 0]), 7, 56) := by kernel_rfl
theorem elemCh : Tryd.prog.underlying 24 = some (.slice (Tryd.prog.elem 24)) := by kernel_rfl
theorem sizeCh (w : World) : (sizeOf (Tryd.prog.elem 24)).run Tryd.prog w = .ok 7 w := by kernel_rfl
/-- so many cells, each of them one -/
def okCh (r : List Value) : Prop := r.length = 7 ∧ ∀ x ∈ r, x.oneCell' = true
/-- a row that a call owns -/
def RowCh (w : World) (base : Nat) (v : Value) (rs : List (List Value)) : Prop := (∀ r ∈ rs, okCh r) ∧ w.ownsRow base 40 7 v rs.length rs.flatten
theorem RowCh.nil (w : World) (base : Nat) : RowCh w base (.slice none 0 0) [] := ⟨fun _ h => (by cases h), World.ownsRow_nil w base 40 7⟩
theorem RowCh.shape {w : World} {base : Nat} {v : Value} {rs : List (List Value)} (h : RowCh w base v rs) : ∃ oa cap, v = .slice oa rs.length cap ∧ rs.length ≤ cap := by
  obtain ⟨_, _, h2⟩ := h
  rcases h2 with ⟨h3, h4⟩ | ⟨g, cap, cur, h3, _, _, h4, _⟩
  · exact ⟨none, 0, by rw [h4]; exact h3, by omega⟩
  · exact ⟨_, cap, h3, h4⟩
theorem RowCh.below {w w' : World} {base : Nat} {v : Value} {rs : List (List Value)} (h : RowCh w base v rs) (hg : Below w.heap.size w w') : RowCh w' base v rs := ⟨h.1, ownsRow_belowR h.2 hg⟩
theorem RowCh.mono {w : World} {base base' : Nat} {v : Value} {rs : List (List Value)} (h : RowCh w base v rs) (hb : base' ≤ base) : RowCh w base' v rs := by
  obtain ⟨h0, h1, h2⟩ := h
  refine ⟨h0, h1, ?_⟩
  rcases h2 with h2 | ⟨g, cap, cur, h3, h4, h5⟩
  · exact .inl h2
  · exact .inr ⟨g, cap, cur, h3, Nat.le_trans hb h4, h5⟩
theorem RowCh.recs {w : World} {base : Nat} {v : Value} {rs : List (List Value)} (h : RowCh w base v rs) : Recs w w.heap.size v 7 rs := ownsRow_recs h.2 (fun r hr => (h.1 r hr).1)
theorem flatCh_len {rs : List (List Value)} (h : ∀ r ∈ rs, okCh r) : rs.flatten.length = rs.length * 7 := flat_lenR rs (fun r hr => (h r hr).1)
theorem RowCh.row {w : World} {base : Nat} {v : Value} {rs : List (List Value)} (h : RowCh w base v rs) (h0 : 0 < rs.length) : ∃ g c cs, v = .slice (some ⟨g, 0, none⟩) rs.length c ∧ base ≤ g ∧ Row w g 40 cs ∧ rs.length ≤ c ∧ c ≤ maxLen ∧ cs.length = c * 7 ∧ cs.take (rs.length * 7) = rs.flatten := by
  obtain ⟨_, h1, h2⟩ := h
  rcases h2 with ⟨_, h3⟩ | ⟨g, c, cur, h3, h4, h5, h6, h7, h8, h9⟩
  · omega
  · exact ⟨g, c, cur.toList, h3, h4, h5, h6, h7, by simpa using h8, h9⟩
theorem RowCh.of_row {w : World} {base g n c : Nat} {cs : List Value} {rs : List (List Value)} (hok : ∀ r ∈ rs, okCh r) (hb : base ≤ g) (hr : Row w g 40 cs) (hn : n = rs.length) (hc : n ≤ c) (hm : c ≤ maxLen) (hl : cs.length = c * 7) (ht : cs.take (n * 7) = rs.flatten) : RowCh w base (.slice (some ⟨g, 0, none⟩) n c) rs := by
  subst hn
  exact ⟨hok, flatCh_len hok, .inr ⟨g, c, cs.toArray, rfl, hb, hr, hc, hm, by simpa using hl, ht⟩⟩
theorem flatCh_one {rs : List (List Value)} (h : ∀ r ∈ rs, okCh r) : ∀ u ∈ rs.flatten, u.oneCell' = true := by
  intro u hu
  obtain ⟨r, hr, hu⟩ := List.mem_flatten.1 hu
  exact (h r hr).2 u hu
theorem RowCh.below_of {w w' : World} {base : Nat} {v : Value} {rs : List (List Value)} (h : RowCh w base v rs) (hb : base ≤ w.heap.size) (hg : w.grownBy w' v.ownBlock) : Below base w w' :=
  (Below.refl base w).grown hg hb (fun k hk => (World.ownsRow.lt h.2 k hk).1)
/-- a row of another type is another block -/
theorem RowCh.apart {w : World} {base g : Nat} {v : Value} {rs : List (List Value)} {t : TypeId} {cs : List Value} (h : RowCh w base v rs) (hr : Row w g t cs) (ht : t ≠ 40) : some g ≠ v.ownBlock := by
  intro he
  rcases h.2.2 with ⟨rfl, _⟩ | ⟨g', c', cur', rfl, _, h8, _⟩
  · simp [Value.ownBlock] at he
  · obtain rfl : g = g' := by simpa [Value.ownBlock] using he
    unfold Row at hr
    rw [hr] at h8
    simp at h8
    exact ht h8.2
/-- what is owned, of another type, outlives what is done with the row -/
theorem RowCh.past {w w' : World} {base b e k n : Nat} {v rv : Value} {xs : List Value} {rs : List (List Value)} (hr : RowCh w base rv rs) (he : e ≠ 40) (h : w.ownsRow b e k v n xs) (hg : w.grownBy w' rv.ownBlock) : w'.ownsRow b e k v n xs := by
  obtain ⟨h1, h2⟩ := h
  refine ⟨h1, ?_⟩
  rcases h2 with h2 | ⟨g, cap, cur, h3, h4, h5, h6⟩
  · exact .inl h2
  · refine .inr ⟨g, cap, cur, h3, h4, (hg.block g (Array.getElem?_eq_some_iff.1 h5).1 ?_).trans h5, h6⟩
    intro hq
    rcases hr.2.2 with ⟨rfl, _⟩ | ⟨g', c', cur', rfl, _, h8, _⟩
    · simp [Value.ownBlock] at hq
    · obtain rfl : g = g' := by simpa [Value.ownBlock] using hq
      rw [h5] at h8
      simp at h8
      exact he h8.2
theorem rowCh_none {W : World} {base g : Nat} (hg : W.heap[g]? = some (.cells #[] 40 (0, 0))) (hb : base ≤ g) : RowCh W base (.slice (some ⟨g, 0, none⟩) 0 0) [] :=
  ⟨fun _ h => (by cases h), rfl, .inr ⟨g, 0, #[], rfl, hb, hg, Nat.le_refl _, by simp [maxLen], rfl, rfl⟩⟩
/-- one record in a block of its own -/
theorem oneCh {W : World} {g : Nat} {r : List Value} (h : Row W g 40 r) : Recs W (g + 1) (.slice (some ⟨g, 0, none⟩) 1 1) 7 [r] := by
  refine .inr (.inr ⟨g, 0, 1, rfl, Nat.le_refl _, fun i r' hr => ?_⟩)
  have hi : i = 0 := by have := (List.getElem?_eq_some_iff.1 hr).1; simp at this; exact this
  subst hi
  obtain rfl : r = r' := by simpa using hr
  refine ⟨by omega, fun j x hx => ?_⟩
  rw [h.cell, show 0 + 0 * 7 + j = j by omega]
  exact hx
theorem wp_appendCh {o : Oper} {a : Act} {W : World} {K : Act → World → Prop} {Q : Exit → Act → World → Prop} (s x : Operand)
    (ho : o.op = .call { callee := .builtin .append, args := #[s, x], argTypes := #[24, 24] })
    (base : Nat) (v : Value) (rs : List (List Value)) (hs : a.eval s = v) (hown : RowCh W base v rs) (sv : Value) (qs : List (List Value)) {M : Nat} (hx : a.eval x = sv) (hsrc : Recs W M sv 7 qs)
    (hok : ∀ r ∈ qs, okCh r) (hl : rs.length + qs.length ≤ 1000000) (hbase : base ≤ W.heap.size)
    (h : ∀ v' w', RowCh w' base v' (rs ++ qs) → Below base W w' → W.grownBy w' v.ownBlock → K (a.put o.dst v') w') : o.wp Tryd.prog a W K Q := by
  obtain ⟨i0, hi0, hz0, hz1, hz2⟩ := info_parts infoCh
  rcases hsrc.source (fun r hr => (hok r hr).1) (by omega) with ⟨rfl, rfl⟩ | ⟨ad, cap, rfl, hcs⟩
  · have hrun := run_append_owned_none (P := Tryd.prog) (w := W) base 24 o.type 40 i0 7 Tryd.underlying24 hi0 v rs.length rs.flatten hown.2
    unfold Oper.wp
    simp [execOp, ho, resolve, invoke, builtin, hs, hx, hrun, Result.andThen]
    exact h v W (by simpa using hown) (Below.refl _ _) (grown_refl _ _)
  · refine wp_append_own W s x 24 ho base 40 i0 _ 7 56 Tryd.underlying24 hi0 hz0 hz1 hz2 rfl (by decide) v rs.length rs.flatten hs hown.2 ad qs.length cap qs.flatten hx (flatCh_len hok) hcs (flatCh_one hok) (by unfold maxLen; omega) (by omega) hbase ?_
    intro v' w' h1 h2 _
    refine h v' w' ⟨fun r hr => ?_, ?_⟩ ((Below.refl base W).grown h2 hbase (fun k hk => (World.ownsRow.lt hown.2 k hk).1)) h2
    · rcases List.mem_append.1 hr with hr | hr
      · exact hown.1 r hr
      · exact hok r hr
    · rw [List.length_append, List.flatten_append]
      exact h1
theorem wpList_appendCh {ops : Array Oper} {rest : List Oper} {o : Oper} {a : Act} {W : World} {Q : Exit → Act → World → Prop} (hgd : o.guard = none) (s x : Operand)
    (ho : o.op = .call { callee := .builtin .append, args := #[s, x], argTypes := #[24, 24] })
    (base : Nat) (v : Value) (rs : List (List Value)) (hs : a.eval s = v) (hown : RowCh W base v rs) (sv : Value) (qs : List (List Value)) {M : Nat} (hx : a.eval x = sv) (hsrc : Recs W M sv 7 qs)
    (hok : ∀ r ∈ qs, okCh r) (hl : rs.length + qs.length ≤ 1000000) (hbase : base ≤ W.heap.size)
    (h : ∀ v' w', RowCh w' base v' (rs ++ qs) → Below base W w' → W.grownBy w' v.ownBlock → wpList Tryd.prog ops Q rest (a.put o.dst v') w') : wpList Tryd.prog ops Q (o :: rest) a W :=
  wpList_plain hgd fun _ hK => wp_appendCh s x ho base v rs hs hown sv qs hx hsrc hok hl hbase fun v' w' h1 h2 h3 => hK _ _ (h v' w' h1 h2 h3)
theorem step_appendCh {ops : Array Oper} {o : Oper} {a : Act} {W : World} {K : Act → World → Prop} {Q : Exit → Act → World → Prop} {E : Prop} (hgd : o.guard = none) (s x : Operand)
    (ho : o.op = .call { callee := .builtin .append, args := #[s, x], argTypes := #[24, 24] })
    (base : Nat) (v : Value) (rs : List (List Value)) (hs : a.eval s = v) (hown : RowCh W base v rs) (sv : Value) (qs : List (List Value)) {M : Nat} (hx : a.eval x = sv) (hsrc : Recs W M sv 7 qs)
    (hok : ∀ r ∈ qs, okCh r) (hl : rs.length + qs.length ≤ 1000000) (hbase : base ≤ W.heap.size)
    (h : ∀ v' w', RowCh w' base v' (rs ++ qs) → Below base W w' → W.grownBy w' v.ownBlock → K (a.put o.dst v') w') : if Region.wanted o (yielded ops a.tmps) = true then Oper.wp Tryd.prog o a W K Q else E := by
  have hw : Region.wanted o (yielded ops a.tmps) = true := by simp [Region.wanted, hgd]
  rw [if_pos hw]
  exact wp_appendCh s x ho base v rs hs hown sv qs hx hsrc hok hl hbase h
end Go.Proofs.YtooemgkjkngpcaaDoor
