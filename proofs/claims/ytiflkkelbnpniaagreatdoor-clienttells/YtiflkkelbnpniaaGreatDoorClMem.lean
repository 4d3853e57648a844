/-
  Rows of records of one type that a call owns: appended to, inserted into, deleted from. (Made by rec/mkrec.py.)
  Plain mathematics of clients: what is wrong with them, what they know, believe and learn. No function of the program is named here.
  Plain mathematics of the laws of clients: what is followed twice, by way of another block, or voted for. No function of the program is named here.
  What clients know, in memory: records of four cells behind a slice value; clients and updates as values; rows of what is known that a call owns. No function of the program is named here.
-/
import Derived.Test.YtiflkkelbnpniaaGreatDoorHdMems
import Derived.Test.YtiflkkelbnpniaaGreatDoorMemB
namespace Go.Proofs.YtiflkkelbnpniaaGreatDoor
open Go.RowKit

theorem infoKn : (Tryz.prog.info? 27).map (fun i => (i.zero, i.size, i.bytes)) = some (some (.agg #[.int .i64 0, .int .i64 0, .slice none 0 0, .slice none 0 0]), 4, 64) := by kernel_rfl
theorem elemKn : Tryz.prog.underlying 22 = some (.slice (Tryz.prog.elem 22)) := by kernel_rfl
theorem sizeKn (w : World) : (sizeOf (Tryz.prog.elem 22)).run Tryz.prog w = .ok 4 w := by kernel_rfl
/-- so many cells, each of them one -/
def okKn (r : List Value) : Prop := r.length = 4 ∧ ∀ x ∈ r, x.oneCell' = true
/-- a row that a call owns -/
def RowKn (w : World) (base : Nat) (v : Value) (rs : List (List Value)) : Prop := (∀ r ∈ rs, okKn r) ∧ w.ownsRow base 27 4 v rs.length rs.flatten
theorem RowKn.nil (w : World) (base : Nat) : RowKn w base (.slice none 0 0) [] := ⟨fun _ h => (by cases h), World.ownsRow_nil w base 27 4⟩
theorem RowKn.shape {w : World} {base : Nat} {v : Value} {rs : List (List Value)} (h : RowKn w base v rs) : ∃ oa cap, v = .slice oa rs.length cap ∧ rs.length ≤ cap := by
  obtain ⟨_, _, h2⟩ := h
  rcases h2 with ⟨h3, h4⟩ | ⟨g, cap, cur, h3, _, _, h4, _⟩
  · exact ⟨none, 0, by rw [h4]; exact h3, by omega⟩
  · exact ⟨_, cap, h3, h4⟩
theorem RowKn.below {w w' : World} {base : Nat} {v : Value} {rs : List (List Value)} (h : RowKn w base v rs) (hg : Below w.heap.size w w') : RowKn w' base v rs := ⟨h.1, ownsRow_belowR h.2 hg⟩
theorem RowKn.mono {w : World} {base base' : Nat} {v : Value} {rs : List (List Value)} (h : RowKn w base v rs) (hb : base' ≤ base) : RowKn w base' v rs := by
  obtain ⟨h0, h1, h2⟩ := h
  refine ⟨h0, h1, ?_⟩
  rcases h2 with h2 | ⟨g, cap, cur, h3, h4, h5⟩
  · exact .inl h2
  · exact .inr ⟨g, cap, cur, h3, Nat.le_trans hb h4, h5⟩
theorem RowKn.recs {w : World} {base : Nat} {v : Value} {rs : List (List Value)} (h : RowKn w base v rs) : Recs w w.heap.size v 4 rs := ownsRow_recs h.2 (fun r hr => (h.1 r hr).1)
theorem flatKn_len {rs : List (List Value)} (h : ∀ r ∈ rs, okKn r) : rs.flatten.length = rs.length * 4 := flat_lenR rs (fun r hr => (h r hr).1)
theorem RowKn.row {w : World} {base : Nat} {v : Value} {rs : List (List Value)} (h : RowKn w base v rs) (h0 : 0 < rs.length) : ∃ g c cs, v = .slice (some ⟨g, 0, none⟩) rs.length c ∧ base ≤ g ∧ Row w g 27 cs ∧ rs.length ≤ c ∧ c ≤ maxLen ∧ cs.length = c * 4 ∧ cs.take (rs.length * 4) = rs.flatten := by
  obtain ⟨_, h1, h2⟩ := h
  rcases h2 with ⟨_, h3⟩ | ⟨g, c, cur, h3, h4, h5, h6, h7, h8, h9⟩
  · omega
  · exact ⟨g, c, cur.toList, h3, h4, h5, h6, h7, by simpa using h8, h9⟩
theorem RowKn.of_row {w : World} {base g n c : Nat} {cs : List Value} {rs : List (List Value)} (hok : ∀ r ∈ rs, okKn r) (hb : base ≤ g) (hr : Row w g 27 cs) (hn : n = rs.length) (hc : n ≤ c) (hm : c ≤ maxLen) (hl : cs.length = c * 4) (ht : cs.take (n * 4) = rs.flatten) : RowKn w base (.slice (some ⟨g, 0, none⟩) n c) rs := by
  subst hn
  exact ⟨hok, flatKn_len hok, .inr ⟨g, c, cs.toArray, rfl, hb, hr, hc, hm, by simpa using hl, ht⟩⟩
theorem flatKn_one {rs : List (List Value)} (h : ∀ r ∈ rs, okKn r) : ∀ u ∈ rs.flatten, u.oneCell' = true := by
  intro u hu
  obtain ⟨r, hr, hu⟩ := List.mem_flatten.1 hu
  exact (h r hr).2 u hu
theorem RowKn.below_of {w w' : World} {base : Nat} {v : Value} {rs : List (List Value)} (h : RowKn w base v rs) (hb : base ≤ w.heap.size) (hg : w.grownBy w' v.ownBlock) : Below base w w' :=
  (Below.refl base w).grown hg hb (fun k hk => (World.ownsRow.lt h.2 k hk).1)
/-- a row of another type is another block -/
theorem RowKn.apart {w : World} {base g : Nat} {v : Value} {rs : List (List Value)} {t : TypeId} {cs : List Value} (h : RowKn w base v rs) (hr : Row w g t cs) (ht : t ≠ 27) : some g ≠ v.ownBlock := by
  intro he
  rcases h.2.2 with ⟨rfl, _⟩ | ⟨g', c', cur', rfl, _, h8, _⟩
  · simp [Value.ownBlock] at he
  · obtain rfl : g = g' := by simpa [Value.ownBlock] using he
    unfold Row at hr
    rw [hr] at h8
    simp at h8
    exact ht h8.2
/-- what is owned, of another type, outlives what is done with the row -/
theorem RowKn.past {w w' : World} {base b e k n : Nat} {v rv : Value} {xs : List Value} {rs : List (List Value)} (hr : RowKn w base rv rs) (he : e ≠ 27) (h : w.ownsRow b e k v n xs) (hg : w.grownBy w' rv.ownBlock) : w'.ownsRow b e k v n xs := by
  obtain ⟨h1, h2⟩ := h
  refine ⟨h1, ?_⟩
  rcases h2 with h2 | ⟨g, cap, cur, h3, h4, h5, h6⟩
  · exact .inl h2
  · refine .inr ⟨g, cap, cur, h3, h4, (hg.block g (Array.getElem?_eq_some_iff.1 h5).1 ?_).trans h5, h6⟩
    intro hq
    rcases hr.2.2 with ⟨rfl, _⟩ | ⟨g', c', cur', rfl, _, h8, _⟩
    · simp [Value.ownBlock] at hq
    · obtain rfl : g = g' := by simpa [Value.ownBlock] using hq
      rw [h5] at h8
      simp at h8
      exact he h8.2
theorem rowKn_none {W : World} {base g : Nat} (hg : W.heap[g]? = some (.cells #[] 27 (0, 0))) (hb : base ≤ g) : RowKn W base (.slice (some ⟨g, 0, none⟩) 0 0) [] :=
  ⟨fun _ h => (by cases h), rfl, .inr ⟨g, 0, #[], rfl, hb, hg, Nat.le_refl _, by simp [maxLen], rfl, rfl⟩⟩
/-- one record in a block of its own -/
theorem oneKn {W : World} {g : Nat} {r : List Value} (h : Row W g 27 r) : Recs W (g + 1) (.slice (some ⟨g, 0, none⟩) 1 1) 4 [r] := by
  refine .inr (.inr ⟨g, 0, 1, rfl, Nat.le_refl _, fun i r' hr => ?_⟩)
  have hi : i = 0 := by have := (List.getElem?_eq_some_iff.1 hr).1; simp at this; exact this
  subst hi
  obtain rfl : r = r' := by simpa using hr
  refine ⟨by omega, fun j x hx => ?_⟩
  rw [h.cell, show 0 + 0 * 4 + j = j by omega]
  exact hx
theorem wp_appendKn {o : Oper} {a : Act} {W : World} {K : Act → World → Prop} {Q : Exit → Act → World → Prop} (s x : Operand)
    (ho : o.op = .call { callee := .builtin .append, args := #[s, x], argTypes := #[22, 22] })
    (base : Nat) (v : Value) (rs : List (List Value)) (hs : a.eval s = v) (hown : RowKn W base v rs) (sv : Value) (qs : List (List Value)) {M : Nat} (hx : a.eval x = sv) (hsrc : Recs W M sv 4 qs)
    (hok : ∀ r ∈ qs, okKn r) (hl : rs.length + qs.length ≤ 1000000) (hbase : base ≤ W.heap.size)
    (h : ∀ v' w', RowKn w' base v' (rs ++ qs) → Below base W w' → W.grownBy w' v.ownBlock → K (a.put o.dst v') w') : o.wp Tryz.prog a W K Q := by
  obtain ⟨i0, hi0, hz0, hz1, hz2⟩ := info_parts infoKn
  rcases hsrc.source (fun r hr => (hok r hr).1) (by omega) with ⟨rfl, rfl⟩ | ⟨ad, cap, rfl, hcs⟩
  · have hrun := run_append_owned_none (P := Tryz.prog) (w := W) base 22 o.type 27 i0 4 Tryz.underlying22 hi0 v rs.length rs.flatten hown.2
    unfold Oper.wp
    simp [execOp, ho, resolve, invoke, builtin, hs, hx, hrun, Result.andThen]
    exact h v W (by simpa using hown) (Below.refl _ _) (grown_refl _ _)
  · refine wp_append_own W s x 22 ho base 27 i0 _ 4 64 Tryz.underlying22 hi0 hz0 hz1 hz2 rfl (by decide) v rs.length rs.flatten hs hown.2 ad qs.length cap qs.flatten hx (flatKn_len hok) hcs (flatKn_one hok) (by unfold maxLen; omega) (by omega) hbase ?_
    intro v' w' h1 h2 _
    refine h v' w' ⟨fun r hr => ?_, ?_⟩ ((Below.refl base W).grown h2 hbase (fun k hk => (World.ownsRow.lt hown.2 k hk).1)) h2
    · rcases List.mem_append.1 hr with hr | hr
      · exact hown.1 r hr
      · exact hok r hr
    · rw [List.length_append, List.flatten_append]
      exact h1
theorem wpList_appendKn {ops : Array Oper} {rest : List Oper} {o : Oper} {a : Act} {W : World} {Q : Exit → Act → World → Prop} (hgd : o.guard = none) (s x : Operand)
    (ho : o.op = .call { callee := .builtin .append, args := #[s, x], argTypes := #[22, 22] })
    (base : Nat) (v : Value) (rs : List (List Value)) (hs : a.eval s = v) (hown : RowKn W base v rs) (sv : Value) (qs : List (List Value)) {M : Nat} (hx : a.eval x = sv) (hsrc : Recs W M sv 4 qs)
    (hok : ∀ r ∈ qs, okKn r) (hl : rs.length + qs.length ≤ 1000000) (hbase : base ≤ W.heap.size)
    (h : ∀ v' w', RowKn w' base v' (rs ++ qs) → Below base W w' → W.grownBy w' v.ownBlock → wpList Tryz.prog ops Q rest (a.put o.dst v') w') : wpList Tryz.prog ops Q (o :: rest) a W :=
  wpList_plain hgd fun _ hK => wp_appendKn s x ho base v rs hs hown sv qs hx hsrc hok hl hbase fun v' w' h1 h2 h3 => hK _ _ (h v' w' h1 h2 h3)
theorem step_appendKn {ops : Array Oper} {o : Oper} {a : Act} {W : World} {K : Act → World → Prop} {Q : Exit → Act → World → Prop} {E : Prop} (hgd : o.guard = none) (s x : Operand)
    (ho : o.op = .call { callee := .builtin .append, args := #[s, x], argTypes := #[22, 22] })
    (base : Nat) (v : Value) (rs : List (List Value)) (hs : a.eval s = v) (hown : RowKn W base v rs) (sv : Value) (qs : List (List Value)) {M : Nat} (hx : a.eval x = sv) (hsrc : Recs W M sv 4 qs)
    (hok : ∀ r ∈ qs, okKn r) (hl : rs.length + qs.length ≤ 1000000) (hbase : base ≤ W.heap.size)
    (h : ∀ v' w', RowKn w' base v' (rs ++ qs) → Below base W w' → W.grownBy w' v.ownBlock → K (a.put o.dst v') w') : if Region.wanted o (yielded ops a.tmps) = true then Oper.wp Tryz.prog o a W K Q else E := by
  have hw : Region.wanted o (yielded ops a.tmps) = true := by simp [Region.wanted, hgd]
  rw [if_pos hw]
  exact wp_appendKn s x ho base v rs hs hown sv qs hx hsrc hok hl hbase h
set_option maxRecDepth 100000 in
set_option maxHeartbeats 2000000 in
/-- put behind all -/
theorem insertKn_end (rs : List (List Value)) (q : List Value) (base vb : Nat) (v : Value) (w : World) (h : RowKn w base v rs) (hb : base ≤ w.heap.size) (hv : Row w vb 27 q) (h1 : okKn q) (hl : rs.length ≤ 1000) :
    Calls Tryz.prog 68 #[v, .int .i64 (rs.length : Int), .slice (some ⟨vb, 0, none⟩) 1 1] w fun e w' => w.grownBy w' v.ownBlock ∧ ∃ v', e = .returned v' ∧ RowKn w' base v' (insR rs rs.length q) := by
  obtain ⟨oa, c, rfl, hc⟩ := h.shape
  have HO := hid h
  have HV := hid hv
  have H1 := hid h1
  have HE := hid (show insR rs rs.length q = rs ++ [q] by simp [insR])
  have HL := hid (show rs.length ≤ 1000 from hl)
  clear h hv h1
  generalize hn : rs.length = n at *
  have HN := hid hn
  clear hn
  cases oa with
  | none =>
    go_enter Tryz.func68, Tryz.ntmps68
    go_wp2_with (at_builtin; refine wpList_appendKn rfl (.tmp 23) (.tmp 24) rfl base _ rs rfl HO.out _ [q] rfl (oneKn HV.out) (by intro x hx; simp at hx; rw [hx]; exact H1.out) (by have := HL.out; rw [HN.out]; simp; omega) hb ?_; intro v' w' g1 g2 g3; have G1 := hid g1; have G3 := hid g3; clear g1 g2 g3)
    go_ret
    exact ⟨G3.out, _, rfl, by rw [HE.out]; exact G1.out⟩
  | some a =>
    go_enter Tryz.func68, Tryz.ntmps68
    go_wp2_with (at_builtin; refine wpList_appendKn rfl (.tmp 23) (.tmp 24) rfl base _ rs rfl HO.out _ [q] rfl (oneKn HV.out) (by intro x hx; simp at hx; rw [hx]; exact H1.out) (by have := HL.out; rw [HN.out]; simp; omega) hb ?_; intro v' w' g1 g2 g3; have G1 := hid g1; have G3 := hid g3; clear g1 g2 g3)
    all_goals
      go_ret
      exact ⟨G3.out, _, rfl, by rw [HE.out]; exact G1.out⟩
set_option maxRecDepth 100000 in
set_option maxHeartbeats 2000000 in
/-- ahead of others, where there is room -/
theorem insertKn_shift (rs : List (List Value)) (i : Nat) (q : List Value) (base g vb c : Nat) (cs : List Value) (w : World) (hok : ∀ r ∈ rs, okKn r) (hbase : base ≤ g) (hrow : Row w g 27 cs) (hcl : cs.length = c * 4) (hcm : c ≤ maxLen) (htk : cs.take (rs.length * 4) = rs.flatten)
    (hv : Row w vb 27 q) (h1 : okKn q) (hne : vb ≠ g) (hi : i < rs.length) (hroom : rs.length + 1 ≤ c) :
    Calls Tryz.prog 68 #[.slice (some ⟨g, 0, none⟩) rs.length c, .int .i64 (i : Int), .slice (some ⟨vb, 0, none⟩) 1 1] w fun e w' => w.grownBy w' (some g) ∧ ∃ v', e = .returned v' ∧ RowKn w' base v' (insR rs i q) := by
  have hsz : (Tryz.prog.info? 27).map (·.size) = some 4 := by kernel_rfl
  have hcell : ∀ j, w.drew.cell? ⟨g, j, none⟩ = cs[j]? := fun j => hrow.drew.cell j
  have hq4 : q.length = 4 := h1.1
  obtain ⟨n, hn⟩ : ∃ n, rs.length = n := ⟨_, rfl⟩
  rw [hn] at hi hroom htk ⊢
  have hfl : rs.flatten.length = n * 4 := by rw [flatKn_len hok, hn]
  obtain ⟨mv, hmv⟩ : ∃ mv, mv = rs.flatten.drop (i * 4) := ⟨_, rfl⟩
  have hml : mv.length = (n - i) * 4 := by rw [hmv, List.length_drop, hfl]; omega
  have hov : ∀ x lb cb, (callFunc 95 #[.slice (some ⟨vb, 0, none⟩) 1 1, .slice (some ⟨g, x, none⟩) lb cb]).run Tryz.prog w = .ok (.value (.bool false)) w := fun x lb cb => by
    rw [run_callFunc_extern Tryz.func95 (by kernel_rfl) (by kernel_rfl) (by kernel_rfl) (e := Extern.SlicesOverlaps.overlaps #[22, 22] #[4]) (by kernel_rfl)]
    rw [Lib.run_overlaps_apart w 22 4 27 Tryz.underlying22 4 sizeKn ⟨vb, 0, none⟩ ⟨g, x, none⟩ 1 1 lb cb hne 27 27 4 (c * 4) (by simp [World.shape?, show w.heap[vb]? = _ from hv, hq4]) (by simp [World.shape?, show w.heap[g]? = _ from hrow, hcl]) (by omega) (hv.frozen 0) (hv.frozen 4)]
    rfl
  have hcp1 : ∀ ty dc sc, (Builtin.copy_ #[22, 22] ty #[.slice (some ⟨g, (i + 1) * 4, none⟩) (n - i) dc, .slice (some ⟨g, i * 4, none⟩) (n + 1 - i) sc]).run Tryz.prog w.drew = .ok (goInt ((n - i : Nat) : Int)) (w.drew.setCells g ((i + 1) * 4) mv) := fun ty dc sc => by
    have e : Nat.min (n + 1 - i) (n - i) = n - i := by simp only [Nat.min_def]; split <;> omega
    have := run_copy_wide (P := Tryz.prog) w.drew 22 22 ty 27 4 g ((i + 1) * 4) (n - i) dc ⟨g, i * 4, none⟩ (n + 1 - i) sc mv Tryz.underlying22 hsz (by rw [hml, e])
      (fun j u hj => by
        have hadd : (⟨g, i * 4, none⟩ : Addr).add j = ⟨g, i * 4 + j, none⟩ := by unfold Addr.add; split <;> simp_all
        rw [hadd, hcell]
        rw [hmv, List.getElem?_drop] at hj
        exact flat_get_someR htk _ u hj)
      (fun j hj => by rw [hcell, List.getElem?_eq_getElem (by rw [hml] at hj; omega)]; rfl) (fun j hj => hrow.drew.frozen _)
      (fun u hu => flatKn_one hok u (by rw [hmv] at hu; exact List.mem_of_mem_drop hu))
    rw [e] at this
    exact this
  obtain ⟨W1, hW1⟩ : ∃ W1, W1 = w.drew.setCells g ((i + 1) * 4) mv := ⟨_, rfl⟩
  have hr1 : Row W1 g 27 (putL cs ((i + 1) * 4) mv) := by
    rw [hW1]
    exact Row.setCells _ _ _ _ hrow.drew (by rw [hml]; omega)
  have hl1 : (putL cs ((i + 1) * 4) mv).length = c * 4 := by rw [putL_length _ _ _ (by rw [hml]; omega), hcl]
  have hg1 : w.grownBy W1 (some g) := by rw [hW1]; exact grown_trans (⟨rfl, rfl, rfl, Nat.le_refl _, fun _ _ _ => rfl⟩ : w.grownBy w.drew _) (grown_setCells g _ _ w.drew)
  have hv1 : Row W1 vb 27 q := hv.grown hg1 (by simpa using hne)
  have hcp2 : ∀ ty dc, (Builtin.copy_ #[22, 22] ty #[.slice (some ⟨g, i * 4, none⟩) (n + 1 - i) dc, .slice (some ⟨vb, 0, none⟩) 1 1]).run Tryz.prog W1 = .ok (goInt ((1 : Nat) : Int)) (W1.setCells g (i * 4) q) := fun ty dc => by
    have e : Nat.min 1 (n + 1 - i) = 1 := by simp only [Nat.min_def]; split <;> omega
    have := run_copy_wide (P := Tryz.prog) W1 22 22 ty 27 4 g (i * 4) (n + 1 - i) dc ⟨vb, 0, none⟩ 1 1 q Tryz.underlying22 hsz (by rw [e, hq4])
      (fun j u hj => by
        have hadd : (⟨vb, 0, none⟩ : Addr).add j = ⟨vb, j, none⟩ := by unfold Addr.add; split <;> simp_all
        rw [hadd, hv1.cell]
        exact hj)
      (fun j hj => by rw [hr1.cell, List.getElem?_eq_getElem (by rw [hl1]; omega)]; rfl) (fun j hj => hr1.frozen _)
      h1.2
    rw [e] at this
    exact this
  rw [← hW1] at hcp1
  have FIN := hid (show w.grownBy (W1.setCells g (i * 4) q) (some g) ∧ RowKn (W1.setCells g (i * 4) q) base (.slice (some ⟨g, 0, none⟩) (n + 1) c) (insR rs i q) from by
    refine ⟨grown_trans hg1 (grown_setCells g _ _ _), RowKn.of_row (insR_all hok h1) hbase (Row.setCells _ _ _ _ hr1 (by rw [hl1]; omega)) (by rw [insR_length _ _ _ (by omega), hn]) hroom hcm (by rw [putL_length _ _ _ (by rw [hl1]; omega), hl1]) ?_⟩
    rw [putL_take _ _ _ (by rw [hl1]; omega) _ (by omega), putL_take_le _ _ _ (by omega) _ (by omega), show i * 4 + q.length = (i + 1) * 4 by omega, putL_drop _ _ _ (by omega)]
    rw [List.take_append_of_le_length (by rw [hml]; omega), show mv.take ((n + 1) * 4 - (i + 1) * 4) = mv from List.take_of_length_le (by rw [hml]; omega), flat_insR (fun r hr => (hok r hr).1), hmv, ← htk, List.take_take, Nat.min_eq_left (by omega)])
  have hc63 : c ≤ 9223372036854775807 := by unfold maxLen at hcm; omega
  have HW := hid hW1
  clear hW1 hr1 hl1 hg1 hv1 hcell hml hmv hrow htk hok hcl hcm hfl hv hn h1 hq4
  have hw1 : IntKind.i64.wrap ((i : Int) + 1) = (i : Int) + 1 := by rw [IntKind.wrap_i64]; omega
  have hw2 : IntKind.i64.wrap ((n : Int) + 1) = (n : Int) + 1 := by rw [IntKind.wrap_i64]; omega
  have b1 : (0 : Int) ≤ (i : Int) + 1 := by omega
  have b2 : (0 : Int) ≤ (n : Int) + 1 := by omega
  have hin : i ≤ n := by omega
  have htn : ((i : Int) + 1).toNat = i + 1 := by omega
  have htn2 : ((n : Int) + 1).toNat = n + 1 := by omega
  have b3 : ¬ (c = i + 1) := by omega
  have b4 : (i : Int) ≤ (n : Int) + 1 := by omega
  have b5 : ¬ (c = i) := by omega
  have b6 : ¬ ((i : Int) = (n : Int)) := by omega
  have b7 : decide ((c : Int) < (n : Int) + 1) = false := by simp; omega
  have b8' : (n : Int) + 1 ≤ (c : Int) := by omega
  have b9 : (i : Int) + 1 ≤ (n : Int) + 1 := by omega
  have b10 : (i : Int) ≤ (n : Int) := by omega
  have b11 : n + 1 - (i + 1) = n - i := by omega
  go_enter Tryz.func68, Tryz.ntmps68
  go_wp2_with (simp only [hov])
  go_region_law (refine step_copy_run rfl (.tmp 73) (.tmp 76) 22 22 rfl _ _ (by simp [Act.eval, Act.put]; rfl) (by simp [Act.eval, Act.put]; rfl) (hcp1 _ _ _) ?_)
  go_wp2_with (at_builtin; refine wpList_copy_run _ rfl (.tmp 80) (.tmp 81) 22 22 rfl _ _ rfl rfl (hcp2 _ _) ?_)
  go_ret
  exact ⟨FIN.out.1, .slice (some ⟨g, 0, none⟩) (n + 1) c, rfl, FIN.out.2⟩
set_option maxRecDepth 100000 in
set_option maxHeartbeats 2000000 in
/-- ahead of others, where there is no room -/
theorem insertKn_grow (rs : List (List Value)) (i : Nat) (q : List Value) (base g vb c : Nat) (cs : List Value) (w : World) (hok : ∀ r ∈ rs, okKn r) (hbase : base ≤ g) (hrow : Row w g 27 cs) (htk : cs.take (rs.length * 4) = rs.flatten)
    (hv : Row w vb 27 q) (h1 : okKn q) (hi : i < rs.length) (hnc : rs.length ≤ c) (hroom : c < rs.length + 1) (hl : rs.length ≤ 1000) :
    Calls Tryz.prog 68 #[.slice (some ⟨g, 0, none⟩) rs.length c, .int .i64 (i : Int), .slice (some ⟨vb, 0, none⟩) 1 1] w fun e w' => w.grownBy w' (some g) ∧ ∃ v', e = .returned v' ∧ RowKn w' base v' (insR rs i q) := by
  obtain ⟨i0, hi0, hz0, hzs, hzb⟩ := info_parts infoKn
  have hsz : (Tryz.prog.info? 27).map (·.size) = some 4 := by kernel_rfl
  have hcell : ∀ j, w.drew.cell? ⟨g, j, none⟩ = cs[j]? := fun j => hrow.drew.cell j
  have hq4 : q.length = 4 := h1.1
  obtain ⟨n, hn⟩ : ∃ n, rs.length = n := ⟨_, rfl⟩
  rw [hn] at hi hroom htk hnc hl ⊢
  have hfl : rs.flatten.length = n * 4 := by rw [flatKn_len hok, hn]
  obtain ⟨mv, hmv⟩ : ∃ mv, mv = rs.flatten.drop (i * 4) := ⟨_, rfl⟩
  have hml : mv.length = (n - i) * 4 := by rw [hmv, List.length_drop, hfl]; omega
  obtain ⟨olds, holds⟩ : ∃ olds, olds = rs.flatten.take (i * 4) := ⟨_, rfl⟩
  have hol : olds.length = i * 4 := by rw [holds, List.length_take, hfl]; omega
  have hold : (Builtin.firstCells i0.size i (.slice (some ⟨g, 0, none⟩) i c)).run Tryz.prog w.drew = .ok olds.toArray w.drew := by
    rw [hzs]
    exact run_firstCells_some w.drew 4 i ⟨g, 0, none⟩ i c olds hol (fun j u hj => by
      have hadd : (⟨g, 0, none⟩ : Addr).add j = ⟨g, j, none⟩ := by unfold Addr.add; split <;> simp_all
      rw [hadd, hcell]
      rw [holds, List.getElem?_take] at hj
      split at hj
      · exact flat_get_someR htk _ u hj
      · cases hj)
  obtain ⟨G, hG⟩ : ∃ G, G = grownCap w (n + 1) c 27 := ⟨_, rfl⟩
  obtain ⟨zc, hzc⟩ : ∃ zc, zc = (Value.agg #[.int .i64 0, .int .i64 0, .slice none 0 0, .slice none 0 0]).cells := ⟨_, rfl⟩
  have hzl : zc.size = 4 := by rw [hzc]; rfl
  obtain ⟨W1, hW1⟩ : ∃ W1, W1 = w.drew.alloc (.cells (olds.toArray ++ Builtin.zeroCells zc (n + 1 - i) ++ Builtin.zeroCells zc (G - (n + 1))) 27) := ⟨_, rfl⟩
  have hGn : n + 1 ≤ G := by rw [hG]; exact grownCap_ge w _ _ _
  have hGm : G ≤ maxLen := by rw [hG]; exact grownCap_le_maxLen w (n + 1) c 27 (by unfold maxLen; omega)
  have hrz : ∀ ty, (Builtin.append_ #[22, 3] ty #[.slice (some ⟨g, 0, none⟩) i c, .int .i64 ((n : Int) + 1 - (i : Int))]).run Tryz.prog w = .ok (.slice (some ⟨w.heap.size, 0, none⟩) (n + 1) G) W1 := fun ty => by
    have h := Lib.run_append_grow_zeros w 22 3 ty 27 i0 _ .i64 .i64 Tryz.underlying22 Tryz.underlying3 hi0 hz0 (some ⟨g, 0, none⟩) i c olds hold (n + 1 - i) (by omega) (by omega) (by omega) (by omega) (by rw [hzb]; omega) (by rw [hzb, show i + (n + 1 - i) = n + 1 by omega]; exact growslice_fits hroom (by omega))
    rw [show i + (n + 1 - i) = n + 1 by omega] at h
    rw [show (n : Int) + 1 - (i : Int) = ((n + 1 - i : Nat) : Int) by omega, h, hW1, ← hG, hzc]
  obtain ⟨R0, hR0⟩ : ∃ R0 : List Value, R0 = olds ++ ((Builtin.zeroCells zc (n + 1 - i)).toList ++ (Builtin.zeroCells zc (G - (n + 1))).toList) := ⟨_, rfl⟩
  have hr1 : Row W1 w.heap.size 27 R0 := by
    have := Row.new w.drew 27 R0
    rw [hW1, show (olds.toArray ++ Builtin.zeroCells zc (n + 1 - i) ++ Builtin.zeroCells zc (G - (n + 1))) = R0.toArray by rw [hR0]; simp]
    exact this
  have hl1 : R0.length = G * 4 := by
    rw [hR0]
    simp only [List.length_append, Array.length_toList, size_zeroCells, hzl, hol]
    omega
  have htk1 : R0.take (i * 4) = olds := by
    rw [hR0, List.take_append_of_le_length (by omega), List.take_of_length_le (by omega)]
  have hg1 : w.grownBy W1 (some g) := by
    rw [hW1]
    exact grown_trans (⟨rfl, rfl, rfl, Nat.le_refl _, fun _ _ _ => rfl⟩ : w.grownBy w.drew _) (grown_alloc w.drew _ _)
  have hgw : g < w.heap.size := hrow.lt
  have hvw : vb < w.heap.size := hv.lt
  have hbl1 : Below w.heap.size w W1 := by
    rw [hW1]
    exact (show Below w.heap.size w w.drew from ⟨rfl, rfl, rfl, Nat.le_refl _, fun _ _ => rfl⟩).alloc (Nat.le_refl _) _
  have hv1 : Row W1 vb 27 q := hv.below hbl1 hvw
  obtain ⟨B, hB⟩ : ∃ B, w.heap.size = B := ⟨_, rfl⟩
  have hcpA : ∀ ty dc, (Builtin.copy_ #[22, 22] ty #[.slice (some ⟨B, i * 4, none⟩) (n + 1 - i) dc, .slice (some ⟨vb, 0, none⟩) 1 1]).run Tryz.prog W1 = .ok (goInt ((1 : Nat) : Int)) (W1.setCells B (i * 4) q) := fun ty dc => by
    rw [← hB]
    have e : Nat.min 1 (n + 1 - i) = 1 := by simp only [Nat.min_def]; split <;> omega
    have := run_copy_wide (P := Tryz.prog) W1 22 22 ty 27 4 w.heap.size (i * 4) (n + 1 - i) dc ⟨vb, 0, none⟩ 1 1 q Tryz.underlying22 hsz (by rw [e, hq4])
      (fun j u hj => by
        have hadd : (⟨vb, 0, none⟩ : Addr).add j = ⟨vb, j, none⟩ := by unfold Addr.add; split <;> simp_all
        rw [hadd, hv1.cell]
        exact hj)
      (fun j hj => by rw [hr1.cell, List.getElem?_eq_getElem (by rw [hl1]; omega)]; rfl) (fun j hj => hr1.frozen _)
      h1.2
    rw [e] at this
    exact this
  obtain ⟨W2, hW2⟩ : ∃ W2, W2 = W1.setCells B (i * 4) q := ⟨_, rfl⟩
  rw [← hW2] at hcpA
  have hr2 : Row W2 w.heap.size 27 (putL R0 (i * 4) q) := by
    rw [hW2, ← hB]
    exact Row.setCells _ _ _ _ hr1 (by rw [hl1]; omega)
  have hl2 : (putL R0 (i * 4) q).length = G * 4 := by rw [putL_length _ _ _ (by rw [hl1]; omega), hl1]
  have hg2 : w.grownBy W2 (some g) := by
    rw [hW2, ← hB]
    exact grown_pastR hg1 (Nat.le_refl _) (grown_setCells _ _ _ _)
  have hrg2 : Row W2 g 27 cs := by
    rw [hW2]
    exact (hrow.below hbl1 hgw).grown (grown_setCells B _ _ W1) (by simp; omega)
  have hcpB : ∀ ty dc sc, (Builtin.copy_ #[22, 22] ty #[.slice (some ⟨B, (i + 1) * 4, none⟩) (n - i) dc, .slice (some ⟨g, i * 4, none⟩) (n - i) sc]).run Tryz.prog W2.drew = .ok (goInt ((n - i : Nat) : Int)) (W2.drew.setCells B ((i + 1) * 4) mv) := fun ty dc sc => by
    rw [← hB]
    have e : Nat.min (n - i) (n - i) = n - i := Nat.min_self _
    have := run_copy_wide (P := Tryz.prog) W2.drew 22 22 ty 27 4 w.heap.size ((i + 1) * 4) (n - i) dc ⟨g, i * 4, none⟩ (n - i) sc mv Tryz.underlying22 hsz (by rw [hml, e])
      (fun j u hj => by
        have hadd : (⟨g, i * 4, none⟩ : Addr).add j = ⟨g, i * 4 + j, none⟩ := by unfold Addr.add; split <;> simp_all
        rw [hadd, hrg2.drew.cell]
        rw [hmv, List.getElem?_drop] at hj
        exact flat_get_someR htk _ u hj)
      (fun j hj => by rw [hr2.drew.cell, List.getElem?_eq_getElem (by rw [hml] at hj; rw [hl2]; omega)]; rfl) (fun j hj => hr2.drew.frozen _)
      (fun u hu => flatKn_one hok u (by rw [hmv] at hu; exact List.mem_of_mem_drop hu))
    rw [e] at this
    exact this
  have FIN := hid (show w.grownBy (W2.drew.setCells B ((i + 1) * 4) mv) (some g) ∧ RowKn (W2.drew.setCells B ((i + 1) * 4) mv) base (.slice (some ⟨B, 0, none⟩) (n + 1) G) (insR rs i q) from by
    rw [← hB]
    refine ⟨grown_pastR (grown_drew hg2) (Nat.le_refl _) (grown_setCells _ _ _ _), RowKn.of_row (insR_all hok h1) (by omega) (Row.setCells _ _ _ _ hr2.drew (by rw [hl2, hml]; omega)) (by rw [insR_length _ _ _ (by omega), hn]) hGn hGm (by rw [putL_length _ _ _ (by rw [hl2, hml]; omega), hl2]) ?_⟩
    rw [putL_take _ _ _ (by rw [hl2]; omega) _ (by rw [hml]; omega), putL_take _ _ _ (by rw [hl1]; omega) _ (by omega), hml, htk1]
    rw [show (i + 1) * 4 - (i * 4 + q.length) = 0 by omega, show (n + 1) * 4 - ((i + 1) * 4 + (n - i) * 4) = 0 by omega, List.take_zero, List.take_zero, List.append_nil, List.append_nil, flat_insR (fun r hr => (hok r hr).1), holds, hmv])
  have hG63 : G ≤ 9223372036854775807 := by unfold maxLen at hGm; omega
  have HB := hid hB
  rw [hB] at hrz
  clear hW1 hW2 hr1 hr2 hrg2 hl1 hl2 hg1 hg2 hv1 hcell hml hmv hrow htk hok hfl hv hn h1 htk1 hR0 hold holds hol hG hzc hzl hbl1 hGm hB hi0 hz0 hzs hzb hq4
  have hw1 : IntKind.i64.wrap ((i : Int) + 1) = (i : Int) + 1 := by rw [IntKind.wrap_i64]; omega
  have hw2 : IntKind.i64.wrap ((n : Int) + 1) = (n : Int) + 1 := by rw [IntKind.wrap_i64]; omega
  have hw3 : IntKind.i64.wrap ((n : Int) + 1 - (i : Int)) = (n : Int) + 1 - (i : Int) := by rw [IntKind.wrap_i64]; omega
  have b1 : (0 : Int) ≤ (i : Int) + 1 := by omega
  have hin : i ≤ n := by omega
  have htn : ((i : Int) + 1).toNat = i + 1 := by omega
  have b3 : ¬ (G = i + 1) := by omega
  have b4 : (i : Int) ≤ (n : Int) + 1 := by omega
  have b5 : ¬ (c = i) := by omega
  have b5' : ¬ (G = i) := by omega
  have b6 : ¬ ((i : Int) = (n : Int)) := by omega
  have b7 : decide ((c : Int) < (n : Int) + 1) = true := by simp; omega
  have b9 : (i : Int) + 1 ≤ (n : Int) + 1 := by omega
  have b10 : (i : Int) ≤ (n : Int) := by omega
  have b11 : n + 1 - (i + 1) = n - i := by omega
  have b12 : (i : Int) ≤ (c : Int) := by omega
  go_enter Tryz.func68, Tryz.ntmps68
  go_wp2_with (first
    | (at_builtin; refine Lib.wpList_append_run _ rfl (.tmp 34) (.tmp 39) _ _ rfl _ _ rfl rfl _ _ (hrz _) ?_)
    | (at_builtin; refine wpList_copy_run _ rfl (.tmp 43) (.tmp 44) 22 22 rfl _ _ rfl rfl (hcpA _ _) ?_))
  go_region_law (refine step_copy_run rfl (.tmp 50) (.tmp 53) 22 22 rfl _ _ (by simp [Act.eval, Act.put]; rfl) (by simp [Act.eval, Act.put]; rfl) (hcpB _ _ _) ?_)
  go_wp2
  go_ret
  exact ⟨FIN.out.1, .slice (some ⟨B, 0, none⟩) (n + 1) G, rfl, FIN.out.2⟩
/-- what slices.Insert does with a row that is owned, of one record in a block of its own -/
theorem insertKn_any (rs : List (List Value)) (i : Nat) (q : List Value) (base vb : Nat) (v : Value) (w : World) (h : RowKn w base v rs) (hb : base ≤ w.heap.size) (hv : Row w vb 27 q) (h1 : okKn q)
    (hne : ∀ g, v.ownBlock = some g → vb ≠ g) (hi : i ≤ rs.length) (hl : rs.length ≤ 1000) :
    Calls Tryz.prog 68 #[v, .int .i64 (i : Int), .slice (some ⟨vb, 0, none⟩) 1 1] w fun e w' => w.grownBy w' v.ownBlock ∧ ∃ v', e = .returned v' ∧ RowKn w' base v' (insR rs i q) := by
  by_cases he : i = rs.length
  · subst he
    exact insertKn_end rs q base vb v w h hb hv h1 hl
  · obtain ⟨g, c, cs, rfl, hbase, hrow, hnc, hcm, hcl, htk⟩ := h.row (by omega)
    by_cases hroom : rs.length + 1 ≤ c
    · exact insertKn_shift rs i q base g vb c cs w h.1 hbase hrow hcl hcm htk hv h1 (hne g rfl) (by omega) hroom
    · exact insertKn_grow rs i q base g vb c cs w h.1 hbase hrow htk hv h1 (by omega) hnc (by omega) hl
set_option maxRecDepth 100000 in
set_option maxHeartbeats 2000000 in
/-- what slices.Delete does with a row that is owned, of one record -/
theorem deleteKn_any (rs : List (List Value)) (i base : Nat) (v : Value) (w : World) (h : RowKn w base v rs) (hi : i < rs.length) (j : Nat) (hj : j = i + 1) :
    Calls Tryz.prog 69 #[v, .int .i64 (i : Int), .int .i64 (j : Int)] w fun e w' => w.grownBy w' v.ownBlock ∧ ∃ v', e = .returned v' ∧ RowKn w' base v' (rs.take i ++ rs.drop (i + 1)) := by
  have hok := h.1
  have hl4 : ∀ r ∈ rs, r.length = 4 := fun r hr => (hok r hr).1
  obtain ⟨g, c, cs, rfl, hbase, hrow, hnc, hcm, hcl, htk⟩ := h.row (by omega)
  obtain ⟨i0, hi0, hz0, hz1, hz2⟩ := info_parts infoKn
  obtain ⟨news, hnews⟩ : ∃ news, news = (rs.drop j).flatten := ⟨_, rfl⟩
  have hnl : news.length = (rs.length - j) * 4 := by rw [hnews, flatKn_len (fun r hr => hok r (List.mem_of_mem_drop hr))]; simp
  have hcell : ∀ j, w.drew.cell? ⟨g, j, none⟩ = cs[j]? := fun j => hrow.drew.cell j
  obtain ⟨A, hA, hsrc⟩ : ∃ A : Addr, (if c = j then some (⟨g, 0, none⟩ : Addr) else some ⟨g, j * 4, none⟩) = some A ∧ Hid (∀ t u, news[t]? = some u → w.drew.cell? (A.add t) = some u) := by
    by_cases hc : c = j
    · refine ⟨⟨g, 0, none⟩, by simp [hc], fun t u hu => ?_⟩
      have h0 : news.length = 0 := by rw [hnl]; omega
      rw [List.length_eq_zero_iff.1 h0] at hu
      simp at hu
    · refine ⟨⟨g, j * 4, none⟩, by simp [hc], fun t u hu => ?_⟩
      have hadd : (⟨g, j * 4, none⟩ : Addr).add t = ⟨g, j * 4 + t, none⟩ := by unfold Addr.add; split <;> simp_all
      rw [hadd, hcell]
      rw [hnews, flat_dropR rs hl4, List.getElem?_drop] at hu
      exact flat_get_someR htk _ u hu
  have s2 := hid (show ∀ u ∈ news, u.oneCell' = true by
    rw [hnews]
    exact flatKn_one fun r hr => hok r (List.mem_of_mem_drop hr))
  have s3 := hid (show ∀ t, t < news.length → (w.drew.cell? ⟨g, 0 + i * 4 + t, none⟩).isSome = true ∧ w.drew.frozen? ⟨g, 0 + i * 4 + t, none⟩ = false by
    intro t ht
    rw [hnl] at ht
    rw [hcell]
    refine ⟨?_, hrow.drew.frozen _⟩
    rw [List.getElem?_eq_getElem (by omega)]
    rfl)
  obtain ⟨W1, hW1⟩ : ∃ W1, W1 = w.drew.setCells g (0 + i * 4) news := ⟨_, rfl⟩
  have hr1 : Row W1 g 27 (putL cs (i * 4) news) := by
    rw [hW1, Nat.zero_add]
    exact Row.setCells news (i * 4) _ _ hrow.drew (by rw [hnl]; omega)
  have hl1 : (putL cs (i * 4) news).length = c * 4 := by rw [putL_length _ _ _ (by rw [hnl]; omega), hcl]
  have hg1 : w.grownBy W1 (some g) := by rw [hW1]; exact grown_trans (⟨rfl, rfl, rfl, Nat.le_refl _, fun _ _ _ => rfl⟩ : w.grownBy w.drew _) (grown_setCells g _ _ w.drew)
  obtain ⟨n, hn⟩ : ∃ n, rs.length = n := ⟨_, rfl⟩
  have hcl2 := hid (show ∀ ty (x y : Nat), x = n - 1 → (Builtin.clear_ #[22] ty #[.slice (some ⟨g, x * 4, none⟩) (n - x) y]).run Tryz.prog W1 = .ok (.tuple #[]) (W1.setCells g (x * 4) [.int .i64 0, .int .i64 0, .slice none 0 0, .slice none 0 0]) from fun ty x y hx => by
    have hst := run_storeCells_cells (P := Tryz.prog) g (x * 4) [.int .i64 0, .int .i64 0, .slice none 0 0, .slice none 0 0] 0 W1 (fun j hj => by
        rw [hr1.cell, List.getElem?_eq_getElem (by rw [hl1]; simp at hj; omega)]
        rfl) (fun j hj => hr1.frozen _) (fun u hu => by
        simp at hu
        rcases hu with rfl | rfl <;> rfl)
    simp only [Nat.add_zero] at hst
    have e1 : n - x = 0 + 1 := by omega
    rw [e1]
    have hzv : ∀ w, (zeroValue 27).run Tryz.prog w = .ok (.agg #[.int .i64 0, .int .i64 0, .slice none 0 0, .slice none 0 0]) w := by intro w; kernel_rfl
    have hzc : (Builtin.zeroCells (Value.agg #[.int .i64 0, .int .i64 0, .slice none 0 0, .slice none 0 0]).cells (0 + 1)).toList = [.int .i64 0, .int .i64 0, .slice none 0 0, .slice none 0 0] := by kernel_rfl
    simp [Builtin.clear_, run_underlying Tryz.underlying22, hzv, hzc, hst])
  have FIN := hid (show ∀ x m : Nat, x = n - 1 → m = n - 1 → w.grownBy (W1.setCells g (x * 4) [.int .i64 0, .int .i64 0, .slice none 0 0, .slice none 0 0]) (some g) ∧ RowKn (W1.setCells g (x * 4) [.int .i64 0, .int .i64 0, .slice none 0 0, .slice none 0 0]) base (.slice (some ⟨g, 0, none⟩) m c) (rs.take i ++ rs.drop j) from fun x m hx hm => by
    refine ⟨grown_trans hg1 (grown_setCells g _ _ _), RowKn.of_row (fun r hr => ?_) hbase (Row.setCells _ _ _ _ hr1 (by rw [hl1]; simp; omega)) (by simp; omega) (by omega) hcm (by rw [putL_length _ _ _ (by rw [hl1]; simp; omega), hl1]) ?_⟩
    · rcases List.mem_append.1 hr with hr | hr
      · exact hok r (List.mem_of_mem_take hr)
      · exact hok r (List.mem_of_mem_drop hr)
    rw [putL_take_le _ _ _ (by rw [hl1]; omega) _ (by omega), putL_take cs (i * 4) news (by omega) _ (by rw [hnl]; omega), hnl, show m * 4 - (i * 4 + (rs.length - j) * 4) = 0 by omega]
    rw [List.take_zero, List.append_nil, List.flatten_append, hnews, flat_takeR rs hl4, ← htk, List.take_take, Nat.min_eq_left (by omega)])
  have HN := hid hn
  have HJ := hid hj
  have hnl2 := hid (show news.length = (n - j) * 4 by rw [hnl, hn])
  have hin : i < n := by omega
  rw [hn] at hnc
  have hc63 : c ≤ 9223372036854775807 := by unfold maxLen at hcm; omega
  have hW := hid hW1
  clear hW1 hr1 hl1 hg1 hcell hnl hnews hrow htk h hok hl4 hi hcl hcm
  rw [hn]
  clear hn
  have f1 : i ≤ c := by omega
  have f2 : j ≤ c := by omega
  have f3 : (i : Int) ≤ (n : Int) := by omega
  have f4 : ((j : Nat) : Int) ≤ (n : Int) := by omega
  have f5 : (i : Int) ≤ ((j : Nat) : Int) := by omega
  have f7 : ¬ ((i : Int) = ((j : Nat) : Int)) := by omega
  obtain ⟨m, hm⟩ : ∃ m, i + (n - j) = m := ⟨_, rfl⟩
  have hmn : m = n - 1 := by omega
  have f8 : (m : Int) ≤ (n : Int) := by omega
  have f9 : ¬ c = m := by omega
  have f10 : n ≤ c := by omega
  have f11 : (n : Int) ≤ (c : Int) := by omega
  have hclr : ∀ ty, (Builtin.clear_ #[22] ty #[.slice (some ⟨g, m * 4, none⟩) (n - m) (c - m)]).run Tryz.prog W1 = .ok (.tuple #[]) (W1.setCells g (m * 4) [.int .i64 0, .int .i64 0, .slice none 0 0, .slice none 0 0]) := fun ty => hcl2.out ty m (c - m) hmn
  have HM := hid hm
  have HMN := hid hmn
  clear hj hmn
  go_enter Tryz.func69, Tryz.ntmps69
  go_wp2_with fail
  go_region_law (refine step_append_room rfl (.tmp 22) (.tmp 25) 22 rfl 27 i0 4 Tryz.underlying22 hi0 hz1 g 0 i c (by simp [Act.eval, Act.put]) A (n - j) (c - j) news (by simp [Act.eval, Act.put]) hnl2.out hsrc.out s2.out (by omega) s3.out ?_; rw [← hW.out])
  go_wp2
  go_ret
  obtain ⟨r1, r2⟩ := FIN.out m m HMN.out HMN.out
  exact ⟨r1, .slice (some ⟨g, 0, none⟩) m c, rfl, by rw [← HJ.out]; exact r2⟩
end Go.Proofs.YtiflkkelbnpniaaGreatDoor
namespace Go.Proofs.YtiflkkelbnpniaaGreatDoor

/-- what is known of a block -/
structure Kn where
  height : Int
  time : Int
  root : List (BitVec 8)
  next : List (BitVec 8)
/-- a client -/
structure Cl where
  chain : ByteArray
  trust : Int
  frozen : Bool
  known : List Kn
/-- a header that is shown, from a height -/
structure Up where
  frm : Int
  sg : Sg
  trusted : List Vl
def Kn.none : Kn := ⟨0, 0, [], []⟩
def Cl.none : Cl := ⟨⟨#[]⟩, 0, false, []⟩
/-- as many bytes as the reach lets -/
def Kn.fits (k : Kn) : Prop := k.root.length ≤ 140737488351232 ∧ k.next.length ≤ 140737488351232
def Cl.fits (c : Cl) : Prop := c.chain.size ≤ 140737488351232 ∧ c.known.length < 2305843009213693952 ∧ ∀ k ∈ c.known, k.fits
def Up.fits (u : Up) : Prop := u.sg.fits ∧ u.trusted.length < 2305843009213693952 ∧ ∀ v ∈ u.trusted, v.ok
theorem Kn.none_fits : Kn.none.fits := ⟨by simp [Kn.none], by simp [Kn.none]⟩
theorem Cl.none_fits : Cl.none.fits := ⟨by show (0 : Nat) ≤ _; omega, by simp [Cl.none], by simp [Cl.none]⟩

/-- what is wrong with what is known of a block -/
def wrongK (k : Kn) : Int := if k.height < 1 ∨ 1000000000000 < k.height ∨ k.time < 0 ∨ 1000000000000 < k.time then 3 else if k.root.length ≠ 32 ∨ k.next.length ≠ 32 then 2 else 0
theorem wrongK_iff (k : Kn) : wrongK k = 0 ↔ (1 ≤ k.height ∧ k.height ≤ 1000000000000 ∧ 0 ≤ k.time ∧ k.time ≤ 1000000000000) ∧ k.root.length = 32 ∧ k.next.length = 32 := by
  unfold wrongK
  split
  · constructor
    · intro h; cases h
    · intro h; omega
  · split
    · constructor
      · intro h; cases h
      · intro h; omega
    · constructor
      · intro _; omega
      · intro _; rfl
theorem wrongK_3 {k : Kn} (h : k.height < 1 ∨ 1000000000000 < k.height ∨ k.time < 0 ∨ 1000000000000 < k.time) : wrongK k = 3 := by unfold wrongK; rw [if_pos h]
theorem wrongK_2 {k : Kn} (h : ¬ (k.height < 1 ∨ 1000000000000 < k.height ∨ k.time < 0 ∨ 1000000000000 < k.time)) (h2 : k.root.length ≠ 32 ∨ k.next.length ≠ 32) : wrongK k = 2 := by unfold wrongK; rw [if_neg h, if_pos h2]
theorem wrongK_0 {k : Kn} (h : ¬ (k.height < 1 ∨ 1000000000000 < k.height ∨ k.time < 0 ∨ 1000000000000 < k.time)) (h2 : ¬ (k.root.length ≠ 32 ∨ k.next.length ≠ 32)) : wrongK k = 0 := by unfold wrongK; rw [if_neg h, if_neg h2]
def aheadI : Option Int → Int → Bool
  | none, _ => false
  | some k, x => decide (x ≤ k)
/-- .. behind one of this height -/
def knGo (p : Option Int) : List Kn → Int
  | [] => 0
  | k :: r => if wrongK k ≠ 0 then wrongK k else if aheadI p k.height = true then 2 else knGo (some k.height) r
/-- the height ahead of the j-th -/
def prevKn (l : List Kn) (j : Nat) : Option Int := if j = 0 then none else (l[j - 1]?).map (·.height)
theorem prevKn_zero (l : List Kn) : prevKn l 0 = none := rfl
theorem prevKn_succ (l : List Kn) (j : Nat) (y : Kn) (h : l[j]? = some y) : prevKn l (j + 1) = some y.height := by simp [prevKn, h]
theorem knGo_at (l : List Kn) (j : Nat) (k : Kn) (h : l[j]? = some k) : knGo (prevKn l j) (l.drop j) =
    if wrongK k ≠ 0 then wrongK k else if aheadI (prevKn l j) k.height = true then 2 else knGo (prevKn l (j + 1)) (l.drop (j + 1)) := by
  obtain ⟨hk, rfl⟩ := List.getElem?_eq_some_iff.1 h
  rw [List.drop_eq_getElem_cons hk, knGo, prevKn_succ l j _ h]
theorem knGo_end (l : List Kn) (k : Nat) (h : l.length ≤ k) : knGo (prevKn l k) (l.drop k) = 0 := by
  rw [List.drop_eq_nil_of_le h, knGo]
/-- heights rise -/
def Rising (l : List Kn) : Prop := l.Pairwise fun a b => a.height < b.height
theorem knGo_iff : ∀ (l : List Kn) (p : Option Int), knGo p l = 0 ↔ (∀ k ∈ l, wrongK k = 0) ∧ (∀ h, p = some h → ∀ k ∈ l, h < k.height) ∧ Rising l
  | [], _ => by simp [knGo, Rising]
  | k :: r, p => by
    rw [knGo]
    constructor
    · intro h
      split at h
      · rename_i h1; exact absurd h h1
      · rename_i h1
        split at h
        · cases h
        · rename_i h2
          obtain ⟨i1, i2, i3⟩ := (knGo_iff r (some k.height)).1 h
          have i2' := i2 k.height rfl
          refine ⟨fun x hx => ?_, fun hh hp x hx => ?_, List.Pairwise.cons (fun x hx => i2' x hx) i3⟩
          · rcases List.mem_cons.1 hx with rfl | hx
            · omega
            · exact i1 x hx
          · subst hp
            simp [aheadI] at h2
            rcases List.mem_cons.1 hx with rfl | hx
            · exact h2
            · exact Int.lt_trans h2 (i2' x hx)
    · rintro ⟨h1, h2, h3⟩
      have h1k := h1 k List.mem_cons_self
      rw [if_neg (by omega), if_neg]
      · refine (knGo_iff r (some k.height)).2 ⟨fun x hx => h1 x (List.mem_cons_of_mem _ hx), fun hh hp x hx => ?_, (List.pairwise_cons.1 h3).2⟩
        obtain rfl : k.height = hh := by simpa using hp
        exact (List.pairwise_cons.1 h3).1 x hx
      · cases p with
        | none => simp [aheadI]
        | some hh =>
          have := h2 hh rfl k List.mem_cons_self
          simp [aheadI]
          omega
def wrongCl (c : Cl) : Int := if nameB c.chain = false then 7 else if c.trust < 1 ∨ 1000000000000 < c.trust then 3 else if c.known.length < 1 ∨ 30 < c.known.length then 5 else knGo none c.known
theorem wrongCl_iff (c : Cl) : wrongCl c = 0 ↔ nameB c.chain = true ∧ (1 ≤ c.trust ∧ c.trust ≤ 1000000000000) ∧ (1 ≤ c.known.length ∧ c.known.length ≤ 30) ∧ (∀ k ∈ c.known, wrongK k = 0) ∧ Rising c.known := by
  unfold wrongCl
  constructor
  · intro h
    split at h
    · cases h
    · rename_i h1
      split at h
      · cases h
      · rename_i h2
        split at h
        · cases h
        · rename_i h3
          obtain ⟨i1, _, i3⟩ := (knGo_iff _ _).1 h
          exact ⟨by simpa using h1, by omega, by omega, i1, i3⟩
  · rintro ⟨h1, h2, h3, h4, h5⟩
    rw [if_neg (by simp [h1]), if_neg (by omega), if_neg (by omega)]
    exact (knGo_iff _ _).2 ⟨h4, fun _ h => (by cases h), h5⟩
theorem wrongCl_7 {c : Cl} (h : nameB c.chain = false) : wrongCl c = 7 := by unfold wrongCl; rw [if_pos h]
theorem wrongCl_3 {c : Cl} (h : nameB c.chain = true) (h2 : c.trust < 1 ∨ 1000000000000 < c.trust) : wrongCl c = 3 := by unfold wrongCl; rw [if_neg (by simp [h]), if_pos h2]
theorem wrongCl_5 {c : Cl} (h : nameB c.chain = true) (h2 : ¬ (c.trust < 1 ∨ 1000000000000 < c.trust)) (h3 : c.known.length < 1 ∨ 30 < c.known.length) : wrongCl c = 5 := by unfold wrongCl; rw [if_neg (by simp [h]), if_neg h2, if_pos h3]
theorem wrongCl_go {c : Cl} (h : nameB c.chain = true) (h2 : ¬ (c.trust < 1 ∨ 1000000000000 < c.trust)) (h3 : ¬ (c.known.length < 1 ∨ 30 < c.known.length)) : wrongCl c = knGo (prevKn c.known 0) (c.known.drop 0) := by
  unfold wrongCl; rw [if_neg (by simp [h]), if_neg h2, if_neg h3]; rfl
theorem wrongCl_frozen (c : Cl) (b : Bool) : wrongCl { c with frozen := b } = wrongCl c := rfl

/-- what New answers -/
def newC (chain : ByteArray) (trust : Int) (k : Kn) : Cl := ⟨chain, trust, false, [k]⟩
def newR (chain : ByteArray) (trust : Int) (k : Kn) : Cl := if wrongCl (newC chain trust k) = 0 then newC chain trust k else Cl.none

/-- what is known of a height -/
def atK (l : List Kn) (h : Int) : Option Kn := l.find? fun k => decide (k.height = h)
theorem atK_some {l : List Kn} {h : Int} {k : Kn} (e : atK l h = some k) : k ∈ l ∧ k.height = h :=
  ⟨List.mem_of_find?_eq_some e, by have := List.find?_some e; simpa using this⟩
theorem atK_none {l : List Kn} {h : Int} (e : atK l h = none) : ∀ k ∈ l, k.height ≠ h := fun k hk => by
  have := List.find?_eq_none.1 e k hk
  simpa using this
theorem Rising.eq {l : List Kn} (h : Rising l) {a b : Kn} (ha : a ∈ l) (hb : b ∈ l) (e : a.height = b.height) : a = b := by
  induction l with
  | nil => cases ha
  | cons x r ih =>
    obtain ⟨h1, h2⟩ := List.pairwise_cons.1 h
    rcases List.mem_cons.1 ha with ha' | ha'
    · rcases List.mem_cons.1 hb with hb' | hb'
      · rw [ha', hb']
      · have := h1 b hb'; rw [← ha'] at this; omega
    · rcases List.mem_cons.1 hb with hb' | hb'
      · have := h1 a ha'; rw [← hb'] at this; omega
      · exact ih h2 ha' hb'
theorem atK_mem {l : List Kn} (h : Rising l) {k : Kn} (hk : k ∈ l) : atK l k.height = some k := by
  cases e : atK l k.height with
  | none => exact absurd rfl (atK_none e k hk)
  | some x =>
    obtain ⟨h1, h2⟩ := atK_some e
    rw [h.eq h1 hk h2]
theorem atK_of {l : List Kn} {h : Int} (e : ∀ k ∈ l, k.height ≠ h) : atK l h = none := List.find?_eq_none.2 fun k hk => by simpa using e k hk
/-- whether a client may be asked -/
def activeB (c : Cl) (now : Int) : Bool := !c.frozen && (match c.known.getLast? with
  | some k => decide (now - k.time < c.trust)
  | none => false)

/-- what keeps one from believing a header, from what is known -/
def believeAt (c : Cl) (k : Kn) (u : Up) (now : Int) : Int :=
  if u.sg.hd.chain ≠ c.chain then 7 else if c.trust ≤ now - k.time then 11 else if u.sg.hd.height ≤ k.height then 3
  else if u.sg.hd.time ≤ k.time ∨ 10 < u.sg.hd.time - now then 11
  else if u.sg.hd.height = k.height + 1 then (if u.sg.hd.vals = k.next then 0 else 8)
  else if valsN u.trusted ≠ 0 then valsN u.trusted else if digV u.trusted ≠ k.next then 8 else if overB u.trusted u.sg = false then 10 else 0
def believeN (c : Cl) (u : Up) (now : Int) : Int :=
  if checkN u.sg ≠ 0 then checkN u.sg else match atK c.known u.frm with
  | none => 6
  | some k => believeAt c k u now
def askedN (c : Cl) (now : Int) : Int := if wrongCl c ≠ 0 then wrongCl c else if now < 0 ∨ 1000000000000 < now then 3 else if c.frozen = true then 12 else 0
theorem askedN_ok {c : Cl} {now : Int} (h : askedN c now = 0) : wrongCl c = 0 ∧ (0 ≤ now ∧ now ≤ 1000000000000) ∧ c.frozen = false := by
  unfold askedN at h
  split at h
  · rename_i h1; exact absurd h h1
  · rename_i h1
    split at h
    · cases h
    · rename_i h2
      split at h
      · cases h
      · rename_i h3
        exact ⟨by omega, by omega, by simpa using h3⟩
theorem askedN_of {c : Cl} {now : Int} (h1 : wrongCl c = 0) (h2 : 0 ≤ now ∧ now ≤ 1000000000000) (h3 : c.frozen = false) : askedN c now = 0 := by
  unfold askedN
  rw [if_neg (by omega), if_neg (by omega), if_neg (by simp [h3])]
theorem askedN_frozen {c : Cl} {now : Int} (h1 : wrongCl c = 0) (h2 : 0 ≤ now ∧ now ≤ 1000000000000) (h3 : c.frozen = true) : askedN c now = 12 := by
  unfold askedN
  rw [if_neg (by omega), if_neg (by omega), if_pos h3]

/-- what is known below a height, and above -/
def lowK (l : List Kn) (h : Int) : List Kn := l.filter fun k => decide (k.height < h)
def highK (l : List Kn) (h : Int) : List Kn := l.filter fun k => decide (h < k.height)
theorem low_high {l : List Kn} (hs : Rising l) {h : Int} (e : ∀ k ∈ l, k.height ≠ h) : l = lowK l h ++ highK l h := by
  induction l with
  | nil => rfl
  | cons x r ih =>
    obtain ⟨h1, h2⟩ := List.pairwise_cons.1 hs
    have ihr := ih h2 (fun k hk => e k (List.mem_cons_of_mem _ hk))
    have hx := e x List.mem_cons_self
    by_cases hlt : x.height < h
    · have e1 : lowK (x :: r) h = x :: lowK r h := by simp [lowK, hlt]
      have e2 : highK (x :: r) h = highK r h := by
        have : ¬ h < x.height := by omega
        simp [highK, this]
      rw [e1, e2, List.cons_append, ← ihr]
    · have e1 : lowK (x :: r) h = [] := by
        apply List.filter_eq_nil_iff.2
        intro k hk
        rcases List.mem_cons.1 hk with rfl | hk
        · simpa using hlt
        · have := h1 k hk
          simp
          omega
      have e2 : highK (x :: r) h = x :: r := by
        apply List.filter_eq_self.2
        intro k hk
        rcases List.mem_cons.1 hk with rfl | hk
        · simp; omega
        · have := h1 k hk
          simp
          omega
      rw [e1, e2, List.nil_append]
/-- what is learnt, in its place -/
def putK (l : List Kn) (k : Kn) : List Kn := lowK l k.height ++ k :: highK l k.height
/-- the lowest one no more, if these are too many -/
def cutK (l : List Kn) : List Kn := if 30 < l.length then l.drop 1 else l
/-- is a time between those of the neighbours -/
def timeB (l : List Kn) (h t : Int) : Bool := (match (lowK l h).getLast? with
  | some x => decide (x.time < t)
  | none => true) && (match (highK l h).head? with
  | some x => decide (t < x.time)
  | none => true)
def sameK (a b : Kn) : Bool := decide (a.time = b.time) && (decide (a.root = b.root) && decide (a.next = b.next))
theorem sameK_eq {a b : Kn} (h : a.height = b.height) (e : sameK a b = true) : a = b := by
  simp [sameK] at e
  obtain ⟨a1, a2, a3, a4⟩ := a
  obtain ⟨b1, b2, b3, b4⟩ := b
  simp at h e
  rw [h, e.1, e.2.1, e.2.2]
theorem sameK_refl (a : Kn) : sameK a a = true := by simp [sameK]
/-- what a client is that has learnt something -/
def learnC (c : Cl) (k : Kn) : Cl := match atK c.known k.height with
  | some o => { c with frozen := !sameK o k }
  | none => if timeB c.known k.height k.time = true then { c with known := cutK (putK c.known k) } else { c with frozen := true }
def knOf (h : Hd) : Kn := ⟨h.height, h.time, h.root, h.next⟩
/-- what Follow answers -/
def followE (c : Cl) (u : Up) (now : Int) : Int := if askedN c now ≠ 0 then askedN c now else believeN c u now
def followC (c : Cl) (u : Up) (now : Int) : Cl := if followE c u now = 0 then learnC c (knOf u.sg.hd) else Cl.none
/-- are headers the same -/
def sameH (a b : Hd) : Bool := decide (a.chain = b.chain) && (decide (a.height = b.height) && (decide (a.time = b.time) && (decide (a.root = b.root) && (decide (a.vals = b.vals) && decide (a.next = b.next)))))
theorem sameH_iff (a b : Hd) : sameH a b = true ↔ a = b := by
  obtain ⟨a1, a2, a3, a4, a5, a6⟩ := a
  obtain ⟨b1, b2, b3, b4, b5, b6⟩ := b
  simp [sameH]
/-- what Catch answers -/
def catchE (c : Cl) (a b : Up) (now : Int) : Int :=
  if askedN c now ≠ 0 then askedN c now else if believeN c a now ≠ 0 then believeN c a now else if believeN c b now ≠ 0 then believeN c b now
  else if a.sg.hd.height ≠ b.sg.hd.height ∨ sameH a.sg.hd b.sg.hd = true then 8 else 0
def catchC (c : Cl) (a b : Up) (now : Int) : Cl := if catchE c a b now = 0 then { c with frozen := true } else Cl.none
theorem followE_ok {c : Cl} {u : Up} {now : Int} (h : followE c u now = 0) : askedN c now = 0 ∧ believeN c u now = 0 := by
  unfold followE at h
  split at h
  · rename_i h1; exact absurd h h1
  · rename_i h1; exact ⟨by omega, h⟩
theorem believeN_ok {c : Cl} {u : Up} {now : Int} (h : believeN c u now = 0) : checkN u.sg = 0 ∧ ∃ k, atK c.known u.frm = some k ∧ believeAt c k u now = 0 := by
  unfold believeN at h
  split at h
  · rename_i h1; exact absurd h h1
  · rename_i h1
    cases e : atK c.known u.frm with
    | none => rw [e] at h; cases h
    | some k => rw [e] at h; exact ⟨by omega, k, rfl, h⟩
theorem believeAt_ok {c : Cl} {k : Kn} {u : Up} {now : Int} (h : believeAt c k u now = 0) : u.sg.hd.chain = c.chain ∧ now - k.time < c.trust ∧ k.height < u.sg.hd.height ∧ k.time < u.sg.hd.time ∧
    ((u.sg.hd.height = k.height + 1 ∧ u.sg.hd.vals = k.next) ∨ (u.sg.hd.height ≠ k.height + 1 ∧ valsN u.trusted = 0 ∧ digV u.trusted = k.next ∧ overB u.trusted u.sg = true)) := by
  unfold believeAt at h
  split at h
  · cases h
  · rename_i h1
    split at h
    · cases h
    · rename_i h2
      split at h
      · cases h
      · rename_i h3
        split at h
        · cases h
        · rename_i h4
          refine ⟨by simpa using h1, by omega, by omega, by omega, ?_⟩
          split at h
          · rename_i h5
            split at h
            · rename_i h6; exact .inl ⟨h5, h6⟩
            · cases h
          · rename_i h5
            split at h
            · rename_i h6; exact absurd h h6
            · rename_i h6
              split at h
              · cases h
              · rename_i h7
                split at h
                · cases h
                · rename_i h8
                  exact .inr ⟨h5, by omega, by simpa using h7, by simpa using h8⟩
theorem knOf_right {h : Hd} (e : wrongH h = 0) : wrongK (knOf h) = 0 := by
  obtain ⟨_, h2, h3, _, h5⟩ := wrongH_ok e
  exact (wrongK_iff _).2 ⟨h2, h3, h5⟩
theorem checkN_right {s : Sg} (e : checkN s = 0) : wrongH s.hd = 0 ∧ valsN s.vals = 0 := by
  have := togetherN_ok (checkN_ok e).1
  exact ⟨this.1, this.2.1⟩

theorem rising_put {l : List Kn} (hs : Rising l) (k : Kn) : Rising (putK l k) := by
  refine List.pairwise_append.2 ⟨hs.filter _, List.pairwise_cons.2 ⟨fun x hx => ?_, hs.filter _⟩, fun a ha b hb => ?_⟩
  · have := (List.mem_filter.1 hx).2
    simpa using this
  · have h1 : a.height < k.height := by simpa using (List.mem_filter.1 ha).2
    rcases List.mem_cons.1 hb with rfl | hb
    · exact h1
    · have h2 : k.height < b.height := by simpa using (List.mem_filter.1 hb).2
      omega
theorem mem_put {l : List Kn} {k x : Kn} (h : x ∈ putK l k) : x = k ∨ x ∈ l := by
  rcases List.mem_append.1 h with h | h
  · exact .inr (List.mem_filter.1 h).1
  · rcases List.mem_cons.1 h with h | h
    · exact .inl h
    · exact .inr (List.mem_filter.1 h).1
theorem put_mem {l : List Kn} {k x : Kn} (h : x ∈ l) (hx : x.height ≠ k.height) : x ∈ putK l k := by
  by_cases hl : x.height < k.height
  · exact List.mem_append.2 (.inl (List.mem_filter.2 ⟨h, by simpa using hl⟩))
  · exact List.mem_append.2 (.inr (List.mem_cons_of_mem _ (List.mem_filter.2 ⟨h, by simp; omega⟩)))
theorem put_self (l : List Kn) (k : Kn) : k ∈ putK l k := List.mem_append.2 (.inr List.mem_cons_self)
theorem put_length {l : List Kn} (hs : Rising l) {k : Kn} (e : ∀ x ∈ l, x.height ≠ k.height) : (putK l k).length = l.length + 1 := by
  have := congrArg List.length (low_high hs e)
  rw [List.length_append] at this
  unfold putK
  simp
  omega
theorem mem_cut {l : List Kn} {x : Kn} (h : x ∈ cutK l) : x ∈ l := by
  unfold cutK at h
  split at h
  · exact List.mem_of_mem_drop h
  · exact h
theorem rising_cut {l : List Kn} (h : Rising l) : Rising (cutK l) := by
  unfold cutK
  split
  · exact List.Pairwise.drop h
  · exact h
theorem cut_length (l : List Kn) (h : l.length ≤ 31) : (cutK l).length ≤ 30 := by
  unfold cutK
  split
  · simp; omega
  · omega
theorem cut_some (l : List Kn) (h : 1 ≤ l.length) : 1 ≤ (cutK l).length := by
  unfold cutK
  split
  · simp; omega
  · exact h
/-- what is not the first one stays -/
theorem cut_mem {l : List Kn} {x : Kn} (h : x ∈ l) (h0 : l.head? ≠ some x) : x ∈ cutK l := by
  unfold cutK
  split
  · cases l with
    | nil => cases h
    | cons y r =>
      rcases List.mem_cons.1 h with rfl | h
      · simp at h0
      · simpa using h
  · exact h
theorem cut_few {l : List Kn} (h : l.length ≤ 30) : cutK l = l := by unfold cutK; rw [if_neg (by omega)]

/-- behind what is learnt a client is right -/
theorem learn_right {c : Cl} {k : Kn} (hc : wrongCl c = 0) (hk : wrongK k = 0) : wrongCl (learnC c k) = 0 := by
  obtain ⟨h1, h2, h3, h4, h5⟩ := (wrongCl_iff c).1 hc
  unfold learnC
  cases e : atK c.known k.height with
  | some o => exact hc
  | none =>
    have hne := atK_none e
    simp only
    split
    · refine (wrongCl_iff _).2 ⟨h1, h2, ⟨cut_some _ ?_, cut_length _ ?_⟩, fun x hx => ?_, rising_cut (rising_put h5 k)⟩
      · rw [put_length h5 hne]; omega
      · rw [put_length h5 hne]; omega
      · rcases mem_put (mem_cut hx) with rfl | hx
        · exact hk
        · exact h4 x hx
    · exact hc
theorem learn_same {c : Cl} {k : Kn} : (learnC c k).chain = c.chain ∧ (learnC c k).trust = c.trust := by
  unfold learnC
  cases atK c.known k.height with
  | some o => exact ⟨rfl, rfl⟩
  | none => simp only; split <;> exact ⟨rfl, rfl⟩
theorem learn_rising {c : Cl} {k : Kn} (h : Rising c.known) : Rising (learnC c k).known := by
  unfold learnC
  cases atK c.known k.height with
  | some o => exact h
  | none =>
    simp only
    split
    · exact rising_cut (rising_put h k)
    · exact h
theorem learn_mem {c : Cl} {k x : Kn} (h : x ∈ (learnC c k).known) : x = k ∨ x ∈ c.known := by
  unfold learnC at h
  cases e : atK c.known k.height with
  | some o => rw [e] at h; exact .inr h
  | none =>
    rw [e] at h
    simp only at h
    split at h
    · exact mem_put (mem_cut h)
    · exact .inr h
/-- what was known is known, but for the lowest one -/
theorem learn_keeps {c : Cl} {k x : Kn} {i : Nat} (hs : Rising c.known) (h30 : c.known.length ≤ 30) (hx : c.known[i]? = some x) : atK (learnC c k).known x.height = some x ∨ (atK (learnC c k).known x.height = none ∧ i = 0 ∧ c.known.length = 30) := by
  have hm : x ∈ c.known := List.mem_of_getElem? hx
  have hr : Rising (learnC c k).known := learn_rising hs
  by_cases hin : x ∈ (learnC c k).known
  · exact .inl (atK_mem hr hin)
  · right
    unfold learnC at hin ⊢
    cases e : atK c.known k.height with
    | some o => rw [e] at hin; exact absurd hm hin
    | none =>
      rw [e] at hin
      simp only at hin ⊢
      have hne := atK_none e
      split at hin
      · rename_i ht
        rw [if_pos ht]
        simp only at hin ⊢
        have hp : x ∈ putK c.known k := put_mem hm (hne x hm)
        have hrp := rising_cut (rising_put hs k)
        have hh : (putK c.known k).head? = some x := Classical.byContradiction fun h => hin (cut_mem hp h)
        have hlen : 30 < (putK c.known k).length := Classical.byContradiction fun h => hin (by rw [cut_few (by omega)]; exact hp)
        rw [put_length hs hne] at hlen
        refine ⟨atK_of fun y hy he => ?_, ?_, by omega⟩
        · obtain rfl := (rising_put hs k).eq (mem_cut hy) hp he
          exact hin hy
        · have hlow : (lowK c.known k.height).head? = some x := by
            unfold putK at hh
            cases hl : lowK c.known k.height with
            | nil =>
              rw [hl] at hh
              simp at hh
              exact absurd (by rw [hh]) (hne x hm)
            | cons y r =>
              rw [hl] at hh
              simpa using hh
          have hc0 : c.known.head? = some x := by
            rw [low_high hs hne]
            cases hl : lowK c.known k.height with
            | nil => rw [hl] at hlow; cases hlow
            | cons y r => rw [hl] at hlow; simpa using hlow
          cases i with
          | zero => rfl
          | succ i =>
            exfalso
            cases hk : c.known with
            | nil => rw [hk] at hx; simp at hx
            | cons y r =>
              rw [hk] at hx hc0 hs
              obtain rfl : y = x := by simpa using hc0
              have := (List.pairwise_cons.1 hs).1 y (List.mem_of_getElem? (by simpa using hx))
              omega
      · exact absurd hm hin
/-- .. and so is what is learnt, but where it is frozen, or it is the lowest one -/
theorem learn_known {c : Cl} {k : Kn} (hs : Rising c.known) (h30 : c.known.length ≤ 30) : (learnC c k).frozen = true ∨ atK (learnC c k).known k.height = some k ∨ (atK (learnC c k).known k.height = none ∧ c.known.length = 30) := by
  have hr : Rising (learnC c k).known := learn_rising hs
  unfold learnC at hr ⊢
  cases e : atK c.known k.height with
  | some o =>
    simp only
    obtain ⟨h1, h2⟩ := atK_some e
    cases hq : sameK o k with
    | false => exact .inl rfl
    | true => rw [sameK_eq h2 hq] at e; exact .inr (.inl e)
  | none =>
    rw [e] at hr
    simp only at hr ⊢
    have hne := atK_none e
    split at hr
    · rename_i ht
      rw [if_pos ht]
      simp only at hr ⊢
      right
      by_cases hin : k ∈ cutK (putK c.known k)
      · exact .inl (atK_mem hr hin)
      · right
        have hp := put_self c.known k
        have hlen : 30 < (putK c.known k).length := Classical.byContradiction fun h => hin (by rw [cut_few (by omega)]; exact hp)
        rw [put_length hs hne] at hlen
        refine ⟨atK_of fun y hy he => ?_, by omega⟩
        obtain rfl := (rising_put hs k).eq (mem_cut hy) hp he
        exact hin hy
    · rename_i ht
      rw [if_neg ht]
      exact .inl rfl
/-- what is known already, as it is, changes nothing -/
theorem learn_again {c : Cl} {k : Kn} (hf : c.frozen = false) (h : atK c.known k.height = some k) : learnC c k = c := by
  unfold learnC
  rw [h]
  simp only [sameK_refl]
  obtain ⟨a, b, f, l⟩ := c
  simp at hf
  rw [hf]
  rfl
theorem learn_fits {c : Cl} {k : Kn} (hc : c.fits) (hk : k.fits) (h30 : c.known.length ≤ 30) (hs : Rising c.known) : (learnC c k).fits := by
  obtain ⟨h1, h2, h3⟩ := hc
  refine ⟨by rw [learn_same.1]; exact h1, ?_, fun x hx => ?_⟩
  · unfold learnC
    cases e : atK c.known k.height with
    | some o => exact h2
    | none =>
      simp only
      split
      · have := cut_length (putK c.known k) (by rw [put_length hs (atK_none e)]; omega)
        simp only
        omega
      · exact h2
  · rcases learn_mem hx with rfl | hx
    · exact hk
    · exact h3 x hx
/-- where a height stands, or would -/
def AtI (h : Int) (l : List Kn) (i : Nat) (fd : Bool) : Prop := i ≤ l.length ∧ (∀ t k, t < i → l[t]? = some k → k.height < h) ∧ (∀ t k, i ≤ t → l[t]? = some k → h ≤ k.height) ∧ (fd = true ↔ ∃ k, l[i]? = some k ∧ k.height = h)
theorem AtI.yes {l : List Kn} {h : Int} {i : Nat} (hs : Rising l) (a : AtI h l i true) : ∃ k, l[i]? = some k ∧ k.height = h ∧ atK l h = some k := by
  obtain ⟨k, hk, he⟩ := a.2.2.2.1 rfl
  refine ⟨k, hk, he, ?_⟩
  rw [← he]
  exact atK_mem hs (List.mem_of_getElem? hk)
theorem AtI.high {l : List Kn} {h : Int} {i : Nat} (hs : Rising l) (a : AtI h l i false) : ∀ t k, i ≤ t → l[t]? = some k → h < k.height := by
  intro t k ht hk
  have h1 := a.2.2.1 t k ht hk
  rcases Int.lt_or_eq_of_le h1 with h2 | h2
  · exact h2
  · exfalso
    have hil : i < l.length := by have := (List.getElem?_eq_some_iff.1 hk).1; omega
    obtain ⟨y, hy⟩ : ∃ y, l[i]? = some y := ⟨l[i], List.getElem?_eq_getElem hil⟩
    have h3 := a.2.2.1 i y (Nat.le_refl _) hy
    have : (false : Bool) = true := a.2.2.2.2 ⟨y, hy, by
      rcases Nat.lt_or_eq_of_le ht with h4 | h4
      · obtain ⟨q1, q2⟩ := List.getElem?_eq_some_iff.1 hk
        obtain ⟨q3, q4⟩ := List.getElem?_eq_some_iff.1 hy
        have := List.pairwise_iff_getElem.1 hs i t q3 q1 h4
        rw [q2, q4] at this
        omega
      · subst h4
        rw [hk] at hy
        obtain rfl : k = y := by simpa using hy
        omega⟩
    cases this
theorem AtI.no {l : List Kn} {h : Int} {i : Nat} (hs : Rising l) (a : AtI h l i false) : atK l h = none ∧ lowK l h = l.take i ∧ highK l h = l.drop i := by
  have hh := a.high hs
  have hlo : ∀ k ∈ l.take i, k.height < h := fun k hk => by
    obtain ⟨t, ht, rfl⟩ := List.getElem_of_mem hk
    have ht' : t < i := by simp at ht; omega
    exact a.2.1 t _ ht' (by rw [← List.getElem?_eq_getElem, List.getElem?_take, if_pos ht'])
  have hhi : ∀ k ∈ l.drop i, h < k.height := fun k hk => by
    obtain ⟨t, ht, rfl⟩ := List.getElem_of_mem hk
    exact hh (i + t) _ (by omega) (by rw [← List.getElem?_drop, List.getElem?_eq_getElem])
  have hl : l = l.take i ++ l.drop i := (List.take_append_drop i l).symm
  refine ⟨atK_of fun k hk => ?_, ?_, ?_⟩
  · rw [hl] at hk
    rcases List.mem_append.1 hk with hk | hk
    · have := hlo k hk; omega
    · have := hhi k hk; omega
  · conv => lhs; rw [hl]
    unfold lowK
    rw [List.filter_append, List.filter_eq_self.2 (fun k hk => by simpa using hlo k hk), List.filter_eq_nil_iff.2 (fun k hk => by have := hhi k hk; simp; omega), List.append_nil]
  · conv => lhs; rw [hl]
    unfold highK
    rw [List.filter_append, List.filter_eq_nil_iff.2 (fun k hk => by have := hlo k hk; simp; omega), List.filter_eq_self.2 (fun k hk => by simpa using hhi k hk), List.nil_append]
theorem AtI.put {l : List Kn} {k : Kn} {i : Nat} (hs : Rising l) (a : AtI k.height l i false) : putK l k = l.take i ++ k :: l.drop i := by
  obtain ⟨_, h1, h2⟩ := a.no hs
  unfold putK
  rw [h1, h2]
/-- is a time between those beside a place -/
def lowT (l : List Kn) (i : Nat) (t : Int) : Bool := match i with
  | 0 => true
  | j + 1 => match l[j]? with
    | some k => decide (k.time < t)
    | none => true
def highT (l : List Kn) (i : Nat) (t : Int) : Bool := match l[i]? with
  | some k => decide (t < k.time)
  | none => true
theorem AtI.time {l : List Kn} {h t : Int} {i : Nat} (hs : Rising l) (a : AtI h l i false) : timeB l h t = (lowT l i t && highT l i t) := by
  obtain ⟨_, h1, h2⟩ := a.no hs
  unfold timeB
  rw [h1, h2]
  congr 1
  · unfold lowT
    cases i with
    | zero => simp
    | succ j =>
      have hj : j < l.length := by have := a.1; omega
      have e : (l.take (j + 1)).getLast? = l[j]? := by
        rw [List.getLast?_eq_getElem?, List.getElem?_take, if_pos]
        · simp
          congr 1
          omega
        · simp; omega
      rw [e]
  · unfold highT
    rw [List.head?_drop]

/-- is a block's time not where it should be -/
def offB (k : Kn) (h t : Int) : Bool := (decide (k.height < h) && decide (t ≤ k.time)) || (decide (h < k.height) && decide (k.time ≤ t))
/-- does nothing stand between two heights -/
def nbB (l : List Kn) (a b : Int) : Bool := l.all fun k => !((decide (a < k.height) && decide (k.height < b)) || (decide (b < k.height) && decide (k.height < a)))
def frzB (all : List Kn) (f : Kn) (l : List Kn) : Bool := l.any fun k => (decide (k.height = f.height) && !sameK k f) || (offB k f.height f.time && nbB all k.height f.height)
theorem last_max {l : List Kn} (hs : Rising l) {y : Kn} (e : l.getLast? = some y) : ∀ x ∈ l, x = y ∨ x.height < y.height := by
  intro x hx
  obtain ⟨i, hi, rfl⟩ := List.getElem_of_mem hx
  rw [List.getLast?_eq_getElem?] at e
  obtain ⟨hl, rfl⟩ := List.getElem?_eq_some_iff.1 e
  by_cases h : i = l.length - 1
  · subst h; exact .inl rfl
  · exact .inr (List.pairwise_iff_getElem.1 hs i (l.length - 1) hi hl (by omega))
theorem head_min {l : List Kn} (hs : Rising l) {y : Kn} (e : l.head? = some y) : ∀ x ∈ l, x = y ∨ y.height < x.height := by
  cases l with
  | nil => cases e
  | cons a r =>
    obtain rfl : a = y := by simpa using e
    intro x hx
    rcases List.mem_cons.1 hx with h | h
    · exact .inl h
    · exact .inr ((List.pairwise_cons.1 hs).1 x h)
theorem frz_time {l : List Kn} (hs : Rising l) {f : Kn} (hne : ∀ k ∈ l, k.height ≠ f.height) : frzB l f l = !timeB l f.height f.time := by
  have hsl : Rising (lowK l f.height) := hs.filter _
  have hsh : Rising (highK l f.height) := hs.filter _
  have ml : ∀ x, x ∈ lowK l f.height ↔ x ∈ l ∧ x.height < f.height := fun x => by simp [lowK]
  have mh : ∀ x, x ∈ highK l f.height ↔ x ∈ l ∧ f.height < x.height := fun x => by simp [highK]
  cases hT : timeB l f.height f.time with
  | true =>
    show frzB l f l = false
    unfold frzB
    rw [List.any_eq_false]
    intro k hk
    have hkn := hne k hk
    unfold timeB at hT
    rw [Bool.and_eq_true] at hT
    obtain ⟨t1, t2⟩ := hT
    rw [decide_eq_false hkn, Bool.false_and, Bool.false_or, Bool.not_eq_true]
    cases ho : offB k f.height f.time with
    | false => rfl
    | true =>
      rw [Bool.true_and]
      unfold nbB
      rw [List.all_eq_false]
      simp [offB] at ho
      rcases ho with ⟨o1, o2⟩ | ⟨o1, o2⟩
      · have hkl := (ml k).2 ⟨hk, o1⟩
        cases hg : (lowK l f.height).getLast? with
        | none => rw [List.getLast?_eq_none_iff.1 hg] at hkl; cases hkl
        | some y =>
          rw [hg] at t1
          simp at t1
          have hy := (ml y).1 (List.mem_of_getLast? hg)
          rcases last_max hsl hg k hkl with rfl | hlt
          · omega
          · exact ⟨y, hy.1, by simp; omega⟩
      · have hkh := (mh k).2 ⟨hk, o1⟩
        cases hg : (highK l f.height).head? with
        | none => rw [List.head?_eq_none_iff.1 hg] at hkh; cases hkh
        | some y =>
          rw [hg] at t2
          simp at t2
          have hy := (mh y).1 (List.mem_of_head? hg)
          rcases head_min hsh hg k hkh with rfl | hlt
          · omega
          · exact ⟨y, hy.1, by simp; omega⟩
  | false =>
    show frzB l f l = true
    unfold frzB
    rw [List.any_eq_true]
    unfold timeB at hT
    rw [Bool.and_eq_false_iff] at hT
    rcases hT with hT | hT
    · cases hg : (lowK l f.height).getLast? with
      | none => rw [hg] at hT; cases hT
      | some y =>
        rw [hg] at hT
        simp at hT
        obtain ⟨hy1, hy2⟩ := (ml y).1 (List.mem_of_getLast? hg)
        refine ⟨y, hy1, ?_⟩
        have hn : nbB l y.height f.height = true := by
          unfold nbB
          rw [List.all_eq_true]
          intro x hx
          by_cases hxl : x.height < f.height
          · rcases last_max hsl hg x ((ml x).2 ⟨hx, hxl⟩) with rfl | hlt
            · rw [Bool.not_eq_true', Bool.or_eq_false_iff, Bool.and_eq_false_iff, Bool.and_eq_false_iff]; simp only [decide_eq_false_iff_not]; omega
            · rw [Bool.not_eq_true', Bool.or_eq_false_iff, Bool.and_eq_false_iff, Bool.and_eq_false_iff]; simp only [decide_eq_false_iff_not]; omega
          · rw [Bool.not_eq_true', Bool.or_eq_false_iff, Bool.and_eq_false_iff, Bool.and_eq_false_iff]; simp only [decide_eq_false_iff_not]; omega
        have ho : offB y f.height f.time = true := by simp [offB]; omega
        rw [hn, ho]
        simp
    · cases hg : (highK l f.height).head? with
      | none => rw [hg] at hT; cases hT
      | some y =>
        rw [hg] at hT
        simp at hT
        obtain ⟨hy1, hy2⟩ := (mh y).1 (List.mem_of_head? hg)
        refine ⟨y, hy1, ?_⟩
        have hn : nbB l y.height f.height = true := by
          unfold nbB
          rw [List.all_eq_true]
          intro x hx
          by_cases hxl : f.height < x.height
          · rcases head_min hsh hg x ((mh x).2 ⟨hx, hxl⟩) with rfl | hlt
            · rw [Bool.not_eq_true', Bool.or_eq_false_iff, Bool.and_eq_false_iff, Bool.and_eq_false_iff]; simp only [decide_eq_false_iff_not]; omega
            · rw [Bool.not_eq_true', Bool.or_eq_false_iff, Bool.and_eq_false_iff, Bool.and_eq_false_iff]; simp only [decide_eq_false_iff_not]; omega
          · rw [Bool.not_eq_true', Bool.or_eq_false_iff, Bool.and_eq_false_iff, Bool.and_eq_false_iff]; simp only [decide_eq_false_iff_not]; omega
        have ho : offB y f.height f.time = true := by simp [offB]; omega
        rw [hn, ho]
        simp
theorem frzB_take (all : List Kn) (f : Kn) (l : List Kn) (j : Nat) (k : Kn) (h : l[j]? = some k) : frzB all f (l.take (j + 1)) = (frzB all f (l.take j) || ((decide (k.height = f.height) && !sameK k f) || (offB k f.height f.time && nbB all k.height f.height))) := by
  obtain ⟨hj, rfl⟩ := List.getElem?_eq_some_iff.1 h
  unfold frzB
  rw [List.take_succ_eq_append_getElem hj, List.any_append]
  simp
/-- is a height among these -/
def hasB (h : Int) (l : List Kn) : Bool := l.any fun k => decide (k.height = h)
theorem hasB_take (h : Int) (l : List Kn) (j : Nat) (k : Kn) (e : l[j]? = some k) : hasB h (l.take (j + 1)) = (hasB h (l.take j) || decide (k.height = h)) := by
  obtain ⟨hj, rfl⟩ := List.getElem?_eq_some_iff.1 e
  unfold hasB
  rw [List.take_succ_eq_append_getElem hj, List.any_append]
  simp
theorem hasB_at (h : Int) (l : List Kn) : hasB h l = (atK l h).isSome := by
  unfold hasB atK
  rw [Bool.eq_iff_iff, List.find?_isSome, List.any_eq_true]
theorem hasB_no {h : Int} {l : List Kn} (e : hasB h l = false) : ∀ k ∈ l, k.height ≠ h := fun k hk => by
  have := List.any_eq_false.1 e k hk
  simpa using this
/-- put into its place, from the first one on -/
def stepK (f : Kn) (s : List Kn × Bool) (x : Kn) : List Kn × Bool := if s.2 = false ∧ f.height < x.height then (s.1 ++ [f, x], true) else (s.1 ++ [x], s.2)
def runK (f : Kn) (l : List Kn) : List Kn × Bool := l.foldl (stepK f) ([], false)
theorem runK_take (f : Kn) (l : List Kn) (j : Nat) (k : Kn) (h : l[j]? = some k) : runK f (l.take (j + 1)) = stepK f (runK f (l.take j)) k := by
  obtain ⟨hj, rfl⟩ := List.getElem?_eq_some_iff.1 h
  unfold runK
  rw [List.take_succ_eq_append_getElem hj, List.foldl_append]
  rfl
theorem step_low (f : Kn) : ∀ (l a : List Kn), (∀ k ∈ l, k.height < f.height) → l.foldl (stepK f) (a, false) = (a ++ l, false)
  | [], a, _ => by simp
  | x :: r, a, h => by
    have hx := h x List.mem_cons_self
    rw [List.foldl_cons, show stepK f (a, false) x = (a ++ [x], false) by unfold stepK; rw [if_neg (by simp; omega)], step_low f r _ (fun k hk => h k (List.mem_cons_of_mem _ hk))]
    simp
theorem step_put (f : Kn) : ∀ (l a : List Kn), l.foldl (stepK f) (a, true) = (a ++ l, true)
  | [], a => by simp
  | x :: r, a => by
    rw [List.foldl_cons, show stepK f (a, true) x = (a ++ [x], true) by unfold stepK; rw [if_neg (by simp)], step_put f r _]
    simp
theorem runK_end {l : List Kn} (hs : Rising l) {f : Kn} (hne : ∀ k ∈ l, k.height ≠ f.height) : (if (runK f l).2 = true then (runK f l).1 else (runK f l).1 ++ [f]) = putK l f := by
  have e : runK f l = (highK l f.height).foldl (stepK f) (lowK l f.height, false) := by
    unfold runK
    conv => lhs; rw [low_high hs hne]
    rw [List.foldl_append, step_low f _ _ (fun k hk => by have := (List.mem_filter.1 hk).2; simpa using this), List.nil_append]
  rw [e]
  unfold putK
  cases hh : highK l f.height with
  | nil => simp
  | cons x r =>
    have hx : f.height < x.height := by
      have : x ∈ highK l f.height := by rw [hh]; exact List.mem_cons_self
      have := (List.mem_filter.1 this).2
      simpa using this
    rw [List.foldl_cons, show stepK f (lowK l f.height, false) x = (lowK l f.height ++ [f, x], true) by unfold stepK; rw [if_pos ⟨rfl, hx⟩], step_put]
    simp
theorem runK_len (f : Kn) (l : List Kn) : (runK f l).1.length ≤ l.length + 1 ∧ ((runK f l).2 = false → (runK f l).1.length = l.length) := by
  have key : ∀ (l a : List Kn), (l.foldl (stepK f) (a, true)).1.length = a.length + l.length ∧ (l.foldl (stepK f) (a, true)).2 = true := fun l a => by rw [step_put]; simp
  have : ∀ (l a : List Kn), (l.foldl (stepK f) (a, false)).1.length ≤ a.length + l.length + 1 ∧ ((l.foldl (stepK f) (a, false)).2 = false → (l.foldl (stepK f) (a, false)).1.length = a.length + l.length) := by
    intro l
    induction l with
    | nil => intro a; simp
    | cons x r ih =>
      intro a
      rw [List.foldl_cons]
      by_cases h : f.height < x.height
      · rw [show stepK f (a, false) x = (a ++ [f, x], true) by unfold stepK; rw [if_pos ⟨rfl, h⟩]]
        have := key r (a ++ [f, x])
        simp at this ⊢
        refine ⟨by omega, fun hf => by rw [this.2] at hf; cases hf⟩
      · rw [show stepK f (a, false) x = (a ++ [x], false) by unfold stepK; rw [if_neg (by simp; omega)]]
        have := ih (a ++ [x])
        simp at this ⊢
        exact ⟨by omega, fun hf => by have := this.2 hf; omega⟩
  have h := this l []
  simp at h
  exact h
end Go.Proofs.YtiflkkelbnpniaaGreatDoor
namespace Go.Proofs.YtiflkkelbnpniaaGreatDoor

theorem follow_yes {c : Cl} {u : Up} {now : Int} (h : followE c u now = 0) : followC c u now = learnC c (knOf u.sg.hd) := by unfold followC; rw [if_pos h]
theorem follow_no {c : Cl} {u : Up} {now : Int} (h : followE c u now ≠ 0) : followC c u now = Cl.none := by unfold followC; rw [if_neg h]
theorem follow_right {c : Cl} {u : Up} {now : Int} (h : followE c u now = 0) : wrongCl c = 0 ∧ wrongK (knOf u.sg.hd) = 0 ∧ wrongCl (followC c u now) = 0 := by
  obtain ⟨h1, h2⟩ := followE_ok h
  have hc := (askedN_ok h1).1
  have hk := knOf_right (checkN_right (believeN_ok h2).1).1
  exact ⟨hc, hk, by rw [follow_yes h]; exact learn_right hc hk⟩
theorem knOf_fits {h : Hd} (e : h.fits) : (knOf h).fits := ⟨e.2.1, e.2.2.2⟩
theorem follow_fits {c : Cl} {u : Up} {now : Int} (hc : c.fits) (hu : u.fits) : (followC c u now).fits := by
  by_cases h : followE c u now = 0
  · rw [follow_yes h]
    obtain ⟨_, _, h3, _, h5⟩ := (wrongCl_iff c).1 (follow_right h).1
    exact learn_fits hc (knOf_fits hu.1.1) h3.2 h5
  · rw [follow_no h]
    exact Cl.none_fits
/-- what is told twice is known once -/
theorem follow_twice {c : Cl} {u : Up} {now : Int} (h : followE c u now = 0) (hf : (followC c u now).frozen = false) (ha : (atK (followC c u now).known u.sg.hd.height).isSome = true) :
    (atK (followC c u now).known u.frm = none → followE (followC c u now) u now = 6) ∧ ((atK (followC c u now).known u.frm).isSome = true → followE (followC c u now) u now = 0 ∧ followC (followC c u now) u now = followC c u now) := by
  obtain ⟨hc, hk, hd⟩ := follow_right h
  obtain ⟨h1, h2⟩ := followE_ok h
  obtain ⟨hck, k0, hat0, hb0⟩ := believeN_ok h2
  have hnow := (askedN_ok h1).2.1
  have hask := askedN_of (now := now) hd hnow hf
  obtain ⟨_, _, h30, _, hris⟩ := (wrongCl_iff c).1 hc
  rw [follow_yes h] at hf ha hd hask ⊢
  have hE : followE (learnC c (knOf u.sg.hd)) u now = believeN (learnC c (knOf u.sg.hd)) u now := by unfold followE; rw [if_neg (by omega)]
  have hself : atK (learnC c (knOf u.sg.hd)).known (knOf u.sg.hd).height = some (knOf u.sg.hd) := by
    rcases learn_known (k := knOf u.sg.hd) hris h30.2 with e | e | ⟨e, _⟩
    · rw [hf] at e; cases e
    · exact e
    · rw [show (knOf u.sg.hd).height = u.sg.hd.height from rfl] at e
      rw [e] at ha
      cases ha
  constructor
  · intro hn
    rw [hE]
    unfold believeN
    rw [if_neg (by omega), hn]
  · intro hs
    obtain ⟨x, hx⟩ : ∃ x, atK (learnC c (knOf u.sg.hd)).known u.frm = some x := Option.isSome_iff_exists.1 hs
    have hxk : x = k0 := by
      obtain ⟨e1, e2⟩ := atK_some hx
      obtain ⟨g1, g2⟩ := atK_some hat0
      have hlt := (believeAt_ok hb0).2.2.1
      rcases learn_mem e1 with rfl | e1
      · exfalso
        rw [show (knOf u.sg.hd).height = u.sg.hd.height from rfl] at e2
        omega
      · exact hris.eq e1 g1 (by omega)
    have hz : followE (learnC c (knOf u.sg.hd)) u now = 0 := by
      rw [hE]
      unfold believeN
      rw [if_neg (by omega), hx]
      simp only
      rw [hxk]
      unfold believeAt at hb0 ⊢
      rw [learn_same.1, learn_same.2]
      exact hb0
    refine ⟨hz, ?_⟩
    unfold followC
    rw [if_pos hz, learn_again hf hself]
theorem learn_length {c : Cl} {k : Kn} (hs : Rising c.known) : (learnC c k).known.length ≤ c.known.length + 1 := by
  unfold learnC
  cases e : atK c.known k.height with
  | some o => simp
  | none =>
    simp only
    split
    · simp only
      have h1 := put_length hs (atK_none e)
      have : (cutK (putK c.known k)).length ≤ (putK c.known k).length := by
        unfold cutK
        split
        · simp
        · exact Nat.le_refl _
      omega
    · simp
/-- what is followed is known, where there is room -/
theorem follow_known {c : Cl} {u : Up} {now : Int} (h : followE c u now = 0) (hf : (followC c u now).frozen = false) (hl : c.known.length < 30) : atK (followC c u now).known u.sg.hd.height = some (knOf u.sg.hd) := by
  obtain ⟨hc, _, _⟩ := follow_right h
  obtain ⟨_, _, h30, _, hris⟩ := (wrongCl_iff c).1 hc
  rw [follow_yes h] at hf ⊢
  rcases learn_known (k := knOf u.sg.hd) hris h30.2 with e | e | ⟨_, e⟩
  · rw [hf] at e; cases e
  · exact e
  · omega
theorem follow_length {c : Cl} {u : Up} {now : Int} (h : followE c u now = 0) : (followC c u now).known.length ≤ c.known.length + 1 := by
  obtain ⟨hc, _, _⟩ := follow_right h
  obtain ⟨_, _, _, _, hris⟩ := (wrongCl_iff c).1 hc
  rw [follow_yes h]
  exact learn_length hris
/-- .. by way of another block, or at once -/
theorem follow_ways {c : Cl} {a b : Up} {now : Int} (h1 : followE c a now = 0) (hl : c.known.length + 2 ≤ 30) (h2 : followE (followC c a now) { b with frm := a.sg.hd.height } now = 0) (h3 : followE c b now = 0)
    (f2 : (followC (followC c a now) { b with frm := a.sg.hd.height } now).frozen = false) (f3 : (followC c b now).frozen = false) :
    atK (followC (followC c a now) { b with frm := a.sg.hd.height } now).known b.sg.hd.height = some (knOf b.sg.hd) ∧ atK (followC c b now).known b.sg.hd.height = some (knOf b.sg.hd) := by
  have := follow_length h1
  exact ⟨follow_known (u := { b with frm := a.sg.hd.height }) h2 f2 (by omega), follow_known h3 f3 (by omega)⟩
/-- what is known stays known -/
theorem follow_keeps {c : Cl} {u : Up} {now : Int} (h : followE c u now = 0) {x : Kn} {i : Nat} (hx : c.known[i]? = some x) : atK (followC c u now).known x.height = some x ∨ (atK (followC c u now).known x.height = none ∧ i = 0 ∧ c.known.length = 30) := by
  obtain ⟨hc, _, _⟩ := follow_right h
  obtain ⟨_, _, h30, _, hris⟩ := (wrongCl_iff c).1 hc
  rw [follow_yes h]
  exact learn_keeps hris h30.2 hx
theorem follow_there {c : Cl} {u : Up} {now : Int} (h : followE c u now = 0) : (followC c u now).frozen = true ∨ atK (followC c u now).known u.sg.hd.height = some (knOf u.sg.hd) ∨ (atK (followC c u now).known u.sg.hd.height = none ∧ c.known.length = 30) := by
  obtain ⟨hc, _, _⟩ := follow_right h
  obtain ⟨_, _, h30, _, hris⟩ := (wrongCl_iff c).1 hc
  rw [follow_yes h]
  exact learn_known (k := knOf u.sg.hd) hris h30.2
theorem follow_same {c : Cl} {u : Up} {now : Int} (h : followE c u now = 0) : (followC c u now).chain = c.chain ∧ (followC c u now).trust = c.trust := by
  rw [follow_yes h]
  exact learn_same
/-- what is followed was voted for -/
theorem follow_voted {c : Cl} {u : Up} {now : Int} (h : followE c u now = 0) : checkN u.sg = 0 ∧ ∃ k, atK c.known u.frm = some k ∧ k.height = u.frm ∧ u.sg.hd.chain = c.chain ∧ now - k.time < c.trust ∧ u.frm < u.sg.hd.height ∧ k.time < u.sg.hd.time ∧
    ((u.sg.hd.height = u.frm + 1 ∧ u.sg.hd.vals = k.next) ∨ (u.sg.hd.height ≠ u.frm + 1 ∧ valsN u.trusted = 0 ∧ digV u.trusted = k.next ∧ overB u.trusted u.sg = true)) := by
  obtain ⟨h1, h2⟩ := followE_ok h
  obtain ⟨hck, k0, hat0, hb0⟩ := believeN_ok h2
  obtain ⟨e1, e2, e3, e4, e5⟩ := believeAt_ok hb0
  obtain ⟨_, e6⟩ := atK_some hat0
  rw [e6] at e3 e5
  exact ⟨hck, k0, hat0, e6, e1, e2, e3, e4, e5⟩
end Go.Proofs.YtiflkkelbnpniaaGreatDoor
namespace Go.Proofs.YtiflkkelbnpniaaGreatDoor
open Go.RowKit

/-- what is known of a block, and the two slices that hold its bytes -/
structure KnR where
  k : Kn
  r : Value
  n : Value
def knRow (q : KnR) : List Value := [.int .i64 q.k.height, .int .i64 q.k.time, q.r, q.n]
/-- the slices read as the bytes, in blocks below N -/
def KnR.ok (w : World) (N : Nat) (q : KnR) : Prop := Bytes w N q.r q.k.root ∧ Bytes w N q.n q.k.next
theorem KnR.ok.below {w w' : World} {N : Nat} {q : KnR} (h : q.ok w N) (hg : Below N w w') : q.ok w' N := ⟨h.1.below hg, h.2.below hg⟩
theorem KnR.ok.mono {w : World} {N M : Nat} {q : KnR} (h : q.ok w N) (hN : N ≤ M) : q.ok w M := ⟨h.1.mono hN, h.2.mono hN⟩
theorem KnR.ok.row {w : World} {N : Nat} {q : KnR} (h : q.ok w N) : okKn (knRow q) := by
  obtain ⟨o1, c1, e1, _⟩ := h.1.shape
  obtain ⟨o2, c2, e2, _⟩ := h.2.shape
  refine ⟨rfl, fun x hx => ?_⟩
  simp [knRow] at hx
  rcases hx with rfl | rfl | rfl | rfl
  · rfl
  · rfl
  · rw [e1]; rfl
  · rw [e2]; rfl
theorem knRow_len {ps : List KnR} : ∀ r ∈ ps.map knRow, r.length = 4 := fun r hr => by obtain ⟨_, _, rfl⟩ := List.mem_map.1 hr; rfl
/-- sv is a slice that reads as l, in blocks below N -/
def Knowns (w : World) (N : Nat) (sv : Value) (l : List Kn) : Prop := ∃ ps : List KnR, ps.map (·.k) = l ∧ Recs w N sv 4 (ps.map knRow) ∧ ∀ q ∈ ps, q.ok w N
theorem Knowns.below {w w' : World} {N : Nat} {sv : Value} {l : List Kn} (h : Knowns w N sv l) (hg : Below N w w') : Knowns w' N sv l := by
  obtain ⟨ps, h1, h2, h3⟩ := h
  exact ⟨ps, h1, h2.below hg, fun q hq => (h3 q hq).below hg⟩
theorem Knowns.mono {w : World} {N M : Nat} {sv : Value} {l : List Kn} (h : Knowns w N sv l) (hN : N ≤ M) : Knowns w M sv l := by
  obtain ⟨ps, h1, h2, h3⟩ := h
  exact ⟨ps, h1, h2.mono hN, fun q hq => (h3 q hq).mono hN⟩
theorem Knowns.shape {w : World} {N : Nat} {sv : Value} {l : List Kn} (h : Knowns w N sv l) : ∃ oa cap, sv = .slice oa l.length cap ∧ l.length ≤ cap := by
  obtain ⟨ps, h1, h2, _⟩ := h
  obtain ⟨oa, cap, e1, e2⟩ := h2.shape
  have : (ps.map knRow).length = l.length := by rw [← h1]; simp
  rw [this] at e1 e2
  exact ⟨oa, cap, e1, e2⟩
theorem Knowns.nil (w : World) (N : Nat) : Knowns w N (.slice none 0 0) [] := ⟨[], rfl, .inl ⟨rfl, rfl⟩, fun _ h => by cases h⟩
/-- a record's four cells -/
theorem Knowns.spot {w : World} {N : Nat} {oa : Option Addr} {n cap : Nat} {l : List Kn} (h : Knowns w N (.slice oa n cap) l) (hl : 0 < n) :
    ∃ b off, oa = some ⟨b, off, none⟩ ∧ ∀ i k, l[i]? = some k → b < N ∧ ∃ vr vn, w.cell? ⟨b, off + i * 4, none⟩ = some (.int .i64 k.height) ∧ w.cell? ⟨b, off + i * 4 + 1, none⟩ = some (.int .i64 k.time) ∧ w.cell? ⟨b, off + i * 4 + 2, none⟩ = some vr ∧ w.cell? ⟨b, off + i * 4 + 3, none⟩ = some vn ∧ Bytes w N vr k.root ∧ Bytes w N vn k.next := by
  obtain ⟨ps, h1, h2, h3⟩ := h
  obtain ⟨b, off, e, hc⟩ := h2.spot hl
  refine ⟨b, off, e, fun i k hk => ?_⟩
  rw [← h1, List.getElem?_map] at hk
  obtain ⟨q, hq, rfl⟩ : ∃ q, ps[i]? = some q ∧ q.k = k := by simpa using hk
  obtain ⟨g1, g2⟩ := hc i (knRow q) (by rw [List.getElem?_map, hq]; rfl)
  have hok := h3 q (List.mem_of_getElem? hq)
  exact ⟨g1, q.r, q.n, g2 0 _ rfl, g2 1 _ rfl, g2 2 _ rfl, g2 3 _ rfl, hok.1, hok.2⟩
/-- v reads as what is known of a block -/
def KnV (w : World) (N : Nat) (v : Value) (k : Kn) : Prop := ∃ rv nv, v = .agg #[.int .i64 k.height, .int .i64 k.time, rv, nv] ∧ Bytes w N rv k.root ∧ Bytes w N nv k.next
theorem KnV.below {w w' : World} {N : Nat} {v : Value} {k : Kn} (h : KnV w N v k) (hg : Below N w w') : KnV w' N v k := by
  obtain ⟨rv, nv, rfl, h1, h2⟩ := h
  exact ⟨rv, nv, rfl, h1.below hg, h2.below hg⟩
theorem KnV.mono {w : World} {N M : Nat} {v : Value} {k : Kn} (h : KnV w N v k) (hN : N ≤ M) : KnV w M v k := by
  obtain ⟨rv, nv, rfl, h1, h2⟩ := h
  exact ⟨rv, nv, rfl, h1.mono hN, h2.mono hN⟩
theorem knNone (w : World) (N : Nat) : KnV w N (.agg #[.int .i64 0, .int .i64 0, .slice none 0 0, .slice none 0 0]) Kn.none := ⟨_, _, rfl, .inl ⟨rfl, rfl⟩, .inl ⟨rfl, rfl⟩⟩
/-- v reads as a client -/
def ClV (w : World) (N : Nat) (v : Value) (c : Cl) : Prop := ∃ kv, v = .agg #[.string c.chain, .int .i64 c.trust, .bool c.frozen, kv] ∧ Knowns w N kv c.known
theorem ClV.below {w w' : World} {N : Nat} {v : Value} {c : Cl} (h : ClV w N v c) (hg : Below N w w') : ClV w' N v c := by
  obtain ⟨kv, rfl, h1⟩ := h
  exact ⟨kv, rfl, h1.below hg⟩
theorem ClV.mono {w : World} {N M : Nat} {v : Value} {c : Cl} (h : ClV w N v c) (hN : N ≤ M) : ClV w M v c := by
  obtain ⟨kv, rfl, h1⟩ := h
  exact ⟨kv, rfl, h1.mono hN⟩
theorem clNone (w : World) (N : Nat) : ClV w N (.agg #[.string ⟨#[]⟩, .int .i64 0, .bool false, .slice none 0 0]) Cl.none := ⟨_, rfl, Knowns.nil w N⟩
/-- v reads as an update -/
def UpV (w : World) (N : Nat) (v : Value) (u : Up) : Prop := ∃ x0 x1 x2 x3 x4 x5 x6 x7 tv, v = .agg #[.int .i64 u.frm, x0, x1, x2, x3, x4, x5, x6, x7, tv] ∧ SgV w N (.agg #[x0, x1, x2, x3, x4, x5, x6, x7]) u.sg ∧ Vals w N tv u.trusted
theorem UpV.below {w w' : World} {N : Nat} {v : Value} {u : Up} (h : UpV w N v u) (hg : Below N w w') : UpV w' N v u := by
  obtain ⟨x0, x1, x2, x3, x4, x5, x6, x7, tv, rfl, h1, h2⟩ := h
  exact ⟨x0, x1, x2, x3, x4, x5, x6, x7, tv, rfl, h1.below hg, h2.below hg⟩
theorem UpV.mono {w : World} {N M : Nat} {v : Value} {u : Up} (h : UpV w N v u) (hN : N ≤ M) : UpV w M v u := by
  obtain ⟨x0, x1, x2, x3, x4, x5, x6, x7, tv, rfl, h1, h2⟩ := h
  exact ⟨x0, x1, x2, x3, x4, x5, x6, x7, tv, rfl, h1.mono hN, h2.mono hN⟩
/-- what is known, in a row that a call owns, with bytes that it owns -/
def OwnKn (w : World) (base : Nat) (v : Value) (ps : List KnR) : Prop := RowKn w base v (ps.map knRow) ∧ ∀ q ∈ ps, OwnB w base q.r q.k.root ∧ OwnB w base q.n q.k.next
theorem OwnKn.below {w w' : World} {base : Nat} {v : Value} {ps : List KnR} (h : OwnKn w base v ps) (hg : Below w.heap.size w w') : OwnKn w' base v ps :=
  ⟨h.1.below hg, fun q hq => ⟨ownsRow_belowR (h.2 q hq).1 hg, ownsRow_belowR (h.2 q hq).2 hg⟩⟩
theorem OwnKn.mono {w : World} {base base' : Nat} {v : Value} {ps : List KnR} (h : OwnKn w base v ps) (hb : base' ≤ base) : OwnKn w base' v ps := ⟨h.1.mono hb, fun q hq => ⟨(h.2 q hq).1.mono hb, (h.2 q hq).2.mono hb⟩⟩
theorem OwnKn.shape {w : World} {base : Nat} {v : Value} {ps : List KnR} (h : OwnKn w base v ps) : ∃ oa cap, v = .slice oa ps.length cap ∧ ps.length ≤ cap := by
  obtain ⟨oa, cap, h1, h2⟩ := h.1.shape
  rw [List.length_map] at h1 h2
  exact ⟨oa, cap, h1, h2⟩
theorem OwnKn.knowns {w : World} {base : Nat} {v : Value} {ps : List KnR} (h : OwnKn w base v ps) : Knowns w w.heap.size v (ps.map (·.k)) := ⟨ps, rfl, h.1.recs, fun q hq => ⟨(h.2 q hq).1.bytes, (h.2 q hq).2.bytes⟩⟩
theorem OwnKn.keep {w w' : World} {base : Nat} {v : Value} {ps : List KnR} (h : OwnKn w base v ps) (hk : ∀ g, base ≤ g → w'.heap[g]? = w.heap[g]?) : OwnKn w' base v ps := by
  refine ⟨⟨h.1.1, h.1.2.1, ?_⟩, fun q hq => ⟨(h.2 q hq).1.keep hk, (h.2 q hq).2.keep hk⟩⟩
  rcases h.1.2.2 with h2 | ⟨g, cap, cur, h3, h4, h5, h6⟩
  · exact .inl h2
  · exact .inr ⟨g, cap, cur, h3, h4, (hk g h4).trans h5, h6⟩
/-- what is done with the row leaves its bytes -/
theorem OwnKn.past {w w' : World} {base : Nat} {v v' : Value} {ps ps' : List KnR} (h : OwnKn w base v ps) (hg : w.grownBy w' v.ownBlock) (hr : RowKn w' base v' (ps'.map knRow)) (hm : ∀ q ∈ ps', q ∈ ps ∨ (OwnB w base q.r q.k.root ∧ OwnB w base q.n q.k.next)) : OwnKn w' base v' ps' := by
  refine ⟨hr, fun q hq => ?_⟩
  have key : ∀ q : KnR, OwnB w base q.r q.k.root ∧ OwnB w base q.n q.k.next → OwnB w' base q.r q.k.root ∧ OwnB w' base q.n q.k.next := fun q h1 => ⟨h.1.past (by decide) h1.1 hg, h.1.past (by decide) h1.2 hg⟩
  rcases hm q hq with h1 | h1
  · exact key q (h.2 q h1)
  · exact key q h1
theorem map_insKn (ps : List KnR) (i : Nat) (q : KnR) : insR (ps.map knRow) i (knRow q) = (ps.take i ++ q :: ps.drop i).map knRow := by
  unfold insR
  rw [List.map_append, List.map_cons, List.map_take, List.map_drop]
theorem map_delKn (ps : List KnR) (i : Nat) : (ps.map knRow).take i ++ (ps.map knRow).drop (i + 1) = (ps.take i ++ ps.drop (i + 1)).map knRow := by
  rw [List.map_append, List.map_take, List.map_drop]
/-- four cells of a row, written one by one -/
def set4 (w : World) (g : Nat) (a b c d : Value) : World := (((w.setCell ⟨g, 0, none⟩ a).setCell ⟨g, 1, none⟩ b).setCell ⟨g, 2, none⟩ c).setCell ⟨g, 3, none⟩ d
theorem set4_row {w : World} {g : Nat} {t : TypeId} {a0 b0 c0 d0 : Value} (h : Row w g t [a0, b0, c0, d0]) (a b c d : Value) : Row (set4 w g a b c d) g t [a, b, c, d] := (((h.set 0 a).set 1 b).set 2 c).set 3 d
theorem set4_other (w : World) (g : Nat) (a b c d : Value) : ∀ k, k ≠ g → (set4 w g a b c d).heap[k]? = w.heap[k]? := fun k hk => by
  unfold set4
  rw [heap_setCell_other _ _ _ _ hk, heap_setCell_other _ _ _ _ hk, heap_setCell_other _ _ _ _ hk, heap_setCell_other _ _ _ _ hk]
theorem set4_below {B : Nat} {w0 w : World} (h : Below B w0 w) {g : Nat} (hg : B ≤ g) (a b c d : Value) : Below B w0 (set4 w g a b c d) := (((h.setCell hg _).setCell hg _).setCell hg _).setCell hg _
theorem set4_size (w : World) (g : Nat) (a b c d : Value) : (set4 w g a b c d).heap.size = w.heap.size := by simp [set4, World.setCell]
theorem Row.four {w : World} {g : Nat} {t : TypeId} {a b c d : Value} (h : Row w g t [a, b, c, d]) :
    (w.cell? ⟨g, 0, none⟩ = some a ∧ w.cell? ⟨g, 1, none⟩ = some b ∧ w.cell? ⟨g, 2, none⟩ = some c ∧ w.cell? ⟨g, 3, none⟩ = some d) ∧ w.frozen? ⟨g, 0, none⟩ = false ∧ w.frozen? ⟨g, 1, none⟩ = false ∧ w.frozen? ⟨g, 2, none⟩ = false ∧ w.frozen? ⟨g, 3, none⟩ = false :=
  ⟨⟨h.cell 0, h.cell 1, h.cell 2, h.cell 3⟩, h.frozen 0, h.frozen 1, h.frozen 2, h.frozen 3⟩
/-- bytes below the row are as they were -/
theorem set4_bytes {w : World} {g N : Nat} {a b c d v : Value} {l : List (BitVec 8)} (h : Bytes w N v l) (hg : N ≤ g) : Bytes (set4 w g a b c d) (set4 w g a b c d).heap.size v l := by
  have hb := set4_below (Below.refl N w) hg a b c d
  have h1 := h.below hb
  rcases h1 with h1 | h1 | ⟨x, off, cap, e1, e2, e3⟩
  · exact .inl h1
  · exact .inr (.inl h1)
  · exact .inr (.inr ⟨x, off, cap, e1, e2, fun i hi => ⟨block_lt_of_cell (e3 i hi).2, (e3 i hi).2⟩⟩)
end Go.Proofs.YtiflkkelbnpniaaGreatDoor
