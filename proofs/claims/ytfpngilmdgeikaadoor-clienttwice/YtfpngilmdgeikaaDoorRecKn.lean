/-
  Rows of records of one type that a call owns: appended to, inserted into, deleted from. (Made by rec/mkrec.py.)
-/
import Derived.Test.YtfpngilmdgeikaaDoorHdMems
import Derived.Test.YtfpngilmdgeikaaDoorRecBase
namespace Go.Proofs.YtfpngilmdgeikaaDoor
open Go.RowKit

theorem infoKn : (Tryd.prog.info? 73).map (fun i => (i.zero, i.size, i.bytes)) = some (some (.agg #[.int .i64 0, .int .i64 0, .slice none 0 0, .slice none 0 0]), 4, 64) := by kernel_rfl
theorem elemKn : Tryd.prog.underlying 57 = some (.slice (Tryd.prog.elem 57)) := by kernel_rfl
theorem sizeKn (w : World) : (sizeOf (Tryd.prog.elem 57)).run Tryd.prog w = .ok 4 w := by kernel_rfl
/-- so many cells, each of them one -/
def okKn (r : List Value) : Prop := r.length = 4 ∧ ∀ x ∈ r, x.oneCell' = true
/-- a row that a call owns -/
def RowKn (w : World) (base : Nat) (v : Value) (rs : List (List Value)) : Prop := (∀ r ∈ rs, okKn r) ∧ w.ownsRow base 73 4 v rs.length rs.flatten
theorem RowKn.nil (w : World) (base : Nat) : RowKn w base (.slice none 0 0) [] := ⟨fun _ h => (by cases h), World.ownsRow_nil w base 73 4⟩
theorem RowKn.shape {w : World} {base : Nat} {v : Value} {rs : List (List Value)} (h : RowKn w base v rs) : ∃ oa cap, v = .slice oa rs.length cap ∧ rs.length ≤ cap := by
  obtain ⟨_, _, h2⟩ := h
  rcases h2 with ⟨h3, h4⟩ | ⟨g, cap, cur, h3, _, _, h4, _⟩
  · exact ⟨none, 0, by rw [h4]; exact h3, by omega⟩
  · exact ⟨_, cap, h3, h4⟩
theorem RowKn.below {w w' : World} {base : Nat} {v : Value} {rs : List (List Value)} (h : RowKn w base v rs) (hg : Below w.heap.size w w') : RowKn w' base v rs := ⟨h.1, ownsRow_belowR h.2 hg⟩
theorem RowKn.mono {w : World} {base base' : Nat} {v : Value} {rs : List (List Value)} (h : RowKn w base v rs) (hb : base' ≤ base) : RowKn w base' v rs := by
  obtain ⟨h0, h1, h2⟩ := h
  refine ⟨h0, h1, ?_⟩
  rcases h2 with h2 | ⟨g, cap, cur, h3, h4, h5⟩
  · exact .inl h2
  · exact .inr ⟨g, cap, cur, h3, Nat.le_trans hb h4, h5⟩
theorem RowKn.recs {w : World} {base : Nat} {v : Value} {rs : List (List Value)} (h : RowKn w base v rs) : Recs w w.heap.size v 4 rs := ownsRow_recs h.2 (fun r hr => (h.1 r hr).1)
theorem flatKn_len {rs : List (List Value)} (h : ∀ r ∈ rs, okKn r) : rs.flatten.length = rs.length * 4 := flat_lenR rs (fun r hr => (h r hr).1)
theorem RowKn.row {w : World} {base : Nat} {v : Value} {rs : List (List Value)} (h : RowKn w base v rs) (h0 : 0 < rs.length) : ∃ g c cs, v = .slice (some ⟨g, 0, none⟩) rs.length c ∧ base ≤ g ∧ Row w g 73 cs ∧ rs.length ≤ c ∧ c ≤ maxLen ∧ cs.length = c * 4 ∧ cs.take (rs.length * 4) = rs.flatten := by
  obtain ⟨_, h1, h2⟩ := h
  rcases h2 with ⟨_, h3⟩ | ⟨g, c, cur, h3, h4, h5, h6, h7, h8, h9⟩
  · omega
  · exact ⟨g, c, cur.toList, h3, h4, h5, h6, h7, by simpa using h8, h9⟩
theorem RowKn.of_row {w : World} {base g n c : Nat} {cs : List Value} {rs : List (List Value)} (hok : ∀ r ∈ rs, okKn r) (hb : base ≤ g) (hr : Row w g 73 cs) (hn : n = rs.length) (hc : n ≤ c) (hm : c ≤ maxLen) (hl : cs.length = c * 4) (ht : cs.take (n * 4) = rs.flatten) : RowKn w base (.slice (some ⟨g, 0, none⟩) n c) rs := by
  subst hn
  exact ⟨hok, flatKn_len hok, .inr ⟨g, c, cs.toArray, rfl, hb, hr, hc, hm, by simpa using hl, ht⟩⟩
theorem flatKn_one {rs : List (List Value)} (h : ∀ r ∈ rs, okKn r) : ∀ u ∈ rs.flatten, u.oneCell' = true := by
  intro u hu
  obtain ⟨r, hr, hu⟩ := List.mem_flatten.1 hu
  exact (h r hr).2 u hu
theorem RowKn.below_of {w w' : World} {base : Nat} {v : Value} {rs : List (List Value)} (h : RowKn w base v rs) (hb : base ≤ w.heap.size) (hg : w.grownBy w' v.ownBlock) : Below base w w' :=
  (Below.refl base w).grown hg hb (fun k hk => (World.ownsRow.lt h.2 k hk).1)
/-- a row of another type is another block -/
theorem RowKn.apart {w : World} {base g : Nat} {v : Value} {rs : List (List Value)} {t : TypeId} {cs : List Value} (h : RowKn w base v rs) (hr : Row w g t cs) (ht : t ≠ 73) : some g ≠ v.ownBlock := by
  intro he
  rcases h.2.2 with ⟨rfl, _⟩ | ⟨g', c', cur', rfl, _, h8, _⟩
  · simp [Value.ownBlock] at he
  · obtain rfl : g = g' := by simpa [Value.ownBlock] using he
    unfold Row at hr
    rw [hr] at h8
    simp at h8
    exact ht h8.2
/-- what is owned, of another type, outlives what is done with the row -/
theorem RowKn.past {w w' : World} {base b e k n : Nat} {v rv : Value} {xs : List Value} {rs : List (List Value)} (hr : RowKn w base rv rs) (he : e ≠ 73) (h : w.ownsRow b e k v n xs) (hg : w.grownBy w' rv.ownBlock) : w'.ownsRow b e k v n xs := by
  obtain ⟨h1, h2⟩ := h
  refine ⟨h1, ?_⟩
  rcases h2 with h2 | ⟨g, cap, cur, h3, h4, h5, h6⟩
  · exact .inl h2
  · refine .inr ⟨g, cap, cur, h3, h4, (hg.block g (Array.getElem?_eq_some_iff.1 h5).1 ?_).trans h5, h6⟩
    intro hq
    rcases hr.2.2 with ⟨rfl, _⟩ | ⟨g', c', cur', rfl, _, h8, _⟩
    · simp [Value.ownBlock] at hq
    · obtain rfl : g = g' := by simpa [Value.ownBlock] using hq
      rw [h5] at h8
      simp at h8
      exact he h8.2
theorem rowKn_none {W : World} {base g : Nat} (hg : W.heap[g]? = some (.cells #[] 73 (0, 0))) (hb : base ≤ g) : RowKn W base (.slice (some ⟨g, 0, none⟩) 0 0) [] :=
  ⟨fun _ h => (by cases h), rfl, .inr ⟨g, 0, #[], rfl, hb, hg, Nat.le_refl _, by simp [maxLen], rfl, rfl⟩⟩
/-- one record in a block of its own -/
theorem oneKn {W : World} {g : Nat} {r : List Value} (h : Row W g 73 r) : Recs W (g + 1) (.slice (some ⟨g, 0, none⟩) 1 1) 4 [r] := by
  refine .inr (.inr ⟨g, 0, 1, rfl, Nat.le_refl _, fun i r' hr => ?_⟩)
  have hi : i = 0 := by have := (List.getElem?_eq_some_iff.1 hr).1; simp at this; exact this
  subst hi
  obtain rfl : r = r' := by simpa using hr
  refine ⟨by omega, fun j x hx => ?_⟩
  rw [h.cell, show 0 + 0 * 4 + j = j by omega]
  exact hx
theorem wp_appendKn {o : Oper} {a : Act} {W : World} {K : Act → World → Prop} {Q : Exit → Act → World → Prop} (s x : Operand)
    (ho : o.op = .call { callee := .builtin .append, args := #[s, x], argTypes := #[57, 57] })
    (base : Nat) (v : Value) (rs : List (List Value)) (hs : a.eval s = v) (hown : RowKn W base v rs) (sv : Value) (qs : List (List Value)) {M : Nat} (hx : a.eval x = sv) (hsrc : Recs W M sv 4 qs)
    (hok : ∀ r ∈ qs, okKn r) (hl : rs.length + qs.length ≤ 1000000) (hbase : base ≤ W.heap.size)
    (h : ∀ v' w', RowKn w' base v' (rs ++ qs) → Below base W w' → W.grownBy w' v.ownBlock → K (a.put o.dst v') w') : o.wp Tryd.prog a W K Q := by
  obtain ⟨i0, hi0, hz0, hz1, hz2⟩ := info_parts infoKn
  rcases hsrc.source (fun r hr => (hok r hr).1) (by omega) with ⟨rfl, rfl⟩ | ⟨ad, cap, rfl, hcs⟩
  · have hrun := run_append_owned_none (P := Tryd.prog) (w := W) base 57 o.type 73 i0 4 Tryd.underlying57 hi0 v rs.length rs.flatten hown.2
    unfold Oper.wp
    simp [execOp, ho, resolve, invoke, builtin, hs, hx, hrun, Result.andThen]
    exact h v W (by simpa using hown) (Below.refl _ _) (grown_refl _ _)
  · refine wp_append_own W s x 57 ho base 73 i0 _ 4 64 Tryd.underlying57 hi0 hz0 hz1 hz2 rfl (by decide) v rs.length rs.flatten hs hown.2 ad qs.length cap qs.flatten hx (flatKn_len hok) hcs (flatKn_one hok) (by unfold maxLen; omega) (by omega) hbase ?_
    intro v' w' h1 h2 _
    refine h v' w' ⟨fun r hr => ?_, ?_⟩ ((Below.refl base W).grown h2 hbase (fun k hk => (World.ownsRow.lt hown.2 k hk).1)) h2
    · rcases List.mem_append.1 hr with hr | hr
      · exact hown.1 r hr
      · exact hok r hr
    · rw [List.length_append, List.flatten_append]
      exact h1
theorem wpList_appendKn {ops : Array Oper} {rest : List Oper} {o : Oper} {a : Act} {W : World} {Q : Exit → Act → World → Prop} (hgd : o.guard = none) (s x : Operand)
    (ho : o.op = .call { callee := .builtin .append, args := #[s, x], argTypes := #[57, 57] })
    (base : Nat) (v : Value) (rs : List (List Value)) (hs : a.eval s = v) (hown : RowKn W base v rs) (sv : Value) (qs : List (List Value)) {M : Nat} (hx : a.eval x = sv) (hsrc : Recs W M sv 4 qs)
    (hok : ∀ r ∈ qs, okKn r) (hl : rs.length + qs.length ≤ 1000000) (hbase : base ≤ W.heap.size)
    (h : ∀ v' w', RowKn w' base v' (rs ++ qs) → Below base W w' → W.grownBy w' v.ownBlock → wpList Tryd.prog ops Q rest (a.put o.dst v') w') : wpList Tryd.prog ops Q (o :: rest) a W :=
  wpList_plain hgd fun _ hK => wp_appendKn s x ho base v rs hs hown sv qs hx hsrc hok hl hbase fun v' w' h1 h2 h3 => hK _ _ (h v' w' h1 h2 h3)
theorem step_appendKn {ops : Array Oper} {o : Oper} {a : Act} {W : World} {K : Act → World → Prop} {Q : Exit → Act → World → Prop} {E : Prop} (hgd : o.guard = none) (s x : Operand)
    (ho : o.op = .call { callee := .builtin .append, args := #[s, x], argTypes := #[57, 57] })
    (base : Nat) (v : Value) (rs : List (List Value)) (hs : a.eval s = v) (hown : RowKn W base v rs) (sv : Value) (qs : List (List Value)) {M : Nat} (hx : a.eval x = sv) (hsrc : Recs W M sv 4 qs)
    (hok : ∀ r ∈ qs, okKn r) (hl : rs.length + qs.length ≤ 1000000) (hbase : base ≤ W.heap.size)
    (h : ∀ v' w', RowKn w' base v' (rs ++ qs) → Below base W w' → W.grownBy w' v.ownBlock → K (a.put o.dst v') w') : if Region.wanted o (yielded ops a.tmps) = true then Oper.wp Tryd.prog o a W K Q else E := by
  have hw : Region.wanted o (yielded ops a.tmps) = true := by simp [Region.wanted, hgd]
  rw [if_pos hw]
  exact wp_appendKn s x ho base v rs hs hown sv qs hx hsrc hok hl hbase h
set_option maxRecDepth 100000 in
set_option maxHeartbeats 2000000 in
/-- put behind all -/
theorem insertKn_end (rs : List (List Value)) (q : List Value) (base vb : Nat) (v : Value) (w : World) (h : RowKn w base v rs) (hb : base ≤ w.heap.size) (hv : Row w vb 73 q) (h1 : okKn q) (hl : rs.length ≤ 1000) :
    Calls Tryd.prog 132 #[v, .int .i64 (rs.length : Int), .slice (some ⟨vb, 0, none⟩) 1 1] w fun e w' => w.grownBy w' v.ownBlock ∧ ∃ v', e = .returned v' ∧ RowKn w' base v' (insR rs rs.length q) := by
  obtain ⟨oa, c, rfl, hc⟩ := h.shape
  have HO := hid h
  have HV := hid hv
  have H1 := hid h1
  have HE := hid (show insR rs rs.length q = rs ++ [q] by simp [insR])
  have HL := hid (show rs.length ≤ 1000 from hl)
  clear h hv h1
  generalize hn : rs.length = n at *
  have HN := hid hn
  clear hn
  cases oa with
  | none =>
    go_enter Tryd.func132, Tryd.ntmps132
    go_wp2_with (at_builtin; refine wpList_appendKn rfl (.tmp 23) (.tmp 24) rfl base _ rs rfl HO.out _ [q] rfl (oneKn HV.out) (by intro x hx; simp at hx; rw [hx]; exact H1.out) (by have := HL.out; rw [HN.out]; simp; omega) hb ?_; intro v' w' g1 g2 g3; have G1 := hid g1; have G3 := hid g3; clear g1 g2 g3)
    go_ret
    exact ⟨G3.out, _, rfl, by rw [HE.out]; exact G1.out⟩
  | some a =>
    go_enter Tryd.func132, Tryd.ntmps132
    go_wp2_with (at_builtin; refine wpList_appendKn rfl (.tmp 23) (.tmp 24) rfl base _ rs rfl HO.out _ [q] rfl (oneKn HV.out) (by intro x hx; simp at hx; rw [hx]; exact H1.out) (by have := HL.out; rw [HN.out]; simp; omega) hb ?_; intro v' w' g1 g2 g3; have G1 := hid g1; have G3 := hid g3; clear g1 g2 g3)
    all_goals
      go_ret
      exact ⟨G3.out, _, rfl, by rw [HE.out]; exact G1.out⟩
set_option maxRecDepth 100000 in
set_option maxHeartbeats 2000000 in
/-- ahead of others, where there is room -/
theorem insertKn_shift (rs : List (List Value)) (i : Nat) (q : List Value) (base g vb c : Nat) (cs : List Value) (w : World) (hok : ∀ r ∈ rs, okKn r) (hbase : base ≤ g) (hrow : Row w g 73 cs) (hcl : cs.length = c * 4) (hcm : c ≤ maxLen) (htk : cs.take (rs.length * 4) = rs.flatten)
    (hv : Row w vb 73 q) (h1 : okKn q) (hne : vb ≠ g) (hi : i < rs.length) (hroom : rs.length + 1 ≤ c) :
    Calls Tryd.prog 132 #[.slice (some ⟨g, 0, none⟩) rs.length c, .int .i64 (i : Int), .slice (some ⟨vb, 0, none⟩) 1 1] w fun e w' => w.grownBy w' (some g) ∧ ∃ v', e = .returned v' ∧ RowKn w' base v' (insR rs i q) := by
  have hsz : (Tryd.prog.info? 73).map (·.size) = some 4 := by kernel_rfl
  have hcell : ∀ j, w.drew.cell? ⟨g, j, none⟩ = cs[j]? := fun j => hrow.drew.cell j
  have hq4 : q.length = 4 := h1.1
  obtain ⟨n, hn⟩ : ∃ n, rs.length = n := ⟨_, rfl⟩
  rw [hn] at hi hroom htk ⊢
  have hfl : rs.flatten.length = n * 4 := by rw [flatKn_len hok, hn]
  obtain ⟨mv, hmv⟩ : ∃ mv, mv = rs.flatten.drop (i * 4) := ⟨_, rfl⟩
  have hml : mv.length = (n - i) * 4 := by rw [hmv, List.length_drop, hfl]; omega
  have hov : ∀ x lb cb, (callFunc 162 #[.slice (some ⟨vb, 0, none⟩) 1 1, .slice (some ⟨g, x, none⟩) lb cb]).run Tryd.prog w = .ok (.value (.bool false)) w := fun x lb cb => by
    rw [run_callFunc_extern Tryd.func162 (by kernel_rfl) (by kernel_rfl) (by kernel_rfl) (e := Extern.SlicesOverlaps.overlaps #[57, 57] #[4]) (by kernel_rfl)]
    rw [Lib.run_overlaps_apart w 57 4 73 Tryd.underlying57 4 sizeKn ⟨vb, 0, none⟩ ⟨g, x, none⟩ 1 1 lb cb hne 73 73 4 (c * 4) (by simp [World.shape?, show w.heap[vb]? = _ from hv, hq4]) (by simp [World.shape?, show w.heap[g]? = _ from hrow, hcl]) (by omega) (hv.frozen 0) (hv.frozen 4)]
    rfl
  have hcp1 : ∀ ty dc sc, (Builtin.copy_ #[57, 57] ty #[.slice (some ⟨g, (i + 1) * 4, none⟩) (n - i) dc, .slice (some ⟨g, i * 4, none⟩) (n + 1 - i) sc]).run Tryd.prog w.drew = .ok (goInt ((n - i : Nat) : Int)) (w.drew.setCells g ((i + 1) * 4) mv) := fun ty dc sc => by
    have e : Nat.min (n + 1 - i) (n - i) = n - i := by simp only [Nat.min_def]; split <;> omega
    have := run_copy_wide (P := Tryd.prog) w.drew 57 57 ty 73 4 g ((i + 1) * 4) (n - i) dc ⟨g, i * 4, none⟩ (n + 1 - i) sc mv Tryd.underlying57 hsz (by rw [hml, e])
      (fun j u hj => by
        have hadd : (⟨g, i * 4, none⟩ : Addr).add j = ⟨g, i * 4 + j, none⟩ := by unfold Addr.add; split <;> simp_all
        rw [hadd, hcell]
        rw [hmv, List.getElem?_drop] at hj
        exact flat_get_someR htk _ u hj)
      (fun j hj => by rw [hcell, List.getElem?_eq_getElem (by rw [hml] at hj; omega)]; rfl) (fun j hj => hrow.drew.frozen _)
      (fun u hu => flatKn_one hok u (by rw [hmv] at hu; exact List.mem_of_mem_drop hu))
    rw [e] at this
    exact this
  obtain ⟨W1, hW1⟩ : ∃ W1, W1 = w.drew.setCells g ((i + 1) * 4) mv := ⟨_, rfl⟩
  have hr1 : Row W1 g 73 (putL cs ((i + 1) * 4) mv) := by
    rw [hW1]
    exact Row.setCells _ _ _ _ hrow.drew (by rw [hml]; omega)
  have hl1 : (putL cs ((i + 1) * 4) mv).length = c * 4 := by rw [putL_length _ _ _ (by rw [hml]; omega), hcl]
  have hg1 : w.grownBy W1 (some g) := by rw [hW1]; exact grown_trans (⟨rfl, rfl, rfl, Nat.le_refl _, fun _ _ _ => rfl⟩ : w.grownBy w.drew _) (grown_setCells g _ _ w.drew)
  have hv1 : Row W1 vb 73 q := hv.grown hg1 (by simpa using hne)
  have hcp2 : ∀ ty dc, (Builtin.copy_ #[57, 57] ty #[.slice (some ⟨g, i * 4, none⟩) (n + 1 - i) dc, .slice (some ⟨vb, 0, none⟩) 1 1]).run Tryd.prog W1 = .ok (goInt ((1 : Nat) : Int)) (W1.setCells g (i * 4) q) := fun ty dc => by
    have e : Nat.min 1 (n + 1 - i) = 1 := by simp only [Nat.min_def]; split <;> omega
    have := run_copy_wide (P := Tryd.prog) W1 57 57 ty 73 4 g (i * 4) (n + 1 - i) dc ⟨vb, 0, none⟩ 1 1 q Tryd.underlying57 hsz (by rw [e, hq4])
      (fun j u hj => by
        have hadd : (⟨vb, 0, none⟩ : Addr).add j = ⟨vb, j, none⟩ := by unfold Addr.add; split <;> simp_all
        rw [hadd, hv1.cell]
        exact hj)
      (fun j hj => by rw [hr1.cell, List.getElem?_eq_getElem (by rw [hl1]; omega)]; rfl) (fun j hj => hr1.frozen _)
      h1.2
    rw [e] at this
    exact this
  rw [← hW1] at hcp1
  have FIN := hid (show w.grownBy (W1.setCells g (i * 4) q) (some g) ∧ RowKn (W1.setCells g (i * 4) q) base (.slice (some ⟨g, 0, none⟩) (n + 1) c) (insR rs i q) from by
    refine ⟨grown_trans hg1 (grown_setCells g _ _ _), RowKn.of_row (insR_all hok h1) hbase (Row.setCells _ _ _ _ hr1 (by rw [hl1]; omega)) (by rw [insR_length _ _ _ (by omega), hn]) hroom hcm (by rw [putL_length _ _ _ (by rw [hl1]; omega), hl1]) ?_⟩
    rw [putL_take _ _ _ (by rw [hl1]; omega) _ (by omega), putL_take_le _ _ _ (by omega) _ (by omega), show i * 4 + q.length = (i + 1) * 4 by omega, putL_drop _ _ _ (by omega)]
    rw [List.take_append_of_le_length (by rw [hml]; omega), show mv.take ((n + 1) * 4 - (i + 1) * 4) = mv from List.take_of_length_le (by rw [hml]; omega), flat_insR (fun r hr => (hok r hr).1), hmv, ← htk, List.take_take, Nat.min_eq_left (by omega)])
  have hc63 : c ≤ 9223372036854775807 := by unfold maxLen at hcm; omega
  have HW := hid hW1
  clear hW1 hr1 hl1 hg1 hv1 hcell hml hmv hrow htk hok hcl hcm hfl hv hn h1 hq4
  have hw1 : IntKind.i64.wrap ((i : Int) + 1) = (i : Int) + 1 := by rw [IntKind.wrap_i64]; omega
  have hw2 : IntKind.i64.wrap ((n : Int) + 1) = (n : Int) + 1 := by rw [IntKind.wrap_i64]; omega
  have b1 : (0 : Int) ≤ (i : Int) + 1 := by omega
  have b2 : (0 : Int) ≤ (n : Int) + 1 := by omega
  have hin : i ≤ n := by omega
  have htn : ((i : Int) + 1).toNat = i + 1 := by omega
  have htn2 : ((n : Int) + 1).toNat = n + 1 := by omega
  have b3 : ¬ (c = i + 1) := by omega
  have b4 : (i : Int) ≤ (n : Int) + 1 := by omega
  have b5 : ¬ (c = i) := by omega
  have b6 : ¬ ((i : Int) = (n : Int)) := by omega
  have b7 : decide ((c : Int) < (n : Int) + 1) = false := by simp; omega
  have b8' : (n : Int) + 1 ≤ (c : Int) := by omega
  have b9 : (i : Int) + 1 ≤ (n : Int) + 1 := by omega
  have b10 : (i : Int) ≤ (n : Int) := by omega
  have b11 : n + 1 - (i + 1) = n - i := by omega
  go_enter Tryd.func132, Tryd.ntmps132
  go_wp2_with (simp only [hov])
  go_region_law (refine step_copy_run rfl (.tmp 73) (.tmp 76) 57 57 rfl _ _ (by simp [Act.eval, Act.put]; rfl) (by simp [Act.eval, Act.put]; rfl) (hcp1 _ _ _) ?_)
  go_wp2_with (at_builtin; refine wpList_copy_run _ rfl (.tmp 80) (.tmp 81) 57 57 rfl _ _ rfl rfl (hcp2 _ _) ?_)
  go_ret
  exact ⟨FIN.out.1, .slice (some ⟨g, 0, none⟩) (n + 1) c, rfl, FIN.out.2⟩
set_option maxRecDepth 100000 in
set_option maxHeartbeats 2000000 in
/-- ahead of others, where there is no room -/
theorem insertKn_grow (rs : List (List Value)) (i : Nat) (q : List Value) (base g vb c : Nat) (cs : List Value) (w : World) (hok : ∀ r ∈ rs, okKn r) (hbase : base ≤ g) (hrow : Row w g 73 cs) (htk : cs.take (rs.length * 4) = rs.flatten)
    (hv : Row w vb 73 q) (h1 : okKn q) (hi : i < rs.length) (hnc : rs.length ≤ c) (hroom : c < rs.length + 1) (hl : rs.length ≤ 1000) :
    Calls Tryd.prog 132 #[.slice (some ⟨g, 0, none⟩) rs.length c, .int .i64 (i : Int), .slice (some ⟨vb, 0, none⟩) 1 1] w fun e w' => w.grownBy w' (some g) ∧ ∃ v', e = .returned v' ∧ RowKn w' base v' (insR rs i q) := by
  obtain ⟨i0, hi0, hz0, hzs, hzb⟩ := info_parts infoKn
  have hsz : (Tryd.prog.info? 73).map (·.size) = some 4 := by kernel_rfl
  have hcell : ∀ j, w.drew.cell? ⟨g, j, none⟩ = cs[j]? := fun j => hrow.drew.cell j
  have hq4 : q.length = 4 := h1.1
  obtain ⟨n, hn⟩ : ∃ n, rs.length = n := ⟨_, rfl⟩
  rw [hn] at hi hroom htk hnc hl ⊢
  have hfl : rs.flatten.length = n * 4 := by rw [flatKn_len hok, hn]
  obtain ⟨mv, hmv⟩ : ∃ mv, mv = rs.flatten.drop (i * 4) := ⟨_, rfl⟩
  have hml : mv.length = (n - i) * 4 := by rw [hmv, List.length_drop, hfl]; omega
  obtain ⟨olds, holds⟩ : ∃ olds, olds = rs.flatten.take (i * 4) := ⟨_, rfl⟩
  have hol : olds.length = i * 4 := by rw [holds, List.length_take, hfl]; omega
  have hold : (Builtin.firstCells i0.size i (.slice (some ⟨g, 0, none⟩) i c)).run Tryd.prog w.drew = .ok olds.toArray w.drew := by
    rw [hzs]
    exact run_firstCells_some w.drew 4 i ⟨g, 0, none⟩ i c olds hol (fun j u hj => by
      have hadd : (⟨g, 0, none⟩ : Addr).add j = ⟨g, j, none⟩ := by unfold Addr.add; split <;> simp_all
      rw [hadd, hcell]
      rw [holds, List.getElem?_take] at hj
      split at hj
      · exact flat_get_someR htk _ u hj
      · cases hj)
  obtain ⟨G, hG⟩ : ∃ G, G = grownCap w (n + 1) c 73 := ⟨_, rfl⟩
  obtain ⟨zc, hzc⟩ : ∃ zc, zc = (Value.agg #[.int .i64 0, .int .i64 0, .slice none 0 0, .slice none 0 0]).cells := ⟨_, rfl⟩
  have hzl : zc.size = 4 := by rw [hzc]; rfl
  obtain ⟨W1, hW1⟩ : ∃ W1, W1 = w.drew.alloc (.cells (olds.toArray ++ Builtin.zeroCells zc (n + 1 - i) ++ Builtin.zeroCells zc (G - (n + 1))) 73) := ⟨_, rfl⟩
  have hGn : n + 1 ≤ G := by rw [hG]; exact grownCap_ge w _ _ _
  have hGm : G ≤ maxLen := by rw [hG]; exact grownCap_le_maxLen w (n + 1) c 73 (by unfold maxLen; omega)
  have hrz : ∀ ty, (Builtin.append_ #[57, 3] ty #[.slice (some ⟨g, 0, none⟩) i c, .int .i64 ((n : Int) + 1 - (i : Int))]).run Tryd.prog w = .ok (.slice (some ⟨w.heap.size, 0, none⟩) (n + 1) G) W1 := fun ty => by
    have h := Lib.run_append_grow_zeros w 57 3 ty 73 i0 _ .i64 .i64 Tryd.underlying57 Tryd.underlying3 hi0 hz0 (some ⟨g, 0, none⟩) i c olds hold (n + 1 - i) (by omega) (by omega) (by omega) (by omega) (by rw [hzb]; omega) (by rw [hzb, show i + (n + 1 - i) = n + 1 by omega]; exact growslice_fits hroom (by omega))
    rw [show i + (n + 1 - i) = n + 1 by omega] at h
    rw [show (n : Int) + 1 - (i : Int) = ((n + 1 - i : Nat) : Int) by omega, h, hW1, ← hG, hzc]
  obtain ⟨R0, hR0⟩ : ∃ R0 : List Value, R0 = olds ++ ((Builtin.zeroCells zc (n + 1 - i)).toList ++ (Builtin.zeroCells zc (G - (n + 1))).toList) := ⟨_, rfl⟩
  have hr1 : Row W1 w.heap.size 73 R0 := by
    have := Row.new w.drew 73 R0
    rw [hW1, show (olds.toArray ++ Builtin.zeroCells zc (n + 1 - i) ++ Builtin.zeroCells zc (G - (n + 1))) = R0.toArray by rw [hR0]; simp]
    exact this
  have hl1 : R0.length = G * 4 := by
    rw [hR0]
    simp only [List.length_append, Array.length_toList, size_zeroCells, hzl, hol]
    omega
  have htk1 : R0.take (i * 4) = olds := by
    rw [hR0, List.take_append_of_le_length (by omega), List.take_of_length_le (by omega)]
  have hg1 : w.grownBy W1 (some g) := by
    rw [hW1]
    exact grown_trans (⟨rfl, rfl, rfl, Nat.le_refl _, fun _ _ _ => rfl⟩ : w.grownBy w.drew _) (grown_alloc w.drew _ _)
  have hgw : g < w.heap.size := hrow.lt
  have hvw : vb < w.heap.size := hv.lt
  have hbl1 : Below w.heap.size w W1 := by
    rw [hW1]
    exact (show Below w.heap.size w w.drew from ⟨rfl, rfl, rfl, Nat.le_refl _, fun _ _ => rfl⟩).alloc (Nat.le_refl _) _
  have hv1 : Row W1 vb 73 q := hv.below hbl1 hvw
  obtain ⟨B, hB⟩ : ∃ B, w.heap.size = B := ⟨_, rfl⟩
  have hcpA : ∀ ty dc, (Builtin.copy_ #[57, 57] ty #[.slice (some ⟨B, i * 4, none⟩) (n + 1 - i) dc, .slice (some ⟨vb, 0, none⟩) 1 1]).run Tryd.prog W1 = .ok (goInt ((1 : Nat) : Int)) (W1.setCells B (i * 4) q) := fun ty dc => by
    rw [← hB]
    have e : Nat.min 1 (n + 1 - i) = 1 := by simp only [Nat.min_def]; split <;> omega
    have := run_copy_wide (P := Tryd.prog) W1 57 57 ty 73 4 w.heap.size (i * 4) (n + 1 - i) dc ⟨vb, 0, none⟩ 1 1 q Tryd.underlying57 hsz (by rw [e, hq4])
      (fun j u hj => by
        have hadd : (⟨vb, 0, none⟩ : Addr).add j = ⟨vb, j, none⟩ := by unfold Addr.add; split <;> simp_all
        rw [hadd, hv1.cell]
        exact hj)
      (fun j hj => by rw [hr1.cell, List.getElem?_eq_getElem (by rw [hl1]; omega)]; rfl) (fun j hj => hr1.frozen _)
      h1.2
    rw [e] at this
    exact this
  obtain ⟨W2, hW2⟩ : ∃ W2, W2 = W1.setCells B (i * 4) q := ⟨_, rfl⟩
  rw [← hW2] at hcpA
  have hr2 : Row W2 w.heap.size 73 (putL R0 (i * 4) q) := by
    rw [hW2, ← hB]
    exact Row.setCells _ _ _ _ hr1 (by rw [hl1]; omega)
  have hl2 : (putL R0 (i * 4) q).length = G * 4 := by rw [putL_length _ _ _ (by rw [hl1]; omega), hl1]
  have hg2 : w.grownBy W2 (some g) := by
    rw [hW2, ← hB]
    exact grown_pastR hg1 (Nat.le_refl _) (grown_setCells _ _ _ _)
  have hrg2 : Row W2 g 73 cs := by
    rw [hW2]
    exact (hrow.below hbl1 hgw).grown (grown_setCells B _ _ W1) (by simp; omega)
  have hcpB : ∀ ty dc sc, (Builtin.copy_ #[57, 57] ty #[.slice (some ⟨B, (i + 1) * 4, none⟩) (n - i) dc, .slice (some ⟨g, i * 4, none⟩) (n - i) sc]).run Tryd.prog W2.drew = .ok (goInt ((n - i : Nat) : Int)) (W2.drew.setCells B ((i + 1) * 4) mv) := fun ty dc sc => by
    rw [← hB]
    have e : Nat.min (n - i) (n - i) = n - i := Nat.min_self _
    have := run_copy_wide (P := Tryd.prog) W2.drew 57 57 ty 73 4 w.heap.size ((i + 1) * 4) (n - i) dc ⟨g, i * 4, none⟩ (n - i) sc mv Tryd.underlying57 hsz (by rw [hml, e])
      (fun j u hj => by
        have hadd : (⟨g, i * 4, none⟩ : Addr).add j = ⟨g, i * 4 + j, none⟩ := by unfold Addr.add; split <;> simp_all
        rw [hadd, hrg2.drew.cell]
        rw [hmv, List.getElem?_drop] at hj
        exact flat_get_someR htk _ u hj)
      (fun j hj => by rw [hr2.drew.cell, List.getElem?_eq_getElem (by rw [hml] at hj; rw [hl2]; omega)]; rfl) (fun j hj => hr2.drew.frozen _)
      (fun u hu => flatKn_one hok u (by rw [hmv] at hu; exact List.mem_of_mem_drop hu))
    rw [e] at this
    exact this
  have FIN := hid (show w.grownBy (W2.drew.setCells B ((i + 1) * 4) mv) (some g) ∧ RowKn (W2.drew.setCells B ((i + 1) * 4) mv) base (.slice (some ⟨B, 0, none⟩) (n + 1) G) (insR rs i q) from by
    rw [← hB]
    refine ⟨grown_pastR (grown_drew hg2) (Nat.le_refl _) (grown_setCells _ _ _ _), RowKn.of_row (insR_all hok h1) (by omega) (Row.setCells _ _ _ _ hr2.drew (by rw [hl2, hml]; omega)) (by rw [insR_length _ _ _ (by omega), hn]) hGn hGm (by rw [putL_length _ _ _ (by rw [hl2, hml]; omega), hl2]) ?_⟩
    rw [putL_take _ _ _ (by rw [hl2]; omega) _ (by rw [hml]; omega), putL_take _ _ _ (by rw [hl1]; omega) _ (by omega), hml, htk1]
    rw [show (i + 1) * 4 - (i * 4 + q.length) = 0 by omega, show (n + 1) * 4 - ((i + 1) * 4 + (n - i) * 4) = 0 by omega, List.take_zero, List.take_zero, List.append_nil, List.append_nil, flat_insR (fun r hr => (hok r hr).1), holds, hmv])
  have hG63 : G ≤ 9223372036854775807 := by unfold maxLen at hGm; omega
  have HB := hid hB
  rw [hB] at hrz
  clear hW1 hW2 hr1 hr2 hrg2 hl1 hl2 hg1 hg2 hv1 hcell hml hmv hrow htk hok hfl hv hn h1 htk1 hR0 hold holds hol hG hzc hzl hbl1 hGm hB hi0 hz0 hzs hzb hq4
  have hw1 : IntKind.i64.wrap ((i : Int) + 1) = (i : Int) + 1 := by rw [IntKind.wrap_i64]; omega
  have hw2 : IntKind.i64.wrap ((n : Int) + 1) = (n : Int) + 1 := by rw [IntKind.wrap_i64]; omega
  have hw3 : IntKind.i64.wrap ((n : Int) + 1 - (i : Int)) = (n : Int) + 1 - (i : Int) := by rw [IntKind.wrap_i64]; omega
  have b1 : (0 : Int) ≤ (i : Int) + 1 := by omega
  have hin : i ≤ n := by omega
  have htn : ((i : Int) + 1).toNat = i + 1 := by omega
  have b3 : ¬ (G = i + 1) := by omega
  have b4 : (i : Int) ≤ (n : Int) + 1 := by omega
  have b5 : ¬ (c = i) := by omega
  have b5' : ¬ (G = i) := by omega
  have b6 : ¬ ((i : Int) = (n : Int)) := by omega
  have b7 : decide ((c : Int) < (n : Int) + 1) = true := by simp; omega
  have b9 : (i : Int) + 1 ≤ (n : Int) + 1 := by omega
  have b10 : (i : Int) ≤ (n : Int) := by omega
  have b11 : n + 1 - (i + 1) = n - i := by omega
  have b12 : (i : Int) ≤ (c : Int) := by omega
  go_enter Tryd.func132, Tryd.ntmps132
  go_wp2_with (first
    | (at_builtin; refine Lib.wpList_append_run _ rfl (.tmp 34) (.tmp 39) _ _ rfl _ _ rfl rfl _ _ (hrz _) ?_)
    | (at_builtin; refine wpList_copy_run _ rfl (.tmp 43) (.tmp 44) 57 57 rfl _ _ rfl rfl (hcpA _ _) ?_))
  go_region_law (refine step_copy_run rfl (.tmp 50) (.tmp 53) 57 57 rfl _ _ (by simp [Act.eval, Act.put]; rfl) (by simp [Act.eval, Act.put]; rfl) (hcpB _ _ _) ?_)
  go_wp2
  go_ret
  exact ⟨FIN.out.1, .slice (some ⟨B, 0, none⟩) (n + 1) G, rfl, FIN.out.2⟩
/-- what slices.Insert does with a row that is owned, of one record in a block of its own -/
theorem insertKn_any (rs : List (List Value)) (i : Nat) (q : List Value) (base vb : Nat) (v : Value) (w : World) (h : RowKn w base v rs) (hb : base ≤ w.heap.size) (hv : Row w vb 73 q) (h1 : okKn q)
    (hne : ∀ g, v.ownBlock = some g → vb ≠ g) (hi : i ≤ rs.length) (hl : rs.length ≤ 1000) :
    Calls Tryd.prog 132 #[v, .int .i64 (i : Int), .slice (some ⟨vb, 0, none⟩) 1 1] w fun e w' => w.grownBy w' v.ownBlock ∧ ∃ v', e = .returned v' ∧ RowKn w' base v' (insR rs i q) := by
  by_cases he : i = rs.length
  · subst he
    exact insertKn_end rs q base vb v w h hb hv h1 hl
  · obtain ⟨g, c, cs, rfl, hbase, hrow, hnc, hcm, hcl, htk⟩ := h.row (by omega)
    by_cases hroom : rs.length + 1 ≤ c
    · exact insertKn_shift rs i q base g vb c cs w h.1 hbase hrow hcl hcm htk hv h1 (hne g rfl) (by omega) hroom
    · exact insertKn_grow rs i q base g vb c cs w h.1 hbase hrow htk hv h1 (by omega) hnc (by omega) hl
set_option maxRecDepth 100000 in
set_option maxHeartbeats 2000000 in
/-- what slices.Delete does with a row that is owned, of one record -/
theorem deleteKn_any (rs : List (List Value)) (i base : Nat) (v : Value) (w : World) (h : RowKn w base v rs) (hi : i < rs.length) (j : Nat) (hj : j = i + 1) :
    Calls Tryd.prog 133 #[v, .int .i64 (i : Int), .int .i64 (j : Int)] w fun e w' => w.grownBy w' v.ownBlock ∧ ∃ v', e = .returned v' ∧ RowKn w' base v' (rs.take i ++ rs.drop (i + 1)) := by
  have hok := h.1
  have hl4 : ∀ r ∈ rs, r.length = 4 := fun r hr => (hok r hr).1
  obtain ⟨g, c, cs, rfl, hbase, hrow, hnc, hcm, hcl, htk⟩ := h.row (by omega)
  obtain ⟨i0, hi0, hz0, hz1, hz2⟩ := info_parts infoKn
  obtain ⟨news, hnews⟩ : ∃ news, news = (rs.drop j).flatten := ⟨_, rfl⟩
  have hnl : news.length = (rs.length - j) * 4 := by rw [hnews, flatKn_len (fun r hr => hok r (List.mem_of_mem_drop hr))]; simp
  have hcell : ∀ j, w.drew.cell? ⟨g, j, none⟩ = cs[j]? := fun j => hrow.drew.cell j
  obtain ⟨A, hA, hsrc⟩ : ∃ A : Addr, (if c = j then some (⟨g, 0, none⟩ : Addr) else some ⟨g, j * 4, none⟩) = some A ∧ Hid (∀ t u, news[t]? = some u → w.drew.cell? (A.add t) = some u) := by
    by_cases hc : c = j
    · refine ⟨⟨g, 0, none⟩, by simp [hc], fun t u hu => ?_⟩
      have h0 : news.length = 0 := by rw [hnl]; omega
      rw [List.length_eq_zero_iff.1 h0] at hu
      simp at hu
    · refine ⟨⟨g, j * 4, none⟩, by simp [hc], fun t u hu => ?_⟩
      have hadd : (⟨g, j * 4, none⟩ : Addr).add t = ⟨g, j * 4 + t, none⟩ := by unfold Addr.add; split <;> simp_all
      rw [hadd, hcell]
      rw [hnews, flat_dropR rs hl4, List.getElem?_drop] at hu
      exact flat_get_someR htk _ u hu
  have s2 := hid (show ∀ u ∈ news, u.oneCell' = true by
    rw [hnews]
    exact flatKn_one fun r hr => hok r (List.mem_of_mem_drop hr))
  have s3 := hid (show ∀ t, t < news.length → (w.drew.cell? ⟨g, 0 + i * 4 + t, none⟩).isSome = true ∧ w.drew.frozen? ⟨g, 0 + i * 4 + t, none⟩ = false by
    intro t ht
    rw [hnl] at ht
    rw [hcell]
    refine ⟨?_, hrow.drew.frozen _⟩
    rw [List.getElem?_eq_getElem (by omega)]
    rfl)
  obtain ⟨W1, hW1⟩ : ∃ W1, W1 = w.drew.setCells g (0 + i * 4) news := ⟨_, rfl⟩
  have hr1 : Row W1 g 73 (putL cs (i * 4) news) := by
    rw [hW1, Nat.zero_add]
    exact Row.setCells news (i * 4) _ _ hrow.drew (by rw [hnl]; omega)
  have hl1 : (putL cs (i * 4) news).length = c * 4 := by rw [putL_length _ _ _ (by rw [hnl]; omega), hcl]
  have hg1 : w.grownBy W1 (some g) := by rw [hW1]; exact grown_trans (⟨rfl, rfl, rfl, Nat.le_refl _, fun _ _ _ => rfl⟩ : w.grownBy w.drew _) (grown_setCells g _ _ w.drew)
  obtain ⟨n, hn⟩ : ∃ n, rs.length = n := ⟨_, rfl⟩
  have hcl2 := hid (show ∀ ty (x y : Nat), x = n - 1 → (Builtin.clear_ #[57] ty #[.slice (some ⟨g, x * 4, none⟩) (n - x) y]).run Tryd.prog W1 = .ok (.tuple #[]) (W1.setCells g (x * 4) [.int .i64 0, .int .i64 0, .slice none 0 0, .slice none 0 0]) from fun ty x y hx => by
    have hst := run_storeCells_cells (P := Tryd.prog) g (x * 4) [.int .i64 0, .int .i64 0, .slice none 0 0, .slice none 0 0] 0 W1 (fun j hj => by
        rw [hr1.cell, List.getElem?_eq_getElem (by rw [hl1]; simp at hj; omega)]
        rfl) (fun j hj => hr1.frozen _) (fun u hu => by
        simp at hu
        rcases hu with rfl | rfl <;> rfl)
    simp only [Nat.add_zero] at hst
    have e1 : n - x = 0 + 1 := by omega
    rw [e1]
    have hzv : ∀ w, (zeroValue 73).run Tryd.prog w = .ok (.agg #[.int .i64 0, .int .i64 0, .slice none 0 0, .slice none 0 0]) w := by intro w; kernel_rfl
    have hzc : (Builtin.zeroCells (Value.agg #[.int .i64 0, .int .i64 0, .slice none 0 0, .slice none 0 0]).cells (0 + 1)).toList = [.int .i64 0, .int .i64 0, .slice none 0 0, .slice none 0 0] := by kernel_rfl
    simp [Builtin.clear_, run_underlying Tryd.underlying57, hzv, hzc, hst])
  have FIN := hid (show ∀ x m : Nat, x = n - 1 → m = n - 1 → w.grownBy (W1.setCells g (x * 4) [.int .i64 0, .int .i64 0, .slice none 0 0, .slice none 0 0]) (some g) ∧ RowKn (W1.setCells g (x * 4) [.int .i64 0, .int .i64 0, .slice none 0 0, .slice none 0 0]) base (.slice (some ⟨g, 0, none⟩) m c) (rs.take i ++ rs.drop j) from fun x m hx hm => by
    refine ⟨grown_trans hg1 (grown_setCells g _ _ _), RowKn.of_row (fun r hr => ?_) hbase (Row.setCells _ _ _ _ hr1 (by rw [hl1]; simp; omega)) (by simp; omega) (by omega) hcm (by rw [putL_length _ _ _ (by rw [hl1]; simp; omega), hl1]) ?_⟩
    · rcases List.mem_append.1 hr with hr | hr
      · exact hok r (List.mem_of_mem_take hr)
      · exact hok r (List.mem_of_mem_drop hr)
    rw [putL_take_le _ _ _ (by rw [hl1]; omega) _ (by omega), putL_take cs (i * 4) news (by omega) _ (by rw [hnl]; omega), hnl, show m * 4 - (i * 4 + (rs.length - j) * 4) = 0 by omega]
    rw [List.take_zero, List.append_nil, List.flatten_append, hnews, flat_takeR rs hl4, ← htk, List.take_take, Nat.min_eq_left (by omega)])
  have HN := hid hn
  have HJ := hid hj
  have hnl2 := hid (show news.length = (n - j) * 4 by rw [hnl, hn])
  have hin : i < n := by omega
  rw [hn] at hnc
  have hc63 : c ≤ 9223372036854775807 := by unfold maxLen at hcm; omega
  have hW := hid hW1
  clear hW1 hr1 hl1 hg1 hcell hnl hnews hrow htk h hok hl4 hi hcl hcm
  rw [hn]
  clear hn
  have f1 : i ≤ c := by omega
  have f2 : j ≤ c := by omega
  have f3 : (i : Int) ≤ (n : Int) := by omega
  have f4 : ((j : Nat) : Int) ≤ (n : Int) := by omega
  have f5 : (i : Int) ≤ ((j : Nat) : Int) := by omega
  have f7 : ¬ ((i : Int) = ((j : Nat) : Int)) := by omega
  obtain ⟨m, hm⟩ : ∃ m, i + (n - j) = m := ⟨_, rfl⟩
  have hmn : m = n - 1 := by omega
  have f8 : (m : Int) ≤ (n : Int) := by omega
  have f9 : ¬ c = m := by omega
  have f10 : n ≤ c := by omega
  have f11 : (n : Int) ≤ (c : Int) := by omega
  have hclr : ∀ ty, (Builtin.clear_ #[57] ty #[.slice (some ⟨g, m * 4, none⟩) (n - m) (c - m)]).run Tryd.prog W1 = .ok (.tuple #[]) (W1.setCells g (m * 4) [.int .i64 0, .int .i64 0, .slice none 0 0, .slice none 0 0]) := fun ty => hcl2.out ty m (c - m) hmn
  have HM := hid hm
  have HMN := hid hmn
  clear hj hmn
  go_enter Tryd.func133, Tryd.ntmps133
  go_wp2_with fail
  go_region_law (refine step_append_room rfl (.tmp 22) (.tmp 25) 57 rfl 73 i0 4 Tryd.underlying57 hi0 hz1 g 0 i c (by simp [Act.eval, Act.put]) A (n - j) (c - j) news (by simp [Act.eval, Act.put]) hnl2.out hsrc.out s2.out (by omega) s3.out ?_; rw [← hW.out])
  go_wp2
  go_ret
  obtain ⟨r1, r2⟩ := FIN.out m m HMN.out HMN.out
  exact ⟨r1, .slice (some ⟨g, 0, none⟩) m c, rfl, by rw [← HJ.out]; exact r2⟩
end Go.Proofs.YtfpngilmdgeikaaDoor
