/-
  slices.Clone at lists of records.
-/
import Derived.Test.YtnoaohlajllngaaDoortlStMem
import Derived.Laws.AppendOwnNone
import Derived.Lib.SliceRun
namespace Go.Proofs.YtnoaohlajllngaaDoor
open Go.RowKit

/-- rows of k cells each in memory of a call's own -/
def RowT (t : TypeId) (k : Nat) (w : World) (base : Nat) (v : Value) (rs : List (List Value)) : Prop := (∀ r ∈ rs, r.length = k ∧ ∀ x ∈ r, x.oneCell' = true) ∧ w.ownsRow base t k v rs.length rs.flatten
theorem RowT.shape {t : TypeId} {k : Nat} {w : World} {base : Nat} {v : Value} {rs : List (List Value)} (h : RowT t k w base v rs) : ∃ oa cap, v = .slice oa rs.length cap ∧ rs.length ≤ cap := by
  obtain ⟨_, _, h2⟩ := h
  rcases h2 with ⟨h3, h4⟩ | ⟨g, cap, cur, h3, _, _, h4, _⟩
  · exact ⟨none, 0, by rw [h4]; exact h3, by omega⟩
  · exact ⟨_, cap, h3, h4⟩
theorem RowT.below {t : TypeId} {k : Nat} {w w' : World} {base : Nat} {v : Value} {rs : List (List Value)} (h : RowT t k w base v rs) (hg : Below w.heap.size w w') : RowT t k w' base v rs := ⟨h.1, ownsRow_belowR h.2 hg⟩
theorem RowT.mono {t : TypeId} {k : Nat} {w : World} {base base' : Nat} {v : Value} {rs : List (List Value)} (h : RowT t k w base v rs) (hb : base' ≤ base) : RowT t k w base' v rs := by
  obtain ⟨h0, h1, h2⟩ := h
  refine ⟨h0, h1, ?_⟩
  rcases h2 with h2 | ⟨g, cap, cur, h3, h4, h5⟩
  · exact .inl h2
  · exact .inr ⟨g, cap, cur, h3, Nat.le_trans hb h4, h5⟩
/-- its block is from base on, and there -/
theorem RowT.own {t : TypeId} {k : Nat} {w : World} {base : Nat} {v : Value} {rs : List (List Value)} (h : RowT t k w base v rs) : ∀ g, v.ownBlock = some g → base ≤ g ∧ g < w.heap.size := fun g hg => World.ownsRow.lt h.2 g hg
theorem RowT.recs {t : TypeId} {k : Nat} {w : World} {base : Nat} {v : Value} {rs : List (List Value)} (h : RowT t k w base v rs) : Recs w w.heap.size v k rs := ownsRow_recs h.2 (fun r hr => (h.1 r hr).1)
/-- .. wherever that block stands as it does -/
theorem RowT.keep {t : TypeId} {k : Nat} {w w' : World} {base : Nat} {v : Value} {rs : List (List Value)} (h : RowT t k w base v rs) (hk : ∀ g, v.ownBlock = some g → w'.heap[g]? = w.heap[g]?) : RowT t k w' base v rs := by
  obtain ⟨h0, h1, h2⟩ := h
  refine ⟨h0, h1, ?_⟩
  rcases h2 with h2 | ⟨g, cap, cur, h3, h4, h5, h6⟩
  · exact .inl h2
  · exact .inr ⟨g, cap, cur, h3, h4, (hk g (by rw [h3]; rfl)).trans h5, h6⟩
theorem flatT_one {k : Nat} {rs : List (List Value)} (h : ∀ r ∈ rs, r.length = k ∧ ∀ x ∈ r, x.oneCell' = true) : ∀ u ∈ rs.flatten, u.oneCell' = true := by
  intro u hu
  obtain ⟨r, hr, hu⟩ := List.mem_flatten.1 hu
  exact (h r hr).2 u hu
/-- what is known of a record's type: its cells, and a list's -/
def RecF (t st : TypeId) (k : Nat) : Prop := Tryd.prog.underlying st = some (.slice t) ∧ ∃ i z B, Tryd.prog.info? t = some i ∧ i.zero = some z ∧ i.size = k ∧ i.bytes = B ∧ z.cells.size = k ∧ 0 < k ∧ B ≤ 1000
theorem recF_of {t st : TypeId} {k : Nat} {z : Value} {B : Nat} (hu : Tryd.prog.underlying st = some (.slice t)) (hi : (Tryd.prog.info? t).map (fun i => (i.zero, i.size, i.bytes)) = some (some z, k, B)) (hz : z.cells.size = k) (h0 : 0 < k) (hB : B ≤ 1000) : RecF t st k := by
  obtain ⟨i0, hi0, hz0, hz1, hz2⟩ := info_parts hi
  exact ⟨hu, i0, z, B, hi0, hz0, hz1, hz2, hz, h0, hB⟩
/-- a record more, or several -/
theorem wp_appendT {t st : TypeId} {k : Nat} (hF : RecF t st k) {o : Oper} {a : Act} {W : World} {K : Act → World → Prop} {Q : Exit → Act → World → Prop} (s x : Operand)
    (ho : o.op = .call { callee := .builtin .append, args := #[s, x], argTypes := #[st, st] })
    (base : Nat) (v : Value) (rs : List (List Value)) (hs : a.eval s = v) (hown : RowT t k W base v rs) (sv : Value) (qs : List (List Value)) {M : Nat} (hx : a.eval x = sv) (hsrc : Recs W M sv k qs)
    (hok : ∀ r ∈ qs, r.length = k ∧ ∀ x ∈ r, x.oneCell' = true) (hl : rs.length + qs.length ≤ 1000000) (hbase : base ≤ W.heap.size)
    (h : ∀ v' w', RowT t k w' base v' (rs ++ qs) → Below base W w' → W.grownBy w' v.ownBlock → K (a.put o.dst v') w') : o.wp Tryd.prog a W K Q := by
  obtain ⟨hu, i0, z, B, hi0, hz0, hz1, hz2, hz3, h0, hB⟩ := hF
  rcases hsrc.source (fun r hr => (hok r hr).1) h0 with ⟨rfl, rfl⟩ | ⟨ad, cap, rfl, hcs⟩
  · have hrun := run_append_owned_none (P := Tryd.prog) (w := W) base st o.type t i0 k hu hi0 v rs.length rs.flatten hown.2
    unfold Oper.wp
    simp [execOp, ho, resolve, invoke, builtin, hs, hx, hrun, Result.andThen]
    exact h v W (by simpa using hown) (Below.refl _ _) (grown_refl _ _)
  · have hby : (rs.length + qs.length) * B ≤ 140737488355328 := by
      have h1 := Nat.mul_le_mul hl hB
      omega
    refine wp_append_own W s x st ho base t i0 z k B hu hi0 hz0 hz1 hz2 hz3 h0 v rs.length rs.flatten hs hown.2 ad qs.length cap qs.flatten hx (flat_lenR qs (fun r hr => (hok r hr).1)) hcs (flatT_one hok) (by unfold maxLen; omega) hby hbase ?_
    intro v' w' h1 h2 _
    refine h v' w' ⟨fun r hr => ?_, ?_⟩ ((Below.refl base W).grown h2 hbase (fun k hk => (World.ownsRow.lt hown.2 k hk).1)) h2
    · rcases List.mem_append.1 hr with hr | hr
      · exact hown.1 r hr
      · exact hok r hr
    · rw [List.length_append, List.flatten_append]
      exact h1
theorem wpList_appendT {t st : TypeId} {k : Nat} (hF : RecF t st k) {ops : Array Oper} {rest : List Oper} {o : Oper} {a : Act} {W : World} {Q : Exit → Act → World → Prop} (hgd : o.guard = none) (s x : Operand)
    (ho : o.op = .call { callee := .builtin .append, args := #[s, x], argTypes := #[st, st] })
    (base : Nat) (v : Value) (rs : List (List Value)) (hs : a.eval s = v) (hown : RowT t k W base v rs) (sv : Value) (qs : List (List Value)) {M : Nat} (hx : a.eval x = sv) (hsrc : Recs W M sv k qs)
    (hok : ∀ r ∈ qs, r.length = k ∧ ∀ x ∈ r, x.oneCell' = true) (hl : rs.length + qs.length ≤ 1000000) (hbase : base ≤ W.heap.size)
    (h : ∀ v' w', RowT t k w' base v' (rs ++ qs) → Below base W w' → W.grownBy w' v.ownBlock → wpList Tryd.prog ops Q rest (a.put o.dst v') w') : wpList Tryd.prog ops Q (o :: rest) a W :=
  wpList_plain hgd fun _ hK => wp_appendT hF s x ho base v rs hs hown sv qs hx hsrc hok hl hbase fun v' w' h1 h2 h3 => hK _ _ (h v' w' h1 h2 h3)
theorem RowT.made {t : TypeId} {k : Nat} (w : World) (base : Nat) (hb : base ≤ w.heap.size) : RowT t k (w.alloc (.cells #[] t)) base (.slice (some ⟨w.heap.size, 0, none⟩) 0 0) [] :=
  ⟨fun _ h => (by cases h), by
    have := World.ownsRow_made (e := t) (size := k) w #[] 0 hb (Nat.zero_le _) (by simp)
    simpa using this⟩
theorem flat_set {k : Nat} (rs : List (List Value)) (h : ∀ r ∈ rs, r.length = k) (i : Nat) (r : List Value) (hi : i < rs.length) (hr : r.length = k) : (rs.set i r).flatten = putL rs.flatten (i * k) r := by
  rw [List.set_eq_take_append_cons_drop, if_pos hi, List.flatten_append, List.flatten_cons, flat_takeR rs h, flat_dropR rs h]
  unfold putL
  rw [hr, Nat.succ_mul, List.append_assoc]
/-- one record's cells, changed where they stand -/
theorem RowT.put {t : TypeId} {k : Nat} {w : World} {base g c i : Nat} {n : Nat} {rs : List (List Value)} {r : List Value} (h : RowT t k w base (.slice (some ⟨g, 0, none⟩) n c) rs) (hi : i < rs.length) (hr : r.length = k ∧ ∀ x ∈ r, x.oneCell' = true) :
    RowT t k (w.setCells g (i * k) r) base (.slice (some ⟨g, 0, none⟩) n c) (rs.set i r) := by
  obtain ⟨h0, h1, h2⟩ := h
  have hk : ∀ r' ∈ rs.set i r, r'.length = k := fun x hx => by
    rcases List.mem_or_eq_of_mem_set hx with hx | rfl
    · exact (h0 x hx).1
    · exact hr.1
  refine ⟨fun x hx => ?_, flat_lenR _ hk, ?_⟩
  · rcases List.mem_or_eq_of_mem_set hx with hx | rfl
    · exact h0 x hx
    · exact hr
  · rcases h2 with ⟨h3, h4⟩ | ⟨g', cap, cur, h3, h4, h5, h6, h7, h8, h9⟩
    · cases h3
    · simp only [Value.slice.injEq, Option.some.injEq, Addr.mk.injEq] at h3
      obtain ⟨⟨rfl, -, -⟩, rfl, rfl⟩ := h3
      have hik : i * k + k ≤ rs.length * k := by have := Nat.mul_le_mul_right k hi; rw [Nat.succ_mul] at this; exact this
      have hck : rs.length * k ≤ c * k := Nat.mul_le_mul_right k h6
      have hcl : cur.toList.length = c * k := by simpa using h8
      have h10 := Row.setCells r (i * k) w cur.toList (show Row w g t cur.toList by unfold Row; simpa using h5) (by rw [hr.1, hcl]; omega)
      refine .inr ⟨g, c, (putL cur.toList (i * k) r).toArray, by rw [List.length_set], h4, h10, by rw [List.length_set]; exact h6, h7, ?_, ?_⟩
      · rw [List.size_toArray, putL_length _ _ _ (by rw [hr.1, hcl]; omega), hcl]
      · rw [List.length_set, flat_set rs (fun r hr => (h0 r hr).1) i r hi hr.1, ← h9]
        show (putL cur.toList (i * k) r).take (rs.length * k) = _
        rw [putL_take _ _ _ (by omega) _ (by rw [hr.1]; exact hik)]
        unfold putL
        rw [List.take_take, Nat.min_eq_left (by omega), List.drop_take]


end Go.Proofs.YtnoaohlajllngaaDoor
namespace Go.Proofs.YtnoaohlajllngaaDoor
open Go.RowKit

theorem recs_none {w : World} {N k n c : Nat} {rs : List (List Value)} (h : Recs w N (.slice none n c) k rs) : rs = [] ∧ n = 0 ∧ c = 0 := by
  rcases h with ⟨h1, h2⟩ | ⟨a, c, h1, _⟩ | ⟨b, o, c, h1, _⟩
  · simp at h1; exact ⟨h2, h1⟩
  · simp at h1
  · simp at h1
theorem recFPu : RecF 71 22 3 := recF_of (z := .agg #[.string ⟨#[]⟩, .string ⟨#[]⟩, .int .u64 0]) (B := 40) Tryd.underlying22 (by kernel_rfl) rfl (by decide) (by decide)
set_option maxRecDepth 100000 in
set_option maxHeartbeats 2000000 in
theorem clonePu (rs : List (List Value)) (v : Value) (N : Nat) (w : World) (h : Recs w N v 3 rs) (hN : N ≤ w.heap.size) (hok : ∀ r ∈ rs, r.length = 3 ∧ ∀ x ∈ r, x.oneCell' = true) (hl : rs.length ≤ 1000) :
    Calls Tryd.prog 48 #[v] w fun e w' => Below w.heap.size w w' ∧ ∃ v', e = .returned v' ∧ RowT 71 3 w' w.heap.size v' rs := by
  have q : ∀ (w : World) (a : Option Addr) (n c n' c' : Nat), (binOp .eql 22 (.slice a n c) (.slice none n' c')).run Tryd.prog w = .ok (.bool a.isNone) w := fun w a n c n' c' => Lib.run_eql_slice_nil w _ _ a n c n' c' Tryd.underlying22
  obtain ⟨oa, ca, rfl, hca⟩ := h.shape
  cases oa with
  | none =>
    obtain ⟨rfl, -, rfl⟩ := recs_none h
    go_enter Tryd.func48, Tryd.ntmps48
    go_wp2
    go_ret
    exact ⟨Below.refl _ _, _, rfl, fun _ h => (by cases h), World.ownsRow_nil _ _ _ _⟩
  | some a =>
    obtain ⟨w1, hw1⟩ : ∃ w1, w.alloc (.cells #[] 71) = w1 := ⟨_, rfl⟩
    have hb1 : Below w.heap.size w w1 := by rw [← hw1]; exact (Below.refl _ _).alloc (Nat.le_refl _) _
    have HO := hid (show RowT 71 3 w1 w.heap.size (.slice (some ⟨w.heap.size, 0, none⟩) 0 0) [] by rw [← hw1]; exact RowT.made w _ (Nat.le_refl _))
    have HS := hid (h.below (hb1.mono hN))
    have HB := hid hb1
    have HOK := hid hok
    have hbs := hb1.size
    have HW1 := hid hw1
    clear h hok hb1 hw1
    generalize hn : rs.length = n at *
    have HN := hid hn
    clear hn
    go_enter Tryd.func48, Tryd.ntmps48
    go_wp2_with (at_builtin; rw [HW1.out]; refine wpList_appendT recFPu rfl _ _ rfl w.heap.size _ [] rfl HO.out _ rs rfl HS.out HOK.out (by rw [HN.out]; simp; omega) hbs ?_)
    intro v' w2 hrow hb2 hg2
    have HR2 := hid hrow
    have HB2 := hid (HB.out.trans hb2)
    clear hrow hb2 hg2
    go_wp2
    go_ret
    exact ⟨HB2.out, v', rfl, by simpa using HR2.out⟩
end Go.Proofs.YtnoaohlajllngaaDoor
