/-
  ConnOnce: what may follow a state, and a list of such states in memory that a call owns.
-/
import Derived.Test.YtbgdpfeobklnhaaGreatDoorgoHdMems
import Derived.Test.YtbgdpfeobklnhaaGreatDoorgoMemB
import Derived.Test.YtbgdpfeobklnhaaGreatDoorgoCoFit
import Derived.Test.YtbgdpfeobklnhaaGreatDoorgoCoLive
import Derived.Test.YtbgdpfeobklnhaaGreatDoorgoStWrong
namespace Go.Proofs.YtbgdpfeobklnhaaGreatDoor
open Go.RowKit

theorem infoSo : (Tryz.prog.info? 28).map (fun i => (i.zero, i.size, i.bytes)) = some (some (.agg #[.string ⟨#[]⟩, .int .i64 0, .int .i64 0, .slice none 0 0, .slice none 0 0, .slice none 0 0, .slice none 0 0, .slice none 0 0, .slice none 0 0, .slice none 0 0]), 10, 200) := by kernel_rfl
/-- so many cells, each of them one -/
def okSo (r : List Value) : Prop := r.length = 10 ∧ ∀ x ∈ r, x.oneCell' = true
/-- a row that a call owns -/
def RowSo (w : World) (base : Nat) (v : Value) (rs : List (List Value)) : Prop := (∀ r ∈ rs, okSo r) ∧ w.ownsRow base 28 10 v rs.length rs.flatten
theorem RowSo.nil (w : World) (base : Nat) : RowSo w base (.slice none 0 0) [] := ⟨fun _ h => (by cases h), World.ownsRow_nil w base 28 10⟩
theorem RowSo.shape {w : World} {base : Nat} {v : Value} {rs : List (List Value)} (h : RowSo w base v rs) : ∃ oa cap, v = .slice oa rs.length cap ∧ rs.length ≤ cap := by
  obtain ⟨_, _, h2⟩ := h
  rcases h2 with ⟨h3, h4⟩ | ⟨g, cap, cur, h3, _, _, h4, _⟩
  · exact ⟨none, 0, by rw [h4]; exact h3, by omega⟩
  · exact ⟨_, cap, h3, h4⟩
theorem RowSo.below {w w' : World} {base : Nat} {v : Value} {rs : List (List Value)} (h : RowSo w base v rs) (hg : Below w.heap.size w w') : RowSo w' base v rs := ⟨h.1, ownsRow_belowR h.2 hg⟩
theorem RowSo.mono {w : World} {base base' : Nat} {v : Value} {rs : List (List Value)} (h : RowSo w base v rs) (hb : base' ≤ base) : RowSo w base' v rs := by
  obtain ⟨h0, h1, h2⟩ := h
  refine ⟨h0, h1, ?_⟩
  rcases h2 with h2 | ⟨g, cap, cur, h3, h4, h5⟩
  · exact .inl h2
  · exact .inr ⟨g, cap, cur, h3, Nat.le_trans hb h4, h5⟩
theorem RowSo.recs {w : World} {base : Nat} {v : Value} {rs : List (List Value)} (h : RowSo w base v rs) : Recs w w.heap.size v 10 rs := ownsRow_recs h.2 (fun r hr => (h.1 r hr).1)
theorem flatSo_len {rs : List (List Value)} (h : ∀ r ∈ rs, okSo r) : rs.flatten.length = rs.length * 10 := flat_lenR rs (fun r hr => (h r hr).1)
theorem RowSo.row {w : World} {base : Nat} {v : Value} {rs : List (List Value)} (h : RowSo w base v rs) (h0 : 0 < rs.length) : ∃ g c cs, v = .slice (some ⟨g, 0, none⟩) rs.length c ∧ base ≤ g ∧ Row w g 28 cs ∧ rs.length ≤ c ∧ c ≤ maxLen ∧ cs.length = c * 10 ∧ cs.take (rs.length * 10) = rs.flatten := by
  obtain ⟨_, h1, h2⟩ := h
  rcases h2 with ⟨_, h3⟩ | ⟨g, c, cur, h3, h4, h5, h6, h7, h8, h9⟩
  · omega
  · exact ⟨g, c, cur.toList, h3, h4, h5, h6, h7, by simpa using h8, h9⟩
theorem RowSo.of_row {w : World} {base g n c : Nat} {cs : List Value} {rs : List (List Value)} (hok : ∀ r ∈ rs, okSo r) (hb : base ≤ g) (hr : Row w g 28 cs) (hn : n = rs.length) (hc : n ≤ c) (hm : c ≤ maxLen) (hl : cs.length = c * 10) (ht : cs.take (n * 10) = rs.flatten) : RowSo w base (.slice (some ⟨g, 0, none⟩) n c) rs := by
  subst hn
  exact ⟨hok, flatSo_len hok, .inr ⟨g, c, cs.toArray, rfl, hb, hr, hc, hm, by simpa using hl, ht⟩⟩
/-- a row of another type is another block -/
theorem RowSo.apart {w : World} {base g : Nat} {v : Value} {rs : List (List Value)} {t : TypeId} {cs : List Value} (h : RowSo w base v rs) (hr : Row w g t cs) (ht : t ≠ 28) : some g ≠ v.ownBlock := by
  intro he
  rcases h.2.2 with ⟨rfl, _⟩ | ⟨g', c', cur', rfl, _, h8, _⟩
  · simp [Value.ownBlock] at he
  · obtain rfl : g = g' := by simpa [Value.ownBlock] using he
    unfold Row at hr
    rw [hr] at h8
    simp at h8
    exact ht h8.2
/-- what is owned, of another type, outlives what is done with the row -/
theorem RowSo.past {w w' : World} {base b e k n : Nat} {v rv : Value} {xs : List Value} {rs : List (List Value)} (hr : RowSo w base rv rs) (he : e ≠ 28) (h : w.ownsRow b e k v n xs) (hg : w.grownBy w' rv.ownBlock) : w'.ownsRow b e k v n xs := by
  obtain ⟨h1, h2⟩ := h
  refine ⟨h1, ?_⟩
  rcases h2 with h2 | ⟨g, cap, cur, h3, h4, h5, h6⟩
  · exact .inl h2
  · refine .inr ⟨g, cap, cur, h3, h4, (hg.block g (Array.getElem?_eq_some_iff.1 h5).1 ?_).trans h5, h6⟩
    intro hq
    rcases hr.2.2 with ⟨rfl, _⟩ | ⟨g', c', cur', rfl, _, h8, _⟩
    · simp [Value.ownBlock] at hq
    · obtain rfl : g = g' := by simpa [Value.ownBlock] using hq
      rw [h5] at h8
      simp at h8
      exact he h8.2
/-- one record in a block of its own -/
theorem oneSo {W : World} {g : Nat} {r : List Value} (h : Row W g 28 r) : Recs W (g + 1) (.slice (some ⟨g, 0, none⟩) 1 1) 10 [r] := by
  refine .inr (.inr ⟨g, 0, 1, rfl, Nat.le_refl _, fun i r' hr => ?_⟩)
  have hi : i = 0 := by have := (List.getElem?_eq_some_iff.1 hr).1; simp at this; exact this
  subst hi
  obtain rfl : r = r' := by simpa using hr
  refine ⟨by omega, fun j x hx => ?_⟩
  rw [h.cell, show 0 + 0 * 10 + j = j by omega]
  exact hx
theorem run_append_where {P : Program} (w : World) (base : Nat) (t ty e : TypeId) (i : TypeInfo) (z : Value) (size bytes : Nat) (ht : P.underlying t = some (.slice e)) (hi : P.info? e = some i) (hz : i.zero = some z)
    (hsize : i.size = size) (hby : i.bytes = bytes) (hzs : z.cells.size = size) (hsz : 0 < size)
    (v : Value) (n : Nat) (xs : List Value) (hown : w.ownsRow base e size v n xs)
    (a : Addr) (m c : Nat) (news : List Value) (hl : news.length = m * size) (hnews : ∀ j u, news[j]? = some u → w.cell? (a.add j) = some u) (h1 : ∀ u ∈ news, u.oneCell' = true)
    (h0 : 0 < m) (h63 : n + m ≤ maxLen) (hbytes : (n + m) * bytes ≤ 140737488355328) (hbase : base ≤ w.heap.size) :
    ∃ v' w', (Builtin.append_ #[t, t] ty #[v, .slice (some a) m c]).run P w = .ok v' w' ∧ w'.ownsRow base e size v' (n + m) (xs ++ news) ∧ w.grownBy w' v.ownBlock ∧
      ∀ k, v'.ownBlock = some k → v.ownBlock = some k ∨ w.heap.size ≤ k := by
  obtain ⟨v', w', hr, h2, h3, -⟩ := run_append_own (P := P) w base t ty e i z size bytes ht hi hz hsize hby hzs hsz v n xs hown a m c news hl hnews h1 h63 hbytes hbase
  refine ⟨v', w', hr, h2, h3, ?_⟩
  subst hsize
  subst hby
  have h63' : n + m ≤ 9223372036854775807 := by simp only [maxLen] at h63; omega
  rcases hown.2 with ⟨rfl, rfl⟩ | ⟨g, cap, cur, rfl, hbg, hg, hnc, hcm, hcs, htake⟩
  · have hq := run_append_nil (P := P) w t ty e i z ht hi hz a m c news hl hnews h0 (by omega) (by have hb := hbytes; simp only [Nat.zero_add] at hb; omega)
    rw [hr] at hq
    injection hq with e1 e2
    subst e1
    intro k hk
    simp [Value.ownBlock] at hk
    exact .inr (by omega)
  · by_cases hroom : n + m ≤ cap
    · have hfit : n * i.size + news.length ≤ cur.size := by rw [hl, hcs, ← Nat.add_mul]; exact Nat.mul_le_mul_right _ hroom
      have hq := run_append_room (P := P) w t ty e i ht hi g n cap cur hg a m c news hl hnews h1 hroom hfit
      rw [hr] at hq
      injection hq with e1 e2
      subst e1
      intro k hk
      exact .inl (by simpa [Value.ownBlock] using hk)
    · have holds : ∀ j u, xs[j]? = some u → w.cell? ((⟨g, 0, none⟩ : Addr).add j) = some u := hown.cells (g := g) rfl
      have hq := run_append_grow (P := P) w t ty e i z ht hi hz ⟨g, 0, none⟩ n cap xs hown.1 holds a m c news hl hnews (by omega) (by omega) (growslice_fits (by omega) hbytes)
      rw [hr] at hq
      injection hq with e1 e2
      subst e1
      intro k hk
      simp [Value.ownBlock] at hk
      exact .inr (by omega)
/-- a list of states that a call owns: what each reads by lies elsewhere -/
def After (w : World) (base : Nat) (v : Value) (l : List St) : Prop := ∃ rs : List (List Value), RowSo w base v rs ∧ rs.length = l.length ∧
  ∀ (k : Nat) (r : List Value) (t : St), rs[k]? = some r → l[k]? = some t → ∃ F : Nat → Prop, Held F w (fun w2 => StV w2 w2.heap.size (.agg r.toArray) t) ∧ ∀ b, F b → v.ownBlock ≠ some b
theorem After.nil (w : World) (base : Nat) : After w base (.slice none 0 0) [] := ⟨[], RowSo.nil w base, rfl, fun k r t h => by simp at h⟩
theorem After.below {w w' : World} {base : Nat} {v : Value} {l : List St} (h : After w base v l) (hb : Below w.heap.size w w') : After w' base v l := by
  obtain ⟨rs, h1, h2, h3⟩ := h
  refine ⟨rs, h1.below hb, h2, fun k r t hr ht => ?_⟩
  obtain ⟨F, hF, ha⟩ := h3 k r t hr ht
  exact ⟨F, hF.below hb, ha⟩
theorem After.shape {w : World} {base : Nat} {v : Value} {l : List St} (h : After w base v l) : ∃ oa cap, v = .slice oa l.length cap := by
  obtain ⟨rs, h1, h2, -⟩ := h
  obtain ⟨oa, cap, e, -⟩ := h1.shape
  exact ⟨oa, cap, by rw [← h2]; exact e⟩
theorem After.own {w : World} {base : Nat} {v : Value} {l : List St} (h : After w base v l) : ∀ k, v.ownBlock = some k → base ≤ k ∧ k < w.heap.size := by
  obtain ⟨rs, h1, -⟩ := h
  exact World.ownsRow.lt h1.2
/-- one of them -/
theorem After.get {w : World} {base n : Nat} {v : Value} {l : List St} {t : St} (h : After w base v l) (ht : l[n]? = some t) : ∃ g cap p0 p1 p2 p3 p4 p5 p6 p7 p8 p9, v = .slice (some ⟨g, 0, none⟩) l.length cap ∧ g < w.heap.size ∧ StV w w.heap.size (.agg #[p0, p1, p2, p3, p4, p5, p6, p7, p8, p9]) t ∧
    w.cell? ⟨g, n * 10, none⟩ = some p0 ∧ w.cell? ⟨g, n * 10 + 1, none⟩ = some p1 ∧ w.cell? ⟨g, n * 10 + 2, none⟩ = some p2 ∧ w.cell? ⟨g, n * 10 + 3, none⟩ = some p3 ∧ w.cell? ⟨g, n * 10 + 4, none⟩ = some p4 ∧ w.cell? ⟨g, n * 10 + 5, none⟩ = some p5 ∧ w.cell? ⟨g, n * 10 + 6, none⟩ = some p6 ∧ w.cell? ⟨g, n * 10 + 7, none⟩ = some p7 ∧ w.cell? ⟨g, n * 10 + 8, none⟩ = some p8 ∧ w.cell? ⟨g, n * 10 + 9, none⟩ = some p9 := by
  obtain ⟨rs, h1, h2, h3⟩ := h
  have hlt := (List.getElem?_eq_some_iff.1 ht).1
  obtain ⟨r, hr⟩ : ∃ r, rs[n]? = some r := ⟨_, List.getElem?_eq_getElem (by omega)⟩
  obtain ⟨F, hF, -⟩ := h3 n r t hr ht
  have hk := (h1.1 r (List.mem_of_getElem? hr)).1
  obtain ⟨g, c, cs, hv, -, -, -, -, -, -⟩ := h1.row (by omega)
  obtain ⟨p0, p1, p2, p3, p4, p5, p6, p7, p8, p9, rfl⟩ : ∃ p0 p1 p2 p3 p4 p5 p6 p7 p8 p9, r = [p0, p1, p2, p3, p4, p5, p6, p7, p8, p9] := by
    match r, hk with
    | [p0, p1, p2, p3, p4, p5, p6, p7, p8, p9], _ => exact ⟨p0, p1, p2, p3, p4, p5, p6, p7, p8, p9, rfl⟩
  rcases h1.recs with ⟨-, e⟩ | ⟨a, cap, -, e⟩ | ⟨b, off, cap, e, -, hcs⟩
  · subst e
    simp at hr
  · subst e
    simp at hr
  rw [hv] at e
  simp only [Value.slice.injEq, Option.some.injEq, Addr.mk.injEq] at e
  obtain ⟨⟨rfl, rfl, -⟩, -, rfl⟩ := e
  obtain ⟨hlt2, hcs⟩ := hcs n _ hr
  exact ⟨g, c, p0, p1, p2, p3, p4, p5, p6, p7, p8, p9, by rw [hv, h2], hlt2, hF.now, by simpa using hcs 0 _ rfl, by simpa using hcs 1 _ rfl, by simpa using hcs 2 _ rfl, by simpa using hcs 3 _ rfl, by simpa using hcs 4 _ rfl, by simpa using hcs 5 _ rfl, by simpa using hcs 6 _ rfl, by simpa using hcs 7 _ rfl, by simpa using hcs 8 _ rfl, by simpa using hcs 9 _ rfl⟩
/-- one more -/
theorem wpList_more {ops : Array Oper} {rest : List Oper} {o : Oper} {a : Act} {W : World} {Q : Exit → Act → World → Prop} (hgd : o.guard = none) (s x : Operand)
    (ho : o.op = .call { callee := .builtin .append, args := #[s, x], argTypes := #[49, 49] })
    (base : Nat) (v : Value) (l : List St) (hs : a.eval s = v) (hown : After W base v l) (g : Nat) (r : List Value) (t : St) (hx : a.eval x = .slice (some ⟨g, 0, none⟩) 1 1) (hr : Row W g 28 r) (hok : okSo r)
    (F : Nat → Prop) (hF : Held F W (fun w2 => StV w2 w2.heap.size (.agg r.toArray) t)) (hFv : ∀ b, F b → v.ownBlock ≠ some b) (hl : l.length ≤ 1000) (hbase : base ≤ W.heap.size)
    (h : ∀ v' w', After w' base v' (l ++ [t]) → Below base W w' → W.grownBy w' v.ownBlock → wpList Tryz.prog ops Q rest (a.put o.dst v') w') : wpList Tryz.prog ops Q (o :: rest) a W := by
  obtain ⟨i0, hi0, hz0, hz1, hz2⟩ := info_parts infoSo
  obtain ⟨rs, h1, h2, h3⟩ := hown
  have hq := oneSo hr
  have hok1 : ∀ y ∈ [r], okSo y := by intro y hy; simp at hy; rw [hy]; exact hok
  rcases hq.source (fun y hy => (hok1 y hy).1) (by simp) with ⟨e, -⟩ | ⟨ad, cap, e, hcs⟩
  · cases e
  refine wpList_plain hgd fun _ hK => ?_
  obtain ⟨v', w', hrun, g1, g2, g3⟩ := run_append_where (P := Tryz.prog) W base 49 o.type 28 i0 _ 10 200 Tryz.underlying49 hi0 hz0 hz1 hz2 rfl (by decide) v rs.length rs.flatten h1.2 ad 1 cap r hok.1 (by simpa using hcs) hok.2 (by decide) (by unfold maxLen; omega) (by omega) hbase
  rw [show Value.slice (some ad) ([r] : List (List Value)).length cap = .slice (some ad) 1 cap from rfl] at e
  unfold Oper.wp execOp
  simp only [ho, resolve, invoke, builtin, Sem.run_bind, Sem.run_pure, Result.andThen_ok, List.map_toArray, List.map_cons, List.map_nil, hs, hx, e, hrun]
  refine hK _ _ (h v' w' ⟨rs ++ [r], ⟨fun y hy => ?_, ?_⟩, by simp [h2], fun k y u hy hu => ?_⟩ ((Below.refl base W).grown g2 hbase (fun k hk => (World.ownsRow.lt h1.2 k hk).1)) g2)
  · rcases List.mem_append.1 hy with hy | hy
    · exact h1.1 y hy
    · exact hok1 y hy
  · rw [List.length_append, List.flatten_append]
    simpa using g1
  · by_cases hk : k < rs.length
    · rw [List.getElem?_append_left hk] at hy
      rw [List.getElem?_append_left (by omega)] at hu
      obtain ⟨F1, hF1, hv1⟩ := h3 k y u hy hu
      refine ⟨F1, hF1.grown g2 (fun b hb hFb => hv1 b hFb hb), fun b hFb hb => ?_⟩
      rcases g3 b hb with hb | hb
      · exact hv1 b hFb hb
      · have := hF1.1 b hFb
        omega
    · have hlk : k < (rs ++ [r]).length := (List.getElem?_eq_some_iff.1 hy).1
      have hke : k = rs.length := by simp at hlk; omega
      subst hke
      simp at hy
      rw [h2] at hu
      simp at hu
      subst hy
      subst hu
      refine ⟨F, hF.grown g2 (fun b hb hFb => hFv b hFb hb), fun b hFb hb => ?_⟩
      rcases g3 b hb with hb | hb
      · exact hFv b hFb hb
      · have := hF.1 b hFb
        omega
end Go.Proofs.YtbgdpfeobklnhaaGreatDoor
