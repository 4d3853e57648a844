/-
  Pairs behind a slice value: two cells each. Pairs in a row that a call owns. Slices of rows of pairs, and appends of them onto what a call owns.
  Doings behind a slice value: three cells each. No function of the program is named here.
  What the document's Less, Half and Four answer. What the document's Wrong answers: what is wrong with pairs, and where.
  Rows of turns that a call owns; what the document's Way answers: the turns from the root to a place.
  Rows of lists of bytes, and of Bools, that a call owns: appended to one by one. No function of the program is named here. What slices.Reverse answers: a row that the call owns, turned round in its place; and whether a list has another length than a digest's (slices.ContainsFunc, slices.IndexFunc). What slices.Reverse makes of lists and Bools that a call owns; what slices.ContainsFunc answers: whether a list has another length than a digest's; what bytes.Equal answers.
-/
import Derived.Test.YtclhcjiblfokaaaGreatDoorppBookMath
import Derived.Test.YtclhcjiblfokaaaGreatDoorppMemB
import Derived.Test.YtclhcjiblfokaaaGreatDoorppWireBoth
import Derived.Laws.OwnMore
import Derived.Deep.AppendLies
import Derived.Deep.QuietTactic
import Derived.BigQuiet
import Derived.Deep.RegionWith
namespace Go.Proofs.YtclhcjiblfokaaaGreatDoor
open Go.RowKit

/-- what bounds a pair's parts: bytes as many as the reach lets -/
def Pr.fits (p : Pr) : Prop := p.key.length ≤ 140737488351232 ∧ p.val.length ≤ 140737488351232

/-- a pair, and the two slices that hold it -/
structure PrV where
  p : Pr
  k : Value
  v : Value
def prCells (q : PrV) : List Value := [q.k, q.v]
/-- the slices read as the pair, in blocks below N -/
def PrV.ok (w : World) (N : Nat) (q : PrV) : Prop := Bytes w N q.k q.p.key ∧ Bytes w N q.v q.p.val
theorem PrV.ok.below {w w' : World} {N : Nat} {q : PrV} (h : q.ok w N) (hg : Below N w w') : q.ok w' N := ⟨h.1.below hg, h.2.below hg⟩
theorem PrV.ok.mono {w : World} {N M : Nat} {q : PrV} (h : q.ok w N) (hN : N ≤ M) : q.ok w M := ⟨h.1.mono hN, h.2.mono hN⟩
/-- pairs in a row that a call owns -/
def RowPr (w : World) (base : Nat) (v : Value) (ps : List PrV) : Prop := w.ownsRow base 210 2 v ps.length (ps.flatMap prCells)
theorem RowPr.nil (w : World) (base : Nat) : RowPr w base (.slice none 0 0) [] := World.ownsRow_nil w base 210 2
theorem RowPr.shape {w : World} {base : Nat} {v : Value} {ps : List PrV} (h : RowPr w base v ps) : ∃ oa cap, v = .slice oa ps.length cap ∧ ps.length ≤ cap := by
  obtain ⟨_, h2⟩ := h
  rcases h2 with ⟨h3, h4⟩ | ⟨g, cap, cur, h3, _, _, h4, _⟩
  · exact ⟨none, 0, by rw [h4]; exact h3, by omega⟩
  · exact ⟨_, cap, h3, h4⟩
theorem ownsRow_belowP {w w' : World} {base e size n : Nat} {v : Value} {xs : List Value} (h : w.ownsRow base e size v n xs) (hg : Below w.heap.size w w') : w'.ownsRow base e size v n xs := by
  obtain ⟨h1, h2⟩ := h
  refine ⟨h1, ?_⟩
  rcases h2 with h2 | ⟨g, cap, cur, h3, h4, h5, h6⟩
  · exact .inl h2
  · exact .inr ⟨g, cap, cur, h3, h4, (hg.block g (Array.getElem?_eq_some_iff.1 h5).1).trans h5, h6⟩
theorem RowPr.below {w w' : World} {base : Nat} {v : Value} {ps : List PrV} (h : RowPr w base v ps) (hg : Below w.heap.size w w') : RowPr w' base v ps := ownsRow_belowP h hg
theorem RowPr.mono {w : World} {base base' : Nat} {v : Value} {ps : List PrV} (h : RowPr w base v ps) (hb : base' ≤ base) : RowPr w base' v ps := by
  obtain ⟨h1, h2⟩ := h
  refine ⟨h1, ?_⟩
  rcases h2 with h2 | ⟨g, cap, cur, h3, h4, h5⟩
  · exact .inl h2
  · exact .inr ⟨g, cap, cur, h3, Nat.le_trans hb h4, h5⟩
theorem flatPr_get (ps : List PrV) : ∀ (i j : Nat) (q : PrV), ps[i]? = some q → j < 2 → (ps.flatMap prCells)[i * 2 + j]? = (prCells q)[j]? := by
  induction ps with
  | nil => intro i j q h; simp at h
  | cons a ps ih =>
    intro i j q h hj
    rw [List.flatMap_cons]
    have ha : (prCells a).length = 2 := rfl
    cases i with
    | zero =>
      obtain rfl : a = q := by simpa using h
      rw [Nat.zero_mul, Nat.zero_add, List.getElem?_append_left (by omega)]
    | succ i =>
      rw [List.getElem?_append_right (by omega), ha, show (i + 1) * 2 + j - 2 = i * 2 + j by omega]
      exact ih i j q (by simpa using h) hj
theorem flatPr_len (ps : List PrV) : (ps.flatMap prCells).length = ps.length * 2 := by
  induction ps with
  | nil => rfl
  | cons a r ih => rw [List.flatMap_cons, List.length_append, ih]; simp [prCells]; omega
/-- a pair's two cells, in a row that is owned -/
theorem RowPr.get {w : World} {base : Nat} {oa : Option Addr} {n cap : Nat} {ps : List PrV} (h : RowPr w base (.slice oa n cap) ps) (hn : 0 < n) : ∃ g, oa = some ⟨g, 0, none⟩ ∧ base ≤ g ∧ g < w.heap.size ∧ ∀ i q, ps[i]? = some q → w.cell? ⟨g, i * 2, none⟩ = some q.k ∧ w.cell? ⟨g, i * 2 + 1, none⟩ = some q.v := by
  obtain ⟨h1, h2⟩ := h
  rcases h2 with ⟨h0, h0'⟩ | ⟨g, cap', cur, hv, hb, hg, hn', _, hc, hx⟩
  · simp at h0; omega
  · simp at hv
    refine ⟨g, hv.1, hb, (Array.getElem?_eq_some_iff.1 hg).1, fun i q hq => ?_⟩
    have hil : i < ps.length := (List.getElem?_eq_some_iff.1 hq).1
    have cell : ∀ j, j < 2 → w.cell? ⟨g, i * 2 + j, none⟩ = (prCells q)[j]? := fun j hj => by
      rw [cell_of_row w g _ cur _ _ hg, ← flatPr_get ps i j q hq hj, ← hx, List.getElem?_take, if_pos (by omega), Array.getElem?_toList]
    exact ⟨cell 0 (by omega), cell 1 (by omega)⟩
/-- sv is a slice whose cells are those of ps, nil, empty or neither, in a block below M -/
def SrcPr (w : World) (M : Nat) (sv : Value) (ps : List PrV) : Prop :=
  (sv = .slice none 0 0 ∧ ps = []) ∨ (∃ a cap, sv = .slice (some a) 0 cap ∧ ps = []) ∨
  ∃ b off cap, sv = .slice (some ⟨b, off, none⟩) ps.length cap ∧ ps.length ≤ cap ∧ ∀ i q, ps[i]? = some q → b < M ∧ w.cell? ⟨b, off + i * 2, none⟩ = some q.k ∧ w.cell? ⟨b, off + i * 2 + 1, none⟩ = some q.v
theorem SrcPr.shape {w : World} {M : Nat} {sv : Value} {ps : List PrV} (h : SrcPr w M sv ps) : ∃ oa cap, sv = .slice oa ps.length cap ∧ ps.length ≤ cap := by
  rcases h with ⟨rfl, rfl⟩ | ⟨a, cap, rfl, rfl⟩ | ⟨b, off, cap, rfl, hc, _⟩
  · exact ⟨none, 0, rfl, Nat.le_refl _⟩
  · exact ⟨_, cap, rfl, Nat.zero_le _⟩
  · exact ⟨_, cap, rfl, hc⟩
theorem SrcPr.some {w : World} {M : Nat} {oa : Option Addr} {n cap : Nat} {ps : List PrV} (h : SrcPr w M (.slice oa n cap) ps) (hn : 0 < n) :
    ∃ b off, oa = some ⟨b, off, none⟩ ∧ ∀ i q, ps[i]? = some q → b < M ∧ w.cell? ⟨b, off + i * 2, none⟩ = some q.k ∧ w.cell? ⟨b, off + i * 2 + 1, none⟩ = some q.v := by
  rcases h with ⟨h1, _⟩ | ⟨_, _, h1, _⟩ | ⟨b, off, c, h1, _, h3⟩
  · simp at h1; omega
  · simp at h1; omega
  · simp at h1
    exact ⟨b, off, h1.1, h3⟩
theorem SrcPr.below {w w' : World} {M : Nat} {sv : Value} {ps : List PrV} (h : SrcPr w M sv ps) (hg : Below M w w') : SrcPr w' M sv ps := by
  rcases h with h | h | ⟨b, off, cap, h1, h2, h3⟩
  · exact .inl h
  · exact .inr (.inl h)
  · refine .inr (.inr ⟨b, off, cap, h1, h2, fun i q hq => ?_⟩)
    obtain ⟨hb, d0, d1⟩ := h3 i q hq
    exact ⟨hb, (hg.cell hb).trans d0, (hg.cell hb).trans d1⟩
theorem RowPr.src {w : World} {base : Nat} {v : Value} {ps : List PrV} (h : RowPr w base v ps) : SrcPr w w.heap.size v ps := by
  obtain ⟨oa, cap, rfl, hc⟩ := h.shape
  by_cases h0 : ps.length = 0
  · have hp := List.length_eq_zero_iff.1 h0
    subst hp
    obtain ⟨_, h2⟩ := h
    rcases h2 with ⟨h3, _⟩ | ⟨g, cap', cur, h3, _⟩
    · exact .inl ⟨h3, rfl⟩
    · exact .inr (.inl ⟨_, cap', h3, rfl⟩)
  · obtain ⟨g, rfl, _, hg, hc2⟩ := h.get (by omega)
    refine .inr (.inr ⟨g, 0, cap, rfl, hc, fun i q hq => ⟨hg, ?_⟩⟩)
    rw [Nat.zero_add]
    exact hc2 i q hq
end Go.Proofs.YtclhcjiblfokaaaGreatDoor
namespace Go.Proofs.YtclhcjiblfokaaaGreatDoor
open Go.RowKit

theorem PrV.ok.one {w : World} {N : Nat} {q : PrV} (h : q.ok w N) : q.k.oneCell' = true ∧ q.v.oneCell' = true := by
  obtain ⟨o1, c1, e1, _⟩ := h.1.shape
  obtain ⟨o2, c2, e2, _⟩ := h.2.shape
  rw [e1, e2]
  simp [Value.oneCell']
end Go.Proofs.YtclhcjiblfokaaaGreatDoor
namespace Go.Proofs.YtclhcjiblfokaaaGreatDoor
open Go.RowKit

theorem RowPr.keep {w w' : World} {base : Nat} {v : Value} {ps : List PrV} (h : RowPr w base v ps) (hk : ∀ g, base ≤ g → w'.heap[g]? = w.heap[g]?) : RowPr w' base v ps := by
  obtain ⟨h1, h2⟩ := h
  refine ⟨h1, ?_⟩
  rcases h2 with h2 | ⟨g, cap, cur, h3, h4, h5, h6⟩
  · exact .inl h2
  · exact .inr ⟨g, cap, cur, h3, h4, (hk g h4).trans h5, h6⟩
def Dg.fits (d : Dg) : Prop := d.key.length ≤ 140737488351232 ∧ d.val.length ≤ 140737488351232
end Go.Proofs.YtclhcjiblfokaaaGreatDoor
namespace Go.Proofs.YtclhcjiblfokaaaGreatDoor
open Go.RowKit

end Go.Proofs.YtclhcjiblfokaaaGreatDoor
namespace Go.Proofs.YtclhcjiblfokaaaGreatDoor
open Go.RowKit

end Go.Proofs.YtclhcjiblfokaaaGreatDoor
namespace Go.Proofs.YtclhcjiblfokaaaGreatDoor
open Go.RowKit

theorem wayL_length (n : Nat) : ∀ i a, (wayL i n a).length ≤ n := by
  induction n using Nat.strongRecOn with
  | _ n ih =>
    intro i a
    by_cases h1 : 1 < n
    · have hh := halfN_lt n h1
      by_cases hik : i < halfN n
      · rw [wayL_left i n a h1 hik, List.length_cons]
        have := ih (halfN n) (by omega) i a
        omega
      · rw [wayL_right i n a h1 hik, List.length_cons]
        have := ih (n - halfN n) (by omega) (i - halfN n) (a + halfN n)
        omega
    · rw [wayL_one i n a h1]
      exact Nat.zero_le _
end Go.Proofs.YtclhcjiblfokaaaGreatDoor
namespace Go.Proofs.YtclhcjiblfokaaaGreatDoor
open Go.RowKit

/-- what lies in rows of another element type than t stays -/
def KeepT (t : TypeId) (w w' : World) : Prop := ∀ (k : Nat) (cs : Array Value) (t' : TypeId) (fr : Nat × Nat), w.heap[k]? = some (.cells cs t' fr) → t' ≠ t → w'.heap[k]? = w.heap[k]?
theorem KeepT.refl (t : TypeId) (w : World) : KeepT t w w := fun _ _ _ _ _ _ => rfl
theorem KeepT.trans {t : TypeId} {w w1 w2 : World} (h : KeepT t w w1) (k : KeepT t w1 w2) : KeepT t w w2 := fun i cs t' fr hi ht => by
  have h1 := h i cs t' fr hi ht
  exact (k i cs t' fr (h1.trans hi) ht).trans h1
theorem KeepT.row {t : TypeId} {w w' : World} (h : KeepT t w w') {g : Nat} {t' : TypeId} {cs : List Value} (hr : Row w g t' cs) (ht : t' ≠ t) : Row w' g t' cs := by
  unfold Row at hr ⊢
  rw [h g _ _ _ hr ht]
  exact hr
theorem KeepT.owns {t : TypeId} {w w' : World} (h : KeepT t w w') {base e n : Nat} {v : Value} {xs : List Value} (ho : w.ownsRow base e 1 v n xs) (ht : e ≠ t) : w'.ownsRow base e 1 v n xs := by
  obtain ⟨h1, h2⟩ := ho
  refine ⟨h1, ?_⟩
  rcases h2 with h2 | ⟨g, cap, cur, h3, h4, h5, h6⟩
  · exact .inl h2
  · exact .inr ⟨g, cap, cur, h3, h4, (h g _ _ _ h5 ht).trans h5, h6⟩
theorem keepT_set {w : World} {g : Nat} {t : TypeId} {cs : List Value} (hr : Row w g t cs) (i : Nat) (x : Value) : KeepT t w (w.setCell ⟨g, i, none⟩ x) := fun k cs' t' fr hk ht => by
  refine Below.heap_setCell w ⟨g, i, none⟩ x k ?_
  rintro rfl
  unfold Row at hr
  rw [hr] at hk
  simp at hk
  exact ht hk.2.1.symm
theorem keepT_grown {w w' : World} {base t n : Nat} {v : Value} {xs : List Value} (ho : w.ownsRow base t 1 v n xs) (hg : w.grownBy w' v.ownBlock) : KeepT t w w' := fun k cs t' fr hk ht => by
  refine hg.block k (Array.getElem?_eq_some_iff.1 hk).1 ?_
  intro he
  rcases ho.2 with ⟨rfl, _⟩ | ⟨g, c, cur, rfl, _, h5, _⟩
  · simp [Value.ownBlock] at he
  · obtain rfl : k = g := by simpa [Value.ownBlock] using he
    rw [h5] at hk
    simp at hk
    exact ht hk.2.1.symm
/-- a list of bytes, and the slice that holds it -/
structure LV where
  v : Value
  l : List (BitVec 8)
/-- lists of bytes, owned, in a row that a call owns -/
def OwnL (w : World) (base : Nat) (v : Value) (ls : List (List (BitVec 8))) : Prop :=
  ∃ ys : List LV, ys.map (·.l) = ls ∧ w.ownsRow base 29 1 v ys.length (ys.map (·.v)) ∧ ∀ y ∈ ys, OwnB w base y.v y.l
theorem OwnL.nil (w : World) (base : Nat) : OwnL w base (.slice none 0 0) [] := ⟨[], rfl, World.ownsRow_nil w base 29 1, fun y hy => by cases hy⟩
theorem OwnL.below {w w' : World} {base : Nat} {v : Value} {ls : List (List (BitVec 8))} (h : OwnL w base v ls) (hg : Below w.heap.size w w') : OwnL w' base v ls := by
  obtain ⟨ys, h1, h2, h3⟩ := h
  exact ⟨ys, h1, ownsRow_belowP h2 hg, fun y hy => (h3 y hy).below hg⟩
theorem OwnL.keep {t : TypeId} {w w' : World} {base : Nat} {v : Value} {ls : List (List (BitVec 8))} (h : OwnL w base v ls) (hg : KeepT t w w') (ht : 29 ≠ t) (ht' : 5 ≠ t) : OwnL w' base v ls := by
  obtain ⟨ys, h1, h2, h3⟩ := h
  exact ⟨ys, h1, hg.owns h2 ht, fun y hy => hg.owns (h3 y hy) ht'⟩
theorem OwnL.mono {w : World} {base base' : Nat} {v : Value} {ls : List (List (BitVec 8))} (h : OwnL w base v ls) (hb : base' ≤ base) : OwnL w base' v ls := by
  obtain ⟨ys, h1, ⟨h2, h2'⟩, h3⟩ := h
  refine ⟨ys, h1, ⟨h2, ?_⟩, fun y hy => (h3 y hy).mono hb⟩
  rcases h2' with h | ⟨g, cap, cur, k1, k2, k3⟩
  · exact .inl h
  · exact .inr ⟨g, cap, cur, k1, Nat.le_trans hb k2, k3⟩
theorem OwnL.shape {w : World} {base : Nat} {v : Value} {ls : List (List (BitVec 8))} (h : OwnL w base v ls) : ∃ oa cap, v = .slice oa ls.length cap ∧ ls.length ≤ cap := by
  obtain ⟨ys, rfl, ⟨_, h2⟩, _⟩ := h
  rcases h2 with ⟨h3, h4⟩ | ⟨g, cap, cur, h3, _, _, h4, _⟩
  · exact ⟨none, 0, by rw [List.length_map, h4]; exact h3, by rw [List.length_map]; omega⟩
  · exact ⟨_, cap, by rw [List.length_map]; exact h3, by rw [List.length_map]; exact h4⟩
theorem info_bytesT : (Tryz.prog.info? 29).map (fun i => (i.zero, i.size, i.bytes)) = some (some (.slice none 0 0), 1, 24) := by kernel_rfl
theorem OwnB.one {w : World} {base : Nat} {v : Value} {l : List (BitVec 8)} (h : OwnB w base v l) : v.oneCell' = true := by
  obtain ⟨oa, cap, rfl, _⟩ := h.shape
  rfl
/-- append of one list onto what is owned -/
theorem wp_append_L {o : Oper} {a : Act} {w : World} {K : Act → World → Prop} {Q : Exit → Act → World → Prop} (s x : Operand)
    (ho : o.op = .call { callee := .builtin .append, args := #[s, x], argTypes := #[32, 32] })
    (base : Nat) (v : Value) (ls : List (List (BitVec 8))) (hs : a.eval s = v) (hown : OwnL w base v ls) (g : Nat) (y : Value) (l : List (BitVec 8)) (hx : a.eval x = .slice (some ⟨g, 0, none⟩) 1 1)
    (hr : Row w g 29 [y]) (hy : OwnB w base y l) (hl : ls.length ≤ 1000000) (hbase : base ≤ w.heap.size)
    (h : ∀ v' w', OwnL w' base v' (ls ++ [l]) → Below base w w' → KeepT 29 w w' → K (a.put o.dst v') w') : o.wp Tryz.prog a w K Q := by
  obtain ⟨i0, hi0, hz0, hz1, hz2⟩ := info_parts info_bytesT
  obtain ⟨ys, rfl, hrow, hys⟩ := hown
  rw [List.length_map] at hl
  refine wp_append_own w s x 32 ho base 29 i0 (.slice none 0 0) 1 24 Tryz.underlying32 hi0 hz0 hz1 hz2 rfl (by decide) v ys.length (ys.map (·.v)) hs hrow ⟨g, 0, none⟩ 1 1 [y] hx rfl ?_ ?_ (by unfold maxLen; omega) (by omega) hbase ?_
  · intro j u hj
    have hadd : (⟨g, 0, none⟩ : Addr).add j = ⟨g, j, none⟩ := by unfold Addr.add; split <;> simp_all
    rw [hadd, hr.cell]
    exact hj
  · intro u hu
    obtain rfl : u = y := by simpa using hu
    exact hy.one
  · intro v' w' h1 h2 _
    have hk : KeepT 29 w w' := keepT_grown hrow h2
    refine h v' w' ⟨ys ++ [⟨y, l⟩], by simp, ?_, fun q hq => ?_⟩ ((Below.refl base w).grown h2 hbase (fun k hk => (World.ownsRow.lt hrow k hk).1)) hk
    · rw [List.length_append, List.map_append]
      exact h1
    · rcases List.mem_append.1 hq with hq | hq
      · exact hk.owns (hys q hq) (by decide)
      · obtain rfl : q = ⟨y, l⟩ := by simpa using hq
        exact hk.owns hy (by decide)
theorem wpList_append_L {ops : Array Oper} {rest : List Oper} {o : Oper} {a : Act} {w : World} {Q : Exit → Act → World → Prop} (hgd : o.guard = none) (s x : Operand)
    (ho : o.op = .call { callee := .builtin .append, args := #[s, x], argTypes := #[32, 32] })
    (base : Nat) (v : Value) (ls : List (List (BitVec 8))) (hs : a.eval s = v) (hown : OwnL w base v ls) (g : Nat) (y : Value) (l : List (BitVec 8)) (hx : a.eval x = .slice (some ⟨g, 0, none⟩) 1 1)
    (hr : Row w g 29 [y]) (hy : OwnB w base y l) (hl : ls.length ≤ 1000000) (hbase : base ≤ w.heap.size)
    (h : ∀ v' w', OwnL w' base v' (ls ++ [l]) → Below base w w' → KeepT 29 w w' → wpList Tryz.prog ops Q rest (a.put o.dst v') w') : wpList Tryz.prog ops Q (o :: rest) a w :=
  wpList_plain hgd fun _ hK => wp_append_L s x ho base v ls hs hown g y l hx hr hy hl hbase fun v' w' h1 h2 h3 => hK _ _ (h v' w' h1 h2 h3)
/-- Bools in a row that a call owns -/
def OwnT (w : World) (base : Nat) (v : Value) (bs : List Bool) : Prop := w.ownsRow base 4 1 v bs.length (bs.map Value.bool)
theorem OwnT.nil (w : World) (base : Nat) : OwnT w base (.slice none 0 0) [] := World.ownsRow_nil w base 4 1
theorem OwnT.below {w w' : World} {base : Nat} {v : Value} {bs : List Bool} (h : OwnT w base v bs) (hg : Below w.heap.size w w') : OwnT w' base v bs := ownsRow_belowP h hg
theorem OwnT.shape {w : World} {base : Nat} {v : Value} {bs : List Bool} (h : OwnT w base v bs) : ∃ oa cap, v = .slice oa bs.length cap ∧ bs.length ≤ cap := by
  obtain ⟨_, h2⟩ := h
  rcases h2 with ⟨h3, h4⟩ | ⟨g, cap, cur, h3, _, _, h4, _⟩
  · exact ⟨none, 0, by rw [h4]; exact h3, by omega⟩
  · exact ⟨_, cap, h3, h4⟩
theorem OwnT.get {w : World} {base : Nat} {oa : Option Addr} {n cap : Nat} {bs : List Bool} (h : OwnT w base (.slice oa n cap) bs) (hn : 0 < n) : ∃ g, oa = some ⟨g, 0, none⟩ ∧ base ≤ g ∧ g < w.heap.size ∧ ∀ (i : Nat) b, bs[i]? = some b → w.cell? ⟨g, i, none⟩ = some (.bool b) := by
  obtain ⟨h1, h2⟩ := h
  rcases h2 with ⟨h0, h0'⟩ | ⟨g, cap', cur, hv, hb, hg, hn', _, hc, hx⟩
  · simp at h0; omega
  · simp at hv
    refine ⟨g, hv.1, hb, (Array.getElem?_eq_some_iff.1 hg).1, fun i b hb => ?_⟩
    have hil : i < bs.length := (List.getElem?_eq_some_iff.1 hb).1
    rw [cell_of_row w g _ cur _ _ hg, ← Array.getElem?_toList]
    have e := congrArg (fun l : List Value => l[i]?) hx
    simp only [List.getElem?_take, Nat.mul_one] at e
    rw [if_pos hil] at e
    rw [e, List.getElem?_map, hb]
    rfl
theorem info_boolT : (Tryz.prog.info? 4).map (fun i => (i.zero, i.size, i.bytes)) = some (some (.bool false), 1, 1) := by kernel_rfl
/-- append of one Bool onto what is owned -/
theorem wp_append_T {o : Oper} {a : Act} {w : World} {K : Act → World → Prop} {Q : Exit → Act → World → Prop} (s x : Operand)
    (ho : o.op = .call { callee := .builtin .append, args := #[s, x], argTypes := #[205, 205] })
    (base : Nat) (v : Value) (bs : List Bool) (hs : a.eval s = v) (hown : OwnT w base v bs) (g : Nat) (b : Bool) (hx : a.eval x = .slice (some ⟨g, 0, none⟩) 1 1)
    (hr : Row w g 4 [.bool b]) (hl : bs.length ≤ 1000000) (hbase : base ≤ w.heap.size)
    (h : ∀ v' w', OwnT w' base v' (bs ++ [b]) → Below base w w' → KeepT 4 w w' → K (a.put o.dst v') w') : o.wp Tryz.prog a w K Q := by
  obtain ⟨i0, hi0, hz0, hz1, hz2⟩ := info_parts info_boolT
  refine wp_append_own w s x 205 ho base 4 i0 (.bool false) 1 1 Tryz.underlying205 hi0 hz0 hz1 hz2 rfl (by decide) v bs.length (bs.map Value.bool) hs hown ⟨g, 0, none⟩ 1 1 [.bool b] hx rfl ?_ ?_ (by unfold maxLen; omega) (by omega) hbase ?_
  · intro j u hj
    have hadd : (⟨g, 0, none⟩ : Addr).add j = ⟨g, j, none⟩ := by unfold Addr.add; split <;> simp_all
    rw [hadd, hr.cell]
    exact hj
  · intro u hu
    obtain rfl : u = .bool b := by simpa using hu
    rfl
  · intro v' w' h1 h2 _
    refine h v' w' ?_ ((Below.refl base w).grown h2 hbase (fun k hk => (World.ownsRow.lt hown k hk).1)) (keepT_grown hown h2)
    unfold OwnT
    rw [List.length_append, List.map_append]
    exact h1
theorem wpList_append_T {ops : Array Oper} {rest : List Oper} {o : Oper} {a : Act} {w : World} {Q : Exit → Act → World → Prop} (hgd : o.guard = none) (s x : Operand)
    (ho : o.op = .call { callee := .builtin .append, args := #[s, x], argTypes := #[205, 205] })
    (base : Nat) (v : Value) (bs : List Bool) (hs : a.eval s = v) (hown : OwnT w base v bs) (g : Nat) (b : Bool) (hx : a.eval x = .slice (some ⟨g, 0, none⟩) 1 1)
    (hr : Row w g 4 [.bool b]) (hl : bs.length ≤ 1000000) (hbase : base ≤ w.heap.size)
    (h : ∀ v' w', OwnT w' base v' (bs ++ [b]) → Below base w w' → KeepT 4 w w' → wpList Tryz.prog ops Q rest (a.put o.dst v') w') : wpList Tryz.prog ops Q (o :: rest) a w :=
  wpList_plain hgd fun _ hK => wp_append_T s x ho base v bs hs hown g b hx hr hl hbase fun v' w' h1 h2 h3 => hK _ _ (h v' w' h1 h2 h3)
end Go.Proofs.YtclhcjiblfokaaaGreatDoor
namespace Go.Proofs.YtclhcjiblfokaaaGreatDoor
open Go.RowKit

/-- c is cs with its first i of n cells, and its last i, turned round -/
def Rv (cs c : List Value) (n i : Nat) : Prop := c.length = cs.length ∧ ∀ t, t < n → c[t]? = if t < i ∨ n < t + 1 + i then cs[n - 1 - t]? else cs[t]?
theorem Rv.start (cs : List Value) (n : Nat) : Rv cs cs n 0 := ⟨rfl, fun t ht => by rw [if_neg (by omega)]⟩
theorem Rv.step {cs c : List Value} {n i j : Nat} (h : Rv cs c n i) (hij : i + j + 1 = n) (hlt : i < j) (hn : n ≤ cs.length) {xi xj : Value} (hi : c[i]? = some xi) (hj : c[j]? = some xj) : Rv cs ((c.set i xj).set j xi) n (i + 1) := by
  obtain ⟨h1, h2⟩ := h
  have ei := h2 i (by omega)
  have ej := h2 j (by omega)
  rw [if_neg (by omega), hi] at ei
  rw [if_neg (by omega), hj] at ej
  refine ⟨by simp [h1], fun t ht => ?_⟩
  rw [List.getElem?_set, List.getElem?_set]
  by_cases e1 : j = t
  · subst e1
    rw [if_pos rfl, if_pos (by simp; omega), if_pos (by omega), show n - 1 - j = i by omega]
    exact ei
  · rw [if_neg e1]
    by_cases e2 : i = t
    · subst e2
      rw [if_pos rfl, if_pos (by omega), if_pos (by omega), show n - 1 - i = j by omega]
      exact ej
    · rw [if_neg e2, h2 t ht]
      by_cases e3 : t < i ∨ n < t + 1 + i
      · rw [if_pos e3, if_pos (by omega)]
      · rw [if_neg e3, if_neg (by omega)]
theorem Rv.at {cs c : List Value} {n i t : Nat} (h : Rv cs c n i) (h1 : i ≤ t) (h2 : t + i < n) : c[t]? = cs[t]? := by
  rw [h.2 t (by omega), if_neg (by omega)]
theorem Rv.stop {cs c : List Value} {n i : Nat} (h : Rv cs c n i) (hi : n ≤ i + i + 1) (hn : n ≤ cs.length) : c.take n = (cs.take n).reverse := by
  obtain ⟨h1, h2⟩ := h
  refine List.ext_getElem? fun t => ?_
  by_cases ht : t < n
  · have e0 : (cs.take n).reverse[t]? = cs[n - 1 - t]? := by
      rw [List.getElem?_reverse (by simp; omega), List.length_take, Nat.min_eq_left hn, List.getElem?_take, if_pos (by omega)]
    rw [List.getElem?_take, if_pos ht, h2 t ht, e0]
    by_cases e : t < i ∨ n < t + 1 + i
    · rw [if_pos e]
    · rw [if_neg e, show n - 1 - t = t by omega]
  · rw [List.getElem?_eq_none (by simp; omega), List.getElem?_eq_none (by simp; omega)]
set_option maxRecDepth 100000 in
set_option maxHeartbeats 2000000 in
theorem revL_zero (oa : Option Addr) (cap : Nat) (w : World) : Calls Tryz.prog 172 #[.slice oa 0 cap] w fun e w' => e = .returned (.tuple #[]) ∧ w' = w := by
  go_enter Tryz.func172, Tryz.ntmps172
  go_wp2_with fail
  go_loopw [2, 3] (fun s2 s3 wr => s2 = .int .i64 0 ∧ s3 = .int .i64 (-1) ∧ wr = w) (fun _ _ _ => 0)
  case atStart => exact ⟨rfl, rfl, rfl⟩
  case round =>
    obtain ⟨rfl, rfl, rfl⟩ := hrel
    go_wp2
    go_end0
    exact ⟨rfl, rfl⟩
set_option maxRecDepth 100000 in
set_option maxHeartbeats 2000000 in
theorem revL_row (n g cap : Nat) (cs : List Value) (w : World) (hn : 1 ≤ n) (hr : Row w g 29 cs) (hcl : n ≤ cs.length) (hb : n ≤ 1000000) (hsh : ∀ (t : Nat) x, t < n → cs[t]? = some x → ∃ oa m k, x = .slice oa m k) :
    Calls Tryz.prog 172 #[.slice (some ⟨g, 0, none⟩) n cap] w fun e w' => e = .returned (.tuple #[]) ∧ w.grownBy w' (some g) ∧ ∃ c, Row w' g 29 c ∧ c.length = cs.length ∧ c.take n = (cs.take n).reverse := by
  have HR0 := hid hr
  clear hr
  go_enter Tryz.func172, Tryz.ntmps172
  go_wp2_with fail
  go_loopw [2, 3] (fun s2 s3 wr => ∃ i j : Nat, s2 = .int .i64 (i : Int) ∧ s3 = .int .i64 (j : Int) ∧ i + j + 1 = n ∧ i ≤ j + 1 ∧ Hid (w.grownBy wr (some g) ∧ ∃ c, Row wr g 29 c ∧ Rv cs c n i)) (fun s2 _ _ => n - (intOf s2).toNat)
  case atStart => exact ⟨0, n - 1, rfl, by go_num, by omega, by omega, hid ⟨grown_refl _ _, cs, HR0.out, Rv.start _ _⟩⟩
  case round =>
    obtain ⟨i, j, rfl, rfl, hij, hle, HI⟩ := hrel
    by_cases hlt : i < j
    · have hlt' : (i : Int) < (j : Int) := by omega
      obtain ⟨hg, c, hrow, hrv⟩ := HI.out
      have hcl2 := hrv.1
      obtain ⟨xi, hxi⟩ : ∃ x, c[i]? = some x := ⟨c[i]'(by omega), List.getElem?_eq_getElem _⟩
      obtain ⟨xj, hxj⟩ : ∃ x, c[j]? = some x := ⟨c[j]'(by omega), List.getElem?_eq_getElem _⟩
      obtain ⟨oi, mi, ki, rfl⟩ := hsh i xi (by omega) ((hrv.at (Nat.le_refl _) (by omega)).symm.trans hxi)
      obtain ⟨oj, mj, kj, rfl⟩ := hsh j xj (by omega) ((hrv.at (by omega) (by omega)).symm.trans hxj)
      have d0 := (hrow.cell i).trans hxi
      have d1 := (hrow.cell j).trans hxj
      have f0 := hrow.frozen i
      have f1 := hrow.frozen j
      have f2 := (hrow.set i (.slice oj mj kj)).frozen j
      have hin : (i : Int) < (n : Int) := by omega
      have hjn : (j : Int) < (n : Int) := by omega
      have HN := hid (show w.grownBy (((wr.setCell ⟨g, i, none⟩ (.slice oj mj kj)).setCell ⟨g, j, none⟩ (.slice oi mi ki)).drew) (some g) ∧ ∃ c, Row (((wr.setCell ⟨g, i, none⟩ (.slice oj mj kj)).setCell ⟨g, j, none⟩ (.slice oi mi ki)).drew) g 29 c ∧ Rv cs c n (i + 1) from
        ⟨grown_drew (grown_trans hg (grown_trans (grown_set _ _ _ _) (grown_set _ _ _ _))) , _, ((hrow.set i (.slice oj mj kj)).set j (.slice oi mi ki)).drew, hrv.step hij hlt hcl hxi hxj⟩)
      have HSH := hid hsh
      clear hg hrow hrv HI hxi hxj hsh
      go_wp2_with fail
      go_region
      go_wp2_with fail
      exact ⟨⟨i + 1, j - 1, by go_num, by go_num, by omega, by omega, HN⟩, by simp [intOf]; omega⟩
    · have hge : decide ((i : Int) < (j : Int)) = false := by simp; omega
      go_wp2
      go_end0
      obtain ⟨hg, c, hrow, hrv⟩ := HI.out
      exact ⟨rfl, hg, c, hrow, hrv.1, hrv.stop (by omega) hcl⟩
set_option maxRecDepth 100000 in
set_option maxHeartbeats 2000000 in
theorem revT_zero (oa : Option Addr) (cap : Nat) (w : World) : Calls Tryz.prog 188 #[.slice oa 0 cap] w fun e w' => e = .returned (.tuple #[]) ∧ w' = w := by
  go_enter Tryz.func188, Tryz.ntmps188
  go_wp2_with fail
  go_loopw [2, 3] (fun s2 s3 wr => s2 = .int .i64 0 ∧ s3 = .int .i64 (-1) ∧ wr = w) (fun _ _ _ => 0)
  case atStart => exact ⟨rfl, rfl, rfl⟩
  case round =>
    obtain ⟨rfl, rfl, rfl⟩ := hrel
    go_wp2
    go_end0
    exact ⟨rfl, rfl⟩
set_option maxRecDepth 100000 in
set_option maxHeartbeats 2000000 in
theorem revT_row (n g cap : Nat) (cs : List Value) (w : World) (hn : 1 ≤ n) (hr : Row w g 4 cs) (hcl : n ≤ cs.length) (hb : n ≤ 1000000) (hsh : ∀ (t : Nat) x, t < n → cs[t]? = some x → ∃ b, x = .bool b) :
    Calls Tryz.prog 188 #[.slice (some ⟨g, 0, none⟩) n cap] w fun e w' => e = .returned (.tuple #[]) ∧ w.grownBy w' (some g) ∧ ∃ c, Row w' g 4 c ∧ c.length = cs.length ∧ c.take n = (cs.take n).reverse := by
  have HR0 := hid hr
  clear hr
  go_enter Tryz.func188, Tryz.ntmps188
  go_wp2_with fail
  go_loopw [2, 3] (fun s2 s3 wr => ∃ i j : Nat, s2 = .int .i64 (i : Int) ∧ s3 = .int .i64 (j : Int) ∧ i + j + 1 = n ∧ i ≤ j + 1 ∧ Hid (w.grownBy wr (some g) ∧ ∃ c, Row wr g 4 c ∧ Rv cs c n i)) (fun s2 _ _ => n - (intOf s2).toNat)
  case atStart => exact ⟨0, n - 1, rfl, by go_num, by omega, by omega, hid ⟨grown_refl _ _, cs, HR0.out, Rv.start _ _⟩⟩
  case round =>
    obtain ⟨i, j, rfl, rfl, hij, hle, HI⟩ := hrel
    by_cases hlt : i < j
    · have hlt' : (i : Int) < (j : Int) := by omega
      obtain ⟨hg, c, hrow, hrv⟩ := HI.out
      have hcl2 := hrv.1
      obtain ⟨xi, hxi⟩ : ∃ x, c[i]? = some x := ⟨c[i]'(by omega), List.getElem?_eq_getElem _⟩
      obtain ⟨xj, hxj⟩ : ∃ x, c[j]? = some x := ⟨c[j]'(by omega), List.getElem?_eq_getElem _⟩
      obtain ⟨bi, rfl⟩ := hsh i xi (by omega) ((hrv.at (Nat.le_refl _) (by omega)).symm.trans hxi)
      obtain ⟨bj, rfl⟩ := hsh j xj (by omega) ((hrv.at (by omega) (by omega)).symm.trans hxj)
      have d0 := (hrow.cell i).trans hxi
      have d1 := (hrow.cell j).trans hxj
      have f0 := hrow.frozen i
      have f1 := hrow.frozen j
      have f2 := (hrow.set i (.bool bj)).frozen j
      have hin : (i : Int) < (n : Int) := by omega
      have hjn : (j : Int) < (n : Int) := by omega
      have HN := hid (show w.grownBy (((wr.setCell ⟨g, i, none⟩ (.bool bj)).setCell ⟨g, j, none⟩ (.bool bi)).drew) (some g) ∧ ∃ c, Row (((wr.setCell ⟨g, i, none⟩ (.bool bj)).setCell ⟨g, j, none⟩ (.bool bi)).drew) g 4 c ∧ Rv cs c n (i + 1) from
        ⟨grown_drew (grown_trans hg (grown_trans (grown_set _ _ _ _) (grown_set _ _ _ _))) , _, ((hrow.set i (.bool bj)).set j (.bool bi)).drew, hrv.step hij hlt hcl hxi hxj⟩)
      have HSH := hid hsh
      clear hg hrow hrv HI hxi hxj hsh
      go_wp2_with fail
      go_region
      go_wp2_with fail
      exact ⟨⟨i + 1, j - 1, by go_num, by go_num, by omega, by omega, HN⟩, by simp [intOf]; omega⟩
    · have hge : decide ((i : Int) < (j : Int)) = false := by simp; omega
      go_wp2
      go_end0
      obtain ⟨hg, c, hrow, hrv⟩ := HI.out
      exact ⟨rfl, hg, c, hrow, hrv.1, hrv.stop (by omega) hcl⟩
end Go.Proofs.YtclhcjiblfokaaaGreatDoor
namespace Go.Proofs.YtclhcjiblfokaaaGreatDoor
open Go.RowKit

theorem revL_any (ls : List (List (BitVec 8))) (v : Value) (base : Nat) (w : World) (h : OwnL w base v ls) (hb : base ≤ w.heap.size) (hl : ls.length ≤ 1000000) :
    Calls Tryz.prog 172 #[v] w fun e w' => e = .returned (.tuple #[]) ∧ OwnL w' base v ls.reverse ∧ Below base w w' ∧ KeepT 29 w w' := by
  obtain ⟨ys, rfl, hrow, hys⟩ := h
  rw [List.length_map] at hl
  obtain ⟨h1, h2⟩ := id hrow
  by_cases h0 : ys.length = 0
  · obtain rfl := List.length_eq_zero_iff.1 h0
    obtain ⟨oa, cap, rfl⟩ : ∃ oa cap, v = .slice oa 0 cap := by
      rcases h2 with ⟨h3, _⟩ | ⟨g, cap, cur, h3, _⟩
      · exact ⟨none, 0, h3⟩
      · exact ⟨_, cap, h3⟩
    refine (revL_zero oa cap w).mono ?_
    rintro e w' ⟨rfl, rfl⟩
    exact ⟨rfl, ⟨[], rfl, hrow, hys⟩, Below.refl _ _, KeepT.refl _ _⟩
  · rcases h2 with ⟨_, h0'⟩ | ⟨g, cap, cur, rfl, hbg, hg, hn, hm, hc, hx⟩
    · omega
    · have hr : Row w g 29 cur.toList := by unfold Row; simpa using hg
      have hx' : cur.toList.take ys.length = ys.map (·.v) := by simpa using hx
      have hcl : ys.length ≤ cur.toList.length := by simp; omega
      refine (revL_row ys.length g cap cur.toList w (by omega) hr hcl hl (fun t x ht hxt => ?_)).mono ?_
      · have e := congrArg (fun l : List Value => l[t]?) hx'
        simp only [List.getElem?_take, if_pos ht, List.getElem?_map] at e
        rw [hxt] at e
        obtain ⟨y, hy, rfl⟩ : ∃ y, ys[t]? = some y ∧ y.v = x := by
          cases hyt : ys[t]? with
          | none => rw [hyt] at e; simp at e
          | some y => rw [hyt] at e; exact ⟨y, rfl, by simpa using e.symm⟩
        obtain ⟨oa, c, hs, _⟩ := (hys y (List.mem_of_getElem? hy)).shape
        exact ⟨oa, _, c, hs⟩
      · rintro e w' ⟨rfl, hgr, c, hr', hlen, htk⟩
        have hk : KeepT 29 w w' := keepT_grown (v := .slice (some ⟨g, 0, none⟩) ys.length cap) hrow (by simpa [Value.ownBlock] using hgr)
        refine ⟨rfl, ⟨ys.reverse, by rw [List.map_reverse], ⟨by simp, .inr ⟨g, cap, c.toArray, by simp, hbg, hr', by simpa using hn, hm, by simp at hlen ⊢; omega, ?_⟩⟩, fun y hy => hk.owns (hys y (by simpa using hy)) (by decide)⟩,
          (Below.refl base w).grown hgr hb (fun k hk => by obtain rfl := Option.some.inj hk; exact hbg), hk⟩
        simpa [hx'] using htk
theorem revT_any (bs : List Bool) (v : Value) (base : Nat) (w : World) (h : OwnT w base v bs) (hb : base ≤ w.heap.size) (hl : bs.length ≤ 1000000) :
    Calls Tryz.prog 188 #[v] w fun e w' => e = .returned (.tuple #[]) ∧ OwnT w' base v bs.reverse ∧ Below base w w' ∧ KeepT 4 w w' := by
  have hrow := h
  obtain ⟨h1, h2⟩ := h
  by_cases h0 : bs.length = 0
  · obtain rfl := List.length_eq_zero_iff.1 h0
    obtain ⟨oa, cap, rfl⟩ : ∃ oa cap, v = .slice oa 0 cap := by
      rcases h2 with ⟨h3, _⟩ | ⟨g, cap, cur, h3, _⟩
      · exact ⟨none, 0, h3⟩
      · exact ⟨_, cap, h3⟩
    refine (revT_zero oa cap w).mono ?_
    rintro e w' ⟨rfl, rfl⟩
    exact ⟨rfl, hrow, Below.refl _ _, KeepT.refl _ _⟩
  · rcases h2 with ⟨_, h0'⟩ | ⟨g, cap, cur, rfl, hbg, hg, hn, hm, hc, hx⟩
    · omega
    · have hr : Row w g 4 cur.toList := by unfold Row; simpa using hg
      have hx' : cur.toList.take bs.length = bs.map Value.bool := by simpa using hx
      have hcl : bs.length ≤ cur.toList.length := by simp; omega
      refine (revT_row bs.length g cap cur.toList w (by omega) hr hcl hl (fun t x ht hxt => ?_)).mono ?_
      · have e := congrArg (fun l : List Value => l[t]?) hx'
        simp only [List.getElem?_take, if_pos ht, List.getElem?_map] at e
        rw [hxt] at e
        cases hyt : bs[t]? with
        | none => rw [hyt] at e; simp at e
        | some y => rw [hyt] at e; exact ⟨y, by simpa using e⟩
      · rintro e w' ⟨rfl, hgr, c, hr', hlen, htk⟩
        have hk : KeepT 4 w w' := keepT_grown (v := .slice (some ⟨g, 0, none⟩) bs.length cap) hrow (by simpa [Value.ownBlock] using hgr)
        refine ⟨rfl, ⟨by simp, .inr ⟨g, cap, c.toArray, by simp, hbg, hr', by simpa using hn, hm, by simp at hlen ⊢; omega, ?_⟩⟩,
          (Below.refl base w).grown hgr hb (fun k hk => by obtain rfl := Option.some.inj hk; exact hbg), hk⟩
        simpa [hx'] using htk
theorem fits1_any (oa : Option Addr) (n c : Nat) (w : World) : Calls Tryz.prog 168 #[.slice oa n c] w fun e w' => e = .returned (.bool ((n : Int) != 32)) ∧ w' = w := by
  go_enter Tryz.func168, Tryz.ntmps168
  go_wp2
  go_ret
  exact ⟨rfl, rfl⟩
set_option maxRecDepth 100000 in
set_option maxHeartbeats 1000000 in
theorem indexFunc_any (ls : List (List (BitVec 8))) (v : Value) (N : Nat) (w : World) (h : Lists w N v ls) (hl : ls.length < 2305843009213693952) :
    Calls Tryz.prog 189 #[v, .func (.func 168) #[] #[]] w fun e w' => w' = w ∧ ∃ i : Int, e = .returned (.int .i64 i) ∧ (0 ≤ i ↔ ∃ d ∈ ls, d.length ≠ 32) := by
  obtain ⟨oa, ca, rfl, hca⟩ := h.shape
  have HL := hid h
  clear h
  generalize hn : ls.length = n at *
  have HN := hid hn
  clear hn
  go_enter Tryz.func189, Tryz.ntmps189
  go_wp2_with fail
  go_loopw [8] (fun s8 wr => ∃ k : Nat, k ≤ n ∧ s8 = .int .i64 (k : Int) ∧ wr = w ∧ Hid (∀ d ∈ ls.take k, d.length = 32)) (fun s8 _ => n - (intOf s8).toNat)
  case atStart => exact ⟨0, Nat.zero_le _, rfl, rfl, hid (by simp)⟩
  case round =>
    obtain ⟨k, hk, rfl, hwr, HR⟩ := hrel
    subst hwr
    by_cases hlt : k < n
    · have hlt' : (k : Int) < (n : Int) := by omega
      have hl2 : Lists wr N (.slice oa ls.length ca) ls := by rw [HN.out]; exact HL.out
      obtain ⟨b, o, rfl, hc⟩ := hl2.some (by rw [HN.out]; omega)
      obtain ⟨hbN, x, hx, hbx⟩ := hc k (by rw [HN.out]; exact hlt)
      obtain ⟨od, cd, rfl, _⟩ := hbx.shape
      obtain ⟨d, hd⟩ : ∃ d, ls.getD k [] = d := ⟨_, rfl⟩
      have hdk : ls[k]? = some d := by rw [← hd]; exact getD_some _ _ _ (by rw [HN.out]; exact hlt)
      rw [hd] at hx
      have HDK := hid hdk
      have HF := hid (fits1_any od d.length cd wr)
      clear hl2 hc hbx hd hdk
      by_cases h32 : d.length = 32
      · have e2 : ((d.length : Int) != 32) = false := by simp; omega
        rw [e2] at HF
        have HTK := hid (show ∀ d' ∈ ls.take (k + 1), d'.length = 32 from fun d' hd' => by
          rw [List.take_add_one, HDK.out] at hd'
          rcases List.mem_append.1 hd' with hd' | hd'
          · exact HR.out d' hd'
          · obtain rfl : d' = d := by simpa using hd'
            exact h32)
        clear e2 h32
        go_wp2_with fail
        refine HF.out.mono ?_
        rintro e w5 ⟨rfl, hw5⟩
        obtain rfl := hw5.symm
        go_wp2_with fail
        exact ⟨⟨k + 1, by omega, by go_num, by trivial, HTK⟩, by simp [intOf]; omega⟩
      · have e2 : ((d.length : Int) != 32) = true := by simp; omega
        rw [e2] at HF
        have H32 := hid h32
        clear e2 h32
        go_wp2_with fail
        refine HF.out.mono ?_
        rintro e w5 ⟨rfl, hw5⟩
        obtain rfl := hw5.symm
        go_wp2
        go_ret
        exact ⟨rfl, _, rfl, fun _ => ⟨d, List.mem_of_getElem? HDK.out, H32.out⟩, fun _ => by omega⟩
    · have hge : decide ((k : Int) < (n : Int)) = false := by simp; omega
      go_wp2
      go_ret
      refine ⟨rfl, _, rfl, fun h => absurd h (by decide), ?_⟩
      rintro ⟨d, hd, hne⟩
      exact absurd (HR.out d (by rw [List.take_of_length_le (by rw [HN.out]; omega)]; exact hd)) hne
theorem contains_any (ls : List (List (BitVec 8))) (v : Value) (N : Nat) (w : World) (h : Lists w N v ls) (hl : ls.length < 2305843009213693952) :
    Calls Tryz.prog 167 #[v, .func (.func 168) #[] #[]] w fun e w' => w' = w ∧ ∃ b, e = .returned (.bool b) ∧ (b = true ↔ ∃ d ∈ ls, d.length ≠ 32) := by
  have HI := hid (indexFunc_any ls v N w h hl)
  obtain ⟨oa, ca, rfl, hca⟩ := h.shape
  clear h
  go_enter Tryz.func167, Tryz.ntmps167
  go_wp2_with fail
  refine HI.out.mono ?_
  rintro e w5 ⟨hw5, i, rfl, hi⟩
  obtain rfl := hw5.symm
  have HII := hid hi
  clear hi
  go_wp2
  go_ret
  refine ⟨rfl, _, rfl, ?_⟩
  rw [decide_eq_true_iff]
  exact HII.out
end Go.Proofs.YtclhcjiblfokaaaGreatDoor
