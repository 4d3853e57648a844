/-
  Pairs behind a slice value: two cells each. Pairs in a row that a call owns. Slices of rows of pairs, and appends of them onto what a call owns.
  Doings behind a slice value: three cells each. No function of the program is named here.
  What the document's Less, Half and Four answer. What the document's Wrong answers: what is wrong with pairs, and where.
  Rows of turns that a call owns; what the document's Way answers: the turns from the root to a place.
  Rows of lists of bytes, and of Bools, that a call owns: appended to one by one. No function of the program is named here. What slices.Reverse answers: a row that the call owns, turned round in its place; and whether a list has another length than a digest's (slices.ContainsFunc, slices.IndexFunc). What slices.Reverse makes of lists and Bools that a call owns; what slices.ContainsFunc answers: whether a list has another length than a digest's; what bytes.Equal answers.
-/
import Derived.Test.YtooemgkjkngpcaaDoorBookMath
import Derived.Test.YtooemgkjkngpcaaDoorMemB
import Derived.Test.YtooemgkjkngpcaaDoorWireBoth
import Derived.Laws.OwnMore
import Derived.Deep.AppendLies
import Derived.Deep.QuietTactic
import Derived.BigQuiet
import Derived.Deep.RegionWith
namespace Go.Proofs.YtooemgkjkngpcaaDoor
open Go.RowKit

/-- sv is a slice that reads as l, nil, empty or neither; its cells, and its pairs' bytes, lie below block number N -/
def Pairs (w : World) (N : Nat) (sv : Value) (l : List Pr) : Prop :=
  (sv = .slice none 0 0 ∧ l = []) ∨ (∃ a cap, sv = .slice (some a) 0 cap ∧ l = []) ∨
  ∃ b off cap, sv = .slice (some ⟨b, off, none⟩) l.length cap ∧ l.length ≤ cap ∧ ∀ i p, l[i]? = some p → b < N ∧ ∃ vk vv,
    w.cell? ⟨b, off + i * 2, none⟩ = some vk ∧ w.cell? ⟨b, off + i * 2 + 1, none⟩ = some vv ∧ Bytes w N vk p.key ∧ Bytes w N vv p.val
theorem Pairs.shape {w : World} {N : Nat} {sv : Value} {l : List Pr} (h : Pairs w N sv l) : ∃ oa cap, sv = .slice oa l.length cap ∧ l.length ≤ cap := by
  rcases h with ⟨rfl, rfl⟩ | ⟨a, cap, rfl, rfl⟩ | ⟨b, off, cap, rfl, hc, _⟩
  · exact ⟨none, 0, rfl, Nat.le_refl _⟩
  · exact ⟨_, cap, rfl, Nat.zero_le _⟩
  · exact ⟨_, cap, rfl, hc⟩
theorem Pairs.some {w : World} {N : Nat} {oa : Option Addr} {n cap : Nat} {l : List Pr} (h : Pairs w N (.slice oa n cap) l) (hl : 0 < n) :
    ∃ b off, oa = some ⟨b, off, none⟩ ∧ ∀ i p, l[i]? = some p → b < N ∧ ∃ vk vv,
    w.cell? ⟨b, off + i * 2, none⟩ = some vk ∧ w.cell? ⟨b, off + i * 2 + 1, none⟩ = some vv ∧ Bytes w N vk p.key ∧ Bytes w N vv p.val := by
  rcases h with ⟨h1, _⟩ | ⟨_, _, h1, _⟩ | ⟨b, off, c, h1, _, h3⟩
  · simp at h1; omega
  · simp at h1; omega
  · simp at h1
    exact ⟨b, off, h1.1, h3⟩
theorem Pairs.below {w w' : World} {N : Nat} {sv : Value} {l : List Pr} (h : Pairs w N sv l) (hg : Below N w w') : Pairs w' N sv l := by
  rcases h with h | h | ⟨b, off, cap, h1, h2, h3⟩
  · exact .inl h
  · exact .inr (.inl h)
  · refine .inr (.inr ⟨b, off, cap, h1, h2, fun i p hp => ?_⟩)
    obtain ⟨hb, vk, vv, d0, d1, d2, d3⟩ := h3 i p hp
    exact ⟨hb, vk, vv, (hg.cell hb).trans d0, (hg.cell hb).trans d1, d2.below hg, d3.below hg⟩
theorem Pairs.mono {w : World} {N M : Nat} {sv : Value} {l : List Pr} (h : Pairs w N sv l) (hN : N ≤ M) : Pairs w M sv l := by
  rcases h with h | h | ⟨b, off, cap, h1, h2, h3⟩
  · exact .inl h
  · exact .inr (.inl h)
  · refine .inr (.inr ⟨b, off, cap, h1, h2, fun i p hp => ?_⟩)
    obtain ⟨hb, vk, vv, d0, d1, d2, d3⟩ := h3 i p hp
    exact ⟨Nat.lt_of_lt_of_le hb hN, vk, vv, d0, d1, d2.mono hN, d3.mono hN⟩
/-- what bounds a pair's parts: bytes as many as the reach lets -/
def Pr.fits (p : Pr) : Prop := p.key.length ≤ 140737488351232 ∧ p.val.length ≤ 140737488351232

theorem info_pair : (Tryd.prog.info? 48).map (fun i => (i.zero, i.size, i.bytes)) = some (some (.agg #[.slice none 0 0, .slice none 0 0]), 2, 48) := by kernel_rfl
/-- a pair, and the two slices that hold it -/
structure PrV where
  p : Pr
  k : Value
  v : Value
def prCells (q : PrV) : List Value := [q.k, q.v]
/-- the slices read as the pair, in blocks below N -/
def PrV.ok (w : World) (N : Nat) (q : PrV) : Prop := Bytes w N q.k q.p.key ∧ Bytes w N q.v q.p.val
theorem PrV.ok.below {w w' : World} {N : Nat} {q : PrV} (h : q.ok w N) (hg : Below N w w') : q.ok w' N := ⟨h.1.below hg, h.2.below hg⟩
theorem PrV.ok.mono {w : World} {N M : Nat} {q : PrV} (h : q.ok w N) (hN : N ≤ M) : q.ok w M := ⟨h.1.mono hN, h.2.mono hN⟩
/-- pairs in a row that a call owns -/
def RowPr (w : World) (base : Nat) (v : Value) (ps : List PrV) : Prop := w.ownsRow base 48 2 v ps.length (ps.flatMap prCells)
theorem RowPr.nil (w : World) (base : Nat) : RowPr w base (.slice none 0 0) [] := World.ownsRow_nil w base 48 2
theorem RowPr.shape {w : World} {base : Nat} {v : Value} {ps : List PrV} (h : RowPr w base v ps) : ∃ oa cap, v = .slice oa ps.length cap ∧ ps.length ≤ cap := by
  obtain ⟨_, h2⟩ := h
  rcases h2 with ⟨h3, h4⟩ | ⟨g, cap, cur, h3, _, _, h4, _⟩
  · exact ⟨none, 0, by rw [h4]; exact h3, by omega⟩
  · exact ⟨_, cap, h3, h4⟩
theorem ownsRow_belowP {w w' : World} {base e size n : Nat} {v : Value} {xs : List Value} (h : w.ownsRow base e size v n xs) (hg : Below w.heap.size w w') : w'.ownsRow base e size v n xs := by
  obtain ⟨h1, h2⟩ := h
  refine ⟨h1, ?_⟩
  rcases h2 with h2 | ⟨g, cap, cur, h3, h4, h5, h6⟩
  · exact .inl h2
  · exact .inr ⟨g, cap, cur, h3, h4, (hg.block g (Array.getElem?_eq_some_iff.1 h5).1).trans h5, h6⟩
theorem RowPr.below {w w' : World} {base : Nat} {v : Value} {ps : List PrV} (h : RowPr w base v ps) (hg : Below w.heap.size w w') : RowPr w' base v ps := ownsRow_belowP h hg
theorem RowPr.mono {w : World} {base base' : Nat} {v : Value} {ps : List PrV} (h : RowPr w base v ps) (hb : base' ≤ base) : RowPr w base' v ps := by
  obtain ⟨h1, h2⟩ := h
  refine ⟨h1, ?_⟩
  rcases h2 with h2 | ⟨g, cap, cur, h3, h4, h5⟩
  · exact .inl h2
  · exact .inr ⟨g, cap, cur, h3, Nat.le_trans hb h4, h5⟩
theorem flatPr_get (ps : List PrV) : ∀ (i j : Nat) (q : PrV), ps[i]? = some q → j < 2 → (ps.flatMap prCells)[i * 2 + j]? = (prCells q)[j]? := by
  induction ps with
  | nil => intro i j q h; simp at h
  | cons a ps ih =>
    intro i j q h hj
    rw [List.flatMap_cons]
    have ha : (prCells a).length = 2 := rfl
    cases i with
    | zero =>
      obtain rfl : a = q := by simpa using h
      rw [Nat.zero_mul, Nat.zero_add, List.getElem?_append_left (by omega)]
    | succ i =>
      rw [List.getElem?_append_right (by omega), ha, show (i + 1) * 2 + j - 2 = i * 2 + j by omega]
      exact ih i j q (by simpa using h) hj
theorem flatPr_len (ps : List PrV) : (ps.flatMap prCells).length = ps.length * 2 := by
  induction ps with
  | nil => rfl
  | cons a r ih => rw [List.flatMap_cons, List.length_append, ih]; simp [prCells]; omega
/-- what is owned reads as pairs -/
theorem RowPr.pairs {w : World} {base N : Nat} {v : Value} {ps : List PrV} (h : RowPr w base v ps) (hN : N ≤ w.heap.size) (hb : ∀ q ∈ ps, q.ok w N) : Pairs w w.heap.size v (ps.map (·.p)) := by
  obtain ⟨h1, h2⟩ := h
  rcases h2 with ⟨rfl, h0⟩ | ⟨g, cap, cur, rfl, _, hg, hn, _, hc, hx⟩
  · exact .inl ⟨rfl, by rw [List.length_eq_zero_iff.1 h0]; rfl⟩
  · refine .inr (.inr ⟨g, 0, cap, by simp, by simpa using hn, fun i p hp => ?_⟩)
    obtain ⟨q, hq, rfl⟩ : ∃ q, ps[i]? = some q ∧ q.p = p := by simpa using hp
    refine ⟨(Array.getElem?_eq_some_iff.1 hg).1, q.k, q.v, ?_⟩
    have hil : i < ps.length := (List.getElem?_eq_some_iff.1 hq).1
    have cell : ∀ j, j < 2 → w.cell? ⟨g, 0 + i * 2 + j, none⟩ = (prCells q)[j]? := fun j hj => by
      rw [cell_of_row w g _ cur _ _ hg, ← flatPr_get ps i j q hq hj, ← hx, List.getElem?_take, if_pos (by omega), Nat.zero_add, Array.getElem?_toList]
    have hok := (hb q (List.mem_of_getElem? hq)).mono hN
    exact ⟨cell 0 (by omega), cell 1 (by omega), hok.1, hok.2⟩
/-- a pair's two cells, in a row that is owned -/
theorem RowPr.get {w : World} {base : Nat} {oa : Option Addr} {n cap : Nat} {ps : List PrV} (h : RowPr w base (.slice oa n cap) ps) (hn : 0 < n) : ∃ g, oa = some ⟨g, 0, none⟩ ∧ base ≤ g ∧ g < w.heap.size ∧ ∀ i q, ps[i]? = some q → w.cell? ⟨g, i * 2, none⟩ = some q.k ∧ w.cell? ⟨g, i * 2 + 1, none⟩ = some q.v := by
  obtain ⟨h1, h2⟩ := h
  rcases h2 with ⟨h0, h0'⟩ | ⟨g, cap', cur, hv, hb, hg, hn', _, hc, hx⟩
  · simp at h0; omega
  · simp at hv
    refine ⟨g, hv.1, hb, (Array.getElem?_eq_some_iff.1 hg).1, fun i q hq => ?_⟩
    have hil : i < ps.length := (List.getElem?_eq_some_iff.1 hq).1
    have cell : ∀ j, j < 2 → w.cell? ⟨g, i * 2 + j, none⟩ = (prCells q)[j]? := fun j hj => by
      rw [cell_of_row w g _ cur _ _ hg, ← flatPr_get ps i j q hq hj, ← hx, List.getElem?_take, if_pos (by omega), Array.getElem?_toList]
    exact ⟨cell 0 (by omega), cell 1 (by omega)⟩
/-- sv is a slice whose cells are those of ps, nil, empty or neither, in a block below M -/
def SrcPr (w : World) (M : Nat) (sv : Value) (ps : List PrV) : Prop :=
  (sv = .slice none 0 0 ∧ ps = []) ∨ (∃ a cap, sv = .slice (some a) 0 cap ∧ ps = []) ∨
  ∃ b off cap, sv = .slice (some ⟨b, off, none⟩) ps.length cap ∧ ps.length ≤ cap ∧ ∀ i q, ps[i]? = some q → b < M ∧ w.cell? ⟨b, off + i * 2, none⟩ = some q.k ∧ w.cell? ⟨b, off + i * 2 + 1, none⟩ = some q.v
theorem SrcPr.shape {w : World} {M : Nat} {sv : Value} {ps : List PrV} (h : SrcPr w M sv ps) : ∃ oa cap, sv = .slice oa ps.length cap ∧ ps.length ≤ cap := by
  rcases h with ⟨rfl, rfl⟩ | ⟨a, cap, rfl, rfl⟩ | ⟨b, off, cap, rfl, hc, _⟩
  · exact ⟨none, 0, rfl, Nat.le_refl _⟩
  · exact ⟨_, cap, rfl, Nat.zero_le _⟩
  · exact ⟨_, cap, rfl, hc⟩
theorem SrcPr.some {w : World} {M : Nat} {oa : Option Addr} {n cap : Nat} {ps : List PrV} (h : SrcPr w M (.slice oa n cap) ps) (hn : 0 < n) :
    ∃ b off, oa = some ⟨b, off, none⟩ ∧ ∀ i q, ps[i]? = some q → b < M ∧ w.cell? ⟨b, off + i * 2, none⟩ = some q.k ∧ w.cell? ⟨b, off + i * 2 + 1, none⟩ = some q.v := by
  rcases h with ⟨h1, _⟩ | ⟨_, _, h1, _⟩ | ⟨b, off, c, h1, _, h3⟩
  · simp at h1; omega
  · simp at h1; omega
  · simp at h1
    exact ⟨b, off, h1.1, h3⟩
theorem SrcPr.below {w w' : World} {M : Nat} {sv : Value} {ps : List PrV} (h : SrcPr w M sv ps) (hg : Below M w w') : SrcPr w' M sv ps := by
  rcases h with h | h | ⟨b, off, cap, h1, h2, h3⟩
  · exact .inl h
  · exact .inr (.inl h)
  · refine .inr (.inr ⟨b, off, cap, h1, h2, fun i q hq => ?_⟩)
    obtain ⟨hb, d0, d1⟩ := h3 i q hq
    exact ⟨hb, (hg.cell hb).trans d0, (hg.cell hb).trans d1⟩
theorem RowPr.src {w : World} {base : Nat} {v : Value} {ps : List PrV} (h : RowPr w base v ps) : SrcPr w w.heap.size v ps := by
  obtain ⟨oa, cap, rfl, hc⟩ := h.shape
  by_cases h0 : ps.length = 0
  · have hp := List.length_eq_zero_iff.1 h0
    subst hp
    obtain ⟨_, h2⟩ := h
    rcases h2 with ⟨h3, _⟩ | ⟨g, cap', cur, h3, _⟩
    · exact .inl ⟨h3, rfl⟩
    · exact .inr (.inl ⟨_, cap', h3, rfl⟩)
  · obtain ⟨g, rfl, _, hg, hc2⟩ := h.get (by omega)
    refine .inr (.inr ⟨g, 0, cap, rfl, hc, fun i q hq => ⟨hg, ?_⟩⟩)
    rw [Nat.zero_add]
    exact hc2 i q hq
/-- pairs without a key -/
def dropV (k : List (BitVec 8)) (ps : List PrV) : List PrV := ps.filter (fun q => decide (q.p.key ≠ k))
theorem dropV_map (k : List (BitVec 8)) (ps : List PrV) : (dropV k ps).map (·.p) = dropK k (ps.map (·.p)) := by
  unfold dropV dropK
  rw [List.filter_map]
  rfl
theorem dropV_take (k : List (BitVec 8)) (l : List PrV) (j : Nat) (q : PrV) (h : l[j]? = some q) : dropV k (l.take (j + 1)) = if q.p.key = k then dropV k (l.take j) else dropV k (l.take j) ++ [q] := by
  obtain ⟨hj, he⟩ := List.getElem?_eq_some_iff.1 h
  unfold dropV
  rw [List.take_succ_eq_append_getElem hj, List.filter_append, he]
  by_cases e : q.p.key = k
  · simp [e]
  · simp [e]
theorem mem_dropV {k : List (BitVec 8)} {ps : List PrV} {q : PrV} (h : q ∈ dropV k ps) : q ∈ ps := (List.mem_filter.1 h).1
end Go.Proofs.YtooemgkjkngpcaaDoor
namespace Go.Proofs.YtooemgkjkngpcaaDoor
open Go.RowKit

theorem elemPr : Tryd.prog.underlying 30 = some (.slice (Tryd.prog.elem 30)) := by kernel_rfl
theorem sizePr (w : World) : (sizeOf (Tryd.prog.elem 30)).run Tryd.prog w = .ok 2 w := by kernel_rfl
theorem src_between {w : World} {M : Nat} {oa : Option Addr} {n ca : Nat} {ps : List PrV} (h : SrcPr w M (.slice oa n ca) ps) (i j : Nat) (hij : i ≤ j) (hj : j ≤ n) : SrcPr w M (sliced oa i j ca 2) ((ps.drop i).take (j - i)) := by
  obtain ⟨oa', ca', he, hc⟩ := h.shape
  obtain ⟨rfl, hn, rfl⟩ : oa = oa' ∧ n = ps.length ∧ ca = ca' := by simpa using he
  subst hn
  by_cases h0 : i = j
  · subst h0
    have e : (ps.drop i).take (i - i) = [] := by simp
    rw [e]
    cases oa with
    | none =>
      rcases h with ⟨h1, h2⟩ | ⟨a, cap, h1, _⟩ | ⟨b, off, cap, h1, _, _⟩
      · obtain ⟨h3, rfl⟩ : ps.length = 0 ∧ ca = 0 := by simpa using h1
        left
        have : i = 0 := by omega
        subst this
        simp [sliced]
      · simp at h1
      · simp at h1
    | some a =>
      right; left
      refine ⟨if ca = i then a else a.add (i * 2), ca - i, ?_, rfl⟩
      simp only [sliced, Nat.sub_self]
      split <;> simp
  · obtain ⟨b, o, rfl, c1⟩ := h.some (by omega)
    have hne : ¬ ca = i := by omega
    right; right
    refine ⟨b, o + i * 2, ca - i, ?_, ?_, ?_⟩
    · have hl : ((ps.drop i).take (j - i)).length = j - i := by simp; omega
      rw [hl]
      simp [sliced, hne, Addr.add]
    · simp; omega
    · intro x q hq
      have hxl : x < j - i := by have := (List.getElem?_eq_some_iff.1 hq).1; simp at this; omega
      have hq' : ps[i + x]? = some q := by
        rw [List.getElem?_take, if_pos hxl, List.getElem?_drop] at hq
        exact hq
      obtain ⟨h1, h2, h3⟩ := c1 (i + x) q hq'
      refine ⟨h1, ?_, ?_⟩
      · rw [show o + i * 2 + x * 2 = o + (i + x) * 2 by omega]; exact h2
      · rw [show o + i * 2 + x * 2 + 1 = o + (i + x) * 2 + 1 by omega]; exact h3
theorem src_from {w : World} {M : Nat} {oa : Option Addr} {n ca : Nat} {ps : List PrV} (h : SrcPr w M (.slice oa n ca) ps) (kd : IntKind) (i : Nat) (hi : i ≤ n) :
    ∃ v, (∀ w', (Instr.sliceAt 30 (.slice oa n ca) (some (.int kd (i : Int))) none none).run Tryd.prog w' = .ok v w') ∧ SrcPr w M v (ps.drop i) := by
  have hn : n = ps.length := by obtain ⟨oa', ca', he, _⟩ := h.shape; simp at he; exact he.2.1
  refine ⟨sliced oa i n ca 2, fun w' => ?_, ?_⟩
  · rw [run_sliceAt_slice w' _ _ _ _ _ elemPr, run_slice_l w' _ _ _ _ elemPr kd (i : Int) (by omega) (by omega), sizePr]
    rfl
  · have := src_between h i n hi (Nat.le_refl _)
    rwa [List.take_of_length_le (by simp; omega)] at this
theorem src_to {w : World} {M : Nat} {oa : Option Addr} {n ca : Nat} {ps : List PrV} (h : SrcPr w M (.slice oa n ca) ps) (kd : IntKind) (j : Nat) (hj : j ≤ n) :
    ∃ v, (∀ w', (Instr.sliceAt 30 (.slice oa n ca) none (some (.int kd (j : Int))) none).run Tryd.prog w' = .ok v w') ∧ SrcPr w M v (ps.take j) := by
  have hc : n ≤ ca := by obtain ⟨oa', ca', he, hc⟩ := h.shape; simp at he; omega
  refine ⟨sliced oa 0 j ca 2, fun w' => ?_, ?_⟩
  · rw [run_sliceAt_slice w' _ _ _ _ _ elemPr, run_slice_h w' _ _ _ _ elemPr kd (j : Int) (by omega) (by omega), sizePr]
    rfl
  · have := src_between h 0 j (Nat.zero_le _) hj
    simpa using this
/-- one pair in a new block is a source -/
theorem src_one {W : World} {g : Nat} {q : PrV} (h0 : W.cell? ⟨g, 0, none⟩ = some q.k) (h1 : W.cell? ⟨g, 1, none⟩ = some q.v) : SrcPr W (g + 1) (.slice (some ⟨g, 0, none⟩) 1 1) [q] := by
  refine .inr (.inr ⟨g, 0, 1, rfl, Nat.le_refl _, fun i q' hq => ?_⟩)
  have hi : i = 0 := by have := (List.getElem?_eq_some_iff.1 hq).1; simp at this; exact this
  subst hi
  obtain rfl : q = q' := by simpa using hq
  exact ⟨by omega, h0, h1⟩
/-- no pairs at all, in a new block, are owned -/
theorem row_none {W : World} {base g : Nat} (hg : W.heap[g]? = some (.cells #[] 48 (0, 0))) (hb : base ≤ g) : RowPr W base (.slice (some ⟨g, 0, none⟩) 0 0) [] :=
  ⟨rfl, .inr ⟨g, 0, #[], rfl, hb, hg, Nat.le_refl _, by simp [maxLen], rfl, rfl⟩⟩
theorem wp_append_prs {o : Oper} {a : Act} {W : World} {K : Act → World → Prop} {Q : Exit → Act → World → Prop} (s x : Operand)
    (ho : o.op = .call { callee := .builtin .append, args := #[s, x], argTypes := #[30, 30] })
    (base : Nat) (v : Value) (ps : List PrV) (hs : a.eval s = v) (hown : RowPr W base v ps) (sv : Value) (qs : List PrV) {M : Nat} (hx : a.eval x = sv) (hsrc : SrcPr W M sv qs)
    (hone : ∀ q ∈ qs, q.k.oneCell' = true ∧ q.v.oneCell' = true) (hl : ps.length + qs.length ≤ 1000000) (hbase : base ≤ W.heap.size)
    (h : ∀ v' w', RowPr w' base v' (ps ++ qs) → Below base W w' → W.grownBy w' v.ownBlock → K (a.put o.dst v') w') : o.wp Tryd.prog a W K Q := by
  obtain ⟨i0, hi0, hz0, hz1, hz2⟩ := info_parts info_pair
  have some_case : ∀ (ad : Addr) (cap : Nat), sv = .slice (some ad) qs.length cap → (∀ j u, (qs.flatMap prCells)[j]? = some u → W.cell? (ad.add j) = some u) → o.wp Tryd.prog a W K Q := by
    rintro ad cap rfl hcs
    refine wp_append_own W s x 30 ho base 48 i0 _ 2 48 Tryd.underlying30 hi0 hz0 hz1 hz2 rfl (by decide) v ps.length (ps.flatMap prCells) hs hown ad qs.length cap (qs.flatMap prCells) hx (flatPr_len qs) hcs ?_ (by unfold maxLen; omega) (by omega) hbase ?_
    · intro u hu
      obtain ⟨q, hq, hu⟩ := List.mem_flatMap.1 hu
      simp [prCells] at hu
      rcases hu with rfl | rfl
      · exact (hone q hq).1
      · exact (hone q hq).2
    · intro v' w' h1 h2 _
      refine h v' w' ?_ ((Below.refl base W).grown h2 hbase (fun k hk => (World.ownsRow.lt hown k hk).1)) h2
      unfold RowPr
      rw [List.length_append, List.flatMap_append]
      exact h1
  rcases hsrc with ⟨rfl, rfl⟩ | ⟨ad, cap, rfl, rfl⟩ | ⟨b, off, cap, rfl, hc, hcell⟩
  · have hrun := run_append_owned_none (P := Tryd.prog) (w := W) base 30 o.type 48 i0 2 Tryd.underlying30 hi0 v ps.length (ps.flatMap prCells) hown
    unfold Oper.wp
    simp [execOp, ho, resolve, invoke, builtin, hs, hx, hrun, Result.andThen]
    exact h v W (by simpa using hown) (Below.refl _ _) (grown_refl _ _)
  · exact some_case ad cap rfl (fun j u hu => by simp at hu)
  · refine some_case _ cap rfl (fun j u hu => ?_)
    have hadd : (⟨b, off, none⟩ : Addr).add j = ⟨b, off + j, none⟩ := by unfold Addr.add; split <;> simp_all
    have hjl : j < qs.length * 2 := by have := (List.getElem?_eq_some_iff.1 hu).1; rw [flatPr_len] at this; exact this
    obtain ⟨q, hq⟩ : ∃ q, qs[j / 2]? = some q := ⟨qs[j / 2]'(by omega), List.getElem?_eq_getElem _⟩
    have hg := flatPr_get qs (j / 2) (j % 2) q hq (by omega)
    rw [show j / 2 * 2 + j % 2 = j by omega, hu] at hg
    obtain ⟨_, d0, d1⟩ := hcell (j / 2) q hq
    rw [hadd]
    rcases Nat.mod_two_eq_zero_or_one j with e | e
    · rw [e] at hg
      rw [show off + j = off + j / 2 * 2 by omega, d0]
      simpa [prCells] using hg.symm
    · rw [e] at hg
      rw [show off + j = off + j / 2 * 2 + 1 by omega, d1]
      simpa [prCells] using hg.symm
theorem step_append_prs {ops : Array Oper} {o : Oper} {a : Act} {W : World} {K : Act → World → Prop} {Q : Exit → Act → World → Prop} {E : Prop} (hgd : o.guard = none) (s x : Operand)
    (ho : o.op = .call { callee := .builtin .append, args := #[s, x], argTypes := #[30, 30] })
    (base : Nat) (v : Value) (ps : List PrV) (hs : a.eval s = v) (hown : RowPr W base v ps) (sv : Value) (qs : List PrV) {M : Nat} (hx : a.eval x = sv) (hsrc : SrcPr W M sv qs)
    (hone : ∀ q ∈ qs, q.k.oneCell' = true ∧ q.v.oneCell' = true) (hl : ps.length + qs.length ≤ 1000000) (hbase : base ≤ W.heap.size)
    (h : ∀ v' w', RowPr w' base v' (ps ++ qs) → Below base W w' → W.grownBy w' v.ownBlock → K (a.put o.dst v') w') : if Region.wanted o (yielded ops a.tmps) = true then Oper.wp Tryd.prog o a W K Q else E := by
  have hw : Region.wanted o (yielded ops a.tmps) = true := by simp [Region.wanted, hgd]
  rw [if_pos hw]
  exact wp_append_prs s x ho base v ps hs hown sv qs hx hsrc hone hl hbase h
theorem PrV.ok.one {w : World} {N : Nat} {q : PrV} (h : q.ok w N) : q.k.oneCell' = true ∧ q.v.oneCell' = true := by
  obtain ⟨o1, c1, e1, _⟩ := h.1.shape
  obtain ⟨o2, c2, e2, _⟩ := h.2.shape
  rw [e1, e2]
  simp [Value.oneCell']
end Go.Proofs.YtooemgkjkngpcaaDoor
namespace Go.Proofs.YtooemgkjkngpcaaDoor
open Go.RowKit

/-- sv is a slice that reads as l, nil, empty or neither; its cells, and its doings' bytes, lie below block number N -/
def Doings (w : World) (N : Nat) (sv : Value) (l : List Dg) : Prop :=
  (sv = .slice none 0 0 ∧ l = []) ∨ (∃ a cap, sv = .slice (some a) 0 cap ∧ l = []) ∨
  ∃ b off cap, sv = .slice (some ⟨b, off, none⟩) l.length cap ∧ l.length ≤ cap ∧ ∀ i d, l[i]? = some d → b < N ∧ ∃ vk vv,
    w.cell? ⟨b, off + i * 3, none⟩ = some vk ∧ w.cell? ⟨b, off + i * 3 + 1, none⟩ = some vv ∧ w.cell? ⟨b, off + i * 3 + 2, none⟩ = some (.bool d.gone) ∧ Bytes w N vk d.key ∧ Bytes w N vv d.val
theorem Doings.shape {w : World} {N : Nat} {sv : Value} {l : List Dg} (h : Doings w N sv l) : ∃ oa cap, sv = .slice oa l.length cap ∧ l.length ≤ cap := by
  rcases h with ⟨rfl, rfl⟩ | ⟨a, cap, rfl, rfl⟩ | ⟨b, off, cap, rfl, hc, _⟩
  · exact ⟨none, 0, rfl, Nat.le_refl _⟩
  · exact ⟨_, cap, rfl, Nat.zero_le _⟩
  · exact ⟨_, cap, rfl, hc⟩
theorem Doings.some {w : World} {N : Nat} {oa : Option Addr} {n cap : Nat} {l : List Dg} (h : Doings w N (.slice oa n cap) l) (hl : 0 < n) :
    ∃ b off, oa = some ⟨b, off, none⟩ ∧ ∀ i d, l[i]? = some d → b < N ∧ ∃ vk vv,
    w.cell? ⟨b, off + i * 3, none⟩ = some vk ∧ w.cell? ⟨b, off + i * 3 + 1, none⟩ = some vv ∧ w.cell? ⟨b, off + i * 3 + 2, none⟩ = some (.bool d.gone) ∧ Bytes w N vk d.key ∧ Bytes w N vv d.val := by
  rcases h with ⟨h1, _⟩ | ⟨_, _, h1, _⟩ | ⟨b, off, c, h1, _, h3⟩
  · simp at h1; omega
  · simp at h1; omega
  · simp at h1
    exact ⟨b, off, h1.1, h3⟩
theorem Doings.below {w w' : World} {N : Nat} {sv : Value} {l : List Dg} (h : Doings w N sv l) (hg : Below N w w') : Doings w' N sv l := by
  rcases h with h | h | ⟨b, off, cap, h1, h2, h3⟩
  · exact .inl h
  · exact .inr (.inl h)
  · refine .inr (.inr ⟨b, off, cap, h1, h2, fun i d hd => ?_⟩)
    obtain ⟨hb, vk, vv, d0, d1, d2, d3, d4⟩ := h3 i d hd
    exact ⟨hb, vk, vv, (hg.cell hb).trans d0, (hg.cell hb).trans d1, (hg.cell hb).trans d2, d3.below hg, d4.below hg⟩
theorem Doings.mono {w : World} {N M : Nat} {sv : Value} {l : List Dg} (h : Doings w N sv l) (hN : N ≤ M) : Doings w M sv l := by
  rcases h with h | h | ⟨b, off, cap, h1, h2, h3⟩
  · exact .inl h
  · exact .inr (.inl h)
  · refine .inr (.inr ⟨b, off, cap, h1, h2, fun i d hd => ?_⟩)
    obtain ⟨hb, vk, vv, d0, d1, d2, d3, d4⟩ := h3 i d hd
    exact ⟨Nat.lt_of_lt_of_le hb hN, vk, vv, d0, d1, d2, d3.mono hN, d4.mono hN⟩
theorem play_step (k : Nat) (out : List Pr) (l : List Dg) (d : Dg) (h : l[k]? = some d) : playGo k out (l.drop k) =
    if 60 < d.key.length ∨ 200 < d.val.length then .error (4, k) else if d.gone = false ∧ 200 < (doOne d out).length then .error (5, k) else playGo (k + 1) (doOne d out) (l.drop (k + 1)) := by
  obtain ⟨hk, he⟩ := List.getElem?_eq_some_iff.1 h
  rw [List.drop_eq_getElem_cons hk, he, playGo_cons]
theorem RowPr.keep {w w' : World} {base : Nat} {v : Value} {ps : List PrV} (h : RowPr w base v ps) (hk : ∀ g, base ≤ g → w'.heap[g]? = w.heap[g]?) : RowPr w' base v ps := by
  obtain ⟨h1, h2⟩ := h
  refine ⟨h1, ?_⟩
  rcases h2 with h2 | ⟨g, cap, cur, h3, h4, h5, h6⟩
  · exact .inl h2
  · exact .inr ⟨g, cap, cur, h3, h4, (hk g h4).trans h5, h6⟩
def Dg.fits (d : Dg) : Prop := d.key.length ≤ 140737488351232 ∧ d.val.length ≤ 140737488351232
end Go.Proofs.YtooemgkjkngpcaaDoor
namespace Go.Proofs.YtooemgkjkngpcaaDoor
open Go.RowKit

theorem lessB_nil_left (b : List (BitVec 8)) : lessB [] b = decide (0 < b.length) := by cases b <;> simp [lessB]
theorem lessB_nil_right (a : List (BitVec 8)) : lessB a [] = false := by cases a <;> rfl
theorem drop_getD (l : List (BitVec 8)) (k : Nat) (h : k < l.length) : l.drop k = l.getD k 0 :: l.drop (k + 1) := by
  rw [List.drop_eq_getElem_cons h]; simp [h]
theorem drewN_belowW (w : World) (n N : Nat) : Below N w (w.drewN n) := ⟨rfl, rfl, rfl, Nat.le_refl _, fun _ _ => rfl⟩
/-- the key ahead of a place, if there is one -/
def prevK (l : List Pr) : Nat → Option (List (BitVec 8))
  | 0 => none
  | k + 1 => (l[k]?).map (·.key)
theorem wrong_step (l : List Pr) (k : Nat) (p : Pr) (h : l[k]? = some p) : wrongGo k (prevK l k) (l.drop k) =
    if 60 < p.key.length ∨ 200 < p.val.length then (4, k) else if okPrev (prevK l k) p.key = false then (2, k) else wrongGo (k + 1) (prevK l (k + 1)) (l.drop (k + 1)) := by
  obtain ⟨hk, he⟩ := List.getElem?_eq_some_iff.1 h
  rw [List.drop_eq_getElem_cons hk, he, wrongGo, show prevK l (k + 1) = some p.key by simp [prevK, h]]
theorem prev_some (l : List Pr) (k : Nat) (p : Pr) (h : l[k]? = some p) : prevK l (k + 1) = some p.key := by simp [prevK, h]
end Go.Proofs.YtooemgkjkngpcaaDoor
namespace Go.Proofs.YtooemgkjkngpcaaDoor
open Go.RowKit

theorem wayL_length (n : Nat) : ∀ i a, (wayL i n a).length ≤ n := by
  induction n using Nat.strongRecOn with
  | _ n ih =>
    intro i a
    by_cases h1 : 1 < n
    · have hh := halfN_lt n h1
      by_cases hik : i < halfN n
      · rw [wayL_left i n a h1 hik, List.length_cons]
        have := ih (halfN n) (by omega) i a
        omega
      · rw [wayL_right i n a h1 hik, List.length_cons]
        have := ih (n - halfN n) (by omega) (i - halfN n) (a + halfN n)
        omega
    · rw [wayL_one i n a h1]
      exact Nat.zero_le _
end Go.Proofs.YtooemgkjkngpcaaDoor
namespace Go.Proofs.YtooemgkjkngpcaaDoor
open Go.RowKit

/-- what lies in rows of another element type than t stays -/
def KeepT (t : TypeId) (w w' : World) : Prop := ∀ (k : Nat) (cs : Array Value) (t' : TypeId) (fr : Nat × Nat), w.heap[k]? = some (.cells cs t' fr) → t' ≠ t → w'.heap[k]? = w.heap[k]?
theorem KeepT.refl (t : TypeId) (w : World) : KeepT t w w := fun _ _ _ _ _ _ => rfl
theorem KeepT.trans {t : TypeId} {w w1 w2 : World} (h : KeepT t w w1) (k : KeepT t w1 w2) : KeepT t w w2 := fun i cs t' fr hi ht => by
  have h1 := h i cs t' fr hi ht
  exact (k i cs t' fr (h1.trans hi) ht).trans h1
theorem KeepT.of_below {t : TypeId} {w w' : World} (h : Below w.heap.size w w') : KeepT t w w' := fun k _ _ _ hk _ => h.block k (Array.getElem?_eq_some_iff.1 hk).1
theorem KeepT.row {t : TypeId} {w w' : World} (h : KeepT t w w') {g : Nat} {t' : TypeId} {cs : List Value} (hr : Row w g t' cs) (ht : t' ≠ t) : Row w' g t' cs := by
  unfold Row at hr ⊢
  rw [h g _ _ _ hr ht]
  exact hr
theorem KeepT.owns {t : TypeId} {w w' : World} (h : KeepT t w w') {base e n : Nat} {v : Value} {xs : List Value} (ho : w.ownsRow base e 1 v n xs) (ht : e ≠ t) : w'.ownsRow base e 1 v n xs := by
  obtain ⟨h1, h2⟩ := ho
  refine ⟨h1, ?_⟩
  rcases h2 with h2 | ⟨g, cap, cur, h3, h4, h5, h6⟩
  · exact .inl h2
  · exact .inr ⟨g, cap, cur, h3, h4, (h g _ _ _ h5 ht).trans h5, h6⟩
theorem keepT_set {w : World} {g : Nat} {t : TypeId} {cs : List Value} (hr : Row w g t cs) (i : Nat) (x : Value) : KeepT t w (w.setCell ⟨g, i, none⟩ x) := fun k cs' t' fr hk ht => by
  refine Below.heap_setCell w ⟨g, i, none⟩ x k ?_
  rintro rfl
  unfold Row at hr
  rw [hr] at hk
  simp at hk
  exact ht hk.2.1.symm
theorem keepT_grown {w w' : World} {base t n : Nat} {v : Value} {xs : List Value} (ho : w.ownsRow base t 1 v n xs) (hg : w.grownBy w' v.ownBlock) : KeepT t w w' := fun k cs t' fr hk ht => by
  refine hg.block k (Array.getElem?_eq_some_iff.1 hk).1 ?_
  intro he
  rcases ho.2 with ⟨rfl, _⟩ | ⟨g, c, cur, rfl, _, h5, _⟩
  · simp [Value.ownBlock] at he
  · obtain rfl : k = g := by simpa [Value.ownBlock] using he
    rw [h5] at hk
    simp at hk
    exact ht hk.2.1.symm
/-- a list of bytes, and the slice that holds it -/
structure LV where
  v : Value
  l : List (BitVec 8)
/-- lists of bytes, owned, in a row that a call owns -/
def OwnL (w : World) (base : Nat) (v : Value) (ls : List (List (BitVec 8))) : Prop :=
  ∃ ys : List LV, ys.map (·.l) = ls ∧ w.ownsRow base 46 1 v ys.length (ys.map (·.v)) ∧ ∀ y ∈ ys, OwnB w base y.v y.l
theorem OwnL.nil (w : World) (base : Nat) : OwnL w base (.slice none 0 0) [] := ⟨[], rfl, World.ownsRow_nil w base 46 1, fun y hy => by cases hy⟩
theorem OwnL.below {w w' : World} {base : Nat} {v : Value} {ls : List (List (BitVec 8))} (h : OwnL w base v ls) (hg : Below w.heap.size w w') : OwnL w' base v ls := by
  obtain ⟨ys, h1, h2, h3⟩ := h
  exact ⟨ys, h1, ownsRow_belowP h2 hg, fun y hy => (h3 y hy).below hg⟩
theorem OwnL.keep {t : TypeId} {w w' : World} {base : Nat} {v : Value} {ls : List (List (BitVec 8))} (h : OwnL w base v ls) (hg : KeepT t w w') (ht : 46 ≠ t) (ht' : 5 ≠ t) : OwnL w' base v ls := by
  obtain ⟨ys, h1, h2, h3⟩ := h
  exact ⟨ys, h1, hg.owns h2 ht, fun y hy => hg.owns (h3 y hy) ht'⟩
theorem OwnL.mono {w : World} {base base' : Nat} {v : Value} {ls : List (List (BitVec 8))} (h : OwnL w base v ls) (hb : base' ≤ base) : OwnL w base' v ls := by
  obtain ⟨ys, h1, ⟨h2, h2'⟩, h3⟩ := h
  refine ⟨ys, h1, ⟨h2, ?_⟩, fun y hy => (h3 y hy).mono hb⟩
  rcases h2' with h | ⟨g, cap, cur, k1, k2, k3⟩
  · exact .inl h
  · exact .inr ⟨g, cap, cur, k1, Nat.le_trans hb k2, k3⟩
theorem OwnL.shape {w : World} {base : Nat} {v : Value} {ls : List (List (BitVec 8))} (h : OwnL w base v ls) : ∃ oa cap, v = .slice oa ls.length cap ∧ ls.length ≤ cap := by
  obtain ⟨ys, rfl, ⟨_, h2⟩, _⟩ := h
  rcases h2 with ⟨h3, h4⟩ | ⟨g, cap, cur, h3, _, _, h4, _⟩
  · exact ⟨none, 0, by rw [List.length_map, h4]; exact h3, by rw [List.length_map]; omega⟩
  · exact ⟨_, cap, by rw [List.length_map]; exact h3, by rw [List.length_map]; exact h4⟩
/-- what is owned reads as lists -/
theorem OwnL.lists {w : World} {base : Nat} {v : Value} {ls : List (List (BitVec 8))} (h : OwnL w base v ls) : Lists w w.heap.size v ls := by
  obtain ⟨ys, rfl, ⟨h1, h2⟩, h3⟩ := h
  rcases h2 with ⟨rfl, h0⟩ | ⟨g, cap, cur, rfl, _, hg, hn, _, hc, hx⟩
  · exact .inl ⟨rfl, by rw [List.length_eq_zero_iff.1 h0]; rfl⟩
  · refine .inr (.inr ⟨g, 0, cap, by simp, by simpa using hn, fun i hi => ?_⟩)
    have hi' : i < ys.length := by simpa using hi
    refine ⟨(Array.getElem?_eq_some_iff.1 hg).1, ys[i].v, ?_, ?_⟩
    · rw [cell_of_row w g _ cur _ _ hg, Nat.zero_add, ← Array.getElem?_toList]
      have e := congrArg (fun l : List Value => l[i]?) hx
      simp only [List.getElem?_take, Nat.mul_one] at e
      rw [if_pos hi'] at e
      rw [e]
      simp [hi']
    · have e : (ys.map (·.l)).getD i [] = ys[i].l := by simp [hi']
      rw [e]
      exact (h3 _ (List.getElem_mem hi')).bytes
theorem info_bytesT : (Tryd.prog.info? 46).map (fun i => (i.zero, i.size, i.bytes)) = some (some (.slice none 0 0), 1, 24) := by kernel_rfl
theorem OwnB.one {w : World} {base : Nat} {v : Value} {l : List (BitVec 8)} (h : OwnB w base v l) : v.oneCell' = true := by
  obtain ⟨oa, cap, rfl, _⟩ := h.shape
  rfl
/-- Bools in a row that a call owns -/
def OwnT (w : World) (base : Nat) (v : Value) (bs : List Bool) : Prop := w.ownsRow base 4 1 v bs.length (bs.map Value.bool)
theorem OwnT.nil (w : World) (base : Nat) : OwnT w base (.slice none 0 0) [] := World.ownsRow_nil w base 4 1
theorem OwnT.below {w w' : World} {base : Nat} {v : Value} {bs : List Bool} (h : OwnT w base v bs) (hg : Below w.heap.size w w') : OwnT w' base v bs := ownsRow_belowP h hg
theorem OwnT.shape {w : World} {base : Nat} {v : Value} {bs : List Bool} (h : OwnT w base v bs) : ∃ oa cap, v = .slice oa bs.length cap ∧ bs.length ≤ cap := by
  obtain ⟨_, h2⟩ := h
  rcases h2 with ⟨h3, h4⟩ | ⟨g, cap, cur, h3, _, _, h4, _⟩
  · exact ⟨none, 0, by rw [h4]; exact h3, by omega⟩
  · exact ⟨_, cap, h3, h4⟩
theorem OwnT.get {w : World} {base : Nat} {oa : Option Addr} {n cap : Nat} {bs : List Bool} (h : OwnT w base (.slice oa n cap) bs) (hn : 0 < n) : ∃ g, oa = some ⟨g, 0, none⟩ ∧ base ≤ g ∧ g < w.heap.size ∧ ∀ (i : Nat) b, bs[i]? = some b → w.cell? ⟨g, i, none⟩ = some (.bool b) := by
  obtain ⟨h1, h2⟩ := h
  rcases h2 with ⟨h0, h0'⟩ | ⟨g, cap', cur, hv, hb, hg, hn', _, hc, hx⟩
  · simp at h0; omega
  · simp at hv
    refine ⟨g, hv.1, hb, (Array.getElem?_eq_some_iff.1 hg).1, fun i b hb => ?_⟩
    have hil : i < bs.length := (List.getElem?_eq_some_iff.1 hb).1
    rw [cell_of_row w g _ cur _ _ hg, ← Array.getElem?_toList]
    have e := congrArg (fun l : List Value => l[i]?) hx
    simp only [List.getElem?_take, Nat.mul_one] at e
    rw [if_pos hil] at e
    rw [e, List.getElem?_map, hb]
    rfl
theorem info_boolT : (Tryd.prog.info? 4).map (fun i => (i.zero, i.size, i.bytes)) = some (some (.bool false), 1, 1) := by kernel_rfl
end Go.Proofs.YtooemgkjkngpcaaDoor
namespace Go.Proofs.YtooemgkjkngpcaaDoor
open Go.RowKit

theorem grown_drewN {w w' : World} {r : Option Nat} (h : w.grownBy w' r) (n : Nat) : w.grownBy (w'.drewN n) r := ⟨h.os, h.tape, h.output, h.size, h.block⟩
/-- c is cs with its first i of n cells, and its last i, turned round -/
def Rv (cs c : List Value) (n i : Nat) : Prop := c.length = cs.length ∧ ∀ t, t < n → c[t]? = if t < i ∨ n < t + 1 + i then cs[n - 1 - t]? else cs[t]?
theorem Rv.start (cs : List Value) (n : Nat) : Rv cs cs n 0 := ⟨rfl, fun t ht => by rw [if_neg (by omega)]⟩
theorem Rv.step {cs c : List Value} {n i j : Nat} (h : Rv cs c n i) (hij : i + j + 1 = n) (hlt : i < j) (hn : n ≤ cs.length) {xi xj : Value} (hi : c[i]? = some xi) (hj : c[j]? = some xj) : Rv cs ((c.set i xj).set j xi) n (i + 1) := by
  obtain ⟨h1, h2⟩ := h
  have ei := h2 i (by omega)
  have ej := h2 j (by omega)
  rw [if_neg (by omega), hi] at ei
  rw [if_neg (by omega), hj] at ej
  refine ⟨by simp [h1], fun t ht => ?_⟩
  rw [List.getElem?_set, List.getElem?_set]
  by_cases e1 : j = t
  · subst e1
    rw [if_pos rfl, if_pos (by simp; omega), if_pos (by omega), show n - 1 - j = i by omega]
    exact ei
  · rw [if_neg e1]
    by_cases e2 : i = t
    · subst e2
      rw [if_pos rfl, if_pos (by omega), if_pos (by omega), show n - 1 - i = j by omega]
      exact ej
    · rw [if_neg e2, h2 t ht]
      by_cases e3 : t < i ∨ n < t + 1 + i
      · rw [if_pos e3, if_pos (by omega)]
      · rw [if_neg e3, if_neg (by omega)]
theorem Rv.at {cs c : List Value} {n i t : Nat} (h : Rv cs c n i) (h1 : i ≤ t) (h2 : t + i < n) : c[t]? = cs[t]? := by
  rw [h.2 t (by omega), if_neg (by omega)]
theorem Rv.stop {cs c : List Value} {n i : Nat} (h : Rv cs c n i) (hi : n ≤ i + i + 1) (hn : n ≤ cs.length) : c.take n = (cs.take n).reverse := by
  obtain ⟨h1, h2⟩ := h
  refine List.ext_getElem? fun t => ?_
  by_cases ht : t < n
  · have e0 : (cs.take n).reverse[t]? = cs[n - 1 - t]? := by
      rw [List.getElem?_reverse (by simp; omega), List.length_take, Nat.min_eq_left hn, List.getElem?_take, if_pos (by omega)]
    rw [List.getElem?_take, if_pos ht, h2 t ht, e0]
    by_cases e : t < i ∨ n < t + 1 + i
    · rw [if_pos e]
    · rw [if_neg e, show n - 1 - t = t by omega]
  · rw [List.getElem?_eq_none (by simp; omega), List.getElem?_eq_none (by simp; omega)]
end Go.Proofs.YtooemgkjkngpcaaDoor
namespace Go.Proofs.YtooemgkjkngpcaaDoor
open Go.RowKit

theorem take_of_app {c cur : List Value} {n : Nat} {xs : List Value} (h : c.take n = (cur.take n).reverse) (hx : cur.take n = xs) : c.take n = xs.reverse := by rw [h, hx]
end Go.Proofs.YtooemgkjkngpcaaDoor
