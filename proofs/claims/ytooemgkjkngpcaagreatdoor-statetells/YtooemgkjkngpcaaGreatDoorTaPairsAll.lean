/-
  Pairs behind a slice value: two cells each. Pairs in a row that a call owns. Slices of rows of pairs, and appends of them onto what a call owns.
  Doings behind a slice value: three cells each. No function of the program is named here.
  What the document's Less, Half and Four answer. What the document's Wrong answers: what is wrong with pairs, and where.
  Rows of turns that a call owns; what the document's Way answers: the turns from the root to a place.
  Rows of lists of bytes, and of Bools, that a call owns: appended to one by one. No function of the program is named here. What slices.Reverse answers: a row that the call owns, turned round in its place; and whether a list has another length than a digest's (slices.ContainsFunc, slices.IndexFunc). What slices.Reverse makes of lists and Bools that a call owns; what slices.ContainsFunc answers: whether a list has another length than a digest's; what bytes.Equal answers.
-/
import Derived.Test.YtooemgkjkngpcaaGreatDoorTaBookMath
import Derived.Test.YtooemgkjkngpcaaGreatDoorTaMemB
import Derived.Test.YtooemgkjkngpcaaGreatDoorTaWireBoth
import Derived.Laws.OwnMore
import Derived.Deep.AppendLies
import Derived.Deep.QuietTactic
import Derived.BigQuiet
import Derived.Deep.RegionWith
namespace Go.Proofs.YtooemgkjkngpcaaGreatDoor
open Go.RowKit

/-- sv is a slice that reads as l, nil, empty or neither; its cells, and its pairs' bytes, lie below block number N -/
def Pairs (w : World) (N : Nat) (sv : Value) (l : List Pr) : Prop :=
  (sv = .slice none 0 0 ∧ l = []) ∨ (∃ a cap, sv = .slice (some a) 0 cap ∧ l = []) ∨
  ∃ b off cap, sv = .slice (some ⟨b, off, none⟩) l.length cap ∧ l.length ≤ cap ∧ ∀ i p, l[i]? = some p → b < N ∧ ∃ vk vv,
    w.cell? ⟨b, off + i * 2, none⟩ = some vk ∧ w.cell? ⟨b, off + i * 2 + 1, none⟩ = some vv ∧ Bytes w N vk p.key ∧ Bytes w N vv p.val
theorem Pairs.shape {w : World} {N : Nat} {sv : Value} {l : List Pr} (h : Pairs w N sv l) : ∃ oa cap, sv = .slice oa l.length cap ∧ l.length ≤ cap := by
  rcases h with ⟨rfl, rfl⟩ | ⟨a, cap, rfl, rfl⟩ | ⟨b, off, cap, rfl, hc, _⟩
  · exact ⟨none, 0, rfl, Nat.le_refl _⟩
  · exact ⟨_, cap, rfl, Nat.zero_le _⟩
  · exact ⟨_, cap, rfl, hc⟩
theorem Pairs.some {w : World} {N : Nat} {oa : Option Addr} {n cap : Nat} {l : List Pr} (h : Pairs w N (.slice oa n cap) l) (hl : 0 < n) :
    ∃ b off, oa = some ⟨b, off, none⟩ ∧ ∀ i p, l[i]? = some p → b < N ∧ ∃ vk vv,
    w.cell? ⟨b, off + i * 2, none⟩ = some vk ∧ w.cell? ⟨b, off + i * 2 + 1, none⟩ = some vv ∧ Bytes w N vk p.key ∧ Bytes w N vv p.val := by
  rcases h with ⟨h1, _⟩ | ⟨_, _, h1, _⟩ | ⟨b, off, c, h1, _, h3⟩
  · simp at h1; omega
  · simp at h1; omega
  · simp at h1
    exact ⟨b, off, h1.1, h3⟩
theorem Pairs.below {w w' : World} {N : Nat} {sv : Value} {l : List Pr} (h : Pairs w N sv l) (hg : Below N w w') : Pairs w' N sv l := by
  rcases h with h | h | ⟨b, off, cap, h1, h2, h3⟩
  · exact .inl h
  · exact .inr (.inl h)
  · refine .inr (.inr ⟨b, off, cap, h1, h2, fun i p hp => ?_⟩)
    obtain ⟨hb, vk, vv, d0, d1, d2, d3⟩ := h3 i p hp
    exact ⟨hb, vk, vv, (hg.cell hb).trans d0, (hg.cell hb).trans d1, d2.below hg, d3.below hg⟩
theorem Pairs.mono {w : World} {N M : Nat} {sv : Value} {l : List Pr} (h : Pairs w N sv l) (hN : N ≤ M) : Pairs w M sv l := by
  rcases h with h | h | ⟨b, off, cap, h1, h2, h3⟩
  · exact .inl h
  · exact .inr (.inl h)
  · refine .inr (.inr ⟨b, off, cap, h1, h2, fun i p hp => ?_⟩)
    obtain ⟨hb, vk, vv, d0, d1, d2, d3⟩ := h3 i p hp
    exact ⟨Nat.lt_of_lt_of_le hb hN, vk, vv, d0, d1, d2.mono hN, d3.mono hN⟩
/-- what bounds a pair's parts: bytes as many as the reach lets -/
def Pr.fits (p : Pr) : Prop := p.key.length ≤ 140737488351232 ∧ p.val.length ≤ 140737488351232

theorem info_pair : (Tryz.prog.info? 103).map (fun i => (i.zero, i.size, i.bytes)) = some (some (.agg #[.slice none 0 0, .slice none 0 0]), 2, 48) := by kernel_rfl
/-- a pair, and the two slices that hold it -/
structure PrV where
  p : Pr
  k : Value
  v : Value
def prCells (q : PrV) : List Value := [q.k, q.v]
/-- the slices read as the pair, in blocks below N -/
def PrV.ok (w : World) (N : Nat) (q : PrV) : Prop := Bytes w N q.k q.p.key ∧ Bytes w N q.v q.p.val
theorem PrV.ok.below {w w' : World} {N : Nat} {q : PrV} (h : q.ok w N) (hg : Below N w w') : q.ok w' N := ⟨h.1.below hg, h.2.below hg⟩
theorem PrV.ok.mono {w : World} {N M : Nat} {q : PrV} (h : q.ok w N) (hN : N ≤ M) : q.ok w M := ⟨h.1.mono hN, h.2.mono hN⟩
/-- pairs in a row that a call owns -/
def RowPr (w : World) (base : Nat) (v : Value) (ps : List PrV) : Prop := w.ownsRow base 103 2 v ps.length (ps.flatMap prCells)
theorem RowPr.nil (w : World) (base : Nat) : RowPr w base (.slice none 0 0) [] := World.ownsRow_nil w base 103 2
theorem RowPr.shape {w : World} {base : Nat} {v : Value} {ps : List PrV} (h : RowPr w base v ps) : ∃ oa cap, v = .slice oa ps.length cap ∧ ps.length ≤ cap := by
  obtain ⟨_, h2⟩ := h
  rcases h2 with ⟨h3, h4⟩ | ⟨g, cap, cur, h3, _, _, h4, _⟩
  · exact ⟨none, 0, by rw [h4]; exact h3, by omega⟩
  · exact ⟨_, cap, h3, h4⟩
theorem ownsRow_belowP {w w' : World} {base e size n : Nat} {v : Value} {xs : List Value} (h : w.ownsRow base e size v n xs) (hg : Below w.heap.size w w') : w'.ownsRow base e size v n xs := by
  obtain ⟨h1, h2⟩ := h
  refine ⟨h1, ?_⟩
  rcases h2 with h2 | ⟨g, cap, cur, h3, h4, h5, h6⟩
  · exact .inl h2
  · exact .inr ⟨g, cap, cur, h3, h4, (hg.block g (Array.getElem?_eq_some_iff.1 h5).1).trans h5, h6⟩
theorem RowPr.below {w w' : World} {base : Nat} {v : Value} {ps : List PrV} (h : RowPr w base v ps) (hg : Below w.heap.size w w') : RowPr w' base v ps := ownsRow_belowP h hg
theorem RowPr.mono {w : World} {base base' : Nat} {v : Value} {ps : List PrV} (h : RowPr w base v ps) (hb : base' ≤ base) : RowPr w base' v ps := by
  obtain ⟨h1, h2⟩ := h
  refine ⟨h1, ?_⟩
  rcases h2 with h2 | ⟨g, cap, cur, h3, h4, h5⟩
  · exact .inl h2
  · exact .inr ⟨g, cap, cur, h3, Nat.le_trans hb h4, h5⟩
theorem flatPr_get (ps : List PrV) : ∀ (i j : Nat) (q : PrV), ps[i]? = some q → j < 2 → (ps.flatMap prCells)[i * 2 + j]? = (prCells q)[j]? := by
  induction ps with
  | nil => intro i j q h; simp at h
  | cons a ps ih =>
    intro i j q h hj
    rw [List.flatMap_cons]
    have ha : (prCells a).length = 2 := rfl
    cases i with
    | zero =>
      obtain rfl : a = q := by simpa using h
      rw [Nat.zero_mul, Nat.zero_add, List.getElem?_append_left (by omega)]
    | succ i =>
      rw [List.getElem?_append_right (by omega), ha, show (i + 1) * 2 + j - 2 = i * 2 + j by omega]
      exact ih i j q (by simpa using h) hj
theorem flatPr_len (ps : List PrV) : (ps.flatMap prCells).length = ps.length * 2 := by
  induction ps with
  | nil => rfl
  | cons a r ih => rw [List.flatMap_cons, List.length_append, ih]; simp [prCells]; omega
/-- what is owned reads as pairs -/
theorem RowPr.pairs {w : World} {base N : Nat} {v : Value} {ps : List PrV} (h : RowPr w base v ps) (hN : N ≤ w.heap.size) (hb : ∀ q ∈ ps, q.ok w N) : Pairs w w.heap.size v (ps.map (·.p)) := by
  obtain ⟨h1, h2⟩ := h
  rcases h2 with ⟨rfl, h0⟩ | ⟨g, cap, cur, rfl, _, hg, hn, _, hc, hx⟩
  · exact .inl ⟨rfl, by rw [List.length_eq_zero_iff.1 h0]; rfl⟩
  · refine .inr (.inr ⟨g, 0, cap, by simp, by simpa using hn, fun i p hp => ?_⟩)
    obtain ⟨q, hq, rfl⟩ : ∃ q, ps[i]? = some q ∧ q.p = p := by simpa using hp
    refine ⟨(Array.getElem?_eq_some_iff.1 hg).1, q.k, q.v, ?_⟩
    have hil : i < ps.length := (List.getElem?_eq_some_iff.1 hq).1
    have cell : ∀ j, j < 2 → w.cell? ⟨g, 0 + i * 2 + j, none⟩ = (prCells q)[j]? := fun j hj => by
      rw [cell_of_row w g _ cur _ _ hg, ← flatPr_get ps i j q hq hj, ← hx, List.getElem?_take, if_pos (by omega), Nat.zero_add, Array.getElem?_toList]
    have hok := (hb q (List.mem_of_getElem? hq)).mono hN
    exact ⟨cell 0 (by omega), cell 1 (by omega), hok.1, hok.2⟩
/-- a pair's two cells, in a row that is owned -/
theorem RowPr.get {w : World} {base : Nat} {oa : Option Addr} {n cap : Nat} {ps : List PrV} (h : RowPr w base (.slice oa n cap) ps) (hn : 0 < n) : ∃ g, oa = some ⟨g, 0, none⟩ ∧ base ≤ g ∧ g < w.heap.size ∧ ∀ i q, ps[i]? = some q → w.cell? ⟨g, i * 2, none⟩ = some q.k ∧ w.cell? ⟨g, i * 2 + 1, none⟩ = some q.v := by
  obtain ⟨h1, h2⟩ := h
  rcases h2 with ⟨h0, h0'⟩ | ⟨g, cap', cur, hv, hb, hg, hn', _, hc, hx⟩
  · simp at h0; omega
  · simp at hv
    refine ⟨g, hv.1, hb, (Array.getElem?_eq_some_iff.1 hg).1, fun i q hq => ?_⟩
    have hil : i < ps.length := (List.getElem?_eq_some_iff.1 hq).1
    have cell : ∀ j, j < 2 → w.cell? ⟨g, i * 2 + j, none⟩ = (prCells q)[j]? := fun j hj => by
      rw [cell_of_row w g _ cur _ _ hg, ← flatPr_get ps i j q hq hj, ← hx, List.getElem?_take, if_pos (by omega), Array.getElem?_toList]
    exact ⟨cell 0 (by omega), cell 1 (by omega)⟩
/-- sv is a slice whose cells are those of ps, nil, empty or neither, in a block below M -/
def SrcPr (w : World) (M : Nat) (sv : Value) (ps : List PrV) : Prop :=
  (sv = .slice none 0 0 ∧ ps = []) ∨ (∃ a cap, sv = .slice (some a) 0 cap ∧ ps = []) ∨
  ∃ b off cap, sv = .slice (some ⟨b, off, none⟩) ps.length cap ∧ ps.length ≤ cap ∧ ∀ i q, ps[i]? = some q → b < M ∧ w.cell? ⟨b, off + i * 2, none⟩ = some q.k ∧ w.cell? ⟨b, off + i * 2 + 1, none⟩ = some q.v
theorem SrcPr.shape {w : World} {M : Nat} {sv : Value} {ps : List PrV} (h : SrcPr w M sv ps) : ∃ oa cap, sv = .slice oa ps.length cap ∧ ps.length ≤ cap := by
  rcases h with ⟨rfl, rfl⟩ | ⟨a, cap, rfl, rfl⟩ | ⟨b, off, cap, rfl, hc, _⟩
  · exact ⟨none, 0, rfl, Nat.le_refl _⟩
  · exact ⟨_, cap, rfl, Nat.zero_le _⟩
  · exact ⟨_, cap, rfl, hc⟩
theorem SrcPr.some {w : World} {M : Nat} {oa : Option Addr} {n cap : Nat} {ps : List PrV} (h : SrcPr w M (.slice oa n cap) ps) (hn : 0 < n) :
    ∃ b off, oa = some ⟨b, off, none⟩ ∧ ∀ i q, ps[i]? = some q → b < M ∧ w.cell? ⟨b, off + i * 2, none⟩ = some q.k ∧ w.cell? ⟨b, off + i * 2 + 1, none⟩ = some q.v := by
  rcases h with ⟨h1, _⟩ | ⟨_, _, h1, _⟩ | ⟨b, off, c, h1, _, h3⟩
  · simp at h1; omega
  · simp at h1; omega
  · simp at h1
    exact ⟨b, off, h1.1, h3⟩
theorem SrcPr.below {w w' : World} {M : Nat} {sv : Value} {ps : List PrV} (h : SrcPr w M sv ps) (hg : Below M w w') : SrcPr w' M sv ps := by
  rcases h with h | h | ⟨b, off, cap, h1, h2, h3⟩
  · exact .inl h
  · exact .inr (.inl h)
  · refine .inr (.inr ⟨b, off, cap, h1, h2, fun i q hq => ?_⟩)
    obtain ⟨hb, d0, d1⟩ := h3 i q hq
    exact ⟨hb, (hg.cell hb).trans d0, (hg.cell hb).trans d1⟩
theorem RowPr.src {w : World} {base : Nat} {v : Value} {ps : List PrV} (h : RowPr w base v ps) : SrcPr w w.heap.size v ps := by
  obtain ⟨oa, cap, rfl, hc⟩ := h.shape
  by_cases h0 : ps.length = 0
  · have hp := List.length_eq_zero_iff.1 h0
    subst hp
    obtain ⟨_, h2⟩ := h
    rcases h2 with ⟨h3, _⟩ | ⟨g, cap', cur, h3, _⟩
    · exact .inl ⟨h3, rfl⟩
    · exact .inr (.inl ⟨_, cap', h3, rfl⟩)
  · obtain ⟨g, rfl, _, hg, hc2⟩ := h.get (by omega)
    refine .inr (.inr ⟨g, 0, cap, rfl, hc, fun i q hq => ⟨hg, ?_⟩⟩)
    rw [Nat.zero_add]
    exact hc2 i q hq
/-- pairs without a key -/
def dropV (k : List (BitVec 8)) (ps : List PrV) : List PrV := ps.filter (fun q => decide (q.p.key ≠ k))
theorem dropV_map (k : List (BitVec 8)) (ps : List PrV) : (dropV k ps).map (·.p) = dropK k (ps.map (·.p)) := by
  unfold dropV dropK
  rw [List.filter_map]
  rfl
theorem dropV_take (k : List (BitVec 8)) (l : List PrV) (j : Nat) (q : PrV) (h : l[j]? = some q) : dropV k (l.take (j + 1)) = if q.p.key = k then dropV k (l.take j) else dropV k (l.take j) ++ [q] := by
  obtain ⟨hj, he⟩ := List.getElem?_eq_some_iff.1 h
  unfold dropV
  rw [List.take_succ_eq_append_getElem hj, List.filter_append, he]
  by_cases e : q.p.key = k
  · simp [e]
  · simp [e]
theorem mem_dropV {k : List (BitVec 8)} {ps : List PrV} {q : PrV} (h : q ∈ dropV k ps) : q ∈ ps := (List.mem_filter.1 h).1
end Go.Proofs.YtooemgkjkngpcaaGreatDoor
namespace Go.Proofs.YtooemgkjkngpcaaGreatDoor
open Go.RowKit

theorem elemPr : Tryz.prog.underlying 31 = some (.slice (Tryz.prog.elem 31)) := by kernel_rfl
theorem sizePr (w : World) : (sizeOf (Tryz.prog.elem 31)).run Tryz.prog w = .ok 2 w := by kernel_rfl
theorem src_between {w : World} {M : Nat} {oa : Option Addr} {n ca : Nat} {ps : List PrV} (h : SrcPr w M (.slice oa n ca) ps) (i j : Nat) (hij : i ≤ j) (hj : j ≤ n) : SrcPr w M (sliced oa i j ca 2) ((ps.drop i).take (j - i)) := by
  obtain ⟨oa', ca', he, hc⟩ := h.shape
  obtain ⟨rfl, hn, rfl⟩ : oa = oa' ∧ n = ps.length ∧ ca = ca' := by simpa using he
  subst hn
  by_cases h0 : i = j
  · subst h0
    have e : (ps.drop i).take (i - i) = [] := by simp
    rw [e]
    cases oa with
    | none =>
      rcases h with ⟨h1, h2⟩ | ⟨a, cap, h1, _⟩ | ⟨b, off, cap, h1, _, _⟩
      · obtain ⟨h3, rfl⟩ : ps.length = 0 ∧ ca = 0 := by simpa using h1
        left
        have : i = 0 := by omega
        subst this
        simp [sliced]
      · simp at h1
      · simp at h1
    | some a =>
      right; left
      refine ⟨if ca = i then a else a.add (i * 2), ca - i, ?_, rfl⟩
      simp only [sliced, Nat.sub_self]
      split <;> simp
  · obtain ⟨b, o, rfl, c1⟩ := h.some (by omega)
    have hne : ¬ ca = i := by omega
    right; right
    refine ⟨b, o + i * 2, ca - i, ?_, ?_, ?_⟩
    · have hl : ((ps.drop i).take (j - i)).length = j - i := by simp; omega
      rw [hl]
      simp [sliced, hne, Addr.add]
    · simp; omega
    · intro x q hq
      have hxl : x < j - i := by have := (List.getElem?_eq_some_iff.1 hq).1; simp at this; omega
      have hq' : ps[i + x]? = some q := by
        rw [List.getElem?_take, if_pos hxl, List.getElem?_drop] at hq
        exact hq
      obtain ⟨h1, h2, h3⟩ := c1 (i + x) q hq'
      refine ⟨h1, ?_, ?_⟩
      · rw [show o + i * 2 + x * 2 = o + (i + x) * 2 by omega]; exact h2
      · rw [show o + i * 2 + x * 2 + 1 = o + (i + x) * 2 + 1 by omega]; exact h3
theorem src_from {w : World} {M : Nat} {oa : Option Addr} {n ca : Nat} {ps : List PrV} (h : SrcPr w M (.slice oa n ca) ps) (kd : IntKind) (i : Nat) (hi : i ≤ n) :
    ∃ v, (∀ w', (Instr.sliceAt 31 (.slice oa n ca) (some (.int kd (i : Int))) none none).run Tryz.prog w' = .ok v w') ∧ SrcPr w M v (ps.drop i) := by
  have hn : n = ps.length := by obtain ⟨oa', ca', he, _⟩ := h.shape; simp at he; exact he.2.1
  refine ⟨sliced oa i n ca 2, fun w' => ?_, ?_⟩
  · rw [run_sliceAt_slice w' _ _ _ _ _ elemPr, run_slice_l w' _ _ _ _ elemPr kd (i : Int) (by omega) (by omega), sizePr]
    rfl
  · have := src_between h i n hi (Nat.le_refl _)
    rwa [List.take_of_length_le (by simp; omega)] at this
theorem src_to {w : World} {M : Nat} {oa : Option Addr} {n ca : Nat} {ps : List PrV} (h : SrcPr w M (.slice oa n ca) ps) (kd : IntKind) (j : Nat) (hj : j ≤ n) :
    ∃ v, (∀ w', (Instr.sliceAt 31 (.slice oa n ca) none (some (.int kd (j : Int))) none).run Tryz.prog w' = .ok v w') ∧ SrcPr w M v (ps.take j) := by
  have hc : n ≤ ca := by obtain ⟨oa', ca', he, hc⟩ := h.shape; simp at he; omega
  refine ⟨sliced oa 0 j ca 2, fun w' => ?_, ?_⟩
  · rw [run_sliceAt_slice w' _ _ _ _ _ elemPr, run_slice_h w' _ _ _ _ elemPr kd (j : Int) (by omega) (by omega), sizePr]
    rfl
  · have := src_between h 0 j (Nat.zero_le _) hj
    simpa using this
/-- one pair in a new block is a source -/
theorem src_one {W : World} {g : Nat} {q : PrV} (h0 : W.cell? ⟨g, 0, none⟩ = some q.k) (h1 : W.cell? ⟨g, 1, none⟩ = some q.v) : SrcPr W (g + 1) (.slice (some ⟨g, 0, none⟩) 1 1) [q] := by
  refine .inr (.inr ⟨g, 0, 1, rfl, Nat.le_refl _, fun i q' hq => ?_⟩)
  have hi : i = 0 := by have := (List.getElem?_eq_some_iff.1 hq).1; simp at this; exact this
  subst hi
  obtain rfl : q = q' := by simpa using hq
  exact ⟨by omega, h0, h1⟩
/-- no pairs at all, in a new block, are owned -/
theorem row_none {W : World} {base g : Nat} (hg : W.heap[g]? = some (.cells #[] 103 (0, 0))) (hb : base ≤ g) : RowPr W base (.slice (some ⟨g, 0, none⟩) 0 0) [] :=
  ⟨rfl, .inr ⟨g, 0, #[], rfl, hb, hg, Nat.le_refl _, by simp [maxLen], rfl, rfl⟩⟩
theorem wp_append_prs {o : Oper} {a : Act} {W : World} {K : Act → World → Prop} {Q : Exit → Act → World → Prop} (s x : Operand)
    (ho : o.op = .call { callee := .builtin .append, args := #[s, x], argTypes := #[31, 31] })
    (base : Nat) (v : Value) (ps : List PrV) (hs : a.eval s = v) (hown : RowPr W base v ps) (sv : Value) (qs : List PrV) {M : Nat} (hx : a.eval x = sv) (hsrc : SrcPr W M sv qs)
    (hone : ∀ q ∈ qs, q.k.oneCell' = true ∧ q.v.oneCell' = true) (hl : ps.length + qs.length ≤ 1000000) (hbase : base ≤ W.heap.size)
    (h : ∀ v' w', RowPr w' base v' (ps ++ qs) → Below base W w' → W.grownBy w' v.ownBlock → K (a.put o.dst v') w') : o.wp Tryz.prog a W K Q := by
  obtain ⟨i0, hi0, hz0, hz1, hz2⟩ := info_parts info_pair
  have some_case : ∀ (ad : Addr) (cap : Nat), sv = .slice (some ad) qs.length cap → (∀ j u, (qs.flatMap prCells)[j]? = some u → W.cell? (ad.add j) = some u) → o.wp Tryz.prog a W K Q := by
    rintro ad cap rfl hcs
    refine wp_append_own W s x 31 ho base 103 i0 _ 2 48 Tryz.underlying31 hi0 hz0 hz1 hz2 rfl (by decide) v ps.length (ps.flatMap prCells) hs hown ad qs.length cap (qs.flatMap prCells) hx (flatPr_len qs) hcs ?_ (by unfold maxLen; omega) (by omega) hbase ?_
    · intro u hu
      obtain ⟨q, hq, hu⟩ := List.mem_flatMap.1 hu
      simp [prCells] at hu
      rcases hu with rfl | rfl
      · exact (hone q hq).1
      · exact (hone q hq).2
    · intro v' w' h1 h2 _
      refine h v' w' ?_ ((Below.refl base W).grown h2 hbase (fun k hk => (World.ownsRow.lt hown k hk).1)) h2
      unfold RowPr
      rw [List.length_append, List.flatMap_append]
      exact h1
  rcases hsrc with ⟨rfl, rfl⟩ | ⟨ad, cap, rfl, rfl⟩ | ⟨b, off, cap, rfl, hc, hcell⟩
  · have hrun := run_append_owned_none (P := Tryz.prog) (w := W) base 31 o.type 103 i0 2 Tryz.underlying31 hi0 v ps.length (ps.flatMap prCells) hown
    unfold Oper.wp
    simp [execOp, ho, resolve, invoke, builtin, hs, hx, hrun, Result.andThen]
    exact h v W (by simpa using hown) (Below.refl _ _) (grown_refl _ _)
  · exact some_case ad cap rfl (fun j u hu => by simp at hu)
  · refine some_case _ cap rfl (fun j u hu => ?_)
    have hadd : (⟨b, off, none⟩ : Addr).add j = ⟨b, off + j, none⟩ := by unfold Addr.add; split <;> simp_all
    have hjl : j < qs.length * 2 := by have := (List.getElem?_eq_some_iff.1 hu).1; rw [flatPr_len] at this; exact this
    obtain ⟨q, hq⟩ : ∃ q, qs[j / 2]? = some q := ⟨qs[j / 2]'(by omega), List.getElem?_eq_getElem _⟩
    have hg := flatPr_get qs (j / 2) (j % 2) q hq (by omega)
    rw [show j / 2 * 2 + j % 2 = j by omega, hu] at hg
    obtain ⟨_, d0, d1⟩ := hcell (j / 2) q hq
    rw [hadd]
    rcases Nat.mod_two_eq_zero_or_one j with e | e
    · rw [e] at hg
      rw [show off + j = off + j / 2 * 2 by omega, d0]
      simpa [prCells] using hg.symm
    · rw [e] at hg
      rw [show off + j = off + j / 2 * 2 + 1 by omega, d1]
      simpa [prCells] using hg.symm
theorem step_append_prs {ops : Array Oper} {o : Oper} {a : Act} {W : World} {K : Act → World → Prop} {Q : Exit → Act → World → Prop} {E : Prop} (hgd : o.guard = none) (s x : Operand)
    (ho : o.op = .call { callee := .builtin .append, args := #[s, x], argTypes := #[31, 31] })
    (base : Nat) (v : Value) (ps : List PrV) (hs : a.eval s = v) (hown : RowPr W base v ps) (sv : Value) (qs : List PrV) {M : Nat} (hx : a.eval x = sv) (hsrc : SrcPr W M sv qs)
    (hone : ∀ q ∈ qs, q.k.oneCell' = true ∧ q.v.oneCell' = true) (hl : ps.length + qs.length ≤ 1000000) (hbase : base ≤ W.heap.size)
    (h : ∀ v' w', RowPr w' base v' (ps ++ qs) → Below base W w' → W.grownBy w' v.ownBlock → K (a.put o.dst v') w') : if Region.wanted o (yielded ops a.tmps) = true then Oper.wp Tryz.prog o a W K Q else E := by
  have hw : Region.wanted o (yielded ops a.tmps) = true := by simp [Region.wanted, hgd]
  rw [if_pos hw]
  exact wp_append_prs s x ho base v ps hs hown sv qs hx hsrc hone hl hbase h
theorem PrV.ok.one {w : World} {N : Nat} {q : PrV} (h : q.ok w N) : q.k.oneCell' = true ∧ q.v.oneCell' = true := by
  obtain ⟨o1, c1, e1, _⟩ := h.1.shape
  obtain ⟨o2, c2, e2, _⟩ := h.2.shape
  rw [e1, e2]
  simp [Value.oneCell']
end Go.Proofs.YtooemgkjkngpcaaGreatDoor
namespace Go.Proofs.YtooemgkjkngpcaaGreatDoor
open Go.RowKit

/-- sv is a slice that reads as l, nil, empty or neither; its cells, and its doings' bytes, lie below block number N -/
def Doings (w : World) (N : Nat) (sv : Value) (l : List Dg) : Prop :=
  (sv = .slice none 0 0 ∧ l = []) ∨ (∃ a cap, sv = .slice (some a) 0 cap ∧ l = []) ∨
  ∃ b off cap, sv = .slice (some ⟨b, off, none⟩) l.length cap ∧ l.length ≤ cap ∧ ∀ i d, l[i]? = some d → b < N ∧ ∃ vk vv,
    w.cell? ⟨b, off + i * 3, none⟩ = some vk ∧ w.cell? ⟨b, off + i * 3 + 1, none⟩ = some vv ∧ w.cell? ⟨b, off + i * 3 + 2, none⟩ = some (.bool d.gone) ∧ Bytes w N vk d.key ∧ Bytes w N vv d.val
theorem Doings.shape {w : World} {N : Nat} {sv : Value} {l : List Dg} (h : Doings w N sv l) : ∃ oa cap, sv = .slice oa l.length cap ∧ l.length ≤ cap := by
  rcases h with ⟨rfl, rfl⟩ | ⟨a, cap, rfl, rfl⟩ | ⟨b, off, cap, rfl, hc, _⟩
  · exact ⟨none, 0, rfl, Nat.le_refl _⟩
  · exact ⟨_, cap, rfl, Nat.zero_le _⟩
  · exact ⟨_, cap, rfl, hc⟩
theorem Doings.some {w : World} {N : Nat} {oa : Option Addr} {n cap : Nat} {l : List Dg} (h : Doings w N (.slice oa n cap) l) (hl : 0 < n) :
    ∃ b off, oa = some ⟨b, off, none⟩ ∧ ∀ i d, l[i]? = some d → b < N ∧ ∃ vk vv,
    w.cell? ⟨b, off + i * 3, none⟩ = some vk ∧ w.cell? ⟨b, off + i * 3 + 1, none⟩ = some vv ∧ w.cell? ⟨b, off + i * 3 + 2, none⟩ = some (.bool d.gone) ∧ Bytes w N vk d.key ∧ Bytes w N vv d.val := by
  rcases h with ⟨h1, _⟩ | ⟨_, _, h1, _⟩ | ⟨b, off, c, h1, _, h3⟩
  · simp at h1; omega
  · simp at h1; omega
  · simp at h1
    exact ⟨b, off, h1.1, h3⟩
theorem Doings.below {w w' : World} {N : Nat} {sv : Value} {l : List Dg} (h : Doings w N sv l) (hg : Below N w w') : Doings w' N sv l := by
  rcases h with h | h | ⟨b, off, cap, h1, h2, h3⟩
  · exact .inl h
  · exact .inr (.inl h)
  · refine .inr (.inr ⟨b, off, cap, h1, h2, fun i d hd => ?_⟩)
    obtain ⟨hb, vk, vv, d0, d1, d2, d3, d4⟩ := h3 i d hd
    exact ⟨hb, vk, vv, (hg.cell hb).trans d0, (hg.cell hb).trans d1, (hg.cell hb).trans d2, d3.below hg, d4.below hg⟩
theorem Doings.mono {w : World} {N M : Nat} {sv : Value} {l : List Dg} (h : Doings w N sv l) (hN : N ≤ M) : Doings w M sv l := by
  rcases h with h | h | ⟨b, off, cap, h1, h2, h3⟩
  · exact .inl h
  · exact .inr (.inl h)
  · refine .inr (.inr ⟨b, off, cap, h1, h2, fun i d hd => ?_⟩)
    obtain ⟨hb, vk, vv, d0, d1, d2, d3, d4⟩ := h3 i d hd
    exact ⟨Nat.lt_of_lt_of_le hb hN, vk, vv, d0, d1, d2, d3.mono hN, d4.mono hN⟩
theorem play_step (k : Nat) (out : List Pr) (l : List Dg) (d : Dg) (h : l[k]? = some d) : playGo k out (l.drop k) =
    if 60 < d.key.length ∨ 200 < d.val.length then .error (4, k) else if d.gone = false ∧ 200 < (doOne d out).length then .error (5, k) else playGo (k + 1) (doOne d out) (l.drop (k + 1)) := by
  obtain ⟨hk, he⟩ := List.getElem?_eq_some_iff.1 h
  rw [List.drop_eq_getElem_cons hk, he, playGo_cons]
theorem RowPr.keep {w w' : World} {base : Nat} {v : Value} {ps : List PrV} (h : RowPr w base v ps) (hk : ∀ g, base ≤ g → w'.heap[g]? = w.heap[g]?) : RowPr w' base v ps := by
  obtain ⟨h1, h2⟩ := h
  refine ⟨h1, ?_⟩
  rcases h2 with h2 | ⟨g, cap, cur, h3, h4, h5, h6⟩
  · exact .inl h2
  · exact .inr ⟨g, cap, cur, h3, h4, (hk g h4).trans h5, h6⟩
def Dg.fits (d : Dg) : Prop := d.key.length ≤ 140737488351232 ∧ d.val.length ≤ 140737488351232
end Go.Proofs.YtooemgkjkngpcaaGreatDoor
namespace Go.Proofs.YtooemgkjkngpcaaGreatDoor
open Go.RowKit

theorem lessB_nil_left (b : List (BitVec 8)) : lessB [] b = decide (0 < b.length) := by cases b <;> simp [lessB]
theorem lessB_nil_right (a : List (BitVec 8)) : lessB a [] = false := by cases a <;> rfl
theorem drop_getD (l : List (BitVec 8)) (k : Nat) (h : k < l.length) : l.drop k = l.getD k 0 :: l.drop (k + 1) := by
  rw [List.drop_eq_getElem_cons h]; simp [h]
set_option maxRecDepth 100000 in
set_option maxHeartbeats 1000000 in
theorem refLess_any (l m : List (BitVec 8)) (sa sb : Value) (Na Nb : Nat) (w : World) (ha : Bytes w Na sa l) (hb : Bytes w Nb sb m) (hlen : l.length < 2305843009213693952) (hlem : m.length < 2305843009213693952) :
    Calls Tryz.prog 90 #[sa, sb] w fun e w' => e = .returned (.bool (lessB l m)) ∧ ∃ n, w' = w.drewN n := by
  obtain ⟨oa, ca, rfl, hca⟩ := ha.shape
  obtain ⟨ob, cb, rfl, hcb⟩ := hb.shape
  have HA := hid ha
  have HB := hid hb
  clear ha hb
  generalize hn : l.length = n at *
  generalize hn' : m.length = n' at *
  have HN := hid hn
  have HN' := hid hn'
  clear hn hn'
  go_enter Tryz.func90, Tryz.ntmps90
  go_wp2_with fail
  go_loopw [5] (fun i wr => ∃ k q : Nat, k ≤ n ∧ k ≤ n' ∧ i = .int .i64 k ∧ wr = w.drewN q ∧ Hid (lessB l m = lessB (l.drop k) (m.drop k))) (fun i _ => n - (intOf i).toNat)
  case atStart => exact ⟨0, 0, by omega, by omega, rfl, rfl, rfl⟩
  case round =>
    obtain ⟨k, q, hk, hk', rfl, rfl, HT⟩ := hrel
    by_cases hlt : k < n
    · have e1 : decide ((k : Int) < (n : Int)) = true := by simp; omega
      have hlt' : (k : Int) < (n : Int) := by omega
      by_cases hlt2 : k < n'
      · have e2 : decide ((k : Int) < (n' : Int)) = true := by simp; omega
        have hlt2' : (k : Int) < (n' : Int) := by omega
        have h1 : Bytes w Na (.slice oa l.length ca) l := by rw [HN.out]; exact HA.out
        have h2 : Bytes w Nb (.slice ob m.length cb) m := by rw [HN'.out]; exact HB.out
        obtain ⟨b1, o1, rfl, c1⟩ := h1.some (by rw [HN.out]; omega)
        obtain ⟨b2, o2, rfl, c2⟩ := h2.some (by rw [HN'.out]; omega)
        have d1 := (c1 k (by rw [HN.out]; exact hlt)).2
        have d2 := (c2 k (by rw [HN'.out]; exact hlt2)).2
        obtain ⟨x, hx⟩ : ∃ x, l.getD k 0 = x := ⟨_, rfl⟩
        obtain ⟨y, hy⟩ : ∃ y, m.getD k 0 = y := ⟨_, rfl⟩
        rw [hx] at d1
        rw [hy] at d2
        have HS := hid (show lessB l m = if x = y then lessB (l.drop (k + 1)) (m.drop (k + 1)) else decide (x.toNat < y.toNat) by
          rw [HT.out, drop_getD l k (by rw [HN.out]; exact hlt), drop_getD m k (by rw [HN'.out]; exact hlt2), hx, hy, lessB])
        clear h1 h2 c1 c2 hx hy HT
        by_cases hxy : x = y
        · have HS2 := hid (HS.out.trans (if_pos hxy))
          subst hxy
          have hnx : (b8 x != b8 x) = false := by simp
          go_wp2_with fail
          refine region_still (by kernel_rfl) (by kernel_rfl) ?_
          repeat still_step
          refine wpStill_nil ?_
          go_wp2
          go_roundw
          case rel => exact ⟨k + 1, q + 1, by omega, by omega, by go_num, rfl, HS2⟩
          case measure => simp [intOf]; omega
        · have hnx : (b8 x != b8 y) = true := by
            simp only [bne_iff_ne, ne_eq]
            intro h
            exact hxy (b8_inj h)
          obtain ⟨bb, hbb⟩ : ∃ bb, decide (b8 x < b8 y) = bb := ⟨_, rfl⟩
          have HR := hid (show lessB l m = bb by
            rw [HS.out, if_neg hxy, ← hbb]
            unfold b8
            rw [decide_eq_decide]
            omega)
          clear hxy
          go_wp2_with fail
          refine region_still (by kernel_rfl) (by kernel_rfl) ?_
          repeat still_step
          refine wpStill_nil ?_
          go_wp2_with fail
          refine region_still (by kernel_rfl) (by kernel_rfl) ?_
          repeat still_step
          refine wpStill_nil ?_
          go_wp2
          go_ret
          exact ⟨by rw [HR.out]; rfl, q + 1 + 1, rfl⟩
      · have e2 : decide ((k : Int) < (n' : Int)) = false := by simp; omega
        have HR := hid (show lessB l m = decide (n < n') by rw [HT.out, show m.drop k = [] from List.drop_eq_nil_of_le (by rw [HN'.out]; omega), lessB_nil_right, decide_eq_false (show ¬ n < n' by omega)])
        go_wp2
        go_ret
        exact ⟨by rw [HR.out]; rfl, q, rfl⟩
    · have e1 : decide ((k : Int) < (n : Int)) = false := by simp; omega
      have HR := hid (show lessB l m = decide (n < n') by
        rw [HT.out, show l.drop k = [] from List.drop_eq_nil_of_le (by rw [HN.out]; omega), lessB_nil_left, List.length_drop, HN'.out, decide_eq_decide]
        omega)
      go_wp2
      go_ret
      exact ⟨by rw [HR.out]; rfl, q, rfl⟩
set_option maxHeartbeats 1000000 in
theorem refHalf_any (n : Nat) (w : World) (hn : n < 1000000) : Calls Tryz.prog 129 #[.int .i64 (n : Int)] w fun e w' => e = .returned (.int .i64 (halfN n : Int)) ∧ w' = w := by
  go_enter Tryz.func129, Tryz.ntmps129
  go_wp2_with fail
  go_loopw [3] (fun i wr => ∃ k : Nat, 0 < k ∧ k < 1000000 ∧ i = .int .i64 (k : Int) ∧ wr = w ∧ Hid (halfN n = halfGo k n)) (fun i _ => n - (intOf i).toNat)
  case atStart => exact ⟨1, by omega, by omega, rfl, rfl, rfl⟩
  case round =>
    obtain ⟨k, hk, hk', rfl, rfl, HT⟩ := hrel
    by_cases hle : n ≤ 2 * k
    · have e1 : decide ((n : Int) ≤ 2 * (k : Int)) = true := by simp; omega
      have HR := hid (show halfN n = k by rw [HT.out, halfGo_eq, if_pos (.inl hle)])
      go_wp2
      go_ret
      exact ⟨by rw [HR.out]; rfl, rfl⟩
    · have e1 : decide ((n : Int) ≤ 2 * (k : Int)) = false := by simp; omega
      go_wp2_with fail
      exact ⟨⟨2 * k, by omega, by omega, by go_num, trivial, by rw [HT.out, halfGo_eq, if_neg (by omega)]; exact hid rfl⟩, by simp [intOf]; omega⟩
end Go.Proofs.YtooemgkjkngpcaaGreatDoor
namespace Go.Proofs.YtooemgkjkngpcaaGreatDoor
open Go.RowKit

theorem drewN_belowW (w : World) (n N : Nat) : Below N w (w.drewN n) := ⟨rfl, rfl, rfl, Nat.le_refl _, fun _ _ => rfl⟩
/-- the key ahead of a place, if there is one -/
def prevK (l : List Pr) : Nat → Option (List (BitVec 8))
  | 0 => none
  | k + 1 => (l[k]?).map (·.key)
theorem wrong_step (l : List Pr) (k : Nat) (p : Pr) (h : l[k]? = some p) : wrongGo k (prevK l k) (l.drop k) =
    if 60 < p.key.length ∨ 200 < p.val.length then (4, k) else if okPrev (prevK l k) p.key = false then (2, k) else wrongGo (k + 1) (prevK l (k + 1)) (l.drop (k + 1)) := by
  obtain ⟨hk, he⟩ := List.getElem?_eq_some_iff.1 h
  rw [List.drop_eq_getElem_cons hk, he, wrongGo, show prevK l (k + 1) = some p.key by simp [prevK, h]]
theorem prev_some (l : List Pr) (k : Nat) (p : Pr) (h : l[k]? = some p) : prevK l (k + 1) = some p.key := by simp [prevK, h]
set_option maxRecDepth 100000 in
set_option maxHeartbeats 2000000 in
theorem refWrongL_any (l : List Pr) (sv : Value) (N : Nat) (w : World) (hb : Pairs w N sv l) (hN : N ≤ w.heap.size) (hlen : l.length < 2305843009213693952) (hfit : ∀ p ∈ l, p.fits) :
    Calls Tryz.prog 96 #[sv] w fun e w' => Below w.heap.size w w' ∧ e = .returned (faultV (wrongL l).1 (wrongL l).2) := by
  obtain ⟨oa, ca, rfl, hca⟩ := hb.shape
  obtain ⟨w0, hw0⟩ : ∃ w0, w.alloc (.cells #[.int .i64 0, .int .i64 0] 96) = w0 := ⟨_, rfl⟩
  have hsz0 : w0.heap.size = w.heap.size + 1 := by rw [← hw0]; simp
  have hb0 : Below w.heap.size w w0 := by rw [← hw0]; exact (Below.refl _ _).alloc (Nat.le_refl _) _
  have hrow0 : Row w0 w.heap.size 96 [.int .i64 0, .int .i64 0] := by rw [← hw0]; exact Row.new _ _ _
  have HB := hid (hb.below (hb0.mono hN))
  have HB0 := hid hb0
  have HR0 := hid hrow0
  have HFIT := hid hfit
  clear hb hb0 hrow0 hfit
  generalize hn : l.length = n at *
  have HN := hid hn
  clear hn
  have FIN := hid (show ∀ (c : Int) (i q : Nat), wrongL l = (c, i) → (((w0.drewN q).setCell ⟨w.heap.size, 0, none⟩ (.int .i64 c)).setCell ⟨w.heap.size, 1, none⟩ (.int .i64 (i : Int))).cell? ⟨w.heap.size, 0, none⟩ = some (.int .i64 c) ∧
      (((w0.drewN q).setCell ⟨w.heap.size, 0, none⟩ (.int .i64 c)).setCell ⟨w.heap.size, 1, none⟩ (.int .i64 (i : Int))).cell? ⟨w.heap.size, 1, none⟩ = some (.int .i64 (i : Int)) ∧
      Below w.heap.size w (((w0.drewN q).setCell ⟨w.heap.size, 0, none⟩ (.int .i64 c)).setCell ⟨w.heap.size, 1, none⟩ (.int .i64 (i : Int))) ∧ (wrongL l).1 = c ∧ (wrongL l).2 = i from fun c i q h => by
    obtain ⟨g0, g1⟩ := (HR0.out.drewN q).set2 (.int .i64 c) (.int .i64 (i : Int))
    exact ⟨g0, g1, below_set2 (HB0.out.trans (drewN_belowW _ _ _)) (Nat.le_refl _) _ _, by rw [h], by rw [h]⟩)
  by_cases hmany : 200 < n
  · have e1 : decide ((200 : Int) < (n : Int)) = true := by simp; omega
    obtain ⟨c0, c1, z0, z1⟩ := HR0.out.two
    go_enter Tryz.func96, Tryz.ntmps96
    go_wp2
    obtain ⟨g0, g1, g2, g3, g4⟩ := FIN.out 5 0 0 (by unfold wrongL; rw [HN.out, if_pos hmany])
    rw [g3, g4]
    exact bodyPost_ret (v := faultV 5 0) (by have h0 := g0; have h1 := g1; simp [World.drewN] at h0 h1; simp [results, Tryz.results96, go_sem, h0, h1, faultV]) rfl ⟨g2, rfl⟩
  · have e1 : decide ((200 : Int) < (n : Int)) = false := by simp; omega
    go_enter Tryz.func96, Tryz.ntmps96
    go_wp2_with fail
    go_loopw [10] (fun i wr => ∃ k q : Nat, k ≤ n ∧ i = .int .i64 (k : Int) ∧ wr = w0.drewN q ∧ Hid (wrongL l = wrongGo k (prevK l k) (l.drop k))) (fun i _ => n - (intOf i).toNat)
    case atStart => exact ⟨0, 0, by omega, rfl, rfl, hid (by unfold wrongL; rw [HN.out, if_neg hmany]; rfl)⟩
    case round =>
      obtain ⟨k, q, hk, rfl, rfl, HT⟩ := hrel
      by_cases hlt : k < n
      · obtain ⟨p, hp⟩ : ∃ p, l[k]? = some p := ⟨l[k]'(by rw [HN.out]; exact hlt), List.getElem?_eq_getElem _⟩
        obtain ⟨b, o, rfl, hcells⟩ := HB.out.some (by omega)
        obtain ⟨hbN, vk, vv, d0, d1, hvk, hvv⟩ := hcells k p hp
        obtain ⟨o1, c1, rfl, hc1⟩ := hvk.shape
        obtain ⟨o2, c2, rfl, hc2⟩ := hvv.shape
        have hfp := HFIT.out p (List.mem_of_getElem? hp)
        have HST := hid (wrong_step l k p hp)
        have hlt' : (k : Int) < (n : Int) := by omega
        obtain ⟨r0, r1, z0, z1⟩ := (HR0.out.drewN q).two
        by_cases hmuch : 60 < p.key.length ∨ 200 < p.val.length
        · have HPL := hid (show wrongL l = (4, k) by rw [HT.out, HST.out, if_pos hmuch])
          clear hcells hvk hvv
          by_cases hk60 : 60 < p.key.length
          · have e2 : decide ((60 : Int) < (p.key.length : Int)) = true := by simp; omega
            clear hmuch
            go_wp2
            obtain ⟨g0, g1, g2, g3, g4⟩ := FIN.out 4 k q HPL.out
            rw [g3, g4]
            exact bodyPost_ret (v := faultV 4 k) (by simp [results, Tryz.results96, go_sem, g0, g1, faultV]) rfl ⟨g2, rfl⟩
          · have e2 : decide ((60 : Int) < (p.key.length : Int)) = false := by simp; omega
            have e3 : decide ((200 : Int) < (p.val.length : Int)) = true := by simp; omega
            clear hmuch
            go_wp2
            obtain ⟨g0, g1, g2, g3, g4⟩ := FIN.out 4 k q HPL.out
            rw [g3, g4]
            exact bodyPost_ret (v := faultV 4 k) (by simp [results, Tryz.results96, go_sem, g0, g1, faultV]) rfl ⟨g2, rfl⟩
        · have e2 : decide ((60 : Int) < (p.key.length : Int)) = false := by simp; omega
          have e3 : decide ((200 : Int) < (p.val.length : Int)) = false := by simp; omega
          have HST2 := hid (HST.out.trans (if_neg hmuch))
          clear hmuch HST
          cases k with
          | zero =>
            have HPL := hid (show wrongL l = wrongGo 1 (prevK l 1) (l.drop 1) by rw [HT.out, HST2.out, if_neg (by simp [prevK, okPrev])])
            have d0' : w0.cell? ⟨b, o, none⟩ = some (.slice o1 p.key.length c1) := by simpa using d0
            have d1' : w0.cell? ⟨b, o + 1, none⟩ = some (.slice o2 p.val.length c2) := by simpa using d1
            clear hcells hvk hvv
            go_wp2_with fail
            go_quiet (fail)
            go_wp2
            go_roundw
            case rel => exact ⟨1, q + nq, by omega, by go_num, rfl, HPL⟩
            case measure => simp [intOf]; omega
          | succ j =>
            obtain ⟨y, hy⟩ : ∃ y, l[j]? = some y := ⟨l[j]'(by rw [HN.out]; omega), List.getElem?_eq_getElem _⟩
            obtain ⟨_, yk, yv, t0, t1, hyk, hyv⟩ := hcells j y hy
            obtain ⟨o3, c3, rfl, hc3⟩ := hyk.shape
            have hfy := HFIT.out y (List.mem_of_getElem? hy)
            have HL := hid (fun wq : Nat => show Calls Tryz.prog 90 #[.slice o3 y.key.length c3, .slice o1 p.key.length c1] (w0.drewN (q + wq)) (fun e w' => e = .returned (.bool (lessB y.key p.key)) ∧ ∃ n, w' = w0.drewN (q + n)) from
              (refLess_any y.key p.key _ _ N N (w0.drewN (q + wq)) (hyk.below (drewN_belowW _ _ _)) (hvk.below (drewN_belowW _ _ _)) (by have := hfy.1; omega) (by have := hfp.1; omega)).mono fun e w' ⟨h1, n', h2⟩ => ⟨h1, wq + n', by rw [h2, World.drewN_drewN, Nat.add_assoc]⟩)
            have HPV := hid (prev_some l j y hy)
            have hj1 : ((j + 1 : Nat) : Int) - 1 = (j : Int) := by omega
            have hj2 : IntKind.i64.wrap (((j + 1 : Nat) : Int) - 1) = (j : Int) := by rw [hj1]; simp [IntKind.wrap, IntKind.bits, IntKind.signed]; split <;> omega
            have hjn : (j : Int) < (n : Int) := by omega
            have e4 : decide ((0 : Int) < ((j + 1 : Nat) : Int)) = true := decide_eq_true (by omega)
            clear hcells hvk hvv hyk hyv hy
            cases hls : lessB y.key p.key with
            | true =>
              have HPL := hid (show wrongL l = wrongGo (j + 2) (prevK l (j + 2)) (l.drop (j + 2)) by rw [HT.out, HST2.out, HPV.out, if_neg (by simp [okPrev, hls])])
              rw [hls] at HL
              clear hls
              go_wp2_with fail
              go_quiet (first | (go_at_call 90; exact HL.out _))
              go_wp2
              go_roundw
              case rel => exact ⟨j + 2, q + nq, by omega, by go_num, rfl, HPL⟩
              case measure => simp [intOf]; omega
            | false =>
              have HPL := hid (show wrongL l = (2, j + 1) by rw [HT.out, HST2.out, HPV.out, if_pos (by simp [okPrev, hls])])
              rw [hls] at HL
              clear hls
              go_wp2_with fail
              go_quiet (first | (go_at_call 90; exact HL.out _))
              obtain ⟨r0, r1, z0, z1⟩ := (HR0.out.drewN (q + nq)).two
              go_wp2
              obtain ⟨g0, g1, g2, g3, g4⟩ := FIN.out 2 (j + 1) (q + nq) HPL.out
              rw [g3, g4]
              exact bodyPost_ret (v := faultV 2 (j + 1)) (by have h0 := g0; have h1 := g1; simp at h0 h1; simp [results, Tryz.results96, go_sem, h0, h1, faultV]) rfl ⟨g2, rfl⟩
      · have hge : decide ((k : Int) < (n : Int)) = false := by simp; omega
        have HPL := hid (show wrongL l = (0, 0) by rw [HT.out, List.drop_eq_nil_of_le (by rw [HN.out]; omega), wrongGo])
        obtain ⟨r0, r1, z0, z1⟩ := (HR0.out.drewN q).two
        go_wp2
        obtain ⟨g0, g1, g2, g3, g4⟩ := FIN.out 0 0 q HPL.out
        rw [g3, g4]
        exact bodyPost_ret (v := faultV 0 0) (by have h0 := g0; have h1 := g1; simp at h0 h1; simp [results, Tryz.results96, go_sem, h0, h1, faultV]) rfl ⟨g2, rfl⟩
end Go.Proofs.YtooemgkjkngpcaaGreatDoor
namespace Go.Proofs.YtooemgkjkngpcaaGreatDoor
open Go.RowKit

end Go.Proofs.YtooemgkjkngpcaaGreatDoor
namespace Go.Proofs.YtooemgkjkngpcaaGreatDoor
open Go.RowKit

theorem OwnB.one {w : World} {base : Nat} {v : Value} {l : List (BitVec 8)} (h : OwnB w base v l) : v.oneCell' = true := by
  obtain ⟨oa, cap, rfl, _⟩ := h.shape
  rfl
end Go.Proofs.YtooemgkjkngpcaaGreatDoor
namespace Go.Proofs.YtooemgkjkngpcaaGreatDoor
open Go.RowKit

end Go.Proofs.YtooemgkjkngpcaaGreatDoor
namespace Go.Proofs.YtooemgkjkngpcaaGreatDoor
open Go.RowKit

end Go.Proofs.YtooemgkjkngpcaaGreatDoor
