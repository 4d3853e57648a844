/-
  Rows of pairs that are written in place: cells that are set, copied and cleared. No function of the program is walked here.
-/
import Derived.Test.YtooemgkjkngpcaaDoorPairsAll
import Derived.Test.YtooemgkjkngpcaaDoorMemB
namespace Go.Proofs.YtooemgkjkngpcaaDoor
open Go.RowKit

/-- a row that is owned and is not nil -/
theorem RowPr.row {w : World} {base : Nat} {v : Value} {ps : List PrV} (h : RowPr w base v ps) (h0 : 0 < ps.length) : ∃ g c cs, v = .slice (some ⟨g, 0, none⟩) ps.length c ∧ base ≤ g ∧ Row w g 48 cs ∧ ps.length ≤ c ∧ c ≤ maxLen ∧ cs.length = c * 2 ∧ cs.take (ps.length * 2) = ps.flatMap prCells := by
  obtain ⟨h1, h2⟩ := h
  rcases h2 with ⟨_, h3⟩ | ⟨g, c, cur, h3, h4, h5, h6, h7, h8, h9⟩
  · omega
  · exact ⟨g, c, cur.toList, h3, h4, h5, h6, h7, by simpa using h8, h9⟩
theorem RowPr.of_row {w : World} {base g n c : Nat} {cs : List Value} {ps : List PrV} (hb : base ≤ g) (hr : Row w g 48 cs) (hn : n = ps.length) (hc : n ≤ c) (hm : c ≤ maxLen) (hl : cs.length = c * 2) (ht : cs.take (n * 2) = ps.flatMap prCells) : RowPr w base (.slice (some ⟨g, 0, none⟩) n c) ps := by
  subst hn
  exact ⟨flatPr_len ps, .inr ⟨g, c, cs.toArray, rfl, hb, hr, hc, hm, by simpa using hl, ht⟩⟩
theorem flat_get_some {ps : List PrV} {cs : List Value} {n : Nat} (h : cs.take (n * 2) = ps.flatMap prCells) (j : Nat) (u : Value) (hu : (ps.flatMap prCells)[j]? = some u) : cs[j]? = some u := by
  rw [← h, List.getElem?_take] at hu
  split at hu
  · exact hu
  · cases hu
theorem flat_drop (ps : List PrV) (i : Nat) : (ps.drop i).flatMap prCells = (ps.flatMap prCells).drop (i * 2) := by
  induction ps generalizing i with
  | nil => simp
  | cons a r ih =>
    cases i with
    | zero => simp
    | succ i =>
      rw [List.drop_succ_cons, ih, List.flatMap_cons, List.drop_append]
      have ha : (prCells a).length = 2 := rfl
      rw [show (prCells a).drop ((i + 1) * 2) = [] from List.drop_eq_nil_of_le (by rw [ha]; omega), ha, List.nil_append, show (i + 1) * 2 - 2 = i * 2 by omega]
theorem flat_take (ps : List PrV) (i : Nat) : (ps.take i).flatMap prCells = (ps.flatMap prCells).take (i * 2) := by
  induction ps generalizing i with
  | nil => simp
  | cons a r ih =>
    cases i with
    | zero => simp
    | succ i =>
      rw [List.take_succ_cons, List.flatMap_cons, ih, List.flatMap_cons, List.take_append]
      have ha : (prCells a).length = 2 := rfl
      rw [List.take_of_length_le (l := prCells a) (by rw [ha]; omega), ha, show (i + 1) * 2 - 2 = i * 2 by omega]
theorem flat_one {ps : List PrV} (h : ∀ q ∈ ps, q.k.oneCell' = true ∧ q.v.oneCell' = true) : ∀ u ∈ ps.flatMap prCells, u.oneCell' = true := by
  intro u hu
  obtain ⟨q, hq, hu⟩ := List.mem_flatMap.1 hu
  simp [prCells] at hu
  rcases hu with rfl | rfl
  · exact (h q hq).1
  · exact (h q hq).2
/-- bytes that are owned outlive what is done with a row of pairs -/
theorem OwnB.past {w w' : World} {base : Nat} {v rv : Value} {l : List (BitVec 8)} {ps : List PrV} (h : OwnB w base v l) (hr : RowPr w base rv ps) (hg : w.grownBy w' rv.ownBlock) : OwnB w' base v l := by
  obtain ⟨h1, h2⟩ := h
  refine ⟨h1, ?_⟩
  rcases h2 with h2 | ⟨g, cap, cur, h3, h4, h5, h6⟩
  · exact .inl h2
  · refine .inr ⟨g, cap, cur, h3, h4, (hg.block g (Array.getElem?_eq_some_iff.1 h5).1 ?_).trans h5, h6⟩
    intro he
    rcases hr.2 with ⟨rfl, _⟩ | ⟨g', c', cur', rfl, _, h8, _⟩
    · simp [Value.ownBlock] at he
    · obtain rfl : g = g' := by simpa [Value.ownBlock] using he
      rw [h5] at h8
      simp at h8
theorem RowPr.below_of {w w' : World} {base : Nat} {v : Value} {ps : List PrV} (h : RowPr w base v ps) (hb : base ≤ w.heap.size) (hg : w.grownBy w' v.ownBlock) : Below base w w' :=
  (Below.refl base w).grown hg hb (fun k hk => (World.ownsRow.lt h k hk).1)
end Go.Proofs.YtooemgkjkngpcaaDoor
