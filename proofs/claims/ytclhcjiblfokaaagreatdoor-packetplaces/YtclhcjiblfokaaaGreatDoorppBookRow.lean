/-
  Rows of pairs that are written in place: cells that are set, copied and cleared. No function of the program is walked here.
-/
import Derived.Test.YtclhcjiblfokaaaGreatDoorppPairsAll
import Derived.Test.YtclhcjiblfokaaaGreatDoorppMemB
namespace Go.Proofs.YtclhcjiblfokaaaGreatDoor
open Go.RowKit

/-- a row that is owned and is not nil -/
theorem RowPr.row {w : World} {base : Nat} {v : Value} {ps : List PrV} (h : RowPr w base v ps) (h0 : 0 < ps.length) : ∃ g c cs, v = .slice (some ⟨g, 0, none⟩) ps.length c ∧ base ≤ g ∧ Row w g 210 cs ∧ ps.length ≤ c ∧ c ≤ maxLen ∧ cs.length = c * 2 ∧ cs.take (ps.length * 2) = ps.flatMap prCells := by
  obtain ⟨h1, h2⟩ := h
  rcases h2 with ⟨_, h3⟩ | ⟨g, c, cur, h3, h4, h5, h6, h7, h8, h9⟩
  · omega
  · exact ⟨g, c, cur.toList, h3, h4, h5, h6, h7, by simpa using h8, h9⟩
theorem RowPr.of_row {w : World} {base g n c : Nat} {cs : List Value} {ps : List PrV} (hb : base ≤ g) (hr : Row w g 210 cs) (hn : n = ps.length) (hc : n ≤ c) (hm : c ≤ maxLen) (hl : cs.length = c * 2) (ht : cs.take (n * 2) = ps.flatMap prCells) : RowPr w base (.slice (some ⟨g, 0, none⟩) n c) ps := by
  subst hn
  exact ⟨flatPr_len ps, .inr ⟨g, c, cs.toArray, rfl, hb, hr, hc, hm, by simpa using hl, ht⟩⟩
/-- bytes that are owned outlive what is done with a row of pairs -/
theorem OwnB.past {w w' : World} {base : Nat} {v rv : Value} {l : List (BitVec 8)} {ps : List PrV} (h : OwnB w base v l) (hr : RowPr w base rv ps) (hg : w.grownBy w' rv.ownBlock) : OwnB w' base v l := by
  obtain ⟨h1, h2⟩ := h
  refine ⟨h1, ?_⟩
  rcases h2 with h2 | ⟨g, cap, cur, h3, h4, h5, h6⟩
  · exact .inl h2
  · refine .inr ⟨g, cap, cur, h3, h4, (hg.block g (Array.getElem?_eq_some_iff.1 h5).1 ?_).trans h5, h6⟩
    intro he
    rcases hr.2 with ⟨rfl, _⟩ | ⟨g', c', cur', rfl, _, h8, _⟩
    · simp [Value.ownBlock] at he
    · obtain rfl : g = g' := by simpa [Value.ownBlock] using he
      rw [h5] at h8
      simp at h8
end Go.Proofs.YtclhcjiblfokaaaGreatDoor
