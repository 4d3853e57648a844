/-
  Doings behind a slice value: three cells each. No function of the program is named here.
-/
import Derived.Test.YtjfhhlgblmjonaaDoorPairsAll
namespace Go.Proofs.YtjfhhlgblmjonaaDoor
open Go.RowKit

/-- sv is a slice that reads as l, nil, empty or neither; its cells, and its doings' bytes, lie below block number N -/
def Doings (w : World) (N : Nat) (sv : Value) (l : List Dg) : Prop :=
  (sv = .slice none 0 0 ∧ l = []) ∨ (∃ a cap, sv = .slice (some a) 0 cap ∧ l = []) ∨
  ∃ b off cap, sv = .slice (some ⟨b, off, none⟩) l.length cap ∧ l.length ≤ cap ∧ ∀ i d, l[i]? = some d → b < N ∧ ∃ vk vv,
    w.cell? ⟨b, off + i * 3, none⟩ = some vk ∧ w.cell? ⟨b, off + i * 3 + 1, none⟩ = some vv ∧ w.cell? ⟨b, off + i * 3 + 2, none⟩ = some (.bool d.gone) ∧ Bytes w N vk d.key ∧ Bytes w N vv d.val
theorem Doings.shape {w : World} {N : Nat} {sv : Value} {l : List Dg} (h : Doings w N sv l) : ∃ oa cap, sv = .slice oa l.length cap ∧ l.length ≤ cap := by
  rcases h with ⟨rfl, rfl⟩ | ⟨a, cap, rfl, rfl⟩ | ⟨b, off, cap, rfl, hc, _⟩
  · exact ⟨none, 0, rfl, Nat.le_refl _⟩
  · exact ⟨_, cap, rfl, Nat.zero_le _⟩
  · exact ⟨_, cap, rfl, hc⟩
theorem Doings.some {w : World} {N : Nat} {oa : Option Addr} {n cap : Nat} {l : List Dg} (h : Doings w N (.slice oa n cap) l) (hl : 0 < n) :
    ∃ b off, oa = some ⟨b, off, none⟩ ∧ ∀ i d, l[i]? = some d → b < N ∧ ∃ vk vv,
    w.cell? ⟨b, off + i * 3, none⟩ = some vk ∧ w.cell? ⟨b, off + i * 3 + 1, none⟩ = some vv ∧ w.cell? ⟨b, off + i * 3 + 2, none⟩ = some (.bool d.gone) ∧ Bytes w N vk d.key ∧ Bytes w N vv d.val := by
  rcases h with ⟨h1, _⟩ | ⟨_, _, h1, _⟩ | ⟨b, off, c, h1, _, h3⟩
  · simp at h1; omega
  · simp at h1; omega
  · simp at h1
    exact ⟨b, off, h1.1, h3⟩
theorem Doings.below {w w' : World} {N : Nat} {sv : Value} {l : List Dg} (h : Doings w N sv l) (hg : Below N w w') : Doings w' N sv l := by
  rcases h with h | h | ⟨b, off, cap, h1, h2, h3⟩
  · exact .inl h
  · exact .inr (.inl h)
  · refine .inr (.inr ⟨b, off, cap, h1, h2, fun i d hd => ?_⟩)
    obtain ⟨hb, vk, vv, d0, d1, d2, d3, d4⟩ := h3 i d hd
    exact ⟨hb, vk, vv, (hg.cell hb).trans d0, (hg.cell hb).trans d1, (hg.cell hb).trans d2, d3.below hg, d4.below hg⟩
theorem Doings.mono {w : World} {N M : Nat} {sv : Value} {l : List Dg} (h : Doings w N sv l) (hN : N ≤ M) : Doings w M sv l := by
  rcases h with h | h | ⟨b, off, cap, h1, h2, h3⟩
  · exact .inl h
  · exact .inr (.inl h)
  · refine .inr (.inr ⟨b, off, cap, h1, h2, fun i d hd => ?_⟩)
    obtain ⟨hb, vk, vv, d0, d1, d2, d3, d4⟩ := h3 i d hd
    exact ⟨Nat.lt_of_lt_of_le hb hN, vk, vv, d0, d1, d2, d3.mono hN, d4.mono hN⟩
theorem play_step (k : Nat) (out : List Pr) (l : List Dg) (d : Dg) (h : l[k]? = some d) : playGo k out (l.drop k) =
    if 60 < d.key.length ∨ 200 < d.val.length then .error (4, k) else if d.gone = false ∧ 200 < (doOne d out).length then .error (5, k) else playGo (k + 1) (doOne d out) (l.drop (k + 1)) := by
  obtain ⟨hk, he⟩ := List.getElem?_eq_some_iff.1 h
  rw [List.drop_eq_getElem_cons hk, he, playGo_cons]
theorem RowPr.keep {w w' : World} {base : Nat} {v : Value} {ps : List PrV} (h : RowPr w base v ps) (hk : ∀ g, base ≤ g → w'.heap[g]? = w.heap[g]?) : RowPr w' base v ps := by
  obtain ⟨h1, h2⟩ := h
  refine ⟨h1, ?_⟩
  rcases h2 with h2 | ⟨g, cap, cur, h3, h4, h5, h6⟩
  · exact .inl h2
  · exact .inr ⟨g, cap, cur, h3, h4, (hk g h4).trans h5, h6⟩
def Dg.fits (d : Dg) : Prop := d.key.length ≤ 140737488351232 ∧ d.val.length ≤ 140737488351232
end Go.Proofs.YtjfhhlgblmjonaaDoor
