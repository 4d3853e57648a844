/-
  Pieces behind a slice value: three cells each.
-/
import Derived.Test.YthogidagokdipabWireMath
import Derived.Test.YthogidagokdipabBytesMem
namespace Go.Proofs.Ythogidagokdipab
open Go.RowKit

/-- sv is a slice that reads as l, nil, empty or neither; its cells, and its pieces' bytes, lie below block number N -/
def Pieces (w : World) (N : Nat) (sv : Value) (l : List Pc) : Prop :=
  (sv = .slice none 0 0 ∧ l = []) ∨ (∃ a cap, sv = .slice (some a) 0 cap ∧ l = []) ∨
  ∃ b off cap, sv = .slice (some ⟨b, off, none⟩) l.length cap ∧ l.length ≤ cap ∧ ∀ i p, l[i]? = some p → b < N ∧ ∃ vb,
    w.cell? ⟨b, off + i * 3, none⟩ = some (.int .i64 p.k) ∧ w.cell? ⟨b, off + i * 3 + 1, none⟩ = some (.int .u64 (p.n : Int)) ∧ w.cell? ⟨b, off + i * 3 + 2, none⟩ = some vb ∧ Bytes w N vb p.b
theorem Pieces.shape {w : World} {N : Nat} {sv : Value} {l : List Pc} (h : Pieces w N sv l) : ∃ oa cap, sv = .slice oa l.length cap ∧ l.length ≤ cap := by
  rcases h with ⟨rfl, rfl⟩ | ⟨a, cap, rfl, rfl⟩ | ⟨b, off, cap, rfl, hc, _⟩
  · exact ⟨none, 0, rfl, Nat.le_refl _⟩
  · exact ⟨_, cap, rfl, Nat.zero_le _⟩
  · exact ⟨_, cap, rfl, hc⟩
theorem Pieces.some {w : World} {N : Nat} {oa : Option Addr} {n cap : Nat} {l : List Pc} (h : Pieces w N (.slice oa n cap) l) (hl : 0 < n) :
    ∃ b off, oa = some ⟨b, off, none⟩ ∧ ∀ i p, l[i]? = some p → b < N ∧ ∃ vb,
    w.cell? ⟨b, off + i * 3, none⟩ = some (.int .i64 p.k) ∧ w.cell? ⟨b, off + i * 3 + 1, none⟩ = some (.int .u64 (p.n : Int)) ∧ w.cell? ⟨b, off + i * 3 + 2, none⟩ = some vb ∧ Bytes w N vb p.b := by
  rcases h with ⟨h1, _⟩ | ⟨_, _, h1, _⟩ | ⟨b, off, c, h1, _, h3⟩
  · simp at h1; omega
  · simp at h1; omega
  · simp at h1
    exact ⟨b, off, h1.1, h3⟩
theorem Pieces.below {w w' : World} {N : Nat} {sv : Value} {l : List Pc} (h : Pieces w N sv l) (hg : Below N w w') : Pieces w' N sv l := by
  rcases h with h | h | ⟨b, off, cap, h1, h2, h3⟩
  · exact .inl h
  · exact .inr (.inl h)
  · refine .inr (.inr ⟨b, off, cap, h1, h2, fun i p hp => ?_⟩)
    obtain ⟨hb, vb, d0, d1, d2, d3⟩ := h3 i p hp
    exact ⟨hb, vb, (hg.cell hb).trans d0, (hg.cell hb).trans d1, (hg.cell hb).trans d2, d3.below hg⟩
theorem Pieces.mono {w : World} {N M : Nat} {sv : Value} {l : List Pc} (h : Pieces w N sv l) (hN : N ≤ M) : Pieces w M sv l := by
  rcases h with h | h | ⟨b, off, cap, h1, h2, h3⟩
  · exact .inl h
  · exact .inr (.inl h)
  · refine .inr (.inr ⟨b, off, cap, h1, h2, fun i p hp => ?_⟩)
    obtain ⟨hb, vb, d0, d1, d2, d3⟩ := h3 i p hp
    exact ⟨Nat.lt_of_lt_of_le hb hN, vb, d0, d1, d2, d3.mono hN⟩
/-- what bounds a piece's parts: a kind of 64 bits, a number of 64 bits, bytes as many as the reach lets -/
def Pc.fits (p : Pc) : Prop := p.ok ∧ p.b.length ≤ 140737488351232
end Go.Proofs.Ythogidagokdipab
