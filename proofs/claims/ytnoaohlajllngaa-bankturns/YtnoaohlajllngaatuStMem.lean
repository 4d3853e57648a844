/-
  Slices of records, and what reads as a state.
-/
import Derived.Test.YtnoaohlajllngaatuStMath
namespace Go.Proofs.Ytnoaohlajllngaa
open Go.RowKit

/-- sv is a slice whose entries are rows of k cells that read as those of l -/
def Many {α : Type} (R : World → Nat → List Value → α → Prop) (k : Nat) (w : World) (N : Nat) (sv : Value) (l : List α) : Prop :=
  ∃ rs : List (List Value), rs.length = l.length ∧ Recs w N sv k rs ∧ ∀ (i : Nat) r x, rs[i]? = some r → l[i]? = some x → R w N r x
/-- what stays true as memory grows -/
structure Stays {α : Type} (R : World → Nat → List Value → α → Prop) : Prop where
  below : ∀ {w w' : World} {N : Nat} {r : List Value} {x : α}, R w N r x → Below N w w' → R w' N r x
  mono : ∀ {w : World} {N M : Nat} {r : List Value} {x : α}, R w N r x → N ≤ M → R w M r x
theorem Many.below {α : Type} {R : World → Nat → List Value → α → Prop} {k : Nat} {w w' : World} {N : Nat} {sv : Value} {l : List α} (hR : Stays R) (h : Many R k w N sv l) (hg : Below N w w') : Many R k w' N sv l := by
  obtain ⟨rs, h1, h2, h3⟩ := h
  exact ⟨rs, h1, h2.below hg, fun i r x hr hx => hR.below (h3 i r x hr hx) hg⟩
theorem Many.mono {α : Type} {R : World → Nat → List Value → α → Prop} {k : Nat} {w : World} {N M : Nat} {sv : Value} {l : List α} (hR : Stays R) (h : Many R k w N sv l) (hN : N ≤ M) : Many R k w M sv l := by
  obtain ⟨rs, h1, h2, h3⟩ := h
  exact ⟨rs, h1, h2.mono hN, fun i r x hr hx => hR.mono (h3 i r x hr hx) hN⟩
theorem Many.shape {α : Type} {R : World → Nat → List Value → α → Prop} {k : Nat} {w : World} {N : Nat} {sv : Value} {l : List α} (h : Many R k w N sv l) : ∃ oa cap, sv = .slice oa l.length cap ∧ l.length ≤ cap := by
  obtain ⟨rs, h1, h2, -⟩ := h
  obtain ⟨oa, cap, h4, h5⟩ := h2.shape
  exact ⟨oa, cap, by rw [h4, h1], by omega⟩
theorem Many.nil {α : Type} (R : World → Nat → List Value → α → Prop) (k : Nat) (w : World) (N : Nat) : Many R k w N (.slice none 0 0) [] := ⟨[], rfl, .inl ⟨rfl, rfl⟩, fun i r x h => by simp at h⟩
theorem Many.spot {α : Type} {R : World → Nat → List Value → α → Prop} {k : Nat} {w : World} {N : Nat} {oa : Option Addr} {n cap : Nat} {l : List α} (h : Many R k w N (.slice oa n cap) l) (hl : 0 < n) :
    ∃ b off, oa = some ⟨b, off, none⟩ ∧ ∀ (i : Nat) x, l[i]? = some x → b < N ∧ ∃ r, R w N r x ∧ ∀ (j : Nat) v, r[j]? = some v → w.cell? ⟨b, off + i * k + j, none⟩ = some v := by
  obtain ⟨rs, h1, h2, h3⟩ := h
  obtain ⟨b, off, e, hc⟩ := h2.spot hl
  refine ⟨b, off, e, fun i x hx => ?_⟩
  have hi : i < rs.length := by rw [h1]; exact (List.getElem?_eq_some_iff.1 hx).1
  obtain ⟨r, hr⟩ : ∃ r, rs[i]? = some r := ⟨_, List.getElem?_eq_getElem hi⟩
  obtain ⟨g1, g2⟩ := hc i r hr
  exact ⟨g1, r, h3 i r x hr hx, g2⟩

def puCells (p : Pu) : List Value := [.string p.owner, .string p.denom, .int .u64 (p.amount : Int)]
def PuR (_ : World) (_ : Nat) (r : List Value) (p : Pu) : Prop := r = puCells p
theorem PuR.stays : Stays PuR := ⟨fun h _ => h, fun h _ => h⟩
end Go.Proofs.Ytnoaohlajllngaa
