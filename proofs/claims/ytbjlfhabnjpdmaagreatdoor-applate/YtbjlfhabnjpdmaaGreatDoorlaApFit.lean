/-
  States with other purses; what lies apart from a variable.
-/
import Derived.Test.YtbjlfhabnjpdmaaGreatDoorlaCoMath
import Derived.Test.YtbjlfhabnjpdmaaGreatDoorlaFrKit
import Derived.Test.YtbjlfhabnjpdmaaGreatDoorlaPkMath
import Derived.Test.YtbjlfhabnjpdmaaGreatDoorlaBkPut
import Derived.Test.YtbjlfhabnjpdmaaGreatDoorlaBkMath
namespace Go.Proofs.YtbjlfhabnjpdmaaGreatDoor
open Go.RowKit

theorem HoldsS.only {N base g : Nat} {w w' : World} {v : Value} {t : St} (h : HoldsS N base w v t) (O : Only g w w') (h1 : N ≤ g) (h2 : g < base) : HoldsS N base w' v t :=
  h.on O.below (fun b _ hb => O.same b (by omega))
end Go.Proofs.YtbjlfhabnjpdmaaGreatDoor
namespace Go.Proofs.YtbjlfhabnjpdmaaGreatDoor
open Go.RowKit

theorem wrongS_purses {s : St} (h : wrongS s = 0) (hf : s.fits) : s.purses.length ≤ 60 ∧ RightU s.purses := by
  obtain ⟨-, -, hm, hd⟩ := wrongS_name h
  have h60 : s.purses.length ≤ 60 := by simp [manyB] at hm; omega
  have hp : pursesN s.purses = 0 := (orN_iff _).1 hd _ (by simp)
  exact (rightB_iff fun p hp => (hf.2.2.2.2.2.2.2.2 p hp).2.2).1 (by unfold rightB; simp [h60, hp])
theorem right_fits {l : List Pu} (h : RightU l) : ∀ p ∈ l, p.fits := fun p hp => by
  obtain ⟨a, b, -, d⟩ := h.ok p hp
  simp [wordB] at a b
  exact ⟨by omega, by omega, d⟩
theorem purses_fits {s : St} {l : List Pu} (hf : s.fits) (h : RightU l) (hl : l.length ≤ 60) : ({ s with purses := l } : St).fits := ⟨hf.1, hf.2.1, hf.2.2.1, hf.2.2.2.1, hf.2.2.2.2.1, hf.2.2.2.2.2.1, hf.2.2.2.2.2.2.1, by show l.length < _; omega, right_fits h⟩
theorem NewU.only {base g : Nat} {w w' : World} {v : Value} {l : List Pu} (h : NewU base w v l) (O : Only g w w') (hg : g < base) : NewU base w' v l :=
  RowT.keep h fun k hk => O.same k (by have := (RowT.own h k hk).1; omega)
/-- a list of purses beside all else of a state -/
theorem stMem_purses {w : World} {N M : Nat} {s : St} {l : List Pu} {v1 v2 v3 v4 v5 v6 v7 v : Value} (h : StMem w N s v1 v2 v3 v4 v5 v6 v7) (hN : N ≤ M) (hl : Many PuR 3 w M v l) : StMem w M { s with purses := l } v1 v2 v3 v4 v5 v6 v :=
  have k := h.mono hN
  ⟨k.clients, k.conns, k.chans, k.sent, k.got, k.acks, hl⟩
theorem stMem_bare {w : World} {N : Nat} {s : St} {l : List Pu} {v1 v2 v3 v4 v5 v6 v7 : Value} (h : StMem w N s v1 v2 v3 v4 v5 v6 v7) : StMem w N { ({ s with purses := l } : St) with purses := [] } v1 v2 v3 v4 v5 v6 (.slice none 0 0) :=
  ⟨h.clients, h.conns, h.chans, h.sent, h.got, h.acks, Many.nil _ _ _ _⟩
end Go.Proofs.YtbjlfhabnjpdmaaGreatDoor
