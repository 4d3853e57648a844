/-
  ClientWays returns true, whatever a client, two updates and a time read as.
-/
import Derived.Test.YtiflkkelbnpniaaDoorClFollow
import Derived.Test.YtiflkkelbnpniaaDoorClAsk
import Derived.Test.YtiflkkelbnpniaaDoorSameB
import Derived.Test.YtiflkkelbnpniaaDoorClMem
namespace Go.Proofs.YtiflkkelbnpniaaDoor
open Go.RowKit

/-- ten cells, the first one set -/
theorem sameBB {x : List (BitVec 8)} {v u : Value} {M : Nat} {w : World} (h1 : Bytes w M v x) (h2 : Bytes w M u x) (hl : x.length ≤ 140737488351232) : Calls Tryd.prog 14 #[v, u] w fun e w' => e = .returned (.bool true) ∧ Below w.heap.size w w' := by
  refine (sameB_any x x v u M M w h1 h2 (by omega) (by omega)).mono ?_
  rintro e w' ⟨rfl, q, rfl⟩
  exact ⟨by simp, below_drewH _ _ _⟩
end Go.Proofs.YtiflkkelbnpniaaDoor
