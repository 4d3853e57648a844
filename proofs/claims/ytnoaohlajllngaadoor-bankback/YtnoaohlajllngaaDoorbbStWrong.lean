/-
  What package state's Wrong answers: what is wrong with a state.
-/
import Derived.Test.YtnoaohlajllngaaDoorbbStByOne
import Derived.Test.YtnoaohlajllngaaDoorbbStMem
import Derived.Test.YtnoaohlajllngaaDoorbbRegions
import Derived.Deep.RegionHeld3
import Derived.Deep.RegionWith
namespace Go.Proofs.YtnoaohlajllngaaDoor
open Go.RowKit

/-- what Wrong is to answer of a state -/
def StWrongC (f : FuncId) : Prop := ∀ (s : St) (v : Value) (N : Nat) (w : World), StV w N v s → N ≤ w.heap.size → s.fits →
  Calls Tryd.prog f #[v] w fun e w' => e = .returned (.int .i64 (wrongS s)) ∧ Below w.heap.size w w'
end Go.Proofs.YtnoaohlajllngaaDoor
