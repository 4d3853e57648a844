/-
  What package client's isTime, wrongKnown and Wrong answer: what is wrong with a client.
  What package client's find and At answer: what a client knows of a height; what is known, in memory of its own.
  What package client's trusts, Active and refusal answer.
  What package client's copied and New answer: a client in memory of its own; a new one.
  What the laws of clients ask first: it is true.
-/
import Derived.Test.YtnoaohlajllngaaDoortlClMem
import Derived.Test.YtnoaohlajllngaaDoortlHdMems
import Derived.Test.YtnoaohlajllngaaDoortlSameB
import Derived.Deep.RegionHeld3
import Derived.Deep.RegionWith
namespace Go.Proofs.YtnoaohlajllngaaDoor
open Go.RowKit

/-- is a number a time -/
def timeN (n : Int) : Bool := decide (0 ≤ n) && decide (n ≤ 1000000000000)
theorem timeN_true {n : Int} (h : ¬ (n < 0 ∨ 1000000000000 < n)) : timeN n = true := by unfold timeN; simp; omega
theorem timeN_false {n : Int} (h : n < 0 ∨ 1000000000000 < n) : timeN n = false := by unfold timeN; rw [Bool.and_eq_false_iff]; simp; omega
/-- what Wrong is to answer of a client -/
def ClWrongC (f : FuncId) : Prop := ∀ (c : Cl) (v : Value) (N : Nat) (w : World), ClV w N v c → N ≤ w.heap.size → c.fits →
  Calls Tryd.prog f #[v] w fun e w' => e = .returned (.int .i64 (wrongCl c)) ∧ Below w.heap.size w w'
end Go.Proofs.YtnoaohlajllngaaDoor
namespace Go.Proofs.YtnoaohlajllngaaDoor
open Go.RowKit

end Go.Proofs.YtnoaohlajllngaaDoor
namespace Go.Proofs.YtnoaohlajllngaaDoor
open Go.RowKit

end Go.Proofs.YtnoaohlajllngaaDoor
namespace Go.Proofs.YtnoaohlajllngaaDoor
open Go.RowKit

end Go.Proofs.YtnoaohlajllngaaDoor
namespace Go.Proofs.YtnoaohlajllngaaDoor
open Go.RowKit

end Go.Proofs.YtnoaohlajllngaaDoor
