/-
  What follows a region in its sequence.
-/
import Derived.Test.YtooemgkjkngpcaaGreatDoorshRegions
namespace Go.Proofs.YtooemgkjkngpcaaGreatDoor
open Go.RowKit

/-- what follows a region in its sequence -/
def restOf (id:Nat):Code→Option Code
  | .seq a b=>match a with
    | .region i _ _=>if i=id then some b else restOf id b
    | _=>match restOf id a with
      | some c=>some c
      | none=>restOf id b
  | _=>none
end Go.Proofs.YtooemgkjkngpcaaGreatDoor
