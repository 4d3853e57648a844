/-
  What the steps of a connection answer: not too great.
-/
import Derived.Test.YtooemgkjkngpcaaGreatDoorshCoInit
namespace Go.Proofs.YtooemgkjkngpcaaGreatDoor
open Go.RowKit

theorem tryN_start {s:St} {c o q z:Int} (h:tryN s c o q z=0):startN s c=0:=by
  unfold tryN at h
  split at h
  · rename_i h1;exact absurd h h1
  · rename_i h1;simpa using h1
end Go.Proofs.YtooemgkjkngpcaaGreatDoor
