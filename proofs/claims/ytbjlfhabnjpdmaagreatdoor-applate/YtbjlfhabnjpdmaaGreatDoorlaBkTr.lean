/-
  A transfer.
-/
import Derived.Test.YtbjlfhabnjpdmaaGreatDoorlaMemB
namespace Go.Proofs.YtbjlfhabnjpdmaaGreatDoor
open Go.RowKit

/-- a transfer -/
structure Tr where
  denom : ByteArray
  amount : Nat
  sender : ByteArray
  reader : ByteArray
def Tr.fits (t : Tr) : Prop := t.denom.size ≤ 140737488351232 ∧ t.amount < 18446744073709551616 ∧ t.sender.size ≤ 140737488351232 ∧ t.reader.size ≤ 140737488351232
end Go.Proofs.YtbjlfhabnjpdmaaGreatDoor
