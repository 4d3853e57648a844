/-
  Pairs behind a slice value: two cells each. Pairs in a row that a call owns. Slices of rows of pairs, and appends of them onto what a call owns.
  Doings behind a slice value: three cells each. No function of the program is named here.
  What the document's Less, Half and Four answer. What the document's Wrong answers: what is wrong with pairs, and where.
  Rows of turns that a call owns; what the document's Way answers: the turns from the root to a place.
  Rows of lists of bytes, and of Bools, that a call owns: appended to one by one. No function of the program is named here. What slices.Reverse answers: a row that the call owns, turned round in its place; and whether a list has another length than a digest's (slices.ContainsFunc, slices.IndexFunc). What slices.Reverse makes of lists and Bools that a call owns; what slices.ContainsFunc answers: whether a list has another length than a digest's; what bytes.Equal answers.
-/
import Derived.Test.YtbjlfhabnjpdmaaGreatDoorlaBookMath
import Derived.Test.YtbjlfhabnjpdmaaGreatDoorlaMemB
import Derived.Test.YtbjlfhabnjpdmaaGreatDoorlaWireBoth
import Derived.Laws.OwnMore
import Derived.Deep.AppendLies
import Derived.Deep.QuietTactic
import Derived.BigQuiet
import Derived.Deep.RegionWith
namespace Go.Proofs.YtbjlfhabnjpdmaaGreatDoor
open Go.RowKit

/-- what bounds a pair's parts: bytes as many as the reach lets -/
def Pr.fits (p : Pr) : Prop := p.key.length ≤ 140737488351232 ∧ p.val.length ≤ 140737488351232

end Go.Proofs.YtbjlfhabnjpdmaaGreatDoor
namespace Go.Proofs.YtbjlfhabnjpdmaaGreatDoor
open Go.RowKit

end Go.Proofs.YtbjlfhabnjpdmaaGreatDoor
namespace Go.Proofs.YtbjlfhabnjpdmaaGreatDoor
open Go.RowKit

def Dg.fits (d : Dg) : Prop := d.key.length ≤ 140737488351232 ∧ d.val.length ≤ 140737488351232
end Go.Proofs.YtbjlfhabnjpdmaaGreatDoor
namespace Go.Proofs.YtbjlfhabnjpdmaaGreatDoor
open Go.RowKit

end Go.Proofs.YtbjlfhabnjpdmaaGreatDoor
namespace Go.Proofs.YtbjlfhabnjpdmaaGreatDoor
open Go.RowKit

end Go.Proofs.YtbjlfhabnjpdmaaGreatDoor
namespace Go.Proofs.YtbjlfhabnjpdmaaGreatDoor
open Go.RowKit

end Go.Proofs.YtbjlfhabnjpdmaaGreatDoor
namespace Go.Proofs.YtbjlfhabnjpdmaaGreatDoor
open Go.RowKit

end Go.Proofs.YtbjlfhabnjpdmaaGreatDoor
namespace Go.Proofs.YtbjlfhabnjpdmaaGreatDoor
open Go.RowKit

end Go.Proofs.YtbjlfhabnjpdmaaGreatDoor
namespace Go.Proofs.YtbjlfhabnjpdmaaGreatDoor
open Go.RowKit

end Go.Proofs.YtbjlfhabnjpdmaaGreatDoor
