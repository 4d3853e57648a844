/-
  DERIVED. GIVEN WITH THE SEED: THE CARDS: each row of YtiflkkelbnpniabDoorRows.lean that lists a variable, with what it lists TIED to the program's text (the seventh form; the later family's looks); each row that meets fmt, with fmt's text TOLD by the authors' own Lean function (tested against real Go, not proved from fmt's source: count such statements apart). THE CARD IS WHAT COUNTS. Prove the row's statement (the work); the ties are given (YtiflkkelbnpniabDoorTie.lean); close each card by the builder's one call (the guide's Derived/Test/ToyasCard.lean, 'card_holds'). Laid BY PROGRAM, IN A SANDBOX (cutbox-door.mjs). By AI agents, Wed Nov 11 2026. No macro, syntax, notation, axiom, sorry.
-/
import Derived.Test.YtiflkkelbnpniabDoorRows
import GoSem.ClaimSeven
namespace Go.Proofs.YtiflkkelbnpniabDoor
namespace Rows

/-- THE TIED CARD OF 'landlaw7.ClientWays'. -/
def clientWaysCard : Claim7 := { stood := { row := clientWaysRow, standIns := [], harness := (true, "04597bf20dc647f0ad355f71454846862ba83a1f5a20f922fb0c6ab9ee63bf7a"), looks := false }, kinds := [], alts := [], laidByText := true, laidKinds := [.data], laidTests := true, laidLooks := .later }
def ClientWaysCardSaid : Prop := Claim7.holds Tryd.pinned (.plain (OpenSpec.ofChange clientWaysSpec)) clientWaysCard

/-- THE SECOND FORM's CARD OF 'landlaw7.ClientWays'. -/
def clientWaysUptoCard : Claim7 := { stood := { row := clientWaysUptoRow, standIns := [], harness := (true, "04597bf20dc647f0ad355f71454846862ba83a1f5a20f922fb0c6ab9ee63bf7a"), looks := false }, kinds := [], alts := [], laidByText := true, laidKinds := [.data], laidTests := true, laidLooks := .later }
def ClientWaysUptoCardSaid : Prop := Claim7.holds Tryd.pinned (.plain (OpenSpec.upto clientWaysSpec)) clientWaysUptoCard
end Rows
end Go.Proofs.YtiflkkelbnpniabDoor
