/-
  DERIVED. GIVEN WITH THE SEED: THE CARDS: each row of YtiflkkelbnpniaaGreatDoorRows.lean that lists a variable, with what it lists TIED to the program's text (the seventh form; the later family's looks); each row that meets fmt, with fmt's text TOLD by the authors' own Lean function (tested against real Go, not proved from fmt's source: count such statements apart). THE CARD IS WHAT COUNTS. Prove the row's statement (the work); the ties are given (YtiflkkelbnpniaaGreatDoorTie.lean); close each card by the builder's one call (the guide's Derived/Test/ToyasCard.lean, 'card_holds'). Laid BY PROGRAM, IN A SANDBOX (cutbox-door.mjs). By AI agents, Wed Nov 11 2026. No macro, syntax, notation, axiom, sorry.
-/
import Derived.Test.YtiflkkelbnpniaaGreatDoorRows
import GoSem.ClaimSeven
namespace Go.Proofs.YtiflkkelbnpniaaGreatDoor
namespace Rows

/-- THE TIED CARD OF 'landlaw7.ClientTells'. -/
def clientTellsCard : Claim7 := { stood := { row := clientTellsRow, standIns := [], harness := (true, "c920165f91cd2b213fd01a8c4aeec8365f8ddfe6f378170e35b87ba730d41b9a"), looks := false }, kinds := [], alts := [], laidByText := true, laidKinds := [.data], laidTests := true, laidLooks := .later }
def ClientTellsCardSaid : Prop := Claim7.holds Tryz.pinned (.plain (OpenSpec.ofChange clientTellsSpec)) clientTellsCard

/-- THE TIED CARD OF 'landlaw7.ClientVoted'. -/
def clientVotedCard : Claim7 := { stood := { row := clientVotedRow, standIns := [], harness := (true, "c920165f91cd2b213fd01a8c4aeec8365f8ddfe6f378170e35b87ba730d41b9a"), looks := false }, kinds := [], alts := [], laidByText := true, laidKinds := [.data], laidTests := true, laidLooks := .later }
def ClientVotedCardSaid : Prop := Claim7.holds Tryz.pinned (.plain (OpenSpec.ofChange clientVotedSpec)) clientVotedCard

/-- THE TIED CARD OF 'landlaw7.ClientFrozen'. -/
def clientFrozenCard : Claim7 := { stood := { row := clientFrozenRow, standIns := [], harness := (true, "c920165f91cd2b213fd01a8c4aeec8365f8ddfe6f378170e35b87ba730d41b9a"), looks := false }, kinds := [], alts := [], laidByText := true, laidKinds := [.data], laidTests := true, laidLooks := .later }
def ClientFrozenCardSaid : Prop := Claim7.holds Tryz.pinned (.plain (OpenSpec.ofChange clientFrozenSpec)) clientFrozenCard

/-- THE SECOND FORM's CARD OF 'landlaw7.ClientTells'. -/
def clientTellsUptoCard : Claim7 := { stood := { row := clientTellsUptoRow, standIns := [], harness := (true, "c920165f91cd2b213fd01a8c4aeec8365f8ddfe6f378170e35b87ba730d41b9a"), looks := false }, kinds := [], alts := [], laidByText := true, laidKinds := [.data], laidTests := true, laidLooks := .later }
def ClientTellsUptoCardSaid : Prop := Claim7.holds Tryz.pinned (.plain (OpenSpec.upto clientTellsSpec)) clientTellsUptoCard

/-- THE SECOND FORM's CARD OF 'landlaw7.ClientVoted'. -/
def clientVotedUptoCard : Claim7 := { stood := { row := clientVotedUptoRow, standIns := [], harness := (true, "c920165f91cd2b213fd01a8c4aeec8365f8ddfe6f378170e35b87ba730d41b9a"), looks := false }, kinds := [], alts := [], laidByText := true, laidKinds := [.data], laidTests := true, laidLooks := .later }
def ClientVotedUptoCardSaid : Prop := Claim7.holds Tryz.pinned (.plain (OpenSpec.upto clientVotedSpec)) clientVotedUptoCard

/-- THE SECOND FORM's CARD OF 'landlaw7.ClientFrozen'. -/
def clientFrozenUptoCard : Claim7 := { stood := { row := clientFrozenUptoRow, standIns := [], harness := (true, "c920165f91cd2b213fd01a8c4aeec8365f8ddfe6f378170e35b87ba730d41b9a"), looks := false }, kinds := [], alts := [], laidByText := true, laidKinds := [.data], laidTests := true, laidLooks := .later }
def ClientFrozenUptoCardSaid : Prop := Claim7.holds Tryz.pinned (.plain (OpenSpec.upto clientFrozenSpec)) clientFrozenUptoCard
end Rows
end Go.Proofs.YtiflkkelbnpniaaGreatDoor
