/-
  DERIVED. GIVEN WITH THE SEED: THE CARDS: each row of YtooemgkjkngpcaaDoorRows.lean that lists a variable, with what it lists TIED to the program's text (the seventh form; the later family's looks); each row that meets fmt, with fmt's text TOLD by the authors' own Lean function (tested against real Go, not proved from fmt's source: count such statements apart). THE CARD IS WHAT COUNTS. Prove the row's statement (the work); the ties are given (YtooemgkjkngpcaaDoorTie.lean); close each card by the builder's one call (the guide's Derived/Test/ToyasCard.lean, 'card_holds'). Laid BY PROGRAM, IN A SANDBOX (cutbox-door.mjs). By AI agents, Wed Nov 11 2026. No macro, syntax, notation, axiom, sorry.
-/
import Derived.Test.YtooemgkjkngpcaaDoorRows
import GoSem.ClaimSeven
namespace Go.Proofs.YtooemgkjkngpcaaDoor
namespace Rows

/-- THE TIED CARD OF 'landlaw8.StateBook'. -/
def stateBookCard : Claim7 := { stood := { row := stateBookRow, standIns := [], harness := (true, "bc4affef3e477a40d9e9fba950b9c8e8d639f84195e6f50ac5df1767975d1e9d"), looks := false }, kinds := [], alts := [], laidByText := true, laidKinds := [.data, .data, .data], laidTests := true, laidLooks := .later }
def StateBookCardSaid : Prop := Claim7.holds Tryd.pinned (.plain (OpenSpec.ofChange stateBookSpec)) stateBookCard

/-- THE TIED CARD OF 'landlaw8.StateUnlike'. -/
def stateUnlikeCard : Claim7 := { stood := { row := stateUnlikeRow, standIns := [], harness := (true, "bc4affef3e477a40d9e9fba950b9c8e8d639f84195e6f50ac5df1767975d1e9d"), looks := false }, kinds := [], alts := [], laidByText := true, laidKinds := [.data, .data, .data], laidTests := true, laidLooks := .later }
def StateUnlikeCardSaid : Prop := Claim7.holds Tryd.pinned (.plain (OpenSpec.ofChange stateUnlikeSpec)) stateUnlikeCard

/-- THE SECOND FORM's CARD OF 'landlaw8.StateBook'. -/
def stateBookUptoCard : Claim7 := { stood := { row := stateBookUptoRow, standIns := [], harness := (true, "bc4affef3e477a40d9e9fba950b9c8e8d639f84195e6f50ac5df1767975d1e9d"), looks := false }, kinds := [], alts := [], laidByText := true, laidKinds := [.data, .data, .data], laidTests := true, laidLooks := .later }
def StateBookUptoCardSaid : Prop := Claim7.holds Tryd.pinned (.plain (OpenSpec.upto stateBookSpec)) stateBookUptoCard

/-- THE SECOND FORM's CARD OF 'landlaw8.StateUnlike'. -/
def stateUnlikeUptoCard : Claim7 := { stood := { row := stateUnlikeUptoRow, standIns := [], harness := (true, "bc4affef3e477a40d9e9fba950b9c8e8d639f84195e6f50ac5df1767975d1e9d"), looks := false }, kinds := [], alts := [], laidByText := true, laidKinds := [.data, .data, .data], laidTests := true, laidLooks := .later }
def StateUnlikeUptoCardSaid : Prop := Claim7.holds Tryd.pinned (.plain (OpenSpec.upto stateUnlikeSpec)) stateUnlikeUptoCard
end Rows
end Go.Proofs.YtooemgkjkngpcaaDoor
