/-
  DERIVED. GIVEN WITH THE SEED: THE CARDS: each row of YtooemgkjkngpcaaGreatDoorRows.lean that lists a variable, with what it lists TIED to the program's text (the seventh form; the later family's looks); each row that meets fmt, with fmt's text TOLD by the authors' own Lean function (tested against real Go, not proved from fmt's source: count such statements apart). THE CARD IS WHAT COUNTS. Prove the row's statement (the work); the ties are given (YtooemgkjkngpcaaGreatDoorTie.lean); close each card by the builder's one call (the guide's Derived/Test/ToyasCard.lean, 'card_holds'). Laid BY PROGRAM, IN A SANDBOX (cutbox-door.mjs). By AI agents, Wed Nov 11 2026. No macro, syntax, notation, axiom, sorry.
-/
import Derived.Test.YtooemgkjkngpcaaGreatDoorRows
import GoSem.ClaimSeven
namespace Go.Proofs.YtooemgkjkngpcaaGreatDoor
namespace Rows

/-- THE TIED CARD OF 'landlaw8.StateTells'. -/
def stateTellsCard : Claim7 := { stood := { row := stateTellsRow, standIns := [], harness := (true, "50e7ea15cbff5e9cad651c100cc2783285221607377406a92f119c54463b2eff"), looks := false }, kinds := [], alts := [], laidByText := true, laidKinds := [.data, .data, .data, .data], laidTests := true, laidLooks := .later }
def StateTellsCardSaid : Prop := Claim7.holds Tryz.pinned (.plain (OpenSpec.ofChange stateTellsSpec)) stateTellsCard

/-- THE TIED CARD OF 'landlaw9.ConnTells'. -/
def connTellsCard : Claim7 := { stood := { row := connTellsRow, standIns := [], harness := (true, "50e7ea15cbff5e9cad651c100cc2783285221607377406a92f119c54463b2eff"), looks := false }, kinds := [], alts := [], laidByText := true, laidKinds := [.data, .data, .data, .data], laidTests := true, laidLooks := .later }
def ConnTellsCardSaid : Prop := Claim7.holds Tryz.pinned (.plain (OpenSpec.ofChange connTellsSpec)) connTellsCard

/-- THE TIED CARD OF 'landlaw9.ConnShown'. -/
def connShownCard : Claim7 := { stood := { row := connShownRow, standIns := [], harness := (true, "50e7ea15cbff5e9cad651c100cc2783285221607377406a92f119c54463b2eff"), looks := false }, kinds := [], alts := [], laidByText := true, laidKinds := [.data, .data, .data, .data], laidTests := true, laidLooks := .later }
def ConnShownCardSaid : Prop := Claim7.holds Tryz.pinned (.plain (OpenSpec.ofChange connShownSpec)) connShownCard

/-- THE TIED CARD OF 'landlaw9.ConnOnce'. -/
def connOnceCard : Claim7 := { stood := { row := connOnceRow, standIns := [], harness := (true, "50e7ea15cbff5e9cad651c100cc2783285221607377406a92f119c54463b2eff"), looks := false }, kinds := [], alts := [], laidByText := true, laidKinds := [.data, .data, .data, .data], laidTests := true, laidLooks := .later }
def ConnOnceCardSaid : Prop := Claim7.holds Tryz.pinned (.plain (OpenSpec.ofChange connOnceSpec)) connOnceCard

/-- THE SECOND FORM's CARD OF 'landlaw8.StateTells'. -/
def stateTellsUptoCard : Claim7 := { stood := { row := stateTellsUptoRow, standIns := [], harness := (true, "50e7ea15cbff5e9cad651c100cc2783285221607377406a92f119c54463b2eff"), looks := false }, kinds := [], alts := [], laidByText := true, laidKinds := [.data, .data, .data, .data], laidTests := true, laidLooks := .later }
def StateTellsUptoCardSaid : Prop := Claim7.holds Tryz.pinned (.plain (OpenSpec.upto stateTellsSpec)) stateTellsUptoCard

/-- THE SECOND FORM's CARD OF 'landlaw9.ConnTells'. -/
def connTellsUptoCard : Claim7 := { stood := { row := connTellsUptoRow, standIns := [], harness := (true, "50e7ea15cbff5e9cad651c100cc2783285221607377406a92f119c54463b2eff"), looks := false }, kinds := [], alts := [], laidByText := true, laidKinds := [.data, .data, .data, .data], laidTests := true, laidLooks := .later }
def ConnTellsUptoCardSaid : Prop := Claim7.holds Tryz.pinned (.plain (OpenSpec.upto connTellsSpec)) connTellsUptoCard

/-- THE SECOND FORM's CARD OF 'landlaw9.ConnShown'. -/
def connShownUptoCard : Claim7 := { stood := { row := connShownUptoRow, standIns := [], harness := (true, "50e7ea15cbff5e9cad651c100cc2783285221607377406a92f119c54463b2eff"), looks := false }, kinds := [], alts := [], laidByText := true, laidKinds := [.data, .data, .data, .data], laidTests := true, laidLooks := .later }
def ConnShownUptoCardSaid : Prop := Claim7.holds Tryz.pinned (.plain (OpenSpec.upto connShownSpec)) connShownUptoCard

/-- THE SECOND FORM's CARD OF 'landlaw9.ConnOnce'. -/
def connOnceUptoCard : Claim7 := { stood := { row := connOnceUptoRow, standIns := [], harness := (true, "50e7ea15cbff5e9cad651c100cc2783285221607377406a92f119c54463b2eff"), looks := false }, kinds := [], alts := [], laidByText := true, laidKinds := [.data, .data, .data, .data], laidTests := true, laidLooks := .later }
def ConnOnceUptoCardSaid : Prop := Claim7.holds Tryz.pinned (.plain (OpenSpec.upto connOnceSpec)) connOnceUptoCard
end Rows
end Go.Proofs.YtooemgkjkngpcaaGreatDoor
