/-
  DERIVED. GIVEN WITH THE SEED: THE CARDS: each row of YtclhcjiblfokaaaGreatDoorRows.lean that lists a variable, with what it lists TIED to the program's text (the seventh form; the later family's looks); each row that meets fmt, with fmt's text TOLD by the authors' own Lean function (tested against real Go, not proved from fmt's source: count such statements apart). THE CARD IS WHAT COUNTS. Prove the row's statement (the work); the ties are given (YtclhcjiblfokaaaGreatDoorTie.lean); close each card by the builder's one call (the guide's Derived/Test/ToyasCard.lean, 'card_holds'). Laid BY PROGRAM, IN A SANDBOX (cutbox-door.mjs). By AI agents, Wed Nov 11 2026. No macro, syntax, notation, axiom, sorry.
-/
import Derived.Test.YtclhcjiblfokaaaGreatDoorRows
import GoSem.ClaimSeven
namespace Go.Proofs.YtclhcjiblfokaaaGreatDoor
namespace Rows

/-- THE TIED CARD OF 'landlaw11.PacketTells'. -/
def packetTellsCard : Claim7 := { stood := { row := packetTellsRow, standIns := [], harness := (true, "bbc6a84a387a4a660d616911005f91a2a7ba341b552f1203b4504f398c08dcb1"), looks := false }, kinds := [], alts := [], laidByText := true, laidKinds := [.data, .data, .data, .data], laidTests := true, laidLooks := .later }
def PacketTellsCardSaid : Prop := Claim7.holds Tryz.pinned (.plain (OpenSpec.ofChange packetTellsSpec)) packetTellsCard

/-- THE TIED CARD OF 'landlaw11.PacketOnce'. -/
def packetOnceCard : Claim7 := { stood := { row := packetOnceRow, standIns := [], harness := (true, "bbc6a84a387a4a660d616911005f91a2a7ba341b552f1203b4504f398c08dcb1"), looks := false }, kinds := [], alts := [], laidByText := true, laidKinds := [.data, .data, .data, .data], laidTests := true, laidLooks := .later }
def PacketOnceCardSaid : Prop := Claim7.holds Tryz.pinned (.plain (OpenSpec.ofChange packetOnceSpec)) packetOnceCard

/-- THE TIED CARD OF 'landlaw11.PacketNumbers'. -/
def packetNumbersCard : Claim7 := { stood := { row := packetNumbersRow, standIns := [], harness := (true, "bbc6a84a387a4a660d616911005f91a2a7ba341b552f1203b4504f398c08dcb1"), looks := false }, kinds := [], alts := [], laidByText := true, laidKinds := [.data, .data, .data, .data], laidTests := true, laidLooks := .later }
def PacketNumbersCardSaid : Prop := Claim7.holds Tryz.pinned (.plain (OpenSpec.ofChange packetNumbersSpec)) packetNumbersCard

/-- THE TIED CARD OF 'landlaw11.PacketPlaces'. -/
def packetPlacesCard : Claim7 := { stood := { row := packetPlacesRow, standIns := [], harness := (true, "bbc6a84a387a4a660d616911005f91a2a7ba341b552f1203b4504f398c08dcb1"), looks := false }, kinds := [], alts := [], laidByText := true, laidKinds := [.data, .data, .data, .data], laidTests := true, laidLooks := .later }
def PacketPlacesCardSaid : Prop := Claim7.holds Tryz.pinned (.plain (OpenSpec.ofChange packetPlacesSpec)) packetPlacesCard

/-- THE SECOND FORM's CARD OF 'landlaw11.PacketTells'. -/
def packetTellsUptoCard : Claim7 := { stood := { row := packetTellsUptoRow, standIns := [], harness := (true, "bbc6a84a387a4a660d616911005f91a2a7ba341b552f1203b4504f398c08dcb1"), looks := false }, kinds := [], alts := [], laidByText := true, laidKinds := [.data, .data, .data, .data], laidTests := true, laidLooks := .later }
def PacketTellsUptoCardSaid : Prop := Claim7.holds Tryz.pinned (.plain (OpenSpec.upto packetTellsSpec)) packetTellsUptoCard

/-- THE SECOND FORM's CARD OF 'landlaw11.PacketOnce'. -/
def packetOnceUptoCard : Claim7 := { stood := { row := packetOnceUptoRow, standIns := [], harness := (true, "bbc6a84a387a4a660d616911005f91a2a7ba341b552f1203b4504f398c08dcb1"), looks := false }, kinds := [], alts := [], laidByText := true, laidKinds := [.data, .data, .data, .data], laidTests := true, laidLooks := .later }
def PacketOnceUptoCardSaid : Prop := Claim7.holds Tryz.pinned (.plain (OpenSpec.upto packetOnceSpec)) packetOnceUptoCard

/-- THE SECOND FORM's CARD OF 'landlaw11.PacketNumbers'. -/
def packetNumbersUptoCard : Claim7 := { stood := { row := packetNumbersUptoRow, standIns := [], harness := (true, "bbc6a84a387a4a660d616911005f91a2a7ba341b552f1203b4504f398c08dcb1"), looks := false }, kinds := [], alts := [], laidByText := true, laidKinds := [.data, .data, .data, .data], laidTests := true, laidLooks := .later }
def PacketNumbersUptoCardSaid : Prop := Claim7.holds Tryz.pinned (.plain (OpenSpec.upto packetNumbersSpec)) packetNumbersUptoCard

/-- THE SECOND FORM's CARD OF 'landlaw11.PacketPlaces'. -/
def packetPlacesUptoCard : Claim7 := { stood := { row := packetPlacesUptoRow, standIns := [], harness := (true, "bbc6a84a387a4a660d616911005f91a2a7ba341b552f1203b4504f398c08dcb1"), looks := false }, kinds := [], alts := [], laidByText := true, laidKinds := [.data, .data, .data, .data], laidTests := true, laidLooks := .later }
def PacketPlacesUptoCardSaid : Prop := Claim7.holds Tryz.pinned (.plain (OpenSpec.upto packetPlacesSpec)) packetPlacesUptoCard
end Rows
end Go.Proofs.YtclhcjiblfokaaaGreatDoor
