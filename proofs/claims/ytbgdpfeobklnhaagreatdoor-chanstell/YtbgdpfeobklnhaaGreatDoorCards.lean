/-
  DERIVED. GIVEN WITH THE SEED: THE CARDS: each row of YtbgdpfeobklnhaaGreatDoorRows.lean that lists a variable, with what it lists TIED to the program's text (the seventh form; the later family's looks); each row that meets fmt, with fmt's text TOLD by the authors' own Lean function (tested against real Go, not proved from fmt's source: count such statements apart). THE CARD IS WHAT COUNTS. Prove the row's statement (the work); the ties are given (YtbgdpfeobklnhaaGreatDoorTie.lean); close each card by the builder's one call (the guide's Derived/Test/ToyasCard.lean, 'card_holds'). Laid BY PROGRAM, IN A SANDBOX (cutbox-door.mjs). By AI agents, Wed Nov 11 2026. No macro, syntax, notation, axiom, sorry.
-/
import Derived.Test.YtbgdpfeobklnhaaGreatDoorRows
import GoSem.ClaimSeven
namespace Go.Proofs.YtbgdpfeobklnhaaGreatDoor
namespace Rows

/-- THE TIED CARD OF 'landlaw10.ChansTell'. -/
def chansTellCard : Claim7 := { stood := { row := chansTellRow, standIns := [], harness := (true, "980ce5b605e65b00fcec659877326ab4484d45c6c30ceed791209d6e8a730ca4"), looks := false }, kinds := [], alts := [], laidByText := true, laidKinds := [.data, .data, .data, .data], laidTests := true, laidLooks := .later }
def ChansTellCardSaid : Prop := Claim7.holds Tryz.pinned (.plain (OpenSpec.ofChange chansTellSpec)) chansTellCard

/-- THE TIED CARD OF 'landlaw10.ChansGo'. -/
def chansGoCard : Claim7 := { stood := { row := chansGoRow, standIns := [], harness := (true, "980ce5b605e65b00fcec659877326ab4484d45c6c30ceed791209d6e8a730ca4"), looks := false }, kinds := [], alts := [], laidByText := true, laidKinds := [.data, .data, .data, .data], laidTests := true, laidLooks := .later }
def ChansGoCardSaid : Prop := Claim7.holds Tryz.pinned (.plain (OpenSpec.ofChange chansGoSpec)) chansGoCard

/-- THE SECOND FORM's CARD OF 'landlaw10.ChansTell'. -/
def chansTellUptoCard : Claim7 := { stood := { row := chansTellUptoRow, standIns := [], harness := (true, "980ce5b605e65b00fcec659877326ab4484d45c6c30ceed791209d6e8a730ca4"), looks := false }, kinds := [], alts := [], laidByText := true, laidKinds := [.data, .data, .data, .data], laidTests := true, laidLooks := .later }
def ChansTellUptoCardSaid : Prop := Claim7.holds Tryz.pinned (.plain (OpenSpec.upto chansTellSpec)) chansTellUptoCard

/-- THE SECOND FORM's CARD OF 'landlaw10.ChansGo'. -/
def chansGoUptoCard : Claim7 := { stood := { row := chansGoUptoRow, standIns := [], harness := (true, "980ce5b605e65b00fcec659877326ab4484d45c6c30ceed791209d6e8a730ca4"), looks := false }, kinds := [], alts := [], laidByText := true, laidKinds := [.data, .data, .data, .data], laidTests := true, laidLooks := .later }
def ChansGoUptoCardSaid : Prop := Claim7.holds Tryz.pinned (.plain (OpenSpec.upto chansGoSpec)) chansGoUptoCard
end Rows
end Go.Proofs.YtbgdpfeobklnhaaGreatDoor
