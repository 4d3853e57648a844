/-
  DERIVED. GIVEN WITH THE SEED: THE CARDS: each row of YtiflkkelbnpniaaDoorRows.lean that lists a variable, with what it lists TIED to the program's text (the seventh form; the later family's looks); each row that meets fmt, with fmt's text TOLD by the authors' own Lean function (tested against real Go, not proved from fmt's source: count such statements apart). THE CARD IS WHAT COUNTS. Prove the row's statement (the work); the ties are given (YtiflkkelbnpniaaDoorTie.lean); close each card by the builder's one call (the guide's Derived/Test/ToyasCard.lean, 'card_holds'). Laid BY PROGRAM, IN A SANDBOX (cutbox-door.mjs). By AI agents, Wed Nov 11 2026. No macro, syntax, notation, axiom, sorry.
-/
import Derived.Test.YtiflkkelbnpniaaDoorRows
import GoSem.ClaimSeven
namespace Go.Proofs.YtiflkkelbnpniaaDoor
namespace Rows

/-- THE TIED CARD OF 'landlaw7.ClientShown'. -/
def clientShownCard : Claim7 := { stood := { row := clientShownRow, standIns := [], harness := (true, "8e65542cae51dd256d481b95656f8f94413d812f5b585cf5038ce0a6b617a68c"), looks := false }, kinds := [], alts := [], laidByText := true, laidKinds := [.data], laidTests := true, laidLooks := .later }
def ClientShownCardSaid : Prop := Claim7.holds Tryd.pinned (.plain (OpenSpec.ofChange clientShownSpec)) clientShownCard

/-- THE TIED CARD OF 'landlaw7.ClientKeeps'. -/
def clientKeepsCard : Claim7 := { stood := { row := clientKeepsRow, standIns := [], harness := (true, "8e65542cae51dd256d481b95656f8f94413d812f5b585cf5038ce0a6b617a68c"), looks := false }, kinds := [], alts := [], laidByText := true, laidKinds := [.data], laidTests := true, laidLooks := .later }
def ClientKeepsCardSaid : Prop := Claim7.holds Tryd.pinned (.plain (OpenSpec.ofChange clientKeepsSpec)) clientKeepsCard

/-- THE TIED CARD OF 'landlaw7.ClientTwice'. -/
def clientTwiceCard : Claim7 := { stood := { row := clientTwiceRow, standIns := [], harness := (true, "8e65542cae51dd256d481b95656f8f94413d812f5b585cf5038ce0a6b617a68c"), looks := false }, kinds := [], alts := [], laidByText := true, laidKinds := [.data], laidTests := true, laidLooks := .later }
def ClientTwiceCardSaid : Prop := Claim7.holds Tryd.pinned (.plain (OpenSpec.ofChange clientTwiceSpec)) clientTwiceCard

/-- THE SECOND FORM's CARD OF 'landlaw7.ClientShown'. -/
def clientShownUptoCard : Claim7 := { stood := { row := clientShownUptoRow, standIns := [], harness := (true, "8e65542cae51dd256d481b95656f8f94413d812f5b585cf5038ce0a6b617a68c"), looks := false }, kinds := [], alts := [], laidByText := true, laidKinds := [.data], laidTests := true, laidLooks := .later }
def ClientShownUptoCardSaid : Prop := Claim7.holds Tryd.pinned (.plain (OpenSpec.upto clientShownSpec)) clientShownUptoCard

/-- THE SECOND FORM's CARD OF 'landlaw7.ClientKeeps'. -/
def clientKeepsUptoCard : Claim7 := { stood := { row := clientKeepsUptoRow, standIns := [], harness := (true, "8e65542cae51dd256d481b95656f8f94413d812f5b585cf5038ce0a6b617a68c"), looks := false }, kinds := [], alts := [], laidByText := true, laidKinds := [.data], laidTests := true, laidLooks := .later }
def ClientKeepsUptoCardSaid : Prop := Claim7.holds Tryd.pinned (.plain (OpenSpec.upto clientKeepsSpec)) clientKeepsUptoCard

/-- THE SECOND FORM's CARD OF 'landlaw7.ClientTwice'. -/
def clientTwiceUptoCard : Claim7 := { stood := { row := clientTwiceUptoRow, standIns := [], harness := (true, "8e65542cae51dd256d481b95656f8f94413d812f5b585cf5038ce0a6b617a68c"), looks := false }, kinds := [], alts := [], laidByText := true, laidKinds := [.data], laidTests := true, laidLooks := .later }
def ClientTwiceUptoCardSaid : Prop := Claim7.holds Tryd.pinned (.plain (OpenSpec.upto clientTwiceSpec)) clientTwiceUptoCard
end Rows
end Go.Proofs.YtiflkkelbnpniaaDoor
