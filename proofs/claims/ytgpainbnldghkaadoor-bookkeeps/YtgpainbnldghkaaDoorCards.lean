/-
  DERIVED. GIVEN WITH THE SEED: THE CARDS: each row of YtgpainbnldghkaaDoorRows.lean that lists a variable, with what it lists TIED to the program's text (the seventh form; the later family's looks); each row that meets fmt, with fmt's text TOLD by the authors' own Lean function (tested against real Go, not proved from fmt's source: count such statements apart). THE CARD IS WHAT COUNTS. Prove the row's statement (the work); the ties are given (YtgpainbnldghkaaDoorTie.lean); close each card by the builder's one call (the guide's Derived/Test/ToyasCard.lean, 'card_holds'). Laid BY PROGRAM, IN A SANDBOX (cutbox-door.mjs). By AI agents, Wed Nov 11 2026. No macro, syntax, notation, axiom, sorry.
-/
import Derived.Test.YtgpainbnldghkaaDoorRows
import GoSem.ClaimSeven
namespace Go.Proofs.YtgpainbnldghkaaDoor
namespace Rows

/-- THE TIED CARD OF 'landlaw4.BookTells'. -/
def bookTellsCard : Claim7 := { stood := { row := bookTellsRow, standIns := [], harness := (true, "8c629c4a0032c68c0f8d4e6690e13099c122c3b0b7e821d7adca73c94edb8d1b"), looks := false }, kinds := [], alts := [], laidByText := true, laidKinds := [.data], laidTests := true, laidLooks := .later }
def BookTellsCardSaid : Prop := Claim7.holds Tryd.pinned (.plain (OpenSpec.ofChange bookTellsSpec)) bookTellsCard

/-- THE TIED CARD OF 'landlaw4.BookKeeps'. -/
def bookKeepsCard : Claim7 := { stood := { row := bookKeepsRow, standIns := [], harness := (true, "8c629c4a0032c68c0f8d4e6690e13099c122c3b0b7e821d7adca73c94edb8d1b"), looks := false }, kinds := [], alts := [], laidByText := true, laidKinds := [.data], laidTests := true, laidLooks := .later }
def BookKeepsCardSaid : Prop := Claim7.holds Tryd.pinned (.plain (OpenSpec.ofChange bookKeepsSpec)) bookKeepsCard

/-- THE TIED CARD OF 'landlaw4.BookPast'. -/
def bookPastCard : Claim7 := { stood := { row := bookPastRow, standIns := [], harness := (true, "8c629c4a0032c68c0f8d4e6690e13099c122c3b0b7e821d7adca73c94edb8d1b"), looks := false }, kinds := [], alts := [], laidByText := true, laidKinds := [.data], laidTests := true, laidLooks := .later }
def BookPastCardSaid : Prop := Claim7.holds Tryd.pinned (.plain (OpenSpec.ofChange bookPastSpec)) bookPastCard

/-- THE TIED CARD OF 'landlaw4.BookRoot'. -/
def bookRootCard : Claim7 := { stood := { row := bookRootRow, standIns := [], harness := (true, "8c629c4a0032c68c0f8d4e6690e13099c122c3b0b7e821d7adca73c94edb8d1b"), looks := false }, kinds := [], alts := [], laidByText := true, laidKinds := [.data], laidTests := true, laidLooks := .later }
def BookRootCardSaid : Prop := Claim7.holds Tryd.pinned (.plain (OpenSpec.ofChange bookRootSpec)) bookRootCard

/-- THE SECOND FORM's CARD OF 'landlaw4.BookTells'. -/
def bookTellsUptoCard : Claim7 := { stood := { row := bookTellsUptoRow, standIns := [], harness := (true, "8c629c4a0032c68c0f8d4e6690e13099c122c3b0b7e821d7adca73c94edb8d1b"), looks := false }, kinds := [], alts := [], laidByText := true, laidKinds := [.data], laidTests := true, laidLooks := .later }
def BookTellsUptoCardSaid : Prop := Claim7.holds Tryd.pinned (.plain (OpenSpec.upto bookTellsSpec)) bookTellsUptoCard

/-- THE SECOND FORM's CARD OF 'landlaw4.BookKeeps'. -/
def bookKeepsUptoCard : Claim7 := { stood := { row := bookKeepsUptoRow, standIns := [], harness := (true, "8c629c4a0032c68c0f8d4e6690e13099c122c3b0b7e821d7adca73c94edb8d1b"), looks := false }, kinds := [], alts := [], laidByText := true, laidKinds := [.data], laidTests := true, laidLooks := .later }
def BookKeepsUptoCardSaid : Prop := Claim7.holds Tryd.pinned (.plain (OpenSpec.upto bookKeepsSpec)) bookKeepsUptoCard

/-- THE SECOND FORM's CARD OF 'landlaw4.BookPast'. -/
def bookPastUptoCard : Claim7 := { stood := { row := bookPastUptoRow, standIns := [], harness := (true, "8c629c4a0032c68c0f8d4e6690e13099c122c3b0b7e821d7adca73c94edb8d1b"), looks := false }, kinds := [], alts := [], laidByText := true, laidKinds := [.data], laidTests := true, laidLooks := .later }
def BookPastUptoCardSaid : Prop := Claim7.holds Tryd.pinned (.plain (OpenSpec.upto bookPastSpec)) bookPastUptoCard

/-- THE SECOND FORM's CARD OF 'landlaw4.BookRoot'. -/
def bookRootUptoCard : Claim7 := { stood := { row := bookRootUptoRow, standIns := [], harness := (true, "8c629c4a0032c68c0f8d4e6690e13099c122c3b0b7e821d7adca73c94edb8d1b"), looks := false }, kinds := [], alts := [], laidByText := true, laidKinds := [.data], laidTests := true, laidLooks := .later }
def BookRootUptoCardSaid : Prop := Claim7.holds Tryd.pinned (.plain (OpenSpec.upto bookRootSpec)) bookRootUptoCard
end Rows
end Go.Proofs.YtgpainbnldghkaaDoor
