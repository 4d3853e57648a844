/-
  DERIVED. GIVEN WITH THE SEED: THE CARDS: each row of YtfpngilmdgeikaaDoorRows.lean that lists a variable, with what it lists TIED to the program's text (the seventh form; the later family's looks); each row that meets fmt, with fmt's text TOLD by the authors' own Lean function (tested against real Go, not proved from fmt's source: count such statements apart). THE CARD IS WHAT COUNTS. Prove the row's statement (the work); the ties are given (YtfpngilmdgeikaaDoorTie.lean); close each card by the builder's one call (the guide's Derived/Test/ToyasCard.lean, 'card_holds'). Laid BY PROGRAM, IN A SANDBOX (cutbox-door.mjs). By AI agents, Wed Nov 11 2026. No macro, syntax, notation, axiom, sorry.
-/
import Derived.Test.YtfpngilmdgeikaaDoorRows
import GoSem.ClaimSeven
namespace Go.Proofs.YtfpngilmdgeikaaDoor
namespace Rows

/-- THE TIED CARD OF 'landlaw6.HeaderTells'. -/
def headerTellsCard : Claim7 := { stood := { row := headerTellsRow, standIns := [], harness := (true, "1da4d51208bd66cd5650093ddf64a9b284be251557653c29bbecd58a6f1fced6"), looks := false }, kinds := [], alts := [], laidByText := true, laidKinds := [.data], laidTests := true, laidLooks := .later }
def HeaderTellsCardSaid : Prop := Claim7.holds Tryd.pinned (.plain (OpenSpec.ofChange headerTellsSpec)) headerTellsCard

/-- THE TIED CARD OF 'landlaw6.HeaderVoted'. -/
def headerVotedCard : Claim7 := { stood := { row := headerVotedRow, standIns := [], harness := (true, "1da4d51208bd66cd5650093ddf64a9b284be251557653c29bbecd58a6f1fced6"), looks := false }, kinds := [], alts := [], laidByText := true, laidKinds := [.data], laidTests := true, laidLooks := .later }
def HeaderVotedCardSaid : Prop := Claim7.holds Tryd.pinned (.plain (OpenSpec.ofChange headerVotedSpec)) headerVotedCard

/-- THE TIED CARD OF 'landlaw6.HeaderEdited'. -/
def headerEditedCard : Claim7 := { stood := { row := headerEditedRow, standIns := [], harness := (true, "1da4d51208bd66cd5650093ddf64a9b284be251557653c29bbecd58a6f1fced6"), looks := false }, kinds := [], alts := [], laidByText := true, laidKinds := [.data], laidTests := true, laidLooks := .later }
def HeaderEditedCardSaid : Prop := Claim7.holds Tryd.pinned (.plain (OpenSpec.ofChange headerEditedSpec)) headerEditedCard

/-- THE TIED CARD OF 'landlaw6.HeaderMeet'. -/
def headerMeetCard : Claim7 := { stood := { row := headerMeetRow, standIns := [], harness := (true, "1da4d51208bd66cd5650093ddf64a9b284be251557653c29bbecd58a6f1fced6"), looks := false }, kinds := [], alts := [], laidByText := true, laidKinds := [.data], laidTests := true, laidLooks := .later }
def HeaderMeetCardSaid : Prop := Claim7.holds Tryd.pinned (.plain (OpenSpec.ofChange headerMeetSpec)) headerMeetCard

/-- THE TIED CARD OF 'landlaw6.HeaderMore'. -/
def headerMoreCard : Claim7 := { stood := { row := headerMoreRow, standIns := [], harness := (true, "1da4d51208bd66cd5650093ddf64a9b284be251557653c29bbecd58a6f1fced6"), looks := false }, kinds := [], alts := [], laidByText := true, laidKinds := [.data], laidTests := true, laidLooks := .later }
def HeaderMoreCardSaid : Prop := Claim7.holds Tryd.pinned (.plain (OpenSpec.ofChange headerMoreSpec)) headerMoreCard

/-- THE TIED CARD OF 'landlaw6.HeaderUnlike'. -/
def headerUnlikeCard : Claim7 := { stood := { row := headerUnlikeRow, standIns := [], harness := (true, "1da4d51208bd66cd5650093ddf64a9b284be251557653c29bbecd58a6f1fced6"), looks := false }, kinds := [], alts := [], laidByText := true, laidKinds := [.data], laidTests := true, laidLooks := .later }
def HeaderUnlikeCardSaid : Prop := Claim7.holds Tryd.pinned (.plain (OpenSpec.ofChange headerUnlikeSpec)) headerUnlikeCard

/-- THE TIED CARD OF 'landlaw7.ClientShown'. -/
def clientShownCard : Claim7 := { stood := { row := clientShownRow, standIns := [], harness := (true, "1da4d51208bd66cd5650093ddf64a9b284be251557653c29bbecd58a6f1fced6"), looks := false }, kinds := [], alts := [], laidByText := true, laidKinds := [.data], laidTests := true, laidLooks := .later }
def ClientShownCardSaid : Prop := Claim7.holds Tryd.pinned (.plain (OpenSpec.ofChange clientShownSpec)) clientShownCard

/-- THE TIED CARD OF 'landlaw7.ClientKeeps'. -/
def clientKeepsCard : Claim7 := { stood := { row := clientKeepsRow, standIns := [], harness := (true, "1da4d51208bd66cd5650093ddf64a9b284be251557653c29bbecd58a6f1fced6"), looks := false }, kinds := [], alts := [], laidByText := true, laidKinds := [.data], laidTests := true, laidLooks := .later }
def ClientKeepsCardSaid : Prop := Claim7.holds Tryd.pinned (.plain (OpenSpec.ofChange clientKeepsSpec)) clientKeepsCard

/-- THE TIED CARD OF 'landlaw7.ClientTwice'. -/
def clientTwiceCard : Claim7 := { stood := { row := clientTwiceRow, standIns := [], harness := (true, "1da4d51208bd66cd5650093ddf64a9b284be251557653c29bbecd58a6f1fced6"), looks := false }, kinds := [], alts := [], laidByText := true, laidKinds := [.data], laidTests := true, laidLooks := .later }
def ClientTwiceCardSaid : Prop := Claim7.holds Tryd.pinned (.plain (OpenSpec.ofChange clientTwiceSpec)) clientTwiceCard

/-- THE TIED CARD OF 'landlaw7.ClientWays'. -/
def clientWaysCard : Claim7 := { stood := { row := clientWaysRow, standIns := [], harness := (true, "1da4d51208bd66cd5650093ddf64a9b284be251557653c29bbecd58a6f1fced6"), looks := false }, kinds := [], alts := [], laidByText := true, laidKinds := [.data], laidTests := true, laidLooks := .later }
def ClientWaysCardSaid : Prop := Claim7.holds Tryd.pinned (.plain (OpenSpec.ofChange clientWaysSpec)) clientWaysCard

/-- THE SECOND FORM's CARD OF 'landlaw6.HeaderTells'. -/
def headerTellsUptoCard : Claim7 := { stood := { row := headerTellsUptoRow, standIns := [], harness := (true, "1da4d51208bd66cd5650093ddf64a9b284be251557653c29bbecd58a6f1fced6"), looks := false }, kinds := [], alts := [], laidByText := true, laidKinds := [.data], laidTests := true, laidLooks := .later }
def HeaderTellsUptoCardSaid : Prop := Claim7.holds Tryd.pinned (.plain (OpenSpec.upto headerTellsSpec)) headerTellsUptoCard

/-- THE SECOND FORM's CARD OF 'landlaw6.HeaderVoted'. -/
def headerVotedUptoCard : Claim7 := { stood := { row := headerVotedUptoRow, standIns := [], harness := (true, "1da4d51208bd66cd5650093ddf64a9b284be251557653c29bbecd58a6f1fced6"), looks := false }, kinds := [], alts := [], laidByText := true, laidKinds := [.data], laidTests := true, laidLooks := .later }
def HeaderVotedUptoCardSaid : Prop := Claim7.holds Tryd.pinned (.plain (OpenSpec.upto headerVotedSpec)) headerVotedUptoCard

/-- THE SECOND FORM's CARD OF 'landlaw6.HeaderEdited'. -/
def headerEditedUptoCard : Claim7 := { stood := { row := headerEditedUptoRow, standIns := [], harness := (true, "1da4d51208bd66cd5650093ddf64a9b284be251557653c29bbecd58a6f1fced6"), looks := false }, kinds := [], alts := [], laidByText := true, laidKinds := [.data], laidTests := true, laidLooks := .later }
def HeaderEditedUptoCardSaid : Prop := Claim7.holds Tryd.pinned (.plain (OpenSpec.upto headerEditedSpec)) headerEditedUptoCard

/-- THE SECOND FORM's CARD OF 'landlaw6.HeaderMeet'. -/
def headerMeetUptoCard : Claim7 := { stood := { row := headerMeetUptoRow, standIns := [], harness := (true, "1da4d51208bd66cd5650093ddf64a9b284be251557653c29bbecd58a6f1fced6"), looks := false }, kinds := [], alts := [], laidByText := true, laidKinds := [.data], laidTests := true, laidLooks := .later }
def HeaderMeetUptoCardSaid : Prop := Claim7.holds Tryd.pinned (.plain (OpenSpec.upto headerMeetSpec)) headerMeetUptoCard

/-- THE SECOND FORM's CARD OF 'landlaw6.HeaderMore'. -/
def headerMoreUptoCard : Claim7 := { stood := { row := headerMoreUptoRow, standIns := [], harness := (true, "1da4d51208bd66cd5650093ddf64a9b284be251557653c29bbecd58a6f1fced6"), looks := false }, kinds := [], alts := [], laidByText := true, laidKinds := [.data], laidTests := true, laidLooks := .later }
def HeaderMoreUptoCardSaid : Prop := Claim7.holds Tryd.pinned (.plain (OpenSpec.upto headerMoreSpec)) headerMoreUptoCard

/-- THE SECOND FORM's CARD OF 'landlaw6.HeaderUnlike'. -/
def headerUnlikeUptoCard : Claim7 := { stood := { row := headerUnlikeUptoRow, standIns := [], harness := (true, "1da4d51208bd66cd5650093ddf64a9b284be251557653c29bbecd58a6f1fced6"), looks := false }, kinds := [], alts := [], laidByText := true, laidKinds := [.data], laidTests := true, laidLooks := .later }
def HeaderUnlikeUptoCardSaid : Prop := Claim7.holds Tryd.pinned (.plain (OpenSpec.upto headerUnlikeSpec)) headerUnlikeUptoCard

/-- THE SECOND FORM's CARD OF 'landlaw7.ClientShown'. -/
def clientShownUptoCard : Claim7 := { stood := { row := clientShownUptoRow, standIns := [], harness := (true, "1da4d51208bd66cd5650093ddf64a9b284be251557653c29bbecd58a6f1fced6"), looks := false }, kinds := [], alts := [], laidByText := true, laidKinds := [.data], laidTests := true, laidLooks := .later }
def ClientShownUptoCardSaid : Prop := Claim7.holds Tryd.pinned (.plain (OpenSpec.upto clientShownSpec)) clientShownUptoCard

/-- THE SECOND FORM's CARD OF 'landlaw7.ClientKeeps'. -/
def clientKeepsUptoCard : Claim7 := { stood := { row := clientKeepsUptoRow, standIns := [], harness := (true, "1da4d51208bd66cd5650093ddf64a9b284be251557653c29bbecd58a6f1fced6"), looks := false }, kinds := [], alts := [], laidByText := true, laidKinds := [.data], laidTests := true, laidLooks := .later }
def ClientKeepsUptoCardSaid : Prop := Claim7.holds Tryd.pinned (.plain (OpenSpec.upto clientKeepsSpec)) clientKeepsUptoCard

/-- THE SECOND FORM's CARD OF 'landlaw7.ClientTwice'. -/
def clientTwiceUptoCard : Claim7 := { stood := { row := clientTwiceUptoRow, standIns := [], harness := (true, "1da4d51208bd66cd5650093ddf64a9b284be251557653c29bbecd58a6f1fced6"), looks := false }, kinds := [], alts := [], laidByText := true, laidKinds := [.data], laidTests := true, laidLooks := .later }
def ClientTwiceUptoCardSaid : Prop := Claim7.holds Tryd.pinned (.plain (OpenSpec.upto clientTwiceSpec)) clientTwiceUptoCard

/-- THE SECOND FORM's CARD OF 'landlaw7.ClientWays'. -/
def clientWaysUptoCard : Claim7 := { stood := { row := clientWaysUptoRow, standIns := [], harness := (true, "1da4d51208bd66cd5650093ddf64a9b284be251557653c29bbecd58a6f1fced6"), looks := false }, kinds := [], alts := [], laidByText := true, laidKinds := [.data], laidTests := true, laidLooks := .later }
def ClientWaysUptoCardSaid : Prop := Claim7.holds Tryd.pinned (.plain (OpenSpec.upto clientWaysSpec)) clientWaysUptoCard
end Rows
end Go.Proofs.YtfpngilmdgeikaaDoor
