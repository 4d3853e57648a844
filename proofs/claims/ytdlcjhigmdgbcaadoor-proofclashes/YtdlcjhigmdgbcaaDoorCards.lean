/-
  DERIVED. GIVEN WITH THE SEED: THE CARDS: each row of YtdlcjhigmdgbcaaDoorRows.lean that lists a variable, with what it lists TIED to the program's text (the seventh form; the later family's looks); each row that meets fmt, with fmt's text TOLD by the authors' own Lean function (tested against real Go, not proved from fmt's source: count such statements apart). THE CARD IS WHAT COUNTS. Prove the row's statement (the work); the ties are given (YtdlcjhigmdgbcaaDoorTie.lean); close each card by the builder's one call (the guide's Derived/Test/ToyasCard.lean, 'card_holds'). Laid BY PROGRAM, IN A SANDBOX (cutbox-door.mjs). By AI agents, Wed Nov 11 2026. No macro, syntax, notation, axiom, sorry.
-/
import Derived.Test.YtdlcjhigmdgbcaaDoorRows
import GoSem.ClaimSeven
namespace Go.Proofs.YtdlcjhigmdgbcaaDoor
namespace Rows

/-- THE TIED CARD OF 'landlaw5.ProofGood'. -/
def proofGoodCard : Claim7 := { stood := { row := proofGoodRow, standIns := [], harness := (true, "5b41dd6f63d1696e23d01663816831e402e3b6b9537283b232e7ef04b1bcb359"), looks := false }, kinds := [], alts := [], laidByText := true, laidKinds := [.data], laidTests := true, laidLooks := .later }
def ProofGoodCardSaid : Prop := Claim7.holds Tryd.pinned (.plain (OpenSpec.ofChange proofGoodSpec)) proofGoodCard

/-- THE TIED CARD OF 'landlaw5.ProofClash'. -/
def proofClashCard : Claim7 := { stood := { row := proofClashRow, standIns := [], harness := (true, "5b41dd6f63d1696e23d01663816831e402e3b6b9537283b232e7ef04b1bcb359"), looks := false }, kinds := [], alts := [], laidByText := true, laidKinds := [.data], laidTests := true, laidLooks := .later }
def ProofClashCardSaid : Prop := Claim7.holds Tryd.pinned (.plain (OpenSpec.ofChange proofClashSpec)) proofClashCard

/-- THE TIED CARD OF 'landlaw5.ProofClashes'. -/
def proofClashesCard : Claim7 := { stood := { row := proofClashesRow, standIns := [], harness := (true, "5b41dd6f63d1696e23d01663816831e402e3b6b9537283b232e7ef04b1bcb359"), looks := false }, kinds := [], alts := [], laidByText := true, laidKinds := [.data], laidTests := true, laidLooks := .later }
def ProofClashesCardSaid : Prop := Claim7.holds Tryd.pinned (.plain (OpenSpec.ofChange proofClashesSpec)) proofClashesCard

/-- THE TIED CARD OF 'landlaw5.ProofBoth'. -/
def proofBothCard : Claim7 := { stood := { row := proofBothRow, standIns := [], harness := (true, "5b41dd6f63d1696e23d01663816831e402e3b6b9537283b232e7ef04b1bcb359"), looks := false }, kinds := [], alts := [], laidByText := true, laidKinds := [.data], laidTests := true, laidLooks := .later }
def ProofBothCardSaid : Prop := Claim7.holds Tryd.pinned (.plain (OpenSpec.ofChange proofBothSpec)) proofBothCard

/-- THE TIED CARD OF 'landlaw5.ProofEdited'. -/
def proofEditedCard : Claim7 := { stood := { row := proofEditedRow, standIns := [], harness := (true, "5b41dd6f63d1696e23d01663816831e402e3b6b9537283b232e7ef04b1bcb359"), looks := false }, kinds := [], alts := [], laidByText := true, laidKinds := [.data], laidTests := true, laidLooks := .later }
def ProofEditedCardSaid : Prop := Claim7.holds Tryd.pinned (.plain (OpenSpec.ofChange proofEditedSpec)) proofEditedCard

/-- THE TIED CARD OF 'landlaw5.ProofShort'. -/
def proofShortCard : Claim7 := { stood := { row := proofShortRow, standIns := [], harness := (true, "5b41dd6f63d1696e23d01663816831e402e3b6b9537283b232e7ef04b1bcb359"), looks := false }, kinds := [], alts := [], laidByText := true, laidKinds := [.data], laidTests := true, laidLooks := .later }
def ProofShortCardSaid : Prop := Claim7.holds Tryd.pinned (.plain (OpenSpec.ofChange proofShortSpec)) proofShortCard

/-- THE SECOND FORM's CARD OF 'landlaw5.ProofGood'. -/
def proofGoodUptoCard : Claim7 := { stood := { row := proofGoodUptoRow, standIns := [], harness := (true, "5b41dd6f63d1696e23d01663816831e402e3b6b9537283b232e7ef04b1bcb359"), looks := false }, kinds := [], alts := [], laidByText := true, laidKinds := [.data], laidTests := true, laidLooks := .later }
def ProofGoodUptoCardSaid : Prop := Claim7.holds Tryd.pinned (.plain (OpenSpec.upto proofGoodSpec)) proofGoodUptoCard

/-- THE SECOND FORM's CARD OF 'landlaw5.ProofClash'. -/
def proofClashUptoCard : Claim7 := { stood := { row := proofClashUptoRow, standIns := [], harness := (true, "5b41dd6f63d1696e23d01663816831e402e3b6b9537283b232e7ef04b1bcb359"), looks := false }, kinds := [], alts := [], laidByText := true, laidKinds := [.data], laidTests := true, laidLooks := .later }
def ProofClashUptoCardSaid : Prop := Claim7.holds Tryd.pinned (.plain (OpenSpec.upto proofClashSpec)) proofClashUptoCard

/-- THE SECOND FORM's CARD OF 'landlaw5.ProofClashes'. -/
def proofClashesUptoCard : Claim7 := { stood := { row := proofClashesUptoRow, standIns := [], harness := (true, "5b41dd6f63d1696e23d01663816831e402e3b6b9537283b232e7ef04b1bcb359"), looks := false }, kinds := [], alts := [], laidByText := true, laidKinds := [.data], laidTests := true, laidLooks := .later }
def ProofClashesUptoCardSaid : Prop := Claim7.holds Tryd.pinned (.plain (OpenSpec.upto proofClashesSpec)) proofClashesUptoCard

/-- THE SECOND FORM's CARD OF 'landlaw5.ProofBoth'. -/
def proofBothUptoCard : Claim7 := { stood := { row := proofBothUptoRow, standIns := [], harness := (true, "5b41dd6f63d1696e23d01663816831e402e3b6b9537283b232e7ef04b1bcb359"), looks := false }, kinds := [], alts := [], laidByText := true, laidKinds := [.data], laidTests := true, laidLooks := .later }
def ProofBothUptoCardSaid : Prop := Claim7.holds Tryd.pinned (.plain (OpenSpec.upto proofBothSpec)) proofBothUptoCard

/-- THE SECOND FORM's CARD OF 'landlaw5.ProofEdited'. -/
def proofEditedUptoCard : Claim7 := { stood := { row := proofEditedUptoRow, standIns := [], harness := (true, "5b41dd6f63d1696e23d01663816831e402e3b6b9537283b232e7ef04b1bcb359"), looks := false }, kinds := [], alts := [], laidByText := true, laidKinds := [.data], laidTests := true, laidLooks := .later }
def ProofEditedUptoCardSaid : Prop := Claim7.holds Tryd.pinned (.plain (OpenSpec.upto proofEditedSpec)) proofEditedUptoCard

/-- THE SECOND FORM's CARD OF 'landlaw5.ProofShort'. -/
def proofShortUptoCard : Claim7 := { stood := { row := proofShortUptoRow, standIns := [], harness := (true, "5b41dd6f63d1696e23d01663816831e402e3b6b9537283b232e7ef04b1bcb359"), looks := false }, kinds := [], alts := [], laidByText := true, laidKinds := [.data], laidTests := true, laidLooks := .later }
def ProofShortUptoCardSaid : Prop := Claim7.holds Tryd.pinned (.plain (OpenSpec.upto proofShortSpec)) proofShortUptoCard
end Rows
end Go.Proofs.YtdlcjhigmdgbcaaDoor
