/-
  DERIVED. GIVEN WITH THE SEED: THE CARDS: each row of YtcahoigdoohjaaaGreatDoorRows.lean that lists a variable, with what it lists TIED to the program's text (the seventh form; the later family's looks); each row that meets fmt, with fmt's text TOLD by the authors' own Lean function (tested against real Go, not proved from fmt's source: count such statements apart). THE CARD IS WHAT COUNTS. Prove the row's statement (the work); the ties are given (YtcahoigdoohjaaaGreatDoorTie.lean); close each card by the builder's one call (the guide's Derived/Test/ToyasCard.lean, 'card_holds'). Laid BY PROGRAM, IN A SANDBOX (cutbox-door.mjs). By AI agents, Wed Nov 11 2026. No macro, syntax, notation, axiom, sorry.
-/
import Derived.Test.YtcahoigdoohjaaaGreatDoorRows
import GoSem.ClaimSeven
namespace Go.Proofs.YtcahoigdoohjaaaGreatDoor
namespace Rows

/-- THE TIED CARD OF 'palisadelaw09.CodeEncodes'. -/
def codeEncodesCard : Claim7 := { stood := { row := codeEncodesRow, standIns := [], harness := (true, "7a0749fccd180dd1b1ae0f2f239991957551ec38c83e64890ec513dd8a8a5173"), looks := true }, kinds := [], alts := [], laidByText := true, laidKinds := [.data, .data], laidTests := true, laidLooks := .later }
def CodeEncodesCardSaid : Prop := Claim7.holds Tryz.pinned (.plain (OpenSpec.ofChange codeEncodesSpec)) codeEncodesCard

/-- THE TIED CARD OF 'palisadelaw09.CodeFills'. -/
def codeFillsCard : Claim7 := { stood := { row := codeFillsRow, standIns := [], harness := (true, "7a0749fccd180dd1b1ae0f2f239991957551ec38c83e64890ec513dd8a8a5173"), looks := true }, kinds := [], alts := [], laidByText := true, laidKinds := [.data, .data], laidTests := true, laidLooks := .later }
def CodeFillsCardSaid : Prop := Claim7.holds Tryz.pinned (.plain (OpenSpec.ofChange codeFillsSpec)) codeFillsCard

/-- THE TIED CARD OF 'palisadelaw09.CodeWrong'. -/
def codeWrongCard : Claim7 := { stood := { row := codeWrongRow, standIns := [], harness := (true, "7a0749fccd180dd1b1ae0f2f239991957551ec38c83e64890ec513dd8a8a5173"), looks := true }, kinds := [], alts := [], laidByText := true, laidKinds := [.data, .data], laidTests := true, laidLooks := .later }
def CodeWrongCardSaid : Prop := Claim7.holds Tryz.pinned (.plain (OpenSpec.ofChange codeWrongSpec)) codeWrongCard

/-- THE TIED CARD OF 'palisadelaw09.CodeChanges'. -/
def codeChangesCard : Claim7 := { stood := { row := codeChangesRow, standIns := [], harness := (true, "7a0749fccd180dd1b1ae0f2f239991957551ec38c83e64890ec513dd8a8a5173"), looks := true }, kinds := [], alts := [], laidByText := true, laidKinds := [.data, .data], laidTests := true, laidLooks := .later }
def CodeChangesCardSaid : Prop := Claim7.holds Tryz.pinned (.plain (OpenSpec.ofChange codeChangesSpec)) codeChangesCard

/-- THE TIED CARD OF 'palisadelaw09.CodeCopies'. -/
def codeCopiesCard : Claim7 := { stood := { row := codeCopiesRow, standIns := [], harness := (true, "7a0749fccd180dd1b1ae0f2f239991957551ec38c83e64890ec513dd8a8a5173"), looks := true }, kinds := [], alts := [], laidByText := true, laidKinds := [.data, .data], laidTests := true, laidLooks := .later }
def CodeCopiesCardSaid : Prop := Claim7.holds Tryz.pinned (.plain (OpenSpec.ofChange codeCopiesSpec)) codeCopiesCard

/-- THE TIED CARD OF 'palisadelaw09.CodeHolds'. -/
def codeHoldsCard : Claim7 := { stood := { row := codeHoldsRow, standIns := [], harness := (true, "7a0749fccd180dd1b1ae0f2f239991957551ec38c83e64890ec513dd8a8a5173"), looks := true }, kinds := [], alts := [], laidByText := true, laidKinds := [.data, .data], laidTests := true, laidLooks := .later }
def CodeHoldsCardSaid : Prop := Claim7.holds Tryz.pinned (.plain (OpenSpec.ofChange codeHoldsSpec)) codeHoldsCard

/-- THE TIED CARD OF 'palisadelaw09.CodeUndoes'. -/
def codeUndoesCard : Claim7 := { stood := { row := codeUndoesRow, standIns := [], harness := (true, "7a0749fccd180dd1b1ae0f2f239991957551ec38c83e64890ec513dd8a8a5173"), looks := true }, kinds := [], alts := [], laidByText := true, laidKinds := [.data, .data], laidTests := true, laidLooks := .later }
def CodeUndoesCardSaid : Prop := Claim7.holds Tryz.pinned (.plain (OpenSpec.ofChange codeUndoesSpec)) codeUndoesCard

/-- THE TIED CARD OF 'palisadelaw09.CodeBytes'. -/
def codeBytesCard : Claim7 := { stood := { row := codeBytesRow, standIns := [], harness := (true, "7a0749fccd180dd1b1ae0f2f239991957551ec38c83e64890ec513dd8a8a5173"), looks := true }, kinds := [], alts := [], laidByText := true, laidKinds := [.data, .data], laidTests := true, laidLooks := .later }
def CodeBytesCardSaid : Prop := Claim7.holds Tryz.pinned (.plain (OpenSpec.ofChange codeBytesSpec)) codeBytesCard

/-- THE SECOND FORM's CARD OF 'palisadelaw09.CodeEncodes'. -/
def codeEncodesUptoCard : Claim7 := { stood := { row := codeEncodesUptoRow, standIns := [], harness := (true, "7a0749fccd180dd1b1ae0f2f239991957551ec38c83e64890ec513dd8a8a5173"), looks := true }, kinds := [], alts := [], laidByText := true, laidKinds := [.data, .data], laidTests := true, laidLooks := .later }
def CodeEncodesUptoCardSaid : Prop := Claim7.holds Tryz.pinned (.plain (OpenSpec.upto codeEncodesSpec)) codeEncodesUptoCard

/-- THE SECOND FORM's CARD OF 'palisadelaw09.CodeFills'. -/
def codeFillsUptoCard : Claim7 := { stood := { row := codeFillsUptoRow, standIns := [], harness := (true, "7a0749fccd180dd1b1ae0f2f239991957551ec38c83e64890ec513dd8a8a5173"), looks := true }, kinds := [], alts := [], laidByText := true, laidKinds := [.data, .data], laidTests := true, laidLooks := .later }
def CodeFillsUptoCardSaid : Prop := Claim7.holds Tryz.pinned (.plain (OpenSpec.upto codeFillsSpec)) codeFillsUptoCard

/-- THE SECOND FORM's CARD OF 'palisadelaw09.CodeWrong'. -/
def codeWrongUptoCard : Claim7 := { stood := { row := codeWrongUptoRow, standIns := [], harness := (true, "7a0749fccd180dd1b1ae0f2f239991957551ec38c83e64890ec513dd8a8a5173"), looks := true }, kinds := [], alts := [], laidByText := true, laidKinds := [.data, .data], laidTests := true, laidLooks := .later }
def CodeWrongUptoCardSaid : Prop := Claim7.holds Tryz.pinned (.plain (OpenSpec.upto codeWrongSpec)) codeWrongUptoCard

/-- THE SECOND FORM's CARD OF 'palisadelaw09.CodeChanges'. -/
def codeChangesUptoCard : Claim7 := { stood := { row := codeChangesUptoRow, standIns := [], harness := (true, "7a0749fccd180dd1b1ae0f2f239991957551ec38c83e64890ec513dd8a8a5173"), looks := true }, kinds := [], alts := [], laidByText := true, laidKinds := [.data, .data], laidTests := true, laidLooks := .later }
def CodeChangesUptoCardSaid : Prop := Claim7.holds Tryz.pinned (.plain (OpenSpec.upto codeChangesSpec)) codeChangesUptoCard

/-- THE SECOND FORM's CARD OF 'palisadelaw09.CodeCopies'. -/
def codeCopiesUptoCard : Claim7 := { stood := { row := codeCopiesUptoRow, standIns := [], harness := (true, "7a0749fccd180dd1b1ae0f2f239991957551ec38c83e64890ec513dd8a8a5173"), looks := true }, kinds := [], alts := [], laidByText := true, laidKinds := [.data, .data], laidTests := true, laidLooks := .later }
def CodeCopiesUptoCardSaid : Prop := Claim7.holds Tryz.pinned (.plain (OpenSpec.upto codeCopiesSpec)) codeCopiesUptoCard

/-- THE SECOND FORM's CARD OF 'palisadelaw09.CodeHolds'. -/
def codeHoldsUptoCard : Claim7 := { stood := { row := codeHoldsUptoRow, standIns := [], harness := (true, "7a0749fccd180dd1b1ae0f2f239991957551ec38c83e64890ec513dd8a8a5173"), looks := true }, kinds := [], alts := [], laidByText := true, laidKinds := [.data, .data], laidTests := true, laidLooks := .later }
def CodeHoldsUptoCardSaid : Prop := Claim7.holds Tryz.pinned (.plain (OpenSpec.upto codeHoldsSpec)) codeHoldsUptoCard

/-- THE SECOND FORM's CARD OF 'palisadelaw09.CodeUndoes'. -/
def codeUndoesUptoCard : Claim7 := { stood := { row := codeUndoesUptoRow, standIns := [], harness := (true, "7a0749fccd180dd1b1ae0f2f239991957551ec38c83e64890ec513dd8a8a5173"), looks := true }, kinds := [], alts := [], laidByText := true, laidKinds := [.data, .data], laidTests := true, laidLooks := .later }
def CodeUndoesUptoCardSaid : Prop := Claim7.holds Tryz.pinned (.plain (OpenSpec.upto codeUndoesSpec)) codeUndoesUptoCard

/-- THE SECOND FORM's CARD OF 'palisadelaw09.CodeBytes'. -/
def codeBytesUptoCard : Claim7 := { stood := { row := codeBytesUptoRow, standIns := [], harness := (true, "7a0749fccd180dd1b1ae0f2f239991957551ec38c83e64890ec513dd8a8a5173"), looks := true }, kinds := [], alts := [], laidByText := true, laidKinds := [.data, .data], laidTests := true, laidLooks := .later }
def CodeBytesUptoCardSaid : Prop := Claim7.holds Tryz.pinned (.plain (OpenSpec.upto codeBytesSpec)) codeBytesUptoCard
end Rows
end Go.Proofs.YtcahoigdoohjaaaGreatDoor
