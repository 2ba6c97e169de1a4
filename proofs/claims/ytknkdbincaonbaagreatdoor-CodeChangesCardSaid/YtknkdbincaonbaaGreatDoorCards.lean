/-
  DERIVED. GIVEN WITH THE SEED: THE CARDS: each row of YtknkdbincaonbaaGreatDoorRows.lean that lists a variable, with what it lists TIED to the program's text (the seventh form; the later family's looks); each row that meets fmt, with fmt's text TOLD by the authors' own Lean function (tested against real Go, not proved from fmt's source: count such statements apart). THE CARD IS WHAT COUNTS. Prove the row's statement (the work); the ties are given (YtknkdbincaonbaaGreatDoorTie.lean); close each card by the builder's one call (the guide's Derived/Test/ToyasCard.lean, 'card_holds'). Laid BY PROGRAM, IN A SANDBOX (cutbox-door.mjs). By AI agents, Wed Nov 11 2026. No macro, syntax, notation, axiom, sorry.
-/
import Derived.Test.YtknkdbincaonbaaGreatDoorRows
import GoSem.ClaimSeven
namespace Go.Proofs.YtknkdbincaonbaaGreatDoor
namespace Rows

/-- THE TIED CARD OF 'palisadelaw09.CodeEncodes'. -/
def codeEncodesCard : Claim7 := { stood := { row := codeEncodesRow, standIns := [], harness := (true, "949c9c51e4dbada13ada43c8998ae0c1990191e280277071bc35dcfcc800ea2b"), looks := true }, kinds := [], alts := [], laidByText := true, laidKinds := [.data, .data], laidTests := true, laidLooks := .later }
def CodeEncodesCardSaid : Prop := Claim7.holds Tryz.pinned (.plain (OpenSpec.ofChange codeEncodesSpec)) codeEncodesCard

/-- THE TIED CARD OF 'palisadelaw09.CodeWrong'. -/
def codeWrongCard : Claim7 := { stood := { row := codeWrongRow, standIns := [], harness := (true, "949c9c51e4dbada13ada43c8998ae0c1990191e280277071bc35dcfcc800ea2b"), looks := true }, kinds := [], alts := [], laidByText := true, laidKinds := [.data, .data], laidTests := true, laidLooks := .later }
def CodeWrongCardSaid : Prop := Claim7.holds Tryz.pinned (.plain (OpenSpec.ofChange codeWrongSpec)) codeWrongCard

/-- THE TIED CARD OF 'palisadelaw09.CodeChanges'. -/
def codeChangesCard : Claim7 := { stood := { row := codeChangesRow, standIns := [], harness := (true, "949c9c51e4dbada13ada43c8998ae0c1990191e280277071bc35dcfcc800ea2b"), looks := true }, kinds := [], alts := [], laidByText := true, laidKinds := [.data, .data], laidTests := true, laidLooks := .later }
def CodeChangesCardSaid : Prop := Claim7.holds Tryz.pinned (.plain (OpenSpec.ofChange codeChangesSpec)) codeChangesCard

/-- THE TIED CARD OF 'palisadelaw09.CodeCopies'. -/
def codeCopiesCard : Claim7 := { stood := { row := codeCopiesRow, standIns := [], harness := (true, "949c9c51e4dbada13ada43c8998ae0c1990191e280277071bc35dcfcc800ea2b"), looks := true }, kinds := [], alts := [], laidByText := true, laidKinds := [.data, .data], laidTests := true, laidLooks := .later }
def CodeCopiesCardSaid : Prop := Claim7.holds Tryz.pinned (.plain (OpenSpec.ofChange codeCopiesSpec)) codeCopiesCard

/-- THE TIED CARD OF 'palisadelaw09.CodeHolds'. -/
def codeHoldsCard : Claim7 := { stood := { row := codeHoldsRow, standIns := [], harness := (true, "949c9c51e4dbada13ada43c8998ae0c1990191e280277071bc35dcfcc800ea2b"), looks := true }, kinds := [], alts := [], laidByText := true, laidKinds := [.data, .data], laidTests := true, laidLooks := .later }
def CodeHoldsCardSaid : Prop := Claim7.holds Tryz.pinned (.plain (OpenSpec.ofChange codeHoldsSpec)) codeHoldsCard

/-- THE SECOND FORM's CARD OF 'palisadelaw09.CodeEncodes'. -/
def codeEncodesUptoCard : Claim7 := { stood := { row := codeEncodesUptoRow, standIns := [], harness := (true, "949c9c51e4dbada13ada43c8998ae0c1990191e280277071bc35dcfcc800ea2b"), looks := true }, kinds := [], alts := [], laidByText := true, laidKinds := [.data, .data], laidTests := true, laidLooks := .later }
def CodeEncodesUptoCardSaid : Prop := Claim7.holds Tryz.pinned (.plain (OpenSpec.upto codeEncodesSpec)) codeEncodesUptoCard

/-- THE SECOND FORM's CARD OF 'palisadelaw09.CodeWrong'. -/
def codeWrongUptoCard : Claim7 := { stood := { row := codeWrongUptoRow, standIns := [], harness := (true, "949c9c51e4dbada13ada43c8998ae0c1990191e280277071bc35dcfcc800ea2b"), looks := true }, kinds := [], alts := [], laidByText := true, laidKinds := [.data, .data], laidTests := true, laidLooks := .later }
def CodeWrongUptoCardSaid : Prop := Claim7.holds Tryz.pinned (.plain (OpenSpec.upto codeWrongSpec)) codeWrongUptoCard

/-- THE SECOND FORM's CARD OF 'palisadelaw09.CodeChanges'. -/
def codeChangesUptoCard : Claim7 := { stood := { row := codeChangesUptoRow, standIns := [], harness := (true, "949c9c51e4dbada13ada43c8998ae0c1990191e280277071bc35dcfcc800ea2b"), looks := true }, kinds := [], alts := [], laidByText := true, laidKinds := [.data, .data], laidTests := true, laidLooks := .later }
def CodeChangesUptoCardSaid : Prop := Claim7.holds Tryz.pinned (.plain (OpenSpec.upto codeChangesSpec)) codeChangesUptoCard

/-- THE SECOND FORM's CARD OF 'palisadelaw09.CodeCopies'. -/
def codeCopiesUptoCard : Claim7 := { stood := { row := codeCopiesUptoRow, standIns := [], harness := (true, "949c9c51e4dbada13ada43c8998ae0c1990191e280277071bc35dcfcc800ea2b"), looks := true }, kinds := [], alts := [], laidByText := true, laidKinds := [.data, .data], laidTests := true, laidLooks := .later }
def CodeCopiesUptoCardSaid : Prop := Claim7.holds Tryz.pinned (.plain (OpenSpec.upto codeCopiesSpec)) codeCopiesUptoCard

/-- THE SECOND FORM's CARD OF 'palisadelaw09.CodeHolds'. -/
def codeHoldsUptoCard : Claim7 := { stood := { row := codeHoldsUptoRow, standIns := [], harness := (true, "949c9c51e4dbada13ada43c8998ae0c1990191e280277071bc35dcfcc800ea2b"), looks := true }, kinds := [], alts := [], laidByText := true, laidKinds := [.data, .data], laidTests := true, laidLooks := .later }
def CodeHoldsUptoCardSaid : Prop := Claim7.holds Tryz.pinned (.plain (OpenSpec.upto codeHoldsSpec)) codeHoldsUptoCard
end Rows
end Go.Proofs.YtknkdbincaonbaaGreatDoor
