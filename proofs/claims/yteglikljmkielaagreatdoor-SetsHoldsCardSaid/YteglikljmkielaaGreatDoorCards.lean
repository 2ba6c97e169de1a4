/-
  DERIVED. GIVEN WITH THE SEED: THE CARDS: each row of YteglikljmkielaaGreatDoorRows.lean that lists a variable, with what it lists TIED to the program's text (the seventh form; the later family's looks); each row that meets fmt, with fmt's text TOLD by the authors' own Lean function (tested against real Go, not proved from fmt's source: count such statements apart). THE CARD IS WHAT COUNTS. Prove the row's statement (the work); the ties are given (YteglikljmkielaaGreatDoorTie.lean); close each card by the builder's one call (the guide's Derived/Test/ToyasCard.lean, 'card_holds'). Laid BY PROGRAM, IN A SANDBOX (cutbox-door.mjs). By AI agents, Wed Nov 11 2026. No macro, syntax, notation, axiom, sorry.
-/
import Derived.Test.YteglikljmkielaaGreatDoorRows
import GoSem.ClaimSeven
namespace Go.Proofs.YteglikljmkielaaGreatDoor
namespace Rows

/-- THE TIED CARD OF 'palisadelaw05.SetsMembers'. -/
def setsMembersCard : Claim7 := { stood := { row := setsMembersRow, standIns := [], harness := (true, "fd5a28708ced5b06a8d6d3658bcebd85ec5b36f9fc6e4b62bc77e712fff0968f"), looks := false }, kinds := [], alts := [], laidByText := true, laidKinds := [.data, .data], laidTests := true, laidLooks := .later }
def SetsMembersCardSaid : Prop := Claim7.holds Tryz.pinned (.plain (OpenSpec.ofChange setsMembersSpec)) setsMembersCard

/-- THE TIED CARD OF 'palisadelaw05.SetsTouched'. -/
def setsTouchedCard : Claim7 := { stood := { row := setsTouchedRow, standIns := [], harness := (true, "fd5a28708ced5b06a8d6d3658bcebd85ec5b36f9fc6e4b62bc77e712fff0968f"), looks := false }, kinds := [], alts := [], laidByText := true, laidKinds := [.data, .data], laidTests := true, laidLooks := .later }
def SetsTouchedCardSaid : Prop := Claim7.holds Tryz.pinned (.plain (OpenSpec.ofChange setsTouchedSpec)) setsTouchedCard

/-- THE TIED CARD OF 'palisadelaw05.SetsLines'. -/
def setsLinesCard : Claim7 := { stood := { row := setsLinesRow, standIns := [], harness := (true, "fd5a28708ced5b06a8d6d3658bcebd85ec5b36f9fc6e4b62bc77e712fff0968f"), looks := false }, kinds := [], alts := [], laidByText := true, laidKinds := [.data, .data], laidTests := true, laidLooks := .later }
def SetsLinesCardSaid : Prop := Claim7.holds Tryz.pinned (.plain (OpenSpec.ofChange setsLinesSpec)) setsLinesCard

/-- THE TIED CARD OF 'palisadelaw05.SetsHolds'. -/
def setsHoldsCard : Claim7 := { stood := { row := setsHoldsRow, standIns := [], harness := (true, "fd5a28708ced5b06a8d6d3658bcebd85ec5b36f9fc6e4b62bc77e712fff0968f"), looks := false }, kinds := [], alts := [], laidByText := true, laidKinds := [.data, .data], laidTests := true, laidLooks := .later }
def SetsHoldsCardSaid : Prop := Claim7.holds Tryz.pinned (.plain (OpenSpec.ofChange setsHoldsSpec)) setsHoldsCard

/-- THE TIED CARD OF 'palisadelaw05.SetsCounts'. -/
def setsCountsCard : Claim7 := { stood := { row := setsCountsRow, standIns := [], harness := (true, "fd5a28708ced5b06a8d6d3658bcebd85ec5b36f9fc6e4b62bc77e712fff0968f"), looks := false }, kinds := [], alts := [], laidByText := true, laidKinds := [.data, .data], laidTests := true, laidLooks := .later }
def SetsCountsCardSaid : Prop := Claim7.holds Tryz.pinned (.plain (OpenSpec.ofChange setsCountsSpec)) setsCountsCard

/-- THE SECOND FORM's CARD OF 'palisadelaw05.SetsMembers'. -/
def setsMembersUptoCard : Claim7 := { stood := { row := setsMembersUptoRow, standIns := [], harness := (true, "fd5a28708ced5b06a8d6d3658bcebd85ec5b36f9fc6e4b62bc77e712fff0968f"), looks := false }, kinds := [], alts := [], laidByText := true, laidKinds := [.data, .data], laidTests := true, laidLooks := .later }
def SetsMembersUptoCardSaid : Prop := Claim7.holds Tryz.pinned (.plain (OpenSpec.upto setsMembersSpec)) setsMembersUptoCard

/-- THE SECOND FORM's CARD OF 'palisadelaw05.SetsTouched'. -/
def setsTouchedUptoCard : Claim7 := { stood := { row := setsTouchedUptoRow, standIns := [], harness := (true, "fd5a28708ced5b06a8d6d3658bcebd85ec5b36f9fc6e4b62bc77e712fff0968f"), looks := false }, kinds := [], alts := [], laidByText := true, laidKinds := [.data, .data], laidTests := true, laidLooks := .later }
def SetsTouchedUptoCardSaid : Prop := Claim7.holds Tryz.pinned (.plain (OpenSpec.upto setsTouchedSpec)) setsTouchedUptoCard

/-- THE SECOND FORM's CARD OF 'palisadelaw05.SetsLines'. -/
def setsLinesUptoCard : Claim7 := { stood := { row := setsLinesUptoRow, standIns := [], harness := (true, "fd5a28708ced5b06a8d6d3658bcebd85ec5b36f9fc6e4b62bc77e712fff0968f"), looks := false }, kinds := [], alts := [], laidByText := true, laidKinds := [.data, .data], laidTests := true, laidLooks := .later }
def SetsLinesUptoCardSaid : Prop := Claim7.holds Tryz.pinned (.plain (OpenSpec.upto setsLinesSpec)) setsLinesUptoCard

/-- THE SECOND FORM's CARD OF 'palisadelaw05.SetsHolds'. -/
def setsHoldsUptoCard : Claim7 := { stood := { row := setsHoldsUptoRow, standIns := [], harness := (true, "fd5a28708ced5b06a8d6d3658bcebd85ec5b36f9fc6e4b62bc77e712fff0968f"), looks := false }, kinds := [], alts := [], laidByText := true, laidKinds := [.data, .data], laidTests := true, laidLooks := .later }
def SetsHoldsUptoCardSaid : Prop := Claim7.holds Tryz.pinned (.plain (OpenSpec.upto setsHoldsSpec)) setsHoldsUptoCard

/-- THE SECOND FORM's CARD OF 'palisadelaw05.SetsCounts'. -/
def setsCountsUptoCard : Claim7 := { stood := { row := setsCountsUptoRow, standIns := [], harness := (true, "fd5a28708ced5b06a8d6d3658bcebd85ec5b36f9fc6e4b62bc77e712fff0968f"), looks := false }, kinds := [], alts := [], laidByText := true, laidKinds := [.data, .data], laidTests := true, laidLooks := .later }
def SetsCountsUptoCardSaid : Prop := Claim7.holds Tryz.pinned (.plain (OpenSpec.upto setsCountsSpec)) setsCountsUptoCard
end Rows
end Go.Proofs.YteglikljmkielaaGreatDoor
