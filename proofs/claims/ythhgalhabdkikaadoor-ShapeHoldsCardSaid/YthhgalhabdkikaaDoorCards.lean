/-
  DERIVED. GIVEN WITH THE SEED: THE CARDS: each row of YthhgalhabdkikaaDoorRows.lean that lists a variable, with what it lists TIED to the program's text (the seventh form; the later family's looks); each row that meets fmt, with fmt's text TOLD by the authors' own Lean function (tested against real Go, not proved from fmt's source: count such statements apart). THE CARD IS WHAT COUNTS. Prove the row's statement (the work); the ties are given (YthhgalhabdkikaaDoorTie.lean); close each card by the builder's one call (the guide's Derived/Test/ToyasCard.lean, 'card_holds'). Laid BY PROGRAM, IN A SANDBOX (cutbox-door.mjs). By AI agents, Wed Nov 11 2026. No macro, syntax, notation, axiom, sorry.
-/
import Derived.Test.YthhgalhabdkikaaDoorRows
import GoSem.ClaimSeven
namespace Go.Proofs.YthhgalhabdkikaaDoor
namespace Rows

/-- THE TIED CARD OF 'palisadelaw04.ShapeCodes'. -/
def shapeCodesCard : Claim7 := { stood := { row := shapeCodesRow, standIns := [], harness := (true, "3aba4878a496f87eddb946ece079d867d11059ee0fa3c499e9dd2c8354bed2c6"), looks := false }, kinds := [], alts := [], laidByText := true, laidKinds := [.data, .data], laidTests := true, laidLooks := .later }
def ShapeCodesCardSaid : Prop := Claim7.holds Tryd.pinned (.plain (OpenSpec.ofChange shapeCodesSpec)) shapeCodesCard

/-- THE TIED CARD OF 'palisadelaw04.ShapePlaces'. -/
def shapePlacesCard : Claim7 := { stood := { row := shapePlacesRow, standIns := [], harness := (true, "3aba4878a496f87eddb946ece079d867d11059ee0fa3c499e9dd2c8354bed2c6"), looks := false }, kinds := [], alts := [], laidByText := true, laidKinds := [.data, .data], laidTests := true, laidLooks := .later }
def ShapePlacesCardSaid : Prop := Claim7.holds Tryd.pinned (.plain (OpenSpec.ofChange shapePlacesSpec)) shapePlacesCard

/-- THE TIED CARD OF 'palisadelaw04.ShapeLines'. -/
def shapeLinesCard : Claim7 := { stood := { row := shapeLinesRow, standIns := [], harness := (true, "3aba4878a496f87eddb946ece079d867d11059ee0fa3c499e9dd2c8354bed2c6"), looks := false }, kinds := [], alts := [], laidByText := true, laidKinds := [.data, .data], laidTests := true, laidLooks := .later }
def ShapeLinesCardSaid : Prop := Claim7.holds Tryd.pinned (.plain (OpenSpec.ofChange shapeLinesSpec)) shapeLinesCard

/-- THE TIED CARD OF 'palisadelaw04.ShapeHolds'. -/
def shapeHoldsCard : Claim7 := { stood := { row := shapeHoldsRow, standIns := [], harness := (true, "3aba4878a496f87eddb946ece079d867d11059ee0fa3c499e9dd2c8354bed2c6"), looks := false }, kinds := [], alts := [], laidByText := true, laidKinds := [.data, .data], laidTests := true, laidLooks := .later }
def ShapeHoldsCardSaid : Prop := Claim7.holds Tryd.pinned (.plain (OpenSpec.ofChange shapeHoldsSpec)) shapeHoldsCard

/-- THE TIED CARD OF 'palisadelaw04.ShapeRoles'. -/
def shapeRolesCard : Claim7 := { stood := { row := shapeRolesRow, standIns := [], harness := (true, "3aba4878a496f87eddb946ece079d867d11059ee0fa3c499e9dd2c8354bed2c6"), looks := false }, kinds := [], alts := [], laidByText := true, laidKinds := [.data, .data], laidTests := true, laidLooks := .later }
def ShapeRolesCardSaid : Prop := Claim7.holds Tryd.pinned (.plain (OpenSpec.ofChange shapeRolesSpec)) shapeRolesCard

/-- THE SECOND FORM's CARD OF 'palisadelaw04.ShapeCodes'. -/
def shapeCodesUptoCard : Claim7 := { stood := { row := shapeCodesUptoRow, standIns := [], harness := (true, "3aba4878a496f87eddb946ece079d867d11059ee0fa3c499e9dd2c8354bed2c6"), looks := false }, kinds := [], alts := [], laidByText := true, laidKinds := [.data, .data], laidTests := true, laidLooks := .later }
def ShapeCodesUptoCardSaid : Prop := Claim7.holds Tryd.pinned (.plain (OpenSpec.upto shapeCodesSpec)) shapeCodesUptoCard

/-- THE SECOND FORM's CARD OF 'palisadelaw04.ShapePlaces'. -/
def shapePlacesUptoCard : Claim7 := { stood := { row := shapePlacesUptoRow, standIns := [], harness := (true, "3aba4878a496f87eddb946ece079d867d11059ee0fa3c499e9dd2c8354bed2c6"), looks := false }, kinds := [], alts := [], laidByText := true, laidKinds := [.data, .data], laidTests := true, laidLooks := .later }
def ShapePlacesUptoCardSaid : Prop := Claim7.holds Tryd.pinned (.plain (OpenSpec.upto shapePlacesSpec)) shapePlacesUptoCard

/-- THE SECOND FORM's CARD OF 'palisadelaw04.ShapeLines'. -/
def shapeLinesUptoCard : Claim7 := { stood := { row := shapeLinesUptoRow, standIns := [], harness := (true, "3aba4878a496f87eddb946ece079d867d11059ee0fa3c499e9dd2c8354bed2c6"), looks := false }, kinds := [], alts := [], laidByText := true, laidKinds := [.data, .data], laidTests := true, laidLooks := .later }
def ShapeLinesUptoCardSaid : Prop := Claim7.holds Tryd.pinned (.plain (OpenSpec.upto shapeLinesSpec)) shapeLinesUptoCard

/-- THE SECOND FORM's CARD OF 'palisadelaw04.ShapeHolds'. -/
def shapeHoldsUptoCard : Claim7 := { stood := { row := shapeHoldsUptoRow, standIns := [], harness := (true, "3aba4878a496f87eddb946ece079d867d11059ee0fa3c499e9dd2c8354bed2c6"), looks := false }, kinds := [], alts := [], laidByText := true, laidKinds := [.data, .data], laidTests := true, laidLooks := .later }
def ShapeHoldsUptoCardSaid : Prop := Claim7.holds Tryd.pinned (.plain (OpenSpec.upto shapeHoldsSpec)) shapeHoldsUptoCard

/-- THE SECOND FORM's CARD OF 'palisadelaw04.ShapeRoles'. -/
def shapeRolesUptoCard : Claim7 := { stood := { row := shapeRolesUptoRow, standIns := [], harness := (true, "3aba4878a496f87eddb946ece079d867d11059ee0fa3c499e9dd2c8354bed2c6"), looks := false }, kinds := [], alts := [], laidByText := true, laidKinds := [.data, .data], laidTests := true, laidLooks := .later }
def ShapeRolesUptoCardSaid : Prop := Claim7.holds Tryd.pinned (.plain (OpenSpec.upto shapeRolesSpec)) shapeRolesUptoCard
end Rows
end Go.Proofs.YthhgalhabdkikaaDoor
