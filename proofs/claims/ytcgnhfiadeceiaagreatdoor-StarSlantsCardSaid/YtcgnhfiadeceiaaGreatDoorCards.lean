/-
  DERIVED. GIVEN WITH THE SEED: THE CARDS: each row of YtcgnhfiadeceiaaGreatDoorRows.lean that lists a variable, with what it lists TIED to the program's text (the seventh form; the later family's looks); each row that meets fmt, with fmt's text TOLD by the authors' own Lean function (tested against real Go, not proved from fmt's source: count such statements apart). THE CARD IS WHAT COUNTS. Prove the row's statement (the work); the ties are given (YtcgnhfiadeceiaaGreatDoorTie.lean); close each card by the builder's one call (the guide's Derived/Test/ToyasCard.lean, 'card_holds'). Laid BY PROGRAM, IN A SANDBOX (cutbox-door.mjs). By AI agents, Wed Nov 11 2026. No macro, syntax, notation, axiom, sorry.
-/
import Derived.Test.YtcgnhfiadeceiaaGreatDoorRows
import GoSem.ClaimSeven
namespace Go.Proofs.YtcgnhfiadeceiaaGreatDoor
namespace Rows

/-- THE TIED CARD OF 'palisadelaw08.StarEncodes'. -/
def starEncodesCard : Claim7 := { stood := { row := starEncodesRow, standIns := [], harness := (true, "7e27223e161f1634c86bf5b961aa3e78ae26ed2f90e841ec1f5ff27ba1a55c1c"), looks := true }, kinds := [], alts := [], laidByText := true, laidKinds := [.data, .data], laidTests := true, laidLooks := .later }
def StarEncodesCardSaid : Prop := Claim7.holds Tryz.pinned (.plain (OpenSpec.ofChange starEncodesSpec)) starEncodesCard

/-- THE TIED CARD OF 'palisadelaw08.StarChecks'. -/
def starChecksCard : Claim7 := { stood := { row := starChecksRow, standIns := [], harness := (true, "7e27223e161f1634c86bf5b961aa3e78ae26ed2f90e841ec1f5ff27ba1a55c1c"), looks := true }, kinds := [], alts := [], laidByText := true, laidKinds := [.data, .data], laidTests := true, laidLooks := .later }
def StarChecksCardSaid : Prop := Claim7.holds Tryz.pinned (.plain (OpenSpec.ofChange starChecksSpec)) starChecksCard

/-- THE TIED CARD OF 'palisadelaw08.StarSlants'. -/
def starSlantsCard : Claim7 := { stood := { row := starSlantsRow, standIns := [], harness := (true, "7e27223e161f1634c86bf5b961aa3e78ae26ed2f90e841ec1f5ff27ba1a55c1c"), looks := true }, kinds := [], alts := [], laidByText := true, laidKinds := [.data, .data], laidTests := true, laidLooks := .later }
def StarSlantsCardSaid : Prop := Claim7.holds Tryz.pinned (.plain (OpenSpec.ofChange starSlantsSpec)) starSlantsCard

/-- THE TIED CARD OF 'palisadelaw08.StarHolds'. -/
def starHoldsCard : Claim7 := { stood := { row := starHoldsRow, standIns := [], harness := (true, "7e27223e161f1634c86bf5b961aa3e78ae26ed2f90e841ec1f5ff27ba1a55c1c"), looks := true }, kinds := [], alts := [], laidByText := true, laidKinds := [.data, .data], laidTests := true, laidLooks := .later }
def StarHoldsCardSaid : Prop := Claim7.holds Tryz.pinned (.plain (OpenSpec.ofChange starHoldsSpec)) starHoldsCard

/-- THE TIED CARD OF 'palisadelaw08.StarAdds'. -/
def starAddsCard : Claim7 := { stood := { row := starAddsRow, standIns := [], harness := (true, "7e27223e161f1634c86bf5b961aa3e78ae26ed2f90e841ec1f5ff27ba1a55c1c"), looks := true }, kinds := [], alts := [], laidByText := true, laidKinds := [.data, .data], laidTests := true, laidLooks := .later }
def StarAddsCardSaid : Prop := Claim7.holds Tryz.pinned (.plain (OpenSpec.ofChange starAddsSpec)) starAddsCard

/-- THE TIED CARD OF 'palisadelaw08.StarTurns'. -/
def starTurnsCard : Claim7 := { stood := { row := starTurnsRow, standIns := [], harness := (true, "7e27223e161f1634c86bf5b961aa3e78ae26ed2f90e841ec1f5ff27ba1a55c1c"), looks := true }, kinds := [], alts := [], laidByText := true, laidKinds := [.data, .data], laidTests := true, laidLooks := .later }
def StarTurnsCardSaid : Prop := Claim7.holds Tryz.pinned (.plain (OpenSpec.ofChange starTurnsSpec)) starTurnsCard

/-- THE SECOND FORM's CARD OF 'palisadelaw08.StarEncodes'. -/
def starEncodesUptoCard : Claim7 := { stood := { row := starEncodesUptoRow, standIns := [], harness := (true, "7e27223e161f1634c86bf5b961aa3e78ae26ed2f90e841ec1f5ff27ba1a55c1c"), looks := true }, kinds := [], alts := [], laidByText := true, laidKinds := [.data, .data], laidTests := true, laidLooks := .later }
def StarEncodesUptoCardSaid : Prop := Claim7.holds Tryz.pinned (.plain (OpenSpec.upto starEncodesSpec)) starEncodesUptoCard

/-- THE SECOND FORM's CARD OF 'palisadelaw08.StarChecks'. -/
def starChecksUptoCard : Claim7 := { stood := { row := starChecksUptoRow, standIns := [], harness := (true, "7e27223e161f1634c86bf5b961aa3e78ae26ed2f90e841ec1f5ff27ba1a55c1c"), looks := true }, kinds := [], alts := [], laidByText := true, laidKinds := [.data, .data], laidTests := true, laidLooks := .later }
def StarChecksUptoCardSaid : Prop := Claim7.holds Tryz.pinned (.plain (OpenSpec.upto starChecksSpec)) starChecksUptoCard

/-- THE SECOND FORM's CARD OF 'palisadelaw08.StarSlants'. -/
def starSlantsUptoCard : Claim7 := { stood := { row := starSlantsUptoRow, standIns := [], harness := (true, "7e27223e161f1634c86bf5b961aa3e78ae26ed2f90e841ec1f5ff27ba1a55c1c"), looks := true }, kinds := [], alts := [], laidByText := true, laidKinds := [.data, .data], laidTests := true, laidLooks := .later }
def StarSlantsUptoCardSaid : Prop := Claim7.holds Tryz.pinned (.plain (OpenSpec.upto starSlantsSpec)) starSlantsUptoCard

/-- THE SECOND FORM's CARD OF 'palisadelaw08.StarHolds'. -/
def starHoldsUptoCard : Claim7 := { stood := { row := starHoldsUptoRow, standIns := [], harness := (true, "7e27223e161f1634c86bf5b961aa3e78ae26ed2f90e841ec1f5ff27ba1a55c1c"), looks := true }, kinds := [], alts := [], laidByText := true, laidKinds := [.data, .data], laidTests := true, laidLooks := .later }
def StarHoldsUptoCardSaid : Prop := Claim7.holds Tryz.pinned (.plain (OpenSpec.upto starHoldsSpec)) starHoldsUptoCard

/-- THE SECOND FORM's CARD OF 'palisadelaw08.StarAdds'. -/
def starAddsUptoCard : Claim7 := { stood := { row := starAddsUptoRow, standIns := [], harness := (true, "7e27223e161f1634c86bf5b961aa3e78ae26ed2f90e841ec1f5ff27ba1a55c1c"), looks := true }, kinds := [], alts := [], laidByText := true, laidKinds := [.data, .data], laidTests := true, laidLooks := .later }
def StarAddsUptoCardSaid : Prop := Claim7.holds Tryz.pinned (.plain (OpenSpec.upto starAddsSpec)) starAddsUptoCard

/-- THE SECOND FORM's CARD OF 'palisadelaw08.StarTurns'. -/
def starTurnsUptoCard : Claim7 := { stood := { row := starTurnsUptoRow, standIns := [], harness := (true, "7e27223e161f1634c86bf5b961aa3e78ae26ed2f90e841ec1f5ff27ba1a55c1c"), looks := true }, kinds := [], alts := [], laidByText := true, laidKinds := [.data, .data], laidTests := true, laidLooks := .later }
def StarTurnsUptoCardSaid : Prop := Claim7.holds Tryz.pinned (.plain (OpenSpec.upto starTurnsSpec)) starTurnsUptoCard
end Rows
end Go.Proofs.YtcgnhfiadeceiaaGreatDoor
