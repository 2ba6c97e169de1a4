/-
  DERIVED. GIVEN WITH THE SEED: THE CARDS: each row of YtggdlklkjnbbjaaGreatDoorRows.lean that lists a variable, with what it lists TIED to the program's text (the seventh form; the later family's looks); each row that meets fmt, with fmt's text TOLD by the authors' own Lean function (tested against real Go, not proved from fmt's source: count such statements apart). THE CARD IS WHAT COUNTS. Prove the row's statement (the work); the ties are given (YtggdlklkjnbbjaaGreatDoorTie.lean); close each card by the builder's one call (the guide's Derived/Test/ToyasCard.lean, 'card_holds'). Laid BY PROGRAM, IN A SANDBOX (cutbox-door.mjs). By AI agents, Wed Nov 11 2026. No macro, syntax, notation, axiom, sorry.
-/
import Derived.Test.YtggdlklkjnbbjaaGreatDoorRows
import GoSem.ClaimSeven
namespace Go.Proofs.YtggdlklkjnbbjaaGreatDoor
namespace Rows

/-- THE TIED CARD OF 'palisadelaw06.EvenoddEncodes'. -/
def evenoddEncodesCard : Claim7 := { stood := { row := evenoddEncodesRow, standIns := [], harness := (true, "57ec92c1cad9246a878d60c07de9d5f93b7ace9698c7d1eeaf89e47cae761c73"), looks := true }, kinds := [], alts := [], laidByText := true, laidKinds := [.data, .data], laidTests := true, laidLooks := .later }
def EvenoddEncodesCardSaid : Prop := Claim7.holds Tryz.pinned (.plain (OpenSpec.ofChange evenoddEncodesSpec)) evenoddEncodesCard

/-- THE TIED CARD OF 'palisadelaw06.EvenoddChecks'. -/
def evenoddChecksCard : Claim7 := { stood := { row := evenoddChecksRow, standIns := [], harness := (true, "57ec92c1cad9246a878d60c07de9d5f93b7ace9698c7d1eeaf89e47cae761c73"), looks := true }, kinds := [], alts := [], laidByText := true, laidKinds := [.data, .data], laidTests := true, laidLooks := .later }
def EvenoddChecksCardSaid : Prop := Claim7.holds Tryz.pinned (.plain (OpenSpec.ofChange evenoddChecksSpec)) evenoddChecksCard

/-- THE TIED CARD OF 'palisadelaw06.EvenoddHolds'. -/
def evenoddHoldsCard : Claim7 := { stood := { row := evenoddHoldsRow, standIns := [], harness := (true, "57ec92c1cad9246a878d60c07de9d5f93b7ace9698c7d1eeaf89e47cae761c73"), looks := true }, kinds := [], alts := [], laidByText := true, laidKinds := [.data, .data], laidTests := true, laidLooks := .later }
def EvenoddHoldsCardSaid : Prop := Claim7.holds Tryz.pinned (.plain (OpenSpec.ofChange evenoddHoldsSpec)) evenoddHoldsCard

/-- THE TIED CARD OF 'palisadelaw07.RdpEncodes'. -/
def rdpEncodesCard : Claim7 := { stood := { row := rdpEncodesRow, standIns := [], harness := (true, "57ec92c1cad9246a878d60c07de9d5f93b7ace9698c7d1eeaf89e47cae761c73"), looks := true }, kinds := [], alts := [], laidByText := true, laidKinds := [.data, .data], laidTests := true, laidLooks := .later }
def RdpEncodesCardSaid : Prop := Claim7.holds Tryz.pinned (.plain (OpenSpec.ofChange rdpEncodesSpec)) rdpEncodesCard

/-- THE TIED CARD OF 'palisadelaw07.RdpChecks'. -/
def rdpChecksCard : Claim7 := { stood := { row := rdpChecksRow, standIns := [], harness := (true, "57ec92c1cad9246a878d60c07de9d5f93b7ace9698c7d1eeaf89e47cae761c73"), looks := true }, kinds := [], alts := [], laidByText := true, laidKinds := [.data, .data], laidTests := true, laidLooks := .later }
def RdpChecksCardSaid : Prop := Claim7.holds Tryz.pinned (.plain (OpenSpec.ofChange rdpChecksSpec)) rdpChecksCard

/-- THE TIED CARD OF 'palisadelaw07.RdpHolds'. -/
def rdpHoldsCard : Claim7 := { stood := { row := rdpHoldsRow, standIns := [], harness := (true, "57ec92c1cad9246a878d60c07de9d5f93b7ace9698c7d1eeaf89e47cae761c73"), looks := true }, kinds := [], alts := [], laidByText := true, laidKinds := [.data, .data], laidTests := true, laidLooks := .later }
def RdpHoldsCardSaid : Prop := Claim7.holds Tryz.pinned (.plain (OpenSpec.ofChange rdpHoldsSpec)) rdpHoldsCard

/-- THE TIED CARD OF 'palisadelaw07.RdpAdds'. -/
def rdpAddsCard : Claim7 := { stood := { row := rdpAddsRow, standIns := [], harness := (true, "57ec92c1cad9246a878d60c07de9d5f93b7ace9698c7d1eeaf89e47cae761c73"), looks := true }, kinds := [], alts := [], laidByText := true, laidKinds := [.data, .data], laidTests := true, laidLooks := .later }
def RdpAddsCardSaid : Prop := Claim7.holds Tryz.pinned (.plain (OpenSpec.ofChange rdpAddsSpec)) rdpAddsCard

/-- THE SECOND FORM's CARD OF 'palisadelaw06.EvenoddEncodes'. -/
def evenoddEncodesUptoCard : Claim7 := { stood := { row := evenoddEncodesUptoRow, standIns := [], harness := (true, "57ec92c1cad9246a878d60c07de9d5f93b7ace9698c7d1eeaf89e47cae761c73"), looks := true }, kinds := [], alts := [], laidByText := true, laidKinds := [.data, .data], laidTests := true, laidLooks := .later }
def EvenoddEncodesUptoCardSaid : Prop := Claim7.holds Tryz.pinned (.plain (OpenSpec.upto evenoddEncodesSpec)) evenoddEncodesUptoCard

/-- THE SECOND FORM's CARD OF 'palisadelaw06.EvenoddChecks'. -/
def evenoddChecksUptoCard : Claim7 := { stood := { row := evenoddChecksUptoRow, standIns := [], harness := (true, "57ec92c1cad9246a878d60c07de9d5f93b7ace9698c7d1eeaf89e47cae761c73"), looks := true }, kinds := [], alts := [], laidByText := true, laidKinds := [.data, .data], laidTests := true, laidLooks := .later }
def EvenoddChecksUptoCardSaid : Prop := Claim7.holds Tryz.pinned (.plain (OpenSpec.upto evenoddChecksSpec)) evenoddChecksUptoCard

/-- THE SECOND FORM's CARD OF 'palisadelaw06.EvenoddHolds'. -/
def evenoddHoldsUptoCard : Claim7 := { stood := { row := evenoddHoldsUptoRow, standIns := [], harness := (true, "57ec92c1cad9246a878d60c07de9d5f93b7ace9698c7d1eeaf89e47cae761c73"), looks := true }, kinds := [], alts := [], laidByText := true, laidKinds := [.data, .data], laidTests := true, laidLooks := .later }
def EvenoddHoldsUptoCardSaid : Prop := Claim7.holds Tryz.pinned (.plain (OpenSpec.upto evenoddHoldsSpec)) evenoddHoldsUptoCard

/-- THE SECOND FORM's CARD OF 'palisadelaw07.RdpEncodes'. -/
def rdpEncodesUptoCard : Claim7 := { stood := { row := rdpEncodesUptoRow, standIns := [], harness := (true, "57ec92c1cad9246a878d60c07de9d5f93b7ace9698c7d1eeaf89e47cae761c73"), looks := true }, kinds := [], alts := [], laidByText := true, laidKinds := [.data, .data], laidTests := true, laidLooks := .later }
def RdpEncodesUptoCardSaid : Prop := Claim7.holds Tryz.pinned (.plain (OpenSpec.upto rdpEncodesSpec)) rdpEncodesUptoCard

/-- THE SECOND FORM's CARD OF 'palisadelaw07.RdpChecks'. -/
def rdpChecksUptoCard : Claim7 := { stood := { row := rdpChecksUptoRow, standIns := [], harness := (true, "57ec92c1cad9246a878d60c07de9d5f93b7ace9698c7d1eeaf89e47cae761c73"), looks := true }, kinds := [], alts := [], laidByText := true, laidKinds := [.data, .data], laidTests := true, laidLooks := .later }
def RdpChecksUptoCardSaid : Prop := Claim7.holds Tryz.pinned (.plain (OpenSpec.upto rdpChecksSpec)) rdpChecksUptoCard

/-- THE SECOND FORM's CARD OF 'palisadelaw07.RdpHolds'. -/
def rdpHoldsUptoCard : Claim7 := { stood := { row := rdpHoldsUptoRow, standIns := [], harness := (true, "57ec92c1cad9246a878d60c07de9d5f93b7ace9698c7d1eeaf89e47cae761c73"), looks := true }, kinds := [], alts := [], laidByText := true, laidKinds := [.data, .data], laidTests := true, laidLooks := .later }
def RdpHoldsUptoCardSaid : Prop := Claim7.holds Tryz.pinned (.plain (OpenSpec.upto rdpHoldsSpec)) rdpHoldsUptoCard

/-- THE SECOND FORM's CARD OF 'palisadelaw07.RdpAdds'. -/
def rdpAddsUptoCard : Claim7 := { stood := { row := rdpAddsUptoRow, standIns := [], harness := (true, "57ec92c1cad9246a878d60c07de9d5f93b7ace9698c7d1eeaf89e47cae761c73"), looks := true }, kinds := [], alts := [], laidByText := true, laidKinds := [.data, .data], laidTests := true, laidLooks := .later }
def RdpAddsUptoCardSaid : Prop := Claim7.holds Tryz.pinned (.plain (OpenSpec.upto rdpAddsSpec)) rdpAddsUptoCard
end Rows
end Go.Proofs.YtggdlklkjnbbjaaGreatDoor
