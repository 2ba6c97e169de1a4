/-
  DERIVED. GIVEN WITH THE SEED: THE CARDS: each row of YtcchjofjpflbhaaGreatDoorRows.lean that lists a variable, with what it lists TIED to the program's text (the seventh form; the later family's looks); each row that meets fmt, with fmt's text TOLD by the authors' own Lean function (tested against real Go, not proved from fmt's source: count such statements apart). THE CARD IS WHAT COUNTS. Prove the row's statement (the work); the ties are given (YtcchjofjpflbhaaGreatDoorTie.lean); close each card by the builder's one call (the guide's Derived/Test/ToyasCard.lean, 'card_holds'). Laid BY PROGRAM, IN A SANDBOX (cutbox-door.mjs). By AI agents, Wed Nov 11 2026. No macro, syntax, notation, axiom, sorry.
-/
import Derived.Test.YtcchjofjpflbhaaGreatDoorRows
import GoSem.ClaimSeven
namespace Go.Proofs.YtcchjofjpflbhaaGreatDoor
namespace Rows

/-- THE TIED CARD OF 'palisadelaw12.PairArms'. -/
def pairArmsCard : Claim7 := { stood := { row := pairArmsRow, standIns := [], harness := (true, "4a506145f7380dc68eedad435a6fcef858a8a6b57bcf00ad717e77c92cb483e8"), looks := true }, kinds := [], alts := [], laidByText := true, laidKinds := [.data, .data], laidTests := true, laidLooks := .later }
def PairArmsCardSaid : Prop := Claim7.holds Tryz.pinned (.plain (OpenSpec.ofChange pairArmsSpec)) pairArmsCard

/-- THE TIED CARD OF 'palisadelaw12.PairOrders'. -/
def pairOrdersCard : Claim7 := { stood := { row := pairOrdersRow, standIns := [], harness := (true, "4a506145f7380dc68eedad435a6fcef858a8a6b57bcf00ad717e77c92cb483e8"), looks := true }, kinds := [], alts := [], laidByText := true, laidKinds := [.data, .data], laidTests := true, laidLooks := .later }
def PairOrdersCardSaid : Prop := Claim7.holds Tryz.pinned (.plain (OpenSpec.ofChange pairOrdersSpec)) pairOrdersCard

/-- THE TIED CARD OF 'palisadelaw12.PairRecovers'. -/
def pairRecoversCard : Claim7 := { stood := { row := pairRecoversRow, standIns := [], harness := (true, "4a506145f7380dc68eedad435a6fcef858a8a6b57bcf00ad717e77c92cb483e8"), looks := true }, kinds := [], alts := [], laidByText := true, laidKinds := [.data, .data], laidTests := true, laidLooks := .later }
def PairRecoversCardSaid : Prop := Claim7.holds Tryz.pinned (.plain (OpenSpec.ofChange pairRecoversSpec)) pairRecoversCard

/-- THE TIED CARD OF 'palisadelaw12.PairRows'. -/
def pairRowsCard : Claim7 := { stood := { row := pairRowsRow, standIns := [], harness := (true, "4a506145f7380dc68eedad435a6fcef858a8a6b57bcf00ad717e77c92cb483e8"), looks := true }, kinds := [], alts := [], laidByText := true, laidKinds := [.data, .data], laidTests := true, laidLooks := .later }
def PairRowsCardSaid : Prop := Claim7.holds Tryz.pinned (.plain (OpenSpec.ofChange pairRowsSpec)) pairRowsCard

/-- THE TIED CARD OF 'palisadelaw12.PairHolds'. -/
def pairHoldsCard : Claim7 := { stood := { row := pairHoldsRow, standIns := [], harness := (true, "4a506145f7380dc68eedad435a6fcef858a8a6b57bcf00ad717e77c92cb483e8"), looks := true }, kinds := [], alts := [], laidByText := true, laidKinds := [.data, .data], laidTests := true, laidLooks := .later }
def PairHoldsCardSaid : Prop := Claim7.holds Tryz.pinned (.plain (OpenSpec.ofChange pairHoldsSpec)) pairHoldsCard

/-- THE TIED CARD OF 'palisadelaw12.PairAdds'. -/
def pairAddsCard : Claim7 := { stood := { row := pairAddsRow, standIns := [], harness := (true, "4a506145f7380dc68eedad435a6fcef858a8a6b57bcf00ad717e77c92cb483e8"), looks := true }, kinds := [], alts := [], laidByText := true, laidKinds := [.data, .data], laidTests := true, laidLooks := .later }
def PairAddsCardSaid : Prop := Claim7.holds Tryz.pinned (.plain (OpenSpec.ofChange pairAddsSpec)) pairAddsCard

/-- THE TIED CARD OF 'palisadelaw13.TripleThrees'. -/
def tripleThreesCard : Claim7 := { stood := { row := tripleThreesRow, standIns := [], harness := (true, "4a506145f7380dc68eedad435a6fcef858a8a6b57bcf00ad717e77c92cb483e8"), looks := true }, kinds := [], alts := [], laidByText := true, laidKinds := [.data, .data], laidTests := true, laidLooks := .later }
def TripleThreesCardSaid : Prop := Claim7.holds Tryz.pinned (.plain (OpenSpec.ofChange tripleThreesSpec)) tripleThreesCard

/-- THE TIED CARD OF 'palisadelaw13.TripleTwos'. -/
def tripleTwosCard : Claim7 := { stood := { row := tripleTwosRow, standIns := [], harness := (true, "4a506145f7380dc68eedad435a6fcef858a8a6b57bcf00ad717e77c92cb483e8"), looks := true }, kinds := [], alts := [], laidByText := true, laidKinds := [.data, .data], laidTests := true, laidLooks := .later }
def TripleTwosCardSaid : Prop := Claim7.holds Tryz.pinned (.plain (OpenSpec.ofChange tripleTwosSpec)) tripleTwosCard

/-- THE TIED CARD OF 'palisadelaw13.TripleOnes'. -/
def tripleOnesCard : Claim7 := { stood := { row := tripleOnesRow, standIns := [], harness := (true, "4a506145f7380dc68eedad435a6fcef858a8a6b57bcf00ad717e77c92cb483e8"), looks := true }, kinds := [], alts := [], laidByText := true, laidKinds := [.data, .data], laidTests := true, laidLooks := .later }
def TripleOnesCardSaid : Prop := Claim7.holds Tryz.pinned (.plain (OpenSpec.ofChange tripleOnesSpec)) tripleOnesCard

/-- THE TIED CARD OF 'palisadelaw13.TripleHolds'. -/
def tripleHoldsCard : Claim7 := { stood := { row := tripleHoldsRow, standIns := [], harness := (true, "4a506145f7380dc68eedad435a6fcef858a8a6b57bcf00ad717e77c92cb483e8"), looks := true }, kinds := [], alts := [], laidByText := true, laidKinds := [.data, .data], laidTests := true, laidLooks := .later }
def TripleHoldsCardSaid : Prop := Claim7.holds Tryz.pinned (.plain (OpenSpec.ofChange tripleHoldsSpec)) tripleHoldsCard

/-- THE TIED CARD OF 'palisadelaw13.TripleAdds'. -/
def tripleAddsCard : Claim7 := { stood := { row := tripleAddsRow, standIns := [], harness := (true, "4a506145f7380dc68eedad435a6fcef858a8a6b57bcf00ad717e77c92cb483e8"), looks := true }, kinds := [], alts := [], laidByText := true, laidKinds := [.data, .data], laidTests := true, laidLooks := .later }
def TripleAddsCardSaid : Prop := Claim7.holds Tryz.pinned (.plain (OpenSpec.ofChange tripleAddsSpec)) tripleAddsCard

/-- THE SECOND FORM's CARD OF 'palisadelaw12.PairArms'. -/
def pairArmsUptoCard : Claim7 := { stood := { row := pairArmsUptoRow, standIns := [], harness := (true, "4a506145f7380dc68eedad435a6fcef858a8a6b57bcf00ad717e77c92cb483e8"), looks := true }, kinds := [], alts := [], laidByText := true, laidKinds := [.data, .data], laidTests := true, laidLooks := .later }
def PairArmsUptoCardSaid : Prop := Claim7.holds Tryz.pinned (.plain (OpenSpec.upto pairArmsSpec)) pairArmsUptoCard

/-- THE SECOND FORM's CARD OF 'palisadelaw12.PairOrders'. -/
def pairOrdersUptoCard : Claim7 := { stood := { row := pairOrdersUptoRow, standIns := [], harness := (true, "4a506145f7380dc68eedad435a6fcef858a8a6b57bcf00ad717e77c92cb483e8"), looks := true }, kinds := [], alts := [], laidByText := true, laidKinds := [.data, .data], laidTests := true, laidLooks := .later }
def PairOrdersUptoCardSaid : Prop := Claim7.holds Tryz.pinned (.plain (OpenSpec.upto pairOrdersSpec)) pairOrdersUptoCard

/-- THE SECOND FORM's CARD OF 'palisadelaw12.PairRecovers'. -/
def pairRecoversUptoCard : Claim7 := { stood := { row := pairRecoversUptoRow, standIns := [], harness := (true, "4a506145f7380dc68eedad435a6fcef858a8a6b57bcf00ad717e77c92cb483e8"), looks := true }, kinds := [], alts := [], laidByText := true, laidKinds := [.data, .data], laidTests := true, laidLooks := .later }
def PairRecoversUptoCardSaid : Prop := Claim7.holds Tryz.pinned (.plain (OpenSpec.upto pairRecoversSpec)) pairRecoversUptoCard

/-- THE SECOND FORM's CARD OF 'palisadelaw12.PairRows'. -/
def pairRowsUptoCard : Claim7 := { stood := { row := pairRowsUptoRow, standIns := [], harness := (true, "4a506145f7380dc68eedad435a6fcef858a8a6b57bcf00ad717e77c92cb483e8"), looks := true }, kinds := [], alts := [], laidByText := true, laidKinds := [.data, .data], laidTests := true, laidLooks := .later }
def PairRowsUptoCardSaid : Prop := Claim7.holds Tryz.pinned (.plain (OpenSpec.upto pairRowsSpec)) pairRowsUptoCard

/-- THE SECOND FORM's CARD OF 'palisadelaw12.PairHolds'. -/
def pairHoldsUptoCard : Claim7 := { stood := { row := pairHoldsUptoRow, standIns := [], harness := (true, "4a506145f7380dc68eedad435a6fcef858a8a6b57bcf00ad717e77c92cb483e8"), looks := true }, kinds := [], alts := [], laidByText := true, laidKinds := [.data, .data], laidTests := true, laidLooks := .later }
def PairHoldsUptoCardSaid : Prop := Claim7.holds Tryz.pinned (.plain (OpenSpec.upto pairHoldsSpec)) pairHoldsUptoCard

/-- THE SECOND FORM's CARD OF 'palisadelaw12.PairAdds'. -/
def pairAddsUptoCard : Claim7 := { stood := { row := pairAddsUptoRow, standIns := [], harness := (true, "4a506145f7380dc68eedad435a6fcef858a8a6b57bcf00ad717e77c92cb483e8"), looks := true }, kinds := [], alts := [], laidByText := true, laidKinds := [.data, .data], laidTests := true, laidLooks := .later }
def PairAddsUptoCardSaid : Prop := Claim7.holds Tryz.pinned (.plain (OpenSpec.upto pairAddsSpec)) pairAddsUptoCard

/-- THE SECOND FORM's CARD OF 'palisadelaw13.TripleThrees'. -/
def tripleThreesUptoCard : Claim7 := { stood := { row := tripleThreesUptoRow, standIns := [], harness := (true, "4a506145f7380dc68eedad435a6fcef858a8a6b57bcf00ad717e77c92cb483e8"), looks := true }, kinds := [], alts := [], laidByText := true, laidKinds := [.data, .data], laidTests := true, laidLooks := .later }
def TripleThreesUptoCardSaid : Prop := Claim7.holds Tryz.pinned (.plain (OpenSpec.upto tripleThreesSpec)) tripleThreesUptoCard

/-- THE SECOND FORM's CARD OF 'palisadelaw13.TripleTwos'. -/
def tripleTwosUptoCard : Claim7 := { stood := { row := tripleTwosUptoRow, standIns := [], harness := (true, "4a506145f7380dc68eedad435a6fcef858a8a6b57bcf00ad717e77c92cb483e8"), looks := true }, kinds := [], alts := [], laidByText := true, laidKinds := [.data, .data], laidTests := true, laidLooks := .later }
def TripleTwosUptoCardSaid : Prop := Claim7.holds Tryz.pinned (.plain (OpenSpec.upto tripleTwosSpec)) tripleTwosUptoCard

/-- THE SECOND FORM's CARD OF 'palisadelaw13.TripleOnes'. -/
def tripleOnesUptoCard : Claim7 := { stood := { row := tripleOnesUptoRow, standIns := [], harness := (true, "4a506145f7380dc68eedad435a6fcef858a8a6b57bcf00ad717e77c92cb483e8"), looks := true }, kinds := [], alts := [], laidByText := true, laidKinds := [.data, .data], laidTests := true, laidLooks := .later }
def TripleOnesUptoCardSaid : Prop := Claim7.holds Tryz.pinned (.plain (OpenSpec.upto tripleOnesSpec)) tripleOnesUptoCard

/-- THE SECOND FORM's CARD OF 'palisadelaw13.TripleHolds'. -/
def tripleHoldsUptoCard : Claim7 := { stood := { row := tripleHoldsUptoRow, standIns := [], harness := (true, "4a506145f7380dc68eedad435a6fcef858a8a6b57bcf00ad717e77c92cb483e8"), looks := true }, kinds := [], alts := [], laidByText := true, laidKinds := [.data, .data], laidTests := true, laidLooks := .later }
def TripleHoldsUptoCardSaid : Prop := Claim7.holds Tryz.pinned (.plain (OpenSpec.upto tripleHoldsSpec)) tripleHoldsUptoCard

/-- THE SECOND FORM's CARD OF 'palisadelaw13.TripleAdds'. -/
def tripleAddsUptoCard : Claim7 := { stood := { row := tripleAddsUptoRow, standIns := [], harness := (true, "4a506145f7380dc68eedad435a6fcef858a8a6b57bcf00ad717e77c92cb483e8"), looks := true }, kinds := [], alts := [], laidByText := true, laidKinds := [.data, .data], laidTests := true, laidLooks := .later }
def TripleAddsUptoCardSaid : Prop := Claim7.holds Tryz.pinned (.plain (OpenSpec.upto tripleAddsSpec)) tripleAddsUptoCard
end Rows
end Go.Proofs.YtcchjofjpflbhaaGreatDoor
