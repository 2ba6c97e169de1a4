/-
  DERIVED. GIVEN WITH THE SEED: THE CARDS: each row of YtfihlelhpmjpaaaGreatDoorRows.lean that lists a variable, with what it lists TIED to the program's text (the seventh form; the later family's looks); each row that meets fmt, with fmt's text TOLD by the authors' own Lean function (tested against real Go, not proved from fmt's source: count such statements apart). THE CARD IS WHAT COUNTS. Prove the row's statement (the work); the ties are given (YtfihlelhpmjpaaaGreatDoorTie.lean); close each card by the builder's one call (the guide's Derived/Test/ToyasCard.lean, 'card_holds'). Laid BY PROGRAM, IN A SANDBOX (cutbox-door.mjs). By AI agents, Wed Nov 11 2026. No macro, syntax, notation, axiom, sorry.
-/
import Derived.Test.YtfihlelhpmjpaaaGreatDoorRows
import GoSem.ClaimSeven
namespace Go.Proofs.YtfihlelhpmjpaaaGreatDoor
namespace Rows

/-- THE TIED CARD OF 'palisadelaw11.ChainRecovers'. -/
def chainRecoversCard : Claim7 := { stood := { row := chainRecoversRow, standIns := [], harness := (true, "04234f3f060f9d3c1fcc54ee3ea50096c353507eb5b730862edaf3c413619c3f"), looks := true }, kinds := [], alts := [], laidByText := true, laidKinds := [.data, .data], laidTests := true, laidLooks := .later }
def ChainRecoversCardSaid : Prop := Claim7.holds Tryz.pinned (.plain (OpenSpec.ofChange chainRecoversSpec)) chainRecoversCard

/-- THE TIED CARD OF 'palisadelaw11.ChainAlones'. -/
def chainAlonesCard : Claim7 := { stood := { row := chainAlonesRow, standIns := [], harness := (true, "04234f3f060f9d3c1fcc54ee3ea50096c353507eb5b730862edaf3c413619c3f"), looks := true }, kinds := [], alts := [], laidByText := true, laidKinds := [.data, .data], laidTests := true, laidLooks := .later }
def ChainAlonesCardSaid : Prop := Claim7.holds Tryz.pinned (.plain (OpenSpec.ofChange chainAlonesSpec)) chainAlonesCard

/-- THE TIED CARD OF 'palisadelaw11.ChainHolds'. -/
def chainHoldsCard : Claim7 := { stood := { row := chainHoldsRow, standIns := [], harness := (true, "04234f3f060f9d3c1fcc54ee3ea50096c353507eb5b730862edaf3c413619c3f"), looks := true }, kinds := [], alts := [], laidByText := true, laidKinds := [.data, .data], laidTests := true, laidLooks := .later }
def ChainHoldsCardSaid : Prop := Claim7.holds Tryz.pinned (.plain (OpenSpec.ofChange chainHoldsSpec)) chainHoldsCard

/-- THE TIED CARD OF 'palisadelaw11.ChainAdds'. -/
def chainAddsCard : Claim7 := { stood := { row := chainAddsRow, standIns := [], harness := (true, "04234f3f060f9d3c1fcc54ee3ea50096c353507eb5b730862edaf3c413619c3f"), looks := true }, kinds := [], alts := [], laidByText := true, laidKinds := [.data, .data], laidTests := true, laidLooks := .later }
def ChainAddsCardSaid : Prop := Claim7.holds Tryz.pinned (.plain (OpenSpec.ofChange chainAddsSpec)) chainAddsCard

/-- THE TIED CARD OF 'palisadelaw12.PairArms'. -/
def pairArmsCard : Claim7 := { stood := { row := pairArmsRow, standIns := [], harness := (true, "04234f3f060f9d3c1fcc54ee3ea50096c353507eb5b730862edaf3c413619c3f"), looks := true }, kinds := [], alts := [], laidByText := true, laidKinds := [.data, .data], laidTests := true, laidLooks := .later }
def PairArmsCardSaid : Prop := Claim7.holds Tryz.pinned (.plain (OpenSpec.ofChange pairArmsSpec)) pairArmsCard

/-- THE TIED CARD OF 'palisadelaw12.PairOrders'. -/
def pairOrdersCard : Claim7 := { stood := { row := pairOrdersRow, standIns := [], harness := (true, "04234f3f060f9d3c1fcc54ee3ea50096c353507eb5b730862edaf3c413619c3f"), looks := true }, kinds := [], alts := [], laidByText := true, laidKinds := [.data, .data], laidTests := true, laidLooks := .later }
def PairOrdersCardSaid : Prop := Claim7.holds Tryz.pinned (.plain (OpenSpec.ofChange pairOrdersSpec)) pairOrdersCard

/-- THE TIED CARD OF 'palisadelaw12.PairRecovers'. -/
def pairRecoversCard : Claim7 := { stood := { row := pairRecoversRow, standIns := [], harness := (true, "04234f3f060f9d3c1fcc54ee3ea50096c353507eb5b730862edaf3c413619c3f"), looks := true }, kinds := [], alts := [], laidByText := true, laidKinds := [.data, .data], laidTests := true, laidLooks := .later }
def PairRecoversCardSaid : Prop := Claim7.holds Tryz.pinned (.plain (OpenSpec.ofChange pairRecoversSpec)) pairRecoversCard

/-- THE TIED CARD OF 'palisadelaw12.PairRows'. -/
def pairRowsCard : Claim7 := { stood := { row := pairRowsRow, standIns := [], harness := (true, "04234f3f060f9d3c1fcc54ee3ea50096c353507eb5b730862edaf3c413619c3f"), looks := true }, kinds := [], alts := [], laidByText := true, laidKinds := [.data, .data], laidTests := true, laidLooks := .later }
def PairRowsCardSaid : Prop := Claim7.holds Tryz.pinned (.plain (OpenSpec.ofChange pairRowsSpec)) pairRowsCard

/-- THE TIED CARD OF 'palisadelaw12.PairHolds'. -/
def pairHoldsCard : Claim7 := { stood := { row := pairHoldsRow, standIns := [], harness := (true, "04234f3f060f9d3c1fcc54ee3ea50096c353507eb5b730862edaf3c413619c3f"), looks := true }, kinds := [], alts := [], laidByText := true, laidKinds := [.data, .data], laidTests := true, laidLooks := .later }
def PairHoldsCardSaid : Prop := Claim7.holds Tryz.pinned (.plain (OpenSpec.ofChange pairHoldsSpec)) pairHoldsCard

/-- THE TIED CARD OF 'palisadelaw12.PairAdds'. -/
def pairAddsCard : Claim7 := { stood := { row := pairAddsRow, standIns := [], harness := (true, "04234f3f060f9d3c1fcc54ee3ea50096c353507eb5b730862edaf3c413619c3f"), looks := true }, kinds := [], alts := [], laidByText := true, laidKinds := [.data, .data], laidTests := true, laidLooks := .later }
def PairAddsCardSaid : Prop := Claim7.holds Tryz.pinned (.plain (OpenSpec.ofChange pairAddsSpec)) pairAddsCard

/-- THE SECOND FORM's CARD OF 'palisadelaw11.ChainRecovers'. -/
def chainRecoversUptoCard : Claim7 := { stood := { row := chainRecoversUptoRow, standIns := [], harness := (true, "04234f3f060f9d3c1fcc54ee3ea50096c353507eb5b730862edaf3c413619c3f"), looks := true }, kinds := [], alts := [], laidByText := true, laidKinds := [.data, .data], laidTests := true, laidLooks := .later }
def ChainRecoversUptoCardSaid : Prop := Claim7.holds Tryz.pinned (.plain (OpenSpec.upto chainRecoversSpec)) chainRecoversUptoCard

/-- THE SECOND FORM's CARD OF 'palisadelaw11.ChainAlones'. -/
def chainAlonesUptoCard : Claim7 := { stood := { row := chainAlonesUptoRow, standIns := [], harness := (true, "04234f3f060f9d3c1fcc54ee3ea50096c353507eb5b730862edaf3c413619c3f"), looks := true }, kinds := [], alts := [], laidByText := true, laidKinds := [.data, .data], laidTests := true, laidLooks := .later }
def ChainAlonesUptoCardSaid : Prop := Claim7.holds Tryz.pinned (.plain (OpenSpec.upto chainAlonesSpec)) chainAlonesUptoCard

/-- THE SECOND FORM's CARD OF 'palisadelaw11.ChainHolds'. -/
def chainHoldsUptoCard : Claim7 := { stood := { row := chainHoldsUptoRow, standIns := [], harness := (true, "04234f3f060f9d3c1fcc54ee3ea50096c353507eb5b730862edaf3c413619c3f"), looks := true }, kinds := [], alts := [], laidByText := true, laidKinds := [.data, .data], laidTests := true, laidLooks := .later }
def ChainHoldsUptoCardSaid : Prop := Claim7.holds Tryz.pinned (.plain (OpenSpec.upto chainHoldsSpec)) chainHoldsUptoCard

/-- THE SECOND FORM's CARD OF 'palisadelaw11.ChainAdds'. -/
def chainAddsUptoCard : Claim7 := { stood := { row := chainAddsUptoRow, standIns := [], harness := (true, "04234f3f060f9d3c1fcc54ee3ea50096c353507eb5b730862edaf3c413619c3f"), looks := true }, kinds := [], alts := [], laidByText := true, laidKinds := [.data, .data], laidTests := true, laidLooks := .later }
def ChainAddsUptoCardSaid : Prop := Claim7.holds Tryz.pinned (.plain (OpenSpec.upto chainAddsSpec)) chainAddsUptoCard

/-- THE SECOND FORM's CARD OF 'palisadelaw12.PairArms'. -/
def pairArmsUptoCard : Claim7 := { stood := { row := pairArmsUptoRow, standIns := [], harness := (true, "04234f3f060f9d3c1fcc54ee3ea50096c353507eb5b730862edaf3c413619c3f"), looks := true }, kinds := [], alts := [], laidByText := true, laidKinds := [.data, .data], laidTests := true, laidLooks := .later }
def PairArmsUptoCardSaid : Prop := Claim7.holds Tryz.pinned (.plain (OpenSpec.upto pairArmsSpec)) pairArmsUptoCard

/-- THE SECOND FORM's CARD OF 'palisadelaw12.PairOrders'. -/
def pairOrdersUptoCard : Claim7 := { stood := { row := pairOrdersUptoRow, standIns := [], harness := (true, "04234f3f060f9d3c1fcc54ee3ea50096c353507eb5b730862edaf3c413619c3f"), looks := true }, kinds := [], alts := [], laidByText := true, laidKinds := [.data, .data], laidTests := true, laidLooks := .later }
def PairOrdersUptoCardSaid : Prop := Claim7.holds Tryz.pinned (.plain (OpenSpec.upto pairOrdersSpec)) pairOrdersUptoCard

/-- THE SECOND FORM's CARD OF 'palisadelaw12.PairRecovers'. -/
def pairRecoversUptoCard : Claim7 := { stood := { row := pairRecoversUptoRow, standIns := [], harness := (true, "04234f3f060f9d3c1fcc54ee3ea50096c353507eb5b730862edaf3c413619c3f"), looks := true }, kinds := [], alts := [], laidByText := true, laidKinds := [.data, .data], laidTests := true, laidLooks := .later }
def PairRecoversUptoCardSaid : Prop := Claim7.holds Tryz.pinned (.plain (OpenSpec.upto pairRecoversSpec)) pairRecoversUptoCard

/-- THE SECOND FORM's CARD OF 'palisadelaw12.PairRows'. -/
def pairRowsUptoCard : Claim7 := { stood := { row := pairRowsUptoRow, standIns := [], harness := (true, "04234f3f060f9d3c1fcc54ee3ea50096c353507eb5b730862edaf3c413619c3f"), looks := true }, kinds := [], alts := [], laidByText := true, laidKinds := [.data, .data], laidTests := true, laidLooks := .later }
def PairRowsUptoCardSaid : Prop := Claim7.holds Tryz.pinned (.plain (OpenSpec.upto pairRowsSpec)) pairRowsUptoCard

/-- THE SECOND FORM's CARD OF 'palisadelaw12.PairHolds'. -/
def pairHoldsUptoCard : Claim7 := { stood := { row := pairHoldsUptoRow, standIns := [], harness := (true, "04234f3f060f9d3c1fcc54ee3ea50096c353507eb5b730862edaf3c413619c3f"), looks := true }, kinds := [], alts := [], laidByText := true, laidKinds := [.data, .data], laidTests := true, laidLooks := .later }
def PairHoldsUptoCardSaid : Prop := Claim7.holds Tryz.pinned (.plain (OpenSpec.upto pairHoldsSpec)) pairHoldsUptoCard

/-- THE SECOND FORM's CARD OF 'palisadelaw12.PairAdds'. -/
def pairAddsUptoCard : Claim7 := { stood := { row := pairAddsUptoRow, standIns := [], harness := (true, "04234f3f060f9d3c1fcc54ee3ea50096c353507eb5b730862edaf3c413619c3f"), looks := true }, kinds := [], alts := [], laidByText := true, laidKinds := [.data, .data], laidTests := true, laidLooks := .later }
def PairAddsUptoCardSaid : Prop := Claim7.holds Tryz.pinned (.plain (OpenSpec.upto pairAddsSpec)) pairAddsUptoCard
end Rows
end Go.Proofs.YtfihlelhpmjpaaaGreatDoor
