/-
  DERIVED. GIVEN WITH THE SEED: THE CARDS: each row of YthmkgdkfehgpkaaGreatDoorRows.lean that lists a variable, with what it lists TIED to the program's text (the seventh form; the later family's looks); each row that meets fmt, with fmt's text TOLD by the authors' own Lean function (tested against real Go, not proved from fmt's source: count such statements apart). THE CARD IS WHAT COUNTS. Prove the row's statement (the work); the ties are given (YthmkgdkfehgpkaaGreatDoorTie.lean); close each card by the builder's one call (the guide's Derived/Test/ToyasCard.lean, 'card_holds'). Laid BY PROGRAM, IN A SANDBOX (cutbox-door.mjs). By AI agents, Wed Nov 11 2026. No macro, syntax, notation, axiom, sorry.
-/
import Derived.Test.YthmkgdkfehgpkaaGreatDoorRows
import GoSem.ClaimSeven
namespace Go.Proofs.YthmkgdkfehgpkaaGreatDoor
namespace Rows

/-- THE TIED CARD OF 'palisadelaw11.ChainOrders'. -/
def chainOrdersCard : Claim7 := { stood := { row := chainOrdersRow, standIns := [], harness := (true, "50aa47fff70d07d0448bcf5dbd5bb1e2bd30e1ec5878175685b351a46e9a49ed"), looks := true }, kinds := [], alts := [], laidByText := true, laidKinds := [.data, .data], laidTests := true, laidLooks := .later }
def ChainOrdersCardSaid : Prop := Claim7.holds Tryz.pinned (.plain (OpenSpec.ofChange chainOrdersSpec)) chainOrdersCard

/-- THE TIED CARD OF 'palisadelaw11.ChainRecovers'. -/
def chainRecoversCard : Claim7 := { stood := { row := chainRecoversRow, standIns := [], harness := (true, "50aa47fff70d07d0448bcf5dbd5bb1e2bd30e1ec5878175685b351a46e9a49ed"), looks := true }, kinds := [], alts := [], laidByText := true, laidKinds := [.data, .data], laidTests := true, laidLooks := .later }
def ChainRecoversCardSaid : Prop := Claim7.holds Tryz.pinned (.plain (OpenSpec.ofChange chainRecoversSpec)) chainRecoversCard

/-- THE TIED CARD OF 'palisadelaw11.ChainAlones'. -/
def chainAlonesCard : Claim7 := { stood := { row := chainAlonesRow, standIns := [], harness := (true, "50aa47fff70d07d0448bcf5dbd5bb1e2bd30e1ec5878175685b351a46e9a49ed"), looks := true }, kinds := [], alts := [], laidByText := true, laidKinds := [.data, .data], laidTests := true, laidLooks := .later }
def ChainAlonesCardSaid : Prop := Claim7.holds Tryz.pinned (.plain (OpenSpec.ofChange chainAlonesSpec)) chainAlonesCard

/-- THE TIED CARD OF 'palisadelaw11.ChainHolds'. -/
def chainHoldsCard : Claim7 := { stood := { row := chainHoldsRow, standIns := [], harness := (true, "50aa47fff70d07d0448bcf5dbd5bb1e2bd30e1ec5878175685b351a46e9a49ed"), looks := true }, kinds := [], alts := [], laidByText := true, laidKinds := [.data, .data], laidTests := true, laidLooks := .later }
def ChainHoldsCardSaid : Prop := Claim7.holds Tryz.pinned (.plain (OpenSpec.ofChange chainHoldsSpec)) chainHoldsCard

/-- THE TIED CARD OF 'palisadelaw11.ChainAdds'. -/
def chainAddsCard : Claim7 := { stood := { row := chainAddsRow, standIns := [], harness := (true, "50aa47fff70d07d0448bcf5dbd5bb1e2bd30e1ec5878175685b351a46e9a49ed"), looks := true }, kinds := [], alts := [], laidByText := true, laidKinds := [.data, .data], laidTests := true, laidLooks := .later }
def ChainAddsCardSaid : Prop := Claim7.holds Tryz.pinned (.plain (OpenSpec.ofChange chainAddsSpec)) chainAddsCard

/-- THE SECOND FORM's CARD OF 'palisadelaw11.ChainOrders'. -/
def chainOrdersUptoCard : Claim7 := { stood := { row := chainOrdersUptoRow, standIns := [], harness := (true, "50aa47fff70d07d0448bcf5dbd5bb1e2bd30e1ec5878175685b351a46e9a49ed"), looks := true }, kinds := [], alts := [], laidByText := true, laidKinds := [.data, .data], laidTests := true, laidLooks := .later }
def ChainOrdersUptoCardSaid : Prop := Claim7.holds Tryz.pinned (.plain (OpenSpec.upto chainOrdersSpec)) chainOrdersUptoCard

/-- THE SECOND FORM's CARD OF 'palisadelaw11.ChainRecovers'. -/
def chainRecoversUptoCard : Claim7 := { stood := { row := chainRecoversUptoRow, standIns := [], harness := (true, "50aa47fff70d07d0448bcf5dbd5bb1e2bd30e1ec5878175685b351a46e9a49ed"), looks := true }, kinds := [], alts := [], laidByText := true, laidKinds := [.data, .data], laidTests := true, laidLooks := .later }
def ChainRecoversUptoCardSaid : Prop := Claim7.holds Tryz.pinned (.plain (OpenSpec.upto chainRecoversSpec)) chainRecoversUptoCard

/-- THE SECOND FORM's CARD OF 'palisadelaw11.ChainAlones'. -/
def chainAlonesUptoCard : Claim7 := { stood := { row := chainAlonesUptoRow, standIns := [], harness := (true, "50aa47fff70d07d0448bcf5dbd5bb1e2bd30e1ec5878175685b351a46e9a49ed"), looks := true }, kinds := [], alts := [], laidByText := true, laidKinds := [.data, .data], laidTests := true, laidLooks := .later }
def ChainAlonesUptoCardSaid : Prop := Claim7.holds Tryz.pinned (.plain (OpenSpec.upto chainAlonesSpec)) chainAlonesUptoCard

/-- THE SECOND FORM's CARD OF 'palisadelaw11.ChainHolds'. -/
def chainHoldsUptoCard : Claim7 := { stood := { row := chainHoldsUptoRow, standIns := [], harness := (true, "50aa47fff70d07d0448bcf5dbd5bb1e2bd30e1ec5878175685b351a46e9a49ed"), looks := true }, kinds := [], alts := [], laidByText := true, laidKinds := [.data, .data], laidTests := true, laidLooks := .later }
def ChainHoldsUptoCardSaid : Prop := Claim7.holds Tryz.pinned (.plain (OpenSpec.upto chainHoldsSpec)) chainHoldsUptoCard

/-- THE SECOND FORM's CARD OF 'palisadelaw11.ChainAdds'. -/
def chainAddsUptoCard : Claim7 := { stood := { row := chainAddsUptoRow, standIns := [], harness := (true, "50aa47fff70d07d0448bcf5dbd5bb1e2bd30e1ec5878175685b351a46e9a49ed"), looks := true }, kinds := [], alts := [], laidByText := true, laidKinds := [.data, .data], laidTests := true, laidLooks := .later }
def ChainAddsUptoCardSaid : Prop := Claim7.holds Tryz.pinned (.plain (OpenSpec.upto chainAddsSpec)) chainAddsUptoCard
end Rows
end Go.Proofs.YthmkgdkfehgpkaaGreatDoor
