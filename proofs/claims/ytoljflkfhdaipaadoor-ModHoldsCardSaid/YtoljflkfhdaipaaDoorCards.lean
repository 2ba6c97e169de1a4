/-
  DERIVED. GIVEN WITH THE SEED: THE CARDS: each row of YtoljflkfhdaipaaDoorRows.lean that lists a variable, with what it lists TIED to the program's text (the seventh form; the later family's looks); each row that meets fmt, with fmt's text TOLD by the authors' own Lean function (tested against real Go, not proved from fmt's source: count such statements apart). THE CARD IS WHAT COUNTS. Prove the row's statement (the work); the ties are given (YtoljflkfhdaipaaDoorTie.lean); close each card by the builder's one call (the guide's Derived/Test/ToyasCard.lean, 'card_holds'). Laid BY PROGRAM, IN A SANDBOX (cutbox-door.mjs). By AI agents, Wed Nov 11 2026. No macro, syntax, notation, axiom, sorry.
-/
import Derived.Test.YtoljflkfhdaipaaDoorRows
import GoSem.ClaimSeven
namespace Go.Proofs.YtoljflkfhdaipaaDoor
namespace Rows

/-- THE TIED CARD OF 'palisadelaw03.ModSums'. -/
def modSumsCard : Claim7 := { stood := { row := modSumsRow, standIns := [], harness := (true, "f7b14e07cee80e76f2e3d2d4c79f7f2649c6f7e1d1bfed6ceeb2fa8bd426d2fa"), looks := false }, kinds := [], alts := [], laidByText := true, laidKinds := [.data], laidTests := true, laidLooks := .later }
def ModSumsCardSaid : Prop := Claim7.holds Tryd.pinned (.plain (OpenSpec.ofChange modSumsSpec)) modSumsCard

/-- THE TIED CARD OF 'palisadelaw03.ModInverses'. -/
def modInversesCard : Claim7 := { stood := { row := modInversesRow, standIns := [], harness := (true, "f7b14e07cee80e76f2e3d2d4c79f7f2649c6f7e1d1bfed6ceeb2fa8bd426d2fa"), looks := false }, kinds := [], alts := [], laidByText := true, laidKinds := [.data], laidTests := true, laidLooks := .later }
def ModInversesCardSaid : Prop := Claim7.holds Tryd.pinned (.plain (OpenSpec.ofChange modInversesSpec)) modInversesCard

/-- THE TIED CARD OF 'palisadelaw03.ModWalks'. -/
def modWalksCard : Claim7 := { stood := { row := modWalksRow, standIns := [], harness := (true, "f7b14e07cee80e76f2e3d2d4c79f7f2649c6f7e1d1bfed6ceeb2fa8bd426d2fa"), looks := false }, kinds := [], alts := [], laidByText := true, laidKinds := [.data], laidTests := true, laidLooks := .later }
def ModWalksCardSaid : Prop := Claim7.holds Tryd.pinned (.plain (OpenSpec.ofChange modWalksSpec)) modWalksCard

/-- THE TIED CARD OF 'palisadelaw03.ModHolds'. -/
def modHoldsCard : Claim7 := { stood := { row := modHoldsRow, standIns := [], harness := (true, "f7b14e07cee80e76f2e3d2d4c79f7f2649c6f7e1d1bfed6ceeb2fa8bd426d2fa"), looks := false }, kinds := [], alts := [], laidByText := true, laidKinds := [.data], laidTests := true, laidLooks := .later }
def ModHoldsCardSaid : Prop := Claim7.holds Tryd.pinned (.plain (OpenSpec.ofChange modHoldsSpec)) modHoldsCard

/-- THE TIED CARD OF 'palisadelaw03.ModBacks'. -/
def modBacksCard : Claim7 := { stood := { row := modBacksRow, standIns := [], harness := (true, "f7b14e07cee80e76f2e3d2d4c79f7f2649c6f7e1d1bfed6ceeb2fa8bd426d2fa"), looks := false }, kinds := [], alts := [], laidByText := true, laidKinds := [.data], laidTests := true, laidLooks := .later }
def ModBacksCardSaid : Prop := Claim7.holds Tryd.pinned (.plain (OpenSpec.ofChange modBacksSpec)) modBacksCard

/-- THE SECOND FORM's CARD OF 'palisadelaw03.ModSums'. -/
def modSumsUptoCard : Claim7 := { stood := { row := modSumsUptoRow, standIns := [], harness := (true, "f7b14e07cee80e76f2e3d2d4c79f7f2649c6f7e1d1bfed6ceeb2fa8bd426d2fa"), looks := false }, kinds := [], alts := [], laidByText := true, laidKinds := [.data], laidTests := true, laidLooks := .later }
def ModSumsUptoCardSaid : Prop := Claim7.holds Tryd.pinned (.plain (OpenSpec.upto modSumsSpec)) modSumsUptoCard

/-- THE SECOND FORM's CARD OF 'palisadelaw03.ModInverses'. -/
def modInversesUptoCard : Claim7 := { stood := { row := modInversesUptoRow, standIns := [], harness := (true, "f7b14e07cee80e76f2e3d2d4c79f7f2649c6f7e1d1bfed6ceeb2fa8bd426d2fa"), looks := false }, kinds := [], alts := [], laidByText := true, laidKinds := [.data], laidTests := true, laidLooks := .later }
def ModInversesUptoCardSaid : Prop := Claim7.holds Tryd.pinned (.plain (OpenSpec.upto modInversesSpec)) modInversesUptoCard

/-- THE SECOND FORM's CARD OF 'palisadelaw03.ModWalks'. -/
def modWalksUptoCard : Claim7 := { stood := { row := modWalksUptoRow, standIns := [], harness := (true, "f7b14e07cee80e76f2e3d2d4c79f7f2649c6f7e1d1bfed6ceeb2fa8bd426d2fa"), looks := false }, kinds := [], alts := [], laidByText := true, laidKinds := [.data], laidTests := true, laidLooks := .later }
def ModWalksUptoCardSaid : Prop := Claim7.holds Tryd.pinned (.plain (OpenSpec.upto modWalksSpec)) modWalksUptoCard

/-- THE SECOND FORM's CARD OF 'palisadelaw03.ModHolds'. -/
def modHoldsUptoCard : Claim7 := { stood := { row := modHoldsUptoRow, standIns := [], harness := (true, "f7b14e07cee80e76f2e3d2d4c79f7f2649c6f7e1d1bfed6ceeb2fa8bd426d2fa"), looks := false }, kinds := [], alts := [], laidByText := true, laidKinds := [.data], laidTests := true, laidLooks := .later }
def ModHoldsUptoCardSaid : Prop := Claim7.holds Tryd.pinned (.plain (OpenSpec.upto modHoldsSpec)) modHoldsUptoCard

/-- THE SECOND FORM's CARD OF 'palisadelaw03.ModBacks'. -/
def modBacksUptoCard : Claim7 := { stood := { row := modBacksUptoRow, standIns := [], harness := (true, "f7b14e07cee80e76f2e3d2d4c79f7f2649c6f7e1d1bfed6ceeb2fa8bd426d2fa"), looks := false }, kinds := [], alts := [], laidByText := true, laidKinds := [.data], laidTests := true, laidLooks := .later }
def ModBacksUptoCardSaid : Prop := Claim7.holds Tryd.pinned (.plain (OpenSpec.upto modBacksSpec)) modBacksUptoCard
end Rows
end Go.Proofs.YtoljflkfhdaipaaDoor
