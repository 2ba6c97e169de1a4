/-
  DERIVED. GIVEN WITH THE SEED: THE CARDS: each row of YtckfepmahjgmfaaDoorRows.lean that lists a variable, with what it lists TIED to the program's text (the seventh form; the later family's looks); each row that meets fmt, with fmt's text TOLD by the authors' own Lean function (tested against real Go, not proved from fmt's source: count such statements apart). THE CARD IS WHAT COUNTS. Prove the row's statement (the work); the ties are given (YtckfepmahjgmfaaDoorTie.lean); close each card by the builder's one call (the guide's Derived/Test/ToyasCard.lean, 'card_holds'). Laid BY PROGRAM, IN A SANDBOX (cutbox-door.mjs). By AI agents, Wed Nov 11 2026. No macro, syntax, notation, axiom, sorry.
-/
import Derived.Test.YtckfepmahjgmfaaDoorRows
import GoSem.ClaimSeven
namespace Go.Proofs.YtckfepmahjgmfaaDoor
namespace Rows

/-- THE TIED CARD OF 'palisadelaw10.RingTurns'. -/
def ringTurnsCard : Claim7 := { stood := { row := ringTurnsRow, standIns := [], harness := (true, "99df5f4bcb019dcdec7cff5fcc9a2e8187eb1342bd2c8a4118c04815654cb552"), looks := true }, kinds := [], alts := [], laidByText := true, laidKinds := [.data, .data], laidTests := true, laidLooks := .later }
def RingTurnsCardSaid : Prop := Claim7.holds Tryd.pinned (.plain (OpenSpec.ofChange ringTurnsSpec)) ringTurnsCard

/-- THE TIED CARD OF 'palisadelaw10.RingSlackens'. -/
def ringSlackensCard : Claim7 := { stood := { row := ringSlackensRow, standIns := [], harness := (true, "99df5f4bcb019dcdec7cff5fcc9a2e8187eb1342bd2c8a4118c04815654cb552"), looks := true }, kinds := [], alts := [], laidByText := true, laidKinds := [.data, .data], laidTests := true, laidLooks := .later }
def RingSlackensCardSaid : Prop := Claim7.holds Tryd.pinned (.plain (OpenSpec.ofChange ringSlackensSpec)) ringSlackensCard

/-- THE TIED CARD OF 'palisadelaw10.RingSums'. -/
def ringSumsCard : Claim7 := { stood := { row := ringSumsRow, standIns := [], harness := (true, "99df5f4bcb019dcdec7cff5fcc9a2e8187eb1342bd2c8a4118c04815654cb552"), looks := true }, kinds := [], alts := [], laidByText := true, laidKinds := [.data, .data], laidTests := true, laidLooks := .later }
def RingSumsCardSaid : Prop := Claim7.holds Tryd.pinned (.plain (OpenSpec.ofChange ringSumsSpec)) ringSumsCard

/-- THE TIED CARD OF 'palisadelaw10.RingRows'. -/
def ringRowsCard : Claim7 := { stood := { row := ringRowsRow, standIns := [], harness := (true, "99df5f4bcb019dcdec7cff5fcc9a2e8187eb1342bd2c8a4118c04815654cb552"), looks := true }, kinds := [], alts := [], laidByText := true, laidKinds := [.data, .data], laidTests := true, laidLooks := .later }
def RingRowsCardSaid : Prop := Claim7.holds Tryd.pinned (.plain (OpenSpec.ofChange ringRowsSpec)) ringRowsCard

/-- THE TIED CARD OF 'palisadelaw10.RingHolds'. -/
def ringHoldsCard : Claim7 := { stood := { row := ringHoldsRow, standIns := [], harness := (true, "99df5f4bcb019dcdec7cff5fcc9a2e8187eb1342bd2c8a4118c04815654cb552"), looks := true }, kinds := [], alts := [], laidByText := true, laidKinds := [.data, .data], laidTests := true, laidLooks := .later }
def RingHoldsCardSaid : Prop := Claim7.holds Tryd.pinned (.plain (OpenSpec.ofChange ringHoldsSpec)) ringHoldsCard

/-- THE TIED CARD OF 'palisadelaw10.RingNoughts'. -/
def ringNoughtsCard : Claim7 := { stood := { row := ringNoughtsRow, standIns := [], harness := (true, "99df5f4bcb019dcdec7cff5fcc9a2e8187eb1342bd2c8a4118c04815654cb552"), looks := true }, kinds := [], alts := [], laidByText := true, laidKinds := [.data, .data], laidTests := true, laidLooks := .later }
def RingNoughtsCardSaid : Prop := Claim7.holds Tryd.pinned (.plain (OpenSpec.ofChange ringNoughtsSpec)) ringNoughtsCard

/-- THE SECOND FORM's CARD OF 'palisadelaw10.RingTurns'. -/
def ringTurnsUptoCard : Claim7 := { stood := { row := ringTurnsUptoRow, standIns := [], harness := (true, "99df5f4bcb019dcdec7cff5fcc9a2e8187eb1342bd2c8a4118c04815654cb552"), looks := true }, kinds := [], alts := [], laidByText := true, laidKinds := [.data, .data], laidTests := true, laidLooks := .later }
def RingTurnsUptoCardSaid : Prop := Claim7.holds Tryd.pinned (.plain (OpenSpec.upto ringTurnsSpec)) ringTurnsUptoCard

/-- THE SECOND FORM's CARD OF 'palisadelaw10.RingSlackens'. -/
def ringSlackensUptoCard : Claim7 := { stood := { row := ringSlackensUptoRow, standIns := [], harness := (true, "99df5f4bcb019dcdec7cff5fcc9a2e8187eb1342bd2c8a4118c04815654cb552"), looks := true }, kinds := [], alts := [], laidByText := true, laidKinds := [.data, .data], laidTests := true, laidLooks := .later }
def RingSlackensUptoCardSaid : Prop := Claim7.holds Tryd.pinned (.plain (OpenSpec.upto ringSlackensSpec)) ringSlackensUptoCard

/-- THE SECOND FORM's CARD OF 'palisadelaw10.RingSums'. -/
def ringSumsUptoCard : Claim7 := { stood := { row := ringSumsUptoRow, standIns := [], harness := (true, "99df5f4bcb019dcdec7cff5fcc9a2e8187eb1342bd2c8a4118c04815654cb552"), looks := true }, kinds := [], alts := [], laidByText := true, laidKinds := [.data, .data], laidTests := true, laidLooks := .later }
def RingSumsUptoCardSaid : Prop := Claim7.holds Tryd.pinned (.plain (OpenSpec.upto ringSumsSpec)) ringSumsUptoCard

/-- THE SECOND FORM's CARD OF 'palisadelaw10.RingRows'. -/
def ringRowsUptoCard : Claim7 := { stood := { row := ringRowsUptoRow, standIns := [], harness := (true, "99df5f4bcb019dcdec7cff5fcc9a2e8187eb1342bd2c8a4118c04815654cb552"), looks := true }, kinds := [], alts := [], laidByText := true, laidKinds := [.data, .data], laidTests := true, laidLooks := .later }
def RingRowsUptoCardSaid : Prop := Claim7.holds Tryd.pinned (.plain (OpenSpec.upto ringRowsSpec)) ringRowsUptoCard

/-- THE SECOND FORM's CARD OF 'palisadelaw10.RingHolds'. -/
def ringHoldsUptoCard : Claim7 := { stood := { row := ringHoldsUptoRow, standIns := [], harness := (true, "99df5f4bcb019dcdec7cff5fcc9a2e8187eb1342bd2c8a4118c04815654cb552"), looks := true }, kinds := [], alts := [], laidByText := true, laidKinds := [.data, .data], laidTests := true, laidLooks := .later }
def RingHoldsUptoCardSaid : Prop := Claim7.holds Tryd.pinned (.plain (OpenSpec.upto ringHoldsSpec)) ringHoldsUptoCard

/-- THE SECOND FORM's CARD OF 'palisadelaw10.RingNoughts'. -/
def ringNoughtsUptoCard : Claim7 := { stood := { row := ringNoughtsUptoRow, standIns := [], harness := (true, "99df5f4bcb019dcdec7cff5fcc9a2e8187eb1342bd2c8a4118c04815654cb552"), looks := true }, kinds := [], alts := [], laidByText := true, laidKinds := [.data, .data], laidTests := true, laidLooks := .later }
def RingNoughtsUptoCardSaid : Prop := Claim7.holds Tryd.pinned (.plain (OpenSpec.upto ringNoughtsSpec)) ringNoughtsUptoCard
end Rows
end Go.Proofs.YtckfepmahjgmfaaDoor
