/-
  DERIVED. GIVEN WITH THE SEED: THE CARDS: each row of YtcbkdbnpcpgadaaDoorRows.lean that lists a variable, with what it lists TIED to the program's text (the seventh form; the later family's looks); each row that meets fmt, with fmt's text TOLD by the authors' own Lean function (tested against real Go, not proved from fmt's source: count such statements apart). THE CARD IS WHAT COUNTS. Prove the row's statement (the work); the ties are given (YtcbkdbnpcpgadaaDoorTie.lean); close each card by the builder's one call (the guide's Derived/Test/ToyasCard.lean, 'card_holds'). Laid BY PROGRAM, IN A SANDBOX (cutbox-door.mjs). By AI agents, Wed Nov 11 2026. No macro, syntax, notation, axiom, sorry.
-/
import Derived.Test.YtcbkdbnpcpgadaaDoorRows
import GoSem.ClaimSeven
namespace Go.Proofs.YtcbkdbnpcpgadaaDoor
namespace Rows

/-- THE TIED CARD OF 'palisadelaw06.EvenoddTurns'. -/
def evenoddTurnsCard : Claim7 := { stood := { row := evenoddTurnsRow, standIns := [], harness := (true, "bebac8c76e77d6b6d8991a867ad7f997cdca5ffa60814bc3a3209b50e2c2322a"), looks := true }, kinds := [], alts := [], laidByText := true, laidKinds := [.data, .data], laidTests := true, laidLooks := .later }
def EvenoddTurnsCardSaid : Prop := Claim7.holds Tryd.pinned (.plain (OpenSpec.ofChange evenoddTurnsSpec)) evenoddTurnsCard

/-- THE TIED CARD OF 'palisadelaw06.EvenoddBytes'. -/
def evenoddBytesCard : Claim7 := { stood := { row := evenoddBytesRow, standIns := [], harness := (true, "bebac8c76e77d6b6d8991a867ad7f997cdca5ffa60814bc3a3209b50e2c2322a"), looks := true }, kinds := [], alts := [], laidByText := true, laidKinds := [.data, .data], laidTests := true, laidLooks := .later }
def EvenoddBytesCardSaid : Prop := Claim7.holds Tryd.pinned (.plain (OpenSpec.ofChange evenoddBytesSpec)) evenoddBytesCard

/-- THE SECOND FORM's CARD OF 'palisadelaw06.EvenoddTurns'. -/
def evenoddTurnsUptoCard : Claim7 := { stood := { row := evenoddTurnsUptoRow, standIns := [], harness := (true, "bebac8c76e77d6b6d8991a867ad7f997cdca5ffa60814bc3a3209b50e2c2322a"), looks := true }, kinds := [], alts := [], laidByText := true, laidKinds := [.data, .data], laidTests := true, laidLooks := .later }
def EvenoddTurnsUptoCardSaid : Prop := Claim7.holds Tryd.pinned (.plain (OpenSpec.upto evenoddTurnsSpec)) evenoddTurnsUptoCard

/-- THE SECOND FORM's CARD OF 'palisadelaw06.EvenoddBytes'. -/
def evenoddBytesUptoCard : Claim7 := { stood := { row := evenoddBytesUptoRow, standIns := [], harness := (true, "bebac8c76e77d6b6d8991a867ad7f997cdca5ffa60814bc3a3209b50e2c2322a"), looks := true }, kinds := [], alts := [], laidByText := true, laidKinds := [.data, .data], laidTests := true, laidLooks := .later }
def EvenoddBytesUptoCardSaid : Prop := Claim7.holds Tryd.pinned (.plain (OpenSpec.upto evenoddBytesSpec)) evenoddBytesUptoCard
end Rows
end Go.Proofs.YtcbkdbnpcpgadaaDoor
