/-
  DERIVED. GIVEN WITH THE SEED: THE CARDS: each row of YtkllhjhkcipkoaaGreatDoorRows.lean that lists a variable, with what it lists TIED to the program's text (the seventh form; the later family's looks); each row that meets fmt, with fmt's text TOLD by the authors' own Lean function (tested against real Go, not proved from fmt's source: count such statements apart). THE CARD IS WHAT COUNTS. Prove the row's statement (the work); the ties are given (YtkllhjhkcipkoaaGreatDoorTie.lean); close each card by the builder's one call (the guide's Derived/Test/ToyasCard.lean, 'card_holds'). Laid BY PROGRAM, IN A SANDBOX (cutbox-door.mjs). By AI agents, Wed Nov 11 2026. No macro, syntax, notation, axiom, sorry.
-/
import Derived.Test.YtkllhjhkcipkoaaGreatDoorRows
import GoSem.ClaimSeven
namespace Go.Proofs.YtkllhjhkcipkoaaGreatDoor
namespace Rows

/-- THE TIED CARD OF 'palisadelaw13.TripleThrees'. -/
def tripleThreesCard : Claim7 := { stood := { row := tripleThreesRow, standIns := [], harness := (true, "4dc88bd1b8ebf12f00d18a3d1e7d7061d1af803e74bbf9a527b04c62e08283fc"), looks := true }, kinds := [], alts := [], laidByText := true, laidKinds := [.data, .data], laidTests := true, laidLooks := .later }
def TripleThreesCardSaid : Prop := Claim7.holds Tryz.pinned (.plain (OpenSpec.ofChange tripleThreesSpec)) tripleThreesCard

/-- THE TIED CARD OF 'palisadelaw13.TripleTwos'. -/
def tripleTwosCard : Claim7 := { stood := { row := tripleTwosRow, standIns := [], harness := (true, "4dc88bd1b8ebf12f00d18a3d1e7d7061d1af803e74bbf9a527b04c62e08283fc"), looks := true }, kinds := [], alts := [], laidByText := true, laidKinds := [.data, .data], laidTests := true, laidLooks := .later }
def TripleTwosCardSaid : Prop := Claim7.holds Tryz.pinned (.plain (OpenSpec.ofChange tripleTwosSpec)) tripleTwosCard

/-- THE TIED CARD OF 'palisadelaw13.TripleOnes'. -/
def tripleOnesCard : Claim7 := { stood := { row := tripleOnesRow, standIns := [], harness := (true, "4dc88bd1b8ebf12f00d18a3d1e7d7061d1af803e74bbf9a527b04c62e08283fc"), looks := true }, kinds := [], alts := [], laidByText := true, laidKinds := [.data, .data], laidTests := true, laidLooks := .later }
def TripleOnesCardSaid : Prop := Claim7.holds Tryz.pinned (.plain (OpenSpec.ofChange tripleOnesSpec)) tripleOnesCard

/-- THE TIED CARD OF 'palisadelaw13.TripleHolds'. -/
def tripleHoldsCard : Claim7 := { stood := { row := tripleHoldsRow, standIns := [], harness := (true, "4dc88bd1b8ebf12f00d18a3d1e7d7061d1af803e74bbf9a527b04c62e08283fc"), looks := true }, kinds := [], alts := [], laidByText := true, laidKinds := [.data, .data], laidTests := true, laidLooks := .later }
def TripleHoldsCardSaid : Prop := Claim7.holds Tryz.pinned (.plain (OpenSpec.ofChange tripleHoldsSpec)) tripleHoldsCard

/-- THE TIED CARD OF 'palisadelaw13.TripleAdds'. -/
def tripleAddsCard : Claim7 := { stood := { row := tripleAddsRow, standIns := [], harness := (true, "4dc88bd1b8ebf12f00d18a3d1e7d7061d1af803e74bbf9a527b04c62e08283fc"), looks := true }, kinds := [], alts := [], laidByText := true, laidKinds := [.data, .data], laidTests := true, laidLooks := .later }
def TripleAddsCardSaid : Prop := Claim7.holds Tryz.pinned (.plain (OpenSpec.ofChange tripleAddsSpec)) tripleAddsCard

/-- THE SECOND FORM's CARD OF 'palisadelaw13.TripleThrees'. -/
def tripleThreesUptoCard : Claim7 := { stood := { row := tripleThreesUptoRow, standIns := [], harness := (true, "4dc88bd1b8ebf12f00d18a3d1e7d7061d1af803e74bbf9a527b04c62e08283fc"), looks := true }, kinds := [], alts := [], laidByText := true, laidKinds := [.data, .data], laidTests := true, laidLooks := .later }
def TripleThreesUptoCardSaid : Prop := Claim7.holds Tryz.pinned (.plain (OpenSpec.upto tripleThreesSpec)) tripleThreesUptoCard

/-- THE SECOND FORM's CARD OF 'palisadelaw13.TripleTwos'. -/
def tripleTwosUptoCard : Claim7 := { stood := { row := tripleTwosUptoRow, standIns := [], harness := (true, "4dc88bd1b8ebf12f00d18a3d1e7d7061d1af803e74bbf9a527b04c62e08283fc"), looks := true }, kinds := [], alts := [], laidByText := true, laidKinds := [.data, .data], laidTests := true, laidLooks := .later }
def TripleTwosUptoCardSaid : Prop := Claim7.holds Tryz.pinned (.plain (OpenSpec.upto tripleTwosSpec)) tripleTwosUptoCard

/-- THE SECOND FORM's CARD OF 'palisadelaw13.TripleOnes'. -/
def tripleOnesUptoCard : Claim7 := { stood := { row := tripleOnesUptoRow, standIns := [], harness := (true, "4dc88bd1b8ebf12f00d18a3d1e7d7061d1af803e74bbf9a527b04c62e08283fc"), looks := true }, kinds := [], alts := [], laidByText := true, laidKinds := [.data, .data], laidTests := true, laidLooks := .later }
def TripleOnesUptoCardSaid : Prop := Claim7.holds Tryz.pinned (.plain (OpenSpec.upto tripleOnesSpec)) tripleOnesUptoCard

/-- THE SECOND FORM's CARD OF 'palisadelaw13.TripleHolds'. -/
def tripleHoldsUptoCard : Claim7 := { stood := { row := tripleHoldsUptoRow, standIns := [], harness := (true, "4dc88bd1b8ebf12f00d18a3d1e7d7061d1af803e74bbf9a527b04c62e08283fc"), looks := true }, kinds := [], alts := [], laidByText := true, laidKinds := [.data, .data], laidTests := true, laidLooks := .later }
def TripleHoldsUptoCardSaid : Prop := Claim7.holds Tryz.pinned (.plain (OpenSpec.upto tripleHoldsSpec)) tripleHoldsUptoCard

/-- THE SECOND FORM's CARD OF 'palisadelaw13.TripleAdds'. -/
def tripleAddsUptoCard : Claim7 := { stood := { row := tripleAddsUptoRow, standIns := [], harness := (true, "4dc88bd1b8ebf12f00d18a3d1e7d7061d1af803e74bbf9a527b04c62e08283fc"), looks := true }, kinds := [], alts := [], laidByText := true, laidKinds := [.data, .data], laidTests := true, laidLooks := .later }
def TripleAddsUptoCardSaid : Prop := Claim7.holds Tryz.pinned (.plain (OpenSpec.upto tripleAddsSpec)) tripleAddsUptoCard
end Rows
end Go.Proofs.YtkllhjhkcipkoaaGreatDoor
