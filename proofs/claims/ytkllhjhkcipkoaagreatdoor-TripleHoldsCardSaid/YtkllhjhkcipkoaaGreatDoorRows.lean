/-
  NARROWER THAN 'FOR EVERY INPUT', by the rows' own cells (each row's printed sentence says how): TripleThrees: laid · TripleTwos: laid · TripleOnes: laid · TripleHolds: laid · TripleAdds: laid.
  DERIVED. THE GIVEN ROWS OF THIS SEAT. 5 by the template 'for every input the law returns true; each argument reads behind the call as it read before'; 0 by the template 'total and deterministic' (their statements: YtkllhjhkcipkoaaGreatDoorTotals.lean).
  GIVEN WITH THE SEED: the statements are not yours to turn. If you find one false, say at which input.
  Laid BY PROGRAM, IN A SANDBOX (cutbox-rows.mjs): the forced cells as the released guide's own fill.sh prints them over the translation cc90a57b214e6a56… (all of the seat's roots in one cut). By AI agents, Wed Nov 11 2026. No macro, syntax, notation, axiom, sorry.
-/
import Derived.Test.YtkllhjhkcipkoaaGreatDoorChecked
import GoSem.Claim
import GoSem.ClaimJoined
import GoSem.ClaimMapViews
import Derived.JoinedTies
import Derived.KernelRfl
namespace Go.Proofs.YtkllhjhkcipkoaaGreatDoor
/- THE CELL 'sum', in the pinned program and in every row, IS THE sha256 OF THE DUMP (.gsa) THAT YtkllhjhkcipkoaaGreatDoorProg.lean LOADS. Nothing in Lean hashes anything: it is a label: what it is worth is what the hold of that sum in a sandbox is worth. -/
noncomputable def Tryz.pinned : Pinned := { name := "ytkllhjhkcipkoaagreatdoor", sum := "cc90a57b214e6a5697a86d6ea5e1d22e46ea268fbf241ca60f1a8b95451cff3c", checked := Tryz.checked }
namespace Rows
def none {H : Type} : Left H := { results := [], args := [] }

/- WHAT THE LISTED PACKAGE-LEVEL VARIABLES READ AS WHEN THE CALL BEGINS. Each datum BY PROGRAM (the guide's laid-datum.mjs) off the statement by which the dump's own 'gosem.cut.vars' lays the variable. In a bare row this is a premise. The card (YtkllhjhkcipkoaaGreatDoorCards.lean) ties it to the program's text. -/
def laid_palisade_mod_primes {H : Type} : DataW H := .agg [.lit (.int .i64 3), .lit (.int .i64 5), .lit (.int .i64 7), .lit (.int .i64 11), .lit (.int .i64 13), .lit (.int .i64 17)]
def laid_palisade_shape_kinds {H : Type} : DataW H := .agg [.agg [.lit (.int .i64 0), .lit (.int .i64 0)], .agg [.lit (.int .i64 0), .lit (.int .i64 2)], .agg [.lit (.int .i64 1), .lit (.int .i64 2)], .agg [.lit (.int .i64 0), .lit (.int .i64 3)]]

/-- 'palisadelaw13.TripleThrees': WHATEVER THE INPUT: true; the input reads as it did. -/
def tripleThreesSpec : ChangeSpec := { name := "tripleThrees", fn := fun _ => fun
  | [d1, d2, d3] => { results := [.lit (.bool true)], args := [d1, d2, d3] }
  | _ => none }
def tripleThreesRow : OpenClaim := { program := "ytkllhjhkcipkoaagreatdoor", sum := "cc90a57b214e6a5697a86d6ea5e1d22e46ea268fbf241ca60f1a8b95451cff3c", func := "palisade/palisadelaw13.TripleThrees", spec := "tripleThrees", unfollowed := true, recurses := true, named := ["palisade/mod.primes", "palisade/shape.kinds"], apart := false, laid := [("palisade/mod.primes", laid_palisade_mod_primes), ("palisade/shape.kinds", laid_palisade_shape_kinds)] }
def TripleThreesSaid : Prop := tripleThreesRow.holds Tryz.pinned (OpenSpec.ofChange tripleThreesSpec)

/-- ITS FALSE NEIGHBOUR: 'it returns false'. Refute it at one input. -/
def tripleThreesWrong : ChangeSpec := { name := "tripleThrees", fn := fun _ => fun
  | [d1, d2, d3] => { results := [.lit (.bool false)], args := [d1, d2, d3] }
  | _ => none }
def TripleThreesWrongFalsely : Prop := tripleThreesRow.holds Tryz.pinned (OpenSpec.ofChange tripleThreesWrong)

/-- 'palisadelaw13.TripleTwos': WHATEVER THE INPUT: true; the input reads as it did. -/
def tripleTwosSpec : ChangeSpec := { name := "tripleTwos", fn := fun _ => fun
  | [d1, d2, d3, d4] => { results := [.lit (.bool true)], args := [d1, d2, d3, d4] }
  | _ => none }
def tripleTwosRow : OpenClaim := { program := "ytkllhjhkcipkoaagreatdoor", sum := "cc90a57b214e6a5697a86d6ea5e1d22e46ea268fbf241ca60f1a8b95451cff3c", func := "palisade/palisadelaw13.TripleTwos", spec := "tripleTwos", unfollowed := true, recurses := true, named := ["palisade/mod.primes", "palisade/shape.kinds"], apart := false, laid := [("palisade/mod.primes", laid_palisade_mod_primes), ("palisade/shape.kinds", laid_palisade_shape_kinds)] }
def TripleTwosSaid : Prop := tripleTwosRow.holds Tryz.pinned (OpenSpec.ofChange tripleTwosSpec)

/-- ITS FALSE NEIGHBOUR: 'it returns false'. Refute it at one input. -/
def tripleTwosWrong : ChangeSpec := { name := "tripleTwos", fn := fun _ => fun
  | [d1, d2, d3, d4] => { results := [.lit (.bool false)], args := [d1, d2, d3, d4] }
  | _ => none }
def TripleTwosWrongFalsely : Prop := tripleTwosRow.holds Tryz.pinned (OpenSpec.ofChange tripleTwosWrong)

/-- 'palisadelaw13.TripleOnes': WHATEVER THE INPUT: true; the input reads as it did. -/
def tripleOnesSpec : ChangeSpec := { name := "tripleOnes", fn := fun _ => fun
  | [d1, d2, d3, d4] => { results := [.lit (.bool true)], args := [d1, d2, d3, d4] }
  | _ => none }
def tripleOnesRow : OpenClaim := { program := "ytkllhjhkcipkoaagreatdoor", sum := "cc90a57b214e6a5697a86d6ea5e1d22e46ea268fbf241ca60f1a8b95451cff3c", func := "palisade/palisadelaw13.TripleOnes", spec := "tripleOnes", unfollowed := true, recurses := true, named := ["palisade/mod.primes", "palisade/shape.kinds"], apart := false, laid := [("palisade/mod.primes", laid_palisade_mod_primes), ("palisade/shape.kinds", laid_palisade_shape_kinds)] }
def TripleOnesSaid : Prop := tripleOnesRow.holds Tryz.pinned (OpenSpec.ofChange tripleOnesSpec)

/-- ITS FALSE NEIGHBOUR: 'it returns false'. Refute it at one input. -/
def tripleOnesWrong : ChangeSpec := { name := "tripleOnes", fn := fun _ => fun
  | [d1, d2, d3, d4] => { results := [.lit (.bool false)], args := [d1, d2, d3, d4] }
  | _ => none }
def TripleOnesWrongFalsely : Prop := tripleOnesRow.holds Tryz.pinned (OpenSpec.ofChange tripleOnesWrong)

/-- 'palisadelaw13.TripleHolds': WHATEVER THE INPUT: true; the input reads as it did. -/
def tripleHoldsSpec : ChangeSpec := { name := "tripleHolds", fn := fun _ => fun
  | [d1, d2, d3, d4, d5] => { results := [.lit (.bool true)], args := [d1, d2, d3, d4, d5] }
  | _ => none }
def tripleHoldsRow : OpenClaim := { program := "ytkllhjhkcipkoaagreatdoor", sum := "cc90a57b214e6a5697a86d6ea5e1d22e46ea268fbf241ca60f1a8b95451cff3c", func := "palisade/palisadelaw13.TripleHolds", spec := "tripleHolds", unfollowed := true, recurses := true, named := ["palisade/mod.primes", "palisade/shape.kinds"], apart := false, laid := [("palisade/mod.primes", laid_palisade_mod_primes), ("palisade/shape.kinds", laid_palisade_shape_kinds)] }
def TripleHoldsSaid : Prop := tripleHoldsRow.holds Tryz.pinned (OpenSpec.ofChange tripleHoldsSpec)

/-- ITS FALSE NEIGHBOUR: 'it returns false'. Refute it at one input. -/
def tripleHoldsWrong : ChangeSpec := { name := "tripleHolds", fn := fun _ => fun
  | [d1, d2, d3, d4, d5] => { results := [.lit (.bool false)], args := [d1, d2, d3, d4, d5] }
  | _ => none }
def TripleHoldsWrongFalsely : Prop := tripleHoldsRow.holds Tryz.pinned (OpenSpec.ofChange tripleHoldsWrong)

/-- 'palisadelaw13.TripleAdds': WHATEVER THE INPUT: true; the input reads as it did. -/
def tripleAddsSpec : ChangeSpec := { name := "tripleAdds", fn := fun _ => fun
  | [d1, d2, d3, d4] => { results := [.lit (.bool true)], args := [d1, d2, d3, d4] }
  | _ => none }
def tripleAddsRow : OpenClaim := { program := "ytkllhjhkcipkoaagreatdoor", sum := "cc90a57b214e6a5697a86d6ea5e1d22e46ea268fbf241ca60f1a8b95451cff3c", func := "palisade/palisadelaw13.TripleAdds", spec := "tripleAdds", unfollowed := true, recurses := true, named := ["palisade/mod.primes", "palisade/shape.kinds"], apart := false, laid := [("palisade/mod.primes", laid_palisade_mod_primes), ("palisade/shape.kinds", laid_palisade_shape_kinds)] }
def TripleAddsSaid : Prop := tripleAddsRow.holds Tryz.pinned (OpenSpec.ofChange tripleAddsSpec)

/-- ITS FALSE NEIGHBOUR: 'it returns false'. Refute it at one input. -/
def tripleAddsWrong : ChangeSpec := { name := "tripleAdds", fn := fun _ => fun
  | [d1, d2, d3, d4] => { results := [.lit (.bool false)], args := [d1, d2, d3, d4] }
  | _ => none }
def TripleAddsWrongFalsely : Prop := tripleAddsRow.holds Tryz.pinned (OpenSpec.ofChange tripleAddsWrong)

/- THE SECOND FORM. 'bulk': how many values and letters a reading holds, each counted each time it is reached (what is shared counts as often as it is met; a slice's spare places count too). A statement '..UptoSaid' is the law's where the arguments, and the package variables that the reading takes, are together of bulk at most 1048576: NARROWER than '..Said'. Prove '..Said' where nothing that the law and all that it calls make is longer than what came in: it says more and counts as full. Else prove '..UptoSaid'. A law counts once. -/
mutual
def uptoBulk {H : Type} : DataW H → Nat
  | .lit (.string bytes) => bytes.length + 1
  | .lit _ => 1
  | .nil => 1
  | .ptr d => uptoBulk d + 1
  | .slice elems spare => uptoBulkAll elems + uptoBulkAll spare + 1
  | .agg parts => uptoBulkAll parts + 1
  | .iface _ d => uptoBulk d + 1
  | .map entries => uptoBulkEntries entries + 1
  | .held _ => 1
def uptoBulkAll {H : Type} : List (DataW H) → Nat
  | [] => 0
  | d :: r => uptoBulk d + uptoBulkAll r
def uptoBulkEntries {H : Type} : List (Lit × DataW H) → Nat
  | [] => 0
  | x :: r => uptoBulkEntry x + uptoBulkEntries r
def uptoBulkEntry {H : Type} : Lit × DataW H → Nat
  | (.string bytes, d) => bytes.length + uptoBulk d + 1
  | (_, d) => uptoBulk d + 1
 end
def uptoSmall : (H : Type) → List (DataW H) → Bool := fun _ ds => decide (uptoBulkAll ds ≤ 1048576)
def OpenSpec.upto (s : _root_.Go.ChangeSpec) : _root_.Go.OpenSpec := { _root_.Go.OpenSpec.ofChange s with cond := some uptoSmall }

/-- 'palisadelaw13.TripleThrees', WHERE WHAT IT READS IS OF BULK AT MOST 1048576: true; the input reads as it did. -/
def tripleThreesUptoRow : OpenClaim := { program := "ytkllhjhkcipkoaagreatdoor", sum := "cc90a57b214e6a5697a86d6ea5e1d22e46ea268fbf241ca60f1a8b95451cff3c", func := "palisade/palisadelaw13.TripleThrees", spec := "tripleThrees", unfollowed := true, recurses := true, named := ["palisade/mod.primes", "palisade/shape.kinds"], apart := false, laid := [("palisade/mod.primes", laid_palisade_mod_primes), ("palisade/shape.kinds", laid_palisade_shape_kinds)], narrowed := true }
def TripleThreesUptoSaid : Prop := tripleThreesUptoRow.holds Tryz.pinned (OpenSpec.upto tripleThreesSpec)

/-- 'palisadelaw13.TripleTwos', WHERE WHAT IT READS IS OF BULK AT MOST 1048576: true; the input reads as it did. -/
def tripleTwosUptoRow : OpenClaim := { program := "ytkllhjhkcipkoaagreatdoor", sum := "cc90a57b214e6a5697a86d6ea5e1d22e46ea268fbf241ca60f1a8b95451cff3c", func := "palisade/palisadelaw13.TripleTwos", spec := "tripleTwos", unfollowed := true, recurses := true, named := ["palisade/mod.primes", "palisade/shape.kinds"], apart := false, laid := [("palisade/mod.primes", laid_palisade_mod_primes), ("palisade/shape.kinds", laid_palisade_shape_kinds)], narrowed := true }
def TripleTwosUptoSaid : Prop := tripleTwosUptoRow.holds Tryz.pinned (OpenSpec.upto tripleTwosSpec)

/-- 'palisadelaw13.TripleOnes', WHERE WHAT IT READS IS OF BULK AT MOST 1048576: true; the input reads as it did. -/
def tripleOnesUptoRow : OpenClaim := { program := "ytkllhjhkcipkoaagreatdoor", sum := "cc90a57b214e6a5697a86d6ea5e1d22e46ea268fbf241ca60f1a8b95451cff3c", func := "palisade/palisadelaw13.TripleOnes", spec := "tripleOnes", unfollowed := true, recurses := true, named := ["palisade/mod.primes", "palisade/shape.kinds"], apart := false, laid := [("palisade/mod.primes", laid_palisade_mod_primes), ("palisade/shape.kinds", laid_palisade_shape_kinds)], narrowed := true }
def TripleOnesUptoSaid : Prop := tripleOnesUptoRow.holds Tryz.pinned (OpenSpec.upto tripleOnesSpec)

/-- 'palisadelaw13.TripleHolds', WHERE WHAT IT READS IS OF BULK AT MOST 1048576: true; the input reads as it did. -/
def tripleHoldsUptoRow : OpenClaim := { program := "ytkllhjhkcipkoaagreatdoor", sum := "cc90a57b214e6a5697a86d6ea5e1d22e46ea268fbf241ca60f1a8b95451cff3c", func := "palisade/palisadelaw13.TripleHolds", spec := "tripleHolds", unfollowed := true, recurses := true, named := ["palisade/mod.primes", "palisade/shape.kinds"], apart := false, laid := [("palisade/mod.primes", laid_palisade_mod_primes), ("palisade/shape.kinds", laid_palisade_shape_kinds)], narrowed := true }
def TripleHoldsUptoSaid : Prop := tripleHoldsUptoRow.holds Tryz.pinned (OpenSpec.upto tripleHoldsSpec)

/-- 'palisadelaw13.TripleAdds', WHERE WHAT IT READS IS OF BULK AT MOST 1048576: true; the input reads as it did. -/
def tripleAddsUptoRow : OpenClaim := { program := "ytkllhjhkcipkoaagreatdoor", sum := "cc90a57b214e6a5697a86d6ea5e1d22e46ea268fbf241ca60f1a8b95451cff3c", func := "palisade/palisadelaw13.TripleAdds", spec := "tripleAdds", unfollowed := true, recurses := true, named := ["palisade/mod.primes", "palisade/shape.kinds"], apart := false, laid := [("palisade/mod.primes", laid_palisade_mod_primes), ("palisade/shape.kinds", laid_palisade_shape_kinds)], narrowed := true }
def TripleAddsUptoSaid : Prop := tripleAddsUptoRow.holds Tryz.pinned (OpenSpec.upto tripleAddsSpec)

end Rows
end Go.Proofs.YtkllhjhkcipkoaaGreatDoor
