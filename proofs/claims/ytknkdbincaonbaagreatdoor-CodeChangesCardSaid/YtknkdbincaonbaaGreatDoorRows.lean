/-
  NARROWER THAN 'FOR EVERY INPUT', by the rows' own cells (each row's printed sentence says how): CodeEncodes: laid · CodeWrong: laid · CodeChanges: laid · CodeCopies: laid · CodeHolds: laid.
  DERIVED. THE GIVEN ROWS OF THIS SEAT. 5 by the template 'for every input the law returns true; each argument reads behind the call as it read before'; 0 by the template 'total and deterministic' (their statements: YtknkdbincaonbaaGreatDoorTotals.lean).
  GIVEN WITH THE SEED: the statements are not yours to turn. If you find one false, say at which input.
  Laid BY PROGRAM, IN A SANDBOX (cutbox-rows.mjs): the forced cells as the released guide's own fill.sh prints them over the translation 65ac84a760bf7785… (all of the seat's roots in one cut). By AI agents, Wed Nov 11 2026. No macro, syntax, notation, axiom, sorry.
-/
import Derived.Test.YtknkdbincaonbaaGreatDoorChecked
import GoSem.Claim
import GoSem.ClaimJoined
import GoSem.ClaimMapViews
import Derived.JoinedTies
import Derived.KernelRfl
namespace Go.Proofs.YtknkdbincaonbaaGreatDoor
/- THE CELL 'sum', in the pinned program and in every row, IS THE sha256 OF THE DUMP (.gsa) THAT YtknkdbincaonbaaGreatDoorProg.lean LOADS. Nothing in Lean hashes anything: it is a label: what it is worth is what the hold of that sum in a sandbox is worth. -/
noncomputable def Tryz.pinned : Pinned := { name := "ytknkdbincaonbaagreatdoor", sum := "65ac84a760bf778527a1f6e2ffeb2d0aa3f60105b5b3b76d0453c5a1671f7322", checked := Tryz.checked }
namespace Rows
def none {H : Type} : Left H := { results := [], args := [] }

/- WHAT THE LISTED PACKAGE-LEVEL VARIABLES READ AS WHEN THE CALL BEGINS. Each datum BY PROGRAM (the guide's laid-datum.mjs) off the statement by which the dump's own 'gosem.cut.vars' lays the variable. In a bare row this is a premise. The card (YtknkdbincaonbaaGreatDoorCards.lean) ties it to the program's text. -/
def laid_palisade_mod_primes {H : Type} : DataW H := .agg [.lit (.int .i64 3), .lit (.int .i64 5), .lit (.int .i64 7), .lit (.int .i64 11), .lit (.int .i64 13), .lit (.int .i64 17)]
def laid_palisade_shape_kinds {H : Type} : DataW H := .agg [.agg [.lit (.int .i64 0), .lit (.int .i64 0)], .agg [.lit (.int .i64 0), .lit (.int .i64 2)], .agg [.lit (.int .i64 1), .lit (.int .i64 2)], .agg [.lit (.int .i64 0), .lit (.int .i64 3)]]

/-- 'palisadelaw09.CodeEncodes': WHATEVER THE INPUT: true; the input reads as it did. -/
def codeEncodesSpec : ChangeSpec := { name := "codeEncodes", fn := fun _ => fun
  | [d1, d2] => { results := [.lit (.bool true)], args := [d1, d2] }
  | _ => none }
def codeEncodesRow : OpenClaim := { program := "ytknkdbincaonbaagreatdoor", sum := "65ac84a760bf778527a1f6e2ffeb2d0aa3f60105b5b3b76d0453c5a1671f7322", func := "palisade/palisadelaw09.CodeEncodes", spec := "codeEncodes", unfollowed := true, recurses := true, named := ["palisade/shape.kinds", "palisade/mod.primes"], apart := false, laid := [("palisade/mod.primes", laid_palisade_mod_primes), ("palisade/shape.kinds", laid_palisade_shape_kinds)] }
def CodeEncodesSaid : Prop := codeEncodesRow.holds Tryz.pinned (OpenSpec.ofChange codeEncodesSpec)

/-- ITS FALSE NEIGHBOUR: 'it returns false'. Refute it at one input. -/
def codeEncodesWrong : ChangeSpec := { name := "codeEncodes", fn := fun _ => fun
  | [d1, d2] => { results := [.lit (.bool false)], args := [d1, d2] }
  | _ => none }
def CodeEncodesWrongFalsely : Prop := codeEncodesRow.holds Tryz.pinned (OpenSpec.ofChange codeEncodesWrong)

/-- 'palisadelaw09.CodeWrong': WHATEVER THE INPUT: true; the input reads as it did. -/
def codeWrongSpec : ChangeSpec := { name := "codeWrong", fn := fun _ => fun
  | [d1, d2, d3] => { results := [.lit (.bool true)], args := [d1, d2, d3] }
  | _ => none }
def codeWrongRow : OpenClaim := { program := "ytknkdbincaonbaagreatdoor", sum := "65ac84a760bf778527a1f6e2ffeb2d0aa3f60105b5b3b76d0453c5a1671f7322", func := "palisade/palisadelaw09.CodeWrong", spec := "codeWrong", unfollowed := true, recurses := true, named := ["palisade/shape.kinds", "palisade/mod.primes"], apart := false, laid := [("palisade/mod.primes", laid_palisade_mod_primes), ("palisade/shape.kinds", laid_palisade_shape_kinds)] }
def CodeWrongSaid : Prop := codeWrongRow.holds Tryz.pinned (OpenSpec.ofChange codeWrongSpec)

/-- ITS FALSE NEIGHBOUR: 'it returns false'. Refute it at one input. -/
def codeWrongWrong : ChangeSpec := { name := "codeWrong", fn := fun _ => fun
  | [d1, d2, d3] => { results := [.lit (.bool false)], args := [d1, d2, d3] }
  | _ => none }
def CodeWrongWrongFalsely : Prop := codeWrongRow.holds Tryz.pinned (OpenSpec.ofChange codeWrongWrong)

/-- 'palisadelaw09.CodeChanges': WHATEVER THE INPUT: true; the input reads as it did. -/
def codeChangesSpec : ChangeSpec := { name := "codeChanges", fn := fun _ => fun
  | [d1, d2, d3, d4] => { results := [.lit (.bool true)], args := [d1, d2, d3, d4] }
  | _ => none }
def codeChangesRow : OpenClaim := { program := "ytknkdbincaonbaagreatdoor", sum := "65ac84a760bf778527a1f6e2ffeb2d0aa3f60105b5b3b76d0453c5a1671f7322", func := "palisade/palisadelaw09.CodeChanges", spec := "codeChanges", unfollowed := true, recurses := true, named := ["palisade/shape.kinds", "palisade/mod.primes"], apart := false, laid := [("palisade/mod.primes", laid_palisade_mod_primes), ("palisade/shape.kinds", laid_palisade_shape_kinds)] }
def CodeChangesSaid : Prop := codeChangesRow.holds Tryz.pinned (OpenSpec.ofChange codeChangesSpec)

/-- ITS FALSE NEIGHBOUR: 'it returns false'. Refute it at one input. -/
def codeChangesWrong : ChangeSpec := { name := "codeChanges", fn := fun _ => fun
  | [d1, d2, d3, d4] => { results := [.lit (.bool false)], args := [d1, d2, d3, d4] }
  | _ => none }
def CodeChangesWrongFalsely : Prop := codeChangesRow.holds Tryz.pinned (OpenSpec.ofChange codeChangesWrong)

/-- 'palisadelaw09.CodeCopies': WHATEVER THE INPUT: true; the input reads as it did. -/
def codeCopiesSpec : ChangeSpec := { name := "codeCopies", fn := fun _ => fun
  | [d1, d2] => { results := [.lit (.bool true)], args := [d1, d2] }
  | _ => none }
def codeCopiesRow : OpenClaim := { program := "ytknkdbincaonbaagreatdoor", sum := "65ac84a760bf778527a1f6e2ffeb2d0aa3f60105b5b3b76d0453c5a1671f7322", func := "palisade/palisadelaw09.CodeCopies", spec := "codeCopies", unfollowed := true, recurses := true, named := ["palisade/shape.kinds", "palisade/mod.primes"], apart := false, laid := [("palisade/mod.primes", laid_palisade_mod_primes), ("palisade/shape.kinds", laid_palisade_shape_kinds)] }
def CodeCopiesSaid : Prop := codeCopiesRow.holds Tryz.pinned (OpenSpec.ofChange codeCopiesSpec)

/-- ITS FALSE NEIGHBOUR: 'it returns false'. Refute it at one input. -/
def codeCopiesWrong : ChangeSpec := { name := "codeCopies", fn := fun _ => fun
  | [d1, d2] => { results := [.lit (.bool false)], args := [d1, d2] }
  | _ => none }
def CodeCopiesWrongFalsely : Prop := codeCopiesRow.holds Tryz.pinned (OpenSpec.ofChange codeCopiesWrong)

/-- 'palisadelaw09.CodeHolds': WHATEVER THE INPUT: true; the input reads as it did. -/
def codeHoldsSpec : ChangeSpec := { name := "codeHolds", fn := fun _ => fun
  | [d1, d2, d3, d4] => { results := [.lit (.bool true)], args := [d1, d2, d3, d4] }
  | _ => none }
def codeHoldsRow : OpenClaim := { program := "ytknkdbincaonbaagreatdoor", sum := "65ac84a760bf778527a1f6e2ffeb2d0aa3f60105b5b3b76d0453c5a1671f7322", func := "palisade/palisadelaw09.CodeHolds", spec := "codeHolds", unfollowed := true, recurses := true, named := ["palisade/shape.kinds", "palisade/mod.primes"], apart := false, laid := [("palisade/mod.primes", laid_palisade_mod_primes), ("palisade/shape.kinds", laid_palisade_shape_kinds)] }
def CodeHoldsSaid : Prop := codeHoldsRow.holds Tryz.pinned (OpenSpec.ofChange codeHoldsSpec)

/-- ITS FALSE NEIGHBOUR: 'it returns false'. Refute it at one input. -/
def codeHoldsWrong : ChangeSpec := { name := "codeHolds", fn := fun _ => fun
  | [d1, d2, d3, d4] => { results := [.lit (.bool false)], args := [d1, d2, d3, d4] }
  | _ => none }
def CodeHoldsWrongFalsely : Prop := codeHoldsRow.holds Tryz.pinned (OpenSpec.ofChange codeHoldsWrong)

/- THE SECOND FORM. 'bulk': how many values and letters a reading holds, each counted each time it is reached (what is shared counts as often as it is met; a slice's spare places count too). A statement '..UptoSaid' is the law's where the arguments, and the package variables that the reading takes, are together of bulk at most 1048576: NARROWER than '..Said'. Prove '..Said' where nothing that the law and all that it calls make is longer than what came in: it says more and counts as full. Else prove '..UptoSaid'. A law counts once. -/
mutual
def uptoBulk {H : Type} : DataW H → Nat
  | .lit (.string bytes) => bytes.length + 1
  | .lit _ => 1
  | .nil => 1
  | .ptr d => uptoBulk d + 1
  | .slice elems spare => uptoBulkAll elems + uptoBulkAll spare + 1
  | .agg parts => uptoBulkAll parts + 1
  | .iface _ d => uptoBulk d + 1
  | .map entries => uptoBulkEntries entries + 1
  | .held _ => 1
def uptoBulkAll {H : Type} : List (DataW H) → Nat
  | [] => 0
  | d :: r => uptoBulk d + uptoBulkAll r
def uptoBulkEntries {H : Type} : List (Lit × DataW H) → Nat
  | [] => 0
  | x :: r => uptoBulkEntry x + uptoBulkEntries r
def uptoBulkEntry {H : Type} : Lit × DataW H → Nat
  | (.string bytes, d) => bytes.length + uptoBulk d + 1
  | (_, d) => uptoBulk d + 1
 end
def uptoSmall : (H : Type) → List (DataW H) → Bool := fun _ ds => decide (uptoBulkAll ds ≤ 1048576)
def OpenSpec.upto (s : _root_.Go.ChangeSpec) : _root_.Go.OpenSpec := { _root_.Go.OpenSpec.ofChange s with cond := some uptoSmall }

/-- 'palisadelaw09.CodeEncodes', WHERE WHAT IT READS IS OF BULK AT MOST 1048576: true; the input reads as it did. -/
def codeEncodesUptoRow : OpenClaim := { program := "ytknkdbincaonbaagreatdoor", sum := "65ac84a760bf778527a1f6e2ffeb2d0aa3f60105b5b3b76d0453c5a1671f7322", func := "palisade/palisadelaw09.CodeEncodes", spec := "codeEncodes", unfollowed := true, recurses := true, named := ["palisade/shape.kinds", "palisade/mod.primes"], apart := false, laid := [("palisade/mod.primes", laid_palisade_mod_primes), ("palisade/shape.kinds", laid_palisade_shape_kinds)], narrowed := true }
def CodeEncodesUptoSaid : Prop := codeEncodesUptoRow.holds Tryz.pinned (OpenSpec.upto codeEncodesSpec)

/-- 'palisadelaw09.CodeWrong', WHERE WHAT IT READS IS OF BULK AT MOST 1048576: true; the input reads as it did. -/
def codeWrongUptoRow : OpenClaim := { program := "ytknkdbincaonbaagreatdoor", sum := "65ac84a760bf778527a1f6e2ffeb2d0aa3f60105b5b3b76d0453c5a1671f7322", func := "palisade/palisadelaw09.CodeWrong", spec := "codeWrong", unfollowed := true, recurses := true, named := ["palisade/shape.kinds", "palisade/mod.primes"], apart := false, laid := [("palisade/mod.primes", laid_palisade_mod_primes), ("palisade/shape.kinds", laid_palisade_shape_kinds)], narrowed := true }
def CodeWrongUptoSaid : Prop := codeWrongUptoRow.holds Tryz.pinned (OpenSpec.upto codeWrongSpec)

/-- 'palisadelaw09.CodeChanges', WHERE WHAT IT READS IS OF BULK AT MOST 1048576: true; the input reads as it did. -/
def codeChangesUptoRow : OpenClaim := { program := "ytknkdbincaonbaagreatdoor", sum := "65ac84a760bf778527a1f6e2ffeb2d0aa3f60105b5b3b76d0453c5a1671f7322", func := "palisade/palisadelaw09.CodeChanges", spec := "codeChanges", unfollowed := true, recurses := true, named := ["palisade/shape.kinds", "palisade/mod.primes"], apart := false, laid := [("palisade/mod.primes", laid_palisade_mod_primes), ("palisade/shape.kinds", laid_palisade_shape_kinds)], narrowed := true }
def CodeChangesUptoSaid : Prop := codeChangesUptoRow.holds Tryz.pinned (OpenSpec.upto codeChangesSpec)

/-- 'palisadelaw09.CodeCopies', WHERE WHAT IT READS IS OF BULK AT MOST 1048576: true; the input reads as it did. -/
def codeCopiesUptoRow : OpenClaim := { program := "ytknkdbincaonbaagreatdoor", sum := "65ac84a760bf778527a1f6e2ffeb2d0aa3f60105b5b3b76d0453c5a1671f7322", func := "palisade/palisadelaw09.CodeCopies", spec := "codeCopies", unfollowed := true, recurses := true, named := ["palisade/shape.kinds", "palisade/mod.primes"], apart := false, laid := [("palisade/mod.primes", laid_palisade_mod_primes), ("palisade/shape.kinds", laid_palisade_shape_kinds)], narrowed := true }
def CodeCopiesUptoSaid : Prop := codeCopiesUptoRow.holds Tryz.pinned (OpenSpec.upto codeCopiesSpec)

/-- 'palisadelaw09.CodeHolds', WHERE WHAT IT READS IS OF BULK AT MOST 1048576: true; the input reads as it did. -/
def codeHoldsUptoRow : OpenClaim := { program := "ytknkdbincaonbaagreatdoor", sum := "65ac84a760bf778527a1f6e2ffeb2d0aa3f60105b5b3b76d0453c5a1671f7322", func := "palisade/palisadelaw09.CodeHolds", spec := "codeHolds", unfollowed := true, recurses := true, named := ["palisade/shape.kinds", "palisade/mod.primes"], apart := false, laid := [("palisade/mod.primes", laid_palisade_mod_primes), ("palisade/shape.kinds", laid_palisade_shape_kinds)], narrowed := true }
def CodeHoldsUptoSaid : Prop := codeHoldsUptoRow.holds Tryz.pinned (OpenSpec.upto codeHoldsSpec)

end Rows
end Go.Proofs.YtknkdbincaonbaaGreatDoor
