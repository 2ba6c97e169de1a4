/-
  NARROWER THAN 'FOR EVERY INPUT', by the rows' own cells (each row's printed sentence says how): StarEncodes: laid · StarChecks: laid · StarSlants: laid · StarHolds: laid · StarAdds: laid · StarTurns: laid.
  DERIVED. THE GIVEN ROWS OF THIS SEAT. 6 by the template 'for every input the law returns true; each argument reads behind the call as it read before'; 0 by the template 'total and deterministic' (their statements: YtcgnhfiadeceiaaGreatDoorTotals.lean).
  GIVEN WITH THE SEED: the statements are not yours to turn. If you find one false, say at which input.
  Laid BY PROGRAM, IN A SANDBOX (cutbox-rows.mjs): the forced cells as the released guide's own fill.sh prints them over the translation 1f68ebf26eaaebc7… (all of the seat's roots in one cut). By AI agents, Wed Nov 11 2026. No macro, syntax, notation, axiom, sorry.
-/
import Derived.Test.YtcgnhfiadeceiaaGreatDoorChecked
import GoSem.Claim
import GoSem.ClaimJoined
import GoSem.ClaimMapViews
import Derived.JoinedTies
import Derived.KernelRfl
namespace Go.Proofs.YtcgnhfiadeceiaaGreatDoor
/- THE CELL 'sum', in the pinned program and in every row, IS THE sha256 OF THE DUMP (.gsa) THAT YtcgnhfiadeceiaaGreatDoorProg.lean LOADS. Nothing in Lean hashes anything: it is a label: what it is worth is what the hold of that sum in a sandbox is worth. -/
noncomputable def Tryz.pinned : Pinned := { name := "ytcgnhfiadeceiaagreatdoor", sum := "1f68ebf26eaaebc7985692daf09b15710db3bfca80518ede298c3847b5274f6b", checked := Tryz.checked }
namespace Rows
def none {H : Type} : Left H := { results := [], args := [] }

/- WHAT THE LISTED PACKAGE-LEVEL VARIABLES READ AS WHEN THE CALL BEGINS. Each datum BY PROGRAM (the guide's laid-datum.mjs) off the statement by which the dump's own 'gosem.cut.vars' lays the variable. In a bare row this is a premise. The card (YtcgnhfiadeceiaaGreatDoorCards.lean) ties it to the program's text. -/
def laid_palisade_mod_primes {H : Type} : DataW H := .agg [.lit (.int .i64 3), .lit (.int .i64 5), .lit (.int .i64 7), .lit (.int .i64 11), .lit (.int .i64 13), .lit (.int .i64 17)]
def laid_palisade_shape_kinds {H : Type} : DataW H := .agg [.agg [.lit (.int .i64 0), .lit (.int .i64 0)], .agg [.lit (.int .i64 0), .lit (.int .i64 2)], .agg [.lit (.int .i64 1), .lit (.int .i64 2)], .agg [.lit (.int .i64 0), .lit (.int .i64 3)]]

/-- 'palisadelaw08.StarEncodes': WHATEVER THE INPUT: true; the input reads as it did. -/
def starEncodesSpec : ChangeSpec := { name := "starEncodes", fn := fun _ => fun
  | [d1, d2] => { results := [.lit (.bool true)], args := [d1, d2] }
  | _ => none }
def starEncodesRow : OpenClaim := { program := "ytcgnhfiadeceiaagreatdoor", sum := "1f68ebf26eaaebc7985692daf09b15710db3bfca80518ede298c3847b5274f6b", func := "palisade/palisadelaw08.StarEncodes", spec := "starEncodes", unfollowed := true, recurses := true, named := ["palisade/shape.kinds", "palisade/mod.primes"], apart := false, laid := [("palisade/mod.primes", laid_palisade_mod_primes), ("palisade/shape.kinds", laid_palisade_shape_kinds)] }
def StarEncodesSaid : Prop := starEncodesRow.holds Tryz.pinned (OpenSpec.ofChange starEncodesSpec)

/-- ITS FALSE NEIGHBOUR: 'it returns false'. Refute it at one input. -/
def starEncodesWrong : ChangeSpec := { name := "starEncodes", fn := fun _ => fun
  | [d1, d2] => { results := [.lit (.bool false)], args := [d1, d2] }
  | _ => none }
def StarEncodesWrongFalsely : Prop := starEncodesRow.holds Tryz.pinned (OpenSpec.ofChange starEncodesWrong)

/-- 'palisadelaw08.StarChecks': WHATEVER THE INPUT: true; the input reads as it did. -/
def starChecksSpec : ChangeSpec := { name := "starChecks", fn := fun _ => fun
  | [d1, d2] => { results := [.lit (.bool true)], args := [d1, d2] }
  | _ => none }
def starChecksRow : OpenClaim := { program := "ytcgnhfiadeceiaagreatdoor", sum := "1f68ebf26eaaebc7985692daf09b15710db3bfca80518ede298c3847b5274f6b", func := "palisade/palisadelaw08.StarChecks", spec := "starChecks", unfollowed := true, recurses := true, named := ["palisade/shape.kinds", "palisade/mod.primes"], apart := false, laid := [("palisade/mod.primes", laid_palisade_mod_primes), ("palisade/shape.kinds", laid_palisade_shape_kinds)] }
def StarChecksSaid : Prop := starChecksRow.holds Tryz.pinned (OpenSpec.ofChange starChecksSpec)

/-- ITS FALSE NEIGHBOUR: 'it returns false'. Refute it at one input. -/
def starChecksWrong : ChangeSpec := { name := "starChecks", fn := fun _ => fun
  | [d1, d2] => { results := [.lit (.bool false)], args := [d1, d2] }
  | _ => none }
def StarChecksWrongFalsely : Prop := starChecksRow.holds Tryz.pinned (OpenSpec.ofChange starChecksWrong)

/-- 'palisadelaw08.StarSlants': WHATEVER THE INPUT: true; the input reads as it did. -/
def starSlantsSpec : ChangeSpec := { name := "starSlants", fn := fun _ => fun
  | [d1, d2, d3] => { results := [.lit (.bool true)], args := [d1, d2, d3] }
  | _ => none }
def starSlantsRow : OpenClaim := { program := "ytcgnhfiadeceiaagreatdoor", sum := "1f68ebf26eaaebc7985692daf09b15710db3bfca80518ede298c3847b5274f6b", func := "palisade/palisadelaw08.StarSlants", spec := "starSlants", unfollowed := true, recurses := true, named := ["palisade/shape.kinds", "palisade/mod.primes"], apart := false, laid := [("palisade/mod.primes", laid_palisade_mod_primes), ("palisade/shape.kinds", laid_palisade_shape_kinds)] }
def StarSlantsSaid : Prop := starSlantsRow.holds Tryz.pinned (OpenSpec.ofChange starSlantsSpec)

/-- ITS FALSE NEIGHBOUR: 'it returns false'. Refute it at one input. -/
def starSlantsWrong : ChangeSpec := { name := "starSlants", fn := fun _ => fun
  | [d1, d2, d3] => { results := [.lit (.bool false)], args := [d1, d2, d3] }
  | _ => none }
def StarSlantsWrongFalsely : Prop := starSlantsRow.holds Tryz.pinned (OpenSpec.ofChange starSlantsWrong)

/-- 'palisadelaw08.StarHolds': WHATEVER THE INPUT: true; the input reads as it did. -/
def starHoldsSpec : ChangeSpec := { name := "starHolds", fn := fun _ => fun
  | [d1, d2] => { results := [.lit (.bool true)], args := [d1, d2] }
  | _ => none }
def starHoldsRow : OpenClaim := { program := "ytcgnhfiadeceiaagreatdoor", sum := "1f68ebf26eaaebc7985692daf09b15710db3bfca80518ede298c3847b5274f6b", func := "palisade/palisadelaw08.StarHolds", spec := "starHolds", unfollowed := true, recurses := true, named := ["palisade/shape.kinds", "palisade/mod.primes"], apart := false, laid := [("palisade/mod.primes", laid_palisade_mod_primes), ("palisade/shape.kinds", laid_palisade_shape_kinds)] }
def StarHoldsSaid : Prop := starHoldsRow.holds Tryz.pinned (OpenSpec.ofChange starHoldsSpec)

/-- ITS FALSE NEIGHBOUR: 'it returns false'. Refute it at one input. -/
def starHoldsWrong : ChangeSpec := { name := "starHolds", fn := fun _ => fun
  | [d1, d2] => { results := [.lit (.bool false)], args := [d1, d2] }
  | _ => none }
def StarHoldsWrongFalsely : Prop := starHoldsRow.holds Tryz.pinned (OpenSpec.ofChange starHoldsWrong)

/-- 'palisadelaw08.StarAdds': WHATEVER THE INPUT: true; the input reads as it did. -/
def starAddsSpec : ChangeSpec := { name := "starAdds", fn := fun _ => fun
  | [d1, d2, d3] => { results := [.lit (.bool true)], args := [d1, d2, d3] }
  | _ => none }
def starAddsRow : OpenClaim := { program := "ytcgnhfiadeceiaagreatdoor", sum := "1f68ebf26eaaebc7985692daf09b15710db3bfca80518ede298c3847b5274f6b", func := "palisade/palisadelaw08.StarAdds", spec := "starAdds", unfollowed := true, recurses := true, named := ["palisade/shape.kinds", "palisade/mod.primes"], apart := false, laid := [("palisade/mod.primes", laid_palisade_mod_primes), ("palisade/shape.kinds", laid_palisade_shape_kinds)] }
def StarAddsSaid : Prop := starAddsRow.holds Tryz.pinned (OpenSpec.ofChange starAddsSpec)

/-- ITS FALSE NEIGHBOUR: 'it returns false'. Refute it at one input. -/
def starAddsWrong : ChangeSpec := { name := "starAdds", fn := fun _ => fun
  | [d1, d2, d3] => { results := [.lit (.bool false)], args := [d1, d2, d3] }
  | _ => none }
def StarAddsWrongFalsely : Prop := starAddsRow.holds Tryz.pinned (OpenSpec.ofChange starAddsWrong)

/-- 'palisadelaw08.StarTurns': WHATEVER THE INPUT: true; the input reads as it did. -/
def starTurnsSpec : ChangeSpec := { name := "starTurns", fn := fun _ => fun
  | [d1, d2] => { results := [.lit (.bool true)], args := [d1, d2] }
  | _ => none }
def starTurnsRow : OpenClaim := { program := "ytcgnhfiadeceiaagreatdoor", sum := "1f68ebf26eaaebc7985692daf09b15710db3bfca80518ede298c3847b5274f6b", func := "palisade/palisadelaw08.StarTurns", spec := "starTurns", unfollowed := true, recurses := true, named := ["palisade/shape.kinds", "palisade/mod.primes"], apart := false, laid := [("palisade/mod.primes", laid_palisade_mod_primes), ("palisade/shape.kinds", laid_palisade_shape_kinds)] }
def StarTurnsSaid : Prop := starTurnsRow.holds Tryz.pinned (OpenSpec.ofChange starTurnsSpec)

/-- ITS FALSE NEIGHBOUR: 'it returns false'. Refute it at one input. -/
def starTurnsWrong : ChangeSpec := { name := "starTurns", fn := fun _ => fun
  | [d1, d2] => { results := [.lit (.bool false)], args := [d1, d2] }
  | _ => none }
def StarTurnsWrongFalsely : Prop := starTurnsRow.holds Tryz.pinned (OpenSpec.ofChange starTurnsWrong)

/- THE SECOND FORM. 'bulk': how many values and letters a reading holds, each counted each time it is reached (what is shared counts as often as it is met; a slice's spare places count too). A statement '..UptoSaid' is the law's where the arguments, and the package variables that the reading takes, are together of bulk at most 1048576: NARROWER than '..Said'. Prove '..Said' where nothing that the law and all that it calls make is longer than what came in: it says more and counts as full. Else prove '..UptoSaid'. A law counts once. -/
mutual
def uptoBulk {H : Type} : DataW H → Nat
  | .lit (.string bytes) => bytes.length + 1
  | .lit _ => 1
  | .nil => 1
  | .ptr d => uptoBulk d + 1
  | .slice elems spare => uptoBulkAll elems + uptoBulkAll spare + 1
  | .agg parts => uptoBulkAll parts + 1
  | .iface _ d => uptoBulk d + 1
  | .map entries => uptoBulkEntries entries + 1
  | .held _ => 1
def uptoBulkAll {H : Type} : List (DataW H) → Nat
  | [] => 0
  | d :: r => uptoBulk d + uptoBulkAll r
def uptoBulkEntries {H : Type} : List (Lit × DataW H) → Nat
  | [] => 0
  | x :: r => uptoBulkEntry x + uptoBulkEntries r
def uptoBulkEntry {H : Type} : Lit × DataW H → Nat
  | (.string bytes, d) => bytes.length + uptoBulk d + 1
  | (_, d) => uptoBulk d + 1
 end
def uptoSmall : (H : Type) → List (DataW H) → Bool := fun _ ds => decide (uptoBulkAll ds ≤ 1048576)
def OpenSpec.upto (s : _root_.Go.ChangeSpec) : _root_.Go.OpenSpec := { _root_.Go.OpenSpec.ofChange s with cond := some uptoSmall }

/-- 'palisadelaw08.StarEncodes', WHERE WHAT IT READS IS OF BULK AT MOST 1048576: true; the input reads as it did. -/
def starEncodesUptoRow : OpenClaim := { program := "ytcgnhfiadeceiaagreatdoor", sum := "1f68ebf26eaaebc7985692daf09b15710db3bfca80518ede298c3847b5274f6b", func := "palisade/palisadelaw08.StarEncodes", spec := "starEncodes", unfollowed := true, recurses := true, named := ["palisade/shape.kinds", "palisade/mod.primes"], apart := false, laid := [("palisade/mod.primes", laid_palisade_mod_primes), ("palisade/shape.kinds", laid_palisade_shape_kinds)], narrowed := true }
def StarEncodesUptoSaid : Prop := starEncodesUptoRow.holds Tryz.pinned (OpenSpec.upto starEncodesSpec)

/-- 'palisadelaw08.StarChecks', WHERE WHAT IT READS IS OF BULK AT MOST 1048576: true; the input reads as it did. -/
def starChecksUptoRow : OpenClaim := { program := "ytcgnhfiadeceiaagreatdoor", sum := "1f68ebf26eaaebc7985692daf09b15710db3bfca80518ede298c3847b5274f6b", func := "palisade/palisadelaw08.StarChecks", spec := "starChecks", unfollowed := true, recurses := true, named := ["palisade/shape.kinds", "palisade/mod.primes"], apart := false, laid := [("palisade/mod.primes", laid_palisade_mod_primes), ("palisade/shape.kinds", laid_palisade_shape_kinds)], narrowed := true }
def StarChecksUptoSaid : Prop := starChecksUptoRow.holds Tryz.pinned (OpenSpec.upto starChecksSpec)

/-- 'palisadelaw08.StarSlants', WHERE WHAT IT READS IS OF BULK AT MOST 1048576: true; the input reads as it did. -/
def starSlantsUptoRow : OpenClaim := { program := "ytcgnhfiadeceiaagreatdoor", sum := "1f68ebf26eaaebc7985692daf09b15710db3bfca80518ede298c3847b5274f6b", func := "palisade/palisadelaw08.StarSlants", spec := "starSlants", unfollowed := true, recurses := true, named := ["palisade/shape.kinds", "palisade/mod.primes"], apart := false, laid := [("palisade/mod.primes", laid_palisade_mod_primes), ("palisade/shape.kinds", laid_palisade_shape_kinds)], narrowed := true }
def StarSlantsUptoSaid : Prop := starSlantsUptoRow.holds Tryz.pinned (OpenSpec.upto starSlantsSpec)

/-- 'palisadelaw08.StarHolds', WHERE WHAT IT READS IS OF BULK AT MOST 1048576: true; the input reads as it did. -/
def starHoldsUptoRow : OpenClaim := { program := "ytcgnhfiadeceiaagreatdoor", sum := "1f68ebf26eaaebc7985692daf09b15710db3bfca80518ede298c3847b5274f6b", func := "palisade/palisadelaw08.StarHolds", spec := "starHolds", unfollowed := true, recurses := true, named := ["palisade/shape.kinds", "palisade/mod.primes"], apart := false, laid := [("palisade/mod.primes", laid_palisade_mod_primes), ("palisade/shape.kinds", laid_palisade_shape_kinds)], narrowed := true }
def StarHoldsUptoSaid : Prop := starHoldsUptoRow.holds Tryz.pinned (OpenSpec.upto starHoldsSpec)

/-- 'palisadelaw08.StarAdds', WHERE WHAT IT READS IS OF BULK AT MOST 1048576: true; the input reads as it did. -/
def starAddsUptoRow : OpenClaim := { program := "ytcgnhfiadeceiaagreatdoor", sum := "1f68ebf26eaaebc7985692daf09b15710db3bfca80518ede298c3847b5274f6b", func := "palisade/palisadelaw08.StarAdds", spec := "starAdds", unfollowed := true, recurses := true, named := ["palisade/shape.kinds", "palisade/mod.primes"], apart := false, laid := [("palisade/mod.primes", laid_palisade_mod_primes), ("palisade/shape.kinds", laid_palisade_shape_kinds)], narrowed := true }
def StarAddsUptoSaid : Prop := starAddsUptoRow.holds Tryz.pinned (OpenSpec.upto starAddsSpec)

/-- 'palisadelaw08.StarTurns', WHERE WHAT IT READS IS OF BULK AT MOST 1048576: true; the input reads as it did. -/
def starTurnsUptoRow : OpenClaim := { program := "ytcgnhfiadeceiaagreatdoor", sum := "1f68ebf26eaaebc7985692daf09b15710db3bfca80518ede298c3847b5274f6b", func := "palisade/palisadelaw08.StarTurns", spec := "starTurns", unfollowed := true, recurses := true, named := ["palisade/shape.kinds", "palisade/mod.primes"], apart := false, laid := [("palisade/mod.primes", laid_palisade_mod_primes), ("palisade/shape.kinds", laid_palisade_shape_kinds)], narrowed := true }
def StarTurnsUptoSaid : Prop := starTurnsUptoRow.holds Tryz.pinned (OpenSpec.upto starTurnsSpec)

end Rows
end Go.Proofs.YtcgnhfiadeceiaaGreatDoor
