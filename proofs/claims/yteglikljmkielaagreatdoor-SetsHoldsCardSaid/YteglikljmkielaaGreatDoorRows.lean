/-
  NARROWER THAN 'FOR EVERY INPUT', by the rows' own cells (each row's printed sentence says how): SetsMembers: laid · SetsTouched: laid · SetsLines: laid · SetsHolds: laid · SetsCounts: laid.
  DERIVED. THE GIVEN ROWS OF THIS SEAT. 5 by the template 'for every input the law returns true; each argument reads behind the call as it read before'; 0 by the template 'total and deterministic' (their statements: YteglikljmkielaaGreatDoorTotals.lean).
  GIVEN WITH THE SEED: the statements are not yours to turn. If you find one false, say at which input.
  Laid BY PROGRAM, IN A SANDBOX (cutbox-rows.mjs): the forced cells as the released guide's own fill.sh prints them over the translation f5dc404aec30aa7e… (all of the seat's roots in one cut). By AI agents, Wed Nov 11 2026. No macro, syntax, notation, axiom, sorry.
-/
import Derived.Test.YteglikljmkielaaGreatDoorChecked
import GoSem.Claim
import GoSem.ClaimJoined
import GoSem.ClaimMapViews
import Derived.JoinedTies
import Derived.KernelRfl
namespace Go.Proofs.YteglikljmkielaaGreatDoor
/- THE CELL 'sum', in the pinned program and in every row, IS THE sha256 OF THE DUMP (.gsa) THAT YteglikljmkielaaGreatDoorProg.lean LOADS. Nothing in Lean hashes anything: it is a label: what it is worth is what the hold of that sum in a sandbox is worth. -/
noncomputable def Tryz.pinned : Pinned := { name := "yteglikljmkielaagreatdoor", sum := "f5dc404aec30aa7e94ce9801bc4981ee2d5d97f986fda33f2936b2aa225b235c", checked := Tryz.checked }
namespace Rows
def none {H : Type} : Left H := { results := [], args := [] }

/- WHAT THE LISTED PACKAGE-LEVEL VARIABLES READ AS WHEN THE CALL BEGINS. Each datum BY PROGRAM (the guide's laid-datum.mjs) off the statement by which the dump's own 'gosem.cut.vars' lays the variable. In a bare row this is a premise. The card (YteglikljmkielaaGreatDoorCards.lean) ties it to the program's text. -/
def laid_palisade_mod_primes {H : Type} : DataW H := .agg [.lit (.int .i64 3), .lit (.int .i64 5), .lit (.int .i64 7), .lit (.int .i64 11), .lit (.int .i64 13), .lit (.int .i64 17)]
def laid_palisade_shape_kinds {H : Type} : DataW H := .agg [.agg [.lit (.int .i64 0), .lit (.int .i64 0)], .agg [.lit (.int .i64 0), .lit (.int .i64 2)], .agg [.lit (.int .i64 1), .lit (.int .i64 2)], .agg [.lit (.int .i64 0), .lit (.int .i64 3)]]

/-- 'palisadelaw05.SetsMembers': WHATEVER THE INPUT: true; the input reads as it did. -/
def setsMembersSpec : ChangeSpec := { name := "setsMembers", fn := fun _ => fun
  | [d1, d2] => { results := [.lit (.bool true)], args := [d1, d2] }
  | _ => none }
def setsMembersRow : OpenClaim := { program := "yteglikljmkielaagreatdoor", sum := "f5dc404aec30aa7e94ce9801bc4981ee2d5d97f986fda33f2936b2aa225b235c", func := "palisade/palisadelaw05.SetsMembers", spec := "setsMembers", unfollowed := true, recurses := true, named := ["palisade/shape.kinds", "palisade/mod.primes"], apart := false, laid := [("palisade/mod.primes", laid_palisade_mod_primes), ("palisade/shape.kinds", laid_palisade_shape_kinds)] }
def SetsMembersSaid : Prop := setsMembersRow.holds Tryz.pinned (OpenSpec.ofChange setsMembersSpec)

/-- ITS FALSE NEIGHBOUR: 'it returns false'. Refute it at one input. -/
def setsMembersWrong : ChangeSpec := { name := "setsMembers", fn := fun _ => fun
  | [d1, d2] => { results := [.lit (.bool false)], args := [d1, d2] }
  | _ => none }
def SetsMembersWrongFalsely : Prop := setsMembersRow.holds Tryz.pinned (OpenSpec.ofChange setsMembersWrong)

/-- 'palisadelaw05.SetsTouched': WHATEVER THE INPUT: true; the input reads as it did. -/
def setsTouchedSpec : ChangeSpec := { name := "setsTouched", fn := fun _ => fun
  | [d1, d2] => { results := [.lit (.bool true)], args := [d1, d2] }
  | _ => none }
def setsTouchedRow : OpenClaim := { program := "yteglikljmkielaagreatdoor", sum := "f5dc404aec30aa7e94ce9801bc4981ee2d5d97f986fda33f2936b2aa225b235c", func := "palisade/palisadelaw05.SetsTouched", spec := "setsTouched", unfollowed := true, recurses := true, named := ["palisade/shape.kinds", "palisade/mod.primes"], apart := false, laid := [("palisade/mod.primes", laid_palisade_mod_primes), ("palisade/shape.kinds", laid_palisade_shape_kinds)] }
def SetsTouchedSaid : Prop := setsTouchedRow.holds Tryz.pinned (OpenSpec.ofChange setsTouchedSpec)

/-- ITS FALSE NEIGHBOUR: 'it returns false'. Refute it at one input. -/
def setsTouchedWrong : ChangeSpec := { name := "setsTouched", fn := fun _ => fun
  | [d1, d2] => { results := [.lit (.bool false)], args := [d1, d2] }
  | _ => none }
def SetsTouchedWrongFalsely : Prop := setsTouchedRow.holds Tryz.pinned (OpenSpec.ofChange setsTouchedWrong)

/-- 'palisadelaw05.SetsLines': WHATEVER THE INPUT: true; the input reads as it did. -/
def setsLinesSpec : ChangeSpec := { name := "setsLines", fn := fun _ => fun
  | [d1, d2, d3, d4] => { results := [.lit (.bool true)], args := [d1, d2, d3, d4] }
  | _ => none }
def setsLinesRow : OpenClaim := { program := "yteglikljmkielaagreatdoor", sum := "f5dc404aec30aa7e94ce9801bc4981ee2d5d97f986fda33f2936b2aa225b235c", func := "palisade/palisadelaw05.SetsLines", spec := "setsLines", unfollowed := true, recurses := true, named := ["palisade/shape.kinds", "palisade/mod.primes"], apart := false, laid := [("palisade/mod.primes", laid_palisade_mod_primes), ("palisade/shape.kinds", laid_palisade_shape_kinds)] }
def SetsLinesSaid : Prop := setsLinesRow.holds Tryz.pinned (OpenSpec.ofChange setsLinesSpec)

/-- ITS FALSE NEIGHBOUR: 'it returns false'. Refute it at one input. -/
def setsLinesWrong : ChangeSpec := { name := "setsLines", fn := fun _ => fun
  | [d1, d2, d3, d4] => { results := [.lit (.bool false)], args := [d1, d2, d3, d4] }
  | _ => none }
def SetsLinesWrongFalsely : Prop := setsLinesRow.holds Tryz.pinned (OpenSpec.ofChange setsLinesWrong)

/-- 'palisadelaw05.SetsHolds': WHATEVER THE INPUT: true; the input reads as it did. -/
def setsHoldsSpec : ChangeSpec := { name := "setsHolds", fn := fun _ => fun
  | [d1, d2] => { results := [.lit (.bool true)], args := [d1, d2] }
  | _ => none }
def setsHoldsRow : OpenClaim := { program := "yteglikljmkielaagreatdoor", sum := "f5dc404aec30aa7e94ce9801bc4981ee2d5d97f986fda33f2936b2aa225b235c", func := "palisade/palisadelaw05.SetsHolds", spec := "setsHolds", unfollowed := true, recurses := true, named := ["palisade/shape.kinds", "palisade/mod.primes"], apart := false, laid := [("palisade/mod.primes", laid_palisade_mod_primes), ("palisade/shape.kinds", laid_palisade_shape_kinds)] }
def SetsHoldsSaid : Prop := setsHoldsRow.holds Tryz.pinned (OpenSpec.ofChange setsHoldsSpec)

/-- ITS FALSE NEIGHBOUR: 'it returns false'. Refute it at one input. -/
def setsHoldsWrong : ChangeSpec := { name := "setsHolds", fn := fun _ => fun
  | [d1, d2] => { results := [.lit (.bool false)], args := [d1, d2] }
  | _ => none }
def SetsHoldsWrongFalsely : Prop := setsHoldsRow.holds Tryz.pinned (OpenSpec.ofChange setsHoldsWrong)

/-- 'palisadelaw05.SetsCounts': WHATEVER THE INPUT: true; the input reads as it did. -/
def setsCountsSpec : ChangeSpec := { name := "setsCounts", fn := fun _ => fun
  | [d1, d2] => { results := [.lit (.bool true)], args := [d1, d2] }
  | _ => none }
def setsCountsRow : OpenClaim := { program := "yteglikljmkielaagreatdoor", sum := "f5dc404aec30aa7e94ce9801bc4981ee2d5d97f986fda33f2936b2aa225b235c", func := "palisade/palisadelaw05.SetsCounts", spec := "setsCounts", unfollowed := true, recurses := true, named := ["palisade/shape.kinds", "palisade/mod.primes"], apart := false, laid := [("palisade/mod.primes", laid_palisade_mod_primes), ("palisade/shape.kinds", laid_palisade_shape_kinds)] }
def SetsCountsSaid : Prop := setsCountsRow.holds Tryz.pinned (OpenSpec.ofChange setsCountsSpec)

/-- ITS FALSE NEIGHBOUR: 'it returns false'. Refute it at one input. -/
def setsCountsWrong : ChangeSpec := { name := "setsCounts", fn := fun _ => fun
  | [d1, d2] => { results := [.lit (.bool false)], args := [d1, d2] }
  | _ => none }
def SetsCountsWrongFalsely : Prop := setsCountsRow.holds Tryz.pinned (OpenSpec.ofChange setsCountsWrong)

/- THE SECOND FORM. 'bulk': how many values and letters a reading holds, each counted each time it is reached (what is shared counts as often as it is met; a slice's spare places count too). A statement '..UptoSaid' is the law's where the arguments, and the package variables that the reading takes, are together of bulk at most 1048576: NARROWER than '..Said'. Prove '..Said' where nothing that the law and all that it calls make is longer than what came in: it says more and counts as full. Else prove '..UptoSaid'. A law counts once. -/
mutual
def uptoBulk {H : Type} : DataW H → Nat
  | .lit (.string bytes) => bytes.length + 1
  | .lit _ => 1
  | .nil => 1
  | .ptr d => uptoBulk d + 1
  | .slice elems spare => uptoBulkAll elems + uptoBulkAll spare + 1
  | .agg parts => uptoBulkAll parts + 1
  | .iface _ d => uptoBulk d + 1
  | .map entries => uptoBulkEntries entries + 1
  | .held _ => 1
def uptoBulkAll {H : Type} : List (DataW H) → Nat
  | [] => 0
  | d :: r => uptoBulk d + uptoBulkAll r
def uptoBulkEntries {H : Type} : List (Lit × DataW H) → Nat
  | [] => 0
  | x :: r => uptoBulkEntry x + uptoBulkEntries r
def uptoBulkEntry {H : Type} : Lit × DataW H → Nat
  | (.string bytes, d) => bytes.length + uptoBulk d + 1
  | (_, d) => uptoBulk d + 1
 end
def uptoSmall : (H : Type) → List (DataW H) → Bool := fun _ ds => decide (uptoBulkAll ds ≤ 1048576)
def OpenSpec.upto (s : _root_.Go.ChangeSpec) : _root_.Go.OpenSpec := { _root_.Go.OpenSpec.ofChange s with cond := some uptoSmall }

/-- 'palisadelaw05.SetsMembers', WHERE WHAT IT READS IS OF BULK AT MOST 1048576: true; the input reads as it did. -/
def setsMembersUptoRow : OpenClaim := { program := "yteglikljmkielaagreatdoor", sum := "f5dc404aec30aa7e94ce9801bc4981ee2d5d97f986fda33f2936b2aa225b235c", func := "palisade/palisadelaw05.SetsMembers", spec := "setsMembers", unfollowed := true, recurses := true, named := ["palisade/shape.kinds", "palisade/mod.primes"], apart := false, laid := [("palisade/mod.primes", laid_palisade_mod_primes), ("palisade/shape.kinds", laid_palisade_shape_kinds)], narrowed := true }
def SetsMembersUptoSaid : Prop := setsMembersUptoRow.holds Tryz.pinned (OpenSpec.upto setsMembersSpec)

/-- 'palisadelaw05.SetsTouched', WHERE WHAT IT READS IS OF BULK AT MOST 1048576: true; the input reads as it did. -/
def setsTouchedUptoRow : OpenClaim := { program := "yteglikljmkielaagreatdoor", sum := "f5dc404aec30aa7e94ce9801bc4981ee2d5d97f986fda33f2936b2aa225b235c", func := "palisade/palisadelaw05.SetsTouched", spec := "setsTouched", unfollowed := true, recurses := true, named := ["palisade/shape.kinds", "palisade/mod.primes"], apart := false, laid := [("palisade/mod.primes", laid_palisade_mod_primes), ("palisade/shape.kinds", laid_palisade_shape_kinds)], narrowed := true }
def SetsTouchedUptoSaid : Prop := setsTouchedUptoRow.holds Tryz.pinned (OpenSpec.upto setsTouchedSpec)

/-- 'palisadelaw05.SetsLines', WHERE WHAT IT READS IS OF BULK AT MOST 1048576: true; the input reads as it did. -/
def setsLinesUptoRow : OpenClaim := { program := "yteglikljmkielaagreatdoor", sum := "f5dc404aec30aa7e94ce9801bc4981ee2d5d97f986fda33f2936b2aa225b235c", func := "palisade/palisadelaw05.SetsLines", spec := "setsLines", unfollowed := true, recurses := true, named := ["palisade/shape.kinds", "palisade/mod.primes"], apart := false, laid := [("palisade/mod.primes", laid_palisade_mod_primes), ("palisade/shape.kinds", laid_palisade_shape_kinds)], narrowed := true }
def SetsLinesUptoSaid : Prop := setsLinesUptoRow.holds Tryz.pinned (OpenSpec.upto setsLinesSpec)

/-- 'palisadelaw05.SetsHolds', WHERE WHAT IT READS IS OF BULK AT MOST 1048576: true; the input reads as it did. -/
def setsHoldsUptoRow : OpenClaim := { program := "yteglikljmkielaagreatdoor", sum := "f5dc404aec30aa7e94ce9801bc4981ee2d5d97f986fda33f2936b2aa225b235c", func := "palisade/palisadelaw05.SetsHolds", spec := "setsHolds", unfollowed := true, recurses := true, named := ["palisade/shape.kinds", "palisade/mod.primes"], apart := false, laid := [("palisade/mod.primes", laid_palisade_mod_primes), ("palisade/shape.kinds", laid_palisade_shape_kinds)], narrowed := true }
def SetsHoldsUptoSaid : Prop := setsHoldsUptoRow.holds Tryz.pinned (OpenSpec.upto setsHoldsSpec)

/-- 'palisadelaw05.SetsCounts', WHERE WHAT IT READS IS OF BULK AT MOST 1048576: true; the input reads as it did. -/
def setsCountsUptoRow : OpenClaim := { program := "yteglikljmkielaagreatdoor", sum := "f5dc404aec30aa7e94ce9801bc4981ee2d5d97f986fda33f2936b2aa225b235c", func := "palisade/palisadelaw05.SetsCounts", spec := "setsCounts", unfollowed := true, recurses := true, named := ["palisade/shape.kinds", "palisade/mod.primes"], apart := false, laid := [("palisade/mod.primes", laid_palisade_mod_primes), ("palisade/shape.kinds", laid_palisade_shape_kinds)], narrowed := true }
def SetsCountsUptoSaid : Prop := setsCountsUptoRow.holds Tryz.pinned (OpenSpec.upto setsCountsSpec)

end Rows
end Go.Proofs.YteglikljmkielaaGreatDoor
