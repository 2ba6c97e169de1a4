/-
  NARROWER THAN 'FOR EVERY INPUT', by the rows' own cells (each row's printed sentence says how): ShapeCodes: laid · ShapePlaces: laid · ShapeLines: laid · ShapeHolds: laid · ShapeRoles: laid.
  DERIVED. THE GIVEN ROWS OF THIS SEAT. 5 by the template 'for every input the law returns true; each argument reads behind the call as it read before'; 0 by the template 'total and deterministic' (their statements: YthhgalhabdkikaaDoorTotals.lean).
  GIVEN WITH THE SEED: the statements are not yours to turn. If you find one false, say at which input.
  Laid BY PROGRAM, IN A SANDBOX (cutbox-rows.mjs): the forced cells as the released guide's own fill.sh prints them over the translation ee22e837eb5fc71c… (all of the seat's roots in one cut). By AI agents, Wed Nov 11 2026. No macro, syntax, notation, axiom, sorry.
-/
import Derived.Test.YthhgalhabdkikaaDoorChecked
import GoSem.Claim
import GoSem.ClaimJoined
import GoSem.ClaimMapViews
import Derived.JoinedTies
import Derived.KernelRfl
namespace Go.Proofs.YthhgalhabdkikaaDoor
/- THE CELL 'sum', in the pinned program and in every row, IS THE sha256 OF THE DUMP (.gsa) THAT YthhgalhabdkikaaDoorProg.lean LOADS. Nothing in Lean hashes anything: it is a label: what it is worth is what the hold of that sum in a sandbox is worth. -/
noncomputable def Tryd.pinned : Pinned := { name := "ythhgalhabdkikaadoor", sum := "ee22e837eb5fc71c0db892c199c75bc3861bc7ea9bb49b5945849e914fe1358b", checked := Tryd.checked }
namespace Rows
def none {H : Type} : Left H := { results := [], args := [] }

/- WHAT THE LISTED PACKAGE-LEVEL VARIABLES READ AS WHEN THE CALL BEGINS. Each datum BY PROGRAM (the guide's laid-datum.mjs) off the statement by which the dump's own 'gosem.cut.vars' lays the variable. In a bare row this is a premise. The card (YthhgalhabdkikaaDoorCards.lean) ties it to the program's text. -/
def laid_palisade_mod_primes {H : Type} : DataW H := .agg [.lit (.int .i64 3), .lit (.int .i64 5), .lit (.int .i64 7), .lit (.int .i64 11), .lit (.int .i64 13), .lit (.int .i64 17)]
def laid_palisade_shape_kinds {H : Type} : DataW H := .agg [.agg [.lit (.int .i64 0), .lit (.int .i64 0)], .agg [.lit (.int .i64 0), .lit (.int .i64 2)], .agg [.lit (.int .i64 1), .lit (.int .i64 2)], .agg [.lit (.int .i64 0), .lit (.int .i64 3)]]

/-- 'palisadelaw04.ShapeCodes': WHATEVER THE INPUT: true; the input reads as it did. -/
def shapeCodesSpec : ChangeSpec := { name := "shapeCodes", fn := fun _ => fun
  | [d] => { results := [.lit (.bool true)], args := [d] }
  | _ => none }
def shapeCodesRow : OpenClaim := { program := "ythhgalhabdkikaadoor", sum := "ee22e837eb5fc71c0db892c199c75bc3861bc7ea9bb49b5945849e914fe1358b", func := "palisade/palisadelaw04.ShapeCodes", spec := "shapeCodes", unfollowed := true, recurses := true, named := ["palisade/shape.kinds", "palisade/mod.primes"], apart := false, laid := [("palisade/mod.primes", laid_palisade_mod_primes), ("palisade/shape.kinds", laid_palisade_shape_kinds)] }
def ShapeCodesSaid : Prop := shapeCodesRow.holds Tryd.pinned (OpenSpec.ofChange shapeCodesSpec)

/-- ITS FALSE NEIGHBOUR: 'it returns false'. Refute it at one input. -/
def shapeCodesWrong : ChangeSpec := { name := "shapeCodes", fn := fun _ => fun
  | [d] => { results := [.lit (.bool false)], args := [d] }
  | _ => none }
def ShapeCodesWrongFalsely : Prop := shapeCodesRow.holds Tryd.pinned (OpenSpec.ofChange shapeCodesWrong)

/-- 'palisadelaw04.ShapePlaces': WHATEVER THE INPUT: true; the input reads as it did. -/
def shapePlacesSpec : ChangeSpec := { name := "shapePlaces", fn := fun _ => fun
  | [d1, d2, d3] => { results := [.lit (.bool true)], args := [d1, d2, d3] }
  | _ => none }
def shapePlacesRow : OpenClaim := { program := "ythhgalhabdkikaadoor", sum := "ee22e837eb5fc71c0db892c199c75bc3861bc7ea9bb49b5945849e914fe1358b", func := "palisade/palisadelaw04.ShapePlaces", spec := "shapePlaces", unfollowed := true, recurses := true, named := ["palisade/shape.kinds", "palisade/mod.primes"], apart := false, laid := [("palisade/mod.primes", laid_palisade_mod_primes), ("palisade/shape.kinds", laid_palisade_shape_kinds)] }
def ShapePlacesSaid : Prop := shapePlacesRow.holds Tryd.pinned (OpenSpec.ofChange shapePlacesSpec)

/-- ITS FALSE NEIGHBOUR: 'it returns false'. Refute it at one input. -/
def shapePlacesWrong : ChangeSpec := { name := "shapePlaces", fn := fun _ => fun
  | [d1, d2, d3] => { results := [.lit (.bool false)], args := [d1, d2, d3] }
  | _ => none }
def ShapePlacesWrongFalsely : Prop := shapePlacesRow.holds Tryd.pinned (OpenSpec.ofChange shapePlacesWrong)

/-- 'palisadelaw04.ShapeLines': WHATEVER THE INPUT: true; the input reads as it did. -/
def shapeLinesSpec : ChangeSpec := { name := "shapeLines", fn := fun _ => fun
  | [d1, d2, d3] => { results := [.lit (.bool true)], args := [d1, d2, d3] }
  | _ => none }
def shapeLinesRow : OpenClaim := { program := "ythhgalhabdkikaadoor", sum := "ee22e837eb5fc71c0db892c199c75bc3861bc7ea9bb49b5945849e914fe1358b", func := "palisade/palisadelaw04.ShapeLines", spec := "shapeLines", unfollowed := true, recurses := true, named := ["palisade/shape.kinds", "palisade/mod.primes"], apart := false, laid := [("palisade/mod.primes", laid_palisade_mod_primes), ("palisade/shape.kinds", laid_palisade_shape_kinds)] }
def ShapeLinesSaid : Prop := shapeLinesRow.holds Tryd.pinned (OpenSpec.ofChange shapeLinesSpec)

/-- ITS FALSE NEIGHBOUR: 'it returns false'. Refute it at one input. -/
def shapeLinesWrong : ChangeSpec := { name := "shapeLines", fn := fun _ => fun
  | [d1, d2, d3] => { results := [.lit (.bool false)], args := [d1, d2, d3] }
  | _ => none }
def ShapeLinesWrongFalsely : Prop := shapeLinesRow.holds Tryd.pinned (OpenSpec.ofChange shapeLinesWrong)

/-- 'palisadelaw04.ShapeHolds': WHATEVER THE INPUT: true; the input reads as it did. -/
def shapeHoldsSpec : ChangeSpec := { name := "shapeHolds", fn := fun _ => fun
  | [d1, d2] => { results := [.lit (.bool true)], args := [d1, d2] }
  | _ => none }
def shapeHoldsRow : OpenClaim := { program := "ythhgalhabdkikaadoor", sum := "ee22e837eb5fc71c0db892c199c75bc3861bc7ea9bb49b5945849e914fe1358b", func := "palisade/palisadelaw04.ShapeHolds", spec := "shapeHolds", unfollowed := true, recurses := true, named := ["palisade/mod.primes", "palisade/shape.kinds"], apart := false, laid := [("palisade/mod.primes", laid_palisade_mod_primes), ("palisade/shape.kinds", laid_palisade_shape_kinds)] }
def ShapeHoldsSaid : Prop := shapeHoldsRow.holds Tryd.pinned (OpenSpec.ofChange shapeHoldsSpec)

/-- ITS FALSE NEIGHBOUR: 'it returns false'. Refute it at one input. -/
def shapeHoldsWrong : ChangeSpec := { name := "shapeHolds", fn := fun _ => fun
  | [d1, d2] => { results := [.lit (.bool false)], args := [d1, d2] }
  | _ => none }
def ShapeHoldsWrongFalsely : Prop := shapeHoldsRow.holds Tryd.pinned (OpenSpec.ofChange shapeHoldsWrong)

/-- 'palisadelaw04.ShapeRoles': WHATEVER THE INPUT: true; the input reads as it did. -/
def shapeRolesSpec : ChangeSpec := { name := "shapeRoles", fn := fun _ => fun
  | [d] => { results := [.lit (.bool true)], args := [d] }
  | _ => none }
def shapeRolesRow : OpenClaim := { program := "ythhgalhabdkikaadoor", sum := "ee22e837eb5fc71c0db892c199c75bc3861bc7ea9bb49b5945849e914fe1358b", func := "palisade/palisadelaw04.ShapeRoles", spec := "shapeRoles", unfollowed := true, recurses := true, named := ["palisade/mod.primes", "palisade/shape.kinds"], apart := false, laid := [("palisade/mod.primes", laid_palisade_mod_primes), ("palisade/shape.kinds", laid_palisade_shape_kinds)] }
def ShapeRolesSaid : Prop := shapeRolesRow.holds Tryd.pinned (OpenSpec.ofChange shapeRolesSpec)

/-- ITS FALSE NEIGHBOUR: 'it returns false'. Refute it at one input. -/
def shapeRolesWrong : ChangeSpec := { name := "shapeRoles", fn := fun _ => fun
  | [d] => { results := [.lit (.bool false)], args := [d] }
  | _ => none }
def ShapeRolesWrongFalsely : Prop := shapeRolesRow.holds Tryd.pinned (OpenSpec.ofChange shapeRolesWrong)

/- THE SECOND FORM. 'bulk': how many values and letters a reading holds, each counted each time it is reached (what is shared counts as often as it is met; a slice's spare places count too). A statement '..UptoSaid' is the law's where the arguments, and the package variables that the reading takes, are together of bulk at most 1048576: NARROWER than '..Said'. Prove '..Said' where nothing that the law and all that it calls make is longer than what came in: it says more and counts as full. Else prove '..UptoSaid'. A law counts once. -/
mutual
def uptoBulk {H : Type} : DataW H → Nat
  | .lit (.string bytes) => bytes.length + 1
  | .lit _ => 1
  | .nil => 1
  | .ptr d => uptoBulk d + 1
  | .slice elems spare => uptoBulkAll elems + uptoBulkAll spare + 1
  | .agg parts => uptoBulkAll parts + 1
  | .iface _ d => uptoBulk d + 1
  | .map entries => uptoBulkEntries entries + 1
  | .held _ => 1
def uptoBulkAll {H : Type} : List (DataW H) → Nat
  | [] => 0
  | d :: r => uptoBulk d + uptoBulkAll r
def uptoBulkEntries {H : Type} : List (Lit × DataW H) → Nat
  | [] => 0
  | x :: r => uptoBulkEntry x + uptoBulkEntries r
def uptoBulkEntry {H : Type} : Lit × DataW H → Nat
  | (.string bytes, d) => bytes.length + uptoBulk d + 1
  | (_, d) => uptoBulk d + 1
 end
def uptoSmall : (H : Type) → List (DataW H) → Bool := fun _ ds => decide (uptoBulkAll ds ≤ 1048576)
def OpenSpec.upto (s : _root_.Go.ChangeSpec) : _root_.Go.OpenSpec := { _root_.Go.OpenSpec.ofChange s with cond := some uptoSmall }

/-- 'palisadelaw04.ShapeCodes', WHERE WHAT IT READS IS OF BULK AT MOST 1048576: true; the input reads as it did. -/
def shapeCodesUptoRow : OpenClaim := { program := "ythhgalhabdkikaadoor", sum := "ee22e837eb5fc71c0db892c199c75bc3861bc7ea9bb49b5945849e914fe1358b", func := "palisade/palisadelaw04.ShapeCodes", spec := "shapeCodes", unfollowed := true, recurses := true, named := ["palisade/shape.kinds", "palisade/mod.primes"], apart := false, laid := [("palisade/mod.primes", laid_palisade_mod_primes), ("palisade/shape.kinds", laid_palisade_shape_kinds)], narrowed := true }
def ShapeCodesUptoSaid : Prop := shapeCodesUptoRow.holds Tryd.pinned (OpenSpec.upto shapeCodesSpec)

/-- 'palisadelaw04.ShapePlaces', WHERE WHAT IT READS IS OF BULK AT MOST 1048576: true; the input reads as it did. -/
def shapePlacesUptoRow : OpenClaim := { program := "ythhgalhabdkikaadoor", sum := "ee22e837eb5fc71c0db892c199c75bc3861bc7ea9bb49b5945849e914fe1358b", func := "palisade/palisadelaw04.ShapePlaces", spec := "shapePlaces", unfollowed := true, recurses := true, named := ["palisade/shape.kinds", "palisade/mod.primes"], apart := false, laid := [("palisade/mod.primes", laid_palisade_mod_primes), ("palisade/shape.kinds", laid_palisade_shape_kinds)], narrowed := true }
def ShapePlacesUptoSaid : Prop := shapePlacesUptoRow.holds Tryd.pinned (OpenSpec.upto shapePlacesSpec)

/-- 'palisadelaw04.ShapeLines', WHERE WHAT IT READS IS OF BULK AT MOST 1048576: true; the input reads as it did. -/
def shapeLinesUptoRow : OpenClaim := { program := "ythhgalhabdkikaadoor", sum := "ee22e837eb5fc71c0db892c199c75bc3861bc7ea9bb49b5945849e914fe1358b", func := "palisade/palisadelaw04.ShapeLines", spec := "shapeLines", unfollowed := true, recurses := true, named := ["palisade/shape.kinds", "palisade/mod.primes"], apart := false, laid := [("palisade/mod.primes", laid_palisade_mod_primes), ("palisade/shape.kinds", laid_palisade_shape_kinds)], narrowed := true }
def ShapeLinesUptoSaid : Prop := shapeLinesUptoRow.holds Tryd.pinned (OpenSpec.upto shapeLinesSpec)

/-- 'palisadelaw04.ShapeHolds', WHERE WHAT IT READS IS OF BULK AT MOST 1048576: true; the input reads as it did. -/
def shapeHoldsUptoRow : OpenClaim := { program := "ythhgalhabdkikaadoor", sum := "ee22e837eb5fc71c0db892c199c75bc3861bc7ea9bb49b5945849e914fe1358b", func := "palisade/palisadelaw04.ShapeHolds", spec := "shapeHolds", unfollowed := true, recurses := true, named := ["palisade/mod.primes", "palisade/shape.kinds"], apart := false, laid := [("palisade/mod.primes", laid_palisade_mod_primes), ("palisade/shape.kinds", laid_palisade_shape_kinds)], narrowed := true }
def ShapeHoldsUptoSaid : Prop := shapeHoldsUptoRow.holds Tryd.pinned (OpenSpec.upto shapeHoldsSpec)

/-- 'palisadelaw04.ShapeRoles', WHERE WHAT IT READS IS OF BULK AT MOST 1048576: true; the input reads as it did. -/
def shapeRolesUptoRow : OpenClaim := { program := "ythhgalhabdkikaadoor", sum := "ee22e837eb5fc71c0db892c199c75bc3861bc7ea9bb49b5945849e914fe1358b", func := "palisade/palisadelaw04.ShapeRoles", spec := "shapeRoles", unfollowed := true, recurses := true, named := ["palisade/mod.primes", "palisade/shape.kinds"], apart := false, laid := [("palisade/mod.primes", laid_palisade_mod_primes), ("palisade/shape.kinds", laid_palisade_shape_kinds)], narrowed := true }
def ShapeRolesUptoSaid : Prop := shapeRolesUptoRow.holds Tryd.pinned (OpenSpec.upto shapeRolesSpec)

end Rows
end Go.Proofs.YthhgalhabdkikaaDoor
