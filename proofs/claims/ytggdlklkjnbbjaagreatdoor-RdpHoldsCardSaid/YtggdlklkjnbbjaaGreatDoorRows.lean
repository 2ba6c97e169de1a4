/-
  NARROWER THAN 'FOR EVERY INPUT', by the rows' own cells (each row's printed sentence says how): EvenoddEncodes: laid · EvenoddChecks: laid · EvenoddHolds: laid · RdpEncodes: laid · RdpChecks: laid · RdpHolds: laid · RdpAdds: laid.
  DERIVED. THE GIVEN ROWS OF THIS SEAT. 7 by the template 'for every input the law returns true; each argument reads behind the call as it read before'; 0 by the template 'total and deterministic' (their statements: YtggdlklkjnbbjaaGreatDoorTotals.lean).
  GIVEN WITH THE SEED: the statements are not yours to turn. If you find one false, say at which input.
  Laid BY PROGRAM, IN A SANDBOX (cutbox-rows.mjs): the forced cells as the released guide's own fill.sh prints them over the translation e6c035503a1dc051… (all of the seat's roots in one cut). By AI agents, Wed Nov 11 2026. No macro, syntax, notation, axiom, sorry.
-/
import Derived.Test.YtggdlklkjnbbjaaGreatDoorChecked
import GoSem.Claim
import GoSem.ClaimJoined
import GoSem.ClaimMapViews
import Derived.JoinedTies
import Derived.KernelRfl
namespace Go.Proofs.YtggdlklkjnbbjaaGreatDoor
/- THE CELL 'sum', in the pinned program and in every row, IS THE sha256 OF THE DUMP (.gsa) THAT YtggdlklkjnbbjaaGreatDoorProg.lean LOADS. Nothing in Lean hashes anything: it is a label: what it is worth is what the hold of that sum in a sandbox is worth. -/
noncomputable def Tryz.pinned : Pinned := { name := "ytggdlklkjnbbjaagreatdoor", sum := "e6c035503a1dc0515c575c5b5dbd54298b3d42c97b68284f2ce5414dddfec6a4", checked := Tryz.checked }
namespace Rows
def none {H : Type} : Left H := { results := [], args := [] }

/- WHAT THE LISTED PACKAGE-LEVEL VARIABLES READ AS WHEN THE CALL BEGINS. Each datum BY PROGRAM (the guide's laid-datum.mjs) off the statement by which the dump's own 'gosem.cut.vars' lays the variable. In a bare row this is a premise. The card (YtggdlklkjnbbjaaGreatDoorCards.lean) ties it to the program's text. -/
def laid_palisade_mod_primes {H : Type} : DataW H := .agg [.lit (.int .i64 3), .lit (.int .i64 5), .lit (.int .i64 7), .lit (.int .i64 11), .lit (.int .i64 13), .lit (.int .i64 17)]
def laid_palisade_shape_kinds {H : Type} : DataW H := .agg [.agg [.lit (.int .i64 0), .lit (.int .i64 0)], .agg [.lit (.int .i64 0), .lit (.int .i64 2)], .agg [.lit (.int .i64 1), .lit (.int .i64 2)], .agg [.lit (.int .i64 0), .lit (.int .i64 3)]]

/-- 'palisadelaw06.EvenoddEncodes': WHATEVER THE INPUT: true; the input reads as it did. -/
def evenoddEncodesSpec : ChangeSpec := { name := "evenoddEncodes", fn := fun _ => fun
  | [d1, d2] => { results := [.lit (.bool true)], args := [d1, d2] }
  | _ => none }
def evenoddEncodesRow : OpenClaim := { program := "ytggdlklkjnbbjaagreatdoor", sum := "e6c035503a1dc0515c575c5b5dbd54298b3d42c97b68284f2ce5414dddfec6a4", func := "palisade/palisadelaw06.EvenoddEncodes", spec := "evenoddEncodes", unfollowed := true, recurses := true, named := ["palisade/shape.kinds", "palisade/mod.primes"], apart := false, laid := [("palisade/mod.primes", laid_palisade_mod_primes), ("palisade/shape.kinds", laid_palisade_shape_kinds)] }
def EvenoddEncodesSaid : Prop := evenoddEncodesRow.holds Tryz.pinned (OpenSpec.ofChange evenoddEncodesSpec)

/-- ITS FALSE NEIGHBOUR: 'it returns false'. Refute it at one input. -/
def evenoddEncodesWrong : ChangeSpec := { name := "evenoddEncodes", fn := fun _ => fun
  | [d1, d2] => { results := [.lit (.bool false)], args := [d1, d2] }
  | _ => none }
def EvenoddEncodesWrongFalsely : Prop := evenoddEncodesRow.holds Tryz.pinned (OpenSpec.ofChange evenoddEncodesWrong)

/-- 'palisadelaw06.EvenoddChecks': WHATEVER THE INPUT: true; the input reads as it did. -/
def evenoddChecksSpec : ChangeSpec := { name := "evenoddChecks", fn := fun _ => fun
  | [d1, d2] => { results := [.lit (.bool true)], args := [d1, d2] }
  | _ => none }
def evenoddChecksRow : OpenClaim := { program := "ytggdlklkjnbbjaagreatdoor", sum := "e6c035503a1dc0515c575c5b5dbd54298b3d42c97b68284f2ce5414dddfec6a4", func := "palisade/palisadelaw06.EvenoddChecks", spec := "evenoddChecks", unfollowed := true, recurses := true, named := ["palisade/shape.kinds", "palisade/mod.primes"], apart := false, laid := [("palisade/mod.primes", laid_palisade_mod_primes), ("palisade/shape.kinds", laid_palisade_shape_kinds)] }
def EvenoddChecksSaid : Prop := evenoddChecksRow.holds Tryz.pinned (OpenSpec.ofChange evenoddChecksSpec)

/-- ITS FALSE NEIGHBOUR: 'it returns false'. Refute it at one input. -/
def evenoddChecksWrong : ChangeSpec := { name := "evenoddChecks", fn := fun _ => fun
  | [d1, d2] => { results := [.lit (.bool false)], args := [d1, d2] }
  | _ => none }
def EvenoddChecksWrongFalsely : Prop := evenoddChecksRow.holds Tryz.pinned (OpenSpec.ofChange evenoddChecksWrong)

/-- 'palisadelaw06.EvenoddHolds': WHATEVER THE INPUT: true; the input reads as it did. -/
def evenoddHoldsSpec : ChangeSpec := { name := "evenoddHolds", fn := fun _ => fun
  | [d1, d2, d3] => { results := [.lit (.bool true)], args := [d1, d2, d3] }
  | _ => none }
def evenoddHoldsRow : OpenClaim := { program := "ytggdlklkjnbbjaagreatdoor", sum := "e6c035503a1dc0515c575c5b5dbd54298b3d42c97b68284f2ce5414dddfec6a4", func := "palisade/palisadelaw06.EvenoddHolds", spec := "evenoddHolds", unfollowed := true, recurses := true, named := ["palisade/shape.kinds", "palisade/mod.primes"], apart := false, laid := [("palisade/mod.primes", laid_palisade_mod_primes), ("palisade/shape.kinds", laid_palisade_shape_kinds)] }
def EvenoddHoldsSaid : Prop := evenoddHoldsRow.holds Tryz.pinned (OpenSpec.ofChange evenoddHoldsSpec)

/-- ITS FALSE NEIGHBOUR: 'it returns false'. Refute it at one input. -/
def evenoddHoldsWrong : ChangeSpec := { name := "evenoddHolds", fn := fun _ => fun
  | [d1, d2, d3] => { results := [.lit (.bool false)], args := [d1, d2, d3] }
  | _ => none }
def EvenoddHoldsWrongFalsely : Prop := evenoddHoldsRow.holds Tryz.pinned (OpenSpec.ofChange evenoddHoldsWrong)

/-- 'palisadelaw07.RdpEncodes': WHATEVER THE INPUT: true; the input reads as it did. -/
def rdpEncodesSpec : ChangeSpec := { name := "rdpEncodes", fn := fun _ => fun
  | [d1, d2] => { results := [.lit (.bool true)], args := [d1, d2] }
  | _ => none }
def rdpEncodesRow : OpenClaim := { program := "ytggdlklkjnbbjaagreatdoor", sum := "e6c035503a1dc0515c575c5b5dbd54298b3d42c97b68284f2ce5414dddfec6a4", func := "palisade/palisadelaw07.RdpEncodes", spec := "rdpEncodes", unfollowed := true, recurses := true, named := ["palisade/shape.kinds", "palisade/mod.primes"], apart := false, laid := [("palisade/mod.primes", laid_palisade_mod_primes), ("palisade/shape.kinds", laid_palisade_shape_kinds)] }
def RdpEncodesSaid : Prop := rdpEncodesRow.holds Tryz.pinned (OpenSpec.ofChange rdpEncodesSpec)

/-- ITS FALSE NEIGHBOUR: 'it returns false'. Refute it at one input. -/
def rdpEncodesWrong : ChangeSpec := { name := "rdpEncodes", fn := fun _ => fun
  | [d1, d2] => { results := [.lit (.bool false)], args := [d1, d2] }
  | _ => none }
def RdpEncodesWrongFalsely : Prop := rdpEncodesRow.holds Tryz.pinned (OpenSpec.ofChange rdpEncodesWrong)

/-- 'palisadelaw07.RdpChecks': WHATEVER THE INPUT: true; the input reads as it did. -/
def rdpChecksSpec : ChangeSpec := { name := "rdpChecks", fn := fun _ => fun
  | [d1, d2, d3] => { results := [.lit (.bool true)], args := [d1, d2, d3] }
  | _ => none }
def rdpChecksRow : OpenClaim := { program := "ytggdlklkjnbbjaagreatdoor", sum := "e6c035503a1dc0515c575c5b5dbd54298b3d42c97b68284f2ce5414dddfec6a4", func := "palisade/palisadelaw07.RdpChecks", spec := "rdpChecks", unfollowed := true, recurses := true, named := ["palisade/shape.kinds", "palisade/mod.primes"], apart := false, laid := [("palisade/mod.primes", laid_palisade_mod_primes), ("palisade/shape.kinds", laid_palisade_shape_kinds)] }
def RdpChecksSaid : Prop := rdpChecksRow.holds Tryz.pinned (OpenSpec.ofChange rdpChecksSpec)

/-- ITS FALSE NEIGHBOUR: 'it returns false'. Refute it at one input. -/
def rdpChecksWrong : ChangeSpec := { name := "rdpChecks", fn := fun _ => fun
  | [d1, d2, d3] => { results := [.lit (.bool false)], args := [d1, d2, d3] }
  | _ => none }
def RdpChecksWrongFalsely : Prop := rdpChecksRow.holds Tryz.pinned (OpenSpec.ofChange rdpChecksWrong)

/-- 'palisadelaw07.RdpHolds': WHATEVER THE INPUT: true; the input reads as it did. -/
def rdpHoldsSpec : ChangeSpec := { name := "rdpHolds", fn := fun _ => fun
  | [d1, d2, d3, d4] => { results := [.lit (.bool true)], args := [d1, d2, d3, d4] }
  | _ => none }
def rdpHoldsRow : OpenClaim := { program := "ytggdlklkjnbbjaagreatdoor", sum := "e6c035503a1dc0515c575c5b5dbd54298b3d42c97b68284f2ce5414dddfec6a4", func := "palisade/palisadelaw07.RdpHolds", spec := "rdpHolds", unfollowed := true, recurses := true, named := ["palisade/shape.kinds", "palisade/mod.primes"], apart := false, laid := [("palisade/mod.primes", laid_palisade_mod_primes), ("palisade/shape.kinds", laid_palisade_shape_kinds)] }
def RdpHoldsSaid : Prop := rdpHoldsRow.holds Tryz.pinned (OpenSpec.ofChange rdpHoldsSpec)

/-- ITS FALSE NEIGHBOUR: 'it returns false'. Refute it at one input. -/
def rdpHoldsWrong : ChangeSpec := { name := "rdpHolds", fn := fun _ => fun
  | [d1, d2, d3, d4] => { results := [.lit (.bool false)], args := [d1, d2, d3, d4] }
  | _ => none }
def RdpHoldsWrongFalsely : Prop := rdpHoldsRow.holds Tryz.pinned (OpenSpec.ofChange rdpHoldsWrong)

/-- 'palisadelaw07.RdpAdds': WHATEVER THE INPUT: true; the input reads as it did. -/
def rdpAddsSpec : ChangeSpec := { name := "rdpAdds", fn := fun _ => fun
  | [d1, d2, d3] => { results := [.lit (.bool true)], args := [d1, d2, d3] }
  | _ => none }
def rdpAddsRow : OpenClaim := { program := "ytggdlklkjnbbjaagreatdoor", sum := "e6c035503a1dc0515c575c5b5dbd54298b3d42c97b68284f2ce5414dddfec6a4", func := "palisade/palisadelaw07.RdpAdds", spec := "rdpAdds", unfollowed := true, recurses := true, named := ["palisade/shape.kinds", "palisade/mod.primes"], apart := false, laid := [("palisade/mod.primes", laid_palisade_mod_primes), ("palisade/shape.kinds", laid_palisade_shape_kinds)] }
def RdpAddsSaid : Prop := rdpAddsRow.holds Tryz.pinned (OpenSpec.ofChange rdpAddsSpec)

/-- ITS FALSE NEIGHBOUR: 'it returns false'. Refute it at one input. -/
def rdpAddsWrong : ChangeSpec := { name := "rdpAdds", fn := fun _ => fun
  | [d1, d2, d3] => { results := [.lit (.bool false)], args := [d1, d2, d3] }
  | _ => none }
def RdpAddsWrongFalsely : Prop := rdpAddsRow.holds Tryz.pinned (OpenSpec.ofChange rdpAddsWrong)

/- THE SECOND FORM. 'bulk': how many values and letters a reading holds, each counted each time it is reached (what is shared counts as often as it is met; a slice's spare places count too). A statement '..UptoSaid' is the law's where the arguments, and the package variables that the reading takes, are together of bulk at most 1048576: NARROWER than '..Said'. Prove '..Said' where nothing that the law and all that it calls make is longer than what came in: it says more and counts as full. Else prove '..UptoSaid'. A law counts once. -/
mutual
def uptoBulk {H : Type} : DataW H → Nat
  | .lit (.string bytes) => bytes.length + 1
  | .lit _ => 1
  | .nil => 1
  | .ptr d => uptoBulk d + 1
  | .slice elems spare => uptoBulkAll elems + uptoBulkAll spare + 1
  | .agg parts => uptoBulkAll parts + 1
  | .iface _ d => uptoBulk d + 1
  | .map entries => uptoBulkEntries entries + 1
  | .held _ => 1
def uptoBulkAll {H : Type} : List (DataW H) → Nat
  | [] => 0
  | d :: r => uptoBulk d + uptoBulkAll r
def uptoBulkEntries {H : Type} : List (Lit × DataW H) → Nat
  | [] => 0
  | x :: r => uptoBulkEntry x + uptoBulkEntries r
def uptoBulkEntry {H : Type} : Lit × DataW H → Nat
  | (.string bytes, d) => bytes.length + uptoBulk d + 1
  | (_, d) => uptoBulk d + 1
 end
def uptoSmall : (H : Type) → List (DataW H) → Bool := fun _ ds => decide (uptoBulkAll ds ≤ 1048576)
def OpenSpec.upto (s : _root_.Go.ChangeSpec) : _root_.Go.OpenSpec := { _root_.Go.OpenSpec.ofChange s with cond := some uptoSmall }

/-- 'palisadelaw06.EvenoddEncodes', WHERE WHAT IT READS IS OF BULK AT MOST 1048576: true; the input reads as it did. -/
def evenoddEncodesUptoRow : OpenClaim := { program := "ytggdlklkjnbbjaagreatdoor", sum := "e6c035503a1dc0515c575c5b5dbd54298b3d42c97b68284f2ce5414dddfec6a4", func := "palisade/palisadelaw06.EvenoddEncodes", spec := "evenoddEncodes", unfollowed := true, recurses := true, named := ["palisade/shape.kinds", "palisade/mod.primes"], apart := false, laid := [("palisade/mod.primes", laid_palisade_mod_primes), ("palisade/shape.kinds", laid_palisade_shape_kinds)], narrowed := true }
def EvenoddEncodesUptoSaid : Prop := evenoddEncodesUptoRow.holds Tryz.pinned (OpenSpec.upto evenoddEncodesSpec)

/-- 'palisadelaw06.EvenoddChecks', WHERE WHAT IT READS IS OF BULK AT MOST 1048576: true; the input reads as it did. -/
def evenoddChecksUptoRow : OpenClaim := { program := "ytggdlklkjnbbjaagreatdoor", sum := "e6c035503a1dc0515c575c5b5dbd54298b3d42c97b68284f2ce5414dddfec6a4", func := "palisade/palisadelaw06.EvenoddChecks", spec := "evenoddChecks", unfollowed := true, recurses := true, named := ["palisade/shape.kinds", "palisade/mod.primes"], apart := false, laid := [("palisade/mod.primes", laid_palisade_mod_primes), ("palisade/shape.kinds", laid_palisade_shape_kinds)], narrowed := true }
def EvenoddChecksUptoSaid : Prop := evenoddChecksUptoRow.holds Tryz.pinned (OpenSpec.upto evenoddChecksSpec)

/-- 'palisadelaw06.EvenoddHolds', WHERE WHAT IT READS IS OF BULK AT MOST 1048576: true; the input reads as it did. -/
def evenoddHoldsUptoRow : OpenClaim := { program := "ytggdlklkjnbbjaagreatdoor", sum := "e6c035503a1dc0515c575c5b5dbd54298b3d42c97b68284f2ce5414dddfec6a4", func := "palisade/palisadelaw06.EvenoddHolds", spec := "evenoddHolds", unfollowed := true, recurses := true, named := ["palisade/shape.kinds", "palisade/mod.primes"], apart := false, laid := [("palisade/mod.primes", laid_palisade_mod_primes), ("palisade/shape.kinds", laid_palisade_shape_kinds)], narrowed := true }
def EvenoddHoldsUptoSaid : Prop := evenoddHoldsUptoRow.holds Tryz.pinned (OpenSpec.upto evenoddHoldsSpec)

/-- 'palisadelaw07.RdpEncodes', WHERE WHAT IT READS IS OF BULK AT MOST 1048576: true; the input reads as it did. -/
def rdpEncodesUptoRow : OpenClaim := { program := "ytggdlklkjnbbjaagreatdoor", sum := "e6c035503a1dc0515c575c5b5dbd54298b3d42c97b68284f2ce5414dddfec6a4", func := "palisade/palisadelaw07.RdpEncodes", spec := "rdpEncodes", unfollowed := true, recurses := true, named := ["palisade/shape.kinds", "palisade/mod.primes"], apart := false, laid := [("palisade/mod.primes", laid_palisade_mod_primes), ("palisade/shape.kinds", laid_palisade_shape_kinds)], narrowed := true }
def RdpEncodesUptoSaid : Prop := rdpEncodesUptoRow.holds Tryz.pinned (OpenSpec.upto rdpEncodesSpec)

/-- 'palisadelaw07.RdpChecks', WHERE WHAT IT READS IS OF BULK AT MOST 1048576: true; the input reads as it did. -/
def rdpChecksUptoRow : OpenClaim := { program := "ytggdlklkjnbbjaagreatdoor", sum := "e6c035503a1dc0515c575c5b5dbd54298b3d42c97b68284f2ce5414dddfec6a4", func := "palisade/palisadelaw07.RdpChecks", spec := "rdpChecks", unfollowed := true, recurses := true, named := ["palisade/shape.kinds", "palisade/mod.primes"], apart := false, laid := [("palisade/mod.primes", laid_palisade_mod_primes), ("palisade/shape.kinds", laid_palisade_shape_kinds)], narrowed := true }
def RdpChecksUptoSaid : Prop := rdpChecksUptoRow.holds Tryz.pinned (OpenSpec.upto rdpChecksSpec)

/-- 'palisadelaw07.RdpHolds', WHERE WHAT IT READS IS OF BULK AT MOST 1048576: true; the input reads as it did. -/
def rdpHoldsUptoRow : OpenClaim := { program := "ytggdlklkjnbbjaagreatdoor", sum := "e6c035503a1dc0515c575c5b5dbd54298b3d42c97b68284f2ce5414dddfec6a4", func := "palisade/palisadelaw07.RdpHolds", spec := "rdpHolds", unfollowed := true, recurses := true, named := ["palisade/shape.kinds", "palisade/mod.primes"], apart := false, laid := [("palisade/mod.primes", laid_palisade_mod_primes), ("palisade/shape.kinds", laid_palisade_shape_kinds)], narrowed := true }
def RdpHoldsUptoSaid : Prop := rdpHoldsUptoRow.holds Tryz.pinned (OpenSpec.upto rdpHoldsSpec)

/-- 'palisadelaw07.RdpAdds', WHERE WHAT IT READS IS OF BULK AT MOST 1048576: true; the input reads as it did. -/
def rdpAddsUptoRow : OpenClaim := { program := "ytggdlklkjnbbjaagreatdoor", sum := "e6c035503a1dc0515c575c5b5dbd54298b3d42c97b68284f2ce5414dddfec6a4", func := "palisade/palisadelaw07.RdpAdds", spec := "rdpAdds", unfollowed := true, recurses := true, named := ["palisade/shape.kinds", "palisade/mod.primes"], apart := false, laid := [("palisade/mod.primes", laid_palisade_mod_primes), ("palisade/shape.kinds", laid_palisade_shape_kinds)], narrowed := true }
def RdpAddsUptoSaid : Prop := rdpAddsUptoRow.holds Tryz.pinned (OpenSpec.upto rdpAddsSpec)

end Rows
end Go.Proofs.YtggdlklkjnbbjaaGreatDoor
