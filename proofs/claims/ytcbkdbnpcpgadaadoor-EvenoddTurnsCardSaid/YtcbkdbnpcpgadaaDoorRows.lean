/-
  NARROWER THAN 'FOR EVERY INPUT', by the rows' own cells (each row's printed sentence says how): EvenoddTurns: laid · EvenoddBytes: laid.
  DERIVED. THE GIVEN ROWS OF THIS SEAT. 2 by the template 'for every input the law returns true; each argument reads behind the call as it read before'; 0 by the template 'total and deterministic' (their statements: YtcbkdbnpcpgadaaDoorTotals.lean).
  GIVEN WITH THE SEED: the statements are not yours to turn. If you find one false, say at which input.
  Laid BY PROGRAM, IN A SANDBOX (cutbox-rows.mjs): the forced cells as the released guide's own fill.sh prints them over the translation 33539eeac0db8d96… (all of the seat's roots in one cut). By AI agents, Wed Nov 11 2026. No macro, syntax, notation, axiom, sorry.
-/
import Derived.Test.YtcbkdbnpcpgadaaDoorChecked
import GoSem.Claim
import GoSem.ClaimJoined
import GoSem.ClaimMapViews
import Derived.JoinedTies
import Derived.KernelRfl
namespace Go.Proofs.YtcbkdbnpcpgadaaDoor
/- THE CELL 'sum', in the pinned program and in every row, IS THE sha256 OF THE DUMP (.gsa) THAT YtcbkdbnpcpgadaaDoorProg.lean LOADS. Nothing in Lean hashes anything: it is a label: what it is worth is what the hold of that sum in a sandbox is worth. -/
noncomputable def Tryd.pinned : Pinned := { name := "ytcbkdbnpcpgadaadoor", sum := "33539eeac0db8d9604204c234d61e59aee4a0b85a4625344c6ec9f4cd23259a9", checked := Tryd.checked }
namespace Rows
def none {H : Type} : Left H := { results := [], args := [] }

/- WHAT THE LISTED PACKAGE-LEVEL VARIABLES READ AS WHEN THE CALL BEGINS. Each datum BY PROGRAM (the guide's laid-datum.mjs) off the statement by which the dump's own 'gosem.cut.vars' lays the variable. In a bare row this is a premise. The card (YtcbkdbnpcpgadaaDoorCards.lean) ties it to the program's text. -/
def laid_palisade_mod_primes {H : Type} : DataW H := .agg [.lit (.int .i64 3), .lit (.int .i64 5), .lit (.int .i64 7), .lit (.int .i64 11), .lit (.int .i64 13), .lit (.int .i64 17)]
def laid_palisade_shape_kinds {H : Type} : DataW H := .agg [.agg [.lit (.int .i64 0), .lit (.int .i64 0)], .agg [.lit (.int .i64 0), .lit (.int .i64 2)], .agg [.lit (.int .i64 1), .lit (.int .i64 2)], .agg [.lit (.int .i64 0), .lit (.int .i64 3)]]

/-- 'palisadelaw06.EvenoddTurns': WHATEVER THE INPUT: true; the input reads as it did. -/
def evenoddTurnsSpec : ChangeSpec := { name := "evenoddTurns", fn := fun _ => fun
  | [d1, d2] => { results := [.lit (.bool true)], args := [d1, d2] }
  | _ => none }
def evenoddTurnsRow : OpenClaim := { program := "ytcbkdbnpcpgadaadoor", sum := "33539eeac0db8d9604204c234d61e59aee4a0b85a4625344c6ec9f4cd23259a9", func := "palisade/palisadelaw06.EvenoddTurns", spec := "evenoddTurns", unfollowed := true, recurses := true, named := ["palisade/shape.kinds", "palisade/mod.primes"], apart := false, laid := [("palisade/mod.primes", laid_palisade_mod_primes), ("palisade/shape.kinds", laid_palisade_shape_kinds)] }
def EvenoddTurnsSaid : Prop := evenoddTurnsRow.holds Tryd.pinned (OpenSpec.ofChange evenoddTurnsSpec)

/-- ITS FALSE NEIGHBOUR: 'it returns false'. Refute it at one input. -/
def evenoddTurnsWrong : ChangeSpec := { name := "evenoddTurns", fn := fun _ => fun
  | [d1, d2] => { results := [.lit (.bool false)], args := [d1, d2] }
  | _ => none }
def EvenoddTurnsWrongFalsely : Prop := evenoddTurnsRow.holds Tryd.pinned (OpenSpec.ofChange evenoddTurnsWrong)

/-- 'palisadelaw06.EvenoddBytes': WHATEVER THE INPUT: true; the input reads as it did. -/
def evenoddBytesSpec : ChangeSpec := { name := "evenoddBytes", fn := fun _ => fun
  | [d1, d2, d3] => { results := [.lit (.bool true)], args := [d1, d2, d3] }
  | _ => none }
def evenoddBytesRow : OpenClaim := { program := "ytcbkdbnpcpgadaadoor", sum := "33539eeac0db8d9604204c234d61e59aee4a0b85a4625344c6ec9f4cd23259a9", func := "palisade/palisadelaw06.EvenoddBytes", spec := "evenoddBytes", unfollowed := true, recurses := true, named := ["palisade/shape.kinds", "palisade/mod.primes"], apart := false, laid := [("palisade/mod.primes", laid_palisade_mod_primes), ("palisade/shape.kinds", laid_palisade_shape_kinds)] }
def EvenoddBytesSaid : Prop := evenoddBytesRow.holds Tryd.pinned (OpenSpec.ofChange evenoddBytesSpec)

/-- ITS FALSE NEIGHBOUR: 'it returns false'. Refute it at one input. -/
def evenoddBytesWrong : ChangeSpec := { name := "evenoddBytes", fn := fun _ => fun
  | [d1, d2, d3] => { results := [.lit (.bool false)], args := [d1, d2, d3] }
  | _ => none }
def EvenoddBytesWrongFalsely : Prop := evenoddBytesRow.holds Tryd.pinned (OpenSpec.ofChange evenoddBytesWrong)

/- THE SECOND FORM. 'bulk': how many values and letters a reading holds, each counted each time it is reached (what is shared counts as often as it is met; a slice's spare places count too). A statement '..UptoSaid' is the law's where the arguments, and the package variables that the reading takes, are together of bulk at most 1048576: NARROWER than '..Said'. Prove '..Said' where nothing that the law and all that it calls make is longer than what came in: it says more and counts as full. Else prove '..UptoSaid'. A law counts once. -/
mutual
def uptoBulk {H : Type} : DataW H → Nat
  | .lit (.string bytes) => bytes.length + 1
  | .lit _ => 1
  | .nil => 1
  | .ptr d => uptoBulk d + 1
  | .slice elems spare => uptoBulkAll elems + uptoBulkAll spare + 1
  | .agg parts => uptoBulkAll parts + 1
  | .iface _ d => uptoBulk d + 1
  | .map entries => uptoBulkEntries entries + 1
  | .held _ => 1
def uptoBulkAll {H : Type} : List (DataW H) → Nat
  | [] => 0
  | d :: r => uptoBulk d + uptoBulkAll r
def uptoBulkEntries {H : Type} : List (Lit × DataW H) → Nat
  | [] => 0
  | x :: r => uptoBulkEntry x + uptoBulkEntries r
def uptoBulkEntry {H : Type} : Lit × DataW H → Nat
  | (.string bytes, d) => bytes.length + uptoBulk d + 1
  | (_, d) => uptoBulk d + 1
 end
def uptoSmall : (H : Type) → List (DataW H) → Bool := fun _ ds => decide (uptoBulkAll ds ≤ 1048576)
def OpenSpec.upto (s : _root_.Go.ChangeSpec) : _root_.Go.OpenSpec := { _root_.Go.OpenSpec.ofChange s with cond := some uptoSmall }

/-- 'palisadelaw06.EvenoddTurns', WHERE WHAT IT READS IS OF BULK AT MOST 1048576: true; the input reads as it did. -/
def evenoddTurnsUptoRow : OpenClaim := { program := "ytcbkdbnpcpgadaadoor", sum := "33539eeac0db8d9604204c234d61e59aee4a0b85a4625344c6ec9f4cd23259a9", func := "palisade/palisadelaw06.EvenoddTurns", spec := "evenoddTurns", unfollowed := true, recurses := true, named := ["palisade/shape.kinds", "palisade/mod.primes"], apart := false, laid := [("palisade/mod.primes", laid_palisade_mod_primes), ("palisade/shape.kinds", laid_palisade_shape_kinds)], narrowed := true }
def EvenoddTurnsUptoSaid : Prop := evenoddTurnsUptoRow.holds Tryd.pinned (OpenSpec.upto evenoddTurnsSpec)

/-- 'palisadelaw06.EvenoddBytes', WHERE WHAT IT READS IS OF BULK AT MOST 1048576: true; the input reads as it did. -/
def evenoddBytesUptoRow : OpenClaim := { program := "ytcbkdbnpcpgadaadoor", sum := "33539eeac0db8d9604204c234d61e59aee4a0b85a4625344c6ec9f4cd23259a9", func := "palisade/palisadelaw06.EvenoddBytes", spec := "evenoddBytes", unfollowed := true, recurses := true, named := ["palisade/shape.kinds", "palisade/mod.primes"], apart := false, laid := [("palisade/mod.primes", laid_palisade_mod_primes), ("palisade/shape.kinds", laid_palisade_shape_kinds)], narrowed := true }
def EvenoddBytesUptoSaid : Prop := evenoddBytesUptoRow.holds Tryd.pinned (OpenSpec.upto evenoddBytesSpec)

end Rows
end Go.Proofs.YtcbkdbnpcpgadaaDoor
