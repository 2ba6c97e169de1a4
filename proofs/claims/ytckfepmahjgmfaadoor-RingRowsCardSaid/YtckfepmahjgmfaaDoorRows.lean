/-
  NARROWER THAN 'FOR EVERY INPUT', by the rows' own cells (each row's printed sentence says how): RingTurns: laid · RingSlackens: laid · RingSums: laid · RingRows: laid · RingHolds: laid · RingNoughts: laid.
  DERIVED. THE GIVEN ROWS OF THIS SEAT. 6 by the template 'for every input the law returns true; each argument reads behind the call as it read before'; 0 by the template 'total and deterministic' (their statements: YtckfepmahjgmfaaDoorTotals.lean).
  GIVEN WITH THE SEED: the statements are not yours to turn. If you find one false, say at which input.
  Laid BY PROGRAM, IN A SANDBOX (cutbox-rows.mjs): the forced cells as the released guide's own fill.sh prints them over the translation ed495d8ec0caa3d0… (all of the seat's roots in one cut). By AI agents, Wed Nov 11 2026. No macro, syntax, notation, axiom, sorry.
-/
import Derived.Test.YtckfepmahjgmfaaDoorChecked
import GoSem.Claim
import GoSem.ClaimJoined
import GoSem.ClaimMapViews
import Derived.JoinedTies
import Derived.KernelRfl
namespace Go.Proofs.YtckfepmahjgmfaaDoor
/- THE CELL 'sum', in the pinned program and in every row, IS THE sha256 OF THE DUMP (.gsa) THAT YtckfepmahjgmfaaDoorProg.lean LOADS. Nothing in Lean hashes anything: it is a label: what it is worth is what the hold of that sum in a sandbox is worth. -/
noncomputable def Tryd.pinned : Pinned := { name := "ytckfepmahjgmfaadoor", sum := "ed495d8ec0caa3d04d8c42ee063572512b62e4fae1c707acee4f23c26caa6c38", checked := Tryd.checked }
namespace Rows
def none {H : Type} : Left H := { results := [], args := [] }

/- WHAT THE LISTED PACKAGE-LEVEL VARIABLES READ AS WHEN THE CALL BEGINS. Each datum BY PROGRAM (the guide's laid-datum.mjs) off the statement by which the dump's own 'gosem.cut.vars' lays the variable. In a bare row this is a premise. The card (YtckfepmahjgmfaaDoorCards.lean) ties it to the program's text. -/
def laid_palisade_mod_primes {H : Type} : DataW H := .agg [.lit (.int .i64 3), .lit (.int .i64 5), .lit (.int .i64 7), .lit (.int .i64 11), .lit (.int .i64 13), .lit (.int .i64 17)]
def laid_palisade_shape_kinds {H : Type} : DataW H := .agg [.agg [.lit (.int .i64 0), .lit (.int .i64 0)], .agg [.lit (.int .i64 0), .lit (.int .i64 2)], .agg [.lit (.int .i64 1), .lit (.int .i64 2)], .agg [.lit (.int .i64 0), .lit (.int .i64 3)]]

/-- 'palisadelaw10.RingTurns': WHATEVER THE INPUT: true; the input reads as it did. -/
def ringTurnsSpec : ChangeSpec := { name := "ringTurns", fn := fun _ => fun
  | [d1, d2, d3] => { results := [.lit (.bool true)], args := [d1, d2, d3] }
  | _ => none }
def ringTurnsRow : OpenClaim := { program := "ytckfepmahjgmfaadoor", sum := "ed495d8ec0caa3d04d8c42ee063572512b62e4fae1c707acee4f23c26caa6c38", func := "palisade/palisadelaw10.RingTurns", spec := "ringTurns", unfollowed := true, recurses := true, named := ["palisade/shape.kinds", "palisade/mod.primes"], apart := false, laid := [("palisade/mod.primes", laid_palisade_mod_primes), ("palisade/shape.kinds", laid_palisade_shape_kinds)] }
def RingTurnsSaid : Prop := ringTurnsRow.holds Tryd.pinned (OpenSpec.ofChange ringTurnsSpec)

/-- ITS FALSE NEIGHBOUR: 'it returns false'. Refute it at one input. -/
def ringTurnsWrong : ChangeSpec := { name := "ringTurns", fn := fun _ => fun
  | [d1, d2, d3] => { results := [.lit (.bool false)], args := [d1, d2, d3] }
  | _ => none }
def RingTurnsWrongFalsely : Prop := ringTurnsRow.holds Tryd.pinned (OpenSpec.ofChange ringTurnsWrong)

/-- 'palisadelaw10.RingSlackens': WHATEVER THE INPUT: true; the input reads as it did. -/
def ringSlackensSpec : ChangeSpec := { name := "ringSlackens", fn := fun _ => fun
  | [d1, d2, d3] => { results := [.lit (.bool true)], args := [d1, d2, d3] }
  | _ => none }
def ringSlackensRow : OpenClaim := { program := "ytckfepmahjgmfaadoor", sum := "ed495d8ec0caa3d04d8c42ee063572512b62e4fae1c707acee4f23c26caa6c38", func := "palisade/palisadelaw10.RingSlackens", spec := "ringSlackens", unfollowed := true, recurses := true, named := ["palisade/shape.kinds", "palisade/mod.primes"], apart := false, laid := [("palisade/mod.primes", laid_palisade_mod_primes), ("palisade/shape.kinds", laid_palisade_shape_kinds)] }
def RingSlackensSaid : Prop := ringSlackensRow.holds Tryd.pinned (OpenSpec.ofChange ringSlackensSpec)

/-- ITS FALSE NEIGHBOUR: 'it returns false'. Refute it at one input. -/
def ringSlackensWrong : ChangeSpec := { name := "ringSlackens", fn := fun _ => fun
  | [d1, d2, d3] => { results := [.lit (.bool false)], args := [d1, d2, d3] }
  | _ => none }
def RingSlackensWrongFalsely : Prop := ringSlackensRow.holds Tryd.pinned (OpenSpec.ofChange ringSlackensWrong)

/-- 'palisadelaw10.RingSums': WHATEVER THE INPUT: true; the input reads as it did. -/
def ringSumsSpec : ChangeSpec := { name := "ringSums", fn := fun _ => fun
  | [d1, d2] => { results := [.lit (.bool true)], args := [d1, d2] }
  | _ => none }
def ringSumsRow : OpenClaim := { program := "ytckfepmahjgmfaadoor", sum := "ed495d8ec0caa3d04d8c42ee063572512b62e4fae1c707acee4f23c26caa6c38", func := "palisade/palisadelaw10.RingSums", spec := "ringSums", unfollowed := true, recurses := true, named := ["palisade/shape.kinds", "palisade/mod.primes"], apart := false, laid := [("palisade/mod.primes", laid_palisade_mod_primes), ("palisade/shape.kinds", laid_palisade_shape_kinds)] }
def RingSumsSaid : Prop := ringSumsRow.holds Tryd.pinned (OpenSpec.ofChange ringSumsSpec)

/-- ITS FALSE NEIGHBOUR: 'it returns false'. Refute it at one input. -/
def ringSumsWrong : ChangeSpec := { name := "ringSums", fn := fun _ => fun
  | [d1, d2] => { results := [.lit (.bool false)], args := [d1, d2] }
  | _ => none }
def RingSumsWrongFalsely : Prop := ringSumsRow.holds Tryd.pinned (OpenSpec.ofChange ringSumsWrong)

/-- 'palisadelaw10.RingRows': WHATEVER THE INPUT: true; the input reads as it did. -/
def ringRowsSpec : ChangeSpec := { name := "ringRows", fn := fun _ => fun
  | [d1, d2, d3] => { results := [.lit (.bool true)], args := [d1, d2, d3] }
  | _ => none }
def ringRowsRow : OpenClaim := { program := "ytckfepmahjgmfaadoor", sum := "ed495d8ec0caa3d04d8c42ee063572512b62e4fae1c707acee4f23c26caa6c38", func := "palisade/palisadelaw10.RingRows", spec := "ringRows", unfollowed := true, recurses := true, named := ["palisade/mod.primes", "palisade/shape.kinds"], apart := false, laid := [("palisade/mod.primes", laid_palisade_mod_primes), ("palisade/shape.kinds", laid_palisade_shape_kinds)] }
def RingRowsSaid : Prop := ringRowsRow.holds Tryd.pinned (OpenSpec.ofChange ringRowsSpec)

/-- ITS FALSE NEIGHBOUR: 'it returns false'. Refute it at one input. -/
def ringRowsWrong : ChangeSpec := { name := "ringRows", fn := fun _ => fun
  | [d1, d2, d3] => { results := [.lit (.bool false)], args := [d1, d2, d3] }
  | _ => none }
def RingRowsWrongFalsely : Prop := ringRowsRow.holds Tryd.pinned (OpenSpec.ofChange ringRowsWrong)

/-- 'palisadelaw10.RingHolds': WHATEVER THE INPUT: true; the input reads as it did. -/
def ringHoldsSpec : ChangeSpec := { name := "ringHolds", fn := fun _ => fun
  | [d1, d2, d3, d4, d5] => { results := [.lit (.bool true)], args := [d1, d2, d3, d4, d5] }
  | _ => none }
def ringHoldsRow : OpenClaim := { program := "ytckfepmahjgmfaadoor", sum := "ed495d8ec0caa3d04d8c42ee063572512b62e4fae1c707acee4f23c26caa6c38", func := "palisade/palisadelaw10.RingHolds", spec := "ringHolds", unfollowed := true, recurses := true, named := ["palisade/shape.kinds", "palisade/mod.primes"], apart := false, laid := [("palisade/mod.primes", laid_palisade_mod_primes), ("palisade/shape.kinds", laid_palisade_shape_kinds)] }
def RingHoldsSaid : Prop := ringHoldsRow.holds Tryd.pinned (OpenSpec.ofChange ringHoldsSpec)

/-- ITS FALSE NEIGHBOUR: 'it returns false'. Refute it at one input. -/
def ringHoldsWrong : ChangeSpec := { name := "ringHolds", fn := fun _ => fun
  | [d1, d2, d3, d4, d5] => { results := [.lit (.bool false)], args := [d1, d2, d3, d4, d5] }
  | _ => none }
def RingHoldsWrongFalsely : Prop := ringHoldsRow.holds Tryd.pinned (OpenSpec.ofChange ringHoldsWrong)

/-- 'palisadelaw10.RingNoughts': WHATEVER THE INPUT: true; the input reads as it did. -/
def ringNoughtsSpec : ChangeSpec := { name := "ringNoughts", fn := fun _ => fun
  | [d1, d2, d3, d4] => { results := [.lit (.bool true)], args := [d1, d2, d3, d4] }
  | _ => none }
def ringNoughtsRow : OpenClaim := { program := "ytckfepmahjgmfaadoor", sum := "ed495d8ec0caa3d04d8c42ee063572512b62e4fae1c707acee4f23c26caa6c38", func := "palisade/palisadelaw10.RingNoughts", spec := "ringNoughts", unfollowed := true, recurses := true, named := ["palisade/shape.kinds", "palisade/mod.primes"], apart := false, laid := [("palisade/mod.primes", laid_palisade_mod_primes), ("palisade/shape.kinds", laid_palisade_shape_kinds)] }
def RingNoughtsSaid : Prop := ringNoughtsRow.holds Tryd.pinned (OpenSpec.ofChange ringNoughtsSpec)

/-- ITS FALSE NEIGHBOUR: 'it returns false'. Refute it at one input. -/
def ringNoughtsWrong : ChangeSpec := { name := "ringNoughts", fn := fun _ => fun
  | [d1, d2, d3, d4] => { results := [.lit (.bool false)], args := [d1, d2, d3, d4] }
  | _ => none }
def RingNoughtsWrongFalsely : Prop := ringNoughtsRow.holds Tryd.pinned (OpenSpec.ofChange ringNoughtsWrong)

/- THE SECOND FORM. 'bulk': how many values and letters a reading holds, each counted each time it is reached (what is shared counts as often as it is met; a slice's spare places count too). A statement '..UptoSaid' is the law's where the arguments, and the package variables that the reading takes, are together of bulk at most 1048576: NARROWER than '..Said'. Prove '..Said' where nothing that the law and all that it calls make is longer than what came in: it says more and counts as full. Else prove '..UptoSaid'. A law counts once. -/
mutual
def uptoBulk {H : Type} : DataW H → Nat
  | .lit (.string bytes) => bytes.length + 1
  | .lit _ => 1
  | .nil => 1
  | .ptr d => uptoBulk d + 1
  | .slice elems spare => uptoBulkAll elems + uptoBulkAll spare + 1
  | .agg parts => uptoBulkAll parts + 1
  | .iface _ d => uptoBulk d + 1
  | .map entries => uptoBulkEntries entries + 1
  | .held _ => 1
def uptoBulkAll {H : Type} : List (DataW H) → Nat
  | [] => 0
  | d :: r => uptoBulk d + uptoBulkAll r
def uptoBulkEntries {H : Type} : List (Lit × DataW H) → Nat
  | [] => 0
  | x :: r => uptoBulkEntry x + uptoBulkEntries r
def uptoBulkEntry {H : Type} : Lit × DataW H → Nat
  | (.string bytes, d) => bytes.length + uptoBulk d + 1
  | (_, d) => uptoBulk d + 1
 end
def uptoSmall : (H : Type) → List (DataW H) → Bool := fun _ ds => decide (uptoBulkAll ds ≤ 1048576)
def OpenSpec.upto (s : _root_.Go.ChangeSpec) : _root_.Go.OpenSpec := { _root_.Go.OpenSpec.ofChange s with cond := some uptoSmall }

/-- 'palisadelaw10.RingTurns', WHERE WHAT IT READS IS OF BULK AT MOST 1048576: true; the input reads as it did. -/
def ringTurnsUptoRow : OpenClaim := { program := "ytckfepmahjgmfaadoor", sum := "ed495d8ec0caa3d04d8c42ee063572512b62e4fae1c707acee4f23c26caa6c38", func := "palisade/palisadelaw10.RingTurns", spec := "ringTurns", unfollowed := true, recurses := true, named := ["palisade/shape.kinds", "palisade/mod.primes"], apart := false, laid := [("palisade/mod.primes", laid_palisade_mod_primes), ("palisade/shape.kinds", laid_palisade_shape_kinds)], narrowed := true }
def RingTurnsUptoSaid : Prop := ringTurnsUptoRow.holds Tryd.pinned (OpenSpec.upto ringTurnsSpec)

/-- 'palisadelaw10.RingSlackens', WHERE WHAT IT READS IS OF BULK AT MOST 1048576: true; the input reads as it did. -/
def ringSlackensUptoRow : OpenClaim := { program := "ytckfepmahjgmfaadoor", sum := "ed495d8ec0caa3d04d8c42ee063572512b62e4fae1c707acee4f23c26caa6c38", func := "palisade/palisadelaw10.RingSlackens", spec := "ringSlackens", unfollowed := true, recurses := true, named := ["palisade/shape.kinds", "palisade/mod.primes"], apart := false, laid := [("palisade/mod.primes", laid_palisade_mod_primes), ("palisade/shape.kinds", laid_palisade_shape_kinds)], narrowed := true }
def RingSlackensUptoSaid : Prop := ringSlackensUptoRow.holds Tryd.pinned (OpenSpec.upto ringSlackensSpec)

/-- 'palisadelaw10.RingSums', WHERE WHAT IT READS IS OF BULK AT MOST 1048576: true; the input reads as it did. -/
def ringSumsUptoRow : OpenClaim := { program := "ytckfepmahjgmfaadoor", sum := "ed495d8ec0caa3d04d8c42ee063572512b62e4fae1c707acee4f23c26caa6c38", func := "palisade/palisadelaw10.RingSums", spec := "ringSums", unfollowed := true, recurses := true, named := ["palisade/shape.kinds", "palisade/mod.primes"], apart := false, laid := [("palisade/mod.primes", laid_palisade_mod_primes), ("palisade/shape.kinds", laid_palisade_shape_kinds)], narrowed := true }
def RingSumsUptoSaid : Prop := ringSumsUptoRow.holds Tryd.pinned (OpenSpec.upto ringSumsSpec)

/-- 'palisadelaw10.RingRows', WHERE WHAT IT READS IS OF BULK AT MOST 1048576: true; the input reads as it did. -/
def ringRowsUptoRow : OpenClaim := { program := "ytckfepmahjgmfaadoor", sum := "ed495d8ec0caa3d04d8c42ee063572512b62e4fae1c707acee4f23c26caa6c38", func := "palisade/palisadelaw10.RingRows", spec := "ringRows", unfollowed := true, recurses := true, named := ["palisade/mod.primes", "palisade/shape.kinds"], apart := false, laid := [("palisade/mod.primes", laid_palisade_mod_primes), ("palisade/shape.kinds", laid_palisade_shape_kinds)], narrowed := true }
def RingRowsUptoSaid : Prop := ringRowsUptoRow.holds Tryd.pinned (OpenSpec.upto ringRowsSpec)

/-- 'palisadelaw10.RingHolds', WHERE WHAT IT READS IS OF BULK AT MOST 1048576: true; the input reads as it did. -/
def ringHoldsUptoRow : OpenClaim := { program := "ytckfepmahjgmfaadoor", sum := "ed495d8ec0caa3d04d8c42ee063572512b62e4fae1c707acee4f23c26caa6c38", func := "palisade/palisadelaw10.RingHolds", spec := "ringHolds", unfollowed := true, recurses := true, named := ["palisade/shape.kinds", "palisade/mod.primes"], apart := false, laid := [("palisade/mod.primes", laid_palisade_mod_primes), ("palisade/shape.kinds", laid_palisade_shape_kinds)], narrowed := true }
def RingHoldsUptoSaid : Prop := ringHoldsUptoRow.holds Tryd.pinned (OpenSpec.upto ringHoldsSpec)

/-- 'palisadelaw10.RingNoughts', WHERE WHAT IT READS IS OF BULK AT MOST 1048576: true; the input reads as it did. -/
def ringNoughtsUptoRow : OpenClaim := { program := "ytckfepmahjgmfaadoor", sum := "ed495d8ec0caa3d04d8c42ee063572512b62e4fae1c707acee4f23c26caa6c38", func := "palisade/palisadelaw10.RingNoughts", spec := "ringNoughts", unfollowed := true, recurses := true, named := ["palisade/shape.kinds", "palisade/mod.primes"], apart := false, laid := [("palisade/mod.primes", laid_palisade_mod_primes), ("palisade/shape.kinds", laid_palisade_shape_kinds)], narrowed := true }
def RingNoughtsUptoSaid : Prop := ringNoughtsUptoRow.holds Tryd.pinned (OpenSpec.upto ringNoughtsSpec)

end Rows
end Go.Proofs.YtckfepmahjgmfaaDoor
