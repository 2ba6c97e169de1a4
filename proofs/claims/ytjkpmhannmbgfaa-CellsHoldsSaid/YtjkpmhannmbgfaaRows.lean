/-
  No cell of these rows narrows 'for every input' (looked for: loops, veiled, ifaces, maps, wideKeys, modest, calm, conditions, laid).
  DERIVED. THE GIVEN ROWS OF THIS SEAT. 7 by the template 'for every input the law returns true; each argument reads behind the call as it read before'; 0 by the template 'total and deterministic' (their statements: YtjkpmhannmbgfaaTotals.lean).
  GIVEN WITH THE SEED: the statements are not yours to turn. If you find one false, say at which input.
  Laid BY PROGRAM, IN A SANDBOX (cutbox-rows.mjs): the forced cells as the released guide's own fill.sh prints them over the translation fe81b85caa093334… (all of the seat's roots in one cut). By AI agents, Wed Nov 11 2026. No macro, syntax, notation, axiom, sorry.
-/
import Derived.Test.YtjkpmhannmbgfaaChecked
import GoSem.Claim
import GoSem.ClaimJoined
import GoSem.ClaimMapViews
import Derived.JoinedTies
import Derived.KernelRfl
namespace Go.Proofs.Ytjkpmhannmbgfaa
/- THE CELL 'sum', in the pinned program and in every row, IS THE sha256 OF THE DUMP (.gsa) THAT YtjkpmhannmbgfaaProg.lean LOADS. Nothing in Lean hashes anything: it is a label: what it is worth is what the hold of that sum in a sandbox is worth. -/
noncomputable def Try.pinned : Pinned := { name := "ytjkpmhannmbgfaa", sum := "fe81b85caa0933349105bd8565d8bd7f35680e8ba6de41dc35678eb925701f2f", checked := Try.checked }
namespace Rows
def none {H : Type} : Left H := { results := [], args := [] }

/-- 'palisadelaw02.CellsXors': WHATEVER THE INPUT: true; the input reads as it did. -/
def cellsXorsSpec : ChangeSpec := { name := "cellsXors", fn := fun _ => fun
  | [d] => { results := [.lit (.bool true)], args := [d] }
  | _ => none }
def cellsXorsRow : OpenClaim := { program := "ytjkpmhannmbgfaa", sum := "fe81b85caa0933349105bd8565d8bd7f35680e8ba6de41dc35678eb925701f2f", func := "palisade/palisadelaw02.CellsXors", spec := "cellsXors", unfollowed := true, recurses := true, apart := false }
def CellsXorsSaid : Prop := cellsXorsRow.holds Try.pinned (OpenSpec.ofChange cellsXorsSpec)

/-- ITS FALSE NEIGHBOUR: 'it returns false'. Refute it at one input. -/
def cellsXorsWrong : ChangeSpec := { name := "cellsXors", fn := fun _ => fun
  | [d] => { results := [.lit (.bool false)], args := [d] }
  | _ => none }
def CellsXorsWrongFalsely : Prop := cellsXorsRow.holds Try.pinned (OpenSpec.ofChange cellsXorsWrong)

/-- 'palisadelaw02.CellsAsks': WHATEVER THE INPUT: true; the input reads as it did. -/
def cellsAsksSpec : ChangeSpec := { name := "cellsAsks", fn := fun _ => fun
  | [d1, d2, d3] => { results := [.lit (.bool true)], args := [d1, d2, d3] }
  | _ => none }
def cellsAsksRow : OpenClaim := { program := "ytjkpmhannmbgfaa", sum := "fe81b85caa0933349105bd8565d8bd7f35680e8ba6de41dc35678eb925701f2f", func := "palisade/palisadelaw02.CellsAsks", spec := "cellsAsks", unfollowed := true, recurses := true, apart := false }
def CellsAsksSaid : Prop := cellsAsksRow.holds Try.pinned (OpenSpec.ofChange cellsAsksSpec)

/-- ITS FALSE NEIGHBOUR: 'it returns false'. Refute it at one input. -/
def cellsAsksWrong : ChangeSpec := { name := "cellsAsks", fn := fun _ => fun
  | [d1, d2, d3] => { results := [.lit (.bool false)], args := [d1, d2, d3] }
  | _ => none }
def CellsAsksWrongFalsely : Prop := cellsAsksRow.holds Try.pinned (OpenSpec.ofChange cellsAsksWrong)

/-- 'palisadelaw02.CellsCuts': WHATEVER THE INPUT: true; the input reads as it did. -/
def cellsCutsSpec : ChangeSpec := { name := "cellsCuts", fn := fun _ => fun
  | [d1, d2] => { results := [.lit (.bool true)], args := [d1, d2] }
  | _ => none }
def cellsCutsRow : OpenClaim := { program := "ytjkpmhannmbgfaa", sum := "fe81b85caa0933349105bd8565d8bd7f35680e8ba6de41dc35678eb925701f2f", func := "palisade/palisadelaw02.CellsCuts", spec := "cellsCuts", unfollowed := true, recurses := true, apart := false }
def CellsCutsSaid : Prop := cellsCutsRow.holds Try.pinned (OpenSpec.ofChange cellsCutsSpec)

/-- ITS FALSE NEIGHBOUR: 'it returns false'. Refute it at one input. -/
def cellsCutsWrong : ChangeSpec := { name := "cellsCuts", fn := fun _ => fun
  | [d1, d2] => { results := [.lit (.bool false)], args := [d1, d2] }
  | _ => none }
def CellsCutsWrongFalsely : Prop := cellsCutsRow.holds Try.pinned (OpenSpec.ofChange cellsCutsWrong)

/-- 'palisadelaw02.CellsGlues': WHATEVER THE INPUT: true; the input reads as it did. -/
def cellsGluesSpec : ChangeSpec := { name := "cellsGlues", fn := fun _ => fun
  | [d1, d2, d3] => { results := [.lit (.bool true)], args := [d1, d2, d3] }
  | _ => none }
def cellsGluesRow : OpenClaim := { program := "ytjkpmhannmbgfaa", sum := "fe81b85caa0933349105bd8565d8bd7f35680e8ba6de41dc35678eb925701f2f", func := "palisade/palisadelaw02.CellsGlues", spec := "cellsGlues", unfollowed := true, recurses := true, apart := false }
def CellsGluesSaid : Prop := cellsGluesRow.holds Try.pinned (OpenSpec.ofChange cellsGluesSpec)

/-- ITS FALSE NEIGHBOUR: 'it returns false'. Refute it at one input. -/
def cellsGluesWrong : ChangeSpec := { name := "cellsGlues", fn := fun _ => fun
  | [d1, d2, d3] => { results := [.lit (.bool false)], args := [d1, d2, d3] }
  | _ => none }
def CellsGluesWrongFalsely : Prop := cellsGluesRow.holds Try.pinned (OpenSpec.ofChange cellsGluesWrong)

/-- 'palisadelaw02.CellsHolds': WHATEVER THE INPUT: true; the input reads as it did. -/
def cellsHoldsSpec : ChangeSpec := { name := "cellsHolds", fn := fun _ => fun
  | [d1, d2, d3] => { results := [.lit (.bool true)], args := [d1, d2, d3] }
  | _ => none }
def cellsHoldsRow : OpenClaim := { program := "ytjkpmhannmbgfaa", sum := "fe81b85caa0933349105bd8565d8bd7f35680e8ba6de41dc35678eb925701f2f", func := "palisade/palisadelaw02.CellsHolds", spec := "cellsHolds", unfollowed := true, recurses := true, apart := false }
def CellsHoldsSaid : Prop := cellsHoldsRow.holds Try.pinned (OpenSpec.ofChange cellsHoldsSpec)

/-- ITS FALSE NEIGHBOUR: 'it returns false'. Refute it at one input. -/
def cellsHoldsWrong : ChangeSpec := { name := "cellsHolds", fn := fun _ => fun
  | [d1, d2, d3] => { results := [.lit (.bool false)], args := [d1, d2, d3] }
  | _ => none }
def CellsHoldsWrongFalsely : Prop := cellsHoldsRow.holds Try.pinned (OpenSpec.ofChange cellsHoldsWrong)

/-- 'palisadelaw02.CellsNoughts': WHATEVER THE INPUT: true; the input reads as it did. -/
def cellsNoughtsSpec : ChangeSpec := { name := "cellsNoughts", fn := fun _ => fun
  | [d] => { results := [.lit (.bool true)], args := [d] }
  | _ => none }
def cellsNoughtsRow : OpenClaim := { program := "ytjkpmhannmbgfaa", sum := "fe81b85caa0933349105bd8565d8bd7f35680e8ba6de41dc35678eb925701f2f", func := "palisade/palisadelaw02.CellsNoughts", spec := "cellsNoughts", unfollowed := true, recurses := true, apart := false }
def CellsNoughtsSaid : Prop := cellsNoughtsRow.holds Try.pinned (OpenSpec.ofChange cellsNoughtsSpec)

/-- ITS FALSE NEIGHBOUR: 'it returns false'. Refute it at one input. -/
def cellsNoughtsWrong : ChangeSpec := { name := "cellsNoughts", fn := fun _ => fun
  | [d] => { results := [.lit (.bool false)], args := [d] }
  | _ => none }
def CellsNoughtsWrongFalsely : Prop := cellsNoughtsRow.holds Try.pinned (OpenSpec.ofChange cellsNoughtsWrong)

/-- 'palisadelaw02.CellsRows': WHATEVER THE INPUT: true; the input reads as it did. -/
def cellsRowsSpec : ChangeSpec := { name := "cellsRows", fn := fun _ => fun
  | [d1, d2, d3] => { results := [.lit (.bool true)], args := [d1, d2, d3] }
  | _ => none }
def cellsRowsRow : OpenClaim := { program := "ytjkpmhannmbgfaa", sum := "fe81b85caa0933349105bd8565d8bd7f35680e8ba6de41dc35678eb925701f2f", func := "palisade/palisadelaw02.CellsRows", spec := "cellsRows", unfollowed := true, recurses := true, apart := false }
def CellsRowsSaid : Prop := cellsRowsRow.holds Try.pinned (OpenSpec.ofChange cellsRowsSpec)

/-- ITS FALSE NEIGHBOUR: 'it returns false'. Refute it at one input. -/
def cellsRowsWrong : ChangeSpec := { name := "cellsRows", fn := fun _ => fun
  | [d1, d2, d3] => { results := [.lit (.bool false)], args := [d1, d2, d3] }
  | _ => none }
def CellsRowsWrongFalsely : Prop := cellsRowsRow.holds Try.pinned (OpenSpec.ofChange cellsRowsWrong)

/- THE SECOND FORM. 'bulk': how many values and letters a reading holds, each counted each time it is reached (what is shared counts as often as it is met; a slice's spare places count too). A statement '..UptoSaid' is the law's where the arguments, and the package variables that the reading takes, are together of bulk at most 1048576: NARROWER than '..Said'. Prove '..Said' where nothing that the law and all that it calls make is longer than what came in: it says more and counts as full. Else prove '..UptoSaid'. A law counts once. -/
mutual
def uptoBulk {H : Type} : DataW H → Nat
  | .lit (.string bytes) => bytes.length + 1
  | .lit _ => 1
  | .nil => 1
  | .ptr d => uptoBulk d + 1
  | .slice elems spare => uptoBulkAll elems + uptoBulkAll spare + 1
  | .agg parts => uptoBulkAll parts + 1
  | .iface _ d => uptoBulk d + 1
  | .map entries => uptoBulkEntries entries + 1
  | .held _ => 1
def uptoBulkAll {H : Type} : List (DataW H) → Nat
  | [] => 0
  | d :: r => uptoBulk d + uptoBulkAll r
def uptoBulkEntries {H : Type} : List (Lit × DataW H) → Nat
  | [] => 0
  | x :: r => uptoBulkEntry x + uptoBulkEntries r
def uptoBulkEntry {H : Type} : Lit × DataW H → Nat
  | (.string bytes, d) => bytes.length + uptoBulk d + 1
  | (_, d) => uptoBulk d + 1
 end
def uptoSmall : (H : Type) → List (DataW H) → Bool := fun _ ds => decide (uptoBulkAll ds ≤ 1048576)
def OpenSpec.upto (s : _root_.Go.ChangeSpec) : _root_.Go.OpenSpec := { _root_.Go.OpenSpec.ofChange s with cond := some uptoSmall }

/-- 'palisadelaw02.CellsXors', WHERE WHAT IT READS IS OF BULK AT MOST 1048576: true; the input reads as it did. -/
def cellsXorsUptoRow : OpenClaim := { program := "ytjkpmhannmbgfaa", sum := "fe81b85caa0933349105bd8565d8bd7f35680e8ba6de41dc35678eb925701f2f", func := "palisade/palisadelaw02.CellsXors", spec := "cellsXors", unfollowed := true, recurses := true, apart := false, narrowed := true }
def CellsXorsUptoSaid : Prop := cellsXorsUptoRow.holds Try.pinned (OpenSpec.upto cellsXorsSpec)

/-- 'palisadelaw02.CellsAsks', WHERE WHAT IT READS IS OF BULK AT MOST 1048576: true; the input reads as it did. -/
def cellsAsksUptoRow : OpenClaim := { program := "ytjkpmhannmbgfaa", sum := "fe81b85caa0933349105bd8565d8bd7f35680e8ba6de41dc35678eb925701f2f", func := "palisade/palisadelaw02.CellsAsks", spec := "cellsAsks", unfollowed := true, recurses := true, apart := false, narrowed := true }
def CellsAsksUptoSaid : Prop := cellsAsksUptoRow.holds Try.pinned (OpenSpec.upto cellsAsksSpec)

/-- 'palisadelaw02.CellsCuts', WHERE WHAT IT READS IS OF BULK AT MOST 1048576: true; the input reads as it did. -/
def cellsCutsUptoRow : OpenClaim := { program := "ytjkpmhannmbgfaa", sum := "fe81b85caa0933349105bd8565d8bd7f35680e8ba6de41dc35678eb925701f2f", func := "palisade/palisadelaw02.CellsCuts", spec := "cellsCuts", unfollowed := true, recurses := true, apart := false, narrowed := true }
def CellsCutsUptoSaid : Prop := cellsCutsUptoRow.holds Try.pinned (OpenSpec.upto cellsCutsSpec)

/-- 'palisadelaw02.CellsGlues', WHERE WHAT IT READS IS OF BULK AT MOST 1048576: true; the input reads as it did. -/
def cellsGluesUptoRow : OpenClaim := { program := "ytjkpmhannmbgfaa", sum := "fe81b85caa0933349105bd8565d8bd7f35680e8ba6de41dc35678eb925701f2f", func := "palisade/palisadelaw02.CellsGlues", spec := "cellsGlues", unfollowed := true, recurses := true, apart := false, narrowed := true }
def CellsGluesUptoSaid : Prop := cellsGluesUptoRow.holds Try.pinned (OpenSpec.upto cellsGluesSpec)

/-- 'palisadelaw02.CellsHolds', WHERE WHAT IT READS IS OF BULK AT MOST 1048576: true; the input reads as it did. -/
def cellsHoldsUptoRow : OpenClaim := { program := "ytjkpmhannmbgfaa", sum := "fe81b85caa0933349105bd8565d8bd7f35680e8ba6de41dc35678eb925701f2f", func := "palisade/palisadelaw02.CellsHolds", spec := "cellsHolds", unfollowed := true, recurses := true, apart := false, narrowed := true }
def CellsHoldsUptoSaid : Prop := cellsHoldsUptoRow.holds Try.pinned (OpenSpec.upto cellsHoldsSpec)

/-- 'palisadelaw02.CellsNoughts', WHERE WHAT IT READS IS OF BULK AT MOST 1048576: true; the input reads as it did. -/
def cellsNoughtsUptoRow : OpenClaim := { program := "ytjkpmhannmbgfaa", sum := "fe81b85caa0933349105bd8565d8bd7f35680e8ba6de41dc35678eb925701f2f", func := "palisade/palisadelaw02.CellsNoughts", spec := "cellsNoughts", unfollowed := true, recurses := true, apart := false, narrowed := true }
def CellsNoughtsUptoSaid : Prop := cellsNoughtsUptoRow.holds Try.pinned (OpenSpec.upto cellsNoughtsSpec)

/-- 'palisadelaw02.CellsRows', WHERE WHAT IT READS IS OF BULK AT MOST 1048576: true; the input reads as it did. -/
def cellsRowsUptoRow : OpenClaim := { program := "ytjkpmhannmbgfaa", sum := "fe81b85caa0933349105bd8565d8bd7f35680e8ba6de41dc35678eb925701f2f", func := "palisade/palisadelaw02.CellsRows", spec := "cellsRows", unfollowed := true, recurses := true, apart := false, narrowed := true }
def CellsRowsUptoSaid : Prop := cellsRowsUptoRow.holds Try.pinned (OpenSpec.upto cellsRowsSpec)

end Rows
end Go.Proofs.Ytjkpmhannmbgfaa
