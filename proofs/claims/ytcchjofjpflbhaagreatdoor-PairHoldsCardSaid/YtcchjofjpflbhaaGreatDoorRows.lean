/-
  NARROWER THAN 'FOR EVERY INPUT', by the rows' own cells (each row's printed sentence says how): PairArms: laid · PairOrders: laid · PairRecovers: laid · PairRows: laid · PairHolds: laid · PairAdds: laid · TripleThrees: laid · TripleTwos: laid · TripleOnes: laid · TripleHolds: laid · TripleAdds: laid.
  DERIVED. THE GIVEN ROWS OF THIS SEAT. 11 by the template 'for every input the law returns true; each argument reads behind the call as it read before'; 0 by the template 'total and deterministic' (their statements: YtcchjofjpflbhaaGreatDoorTotals.lean).
  GIVEN WITH THE SEED: the statements are not yours to turn. If you find one false, say at which input.
  Laid BY PROGRAM, IN A SANDBOX (cutbox-rows.mjs): the forced cells as the released guide's own fill.sh prints them over the translation b029b44fa29c13c5… (all of the seat's roots in one cut). By AI agents, Wed Nov 11 2026. No macro, syntax, notation, axiom, sorry.
-/
import Derived.Test.YtcchjofjpflbhaaGreatDoorChecked
import GoSem.Claim
import GoSem.ClaimJoined
import GoSem.ClaimMapViews
import Derived.JoinedTies
import Derived.KernelRfl
namespace Go.Proofs.YtcchjofjpflbhaaGreatDoor
/- THE CELL 'sum', in the pinned program and in every row, IS THE sha256 OF THE DUMP (.gsa) THAT YtcchjofjpflbhaaGreatDoorProg.lean LOADS. Nothing in Lean hashes anything: it is a label: what it is worth is what the hold of that sum in a sandbox is worth. -/
noncomputable def Tryz.pinned : Pinned := { name := "ytcchjofjpflbhaagreatdoor", sum := "b029b44fa29c13c50ca37accaf44fcada0efdd28f806b9d467fbe34e5a88568f", checked := Tryz.checked }
namespace Rows
def none {H : Type} : Left H := { results := [], args := [] }

/- WHAT THE LISTED PACKAGE-LEVEL VARIABLES READ AS WHEN THE CALL BEGINS. Each datum BY PROGRAM (the guide's laid-datum.mjs) off the statement by which the dump's own 'gosem.cut.vars' lays the variable. In a bare row this is a premise. The card (YtcchjofjpflbhaaGreatDoorCards.lean) ties it to the program's text. -/
def laid_palisade_mod_primes {H : Type} : DataW H := .agg [.lit (.int .i64 3), .lit (.int .i64 5), .lit (.int .i64 7), .lit (.int .i64 11), .lit (.int .i64 13), .lit (.int .i64 17)]
def laid_palisade_shape_kinds {H : Type} : DataW H := .agg [.agg [.lit (.int .i64 0), .lit (.int .i64 0)], .agg [.lit (.int .i64 0), .lit (.int .i64 2)], .agg [.lit (.int .i64 1), .lit (.int .i64 2)], .agg [.lit (.int .i64 0), .lit (.int .i64 3)]]

/-- 'palisadelaw12.PairArms': WHATEVER THE INPUT: true; the input reads as it did. -/
def pairArmsSpec : ChangeSpec := { name := "pairArms", fn := fun _ => fun
  | [d1, d2, d3] => { results := [.lit (.bool true)], args := [d1, d2, d3] }
  | _ => none }
def pairArmsRow : OpenClaim := { program := "ytcchjofjpflbhaagreatdoor", sum := "b029b44fa29c13c50ca37accaf44fcada0efdd28f806b9d467fbe34e5a88568f", func := "palisade/palisadelaw12.PairArms", spec := "pairArms", unfollowed := true, recurses := true, named := ["palisade/shape.kinds", "palisade/mod.primes"], plainKeys := false, apart := false, laid := [("palisade/mod.primes", laid_palisade_mod_primes), ("palisade/shape.kinds", laid_palisade_shape_kinds)] }
def PairArmsSaid : Prop := pairArmsRow.holds Tryz.pinned (OpenSpec.ofChange pairArmsSpec)

/-- ITS FALSE NEIGHBOUR: 'it returns false'. Refute it at one input. -/
def pairArmsWrong : ChangeSpec := { name := "pairArms", fn := fun _ => fun
  | [d1, d2, d3] => { results := [.lit (.bool false)], args := [d1, d2, d3] }
  | _ => none }
def PairArmsWrongFalsely : Prop := pairArmsRow.holds Tryz.pinned (OpenSpec.ofChange pairArmsWrong)

/-- 'palisadelaw12.PairOrders': WHATEVER THE INPUT: true; the input reads as it did. -/
def pairOrdersSpec : ChangeSpec := { name := "pairOrders", fn := fun _ => fun
  | [d1, d2, d3] => { results := [.lit (.bool true)], args := [d1, d2, d3] }
  | _ => none }
def pairOrdersRow : OpenClaim := { program := "ytcchjofjpflbhaagreatdoor", sum := "b029b44fa29c13c50ca37accaf44fcada0efdd28f806b9d467fbe34e5a88568f", func := "palisade/palisadelaw12.PairOrders", spec := "pairOrders", unfollowed := true, recurses := true, named := ["palisade/shape.kinds", "palisade/mod.primes"], plainKeys := false, apart := false, laid := [("palisade/mod.primes", laid_palisade_mod_primes), ("palisade/shape.kinds", laid_palisade_shape_kinds)] }
def PairOrdersSaid : Prop := pairOrdersRow.holds Tryz.pinned (OpenSpec.ofChange pairOrdersSpec)

/-- ITS FALSE NEIGHBOUR: 'it returns false'. Refute it at one input. -/
def pairOrdersWrong : ChangeSpec := { name := "pairOrders", fn := fun _ => fun
  | [d1, d2, d3] => { results := [.lit (.bool false)], args := [d1, d2, d3] }
  | _ => none }
def PairOrdersWrongFalsely : Prop := pairOrdersRow.holds Tryz.pinned (OpenSpec.ofChange pairOrdersWrong)

/-- 'palisadelaw12.PairRecovers': WHATEVER THE INPUT: true; the input reads as it did. -/
def pairRecoversSpec : ChangeSpec := { name := "pairRecovers", fn := fun _ => fun
  | [d1, d2, d3, d4] => { results := [.lit (.bool true)], args := [d1, d2, d3, d4] }
  | _ => none }
def pairRecoversRow : OpenClaim := { program := "ytcchjofjpflbhaagreatdoor", sum := "b029b44fa29c13c50ca37accaf44fcada0efdd28f806b9d467fbe34e5a88568f", func := "palisade/palisadelaw12.PairRecovers", spec := "pairRecovers", unfollowed := true, recurses := true, named := ["palisade/shape.kinds", "palisade/mod.primes"], plainKeys := false, apart := false, laid := [("palisade/mod.primes", laid_palisade_mod_primes), ("palisade/shape.kinds", laid_palisade_shape_kinds)] }
def PairRecoversSaid : Prop := pairRecoversRow.holds Tryz.pinned (OpenSpec.ofChange pairRecoversSpec)

/-- ITS FALSE NEIGHBOUR: 'it returns false'. Refute it at one input. -/
def pairRecoversWrong : ChangeSpec := { name := "pairRecovers", fn := fun _ => fun
  | [d1, d2, d3, d4] => { results := [.lit (.bool false)], args := [d1, d2, d3, d4] }
  | _ => none }
def PairRecoversWrongFalsely : Prop := pairRecoversRow.holds Tryz.pinned (OpenSpec.ofChange pairRecoversWrong)

/-- 'palisadelaw12.PairRows': WHATEVER THE INPUT: true; the input reads as it did. -/
def pairRowsSpec : ChangeSpec := { name := "pairRows", fn := fun _ => fun
  | [d1, d2, d3] => { results := [.lit (.bool true)], args := [d1, d2, d3] }
  | _ => none }
def pairRowsRow : OpenClaim := { program := "ytcchjofjpflbhaagreatdoor", sum := "b029b44fa29c13c50ca37accaf44fcada0efdd28f806b9d467fbe34e5a88568f", func := "palisade/palisadelaw12.PairRows", spec := "pairRows", unfollowed := true, recurses := true, named := ["palisade/shape.kinds", "palisade/mod.primes"], plainKeys := false, apart := false, laid := [("palisade/mod.primes", laid_palisade_mod_primes), ("palisade/shape.kinds", laid_palisade_shape_kinds)] }
def PairRowsSaid : Prop := pairRowsRow.holds Tryz.pinned (OpenSpec.ofChange pairRowsSpec)

/-- ITS FALSE NEIGHBOUR: 'it returns false'. Refute it at one input. -/
def pairRowsWrong : ChangeSpec := { name := "pairRows", fn := fun _ => fun
  | [d1, d2, d3] => { results := [.lit (.bool false)], args := [d1, d2, d3] }
  | _ => none }
def PairRowsWrongFalsely : Prop := pairRowsRow.holds Tryz.pinned (OpenSpec.ofChange pairRowsWrong)

/-- 'palisadelaw12.PairHolds': WHATEVER THE INPUT: true; the input reads as it did. -/
def pairHoldsSpec : ChangeSpec := { name := "pairHolds", fn := fun _ => fun
  | [d1, d2, d3, d4] => { results := [.lit (.bool true)], args := [d1, d2, d3, d4] }
  | _ => none }
def pairHoldsRow : OpenClaim := { program := "ytcchjofjpflbhaagreatdoor", sum := "b029b44fa29c13c50ca37accaf44fcada0efdd28f806b9d467fbe34e5a88568f", func := "palisade/palisadelaw12.PairHolds", spec := "pairHolds", unfollowed := true, recurses := true, named := ["palisade/shape.kinds", "palisade/mod.primes"], plainKeys := false, apart := false, laid := [("palisade/mod.primes", laid_palisade_mod_primes), ("palisade/shape.kinds", laid_palisade_shape_kinds)] }
def PairHoldsSaid : Prop := pairHoldsRow.holds Tryz.pinned (OpenSpec.ofChange pairHoldsSpec)

/-- ITS FALSE NEIGHBOUR: 'it returns false'. Refute it at one input. -/
def pairHoldsWrong : ChangeSpec := { name := "pairHolds", fn := fun _ => fun
  | [d1, d2, d3, d4] => { results := [.lit (.bool false)], args := [d1, d2, d3, d4] }
  | _ => none }
def PairHoldsWrongFalsely : Prop := pairHoldsRow.holds Tryz.pinned (OpenSpec.ofChange pairHoldsWrong)

/-- 'palisadelaw12.PairAdds': WHATEVER THE INPUT: true; the input reads as it did. -/
def pairAddsSpec : ChangeSpec := { name := "pairAdds", fn := fun _ => fun
  | [d1, d2, d3, d4] => { results := [.lit (.bool true)], args := [d1, d2, d3, d4] }
  | _ => none }
def pairAddsRow : OpenClaim := { program := "ytcchjofjpflbhaagreatdoor", sum := "b029b44fa29c13c50ca37accaf44fcada0efdd28f806b9d467fbe34e5a88568f", func := "palisade/palisadelaw12.PairAdds", spec := "pairAdds", unfollowed := true, recurses := true, named := ["palisade/shape.kinds", "palisade/mod.primes"], plainKeys := false, apart := false, laid := [("palisade/mod.primes", laid_palisade_mod_primes), ("palisade/shape.kinds", laid_palisade_shape_kinds)] }
def PairAddsSaid : Prop := pairAddsRow.holds Tryz.pinned (OpenSpec.ofChange pairAddsSpec)

/-- ITS FALSE NEIGHBOUR: 'it returns false'. Refute it at one input. -/
def pairAddsWrong : ChangeSpec := { name := "pairAdds", fn := fun _ => fun
  | [d1, d2, d3, d4] => { results := [.lit (.bool false)], args := [d1, d2, d3, d4] }
  | _ => none }
def PairAddsWrongFalsely : Prop := pairAddsRow.holds Tryz.pinned (OpenSpec.ofChange pairAddsWrong)

/-- 'palisadelaw13.TripleThrees': WHATEVER THE INPUT: true; the input reads as it did. -/
def tripleThreesSpec : ChangeSpec := { name := "tripleThrees", fn := fun _ => fun
  | [d1, d2, d3] => { results := [.lit (.bool true)], args := [d1, d2, d3] }
  | _ => none }
def tripleThreesRow : OpenClaim := { program := "ytcchjofjpflbhaagreatdoor", sum := "b029b44fa29c13c50ca37accaf44fcada0efdd28f806b9d467fbe34e5a88568f", func := "palisade/palisadelaw13.TripleThrees", spec := "tripleThrees", unfollowed := true, recurses := true, named := ["palisade/mod.primes", "palisade/shape.kinds"], plainKeys := false, apart := false, laid := [("palisade/mod.primes", laid_palisade_mod_primes), ("palisade/shape.kinds", laid_palisade_shape_kinds)] }
def TripleThreesSaid : Prop := tripleThreesRow.holds Tryz.pinned (OpenSpec.ofChange tripleThreesSpec)

/-- ITS FALSE NEIGHBOUR: 'it returns false'. Refute it at one input. -/
def tripleThreesWrong : ChangeSpec := { name := "tripleThrees", fn := fun _ => fun
  | [d1, d2, d3] => { results := [.lit (.bool false)], args := [d1, d2, d3] }
  | _ => none }
def TripleThreesWrongFalsely : Prop := tripleThreesRow.holds Tryz.pinned (OpenSpec.ofChange tripleThreesWrong)

/-- 'palisadelaw13.TripleTwos': WHATEVER THE INPUT: true; the input reads as it did. -/
def tripleTwosSpec : ChangeSpec := { name := "tripleTwos", fn := fun _ => fun
  | [d1, d2, d3, d4] => { results := [.lit (.bool true)], args := [d1, d2, d3, d4] }
  | _ => none }
def tripleTwosRow : OpenClaim := { program := "ytcchjofjpflbhaagreatdoor", sum := "b029b44fa29c13c50ca37accaf44fcada0efdd28f806b9d467fbe34e5a88568f", func := "palisade/palisadelaw13.TripleTwos", spec := "tripleTwos", unfollowed := true, recurses := true, named := ["palisade/mod.primes", "palisade/shape.kinds"], plainKeys := false, apart := false, laid := [("palisade/mod.primes", laid_palisade_mod_primes), ("palisade/shape.kinds", laid_palisade_shape_kinds)] }
def TripleTwosSaid : Prop := tripleTwosRow.holds Tryz.pinned (OpenSpec.ofChange tripleTwosSpec)

/-- ITS FALSE NEIGHBOUR: 'it returns false'. Refute it at one input. -/
def tripleTwosWrong : ChangeSpec := { name := "tripleTwos", fn := fun _ => fun
  | [d1, d2, d3, d4] => { results := [.lit (.bool false)], args := [d1, d2, d3, d4] }
  | _ => none }
def TripleTwosWrongFalsely : Prop := tripleTwosRow.holds Tryz.pinned (OpenSpec.ofChange tripleTwosWrong)

/-- 'palisadelaw13.TripleOnes': WHATEVER THE INPUT: true; the input reads as it did. -/
def tripleOnesSpec : ChangeSpec := { name := "tripleOnes", fn := fun _ => fun
  | [d1, d2, d3, d4] => { results := [.lit (.bool true)], args := [d1, d2, d3, d4] }
  | _ => none }
def tripleOnesRow : OpenClaim := { program := "ytcchjofjpflbhaagreatdoor", sum := "b029b44fa29c13c50ca37accaf44fcada0efdd28f806b9d467fbe34e5a88568f", func := "palisade/palisadelaw13.TripleOnes", spec := "tripleOnes", unfollowed := true, recurses := true, named := ["palisade/mod.primes", "palisade/shape.kinds"], plainKeys := false, apart := false, laid := [("palisade/mod.primes", laid_palisade_mod_primes), ("palisade/shape.kinds", laid_palisade_shape_kinds)] }
def TripleOnesSaid : Prop := tripleOnesRow.holds Tryz.pinned (OpenSpec.ofChange tripleOnesSpec)

/-- ITS FALSE NEIGHBOUR: 'it returns false'. Refute it at one input. -/
def tripleOnesWrong : ChangeSpec := { name := "tripleOnes", fn := fun _ => fun
  | [d1, d2, d3, d4] => { results := [.lit (.bool false)], args := [d1, d2, d3, d4] }
  | _ => none }
def TripleOnesWrongFalsely : Prop := tripleOnesRow.holds Tryz.pinned (OpenSpec.ofChange tripleOnesWrong)

/-- 'palisadelaw13.TripleHolds': WHATEVER THE INPUT: true; the input reads as it did. -/
def tripleHoldsSpec : ChangeSpec := { name := "tripleHolds", fn := fun _ => fun
  | [d1, d2, d3, d4, d5] => { results := [.lit (.bool true)], args := [d1, d2, d3, d4, d5] }
  | _ => none }
def tripleHoldsRow : OpenClaim := { program := "ytcchjofjpflbhaagreatdoor", sum := "b029b44fa29c13c50ca37accaf44fcada0efdd28f806b9d467fbe34e5a88568f", func := "palisade/palisadelaw13.TripleHolds", spec := "tripleHolds", unfollowed := true, recurses := true, named := ["palisade/mod.primes", "palisade/shape.kinds"], plainKeys := false, apart := false, laid := [("palisade/mod.primes", laid_palisade_mod_primes), ("palisade/shape.kinds", laid_palisade_shape_kinds)] }
def TripleHoldsSaid : Prop := tripleHoldsRow.holds Tryz.pinned (OpenSpec.ofChange tripleHoldsSpec)

/-- ITS FALSE NEIGHBOUR: 'it returns false'. Refute it at one input. -/
def tripleHoldsWrong : ChangeSpec := { name := "tripleHolds", fn := fun _ => fun
  | [d1, d2, d3, d4, d5] => { results := [.lit (.bool false)], args := [d1, d2, d3, d4, d5] }
  | _ => none }
def TripleHoldsWrongFalsely : Prop := tripleHoldsRow.holds Tryz.pinned (OpenSpec.ofChange tripleHoldsWrong)

/-- 'palisadelaw13.TripleAdds': WHATEVER THE INPUT: true; the input reads as it did. -/
def tripleAddsSpec : ChangeSpec := { name := "tripleAdds", fn := fun _ => fun
  | [d1, d2, d3, d4] => { results := [.lit (.bool true)], args := [d1, d2, d3, d4] }
  | _ => none }
def tripleAddsRow : OpenClaim := { program := "ytcchjofjpflbhaagreatdoor", sum := "b029b44fa29c13c50ca37accaf44fcada0efdd28f806b9d467fbe34e5a88568f", func := "palisade/palisadelaw13.TripleAdds", spec := "tripleAdds", unfollowed := true, recurses := true, named := ["palisade/mod.primes", "palisade/shape.kinds"], plainKeys := false, apart := false, laid := [("palisade/mod.primes", laid_palisade_mod_primes), ("palisade/shape.kinds", laid_palisade_shape_kinds)] }
def TripleAddsSaid : Prop := tripleAddsRow.holds Tryz.pinned (OpenSpec.ofChange tripleAddsSpec)

/-- ITS FALSE NEIGHBOUR: 'it returns false'. Refute it at one input. -/
def tripleAddsWrong : ChangeSpec := { name := "tripleAdds", fn := fun _ => fun
  | [d1, d2, d3, d4] => { results := [.lit (.bool false)], args := [d1, d2, d3, d4] }
  | _ => none }
def TripleAddsWrongFalsely : Prop := tripleAddsRow.holds Tryz.pinned (OpenSpec.ofChange tripleAddsWrong)

/- THE SECOND FORM. 'bulk': how many values and letters a reading holds, each counted each time it is reached (what is shared counts as often as it is met; a slice's spare places count too). A statement '..UptoSaid' is the law's where the arguments, and the package variables that the reading takes, are together of bulk at most 1048576: NARROWER than '..Said'. Prove '..Said' where nothing that the law and all that it calls make is longer than what came in: it says more and counts as full. Else prove '..UptoSaid'. A law counts once. -/
mutual
def uptoBulk {H : Type} : DataW H → Nat
  | .lit (.string bytes) => bytes.length + 1
  | .lit _ => 1
  | .nil => 1
  | .ptr d => uptoBulk d + 1
  | .slice elems spare => uptoBulkAll elems + uptoBulkAll spare + 1
  | .agg parts => uptoBulkAll parts + 1
  | .iface _ d => uptoBulk d + 1
  | .map entries => uptoBulkEntries entries + 1
  | .held _ => 1
def uptoBulkAll {H : Type} : List (DataW H) → Nat
  | [] => 0
  | d :: r => uptoBulk d + uptoBulkAll r
def uptoBulkEntries {H : Type} : List (Lit × DataW H) → Nat
  | [] => 0
  | x :: r => uptoBulkEntry x + uptoBulkEntries r
def uptoBulkEntry {H : Type} : Lit × DataW H → Nat
  | (.string bytes, d) => bytes.length + uptoBulk d + 1
  | (_, d) => uptoBulk d + 1
 end
def uptoSmall : (H : Type) → List (DataW H) → Bool := fun _ ds => decide (uptoBulkAll ds ≤ 1048576)
def OpenSpec.upto (s : _root_.Go.ChangeSpec) : _root_.Go.OpenSpec := { _root_.Go.OpenSpec.ofChange s with cond := some uptoSmall }

/-- 'palisadelaw12.PairArms', WHERE WHAT IT READS IS OF BULK AT MOST 1048576: true; the input reads as it did. -/
def pairArmsUptoRow : OpenClaim := { program := "ytcchjofjpflbhaagreatdoor", sum := "b029b44fa29c13c50ca37accaf44fcada0efdd28f806b9d467fbe34e5a88568f", func := "palisade/palisadelaw12.PairArms", spec := "pairArms", unfollowed := true, recurses := true, named := ["palisade/shape.kinds", "palisade/mod.primes"], plainKeys := false, apart := false, laid := [("palisade/mod.primes", laid_palisade_mod_primes), ("palisade/shape.kinds", laid_palisade_shape_kinds)], narrowed := true }
def PairArmsUptoSaid : Prop := pairArmsUptoRow.holds Tryz.pinned (OpenSpec.upto pairArmsSpec)

/-- 'palisadelaw12.PairOrders', WHERE WHAT IT READS IS OF BULK AT MOST 1048576: true; the input reads as it did. -/
def pairOrdersUptoRow : OpenClaim := { program := "ytcchjofjpflbhaagreatdoor", sum := "b029b44fa29c13c50ca37accaf44fcada0efdd28f806b9d467fbe34e5a88568f", func := "palisade/palisadelaw12.PairOrders", spec := "pairOrders", unfollowed := true, recurses := true, named := ["palisade/shape.kinds", "palisade/mod.primes"], plainKeys := false, apart := false, laid := [("palisade/mod.primes", laid_palisade_mod_primes), ("palisade/shape.kinds", laid_palisade_shape_kinds)], narrowed := true }
def PairOrdersUptoSaid : Prop := pairOrdersUptoRow.holds Tryz.pinned (OpenSpec.upto pairOrdersSpec)

/-- 'palisadelaw12.PairRecovers', WHERE WHAT IT READS IS OF BULK AT MOST 1048576: true; the input reads as it did. -/
def pairRecoversUptoRow : OpenClaim := { program := "ytcchjofjpflbhaagreatdoor", sum := "b029b44fa29c13c50ca37accaf44fcada0efdd28f806b9d467fbe34e5a88568f", func := "palisade/palisadelaw12.PairRecovers", spec := "pairRecovers", unfollowed := true, recurses := true, named := ["palisade/shape.kinds", "palisade/mod.primes"], plainKeys := false, apart := false, laid := [("palisade/mod.primes", laid_palisade_mod_primes), ("palisade/shape.kinds", laid_palisade_shape_kinds)], narrowed := true }
def PairRecoversUptoSaid : Prop := pairRecoversUptoRow.holds Tryz.pinned (OpenSpec.upto pairRecoversSpec)

/-- 'palisadelaw12.PairRows', WHERE WHAT IT READS IS OF BULK AT MOST 1048576: true; the input reads as it did. -/
def pairRowsUptoRow : OpenClaim := { program := "ytcchjofjpflbhaagreatdoor", sum := "b029b44fa29c13c50ca37accaf44fcada0efdd28f806b9d467fbe34e5a88568f", func := "palisade/palisadelaw12.PairRows", spec := "pairRows", unfollowed := true, recurses := true, named := ["palisade/shape.kinds", "palisade/mod.primes"], plainKeys := false, apart := false, laid := [("palisade/mod.primes", laid_palisade_mod_primes), ("palisade/shape.kinds", laid_palisade_shape_kinds)], narrowed := true }
def PairRowsUptoSaid : Prop := pairRowsUptoRow.holds Tryz.pinned (OpenSpec.upto pairRowsSpec)

/-- 'palisadelaw12.PairHolds', WHERE WHAT IT READS IS OF BULK AT MOST 1048576: true; the input reads as it did. -/
def pairHoldsUptoRow : OpenClaim := { program := "ytcchjofjpflbhaagreatdoor", sum := "b029b44fa29c13c50ca37accaf44fcada0efdd28f806b9d467fbe34e5a88568f", func := "palisade/palisadelaw12.PairHolds", spec := "pairHolds", unfollowed := true, recurses := true, named := ["palisade/shape.kinds", "palisade/mod.primes"], plainKeys := false, apart := false, laid := [("palisade/mod.primes", laid_palisade_mod_primes), ("palisade/shape.kinds", laid_palisade_shape_kinds)], narrowed := true }
def PairHoldsUptoSaid : Prop := pairHoldsUptoRow.holds Tryz.pinned (OpenSpec.upto pairHoldsSpec)

/-- 'palisadelaw12.PairAdds', WHERE WHAT IT READS IS OF BULK AT MOST 1048576: true; the input reads as it did. -/
def pairAddsUptoRow : OpenClaim := { program := "ytcchjofjpflbhaagreatdoor", sum := "b029b44fa29c13c50ca37accaf44fcada0efdd28f806b9d467fbe34e5a88568f", func := "palisade/palisadelaw12.PairAdds", spec := "pairAdds", unfollowed := true, recurses := true, named := ["palisade/shape.kinds", "palisade/mod.primes"], plainKeys := false, apart := false, laid := [("palisade/mod.primes", laid_palisade_mod_primes), ("palisade/shape.kinds", laid_palisade_shape_kinds)], narrowed := true }
def PairAddsUptoSaid : Prop := pairAddsUptoRow.holds Tryz.pinned (OpenSpec.upto pairAddsSpec)

/-- 'palisadelaw13.TripleThrees', WHERE WHAT IT READS IS OF BULK AT MOST 1048576: true; the input reads as it did. -/
def tripleThreesUptoRow : OpenClaim := { program := "ytcchjofjpflbhaagreatdoor", sum := "b029b44fa29c13c50ca37accaf44fcada0efdd28f806b9d467fbe34e5a88568f", func := "palisade/palisadelaw13.TripleThrees", spec := "tripleThrees", unfollowed := true, recurses := true, named := ["palisade/mod.primes", "palisade/shape.kinds"], plainKeys := false, apart := false, laid := [("palisade/mod.primes", laid_palisade_mod_primes), ("palisade/shape.kinds", laid_palisade_shape_kinds)], narrowed := true }
def TripleThreesUptoSaid : Prop := tripleThreesUptoRow.holds Tryz.pinned (OpenSpec.upto tripleThreesSpec)

/-- 'palisadelaw13.TripleTwos', WHERE WHAT IT READS IS OF BULK AT MOST 1048576: true; the input reads as it did. -/
def tripleTwosUptoRow : OpenClaim := { program := "ytcchjofjpflbhaagreatdoor", sum := "b029b44fa29c13c50ca37accaf44fcada0efdd28f806b9d467fbe34e5a88568f", func := "palisade/palisadelaw13.TripleTwos", spec := "tripleTwos", unfollowed := true, recurses := true, named := ["palisade/mod.primes", "palisade/shape.kinds"], plainKeys := false, apart := false, laid := [("palisade/mod.primes", laid_palisade_mod_primes), ("palisade/shape.kinds", laid_palisade_shape_kinds)], narrowed := true }
def TripleTwosUptoSaid : Prop := tripleTwosUptoRow.holds Tryz.pinned (OpenSpec.upto tripleTwosSpec)

/-- 'palisadelaw13.TripleOnes', WHERE WHAT IT READS IS OF BULK AT MOST 1048576: true; the input reads as it did. -/
def tripleOnesUptoRow : OpenClaim := { program := "ytcchjofjpflbhaagreatdoor", sum := "b029b44fa29c13c50ca37accaf44fcada0efdd28f806b9d467fbe34e5a88568f", func := "palisade/palisadelaw13.TripleOnes", spec := "tripleOnes", unfollowed := true, recurses := true, named := ["palisade/mod.primes", "palisade/shape.kinds"], plainKeys := false, apart := false, laid := [("palisade/mod.primes", laid_palisade_mod_primes), ("palisade/shape.kinds", laid_palisade_shape_kinds)], narrowed := true }
def TripleOnesUptoSaid : Prop := tripleOnesUptoRow.holds Tryz.pinned (OpenSpec.upto tripleOnesSpec)

/-- 'palisadelaw13.TripleHolds', WHERE WHAT IT READS IS OF BULK AT MOST 1048576: true; the input reads as it did. -/
def tripleHoldsUptoRow : OpenClaim := { program := "ytcchjofjpflbhaagreatdoor", sum := "b029b44fa29c13c50ca37accaf44fcada0efdd28f806b9d467fbe34e5a88568f", func := "palisade/palisadelaw13.TripleHolds", spec := "tripleHolds", unfollowed := true, recurses := true, named := ["palisade/mod.primes", "palisade/shape.kinds"], plainKeys := false, apart := false, laid := [("palisade/mod.primes", laid_palisade_mod_primes), ("palisade/shape.kinds", laid_palisade_shape_kinds)], narrowed := true }
def TripleHoldsUptoSaid : Prop := tripleHoldsUptoRow.holds Tryz.pinned (OpenSpec.upto tripleHoldsSpec)

/-- 'palisadelaw13.TripleAdds', WHERE WHAT IT READS IS OF BULK AT MOST 1048576: true; the input reads as it did. -/
def tripleAddsUptoRow : OpenClaim := { program := "ytcchjofjpflbhaagreatdoor", sum := "b029b44fa29c13c50ca37accaf44fcada0efdd28f806b9d467fbe34e5a88568f", func := "palisade/palisadelaw13.TripleAdds", spec := "tripleAdds", unfollowed := true, recurses := true, named := ["palisade/mod.primes", "palisade/shape.kinds"], plainKeys := false, apart := false, laid := [("palisade/mod.primes", laid_palisade_mod_primes), ("palisade/shape.kinds", laid_palisade_shape_kinds)], narrowed := true }
def TripleAddsUptoSaid : Prop := tripleAddsUptoRow.holds Tryz.pinned (OpenSpec.upto tripleAddsSpec)

end Rows
end Go.Proofs.YtcchjofjpflbhaaGreatDoor
