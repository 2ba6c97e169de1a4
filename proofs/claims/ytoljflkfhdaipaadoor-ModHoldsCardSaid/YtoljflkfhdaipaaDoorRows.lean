/-
  NARROWER THAN 'FOR EVERY INPUT', by the rows' own cells (each row's printed sentence says how): ModSums: laid · ModInverses: laid · ModWalks: laid · ModHolds: laid · ModBacks: laid.
  DERIVED. THE GIVEN ROWS OF THIS SEAT. 5 by the template 'for every input the law returns true; each argument reads behind the call as it read before'; 0 by the template 'total and deterministic' (their statements: YtoljflkfhdaipaaDoorTotals.lean).
  GIVEN WITH THE SEED: the statements are not yours to turn. If you find one false, say at which input.
  Laid BY PROGRAM, IN A SANDBOX (cutbox-rows.mjs): the forced cells as the released guide's own fill.sh prints them over the translation 38f5a7fd156d048c… (all of the seat's roots in one cut). By AI agents, Wed Nov 11 2026. No macro, syntax, notation, axiom, sorry.
-/
import Derived.Test.YtoljflkfhdaipaaDoorChecked
import GoSem.Claim
import GoSem.ClaimJoined
import GoSem.ClaimMapViews
import Derived.JoinedTies
import Derived.KernelRfl
namespace Go.Proofs.YtoljflkfhdaipaaDoor
/- THE CELL 'sum', in the pinned program and in every row, IS THE sha256 OF THE DUMP (.gsa) THAT YtoljflkfhdaipaaDoorProg.lean LOADS. Nothing in Lean hashes anything: it is a label: what it is worth is what the hold of that sum in a sandbox is worth. -/
noncomputable def Tryd.pinned : Pinned := { name := "ytoljflkfhdaipaadoor", sum := "38f5a7fd156d048ce555f9796083aa333f233734eec8a5f3f5a1c64a4be39393", checked := Tryd.checked }
namespace Rows
def none {H : Type} : Left H := { results := [], args := [] }

/- WHAT THE LISTED PACKAGE-LEVEL VARIABLES READ AS WHEN THE CALL BEGINS. Each datum BY PROGRAM (the guide's laid-datum.mjs) off the statement by which the dump's own 'gosem.cut.vars' lays the variable. In a bare row this is a premise. The card (YtoljflkfhdaipaaDoorCards.lean) ties it to the program's text. -/
def laid_palisade_mod_primes {H : Type} : DataW H := .agg [.lit (.int .i64 3), .lit (.int .i64 5), .lit (.int .i64 7), .lit (.int .i64 11), .lit (.int .i64 13), .lit (.int .i64 17)]

/-- 'palisadelaw03.ModSums': WHATEVER THE INPUT: true; the input reads as it did. -/
def modSumsSpec : ChangeSpec := { name := "modSums", fn := fun _ => fun
  | [d1, d2, d3, d4] => { results := [.lit (.bool true)], args := [d1, d2, d3, d4] }
  | _ => none }
def modSumsRow : OpenClaim := { program := "ytoljflkfhdaipaadoor", sum := "38f5a7fd156d048ce555f9796083aa333f233734eec8a5f3f5a1c64a4be39393", func := "palisade/palisadelaw03.ModSums", spec := "modSums", unfollowed := true, recurses := true, named := ["palisade/mod.primes"], apart := false, laid := [("palisade/mod.primes", laid_palisade_mod_primes)] }
def ModSumsSaid : Prop := modSumsRow.holds Tryd.pinned (OpenSpec.ofChange modSumsSpec)

/-- ITS FALSE NEIGHBOUR: 'it returns false'. Refute it at one input. -/
def modSumsWrong : ChangeSpec := { name := "modSums", fn := fun _ => fun
  | [d1, d2, d3, d4] => { results := [.lit (.bool false)], args := [d1, d2, d3, d4] }
  | _ => none }
def ModSumsWrongFalsely : Prop := modSumsRow.holds Tryd.pinned (OpenSpec.ofChange modSumsWrong)

/-- 'palisadelaw03.ModInverses': WHATEVER THE INPUT: true; the input reads as it did. -/
def modInversesSpec : ChangeSpec := { name := "modInverses", fn := fun _ => fun
  | [d1, d2] => { results := [.lit (.bool true)], args := [d1, d2] }
  | _ => none }
def modInversesRow : OpenClaim := { program := "ytoljflkfhdaipaadoor", sum := "38f5a7fd156d048ce555f9796083aa333f233734eec8a5f3f5a1c64a4be39393", func := "palisade/palisadelaw03.ModInverses", spec := "modInverses", unfollowed := true, recurses := true, named := ["palisade/mod.primes"], apart := false, laid := [("palisade/mod.primes", laid_palisade_mod_primes)] }
def ModInversesSaid : Prop := modInversesRow.holds Tryd.pinned (OpenSpec.ofChange modInversesSpec)

/-- ITS FALSE NEIGHBOUR: 'it returns false'. Refute it at one input. -/
def modInversesWrong : ChangeSpec := { name := "modInverses", fn := fun _ => fun
  | [d1, d2] => { results := [.lit (.bool false)], args := [d1, d2] }
  | _ => none }
def ModInversesWrongFalsely : Prop := modInversesRow.holds Tryd.pinned (OpenSpec.ofChange modInversesWrong)

/-- 'palisadelaw03.ModWalks': WHATEVER THE INPUT: true; the input reads as it did. -/
def modWalksSpec : ChangeSpec := { name := "modWalks", fn := fun _ => fun
  | [d1, d2, d3] => { results := [.lit (.bool true)], args := [d1, d2, d3] }
  | _ => none }
def modWalksRow : OpenClaim := { program := "ytoljflkfhdaipaadoor", sum := "38f5a7fd156d048ce555f9796083aa333f233734eec8a5f3f5a1c64a4be39393", func := "palisade/palisadelaw03.ModWalks", spec := "modWalks", unfollowed := true, recurses := true, named := ["palisade/mod.primes"], apart := false, laid := [("palisade/mod.primes", laid_palisade_mod_primes)] }
def ModWalksSaid : Prop := modWalksRow.holds Tryd.pinned (OpenSpec.ofChange modWalksSpec)

/-- ITS FALSE NEIGHBOUR: 'it returns false'. Refute it at one input. -/
def modWalksWrong : ChangeSpec := { name := "modWalks", fn := fun _ => fun
  | [d1, d2, d3] => { results := [.lit (.bool false)], args := [d1, d2, d3] }
  | _ => none }
def ModWalksWrongFalsely : Prop := modWalksRow.holds Tryd.pinned (OpenSpec.ofChange modWalksWrong)

/-- 'palisadelaw03.ModHolds': WHATEVER THE INPUT: true; the input reads as it did. -/
def modHoldsSpec : ChangeSpec := { name := "modHolds", fn := fun _ => fun
  | [d1, d2, d3, d4] => { results := [.lit (.bool true)], args := [d1, d2, d3, d4] }
  | _ => none }
def modHoldsRow : OpenClaim := { program := "ytoljflkfhdaipaadoor", sum := "38f5a7fd156d048ce555f9796083aa333f233734eec8a5f3f5a1c64a4be39393", func := "palisade/palisadelaw03.ModHolds", spec := "modHolds", unfollowed := true, recurses := true, named := ["palisade/mod.primes"], apart := false, laid := [("palisade/mod.primes", laid_palisade_mod_primes)] }
def ModHoldsSaid : Prop := modHoldsRow.holds Tryd.pinned (OpenSpec.ofChange modHoldsSpec)

/-- ITS FALSE NEIGHBOUR: 'it returns false'. Refute it at one input. -/
def modHoldsWrong : ChangeSpec := { name := "modHolds", fn := fun _ => fun
  | [d1, d2, d3, d4] => { results := [.lit (.bool false)], args := [d1, d2, d3, d4] }
  | _ => none }
def ModHoldsWrongFalsely : Prop := modHoldsRow.holds Tryd.pinned (OpenSpec.ofChange modHoldsWrong)

/-- 'palisadelaw03.ModBacks': WHATEVER THE INPUT: true; the input reads as it did. -/
def modBacksSpec : ChangeSpec := { name := "modBacks", fn := fun _ => fun
  | [d1, d2] => { results := [.lit (.bool true)], args := [d1, d2] }
  | _ => none }
def modBacksRow : OpenClaim := { program := "ytoljflkfhdaipaadoor", sum := "38f5a7fd156d048ce555f9796083aa333f233734eec8a5f3f5a1c64a4be39393", func := "palisade/palisadelaw03.ModBacks", spec := "modBacks", unfollowed := true, recurses := true, named := ["palisade/mod.primes"], apart := false, laid := [("palisade/mod.primes", laid_palisade_mod_primes)] }
def ModBacksSaid : Prop := modBacksRow.holds Tryd.pinned (OpenSpec.ofChange modBacksSpec)

/-- ITS FALSE NEIGHBOUR: 'it returns false'. Refute it at one input. -/
def modBacksWrong : ChangeSpec := { name := "modBacks", fn := fun _ => fun
  | [d1, d2] => { results := [.lit (.bool false)], args := [d1, d2] }
  | _ => none }
def ModBacksWrongFalsely : Prop := modBacksRow.holds Tryd.pinned (OpenSpec.ofChange modBacksWrong)

/- THE SECOND FORM. 'bulk': how many values and letters a reading holds, each counted each time it is reached (what is shared counts as often as it is met; a slice's spare places count too). A statement '..UptoSaid' is the law's where the arguments, and the package variables that the reading takes, are together of bulk at most 1048576: NARROWER than '..Said'. Prove '..Said' where nothing that the law and all that it calls make is longer than what came in: it says more and counts as full. Else prove '..UptoSaid'. A law counts once. -/
mutual
def uptoBulk {H : Type} : DataW H → Nat
  | .lit (.string bytes) => bytes.length + 1
  | .lit _ => 1
  | .nil => 1
  | .ptr d => uptoBulk d + 1
  | .slice elems spare => uptoBulkAll elems + uptoBulkAll spare + 1
  | .agg parts => uptoBulkAll parts + 1
  | .iface _ d => uptoBulk d + 1
  | .map entries => uptoBulkEntries entries + 1
  | .held _ => 1
def uptoBulkAll {H : Type} : List (DataW H) → Nat
  | [] => 0
  | d :: r => uptoBulk d + uptoBulkAll r
def uptoBulkEntries {H : Type} : List (Lit × DataW H) → Nat
  | [] => 0
  | x :: r => uptoBulkEntry x + uptoBulkEntries r
def uptoBulkEntry {H : Type} : Lit × DataW H → Nat
  | (.string bytes, d) => bytes.length + uptoBulk d + 1
  | (_, d) => uptoBulk d + 1
 end
def uptoSmall : (H : Type) → List (DataW H) → Bool := fun _ ds => decide (uptoBulkAll ds ≤ 1048576)
def OpenSpec.upto (s : _root_.Go.ChangeSpec) : _root_.Go.OpenSpec := { _root_.Go.OpenSpec.ofChange s with cond := some uptoSmall }

/-- 'palisadelaw03.ModSums', WHERE WHAT IT READS IS OF BULK AT MOST 1048576: true; the input reads as it did. -/
def modSumsUptoRow : OpenClaim := { program := "ytoljflkfhdaipaadoor", sum := "38f5a7fd156d048ce555f9796083aa333f233734eec8a5f3f5a1c64a4be39393", func := "palisade/palisadelaw03.ModSums", spec := "modSums", unfollowed := true, recurses := true, named := ["palisade/mod.primes"], apart := false, laid := [("palisade/mod.primes", laid_palisade_mod_primes)], narrowed := true }
def ModSumsUptoSaid : Prop := modSumsUptoRow.holds Tryd.pinned (OpenSpec.upto modSumsSpec)

/-- 'palisadelaw03.ModInverses', WHERE WHAT IT READS IS OF BULK AT MOST 1048576: true; the input reads as it did. -/
def modInversesUptoRow : OpenClaim := { program := "ytoljflkfhdaipaadoor", sum := "38f5a7fd156d048ce555f9796083aa333f233734eec8a5f3f5a1c64a4be39393", func := "palisade/palisadelaw03.ModInverses", spec := "modInverses", unfollowed := true, recurses := true, named := ["palisade/mod.primes"], apart := false, laid := [("palisade/mod.primes", laid_palisade_mod_primes)], narrowed := true }
def ModInversesUptoSaid : Prop := modInversesUptoRow.holds Tryd.pinned (OpenSpec.upto modInversesSpec)

/-- 'palisadelaw03.ModWalks', WHERE WHAT IT READS IS OF BULK AT MOST 1048576: true; the input reads as it did. -/
def modWalksUptoRow : OpenClaim := { program := "ytoljflkfhdaipaadoor", sum := "38f5a7fd156d048ce555f9796083aa333f233734eec8a5f3f5a1c64a4be39393", func := "palisade/palisadelaw03.ModWalks", spec := "modWalks", unfollowed := true, recurses := true, named := ["palisade/mod.primes"], apart := false, laid := [("palisade/mod.primes", laid_palisade_mod_primes)], narrowed := true }
def ModWalksUptoSaid : Prop := modWalksUptoRow.holds Tryd.pinned (OpenSpec.upto modWalksSpec)

/-- 'palisadelaw03.ModHolds', WHERE WHAT IT READS IS OF BULK AT MOST 1048576: true; the input reads as it did. -/
def modHoldsUptoRow : OpenClaim := { program := "ytoljflkfhdaipaadoor", sum := "38f5a7fd156d048ce555f9796083aa333f233734eec8a5f3f5a1c64a4be39393", func := "palisade/palisadelaw03.ModHolds", spec := "modHolds", unfollowed := true, recurses := true, named := ["palisade/mod.primes"], apart := false, laid := [("palisade/mod.primes", laid_palisade_mod_primes)], narrowed := true }
def ModHoldsUptoSaid : Prop := modHoldsUptoRow.holds Tryd.pinned (OpenSpec.upto modHoldsSpec)

/-- 'palisadelaw03.ModBacks', WHERE WHAT IT READS IS OF BULK AT MOST 1048576: true; the input reads as it did. -/
def modBacksUptoRow : OpenClaim := { program := "ytoljflkfhdaipaadoor", sum := "38f5a7fd156d048ce555f9796083aa333f233734eec8a5f3f5a1c64a4be39393", func := "palisade/palisadelaw03.ModBacks", spec := "modBacks", unfollowed := true, recurses := true, named := ["palisade/mod.primes"], apart := false, laid := [("palisade/mod.primes", laid_palisade_mod_primes)], narrowed := true }
def ModBacksUptoSaid : Prop := modBacksUptoRow.holds Tryd.pinned (OpenSpec.upto modBacksSpec)

end Rows
end Go.Proofs.YtoljflkfhdaipaaDoor
