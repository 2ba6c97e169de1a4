/- Words for memory: a block that is known whole; a slice that reads as a list of numbers; what the program lays of the primes. The primes, as the program hands them out. A range over a function that keeps blocks of its own between rounds: what it owes, and one law for whoever ranges over it. slices.Values over numbers: what its function goes over; who is first. What is asked of a prime and its places. Places reckoned. Walks: the function that walk hands back goes over their places. Check, Of, sums, differences, products. Walk, Meet. The document's answers. A return behind whatever number of ranges over functions, each of which has collected nothing. -/
import Derived.Test.YtckfepmahjgmfaaDoorRows
import Derived.WalkKit
import Derived.WalkSpells
import Derived.WalkLawsBesides
import Derived.Lib.Hide
import Derived.Below
import Derived.Laws.OwnMore
import Derived.Laws.Rows
import Derived.Deep.Draws
import Derived.RangeFuncNested
import Derived.RangeFuncBound
import Derived.RangeFuncCalls
import Derived.RangeFuncLeaves
import Derived.Shelf.Abstract
import Derived.Shelf.RegionOpen
import Derived.OwnWalkIn
import Derived.TacticsInMore
import Derived.LoopNIn
import Derived.LoopIn
import Derived.Maps.AppendAt
import Derived.ProofKit
import Derived.OpenShut
import Derived.Deep.DeepCutAuto
import Derived.Deep.RegionHeld3
import Derived.BigRegion
import Derived.Deep.QuietTactic
import Derived.BigQuiet
import Derived.Deep.RegionWith
import Derived.Outline
import Derived.WalkMore
import Derived.ScopeJumps
import Derived.IntWalk
import Derived.Deep.RegionLaw
import Derived.Sort.LoopGhostIn
import Derived.Test.YtckfepmahjgmfaaDoorRMA
namespace Go.Proofs.YtckfepmahjgmfaaDoor
open Go.RowKit

theorem OwnI.grown_ {w w' : World} {base : Nat} {v : Value} {l : List Int} (h : OwnI w base v l) (hg : w.grownBy w' none) : OwnI w' base v l :=
  World.ownsRow.kept h hg (by cases hv : v.ownBlock <;> simp)
theorem below_grown {B : Nat} {a w w' : World} {row : Option Nat} (h : Below B a w) (hg : w.grownBy w' row) (hB : B ≤ w.heap.size) (hr : ∀ k, row = some k → B ≤ k) : Below B a w' := h.grown hg hB hr
end Go.Proofs.YtckfepmahjgmfaaDoor

