/- A code under way: its rows, its columns; what it has. A code under way: numbers, places, diagonals, slants, roles. Which codes may be. What of a code is counted; what of it is told. Role, Place, Number, Diagonal, Slant. The document's answers for layer 4. All codes; what the law asks of an answer. All codes, as the program and as the document tell them; the law's num and told. The chapter's rows: works answers true. What the laws of shape share: the variables as the row lays them, and a world in which they lie so; codes and places that came in. A range over a function that calls other functions of whatever memory: the body leaves alone all that lies from the call on. The places of a column: the function that Cells hands back goes over them. Cells. A range over a function whose variable lies in a block of its own, anew each round. Regions that draw their order, in a round; what a map's update does. -/
import Derived.Test.YtckfepmahjgmfaaDoorRMA
import Derived.Test.YtckfepmahjgmfaaDoorRMAx1
import Derived.ShutString
import Derived.ChangeOld
import Derived.LaidMore
import Derived.Stop.Joined
import Derived.MakeChecks
import Derived.Lib.LaidTab
import Derived.Test.YtckfepmahjgmfaaDoorRSA
namespace Go.Proofs.YtckfepmahjgmfaaDoor
open Go.RowKit Go.Shelf
set_option linter.unusedSimpArgs false
set_option linter.unusedVariables false

theorem Told.yes {c b : Prop} {zero : Value} {R : Value → World → Prop} {w w' : World} {e : Ending} (hc : c) (hb : b) (h : ∃ v, e = .returned (.tuple #[v, .int .i64 0]) ∧ R v w' ∧ Below w.heap.size w w') : Told c b zero R w e w' := by
  obtain ⟨v, h1, h2, h3⟩ := h
  exact ⟨fun h => absurd hc h, fun _ h => absurd hb h, fun _ _ => ⟨v, h1, h2⟩, h3⟩
end Go.Proofs.YtckfepmahjgmfaaDoor

namespace Go.Proofs.YtckfepmahjgmfaaDoor
open Go.RowKit Go.Shelf
set_option linter.unusedSimpArgs false
set_option linter.unusedVariables false

theorem Tells3.yes {c b : Prop} {zero v : Value} {w w' : World} {e : Ending} (hc : c) (hb : b) (h : e = .returned (.tuple #[v, .int .i64 0]) ∧ Below w.heap.size w w') : Tells3 c b zero v w e w' := ⟨fun h => absurd hc h, fun _ h => absurd hb h, fun _ _ => h.1, h.2⟩

end Go.Proofs.YtckfepmahjgmfaaDoor

namespace Go.Proofs.YtckfepmahjgmfaaDoor
open Go.RowKit Go.Shelf
set_option linter.unusedSimpArgs false
set_option linter.unusedVariables false

theorem OwnC.grown_ {w w' : World} {base : Nat} {v : Value} {l : List (Int × Int)} (h : OwnC w base v l) (hg : w.grownBy w' none) : OwnC w' base v l :=
  World.ownsRow.kept h hg (by cases hv : v.ownBlock <;> simp)
theorem OwnC.own_le {w : World} {base : Nat} {v : Value} {l : List (Int × Int)} (h : OwnC w base v l) : ∀ k, v.ownBlock = some k → base ≤ k := fun k e => (World.ownsRow.lt h k e).1
end Go.Proofs.YtckfepmahjgmfaaDoor

