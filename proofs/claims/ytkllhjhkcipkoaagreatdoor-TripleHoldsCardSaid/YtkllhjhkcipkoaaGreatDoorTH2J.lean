/- -/
import Derived.Test.YtkllhjhkcipkoaaGreatDoorTHCA
import Derived.Test.YtkllhjhkcipkoaaGreatDoorCards
import Derived.Test.YtkllhjhkcipkoaaGreatDoorTie
import Derived.SevenTiedAt
namespace Go.Proofs.YtkllhjhkcipkoaaGreatDoor.tripleHolds
open Go.ChangeShapes Go.WideShapes Go.ChangeAt Go.RowKit Go.Shelf
set_option linter.unusedVariables false
set_option linter.unusedSimpArgs false
attribute [local go_sem] Oper.semAt_some

theorem joined : joinedFacts Tryz.pinned.checked.prog 6 Tryz.f6 Rows.tripleHoldsSpec Rows.tripleHoldsRow = true := by kernel_rfl
end Go.Proofs.YtkllhjhkcipkoaaGreatDoor.tripleHolds
