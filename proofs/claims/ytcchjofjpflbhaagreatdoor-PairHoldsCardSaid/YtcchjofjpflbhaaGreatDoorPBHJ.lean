/- -/
import Derived.Test.YtcchjofjpflbhaaGreatDoorPBY
import Derived.Test.YtcchjofjpflbhaaGreatDoorCards
import Derived.Test.YtcchjofjpflbhaaGreatDoorTie
import Derived.SevenTiedAt
namespace Go.Proofs.YtcchjofjpflbhaaGreatDoor.pairHolds
open Go.ChangeShapes Go.WideShapes Go.ChangeAt Go.RowKit Go.Shelf
set_option linter.unusedVariables false
set_option linter.unusedSimpArgs false
attribute [local go_sem] Oper.semAt_some

theorem joined : joinedFacts Tryz.pinned.checked.prog 7 Tryz.f7 Rows.pairHoldsSpec Rows.pairHoldsRow = true := by kernel_rfl
end Go.Proofs.YtcchjofjpflbhaaGreatDoor.pairHolds
