/- -/
import Derived.Test.YtcchjofjpflbhaaGreatDoorPAG20
import Derived.Test.YtcchjofjpflbhaaGreatDoorCards
import Derived.Test.YtcchjofjpflbhaaGreatDoorTie
import Derived.SevenTiedAt
namespace Go.Proofs.YtcchjofjpflbhaaGreatDoor.pairRows
open Go.ChangeShapes Go.WideShapes Go.ChangeAt Go.RowKit Go.Shelf
set_option linter.unusedVariables false
set_option linter.unusedSimpArgs false
attribute [local go_sem] Oper.semAt_some

theorem joined : joinedFacts Tryz.pinned.checked.prog 6 Tryz.f6 Rows.pairRowsSpec Rows.pairRowsRow = true := by kernel_rfl
end Go.Proofs.YtcchjofjpflbhaaGreatDoor.pairRows
