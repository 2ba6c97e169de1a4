/- -/
import Derived.Test.YtcchjofjpflbhaaGreatDoorPAY
import Derived.Test.YtcchjofjpflbhaaGreatDoorCards
import Derived.Test.YtcchjofjpflbhaaGreatDoorTie
import Derived.SevenTiedAt
namespace Go.Proofs.YtcchjofjpflbhaaGreatDoor.pairArms
open Go.ChangeShapes Go.WideShapes Go.ChangeAt Go.RowKit Go.Shelf
set_option linter.unusedVariables false
set_option linter.unusedSimpArgs false
attribute [local go_sem] Oper.semAt_some

theorem joined : joinedFacts Tryz.pinned.checked.prog 3 Tryz.f3 Rows.pairArmsSpec Rows.pairArmsRow = true := by kernel_rfl
end Go.Proofs.YtcchjofjpflbhaaGreatDoor.pairArms
