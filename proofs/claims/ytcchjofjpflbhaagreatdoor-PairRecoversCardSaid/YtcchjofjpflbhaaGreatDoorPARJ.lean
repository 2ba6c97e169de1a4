/- -/
import Derived.Test.YtcchjofjpflbhaaGreatDoorPAG16
import Derived.Test.YtcchjofjpflbhaaGreatDoorCards
import Derived.Test.YtcchjofjpflbhaaGreatDoorTie
import Derived.SevenTiedAt
namespace Go.Proofs.YtcchjofjpflbhaaGreatDoor.pairRecovers
open Go.ChangeShapes Go.WideShapes Go.ChangeAt Go.RowKit Go.Shelf
set_option linter.unusedVariables false
set_option linter.unusedSimpArgs false
attribute [local go_sem] Oper.semAt_some

theorem joined : joinedFacts Tryz.pinned.checked.prog 5 Tryz.f5 Rows.pairRecoversSpec Rows.pairRecoversRow = true := by kernel_rfl
end Go.Proofs.YtcchjofjpflbhaaGreatDoor.pairRecovers
