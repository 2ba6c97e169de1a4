/- -/
import Derived.Test.YtcahoigdoohjaaaGreatDoorQBSA
import Derived.Test.YtcahoigdoohjaaaGreatDoorCards
import Derived.Test.YtcahoigdoohjaaaGreatDoorTie
import Derived.SevenTiedAt
import Derived.Test.YtcahoigdoohjaaaGreatDoorQBG1
import Derived.Test.YtcahoigdoohjaaaGreatDoorQBG23
set_option linter.unusedVariables false
set_option linter.unusedSimpArgs false
set_option maxRecDepth 100000
set_option maxHeartbeats 20000000
namespace Go.Proofs.YtcahoigdoohjaaaGreatDoor.codeUndoes
open Go.ChangeShapes Go.WideShapes Go.ChangeAt Go.RowKit Go.Shelf
attribute [local go_sem] Oper.semAt_some

theorem joined : joinedFacts Tryz.pinned.checked.prog 9 Tryz.f9 Rows.codeUndoesSpec Rows.codeUndoesRow = true := by kernel_rfl
end Go.Proofs.YtcahoigdoohjaaaGreatDoor.codeUndoes
