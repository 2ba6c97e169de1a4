/- -/
import Derived.Test.YtknkdbincaonbaaGreatDoorCESA
import Derived.Test.YtknkdbincaonbaaGreatDoorCards
import Derived.Test.YtknkdbincaonbaaGreatDoorTie
import Derived.SevenTiedAt
import Derived.Test.YtknkdbincaonbaaGreatDoorCEG26
import Derived.Test.YtknkdbincaonbaaGreatDoorCEG13
import Derived.Test.YtknkdbincaonbaaGreatDoorCEG27
set_option linter.unusedVariables false
set_option linter.unusedSimpArgs false
set_option maxRecDepth 100000
set_option maxHeartbeats 20000000
namespace Go.Proofs.YtknkdbincaonbaaGreatDoor.codeEncodes
open Go.ChangeShapes Go.WideShapes Go.ChangeAt Go.RowKit Go.Shelf
attribute [local go_sem] Oper.semAt_some

theorem joined : joinedFacts Tryz.pinned.checked.prog 3 Tryz.f3 Rows.codeEncodesSpec Rows.codeEncodesRow = true := by kernel_rfl
end Go.Proofs.YtknkdbincaonbaaGreatDoor.codeEncodes
