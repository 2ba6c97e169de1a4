/- -/
import Derived.Test.YtcahoigdoohjaaaGreatDoorVSA
import Derived.Test.YtcahoigdoohjaaaGreatDoorCards
import Derived.Test.YtcahoigdoohjaaaGreatDoorTie
import Derived.SevenTiedAt
import Derived.Test.YtcahoigdoohjaaaGreatDoorVW
namespace Go.Proofs.YtcahoigdoohjaaaGreatDoor.codeBytes
open Go.ChangeShapes Go.WideShapes Go.ChangeAt Go.RowKit Go.Shelf
set_option linter.unusedVariables false
set_option linter.unusedSimpArgs false
attribute [local go_sem] Oper.semAt_some

theorem joined : joinedFacts Tryz.pinned.checked.prog 10 Tryz.f10 Rows.codeBytesSpec Rows.codeBytesRow = true := by kernel_rfl
end Go.Proofs.YtcahoigdoohjaaaGreatDoor.codeBytes
