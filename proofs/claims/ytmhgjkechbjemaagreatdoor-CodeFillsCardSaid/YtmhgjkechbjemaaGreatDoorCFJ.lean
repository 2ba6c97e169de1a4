/- -/
import Derived.Test.YtmhgjkechbjemaaGreatDoorCFSA
import Derived.Test.YtmhgjkechbjemaaGreatDoorCards
import Derived.Test.YtmhgjkechbjemaaGreatDoorTie
import Derived.SevenTiedAt
import Derived.Test.YtmhgjkechbjemaaGreatDoorCFG25
import Derived.Test.YtmhgjkechbjemaaGreatDoorCFG12
import Derived.Test.YtmhgjkechbjemaaGreatDoorCFG26
set_option linter.unusedVariables false
set_option linter.unusedSimpArgs false
set_option maxRecDepth 100000
set_option maxHeartbeats 20000000
namespace Go.Proofs.YtmhgjkechbjemaaGreatDoor.codeFills
open Go.ChangeShapes Go.WideShapes Go.ChangeAt Go.RowKit Go.Shelf
attribute [local go_sem] Oper.semAt_some

theorem joined : joinedFacts Tryz.pinned.checked.prog 4 Tryz.f4 Rows.codeFillsSpec Rows.codeFillsRow = true := by kernel_rfl
end Go.Proofs.YtmhgjkechbjemaaGreatDoor.codeFills
