/- -/
import Derived.Test.YtcchjofjpflbhaaGreatDoorPAX
import Derived.Test.YtcchjofjpflbhaaGreatDoorPAG20m8
import Derived.Test.YtcchjofjpflbhaaGreatDoorCards
import Derived.Test.YtcchjofjpflbhaaGreatDoorTie
import Derived.SevenTiedAt
namespace Go.Proofs.YtcchjofjpflbhaaGreatDoor.pairAdds
open Go.ChangeShapes Go.WideShapes Go.ChangeAt Go.RowKit Go.Shelf
set_option linter.unusedVariables false
set_option linter.unusedSimpArgs false
attribute [local go_sem] Oper.semAt_some

theorem joined : joinedFacts Tryz.pinned.checked.prog 8 Tryz.f8 Rows.pairAddsSpec Rows.pairAddsRow = true := by kernel_rfl
end Go.Proofs.YtcchjofjpflbhaaGreatDoor.pairAdds
