/- -/
import Derived.Test.YtfihlelhpmjpaaaGreatDoorCRG21m4
import Derived.Test.YtfihlelhpmjpaaaGreatDoorCards
import Derived.Test.YtfihlelhpmjpaaaGreatDoorTie
import Derived.SevenTiedAt
namespace Go.Proofs.YtfihlelhpmjpaaaGreatDoor.chainAdds
open Go.ChangeShapes Go.WideShapes Go.ChangeAt Go.RowKit Go.Shelf
set_option linter.unusedVariables false
set_option linter.unusedSimpArgs false
attribute [local go_sem] Oper.semAt_some

theorem joined : joinedFacts Tryz.pinned.checked.prog 6 Tryz.f6 Rows.chainAddsSpec Rows.chainAddsRow = true := by kernel_rfl
end Go.Proofs.YtfihlelhpmjpaaaGreatDoor.chainAdds
