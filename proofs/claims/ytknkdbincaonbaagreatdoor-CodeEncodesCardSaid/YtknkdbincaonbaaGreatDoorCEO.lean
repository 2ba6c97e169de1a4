/- -/
import Derived.Test.YtknkdbincaonbaaGreatDoorCEL
import Derived.Test.YtknkdbincaonbaaGreatDoorCEJ
import Derived.Test.YtknkdbincaonbaaGreatDoorCESA
import Derived.Test.YtknkdbincaonbaaGreatDoorCards
import Derived.Test.YtknkdbincaonbaaGreatDoorTie
import Derived.SevenTiedAt
import Derived.Test.YtknkdbincaonbaaGreatDoorCEG26
import Derived.Test.YtknkdbincaonbaaGreatDoorCEG13
import Derived.Test.YtknkdbincaonbaaGreatDoorCEG27
set_option linter.unusedVariables false
set_option linter.unusedSimpArgs false
set_option maxRecDepth 100000
set_option maxHeartbeats 20000000
namespace Go.Proofs.YtknkdbincaonbaaGreatDoor.codeEncodes
open Go.ChangeShapes Go.WideShapes Go.ChangeAt Go.RowKit Go.Shelf
attribute [local go_sem] Oper.semAt_some

theorem over : Rows.codeEncodesRow.holds Tryz.pinned (OpenSpec.ofChange Rows.codeEncodesSpec) :=
 OpenClaim.holds_of_wide 3 Tryz.f3 rfl rfl rfl rfl rfl rfl rfl ⟨rfl,rfl,rfl,rfl,rfl⟩ rfl rfl rfl rfl rfl (by kernel_rfl) Tryz.func3 joined
  (of_decide_eq_true (by kernel_rfl)) (by unfold Func.isWrapper;first | (rw [if_pos (by decide +kernel)];kernel_rfl) | (rw [if_neg (by decide +kernel)];exact ⟨rfl,rfl⟩))
  (fun os started H enc _=>lifted os started H enc)

end Go.Proofs.YtknkdbincaonbaaGreatDoor.codeEncodes
