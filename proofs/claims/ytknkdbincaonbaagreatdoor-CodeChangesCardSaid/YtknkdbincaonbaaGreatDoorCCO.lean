/- -/
import Derived.Test.YtknkdbincaonbaaGreatDoorCCL
import Derived.Test.YtknkdbincaonbaaGreatDoorCCJ
import Derived.Test.YtknkdbincaonbaaGreatDoorCCSA
import Derived.Test.YtknkdbincaonbaaGreatDoorCards
import Derived.Test.YtknkdbincaonbaaGreatDoorTie
import Derived.SevenTiedAt
import Derived.Test.YtknkdbincaonbaaGreatDoorCCG26
set_option linter.unusedVariables false
set_option linter.unusedSimpArgs false
set_option maxRecDepth 100000
set_option maxHeartbeats 20000000
namespace Go.Proofs.YtknkdbincaonbaaGreatDoor.codeChanges
open Go.ChangeShapes Go.WideShapes Go.ChangeAt Go.RowKit Go.Shelf
attribute [local go_sem] Oper.semAt_some

theorem over : Rows.codeChangesRow.holds Tryz.pinned (OpenSpec.ofChange Rows.codeChangesSpec) :=
 OpenClaim.holds_of_wide 5 Tryz.f5 rfl rfl rfl rfl rfl rfl rfl ⟨rfl,rfl,rfl,rfl,rfl⟩ rfl rfl rfl rfl rfl (by kernel_rfl) Tryz.func5 joined
  (of_decide_eq_true (by kernel_rfl)) (by unfold Func.isWrapper;first | (rw [if_pos (by decide +kernel)];kernel_rfl) | (rw [if_neg (by decide +kernel)];exact ⟨rfl,rfl⟩))
  (fun os started H enc _=>lifted os started H enc)

end Go.Proofs.YtknkdbincaonbaaGreatDoor.codeChanges
