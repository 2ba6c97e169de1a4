/- -/
import Derived.Test.YtcahoigdoohjaaaGreatDoorVXL
import Derived.Test.YtcahoigdoohjaaaGreatDoorVXJ
import Derived.Test.YtcahoigdoohjaaaGreatDoorVSA
import Derived.Test.YtcahoigdoohjaaaGreatDoorCards
import Derived.Test.YtcahoigdoohjaaaGreatDoorTie
import Derived.SevenTiedAt
import Derived.Test.YtcahoigdoohjaaaGreatDoorVW
namespace Go.Proofs.YtcahoigdoohjaaaGreatDoor.codeBytes
open Go.ChangeShapes Go.WideShapes Go.ChangeAt Go.RowKit Go.Shelf
set_option linter.unusedVariables false
set_option linter.unusedSimpArgs false
attribute [local go_sem] Oper.semAt_some

theorem over : Rows.codeBytesRow.holds Tryz.pinned (OpenSpec.ofChange Rows.codeBytesSpec) :=
  OpenClaim.holds_of_wide 10 Tryz.f10 rfl rfl rfl rfl rfl rfl rfl ⟨rfl, rfl, rfl, rfl, rfl⟩ rfl rfl rfl rfl rfl (by kernel_rfl) Tryz.func10 joined
    (of_decide_eq_true (by kernel_rfl)) (by unfold Func.isWrapper; first | (rw [if_pos (by decide +kernel)]; kernel_rfl) | (rw [if_neg (by decide +kernel)]; exact ⟨rfl, rfl⟩))
    (fun os started H enc _ => lifted os started H enc)

end Go.Proofs.YtcahoigdoohjaaaGreatDoor.codeBytes
