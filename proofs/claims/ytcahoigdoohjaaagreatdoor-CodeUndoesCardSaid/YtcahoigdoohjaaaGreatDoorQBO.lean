/- -/
import Derived.Test.YtcahoigdoohjaaaGreatDoorQBL
import Derived.Test.YtcahoigdoohjaaaGreatDoorQBJ
set_option maxRecDepth 100000
namespace Go.Proofs.YtcahoigdoohjaaaGreatDoor.codeUndoes
open Go.ChangeShapes Go.WideShapes Go.ChangeAt Go.RowKit Go.Shelf
attribute [local go_sem] Oper.semAt_some

theorem over : Rows.codeUndoesRow.holds Tryz.pinned (OpenSpec.ofChange Rows.codeUndoesSpec) :=
 OpenClaim.holds_of_wide 9 Tryz.f9 rfl rfl rfl rfl rfl rfl rfl ⟨rfl, rfl, rfl, rfl, rfl⟩ rfl rfl rfl rfl rfl (by kernel_rfl) Tryz.func9 joined
  (of_decide_eq_true (by kernel_rfl)) (by unfold Func.isWrapper; first | (rw [if_pos (by decide +kernel)]; kernel_rfl) | (rw [if_neg (by decide +kernel)]; exact ⟨rfl, rfl⟩))
  (fun os started H enc _ => lifted os started H enc)

end Go.Proofs.YtcahoigdoohjaaaGreatDoor.codeUndoes
