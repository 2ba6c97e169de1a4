/- -/
import Derived.Test.YtkllhjhkcipkoaaGreatDoorTH2L
import Derived.Test.YtkllhjhkcipkoaaGreatDoorTH2J
import Derived.Test.YtkllhjhkcipkoaaGreatDoorCards
import Derived.Test.YtkllhjhkcipkoaaGreatDoorTie
import Derived.SevenTiedAt
namespace Go.Proofs.YtkllhjhkcipkoaaGreatDoor.tripleHolds
open Go.ChangeShapes Go.WideShapes Go.ChangeAt Go.RowKit Go.Shelf
set_option linter.unusedVariables false
set_option linter.unusedSimpArgs false
attribute [local go_sem] Oper.semAt_some

theorem over : Rows.tripleHoldsRow.holds Tryz.pinned (OpenSpec.ofChange Rows.tripleHoldsSpec) :=
  OpenClaim.holds_of_wide 6 Tryz.f6 rfl rfl rfl rfl rfl rfl rfl ⟨rfl, rfl, rfl, rfl, rfl⟩ rfl rfl rfl rfl rfl (by kernel_rfl) Tryz.func6 joined
    (of_decide_eq_true (by kernel_rfl)) (by unfold Func.isWrapper; first | (rw [if_pos (by decide +kernel)]; kernel_rfl) | (rw [if_neg (by decide +kernel)]; exact ⟨rfl, rfl⟩))
    (fun os started H enc _ => lifted os started H enc)

end Go.Proofs.YtkllhjhkcipkoaaGreatDoor.tripleHolds
