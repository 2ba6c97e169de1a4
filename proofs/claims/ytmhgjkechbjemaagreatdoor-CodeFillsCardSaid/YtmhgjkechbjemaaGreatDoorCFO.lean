/- -/
import Derived.Test.YtmhgjkechbjemaaGreatDoorCFL
import Derived.Test.YtmhgjkechbjemaaGreatDoorCFJ
import Derived.Test.YtmhgjkechbjemaaGreatDoorCFSA
import Derived.Test.YtmhgjkechbjemaaGreatDoorCards
import Derived.Test.YtmhgjkechbjemaaGreatDoorTie
import Derived.SevenTiedAt
import Derived.Test.YtmhgjkechbjemaaGreatDoorCFG25
import Derived.Test.YtmhgjkechbjemaaGreatDoorCFG12
import Derived.Test.YtmhgjkechbjemaaGreatDoorCFG26
set_option linter.unusedVariables false
set_option linter.unusedSimpArgs false
set_option maxRecDepth 100000
set_option maxHeartbeats 20000000
namespace Go.Proofs.YtmhgjkechbjemaaGreatDoor.codeFills
open Go.ChangeShapes Go.WideShapes Go.ChangeAt Go.RowKit Go.Shelf
attribute [local go_sem] Oper.semAt_some

theorem over :Rows.codeFillsRow.holds Tryz.pinned (OpenSpec.ofChange Rows.codeFillsSpec) :=
 OpenClaim.holds_of_wide 4 Tryz.f4 rfl rfl rfl rfl rfl rfl rfl ⟨rfl,rfl,rfl,rfl,rfl⟩ rfl rfl rfl rfl rfl (by kernel_rfl) Tryz.func4 joined
  (of_decide_eq_true (by kernel_rfl)) (by unfold Func.isWrapper;first | (rw [if_pos (by decide +kernel)];kernel_rfl) | (rw [if_neg (by decide +kernel)];exact ⟨rfl,rfl⟩))
  (fun os started H enc _=>lifted os started H enc)

end Go.Proofs.YtmhgjkechbjemaaGreatDoor.codeFills
