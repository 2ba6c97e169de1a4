/- -/
import Derived.Test.YtcchjofjpflbhaaGreatDoorPCAW
import Derived.Test.YtcchjofjpflbhaaGreatDoorPCAJ
import Derived.Test.YtcchjofjpflbhaaGreatDoorPAY
import Derived.Test.YtcchjofjpflbhaaGreatDoorCards
import Derived.Test.YtcchjofjpflbhaaGreatDoorTie
import Derived.SevenTiedAt
namespace Go.Proofs.YtcchjofjpflbhaaGreatDoor.pairArms
open Go.ChangeShapes Go.WideShapes Go.ChangeAt Go.RowKit Go.Shelf
set_option linter.unusedVariables false
set_option linter.unusedSimpArgs false
attribute [local go_sem] Oper.semAt_some

theorem over : Rows.pairArmsRow.holds Tryz.pinned (OpenSpec.ofChange Rows.pairArmsSpec) :=
  OpenClaim.holds_of_wide 3 Tryz.f3 rfl rfl rfl rfl rfl rfl rfl ⟨rfl, rfl, rfl, rfl, rfl⟩ rfl rfl rfl rfl rfl (by kernel_rfl) Tryz.func3 joined
    (of_decide_eq_true (by kernel_rfl)) (by unfold Func.isWrapper; first | (rw [if_pos (by decide +kernel)]; kernel_rfl) | (rw [if_neg (by decide +kernel)]; exact ⟨rfl, rfl⟩))
    (fun os started H enc _ => lifted os started H enc)

end Go.Proofs.YtcchjofjpflbhaaGreatDoor.pairArms

namespace Go.Proofs.YtcchjofjpflbhaaGreatDoor.pairArms
open Go.ChangeShapes Go.WideShapes Go.ChangeAt Go.RowKit Go.Shelf
set_option linter.unusedVariables false
set_option linter.unusedSimpArgs false
attribute [local go_sem] Oper.semAt_some

theorem pairArms_holds : Rows.PairArmsCardSaid :=
  Claim7.holds_tied_plain_at .later [] [.data, .data] true (true, "4a506145f7380dc68eedad435a6fcef858a8a6b57bcf00ad717e77c92cb483e8") true over (fun _ h => by cases h) (by kernel_rfl) (fun _ h => by cases h) pairArms_row_tie rfl ⟨rfl, rfl⟩ (by kernel_rfl) rfl
    (fun f fn hf hfn => by
      obtain rfl : f = 3 := Option.some.inj ((show Tryz.prog.funcNamed "palisade/palisadelaw12.PairArms" = some 3 by kernel_rfl).symm.trans hf) |>.symm
      obtain rfl : fn = Tryz.f3 := (Option.some.inj (Tryz.func3.symm.trans hfn)).symm
      exact ⟨by kernel_rfl, fun j t ht => by
        rw [Tryz.params3] at ht
        have hm : t ∈ [3, 22, 3] := by simpa using Array.mem_of_getElem? ht
        have hall : ([3, 22, 3].all fun u => !Tryz.prog.wantsStandIn u) = true := by kernel_rfl
        exact (show Tryz.prog.wantsStandIn t = false by simpa using List.all_eq_true.1 hall t hm)⟩)
    (by kernel_rfl)
end Go.Proofs.YtcchjofjpflbhaaGreatDoor.pairArms
