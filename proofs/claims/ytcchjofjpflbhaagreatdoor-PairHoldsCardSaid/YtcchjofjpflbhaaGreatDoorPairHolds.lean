/- -/
import Derived.Test.YtcchjofjpflbhaaGreatDoorPBHW
import Derived.Test.YtcchjofjpflbhaaGreatDoorPBHJ
import Derived.Test.YtcchjofjpflbhaaGreatDoorPBY
import Derived.Test.YtcchjofjpflbhaaGreatDoorCards
import Derived.Test.YtcchjofjpflbhaaGreatDoorTie
import Derived.SevenTiedAt
namespace Go.Proofs.YtcchjofjpflbhaaGreatDoor.pairHolds
open Go.ChangeShapes Go.WideShapes Go.ChangeAt Go.RowKit Go.Shelf
set_option linter.unusedVariables false
set_option linter.unusedSimpArgs false
attribute [local go_sem] Oper.semAt_some

theorem over : Rows.pairHoldsRow.holds Tryz.pinned (OpenSpec.ofChange Rows.pairHoldsSpec) :=
  OpenClaim.holds_of_wide 7 Tryz.f7 rfl rfl rfl rfl rfl rfl rfl ⟨rfl, rfl, rfl, rfl, rfl⟩ rfl rfl rfl rfl rfl (by kernel_rfl) Tryz.func7 joined
    (of_decide_eq_true (by kernel_rfl)) (by unfold Func.isWrapper; first | (rw [if_pos (by decide +kernel)]; kernel_rfl) | (rw [if_neg (by decide +kernel)]; exact ⟨rfl, rfl⟩))
    (fun os started H enc _ => lifted os started H enc)

end Go.Proofs.YtcchjofjpflbhaaGreatDoor.pairHolds

namespace Go.Proofs.YtcchjofjpflbhaaGreatDoor.pairHolds
open Go.ChangeShapes Go.WideShapes Go.ChangeAt Go.RowKit Go.Shelf
set_option linter.unusedVariables false
set_option linter.unusedSimpArgs false
attribute [local go_sem] Oper.semAt_some

theorem pairHolds_holds : Rows.PairHoldsCardSaid :=
  Claim7.holds_tied_plain_at .later [] [.data, .data] true (true, "4a506145f7380dc68eedad435a6fcef858a8a6b57bcf00ad717e77c92cb483e8") true over (fun _ h => by cases h) (by kernel_rfl) (fun _ h => by cases h) pairHolds_row_tie rfl ⟨rfl, rfl⟩ (by kernel_rfl) rfl
    (fun f fn hf hfn => by
      obtain rfl : f = 7 := Option.some.inj ((show Tryz.prog.funcNamed "palisade/palisadelaw12.PairHolds" = some 7 by kernel_rfl).symm.trans hf) |>.symm
      obtain rfl : fn = Tryz.f7 := (Option.some.inj (Tryz.func7.symm.trans hfn)).symm
      exact ⟨by kernel_rfl, fun j t ht => by
        rw [Tryz.params7] at ht
        have hm : t ∈ [3, 40, 22, 50] := by simpa using Array.mem_of_getElem? ht
        have hall : ([3, 40, 22, 50].all fun u => !Tryz.prog.wantsStandIn u) = true := by kernel_rfl
        exact (show Tryz.prog.wantsStandIn t = false by simpa using List.all_eq_true.1 hall t hm)⟩)
    (by kernel_rfl)
end Go.Proofs.YtcchjofjpflbhaaGreatDoor.pairHolds
