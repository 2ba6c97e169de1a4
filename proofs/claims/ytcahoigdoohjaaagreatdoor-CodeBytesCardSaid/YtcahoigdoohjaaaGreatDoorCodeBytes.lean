/- -/
import Derived.Test.YtcahoigdoohjaaaGreatDoorVXO
import Derived.Test.YtcahoigdoohjaaaGreatDoorVSA
import Derived.Test.YtcahoigdoohjaaaGreatDoorCards
import Derived.Test.YtcahoigdoohjaaaGreatDoorTie
import Derived.SevenTiedAt
import Derived.Test.YtcahoigdoohjaaaGreatDoorVW
namespace Go.Proofs.YtcahoigdoohjaaaGreatDoor.codeBytes
open Go.ChangeShapes Go.WideShapes Go.ChangeAt Go.RowKit Go.Shelf
set_option linter.unusedVariables false
set_option linter.unusedSimpArgs false
attribute [local go_sem] Oper.semAt_some

theorem codeBytes_holds : Rows.CodeBytesCardSaid :=
  Claim7.holds_tied_plain_at .later [] [.data, .data] true (true, "7a0749fccd180dd1b1ae0f2f239991957551ec38c83e64890ec513dd8a8a5173") true over (fun _ h => by cases h) (by kernel_rfl) (fun _ h => by cases h) codeBytes_row_tie rfl ⟨rfl, rfl⟩ (by kernel_rfl) rfl
    (fun f fn hf hfn => by
      obtain rfl : f = 10 := Option.some.inj ((show Tryz.prog.funcNamed "palisade/palisadelaw09.CodeBytes" = some 10 by kernel_rfl).symm.trans hf) |>.symm
      obtain rfl : fn = Tryz.f10 := (Option.some.inj (Tryz.func10.symm.trans hfn)).symm
      exact ⟨by kernel_rfl, fun j t ht => by
        rw [Tryz.params10] at ht
        have hm : t ∈ [24, 25, 3] := by simpa using Array.mem_of_getElem? ht
        have hall : ([24, 25, 3].all fun u => !Tryz.prog.wantsStandIn u) = true := by kernel_rfl
        exact (show Tryz.prog.wantsStandIn t = false by simpa using List.all_eq_true.1 hall t hm)⟩)
    (by kernel_rfl)
end Go.Proofs.YtcahoigdoohjaaaGreatDoor.codeBytes
