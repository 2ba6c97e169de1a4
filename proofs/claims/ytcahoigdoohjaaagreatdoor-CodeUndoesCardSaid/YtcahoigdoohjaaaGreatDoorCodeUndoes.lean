/- -/
import Derived.Test.YtcahoigdoohjaaaGreatDoorQBO
set_option maxRecDepth 100000
namespace Go.Proofs.YtcahoigdoohjaaaGreatDoor.codeUndoes
open Go.ChangeShapes Go.WideShapes Go.ChangeAt Go.RowKit Go.Shelf
attribute [local go_sem] Oper.semAt_some

theorem codeUndoes_holds : Rows.CodeUndoesCardSaid :=
 Claim7.holds_tied_plain_at .later [] [.data, .data] true (true, "7a0749fccd180dd1b1ae0f2f239991957551ec38c83e64890ec513dd8a8a5173") true over (fun _ h => by cases h) (by kernel_rfl) (fun _ h => by cases h) codeUndoes_row_tie rfl ⟨rfl, rfl⟩ (by kernel_rfl) rfl
  (fun f fn hf hfn => by
   obtain rfl : f = 9 := Option.some.inj ((show Tryz.prog.funcNamed "palisade/palisadelaw09.CodeUndoes" = some 9 by kernel_rfl).symm.trans hf) |>.symm
   obtain rfl : fn = Tryz.f9 := (Option.some.inj (Tryz.func9.symm.trans hfn)).symm
   exact ⟨by kernel_rfl, fun j t ht => by
    rw [Tryz.params9] at ht
    have hm : t ∈ [24, 25, 76, 71] := by simpa using Array.mem_of_getElem? ht
    have hall : ([24, 25, 76, 71].all fun u => !Tryz.prog.wantsStandIn u) = true := by kernel_rfl
    exact (show Tryz.prog.wantsStandIn t = false by simpa using List.all_eq_true.1 hall t hm)⟩)
  (by kernel_rfl)
end Go.Proofs.YtcahoigdoohjaaaGreatDoor.codeUndoes
