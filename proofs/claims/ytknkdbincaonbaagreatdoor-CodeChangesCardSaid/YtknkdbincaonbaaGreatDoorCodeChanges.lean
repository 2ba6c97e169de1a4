/- -/
import Derived.Test.YtknkdbincaonbaaGreatDoorCCO
import Derived.Test.YtknkdbincaonbaaGreatDoorCCSA
import Derived.Test.YtknkdbincaonbaaGreatDoorCards
import Derived.Test.YtknkdbincaonbaaGreatDoorTie
import Derived.SevenTiedAt
import Derived.Test.YtknkdbincaonbaaGreatDoorCCG26
set_option linter.unusedVariables false
set_option linter.unusedSimpArgs false
set_option maxRecDepth 100000
set_option maxHeartbeats 20000000
namespace Go.Proofs.YtknkdbincaonbaaGreatDoor.codeChanges
open Go.ChangeShapes Go.WideShapes Go.ChangeAt Go.RowKit Go.Shelf
attribute [local go_sem] Oper.semAt_some

theorem codeChanges_holds : Rows.CodeChangesCardSaid :=
 Claim7.holds_tied_plain_at .later [] [.data, .data] true (true, "949c9c51e4dbada13ada43c8998ae0c1990191e280277071bc35dcfcc800ea2b") true over (fun _ h => by cases h) (by kernel_rfl) (fun _ h => by cases h) codeChanges_row_tie rfl ⟨rfl, rfl⟩ (by kernel_rfl) rfl
  (fun f fn hf hfn=>by
   obtain rfl : f = 5 := Option.some.inj ((show Tryz.prog.funcNamed "palisade/palisadelaw09.CodeChanges" = some 5 by kernel_rfl).symm.trans hf) |>.symm
   obtain rfl:fn = Tryz.f5:=(Option.some.inj (Tryz.func5.symm.trans hfn)).symm
   exact ⟨by kernel_rfl,fun j t ht=>by
    rw [Tryz.params5] at ht
    have hm:t∈[24,25,53,32]:=by simpa using Array.mem_of_getElem? ht
    have hall:([24,25,53,32].all fun u=>!Tryz.prog.wantsStandIn u)=true:=by kernel_rfl
    exact (show Tryz.prog.wantsStandIn t=false by simpa using List.all_eq_true.1 hall t hm)⟩)
  (by kernel_rfl)
end Go.Proofs.YtknkdbincaonbaaGreatDoor.codeChanges
