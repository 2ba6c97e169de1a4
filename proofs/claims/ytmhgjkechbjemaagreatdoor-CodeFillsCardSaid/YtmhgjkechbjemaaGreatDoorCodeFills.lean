/- -/
import Derived.Test.YtmhgjkechbjemaaGreatDoorCFO
import Derived.Test.YtmhgjkechbjemaaGreatDoorCFSA
import Derived.Test.YtmhgjkechbjemaaGreatDoorCards
import Derived.Test.YtmhgjkechbjemaaGreatDoorTie
import Derived.SevenTiedAt
import Derived.Test.YtmhgjkechbjemaaGreatDoorCFG25
import Derived.Test.YtmhgjkechbjemaaGreatDoorCFG12
import Derived.Test.YtmhgjkechbjemaaGreatDoorCFG26
set_option linter.unusedVariables false
set_option linter.unusedSimpArgs false
set_option maxRecDepth 100000
set_option maxHeartbeats 20000000
namespace Go.Proofs.YtmhgjkechbjemaaGreatDoor.codeFills
open Go.ChangeShapes Go.WideShapes Go.ChangeAt Go.RowKit Go.Shelf
attribute [local go_sem] Oper.semAt_some

theorem codeFills_holds :Rows.CodeFillsCardSaid :=
 Claim7.holds_tied_plain_at .later [] [.data, .data] true (true, "6c730d49be0d00ae7bde6ec6176e18b1e1765963da0b373d456c71fced2d4a13") true over (fun _ h => by cases h) (by kernel_rfl) (fun _ h => by cases h) codeFills_row_tie rfl ⟨rfl, rfl⟩ (by kernel_rfl) rfl
  (fun f fn hf hfn=>by
   obtain rfl : f = 4 := Option.some.inj ((show Tryz.prog.funcNamed "palisade/palisadelaw09.CodeFills" = some 4 by kernel_rfl).symm.trans hf) |>.symm
   obtain rfl:fn = Tryz.f4 := (Option.some.inj (Tryz.func4.symm.trans hfn)).symm
   exact ⟨by kernel_rfl,fun j t ht=>by
    rw [Tryz.params4] at ht
    have hm:t∈[24,32,3] := by simpa using Array.mem_of_getElem? ht
    have hall:([24,32,3].all fun u=>!Tryz.prog.wantsStandIn u) = true := by kernel_rfl
    exact (show Tryz.prog.wantsStandIn t = false by simpa using List.all_eq_true.1 hall t hm)⟩)
  (by kernel_rfl)
end Go.Proofs.YtmhgjkechbjemaaGreatDoor.codeFills
