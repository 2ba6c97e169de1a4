/- -/
import Derived.Test.YtkllhjhkcipkoaaGreatDoorTH2O
import Derived.Test.YtkllhjhkcipkoaaGreatDoorCards
import Derived.Test.YtkllhjhkcipkoaaGreatDoorTie
import Derived.SevenTiedAt
namespace Go.Proofs.YtkllhjhkcipkoaaGreatDoor.tripleHolds
open Go.ChangeShapes Go.WideShapes Go.ChangeAt Go.RowKit Go.Shelf
set_option linter.unusedVariables false
set_option linter.unusedSimpArgs false
attribute [local go_sem] Oper.semAt_some

theorem tripleHolds_holds : Rows.TripleHoldsCardSaid :=
  Claim7.holds_tied_plain_at .later [] [.data, .data] true (true, "4dc88bd1b8ebf12f00d18a3d1e7d7061d1af803e74bbf9a527b04c62e08283fc") true over (fun _ h => by cases h) (by kernel_rfl) (fun _ h => by cases h) tripleHolds_row_tie rfl ⟨rfl, rfl⟩ (by kernel_rfl) rfl
    (fun f fn hf hfn => by
      obtain rfl : f = 6 := Option.some.inj ((show Tryz.prog.funcNamed "palisade/palisadelaw13.TripleHolds" = some 6 by kernel_rfl).symm.trans hf) |>.symm
      obtain rfl : fn = Tryz.f6 := (Option.some.inj (Tryz.func6.symm.trans hfn)).symm
      exact ⟨by kernel_rfl, fun j t ht => by
        rw [Tryz.params6] at ht
        have hm : t ∈ [3, 22, 23, 3, 41] := by simpa using Array.mem_of_getElem? ht
        have hall : ([3, 22, 23, 3, 41].all fun u => !Tryz.prog.wantsStandIn u) = true := by kernel_rfl
        exact (show Tryz.prog.wantsStandIn t = false by simpa using List.all_eq_true.1 hall t hm)⟩)
    (by kernel_rfl)
end Go.Proofs.YtkllhjhkcipkoaaGreatDoor.tripleHolds
