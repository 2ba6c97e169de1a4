/- -/
import Derived.Test.YtfihlelhpmjpaaaGreatDoorCRO
import Derived.Test.YtfihlelhpmjpaaaGreatDoorCRG21m4
import Derived.Test.YtfihlelhpmjpaaaGreatDoorCards
import Derived.Test.YtfihlelhpmjpaaaGreatDoorTie
import Derived.SevenTiedAt
namespace Go.Proofs.YtfihlelhpmjpaaaGreatDoor.chainAdds
open Go.ChangeShapes Go.WideShapes Go.ChangeAt Go.RowKit Go.Shelf
set_option linter.unusedVariables false
set_option linter.unusedSimpArgs false
attribute [local go_sem] Oper.semAt_some

theorem chainAdds_holds : Rows.ChainAddsCardSaid :=
  Claim7.holds_tied_plain_at .later [] [.data, .data] true (true, "04234f3f060f9d3c1fcc54ee3ea50096c353507eb5b730862edaf3c413619c3f") true over (fun _ h => by cases h) (by kernel_rfl) (fun _ h => by cases h) chainAdds_row_tie rfl ⟨rfl, rfl⟩ (by kernel_rfl) rfl
    (fun f fn hf hfn => by
      obtain rfl : f = 6 := Option.some.inj ((show Tryz.prog.funcNamed "palisade/palisadelaw11.ChainAdds" = some 6 by kernel_rfl).symm.trans hf) |>.symm
      obtain rfl : fn = Tryz.f6 := (Option.some.inj (Tryz.func6.symm.trans hfn)).symm
      exact ⟨by kernel_rfl, fun j t ht => by
        rw [Tryz.params6] at ht
        have hm : t ∈ [3, 22, 22, 43] := by simpa using Array.mem_of_getElem? ht
        have hall : ([3, 22, 22, 43].all fun u => !Tryz.prog.wantsStandIn u) = true := by kernel_rfl
        exact (show Tryz.prog.wantsStandIn t = false by simpa using List.all_eq_true.1 hall t hm)⟩)
    (by kernel_rfl)
end Go.Proofs.YtfihlelhpmjpaaaGreatDoor.chainAdds
