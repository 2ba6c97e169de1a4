/- -/
import Derived.Laws.StructEq
import Derived.Maps.OwnIn
import Derived.Test.YtcchjofjpflbhaaGreatDoorPAG8m7
import Derived.Test.YtcchjofjpflbhaaGreatDoorPAG12m13
set_option linter.unusedVariables false
set_option linter.unusedSimpArgs false
set_option maxRecDepth 100000
set_option maxHeartbeats 400000
namespace Go.Proofs.YtcchjofjpflbhaaGreatDoor.T
open Go.RowKit Go.Shelf Go.Maps Go.Proofs.YtcchjofjpflbhaaGreatDoor.C Go.Proofs.YtcchjofjpflbhaaGreatDoor.E Go.Proofs.YtcchjofjpflbhaaGreatDoor.Ch
attribute [local go_sem] Oper.semAt_some

theorem bad_pr {p a b:Int} (h:¬ (0≤a∧a<b∧b<p)):∃ z,z < [a,b].length∧(∀ i,i<z→Pr.GoodL p [a,b] i)∧¬ Pr.GoodL p [a,b] z:=by
 by_cases h1:0≤a∧a<p
 · refine ⟨1,by simp,fun i hi=>?_,?_⟩
   · obtain rfl:i=0:=by omega
     exact ⟨h1,.inl rfl⟩
   · rintro ⟨h2,h3⟩
     rcases h3 with h3 | h3
     · exact absurd h3 (by omega)
     · exact h ⟨h1.1,h3,h2.2⟩
 · exact ⟨0,by simp,fun i hi=>absurd hi (by omega),fun h2=>h1 h2.1⟩
end Go.Proofs.YtcchjofjpflbhaaGreatDoor.T
