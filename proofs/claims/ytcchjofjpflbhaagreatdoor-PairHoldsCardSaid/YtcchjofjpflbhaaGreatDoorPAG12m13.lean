/- -/
import Derived.Laws.StructEq
import Derived.Maps.OwnIn
import Derived.Test.YtcchjofjpflbhaaGreatDoorPAG12
set_option linter.unusedVariables false
set_option linter.unusedSimpArgs false
set_option maxRecDepth 100000
set_option maxHeartbeats 1000000
namespace Go.Proofs.YtcchjofjpflbhaaGreatDoor.T
open Go.RowKit Go.Shelf Go.Maps Go.Proofs.YtcchjofjpflbhaaGreatDoor.C Go.Proofs.YtcchjofjpflbhaaGreatDoor.E Go.Proofs.YtcchjofjpflbhaaGreatDoor.Ch
attribute [local go_sem] Oper.semAt_some

theorem there12_any (p a b:Int) (w:World):Calls Tryz.prog 21 #[.int .i64 p,.int .i64 a,.int .i64 b] w fun e w'=>e = .returned (.bool (decide (0≤a∧a<b∧b<p)))∧w=w':=by
 by_cases h1:0≤a
 · have d1:decide (0≤a)=true:=decide_eq_true h1
   by_cases h2:a<b
   · have d2:decide (a<b)=true:=decide_eq_true h2
     have d3:decide (0≤a∧a<b∧b<p)=decide (b<p):=by simp [h1,h2]
     rw [d3]
     go_enter Tryz.func21,Tryz.ntmps21
     go_wp2
     go_ret
     exact ⟨rfl,rfl⟩
   · have d2:decide (a<b)=false:=decide_eq_false h2
     have d3:decide (0≤a∧a<b∧b<p)=false:=decide_eq_false (fun h=>h2 h.2.1)
     rw [d3]
     go_enter Tryz.func21,Tryz.ntmps21
     go_wp2
     go_ret
     exact ⟨rfl,rfl⟩
 · have d1:decide (0≤a)=false:=decide_eq_false h1
   have d3:decide (0≤a∧a<b∧b<p)=false:=decide_eq_false (fun h=>h1 h.1)
   rw [d3]
   go_enter Tryz.func21,Tryz.ntmps21
   go_wp2
   go_ret
   exact ⟨rfl,rfl⟩
end Go.Proofs.YtcchjofjpflbhaaGreatDoor.T
