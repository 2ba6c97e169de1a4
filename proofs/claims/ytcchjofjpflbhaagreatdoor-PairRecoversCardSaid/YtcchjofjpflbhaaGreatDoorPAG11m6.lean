/- -/
import Derived.Deep.Upon
import Derived.Test.YtcchjofjpflbhaaGreatDoorPAG9m6
import Derived.Test.YtcchjofjpflbhaaGreatDoorPAG11
set_option linter.unusedVariables false
set_option linter.unusedSimpArgs false
set_option maxRecDepth 100000
set_option maxHeartbeats 400000
namespace Go.Proofs.YtcchjofjpflbhaaGreatDoor.T
open Go.RowKit Go.Shelf Go.Maps Go.Proofs.YtcchjofjpflbhaaGreatDoor.C Go.Proofs.YtcchjofjpflbhaaGreatDoor.E Go.Proofs.YtcchjofjpflbhaaGreatDoor.Pr
attribute [local go_sem] Oper.semAt_some

def GaveP (y:Int) (U:World):Exit→Act→World→Prop:=fun e a w'=>e = .panic (Pr.gave y)∧a.defers = []∧Below U.heap.size U w'
end Go.Proofs.YtcchjofjpflbhaaGreatDoor.T
