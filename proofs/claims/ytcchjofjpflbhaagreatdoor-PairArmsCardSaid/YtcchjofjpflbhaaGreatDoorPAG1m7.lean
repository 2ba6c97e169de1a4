/- -/
import Derived.OrdersIn
import Derived.OrdersHeld
import Derived.Test.YtcchjofjpflbhaaGreatDoorPACAm7
import Derived.Test.YtcchjofjpflbhaaGreatDoorPAG1
set_option linter.unusedVariables false
set_option linter.unusedSimpArgs false
set_option maxRecDepth 100000
set_option maxHeartbeats 400000
namespace Go.Proofs.YtcchjofjpflbhaaGreatDoor.E
open Go.RowKit Go.Shelf Go.Proofs.YtcchjofjpflbhaaGreatDoor.C

theorem need_no (w:World):Calls Tryz.prog 220 #[.bool false] w fun e w'=>e = .panicked gaveUp∧w=w':=by
 go_enter Tryz.func220,Tryz.ntmps220
 go_wp2
 exact ⟨rfl,rfl,rfl⟩
end Go.Proofs.YtcchjofjpflbhaaGreatDoor.E
