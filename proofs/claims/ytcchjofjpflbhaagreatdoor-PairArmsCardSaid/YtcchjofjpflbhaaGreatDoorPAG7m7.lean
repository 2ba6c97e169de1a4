/- -/
import Derived.Laws.EntriesVeiled
import Derived.Test.YtcchjofjpflbhaaGreatDoorPAG4m7
import Derived.Test.YtcchjofjpflbhaaGreatDoorPAG7
set_option linter.unusedVariables false
set_option linter.unusedSimpArgs false
set_option maxRecDepth 100000
set_option maxHeartbeats 400000
namespace Go.Proofs.YtcchjofjpflbhaaGreatDoor.Pr
open Go.RowKit Go.Shelf Go.Proofs.YtcchjofjpflbhaaGreatDoor.C Go.Proofs.YtcchjofjpflbhaaGreatDoor.E

theorem need_no (y:Int) (w:World):Calls Tryz.prog 98 #[.bool false,.int .i64 y] w fun e w'=>e = .panicked (gave y)∧w=w':=by
 go_enter Tryz.func98,Tryz.ntmps98
 go_wp2
 exact ⟨rfl,rfl,rfl⟩
end Go.Proofs.YtcchjofjpflbhaaGreatDoor.Pr
