/- -/
import Derived.Laws.OwnMore
import Derived.Laws.EntriesVeiled
import Derived.Lib.AppendZeros
import Derived.Test.YtcchjofjpflbhaaGreatDoorPAG8m7
import Derived.Test.YtcchjofjpflbhaaGreatDoorPAG16
set_option linter.unusedVariables false
set_option linter.unusedSimpArgs false
set_option maxRecDepth 100000
set_option maxHeartbeats 400000
namespace Go.Proofs.YtcchjofjpflbhaaGreatDoor.R
open Go.RowKit Go.Shelf Go.Proofs.YtcchjofjpflbhaaGreatDoor.C Go.Proofs.YtcchjofjpflbhaaGreatDoor.E

theorem need_no (w:World):Calls Tryz.prog 269 #[.bool false] w fun e w'=>e = .panicked gaveUp∧w=w':=by
 go_enter Tryz.func269,Tryz.ntmps269
 go_wp2
 exact ⟨rfl,rfl,rfl⟩
end Go.Proofs.YtcchjofjpflbhaaGreatDoor.R
