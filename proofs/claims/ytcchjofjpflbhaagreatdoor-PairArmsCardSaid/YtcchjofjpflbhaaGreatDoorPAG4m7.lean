/- -/
import Derived.BigFrame
import Derived.Deep.Matrix
import Derived.ShutString
import Derived.ChangeOld
import Derived.Laws.CopyOwn
import Derived.Laws.Tables
import Derived.Deep.WholeRow
import Derived.Test.YtcchjofjpflbhaaGreatDoorPAG1m7
import Derived.Test.YtcchjofjpflbhaaGreatDoorPAG4
set_option linter.unusedVariables false
set_option linter.unusedSimpArgs false
set_option maxRecDepth 100000
set_option maxHeartbeats 400000
namespace Go.Proofs.YtcchjofjpflbhaaGreatDoor.Rg
open Go.RowKit Go.Shelf Go.Proofs.YtcchjofjpflbhaaGreatDoor.C Go.Proofs.YtcchjofjpflbhaaGreatDoor.E

theorem need_no (w:World):Calls Tryz.prog 277 #[.bool false] w fun e w'=>e = .panicked gaveUp∧w=w':=by
 go_enter Tryz.func277,Tryz.ntmps277
 go_wp2
 exact ⟨rfl,rfl,rfl⟩
end Go.Proofs.YtcchjofjpflbhaaGreatDoor.Rg
