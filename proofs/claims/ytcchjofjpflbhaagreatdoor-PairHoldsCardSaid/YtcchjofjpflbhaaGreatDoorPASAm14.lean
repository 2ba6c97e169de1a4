/- -/
import Derived.ShutString
import Derived.ChangeOld
import Derived.LaidMore
import Derived.Stop.Joined
import Derived.MakeChecks
import Derived.Lib.LaidTab
import Derived.Test.YtcchjofjpflbhaaGreatDoorPAMAm14
import Derived.Test.YtcchjofjpflbhaaGreatDoorPASA
set_option linter.unusedVariables false
set_option linter.unusedSimpArgs false
set_option maxRecDepth 100000
set_option maxHeartbeats 400000
namespace Go.Proofs.YtcchjofjpflbhaaGreatDoor
open Go.RowKit Go.Shelf

theorem OwnC.grown_ {w w':World} {base:Nat} {v:Value} {l:List (Int×Int)} (h:OwnC w base v l) (hg:w.grownBy w' none):OwnC w' base v l :=
 World.ownsRow.kept h hg (by cases hv:v.ownBlock <;> simp)
end Go.Proofs.YtcchjofjpflbhaaGreatDoor
