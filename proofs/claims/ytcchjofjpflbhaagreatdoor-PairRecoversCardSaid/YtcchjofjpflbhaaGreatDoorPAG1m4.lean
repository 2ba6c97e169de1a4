/- -/
import Derived.OrdersIn
import Derived.OrdersHeld
import Derived.Test.YtcchjofjpflbhaaGreatDoorPAG1m6
set_option linter.unusedVariables false
set_option linter.unusedSimpArgs false
set_option maxRecDepth 100000
set_option maxHeartbeats 400000
namespace Go.Proofs.YtcchjofjpflbhaaGreatDoor.E
open Go.RowKit Go.Shelf Go.Proofs.YtcchjofjpflbhaaGreatDoor.C

end Go.Proofs.YtcchjofjpflbhaaGreatDoor.E
