/- -/
import Derived.Laws.CopyOwn
import Derived.ArgAppend
import Derived.Test.YtcchjofjpflbhaaGreatDoorPAG7m2
import Derived.Test.YtcchjofjpflbhaaGreatDoorPAG9m6
set_option linter.unusedVariables false
set_option linter.unusedSimpArgs false
set_option maxRecDepth 100000
set_option maxHeartbeats 400000
namespace Go.Proofs.YtcchjofjpflbhaaGreatDoor.Rg
open Go.RowKit Go.Shelf Go.Proofs.YtcchjofjpflbhaaGreatDoor.C Go.Proofs.YtcchjofjpflbhaaGreatDoor.E
attribute [local go_sem] Oper.semAt_some

variable {P Q n:Nat}
theorem sameY (d:Dims P Q n) (c e:List (List UInt8)) (hc:GoodC Q n c) (he:c=e) (u v:Value) (w:World) (h1:Many w.heap.size w u c) (h2:Many w.heap.size w v e) :
 Calls Tryz.prog 30 #[u,v] w fun e w'=>e = .returned (.bool true)∧Below w.heap.size w w':=by
 have hl:Q≤100000:=by have:=prm_bounds d.hp;have:=d.hQ;omega
 have h:=sameCol_any u v c e w h1 h2 (by rw [hc.1];exact hl) (by rw [←he,hc.1];exact hl)
 rwa [show decide (c=e)=true by simpa using he] at h
end Go.Proofs.YtcchjofjpflbhaaGreatDoor.Rg
