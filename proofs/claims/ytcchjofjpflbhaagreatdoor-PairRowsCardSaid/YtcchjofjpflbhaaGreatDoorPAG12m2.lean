/- -/
import Derived.Laws.StructEq
import Derived.Maps.OwnIn
import Derived.Test.YtcchjofjpflbhaaGreatDoorPAG9m2
import Derived.Test.YtcchjofjpflbhaaGreatDoorPAG11m6
import Derived.Test.YtcchjofjpflbhaaGreatDoorPAG12
set_option linter.unusedVariables false
set_option linter.unusedSimpArgs false
set_option maxRecDepth 100000
set_option maxHeartbeats 4000000
namespace Go.Proofs.YtcchjofjpflbhaaGreatDoor.T
open Go.RowKit Go.Shelf Go.Maps Go.Proofs.YtcchjofjpflbhaaGreatDoor.C Go.Proofs.YtcchjofjpflbhaaGreatDoor.E
attribute [local go_sem] Oper.semAt_some

theorem pAlone_any (lv dv nv:Value) (p:Int) (A:Option Addr) (k c:Nat) (hl:lv.oneCell'=true) (w:World) :
 Calls Tryz.prog 73 #[.agg #[.int .i64 2,.int .i64 p,.slice A k c,lv,dv,nv]] w fun e w'=>e = .returned lv∧Below w.heap.size w w':=by
 have b:=Blk.new w 99 #[.int .i64 2,.int .i64 p,.slice A k c,lv,dv,nv]
 have hB:=below_one w (.cells #[.int .i64 2,.int .i64 p,.slice A k c,lv,dv,nv] 99)
 have k3:=b.cell 3
 simp only [gz9] at k3
 go_enter Tryz.func73,Tryz.ntmps73
 go_wp2
 go_ret
 exact ⟨rfl,hB⟩
end Go.Proofs.YtcchjofjpflbhaaGreatDoor.T
