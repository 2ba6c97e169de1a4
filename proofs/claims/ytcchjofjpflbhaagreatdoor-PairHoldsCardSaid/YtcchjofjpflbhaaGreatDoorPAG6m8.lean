/- -/
import Derived.Test.YtcchjofjpflbhaaGreatDoorPAG4m8
import Derived.Test.YtcchjofjpflbhaaGreatDoorPAG6m12
set_option linter.unusedVariables false
set_option linter.unusedSimpArgs false
set_option maxRecDepth 100000
set_option maxHeartbeats 400000
namespace Go.Proofs.YtcchjofjpflbhaaGreatDoor.Rg
open Go.RowKit Go.Shelf Go.Maps Go.Proofs.YtcchjofjpflbhaaGreatDoor.C Go.Proofs.YtcchjofjpflbhaaGreatDoor.E
attribute [local go_sem] Oper.semAt_some

section
variable {vs ws:List Value} {Q n b0:Nat} {zA:Option Addr} {zc:Nat} {w0:World} {b b':Nat→Bool} {x5 x6 x14 x15 x16 x17 x18 x19 x20 x21 x22:Value} {w w':World}
theorem SlF.n6 {y_:Value} (h:SlF vs ws Q n b0 zA zc w0 b x5 x6 x14 x15 x16 x17 x18 x19 x20 x21 x22 w) (hf:y_ = .int .i64 (Q:Int)):SlF vs ws Q n b0 zA zc w0 (fun k=>if k=6 then true else b k) x5 x6 x14 x15 x16 x17 x18 x19 y_ x21 x22 w where
 hB:=h.hB
 f0:=h.f0
 f1:=h.f1
 f2:=h.f2
 f3:=h.f3
 f4:=h.f4
 f5:=h.f5
 f6:=fun _=>hf
 f7:=h.f7
 f8:=h.f8
 f9:=h.f9
 f10:=h.f10
theorem SlF.n8 {y_:Value} (h:SlF vs ws Q n b0 zA zc w0 b x5 x6 x14 x15 x16 x17 x18 x19 x20 x21 x22 w) (hf:∃ c,y_ = .func (.func 297) #[] #[.pointer (some ⟨c,0,none⟩)]∧w0.heap.size≤c∧Blk w c 64 #[.slice zA n zc]) (hn:b 12=false):SlF vs ws Q n b0 zA zc w0 (fun k=>if k=8 then true else b k) x5 x6 x14 x15 x16 x17 x18 x19 x20 x21 y_ w where
 hB:=h.hB
 f0:=h.f0
 f1:=h.f1
 f2:=h.f2
 f3:=h.f3
 f4:=h.f4
 f5:=h.f5
 f6:=h.f6
 f7:=h.f7
 f8:=fun _=>hf
 f9:=h.f9
 f10:=fun e=>by obtain ⟨c,y,h1,h2,h3,h4⟩:=h.f10 e;exact ⟨c,y,h1,h2,h3,fun e=>by have e:b 12=true:=e;rw [hn] at e;cases e⟩
end
end Go.Proofs.YtcchjofjpflbhaaGreatDoor.Rg
