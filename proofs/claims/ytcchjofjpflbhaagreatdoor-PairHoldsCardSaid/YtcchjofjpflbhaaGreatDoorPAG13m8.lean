/- -/
import Derived.Test.YtcchjofjpflbhaaGreatDoorPAG6m8
import Derived.Test.YtcchjofjpflbhaaGreatDoorPAG13m12
set_option linter.unusedVariables false
set_option linter.unusedSimpArgs false
set_option maxRecDepth 100000
set_option maxHeartbeats 400000
namespace Go.Proofs.YtcchjofjpflbhaaGreatDoor.Ch
open Go.RowKit Go.Shelf Go.Proofs.YtcchjofjpflbhaaGreatDoor.C Go.Proofs.YtcchjofjpflbhaaGreatDoor.E Go.Proofs.YtcchjofjpflbhaaGreatDoor.Rg Go.Proofs.YtcchjofjpflbhaaGreatDoor.T

section
variable {P Q n:Nat} {css:List (List (List UInt8))} {L:List Int}
end
section
variable {P Q n:Nat} {c:List (List UInt8)}
end
section
variable {P Q n:Nat} {css:List (List (List UInt8))} {A B:List (List UInt8)} {a b:Int} {L:List Int}
theorem solvesP_add (d:Dims P Q n) {R D R' D' A' B' R2 D2:List (List UInt8)} (h:SolvesP P Q n R D A B a b) (h':SolvesP P Q n R' D' A' B' a b) (hR:∀ j r,Bt P Q n R2 j r=Bt P Q n R j r ^^^ Bt P Q n R' j r) (hD:∀ j r,r % (P:Int)≠(Q:Int)→Bt P Q n D2 j r=Bt P Q n D j r ^^^ Bt P Q n D' j r):SolvesP P Q n R2 D2 (putC A A') (putC B B') a b:=by
 have eA:∀ j r,Bt P Q n (putC A A') j r=Bt P Q n A j r ^^^ Bt P Q n A' j r:=fun j r=>bt_put d.hQ h.gA h'.gA j r
 have eB:∀ j r,Bt P Q n (putC B B') j r=Bt P Q n B j r ^^^ Bt P Q n B' j r:=fun j r=>bt_put d.hQ h.gB h'.gB j r
 refine ⟨put_good d.h1 d.h64 h.gA,put_good d.h1 d.h64 h.gB,fun j r=>?_,fun j r hr=>?_⟩
 · rw [hR,h.hR,h'.hR,eA,eB]
   simp only [UInt8.xor_assoc,UInt8.xor_comm,xlc,xx,UInt8.xor_self,UInt8.xor_zero,UInt8.zero_xor]
 · rw [hD j r hr,h.hD j r hr,h'.hD j r hr,eA,eB]
   simp only [UInt8.xor_assoc,UInt8.xor_comm,xlc,xx,UInt8.xor_self,UInt8.xor_zero,UInt8.zero_xor]
end
/- Along an arm. -/
section
variable {P Q n:Nat} {R D A B:List (List UInt8)} {x y:Int}
end
end Go.Proofs.YtcchjofjpflbhaaGreatDoor.Ch
