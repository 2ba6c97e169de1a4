/- chain: the mathematics of the document's formula,and of what EVENODD made. -/
import Derived.Test.YtfihlelhpmjpaaaGreatDoorCRG5m4
import Derived.Test.YtfihlelhpmjpaaaGreatDoorCRG19m5
namespace Go.Proofs.YtfihlelhpmjpaaaGreatDoor.Ch
open Go.RowKit Go.Shelf Go.Proofs.YtfihlelhpmjpaaaGreatDoor.C Go.Proofs.YtfihlelhpmjpaaaGreatDoor.E Go.Proofs.YtfihlelhpmjpaaaGreatDoor.Rg
set_option linter.unusedSimpArgs false
set_option linter.unusedVariables false

section
variable {P Q n:Nat} {css:List (List (List UInt8))} {fr:List (List UInt8)} {L:List Int} {f:Int}
end
section
variable {P Q n:Nat} {css:List (List (List UInt8))} {L:List Int}
end
section
variable {P Q n:Nat} {R D:List (List UInt8)} {a b:Int}
end
/- What is put upon one another solves what is put upon one another. -/
section
variable {P Q n:Nat} {R D A B R' D' A' B':List (List UInt8)} {a b:Int}
theorem solves_add (d:Dims P Q n) {R2 D2:List (List UInt8)} (h:Solves P Q n R D A B a b) (h':Solves P Q n R' D' A' B' a b) (hR:∀ j r,Bt P Q n R2 j r=Bt P Q n R j r ^^^ Bt P Q n R' j r) (hD:∀ j r,Bt P Q n D2 j r=Bt P Q n D j r ^^^ Bt P Q n D' j r):Solves P Q n R2 D2 (putC A A') (putC B B') a b:=by
  have eA:∀ j,Bt P Q n (putC A A') j=fun r=>Bt P Q n A j r ^^^ Bt P Q n A' j r:=fun j=>funext fun r=>bt_put d.hQ h.gA h'.gA j r
  have eB:∀ j,Bt P Q n (putC B B') j=fun r=>Bt P Q n B j r ^^^ Bt P Q n B' j r:=fun j=>funext fun r=>bt_put d.hQ h.gB h'.gB j r
  refine ⟨put_good d.h1 d.h64 h.gA,put_good d.h1 d.h64 h.gB,fun j r=>?_,fun j r=>?_⟩
  · rw [hR,h.hR,h'.hR,eA,eB]
    simp only [UInt8.xor_assoc,UInt8.xor_comm,xlc,xx,UInt8.xor_self,UInt8.xor_zero,UInt8.zero_xor]
  · rw [hD,h.hD,h'.hD,eA,eB,tu_add,tu_add]
    simp only [UInt8.xor_assoc,UInt8.xor_comm,xlc,xx,UInt8.xor_self,UInt8.xor_zero,UInt8.zero_xor]
end
/- Sums of which some lack. -/
/- Of what EVENODD made two columns,or one,are lost. -/
section
variable {P Q n:Nat} {css cs2:List (List (List UInt8))}
variable {L:List Int}
end
end Go.Proofs.YtfihlelhpmjpaaaGreatDoor.Ch

