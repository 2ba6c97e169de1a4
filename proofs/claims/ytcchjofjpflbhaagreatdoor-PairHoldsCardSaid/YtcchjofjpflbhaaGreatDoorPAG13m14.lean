/- -/
import Derived.Test.YtcchjofjpflbhaaGreatDoorPAG9m14
import Derived.Test.YtcchjofjpflbhaaGreatDoorPAG13
set_option linter.unusedVariables false
set_option linter.unusedSimpArgs false
set_option maxRecDepth 100000
set_option maxHeartbeats 400000
namespace Go.Proofs.YtcchjofjpflbhaaGreatDoor.Ch
open Go.RowKit Go.Shelf Go.Proofs.YtcchjofjpflbhaaGreatDoor.C Go.Proofs.YtcchjofjpflbhaaGreatDoor.E Go.Proofs.YtcchjofjpflbhaaGreatDoor.Rg

def sumsD (P Q n:Nat) (css:List (List (List UInt8))) (fr:List (List UInt8)) (L:List Int) (f:Int):Nat→List (List UInt8)
 | 0=>fr
 | m+1=>if (m:Int)∈L then sumsD P Q n css fr L f m else putC (sumsD P Q n css fr L f m) (turnC P Q n (css[m]?.getD []) ((m:Int) * f))
section
variable {P Q n:Nat} {css:List (List (List UInt8))} {fr:List (List UInt8)} {L:List Int} {f:Int}
theorem sumsD_good (d:Dims P Q n) (hf:GoodC Q n fr):∀ m,GoodC Q n (sumsD P Q n css fr L f m)
 | 0=>hf
 | m+1=>by
   unfold sumsD
   split
   · exact sumsD_good d hf m
   · exact put_good d.h1 d.h64 (sumsD_good d hf m)
theorem bt_sumsD (d:Dims P Q n) (hf:GoodC Q n fr) (j:Nat) (r:Int):∀ m:Nat,(∀ c:Nat,c<m→(c:Int)∉L→GoodC Q n (css[c]?.getD []))→Bt P Q n (sumsD P Q n css fr L f m) j r=Bt P Q n fr j r ^^^ xa ((List.range m).map fun c:Nat=>if (c:Int)∈L then 0 else tu ((c:Int) * f) (Bt P Q n (css[c]?.getD []) j) r)
 | 0,_=>by
   show Bt P Q n fr j r = _
   rw [List.range_zero,List.map_nil,xa_nil,UInt8.xor_zero]
 | m+1,hg=>by
   have ih:=bt_sumsD d hf j r m (fun c hc=>hg c (by omega))
   rw [List.range_succ,List.map_append,xa_append,List.map_cons,List.map_nil,xa_cons,xa_nil,UInt8.xor_zero]
   unfold sumsD
   split
   · rw [ih,UInt8.xor_zero]
   · rename_i h
     have g1:=hg m (by omega) h
     rw [bt_put d.hQ (sumsD_good d hf m) (turn_good d.h1 d.h64 g1 _),ih,bt_turn d.hQ g1,UInt8.xor_assoc]
end
section
variable {P Q n:Nat} {css:List (List (List UInt8))} {L:List Int}
end
section
variable {P Q n:Nat} {R D:List (List UInt8)} {a b:Int}
end
/- What is put upon one another solves what is put upon one another. -/
section
variable {P Q n:Nat} {R D A B R' D' A' B':List (List UInt8)} {a b:Int}
end
/- Sums of which some lack. -/
/- Of what EVENODD made two columns,or one,are lost. -/
section
variable {P Q n:Nat} {css cs2:List (List (List UInt8))}
variable {L:List Int}
end
end Go.Proofs.YtcchjofjpflbhaaGreatDoor.Ch

namespace Go.Proofs.YtcchjofjpflbhaaGreatDoor.Ch
open Go.RowKit Go.Shelf Go.Proofs.YtcchjofjpflbhaaGreatDoor.C Go.Proofs.YtcchjofjpflbhaaGreatDoor.E Go.Proofs.YtcchjofjpflbhaaGreatDoor.Rg Go.Proofs.YtcchjofjpflbhaaGreatDoor.T

section
variable {P Q n:Nat} {css:List (List (List UInt8))} {L:List Int}
theorem bt_rsP (d:Dims P Q n) (hcl:css.length=P+1) (hg:∀ c,c<P+1→GoodC Q n (css[c]?.getD [])) (j:Nat) (r:Int) :
 Bt P Q n (rsP P Q css) j r=xa ((List.range P).map fun c:Nat=>Bt P Q n (css[c]?.getD []) j r):=by
 obtain ⟨hok,hn⟩:=takeP_ok d hcl hg
 unfold rsP
 rw [bt_rows d hok hn]
 congr 1
 refine List.map_congr_left fun c hc=>?_
 rw [take_at _ _ (List.mem_range.1 hc)]
end
section
variable {P Q n:Nat} {c:List (List UInt8)}
end
section
variable {P Q n:Nat} {css:List (List (List UInt8))} {A B:List (List UInt8)} {a b:Int} {L:List Int}
theorem rsP_is (d:Dims P Q n) (hl:css.length=P+1) (hgood:∀ i:Nat,i<css.length→(i:Int)∉L→GoodC Q n (css[i]?.getD [])):rsP P Q (lostC L Q n css)=sumsD P Q n css (noC Q n) L 0 P:=by
 have hgl:=lostC_goods d hgood
 have hll:(lostC L Q n css).length=P+1:=by rw [lostC_len,hl]
 have gN:=noC_good (Q:=Q) d.h1 d.h64
 refine col_ext d.hQ (rsP_good d hll (fun c hc=>hgl c (by omega))) (sumsD_good d gN P) fun j r=>?_
 rw [bt_rsP d hll (fun c hc=>hgl c (by omega)),bt_sumsD d gN j r P (fun c hc=>hgood c (by omega)),bt_noC d.hQ,UInt8.zero_xor]
 congr 1
 refine List.map_congr_left fun c hc=>?_
 have hc':=List.mem_range.1 hc
 rw [bt_lost d (by omega)]
 split
 · rfl
 · rw [Int.mul_zero,tu_zero (Bt.per d.hQ _ j).2]
end
/- Along an arm. -/
section
variable {P Q n:Nat} {R D A B:List (List UInt8)} {x y:Int}
end
end Go.Proofs.YtcchjofjpflbhaaGreatDoor.Ch
