/- -/
import Derived.Test.YtcchjofjpflbhaaGreatDoorPAG15m8
import Derived.Test.YtcchjofjpflbhaaGreatDoorPAG20m12
set_option linter.unusedVariables false
set_option linter.unusedSimpArgs false
set_option maxRecDepth 100000
set_option maxHeartbeats 400000
namespace Go.Proofs.YtcchjofjpflbhaaGreatDoor.Ch
open Go.RowKit Go.Shelf Go.Proofs.YtcchjofjpflbhaaGreatDoor.C Go.Proofs.YtcchjofjpflbhaaGreatDoor.E Go.Proofs.YtcchjofjpflbhaaGreatDoor.T

section
variable {P Q n:Nat} {x y:List (List (List UInt8))} {L:List Int}
theorem put_goods (d:Rg.Dims P Q n) (gx:∀ c,c<x.length→GoodC Q n (x[c]?.getD [])):∀ c,c<(putOf x y).length→GoodC Q n ((putOf x y)[c]?.getD []):=fun c hc=>by
 rw [putOf_len] at hc
 rw [putOf_col hc]
 exact Rg.put_good d.h1 d.h64 (gx c hc)
end
theorem app_far {W U:World} {base:Nat} {v x:Value} {css ds:List (List (List UInt8))} (hU:Below W.heap.size W U) (hb:W.heap.size≤base) (hrow:RowC (fun _=>True) U base v css) (hx:Cols W.heap.size U x ds):colsR.R (fun b=>b<U.heap.size∧some b≠v.ownBlock∧True) U x ds :=
 colsR.imp (colsR_iff.2 hx) fun b hb2=>by
  have h1:b<W.heap.size:=hb2
  have h2:=hU.size
  exact ⟨by omega,fun e=>by have:=RowG.own_le hrow b e.symm;omega,trivial⟩
theorem putsY {P Q n:Nat} (d:Rg.Dims P Q n) {a b:List (List (List UInt8))} (hl:a.length≤1000) (hlb:a.length=b.length) (ga:∀ c,c<a.length→GoodC Q n (a[c]?.getD [])) (gb:∀ c,c<b.length→GoodC Q n (b[c]?.getD [])) (u v:Value) (W:World) {B:Nat} (hB:B≤W.heap.size) (h1:Cols B W u a) (h2:Cols B W v b) :
 Calls Tryz.prog 35 #[u,v] W fun e w'=>∃ z,e = .returned z∧Cols w'.heap.size w' z (putOf a b)∧Below W.heap.size W w':=by
 have hpb:=prm_bounds d.hp
 have hQ:=d.hQ
 have h64:=d.h64
 exact puts_any u v a b W hB h1 h2 hl (by omega) fun j hj=>by
  have h1:=ga j hj
  have h2:=gb j (by omega)
  refine ⟨by rw [h1.1];omega,by rw [h1.1,h2.1];exact Nat.le_refl _,fun i hi=>?_⟩
  rw [h1.1] at hi
  rw [(h1.2 i hi).2,(h2.2 i hi).2]
  exact ⟨rfl,by omega⟩
theorem two_goods {Q n:Nat} {A B:List (List UInt8)} (gA:GoodC Q n A) (gB:GoodC Q n B):∀ c,c < [A,B].length→GoodC Q n ([A,B][c]?.getD []):=fun c hc=>by
 have h2:c=0∨c=1:=by simp at hc;omega
 rcases h2 with rfl | rfl
 · exact gA
 · exact gB
theorem five_goods {Q n:Nat} {X A B A' B':List (List UInt8)} (gX:GoodC Q n X) (gA:GoodC Q n A) (gB:GoodC Q n B) (gA':GoodC Q n A') (gB':GoodC Q n B'):∀ j,j<([X] ++ [A,B] ++ [A',B']).length→GoodC Q n (([X] ++ [A,B] ++ [A',B'])[j]?.getD []):=fun j hj=>by
 have h5:j=0∨j=1∨j=2∨j=3∨j=4:=by simp at hj;omega
 rcases h5 with rfl | rfl | rfl | rfl | rfl
 · exact gX
 · exact gA
 · exact gB
 · exact gA'
 · exact gB'
end Go.Proofs.YtcchjofjpflbhaaGreatDoor.Ch

namespace Go.Proofs.YtcchjofjpflbhaaGreatDoor.Ch
open Go.RowKit Go.Shelf Go.Proofs.YtcchjofjpflbhaaGreatDoor.C Go.Proofs.YtcchjofjpflbhaaGreatDoor.E Go.Proofs.YtcchjofjpflbhaaGreatDoor.T

section
variable {P Q n:Nat} {x y:List (List (List UInt8))} {L:List Int}
theorem rsP_add (d:Rg.Dims P Q n) (hlx:x.length=P+1) (hly:y.length=P+1) (gx:∀ c,c<x.length→GoodC Q n (x[c]?.getD [])) (gy:∀ c,c<y.length→GoodC Q n (y[c]?.getD [])) (j:Nat) (r:Int) :
 Rg.Bt P Q n (rsP P Q (lostC L Q n (putOf x y))) j r=Rg.Bt P Q n (rsP P Q (lostC L Q n x)) j r ^^^ Rg.Bt P Q n (rsP P Q (lostC L Q n y)) j r:=by
 have hlp:(putOf x y).length=P+1:=putOf_len.trans hlx
 have gp:=put_goods (y:=y) d gx
 have g1:=lostC_goods (L:=L) d (fun i hi _=>gx i hi)
 have g2:=lostC_goods (L:=L) d (fun i hi _=>gy i hi)
 have g3:=lostC_goods (L:=L) d (fun i hi _=>gp i hi)
 rw [bt_rsP d (by rw [lostC_len,hlp]) (fun c hc=>g3 c (by omega)),bt_rsP d (by rw [lostC_len,hlx]) (fun c hc=>g1 c (by omega)),bt_rsP d (by rw [lostC_len,hly]) (fun c hc=>g2 c (by omega)),←xa_add]
 congr 1
 refine List.map_congr_left fun c hc=>?_
 have hc':=List.mem_range.1 hc
 rw [bt_lost d (by omega),bt_lost d (by omega),bt_lost d (by omega)]
 split
 · rfl
 · rw [putOf_col (by omega)]
   exact Rg.bt_put d.hQ (gx c (by omega)) (gy c (by omega)) j r
theorem dsP_add (d:Rg.Dims P Q n) (hlx:x.length=P+1) (hly:y.length=P+1) (gx:∀ c,c<x.length→GoodC Q n (x[c]?.getD [])) (gy:∀ c,c<y.length→GoodC Q n (y[c]?.getD [])) (hP:(P:Int)∉L) (j:Nat) (r:Int) (hr:r % (P:Int)≠(Q:Int)) :
 Rg.Bt P Q n (dsP P Q (lostC L Q n (putOf x y))) j r=Rg.Bt P Q n (dsP P Q (lostC L Q n x)) j r ^^^ Rg.Bt P Q n (dsP P Q (lostC L Q n y)) j r:=by
 have hlp:(putOf x y).length=P+1:=putOf_len.trans hlx
 have gp:=put_goods (y:=y) d gx
 have g1:=lostC_goods (L:=L) d (fun i hi _=>gx i hi)
 have g2:=lostC_goods (L:=L) d (fun i hi _=>gy i hi)
 have g3:=lostC_goods (L:=L) d (fun i hi _=>gp i hi)
 rw [bt_dsP d (by rw [lostC_len,hlp]) (fun c hc=>g3 c (by omega)) j r hr,bt_dsP d (by rw [lostC_len,hlx]) (fun c hc=>g1 c (by omega)) j r hr,bt_dsP d (by rw [lostC_len,hly]) (fun c hc=>g2 c (by omega)) j r hr,bt_lost d (by omega),bt_lost d (by omega),bt_lost d (by omega),if_neg hP,if_neg hP,if_neg hP,putOf_col (by omega)]
 have e0:Rg.Bt P Q n (putCol (x[P]?.getD []) (y[P]?.getD [])) j r=Rg.Bt P Q n (x[P]?.getD []) j r ^^^ Rg.Bt P Q n (y[P]?.getD []) j r:=Rg.bt_put d.hQ (gx P (by omega)) (gy P (by omega)) j r
 have e:xa ((List.range P).map fun c:Nat=>Rg.Bt P Q n ((lostC L Q n (putOf x y))[c]?.getD []) j (r - (c:Int)))=xa ((List.range P).map fun c:Nat=>Rg.Bt P Q n ((lostC L Q n x)[c]?.getD []) j (r - (c:Int))) ^^^ xa ((List.range P).map fun c:Nat=>Rg.Bt P Q n ((lostC L Q n y)[c]?.getD []) j (r - (c:Int))):=by
  rw [←xa_add]
  congr 1
  refine List.map_congr_left fun c hc=>?_
  have hc':=List.mem_range.1 hc
  rw [bt_lost d (by omega),bt_lost d (by omega),bt_lost d (by omega)]
  split
  · rfl
  · rw [putOf_col (by omega)]
    exact Rg.bt_put d.hQ (gx c (by omega)) (gy c (by omega)) j _
 rw [e,e0]
 simp only [UInt8.xor_assoc,UInt8.xor_comm,Rg.xlc]
theorem solvesP_two (d:Rg.Dims P Q n) {a b:Int} (ha:0≤a) (hab:a<b) (hb:b<(P:Int)) (hl:x.length=P+1) (gx:∀ c,c<x.length→GoodC Q n (x[c]?.getD [])):∃ A B,SolvesP P Q n (rsP P Q (lostC [a,b] Q n x)) (dsP P Q (lostC [a,b] Q n x)) A B a b:=by
 have hP:((P:Nat):Int)∉[a,b]:=by simp;omega
 have hgood:∀ i,i<x.length→(i:Int)∉[a,b]→GoodC Q n (x[i]?.getD []):=fun i hi _=>gx i hi
 have gN:=noC_good (Q:=Q) d.h1 d.h64
 have gW:=wholeD_good d (hgood P (by omega) hP)
 have gR:=sumsD_good (css:=x) (L:=[a,b]) (f:=0) d gN P
 have gD:=sumsD_good (css:=x) (L:=[a,b]) (f:=1) d gW P
 exact ⟨_,_,pair_is d hl hgood hP (solves_sec (a:=a) (b:=b) d gR gD (sub_mod_ne ha hab hb))⟩
end
end Go.Proofs.YtcchjofjpflbhaaGreatDoor.Ch
