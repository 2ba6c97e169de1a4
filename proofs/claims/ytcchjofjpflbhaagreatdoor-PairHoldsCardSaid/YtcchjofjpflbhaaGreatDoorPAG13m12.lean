/- -/
import Derived.Test.YtcchjofjpflbhaaGreatDoorPAG9m12
import Derived.Test.YtcchjofjpflbhaaGreatDoorPAG12m13
import Derived.Test.YtcchjofjpflbhaaGreatDoorPAG13m14
set_option linter.unusedVariables false
set_option linter.unusedSimpArgs false
set_option maxRecDepth 100000
set_option maxHeartbeats 400000
namespace Go.Proofs.YtcchjofjpflbhaaGreatDoor.Ch
open Go.RowKit Go.Shelf Go.Proofs.YtcchjofjpflbhaaGreatDoor.C Go.Proofs.YtcchjofjpflbhaaGreatDoor.E Go.Proofs.YtcchjofjpflbhaaGreatDoor.Rg

section
variable {P Q n:Nat} {css:List (List (List UInt8))} {fr:List (List UInt8)} {L:List Int} {f:Int}
end
section
variable {P Q n:Nat} {css:List (List (List UInt8))} {L:List Int}
end
def secX (P Q n:Nat) (R D:List (List UInt8)) (a:Int):List (List UInt8):=turnC P Q n (putC D (turnC P Q n R a)) (-a)
def secC (P Q n:Nat) (R D:List (List UInt8)) (a b:Int):List (List UInt8):=slackL P Q (wholeF Q n (secX P Q n R D a)) (b - a)
section
variable {P Q n:Nat} {R D:List (List UInt8)} {a b:Int}
theorem secX_good (d:Dims P Q n) (gR:GoodC Q n R) (gD:GoodC Q n D):GoodC Q n (secX P Q n R D a):=turn_good d.h1 d.h64 (put_good d.h1 d.h64 gD) _
theorem secC_good (d:Dims P Q n) (gR:GoodC Q n R) (gD:GoodC Q n D):GoodC Q n (secC P Q n R D a b):=slack_good d.hQ d.h1 d.h64 (secX_good d gR gD) _
theorem bt_secX (d:Dims P Q n) (gR:GoodC Q n R) (gD:GoodC Q n D) (j:Nat) (r:Int):Bt P Q n (secX P Q n R D a) j r=tu (-a) (fun r=>Bt P Q n D j r ^^^ tu a (Bt P Q n R j) r) r:=by
 unfold secX
 rw [bt_turn d.hQ (put_good d.h1 d.h64 gD)]
 congr 1
 funext s
 rw [bt_put d.hQ gD (turn_good d.h1 d.h64 gR a),bt_turn d.hQ gR]
theorem solves_sec (d:Dims P Q n) (gR:GoodC Q n R) (gD:GoodC Q n D) (hab:(b - a) % (P:Int)≠0):Solves P Q n R D (putC R (secC P Q n R D a b)) (secC P Q n R D a b) a b:=by
 have gB:=secC_good (a:=a) (b:=b) d gR gD
 have gX:=secX_good (a:=a) d gR gD
 have hA:∀ j r,Bt P Q n (putC R (secC P Q n R D a b)) j r=Bt P Q n R j r ^^^ Bt P Q n (secC P Q n R D a b) j r:=fun j r=>bt_put d.hQ gR gB j r
 refine ⟨put_good d.h1 d.h64 gR,gB,fun j r=>?_,fun j r=>?_⟩
 · rw [hA,UInt8.xor_assoc,UInt8.xor_self,UInt8.xor_zero]
 · rw [show Bt P Q n (putC R (secC P Q n R D a b)) j=fun r=>Bt P Q n R j r ^^^ Bt P Q n (secC P Q n R D a b) j r from funext (hA j)]
   refine second_is (P:=P) (Bt.per d.hQ _ j) (Bt.per d.hQ _ j) (Bt.per d.hQ _ j) (fun r=>?_) r
   rw [←bt_str d.hQ gB,←bt_secX d gR gD]
   unfold secC
   rw [str_slack d.hQ d.hp d.h1 d.h64 gX hab]
end
/- What is put upon one another solves what is put upon one another. -/
section
variable {P Q n:Nat} {R D A B R' D' A' B':List (List UInt8)} {a b:Int}
end
/- Sums of which some lack. -/
/- Of what EVENODD made two columns,or one,are lost. -/
section
variable {P Q n:Nat} {css cs2:List (List (List UInt8))}
variable {L:List Int}
end
end Go.Proofs.YtcchjofjpflbhaaGreatDoor.Ch

namespace Go.Proofs.YtcchjofjpflbhaaGreatDoor.Ch
open Go.RowKit Go.Shelf Go.Proofs.YtcchjofjpflbhaaGreatDoor.C Go.Proofs.YtcchjofjpflbhaaGreatDoor.E Go.Proofs.YtcchjofjpflbhaaGreatDoor.Rg Go.Proofs.YtcchjofjpflbhaaGreatDoor.T

section
variable {P Q n:Nat} {css:List (List (List UInt8))} {L:List Int}
theorem bt_dsP (d:Dims P Q n) (hcl:css.length=P+1) (hg:∀ c,c<P+1→GoodC Q n (css[c]?.getD [])) (j:Nat) (r:Int) (hr:r % (P:Int)≠(Q:Int)) :
 Bt P Q n (dsP P Q css) j r=Bt P Q n (css[P]?.getD []) j r ^^^ xa ((List.range P).map fun c:Nat=>Bt P Q n (css[c]?.getD []) j (r - (c:Int))):=by
 obtain ⟨hok,hn⟩:=takeP_ok d hcl hg
 have hQ:=d.hQ
 rcases row_lt hQ r with ⟨i,hi,e⟩ | e
 · rw [bt_at hQ _ j hi e,bt_at hQ (css[P]?.getD []) j hi e]
   unfold dsP
   rw [row_get Q _ hi]
   unfold dcP
   rw [at_xorOf (n:=n) (by simp) (dcP_ok d hcl hg hi)]
   simp only [List.map_cons,List.map_nil,xa_cons,xa_nil,UInt8.xor_zero]
   have e1:at_ ((diagsMade (P:Int) Q (css.take P))[i]?.getD []) j=dg_ (P:Int) (css.take P) j ((P:Int) - 1) ^^^ dg_ (P:Int) (css.take P) j (i:Int):=by
    unfold diagsMade
    rw [row_get Q _ hi,at_diagMade hok (by omega)]
   have e2:at_ (adjOf (P:Int) (css.take P)) j=dg_ (P:Int) (css.take P) j ((P:Int) - 1):=by
    unfold adjOf
    exact at_diag hok (by omega) (by omega) j
   have e3:dg_ (P:Int) (css.take P) j (i:Int)=xa ((List.range P).map fun c:Nat=>Bt P Q n (css[c]?.getD []) j (r - (c:Int))):=by
    rw [dg_bt d]
    congr 1
    refine List.map_congr_left fun c hc=>?_
    rw [take_at _ _ (List.mem_range.1 hc)]
    exact (Bt.per hQ _ j).1 _ _ (mod_sub (by rw [e,Int.emod_eq_of_lt (by omega) (by omega)]) _)
   rw [e1,e2,e3]
   simp only [UInt8.xor_assoc,UInt8.xor_comm,xlc,xx,UInt8.xor_self,UInt8.xor_zero,UInt8.zero_xor]
 · exact absurd (by rw [e,last_mod hQ]) hr
end
theorem al_zero (P:Nat):al P (fun _=>0)=0:=by
 unfold al
 rw [List.map_const',xa_zero]
theorem al_xa (P:Nat) {α:Type} (l:List α) (f:α→Int→UInt8):al P (fun r=>xa (l.map fun c=>f c r))=xa (l.map fun c=>al P (f c)):=by
 induction l with
 | nil=>exact al_zero P
 | cons x l ih =>
   rw [List.map_cons,xa_cons,←ih,←al_add]
   congr 1
   funext r
   rw [List.map_cons,xa_cons]
section
variable {P Q n:Nat} {c:List (List UInt8)}
def leftD (n:Nat) (c:List (List UInt8)):List UInt8:=xors (List.replicate n 0) c
def wholeD (n:Nat) (c:List (List UInt8)):List (List UInt8):=c.map fun l=>xorB l (leftD n c)
theorem good_len (hc:GoodC Q n c):∀ l∈c,l.length=n:=fun l hl=>by
 obtain ⟨i,hi,rfl⟩:=List.getElem_of_mem hl
 have:=(hc.2 i (by rw [←hc.1];exact hi)).2
 rwa [List.getElem?_eq_getElem hi] at this
theorem leftD_len (hc:GoodC Q n c):(leftD n c).length=n:=by
 unfold leftD
 rw [xors_len]
 simp
theorem leftD_at (hQ:P=Q+1) (hc:GoodC Q n c) (j:Nat):at_ (leftD n c) j=al P (Bt P Q n c j):=by
 unfold leftD
 rw [at_upon (good_len hc),al_list hQ hc]
theorem wholeD_good (d:Dims P Q n) (hc:GoodC Q n c):GoodC Q n (wholeD n c):=by
 refine ⟨by unfold wholeD;rw [List.length_map];exact hc.1,fun i hi=>?_⟩
 have hl:=hc.1
 have e:(wholeD n c)[i]?.getD []=xorB (c[i]?.getD []) (leftD n c):=by
  unfold wholeD
  rw [List.getElem?_map,List.getElem?_eq_getElem (by omega)]
  rfl
 have h2:(xorB (c[i]?.getD []) (leftD n c)).length=n:=by
  rw [xorB_len,(hc.2 i hi).2]
 rw [e]
 exact ⟨by unfold Cell;rw [h2];exact ⟨d.h1,d.h64⟩,h2⟩
theorem bt_wholeD (d:Dims P Q n) (hc:GoodC Q n c) (j:Nat) (r:Int):Bt P Q n (wholeD n c) j r=Bt P Q n c j r ^^^ (al P (Bt P Q n c j) ^^^ (if r % (P:Int)=(Q:Int) then al P (Bt P Q n c j) else 0)):=by
 have hQ:=d.hQ
 rcases row_lt hQ r with ⟨i,hi,e⟩ | e
 · rw [bt_at hQ _ j hi e,bt_at hQ c j hi e,if_neg (by rw [e];omega),UInt8.xor_zero,←leftD_at hQ hc]
   have hl:=hc.1
   unfold wholeD
   rw [List.getElem?_map,List.getElem?_eq_getElem (by omega)]
   show at_ (xorB c[i] (leftD n c)) j = _
   rw [at_xorB _ _ _ (by rw [leftD_len hc,good_len hc _ (List.getElem_mem _)])]
   rfl
 · rw [(Bt.per hQ _ j).1 _ _ e,(Bt.per hQ _ j).2,(Bt.per hQ c j).1 _ _ e,(Bt.per hQ c j).2,if_pos (by rw [e,last_mod hQ]),UInt8.xor_self]
   rfl
theorem al_wholeD (d:Dims P Q n) (hc:GoodC Q n c) (j:Nat):al P (Bt P Q n (wholeD n c) j)=al P (Bt P Q n c j):=by
 have hQ:=d.hQ
 rw [show Bt P Q n (wholeD n c) j=fun r=>Bt P Q n c j r ^^^ (al P (Bt P Q n c j) ^^^ (if r % (P:Int)=(Q:Int) then al P (Bt P Q n c j) else 0)) from funext (bt_wholeD d hc j),al_add,al_add (x:=fun _=>al P (Bt P Q n c j)),al_const hQ d.hp]
 have e:al P (fun r=>if r % (P:Int)=(Q:Int) then al P (Bt P Q n c j) else 0)=al P (Bt P Q n c j):=by
  show xa ((List.range P).map fun i:Nat=>if (i:Int) % (P:Int)=(Q:Int) then al P (Bt P Q n c j) else 0) = _
  refine Eq.trans ?_ (xa_one P Q (by omega) (fun _=>al P (Bt P Q n c j)))
  congr 1
  refine List.map_congr_left fun i hi=>?_
  have hi':=List.mem_range.1 hi
  have hm:(i:Int) % (P:Int)=(i:Int):=Int.emod_eq_of_lt (by omega) (by omega)
  rw [hm]
  by_cases h:i=Q
  · rw [if_pos (by omega),if_pos h]
  · rw [if_neg (by omega),if_neg h]
 rw [e]
 simp only [UInt8.xor_assoc,UInt8.xor_comm,xlc,xx,UInt8.xor_self,UInt8.xor_zero,UInt8.zero_xor]
end
section
variable {P Q n:Nat} {css:List (List (List UInt8))} {A B:List (List UInt8)} {a b:Int} {L:List Int}
theorem pair_is (d:Dims P Q n) (hl:css.length=P+1) (hgood:∀ i:Nat,i<css.length→(i:Int)∉L→GoodC Q n (css[i]?.getD [])) (hP:(P:Int)∉L)
 (h:Solves P Q n (sumsD P Q n css (noC Q n) L 0 P) (sumsD P Q n css (wholeD n (css[P]?.getD [])) L 1 P) A B a b) :
 SolvesP P Q n (rsP P Q (lostC L Q n css)) (dsP P Q (lostC L Q n css)) A B a b:=by
 have hQ:=d.hQ
 have hgl:=lostC_goods d hgood
 have hll:(lostC L Q n css).length=P+1:=by rw [lostC_len,hl]
 have gN:=noC_good (Q:=Q) d.h1 d.h64
 have gP:=hgood P (by omega) hP
 have gW:=wholeD_good d gP
 refine ⟨h.gA,h.gB,fun j r=>?_,fun j r hr=>?_⟩
 · rw [rsP_is d hl hgood]
   exact h.hR j r
 · obtain ⟨X,hX⟩:∃ X:Nat→Int→UInt8,X=fun (c:Nat) r=>if (c:Int)∈L then 0 else Bt P Q n (css[c]?.getD []) j r:=⟨_,rfl⟩
   have hXp:∀ c,Per P (X c):=fun c=>by
    rw [hX]
    by_cases hm:(c:Int)∈L
    · simp only [if_pos hm]
      exact ⟨fun _ _ _=>rfl,rfl⟩
    · simp only [if_neg hm]
      exact Bt.per hQ _ j
   have hRx:∀ s,Bt P Q n (sumsD P Q n css (noC Q n) L 0 P) j s=xa ((List.range P).map fun c:Nat=>X c s):=fun s=>by
    rw [bt_sumsD d gN j s P (fun c hc=>hgood c (by omega)),bt_noC hQ,UInt8.zero_xor,hX]
    congr 1
    refine List.map_congr_left fun c hc=>?_
    show _=if (c:Int)∈L then 0 else _
    split
    · rfl
    · rw [Int.mul_zero,tu_zero (Bt.per hQ _ j).2]
   have hDx:∀ s,Bt P Q n (sumsD P Q n css (wholeD n (css[P]?.getD [])) L 1 P) j s=Bt P Q n (wholeD n (css[P]?.getD [])) j s ^^^ xa ((List.range P).map fun c:Nat=>tu (c:Int) (X c) s):=fun s=>by
    rw [bt_sumsD d gW j s P (fun c hc=>hgood c (by omega)),hX]
    congr 2
    refine List.map_congr_left fun c hc=>?_
    show _=(if (c:Int)∈L then (0:UInt8) else _) ^^^ (if (c:Int)∈L then (0:UInt8) else _)
    split
    · rfl
    · rw [Int.mul_one];rfl
   have hLx:Bt P Q n (dsP P Q (lostC L Q n css)) j r=Bt P Q n (css[P]?.getD []) j r ^^^ xa ((List.range P).map fun c:Nat=>X c (r - (c:Int))):=by
    rw [bt_dsP d hll (fun c hc=>hgl c (by omega)) j r hr,bt_lost d (by omega),if_neg hP,hX]
    congr 2
    refine List.map_congr_left fun c hc=>?_
    have hc':=List.mem_range.1 hc
    rw [bt_lost d (by omega)]
   have hAB:=adj_is hQ d.hp (Bt.per hQ A j) (Bt.per hQ B j) (fun r=>h.hR j r) (fun r=>h.hD j r)
   have hRf:=funext hRx
   have hDf:=funext hDx
   have hal1:al P (Bt P Q n (sumsD P Q n css (noC Q n) L 0 P) j)=xa ((List.range P).map fun c:Nat=>al P (X c)):=by
    rw [hRf]
    exact al_xa P _ fun (c:Nat) s=>X c s
   have hal2:al P (Bt P Q n (sumsD P Q n css (wholeD n (css[P]?.getD [])) L 1 P) j)=al P (Bt P Q n (css[P]?.getD []) j) ^^^ (xa ((List.range P).map fun c:Nat=>al P (X c)) ^^^ xa ((List.range P).map fun c:Nat=>X c (-1 - (c:Int)))):=by
    rw [hDf,al_add,al_wholeD d gP,al_xa P (List.range P) fun (c:Nat) s=>tu (c:Int) (X c) s,←xa_add]
    congr 2
    refine List.map_congr_left fun c _=>?_
    exact al_tu hQ d.hp (hXp c) _
   have hDr:=h.hD j r
   rw [hDx,bt_wholeD d gP,if_neg hr,UInt8.xor_zero] at hDr
   have hsum:xa ((List.range P).map fun c:Nat=>tu (c:Int) (X c) r)=xa ((List.range P).map fun c:Nat=>X c (r - (c:Int))) ^^^ xa ((List.range P).map fun c:Nat=>X c (-1 - (c:Int))):=(xa_add _ _ _)
   rw [hal1,hal2] at hAB
   rw [hsum] at hDr
   rw [hLx]
   unfold tu at hDr
   generalize xa ((List.range P).map fun c:Nat=>X c (r - (c:Int)))=u1 at *
   generalize xa ((List.range P).map fun c:Nat=>X c (-1 - (c:Int)))=u2 at *
   generalize xa ((List.range P).map fun c:Nat=>al P (X c))=u3 at *
   generalize al P (Bt P Q n (css[P]?.getD []) j)=u4 at *
   generalize Bt P Q n (css[P]?.getD []) j r=u5 at *
   generalize Bt P Q n A j (r - a)=v1 at *
   generalize Bt P Q n A j (-1 - a)=v2 at *
   generalize Bt P Q n B j (r - b)=v3 at *
   generalize Bt P Q n B j (-1 - b)=v4 at *
   apply x_of
   have e1:(u5 ^^^ u4 ^^^ (u1 ^^^ u2)) ^^^ (v1 ^^^ v2 ^^^ (v3 ^^^ v4))=0:=by rw [hDr];exact UInt8.xor_self
   have e2:(u3 ^^^ (u4 ^^^ (u3 ^^^ u2))) ^^^ (v2 ^^^ v4)=0:=by rw [hAB];exact UInt8.xor_self
   have e3:((u5 ^^^ u4 ^^^ (u1 ^^^ u2)) ^^^ (v1 ^^^ v2 ^^^ (v3 ^^^ v4))) ^^^ ((u3 ^^^ (u4 ^^^ (u3 ^^^ u2))) ^^^ (v2 ^^^ v4))=0:=by rw [e1,e2];rfl
   rw [←e3]
   simp only [UInt8.xor_assoc,UInt8.xor_comm,xlc,xx,UInt8.xor_self,UInt8.xor_zero,UInt8.zero_xor]
end
/- Along an arm. -/
section
variable {P Q n:Nat} {R D A B:List (List UInt8)} {x y:Int}
end
end Go.Proofs.YtcchjofjpflbhaaGreatDoor.Ch
