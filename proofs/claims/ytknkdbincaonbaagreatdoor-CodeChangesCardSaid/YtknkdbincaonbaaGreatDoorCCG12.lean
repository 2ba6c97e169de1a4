/- -/
import Derived.Test.YtknkdbincaonbaaGreatDoorCCG11
import Derived.Test.YtknkdbincaonbaaGreatDoorCCG1
import Derived.Test.YtknkdbincaonbaaGreatDoorCCG6
import Derived.Test.YtknkdbincaonbaaGreatDoorCCCA
import Derived.Test.YtknkdbincaonbaaGreatDoorCCG2
import Derived.Test.YtknkdbincaonbaaGreatDoorCCG10
import Derived.Laws.OwnMore
set_option linter.unusedVariables false
set_option linter.unusedSimpArgs false
set_option maxRecDepth 100000
set_option maxHeartbeats 2000000
namespace Go.Proofs.YtknkdbincaonbaaGreatDoor.T
open Go.RowKit Go.Shelf Go.Proofs.YtknkdbincaonbaaGreatDoor.C Go.Proofs.YtknkdbincaonbaaGreatDoor.E

def lineS (p N line:Int):List (Int×Int):=(flatC p (spanL 0 N)).filter fun z=>decide ((z.2 - z.1) % p=line)
def slAt (p line:Int):List (Nat×Nat):=(lineS p p line).map natZ
def slOf (p:Int) (css:List (List (List UInt8))) (s:Int):List UInt8:=uponL (firstC css).length css (lineS p p s)
def sg_ (p:Int) (css:List (List (List UInt8))) (j:Nat) (s:Int):UInt8:=xa ((slAt p s).map fun x=>by_ css j x.1 x.2)
def slMade (p:Int) (css:List (List (List UInt8))):List (List UInt8):=(List.range (p - 1).toNat).map fun (r:Nat)=>xorB (slOf p css (r:Int)) (slOf p css (p - 1))
def starOf (p:Int) (css:List (List (List UInt8))):List (List (List UInt8)):=encOf p css ++ [slMade p css]
theorem slIn:∀ p∈prm,∀ s∈List.range p.toNat,inB (p - 1).toNat p.toNat (lineS p p (s:Int))=true:=by decide +kernel
theorem slPos:∀ p∈prm,∀ s∈List.range p.toNat,0<(lineS p p (s:Int)).length:=by decide +kernel
theorem memRow3:∀ p∈prm,∀ r∈List.range (p - 1).toNat,memL 3 p p (r:Int)=(List.range p.toNat).map fun (c:Nat)=>((c:Int),(r:Int)):=by decide +kernel
theorem memDiag3:∀ p∈prm,∀ r∈List.range (p - 1).toNat,((memL 3 p (p+1) (r:Int)).map natZ).isPerm (diagAt p (p - 1) p.toNat ++ diagAt p (r:Int) p.toNat)=true:=by decide +kernel
theorem memSlant3:∀ p∈prm,∀ r∈List.range (p - 1).toNat,((memL 3 p (p+2) (r:Int)).map natZ).isPerm (slAt p (r:Int) ++ slAt p (p - 1))=true:=by decide +kernel
theorem memIn3:∀ p∈prm,∀ r∈List.range (p - 1).toNat,∀ m∈[0,1,2],inB (p - 1).toNat p.toNat (memL 3 p (p+m) (r:Int))=true:=by decide +kernel
section
variable {p:Int} {a b css:List (List (List UInt8))}
theorem sl_in (hp:p∈prm) {s:Int} (h0:0≤s) (h1:s<p):inL (p - 1).toNat p.toNat (lineS p p s):=by
 have h:=inL_of (slIn p hp s.toNat (List.mem_range.2 (by omega)))
 rwa [show ((s.toNat:Nat):Int)=s by omega] at h
theorem sl_pos (hp:p∈prm) {s:Int} (h0:0≤s) (h1:s<p):0<(lineS p p s).length:=by
 have h:=slPos p hp s.toNat (List.mem_range.2 (by omega))
 rwa [show ((s.toNat:Nat):Int)=s by omega] at h
theorem slOf_len (s:Int):(slOf p css s).length=(firstC css).length:=uponL_len _ _ _
theorem at_sl (h:DataOk p css) {s:Int} (h0:0≤s) (h1:s<p) (j:Nat):at_ (slOf p css s) j=sg_ p css j s:=by
 have hd:=dataOk_n h
 unfold slOf sg_ slAt
 exact at_uponN ((sl_in h.1.2 h0 h1).cells (togOk_grid h.2.2) (by omega)) j
theorem slCell_len (s t:Int):(xorB (slOf p css s) (slOf p css t)).length=(firstC css).length:=by rw [xorB_len,slOf_len]
theorem at_slMade (h:DataOk p css) {r:Nat} (hr:(r:Int)<p) (j:Nat):at_ (xorB (slOf p css (r:Int)) (slOf p css (p - 1))) j=sg_ p css j r ^^^ sg_ p css j (p - 1):=by
 have hd:=dataOk_n h
 rw [at_xorB _ _ _ (by rw [slOf_len,slOf_len]),at_sl h (by omega) hr,at_sl h (by omega) (by omega)]
theorem col3_rows (h:DataOk p css):colL 3 p (firstC css).length css p=rowsMade (p - 1).toNat css:=by
 have hd:=dataOk_n h
 have hg:=togOk_grid h.2.2
 unfold colL
 refine Eq.trans ?_ (rfl:(List.range (p - 1).toNat).map (fun r=>xorOf (rowOf css r)) = _)
 refine List.map_congr_left fun r hr=>?_
 have hr':=List.mem_range.1 hr
 have hin:=inL_of (memIn3 p h.1.2 r hr 0 (by simp))
 rw [Int.add_zero] at hin
 refine ext_at (by rw [uponL_len,row_len h hr']) fun j=>?_
 rw [at_uponL (hin.cells hg (by omega)) j,at_row h hr',memRow3 p h.1.2 r hr,List.map_map]
 rfl
theorem col3_diags (h:DataOk p css) (cs:List (List UInt8)) (hcs:cs.length=(p - 1).toNat∧∀ i,i<(p - 1).toNat→(cs[i]?.getD []).length=(firstC css).length):colL 3 p (firstC css).length (css ++ [cs]) (p+1)=diagsMade p (p - 1).toNat css:=by
 have hd:=dataOk_n h
 have hg:=(togOk_grid h.2.2).snoc hcs.1 hcs.2
 unfold colL
 refine Eq.trans ?_ (rfl:(List.range (p - 1).toNat).map (fun (r:Nat)=>xorOf ([adjOf p css] ++ diagOf p r css)) = _)
 refine List.map_congr_left fun r hr=>?_
 have hr':=List.mem_range.1 hr
 have hin:=inL_of (memIn3 p h.1.2 r hr 1 (by simp))
 have hrp:(r:Int)<p:=by omega
 refine ext_at (by rw [uponL_len,diag_len h hrp]) fun j=>?_
 rw [at_uponN (hin.cells hg (by rw [List.length_append];omega)) j,at_diagMade h hrp,xa_perm ((List.isPerm_iff.1 (memDiag3 p h.1.2 r hr)).map _),List.map_append,xa_append]
 have hE:∀ a:Int,xa ((diagAt p a p.toNat).map fun x=>by_ (css ++ [cs]) j x.1 x.2)=dg_ p css j a:=fun a=>by
  unfold dg_
  congr 1
  refine List.map_congr_left fun x hx=>?_
  have:=diagAt_in (by omega) hx
  exact by_left (by omega) j x.2
 rw [hE,hE]
theorem slAt_lt (hp:p∈prm) {s:Int} (h0:0≤s) (h1:s<p) {x:Nat×Nat} (hx:x∈slAt p s):x.1<p.toNat∧x.2<(p - 1).toNat:=by
 unfold slAt at hx
 obtain ⟨z,hz,rfl⟩:=List.mem_map.1 hx
 have:=sl_in hp h0 h1 z hz
 show z.1.toNat < _∧z.2.toNat < _
 omega
theorem col3_slants (h:DataOk p css) (ds:List (List (List UInt8))) (hg:Grid (p - 1).toNat (firstC css).length (css ++ ds)):colL 3 p (firstC css).length (css ++ ds) (p+2)=slMade p css:=by
 have hd:=dataOk_n h
 unfold colL
 refine Eq.trans ?_ (rfl:(List.range (p - 1).toNat).map (fun (r:Nat)=>xorB (slOf p css (r:Int)) (slOf p css (p - 1))) = _)
 refine List.map_congr_left fun r hr=>?_
 have hr':=List.mem_range.1 hr
 have hin:=inL_of (memIn3 p h.1.2 r hr 2 (by simp))
 have hrp:(r:Int)<p:=by omega
 refine ext_at (by rw [uponL_len,slCell_len]) fun j=>?_
 rw [at_uponN (hin.cells hg (by rw [List.length_append];omega)) j,at_slMade h hrp,xa_perm ((List.isPerm_iff.1 (memSlant3 p h.1.2 r hr)).map _),List.map_append,xa_append]
 have hE:∀ s:Int,0≤s→s<p→xa ((slAt p s).map fun x=>by_ (css ++ ds) j x.1 x.2)=sg_ p css j s:=fun s h0 h1=>by
  unfold sg_
  congr 1
  refine List.map_congr_left fun x hx=>?_
  have:=slAt_lt h.1.2 h0 h1 hx
  exact by_left (by omega) j x.2
 rw [hE _ (by omega) (by omega),hE _ (by omega) (by omega)]
theorem steps3 (h:DataOk p css):stepsL 3 p (firstC css).length css 3=css ++ starOf p css:=by
 have hd:=dataOk_n h
 have hg:=togOk_grid h.2.2
 have e0:((css.length:Int)+((0:Nat):Int))=p:=by omega
 have e1:((css.length:Int)+((1:Nat):Int))=p+1:=by omega
 have e2:((css.length:Int)+((2:Nat):Int))=p+2:=by omega
 have hr:(rowsMade (p - 1).toNat css).length=(p - 1).toNat∧∀ i,i<(p - 1).toNat→((rowsMade (p - 1).toNat css)[i]?.getD []).length=(firstC css).length:=⟨rowsMade_len _,fun i hi=>by rw [rowsMade_at h hi];exact row_len h hi⟩
 have hdg:(diagsMade p (p - 1).toNat css).length=(p - 1).toNat∧∀ i,i<(p - 1).toNat→((diagsMade p (p - 1).toNat css)[i]?.getD []).length=(firstC css).length:=⟨diagsMade_len _,fun i hi=>by rw [diagsMade_at h hi];exact diag_len h (by omega)⟩
 have hg2:=(hg.snoc hr.1 hr.2).snoc hdg.1 hdg.2
 rw [List.append_assoc] at hg2
 have hs3:=col3_slants h _ hg2
 rw [←List.append_assoc] at hs3
 show ((css ++ [colL 3 p _ css _]) ++ [colL 3 p _ (css ++ [colL 3 p _ css _]) _]) ++ [colL 3 p _ ((css ++ [colL 3 p _ css _]) ++ [colL 3 p _ (css ++ [colL 3 p _ css _]) _]) _] = _
 rw [e0,e1,e2,col3_rows h,col3_diags h _ hr,hs3,List.append_assoc,List.append_assoc]
 rfl

end
end Go.Proofs.YtknkdbincaonbaaGreatDoor.T

namespace Go.Proofs.YtknkdbincaonbaaGreatDoor.E
open Go.RowKit Go.Shelf Go.Proofs.YtknkdbincaonbaaGreatDoor.C

theorem sameCol_any {B B':Nat} (v1 v2:Value) (ls os:List (List UInt8)) (w:World) (h1:Many B w v1 ls) (h2:Many B' w v2 os) (hls:ls.length≤100000) (hos:os.length≤100000) :
 Calls Tryz.prog 50 #[v1,v2] w fun e w'=>e = .returned (.bool (decide (ls=os)))∧Below w.heap.size w w':=by
 have H:=Lib.hid (rsame_any v1 v2 ls os w h1 h2 (by omega) (by omega))
 obtain ⟨A1,cap1,rfl,_,_⟩:=id h1
 obtain ⟨A2,cap2,rfl,_,_⟩:=id h2
 generalize decide (ls=os)=d at *
 go_enter Tryz.func50,Tryz.ntmps50
 go_wp2_with (go_at_call 91;refine H.out.mono ?_;rintro e w2 ⟨rfl,hB2⟩)
 go_ret
 exact ⟨rfl,hB2⟩
theorem same3_iff (ls os:List (List (List UInt8))):ls=os↔ls.length=os.length∧∀ j,j<ls.length→(ls[j]?.getD [])=(os[j]?.getD []):=by
 constructor
 · rintro rfl
   exact ⟨rfl,fun _ _=>rfl⟩
 · rintro ⟨h1,h2⟩
   apply List.ext_getElem h1
   intro j hj hj2
   have:=h2 j hj
   rwa [List.getElem?_eq_getElem hj,List.getElem?_eq_getElem hj2] at this
theorem same6_any {B B':Nat} (v1 v2:Value) (ls os:List (List (List UInt8))) (w:World) (h1:Cols B w v1 ls) (h2:Cols B' w v2 os) (hB1:B≤w.heap.size) (hB2:B'≤w.heap.size) (hls:∀ j:Nat,(ls[j]?.getD []).length≤1000) (hos:∀ j:Nat,(os[j]?.getD []).length≤1000) (hl1:ls.length≤1000) (hl2:os.length≤1000) :
 Calls Tryz.prog 19 #[v1,v2] w fun e w'=>e = .returned (.bool (decide (ls=os)))∧Below w.heap.size w w':=by
 obtain ⟨A1,cap1,rfl,_,_⟩:=id h1
 obtain ⟨A2,cap2,rfl,_,_⟩:=id h2
 have hb:=same3_iff ls os
 have HLS:=Lib.hid hls
 have HOS:=Lib.hid hos
 clear hls hos
 by_cases hl:ls.length=os.length
 · have e0:((ls.length:Int) != (os.length:Int))=false:=by rw [hl];simp
   have HL:=Lib.hid hl
   have HB:=Lib.hid hb
   clear hb hl
   go_enter Tryz.func19,Tryz.ntmps19
   go_wp2
   go_loopw [5] (fun i wr=>∃ k:Nat,k≤ls.length∧i = .int .i64 k∧Hid (∀ j,j<k→(ls[j]?.getD [])=(os[j]?.getD []))∧Below w.heap.size w wr) (fun i _=>ls.length - (intOf i).toNat)
   case atStart=>exact ⟨0,Nat.zero_le _,rfl,(Lib.hid fun j hj=>absurd hj (by omega)),Below.refl _ _⟩
   case round =>
    obtain ⟨k,hk,rfl,HA,hBr⟩:=hrel
    by_cases hlt:k<ls.length
    · have hdec:decide ((k:Int)<(ls.length:Int))=true:=by simp;omega
      obtain ⟨b1,off1,cq1,e1,_,hb1,hrow1⟩:=(h1.below (hBr.mono hB1)).at_ (by omega)
      injection e1 with e1 _ e1c
      subst e1
      subst e1c
      obtain ⟨u1,hc1,hm1⟩:=hrow1 k hlt
      obtain ⟨b2,off2,cq2,e2,_,hb2,hrow2⟩:=(h2.below (hBr.mono hB2)).at_ (by have:=HL.out;omega)
      injection e2 with e2 _ e2c
      subst e2
      subst e2c
      obtain ⟨u2,hc2,hm2⟩:=hrow2 k (by have:=HL.out;omega)
      have i2:(k:Int)<(os.length:Int):=by have:=HL.out;omega
      have HS:=Lib.hid (fun (V:World) (hV:Below wr.heap.size wr V)=>sameCol_any u1 u2 _ _ V (hm1.below (hV.mono (Nat.le_trans hB1 hBr.size))) (hm2.below (hV.mono (Nat.le_trans hB2 hBr.size))) (by have:=HLS.out k;omega) (by have:=HOS.out k;omega))
      have HN:=Lib.hid (fun (h:¬ (ls[k]?.getD [])=(os[k]?.getD []))=>(fun h2=>h ((HB.out.1 h2).2 k hlt):¬ ls=os))
      have HT:=Lib.hid (fun (h:(ls[k]?.getD [])=(os[k]?.getD []))=>all_next (P:=fun j=>(ls[j]?.getD [])=(os[j]?.getD [])) HA.out h)
      obtain ⟨A3,cap3,rfl,_,_⟩:=id hm1
      obtain ⟨A4,cap4,rfl,_,_⟩:=id hm2
      clear hrow1 hrow2 hm1 hm2
      generalize ls[k]?.getD []=x at *
      generalize os[k]?.getD []=y at *
      by_cases hxy:x=y
      · rw [decide_eq_true hxy] at HS
        have HT2:=Lib.hid (HT.out hxy)
        clear hxy HT HN
        go_wp2
        go_region_held3 (fun U=>U.cell? ⟨b1,off1+k,none⟩=some (.slice A3 x.length cap3)∧U.cell? ⟨b2,off2+k,none⟩=some (.slice A4 y.length cap4)) (first | exact ⟨hc1,hc2⟩ | exact ⟨(hBy.cell (p:=⟨b1,off1+k,none⟩) (Nat.lt_of_lt_of_le hb1 (Nat.le_trans hB1 hBr.size))).trans hc1,(hBy.cell (p:=⟨b2,off2+k,none⟩) (Nat.lt_of_lt_of_le hb2 (Nat.le_trans hB2 hBr.size))).trans hc2⟩) (first | (go_at_call 50;refine (HS.out _ ?_).mono ?_;first | exact Below.refl _ _ | exact (Below.refl _ _).drew;rintro e w2 ⟨rfl,hBx⟩;have hBy:Below wr.heap.size wr w2:=(by first | exact hBx | exact Below.undrew hBx)))
        all_goals go_wp2
        all_goals go_roundw
        case rel=>exact ⟨k+1,by omega,by go_num,HT2,below_in hBr hBy⟩
        case measure=>simp [intOf];omega
      · rw [decide_eq_false hxy] at HS
        have HF:=Lib.hid (decide_eq_false (HN.out hxy))
        clear hxy HT HN
        go_wp2
        go_region_held3 (fun U=>U.cell? ⟨b1,off1+k,none⟩=some (.slice A3 x.length cap3)∧U.cell? ⟨b2,off2+k,none⟩=some (.slice A4 y.length cap4)) (first | exact ⟨hc1,hc2⟩ | exact ⟨(hBy.cell (p:=⟨b1,off1+k,none⟩) (Nat.lt_of_lt_of_le hb1 (Nat.le_trans hB1 hBr.size))).trans hc1,(hBy.cell (p:=⟨b2,off2+k,none⟩) (Nat.lt_of_lt_of_le hb2 (Nat.le_trans hB2 hBr.size))).trans hc2⟩) (first | (go_at_call 50;refine (HS.out _ ?_).mono ?_;first | exact Below.refl _ _ | exact (Below.refl _ _).drew;rintro e w2 ⟨rfl,hBx⟩;have hBy:Below wr.heap.size wr w2:=(by first | exact hBx | exact Below.undrew hBx)))
        all_goals go_wp2
        all_goals go_ret
        all_goals exact ⟨ret_bool HF.out.symm,below_in hBr hBy⟩
    · obtain rfl:k=ls.length:=by omega
      have e1:decide ((ls.length:Int)<(ls.length:Int))=false:=by simp
      go_wp2
      go_ret
      exact ⟨ret_bool (decide_eq_true (HB.out.2 ⟨HL.out,HA.out⟩)).symm,hBr⟩
 · have e0:((ls.length:Int) != (os.length:Int))=true:=by rw [bne_iff_ne];omega
   have hbf:¬ ls=os:=fun h=>hl (hb.1 h).1
   rw [decide_eq_false hbf]
   go_enter Tryz.func19,Tryz.ntmps19
   go_wp2
   go_ret
   exact ⟨rfl,Below.refl _ _⟩
end Go.Proofs.YtknkdbincaonbaaGreatDoor.E

namespace Go.Proofs.YtknkdbincaonbaaGreatDoor.E
open Go.RowKit Go.Shelf Go.Proofs.YtknkdbincaonbaaGreatDoor.C

theorem xors_next (z:List UInt8) (ls:List (List UInt8)) {k:Nat} (hk:k<ls.length):xors z (ls.take (k+1))=xorB (xors z (ls.take k)) (ls[k]?.getD []):=by
 unfold xors
 rw [List.take_add_one,List.foldl_append,List.getElem?_eq_getElem hk]
 rfl
end Go.Proofs.YtknkdbincaonbaaGreatDoor.E

namespace Go.Proofs.YtknkdbincaonbaaGreatDoor.E
open Go.RowKit Go.Shelf Go.Proofs.YtknkdbincaonbaaGreatDoor.C

theorem memL_in {k p:Int} (hR:RightC k p) {col row:Int} {R N:Nat} (hRR:p - 1=(R:Int)) (hN:col≤(N:Int)):inL R N (memL k p col row):=by
 intro z hz
 unfold memL at hz
 have h1:=flatC_mem' (List.mem_filter.1 hz).1
 have h2:=spanL_mem h1.1
 omega
end Go.Proofs.YtknkdbincaonbaaGreatDoor.E

namespace Go.Proofs.YtknkdbincaonbaaGreatDoor.R
open Go.RowKit Go.Shelf Go.Proofs.YtknkdbincaonbaaGreatDoor.C Go.Proofs.YtknkdbincaonbaaGreatDoor.E

theorem need_yes (w:World):Calls Tryz.prog 244 #[.bool true] w fun e w'=>e = .returned (.tuple #[])∧w=w':=by
 go_enter Tryz.func244,Tryz.ntmps244
 go_wp2
 go_end0
 exact ⟨rfl,rfl⟩
theorem need_no (w:World):Calls Tryz.prog 244 #[.bool false] w fun e w'=>e = .panicked gaveUp∧w=w':=by
 go_enter Tryz.func244,Tryz.ntmps244
 go_wp2
 exact ⟨rfl,rfl,rfl⟩
theorem sureB (v:Value) (w:World):Calls Tryz.prog 316 #[v,.int .i64 0] w fun e w'=>e = .returned v∧w=w':=by
 go_enter Tryz.func316,Tryz.ntmps316
 go_wp2
 go_ret
 exact ⟨rfl,rfl⟩
theorem sureA (v:Value) (w:World):Calls Tryz.prog 314 #[v,.int .i64 0] w fun e w'=>e = .returned v∧w=w':=by
 go_enter Tryz.func314,Tryz.ntmps314
 go_wp2
 go_ret
 exact ⟨rfl,rfl⟩

theorem idle_S (p:Addr) (w:World) :
 CallsD Tryz.prog 232 #[.pointer (some p)] .returning w fun e u' w'=>e = .returned (.tuple #[])∧u' = .returning∧w'=w:=by
 have hta:=assert_errno
 refine callsD_of_wpS Tryz.func232 rfl fun c₀ cs hu=>?_
 simp only [Tryz.ntmps232,List.size_toArray,List.length_cons,List.length_nil,Nat.reduceAdd,Nat.reduceSub,Array.replicate_succ,Array.replicate_zero,List.push_toArray,List.append_toArray,List.nil_append,List.cons_append]
 apply wpS_seq
 apply wpS_region
 simp [wpOpsS,go_sem,recoverD,hu,Exit.thenS]
 all_goals (refine wpS_of_wp ?_;go_wp2;cases c₀;simp_all [bodyPostS,results,Tryz.results232])
theorem ans_S_yes (f:Nat) (caps:Array Value) (w:World) (Post:Value→World→Prop) (hent:∀ W,(callFunc f caps).run Tryz.prog W = .ok (.enter f caps) W)
 (h:∀ W,Below w.heap.size w W→Blk W w.heap.size 29 #[.int .i64 0]→Calls Tryz.prog f caps W fun e w'=>∃ v,e = .returned v∧Post v w'∧Below W.heap.size W w') :
 Calls Tryz.prog 192 #[.func (.func f) #[] caps] w fun e w'=>∃ v W,e = .returned (.tuple #[v,.int .i64 0])∧Post v W∧Blk W w.heap.size 29 #[.int .i64 0]∧w'=W.setCell ⟨w.heap.size,0,none⟩ (.int .i64 0)∧Below w.heap.size w w':=by
 have hmf:∀ (fn:Fn) (first cap:Array Value) (w:World),(Instr.makeFunc fn first cap).run Tryz.prog w = .ok (.func fn first cap) w:=fun _ _ _ _=>rfl
 have h1:=h (w.alloc (.cells #[.int .i64 0] 29)) ((Below.refl _ w).alloc (Nat.le_refl _) _) (Blk.new w _ _)
 clear h
 go_enter_defers Tryz.func192,Tryz.ntmps192
 go_wp2
 refine h1.mono ?_
 rintro e w1 ⟨v,rfl,hv,hB1⟩
 have b1:Blk w1 w.heap.size 29 #[.int .i64 0]:=(Blk.new w _ _).below hB1 (by simp)
 have c1:=b1.cell 0
 have f1:=b1.frozen 0
 simp only [List.getElem?_toArray,List.getElem?_cons_zero] at c1
 go_wp2
 refine leaves_cons (f:=232) (args:=#[.pointer (some ⟨w.heap.size,0,none⟩)]) (by simp) (by simp [go_sem]) ?_
 refine (idle_S ⟨w.heap.size,0,none⟩ _).mono ?_
 rintro e u' w'' ⟨rfl,rfl,rfl⟩
 have c2:(w1.setCell ⟨w.heap.size,0,none⟩ (.int .i64 0)).cell? ⟨w.heap.size,0,none⟩=some (.int .i64 0):=World.cell?_setCell_same' _ _ _ (by rw [c1];rfl)
 simp [Go.Leaves,settle,results,Tryz.results192,go_sem,c2]
 exact ⟨w1,hv,b1,rfl,(((Below.refl _ w).alloc (Nat.le_refl _) _).trans (hB1.mono (by simp))).setCell (Nat.le_refl _) _⟩
theorem asMany_yes {B:Nat} (p:Int) (v:Value) (css:List (List (List UInt8))) (w:World) (hL:Laid w) (hB:B≤w.heap.size) (hC:Cols B w v css) (hlen:css.length≤1000) (hok:RightD p css) :
 Calls Tryz.prog 209 #[.int .i64 p,.int .i64 (css.length:Int),v] w fun e w'=>e = .returned (.agg #[.int .i64 2,.int .i64 p,v])∧Below w.heap.size w w':=by
 obtain ⟨A,cap,rfl,_,_⟩:=id hC
 have hBz:=below_one w (.cells #[.int .i64 0,.int .i64 0,.slice none 0 0] 203)
 have HR:=Lib.hid (right_yes (B:=B) p (.slice A css.length cap) css _ (hL.next hBz) (Nat.le_trans hB hBz.size) (hC.below (hBz.mono hB)) hlen hok)
 have bz:=Blk.new w 203 #[.int .i64 0,.int .i64 0,.slice none 0 0]
 clear hC hok hlen
 generalize css.length=n at *
 go_enter Tryz.func209,Tryz.ntmps209
 go_wp2_with fail
 refine HR.out.mono ?_
 rintro e w1 ⟨rfl,hB1⟩
 replace bz:=bz.below hB1 bz.lt
 have hBa:=below_in hBz hB1
 have g0:=bz.cell 0
 have g1:=bz.cell 1
 have g2:=bz.cell 2
 have f0:=bz.frozen 0
 have f1:=bz.frozen 1
 have f2:=bz.frozen 2
 simp only [gz9] at g0 g1 g2
 go_wp2_with (go_at_call 244;refine (need_yes _).mono ?_;rintro e w2 ⟨rfl,rfl⟩)
 have r:=((bz.set_ 0 (.int .i64 2)).set_ 1 (.int .i64 p)).set_ 2 (.slice A n cap)
 have r0:=r.cell 0
 have r1:=r.cell 1
 have r2:=r.cell 2
 simp only [List.setIfInBounds_toArray,List.set_cons_zero,List.set_cons_succ,List.getElem?_toArray,List.getElem?_cons_zero,List.getElem?_cons_succ] at r0 r1 r2
 exact bodyPost_ret (v:=.agg #[.int .i64 2,.int .i64 p,.slice A n cap]) (by simp [results,Tryz.results209,go_sem,r0,r1,r2]) rfl ⟨rfl,((hBa.setCell (by simp) _).setCell (by simp) _).setCell (by simp) _⟩
theorem asMany_no {B:Nat} (p many:Int) (v:Value) (css:List (List (List UInt8))) (w:World) (hL:Laid w) (hB:B≤w.heap.size) (hC:Cols B w v css) (hlen:css.length≤1000) (hcl:∀ j,j<css.length→(css[j]?.getD []).length≤1000) (hno:¬ (RightD p css∧(css.length:Int)=many)) :
 Calls Tryz.prog 209 #[.int .i64 p,.int .i64 many,v] w fun e w'=>e = .panicked gaveUp∧Below w.heap.size w w':=by
 obtain ⟨A,cap,rfl,_,_⟩:=id hC
 have hBz:=below_one w (.cells #[.int .i64 0,.int .i64 0,.slice none 0 0] 203)
 by_cases hr:RightD p css
 · have HR:=Lib.hid (right_yes (B:=B) p (.slice A css.length cap) css _ (hL.next hBz) (Nat.le_trans hB hBz.size) (hC.below (hBz.mono hB)) hlen hr)
   have hne:((css.length:Int) == many)=false:=by
    rw [beq_eq_false_iff_ne]
    exact fun h=>hno ⟨hr,h⟩
   clear hC hno hr hlen hcl
   generalize css.length=n at *
   go_enter Tryz.func209,Tryz.ntmps209
   go_wp2_with (first
    | (go_at_call 74;refine HR.out.mono ?_;rintro e w1 ⟨rfl,hB1⟩)
    | (go_at_call 244;refine (need_no _).mono ?_;rintro e w2 ⟨rfl,rfl⟩))
   exact ⟨rfl,rfl,below_in hBz hB1⟩
 · have HR:=Lib.hid (right_no (B:=B) p (.slice A css.length cap) css _ (hL.next hBz) (Nat.le_trans hB hBz.size) (hC.below (hBz.mono hB)) hlen hcl hr)
   clear hC hno hr hlen hcl
   generalize css.length=n at *
   go_enter Tryz.func209,Tryz.ntmps209
   go_wp2_with (first
    | (go_at_call 74;refine HR.out.mono ?_;rintro e w1 ⟨rfl,hB1⟩)
    | (go_at_call 244;refine (need_no _).mono ?_;rintro e w2 ⟨rfl,rfl⟩))
   exact ⟨rfl,rfl,below_in hBz hB1⟩
def DataR (p:Int) (css:List (List (List UInt8))):Prop:=RightD p css∧(css.length:Int)=p - 1
theorem asked_yes {B:Nat} (p:Int) (v:Value) (css:List (List (List UInt8))) (w:World) (hL:Laid w) (hB:B≤w.heap.size) (hC:Cols B w v css) (hok:DataR p css) :
 Calls Tryz.prog 194 #[.int .i64 p,v] w fun e w'=>e = .returned (.agg #[.int .i64 2,.int .i64 p,v])∧Below w.heap.size w w':=by
 have hpp:=prm_bounds hok.1.1
 obtain ⟨A,cap,rfl,_,_⟩:=id hC
 have hBz:=below_one w (.cells #[.int .i64 0,.int .i64 0,.slice none 0 0] 203)
 have HR:=Lib.hid (asMany_yes (B:=B) p (.slice A css.length cap) css _ (hL.next hBz) (Nat.le_trans hB hBz.size) (hC.below (hBz.mono hB)) (by have:=hok.2;omega) hok.1)
 have hq1:(css.length:Int)=p - 1:=hok.2
 have hq2:wrap64 (p - 1)=(css.length:Int):=by rw [IntWalk.wrap64_in _ (by omega)];exact hq1.symm
 have hq3:IntKind.i64.wrap (p - 1)=(css.length:Int):=by rw [IntWalk.i64_in _ (by omega)];exact hq1.symm
 have bz:=Blk.new w 203 #[.int .i64 0,.int .i64 0,.slice none 0 0]
 clear hC hok hpp hq1
 generalize css.length=n at *
 go_enter Tryz.func194,Tryz.ntmps194
 go_wp2_with fail
 refine HR.out.mono ?_
 rintro e w1 ⟨rfl,hB1⟩
 replace bz:=bz.below hB1 bz.lt
 have hBa:=below_in hBz hB1
 have g0:=bz.cell 0
 have g1:=bz.cell 1
 have g2:=bz.cell 2
 have f0:=bz.frozen 0
 have f1:=bz.frozen 1
 have f2:=bz.frozen 2
 simp only [gz9] at g0 g1 g2
 go_wp2
 have r:=((bz.set_ 0 (.int .i64 2)).set_ 1 (.int .i64 p)).set_ 2 (.slice A n cap)
 have r0:=r.cell 0
 have r1:=r.cell 1
 have r2:=r.cell 2
 simp only [List.setIfInBounds_toArray,List.set_cons_zero,List.set_cons_succ,List.getElem?_toArray,List.getElem?_cons_zero,List.getElem?_cons_succ] at r0 r1 r2
 exact bodyPost_ret (v:=.agg #[.int .i64 2,.int .i64 p,.slice A n cap]) (by simp [results,Tryz.results194,go_sem,r0,r1,r2]) rfl ⟨rfl,((hBa.setCell (by simp) _).setCell (by simp) _).setCell (by simp) _⟩
theorem asked_no {B:Nat} (p:Int) (v:Value) (css:List (List (List UInt8))) (w:World) (hL:Laid w) (hB:B≤w.heap.size) (hC:Cols B w v css) (hlen:css.length≤1000) (hcl:∀ j,j<css.length→(css[j]?.getD []).length≤1000) (hno:¬ DataR p css) :
 Calls Tryz.prog 194 #[.int .i64 p,v] w fun e w'=>e = .panicked gaveUp∧Below w.heap.size w w':=by
 obtain ⟨A,cap,rfl,_,_⟩:=id hC
 have hBz:=below_one w (.cells #[.int .i64 0,.int .i64 0,.slice none 0 0] 203)
 have HR:=Lib.hid (asMany_no (B:=B) p (wrap64 (p - 1)) (.slice A css.length cap) css _ (hL.next hBz) (Nat.le_trans hB hBz.size) (hC.below (hBz.mono hB)) hlen hcl (fun h=>hno ⟨h.1,by
  have hpp:=prm_bounds h.1.1
  have:=h.2
  rwa [IntWalk.wrap64_in _ (by omega)] at this⟩))
 clear hC hno hlen hcl
 generalize css.length=n at *
 go_enter Tryz.func194,Tryz.ntmps194
 go_wp2_with (go_at_call 209;refine HR.out.mono ?_;rintro e w1 ⟨rfl,hB1⟩)
 exact ⟨rfl,rfl,below_in hBz hB1⟩
theorem rowsAt_any (p:Int) (hp:0≤p∧p≤100) (A:Option Addr) (n cap:Nat) (w:World):Calls Tryz.prog 212 #[.agg #[.int .i64 2,.int .i64 p,.slice A n cap]] w fun e w'=>e = .returned (.int .i64 (p - 1))∧Below w.heap.size w w':=by
 have bz:=Blk.new w 203 #[.int .i64 2,.int .i64 p,.slice A n cap]
 have g1:=bz.cell 1
 simp only [gz9] at g1
 have hq2:wrap64 (p - 1)=p - 1:=IntWalk.wrap64_in _ (by omega)
 obtain ⟨h0,h1⟩:=hp
 go_enter Tryz.func212,Tryz.ntmps212
 go_wp2
 go_ret
 exact ⟨rfl,below_one w _⟩
theorem diagonalsAt_any (p:Int) (hp:0≤p∧p≤100) (A:Option Addr) (n cap:Nat) (w:World):Calls Tryz.prog 273 #[.agg #[.int .i64 2,.int .i64 p,.slice A n cap]] w fun e w'=>e = .returned (.int .i64 (p))∧Below w.heap.size w w':=by
 have bz:=Blk.new w 203 #[.int .i64 2,.int .i64 p,.slice A n cap]
 have g1:=bz.cell 1
 simp only [gz9] at g1
 have hq2:wrap64 (p - 1)=p - 1:=IntWalk.wrap64_in _ (by omega)
 obtain ⟨h0,h1⟩:=hp
 go_enter Tryz.func273,Tryz.ntmps273
 go_wp2
 go_ret
 exact ⟨rfl,below_one w _⟩
end Go.Proofs.YtknkdbincaonbaaGreatDoor.R

namespace Go.Proofs.YtknkdbincaonbaaGreatDoor.R
open Go.RowKit Go.Shelf Go.Proofs.YtknkdbincaonbaaGreatDoor.C Go.Proofs.YtknkdbincaonbaaGreatDoor.E

theorem cell_any {B:Nat} (p:Int) (v:Value) (css:List (List (List UInt8))) (R n:Nat) (X Y:Nat) (w:World) (hB:B≤w.heap.size) (hC:Cols B w v css) (hg:Grid R n css) (hX:X<css.length) (hY:Y<R) :
 Calls Tryz.prog 213 #[.agg #[.int .i64 2,.int .i64 p,v],.agg #[.int .i64 (X:Int),.int .i64 (Y:Int)]] w fun e w'=>∃ u,e = .returned u∧Bytes B w' u (cellI css ((X:Int),(Y:Int)))∧Below w.heap.size w w':=by
 obtain ⟨b1,off1,cap,rfl,hcap,hb1,hrow1⟩:=hC.at_ (by omega)
 obtain ⟨u1,hc1,hm1⟩:=hrow1 X hX
 obtain ⟨hcr,hce⟩:=hg X hX
 obtain ⟨A3,cap3,rfl,_,_⟩:=id hm1
 obtain ⟨b2,off3,rfl,hb2,hrow3⟩:=many_at hm1 (by omega)
 obtain ⟨Aa,ca,hc3,hby⟩:=hrow3 Y (by omega)
 have hcI:cellI css ((X:Int),(Y:Int))=(css[X]?.getD [])[Y]?.getD []:=rfl
 rw [hcI]
 rw [hcr] at hc1
 obtain ⟨W2,hW2⟩:∃ W2,(w.alloc (.cells #[.int .i64 2,.int .i64 p,.slice (some ⟨b1,off1,none⟩) css.length cap] 203)).alloc (.cells #[.int .i64 (X:Int),.int .i64 (Y:Int)] 53)=W2:=⟨_,rfl⟩
 have b0:Blk W2 w.heap.size 203 #[.int .i64 2,.int .i64 p,.slice (some ⟨b1,off1,none⟩) css.length cap]:=by rw [←hW2];exact (Blk.new w _ _).alloc _
 have bq:Blk W2 (w.heap.size+1) 53 #[.int .i64 (X:Int),.int .i64 (Y:Int)]:=by rw [←hW2];exact Blk.second w _ _ _
 have hB2:Below w.heap.size w W2:=by rw [←hW2];exact below_two w _ _
 have k2:=b0.cell 2
 have a0:=bq.cell 0
 have a1:=bq.cell 1
 simp only [gz9] at k2 a0 a1
 have hc1':=(hB2.cell (p:=⟨b1,off1+X,none⟩) (Nat.lt_of_lt_of_le hb1 hB)).trans hc1
 have hc3':=(hB2.cell (p:=⟨b2,off3+Y,none⟩) (Nat.lt_of_lt_of_le hb2 hB)).trans hc3
 have HBY:=Lib.hid (fun (U:World) (hU:Below w.heap.size w U)=>hby.below (hU.mono hB))
 have i1:(0:Int)≤(X:Int):=by omega
 have i2:(X:Int)<(css.length:Int):=by omega
 have i3:(0:Int)≤(Y:Int):=by omega
 have i4:(Y:Int)<(R:Int):=by omega
 clear hrow1 hrow3 hm1 hby hcr hce hcI hC hg b0 bq
 generalize (css[X]?.getD [])[Y]?.getD []=ce at *
 generalize css.length=N at *
 go_enter Tryz.func213,Tryz.ntmps213
 go_wp2
 try rw [hW2]
 go_region_held3 (fun U=>U.cell? ⟨w.heap.size,2,none⟩=some (.slice (some ⟨b1,off1,none⟩) N cap)∧U.cell? ⟨w.heap.size+1,0,none⟩=some (.int .i64 (X:Int))∧U.cell? ⟨w.heap.size+1,1,none⟩=some (.int .i64 (Y:Int))∧U.cell? ⟨b1,off1+X,none⟩=some (.slice (some ⟨b2,off3,none⟩) R cap3)∧U.cell? ⟨b2,off3+Y,none⟩=some (.slice Aa ce.length ca))
  (exact ⟨k2,a0,a1,hc1',hc3'⟩) (fail)
 all_goals go_wp2
 all_goals go_ret
 all_goals exact ⟨_,rfl,HBY.out _ hB2.drew,hB2.drew⟩
theorem enter_cell:∀ args W,(callFunc 213 args).run Tryz.prog W = .ok (.enter 213 args) W:=enters_of Tryz.func213 (by kernel_rfl) rfl

theorem eachAt_any {B:Nat} (p:Int) (v:Value) (css:List (List (List UInt8))) (R n:Nat) (vl:Value) (l:List (Int×Int)) (w:World) (hB:B≤w.heap.size) (hC:Cols B w v css) (hg:Grid R n css) (hl:ReadA w vl l) (hin:inL R css.length l) (hlen:l.length≤1000) :
 Calls Tryz.prog 317 #[vl,.func (.func 213) #[.agg #[.int .i64 2,.int .i64 p,v]] #[]] w fun e w'=>∃ u,e = .returned u∧Many w'.heap.size w' u (l.map (cellI css))∧Below w.heap.size w w':=by
 have hent:=enter_cell
 obtain ⟨Al,capl,rfl,hRd⟩:=hl
 have HR1:=Lib.hid hRd
 have HM:=Lib.hid (fun (X Y:Nat) (hX:X<css.length) (hY:Y<R) (W:World) (hW:Below w.heap.size w W)=>cell_any (B:=B) p v css R n X Y W (Nat.le_trans hB hW.size) (hC.below (hW.mono hB)) hg hX hY)
 have HIN:=Lib.hid hin
 clear hRd hg hin
 obtain ⟨N,hN⟩:∃ N,l.length=N:=⟨_,rfl⟩
 have HN:=Lib.hid hN
 have HL:Hid (∀ j (hj:j<l.length),(l.map (cellI css))[j]?.getD []=cellI css l[j]):=fun j hj=>by rw [List.getElem?_map,List.getElem?_eq_getElem hj];rfl
 have HLL:Hid ((l.map (cellI css)).length=N):=by unfold Hid;rw [List.length_map,hN]
 rw [hN] at hlen ⊢
 clear hN
 generalize l.map (cellI css)=ls at *
 obtain ⟨i0,hi,hz0,hz1,hz2⟩:=info_parts Tryz.infoSlcE
 have hmake:=run_make (P:=Tryz.prog) w 57 32 i0 (.slice none 0 0) Tryz.underlying57 hi hz0 .i64 .i64 (N:Int) (N:Int) (by omega) (by omega) (by rw [hz2];omega) (by omega)
 simp only [hz1,Int.toNat_natCast] at hmake
 have bA:=Blk.new w 32 (madeCells (Value.slice none 0 0).cells (N * 1))
 have hBA:=below_one w (.cells (madeCells (Value.slice none 0 0).cells (N * 1)) 32)
 have hbz:(madeCells (Value.slice none 0 0).cells (N * 1)).size=N * 1:=size_madeCells _ _
 obtain ⟨wA,hwA⟩:∃ wA,w.alloc (.cells (madeCells (Value.slice none 0 0).cells (N * 1)) 32)=wA:=⟨_,rfl⟩
 rw [hwA] at hmake bA hBA
 generalize madeCells (Value.slice none 0 0).cells (N * 1)=csA at bA hbz
 rw [Nat.mul_one] at hbz
 clear hwA hi hz0 hz1 hz2
 go_enter Tryz.func317,Tryz.ntmps317
 go_wp2_with fail
 go_loopw [13] (fun i wr=>∃ (k:Nat) (cs:Array Value),k≤N∧i = .int .i64 k∧Blk wr w.heap.size 32 cs∧cs.size=N∧Hid (∀ j,j<k→∃ u,cs[j]?=some u∧Bytes B wr u (ls[j]?.getD []))∧Below w.heap.size w wr) (fun i _=>N - (intOf i).toNat)
 case atStart=>exact ⟨0,csA,by omega,rfl,bA,hbz,Lib.hid (fun j hj=>absurd hj (by omega)),hBA⟩
 case round =>
  clear bA hbz hBA hmake
  obtain ⟨k,cs,hk,rfl,bA,hbz,HJ,hBr⟩:=hrel
  by_cases hlt:k<N
  · have hdec:decide ((k:Int)<(N:Int))=true:=by simp;omega
    have hjs:k<l.length:=by rw [HN.out];exact hlt
    obtain ⟨g1,rfl,hg1,x0,x1⟩:=HR1.out k hjs
    obtain ⟨hz1,hz2⟩:=HIN.out l[k] (List.getElem_mem hjs)
    have HLK:=HL.out k hjs
    generalize l[k]=z at *
    obtain ⟨zx,zy⟩:=z
    simp only at hz1 hz2 x0 x1
    obtain ⟨X,rfl⟩:∃ X:Nat,zx=(X:Int):=⟨zx.toNat,by omega⟩
    obtain ⟨Y,rfl⟩:∃ Y:Nat,zy=(Y:Int):=⟨zy.toNat,by omega⟩
    replace x0:=(hBr.cell (p:=⟨g1,k * 2,none⟩) hg1).trans x0
    replace x1:=(hBr.cell (p:=⟨g1,k * 2+1,none⟩) hg1).trans x1
    have hBx:=below_one wr (.cells #[.int .i64 (X:Int),.int .i64 (Y:Int)] 53)
    have b2:=Blk.new wr 53 #[.int .i64 (X:Int),.int .i64 (Y:Int)]
    have z0:=b2.cell 0;have z1:=b2.cell 1;simp only [gz9] at z0 z1
    have hBy:=below_in hBr hBx
    have hcall:=Lib.hid (HM.out X Y (by omega) (by omega) _ hBy)
    rw [←HLK] at hcall
    have i1:(0:Int)≤(k:Int):=by omega
    have i2:(k:Int)<(N:Int):=by omega
    clear b2 HLK
    go_wp2_with fail
    refine hcall.out.mono ?_
    rintro e w4 ⟨u,rfl,hu,hB4⟩
    obtain ⟨Au,capu,rfl,_⟩:=id hu
    have bA4:=(bA.below hBx bA.lt).below hB4 (by have:=bA.lt;simp;omega)
    have c0:=bA4.cell k
    rw [Array.getElem?_eq_getElem (show k<cs.size by omega)] at c0
    have f0:=bA4.frozen k
    have hgl:=bA.lt
    have hBw4:=below_in hBr (below_in hBx hB4)
    have hBr4:=below_in hBx hB4
    have HST:Hid (∀ V,V=w4.setCell ⟨w.heap.size,k,none⟩ (.slice Au (ls[k]?.getD []).length capu) →
     Blk V w.heap.size 32 (cs.setIfInBounds k (.slice Au (ls[k]?.getD []).length capu))∧Below w.heap.size w V ∧
     ∀ j,j<k+1→∃ u,(cs.setIfInBounds k (.slice Au (ls[k]?.getD []).length capu))[j]?=some u∧Bytes B V u (ls[j]?.getD [])):=fun V hV=>by
     have hKe:∀ q:Addr,q.block<B→V.cell? q=w4.cell? q:=fun q hq=>by rw [hV];exact World.cell?_of_block (Below.heap_setCell w4 _ _ q.block (by simp;omega))
     refine ⟨by rw [hV];exact bA4.set_ k _,by rw [hV];exact hBw4.setCell (by simp) _,fun j hj=>?_⟩
     by_cases hjk:j=k
     · subst hjk
       exact ⟨_,Array.getElem?_setIfInBounds_self_of_lt (by omega),hu.keep hKe⟩
     · obtain ⟨u1,h1,h2⟩:=HJ.out j (by omega)
       exact ⟨u1,by rw [Array.getElem?_setIfInBounds_ne (by omega)];exact h1,(h2.below (hBr4.mono (by omega))).keep hKe⟩
    generalize cs[k]'_=o0 at c0
    clear hu hcall hB4 HJ
    go_wp2
    go_roundw
    case rel=>exact ⟨k+1,_,hlt,by go_num,(HST.out _ rfl).1,by simpa using hbz,Lib.hid (HST.out _ rfl).2.2,(HST.out _ rfl).2.1⟩
    case measure=>simp [intOf];omega
  · obtain rfl:k=N:=by omega
    have hdec:decide ((k:Int)<(k:Int))=false:=by simp
    go_wp2
    go_ret
    refine ⟨_,rfl,⟨some ⟨w.heap.size,0,none⟩,k,by rw [HLL.out];rfl,by rw [HLL.out];exact Nat.le_refl _,fun h0=>⟨w.heap.size,0,rfl,bA.lt,fun j hj=>?_⟩⟩,hBr⟩
    obtain ⟨u1,h1,h2⟩:=HJ.out j (by rw [←HLL.out];exact hj)
    exact ⟨u1,by rw [Nat.zero_add,bA.cell j];exact h1,h2.more (Nat.le_trans hB hBr.size)⟩
theorem xorOf_uponL {n:Nat} {css:List (List (List UInt8))} {l:List (Int×Int)} (h0:0<l.length) (h:∀ z∈l,(cellI css z).length=n):xorOf (l.map (cellI css))=uponL n css l:=by
 unfold xorOf uponL
 rw [first_len (by rw [List.length_map];exact h0) (fun x hx=>by
  obtain ⟨z,hz,rfl⟩:=List.mem_map.1 hx
  exact h z hz)]
theorem upon_any {B:Nat} (p:Int) (v:Value) (css:List (List (List UInt8))) (R n:Nat) (vl:Value) (l:List (Int×Int)) (w:World) (hB:B≤w.heap.size) (hC:Cols B w v css) (hg:Grid R n css) (hl:ReadA w vl l) (hin:inL R css.length l) (hlen:l.length≤1000) (h0:0<l.length) (hn:1≤n∧n≤64) :
 Calls Tryz.prog 295 #[.agg #[.int .i64 2,.int .i64 p,v],vl] w fun e w'=>∃ u,e = .returned u∧Fresh w.heap.size w' u (uponL n css l)∧Below w.heap.size w w':=by
 have hmf:∀ (fn:Fn) (first cap:Array Value) (w:World),(Instr.makeFunc fn first cap).run Tryz.prog w = .ok (.func fn first cap) w:=fun _ _ _ _=>rfl
 have hall:∀ z∈l,(cellI css z).length=n:=inL.cells hin hg (Nat.le_refl _)
 obtain ⟨A,cap,rfl,_,_⟩:=id hC
 have hBz:=below_one w (.cells #[.int .i64 2,.int .i64 p,.slice A css.length cap] 203)
 have bz:=Blk.new w 203 #[.int .i64 2,.int .i64 p,.slice A css.length cap]
 have HE:=Lib.hid (eachAt_any (B:=B) p (.slice A css.length cap) css R n vl l _ (Nat.le_trans hB hBz.size) (hC.below (hBz.mono hB)) hg (hl.next hBz) hin hlen)
 have HX:=Lib.hid (fun (U:World) (u:Value) (hu:Many U.heap.size U u (l.map (cellI css)))=>xor_yes (l.map (cellI css)) u U (Nat.le_refl _) hu (by rw [List.length_map];omega) (xorOk_of (n:=n) (by rw [List.length_map];exact h0) hn (fun x hx=>by
  obtain ⟨z,hz,rfl⟩:=List.mem_map.1 hx
  exact hall z hz)))
 rw [xorOf_uponL h0 hall] at HX
 have g0:=bz.cell 0
 have g1:=bz.cell 1
 have g2:=bz.cell 2
 simp only [gz9] at g0 g1 g2
 clear hC hg hl hin hall h0 hlen bz
 generalize uponL n css l=xx at *
 generalize css.length=N at *
 go_enter Tryz.func295,Tryz.ntmps295
 go_wp2_with (first
  | (go_at_call 317;refine HE.out.mono ?_;rintro e w1 ⟨u,rfl,hu,hB1⟩)
  | (go_at_call 140;refine (HX.out _ _ hu).mono ?_;rintro e w2 ⟨u2,rfl,hu2,hB2⟩)
  | (go_at_call 316;refine (sureB _ _).mono ?_;rintro e w3 ⟨rfl,rfl⟩))
 go_ret
 exact ⟨_,rfl,hu2.less (Nat.le_trans hBz.size hB1.size),below_in hBz (below_in hB1 hB2)⟩
end Go.Proofs.YtknkdbincaonbaaGreatDoor.R

namespace Go.Proofs.YtknkdbincaonbaaGreatDoor.R
open Go.RowKit Go.Shelf Go.Proofs.YtknkdbincaonbaaGreatDoor.C Go.Proofs.YtknkdbincaonbaaGreatDoor.E

def AtsP (P:Nat→Prop) (W:World) (v:Value) (l:List (Int×Int)):Prop :=
 ∃ (p:Option Addr) (cap:Nat),v = .slice p l.length cap∧∀ (j:Nat) (hj:j<l.length),∃ g,p=some ⟨g,0,none⟩∧P g∧W.cell? ⟨g,j * 2,none⟩=some (.int .i64 (l[j]).1)∧W.cell? ⟨g,j * 2+1,none⟩=some (.int .i64 (l[j]).2)
theorem AtsP.imp {P Q:Nat→Prop} {W:World} {v:Value} {l:List (Int×Int)} (h:AtsP P W v l) (hq:∀ b,P b→Q b):AtsP Q W v l:=by
 obtain ⟨p,cap,e,hA⟩:=h
 exact ⟨p,cap,e,fun j hj=>by obtain ⟨g,h1,h2,h3⟩:=hA j hj;exact ⟨g,h1,hq g h2,h3⟩⟩
theorem AtsP.keep {P:Nat→Prop} {W W':World} {v:Value} {l:List (Int×Int)} (h:AtsP P W v l) (hk:Keeps P W W'):AtsP P W' v l:=by
 obtain ⟨p,cap,e,hA⟩:=h
 exact ⟨p,cap,e,fun j hj=>by obtain ⟨g,h1,h2,h3,h4⟩:=hA j hj;exact ⟨g,h1,h2,(World.cell?_of_block (hk g h2)).trans h3,(World.cell?_of_block (hk g h2)).trans h4⟩⟩
def atsR:Rep (List (Int×Int)) where
 R:=AtsP
 imp:=AtsP.imp
 keep:=AtsP.keep
 one:=fun ⟨_,_,e,_⟩=>by rw [e];rfl
theorem AtsP.read {W:World} {v:Value} {l:List (Int×Int)} (h:AtsP (·<W.heap.size) W v l):ReadA W v l:=h
theorem ReadP.ats {W:World} {v:Value} {l:List (Int×Int)} (h:ReadP W.heap.size W v l):AtsP (·<W.heap.size) W v l:=h.readA
theorem Tryz.infoSlcA:(Tryz.prog.info? 47).map (fun i=>(i.zero,i.size,i.bytes))=some (some (.slice none 0 0),1,24):=by kernel_rfl
def RowA:=RowG atsR 47 []
theorem RowA.apart {Q:Nat→Prop} {W:World} {base:Nat} {v:Value} {xs:List (List (Int×Int))} (h:RowA Q W base v xs) (hx:0<xs.length) {g:Nat} {x:Int} (hg:W.cell? ⟨g,0,none⟩=some (.int .i64 x)):some g≠v.ownBlock:=by
 obtain ⟨us,ho,hn,hr⟩:=h
 obtain ⟨g2,cap,rfl,_,_⟩:=World.ownsRow.form ho (by omega)
 intro e
 have e2:g=g2:=by injection e
 subst e2
 have hc:=World.ownsRow.cellAt ho 0 (by omega)
 have h0:us[0]?=some us[0]:=List.getElem?_eq_getElem (by omega)
 obtain ⟨p,c,e3,_⟩:=hr 0 us[0] h0
 rw [hc,h0,e3] at hg
 cases hg
section
variable {Q:Nat→Prop} {base:Nat} {v:Value}
theorem wpList_pushA {T:TypeId} (w:World) {ops:Array Oper} {rest:List Oper} {o:Oper} {a:Act} {QQ:Exit→Act→World→Prop} (hgd:o.guard=none) (s x:Operand)
 (ho:o.op = .call { callee:=.builtin .append,args:=#[s,x],argTypes:=#[T,T] }) (hT:Tryz.prog.underlying T=some (.slice 47)) (css:List (List (Int×Int))) (hs:a.eval s=v) (h:RowA Q w base v css)
 (g:Nat) (tg:TypeId) (u:Value) (ls:List (Int×Int)) (hx:a.eval x = .slice (some ⟨g,0,none⟩) 1 1) (hg:Blk w g tg #[u]) (hu:atsR.R (fun b=>b<w.heap.size∧some b≠v.ownBlock∧Q b) w u ls) (hlen:css.length≤100000) (hbase:base≤w.heap.size)
 (hK:∀ v' w',RowA Q w' base v' (css ++ [ls])→w.grownBy w' v.ownBlock→(v'.ownBlock=v.ownBlock∨v'.ownBlock=some w.heap.size)→wpList Tryz.prog ops QQ rest (a.put o.dst v') w'):wpList Tryz.prog ops QQ (o :: rest) a w :=
 wpList_plain hgd fun K hK2=>by
  obtain ⟨i,hi,hz0,hz1,hz2⟩:=info_parts Tryz.infoSlcA
  obtain ⟨v',w',hrun,h1,h2,h3⟩:=RowG.push i hi hz0 hz1 hz2 T o.type hT h g tg u ls hg hu hlen hbase
  unfold Oper.wp execOp
  simp only [ho,resolve,invoke,builtin,Sem.run_bind,Sem.run_pure,Result.andThen_ok,List.map_toArray,List.map_cons,List.map_nil,hs,hx,hrun]
  exact hK2 _ _ (hK v' w' h1 h2 h3)
end
def memsL (p col:Int):List (List (Int×Int)):=(List.range (p - 1).toNat).map fun (r:Nat)=>memL 2 p col (r:Int)
theorem memsL_next (p col:Int) {r:Nat} (hr:r<(p - 1).toNat):(memsL p col).take (r+1)=(memsL p col).take r ++ [memL 2 p col (r:Int)]:=by
 unfold memsL
 rw [map_next _ 0 _ (by rw [List.length_range];exact hr),List.getElem?_range hr]
 rfl
theorem members_any (p col:Int) (hp:p∈prm) (hc:p - 1≤col∧col≤p) (A:Option Addr) (n cap:Nat) (w:World) (hL:Laid w) :
 Calls Tryz.prog 293 #[.agg #[.int .i64 2,.int .i64 p,.slice A n cap],.int .i64 col] w fun e w'=>∃ u,e = .returned u∧SliceP atsR [] (·<w'.heap.size) w' u (memsL p col)∧Below w.heap.size w w':=by
 have hpp:=prm_bounds hp
 have hR:RightC 2 p:=⟨by omega,hp⟩
 obtain ⟨R,hRR⟩:∃ R:Nat,p - 1=(R:Int):=⟨(p - 1).toNat,by omega⟩
 have hRt:(p - 1).toNat=R:=by omega
 have hs2:shortN 2=1:=rfl
 have hm2:madeN 2=2:=rfl
 have HME:=Lib.hid (fun (r:Nat) (hr:r<R) (W:World) (hW:Laid W)=>(setsMembers_any 2 p col (r:Int) W hW).mono fun e w' hm=>by
  obtain ⟨u,e1,e2⟩:=hm.2.2.1 hR ⟨⟨by omega,by rw [hs2,hm2];omega⟩,by omega,by omega⟩ (by rw [hs2];omega)
  exact (⟨u,e1,e2,hm.2.2.2⟩:∃ u,e = .returned (.tuple #[u,.int .i64 0])∧ReadP w'.heap.size w' u (memL 2 p col (r:Int))∧Below W.heap.size W w'))
 have HPOS:=Lib.hid (fun (r:Nat) (hr:r<R)=>List.length_pos_iff.2 (memL_ne (k:=2) (p:=p) (mx:=col) (my:=(r:Int)) hR ⟨⟨by omega,by rw [hs2,hm2];omega⟩,by omega,by omega⟩ (by rw [hs2];omega)))
 have HNX:=Lib.hid (fun (r:Nat) (hr:r<R)=>memsL_next p col (r:=r) (by omega))
 have HLEN:Hid ((memsL p col).length=R):=by unfold Hid memsL;rw [List.length_map,List.length_range,hRt]
 have hwp:wrap64 (p - 1)=(R:Int):=(IntWalk.wrap64_in _ (by omega)).trans hRR
 have b0:=Blk.new w 203 #[.int .i64 2,.int .i64 p,.slice A n cap]
 have hBW:=below_one w (.cells #[.int .i64 2,.int .i64 p,.slice A n cap] 203)
 have g0:=b0.cell 0;have g1:=b0.cell 1;have g2:=b0.cell 2;simp only [gz9] at g0 g1 g2
 have hR16:R≤16:=by omega
 clear hR hRt hs2 hm2 hc
 generalize memsL p col=lst at *
 go_enter Tryz.func293,Tryz.ntmps293
 go_wp2_with fail
 go_loopw [5,11] (fun v i wr=>∃ r:Nat,r≤R∧i = .int .i64 r∧RowA (fun _=>True) wr (w.heap.size+1) v (lst.take r)∧(r=0→v = .slice none 0 0)∧Blk wr w.heap.size 203 #[.int .i64 2,.int .i64 p,.slice A n cap]∧Below w.heap.size w wr) (fun _ i _=>R - (intOf i).toNat)
 case atStart=>exact ⟨0,Nat.zero_le _,rfl,RowG.nil _ _ _ _ _ _,fun _=>rfl,b0,hBW⟩
 case round =>
  clear b0 hBW g0 g1 g2
  obtain ⟨r,hr,rfl,hrow,hnil,b0,hBr⟩:=hrel
  have g0:=b0.cell 0;have g1:=b0.cell 1;have g2:=b0.cell 2;simp only [gz9] at g0 g1 g2
  by_cases hlt:r<R
  · have hdec:decide ((r:Int)<(R:Int))=true:=by simp;omega
    have hcall:=Lib.hid (HME.out r hlt wr (hL.next hBr))
    have hps:=HPOS.out r hlt
    have hnx:=HNX.out r hlt
    have hpl:(lst.take r).length=r:=by rw [List.length_take,HLEN.out];omega
    have HNXR:=Lib.hid hnx
    have HPL:=Lib.hid hpl
    have HPS:=Lib.hid hps
    have HNIL:=Lib.hid hnil
    clear hps hnx hpl hnil
    generalize memL 2 p col (r:Int)=mem at *
    generalize lst.take r=pre at *
    obtain ⟨nm,hnm⟩:∃ nm,mem.length=nm:=⟨_,rfl⟩
    have HNM:=Lib.hid hnm
    clear hnm
    have hs3:=hBr.size
    have hlt0:=b0.lt
    have HVLE:=Lib.hid (fun b e=>RowG.own_le hrow b e)
    have HROW:=Lib.hid hrow
    have HB0:=Lib.hid b0
    clear hrow b0
    go_wp2_with fail
    refine hcall.out.mono ?_
    rintro e w1 ⟨u,rfl,hu,hB1⟩
    obtain ⟨gm,cm,hue,_,_⟩:=id hu
    rw [HNM.out] at hue
    subst hue
    have hs4:=hB1.size
    have hBx:=below_one w1 (.cells #[.slice (some ⟨gm,0,none⟩) nm cm] 47)
    have HRC:=Lib.hid (RowG.below HROW.out (below_in hB1 hBx))
    have HBK:=Lib.hid (Blk.new w1 47 #[.slice (some ⟨gm,0,none⟩) nm cm])
    have HUA:Hid (atsR.R (fun b=>b<(w1.alloc (.cells #[.slice (some ⟨gm,0,none⟩) nm cm] 47)).heap.size∧some b≠u5.ownBlock∧True) (w1.alloc (.cells #[.slice (some ⟨gm,0,none⟩) nm cm] 47)) (.slice (some ⟨gm,0,none⟩) nm cm) mem):=by
     have hps:=HPS.out
     have hcell:gm<w1.heap.size∧∃ x,w1.cell? ⟨gm,0,none⟩=some (.int .i64 x):=by
      obtain ⟨g,cap,e,hg,hc⟩:=hu
      injection e with e _ _
      injection e with e
      injection e with e
      subst e
      have:=(hc 0 hps).1
      rw [Nat.zero_mul] at this
      exact ⟨hg,_,this⟩
     obtain ⟨hg,x,hx⟩:=hcell
     have hne:some gm≠u5.ownBlock:=by
      rcases Nat.eq_zero_or_pos r with h0 | h0
      · rw [HNIL.out h0];intro e2;cases e2
      · exact RowA.apart (RowG.below HROW.out hB1) (by rw [HPL.out];exact h0) hx
     obtain ⟨p2,cap2,e2,hA⟩:=ReadP.ats (hu.next hBx)
     refine ⟨p2,cap2,e2,fun j hj=>?_⟩
     obtain ⟨g2,h1,h2,h3⟩:=hA j hj
     have e3:=e2
     injection e3 with e3 _ _
     rw [h1] at e3
     injection e3 with e3
     injection e3 with e3
     subst e3
     exact ⟨gm,h1,⟨by simp;omega,hne,trivial⟩,h3⟩
    have HB5:=Lib.hid ((HB0.out.below hB1 (by omega)).alloc (.cells #[.slice (some ⟨gm,0,none⟩) nm cm] 47))
    have HBB:=Lib.hid (below_in hBr (below_in hB1 hBx))
    have hsz:(w1.alloc (.cells #[.slice (some ⟨gm,0,none⟩) nm cm] 47)).heap.size=w1.heap.size+1:=by simp
    clear hu
    go_wp2_with (first
     | (go_at_call 314;refine (sureA _ _).mono ?_;rintro e w3 ⟨rfl,rfl⟩)
     | (at_builtin;refine wpList_pushA (T:=181) _ rfl _ _ rfl Tryz.underlying181 pre rfl HRC.out w1.heap.size 47 _ mem rfl HBK.out HUA.out (by have:=HPL.out;omega) (by omega) ?_;intro v' w2 hrow4 hgrow hown))
    go_roundw
    case rel=>exact ⟨r+1,by omega,by go_num,by rw [HNXR.out];exact hrow4,fun h=>absurd h (by omega),HB5.out.grown hgrow (fun e=>by have:=HVLE.out _ e.symm;omega),below_grown HBB.out hgrow (by omega) (fun g e=>by have:=HVLE.out g e;omega)⟩
    case measure=>simp [intOf];omega
  · obtain rfl:r=R:=by omega
    have e1:decide ((r:Int)<(r:Int))=false:=by simp
    have HTK:Hid (lst.take r=lst):=by unfold Hid;rw [List.take_of_length_le];rw [HLEN.out];exact Nat.le_refl _
    rw [HTK.out] at hrow
    go_wp2
    go_ret
    exact ⟨_,rfl,RowG.slice hrow (fun b hb _=>hb),hBr⟩
end Go.Proofs.YtknkdbincaonbaaGreatDoor.R
