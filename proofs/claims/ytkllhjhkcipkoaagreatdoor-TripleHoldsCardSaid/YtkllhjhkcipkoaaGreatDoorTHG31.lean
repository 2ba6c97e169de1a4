/- -/
import Derived.Test.YtkllhjhkcipkoaaGreatDoorTHG28
import Derived.Test.YtkllhjhkcipkoaaGreatDoorTHG30
set_option linter.unusedVariables false
set_option linter.unusedSimpArgs false
set_option maxRecDepth 100000
set_option maxHeartbeats 400000
namespace Go.Proofs.YtkllhjhkcipkoaaGreatDoor.Tr
open Go.RowKit Go.Shelf Go.Maps Go.Proofs.YtkllhjhkcipkoaaGreatDoor.C Go.Proofs.YtkllhjhkcipkoaaGreatDoor.E Go.Proofs.YtkllhjhkcipkoaaGreatDoor.T Go.Proofs.YtkllhjhkcipkoaaGreatDoor.Rg Go.Proofs.YtkllhjhkcipkoaaGreatDoor.Ch
attribute [local go_sem] Oper.semAt_some

theorem star13_any (p:Int) (w:World):Calls Tryz.prog 14 #[.int .i64 p] w fun e w'=>e = .returned (.agg #[.int .i64 3,.int .i64 p])∧Below w.heap.size w w':=by
 go_enter Tryz.func14,Tryz.ntmps14
 go_wp2
 have b:=Blk.new w 37 #[.int .i64 3,.int .i64 p]
 have c0:=b.cell 0
 have c1:=b.cell 1
 simp only [gz9] at c0 c1
 exact bodyPost_ret (v:=.agg #[.int .i64 3,.int .i64 p]) (by simp [results,Tryz.results14,go_sem,c0,c1]) rfl ⟨rfl,below_one w _⟩
def allS (P Q:Nat) (css:List (List (List UInt8))):List (List (List UInt8)):=css ++ [rowsMade Q css,diagsMade (P:Int) Q css,slMade (P:Int) css]
theorem enc_star {P Q n:Nat} (d:Rg.Dims P Q n) {css:List (List (List UInt8))} (hr:RightD (P:Int) css) (hl:css.length=P) (hn:(firstC css).length=n) {B:Nat} (v:Value) (w:World) (hB:B≤w.heap.size) (hC:Cols B w v css) :
 Calls Tryz.prog 24 #[.agg #[.int .i64 3,.int .i64 (P:Int)],v] w fun e w'=>∃ u,e = .returned u∧Cols w'.heap.size w' u (allS P Q css)∧Below w.heap.size w w':=by
 have hpb:=prm_bounds d.hp
 have h64:=d.h64
 have hd:DataOk (P:Int) css:=⟨⟨by omega,d.hp⟩,by rw [hl],hr.2⟩
 have hQ:((P:Int) - 1).toNat=Q:=by have:=d.hQ;omega
 have h:=encode6_any (B:=B) 3 (P:Int) ⟨by omega,d.hp⟩ v css n w hB hC (by rw [hl];simp [shortN]) (by rw [←hn];exact togOk_grid hr.2) (by omega)
 rw [show (madeN 3).toNat=3 from rfl,←hn,steps3 hd] at h
 unfold starOf encOf at h
 rw [hQ] at h
 exact h
theorem allS_len {P Q:Nat} {css:List (List (List UInt8))} (hl:css.length=P):(allS P Q css).length=P+3:=by unfold allS;simp [hl]
theorem allS_data {P Q:Nat} {css:List (List (List UInt8))} (hl:css.length=P) {c:Nat} (hc:c<P):(allS P Q css)[c]?.getD []=css[c]?.getD []:=by unfold allS;rw [List.getElem?_append_left (by omega)]
theorem allS_role {P Q:Nat} {css:List (List (List UInt8))} (hl:css.length=P) {r:Int} (hr:IsRole r):(allS P Q css)[P+(r - 2).toNat]?.getD []=roleC P Q css r:=by
 have h3:r=2∨r=3∨r=4:=by obtain ⟨h1,h2⟩:=hr;omega
 unfold allS
 rw [List.getElem?_append_right (by omega),hl,Nat.add_sub_cancel_left]
 rcases h3 with rfl | rfl | rfl <;> rfl
theorem bad3_of {P Q n:Nat} {css cs2:List (List (List UInt8))} {L rs:List Int} (hok:DataOk (P:Int) css) (hn:(firstC css).length=n) (hl:css.length=P) (h2:cs2.length=P+3) (hd:∀ c:Nat,c<P→(c:Int)∉L→cs2[c]?.getD []=(allS P Q css)[c]?.getD [])
 (hr:∀ r∈rs,IsRole r∧cs2[P+(r - 2).toNat]?.getD []=(allS P Q css)[P+(r - 2).toNat]?.getD []):Bad3 P Q n css cs2 L rs :=
 ⟨hok,hn,h2,fun c hc hm=>(hd c hc hm).trans (allS_data hl hc),fun r h=>⟨(hr r h).1,(hr r h).2.trans (allS_role hl (hr r h).1)⟩⟩
theorem bad_1 {P Q n a b c:Nat} {css:List (List (List UInt8))} {cu cv cx:List (List UInt8)} (hok:DataOk (P:Int) css) (hn:(firstC css).length=n) (hl:css.length=P) (hab:a<b) (hbc:b<c) (hc:c<P) :
 Bad3 P Q n css ((((allS P Q css).set a cu).set b cv).set c cx) [(a:Int),(b:Int),(c:Int)] [2,3,4] :=
 bad3_of hok hn hl (by simp [allS_len hl]) (fun i hi hm=>by
  have h1:i≠a∧i≠b∧i≠c:=by simp at hm;omega
  rw [List.getElem?_set_ne (by omega),List.getElem?_set_ne (by omega),List.getElem?_set_ne (by omega)]) fun r hr=>by
  have h1:IsRole r:=by simp at hr;rcases hr with rfl | rfl | rfl <;> exact ⟨by omega,by omega⟩
  exact ⟨h1,by rw [List.getElem?_set_ne (by omega),List.getElem?_set_ne (by omega),List.getElem?_set_ne (by omega)]⟩
theorem bad_2 {P Q n a c t:Nat} {s:Int} (hs:s=(t:Int)+2) (ht:t≤2) {css:List (List (List UInt8))} {cu cv cx:List (List UInt8)} (hok:DataOk (P:Int) css) (hn:(firstC css).length=n) (hl:css.length=P) (hac:a<c) (hc:c<P) :
 Bad3 P Q n css ((((allS P Q css).set a cu).set c cv).set (P+t) cx) [(a:Int),(c:Int)] (butL s) :=
 bad3_of hok hn hl (by simp [allS_len hl]) (fun i hi hm=>by
  have h1:i≠a∧i≠c:=by simp at hm;omega
  rw [List.getElem?_set_ne (by omega),List.getElem?_set_ne (by omega),List.getElem?_set_ne (by omega)]) fun r hr=>by
  have hrole:IsRole s:=⟨by omega,by omega⟩
  have h1:=but_role hrole r hr
  have h2:r≠s:=by
   have h3:s=2∨s=3∨s=4:=by omega
   rcases h3 with h | h | h <;> subst h <;> · simp [butL] at hr;omega
  obtain ⟨y1,y2⟩:=h1
  exact ⟨⟨y1,y2⟩,by rw [List.getElem?_set_ne (by omega),List.getElem?_set_ne (by omega),List.getElem?_set_ne (by omega)]⟩
theorem bad_3 {P Q n b t o0 o1:Nat} {s:Int} (hs:s=(t:Int)+2) (ht:t≤2) (h0:P≤o0∧o0≠P+t) (h1:P≤o1∧o1≠P+t) {css:List (List (List UInt8))} {cu cv cx:List (List UInt8)} (hok:DataOk (P:Int) css) (hn:(firstC css).length=n) (hl:css.length=P) (hb:b<P) :
 Bad3 P Q n css ((((allS P Q css).set b cu).set o0 cv).set o1 cx) [(b:Int)] [s] :=
 bad3_of hok hn hl (by simp [allS_len hl]) (fun i hi hm=>by
  have h1:i≠b:=by simp at hm;omega
  rw [List.getElem?_set_ne (by omega),List.getElem?_set_ne (by omega),List.getElem?_set_ne (by omega)]) fun r hr=>by
  rw [List.mem_singleton] at hr
  subst hr
  exact ⟨⟨by omega,by omega⟩,by rw [List.getElem?_set_ne (by omega),List.getElem?_set_ne (by omega),List.getElem?_set_ne (by omega)]⟩
theorem oth_two {P t:Nat} (ht:t≤2):∃ o0 o1:Nat,othL (P:Int) ((t:Int)+2) 3 = [(o0:Int),(o1:Int)]∧(P≤o0∧o0≠P+t∧o0<P+3)∧(P≤o1∧o1≠P+t∧o1<P+3)∧o0≠o1:=by
 have h3:t=0∨t=1∨t=2:=by omega
 rcases h3 with rfl | rfl | rfl
 · exact ⟨P+1,P+2,by simp [othL],by omega,by omega,by omega⟩
 · exact ⟨P,P+2,by simp [othL],by omega,by omega,by omega⟩
 · exact ⟨P,P+1,by simp [othL],by omega,by omega,by omega⟩
theorem cols_three_set {N cc g a b c:Nat} {W:World} {cur:Array Value} {all:List (List (List UInt8))} {u v x:Value} {cu cv cx:List (List UInt8)} (hb:Blk W g 41 cur) (hl:all.length=N) (hcc:N≤cc) (hcs:N≤cur.size)
 (hcu:∀ j,j<all.length→∃ u,cur[j]?=some u∧manyR.R (fun b=>b<W.heap.size∧b≠g) W u (all[j]?.getD [])) (ha:a<N) (hbN:b<N) (hcN:c<N) (hab:a≠b) (hac:a≠c) (hbc:b≠c) (hu:manyR.R (fun b=>b<W.heap.size∧b≠g) W u cu) (hv:manyR.R (fun b=>b<W.heap.size∧b≠g) W v cv) (hx:manyR.R (fun b=>b<W.heap.size∧b≠g) W x cx) (X:World) (hX:((W.setCell ⟨g,a,none⟩ u).setCell ⟨g,b,none⟩ v).setCell ⟨g,c,none⟩ x=X) :
 Cols X.heap.size X (.slice (some ⟨g,0,none⟩) N cc) (((all.set a cu).set b cv).set c cx):=by
 have h2:=((hb.set_ a u).set_ b v).set_ c x
 have hXs:X.heap.size=W.heap.size:=by rw [←hX];simp
 rw [hX] at h2
 have hk:∀ {x':Value} {c':List (List UInt8)},manyR.R (fun b=>b<W.heap.size∧b≠g) W x' c'→Many X.heap.size X x' c':=fun {x' c'} h=>by
  refine manyR_iff.1 (manyR.imp (manyR.keep h (W':=X) fun k hk=>?_) fun k hk=>?_)
  · rw [←hX,Below.heap_setCell _ ⟨g,c,none⟩ x k hk.2,Below.heap_setCell _ ⟨g,b,none⟩ v k hk.2,Below.heap_setCell _ ⟨g,a,none⟩ u k hk.2]
  · show k<X.heap.size
    rw [hXs];exact hk.1
 refine cols_of_blk h2 h2.lt (by rw [List.length_set,List.length_set,List.length_set];exact hl) hcc fun j hj=>?_
 by_cases hjc:j=c
 · subst hjc
   refine ⟨x,by rw [Array.getElem?_setIfInBounds,if_pos rfl,if_pos (by rw [Array.size_setIfInBounds,Array.size_setIfInBounds];omega)],?_⟩
   rw [List.getElem?_set_self (by rw [List.length_set,List.length_set];omega)]
   exact hk hx
 by_cases hjb:j=b
 · subst hjb
   refine ⟨v,by rw [Array.getElem?_setIfInBounds_ne (by omega),Array.getElem?_setIfInBounds,if_pos rfl,if_pos (by rw [Array.size_setIfInBounds];omega)],?_⟩
   rw [List.getElem?_set_ne (by omega),List.getElem?_set_self (by rw [List.length_set];omega)]
   exact hk hv
 · by_cases hja:j=a
   · subst hja
     refine ⟨u,by rw [Array.getElem?_setIfInBounds_ne (by omega),Array.getElem?_setIfInBounds_ne (by omega),Array.getElem?_setIfInBounds,if_pos rfl,if_pos (by omega)],?_⟩
     rw [List.getElem?_set_ne (by omega),List.getElem?_set_ne (by omega),List.getElem?_set_self (by omega)]
     exact hk hu
   · obtain ⟨y,hx1,hx2⟩:=hcu j (by omega)
     refine ⟨y,by rw [Array.getElem?_setIfInBounds_ne (by omega),Array.getElem?_setIfInBounds_ne (by omega),Array.getElem?_setIfInBounds_ne (by omega)];exact hx1,?_⟩
     rw [List.getElem?_set_ne (by omega),List.getElem?_set_ne (by omega),List.getElem?_set_ne (by omega)]
     exact hk hx2
def RowSt (W:World) (g N:Nat) (all:List (List (List UInt8))):Prop:=all.length=N∧∃ cur,Blk W g 41 cur∧N≤cur.size∧∀ j,j<N→∃ u,cur[j]?=some u∧manyR.R (fun b=>b<W.heap.size∧b≠g) W u (all[j]?.getD [])
theorem RowSt.old {W:World} {g N i:Nat} {all:List (List (List UInt8))} (h:RowSt W g N all) (hi:i<N):∃ old,W.cell? ⟨g,i,none⟩=some old:=by
 obtain ⟨_,cur,hb,hs,_⟩:=h
 exact ⟨_,by rw [hb.cell i,Array.getElem?_eq_getElem (by omega)]⟩
theorem RowSt.frozen {W:World} {g N:Nat} {all:List (List (List UInt8))} (h:RowSt W g N all) (i:Nat):W.frozen? ⟨g,i,none⟩=false:=by
 obtain ⟨_,cur,hb,hs,_⟩:=h
 exact hb.frozen i
theorem RowSt.below {W W':World} {g N:Nat} {all:List (List (List UInt8))} (h:RowSt W g N all) (hB:Below W.heap.size W W'):RowSt W' g N all:=by
 obtain ⟨hl,cur,hb,hs,hc⟩:=h
 refine ⟨hl,cur,hb.below hB hb.lt,hs,fun j hj=>?_⟩
 obtain ⟨u,h1,h2⟩:=hc j hj
 exact ⟨u,h1,manyR.imp (manyR.keep h2 fun k hk=>hB.block k hk.1) fun k hk=>⟨Nat.lt_of_lt_of_le hk.1 hB.size,hk.2⟩⟩
theorem RowSt.set {W:World} {g N i:Nat} {all:List (List (List UInt8))} {v:Value} {c:List (List UInt8)} (h:RowSt W g N all) (hi:i<N) (hv:manyR.R (fun b=>b<W.heap.size∧b≠g) W v c):RowSt (W.setCell ⟨g,i,none⟩ v) g N (all.set i c):=by
 obtain ⟨hl,cur,hb,hs,hc⟩:=h
 have hk:∀ {x':Value} {c':List (List UInt8)},manyR.R (fun b=>b<W.heap.size∧b≠g) W x' c'→manyR.R (fun b=>b<(W.setCell ⟨g,i,none⟩ v).heap.size∧b≠g) (W.setCell ⟨g,i,none⟩ v) x' c':=fun {x' c'} h=>by
  refine manyR.imp (manyR.keep h fun k hk=>?_) fun k hk=>⟨by simp;exact hk.1,hk.2⟩
  exact Below.heap_setCell _ ⟨g,i,none⟩ v k hk.2
 refine ⟨by rw [List.length_set];exact hl,_,hb.set_ i v,by rw [Array.size_setIfInBounds];exact hs,fun j hj=>?_⟩
 by_cases hji:j=i
 · subst hji
   refine ⟨v,by rw [Array.getElem?_setIfInBounds,if_pos rfl,if_pos (by omega)],?_⟩
   rw [List.getElem?_set_self (by omega)]
   exact hk hv
 · obtain ⟨u,h1,h2⟩:=hc j hj
   refine ⟨u,by rw [Array.getElem?_setIfInBounds_ne (by omega)];exact h1,?_⟩
   rw [List.getElem?_set_ne (by omega)]
   exact hk h2
theorem RowSt.cols {W:World} {g N cc:Nat} {all:List (List (List UInt8))} (h:RowSt W g N all) (hcc:N≤cc):Cols W.heap.size W (.slice (some ⟨g,0,none⟩) N cc) all:=by
 obtain ⟨hl,cur,hb,hs,hc⟩:=h
 refine cols_of_blk hb hb.lt hl hcc fun j hj=>?_
 obtain ⟨u,h1,h2⟩:=hc j hj
 exact ⟨u,h1,manyR_iff.1 (manyR.imp h2 fun k hk=>hk.1)⟩
end Go.Proofs.YtkllhjhkcipkoaaGreatDoor.Tr

namespace Go.Proofs.YtkllhjhkcipkoaaGreatDoor.Cd
open Go.RowKit Go.Shelf Go.Proofs.YtkllhjhkcipkoaaGreatDoor.C Go.Proofs.YtkllhjhkcipkoaaGreatDoor.E Go.ChangeShapes Go.WideShapes

theorem list3' {α:Type} (l:List α) (h:l.length=3):∃ a b c,l = [a,b,c]:=by
 match l,h with
 | [a,b,c],_=>exact ⟨a,b,c,rfl⟩
theorem open_three {H:Type} {enc:TypeId×Value→H} {W:World} {base:Nat} {v:Value} {d:DataW H} {p:List MemPlace} (hv:Value.okWide Tryz.prog W .any base 23 v) (h:∃ fuel,DataW.trod enc Tryz.prog W 0 (fun _=>true) true fuel 23 v.cells.toList=some (d,p)):∃ x y z:Int,v = .agg #[.int .i64 x,.int .i64 y,.int .i64 z]∧(Lit.int .i64 x).wf=true∧(Lit.int .i64 y).wf=true∧(Lit.int .i64 z).wf=true:=by
 obtain ⟨cs,rfl,hsz,_⟩:∃ cs,v = .agg cs∧cs.size = Tryz.prog.cellsOf 23∧Row.okWide Tryz.prog W .any base 23 cs:=by
  simpa [Value.okWide,Tryz.underlying23] using hv
 rw [show Tryz.prog.cellsOf 23=3 by kernel_rfl] at hsz
 obtain ⟨l⟩:=cs
 obtain ⟨c0,c1,c2,rfl⟩:=list3' l hsz
 obtain ⟨fuel,hf⟩:=h
 obtain ⟨xs,m,rfl,_,_,hn,hel⟩:=DataW.trod_array Tryz.underlying23 hf
 obtain ⟨y0,y1,y2,rfl⟩:=list3' xs hn
 have h0:=hel 0 (by omega)
 have h1:=hel 1 (by omega)
 have h2:=hel 2 (by omega)
 rw [cells_int] at h0 h1 h2
 obtain ⟨x0,e0,_,w0⟩:=DataW.trod_int Tryz.underlying3 (show DataW.trod enc Tryz.prog W 0 (fun _=>true) true m 3 [c0]=some y0 from h0)
 obtain ⟨x1,e1,_,w1⟩:=DataW.trod_int Tryz.underlying3 (show DataW.trod enc Tryz.prog W 0 (fun _=>true) true m 3 [c1]=some y1 from h1)
 obtain ⟨x2,e2,_,w2⟩:=DataW.trod_int Tryz.underlying3 (show DataW.trod enc Tryz.prog W 0 (fun _=>true) true m 3 [c2]=some y2 from h2)
 simp at e0 e1 e2
 subst e0 e1 e2
 exact ⟨x0,x1,x2,rfl,w0,w1,w2⟩
end Go.Proofs.YtkllhjhkcipkoaaGreatDoor.Cd

namespace Go.Proofs.YtkllhjhkcipkoaaGreatDoor.R
open Go.RowKit Go.Shelf Go.Proofs.YtkllhjhkcipkoaaGreatDoor.C Go.Proofs.YtkllhjhkcipkoaaGreatDoor.E

def AtsP (P:Nat→Prop) (W:World) (v:Value) (l:List (Int×Int)):Prop :=
 ∃ (p:Option Addr) (cap:Nat),v = .slice p l.length cap∧∀ (j:Nat) (hj:j<l.length),∃ g,p=some ⟨g,0,none⟩∧P g∧W.cell? ⟨g,j * 2,none⟩=some (.int .i64 (l[j]).1)∧W.cell? ⟨g,j * 2+1,none⟩=some (.int .i64 (l[j]).2)
theorem AtsP.imp {P Q:Nat→Prop} {W:World} {v:Value} {l:List (Int×Int)} (h:AtsP P W v l) (hq:∀ b,P b→Q b):AtsP Q W v l:=by
 obtain ⟨p,cap,e,hA⟩:=h
 exact ⟨p,cap,e,fun j hj=>by obtain ⟨g,h1,h2,h3⟩:=hA j hj;exact ⟨g,h1,hq g h2,h3⟩⟩
theorem AtsP.keep {P:Nat→Prop} {W W':World} {v:Value} {l:List (Int×Int)} (h:AtsP P W v l) (hk:Keeps P W W'):AtsP P W' v l:=by
 obtain ⟨p,cap,e,hA⟩:=h
 exact ⟨p,cap,e,fun j hj=>by obtain ⟨g,h1,h2,h3,h4⟩:=hA j hj;exact ⟨g,h1,h2,(World.cell?_of_block (hk g h2)).trans h3,(World.cell?_of_block (hk g h2)).trans h4⟩⟩
def atsR:Rep (List (Int×Int)) where
 R:=AtsP
 imp:=AtsP.imp
 keep:=AtsP.keep
 one:=fun ⟨_,_,e,_⟩=>by rw [e];rfl
theorem AtsP.read {W:World} {v:Value} {l:List (Int×Int)} (h:AtsP (·<W.heap.size) W v l):ReadA W v l:=h
def RowA:=RowG atsR 88 []
theorem RowA.apart {Q:Nat→Prop} {W:World} {base:Nat} {v:Value} {xs:List (List (Int×Int))} (h:RowA Q W base v xs) (hx:0<xs.length) {g:Nat} {x:Int} (hg:W.cell? ⟨g,0,none⟩=some (.int .i64 x)):some g≠v.ownBlock:=by
 obtain ⟨us,ho,hn,hr⟩:=h
 obtain ⟨g2,cap,rfl,_,_⟩:=World.ownsRow.form ho (by omega)
 intro e
 have e2:g=g2:=by injection e
 subst e2
 have hc:=World.ownsRow.cellAt ho 0 (by omega)
 have h0:us[0]?=some us[0]:=List.getElem?_eq_getElem (by omega)
 obtain ⟨p,c,e3,_⟩:=hr 0 us[0] h0
 rw [hc,h0,e3] at hg
 cases hg
section
variable {Q:Nat→Prop} {base:Nat} {v:Value}
end
end Go.Proofs.YtkllhjhkcipkoaaGreatDoor.R

namespace Go.Proofs.YtkllhjhkcipkoaaGreatDoor.R
open Go.RowKit Go.Shelf Go.Proofs.YtkllhjhkcipkoaaGreatDoor.C Go.Proofs.YtkllhjhkcipkoaaGreatDoor.E

def OwnK (w:World) (base:Nat) (v:Value) (us:List Value):Prop:=w.ownsRow base 41 1 v us.length us
def ColsV (B:Nat) (W:World) (v:Value) (us:List Value) (css:List (List (List UInt8))):Prop:=us.length=css.length∧Vals B W v us∧∀ (j:Nat) (u:Value),us[j]?=some u→Many B W u (css[j]?.getD [])
theorem ColsV.below {B:Nat} {W W':World} {v:Value} {us:List Value} {css:List (List (List UInt8))} (h:ColsV B W v us css) (hb:Below B W W'):ColsV B W' v us css:=⟨h.1,h.2.1.below hb,fun j u hu=>(h.2.2 j u hu).below hb⟩
theorem ColsV.more {B B':Nat} {W:World} {v:Value} {us:List Value} {css:List (List (List UInt8))} (h:ColsV B W v us css) (hB:B≤B'):ColsV B' W v us css:=⟨h.1,h.2.1.more hB,fun j u hu=>(h.2.2 j u hu).more hB⟩
theorem ColsV.one {B:Nat} {W:World} {v:Value} {us:List Value} {css:List (List (List UInt8))} (h:ColsV B W v us css):∀ u∈us,u.oneCell'=true:=fun u hu=>by
 obtain ⟨j,hj⟩:=List.getElem?_of_mem hu
 obtain ⟨A,cap,rfl,_⟩:=h.2.2 j u hj
 rfl
theorem ColsV.nil (B:Nat) (W:World):ColsV B W (.slice none 0 0) [] []:=⟨rfl,.inl ⟨rfl,rfl⟩,fun j u h=>by cases h⟩
theorem OwnK.cols {B base:Nat} {W:World} {v:Value} {us:List Value} {css:List (List (List UInt8))} (h:OwnK W base v us) (hn:us.length=css.length) (h0:0<us.length) (hb:∀ (j:Nat) (u:Value),us[j]?=some u→Many B W u (css[j]?.getD [])) (hB:B≤W.heap.size):Cols W.heap.size W v css:=by
 have hcp:∀ g cap,v = .slice (some ⟨g,0,none⟩) us.length cap→us.length≤cap:=fun g cap e=>by
  rcases h.2 with ⟨_,h1⟩ | ⟨g2,cap2,cur,e2,_,_,hnc,_⟩
  · omega
  · rw [e] at e2
    injection e2 with _ _ e3
    omega
 obtain ⟨g,cap,e,hg,hg1⟩:=World.ownsRow.form h h0
 have hcap:=hcp g cap e
 subst e
 refine ⟨_,cap,by rw [hn],by rw [←hn];exact hcap,fun _=>⟨g,0,rfl,by omega,fun j hj=>?_⟩⟩
 have hj2:j<us.length:=by omega
 refine ⟨us[j],?_,(hb j us[j] (List.getElem?_eq_getElem hj2)).more hB⟩
 rw [Nat.zero_add,World.ownsRow.cellAt h j (by omega),List.getElem?_eq_getElem hj2]
end Go.Proofs.YtkllhjhkcipkoaaGreatDoor.R

namespace Go.Proofs.YtkllhjhkcipkoaaGreatDoor.R
open Go.RowKit Go.Shelf Go.Proofs.YtkllhjhkcipkoaaGreatDoor.C Go.Proofs.YtkllhjhkcipkoaaGreatDoor.E
attribute [local go_sem] Oper.semAt_some

theorem _root_.Go.Proofs.YtkllhjhkcipkoaaGreatDoor.OwnA.far {w:World} {base:Nat} {v:Value} {l:List (Int×Int)} (h:OwnA w base v l) {p:Addr} (hp:some p.block≠v.ownBlock) (u:Value):OwnA (w.setCell p u) base v l:=by
 refine ⟨h.1,?_⟩
 rcases h.2 with h1 | ⟨g,cap,cur,e,h2,hg,rest⟩
 · exact .inl h1
 · exact .inr ⟨g,cap,cur,e,h2,(Below.heap_setCell w p u g (fun e2=>hp (by rw [e,←e2];rfl))).trans hg,rest⟩
theorem _root_.Go.Proofs.YtkllhjhkcipkoaaGreatDoor.OwnA.kept {w w':World} {base:Nat} {v:Value} {l:List (Int×Int)} (h:OwnA w base v l) {row:Option Nat} (hg:w.grownBy w' row) (hne:v.ownBlock=none∨v.ownBlock≠row):OwnA w' base v l:=World.ownsRow.kept h hg hne
theorem _root_.Go.Proofs.YtkllhjhkcipkoaaGreatDoor.OwnA.rowO {w:World} {base:Nat} {v:Value} {l:List (Int×Int)} (h:OwnA w base v l):RowO v.ownBlock w:=fun b e=>by
 rcases h.2 with ⟨rfl,_⟩ | ⟨g,cap,cur,rfl,_,hg,_⟩
 · cases e
 · injection e with e
   subst e
   exact ⟨_,_,_,hg⟩
end Go.Proofs.YtkllhjhkcipkoaaGreatDoor.R

namespace Go.Proofs.YtkllhjhkcipkoaaGreatDoor.R
open Go.RowKit Go.Shelf Go.Proofs.YtkllhjhkcipkoaaGreatDoor.C Go.Proofs.YtkllhjhkcipkoaaGreatDoor.E

def KeepP (P:Nat→Prop) (X Y:World):Prop:=X.heap.size≤Y.heap.size∧∀ b,P b→Y.heap[b]?=X.heap[b]?
theorem KeepP.refl (P:Nat→Prop) (X:World):KeepP P X X:=⟨Nat.le_refl _,fun _ _=>rfl⟩
theorem KeepP.trans {P:Nat→Prop} {X Y Z:World} (h:KeepP P X Y) (h':KeepP P Y Z):KeepP P X Z:=⟨Nat.le_trans h.1 h'.1,fun b hb=>(h'.2 b hb).trans (h.2 b hb)⟩
theorem KeepP.below {P:Nat→Prop} {X Y:World} (h:Below X.heap.size X Y) (hP:∀ b,P b→b<X.heap.size):KeepP P X Y:=⟨h.size,fun b hb=>h.block b (hP b hb)⟩
theorem KeepP.putFar {P:Nat→Prop} (X:World) {l:Nat} (hl:¬ P l) (o:Obj):KeepP P X (X.putObj l o):=⟨by simp [World.putObj],fun b hb=>World.putObj_heap_other (fun e=>hl (e▸hb))⟩
theorem KeepP.setFar {P:Nat→Prop} (X:World) {p:Addr} (hp:¬ P p.block) (v:Value):KeepP P X (X.setCell p v):=⟨by simp,fun b hb=>Below.heap_setCell X p v b (fun e=>hp (e▸hb))⟩
section
attribute [local go_sem] Oper.semAt_some
end
theorem blk_ne {W:World} {g x:Nat} {t t':TypeId} {c c':Array Value} (h:Blk W g t c) (h':Blk W x t' c') (ht:t≠t'):g≠x:=fun e=>by
 subst e
 have h2:W.heap[g]?=some (.cells c t (0,0)):=h
 have h3:W.heap[g]?=some (.cells c' t' (0,0)):=h'
 rw [h2] at h3
 injection h3 with h3
 injection h3 with _ h3 _
 exact ht h3
end Go.Proofs.YtkllhjhkcipkoaaGreatDoor.R

namespace Go.Proofs.YtkllhjhkcipkoaaGreatDoor.E
open Go.RowKit Go.Shelf Go.Proofs.YtkllhjhkcipkoaaGreatDoor.C
theorem RowG.empty {α:Type} (r:Rep α) (t:TypeId) (d:α) (Q:Nat→Prop) {W:World} {base g:Nat} (hg:Blk W g t #[]) (hb:base≤g):RowG r t d Q W base (.slice (some ⟨g,0,none⟩) 0 0) [] :=
 ⟨[],⟨rfl,.inr ⟨g,0,#[],rfl,hb,hg,Nat.le_refl _,by unfold maxLen;omega,rfl,rfl⟩⟩,rfl,fun j y hy=>by cases hy⟩
section
variable {p:Int} {a b:List (List (List UInt8))}
end
end Go.Proofs.YtkllhjhkcipkoaaGreatDoor.E

namespace Go.Proofs.YtkllhjhkcipkoaaGreatDoor.R
open Go.RowKit Go.Shelf Go.Proofs.YtkllhjhkcipkoaaGreatDoor.C Go.Proofs.YtkllhjhkcipkoaaGreatDoor.E

theorem Grid.put {R n:Nat} {a b:List (List (List UInt8))} (ha:Grid R n a):Grid R n (putOf a b):=by
 intro j hj
 rw [putOf_len] at hj
 refine ⟨by rw [putOf_col hj,putCol_len];exact (ha j hj).1,fun i hi=>?_⟩
 have hc:=cell_put (a:=a) (b:=b) j i hj (by rw [(ha j hj).1];exact hi)
 unfold cellOf_ at hc
 rw [hc,xorB_len]
 exact (ha j hj).2 i hi
section
variable {p:Int} {a b:List (List (List UInt8))}
end
end Go.Proofs.YtkllhjhkcipkoaaGreatDoor.R

namespace Go.Proofs.YtkllhjhkcipkoaaGreatDoor.R
open Go.RowKit Go.Shelf Go.Proofs.YtkllhjhkcipkoaaGreatDoor.C Go.Proofs.YtkllhjhkcipkoaaGreatDoor.E
theorem app_far {W U:World} {base:Nat} {v x:Value} {css ds:List (List (List UInt8))} (hU:Below W.heap.size W U) (hb:W.heap.size≤base) (hrow:RowC (fun _=>True) U base v css) (hx:Cols W.heap.size U x ds):colsR.R (fun b=>b<U.heap.size∧some b≠v.ownBlock∧True) U x ds :=
 colsR.imp (colsR_iff.2 hx) fun b hb2=>by
  have h1:b<W.heap.size:=hb2
  have h2:=hU.size
  exact ⟨by omega,fun e=>by have:=RowG.own_le hrow b e.symm;omega,trivial⟩
end Go.Proofs.YtkllhjhkcipkoaaGreatDoor.R
