/- -/
import Derived.Test.YtknkdbincaonbaaGreatDoorCEG13
import Derived.Test.YtknkdbincaonbaaGreatDoorCEG11
import Derived.Laws.OwnMore
import Derived.Laws.EntriesVeiled
import Derived.Test.YtknkdbincaonbaaGreatDoorCEG3
import Derived.Test.YtknkdbincaonbaaGreatDoorCEG7
import Derived.Lib.AppendZeros
set_option linter.unusedVariables false
set_option linter.unusedSimpArgs false
set_option maxRecDepth 100000
set_option maxHeartbeats 2000000
namespace Go.Proofs.YtknkdbincaonbaaGreatDoor.R
open Go.RowKit Go.Shelf Go.Proofs.YtknkdbincaonbaaGreatDoor.C Go.Proofs.YtknkdbincaonbaaGreatDoor.E

theorem cell_any {B:Nat} (p:Int) (v:Value) (css:List (List (List UInt8))) (R n:Nat) (X Y:Nat) (w:World) (hB:B≤w.heap.size) (hC:Cols B w v css) (hg:Grid R n css) (hX:X<css.length) (hY:Y<R) :
 Calls Tryz.prog 213 #[.agg #[.int .i64 2,.int .i64 p,v],.agg #[.int .i64 (X:Int),.int .i64 (Y:Int)]] w fun e w'=>∃ u,e = .returned u∧Bytes B w' u (cellI css ((X:Int),(Y:Int)))∧Below w.heap.size w w':=by
 obtain ⟨b1,off1,cap,rfl,hcap,hb1,hrow1⟩:=hC.at_ (by omega)
 obtain ⟨u1,hc1,hm1⟩:=hrow1 X hX
 obtain ⟨hcr,hce⟩:=hg X hX
 obtain ⟨A3,cap3,rfl,_,_⟩:=id hm1
 obtain ⟨b2,off3,rfl,hb2,hrow3⟩:=many_at hm1 (by omega)
 obtain ⟨Aa,ca,hc3,hby⟩:=hrow3 Y (by omega)
 have hcI:cellI css ((X:Int),(Y:Int))=(css[X]?.getD [])[Y]?.getD []:=rfl
 rw [hcI]
 rw [hcr] at hc1
 obtain ⟨W2,hW2⟩:∃ W2,(w.alloc (.cells #[.int .i64 2,.int .i64 p,.slice (some ⟨b1,off1,none⟩) css.length cap] 203)).alloc (.cells #[.int .i64 (X:Int),.int .i64 (Y:Int)] 53)=W2:=⟨_,rfl⟩
 have b0:Blk W2 w.heap.size 203 #[.int .i64 2,.int .i64 p,.slice (some ⟨b1,off1,none⟩) css.length cap]:=by rw [←hW2];exact (Blk.new w _ _).alloc _
 have bq:Blk W2 (w.heap.size+1) 53 #[.int .i64 (X:Int),.int .i64 (Y:Int)]:=by rw [←hW2];exact Blk.second w _ _ _
 have hB2:Below w.heap.size w W2:=by rw [←hW2];exact below_two w _ _
 have k2:=b0.cell 2
 have a0:=bq.cell 0
 have a1:=bq.cell 1
 simp only [gz9] at k2 a0 a1
 have hc1':=(hB2.cell (p:=⟨b1,off1+X,none⟩) (Nat.lt_of_lt_of_le hb1 hB)).trans hc1
 have hc3':=(hB2.cell (p:=⟨b2,off3+Y,none⟩) (Nat.lt_of_lt_of_le hb2 hB)).trans hc3
 have HBY:=Lib.hid (fun (U:World) (hU:Below w.heap.size w U)=>hby.below (hU.mono hB))
 have i1:(0:Int)≤(X:Int):=by omega
 have i2:(X:Int)<(css.length:Int):=by omega
 have i3:(0:Int)≤(Y:Int):=by omega
 have i4:(Y:Int)<(R:Int):=by omega
 clear hrow1 hrow3 hm1 hby hcr hce hcI hC hg b0 bq
 generalize (css[X]?.getD [])[Y]?.getD []=ce at *
 generalize css.length=N at *
 go_enter Tryz.func213,Tryz.ntmps213
 go_wp2
 try rw [hW2]
 go_region_held3 (fun U=>U.cell? ⟨w.heap.size,2,none⟩=some (.slice (some ⟨b1,off1,none⟩) N cap)∧U.cell? ⟨w.heap.size+1,0,none⟩=some (.int .i64 (X:Int))∧U.cell? ⟨w.heap.size+1,1,none⟩=some (.int .i64 (Y:Int))∧U.cell? ⟨b1,off1+X,none⟩=some (.slice (some ⟨b2,off3,none⟩) R cap3)∧U.cell? ⟨b2,off3+Y,none⟩=some (.slice Aa ce.length ca))
  (exact ⟨k2,a0,a1,hc1',hc3'⟩) (fail)
 all_goals go_wp2
 all_goals go_ret
 all_goals exact ⟨_,rfl,HBY.out _ hB2.drew,hB2.drew⟩
theorem enter_cell:∀ args W,(callFunc 213 args).run Tryz.prog W = .ok (.enter 213 args) W:=enters_of Tryz.func213 (by kernel_rfl) rfl

theorem eachAt_any {B:Nat} (p:Int) (v:Value) (css:List (List (List UInt8))) (R n:Nat) (vl:Value) (l:List (Int×Int)) (w:World) (hB:B≤w.heap.size) (hC:Cols B w v css) (hg:Grid R n css) (hl:ReadA w vl l) (hin:inL R css.length l) (hlen:l.length≤1000) :
 Calls Tryz.prog 317 #[vl,.func (.func 213) #[.agg #[.int .i64 2,.int .i64 p,v]] #[]] w fun e w'=>∃ u,e = .returned u∧Many w'.heap.size w' u (l.map (cellI css))∧Below w.heap.size w w':=by
 have hent:=enter_cell
 obtain ⟨Al,capl,rfl,hRd⟩:=hl
 have HR1:=Lib.hid hRd
 have HM:=Lib.hid (fun (X Y:Nat) (hX:X<css.length) (hY:Y<R) (W:World) (hW:Below w.heap.size w W)=>cell_any (B:=B) p v css R n X Y W (Nat.le_trans hB hW.size) (hC.below (hW.mono hB)) hg hX hY)
 have HIN:=Lib.hid hin
 clear hRd hg hin
 obtain ⟨N,hN⟩:∃ N,l.length=N:=⟨_,rfl⟩
 have HN:=Lib.hid hN
 have HL:Hid (∀ j (hj:j<l.length),(l.map (cellI css))[j]?.getD []=cellI css l[j]):=fun j hj=>by rw [List.getElem?_map,List.getElem?_eq_getElem hj];rfl
 have HLL:Hid ((l.map (cellI css)).length=N):=by unfold Hid;rw [List.length_map,hN]
 rw [hN] at hlen ⊢
 clear hN
 generalize l.map (cellI css)=ls at *
 obtain ⟨i0,hi,hz0,hz1,hz2⟩:=info_parts Tryz.infoSlcE
 have hmake:=run_make (P:=Tryz.prog) w 57 32 i0 (.slice none 0 0) Tryz.underlying57 hi hz0 .i64 .i64 (N:Int) (N:Int) (by omega) (by omega) (by rw [hz2];omega) (by omega)
 simp only [hz1,Int.toNat_natCast] at hmake
 have bA:=Blk.new w 32 (madeCells (Value.slice none 0 0).cells (N * 1))
 have hBA:=below_one w (.cells (madeCells (Value.slice none 0 0).cells (N * 1)) 32)
 have hbz:(madeCells (Value.slice none 0 0).cells (N * 1)).size=N * 1:=size_madeCells _ _
 obtain ⟨wA,hwA⟩:∃ wA,w.alloc (.cells (madeCells (Value.slice none 0 0).cells (N * 1)) 32)=wA:=⟨_,rfl⟩
 rw [hwA] at hmake bA hBA
 generalize madeCells (Value.slice none 0 0).cells (N * 1)=csA at bA hbz
 rw [Nat.mul_one] at hbz
 clear hwA hi hz0 hz1 hz2
 go_enter Tryz.func317,Tryz.ntmps317
 go_wp2_with fail
 go_loopw [13] (fun i wr=>∃ (k:Nat) (cs:Array Value),k≤N∧i = .int .i64 k∧Blk wr w.heap.size 32 cs∧cs.size=N∧Hid (∀ j,j<k→∃ u,cs[j]?=some u∧Bytes B wr u (ls[j]?.getD []))∧Below w.heap.size w wr) (fun i _=>N - (intOf i).toNat)
 case atStart=>exact ⟨0,csA,by omega,rfl,bA,hbz,Lib.hid (fun j hj=>absurd hj (by omega)),hBA⟩
 case round =>
  clear bA hbz hBA hmake
  obtain ⟨k,cs,hk,rfl,bA,hbz,HJ,hBr⟩:=hrel
  by_cases hlt:k<N
  · have hdec:decide ((k:Int)<(N:Int))=true:=by simp;omega
    have hjs:k<l.length:=by rw [HN.out];exact hlt
    obtain ⟨g1,rfl,hg1,x0,x1⟩:=HR1.out k hjs
    obtain ⟨hz1,hz2⟩:=HIN.out l[k] (List.getElem_mem hjs)
    have HLK:=HL.out k hjs
    generalize l[k]=z at *
    obtain ⟨zx,zy⟩:=z
    simp only at hz1 hz2 x0 x1
    obtain ⟨X,rfl⟩:∃ X:Nat,zx=(X:Int):=⟨zx.toNat,by omega⟩
    obtain ⟨Y,rfl⟩:∃ Y:Nat,zy=(Y:Int):=⟨zy.toNat,by omega⟩
    replace x0:=(hBr.cell (p:=⟨g1,k * 2,none⟩) hg1).trans x0
    replace x1:=(hBr.cell (p:=⟨g1,k * 2+1,none⟩) hg1).trans x1
    have hBx:=below_one wr (.cells #[.int .i64 (X:Int),.int .i64 (Y:Int)] 53)
    have b2:=Blk.new wr 53 #[.int .i64 (X:Int),.int .i64 (Y:Int)]
    have z0:=b2.cell 0;have z1:=b2.cell 1;simp only [gz9] at z0 z1
    have hBy:=below_in hBr hBx
    have hcall:=Lib.hid (HM.out X Y (by omega) (by omega) _ hBy)
    rw [←HLK] at hcall
    have i1:(0:Int)≤(k:Int):=by omega
    have i2:(k:Int)<(N:Int):=by omega
    clear b2 HLK
    go_wp2_with fail
    refine hcall.out.mono ?_
    rintro e w4 ⟨u,rfl,hu,hB4⟩
    obtain ⟨Au,capu,rfl,_⟩:=id hu
    have bA4:=(bA.below hBx bA.lt).below hB4 (by have:=bA.lt;simp;omega)
    have c0:=bA4.cell k
    rw [Array.getElem?_eq_getElem (show k<cs.size by omega)] at c0
    have f0:=bA4.frozen k
    have hgl:=bA.lt
    have hBw4:=below_in hBr (below_in hBx hB4)
    have hBr4:=below_in hBx hB4
    have HST:Hid (∀ V,V=w4.setCell ⟨w.heap.size,k,none⟩ (.slice Au (ls[k]?.getD []).length capu) →
     Blk V w.heap.size 32 (cs.setIfInBounds k (.slice Au (ls[k]?.getD []).length capu))∧Below w.heap.size w V ∧
     ∀ j,j<k+1→∃ u,(cs.setIfInBounds k (.slice Au (ls[k]?.getD []).length capu))[j]?=some u∧Bytes B V u (ls[j]?.getD [])):=fun V hV=>by
     have hKe:∀ q:Addr,q.block<B→V.cell? q=w4.cell? q:=fun q hq=>by rw [hV];exact World.cell?_of_block (Below.heap_setCell w4 _ _ q.block (by simp;omega))
     refine ⟨by rw [hV];exact bA4.set_ k _,by rw [hV];exact hBw4.setCell (by simp) _,fun j hj=>?_⟩
     by_cases hjk:j=k
     · subst hjk
       exact ⟨_,Array.getElem?_setIfInBounds_self_of_lt (by omega),hu.keep hKe⟩
     · obtain ⟨u1,h1,h2⟩:=HJ.out j (by omega)
       exact ⟨u1,by rw [Array.getElem?_setIfInBounds_ne (by omega)];exact h1,(h2.below (hBr4.mono (by omega))).keep hKe⟩
    generalize cs[k]'_=o0 at c0
    clear hu hcall hB4 HJ
    go_wp2
    go_roundw
    case rel=>exact ⟨k+1,_,hlt,by go_num,(HST.out _ rfl).1,by simpa using hbz,Lib.hid (HST.out _ rfl).2.2,(HST.out _ rfl).2.1⟩
    case measure=>simp [intOf];omega
  · obtain rfl:k=N:=by omega
    have hdec:decide ((k:Int)<(k:Int))=false:=by simp
    go_wp2
    go_ret
    refine ⟨_,rfl,⟨some ⟨w.heap.size,0,none⟩,k,by rw [HLL.out];rfl,by rw [HLL.out];exact Nat.le_refl _,fun h0=>⟨w.heap.size,0,rfl,bA.lt,fun j hj=>?_⟩⟩,hBr⟩
    obtain ⟨u1,h1,h2⟩:=HJ.out j (by rw [←HLL.out];exact hj)
    exact ⟨u1,by rw [Nat.zero_add,bA.cell j];exact h1,h2.more (Nat.le_trans hB hBr.size)⟩
theorem xorOf_uponL {n:Nat} {css:List (List (List UInt8))} {l:List (Int×Int)} (h0:0<l.length) (h:∀ z∈l,(cellI css z).length=n):xorOf (l.map (cellI css))=uponL n css l:=by
 unfold xorOf uponL
 rw [first_len (by rw [List.length_map];exact h0) (fun x hx=>by
  obtain ⟨z,hz,rfl⟩:=List.mem_map.1 hx
  exact h z hz)]
theorem upon_any {B:Nat} (p:Int) (v:Value) (css:List (List (List UInt8))) (R n:Nat) (vl:Value) (l:List (Int×Int)) (w:World) (hB:B≤w.heap.size) (hC:Cols B w v css) (hg:Grid R n css) (hl:ReadA w vl l) (hin:inL R css.length l) (hlen:l.length≤1000) (h0:0<l.length) (hn:1≤n∧n≤64) :
 Calls Tryz.prog 295 #[.agg #[.int .i64 2,.int .i64 p,v],vl] w fun e w'=>∃ u,e = .returned u∧Fresh w.heap.size w' u (uponL n css l)∧Below w.heap.size w w':=by
 have hmf:∀ (fn:Fn) (first cap:Array Value) (w:World),(Instr.makeFunc fn first cap).run Tryz.prog w = .ok (.func fn first cap) w:=fun _ _ _ _=>rfl
 have hall:∀ z∈l,(cellI css z).length=n:=inL.cells hin hg (Nat.le_refl _)
 obtain ⟨A,cap,rfl,_,_⟩:=id hC
 have hBz:=below_one w (.cells #[.int .i64 2,.int .i64 p,.slice A css.length cap] 203)
 have bz:=Blk.new w 203 #[.int .i64 2,.int .i64 p,.slice A css.length cap]
 have HE:=Lib.hid (eachAt_any (B:=B) p (.slice A css.length cap) css R n vl l _ (Nat.le_trans hB hBz.size) (hC.below (hBz.mono hB)) hg (hl.next hBz) hin hlen)
 have HX:=Lib.hid (fun (U:World) (u:Value) (hu:Many U.heap.size U u (l.map (cellI css)))=>xor_yes (l.map (cellI css)) u U (Nat.le_refl _) hu (by rw [List.length_map];omega) (xorOk_of (n:=n) (by rw [List.length_map];exact h0) hn (fun x hx=>by
  obtain ⟨z,hz,rfl⟩:=List.mem_map.1 hx
  exact hall z hz)))
 rw [xorOf_uponL h0 hall] at HX
 have g0:=bz.cell 0
 have g1:=bz.cell 1
 have g2:=bz.cell 2
 simp only [gz9] at g0 g1 g2
 clear hC hg hl hin hall h0 hlen bz
 generalize uponL n css l=xx at *
 generalize css.length=N at *
 go_enter Tryz.func295,Tryz.ntmps295
 go_wp2_with (first
  | (go_at_call 317;refine HE.out.mono ?_;rintro e w1 ⟨u,rfl,hu,hB1⟩)
  | (go_at_call 140;refine (HX.out _ _ hu).mono ?_;rintro e w2 ⟨u2,rfl,hu2,hB2⟩)
  | (go_at_call 316;refine (sureB _ _).mono ?_;rintro e w3 ⟨rfl,rfl⟩))
 go_ret
 exact ⟨_,rfl,hu2.less (Nat.le_trans hBz.size hB1.size),below_in hBz (below_in hB1 hB2)⟩
end Go.Proofs.YtknkdbincaonbaaGreatDoor.R

namespace Go.Proofs.YtknkdbincaonbaaGreatDoor.R
open Go.RowKit Go.Shelf Go.Proofs.YtknkdbincaonbaaGreatDoor.C Go.Proofs.YtknkdbincaonbaaGreatDoor.E

def AtsP (P:Nat→Prop) (W:World) (v:Value) (l:List (Int×Int)):Prop :=
 ∃ (p:Option Addr) (cap:Nat),v = .slice p l.length cap∧∀ (j:Nat) (hj:j<l.length),∃ g,p=some ⟨g,0,none⟩∧P g∧W.cell? ⟨g,j * 2,none⟩=some (.int .i64 (l[j]).1)∧W.cell? ⟨g,j * 2+1,none⟩=some (.int .i64 (l[j]).2)
theorem AtsP.imp {P Q:Nat→Prop} {W:World} {v:Value} {l:List (Int×Int)} (h:AtsP P W v l) (hq:∀ b,P b→Q b):AtsP Q W v l:=by
 obtain ⟨p,cap,e,hA⟩:=h
 exact ⟨p,cap,e,fun j hj=>by obtain ⟨g,h1,h2,h3⟩:=hA j hj;exact ⟨g,h1,hq g h2,h3⟩⟩
theorem AtsP.keep {P:Nat→Prop} {W W':World} {v:Value} {l:List (Int×Int)} (h:AtsP P W v l) (hk:Keeps P W W'):AtsP P W' v l:=by
 obtain ⟨p,cap,e,hA⟩:=h
 exact ⟨p,cap,e,fun j hj=>by obtain ⟨g,h1,h2,h3,h4⟩:=hA j hj;exact ⟨g,h1,h2,(World.cell?_of_block (hk g h2)).trans h3,(World.cell?_of_block (hk g h2)).trans h4⟩⟩
def atsR:Rep (List (Int×Int)) where
 R:=AtsP
 imp:=AtsP.imp
 keep:=AtsP.keep
 one:=fun ⟨_,_,e,_⟩=>by rw [e];rfl
theorem AtsP.read {W:World} {v:Value} {l:List (Int×Int)} (h:AtsP (·<W.heap.size) W v l):ReadA W v l:=h
theorem ReadP.ats {W:World} {v:Value} {l:List (Int×Int)} (h:ReadP W.heap.size W v l):AtsP (·<W.heap.size) W v l:=h.readA
theorem Tryz.infoSlcA:(Tryz.prog.info? 47).map (fun i=>(i.zero,i.size,i.bytes))=some (some (.slice none 0 0),1,24):=by kernel_rfl
def RowA:=RowG atsR 47 []
theorem RowA.apart {Q:Nat→Prop} {W:World} {base:Nat} {v:Value} {xs:List (List (Int×Int))} (h:RowA Q W base v xs) (hx:0<xs.length) {g:Nat} {x:Int} (hg:W.cell? ⟨g,0,none⟩=some (.int .i64 x)):some g≠v.ownBlock:=by
 obtain ⟨us,ho,hn,hr⟩:=h
 obtain ⟨g2,cap,rfl,_,_⟩:=World.ownsRow.form ho (by omega)
 intro e
 have e2:g=g2:=by injection e
 subst e2
 have hc:=World.ownsRow.cellAt ho 0 (by omega)
 have h0:us[0]?=some us[0]:=List.getElem?_eq_getElem (by omega)
 obtain ⟨p,c,e3,_⟩:=hr 0 us[0] h0
 rw [hc,h0,e3] at hg
 cases hg
section
variable {Q:Nat→Prop} {base:Nat} {v:Value}
theorem wpList_pushA {T:TypeId} (w:World) {ops:Array Oper} {rest:List Oper} {o:Oper} {a:Act} {QQ:Exit→Act→World→Prop} (hgd:o.guard=none) (s x:Operand)
 (ho:o.op = .call { callee:=.builtin .append,args:=#[s,x],argTypes:=#[T,T] }) (hT:Tryz.prog.underlying T=some (.slice 47)) (css:List (List (Int×Int))) (hs:a.eval s=v) (h:RowA Q w base v css)
 (g:Nat) (tg:TypeId) (u:Value) (ls:List (Int×Int)) (hx:a.eval x = .slice (some ⟨g,0,none⟩) 1 1) (hg:Blk w g tg #[u]) (hu:atsR.R (fun b=>b<w.heap.size∧some b≠v.ownBlock∧Q b) w u ls) (hlen:css.length≤100000) (hbase:base≤w.heap.size)
 (hK:∀ v' w',RowA Q w' base v' (css ++ [ls])→w.grownBy w' v.ownBlock→(v'.ownBlock=v.ownBlock∨v'.ownBlock=some w.heap.size)→wpList Tryz.prog ops QQ rest (a.put o.dst v') w'):wpList Tryz.prog ops QQ (o :: rest) a w :=
 wpList_plain hgd fun K hK2=>by
  obtain ⟨i,hi,hz0,hz1,hz2⟩:=info_parts Tryz.infoSlcA
  obtain ⟨v',w',hrun,h1,h2,h3⟩:=RowG.push i hi hz0 hz1 hz2 T o.type hT h g tg u ls hg hu hlen hbase
  unfold Oper.wp execOp
  simp only [ho,resolve,invoke,builtin,Sem.run_bind,Sem.run_pure,Result.andThen_ok,List.map_toArray,List.map_cons,List.map_nil,hs,hx,hrun]
  exact hK2 _ _ (hK v' w' h1 h2 h3)
end
def memsL (p col:Int):List (List (Int×Int)):=(List.range (p - 1).toNat).map fun (r:Nat)=>memL 2 p col (r:Int)
theorem memsL_next (p col:Int) {r:Nat} (hr:r<(p - 1).toNat):(memsL p col).take (r+1)=(memsL p col).take r ++ [memL 2 p col (r:Int)]:=by
 unfold memsL
 rw [map_next _ 0 _ (by rw [List.length_range];exact hr),List.getElem?_range hr]
 rfl
theorem members_any (p col:Int) (hp:p∈prm) (hc:p - 1≤col∧col≤p) (A:Option Addr) (n cap:Nat) (w:World) (hL:Laid w) :
 Calls Tryz.prog 293 #[.agg #[.int .i64 2,.int .i64 p,.slice A n cap],.int .i64 col] w fun e w'=>∃ u,e = .returned u∧SliceP atsR [] (·<w'.heap.size) w' u (memsL p col)∧Below w.heap.size w w':=by
 have hpp:=prm_bounds hp
 have hR:RightC 2 p:=⟨by omega,hp⟩
 obtain ⟨R,hRR⟩:∃ R:Nat,p - 1=(R:Int):=⟨(p - 1).toNat,by omega⟩
 have hRt:(p - 1).toNat=R:=by omega
 have hs2:shortN 2=1:=rfl
 have hm2:madeN 2=2:=rfl
 have HME:=Lib.hid (fun (r:Nat) (hr:r<R) (W:World) (hW:Laid W)=>(setsMembers_any 2 p col (r:Int) W hW).mono fun e w' hm=>by
  obtain ⟨u,e1,e2⟩:=hm.2.2.1 hR ⟨⟨by omega,by rw [hs2,hm2];omega⟩,by omega,by omega⟩ (by rw [hs2];omega)
  exact (⟨u,e1,e2,hm.2.2.2⟩:∃ u,e = .returned (.tuple #[u,.int .i64 0])∧ReadP w'.heap.size w' u (memL 2 p col (r:Int))∧Below W.heap.size W w'))
 have HPOS:=Lib.hid (fun (r:Nat) (hr:r<R)=>List.length_pos_iff.2 (memL_ne (k:=2) (p:=p) (mx:=col) (my:=(r:Int)) hR ⟨⟨by omega,by rw [hs2,hm2];omega⟩,by omega,by omega⟩ (by rw [hs2];omega)))
 have HNX:=Lib.hid (fun (r:Nat) (hr:r<R)=>memsL_next p col (r:=r) (by omega))
 have HLEN:Hid ((memsL p col).length=R):=by unfold Hid memsL;rw [List.length_map,List.length_range,hRt]
 have hwp:wrap64 (p - 1)=(R:Int):=(IntWalk.wrap64_in _ (by omega)).trans hRR
 have b0:=Blk.new w 203 #[.int .i64 2,.int .i64 p,.slice A n cap]
 have hBW:=below_one w (.cells #[.int .i64 2,.int .i64 p,.slice A n cap] 203)
 have g0:=b0.cell 0;have g1:=b0.cell 1;have g2:=b0.cell 2;simp only [gz9] at g0 g1 g2
 have hR16:R≤16:=by omega
 clear hR hRt hs2 hm2 hc
 generalize memsL p col=lst at *
 go_enter Tryz.func293,Tryz.ntmps293
 go_wp2_with fail
 go_loopw [5,11] (fun v i wr=>∃ r:Nat,r≤R∧i = .int .i64 r∧RowA (fun _=>True) wr (w.heap.size+1) v (lst.take r)∧(r=0→v = .slice none 0 0)∧Blk wr w.heap.size 203 #[.int .i64 2,.int .i64 p,.slice A n cap]∧Below w.heap.size w wr) (fun _ i _=>R - (intOf i).toNat)
 case atStart=>exact ⟨0,Nat.zero_le _,rfl,RowG.nil _ _ _ _ _ _,fun _=>rfl,b0,hBW⟩
 case round =>
  clear b0 hBW g0 g1 g2
  obtain ⟨r,hr,rfl,hrow,hnil,b0,hBr⟩:=hrel
  have g0:=b0.cell 0;have g1:=b0.cell 1;have g2:=b0.cell 2;simp only [gz9] at g0 g1 g2
  by_cases hlt:r<R
  · have hdec:decide ((r:Int)<(R:Int))=true:=by simp;omega
    have hcall:=Lib.hid (HME.out r hlt wr (hL.next hBr))
    have hps:=HPOS.out r hlt
    have hnx:=HNX.out r hlt
    have hpl:(lst.take r).length=r:=by rw [List.length_take,HLEN.out];omega
    have HNXR:=Lib.hid hnx
    have HPL:=Lib.hid hpl
    have HPS:=Lib.hid hps
    have HNIL:=Lib.hid hnil
    clear hps hnx hpl hnil
    generalize memL 2 p col (r:Int)=mem at *
    generalize lst.take r=pre at *
    obtain ⟨nm,hnm⟩:∃ nm,mem.length=nm:=⟨_,rfl⟩
    have HNM:=Lib.hid hnm
    clear hnm
    have hs3:=hBr.size
    have hlt0:=b0.lt
    have HVLE:=Lib.hid (fun b e=>RowG.own_le hrow b e)
    have HROW:=Lib.hid hrow
    have HB0:=Lib.hid b0
    clear hrow b0
    go_wp2_with fail
    refine hcall.out.mono ?_
    rintro e w1 ⟨u,rfl,hu,hB1⟩
    obtain ⟨gm,cm,hue,_,_⟩:=id hu
    rw [HNM.out] at hue
    subst hue
    have hs4:=hB1.size
    have hBx:=below_one w1 (.cells #[.slice (some ⟨gm,0,none⟩) nm cm] 47)
    have HRC:=Lib.hid (RowG.below HROW.out (below_in hB1 hBx))
    have HBK:=Lib.hid (Blk.new w1 47 #[.slice (some ⟨gm,0,none⟩) nm cm])
    have HUA:Hid (atsR.R (fun b=>b<(w1.alloc (.cells #[.slice (some ⟨gm,0,none⟩) nm cm] 47)).heap.size∧some b≠u5.ownBlock∧True) (w1.alloc (.cells #[.slice (some ⟨gm,0,none⟩) nm cm] 47)) (.slice (some ⟨gm,0,none⟩) nm cm) mem):=by
     have hps:=HPS.out
     have hcell:gm<w1.heap.size∧∃ x,w1.cell? ⟨gm,0,none⟩=some (.int .i64 x):=by
      obtain ⟨g,cap,e,hg,hc⟩:=hu
      injection e with e _ _
      injection e with e
      injection e with e
      subst e
      have:=(hc 0 hps).1
      rw [Nat.zero_mul] at this
      exact ⟨hg,_,this⟩
     obtain ⟨hg,x,hx⟩:=hcell
     have hne:some gm≠u5.ownBlock:=by
      rcases Nat.eq_zero_or_pos r with h0 | h0
      · rw [HNIL.out h0];intro e2;cases e2
      · exact RowA.apart (RowG.below HROW.out hB1) (by rw [HPL.out];exact h0) hx
     obtain ⟨p2,cap2,e2,hA⟩:=ReadP.ats (hu.next hBx)
     refine ⟨p2,cap2,e2,fun j hj=>?_⟩
     obtain ⟨g2,h1,h2,h3⟩:=hA j hj
     have e3:=e2
     injection e3 with e3 _ _
     rw [h1] at e3
     injection e3 with e3
     injection e3 with e3
     subst e3
     exact ⟨gm,h1,⟨by simp;omega,hne,trivial⟩,h3⟩
    have HB5:=Lib.hid ((HB0.out.below hB1 (by omega)).alloc (.cells #[.slice (some ⟨gm,0,none⟩) nm cm] 47))
    have HBB:=Lib.hid (below_in hBr (below_in hB1 hBx))
    have hsz:(w1.alloc (.cells #[.slice (some ⟨gm,0,none⟩) nm cm] 47)).heap.size=w1.heap.size+1:=by simp
    clear hu
    go_wp2_with (first
     | (go_at_call 314;refine (sureA _ _).mono ?_;rintro e w3 ⟨rfl,rfl⟩)
     | (at_builtin;refine wpList_pushA (T:=181) _ rfl _ _ rfl Tryz.underlying181 pre rfl HRC.out w1.heap.size 47 _ mem rfl HBK.out HUA.out (by have:=HPL.out;omega) (by omega) ?_;intro v' w2 hrow4 hgrow hown))
    go_roundw
    case rel=>exact ⟨r+1,by omega,by go_num,by rw [HNXR.out];exact hrow4,fun h=>absurd h (by omega),HB5.out.grown hgrow (fun e=>by have:=HVLE.out _ e.symm;omega),below_grown HBB.out hgrow (by omega) (fun g e=>by have:=HVLE.out g e;omega)⟩
    case measure=>simp [intOf];omega
  · obtain rfl:r=R:=by omega
    have e1:decide ((r:Int)<(r:Int))=false:=by simp
    have HTK:Hid (lst.take r=lst):=by unfold Hid;rw [List.take_of_length_le];rw [HLEN.out];exact Nat.le_refl _
    rw [HTK.out] at hrow
    go_wp2
    go_ret
    exact ⟨_,rfl,RowG.slice hrow (fun b hb _=>hb),hBr⟩
end Go.Proofs.YtknkdbincaonbaaGreatDoor.R

namespace Go.Proofs.YtknkdbincaonbaaGreatDoor.R
open Go.RowKit Go.Shelf Go.Proofs.YtknkdbincaonbaaGreatDoor.C Go.Proofs.YtknkdbincaonbaaGreatDoor.E

theorem made1_any {B:Nat} (p:Int) (A:Option Addr) (N cap:Nat) (css:List (List (List UInt8))) (R n:Nat) (vl:Value) (l:List (Int×Int)) (g:Nat) (w:World) (hB:B≤w.heap.size) (hC:Cols B w (.slice A N cap) css) (hg:Grid R n css) (hl:ReadA w vl l) (hin:inL R css.length l) (hlen:l.length≤1000) (h0:0<l.length) (hn:1≤n∧n≤64) (b0:Blk w g 203 #[.int .i64 2,.int .i64 p,.slice A N cap]) :
 Calls Tryz.prog 294 #[vl,.pointer (some ⟨g,0,none⟩)] w fun e w'=>∃ u,e = .returned u∧Fresh w.heap.size w' u (uponL n css l)∧Below w.heap.size w w':=by
 have HU:=Lib.hid (upon_any (B:=B) p (.slice A N cap) css R n vl l w hB hC hg hl hin hlen h0 hn)
 have g0:=b0.cell 0
 have g1:=b0.cell 1
 have g2:=b0.cell 2
 simp only [gz9] at g0 g1 g2
 clear hC hg hl hin hlen h0 hn b0
 go_enter Tryz.func294,Tryz.ntmps294
 go_wp2_with (go_at_call 295;refine HU.out.mono ?_;rintro e w1 ⟨u,rfl,hu,hB1⟩)
 go_ret
 exact ⟨u,rfl,hu,hB1⟩
theorem enter_made1:∀ args W,(callFunc 294 args).run Tryz.prog W = .ok (.enter 294 args) W:=enters_of Tryz.func294 (by kernel_rfl) rfl

theorem eachL_any (vl:Value) (lst:List (List (Int×Int))) (f:List (Int×Int)→List UInt8) (g:Nat) (w:World) (hl:SliceP atsR [] (·<w.heap.size) w vl lst) (hlen:lst.length≤1000)
 (hm:∀ (k:Nat) (hk:k<lst.length) (u:Value) (W:World),Below w.heap.size w W→ReadA W u lst[k]→Calls Tryz.prog 294 #[u,.pointer (some ⟨g,0,none⟩)] W fun e w'=>∃ x,e = .returned x∧Fresh W.heap.size w' x (f lst[k])∧Below W.heap.size W w') :
 Calls Tryz.prog 292 #[vl,.func (.func 294) #[] #[.pointer (some ⟨g,0,none⟩)]] w fun e w'=>∃ u,e = .returned u∧manyR.R (fun b=>w.heap.size≤b∧b<w'.heap.size) w' u (lst.map f)∧Below w.heap.size w w':=by
 have hent:=enter_made1
 obtain ⟨Al,capl,rfl,hcl,hRd⟩:=hl
 have HR1:=Lib.hid hRd
 have HM:=Lib.hid hm
 clear hRd hm
 obtain ⟨N,hN⟩:∃ N,lst.length=N:=⟨_,rfl⟩
 have HN:=Lib.hid hN
 have HL:Hid (∀ j (hj:j<lst.length),(lst.map f)[j]?.getD []=f lst[j]):=fun j hj=>by rw [List.getElem?_map,List.getElem?_eq_getElem hj];rfl
 have HLL:Hid ((lst.map f).length=N):=by unfold Hid;rw [List.length_map,hN]
 rw [hN] at hlen hcl ⊢
 clear hN
 generalize lst.map f=ls at *
 obtain ⟨i0,hi,hz0,hz1,hz2⟩:=info_parts Tryz.infoSlcE
 have hmake:=run_make (P:=Tryz.prog) w 57 32 i0 (.slice none 0 0) Tryz.underlying57 hi hz0 .i64 .i64 (N:Int) (N:Int) (by omega) (by omega) (by rw [hz2];omega) (by omega)
 simp only [hz1,Int.toNat_natCast] at hmake
 have bA:=Blk.new w 32 (madeCells (Value.slice none 0 0).cells (N * 1))
 have hBA:=below_one w (.cells (madeCells (Value.slice none 0 0).cells (N * 1)) 32)
 have hbz:(madeCells (Value.slice none 0 0).cells (N * 1)).size=N * 1:=size_madeCells _ _
 obtain ⟨wA,hwA⟩:∃ wA,w.alloc (.cells (madeCells (Value.slice none 0 0).cells (N * 1)) 32)=wA:=⟨_,rfl⟩
 rw [hwA] at hmake bA hBA
 generalize madeCells (Value.slice none 0 0).cells (N * 1)=csA at bA hbz
 rw [Nat.mul_one] at hbz
 clear hwA hi hz0 hz1 hz2
 go_enter Tryz.func292,Tryz.ntmps292
 go_wp2_with fail
 go_loopw [13] (fun i wr=>∃ (k:Nat) (cs:Array Value),k≤N∧i = .int .i64 k∧Blk wr w.heap.size 32 cs∧cs.size=N∧Hid (∀ j,j<k→∃ u,cs[j]?=some u∧BytesP (fun b=>w.heap.size<b∧b<wr.heap.size) wr u (ls[j]?.getD []))∧Below w.heap.size w wr) (fun i _=>N - (intOf i).toNat)
 case atStart=>exact ⟨0,csA,by omega,rfl,bA,hbz,Lib.hid (fun j hj=>absurd hj (by omega)),hBA⟩
 case round =>
  clear bA hbz hBA hmake
  obtain ⟨k,cs,hk,rfl,bA,hbz,HJ,hBr⟩:=hrel
  by_cases hlt:k<N
  · have hdec:decide ((k:Int)<(N:Int))=true:=by simp;omega
    have hjs:k<lst.length:=by rw [HN.out];exact hlt
    obtain ⟨b2,off2,rfl,hb2,hcell⟩:=HR1.out (by rw [HN.out];omega)
    obtain ⟨uk,hck,hatk⟩:=hcell k hjs
    have hck2:=(hBr.cell (p:=⟨b2,off2+k,none⟩) hb2).trans hck
    have hrdk:ReadA wr uk lst[k]:=by
     have h1:AtsP (·<w.heap.size) w uk (lst[k]?.getD []):=hatk
     rw [List.getElem?_eq_getElem hjs] at h1
     have h2:ReadA w uk lst[k]:=h1
     exact h2.next hBr
    have hcall:=Lib.hid (HM.out k hjs uk wr hBr hrdk)
    have HLK:=HL.out k hjs
    rw [←HLK] at hcall
    obtain ⟨pk,ck,hue,_⟩:=hrdk
    obtain ⟨nk,hnk⟩:∃ nk,lst[k].length=nk:=⟨_,rfl⟩
    rw [hnk] at hue
    subst hue
    have i1:(0:Int)≤(k:Int):=by omega
    have i2:(k:Int)<(N:Int):=by omega
    clear HLK hcell hatk hck hnk
    go_wp2_with fail
    refine hcall.out.mono ?_
    rintro e w4 ⟨u,rfl,hu,hB4⟩
    obtain ⟨Au,capu,rfl,_⟩:=id hu
    have bA4:=bA.below hB4 bA.lt
    have c0:=bA4.cell k
    rw [Array.getElem?_eq_getElem (show k<cs.size by omega)] at c0
    have f0:=bA4.frozen k
    have hgl:=bA.lt
    have hs4:=hB4.size
    have HST:Hid (∀ V,V=w4.setCell ⟨w.heap.size,k,none⟩ (.slice Au (ls[k]?.getD []).length capu) →
     Blk V w.heap.size 32 (cs.setIfInBounds k (.slice Au (ls[k]?.getD []).length capu))∧Below w.heap.size w V ∧
     ∀ j,j<k+1→∃ u,(cs.setIfInBounds k (.slice Au (ls[k]?.getD []).length capu))[j]?=some u∧BytesP (fun b=>w.heap.size<b∧b<V.heap.size) V u (ls[j]?.getD [])):=fun V hV=>by
     have hVs:V.heap.size=w4.heap.size:=by rw [hV];simp
     have hKe:Keeps (fun b=>b≠w.heap.size) w4 V:=fun b hb=>by rw [hV];exact Below.heap_setCell w4 _ _ b (by simpa using hb)
     refine ⟨by rw [hV];exact bA4.set_ k _,by rw [hV];exact (below_in hBr hB4).setCell (by simp) _,fun j hj=>?_⟩
     by_cases hjk:j=k
     · subst hjk
       exact ⟨_,Array.getElem?_setIfInBounds_self_of_lt (by omega),(BytesP.imp hu.toP (Q:=fun b=>w.heap.size<b∧b<V.heap.size) (fun b hb=>⟨by have:=hb.1;omega,by rw [hVs];exact hb.2⟩)).keep (fun b hb=>hKe b (Nat.ne_of_gt hb.1))⟩
     · obtain ⟨u1,h1,h2⟩:=HJ.out j (by omega)
       have h3:=BytesP.below h2 (N:=wr.heap.size) (fun b hb=>hb.2) hB4
       exact ⟨u1,by rw [Array.getElem?_setIfInBounds_ne (by omega)];exact h1,(BytesP.imp h3 (Q:=fun b=>w.heap.size<b∧b<V.heap.size) (fun b hb=>⟨hb.1,by rw [hVs];omega⟩)).keep (fun b hb=>hKe b (Nat.ne_of_gt hb.1))⟩
    generalize cs[k]'_=o0 at c0
    clear hu hcall hB4 HJ
    go_wp2
    go_roundw
    case rel=>exact ⟨k+1,_,hlt,by go_num,(HST.out _ rfl).1,by simpa using hbz,Lib.hid (HST.out _ rfl).2.2,(HST.out _ rfl).2.1⟩
    case measure=>simp [intOf];omega
  · obtain rfl:k=N:=by omega
    have hdec:decide ((k:Int)<(k:Int))=false:=by simp
    go_wp2
    go_ret
    refine ⟨_,rfl,⟨some ⟨w.heap.size,0,none⟩,k,by rw [HLL.out];rfl,by rw [HLL.out];exact Nat.le_refl _,fun h0=>⟨w.heap.size,0,rfl,⟨Nat.le_refl _,bA.lt⟩,fun j hj=>?_⟩⟩,hBr⟩
    obtain ⟨u1,h1,h2⟩:=HJ.out j (by rw [←HLL.out];exact hj)
    exact ⟨u1,by rw [Nat.zero_add,bA.cell j];exact h1,BytesP.imp h2 (fun b hb=>⟨Nat.le_of_lt hb.1,hb.2⟩)⟩
theorem made_any {B:Nat} (p col:Int) (hp:p∈prm) (hc:p - 1≤col∧col≤p) (v:Value) (css:List (List (List UInt8))) (n:Nat) (w:World) (hL:Laid w) (hB:B≤w.heap.size) (hC:Cols B w v css) (hcl:col≤(css.length:Int)) (hg:Grid (p - 1).toNat n css) (hn:1≤n∧n≤64) :
 Calls Tryz.prog 272 #[.agg #[.int .i64 2,.int .i64 p,v],.int .i64 col] w fun e w'=>∃ u,e = .returned u∧manyR.R (fun b=>w.heap.size≤b∧b<w'.heap.size) w' u (colL 2 p n css col)∧Below w.heap.size w w':=by
 have hmf:∀ (fn:Fn) (first cap:Array Value) (w:World),(Instr.makeFunc fn first cap).run Tryz.prog w = .ok (.func fn first cap) w:=fun _ _ _ _=>rfl
 have hpp:=prm_bounds hp
 have hR:RightC 2 p:=⟨by omega,hp⟩
 have hs2:shortN 2=1:=rfl
 have hm2:madeN 2=2:=rfl
 obtain ⟨A,cap,rfl,_,_⟩:=id hC
 have hBz:=below_one w (.cells #[.int .i64 2,.int .i64 p,.slice A css.length cap] 203)
 have bz:=Blk.new w 203 #[.int .i64 2,.int .i64 p,.slice A css.length cap]
 have HME:=Lib.hid (members_any p col hp hc A css.length cap _ (hL.next hBz))
 have HEA:=Lib.hid (fun (U:World) (u:Value) (hU:Below (w.alloc (.cells #[.int .i64 2,.int .i64 p,.slice A css.length cap] 203)).heap.size (w.alloc (.cells #[.int .i64 2,.int .i64 p,.slice A css.length cap] 203)) U) (hu:SliceP atsR [] (·<U.heap.size) U u (memsL p col))=>eachL_any u (memsL p col) (uponL n css) w.heap.size U hu (by unfold memsL;rw [List.length_map,List.length_range];omega) (fun k hk x W hW hx=>by
  have hk2:k<(p - 1).toNat:=by unfold memsL at hk;simpa using hk
  have hmk:(memsL p col)[k]=memL 2 p col (k:Int):=by unfold memsL;simp
  rw [hmk] at hx ⊢
  have hcell:HasCell 2 p col (k:Int):=⟨⟨by omega,by rw [hs2,hm2];omega⟩,by omega,by omega⟩
  have hwW:=below_in hBz (below_in hU hW)
  exact made1_any (B:=B) p A css.length cap css (p - 1).toNat n x _ w.heap.size W (Nat.le_trans hB hwW.size) (hC.below (hwW.mono hB)) hg hx (memL_in hR (by omega) hcl) (memL_len hR hcell) (List.length_pos_iff.2 (memL_ne hR hcell (by rw [hs2];omega))) hn (bz.below (below_in hU hW) bz.lt)))
 have hcm:(memsL p col).map (uponL n css)=colL 2 p n css col:=by unfold memsL colL;rw [List.map_map];rfl
 rw [hcm] at HEA
 have g0:=bz.cell 0
 have g1:=bz.cell 1
 have g2:=bz.cell 2
 simp only [gz9] at g0 g1 g2
 clear hC hg hcl hcm bz
 generalize colL 2 p n css col=res at *
 generalize css.length=N at *
 go_enter Tryz.func272,Tryz.ntmps272
 go_wp2_with (first
  | (go_at_call 293;refine HME.out.mono ?_;rintro e w1 ⟨u,rfl,hu,hB1⟩)
  | (go_at_call 292;refine (HEA.out _ _ hB1 hu).mono ?_;rintro e w2 ⟨u2,rfl,hu2,hB2⟩))
 go_ret
 have h9:=hBz.size
 have h8:=hB1.size
 exact ⟨_,rfl,manyR.imp hu2 (fun b hb=>⟨by omega,hb.2⟩),below_in hBz (below_in hB1 hB2)⟩
theorem rows_any {B:Nat} (p:Int) (hp:p∈prm) (v:Value) (css:List (List (List UInt8))) (n:Nat) (w:World) (hL:Laid w) (hB:B≤w.heap.size) (hC:Cols B w v css) (hcl:p - 1≤(css.length:Int)) (hg:Grid (p - 1).toNat n css) (hn:1≤n∧n≤64) :
 Calls Tryz.prog 245 #[.agg #[.int .i64 2,.int .i64 p,v]] w fun e w'=>∃ u,e = .returned u∧manyR.R (fun b=>w.heap.size≤b∧b<w'.heap.size) w' u (colL 2 p n css (p - 1))∧Below w.heap.size w w':=by
 have hpp:=prm_bounds hp
 obtain ⟨A,cap,rfl,_,_⟩:=id hC
 have hBz:=below_one w (.cells #[.int .i64 2,.int .i64 p,.slice A css.length cap] 203)
 have bz:=Blk.new w 203 #[.int .i64 2,.int .i64 p,.slice A css.length cap]
 have HA:=Lib.hid (fun (U:World)=>rowsAt_any p (by omega) A css.length cap U)
 have HM:=Lib.hid (fun (U:World) (hU:Below w.heap.size w U)=>made_any (B:=B) p (p - 1) hp (by omega) (.slice A css.length cap) css n U (hL.next hU) (Nat.le_trans hB hU.size) (hC.below (hU.mono hB)) hcl hg hn)
 have g0:=bz.cell 0
 have g1:=bz.cell 1
 have g2:=bz.cell 2
 simp only [gz9] at g0 g1 g2
 have hlt:=bz.lt
 clear hC hg hcl bz
 generalize colL 2 p n css (p - 1)=res at *
 generalize css.length=N at *
 obtain ⟨W1,hW1⟩:∃ W1,w.alloc (.cells #[.int .i64 2,.int .i64 p,.slice A N cap] 203)=W1:=⟨_,rfl⟩
 rw [hW1] at hBz g0 g1 g2 hlt
 go_enter Tryz.func245,Tryz.ntmps245
 go_wp2
 try rw [hW1]
 go_region_held3 (fun U=>U.cell? ⟨w.heap.size,0,none⟩=some (.int .i64 2)∧U.cell? ⟨w.heap.size,1,none⟩=some (.int .i64 p)∧U.cell? ⟨w.heap.size,2,none⟩=some (.slice A N cap))
  (first | exact ⟨g0,g1,g2⟩ | exact ⟨(hB1.cell (p:=⟨w.heap.size,0,none⟩) hlt).trans g0,(hB1.cell (p:=⟨w.heap.size,1,none⟩) hlt).trans g1,(hB1.cell (p:=⟨w.heap.size,2,none⟩) hlt).trans g2⟩ | exact ⟨(hB2.cell (p:=⟨w.heap.size,0,none⟩) hlt).trans g0,(hB2.cell (p:=⟨w.heap.size,1,none⟩) hlt).trans g1,(hB2.cell (p:=⟨w.heap.size,2,none⟩) hlt).trans g2⟩)
  (first
   | (go_at_call 212;refine (HA.out _).mono ?_;rintro e w1 ⟨rfl,hB1⟩;replace hB1:Below W1.heap.size W1 w1:=(by first | exact hB1 | exact below_undrew hB1))
   | (go_at_call 272;refine (HM.out _ (below_in hBz hB1)).mono ?_;rintro e w2 ⟨u,rfl,hu,hB2⟩;replace hu:=manyR.imp hu (fun b hb=>(⟨Nat.le_trans (Nat.le_trans hBz.size hB1.size) hb.1,hb.2⟩:w.heap.size≤b∧b<w2.heap.size));replace hB2:=below_in hB1 hB2))
 all_goals go_wp2
 all_goals go_ret
 all_goals exact ⟨_,rfl,hu,below_in hBz hB2⟩
theorem diagonals_any {B:Nat} (p:Int) (hp:p∈prm) (v:Value) (css:List (List (List UInt8))) (n:Nat) (w:World) (hL:Laid w) (hB:B≤w.heap.size) (hC:Cols B w v css) (hcl:p≤(css.length:Int)) (hg:Grid (p - 1).toNat n css) (hn:1≤n∧n≤64) :
 Calls Tryz.prog 246 #[.agg #[.int .i64 2,.int .i64 p,v]] w fun e w'=>∃ u,e = .returned u∧manyR.R (fun b=>w.heap.size≤b∧b<w'.heap.size) w' u (colL 2 p n css (p))∧Below w.heap.size w w':=by
 have hpp:=prm_bounds hp
 obtain ⟨A,cap,rfl,_,_⟩:=id hC
 have hBz:=below_one w (.cells #[.int .i64 2,.int .i64 p,.slice A css.length cap] 203)
 have bz:=Blk.new w 203 #[.int .i64 2,.int .i64 p,.slice A css.length cap]
 have HA:=Lib.hid (fun (U:World)=>diagonalsAt_any p (by omega) A css.length cap U)
 have HM:=Lib.hid (fun (U:World) (hU:Below w.heap.size w U)=>made_any (B:=B) p (p) hp (by omega) (.slice A css.length cap) css n U (hL.next hU) (Nat.le_trans hB hU.size) (hC.below (hU.mono hB)) hcl hg hn)
 have g0:=bz.cell 0
 have g1:=bz.cell 1
 have g2:=bz.cell 2
 simp only [gz9] at g0 g1 g2
 have hlt:=bz.lt
 clear hC hg hcl bz
 generalize colL 2 p n css (p)=res at *
 generalize css.length=N at *
 obtain ⟨W1,hW1⟩:∃ W1,w.alloc (.cells #[.int .i64 2,.int .i64 p,.slice A N cap] 203)=W1:=⟨_,rfl⟩
 rw [hW1] at hBz g0 g1 g2 hlt
 go_enter Tryz.func246,Tryz.ntmps246
 go_wp2
 try rw [hW1]
 go_region_held3 (fun U=>U.cell? ⟨w.heap.size,0,none⟩=some (.int .i64 2)∧U.cell? ⟨w.heap.size,1,none⟩=some (.int .i64 p)∧U.cell? ⟨w.heap.size,2,none⟩=some (.slice A N cap))
  (first | exact ⟨g0,g1,g2⟩ | exact ⟨(hB1.cell (p:=⟨w.heap.size,0,none⟩) hlt).trans g0,(hB1.cell (p:=⟨w.heap.size,1,none⟩) hlt).trans g1,(hB1.cell (p:=⟨w.heap.size,2,none⟩) hlt).trans g2⟩ | exact ⟨(hB2.cell (p:=⟨w.heap.size,0,none⟩) hlt).trans g0,(hB2.cell (p:=⟨w.heap.size,1,none⟩) hlt).trans g1,(hB2.cell (p:=⟨w.heap.size,2,none⟩) hlt).trans g2⟩)
  (first
   | (go_at_call 273;refine (HA.out _).mono ?_;rintro e w1 ⟨rfl,hB1⟩;replace hB1:Below W1.heap.size W1 w1:=(by first | exact hB1 | exact below_undrew hB1))
   | (go_at_call 272;refine (HM.out _ (below_in hBz hB1)).mono ?_;rintro e w2 ⟨u,rfl,hu,hB2⟩;replace hu:=manyR.imp hu (fun b hb=>(⟨Nat.le_trans (Nat.le_trans hBz.size hB1.size) hb.1,hb.2⟩:w.heap.size≤b∧b<w2.heap.size));replace hB2:=below_in hB1 hB2))
 all_goals go_wp2
 all_goals go_ret
 all_goals exact ⟨_,rfl,hu,below_in hBz hB2⟩
def rolesV:Value:=.agg #[.func (.func 245) #[] #[],.func (.func 246) #[] #[]]
theorem roles_any (w:World):Calls Tryz.prog 211 #[] w fun e w'=>e = .returned rolesV∧Below w.heap.size w w':=by
 go_enter Tryz.func211,Tryz.ntmps211
 go_wp2
 have b:=Blk.new w 235 #[.func (.func 245) #[] #[],.func (.func 246) #[] #[]]
 have c0:=b.cell 0
 have c1:=b.cell 1
 simp only [gz9] at c0 c1
 exact bodyPost_ret (v:=rolesV) (by simp [results,Tryz.results211,go_sem,c0,c1,rolesV]) rfl ⟨rfl,below_one w _⟩
end Go.Proofs.YtknkdbincaonbaaGreatDoor.R

namespace Go.Proofs.YtknkdbincaonbaaGreatDoor.R
open Go.RowKit Go.Shelf Go.Proofs.YtknkdbincaonbaaGreatDoor.C Go.Proofs.YtknkdbincaonbaaGreatDoor.E

def OwnK (w:World) (base:Nat) (v:Value) (us:List Value):Prop:=w.ownsRow base 58 1 v us.length us
theorem ownK_nil (w:World) (base:Nat):OwnK w base (.slice none 0 0) []:=World.ownsRow_nil w base _ 1
theorem wpList_zerosK (w:World) {ops:Array Oper} {rest:List Oper} {o:Oper} {a:Act} {Q:Exit→Act→World→Prop} (hgd:o.guard=none) (s x:Operand)
 (ho:o.op = .call { callee:=.builtin .append,args:=#[s,x],argTypes:=#[25,3] }) (n:Nat) (h0:0<n) (hn:n≤1000000)
 (hs:a.eval s = .slice none 0 0) (hx:a.eval x = .int .i64 (n:Int))
 (h:∀ c w',OwnK w' w.heap.size (.slice (some ⟨w.heap.size,0,none⟩) 0 c) []→Below w.heap.size w w'→n≤c→wpList Tryz.prog ops Q rest (a.put o.dst (.slice (some ⟨w.heap.size,0,none⟩) n c)) w'):wpList Tryz.prog ops Q (o :: rest) a w :=
 wpList_plain hgd fun K hK=>by
  obtain ⟨i0,hi,hz0,hz1,hz2⟩:=info_parts Tryz.infoCol
  have hrun:=Lib.run_append_nil_zeros (P:=Tryz.prog) w 25 3 o.type 58 i0 (.slice none 0 0) .i64 .i64 Tryz.underlying25 Tryz.underlying3 hi hz0 n h0 (by omega) (by omega) (by rw [hz2];omega)
  have hge:=grownCap_ge w n 0 58
  have hle:=grownCap_le_maxLen w n 0 58 (by unfold maxLen;omega)
  generalize grownCap w n 0 58=c at *
  have hsz:(Builtin.zeroCells (Value.slice none 0 0).cells n ++ Builtin.zeroCells (Value.slice none 0 0).cells (c - n)).size=c * 1:=by
   rw [Array.size_append,show (Value.slice none 0 0).cells=#[.slice none 0 0] from rfl,size_zeroCells,size_zeroCells];simp;omega
  generalize Builtin.zeroCells (Value.slice none 0 0).cells n ++ Builtin.zeroCells (Value.slice none 0 0).cells (c - n)=cs at *
  unfold Oper.wp execOp
  simp only [ho,resolve,invoke,builtin,Sem.run_bind,Sem.run_pure,Result.andThen_ok,List.map_toArray,List.map_cons,List.map_nil,hs,hx,hrun]
  exact hK _ _ (h c _ (World.ownsRow_made w.drew cs c (Nat.le_refl _) hle hsz) ((Below.refl w.heap.size w).drew.alloc (Nat.le_refl _) _) hge)

theorem growK_any (n:Nat) (hn:n≤1000000) (w:World) :
 Calls Tryz.prog 282 #[.slice none 0 0,.int .i64 (n:Int)] w fun e w'=>∃ v,e = .returned v∧OwnK w' w.heap.size v []∧Below w.heap.size w w':=by
 by_cases h0:n=0
 · subst h0
   go_enter Tryz.func282,Tryz.ntmps282
   go_wp2
   go_ret
   exact ⟨_,rfl,ownK_nil _ _,Below.refl _ _⟩
 · have hp:0<n:=by omega
   have d1:decide ((n:Int)<0)=false:=by simp
   have d2:decide (0<(n:Int))=true:=by simp;omega
   go_enter Tryz.func282,Tryz.ntmps282
   go_wp2_with (at_builtin;refine wpList_zerosK _ rfl _ _ rfl n hp hn rfl rfl ?_;intro c w1 hown hB1 hc)
   go_ret
   exact ⟨_,rfl,hown,hB1⟩
theorem wpList_valsK (w:World) {ops:Array Oper} {rest:List Oper} {o:Oper} {a:Act} {Q:Exit→Act→World→Prop} (hgd:o.guard=none) (s x:Operand)
 (ho:o.op = .call { callee:=.builtin .append,args:=#[s,x],argTypes:=#[25,25] })
 (base:Nat) (v:Value) (l:List Value) (hs:a.eval s=v) (hown:OwnK w base v l) (B2:Nat) (v2:Value) (us:List Value) (hx:a.eval x=v2) (hv2:Vals B2 w v2 us) (hone:∀ u∈us,u.oneCell'=true) (hlen:l.length≤100000) (hlen2:us.length≤100000) (hbase:base≤w.heap.size)
 (h:∀ v' w',OwnK w' base v' (l ++ us)→w.grownBy w' v.ownBlock→wpList Tryz.prog ops Q rest (a.put o.dst v') w'):wpList Tryz.prog ops Q (o :: rest) a w :=
 wpList_plain hgd fun K hK=>by
  obtain ⟨i,hi,hz0,hz1,hz2⟩:=info_parts Tryz.infoCol
  rcases hv2 with ⟨rfl,rfl⟩ | ⟨b,off,cap,rfl,hc,hb,hcell⟩
  · rw [List.append_nil] at h
    have hrun:=run_append_owned_none (P:=Tryz.prog) (w:=w) base 25 o.type 58 i 1 Tryz.underlying25 hi v l.length l hown
    unfold Oper.wp execOp
    simp only [ho,resolve,invoke,builtin,Sem.run_bind,Sem.run_pure,Result.andThen_ok,List.map_toArray,List.map_cons,List.map_nil,hs,hx,hrun]
    exact hK _ _ (h v w hown (World.grownBy.refl _ _))
  · obtain ⟨v',w',hrun,r1,r2,_,r3⟩:=run_append_own_at (P:=Tryz.prog) w base 25 o.type 58 i (.slice none 0 0) 1 24 Tryz.underlying25 hi hz0 hz1 hz2 rfl (by omega) v l.length l hown ⟨b,off,none⟩ us.length cap us (by omega)
     (by intro j u hu;rw [addr_add];exact hcell j u hu) hone (by unfold maxLen;omega) (by omega) hbase
    unfold Oper.wp execOp
    simp only [ho,resolve,invoke,builtin,Sem.run_bind,Sem.run_pure,Result.andThen_ok,List.map_toArray,List.map_cons,List.map_nil,hs,hx,hrun]
    exact hK _ _ (h v' w' (by unfold OwnK;rw [List.length_append];exact r1) r2)
theorem concatK_any (b off cap:Nat) (uss:List (List Value)) (hls:uss.length≤1000) (htot:uss.flatten.length≤100000) (hone:∀ us∈uss,∀ u∈us,u.oneCell'=true) (w:World) {B:Nat} (hB:B≤w.heap.size) (hb:b<w.heap.size)
 (hcell:∀ j,j<uss.length→∃ s,w.cell? ⟨b,off+j,none⟩=some s∧Vals B w s (uss[j]?.getD [])) :
 Calls Tryz.prog 264 #[.slice (some ⟨b,off,none⟩) uss.length cap] w fun e w'=>∃ v',e = .returned v'∧OwnK w' w.heap.size v' uss.flatten∧Below w.heap.size w w':=by
 have HCE:=Lib.hid hcell
 clear hcell
 have HON:Hid (∀ j,j<uss.length→∀ u∈uss[j]?.getD [],u.oneCell'=true):=fun j hj u hu=>hone (uss[j]?.getD []) (by rw [List.getElem?_eq_getElem hj];exact List.getElem_mem hj) u hu
 clear hone
 go_enter Tryz.func264,Tryz.ntmps264
 go_wp2_with fail
 go_loop [3,11] (fun s i=>∃ k:Nat,k≤uss.length∧i = .int .i64 k∧s = .int .i64 ((uss.take k).flatten.length:Int)) (fun _ i=>uss.length - (intOf i).toNat)
 case atStart=>exact ⟨0,Nat.zero_le _,rfl,rfl⟩
 case round =>
  obtain ⟨k,hk,rfl,rfl⟩:=hrel
  by_cases hlt:k<uss.length
  · have hdec:decide ((k:Int)<(uss.length:Int))=true:=by simp;omega
    obtain ⟨sv,hc,hv⟩:=HCE.out k hlt
    obtain ⟨A1,cp,rfl⟩:=hv.len
    have HF:Hid ((uss.take (k+1)).flatten.length=(uss.take k).flatten.length+(uss[k]?.getD []).length):=by
     unfold Hid;rw [flat_nextV uss k hlt,List.length_append]
    have hle:=flat_leV uss (k+1)
    rw [HF.out] at hle
    clear hv
    generalize (uss[k]?.getD []).length=m at hc HF hle
    generalize (uss.take k).flatten.length=s at HF hle
    have d1:decide (((s:Int)+(m:Int))<0)=false:=by simp;omega
    go_wp2
    go_round
    case rel=>exact ⟨k+1,by omega,by go_num,by rw [HF.out];go_num⟩
    case measure=>simp [intOf];omega
  · obtain rfl:k=uss.length:=by omega
    have e1:decide ((uss.length:Int)<(uss.length:Int))=false:=by simp
    rw [List.take_length]
    have HT:=Lib.hid htot
    have HLE:=Lib.hid (fun k=>flat_leV uss k)
    generalize uss.flatten.length=T at HT HLE htot
    have HG:=Lib.hid (growK_any T (by omega) w)
    go_wp2_with (go_at_call 282;refine HG.out.mono ?_;rintro e w1 ⟨v1,rfl,hown1,hB1⟩)
    go_loopw [6,27] (fun v i wr=>∃ k:Nat,k≤uss.length∧i = .int .i64 k∧OwnK wr w.heap.size v (uss.take k).flatten∧Below w.heap.size w wr) (fun _ i _=>uss.length - (intOf i).toNat)
    case atStart=>exact ⟨0,Nat.zero_le _,rfl,hown1,hB1⟩
    case round =>
     obtain ⟨k,hk,rfl,hown,hBr⟩:=hrel
     by_cases hlt:k<uss.length
     · have hdec:decide ((k:Int)<(uss.length:Int))=true:=by simp;omega
       obtain ⟨sv,hc,hv⟩:=HCE.out k hlt
       have hon:=HON.out k hlt
       have hc1:=(hBr.cell (p:=⟨b,off+k,none⟩) hb).trans hc
       have hv1:=hv.below (hBr.mono hB)
       have HF:=Lib.hid (flat_nextV uss k hlt)
       have hle:=HLE.out (k+1)
       rw [HF.out,List.length_append] at hle
       obtain ⟨A1,cp,rfl⟩:=hv.len
       clear hc hv
       generalize uss[k]?.getD []=r at hc1 hv1 HF hle hon
       generalize (uss.take k).flatten=p at HF hle hown
       have HO:=Lib.hid hown
       have HV:=Lib.hid hv1
       clear hown hv1
       go_wp2_with (at_builtin;refine wpList_valsK _ rfl _ _ rfl w.heap.size _ p rfl HO.out B _ r rfl HV.out hon (by have:=HT.out;omega) (by have:=HT.out;omega) hBr.size ?_;intro v' w2 hown2 hgrow2)
       go_roundw
       case rel=>exact ⟨k+1,by omega,by go_num,by rw [HF.out];exact hown2,below_grown hBr hgrow2 hBr.size (fun g e=>(World.ownsRow.lt HO.out g e).1)⟩
       case measure=>simp [intOf];omega
     · obtain rfl:k=uss.length:=by omega
       have e1:decide ((uss.length:Int)<(uss.length:Int))=false:=by simp
       rw [List.take_length] at hown
       go_wp2
       go_ret
       exact ⟨_,rfl,hown,hBr⟩
def ColsV (B:Nat) (W:World) (v:Value) (us:List Value) (css:List (List (List UInt8))):Prop:=us.length=css.length∧Vals B W v us∧∀ (j:Nat) (u:Value),us[j]?=some u→Many B W u (css[j]?.getD [])
theorem ColsV.below {B:Nat} {W W':World} {v:Value} {us:List Value} {css:List (List (List UInt8))} (h:ColsV B W v us css) (hb:Below B W W'):ColsV B W' v us css:=⟨h.1,h.2.1.below hb,fun j u hu=>(h.2.2 j u hu).below hb⟩
theorem ColsV.more {B B':Nat} {W:World} {v:Value} {us:List Value} {css:List (List (List UInt8))} (h:ColsV B W v us css) (hB:B≤B'):ColsV B' W v us css:=⟨h.1,h.2.1.more hB,fun j u hu=>(h.2.2 j u hu).more hB⟩
theorem ColsV.one {B:Nat} {W:World} {v:Value} {us:List Value} {css:List (List (List UInt8))} (h:ColsV B W v us css):∀ u∈us,u.oneCell'=true:=fun u hu=>by
 obtain ⟨j,hj⟩:=List.getElem?_of_mem hu
 obtain ⟨A,cap,rfl,_⟩:=h.2.2 j u hj
 rfl
theorem ColsV.nil (B:Nat) (W:World):ColsV B W (.slice none 0 0) [] []:=⟨rfl,.inl ⟨rfl,rfl⟩,fun j u h=>by cases h⟩
theorem Cols.vals {B:Nat} {W:World} {v:Value} {css:List (List (List UInt8))} (h:Cols B W v css) (h0:0<css.length):∃ us,ColsV B W v us css:=by
 obtain ⟨A,cap,rfl,hc,hA⟩:=h
 obtain ⟨b,off,rfl,hb,hr⟩:=hA h0
 refine ⟨(List.range css.length).map fun j=>(W.cell? ⟨b,off+j,none⟩).getD undef,by simp,.inr ⟨b,off,cap,by simp,by simpa using hc,hb,fun j u hu=>?_⟩,fun j u hu=>?_⟩
 all_goals
  rw [List.getElem?_map] at hu
  rcases Nat.lt_or_ge j css.length with hj | hj
  · rw [List.getElem?_range hj] at hu
    obtain ⟨u2,h1,h2⟩:=hr j hj
    simp only [Option.map_some,h1,Option.getD_some,Option.some.injEq] at hu
    subst hu
    first | exact h1 | exact h2
  · rw [List.getElem?_eq_none (by simpa using hj)] at hu
    cases hu
theorem OwnK.cols {B base:Nat} {W:World} {v:Value} {us:List Value} {css:List (List (List UInt8))} (h:OwnK W base v us) (hn:us.length=css.length) (h0:0<us.length) (hb:∀ (j:Nat) (u:Value),us[j]?=some u→Many B W u (css[j]?.getD [])) (hB:B≤W.heap.size):Cols W.heap.size W v css:=by
 have hcp:∀ g cap,v = .slice (some ⟨g,0,none⟩) us.length cap→us.length≤cap:=fun g cap e=>by
  rcases h.2 with ⟨_,h1⟩ | ⟨g2,cap2,cur,e2,_,_,hnc,_⟩
  · omega
  · rw [e] at e2
    injection e2 with _ _ e3
    omega
 obtain ⟨g,cap,e,hg,hg1⟩:=World.ownsRow.form h h0
 have hcap:=hcp g cap e
 subst e
 refine ⟨_,cap,by rw [hn],by rw [←hn];exact hcap,fun _=>⟨g,0,rfl,by omega,fun j hj=>?_⟩⟩
 have hj2:j<us.length:=by omega
 refine ⟨us[j],?_,(hb j us[j] (List.getElem?_eq_getElem hj2)).more hB⟩
 rw [Nat.zero_add,World.ownsRow.cellAt h j (by omega),List.getElem?_eq_getElem hj2]
theorem both_at {B:Nat} {W:World} {us uo:List Value} {css os:List (List (List UInt8))} (h1:us.length=css.length) (ha:∀ (j:Nat) (u:Value),us[j]?=some u→Many B W u (css[j]?.getD [])) (hb:∀ (j:Nat) (u:Value),uo[j]?=some u→Many B W u (os[j]?.getD [])):∀ (j:Nat) (u:Value),(us ++ uo)[j]?=some u→Many B W u ((css ++ os)[j]?.getD []):=fun j u hu=>by
 rcases Nat.lt_or_ge j us.length with hj | hj
 · rw [List.getElem?_append_left hj] at hu
   rw [List.getElem?_append_left (by omega)]
   exact ha j u hu
 · rw [List.getElem?_append_right hj] at hu
   rw [List.getElem?_append_right (by omega),←h1]
   exact hb _ u hu
end Go.Proofs.YtknkdbincaonbaaGreatDoor.R
