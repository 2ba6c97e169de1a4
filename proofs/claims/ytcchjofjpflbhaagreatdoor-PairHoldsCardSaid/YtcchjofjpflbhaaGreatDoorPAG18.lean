/- -/
import Derived.Test.YtcchjofjpflbhaaGreatDoorPAG17
set_option linter.unusedVariables false
set_option linter.unusedSimpArgs false
set_option maxRecDepth 100000
set_option maxHeartbeats 8000000
namespace Go.Proofs.YtcchjofjpflbhaaGreatDoor.T
open Go.RowKit Go.Shelf Go.Maps Go.Proofs.YtcchjofjpflbhaaGreatDoor.C Go.Proofs.YtcchjofjpflbhaaGreatDoor.E Go.Proofs.YtcchjofjpflbhaaGreatDoor.Ch
attribute [local go_sem] Oper.semAt_some

section
variable {Q:Nat→Prop} {base:Nat} {v:Value}
theorem opIn_pushCP {F:Fence} {nF:Nat} {T:TypeId} (w:World) {o:Oper} {a:Act} {K:Act→World→Prop} {QQ:Exit→Act→World→Prop} (s x:Operand)
 (ho:o.op = .call { callee:=.builtin .append,args:=#[s,x],argTypes:=#[T,T] }) (hT:Tryz.prog.underlying T=some (.slice 50)) (css:List (List (List UInt8))) (hs:a.eval s=v) (h:RowC Q w base v css)
 (g:Nat) (tg:TypeId) (u:Value) (ls:List (List UInt8)) (hx:a.eval x = .slice (some ⟨g,0,none⟩) 1 1) (hg:Blk w g tg #[u]) (hu:manyR.R (fun b=>b<w.heap.size∧some b≠v.ownBlock∧Q b) w u ls) (hlen:css.length≤100000) (hbase:base≤w.heap.size)
 (hK:∀ v' w',RowC Q w' base v' (css ++ [ls])→w.grownBy w' v.ownBlock→(v'.ownBlock=v.ownBlock∨v'.ownBlock=some w.heap.size)→K (a.put o.dst v') w'):Oper.wpIn F nF Tryz.prog o a w K QQ:=by
 obtain ⟨i,hi,hz0,hz1,hz2⟩:=info_parts Tryz.infoCol
 obtain ⟨v',w',hrun,h1,h2,h3⟩:=RowG.push i hi hz0 hz1 hz2 T o.type hT h g tg u ls hg hu hlen hbase
 unfold Oper.wpIn
 refine ⟨by simp [Oper.about,ho,resolve,Target.leads,Sem.run_pure],?_⟩
 rw [Oper.semAt_plain F _ _ (by rw [ho];intro c hc';cases hc')]
 simp [execOp,ho,resolve,invoke,builtin,hs,hx,hrun,Result.andThen,Oper.uponIn]
 exact hK v' w' h1 h2 h3
end
theorem enter_valI:∀ args W,(callFunc 179 args).run Tryz.prog W = .ok (.enter 179 args) W:=enters_of Tryz.func179 (by kernel_rfl) rfl
theorem valuesT (Bs gl:Nat) (zs:List Int) (hlen:zs.length≤1000) (w:World) (hBs:Bs<w.heap.size) (hgl:gl<w.heap.size) (hc0:w.cell? ⟨Bs,0,none⟩=some (.slice (some ⟨gl,0,none⟩) zs.length zs.length)) (hcj:∀ j,j<zs.length→w.cell? ⟨gl,j,none⟩=some (.int .i64 (zs[j]?.getD 0))) :
 ∀ n,1≤n→SeqT Fence.wide n Tryz.prog 179 #[.pointer (some ⟨Bs,0,none⟩)] (fun x:Int=>#[Value.int .i64 x]) (fun pre x _=>pre ++ [x] <+: zs) (Keep 0 w.heap.size) (fun ys=>ys=zs) (fun pre=>pre <+: zs) 1001 w:=by
 intro n hn l J Jx W o₀ hW ho₀ hJ hJx hr1 hr2 hY h0
 have hBsW:=(hW.cell (p:=⟨Bs,0,none⟩) hBs).trans hc0
 have hcW:Hid (∀ j,j<zs.length→W.cell? ⟨gl,j,none⟩=some (.int .i64 (zs[j]?.getD 0))):=fun j hj=>(hW.cell (p:=⟨gl,j,none⟩) hgl).trans (hcj j hj)
 have hWs:=hW.size
 have HJ:=Lib.hid (And.intro hJ (And.intro hJx (And.intro hr1 (And.intro hr2 hY))))
 clear hJ hJx hr1 hr2 hY hc0 hcj hW
 refine callsIn_of_wp Tryz.func179 rfl trivial ?_ rfl
 simp only [Tryz.ntmps179,List.size_toArray,List.length_cons,List.length_nil,Nat.reduceAdd,Nat.reduceSub,Array.replicate_succ,Array.replicate_zero,List.push_toArray,List.append_toArray,List.nil_append,List.cons_append]
 gi_wp2
 gi_loopw [7] (fun i wr=>∃ (k:Nat) (o:Nat→Prop),k≤zs.length∧i = .int .i64 k∧J (zs.take k) o wr∧FreshO o₀ o W∧Keep 0 w.heap.size W wr∧W.heap.size≤wr.heap.size) (fun i _=>zs.length - (intOf i).toNat)
 case atStart=>exact ⟨0,o₀,Nat.zero_le _,rfl,h0,FreshO.refl _ _,Keep.refl _ _ _,Nat.le_refl _⟩
 case round =>
  obtain ⟨k,o,hk,rfl,hJs,hfr,hkp,hsz⟩:=hrel
  by_cases hlt:k<zs.length
  · have hcx:wr.cell? ⟨gl,k,none⟩=some (.int .i64 (zs[k]?.getD 0)):=(World.cell?_of_block (a:=⟨gl,k,none⟩) (hkp.2 gl (Nat.zero_le _) (by omega))).trans (hcW.out k hlt)
    have HT:=Lib.hid (take_next zs hlt)
    have hpf:zs.take k ++ [zs[k]?.getD 0] <+: zs:=by rw [←HT.out];exact List.take_prefix _ _
    generalize zs[k]?.getD 0=x at hcx HT hpf
    obtain ⟨fn,tmps,assign,body,hy,hR⟩:=HJ.out.2.2.2.2 _ x o wr hJs hpf (by rw [List.length_take];omega) hsz
    gi_wp2
    refine hR.mono ?_
    rintro e W3 ⟨o',hf3,hs3,(⟨rfl,hJ3,hk3⟩ | ⟨rfl,hJ3,hk3⟩)⟩
    · gi_wp2
      go_roundw
      case rel=>exact ⟨k+1,o',by omega,by go_num,by rw [HT.out];exact hJ3,hfr.trans hsz hf3,hkp.trans hk3,Nat.le_trans hsz hs3.1⟩
      case measure=>simp [intOf];omega
    · gi_wp2
      refine bodyPost_ret (results_none rfl _ _ _) rfl ?_
      exact ⟨⟨_,rfl⟩,o',hfr.trans hsz hf3,.inr ⟨_,by rw [←HT.out];exact List.take_prefix _ _,hJ3⟩⟩
  · obtain rfl:k=zs.length:=by omega
    rw [List.take_length] at hJs
    gi_wp2
    go_end0
    exact ⟨⟨_,rfl⟩,o,hfr,.inl ⟨_,rfl,hJs⟩⟩

def colX (a:Int) (A B:List (List UInt8)) (x:Int):List (List UInt8):=if x=a then A else B
def IGath (a b:Int) (A B:List (List UInt8)) (g0 g1:Nat) (TVV:Value) (W0 w7:World) (pre:List Int) (o:Nat→Prop) (X:World):Prop :=
 ∃ v,Blk X g1 40 #[v]∧RowC (·<W0.heap.size) X w7.heap.size v (pre.map (colX a A B))∧(o=fun b=>v.ownBlock=some b)∧Blk X g0 160 #[TVV]∧Below W0.heap.size W0 X∧(∀ x∈pre,x=a∨x=b)∧w7.heap.size≤X.heap.size
theorem pGatherI_any {Q:Nat} (a b:Int) (hab:a≠b) (Bs gl g3 gm ga gb:Nat) (A B:List (List UInt8)) (W:World) (hBs:Bs<W.heap.size) (hgl:gl<W.heap.size) (hc:W.cell? ⟨Bs,0,none⟩=some (.slice (some ⟨gl,0,none⟩) 2 2)) (cA:W.cell? ⟨gl,0,none⟩=some (.int .i64 a)) (cB:W.cell? ⟨gl,1,none⟩=some (.int .i64 b)) (b3:Blk W g3 221 #[.map (some gm)]) (hM:IntMap W gm [(a,.slice (some ⟨ga,0,none⟩) Q Q),(b,.slice (some ⟨gb,0,none⟩) Q Q)]) (mA:Many W.heap.size W (.slice (some ⟨ga,0,none⟩) Q Q) A) (mB:Many W.heap.size W (.slice (some ⟨gb,0,none⟩) Q Q) B) :
 Calls Tryz.prog 124 #[.func (.func 179) #[] #[.pointer (some ⟨Bs,0,none⟩)],.func (.func 178) #[] #[.pointer (some ⟨g3,0,none⟩)]] W fun e w'=>∃ gC kk,e = .returned (.slice (some ⟨gC,0,none⟩) 2 kk)∧Cols w'.heap.size w' (.slice (some ⟨gC,0,none⟩) 2 kk) [A,B]∧Below W.heap.size W w':=by
 obtain ⟨w7,hw7⟩:∃ x,(W.alloc (.cells #[.func (.func 178) #[] #[.pointer (some ⟨g3,0,none⟩)]] 160)).alloc (.cells #[.slice none 0 0] 40)=x:=⟨_,rfl⟩
 obtain ⟨g0,hg0⟩:∃ x,W.heap.size=x:=⟨_,rfl⟩
 obtain ⟨g1,hg1⟩:∃ x,g0+1=x:=⟨_,rfl⟩
 have b0:Blk w7 g0 160 #[.func (.func 178) #[] #[.pointer (some ⟨g3,0,none⟩)]]:=by rw [←hw7,←hg0];exact (Blk.new W _ _).alloc _
 have b1:Blk w7 g1 40 #[.slice none 0 0]:=by rw [←hw7,←hg1,←hg0];exact Blk.second W _ _ _
 have hB7:Below W.heap.size W w7:=by rw [←hw7];exact below_two W _ _
 have s7:w7.heap.size=W.heap.size+2:=by rw [←hw7];simp
 have hgo:=valuesT Bs gl [a,b] (by simp) W hBs hgl hc (fun j hj=>by
  have hj2:j=0∨j=1:=by simp at hj;omega
  rcases hj2 with rfl | rfl
  · exact cA
  · exact cB)
 have HX:=Lib.hid (fun (x:Int) (hx:x=a∨x=b)=>(by
  rcases hx with rfl | rfl
  · exact ⟨ga,fun V (hV:Below W.heap.size W V)=>held_any g3 gm _ x (some ⟨ga,0,none⟩) Q Q (by simp) V (b3.below hV b3.lt) (hM.below hV hM.lt),by unfold colX;rw [if_pos rfl];exact mA⟩
  · exact ⟨gb,fun V (hV:Below W.heap.size W V)=>held_any g3 gm _ x (some ⟨gb,0,none⟩) Q Q (by rw [List.find?_cons_of_neg (by simp;exact hab)];simp) V (b3.below hV b3.lt) (hM.below hV hM.lt),by unfold colX;rw [if_neg (fun e=>hab e.symm)];exact mB⟩:∃ gx,(∀ V,Below W.heap.size W V→Calls Tryz.prog 178 #[.int .i64 x,.pointer (some ⟨g3,0,none⟩)] V fun e w'=>e = .returned (.slice (some ⟨gx,0,none⟩) Q Q)∧w'=V)∧Many W.heap.size W (.slice (some ⟨gx,0,none⟩) Q Q) (colX a A B x)))
 have hI0:IGath a b A B g0 g1 (.func (.func 178) #[] #[.pointer (some ⟨g3,0,none⟩)]) W w7 [] (fun _=>False) w7:=⟨.slice none 0 0,b1,RowG.nil _ _ _ _ _ _,by funext b;simp [Value.ownBlock],b0,hB7,fun x hx=>(by cases hx),Nat.le_refl _⟩
 have S7:=Lib.hid s7
 have HG0:=Lib.hid (And.intro hg0 hg1)
 have HAB:=Lib.hid hab
 have hent:=enter_held
 clear s7 hg0 b0 b1 hc cA cB b3 hM mA mB hBs hgl hab
 refine (callsIn_wide (n:=9)).1 ?_
 refine callsIn_of_wp_marks Tryz.func124 rfl trivial ?_ rfl
 simp only [Tryz.ntmps124,List.size_toArray,List.length_cons,List.length_nil,Nat.reduceAdd,Nat.reduceSub,Array.replicate_succ,Array.replicate_zero,List.push_toArray,List.append_toArray,List.nil_append,List.cons_append]
 gi_wp2_with fail
 (try rw [HG0.out.1]);(try rw [hg1])
 clear hw7 hg1
 refine wpIn_rangeT rfl (by omega) (gf:=179) (lb:=#[.pointer (some ⟨Bs,0,none⟩)]) rfl trivial enter_valI (hgo _ (by omega)) (fun h h'=>h.trans h') (fun X l o hl _ _=>Keep.putFar X (by have:=S7.out;omega) o) hB7 (fun _=>rfl)
  (IGath a b A B g0 g1 (.func (.func 178) #[] #[.pointer (some ⟨g3,0,none⟩)]) W w7) (fun _ _ _ _=>False) ?hI (fun c s o X Y row hs _ _=>hs) (fun _=>False) (fun b e=>e.elim) hI0
  (fun pre x o a' X=>a'=({ tmps:=#[.func (.func 179) #[] #[.pointer (some ⟨Bs,0,none⟩)],.func (.func 178) #[] #[.pointer (some ⟨g3,0,none⟩)],undef,.pointer (some ⟨g0,0,none⟩),.slice none 0 0,.pointer (some ⟨g1,0,none⟩),.int .i64 x,.func (.func 179) #[] #[.pointer (some ⟨Bs,0,none⟩)],.int .i64 x,undef,undef,undef,undef,undef,undef,undef],defers:=[] }:Act)∧pre ++ [x] <+: [a,b])
  (fun pre x o a' X l ob r _ _ _ h=>h) ?assign (fun pre o X h=>?hrow) (fun c pre o X h=>h.elim) ?body ?done (fun D c pre o X _ _ _ h=>h.elim)
 case hI =>
  rintro s o X Y row ⟨v,hb1,ho,rfl,hb0,hBX,hpr,hsz⟩ hgr hr
  have s7:=S7.out
  have hg:=HG0.out
  have hne:∀ g,g<w7.heap.size→some g≠row:=fun g hg e=>by have:=(hr g e.symm).1;omega
  refine ⟨v,hb1.grown hgr (hne _ (by omega)),ho.kept hgr ?_ (fun b hb e=>by have hb':b<W.heap.size:=hb;have:=(hr b e.symm).1;omega),rfl,hb0.grown hgr (hne _ (by omega)),below_grown hBX hgr hBX.size (fun r e=>by have:=(hr r e).1;omega),hpr,Nat.le_trans hsz hgr.size⟩
  cases hrow:row with
  | none=>exact (Option.eq_none_or_eq_some v.ownBlock).imp id (fun ⟨x,hx⟩=>by rw [hx];simp)
  | some r=>exact .inr (fun e=>(hr r hrow).2 e)
 case hrow =>
  obtain ⟨v,_,ho,rfl,_⟩:=h
  intro b hb
  exact T.RowG.ownCells ho hb
 case assign =>
  intro l' pre x o X K hsz' hol hI hok hK
  gi_wp2
  exact hK _ _ (SinceO.refl _ _ _) (Keep.refl _ _ _) hI ⟨rfl,hok⟩
 case body =>
  rintro l' pre x o a' X hsz ⟨v,hb1,ho,rfl,hb0,hBX,hpr,hge⟩ ⟨rfl,hpx⟩ hlz
  obtain ⟨vA,vn,vc,rfl⟩:=T.RowG.formR ho
  have s7:=S7.out
  have hg:=HG0.out
  have hxm:x=a∨x=b:=by
   have h:=hpx.subset (List.mem_append_right pre (List.mem_singleton.2 rfl))
   simpa using h
  obtain ⟨gx,hel,hmx⟩:=HX.out x hxm
  have hB0X:=hBX.size
  have hvn:∀ g,(Value.slice vA vn vc).ownBlock=some g→w7.heap.size≤g:=fun g e=>RowG.own_le ho g e
  have h1l:=hb1.lt
  have h0l:=hb0.lt
  have HEL:=Lib.hid (fun (V:World) (hV:Below X.heap.size X V)=>hel V (below_in hBX hV))
  have HRW:=Lib.hid (fun (V:World) (hV:Below X.heap.size X V)=>RowG.below ho hV)
  have HMX:Hid (∀ V,Below X.heap.size X V→manyR.R (fun b=>b<V.heap.size∧some b≠(Value.slice vA vn vc).ownBlock∧b<W.heap.size) V (.slice (some ⟨gx,0,none⟩) Q Q) (colX a A B x)):=fun V hV=>manyR.imp (show manyR.R (·<W.heap.size) V _ _ from hmx.below (below_in hBX hV)) fun b hb=>⟨by have hb':b<W.heap.size:=hb;have:=hV.size;omega,fun e=>by have hb':b<W.heap.size:=hb;have:=hvn b e.symm;omega,hb⟩
  have HSX:Hid (∀ V,Below X.heap.size X V→(fun U:World=>U.cell? ⟨g1,0,none⟩=some (.slice vA vn vc)∧U.cell? ⟨g0,0,none⟩=some (.func (.func 178) #[] #[.pointer (some ⟨g3,0,none⟩)])) V):=fun V hV=>⟨(hb1.below hV h1l).one,(hb0.below hV h0l).one⟩
  have HBS:Hid (∀ V,Below X.heap.size X V→w7.heap.size≤V.heap.size):=fun V hV=>Nat.le_trans hge hV.size
  have HSG:Hid (∀ wa wb,Below X.heap.size X wa→wa.grownBy wb (Value.slice vA vn vc).ownBlock→(fun U:World=>U.cell? ⟨g1,0,none⟩=some (.slice vA vn vc)∧U.cell? ⟨g0,0,none⟩=some (.func (.func 178) #[] #[.pointer (some ⟨g3,0,none⟩)])) wb∧wb.frozen? ⟨g1,0,none⟩=false):=fun wa wb hwa hgr=>by
   have n1:some g1≠(Value.slice vA vn vc).ownBlock:=fun e=>by have:=hvn g1 e.symm;omega
   have n0:some g0≠(Value.slice vA vn vc).ownBlock:=fun e=>by have:=hvn g0 e.symm;omega
   have y1:=(hb1.below hwa h1l).grown hgr n1
   exact ⟨⟨y1.one,((hb0.below hwa h0l).grown hgr n0).one⟩,y1.frozen 0⟩
  have HLEN:Hid ((pre.map (colX a A B)).length≤100000):=by unfold Hid;rw [List.length_map];omega
  have HFIN:Hid (∀ (wa wb:World) (u:Value),Below X.heap.size X wa→wa.grownBy wb (Value.slice vA vn vc).ownBlock→(u.ownBlock=(Value.slice vA vn vc).ownBlock∨u.ownBlock=some wa.heap.size) →
   RowC (·<W.heap.size) wb (w7.heap.size) u (pre.map (colX a A B) ++ [colX a A B x]) →
   ∃ o',FreshO (fun b=>(Value.slice vA vn vc).ownBlock=some b) o' X∧SinceO w7.heap.size (fun b=>(Value.slice vA vn vc).ownBlock=some b) X (wb.setCell ⟨g1,0,none⟩ u)∧Keep 0 W.heap.size X (wb.setCell ⟨g1,0,none⟩ u)∧IGath a b A B g0 g1 (.func (.func 178) #[] #[.pointer (some ⟨g3,0,none⟩)]) W w7 (pre ++ [x]) o' (wb.setCell ⟨g1,0,none⟩ u)):=fun wa wb u hwa hgr hu hrow=>by
   have hza:=hwa.size
   have hzb:=hgr.size
   have n1:some g1≠(Value.slice vA vn vc).ownBlock:=fun e=>by have:=hvn g1 e.symm;omega
   have n0:some g0≠(Value.slice vA vn vc).ownBlock:=fun e=>by have:=hvn g0 e.symm;omega
   have heqX:∀ b,b<X.heap.size→some b≠(Value.slice vA vn vc).ownBlock→wb.heap[b]?=X.heap[b]?:=fun b h1 h3=>(hgr.block b (by omega) h3).trans (hwa.block b h1)
   have x1:Blk wb g1 40 #[.slice vA vn vc]:=(heqX g1 h1l n1).trans hb1
   have x0:Blk wb g0 160 #[.func (.func 178) #[] #[.pointer (some ⟨g3,0,none⟩)]]:=(heqX g0 h0l n0).trans hb0
   have hBwa:Below W.heap.size W wa:=hBX.trans (hwa.mono hB0X)
   have hBwb:Below W.heap.size W wb:=below_grown hBwa hgr (by omega) (fun k e=>by have:=hvn k e;omega)
   have hzZ:(wb.setCell ⟨g1,0,none⟩ u).heap.size=wb.heap.size:=by simp
   refine ⟨fun b=>u.ownBlock=some b,fun b hb=>?_,⟨by rw [hzZ];omega,fun b h2 h3 h4=>?_⟩,⟨by rw [hzZ];omega,fun b h2 h3=>?_⟩,u,x1.set_ 0 u,?_,rfl,Blk.far x0 (by show g0≠g1;omega) _,hBwb.setCell (by show W.heap.size≤g1;omega) _,?_,by rw [hzZ];omega⟩
   · rcases hu with hu | hu
     · exact .inl (hu.symm.trans hb)
     · rw [hu] at hb;injection hb with hb;exact .inr (by omega)
   · exact (Below.heap_setCell wb ⟨g1,0,none⟩ u b (by show b≠g1;omega)).trans (heqX b h3 (fun e=>h4 e.symm))
   · exact (Below.heap_setCell wb ⟨g1,0,none⟩ u b (by show b≠g1;omega)).trans (heqX b (by omega) (fun e=>by have:=hvn b e.symm;omega))
   · rw [List.map_append,List.map_cons,List.map_nil]
     refine RowG.farR hrow ?_ (fun b hb=>?_) u
     · show some g1≠u.ownBlock
       rcases hu with hu | hu
       · rw [hu];exact n1
       · rw [hu];intro e;injection e with e;omega
     · have hb':b<W.heap.size:=hb
       show b≠g1
       omega
   · intro y hy
     rcases List.mem_append.1 hy with h | h
     · exact hpr y h
     · rw [List.mem_singleton.1 h];exact hxm
  have hS:(fun U:World=>U.cell? ⟨g1,0,none⟩=some (.slice vA vn vc)∧U.cell? ⟨g0,0,none⟩=some (.func (.func 178) #[] #[.pointer (some ⟨g3,0,none⟩)])) X.drew:=HSX.out _ (Below.refl X.heap.size X).drew
  clear hb1 ho hb0 hBX hvn s7 hg hel hmx hpx hxm h1l h0l hB0X hpr
  gi_wp2_with fail
  refine wpIn_mono (region_HG (Q:=NoPanic _) (S:=(fun U:World=>U.cell? ⟨g1,0,none⟩=some (.slice vA vn vc)∧U.cell? ⟨g0,0,none⟩=some (.func (.func 178) #[] #[.pointer (some ⟨g3,0,none⟩)]))) (m:=6) (by kernel_rfl) ?_) NoPanic.imp
  refine anyHG_take (i:=0) (d:=9) (v:=.slice vA vn vc) (by kernel_rfl) rfl (by kernel_rfl) (by kernel_rfl) (by kernel_rfl) rfl (by kernel_rfl) (fun _ _ _ h=>h) ⟨Or.inl ⟨by rfl,fun w hS=>by obtain ⟨h0,h1⟩:=hS;go_simp⟩,fun _=>rfl⟩ hS ?_
  simp only [ud9]
  refine anyHG_take (i:=1) (d:=10) (v:=.func (.func 178) #[] #[.pointer (some ⟨g3,0,none⟩)]) (by kernel_rfl) rfl (by kernel_rfl) (by kernel_rfl) (by kernel_rfl) rfl (by kernel_rfl) (fun _ _ _ h=>h) ⟨Or.inl ⟨by rfl,fun w hS=>by obtain ⟨h0,h1⟩:=hS;go_simp⟩,fun _=>rfl⟩ hS ?_
  simp only [ud9]
  refine anyHG_take (i:=2) (d:=11) (v:=.int .i64 x) (by kernel_rfl) rfl (by kernel_rfl) (by kernel_rfl) (by kernel_rfl) rfl (by kernel_rfl) (fun _ _ _ h=>h) ⟨Or.inl ⟨by rfl,fun w hS=>by obtain ⟨h0,h1⟩:=hS;go_simp⟩,fun _=>rfl⟩ hS ?_
  simp only [ud9]
  refine anyHG_one (i:=3) (by kernel_rfl) rfl (by kernel_rfl) (by rfl) ?_
  gi_wp2_with fail
  refine ⟨trivial,(CallsIn.inRound l' (callsIn_wide.2 (HEL.out X.drew (Below.refl X.heap.size X).drew))).mono ?_⟩
  rintro e w9 ⟨rfl,rfl⟩
  gi_wp2
  try (refine ⟨.inr hS,?_⟩)
  refine anyHG_one (i:=4) (by kernel_rfl) rfl (by kernel_rfl) (by rfl) ?_
  have hBa:Below X.heap.size X (X.drew.alloc (.cells #[.slice (some ⟨gx,0,none⟩) Q Q] 50)):=(Below.refl X.heap.size X).drew.alloc (Nat.le_refl _) _
  have bE:Blk (X.drew.alloc (.cells #[.slice (some ⟨gx,0,none⟩) Q Q] 50)) X.drew.heap.size 50 #[.slice (some ⟨gx,0,none⟩) Q Q]:=Blk.new X.drew _ _
  obtain ⟨wa,hwa⟩:∃ wa,(X.drew.alloc (.cells #[.slice (some ⟨gx,0,none⟩) Q Q] 50))=wa:=⟨_,rfl⟩
  obtain ⟨ge,hge⟩:∃ z,X.drew.heap.size=z:=⟨_,rfl⟩
  have hge2:X.heap.size=ge:=hge
  rw [hwa] at hBa bE
  rw [hge] at bE
  clear hS
  have hS:(fun U:World=>U.cell? ⟨g1,0,none⟩=some (.slice vA vn vc)∧U.cell? ⟨g0,0,none⟩=some (.func (.func 178) #[] #[.pointer (some ⟨g3,0,none⟩)])) wa:=HSX.out _ hBa
  gi_wp2
  (try rw [hge2]);(try rw [hge]);(try rw [hwa])
  try (refine ⟨.inr hS,?_⟩)
  refine anyHG_one (i:=5) (by kernel_rfl) rfl (by kernel_rfl) (by rfl) ?_
  refine opIn_pushCP (T:=40) (v:=.slice vA vn vc) wa _ _ rfl Tryz.underlying40 _ rfl (HRW.out _ hBa) ge _ _ _ rfl bE (HMX.out _ hBa) HLEN.out (HBS.out _ hBa) ?_
  intro v' wb hrow hgr hor
  obtain ⟨vA2,vn2,vc2,rfl⟩:=T.RowG.formR hrow
  clear hS
  have hS:(fun U:World=>U.cell? ⟨g1,0,none⟩=some (.slice vA vn vc)∧U.cell? ⟨g0,0,none⟩=some (.func (.func 178) #[] #[.pointer (some ⟨g3,0,none⟩)])) wb:=(HSG.out wa wb hBa hgr).1
  gi_wp2_with fail
  try (refine ⟨.inr hS,?_⟩)
  refine anyHG_one (i:=6) (by kernel_rfl) rfl (by kernel_rfl) (by rfl) ?_
  have f0:=(HSG.out wa wb hBa hgr).2
  obtain ⟨h0,h1⟩:=hS
  gi_wp2
  refine anyHG_done (by kernel_rfl) ?_ _
  refine NoPanic.normal ?_
  clear h0 h1 f0
  gi_wp2_with fail
  exact HFIN.out wa wb _ hBa hgr hor hrow
 case done =>
  rintro D0 xs oX X hD0 _ hxz ⟨v,hb1,ho,rfl,hb0,hBX,hpr,hge⟩ hKD hne
  rw [show xs = [a,b] from hxz] at ho
  obtain ⟨vA,vn,vc,rfl⟩:=T.RowG.formR ho
  have c1:=hb1.one
  have s7:=S7.out
  have HO:=Lib.hid (And.intro ho hBX)
  have HN:=Lib.hid hne
  have hXs:=hBX.size
  clear ho hb0 hBX hb1
  gi_wp2_with fail
  (try rw [Exit.noGoto_normal])
  refine ⟨by simp,.inl ⟨_,_,rfl,run_takeDeferred hKD,?_⟩⟩
  have hrow:∀ ob,RowC (·<W.heap.size) (X.putObj D0 ob) (w7.heap.size) (.slice vA vn vc) ([a,b].map (colX a A B)):=fun ob=>RowG.kept HO.out.1 (grownBy_putObj' X D0 ob) (.inr fun e=>HN.out e) (fun b hb e=>by injection e with e;have hb':b<W.heap.size:=hb;omega)
  have e2:[a,b].map (colX a A B) = [A,B]:=by
   have h1:colX a A B a=A:=if_pos rfl
   have h2:colX a A B b=B:=if_neg fun e=>HAB.out e.symm
   simp [h1,h2]
  rw [e2] at hrow
  obtain ⟨gC,kk,cur,hve,_⟩:=rowC_blk (hrow (.deferred none)) (by simp)
  have hve2:Value.slice vA vn vc = .slice (some ⟨gC,0,none⟩) 2 kk:=hve
  injection hve2 with q1 q2 q3
  subst q1 q2 q3
  refine ⟨.slice (some ⟨gC,0,none⟩) 2 vc,by simp [results,Tryz.results124,go_sem],gC,vc,rfl,RowC.cols (hrow _),?_⟩
  exact below_grown HO.out.2 (grownBy_putObj' X D0 _) HO.out.2.size (fun r e=>by injection e with e;omega)
end Go.Proofs.YtcchjofjpflbhaaGreatDoor.T

namespace Go.Proofs.YtcchjofjpflbhaaGreatDoor.T
open Go.RowKit Go.Shelf Go.Maps Go.Proofs.YtcchjofjpflbhaaGreatDoor.C Go.Proofs.YtcchjofjpflbhaaGreatDoor.E Go.Proofs.YtcchjofjpflbhaaGreatDoor.Ch Go.Proofs.YtcchjofjpflbhaaGreatDoor.Rg

def chkA (p:Int) (a b:Nat):Bool:=(List.range (p - 1).toNat).all fun r=>(armP p (a:Int) (b:Int) ++ armP p (b:Int) (a:Int)).contains ((a:Int),(r:Int))
theorem cover_arms:∀ p∈prm,∀ a∈List.range 17,∀ b∈List.range 17,(a:Int)<p→(b:Int)<p→a≠b→chkA p a b=true:=by decide +kernel
theorem cover_a {p a b:Int} (hp:p∈prm) (ha:0≤a∧a<p) (hb:0≤b∧b<p) (hab:a≠b) {r:Nat} (hr:(r:Int)<p - 1):(a,(r:Int))∈armP p a b ++ armP p b a:=by
 have hpb:=prm_bounds hp
 obtain ⟨an,rfl⟩:∃ n:Nat,a=(n:Int):=⟨a.toNat,by omega⟩
 obtain ⟨bn,rfl⟩:∃ n:Nat,b=(n:Int):=⟨b.toNat,by omega⟩
 have h:=cover_arms p hp an (List.mem_range.2 (by omega)) bn (List.mem_range.2 (by omega)) ha.2 hb.2 (by omega)
 unfold chkA at h
 rw [List.all_eq_true] at h
 have h2:=h r (List.mem_range.2 (by omega))
 exact List.contains_iff_mem.1 h2
def FillG (Q:Nat) (a b:Int) (A B:List (List UInt8)) (ga gb base:Nat) (done:List (Int×Int)) (X:World):Prop :=
 ∃ ca cb:Array Value,Blk X ga 64 ca∧ca.size=Q∧Blk X gb 64 cb∧cb.size=Q∧∀ r:Nat,r<Q →
  ((a,(r:Int))∈done→∃ u,ca[r]?=some u∧BytesP (fun k=>base≤k∧k<X.heap.size) X u (A[r]?.getD [])) ∧
  ((b,(r:Int))∈done→∃ u,cb[r]?=some u∧BytesP (fun k=>base≤k∧k<X.heap.size) X u (B[r]?.getD []))
section
variable {Q:Nat} {a b:Int} {A B:List (List UInt8)} {ga gb base:Nat} {done:List (Int×Int)} {X Y:World}
theorem FillG.below (h:FillG Q a b A B ga gb base done X) (hB:Below X.heap.size X Y):FillG Q a b A B ga gb base done Y:=by
 obtain ⟨ca,cb,h1,h2,h3,h4,h5⟩:=h
 have key:∀ {u:Value} {l:List UInt8},BytesP (fun k=>base≤k∧k<X.heap.size) X u l→BytesP (fun k=>base≤k∧k<Y.heap.size) Y u l:=fun {u l} hu=>bytesR.imp (bytesR.keep hu fun k hk=>hB.block k hk.2) fun k hk=>⟨hk.1,Nat.lt_of_lt_of_le hk.2 hB.size⟩
 refine ⟨ca,cb,h1.below hB h1.lt,h2,h3.below hB h3.lt,h4,fun r hr=>⟨fun hm=>?_,fun hm=>?_⟩⟩
 · obtain ⟨u,hu,hb⟩:=(h5 r hr).1 hm
   exact ⟨u,hu,key hb⟩
 · obtain ⟨u,hu,hb⟩:=(h5 r hr).2 hm
   exact ⟨u,hu,key hb⟩
theorem FillG.lt (h:FillG Q a b A B ga gb base done X):ga<X.heap.size∧gb<X.heap.size:=by
 obtain ⟨ca,cb,h1,h2,h3,h4,h5⟩:=h
 exact ⟨h1.lt,h3.lt⟩
theorem FillG.old (h:FillG Q a b A B ga gb base done X) {gq r:Nat} (hq:gq=ga∨gq=gb) (hr:r<Q):(∃ old,X.cell? ⟨gq,r,none⟩=some old)∧X.frozen? ⟨gq,r,none⟩=false:=by
 obtain ⟨ca,cb,h1,h2,h3,h4,h5⟩:=h
 rcases hq with rfl | rfl
 · exact ⟨⟨_,by rw [h1.cell r,Array.getElem?_eq_getElem (by omega)]⟩,h1.frozen r⟩
 · exact ⟨⟨_,by rw [h3.cell r,Array.getElem?_eq_getElem (by omega)]⟩,h3.frozen r⟩
theorem FillG.put (h:FillG Q a b A B ga gb base done X) (hab:a≠b) (hg:ga≠gb) (hga:ga<base) (hgb:gb<base) {c:Int} {r gq:Nat} (hq:(c=a∧gq=ga)∨(c=b∧gq=gb)) (hr:r<Q) {u:Value}
 (hu:BytesP (fun k=>base≤k∧k<X.heap.size) X u (cellF a A B (c,(r:Int)))):FillG Q a b A B ga gb base (done ++ [(c,(r:Int))]) (X.setCell ⟨gq,r,none⟩ u):=by
 obtain ⟨ca,cb,h1,h2,h3,h4,h5⟩:=h
 have hne:∀ k,base≤k∧k<X.heap.size→k≠gq:=fun k hk=>by rcases hq with ⟨_,e⟩ | ⟨_,e⟩ <;> omega
 have key:∀ {v:Value} {l:List UInt8},BytesP (fun k=>base≤k∧k<X.heap.size) X v l→BytesP (fun k=>base≤k∧k<(X.setCell ⟨gq,r,none⟩ u).heap.size) (X.setCell ⟨gq,r,none⟩ u) v l:=fun {v l} hv=>bytesR.imp (bytesR.keep hv fun k hk=>Below.heap_setCell X ⟨gq,r,none⟩ u k (hne k hk)) fun k hk=>⟨hk.1,by simpa using hk.2⟩
 rcases hq with ⟨rfl,rfl⟩ | ⟨rfl,rfl⟩
 · have e1:cellF c A B (c,(r:Int))=A[r]?.getD []:=by unfold cellF;rw [if_pos rfl];simp
   rw [e1] at hu
   refine ⟨_,cb,h1.set_ r u,by rw [Array.size_setIfInBounds];exact h2,h3.far (fun e=>hg e.symm) _,h4,fun s hs=>⟨fun hm=>?_,fun hm=>?_⟩⟩
   · by_cases e:s=r
     · subst e
       exact ⟨u,Array.getElem?_setIfInBounds_self_of_lt (by omega),key hu⟩
     · rcases List.mem_append.1 hm with h | h
       · obtain ⟨v,hv,hb⟩:=(h5 s hs).1 h
         exact ⟨v,by rw [Array.getElem?_setIfInBounds_ne (fun e2=>e e2.symm)];exact hv,key hb⟩
       · have:=List.mem_singleton.1 h
         injection this with _ h3
         omega
   · rcases List.mem_append.1 hm with h | h
     · obtain ⟨v,hv,hb⟩:=(h5 s hs).2 h
       exact ⟨v,hv,key hb⟩
     · have:=List.mem_singleton.1 h
       injection this with h3 _
       exact absurd h3.symm hab
 · have e1:cellF a A B (c,(r:Int))=B[r]?.getD []:=by unfold cellF;rw [if_neg (fun e=>hab e.symm)];simp
   rw [e1] at hu
   refine ⟨ca,_,h1.far hg _,h2,h3.set_ r u,by rw [Array.size_setIfInBounds];exact h4,fun s hs=>⟨fun hm=>?_,fun hm=>?_⟩⟩
   · rcases List.mem_append.1 hm with h | h
     · obtain ⟨v,hv,hb⟩:=(h5 s hs).1 h
       exact ⟨v,hv,key hb⟩
     · have:=List.mem_singleton.1 h
       injection this with h3 _
       exact absurd h3 hab
   · by_cases e:s=r
     · subst e
       exact ⟨u,Array.getElem?_setIfInBounds_self_of_lt (by omega),key hu⟩
     · rcases List.mem_append.1 hm with h | h
       · obtain ⟨v,hv,hb⟩:=(h5 s hs).2 h
         exact ⟨v,by rw [Array.getElem?_setIfInBounds_ne (fun e2=>e e2.symm)];exact hv,key hb⟩
       · have:=List.mem_singleton.1 h
         injection this with _ h3
         omega
theorem FillG.many (h:FillG Q a b A B ga gb base done X) (hA:A.length=Q) (hB:B.length=Q) (hc:∀ r:Nat,r<Q→(a,(r:Int))∈done∧(b,(r:Int))∈done):Many X.heap.size X (.slice (some ⟨ga,0,none⟩) Q Q) A∧Many X.heap.size X (.slice (some ⟨gb,0,none⟩) Q Q) B:=by
 obtain ⟨ca,cb,h1,h2,h3,h4,h5⟩:=h
 refine ⟨⟨_,Q,by rw [hA],by omega,fun _=>⟨ga,0,rfl,h1.lt,fun j hj=>?_⟩⟩,⟨_,Q,by rw [hB],by omega,fun _=>⟨gb,0,rfl,h3.lt,fun j hj=>?_⟩⟩⟩
 · obtain ⟨u,hu,hb⟩:=(h5 j (by omega)).1 (hc j (by omega)).1
   exact ⟨u,by rw [Nat.zero_add,h1.cell j];exact hu,bytesR.imp hb fun k hk=>hk.2⟩
 · obtain ⟨u,hu,hb⟩:=(h5 j (by omega)).2 (hc j (by omega)).2
   exact ⟨u,by rw [Nat.zero_add,h3.cell j];exact hu,bytesR.imp hb fun k hk=>hk.2⟩
theorem FillG.nil (h1:Blk X ga 64 (Array.replicate Q (.slice none 0 0))) (h2:Blk X gb 64 (Array.replicate Q (.slice none 0 0))):FillG Q a b A B ga gb base [] X :=
 ⟨_,_,h1,by simp,h2,by simp,fun r hr=>⟨fun h=>(by cases h),fun h=>(by cases h)⟩⟩
end
theorem cc_at:∀ (l:List (Int×Int)) (j:Nat) (e:Int×Int),l[j]?=some e→(codeCells l)[j * 2]?=some (.int .i64 e.1)∧(codeCells l)[j * 2+1]?=some (.int .i64 e.2)
 | [],j,e,h=>by cases h
 | x :: l,0,e,h=>by
   injection h with h
   subst h
   exact ⟨rfl,rfl⟩
 | x :: l,j+1,e,h=>by
   have h2:=cc_at l j e h
   have e1:codeCells (x :: l) = .int .i64 x.1 :: .int .i64 x.2 :: codeCells l:=rfl
   rw [e1,show (j+1) * 2=j * 2+1+1 by omega,show j * 2+1+1+1=(j * 2+1)+1+1 by omega]
   simp only [List.getElem?_cons_succ]
   exact h2
def dn (l m:List (Int×Int)):Nat→List (Int×Int)
 | 0=>[]
 | 1=>l
 | _=>l ++ m
theorem cellF_swap {a b:Int} (hab:a≠b) (A B:List (List UInt8)) (e:Int×Int) (he:e.1=b∨e.1=a):cellF b B A e=cellF a A B e:=by
 unfold cellF
 rcases he with h | h
 · rw [if_pos h,if_neg (fun e2=>hab (by rw [←e2,h]))]
 · rw [if_neg (fun e2=>hab (by rw [←e2,h])),if_pos h]
def KeepF (W2:World) (ga gb:Nat) (X:World):Prop:=W2.heap.size≤X.heap.size∧∀ k,k<W2.heap.size→k≠ga→k≠gb→X.heap[k]?=W2.heap[k]?
theorem KeepF.below {W2 X Y:World} {ga gb:Nat} (h:KeepF W2 ga gb X) (hB:Below X.heap.size X Y):KeepF W2 ga gb Y:=⟨Nat.le_trans h.1 hB.size,fun k h1 h2 h3=>(hB.block k (by have:=h.1;omega)).trans (h.2 k h1 h2 h3)⟩
theorem KeepF.put {W2 X:World} {ga gb gq r:Nat} {u:Value} (h:KeepF W2 ga gb X) (hq:gq=ga∨gq=gb):KeepF W2 ga gb (X.setCell ⟨gq,r,none⟩ u):=⟨by simpa using h.1,fun k h1 h2 h3=>(Below.heap_setCell X ⟨gq,r,none⟩ u k (by rcases hq with e | e <;> (show k≠gq;omega))).trans (h.2 k h1 h2 h3)⟩
end Go.Proofs.YtcchjofjpflbhaaGreatDoor.T
