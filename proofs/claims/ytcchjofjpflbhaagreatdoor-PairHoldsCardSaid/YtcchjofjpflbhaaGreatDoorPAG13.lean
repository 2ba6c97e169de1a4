/- -/
import Derived.Test.YtcchjofjpflbhaaGreatDoorPAG12
set_option linter.unusedVariables false
set_option linter.unusedSimpArgs false
set_option maxRecDepth 100000
set_option maxHeartbeats 8000000
namespace Go.Proofs.YtcchjofjpflbhaaGreatDoor
open Go.RowKit Go.Shelf

def IntMap (W:World) (b:Nat) (l:List (Int×Value)):Prop:=∃ es ck,W.heap[b]?=some (.map es ck)∧es.toList.map (fun e=>(e.key,e.val))=l.map (fun z=>(Value.int .i64 z.1,z.2))
theorem IntMap.made (w:World):IntMap (w.alloc (.map #[] 0)) w.heap.size []:=⟨#[],0,by show (w.heap.push (.map #[] 0))[w.heap.size]? = _;exact Array.getElem?_push_size,rfl⟩
theorem IntMap.lt {W:World} {b:Nat} {l:List (Int×Value)} (h:IntMap W b l):b<W.heap.size:=by
 obtain ⟨es,ck,h1,_⟩:=h
 exact (Array.getElem?_eq_some_iff.1 h1).1
theorem IntMap.keep {X Y:World} {b:Nat} {l:List (Int×Value)} (h:IntMap X b l) (hb:Y.heap[b]?=X.heap[b]?):IntMap Y b l:=by
 obtain ⟨es,ck,hh,hF⟩:=h
 exact ⟨es,ck,hb.trans hh,hF⟩
theorem IntMap.below {X Y:World} {B b:Nat} {l:List (Int×Value)} (h:IntMap X b l) (hb:Below B X Y) (hB:b<B):IntMap Y b l:=h.keep (hb.block b hB)
theorem findNow_no (k:IntKind) (x:Int):∀ (es:List MapEntry) (l:List (Int×Value)) (i:Nat),es.map (fun e=>(e.key,e.val))=l.map (fun z=>(Value.int .i64 z.1,z.2))→(∀ z∈l,z.1≠x)→Instr.findNow (.int k) (.int .i64 x) es i=some none
 | [],_,_,_,_=>rfl
 | e :: es,[],_,h,_=>by cases h
 | e :: es,z :: l,i,h,hn=>by
   rw [List.map_cons,List.map_cons] at h
   injection h with h1 h2
   injection h1 with h3 h4
   have e1:Instr.sameNow (.int k) (.int .i64 x) e.key=some false:=by
    rw [h3]
    show (if IntKind.i64=IntKind.i64 then some (x == z.1) else none) = _
    rw [if_pos rfl,beq_eq_false_iff_ne.2 (fun e=>hn z (by simp) e.symm)]
   unfold Instr.findNow
   rw [e1]
   exact findNow_no k x es l (i+1) h2 (fun z' hz=>hn z' (by simp [hz]))
theorem findNow_yes (k:IntKind) (x:Int) (v:Value):∀ (es:List MapEntry) (l:List (Int×Value)) (i:Nat),es.map (fun e=>(e.key,e.val))=l.map (fun z=>(Value.int .i64 z.1,z.2))→l.find? (fun z=>z.1 == x)=some (x,v)→∃ j,Instr.findNow (.int k) (.int .i64 x) es i=some (some (j,v))
 | [],[],_,_,h=>by cases h
 | [],z :: l,_,h,_=>by cases h
 | e :: es,[],_,h,_=>by cases h
 | e :: es,z :: l,i,h,hn=>by
   rw [List.map_cons,List.map_cons] at h
   injection h with h1 h2
   injection h1 with h3 h4
   rw [List.find?_cons] at hn
   by_cases hz:z.1=x
   · rw [beq_iff_eq.2 hz] at hn
     injection hn with hn
     have e1:Instr.sameNow (.int k) (.int .i64 x) e.key=some true:=by
      rw [h3]
      show (if IntKind.i64=IntKind.i64 then some (x == z.1) else none) = _
      rw [if_pos rfl,beq_iff_eq.2 hz.symm]
     unfold Instr.findNow
     rw [e1]
     exact ⟨i,by rw [h4,hn]⟩
   · rw [beq_eq_false_iff_ne.2 hz] at hn
     have e1:Instr.sameNow (.int k) (.int .i64 x) e.key=some false:=by
      rw [h3]
      show (if IntKind.i64=IntKind.i64 then some (x == z.1) else none) = _
      rw [if_pos rfl,beq_eq_false_iff_ne.2 (fun e=>hz e.symm)]
     unfold Instr.findNow
     rw [e1]
     exact findNow_yes k x v es l (i+1) h2 hn
theorem check_int (em:Bool) (x:Int) (w:World):(Instr.checkKey em 10000 3 (.int .i64 x)).run Tryz.prog w = .ok () w:=by
 cases em <;> kernel_rfl
theorem IntMap.look {W:World} {b:Nat} {l:List (Int×Value)} (h:IntMap W b l) (x:Int) (v:Value) (hx:l.find? (fun z=>z.1 == x)=some (x,v)) :
 (Instr.lookup 221 (.map (some b)) (.int .i64 x) false).run Tryz.prog W = .ok v W:=by
 obtain ⟨es,ck,hh,hF⟩:=h
 obtain ⟨j,hj⟩:=findNow_yes .i64 x v es.toList l 0 hF hx
 have hc:=fun em=>check_int em x W
 unfold Instr.lookup
 simp only [Sem.run_bind,run_underlying Tryz.underlying221,Result.andThen_ok,Sem.run_pure,Go.MapKept.run_getObj_map hh]
 rw [hc]
 simp only [Result.andThen_ok]
 unfold Instr.findKey
 simp only [Sem.run_bind,run_underlying Tryz.underlying3,Result.andThen_ok,hj,Sem.run_pure]
 rfl
theorem IntMap.put {W:World} {b:Nat} {l:List (Int×Value)} (h:IntMap W b l) (x:Int) (v:Value) (hx:∀ z∈l,z.1≠x) :
 ∃ W',(Instr.mapUpdate 221 (.map (some b)) (.int .i64 x) v).run Tryz.prog W = .ok () W'∧IntMap W' b (l ++ [(x,v)])∧W.grownBy W' (some b):=by
 have hlt:=h.lt
 obtain ⟨es,ck,hh,hF⟩:=h
 have hf:=findNow_no .i64 x es.toList l 0 hF hx
 have hc:=fun em=>check_int em x W
 refine ⟨{ W with heap:=W.heap.setIfInBounds b (.map (es.push { key:=.int .i64 x,val:=v,born:=ck }) (ck+1)) },?_,⟨es.push { key:=.int .i64 x,val:=v,born:=ck },ck+1,by simp [hlt],by rw [Array.toList_push,List.map_append,hF,List.map_append];rfl⟩,?_⟩
 · unfold Instr.mapUpdate
   simp only [Sem.run_bind,run_underlying Tryz.underlying221,Result.andThen_ok,Sem.run_pure,Go.MapKept.run_getObj_map hh]
   rw [hc]
   simp only [Result.andThen_ok]
   unfold Instr.findKey
   simp only [Sem.run_bind,run_underlying Tryz.underlying3,Result.andThen_ok,hf,Sem.run_pure]
   rw [Go.MapKept.run_setObj_map _ hh]
 · exact ⟨rfl,rfl,rfl,by simp,fun k hk hne=>by simp [Array.getElem?_setIfInBounds,show ¬ b=k from fun e=>hne (by rw [e])]⟩
end Go.Proofs.YtcchjofjpflbhaaGreatDoor

namespace Go.Proofs.YtcchjofjpflbhaaGreatDoor.T
open Go.RowKit Go.Shelf Go.Maps Go.Proofs.YtcchjofjpflbhaaGreatDoor.C Go.Proofs.YtcchjofjpflbhaaGreatDoor.E
attribute [local go_sem] Oper.semAt_some

theorem held_any (g gm:Nat) (l:List (Int×Value)) (x:Int) (A:Option Addr) (n c:Nat) (hx:l.find? (fun z=>z.1 == x)=some (x,.slice A n c)) (w:World) (b:Blk w g 221 #[.map (some gm)]) (h:IntMap w gm l) :
 Calls Tryz.prog 178 #[.int .i64 x,.pointer (some ⟨g,0,none⟩)] w fun e w'=>e = .returned (.slice A n c)∧w'=w:=by
 have hl:=h.look x _ hx
 have k:=b.one
 clear b h hx
 go_enter Tryz.func178,Tryz.ntmps178
 go_wp2
 go_ret
 exact ⟨rfl,rfl⟩
theorem enter_held:∀ args W,(callFunc 178 args).run Tryz.prog W = .ok (.enter 178 args) W:=enters_of Tryz.func178 (by kernel_rfl) rfl
end Go.Proofs.YtcchjofjpflbhaaGreatDoor.T

namespace Go.Proofs.YtcchjofjpflbhaaGreatDoor.T
open Go.RowKit Go.Shelf Go.Maps Go.Proofs.YtcchjofjpflbhaaGreatDoor.C Go.Proofs.YtcchjofjpflbhaaGreatDoor.E
attribute [local go_sem] Oper.semAt_some

theorem pColumns_any (P Q:Nat) (hQ:P=Q+1) (hp:(P:Int)∈prm) (a b:Int) (hab:a≠b) (gl:Nat) (w:World) (hgl:gl<w.heap.size) (cA:w.cell? ⟨gl,0,none⟩=some (.int .i64 a)) (cB:w.cell? ⟨gl,1,none⟩=some (.int .i64 b)) :
 Calls Tryz.prog 121 #[.agg #[.int .i64 2,.int .i64 (P:Int),.slice (some ⟨gl,0,none⟩) 2 2]] w fun e w'=>∃ g3 gm ga gb,e = .returned (.func (.func 178) #[] #[.pointer (some ⟨g3,0,none⟩)])∧Blk w' g3 221 #[.map (some gm)]∧IntMap w' gm [(a,.slice (some ⟨ga,0,none⟩) Q Q),(b,.slice (some ⟨gb,0,none⟩) Q Q)]∧Blk w' ga 64 (Array.replicate Q (.slice none 0 0))∧Blk w' gb 64 (Array.replicate Q (.slice none 0 0))∧(w.heap.size≤g3∧w.heap.size≤gm∧g3<ga∧gm<ga∧ga<gb)∧Below w.heap.size w w':=by
 have hpb:=prm_bounds hp
 obtain ⟨w0,hw0⟩:∃ z,((w.alloc (.cells #[.int .i64 2,.int .i64 (P:Int),.slice (some ⟨gl,0,none⟩) 2 2] 90)).alloc (.map #[] 0)).alloc (.cells #[.map (some (w.heap.size+1))] 221)=z:=⟨_,rfl⟩
 have HQ1:Hid (Q≤1000):=by unfold Hid;omega
 have HLA:=Lib.hid (fun V=>Pr.last_any P Q hQ (by omega) (some ⟨gl,0,none⟩) 2 2 V)
 have hmm:∀ W:World,(Instr.makeMap 221 none).run Tryz.prog W = .ok (.map (some W.heap.size)) (W.alloc (.map #[] 0)):=fun _=>by kernel_rfl
 obtain ⟨gm,hgm⟩:∃ z,w.heap.size+1=z:=⟨_,rfl⟩
 obtain ⟨g3,hg3⟩:∃ z,gm+1=z:=⟨_,rfl⟩
 obtain ⟨g0,hg0⟩:∃ z,w.heap.size=z:=⟨_,rfl⟩
 have b0_0:Blk w0 g0 90 #[.int .i64 2,.int .i64 (P:Int),.slice (some ⟨gl,0,none⟩) 2 2]:=by rw [←hw0,←hg0];exact ((Blk.new w _ _).alloc _).alloc _
 have b3_0:Blk w0 g3 221 #[.map (some gm)]:=by rw [←hw0,←hg3,←hgm];exact Rg.Blk.at_ (Blk.new _ _ _) (by simp)
 have hM0:IntMap w0 gm []:=by
  have h:=IntMap.made (w.alloc (.cells #[.int .i64 2,.int .i64 (P:Int),.slice (some ⟨gl,0,none⟩) 2 2] 90))
  rw [show (w.alloc (.cells #[.int .i64 2,.int .i64 (P:Int),.slice (some ⟨gl,0,none⟩) 2 2] 90)).heap.size=gm by rw [←hgm];simp] at h
  rw [←hw0]
  exact h.keep (Below.heap_alloc _ _ gm (by rw [←hgm];simp))
 have hB0:Below w.heap.size w w0:=by rw [←hw0];exact (below_two w _ _).alloc (by simp;omega) _
 have cA0:=nextc cA hB0
 have cB0:=nextc cB hB0
 have HNE:Hid (some g0≠some gm∧some g3≠some gm∧some gl≠some gm):=⟨fun e=>by injection e with e;omega,fun e=>by injection e with e;omega,fun e=>by injection e with e;omega⟩
 have HAB:=Lib.hid hab
 have HB0:=Lib.hid hB0
 have HLT:=Lib.hid (Nat.lt_of_lt_of_le hgl hB0.size)
 have HG:=Lib.hid (And.intro hg0 (And.intro hgm hg3))
 have HW0:=Lib.hid hw0
 clear cA cB hgl hab hB0 hw0 hg0 hgm hg3 hp hpb hQ
 refine (callsIn_wide (n:=9)).1 ?_
 refine callsIn_of_wp_marks Tryz.func121 rfl trivial ?_ rfl
 simp only [Tryz.ntmps121,List.size_toArray,List.length_cons,List.length_nil,Nat.reduceAdd,Nat.reduceSub,Array.replicate_succ,Array.replicate_zero,List.push_toArray,List.append_toArray,List.nil_append,List.cons_append]
 gi_wp2_with fail
 (try rw [HW0.out]);(try rw [HG.out.2.1]);(try rw [HG.out.2.2]);(try rw [HG.out.1])
 refine wpIn_loop_rounds 3 ?_
 rw [roundsIn_succ]
 gi_wp2_with fail
 have HSS:Hid (∀ V,Below w0.heap.size w0 V→(fun U:World=>U.cell? ⟨g0,0,none⟩=some (.int .i64 2)∧U.cell? ⟨g0,1,none⟩=some (.int .i64 (P:Int))∧U.cell? ⟨g0,2,none⟩=some (.slice (some ⟨gl,0,none⟩) 2 2)∧U.cell? ⟨gl,0,none⟩=some (.int .i64 a)∧U.cell? ⟨gl,1,none⟩=some (.int .i64 b)∧U.cell? ⟨g3,0,none⟩=some (.map (some gm))) V):=fun V hV=>⟨(b0_0.below hV b0_0.lt).cell 0,(b0_0.below hV b0_0.lt).cell 1,(b0_0.below hV b0_0.lt).cell 2,nextc cA0 hV,nextc cB0 hV,(b3_0.below hV b3_0.lt).one⟩
 have HSB:Hid (∀ V V',Below w0.heap.size w0 V→V.grownBy V' (some gm)→(fun U:World=>U.cell? ⟨g0,0,none⟩=some (.int .i64 2)∧U.cell? ⟨g0,1,none⟩=some (.int .i64 (P:Int))∧U.cell? ⟨g0,2,none⟩=some (.slice (some ⟨gl,0,none⟩) 2 2)∧U.cell? ⟨gl,0,none⟩=some (.int .i64 a)∧U.cell? ⟨gl,1,none⟩=some (.int .i64 b)∧U.cell? ⟨g3,0,none⟩=some (.map (some gm))) V'):=fun V V' hV hg=>⟨((b0_0.below hV b0_0.lt).grown hg HNE.out.1).cell 0,((b0_0.below hV b0_0.lt).grown hg HNE.out.1).cell 1,((b0_0.below hV b0_0.lt).grown hg HNE.out.1).cell 2,(World.cell?_of_block (a:=⟨gl,0,none⟩) (hg.block gl (by have:=hV.size;have:=HLT.out;omega) HNE.out.2.2)).trans (nextc cA0 hV),(World.cell?_of_block (a:=⟨gl,1,none⟩) (hg.block gl (by have:=hV.size;have:=HLT.out;omega) HNE.out.2.2)).trans (nextc cB0 hV),((b3_0.below hV b3_0.lt).grown hg HNE.out.2.1).one⟩
 have hBx:=(Below.refl w0.heap.size w0).drew
 have hS:=HSS.out _ hBx
 refine wpIn_mono (region_HF (Q:=NoPanic _) (S:=(fun U:World=>U.cell? ⟨g0,0,none⟩=some (.int .i64 2)∧U.cell? ⟨g0,1,none⟩=some (.int .i64 (P:Int))∧U.cell? ⟨g0,2,none⟩=some (.slice (some ⟨gl,0,none⟩) 2 2)∧U.cell? ⟨gl,0,none⟩=some (.int .i64 a)∧U.cell? ⟨gl,1,none⟩=some (.int .i64 b)∧U.cell? ⟨g3,0,none⟩=some (.map (some gm)))) (by kernel_rfl) ?_) NoPanic.imp
 refine tkF (i:=0) (d:=14) (v:=.map (some gm)) (s:=hS) (c:=?_)
 simp only [ud9]
 refine tkF (i:=1) (d:=15) (v:=.int .i64 a) (s:=hS) (c:=?_)
 simp only [ud9]
 refine tkF (i:=2) (d:=16) (v:=.agg #[.int .i64 2,.int .i64 (P:Int),.slice (some ⟨gl,0,none⟩) 2 2]) (s:=hS) (c:=?_)
 simp only [ud9]
 refine oneF (i:=3) (c:=?_)
 gi_wp2_with fail
 refine ⟨trivial,(callsIn_wide.2 (HLA.out _)).mono ?_⟩
 rintro e v11 ⟨rfl,hB⟩
 replace hBx:=below_in hBx hB
 clear hS
 have hS:(fun U:World=>U.cell? ⟨g0,0,none⟩=some (.int .i64 2)∧U.cell? ⟨g0,1,none⟩=some (.int .i64 (P:Int))∧U.cell? ⟨g0,2,none⟩=some (.slice (some ⟨gl,0,none⟩) 2 2)∧U.cell? ⟨gl,0,none⟩=some (.int .i64 a)∧U.cell? ⟨gl,1,none⟩=some (.int .i64 b)∧U.cell? ⟨g3,0,none⟩=some (.map (some gm))) v11:=HSS.out _ hBx
 clear hB
 gi_wp2
 try (refine ⟨hS,?_⟩)
 refine oneF (i:=4) (c:=?_)
 have hgK1:w0.heap.size≤v11.heap.size:=hBx.size
 refine opIn_make v11 _ _ rfl Q rfl rfl HQ1.out ?_
 intro vm1 bK1 hBe
 have hltK1:=bK1.lt
 obtain ⟨gk1,hg⟩:∃ zz,v11.heap.size=zz:=⟨_,rfl⟩
 rw [hg] at bK1 hgK1 hltK1
 replace hBx:=below_in hBx hBe
 clear hS
 have hS:(fun U:World=>U.cell? ⟨g0,0,none⟩=some (.int .i64 2)∧U.cell? ⟨g0,1,none⟩=some (.int .i64 (P:Int))∧U.cell? ⟨g0,2,none⟩=some (.slice (some ⟨gl,0,none⟩) 2 2)∧U.cell? ⟨gl,0,none⟩=some (.int .i64 a)∧U.cell? ⟨gl,1,none⟩=some (.int .i64 b)∧U.cell? ⟨g3,0,none⟩=some (.map (some gm))) vm1:=HSS.out _ hBx
 gi_wp2
 (try rw [hg])
 try (refine ⟨hS,?_⟩)
 clear hg hBe
 refine oneF (i:=5) (c:=?_)
 obtain ⟨y1,hrun1,hM1,hgr1⟩:=(hM0.below hBx hM0.lt).put a (.slice (some ⟨gk1,0,none⟩) Q Q) (by simp)
 clear hS
 have hS:(fun U:World=>U.cell? ⟨g0,0,none⟩=some (.int .i64 2)∧U.cell? ⟨g0,1,none⟩=some (.int .i64 (P:Int))∧U.cell? ⟨g0,2,none⟩=some (.slice (some ⟨gl,0,none⟩) 2 2)∧U.cell? ⟨gl,0,none⟩=some (.int .i64 a)∧U.cell? ⟨gl,1,none⟩=some (.int .i64 b)∧U.cell? ⟨g3,0,none⟩=some (.map (some gm))) y1:=HSB.out _ _ hBx hgr1
 gi_wp2
 try (refine ⟨hS,?_⟩)
 refine anyHF_done (by kernel_rfl) ?_ _
 refine NoPanic.normal ?_
 clear hS
 have b0_1:=(b0_0.below hBx b0_0.lt).grown hgr1 HNE.out.1
 have b3_1:=(b3_0.below hBx b3_0.lt).grown hgr1 HNE.out.2.1
 have cA1:=(World.cell?_of_block (a:=⟨gl,0,none⟩) (hgr1.block gl (by have:=hBx.size;have:=HLT.out;omega) HNE.out.2.2)).trans (nextc cA0 hBx)
 have cB1:=(World.cell?_of_block (a:=⟨gl,1,none⟩) (hgr1.block gl (by have:=hBx.size;have:=HLT.out;omega) HNE.out.2.2)).trans (nextc cB0 hBx)
 have hBx1:=below_in HB0.out hBx
 have hgm1:=b3_1.lt
 have hy1s:=hgr1.size
 have hvm1:=hBx.size
 have hly1:gl<y1.heap.size:=Nat.lt_of_lt_of_le HLT.out (Nat.le_trans hBx.size hgr1.size)
 have hgmw:gm<w0.heap.size:=by have:=hM0.lt;exact this
 have bK1y:=bK1.grown hgr1 (fun e=>by injection e with e;omega)
 clear hBx HSS HSB
 gi_wp2_with fail
 rw [roundsIn_succ]
 gi_wp2_with fail
 have HSS:Hid (∀ V,Below y1.heap.size y1 V→(fun U:World=>U.cell? ⟨g0,0,none⟩=some (.int .i64 2)∧U.cell? ⟨g0,1,none⟩=some (.int .i64 (P:Int))∧U.cell? ⟨g0,2,none⟩=some (.slice (some ⟨gl,0,none⟩) 2 2)∧U.cell? ⟨gl,0,none⟩=some (.int .i64 a)∧U.cell? ⟨gl,1,none⟩=some (.int .i64 b)∧U.cell? ⟨g3,0,none⟩=some (.map (some gm))) V):=fun V hV=>⟨(b0_1.below hV b0_1.lt).cell 0,(b0_1.below hV b0_1.lt).cell 1,(b0_1.below hV b0_1.lt).cell 2,nextc cA1 hV,nextc cB1 hV,(b3_1.below hV b3_1.lt).one⟩
 have HSB:Hid (∀ V V',Below y1.heap.size y1 V→V.grownBy V' (some gm)→(fun U:World=>U.cell? ⟨g0,0,none⟩=some (.int .i64 2)∧U.cell? ⟨g0,1,none⟩=some (.int .i64 (P:Int))∧U.cell? ⟨g0,2,none⟩=some (.slice (some ⟨gl,0,none⟩) 2 2)∧U.cell? ⟨gl,0,none⟩=some (.int .i64 a)∧U.cell? ⟨gl,1,none⟩=some (.int .i64 b)∧U.cell? ⟨g3,0,none⟩=some (.map (some gm))) V'):=fun V V' hV hg=>⟨((b0_1.below hV b0_1.lt).grown hg HNE.out.1).cell 0,((b0_1.below hV b0_1.lt).grown hg HNE.out.1).cell 1,((b0_1.below hV b0_1.lt).grown hg HNE.out.1).cell 2,(World.cell?_of_block (a:=⟨gl,0,none⟩) (hg.block gl (by have:=hV.size;have:=HLT.out;omega) HNE.out.2.2)).trans (nextc cA1 hV),(World.cell?_of_block (a:=⟨gl,1,none⟩) (hg.block gl (by have:=hV.size;have:=HLT.out;omega) HNE.out.2.2)).trans (nextc cB1 hV),((b3_1.below hV b3_1.lt).grown hg HNE.out.2.1).one⟩
 have hBx:=(Below.refl y1.heap.size y1).drew
 have hS:(fun U:World=>U.cell? ⟨g0,0,none⟩=some (.int .i64 2)∧U.cell? ⟨g0,1,none⟩=some (.int .i64 (P:Int))∧U.cell? ⟨g0,2,none⟩=some (.slice (some ⟨gl,0,none⟩) 2 2)∧U.cell? ⟨gl,0,none⟩=some (.int .i64 a)∧U.cell? ⟨gl,1,none⟩=some (.int .i64 b)∧U.cell? ⟨g3,0,none⟩=some (.map (some gm))) y1.drew:=HSS.out _ hBx
 refine wpIn_mono (region_HF (Q:=NoPanic _) (S:=(fun U:World=>U.cell? ⟨g0,0,none⟩=some (.int .i64 2)∧U.cell? ⟨g0,1,none⟩=some (.int .i64 (P:Int))∧U.cell? ⟨g0,2,none⟩=some (.slice (some ⟨gl,0,none⟩) 2 2)∧U.cell? ⟨gl,0,none⟩=some (.int .i64 a)∧U.cell? ⟨gl,1,none⟩=some (.int .i64 b)∧U.cell? ⟨g3,0,none⟩=some (.map (some gm)))) (by kernel_rfl) ?_) NoPanic.imp
 refine tkF (i:=0) (d:=14) (v:=.map (some gm)) (s:=hS) (c:=?_)
 simp only [ud9]
 refine tkF (i:=1) (d:=15) (v:=.int .i64 b) (s:=hS) (c:=?_)
 simp only [ud9]
 refine tkF (i:=2) (d:=16) (v:=.agg #[.int .i64 2,.int .i64 (P:Int),.slice (some ⟨gl,0,none⟩) 2 2]) (s:=hS) (c:=?_)
 simp only [ud9]
 refine oneF (i:=3) (c:=?_)
 gi_wp2_with fail
 refine ⟨trivial,(callsIn_wide.2 (HLA.out _)).mono ?_⟩
 rintro e v21 ⟨rfl,hB⟩
 replace hBx:=below_in hBx hB
 clear hS
 have hS:(fun U:World=>U.cell? ⟨g0,0,none⟩=some (.int .i64 2)∧U.cell? ⟨g0,1,none⟩=some (.int .i64 (P:Int))∧U.cell? ⟨g0,2,none⟩=some (.slice (some ⟨gl,0,none⟩) 2 2)∧U.cell? ⟨gl,0,none⟩=some (.int .i64 a)∧U.cell? ⟨gl,1,none⟩=some (.int .i64 b)∧U.cell? ⟨g3,0,none⟩=some (.map (some gm))) v21:=HSS.out _ hBx
 clear hB
 gi_wp2
 try (refine ⟨hS,?_⟩)
 refine oneF (i:=4) (c:=?_)
 have hgK2:y1.heap.size≤v21.heap.size:=hBx.size
 refine opIn_make v21 _ _ rfl Q rfl rfl HQ1.out ?_
 intro vm2 bK2 hBe
 have hltK2:=bK2.lt
 obtain ⟨gk2,hg⟩:∃ zz,v21.heap.size=zz:=⟨_,rfl⟩
 rw [hg] at bK2 hgK2 hltK2
 replace hBx:=below_in hBx hBe
 clear hS
 have hS:(fun U:World=>U.cell? ⟨g0,0,none⟩=some (.int .i64 2)∧U.cell? ⟨g0,1,none⟩=some (.int .i64 (P:Int))∧U.cell? ⟨g0,2,none⟩=some (.slice (some ⟨gl,0,none⟩) 2 2)∧U.cell? ⟨gl,0,none⟩=some (.int .i64 a)∧U.cell? ⟨gl,1,none⟩=some (.int .i64 b)∧U.cell? ⟨g3,0,none⟩=some (.map (some gm))) vm2:=HSS.out _ hBx
 gi_wp2
 (try rw [hg])
 try (refine ⟨hS,?_⟩)
 clear hg hBe
 refine oneF (i:=5) (c:=?_)
 obtain ⟨y2,hrun2,hM2,hgr2⟩:=(hM1.below hBx hM1.lt).put b (.slice (some ⟨gk2,0,none⟩) Q Q) (by intro z hz;obtain rfl:=List.mem_singleton.1 hz;exact HAB.out)
 clear hS
 have hS:(fun U:World=>U.cell? ⟨g0,0,none⟩=some (.int .i64 2)∧U.cell? ⟨g0,1,none⟩=some (.int .i64 (P:Int))∧U.cell? ⟨g0,2,none⟩=some (.slice (some ⟨gl,0,none⟩) 2 2)∧U.cell? ⟨gl,0,none⟩=some (.int .i64 a)∧U.cell? ⟨gl,1,none⟩=some (.int .i64 b)∧U.cell? ⟨g3,0,none⟩=some (.map (some gm))) y2:=HSB.out _ _ hBx hgr2
 gi_wp2
 try (refine ⟨hS,?_⟩)
 refine anyHF_done (by kernel_rfl) ?_ _
 refine NoPanic.normal ?_
 clear hS
 have b0_2:=(b0_1.below hBx b0_1.lt).grown hgr2 HNE.out.1
 have b3_2:=(b3_1.below hBx b3_1.lt).grown hgr2 HNE.out.2.1
 have cA2:=(World.cell?_of_block (a:=⟨gl,0,none⟩) (hgr2.block gl (by have:=hBx.size;have:=HLT.out;omega) HNE.out.2.2)).trans (nextc cA1 hBx)
 have cB2:=(World.cell?_of_block (a:=⟨gl,1,none⟩) (hgr2.block gl (by have:=hBx.size;have:=HLT.out;omega) HNE.out.2.2)).trans (nextc cB1 hBx)
 have hBy1:=below_grown hBx1 hgr1 hBx1.size (fun r e=>by injection e with e;have:=HG.out;omega)
 have hBx2:=below_in hBy1 hBx
 have bK1z:=(bK1y.below hBx bK1y.lt).grown hgr2 (fun e=>by injection e with e;omega)
 have bK2z:=bK2.grown hgr2 (fun e=>by injection e with e;omega)
 have hg3w:g3<w0.heap.size:=b3_0.lt
 have hk1y:=bK1y.lt
 have hBy2:=below_grown hBx2 hgr2 hBx2.size (fun r e=>by injection e with e;have:=HG.out;omega)
 clear HSS HSB
 gi_wp2_with fail
 rw [roundsIn_succ]
 gi_wp2_with fail
 exact ⟨.func (.func 178) #[] #[.pointer (some ⟨g3,0,none⟩)],by simp [results,Tryz.results121,go_sem],g3,gm,gk1,gk2,rfl,b3_2,hM2,bK1z,bK2z,⟨by have:=HG.out;omega,by have:=HG.out;omega,by omega,by omega,by omega⟩,hBy2⟩
end Go.Proofs.YtcchjofjpflbhaaGreatDoor.T

namespace Go.Proofs.YtcchjofjpflbhaaGreatDoor.Rg
open Go.RowKit Go.Shelf Go.Maps Go.Proofs.YtcchjofjpflbhaaGreatDoor.C Go.Proofs.YtcchjofjpflbhaaGreatDoor.E
attribute [local go_sem] Oper.semAt_some

section
open Go.Proofs.YtcchjofjpflbhaaGreatDoor.E
end
def Trn (P:Nat) (o:Nat) (f:Nat→List UInt8) (B gT:Nat) (k:Nat) (X:World):Prop :=
 ∃ cur:List Value,Blk X gT 64 cur.toArray∧cur.length=P∧∀ j,j<k→∃ u,cur[(j+o) % P]?=some u∧Bytes B X u (f j)
theorem Trn.next {P o:Nat} {f:Nat→List UInt8} {B gT k t:Nat} {X:World} {u:Value} (h:Trn P o f B gT k X) (hk:k<P) (ht:(k+o) % P=t) (hB:B≤gT) (hu:Bytes B X u (f k)):Trn P o f B gT (k+1) (X.setCell ⟨gT,t,none⟩ u):=by
 obtain ⟨cur,hb,hl,hc⟩:=h
 have htl:t<cur.length:=by rw [hl,←ht];exact Nat.mod_lt _ (by omega)
 have hX:Below gT X (X.setCell ⟨gT,t,none⟩ u):=(Below.refl gT X).setCell (Nat.le_refl _) _
 have hk2:∀ {v:Value} {l:List UInt8},Bytes B X v l→Bytes B (X.setCell ⟨gT,t,none⟩ u) v l:=fun hv=>hv.below (hX.mono hB)
 refine ⟨cur.set t u,by have:=hb.set_ t u;rwa [List.setIfInBounds_toArray] at this,by rw [List.length_set];exact hl,fun j hj=>?_⟩
 by_cases e:j=k
 · subst e
   rw [ht]
   exact ⟨u,by rw [List.getElem?_set_self htl],hk2 hu⟩
 · obtain ⟨x,h1,h2⟩:=hc j (by omega)
   refine ⟨x,?_,hk2 h2⟩
   rw [List.getElem?_set_ne,h1]
   intro e2
   have e3:(k+o) % P=(j+o) % P:=by rw [ht,e2]
   have e4:=Nat.sub_mod_eq_zero_of_mod_eq e3
   rw [show k+o - (j+o)=k - j by omega,Nat.mod_eq_of_lt (by omega)] at e4
   omega
end Go.Proofs.YtcchjofjpflbhaaGreatDoor.Rg

namespace Go.Proofs.YtcchjofjpflbhaaGreatDoor.Ch
open Go.RowKit Go.Shelf Go.Proofs.YtcchjofjpflbhaaGreatDoor.C Go.Proofs.YtcchjofjpflbhaaGreatDoor.E Go.Proofs.YtcchjofjpflbhaaGreatDoor.Rg

section
variable {P Q n:Nat} {css:List (List (List UInt8))} {fr:List (List UInt8)} {L:List Int} {f:Int}
end
section
variable {P Q n:Nat} {css:List (List (List UInt8))} {L:List Int}
theorem bt_lost (d:Dims P Q n) {c:Nat} (hc:c<css.length) (j:Nat) (r:Int):Bt P Q n ((lostC L Q n css)[c]?.getD []) j r=if (c:Int)∈L then 0 else Bt P Q n (css[c]?.getD []) j r:=by
 rw [lostC_at L Q n css hc]
 split
 · exact bt_noC d.hQ j r
 · rfl
theorem tu_noC (d:Dims P Q n) {c:Nat} (hc:c<css.length) (a:Int) (j:Nat) (r:Int):tu a (Bt P Q n ((lostC L Q n css)[c]?.getD []) j) r=if (c:Int)∈L then 0 else tu a (Bt P Q n (css[c]?.getD []) j) r:=by
 unfold tu
 rw [bt_lost d hc,bt_lost d hc]
 split
 · rfl
 · rfl
theorem lostC_goods (d:Dims P Q n) (hgood:∀ i:Nat,i<css.length→(i:Int)∉L→GoodC Q n (css[i]?.getD [])):∀ c,c<css.length→GoodC Q n ((lostC L Q n css)[c]?.getD []):=fun c hc=>by
 rw [lostC_at L Q n css hc]
 split
 · exact noC_good d.h1 d.h64
 · rename_i h
   exact hgood c hc h
theorem take_at {α:Type} (l:List α) (d:α) {m i:Nat} (h:i<m):(l.take m)[i]?.getD d=l[i]?.getD d:=by
 rw [List.getElem?_take,if_pos h]
theorem bt_rs (d:Dims P Q n) {cs2:List (List (List UInt8))} {N:Nat} (hN:N=P+2) (hcl:cs2.length=N) (hg:∀ c,c<N→GoodC Q n (cs2[c]?.getD [])) (j:Nat) (r:Int) :
 Bt P Q n (rsF P Q cs2) j r=Bt P Q n (cs2[P]?.getD []) j r ^^^ xa ((List.range P).map fun c:Nat=>Bt P Q n (cs2[c]?.getD []) j r):=by
 obtain ⟨hok,hn⟩:=take_ok d hN hcl hg
 unfold rsF
 rw [bt_sum2 d (hg P (by omega)) (rowsMade_good d hok hn),bt_rows d hok hn]
 congr 2
 refine List.map_congr_left fun c hc=>?_
 rw [take_at _ _ (List.mem_range.1 hc)]
theorem bt_ds (d:Dims P Q n) {cs2:List (List (List UInt8))} {N:Nat} (hN:N=P+2) (hcl:cs2.length=N) (hg:∀ c,c<N→GoodC Q n (cs2[c]?.getD [])) (j:Nat) (r:Int) :
 Bt P Q n (dsF P Q cs2) j r=Bt P Q n (cs2[P+1]?.getD []) j r ^^^ xa ((List.range P).map fun c:Nat=>tu (c:Int) (Bt P Q n (cs2[c]?.getD []) j) r):=by
 obtain ⟨hok,hn⟩:=take_ok d hN hcl hg
 unfold dsF
 rw [bt_sum2 d (hg (P+1) (by omega)) (diagsMade_good d hok hn),bt_diags d hok hn]
 congr 2
 refine List.map_congr_left fun c hc=>?_
 rw [take_at _ _ (List.mem_range.1 hc)]
end
section
variable {P Q n:Nat} {R D:List (List UInt8)} {a b:Int}
end
/- What is put upon one another solves what is put upon one another. -/
section
variable {P Q n:Nat} {R D A B R' D' A' B':List (List UInt8)} {a b:Int}
end
/- Sums of which some lack. -/
theorem xa_one (P a:Nat) (ha:a<P) (f:Nat→UInt8):xa ((List.range P).map fun c=>if c=a then f c else 0)=f a:=by
 induction P with
 | zero=>omega
 | succ P ih =>
   rw [List.range_succ,List.map_append,xa_append,List.map_cons,List.map_nil,xa_cons,xa_nil,UInt8.xor_zero]
   by_cases h:P=a
   · subst h
     rw [if_pos rfl,show (List.range P).map (fun c=>if c=P then f c else 0)=(List.range P).map (fun _=>(0:UInt8)) from List.map_congr_left fun c hc=>by rw [if_neg (by have:=List.mem_range.1 hc;omega)],List.map_const',xa_zero,UInt8.zero_xor]
   · rw [ih (by omega),if_neg h,UInt8.xor_zero]
theorem xa_lack2 (P a b:Nat) (ha:a<P) (hb:b<P) (hab:a≠b) (f:Nat→UInt8):xa ((List.range P).map f) ^^^ xa ((List.range P).map fun c:Nat=>if (c:Int)∈[(a:Int),(b:Int)] then 0 else f c)=f a ^^^ f b:=by
 rw [←xa_add,←xa_one P a ha f,←xa_one P b hb f,←xa_add]
 congr 1
 refine List.map_congr_left fun c _=>?_
 by_cases h1:c=a
 · subst h1
   rw [if_pos (by simp),if_pos rfl,if_neg hab]
 · by_cases h2:c=b
   · subst h2
     rw [if_pos (by simp),if_pos rfl,if_neg (fun h=>hab h.symm),UInt8.xor_comm]
   · rw [if_neg (by simp;omega),if_neg h1,if_neg h2,UInt8.xor_self];rfl
theorem xa_lack1 (P a:Nat) (ha:a<P) {L:List Int} (hL:∀ c:Nat,c<P→((c:Int)∈L↔c=a)) (f:Nat→UInt8):xa ((List.range P).map f) ^^^ xa ((List.range P).map fun c:Nat=>if (c:Int)∈L then 0 else f c)=f a:=by
 rw [←xa_add,←xa_one P a ha f]
 congr 1
 refine List.map_congr_left fun c hc=>?_
 have hc':=List.mem_range.1 hc
 by_cases h1:c=a
 · rw [if_pos ((hL c hc').2 h1),if_pos h1,UInt8.xor_zero]
 · rw [if_neg (fun h=>h1 ((hL c hc').1 h)),if_neg h1,UInt8.xor_self]
/- Of what EVENODD made two columns,or one,are lost. -/
section
variable {P Q n:Nat} {css cs2:List (List (List UInt8))}
structure Bad (P Q n:Nat) (css cs2:List (List (List UInt8))) (L:List Int):Prop where
 hok:DataOk (P:Int) css
 hn:(firstC css).length=n
 hl:cs2.length=P+2
 hd:∀ c:Nat,c<P→(c:Int)∉L→cs2[c]?.getD []=css[c]?.getD []
 hr:(P:Int)∉L→cs2[P]?.getD []=rowsMade Q css
 hs:((P+1:Nat):Int)∉L→cs2[P+1]?.getD []=diagsMade (P:Int) Q css
variable {L:List Int}
theorem Bad.good (d:Dims P Q n) (h:Bad P Q n css cs2 L):∀ i:Nat,i<cs2.length→(i:Int)∉L→GoodC Q n (cs2[i]?.getD []):=fun i hi hm=>by
 have hl:=h.hl
 rcases Nat.lt_or_ge i P with h1 | h1
 · rw [h.hd i h1 hm];exact good_of d h.hok h.hn i h1
 · by_cases h2:i=P
   · subst h2;rw [h.hr hm];exact rowsMade_good d h.hok h.hn
   · obtain rfl:i=P+1:=by omega
     rw [h.hs hm];exact diagsMade_good d h.hok h.hn
theorem Bad.rows (d:Dims P Q n) (h:Bad P Q n css cs2 L) (hP:(P:Int)∉L) (j:Nat) (r:Int):Bt P Q n (rsF P Q (lostC L Q n cs2)) j r=xa ((List.range P).map fun c:Nat=>Bt P Q n (css[c]?.getD []) j r) ^^^ xa ((List.range P).map fun c:Nat=>if (c:Int)∈L then 0 else Bt P Q n (css[c]?.getD []) j r):=by
 have hl:=h.hl
 have hgl:=lostC_goods d (h.good d)
 rw [bt_rs d rfl (by rw [lostC_len,h.hl]) (fun c hc=>hgl c (by omega)),bt_lost d (by omega),if_neg hP,h.hr hP,bt_rows d h.hok h.hn]
 congr 2
 refine List.map_congr_left fun c hc=>?_
 have hc':=List.mem_range.1 hc
 rw [bt_lost d (by omega)]
 split
 · rfl
 · rename_i hm
   rw [h.hd c hc' hm]
theorem Bad.diags (d:Dims P Q n) (h:Bad P Q n css cs2 L) (hP:((P+1:Nat):Int)∉L) (j:Nat) (r:Int):Bt P Q n (dsF P Q (lostC L Q n cs2)) j r=xa ((List.range P).map fun c:Nat=>tu (c:Int) (Bt P Q n (css[c]?.getD []) j) r) ^^^ xa ((List.range P).map fun c:Nat=>if (c:Int)∈L then 0 else tu (c:Int) (Bt P Q n (css[c]?.getD []) j) r):=by
 have hl:=h.hl
 have hgl:=lostC_goods d (h.good d)
 rw [bt_ds d rfl (by rw [lostC_len,h.hl]) (fun c hc=>hgl c (by omega)),bt_lost d (by omega),if_neg hP,h.hs hP,bt_diags d h.hok h.hn]
 congr 2
 refine List.map_congr_left fun c hc=>?_
 have hc':=List.mem_range.1 hc
 rw [tu_noC d (by omega)]
 split
 · rfl
 · rename_i hm
   rw [h.hd c hc' hm]
theorem Bad.solves {a b:Nat} (d:Dims P Q n) (h:Bad P Q n css cs2 [(a:Int),(b:Int)]) (hab:a<b) (hb:b<P):Solves P Q n (rsF P Q (lostC [(a:Int),(b:Int)] Q n cs2)) (dsF P Q (lostC [(a:Int),(b:Int)] Q n cs2)) (css[a]?.getD []) (css[b]?.getD []) (a:Int) (b:Int) :=
 ⟨good_of d h.hok h.hn a (by omega),good_of d h.hok h.hn b hb,fun j r=>by
  rw [h.rows d (by simp;omega)]
  exact xa_lack2 P a b (by omega) hb (by omega) (fun c:Nat=>Bt P Q n (css[c]?.getD []) j r),fun j r=>by
  rw [h.diags d (by simp;omega)]
  exact xa_lack2 P a b (by omega) hb (by omega) (fun c:Nat=>tu (c:Int) (Bt P Q n (css[c]?.getD []) j) r)⟩
theorem Bad.alone {a:Nat} (d:Dims P Q n) (h:Bad P Q n css cs2 [(a:Int),(P:Int)]) (ha:a<P):turnC P Q n (dsF P Q (lostC [(a:Int),(P:Int)] Q n cs2)) (-(a:Int))=css[a]?.getD []:=by
 have hl:=h.hl
 have hgl:=lostC_goods d (h.good d)
 have gD:=(rd_good d rfl (by rw [lostC_len,h.hl]) (fun c hc=>hgl c (by omega))).2
 have gA:=good_of d h.hok h.hn a ha
 refine col_ext d.hQ (turn_good d.h1 d.h64 gD _) gA fun j r=>?_
 rw [bt_turn d.hQ gD]
 have e:Bt P Q n (dsF P Q (lostC [(a:Int),(P:Int)] Q n cs2)) j=tu (a:Int) (Bt P Q n (css[a]?.getD []) j):=funext fun s=>by
  rw [h.diags d (by simp;omega)]
  exact xa_lack1 P a ha (fun c hc=>by simp;omega) (fun c:Nat=>tu (c:Int) (Bt P Q n (css[c]?.getD []) j) s)
 rw [e,tu_tu (P:=P),show (a:Int)+-(a:Int)=0 by omega,tu_zero (Bt.per d.hQ _ j).2]
end
end Go.Proofs.YtcchjofjpflbhaaGreatDoor.Ch

namespace Go.Proofs.YtcchjofjpflbhaaGreatDoor.Ch
open Go.RowKit Go.Shelf Go.Proofs.YtcchjofjpflbhaaGreatDoor.C Go.Proofs.YtcchjofjpflbhaaGreatDoor.E Go.Proofs.YtcchjofjpflbhaaGreatDoor.Rg Go.Proofs.YtcchjofjpflbhaaGreatDoor.T

section
variable {P Q n:Nat} {css:List (List (List UInt8))} {L:List Int}
def rsP (P Q:Nat) (css:List (List (List UInt8))):List (List UInt8):=rowsMade Q (css.take P)
def dcP (P Q:Nat) (css:List (List (List UInt8))) (r:Nat):List UInt8:=xorOf [(diagsMade (P:Int) Q (css.take P))[r]?.getD [],adjOf (P:Int) (css.take P),(css[P]?.getD [])[r]?.getD []]
def dsP (P Q:Nat) (css:List (List (List UInt8))):List (List UInt8):=(List.range Q).map (dcP P Q css)
theorem takeP_ok (d:Dims P Q n) (hcl:css.length=P+1) (hg:∀ c,c<P+1→GoodC Q n (css[c]?.getD [])):DataOk (P:Int) (css.take P)∧(firstC (css.take P)).length=n:=by
 have hQ:=d.hQ
 have hpb:=prm_bounds d.hp
 have hdl:(css.take P).length=P:=by rw [List.length_take];omega
 have hget:∀ c,c<P→(css.take P)[c]?.getD []=css[c]?.getD []:=fun c hc=>by rw [List.getElem?_take,if_pos hc]
 have hgd:∀ c,c<(css.take P).length→GoodC Q n ((css.take P)[c]?.getD []):=fun c hc=>by rw [hget c (by omega)];exact hg c (by omega)
 obtain ⟨hRD,hfn⟩:=Rg.right_of_good d.hQ d.hp (by omega) hgd
 exact ⟨⟨rightC1 d.hp,by rw [hdl],hRD.2⟩,hfn⟩
theorem rsP_good (d:Dims P Q n) (hcl:css.length=P+1) (hg:∀ c,c<P+1→GoodC Q n (css[c]?.getD [])):GoodC Q n (rsP P Q css) :=
 have h:=takeP_ok d hcl hg
 rowsMade_good d h.1 h.2
theorem dcP_ok (d:Dims P Q n) (hcl:css.length=P+1) (hg:∀ c,c<P+1→GoodC Q n (css[c]?.getD [])) {r:Nat} (hr:r<Q):∀ l∈[(diagsMade (P:Int) Q (css.take P))[r]?.getD [],adjOf (P:Int) (css.take P),(css[P]?.getD [])[r]?.getD []],l.length=n:=by
 obtain ⟨hok,hn⟩:=takeP_ok d hcl hg
 intro l hl
 simp only [List.mem_cons,List.not_mem_nil,or_false] at hl
 rcases hl with rfl | rfl | rfl
 · exact ((diagsMade_good d hok hn).2 r hr).2
 · rw [adjOf_len hok,hn]
 · exact ((hg P (by omega)).2 r hr).2
theorem dsP_good (d:Dims P Q n) (hcl:css.length=P+1) (hg:∀ c,c<P+1→GoodC Q n (css[c]?.getD [])):GoodC Q n (dsP P Q css) :=
 made_good d.h1 d.h64 _ fun i hi=>xorOf_len_of (by simp) (dcP_ok d hcl hg hi)
end
structure SolvesP (P Q n:Nat) (R D A B:List (List UInt8)) (a b:Int):Prop where
 gA:GoodC Q n A
 gB:GoodC Q n B
 hR:∀ j r,Bt P Q n R j r=Bt P Q n A j r ^^^ Bt P Q n B j r
 hD:∀ j r,r % (P:Int)≠(Q:Int)→Bt P Q n D j r=Bt P Q n A j (r - a) ^^^ Bt P Q n B j (r - b)
theorem SolvesP.swap {P Q n:Nat} {R D A B:List (List UInt8)} {a b:Int} (h:SolvesP P Q n R D A B a b):SolvesP P Q n R D B A b a :=
 ⟨h.gB,h.gA,fun j r=>by rw [h.hR,UInt8.xor_comm],fun j r hr=>by rw [h.hD j r hr,UInt8.xor_comm]⟩
section
variable {P Q n:Nat} {c:List (List UInt8)}
end
section
variable {P Q n:Nat} {css:List (List (List UInt8))} {A B:List (List UInt8)} {a b:Int} {L:List Int}
end
/- Along an arm. -/
section
variable {P Q n:Nat} {R D A B:List (List UInt8)} {x y:Int}
theorem arm_steps (hQ:P=Q+1) (hp:(P:Int)∈prm) (x y:Int):∃ K,K≤Q∧armP (P:Int) x y=ak P x y K∧∀ k,k<K→(x+zk P (x - y) k) % (P:Int)≠(P:Int) - 1:=by
 by_cases h:∃ k,k≤Q∧(x+zk P (x - y) k) % (P:Int)=(P:Int) - 1
 · obtain ⟨k,hk,hz⟩:=h
   have key:∀ m,m≤Q→(x+zk P (x - y) m) % (P:Int)=(P:Int) - 1→∃ k,k≤m∧(x+zk P (x - y) k) % (P:Int)=(P:Int) - 1∧∀ j,j<k→(x+zk P (x - y) j) % (P:Int)≠(P:Int) - 1:=by
    intro m
    induction m using Nat.strongRecOn with
    | ind m ih =>
      intro hm hz
      by_cases h2:∃ j,j<m∧(x+zk P (x - y) j) % (P:Int)=(P:Int) - 1
      · obtain ⟨j,hj,hj2⟩:=h2
        obtain ⟨k,h3,h4,h5⟩:=ih j hj (by omega) hj2
        exact ⟨k,by omega,h4,h5⟩
      · exact ⟨m,Nat.le_refl _,hz,fun j hj e=>h2 ⟨j,hj,e⟩⟩
   obtain ⟨k2,h1,h2,h3⟩:=key k hk hz
   exact ⟨k2,by omega,(ak_stop hQ hp (by omega) h3 h2).symm,h3⟩
 · refine ⟨Q,Nat.le_refl _,(ak_all hQ hp fun j hj e=>h ⟨j,by omega,e⟩).symm,fun k hk e=>h ⟨k,by omega,e⟩⟩
theorem ak_at (hQ:P=Q+1) (hp:(P:Int)∈prm) (hab:(x - y) % (P:Int)≠0):∀ K,K≤Q→(ak P x y K).length=2 * K∧∀ m,m<2 * K→(ak P x y K)[m]?=some (if m % 2=0 then y else x,zk P (x - y) (m / 2+1))
 | 0,_=>by rw [ak_zero hQ];exact ⟨rfl,fun m hm=>by omega⟩
 | K+1,hK=>by
   obtain ⟨h1,h2⟩:=ak_at hQ hp hab K (by omega)
   rw [ak_next hQ hp hab (by omega)]
   refine ⟨by rw [List.length_append,h1];simp;omega,fun m hm=>?_⟩
   by_cases hlt:m<2 * K
   · rw [List.getElem?_append_left (by omega)]
     exact h2 m hlt
   · rw [List.getElem?_append_right (by omega),h1]
     by_cases h0:m=2 * K
     · subst h0
       rw [Nat.sub_self,if_pos (by omega),show 2 * K / 2+1=K+1 by omega]
       rfl
     · obtain rfl:m=2 * K+1:=by omega
       rw [show 2 * K+1 - 2 * K=1 by omega,if_neg (by omega),show (2 * K+1) / 2+1=K+1 by omega]
       rfl
def shareF (P Q n:Nat) (R D:List (List UInt8)) (m:Nat) (e:Int×Int):List UInt8:=if m % 2=0 then D[((e.1+e.2) % (P:Int)).toNat]?.getD [] else R[e.2.toNat]?.getD []
def cellF (x:Int) (A B:List (List UInt8)) (e:Int×Int):List UInt8:=if e.1=x then A[e.2.toNat]?.getD [] else B[e.2.toNat]?.getD []
def aheadP (n:Nat) (x:Int) (A B:List (List UInt8)) (L:List (Int×Int)) (m:Nat):List UInt8:=match m with | 0=>List.replicate n 0 | m+1=>cellF x A B (L[m]?.getD (0,0))
theorem arm_told (d:Dims P Q n) (gR:GoodC Q n R) (gD:GoodC Q n D) (h:SolvesP P Q n R D A B x y) (hx:0≤x∧x<(P:Int)) (hy:0≤y∧y<(P:Int)) (hxy:x≠y) {m:Nat} (hm:m<(armP (P:Int) x y).length) {e:Int×Int} (he:(armP (P:Int) x y)[m]?=some e) :
 ((e.1=x∨e.1=y)∧0≤e.2∧e.2<(P:Int) - 1∧(m % 2=0→(e.1+e.2) % (P:Int)<(P:Int) - 1))∧(shareF P Q n R D m e).length=n∧(aheadP n x A B (armP (P:Int) x y) m).length=n∧xorOf [aheadP n x A B (armP (P:Int) x y) m,shareF P Q n R D m e]=cellF x A B e:=by
 have hQ:=d.hQ
 have hpb:=prm_bounds d.hp
 have hab:(x - y) % (P:Int)≠0:=fun h0=>by
  have h1:x % (P:Int)=y % (P:Int):=Int.emod_eq_emod_iff_emod_sub_eq_zero.2 h0
  rw [Int.emod_eq_of_lt hx.1 hx.2,Int.emod_eq_of_lt hy.1 hy.2] at h1
  exact hxy h1
 obtain ⟨K,hK,hL,hne⟩:=arm_steps hQ d.hp x y
 obtain ⟨hl,hat⟩:=ak_at hQ d.hp hab K hK
 rw [hL] at hm he ⊢
 rw [hl] at hm
 rw [hat m hm] at he
 injection he with he
 obtain ⟨k,hk⟩:∃ k,m / 2=k:=⟨_,rfl⟩
 rw [hk] at he
 have hkK:k<K:=by omega
 have hz:=xk_in hQ d.hp hab (show k<Q by omega)
 rw [←zk_succ] at hz
 have hzn:=zk_next P x y k
 obtain ⟨z,hzz⟩:∃ z,zk P (x - y) (k+1)=z:=⟨_,rfl⟩
 rw [hzz] at hz hzn he
 have hdg:(y+z) % (P:Int)=(x+zk P (x - y) k) % (P:Int):=by
  rw [←hzn,Int.add_emod y,Int.emod_emod,←Int.add_emod,show y+((x+zk P (x - y) k) % (P:Int) - y)=(x+zk P (x - y) k) % (P:Int) by omega,Int.emod_emod]
 have hdne:=hne k hkK
 have hzm:z % (P:Int)=z:=Int.emod_eq_of_lt hz.1 (by omega)
 have hdl:=Int.emod_lt_of_pos (x+zk P (x - y) k) (show (0:Int)<(P:Int) by omega)
 have hd0:=Int.emod_nonneg (x+zk P (x - y) k) (show (P:Int)≠0 by omega)
 have hcell:∀ c:List (List UInt8),GoodC Q n c→(c[z.toNat]?.getD []).length=n∧∀ j,at_ (c[z.toNat]?.getD []) j=Bt P Q n c j z:=fun c gc=>⟨(gc.2 z.toNat (by omega)).2,fun j=>(bt_at hQ c j (i:=z.toNat) (by omega) (by rw [hzm];omega)).symm⟩
 have hprev:m % 2=0→(aheadP n x A B (ak P x y K) m).length=n∧∀ j,at_ (aheadP n x A B (ak P x y K) m) j=Bt P Q n A j (zk P (x - y) k):=fun h0=>by
  rcases Nat.eq_zero_or_pos m with rfl | hpos
  · obtain rfl:k=0:=by omega
    refine ⟨by unfold aheadP;simp,fun j=>?_⟩
    show at_ (List.replicate n 0) j = _
    rw [at_nought,zk_zero hQ]
    exact ((Bt.per hQ A j).2.symm.trans ((Bt.per hQ A j).1 _ _ (by rw [last_mod hQ,show (P:Int) - 1=(Q:Int) by omega,Int.emod_eq_of_lt (by omega) (by omega)])))
  · obtain ⟨t,rfl⟩:∃ t,m=t+1:=⟨m - 1,by omega⟩
    obtain ⟨k2,rfl⟩:∃ k2,k=k2+1:=⟨k - 1,by omega⟩
    have hz2:=xk_in hQ d.hp hab (show k2<Q by omega)
    rw [←zk_succ] at hz2
    have e3:aheadP n x A B (ak P x y K) (t+1)=A[(zk P (x - y) (k2+1)).toNat]?.getD []:=by
     show cellF x A B ((ak P x y K)[t]?.getD (0,0)) = _
     rw [hat t (by omega),if_neg (by omega),show t / 2+1=k2+1 by omega]
     show cellF x A B (x,_) = _
     unfold cellF
     rw [if_pos rfl]
    rw [e3]
    exact ⟨(h.gA.2 _ (by omega)).2,fun j=>(bt_at hQ A j (by omega) (by rw [Int.emod_eq_of_lt hz2.1 (by omega)];omega)).symm⟩
 by_cases h0:m % 2=0
 · rw [if_pos h0] at he
   subst he
   have hpv:=hprev h0
   have hsl:(shareF P Q n R D m (y,z)).length=n∧∀ j,at_ (shareF P Q n R D m (y,z)) j=Bt P Q n D j (y+z):=by
    unfold shareF
    rw [if_pos h0]
    exact ⟨(gD.2 _ (by show ((y+z) % (P:Int)).toNat<Q;omega)).2,fun j=>(bt_at hQ D j (i:=((y+z) % (P:Int)).toNat) (by omega) (by omega)).symm⟩
   refine ⟨⟨.inr rfl,hz.1,hz.2,fun _=>by show (y+z) % (P:Int) < _;omega⟩,hsl.1,hpv.1,?_⟩
   have hc:=hcell B h.gB
   have e4:cellF x A B (y,z)=B[z.toNat]?.getD []:=by unfold cellF;rw [if_neg (fun e=>hxy e.symm)]
   rw [e4]
   refine list_at (n:=n) (len_two hpv.1 hsl.1) hc.1 fun j=>?_
   rw [at_two hpv.1 hsl.1,hpv.2,hsl.2,hc.2,h.hD j (y+z) (by omega),show y+z - y=z by omega]
   have e5:Bt P Q n A j (y+z - x)=Bt P Q n A j (zk P (x - y) k):=(Bt.per hQ A j).1 _ _ (by
    rw [mod_sub (s:=x+zk P (x - y) k) (by rw [hdg])]
    rw [show x+zk P (x - y) k - x=zk P (x - y) k by omega])
   rw [e5,xx]
 · rw [if_neg h0] at he
   subst he
   have hsl:shareF P Q n R D m (x,z)=R[z.toNat]?.getD []:=by unfold shareF;rw [if_neg h0]
   obtain ⟨t,rfl⟩:∃ t,m=t+1:=⟨m - 1,by omega⟩
   have hpv:aheadP n x A B (ak P x y K) (t+1)=B[z.toNat]?.getD []:=by
    show cellF x A B ((ak P x y K)[t]?.getD (0,0)) = _
    rw [hat t (by omega),if_pos (by omega),show t / 2+1=k+1 by omega,hzz]
    show cellF x A B (y,z) = _
    unfold cellF
    rw [if_neg (fun e=>hxy e.symm)]
   have hcA:=hcell A h.gA
   have hcB:=hcell B h.gB
   have hcR:=hcell R gR
   refine ⟨⟨.inl rfl,hz.1,hz.2,fun hh=>absurd hh h0⟩,by rw [hsl];exact hcR.1,by rw [hpv];exact hcB.1,?_⟩
   have e4:cellF x A B (x,z)=A[z.toNat]?.getD []:=by unfold cellF;rw [if_pos rfl]
   rw [e4,hsl,hpv]
   refine list_at (n:=n) (len_two hcB.1 hcR.1) hcA.1 fun j=>?_
   rw [at_two hcB.1 hcR.1,hcB.2,hcR.2,hcA.2,h.hR,UInt8.xor_comm (Bt P Q n A j z),xx]
end
end Go.Proofs.YtcchjofjpflbhaaGreatDoor.Ch
