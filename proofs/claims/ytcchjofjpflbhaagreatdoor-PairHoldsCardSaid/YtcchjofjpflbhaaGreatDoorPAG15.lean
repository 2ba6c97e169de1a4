/- -/
import Derived.Maps.OwnSet
import Derived.Maps.OwnIn
import Derived.Laws.EntriesVeiled
import Derived.Deep.AppendLies
import Derived.RangeFuncNested
import Derived.Shelf.RegionOpen
import Derived.Laws.OwnMore
import Derived.Test.YtcchjofjpflbhaaGreatDoorPAG14
set_option linter.unusedVariables false
set_option linter.unusedSimpArgs false
set_option maxRecDepth 100000
set_option maxHeartbeats 8000000
namespace Go.Proofs.YtcchjofjpflbhaaGreatDoor.T
open Go.RowKit Go.Shelf Go.Maps Go.Proofs.YtcchjofjpflbhaaGreatDoor.C Go.Proofs.YtcchjofjpflbhaaGreatDoor.E Go.Proofs.YtcchjofjpflbhaaGreatDoor.Ch
attribute [local go_sem] Oper.semAt_some

def PGath (F:Int→List UInt8) (g0 g1 base:Nat) (TVV:Value) (W0:World) (top:Nat) (pre:List Int) (o:Nat→Prop) (X:World):Prop :=
 ∃ (q:Nat→Prop) (v:Value),Blk X g1 49 #[v]∧RowM q X base v (pre.map F)∧(o=fun b=>v.ownBlock=some b∨q b)∧(∀ b,q b→(v.ownBlock≠some b∧top≤b)∧∃ cs t fr,X.heap[b]?=some (.cells cs t fr)) ∧
  Blk X g0 159 #[TVV]∧Below W0.heap.size W0 X∧top≤X.heap.size
theorem pGathered_any {n:Nat} (i:Int) (zs:List Int) (F:Int→List UInt8) (hF:∀ z∈zs,(F z).length=n) (h1:1≤n) (g9 g10 g7:Nat) (ent1:∀ args W,(callFunc 119 args).run Tryz.prog W = .ok (.enter 119 args) W) (lo N:Nat) (hN:N≤1000) (v:Value) (W:World) (hlo:lo≤W.heap.size) (hv:PlacesO lo i zs N v W)
 (hT:∀ V,Below W.heap.size W V→∀ z∈zs,Calls Tryz.prog 119 #[.agg #[.int .i64 i,.int .i64 z],.pointer (some ⟨g9,0,none⟩),.pointer (some ⟨g10,0,none⟩),.pointer (some ⟨g7,0,none⟩)] V fun e w'=>∃ u,e = .returned u∧Fresh V.heap.size w' u (F z)∧Below V.heap.size V w') :
 Calls Tryz.prog 117 #[v,.func (.func 119) #[] #[.pointer (some ⟨g9,0,none⟩),.pointer (some ⟨g10,0,none⟩),.pointer (some ⟨g7,0,none⟩)]] W fun e w'=>∃ A c,e = .returned (.slice A zs.length c)∧manyR.R (fun b=>W.heap.size≤b∧b<w'.heap.size) w' (.slice A zs.length c) (zs.map F)∧Below W.heap.size W w':=by
 obtain ⟨gf,lb,rfl,eg,_,hgo⟩:=hv
 obtain ⟨w7,hw7⟩:∃ x,(W.alloc (.cells #[.func (.func 119) #[] #[.pointer (some ⟨g9,0,none⟩),.pointer (some ⟨g10,0,none⟩),.pointer (some ⟨g7,0,none⟩)]] 159)).alloc (.cells #[.slice none 0 0] 49)=x:=⟨_,rfl⟩
 obtain ⟨g0,hg0⟩:∃ x,W.heap.size=x:=⟨_,rfl⟩
 obtain ⟨g1,hg1⟩:∃ x,g0+1=x:=⟨_,rfl⟩
 have b0:Blk w7 g0 159 #[.func (.func 119) #[] #[.pointer (some ⟨g9,0,none⟩),.pointer (some ⟨g10,0,none⟩),.pointer (some ⟨g7,0,none⟩)]]:=by rw [←hw7,←hg0];exact (Blk.new W _ _).alloc _
 have b1:Blk w7 g1 49 #[.slice none 0 0]:=by rw [←hw7,←hg1,←hg0];exact Blk.second W _ _ _
 have hB7:Below W.heap.size W w7:=by rw [←hw7];exact below_two W _ _
 have s7:w7.heap.size=W.heap.size+2:=by rw [←hw7];simp
 have hI0:PGath F g0 g1 (W.heap.size+2) (.func (.func 119) #[] #[.pointer (some ⟨g9,0,none⟩),.pointer (some ⟨g10,0,none⟩),.pointer (some ⟨g7,0,none⟩)]) W w7.heap.size [] (fun _=>False) w7:=⟨fun _=>False,.slice none 0 0,b1,RowG.nil _ _ _ _ _ _,by funext b;simp [Value.ownBlock],fun b h=>h.elim,b0,hB7,Nat.le_refl _⟩
 have S7:=Lib.hid s7
 have HG0:=Lib.hid (And.intro hg0 hg1)
 have HDD:=Lib.hid (And.intro hT (And.intro hF (And.intro h1 (And.intro hN hlo))))
 have HW7:=Lib.hid hw7
 clear s7 hg0 hT hF h1 hN hlo b0 b1
 refine (callsIn_wide (n:=9)).1 ?_
 refine callsIn_of_wp_marks Tryz.func117 rfl trivial ?_ rfl
 simp only [Tryz.ntmps117,List.size_toArray,List.length_cons,List.length_nil,Nat.reduceAdd,Nat.reduceSub,Array.replicate_succ,Array.replicate_zero,List.push_toArray,List.append_toArray,List.nil_append,List.cons_append]
 gi_wp2_with fail
 (try rw [HG0.out.1]);(try rw [hg1])
 clear hw7 hg1
 refine wpIn_rangeBoxT rfl (by omega) (gf:=gf) (lb:=lb) rfl trivial eg (hgo _ (by omega)) (fun h h'=>h.trans h') (fun X l o hl _ _=>Keep.putFar X (by have:=S7.out;have:=HDD.out.2.2.2.2;omega) o) hB7 (fun _=>rfl)
  (PGath F g0 g1 (W.heap.size+2) (.func (.func 119) #[] #[.pointer (some ⟨g9,0,none⟩),.pointer (some ⟨g10,0,none⟩),.pointer (some ⟨g7,0,none⟩)]) W w7.heap.size)
  (fun _ _ _ _=>False) ?hI (fun c s o X Y row hs _ _=>hs) (fun _=>False) (fun b e=>e.elim) hI0
  (fun z=>z∈zs) (fun _ _ _ h=>h) 31 (fun z:Int=>#[.int .i64 i,.int .i64 z]) ?a1
  ?assign (fun pre o X h=>?hrow) (fun c pre o X h=>h.elim) ?body ?done (fun D c pre o X _ _ _ h=>h.elim)
 case hI =>
  rintro s o X Y row ⟨q,v,hb1,ho,rfl,hq,hb0,hBX,hsz⟩ hgr hr
  have s7:=S7.out
  have hg:=HG0.out
  have hne:∀ g,g<w7.heap.size→some g≠row:=fun g hg e=>by have:=(hr g e.symm).1;omega
  have hne2:∀ b,q b→some b≠row:=fun b hb e=>(hr b e.symm).2 (.inr hb)
  refine ⟨q,v,hb1.grown hgr (hne _ (by omega)),ho.kept hgr ?_ hne2,rfl,fun b hb=>⟨(hq b hb).1,?_⟩,hb0.grown hgr (hne _ (by omega)),below_grown hBX hgr hBX.size (fun r e=>by have:=(hr r e).1;omega),Nat.le_trans hsz hgr.size⟩
  · cases hrow:row with
    | none=>exact (Option.eq_none_or_eq_some v.ownBlock).imp id (fun ⟨x,hx⟩=>by rw [hx];simp)
    | some r=>exact .inr (fun e=>(hr r hrow).2 (.inl e))
  · obtain ⟨cs,t,fr,hc⟩:=(hq b hb).2
    exact ⟨cs,t,fr,(hgr.block b (Array.getElem?_eq_some_iff.1 hc).1 (hne2 b hb)).trans hc⟩
 case hrow =>
  obtain ⟨q,v,_,ho,rfl,hq,_⟩:=h
  rintro b (hb | hb)
  · exact T.RowG.ownCells ho hb
  · exact (hq b hb).2
 case assign =>
  rintro l' pre z o X KK hsz hol ⟨q,v,hb1,ho,rfl,hq,hb0,hBX,hge⟩ _ hKK
  gi_wp2
  have hbx:=Blk.new X 31 #[.int .i64 i,.int .i64 z]
  have hBz:=below_one X (.cells #[.int .i64 i,.int .i64 z] 31)
  have hne:¬ (v.ownBlock=some X.heap.size∨q X.heap.size):=fun e=>by have:=hol _ e;omega
  have hKe:Keep lo (W.heap.size - lo) X (X.alloc (.cells #[.int .i64 i,.int .i64 z] 31)):=Keep.alloc (by have:=S7.out;have:=HDD.out.2.2.2.2;omega) _
  have hI2:PGath F g0 g1 (W.heap.size+2) (.func (.func 119) #[] #[.pointer (some ⟨g9,0,none⟩),.pointer (some ⟨g10,0,none⟩),.pointer (some ⟨g7,0,none⟩)]) W w7.heap.size pre (fun b=>v.ownBlock=some b∨q b) (X.alloc (.cells #[.int .i64 i,.int .i64 z] 31)) :=
   ⟨q,v,hb1.below hBz hb1.lt,ho.below hBz,rfl,fun b hb=>⟨(hq b hb).1,by
    obtain ⟨cs,t,fr,hc⟩:=(hq b hb).2
    exact ⟨cs,t,fr,(hBz.block b (Array.getElem?_eq_some_iff.1 hc).1).trans hc⟩⟩,hb0.below hBz hb0.lt,below_in hBX hBz,Nat.le_trans hge hBz.size⟩
  have hSi:SinceO w7.heap.size (fun b=>v.ownBlock=some b∨q b) X (X.alloc (.cells #[.int .i64 i,.int .i64 z] 31)):=SinceO.below hBz
  clear hBz hol
  generalize X.alloc (.cells #[.int .i64 i,.int .i64 z] 31)=X' at *
  generalize X.heap.size=Bx at *
  exact hKK Bx _ hSi hKe hI2 hbx hne hsz
 case body =>
  rintro l' pre z o Bx X hsz ⟨q,v,hb1,ho,rfl,hq,hb0,hBX,hge⟩ hbx hnBx hle hzm hlz
  obtain ⟨vA,vn,vc,rfl⟩:=T.RowG.formR ho
  have s7:=S7.out
  have hg:=HG0.out
  obtain ⟨hT,hF,h1,hN,hlo⟩:=HDD.out
  have hvn:∀ g,(Value.slice vA vn vc).ownBlock=some g→W.heap.size+2≤g:=fun g e=>RowG.own_le ho g e
  have hql:∀ b,q b→b<X.heap.size:=fun b hb=>by
   obtain ⟨cs,t,fr,hc⟩:=(hq b hb).2
   exact (Array.getElem?_eq_some_iff.1 hc).1
  have hl2:(F z).length=n:=hF z hzm
  have hB0X:=hBX.size
  have HCS:Hid (∀ V,Below X.heap.size X V→Calls Tryz.prog 119 #[.agg #[.int .i64 i,.int .i64 z],.pointer (some ⟨g9,0,none⟩),.pointer (some ⟨g10,0,none⟩),.pointer (some ⟨g7,0,none⟩)] V fun e w'=>∃ A c,e = .returned (.slice A n c)∧Fresh X.heap.size w' (.slice A n c) (F z)∧Below X.heap.size X w'):=fun V hV=>(hT V (below_in hBX hV) z hzm).mono (by
   rintro e w' ⟨u,h1,h2,h3⟩
   obtain ⟨A,c,hu,_⟩:=id h2
   rw [hl2] at hu
   subst hu
   exact ⟨A,c,h1,h2.less hV.size,below_in hV h3⟩)
  have h1l:=hb1.lt
  have h0l:=hb0.lt
  have hxl:=hbx.lt
  have HPK:Hid (∀ A c w1,Below X.heap.size X w1→Fresh X.heap.size w1 (.slice A n c) (F z) →
   (∀ V,Below w1.heap.size w1 V→(fun U:World=>U.cell? ⟨g1,0,none⟩=some (.slice vA vn vc)∧U.cell? ⟨g0,0,none⟩=some (.func (.func 119) #[] #[.pointer (some ⟨g9,0,none⟩),.pointer (some ⟨g10,0,none⟩),.pointer (some ⟨g7,0,none⟩)])∧U.cell? ⟨Bx,0,none⟩=some (.int .i64 i)∧U.cell? ⟨Bx,1,none⟩=some (.int .i64 z)) V) ∧
   (∀ wa,Below w1.heap.size w1 wa →
    RowM (fun b=>q b∨∃ off,A=some ⟨b,off,none⟩) wa (W.heap.size+2) (.slice vA vn vc) (pre.map F) ∧
    BytesP (fun b=>b<wa.heap.size∧some b≠(Value.slice vA vn vc).ownBlock∧(q b∨∃ off,A=some ⟨b,off,none⟩)) wa (.slice A n c) (F z)∧W.heap.size+2≤wa.heap.size ∧
    (∀ wb,wa.grownBy wb (Value.slice vA vn vc).ownBlock→(fun U:World=>U.cell? ⟨g1,0,none⟩=some (.slice vA vn vc)∧U.cell? ⟨g0,0,none⟩=some (.func (.func 119) #[] #[.pointer (some ⟨g9,0,none⟩),.pointer (some ⟨g10,0,none⟩),.pointer (some ⟨g7,0,none⟩)])∧U.cell? ⟨Bx,0,none⟩=some (.int .i64 i)∧U.cell? ⟨Bx,1,none⟩=some (.int .i64 z)) wb∧wb.frozen? ⟨g1,0,none⟩=false))):=fun A c w1 hB1 hFr=>by
   have hz1:=hB1.size
   have hSV:∀ V,Below w1.heap.size w1 V→Blk V g1 49 #[.slice vA vn vc]∧Blk V g0 159 #[.func (.func 119) #[] #[.pointer (some ⟨g9,0,none⟩),.pointer (some ⟨g10,0,none⟩),.pointer (some ⟨g7,0,none⟩)]]∧Blk V Bx 31 #[.int .i64 i,.int .i64 z]:=fun V hV=>by
    have hV2:=below_in hB1 hV
    exact ⟨hb1.below hV2 hb1.lt,hb0.below hV2 hb0.lt,hbx.below hV2 hbx.lt⟩
   refine ⟨fun V hV=>?_,fun wa hwa=>?_⟩
   · obtain ⟨x1,x0,xx⟩:=hSV V hV
     exact ⟨x1.one,x0.one,xx.cell 0,xx.cell 1⟩
   · have hza:=hwa.size
     obtain ⟨bu,offu,hAe,hbu1,hbu2,hcu⟩:=fresh_block hFr hl2 h1
     refine ⟨RowG.impR (RowG.moved ho (by omega) fun b hb hor=>(hwa.block b (by omega)).trans (hB1.block b hb)) (fun b hb=>.inl hb),?_,by omega,fun wb hgr=>?_⟩
     · obtain ⟨A2,cap,e,hc,hA⟩:=hFr
       refine ⟨A2,cap,e,hc,fun hp=>?_⟩
       obtain ⟨b,off,e2,hb1,hb2,hcell⟩:=hA hp
       injection e with e1 e4 e3
       subst e1
       refine ⟨b,off,e2,⟨by omega,fun e5=>?_,.inr ⟨off,e2⟩⟩,fun j hj=>?_⟩
       · obtain ⟨cs,t,fr,hcc⟩:=RowG.ownCells ho e5.symm
         have:=(Array.getElem?_eq_some_iff.1 hcc).1
         omega
       · exact (hwa.cell (p:=⟨b,off+j,none⟩) hb2).trans (hcell j hj)
     · obtain ⟨x1,x0,xx⟩:=hSV wa hwa
       have n1:some g1≠(Value.slice vA vn vc).ownBlock:=fun e=>by have:=hvn g1 e.symm;omega
       have n0:some g0≠(Value.slice vA vn vc).ownBlock:=fun e=>by have:=hvn g0 e.symm;omega
       have nx:some Bx≠(Value.slice vA vn vc).ownBlock:=fun e=>hnBx (.inl e.symm)
       have y1:=x1.grown hgr n1
       have yx:=xx.grown hgr nx
       exact ⟨⟨y1.one,(x0.grown hgr n0).one,yx.cell 0,yx.cell 1⟩,y1.frozen 0⟩
  have HLEN:Hid ((pre.map F).length≤100000):=by unfold Hid;rw [List.length_map];omega
  have HFIN:Hid (∀ (A:Option Addr) (c:Nat) (w1 wa wb:World) (u:Value),Below X.heap.size X w1→Fresh X.heap.size w1 (.slice A n c) (F z)→Below w1.heap.size w1 wa→wa.grownBy wb (Value.slice vA vn vc).ownBlock→(u.ownBlock=(Value.slice vA vn vc).ownBlock∨u.ownBlock=some wa.heap.size) →
   RowM (fun b=>q b∨∃ off,A=some ⟨b,off,none⟩) wb (W.heap.size+2) u (pre.map F ++ [F z]) →
   ∃ o',FreshO (fun b=>(Value.slice vA vn vc).ownBlock=some b∨q b) o' X∧SinceO w7.heap.size (fun b=>(Value.slice vA vn vc).ownBlock=some b∨q b) X (wb.setCell ⟨g1,0,none⟩ u)∧Keep lo (W.heap.size - lo) X (wb.setCell ⟨g1,0,none⟩ u)∧PGath F g0 g1 (W.heap.size+2) (.func (.func 119) #[] #[.pointer (some ⟨g9,0,none⟩),.pointer (some ⟨g10,0,none⟩),.pointer (some ⟨g7,0,none⟩)]) W w7.heap.size (pre ++ [z]) o' (wb.setCell ⟨g1,0,none⟩ u)):=fun A c w1 wa wb u hB1 hFr hwa hgr hu hrow=>by
   obtain ⟨bu,offu,hAe,hbu1,hbu2,cu,tu_,fu,hcu⟩:=fresh_block hFr hl2 h1
   have hz1:=hB1.size
   have hza:=hwa.size
   have hzb:=hgr.size
   have hown:∀ b,(Value.slice vA vn vc).ownBlock=some b→b<X.heap.size:=fun b e=>by
    obtain ⟨cs,t,fr,hcc⟩:=RowG.ownCells ho e
    exact (Array.getElem?_eq_some_iff.1 hcc).1
   have heqX:∀ b,b<X.heap.size→some b≠(Value.slice vA vn vc).ownBlock→wb.heap[b]?=X.heap[b]?:=fun b h1 h3 =>
    (hgr.block b (by omega) h3).trans ((hwa.block b (by omega)).trans (hB1.block b h1))
   have hequ:wb.heap[bu]?=w1.heap[bu]?:=(hgr.block bu (by omega) (fun e=>by have:=hown bu e.symm;omega)).trans (hwa.block bu (by omega))
   have n1:some g1≠(Value.slice vA vn vc).ownBlock:=fun e=>by have:=hvn g1 e.symm;omega
   have n0:some g0≠(Value.slice vA vn vc).ownBlock:=fun e=>by have:=hvn g0 e.symm;omega
   have x1:Blk wb g1 49 #[.slice vA vn vc]:=(heqX g1 h1l n1).trans hb1
   have x0:Blk wb g0 159 #[.func (.func 119) #[] #[.pointer (some ⟨g9,0,none⟩),.pointer (some ⟨g10,0,none⟩),.pointer (some ⟨g7,0,none⟩)]]:=(heqX g0 h0l n0).trans hb0
   have hBw1:Below W.heap.size W w1:=hBX.trans (hB1.mono hB0X)
   have hBwa:Below W.heap.size W wa:=hBw1.trans (hwa.mono (by omega))
   have hBwb:Below W.heap.size W wb:=below_grown hBwa hgr (by omega) (fun k e=>by have:=hvn k e;omega)
   have hqu:∀ b,(q b∨∃ off,A=some ⟨b,off,none⟩)→(u.ownBlock≠some b∧w7.heap.size≤b)∧∃ cs t fr,wb.heap[b]?=some (.cells cs t fr):=fun b hb=>by
    rcases hb with hb | ⟨off,hb⟩
    · obtain ⟨⟨h1,h2⟩,cs,t,fr,hcc⟩:=hq b hb
      have hbX:=hql b hb
      refine ⟨⟨fun e=>?_,h2⟩,cs,t,fr,(heqX b hbX (fun e=>h1 e.symm)).trans hcc⟩
      rcases hu with hu | hu
      · exact h1 (hu.symm.trans e)
      · rw [hu] at e;injection e with e;omega
    · rw [hAe] at hb
      injection hb with hb
      injection hb with hb1 _ _
      subst hb1
      refine ⟨⟨fun e=>?_,by omega⟩,cu,tu_,fu,hequ.trans hcu⟩
      rcases hu with hu | hu
      · have:=hown bu (hu.symm.trans e);omega
      · rw [hu] at e;injection e with e;omega
   have hzZ:(wb.setCell ⟨g1,0,none⟩ u).heap.size=wb.heap.size:=by simp
   refine ⟨fun b=>u.ownBlock=some b∨(q b∨∃ off,A=some ⟨b,off,none⟩),fun b hb=>?_,⟨by rw [hzZ];omega,fun b h2 h3 h4=>?_⟩,⟨by rw [hzZ];omega,fun b h2 h3=>?_⟩,fun b=>q b∨∃ off,A=some ⟨b,off,none⟩,u,x1.set_ 0 u,?_,rfl,fun b hb=>⟨(hqu b hb).1,?_⟩,Blk.far x0 (by show g0≠g1;omega) _,hBwb.setCell (by show W.heap.size≤g1;omega) _,by rw [hzZ];omega⟩
   · rcases hb with hb | hb | ⟨off,hb⟩
     · rcases hu with hu | hu
       · exact .inl (.inl (hu.symm.trans hb))
       · rw [hu] at hb;injection hb with hb;exact .inr (by omega)
     · exact .inl (.inr hb)
     · rw [hAe] at hb
       injection hb with hb
       injection hb with hb1 _ _
       exact .inr (by omega)
   · exact (Below.heap_setCell wb ⟨g1,0,none⟩ u b (by show b≠g1;omega)).trans (heqX b h3 (fun e=>h4 (.inl e.symm)))
   · exact (Below.heap_setCell wb ⟨g1,0,none⟩ u b (by show b≠g1;omega)).trans (heqX b (by omega) (fun e=>by have:=hvn b e.symm;omega))
   · rw [List.map_append,List.map_cons,List.map_nil]
     refine RowG.farR hrow ?_ (fun b hb=>?_) u
     · show some g1≠u.ownBlock
       rcases hu with hu | hu
       · rw [hu];exact n1
       · rw [hu];intro e;injection e with e;omega
     · have:=(hqu b hb).1.2
       show b≠g1
       omega
   · obtain ⟨cs,t,fr,hcc⟩:=(hqu b hb).2
     exact ⟨cs,t,fr,(Below.heap_setCell wb ⟨g1,0,none⟩ u b (by have:=(hqu b hb).1.2;show b≠g1;omega)).trans hcc⟩
  have hS:(fun U:World=>U.cell? ⟨g1,0,none⟩=some (.slice vA vn vc)∧U.cell? ⟨g0,0,none⟩=some (.func (.func 119) #[] #[.pointer (some ⟨g9,0,none⟩),.pointer (some ⟨g10,0,none⟩),.pointer (some ⟨g7,0,none⟩)])∧U.cell? ⟨Bx,0,none⟩=some (.int .i64 i)∧U.cell? ⟨Bx,1,none⟩=some (.int .i64 z)) X.drew:=by
   have hBd:=(Below.refl X.heap.size X).drew
   exact ⟨(hb1.below hBd hb1.lt).one,(hb0.below hBd hb0.lt).one,(hbx.below hBd hbx.lt).cell 0,(hbx.below hBd hbx.lt).cell 1⟩
  clear hb1 ho hb0 hBX hbx hnBx hvn s7 hg hq hql hT hF h1 hN hlo hl2 hB0X h1l h0l hxl hzm
  gi_wp2_with fail
  refine wpIn_mono (region_HG (Q:=NoPanic _) (S:=(fun U:World=>U.cell? ⟨g1,0,none⟩=some (.slice vA vn vc)∧U.cell? ⟨g0,0,none⟩=some (.func (.func 119) #[] #[.pointer (some ⟨g9,0,none⟩),.pointer (some ⟨g10,0,none⟩),.pointer (some ⟨g7,0,none⟩)])∧U.cell? ⟨Bx,0,none⟩=some (.int .i64 i)∧U.cell? ⟨Bx,1,none⟩=some (.int .i64 z))) (m:=6) (by kernel_rfl) ?_) NoPanic.imp
  refine anyHG_take (i:=0) (d:=9) (v:=.slice vA vn vc) (by kernel_rfl) rfl (by kernel_rfl) (by kernel_rfl) (by kernel_rfl) rfl (by kernel_rfl) (fun _ _ _ h=>h) ⟨Or.inl ⟨by rfl,fun w hS=>by obtain ⟨h0,h1,h2,h3⟩:=hS;go_simp⟩,fun _=>rfl⟩ hS ?_
  simp only [ud9]
  refine anyHG_take (i:=1) (d:=10) (v:=.func (.func 119) #[] #[.pointer (some ⟨g9,0,none⟩),.pointer (some ⟨g10,0,none⟩),.pointer (some ⟨g7,0,none⟩)]) (by kernel_rfl) rfl (by kernel_rfl) (by kernel_rfl) (by kernel_rfl) rfl (by kernel_rfl) (fun _ _ _ h=>h) ⟨Or.inl ⟨by rfl,fun w hS=>by obtain ⟨h0,h1,h2,h3⟩:=hS;go_simp⟩,fun _=>rfl⟩ hS ?_
  simp only [ud9]
  refine anyHG_take (i:=2) (d:=11) (v:=.agg #[.int .i64 i,.int .i64 z]) (by kernel_rfl) rfl (by kernel_rfl) (by kernel_rfl) (by kernel_rfl) rfl (by kernel_rfl) (fun _ _ _ h=>h) ⟨Or.inl ⟨by rfl,fun w hS=>by obtain ⟨h0,h1,h2,h3⟩:=hS;go_simp⟩,fun _=>rfl⟩ hS ?_
  simp only [ud9]
  refine anyHG_one (i:=3) (by kernel_rfl) rfl (by kernel_rfl) (by rfl) ?_
  gi_wp2_with fail
  refine ⟨trivial,(CallsIn.inRound l' (callsIn_wide.2 (HCS.out _ (Below.refl X.heap.size X).drew))).mono ?_⟩
  rintro e w9 ⟨A,c,rfl,hFr,hB1⟩
  have HP9:=HPK.out A c w9 hB1 hFr
  have HS9:=Lib.hid HP9.1
  have HP9b:=Lib.hid HP9.2
  clear HP9
  have hX9:=Below.refl w9.heap.size w9
  clear hS
  have hS:(fun U:World=>U.cell? ⟨g1,0,none⟩=some (.slice vA vn vc)∧U.cell? ⟨g0,0,none⟩=some (.func (.func 119) #[] #[.pointer (some ⟨g9,0,none⟩),.pointer (some ⟨g10,0,none⟩),.pointer (some ⟨g7,0,none⟩)])∧U.cell? ⟨Bx,0,none⟩=some (.int .i64 i)∧U.cell? ⟨Bx,1,none⟩=some (.int .i64 z)) w9:=HS9.out _ hX9
  gi_wp2
  try (refine ⟨.inr hS,?_⟩)
  refine anyHG_one (i:=4) (by kernel_rfl) rfl (by kernel_rfl) (by rfl) ?_
  have hBa:Below w9.heap.size w9 (w9.alloc (.cells #[.slice A n c] 64)):=below_one w9 _
  have bE:Blk (w9.alloc (.cells #[.slice A n c] 64)) w9.heap.size 64 #[.slice A n c]:=Blk.new w9 _ _
  have hXa:=below_in hX9 hBa
  obtain ⟨wa,hwa⟩:∃ wa,(w9.alloc (.cells #[.slice A n c] 64))=wa:=⟨_,rfl⟩
  rw [hwa] at hBa bE hXa
  clear hS
  have hS:(fun U:World=>U.cell? ⟨g1,0,none⟩=some (.slice vA vn vc)∧U.cell? ⟨g0,0,none⟩=some (.func (.func 119) #[] #[.pointer (some ⟨g9,0,none⟩),.pointer (some ⟨g10,0,none⟩),.pointer (some ⟨g7,0,none⟩)])∧U.cell? ⟨Bx,0,none⟩=some (.int .i64 i)∧U.cell? ⟨Bx,1,none⟩=some (.int .i64 z)) wa:=HS9.out _ hXa
  gi_wp2
  try rw [hwa]
  try (refine ⟨.inr hS,?_⟩)
  refine anyHG_one (i:=5) (by kernel_rfl) rfl (by kernel_rfl) (by rfl) ?_
  have HPA:=HP9b.out wa hXa
  have HPR:=Lib.hid HPA.1
  have HPB:=Lib.hid HPA.2.1
  have HPC:=Lib.hid HPA.2.2.2
  have hpa3:=HPA.2.2.1
  clear HPA
  refine Rg.opIn_pushM (T:=49) (v:=.slice vA vn vc) wa _ _ rfl Tryz.underlying49 _ rfl HPR.out w9.heap.size _ _ _ rfl bE HPB.out HLEN.out hpa3 ?_
  intro v' wb hrow hgr hor
  obtain ⟨vA2,vn2,vc2,rfl⟩:=T.RowG.formR hrow
  clear hS
  have hS:(fun U:World=>U.cell? ⟨g1,0,none⟩=some (.slice vA vn vc)∧U.cell? ⟨g0,0,none⟩=some (.func (.func 119) #[] #[.pointer (some ⟨g9,0,none⟩),.pointer (some ⟨g10,0,none⟩),.pointer (some ⟨g7,0,none⟩)])∧U.cell? ⟨Bx,0,none⟩=some (.int .i64 i)∧U.cell? ⟨Bx,1,none⟩=some (.int .i64 z)) wb:=(HPC.out wb hgr).1
  gi_wp2_with fail
  try (refine ⟨.inr hS,?_⟩)
  refine anyHG_one (i:=6) (by kernel_rfl) rfl (by kernel_rfl) (by rfl) ?_
  have f0:=(HPC.out wb hgr).2
  obtain ⟨h0,h1,h2,h3⟩:=hS
  gi_wp2
  refine anyHG_done (by kernel_rfl) ?_ _
  refine NoPanic.normal ?_
  clear h0 h1 h2 h3 f0
  gi_wp2_with fail
  exact HFIN.out A c w9 wa _ _ hB1 hFr hXa hgr hor hrow
 case done =>
  rintro D0 xs oX X hD0 _ hxz ⟨q,v,hb1,ho,rfl,hq,hb0,hBX,hge⟩ hKD hne
  rw [show xs=zs from hxz] at ho
  obtain ⟨vA,vn,vc,rfl⟩:=T.RowG.formR ho
  have c1:=hb1.one
  have s7:=S7.out
  have HO:=Lib.hid (And.intro ho (And.intro hBX hq))
  have HN:=Lib.hid hne
  have hXs:=hBX.size
  clear ho hb0 hBX hb1 hq
  gi_wp2_with fail
  (try rw [Exit.noGoto_normal])
  refine ⟨by simp,.inl ⟨_,_,rfl,run_takeDeferred hKD,?_⟩⟩
  have hN:=HN.out
  have hrow:∀ ob,RowM q (X.putObj D0 ob) (W.heap.size+2) (.slice vA vn vc) (zs.map F):=fun ob=>RowG.kept HO.out.1 (grownBy_putObj' X D0 ob) (.inr fun e=>hN (.inl e)) (fun b hb e=>by injection e with e;subst e;exact hN (.inr hb))
  have hM:∀ ob,manyR.R (fun b=>W.heap.size≤b∧b<(X.putObj D0 ob).heap.size) (X.putObj D0 ob) (.slice vA vn vc) (zs.map F):=fun ob=>RowM.many (hrow ob) fun b hb hor=>⟨by
   rcases hor with h | h
   · have:=(HO.out.2.2 b h).1.2
     omega
   · omega,hb⟩
  have hvn:vn=zs.length:=by
   obtain ⟨A2,cap,e,_⟩:=hM (.deferred none)
   injection e with _ e2 _
   rw [e2,List.length_map]
  subst hvn
  refine ⟨.slice vA zs.length vc,by simp [results,Tryz.results117,go_sem],vA,vc,rfl,hM _,?_⟩
  exact below_grown HO.out.2.1 (grownBy_putObj' X D0 _) HO.out.2.1.size (fun r e=>by injection e with e;omega)
end Go.Proofs.YtcchjofjpflbhaaGreatDoor.T

namespace Go.Proofs.YtcchjofjpflbhaaGreatDoor.E
open Go.RowKit Go.Shelf Go.Proofs.YtcchjofjpflbhaaGreatDoor.C

section
variable {Q:Nat→Prop} {base:Nat} {v:Value}
theorem opIn_pushM {F:Fence} {nF:Nat} {T:TypeId} (w:World) {o:Oper} {a:Act} {K:Act→World→Prop} {QQ:Exit→Act→World→Prop} (s x:Operand)
 (ho:o.op = .call { callee:=.builtin .append,args:=#[s,x],argTypes:=#[T,T] }) (hT:Tryz.prog.underlying T=some (.slice 64)) (ls:List (List UInt8)) (hs:a.eval s=v) (h:RowM Q w base v ls)
 (g:Nat) (tg:TypeId) (u:Value) (l:List UInt8) (hx:a.eval x = .slice (some ⟨g,0,none⟩) 1 1) (hg:Blk w g tg #[u]) (hu:BytesP (fun b=>b<w.heap.size∧some b≠v.ownBlock∧Q b) w u l) (hlen:ls.length≤100000) (hbase:base≤w.heap.size)
 (hK:∀ v' w',RowM Q w' base v' (ls ++ [l])→w.grownBy w' v.ownBlock→(v'.ownBlock=v.ownBlock∨v'.ownBlock=some w.heap.size)→K (a.put o.dst v') w'):Oper.wpIn F nF Tryz.prog o a w K QQ:=by
 obtain ⟨i,hi,hz0,hz1,hz2⟩:=info_parts Tryz.infoSlcE
 obtain ⟨v',w',hrun,h1,h2,h3⟩:=RowG.push i hi hz0 hz1 hz2 T o.type hT h g tg u l hg hu hlen hbase
 unfold Oper.wpIn
 refine ⟨by simp [Oper.about,ho,resolve,Target.leads,Sem.run_pure],?_⟩
 rw [Oper.semAt_plain F _ _ (by rw [ho];intro c hc';cases hc')]
 simp [execOp,ho,resolve,invoke,builtin,hs,hx,hrun,Result.andThen,Oper.uponIn]
 exact hK v' w' h1 h2 h3
end
end Go.Proofs.YtcchjofjpflbhaaGreatDoor.E

namespace Go.Proofs.YtcchjofjpflbhaaGreatDoor.E
open Go.RowKit Go.Shelf Go.Proofs.YtcchjofjpflbhaaGreatDoor.C

def grid (R n:Nat):List (Nat×Nat):=(List.range R).flatMap fun r=>(List.range n).map fun c=>(c,r)
def slants (p:Int):List (Nat×Nat):=(List.range p.toNat).flatMap fun (a:Nat)=>diagAt p (a:Int) p.toNat
section
variable {p:Int} {a b css:List (List (List UInt8))}
end
end Go.Proofs.YtcchjofjpflbhaaGreatDoor.E

namespace Go.Proofs.YtcchjofjpflbhaaGreatDoor
open Go.RowKit Go.Shelf

def spanL (a b:Int):List Int:=(List.range (b - a).toNat).map fun (i:Nat)=>a+(i:Int)
end Go.Proofs.YtcchjofjpflbhaaGreatDoor

namespace Go.Proofs.YtcchjofjpflbhaaGreatDoor
open Go.RowKit Go.Shelf

instance (k p x y:Int):Decidable (HasCell k p x y):=by unfold HasCell;infer_instance
def dgN2 (k p x y:Int):Int:=if HasCell k p x y then (x+y) % p else 0
def slN2 (k p x y:Int):Int:=if HasCell k p x y then (y - x) % p else 0
end Go.Proofs.YtcchjofjpflbhaaGreatDoor

namespace Go.Proofs.YtcchjofjpflbhaaGreatDoor
open Go.RowKit Go.Shelf

def inRw (d row x y:Int):Bool:=decide (x<d∧y=row)
def onDg (k p d row x y:Int):Bool:=if k=2 then decide ((x<d∨x=d)∧dgN2 k p x y=row) else decide (x<d∧(dgN2 k p x y=row∨dgN2 k p x y=p - 1))
def onSl (k p d row x y:Int):Bool:=decide (x<d∧(slN2 k p x y=row∨slN2 k p x y=p - 1))

end Go.Proofs.YtcchjofjpflbhaaGreatDoor

namespace Go.Proofs.YtcchjofjpflbhaaGreatDoor
open Go.RowKit Go.Shelf Go.Maps

def wayB (k p d row r x y:Int):Bool:=if r=2 then inRw d row x y else if r=3 then onDg k p d row x y else onSl k p d row x y
def Sub (w W:World):Prop:=w.heap.size≤W.heap.size∧∀ (b:Nat) (cs:Array Value) (t:TypeId) (fr:Nat×Nat),w.heap[b]?=some (.cells cs t fr)→W.heap[b]?=some (.cells cs t fr)
theorem Sub.below {w W:World} (h:Below w.heap.size w W):Sub w W:=⟨h.size,fun b cs t fr hb=>(h.block b (Array.getElem?_eq_some_iff.1 hb).1).trans hb⟩
theorem Sub.trans {a b c:World} (h:Sub a b) (h':Sub b c):Sub a c:=⟨Nat.le_trans h.1 h'.1,fun x cs t fr hx=>h'.2 x cs t fr (h.2 x cs t fr hx)⟩
theorem Sub.blk {w W:World} (h:Sub w W) {g:Nat} {t:TypeId} {cs:Array Value} (hb:Blk w g t cs):Blk W g t cs:=h.2 g cs t (0,0) hb
theorem Sub.laid {w W:World} (h:Sub w W) (hL:Laid w):Laid W:=by
 obtain ⟨⟨t1,f1,h1⟩,t2,f2,h2⟩:=hL
 exact ⟨⟨t1,f1,h.2 _ _ _ _ h1⟩,t2,f2,h.2 _ _ _ _ h2⟩
theorem Sub.put {w:World} {l:Nat} (hl:∃ r,w.heap[l]?=some (.loop r)) (ob:Obj):Sub w (w.putObj l ob):=by
 obtain ⟨r,hr⟩:=hl
 exact ⟨by simp [World.putObj],fun b cs t fr hb=>(World.putObj_heap_other (fun e=>by rw [e,hr] at hb;cases hb)).trans hb⟩
def Asks (q:Int→Int→Bool) (v:Value) (w:World):Prop :=
 ∃ gf lb,v = .func (.func gf) #[] lb∧(∀ args W,(callFunc gf args).run Tryz.prog W = .ok (.enter gf args) W) ∧
  ∀ x y W,Sub w W→Calls Tryz.prog gf (#[.agg #[.int .i64 x,.int .i64 y]] ++ lb) W fun e w'=>e = .returned (.bool (q x y))∧Below W.heap.size W w'
theorem Asks.sub {q:Int→Int→Bool} {v:Value} {w w':World} (h:Asks q v w) (hB:Sub w w'):Asks q v w':=by
 obtain ⟨gf,lb,e,eg,hc⟩:=h
 exact ⟨gf,lb,e,eg,fun x y W hW=>hc x y W (hB.trans hW)⟩
theorem Asks.next {q:Int→Int→Bool} {v:Value} {w w':World} (h:Asks q v w) (hB:Below w.heap.size w w'):Asks q v w':=h.sub (Sub.below hB)
end Go.Proofs.YtcchjofjpflbhaaGreatDoor

namespace Go.Proofs.YtcchjofjpflbhaaGreatDoor
open Go.RowKit Go.Shelf
attribute [local go_sem] Oper.semAt_some

theorem rowsL_mem {p y:Int} (hy:0≤y∧y<p - 1):y∈rowsL p:=by
 unfold rowsL
 exact List.mem_map.2 ⟨y.toNat,List.mem_range.2 (by omega),by omega⟩
theorem cellsDown_in (n:Nat) (hn:4≤n) (l g h lo mm:Nat) (k p s m col:Int) (hp:p∈prm) (hu:Und p s m) (hg1:lo≤g) (hg2:g<lo+mm) (hh1:lo≤h) (hh2:h<lo+mm) (W:World) (hW:lo+mm≤W.heap.size) (hL:Laid W) (J Jx:List Int→Option Nat→World→Prop) (o₀:Option Nat) (ho₀:∀ b,o₀=some b→b<W.heap.size)
 (hJ:FarO W.heap.size J) (hJx:FarO W.heap.size Jx) (hr1:∀ s o X,J s o X→RowO o X) (hr2:∀ s o X,Jx s o X→RowO o X)
 (hY:∀ pre x o W1,J pre o W1→x∈rowsL p→pre.length<p.toNat→W.heap.size≤W1.heap.size→YieldAt Fence.wide (n - 1) Tryz.prog l #[.agg #[.int .i64 col,.int .i64 x]] W1 fun e W'=>∃ o',FreshO o o' W1∧SinceO W.heap.size o W1 W'∧((e = .returned (.bool true)∧J (pre ++ [x]) o' W'∧Keep lo mm W1 W')∨(e = .returned (.bool false)∧Jx (pre ++ [x]) o' W')))
 (bg:Blk W g 184 #[.int .i64 k,.int .i64 p,.int .i64 s,.int .i64 m]) (bh:Blk W h 3 #[.int .i64 col]) (h0:J [] o₀ W) :
 CallsIn Fence.wide n Tryz.prog 238 #[.func (.yield l) #[] #[],.pointer (some ⟨g,0,none⟩),.pointer (some ⟨h,0,none⟩)] W fun e W'=>(∃ v,e = .returned v)∧∃ o',FreshO o₀ o' W∧((∃ ys,ys=rowsL p∧J ys o' W')∨(∃ pre,pre <+: rowsL p∧Jx pre o' W')):=by
 have HWk:=Lib.hid (fun V hV=>modWalk_any p 0 1 V hV (by omega) (by omega))
 refine callsIn_of_wp_marks Tryz.func238 rfl trivial ?_ rfl
 simp only [Tryz.ntmps238,List.size_toArray,List.length_cons,List.length_nil,Nat.reduceAdd,Nat.reduceSub,Array.replicate_succ,Array.replicate_zero,List.push_toArray,List.append_toArray,List.nil_append,List.cons_append]
 obtain ⟨W0,hW0⟩:∃ W0,W.alloc (.cells #[.func (.yield l) #[] #[]] 94)=W0:=⟨_,rfl⟩
 have hB0:Below W.heap.size W W0:=by rw [←hW0];exact below_one W _
 have bY:Blk W0 W.heap.size 94 #[.func (.yield l) #[] #[]]:=by rw [←hW0];exact Blk.new W _ _
 have bg0:=bg.below hB0 bg.lt
 have bh0:=bh.below hB0 bh.lt
 have hL0:=hL.next hB0
 have hJ0:J [] o₀ W0:=hJ.below h0 hB0
 have d1:W0.cell? ⟨g,1,none⟩=some (.int .i64 p):=bg0.cell 1
 gi_wp2_with fail
 refine wpIn_scope_wide ?_
 gi_wp2_with fail
 refine wpIn_label ?_
 gi_wp2_with fail
 refine ⟨trivial,fun _=>by omega,(callsIn_wide.2 (HWk.out _ hL0)).mono ?_⟩
 rintro e v1 ⟨v,rfl,⟨gf,lb,rfl,eg,eq,⟨kk,hgo⟩⟩,hX⟩
 have bY1:=bY.below hX bY.lt
 have bg1:=bg0.below hX bg0.lt
 have bh1:=bh0.below hX bh0.lt
 have hJ1:J [] o₀ v1:=hJ.below hJ0 hX
 have hlo:=hX.size
 have hi:=bY.lt
 clear eq hL0 bg0 bh0 d1 hJ0 HWk
 gi_wp2_with fail
 refine wpIn_rangeOwn1 rfl (by omega) (gf:=gf) (lb:=lb) rfl trivial eg (hgo _ (by omega)) (by omega) (Below.refl _ _) (fun _=>rfl)
  (fun pre V=>(∃ o,J pre o V∧FreshO o₀ o W∧∀ b,o=some b→b<W.heap.size∨v1.heap.size+(2+kk)≤b)∧(∀ y∈pre,0≤y∧y<p - 1)∧Blk V W.heap.size 94 #[.func (.yield l) #[] #[]]∧Blk V g 184 #[.int .i64 k,.int .i64 p,.int .i64 s,.int .i64 m]∧Blk V h 3 #[.int .i64 col])
  (fun c pre V=>c = .exit 0∧∃ q x o,pre=q ++ [x]∧FreshO o₀ o W∧(∀ b,o=some b→b<W.heap.size∨v1.heap.size+(2+kk)≤b)∧((¬ (0≤x∧x<p - 1)∧J q o V)∨((0≤x∧x<p - 1)∧Jx pre o V)))
  ?hI ?hIx ⟨⟨o₀,hJ1,.inl rfl,fun b e=>.inl (ho₀ b e)⟩,by simp,bY1,bg1,bh1⟩ ?a1 ?assign ?body ?done ?stop
 case hI =>
  refine Spares.and (fun s X Y row hs hg hr=>?_) ((spares_pure _ _ _).and ((spares_blk (by omega) _ (fun _=>_)).and ((spares_blk (by omega) _ (fun _=>_)).and (spares_blk (by omega) _ (fun _=>_)))))
  obtain ⟨o,h1,h2,h3⟩:=hs
  exact ⟨o,hJ s o X Y row h1 hg (fun r e=>⟨by have:=hr r e;omega,fun e2=>by have:=hr r e;have:=h3 r e2.symm;omega⟩),h2,h3⟩
 case hIx =>
  rintro c pre X Y row ⟨h1,q,x,o,h2,hf,hb,h3⟩ hg hr
  have hr':∀ r,row=some r→W.heap.size≤r∧some r≠o:=fun r e=>⟨by have:=hr r e;omega,fun e2=>by have:=hr r e;have:=hb r e2.symm;omega⟩
  exact ⟨h1,q,x,o,h2,hf,hb,h3.imp (fun h=>⟨h.1,hJ _ _ _ _ _ h.2 hg hr'⟩) (fun h=>⟨h.1,hJx _ _ _ _ _ h.2 hg hr'⟩)⟩
 case assign =>
  intro l' x V K hK
  gi_wp2
  exact hK
 case body =>
  rintro l' pre x V hsz ⟨⟨o,hj,hfo,hbo⟩,hr,bY,bg,bh⟩ hlen
  have hYo:some W.heap.size≠o:=fun e=>by have:=hbo _ e.symm;omega
  have hlen2:pre.length<p.toNat:=by
   obtain ⟨e1,e2,_⟩:=rows_walk p hp
   rw [e1,List.length_append] at hlen
   simp at hlen
   omega
  have hn3:1≤n - 1 - 1:=by omega
  have c0:=bg.cell 0
  have c1:=bg.cell 1
  have c2:=bg.cell 2
  have c3:=bg.cell 3
  simp only [gz9] at c0 c1 c2 c3
  by_cases hx:0≤x∧x<p - 1
  · have HR:=Lib.hid (fun V=>(hasRow_any k p s m x hu V).mono fun _ _ h=>And.intro (h.1.trans (ret_bool (decide_eq_true hx))) h.2)
    gi_wp2_with fail
    refine ⟨trivial,(CallsIn.inRound l' (callsIn_wide.2 (HR.out V))).mono ?_⟩
    rintro e V1 ⟨rfl,hB1⟩
    have hj1:J pre o V1:=hJ.below hj hB1
    have hs1:=hB1.size
    have cY:=(bY.below hB1 bY.lt).one
    have cH:=(bh.below hB1 bh.lt).one
    obtain ⟨fn,tmps,asg,bdy,hy,hR⟩:=YieldAt.deep (m:=n - 1 - 1 - 1) (hY pre x o V1 hj1 (rowsL_mem hx) hlen2 (by omega))
    gi_wp2
    refine hR.mono ?_
    rintro e W3 ⟨o',hf3,hS3,(⟨rfl,hJ3,hk3⟩ | ⟨rfl,hJx3⟩)⟩
    · gi_wp2
      have hS:SinceO W.heap.size o V W3:=(SinceO.below hB1).trans_ hS3
      have hbo':∀ b,o'=some b→b<W.heap.size∨v1.heap.size+(2+kk)≤b:=fun b e=>by
       rcases hf3 with rfl | ⟨b2,rfl,hb2⟩
       · exact hbo b e
       · injection e with e;omega
      have hfo':FreshO o₀ o' W:=hfo.trans (by omega) hf3
      have hkk:Keep lo mm V W3:=(Keep.below hB1 (by omega)).trans hk3
      refine ⟨hS.keep (by omega) hsz (fun b e=>by have:=hbo b e;omega),hS.keep (by omega) (by omega) (fun b e=>by have:=hbo b e;omega),⟨o',hJ3,hfo',hbo'⟩,?_,(hS.2 _ (Nat.le_refl _) bY.lt hYo).trans bY,hkk.blk bg hg1 hg2,hkk.blk bh hh1 hh2⟩
      intro y hy
      rcases List.mem_append.1 hy with h1 | h1
      · exact hr y h1
      · rw [List.mem_singleton.1 h1];exact hx
    · gi_wp2
      have hS:SinceO W.heap.size o V W3:=(SinceO.below hB1).trans_ hS3
      have hbo':∀ b,o'=some b→b<W.heap.size∨v1.heap.size+(2+kk)≤b:=fun b e=>by
       rcases hf3 with rfl | ⟨b2,rfl,hb2⟩
       · exact hbo b e
       · injection e with e;omega
      have hfo':FreshO o₀ o' W:=hfo.trans (by omega) hf3
      exact ⟨hS.keep (by omega) hsz (fun b e=>by have:=hbo b e;omega),rfl,pre,x,o',rfl,hfo',hbo',.inr ⟨hx,hJx3⟩⟩
  · have HR:=Lib.hid (fun V=>(hasRow_any k p s m x hu V).mono fun _ _ h=>And.intro (h.1.trans (ret_bool (decide_eq_false hx))) h.2)
    gi_wp2_with (refine ⟨trivial,?_⟩;gi_at_call 239;refine (callsIn_wide.2 (HR.out _)).mono ?_;rintro e V1 ⟨rfl,hB1⟩)
    refine ⟨fun _ h=>(by cases h),?_⟩
    gi_wp2
    have hS1:Since W.heap.size V V1:=Since.below hB1
    exact ⟨hS1.keep (by omega) hsz,rfl,pre,x,o,rfl,hfo,hbo,.inl ⟨hx,hJ.below hj hB1⟩⟩
 case done =>
  rintro D xs V hD rfl ⟨_,hr,_⟩ _
  exfalso
  obtain ⟨e1,_,_⟩:=rows_walk p hp
  have:=hr (p - 1) (by rw [e1];simp)
  omega
 case stop =>
  rintro D c pre V hD hSp ⟨rfl,q,x,o,rfl,hfo,hbo,hq⟩ hK
  gi_wp2
  rw [Exit.noGoto_normal]
  refine ⟨by simp,.inl ⟨_,_,rfl,run_takeDeferred hK,?_⟩⟩
  refine ⟨_,results_none rfl _ _ _,⟨_,rfl⟩,o,hfo,?_⟩
  rcases hq with ⟨hx,hq⟩ | ⟨hx,hq⟩
  · exact .inl ⟨q,rows_left p hp q x hSp hx,hJ.put hq (by omega) ((hr1 _ _ _ hq).ne hK) _⟩
  · exact .inr ⟨_,rows_some p hp q x hSp hx,hJx.put hq (by omega) ((hr2 _ _ _ hq).ne hK) _⟩

def PlacesO (lo:Nat) (col:Int) (zs:List Int) (N:Nat) (v:Value) (w:World):Prop :=
 ∃ gf lb,v = .func (.func gf) #[] lb∧(∀ args W,(callFunc gf args).run Tryz.prog W = .ok (.enter gf args) W)∧(∀ W,(binOp .eql 28 v .nilFunc).run Tryz.prog W = .ok (.bool false) W) ∧
  ∀ n,4≤n→SeqO Fence.wide n Tryz.prog gf lb (fun x:Int=>#[.agg #[.int .i64 col,.int .i64 x]]) (fun x _=>x∈zs) (Keep lo (w.heap.size - lo)) (fun ys=>ys=zs) (fun pre=>pre <+: zs) N w

theorem cells1_inO (n l:Nat) (J Jx:List Int→Option Nat→World→Prop) (o₀:Option Nat) (W:World) (h0:J [] o₀ W) :
 CallsIn Fence.wide n Tryz.prog 176 (#[.func (.yield l) #[] #[]] ++ #[]) W fun e W'=>(∃ v,e = .returned v)∧∃ o',FreshO o₀ o' W∧((∃ ys,ys = []∧J ys o' W')∨(∃ pre,pre <+: []∧Jx pre o' W')):=by
 refine callsIn_of_wp Tryz.func176 rfl trivial ?_ rfl
 simp only [Tryz.ntmps176,List.size_toArray,List.length_cons,List.length_nil,Nat.reduceAdd,Nat.reduceSub,Array.replicate_succ,Array.replicate_zero,List.push_toArray,List.append_toArray,List.nil_append,List.cons_append]
 gi_wp2
 go_end0
 exact ⟨⟨_,rfl⟩,o₀,.inl rfl,.inl ⟨_,rfl,h0⟩⟩

theorem down_anyO (k p s m col:Int) (hp:p∈prm) (hu:Und p s m) (w:World) (hL:Laid w) :
 Calls Tryz.prog 175 #[.agg #[.int .i64 k,.int .i64 p,.int .i64 s,.int .i64 m],.int .i64 col] w fun e w'=>∃ v,e = .returned v∧PlacesO w.heap.size col (rowsL p) p.toNat v w'∧Below w.heap.size w w':=by
 have hmf:=make_func
 go_enter Tryz.func175,Tryz.ntmps175
 go_wp2
 go_ret
 have hB:=below_two w (.cells #[.int .i64 k,.int .i64 p,.int .i64 s,.int .i64 m] 184) (.cells #[.int .i64 col] 3)
 have bg:=(Blk.new w 184 #[.int .i64 k,.int .i64 p,.int .i64 s,.int .i64 m]).alloc (.cells #[.int .i64 col] 3)
 have bh:=Blk.second w (.cells #[.int .i64 k,.int .i64 p,.int .i64 s,.int .i64 m] 184) 3 #[.int .i64 col]
 have hL2:=hL.next hB
 refine ⟨_,rfl,⟨_,_,rfl,enter_down1,eql_down1 _ _,?_⟩,hB⟩
 intro n hn l J Jx W o₀ hW ho₀ hJ hJx hr1 hr2 hY h0
 exact cellsDown_in n hn l _ _ w.heap.size _ k p s m col hp hu (Nat.le_refl _) (by simp;omega) (by omega) (by simp;omega) W (by have:=hW.size;simp at this ⊢;omega) (hL2.next hW) J Jx o₀ ho₀ hJ hJx hr1 hr2 hY (bg.below hW bg.lt) (bh.below hW bh.lt) h0

theorem PlacesO.less {lo lo' N:Nat} {col:Int} {zs:List Int} {v:Value} {w:World} (h:PlacesO lo col zs N v w) (hl:lo'≤lo) (hw:lo≤w.heap.size):PlacesO lo' col zs N v w:=by
 obtain ⟨gf,lb,e,eg,eq,hg⟩:=h
 exact ⟨gf,lb,e,eg,eq,fun n hn l J Jx W o₀ hW ho₀ hJ hJx hr1 hr2 hY h0=>hg n hn l J Jx W o₀ hW ho₀ hJ hJx hr1 hr2 (fun pre x o W1 hj hok hl' hs=>(hY pre x o W1 hj hok hl' hs).mono fun _ _ ⟨o',hf,hS,h⟩=>⟨o',hf,hS,h.imp (fun ⟨h1,h2,h3⟩=>⟨h1,h2,h3.less hl (by omega)⟩) id⟩) h0⟩

theorem none_placesO (lo N:Nat) (x:Int) (w:World):PlacesO lo x [] N (.func (.func 176) #[] #[]) w :=
 ⟨_,_,rfl,enter_cells1,eql_cells1,fun n _ l J Jx W o₀ _ _ _ _ _ _ _ h0=>cells1_inO n l J Jx o₀ W h0⟩

theorem shapeCells_anyO (k p x:Int) (w:World) (hL:Laid w):Calls Tryz.prog 118 #[.agg #[.int .i64 k,.int .i64 p],.int .i64 x] w fun e w'=>∃ v,e = .returned v∧(∃ zs,Column k p x zs∧PlacesO w.heap.size x zs p.toNat v w')∧Below w.heap.size w w':=by
 have hB:=below_one w (.cells #[.int .i64 k,.int .i64 p] 61)
 by_cases hR:RightC k p
 · by_cases hb:HasCol k p x
   · have HT:=Lib.hid (toldS_yes 174 175 enter_hasColumn enter_down k p x hR _ (fun W hL=>(hasColumn_any k p _ _ x hR.und W).mono fun _ _ h=>⟨h.1.trans (ret_bool (decide_eq_true hb)),h.2⟩)
      (fun v w'=>PlacesO w.heap.size x (rowsL p) p.toNat v w') (fun W hL hs=>(down_anyO k p _ _ x hR.2 hR.und W hL).mono fun _ _ ⟨v,h1,h2,h3⟩=>⟨v,h1,h2.less (by have:=hB.size;omega) h3.size,h3⟩) (hL.next hB))
     have HC:Hid (Column k p x (rowsL p)):=.inl ⟨hR,hb,rfl⟩
     clear hb hR
     generalize rowsL p=zs at *
     go_enter Tryz.func118,Tryz.ntmps118
     go_wp2_with (go_at_call 173;refine HT.out.mono ?_;rintro e w1 ⟨v,rfl,hv,hB1⟩)
     go_ret
     exact ⟨_,rfl,⟨_,HC.out,hv⟩,below_in hB hB1⟩
   · have HT:=Lib.hid (toldS_out 174 175 enter_hasColumn k p x hR (fun W hL=>(hasColumn_any k p _ _ x hR.und W).mono fun _ _ h=>⟨h.1.trans (ret_bool (decide_eq_false hb)),h.2⟩) _ (hL.next hB))
     have HC:Hid (Column k p x []):=.inr ⟨fun h=>hb h.2,rfl⟩
     clear hb hR
     go_enter Tryz.func118,Tryz.ntmps118
     go_wp2_with (go_at_call 173;refine HT.out.mono ?_;rintro e w1 ⟨rfl,hB1⟩)
     go_ret
     exact ⟨_,rfl,⟨_,HC.out,none_placesO _ _ _ _⟩,below_in hB hB1⟩
 · have HT:=Lib.hid (toldS_no 174 175 k p x hR _ (hL.next hB))
   have HC:Hid (Column k p x []):=.inr ⟨fun h=>hR h.1,rfl⟩
   clear hR
   go_enter Tryz.func118,Tryz.ntmps118
   go_wp2_with (go_at_call 173;refine HT.out.mono ?_;rintro e w1 ⟨rfl,hB1⟩)
   go_ret
   exact ⟨_,rfl,⟨_,HC.out,none_placesO _ _ _ _⟩,below_in hB hB1⟩
end Go.Proofs.YtcchjofjpflbhaaGreatDoor

namespace Go.Proofs.YtcchjofjpflbhaaGreatDoor
open Go.RowKit Go.Shelf
attribute [local go_sem] Oper.semAt_some

section
variable {B lo mm:Nat} {X Y Z:World} {o o':Option Nat}
end
def KeepL (lo k:Nat) (X Y:World):Prop:=Keep lo k X Y∧(Laid X→Laid Y)
theorem KeepL.trans {lo k:Nat} {X Y Z:World} (h:KeepL lo k X Y) (h':KeepL lo k Y Z):KeepL lo k X Z:=⟨h.1.trans h'.1,fun hL=>h'.2 (h.2 hL)⟩
def flatC (p:Int) (cs:List Int):List (Int×Int):=cs.flatMap fun x=>(rowsL p).map fun y=>(x,y)
end Go.Proofs.YtcchjofjpflbhaaGreatDoor

namespace Go.Proofs.YtcchjofjpflbhaaGreatDoor
open Go.RowKit Go.Shelf
attribute [local go_sem] Oper.semAt_some

theorem OwnI.less {w:World} {base base':Nat} {v:Value} {l:List Int} (h:OwnI w base v l) (hb:base'≤base):OwnI w base' v l:=⟨h.1,h.2.imp id fun ⟨g,cap,cur,h1,h2,h3⟩=>⟨g,cap,cur,h1,Nat.le_trans hb h2,h3⟩⟩
def Seqs (lo:Nat) (zs:List (Int×Int)) (v:Value) (w:World):Prop :=
 ∃ gf lb,v = .func (.func gf) #[] lb∧(∀ args W,(callFunc gf args).run Tryz.prog W = .ok (.enter gf args) W) ∧
  ∀ n,6≤n→SeqO Fence.wide n Tryz.prog gf lb (fun x:Int×Int=>#[.agg #[.int .i64 x.1,.int .i64 x.2]]) (fun x _=>x∈zs) (KeepL lo (w.heap.size - lo)) (fun ys=>ys=zs) (fun pre=>pre <+: zs) 1000 w
theorem KeepL.less {lo lo' k k':Nat} {X Y:World} (h:KeepL lo k X Y) (h1:lo≤lo') (h2:lo'+k'≤lo+k):KeepL lo' k' X Y:=⟨h.1.less h1 h2,h.2⟩
theorem Seqs.less {lo lo':Nat} {zs:List (Int×Int)} {v:Value} {w:World} (h:Seqs lo zs v w) (hl:lo'≤lo) (hw:lo≤w.heap.size):Seqs lo' zs v w:=by
 obtain ⟨gf,lb,e,eg,hg⟩:=h
 exact ⟨gf,lb,e,eg,fun n hn l J Jx W o₀ hW ho₀ hJ hJx hr1 hr2 hY h0=>hg n hn l J Jx W o₀ hW ho₀ hJ hJx hr1 hr2 (fun pre x o W1 hj hok hl' hs=>(hY pre x o W1 hj hok hl' hs).mono fun _ _ ⟨o',hf,hS,h⟩=>⟨o',hf,hS,h.imp (fun ⟨h1,h2,h3⟩=>⟨h1,h2,h3.less hl (by omega)⟩) id⟩) h0⟩
end Go.Proofs.YtcchjofjpflbhaaGreatDoor

namespace Go.Proofs.YtcchjofjpflbhaaGreatDoor
open Go.RowKit Go.Shelf
attribute [local go_sem] Oper.semAt_some

theorem codeCells_one (l:List (Int×Int)) (x y:Int):codeCells (l ++ [(x,y)])=codeCells l ++ [.int .i64 x,.int .i64 y]:=by unfold codeCells;rw [List.flatMap_append];rfl
theorem laid_put {W:World} (h:Laid W) {l:Nat} (hl:∃ r,W.heap[l]?=some (.loop r)) (ob:Obj):Laid (W.putObj l ob):=by
 obtain ⟨r,hr⟩:=hl
 have h1:∀ {g:Nat} {cs:Array Value},LaidAt g cs W→LaidAt g cs (W.putObj l ob):=fun {g cs} ⟨t,fr,hg⟩=>⟨t,fr,(World.putObj_heap_other (fun e=>by rw [e,hr] at hg;cases hg)).trans hg⟩
 exact ⟨h1 h.1,h1 h.2⟩

end Go.Proofs.YtcchjofjpflbhaaGreatDoor

namespace Go.Proofs.YtcchjofjpflbhaaGreatDoor
open Go.RowKit Go.Shelf

theorem Seqs.next {lo:Nat} {zs:List (Int×Int)} {v:Value} {w w':World} (h:Seqs lo zs v w) (hB:Below w.heap.size w w'):Seqs lo zs v w':=by
 obtain ⟨gf,lb,e,eg,hg⟩:=h
 have hs:=hB.size
 exact ⟨gf,lb,e,eg,fun n hn l J Jx W o₀ hW ho₀ hJ hJx hr1 hr2 hY h0=>hg n hn l J Jx W o₀ (below_in hB hW) ho₀ hJ hJx hr1 hr2 (fun pre x o W1 hj hok hl' hs'=>(hY pre x o W1 hj hok hl' hs').mono fun _ _ ⟨o',hf,hS,h⟩=>⟨o',hf,hS,h.imp (fun ⟨h1,h2,h3⟩=>⟨h1,h2,h3.less (Nat.le_refl _) (by omega)⟩) id⟩) h0⟩
def memB (k p mx my x y:Int):Bool:=wayB k p (p - shortN k) my (roleN (p - shortN k) mx) x y
def memL (k p mx my:Int):List (Int×Int):=(flatC p (spanL 0 mx)).filter fun x=>memB k p mx my x.1 x.2
theorem Laid.drew {W:World} (h:Laid W):Laid W.drew:=h
end Go.Proofs.YtcchjofjpflbhaaGreatDoor

namespace Go.Proofs.YtcchjofjpflbhaaGreatDoor
open Go.RowKit Go.Shelf

theorem Tryz.infoAt:(Tryz.prog.info? 31).map (fun i=>(i.zero,i.size,i.bytes))=some (some (.agg #[.int .i64 0,.int .i64 0]),2,16):=by kernel_rfl
def Bears (cs:Array Value) (s:List (Int×Int)) (j:Nat):Prop:=cs.size=s.length * 2∧∀ (i:Nat) (hi:i<s.length),i<j→cs[i * 2]?=some (.int .i64 (s[i]).1)∧cs[i * 2+1]?=some (.int .i64 (s[i]).2)
theorem Bears.next {cs:Array Value} {s:List (Int×Int)} {j:Nat} (h:Bears cs s j) (hj:j<s.length) {x y:Int} (hx:s[j]=(x,y)):Bears ((cs.setIfInBounds (j * 2) (.int .i64 x)).setIfInBounds (j * 2+1) (.int .i64 y)) s (j+1):=by
 refine ⟨by simp [h.1],fun i hi hij=>?_⟩
 have hs:=h.1
 by_cases e:i=j
 · subst e
   rw [hx]
   exact ⟨by rw [Array.getElem?_setIfInBounds_ne (by omega),Array.getElem?_setIfInBounds_self_of_lt (by omega)],by rw [Array.getElem?_setIfInBounds_self_of_lt (by simp;omega)]⟩
 · obtain ⟨h1,h2⟩:=h.2 i hi (by omega)
   exact ⟨by rw [Array.getElem?_setIfInBounds_ne (by omega),Array.getElem?_setIfInBounds_ne (by omega)];exact h1,by rw [Array.getElem?_setIfInBounds_ne (by omega),Array.getElem?_setIfInBounds_ne (by omega)];exact h2⟩
def ReadP (B:Nat) (W:World) (v:Value) (s:List (Int×Int)):Prop :=
 ∃ g cap,v = .slice (some ⟨g,0,none⟩) s.length cap∧g<B∧∀ (j:Nat) (hj:j<s.length),W.cell? ⟨g,j * 2,none⟩=some (.int .i64 (s[j]).1)∧W.cell? ⟨g,j * 2+1,none⟩=some (.int .i64 (s[j]).2)
theorem ReadP.below {B:Nat} {W W':World} {v:Value} {s:List (Int×Int)} (h:ReadP B W v s) (hb:Below B W W'):ReadP B W' v s:=by
 obtain ⟨g,cap,e,hg,hc⟩:=h
 exact ⟨g,cap,e,hg,fun j hj=>⟨(hb.cell (p:=⟨g,j * 2,none⟩) hg).trans (hc j hj).1,(hb.cell (p:=⟨g,j * 2+1,none⟩) hg).trans (hc j hj).2⟩⟩
theorem ReadP.next {W W':World} {v:Value} {s:List (Int×Int)} (h:ReadP W.heap.size W v s) (hb:Below W.heap.size W W'):ReadP W'.heap.size W' v s:=by
 obtain ⟨g,cap,e,hg,hc⟩:=h.below hb
 exact ⟨g,cap,e,Nat.lt_of_lt_of_le hg hb.size,hc⟩

end Go.Proofs.YtcchjofjpflbhaaGreatDoor

namespace Go.Proofs.YtcchjofjpflbhaaGreatDoor
open Go.RowKit Go.Shelf

def MembersC (k p x y:Int) (w:World) (e:Ending) (w':World):Prop :=
 (¬ RightC k p→e = .returned (.tuple #[.slice none 0 0,.int .i64 2])) ∧
 (RightC k p→¬ (HasCell k p x y∧p - shortN k≤x)→e = .returned (.tuple #[.slice none 0 0,.int .i64 4])) ∧
 (RightC k p→HasCell k p x y→p - shortN k≤x→∃ u,e = .returned (.tuple #[u,.int .i64 0])∧ReadP w'.heap.size w' u (memL k p x y))∧Below w.heap.size w w'

theorem MembersC.form {k p x y:Int} {w w':World} {e:Ending} (h:MembersC k p x y w e w'):∃ (u:Value) (n:Int),e = .returned (.tuple #[u,.int .i64 n]):=by
 by_cases hR:RightC k p
 · by_cases hm:HasCell k p x y∧p - shortN k≤x
   · obtain ⟨u,e,_⟩:=h.2.2.1 hR hm.1 hm.2
     exact ⟨u,0,e⟩
   · exact ⟨_,4,h.2.1 hR hm⟩
 · exact ⟨_,2,h.1 hR⟩

end Go.Proofs.YtcchjofjpflbhaaGreatDoor

namespace Go.Proofs.YtcchjofjpflbhaaGreatDoor
open Go.RowKit Go.Shelf
attribute [local go_sem] Oper.semAt_some

theorem wpIn_rangeBoxP {α:Type} {F:Fence} {n:Nat} {P:Program} {g:Operand} {ps:Array Tmp} {assign body:Code} {Q:Exit→Act→World→Prop} {a:Act} {w:World}
 (hro:F.round=none) (h1:1≤n) {gf:Nat} {lb:Array Value} (hg:a.eval g = .func (.func gf) #[] lb) (hFg:F.fn gf) (eg:∀ args w,(callFunc gf args).run P w = .ok (.enter gf args) w)
 {encs:α→Array Value} {Ok:α→World→Prop} {Kp:World→World→Prop} {S Sp:List α→Prop} {N:Nat} {w0:World} (hseq:SeqO F (n - 1) P gf lb encs Ok Kp S Sp N w0)
 (hKt:∀ {A B C:World},Kp A B→Kp B C→Kp A C) (hKb:∀ (W:World) (l:Nat) (ob:Obj),w.heap.size≤l→l<W.heap.size→(∃ r,W.heap[l]?=some (.loop r))→Kp W (W.putObj l ob)) (hb0:Below w0.heap.size w0 w) (hps:∀ x,(encs x).size=ps.size)
 (I:List α→Option Nat→World→Prop) (Ix:Code→List α→Option Nat→World→Prop) (hI:FarO w.heap.size I) (hIx:∀ c,FarO w.heap.size (Ix c)) (o₀:Option Nat) (ho₀:∀ b,o₀=some b→b<w.heap.size) (h0:I [] o₀ w)
 (Pr:α→World→Prop) (hPl:∀ x (W:World) (l:Nat) (ob:Obj),(∃ r,W.heap[l]?=some (.loop r))→Pr x W→Pr x (W.putObj l ob)) (t:TypeId) (cs:α→Array Value) (a₁:α→Nat→Act)
 (hassign:∀ (l:Nat) (pre:List α) (x:α) (o:Option Nat) (W:World) (K:Act→World→Prop),w.heap.size≤W.heap.size→(∀ b,o=some b→b<W.heap.size)→I pre o W→Ok x W→(∀ Bx W',SinceO w.heap.size o W W'→Kp W W'→I pre o W'→Blk W' Bx t (cs x)→some Bx≠o→w.heap.size≤Bx→Pr x W'→K (a₁ x Bx) W') →
  assign.wpIn (F.inRound l) (n - 1 - 1) P (Exit.then K (fun _ _ _=>False)) { tmps:=(ps.zip (encs x)).foldl (fun t (p,v)=>t.setIfInBounds p v) a.tmps,defers:=[] } W)
 (hrow:∀ pre o W,I pre o W→RowO o W) (hrowx:∀ c pre o W,Ix c pre o W→RowO o W)
 (hbody:∀ (l:Nat) (pre:List α) (x:α) (o:Option Nat) (Bx:Nat) (W:World),w.heap.size≤W.heap.size→I pre o W→Blk W Bx t (cs x)→some Bx≠o→w.heap.size≤Bx→Pr x W→pre.length<N →
  body.wpIn (F.inRound l) (n - 1 - 1) P (postO w.heap.size Kp I Ix (pre ++ [x]) o W) (a₁ x Bx) W)
 (hdone:∀ (D:Nat) (xs:List α) (o:Option Nat) (W:World),w.heap.size≤D→FreshO o₀ o w→S xs→I xs o W→W.heap[D]?=some (.deferred (some []))→some D≠o→Q .normal { a with defers:={ target:=.collected D,args:=#[] } :: a.defers } W)
 (hstop:∀ (D:Nat) (c:Code) (pre:List α) (o:Option Nat) (W:World),w.heap.size≤D→FreshO o₀ o w→Sp pre→Ix c pre o W→W.heap[D]?=some (.deferred (some []))→some D≠o→c.wpIn F n P Q { a with defers:={ target:=.collected D,args:=#[] } :: a.defers } W) :
 (Code.rangeFunc g ps assign body).wpIn F n P Q a w :=
 wpIn_rangeO hro h1 hg hFg eg hseq hKt hKb hb0 hps I Ix hI hIx o₀ ho₀ h0 (fun x o a' W=>∃ Bx,Blk W Bx t (cs x)∧some Bx≠o∧w.heap.size≤Bx∧Pr x W∧a'=a₁ x Bx)
  (fun x o a' W l ob r hl ⟨Bx,hb,hne,hle,hp,e⟩=>⟨Bx,(World.putObj_heap_other (fun e2=>by unfold Blk at hb;rw [e2,hl] at hb;cases hb)).trans hb,hne,hle,hPl _ _ _ _ ⟨r,hl⟩ hp,e⟩)
  (fun l pre x o W K hs hol hi hok hK=>hassign l pre x o W K hs hol hi hok fun Bx W' h2 h3 h4 h5 h6 h7 h8=>hK _ _ h2 h3 h4 ⟨Bx,h5,h6,h7,h8,rfl⟩) hrow hrowx
  (fun l pre x o a' W hs hi ⟨Bx,hb,hne,hle,hp,e⟩ hlt=>by subst e;exact hbody l pre x o Bx W hs hi hb hne hle hp hlt) hdone hstop

end Go.Proofs.YtcchjofjpflbhaaGreatDoor
