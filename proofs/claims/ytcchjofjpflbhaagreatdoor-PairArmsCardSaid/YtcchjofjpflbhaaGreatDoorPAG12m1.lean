/- -/
import Derived.Laws.StructEq
import Derived.Maps.OwnIn
import Derived.Test.YtcchjofjpflbhaaGreatDoorPAG11m1
import Derived.Test.YtcchjofjpflbhaaGreatDoorPAG12m5
set_option linter.unusedVariables false
set_option linter.unusedSimpArgs false
set_option maxRecDepth 100000
set_option maxHeartbeats 4000000
namespace Go.Proofs.YtcchjofjpflbhaaGreatDoor.T
open Go.RowKit Go.Shelf Go.Maps Go.Proofs.YtcchjofjpflbhaaGreatDoor.C Go.Proofs.YtcchjofjpflbhaaGreatDoor.E Go.Proofs.YtcchjofjpflbhaaGreatDoor.Ch
attribute [local go_sem] Oper.semAt_some

theorem pOrder_no2 (p a b:Int) (hno:p∉prm) (w:World) (hL:Laid w) :
 Calls Tryz.prog 19 #[.int .i64 p,.int .i64 a,.int .i64 b] w fun e w'=>e = .returned (.tuple #[.slice none 0 0,.int .i64 2])∧Below w.heap.size w w':=by
 obtain ⟨W2,hW2⟩:∃ x,((w.alloc (.cells #[.int .i64 p] 3)).alloc (.cells #[.int .i64 a] 3)).alloc (.cells #[.int .i64 b] 3)=x:=⟨_,rfl⟩
 have b0:Blk W2 (w.heap.size) 3 #[.int .i64 p]:=by rw [←hW2];exact ((Blk.new w _ _).alloc _).alloc _
 have b1:Blk W2 (w.heap.size+1) 3 #[.int .i64 a]:=by rw [←hW2];exact (Blk.second w _ _ _).alloc _
 have b2:Blk W2 (w.heap.size+1+1) 3 #[.int .i64 b]:=by rw [←hW2];exact Rg.Blk.at_ (Blk.new _ _ _) (by simp)
 have hBW:Below w.heap.size w W2:=by rw [←hW2];exact ((below_two w _ _)).alloc (by simp;omega) _
 obtain ⟨W2b,hW2b⟩:∃ x,w.heap.size=x:=⟨_,rfl⟩
 obtain ⟨W2c,hW2c⟩:∃ x,w.heap.size+1=x:=⟨_,rfl⟩
 obtain ⟨W2d,hW2d⟩:∃ x,w.heap.size+1+1=x:=⟨_,rfl⟩
 have HA:=Lib.hid (Pr.ans_A_no 2 57 #[.pointer (some ⟨w.heap.size,0,none⟩),.pointer (some ⟨w.heap.size+1,0,none⟩),.pointer (some ⟨w.heap.size+1+1,0,none⟩)] W2 (enter_pOrder1 _) (fun U hU hlt=>by
  have hBU:=below_in hBW hU
  have k0:=(b0.below hU b0.lt).one
  have k1:=(b1.below hU b1.lt).one
  have k2:=(b2.below hU b2.lt).one
  have HUL:=Lib.hid (fun (V:World) (hV:Below U.heap.size U V)=>hL.next (below_in hBU hV))
  have HLO:=Lib.hid (fun (V:World) (g:Nat) (hV:Below U.heap.size U V) (bE:Blk V g 3 #[.int .i64 a,.int .i64 b])=>Pr.losing_no2 p hno (some ⟨g,0,none⟩) 2 2 V (HUL.out V hV))
  have hBe:=below_one U (.cells #[.int .i64 a,.int .i64 b] 3)
  have bE:=Blk.new U 3 #[.int .i64 a,.int .i64 b]
  clear b0 b1 b2 hW2 hL hW2d hW2c hW2b hno
  go_enter Tryz.func57,Tryz.ntmps57
  go_wp2_with fail
  refine (HLO.out _ _ hBe bE).mono ?_
  rintro e w5 ⟨rfl,hB5⟩
  go_wp2_with fail
  exact ⟨rfl,rfl,below_in hBe hB5⟩))
 clear b0 b1 b2 hL hW2d hW2c hW2b
 go_enter Tryz.func19,Tryz.ntmps19
 have hmf:∀ (fn:Fn) (first cap:Array Value) (w:World),(Instr.makeFunc fn first cap).run Tryz.prog w = .ok (.func fn first cap) w:=fun _ _ _ _=>rfl
 go_wp2_with (go_at_call 56;refine HA.out.mono ?_;rintro e w1 ⟨rfl,hB1⟩)
 go_ret2
 exact ⟨rfl,below_in hBW hB1⟩
theorem pOrder_no4 (p a b:Int) (hp:p∈prm) (hno:¬ (0≤a∧a<b∧b<p)) (w:World) (hL:Laid w) :
 Calls Tryz.prog 19 #[.int .i64 p,.int .i64 a,.int .i64 b] w fun e w'=>e = .returned (.tuple #[.slice none 0 0,.int .i64 4])∧Below w.heap.size w w':=by
 obtain ⟨W2,hW2⟩:∃ x,((w.alloc (.cells #[.int .i64 p] 3)).alloc (.cells #[.int .i64 a] 3)).alloc (.cells #[.int .i64 b] 3)=x:=⟨_,rfl⟩
 have b0:Blk W2 (w.heap.size) 3 #[.int .i64 p]:=by rw [←hW2];exact ((Blk.new w _ _).alloc _).alloc _
 have b1:Blk W2 (w.heap.size+1) 3 #[.int .i64 a]:=by rw [←hW2];exact (Blk.second w _ _ _).alloc _
 have b2:Blk W2 (w.heap.size+1+1) 3 #[.int .i64 b]:=by rw [←hW2];exact Rg.Blk.at_ (Blk.new _ _ _) (by simp)
 have hBW:Below w.heap.size w W2:=by rw [←hW2];exact ((below_two w _ _)).alloc (by simp;omega) _
 obtain ⟨W2b,hW2b⟩:∃ x,w.heap.size=x:=⟨_,rfl⟩
 obtain ⟨W2c,hW2c⟩:∃ x,w.heap.size+1=x:=⟨_,rfl⟩
 obtain ⟨W2d,hW2d⟩:∃ x,w.heap.size+1+1=x:=⟨_,rfl⟩
 have HA:=Lib.hid (Pr.ans_A_no 4 57 #[.pointer (some ⟨w.heap.size,0,none⟩),.pointer (some ⟨w.heap.size+1,0,none⟩),.pointer (some ⟨w.heap.size+1+1,0,none⟩)] W2 (enter_pOrder1 _) (fun U hU hlt=>by
  have hBU:=below_in hBW hU
  have k0:=(b0.below hU b0.lt).one
  have k1:=(b1.below hU b1.lt).one
  have k2:=(b2.below hU b2.lt).one
  have HUL:=Lib.hid (fun (V:World) (hV:Below U.heap.size U V)=>hL.next (below_in hBU hV))
  obtain ⟨z,hz1,hz2,hz3⟩:=bad_pr hno
  have HLO:=Lib.hid (fun (V:World) (g:Nat) (hV:Below U.heap.size U V) (bE:Blk V g 3 #[.int .i64 a,.int .i64 b])=>Pr.losing_no p hp g [a,b] (by simp) z hz1 hz2 hz3 V (HUL.out V hV) bE.lt (two_cells bE))
  have hBe:=below_one U (.cells #[.int .i64 a,.int .i64 b] 3)
  have bE:=Blk.new U 3 #[.int .i64 a,.int .i64 b]
  clear b0 b1 b2 hW2 hL hW2d hW2c hW2b hno hp hz1 hz2 hz3
  go_enter Tryz.func57,Tryz.ntmps57
  go_wp2_with fail
  refine (HLO.out _ _ hBe bE).mono ?_
  rintro e w5 ⟨rfl,hB5⟩
  go_wp2_with fail
  exact ⟨rfl,rfl,below_in hBe hB5⟩))
 clear b0 b1 b2 hL hW2d hW2c hW2b
 go_enter Tryz.func19,Tryz.ntmps19
 have hmf:∀ (fn:Fn) (first cap:Array Value) (w:World),(Instr.makeFunc fn first cap).run Tryz.prog w = .ok (.func fn first cap) w:=fun _ _ _ _=>rfl
 go_wp2_with (go_at_call 56;refine HA.out.mono ?_;rintro e w1 ⟨rfl,hB1⟩)
 go_ret2
 exact ⟨rfl,below_in hBW hB1⟩
end Go.Proofs.YtcchjofjpflbhaaGreatDoor.T

namespace Go.Proofs.YtcchjofjpflbhaaGreatDoor.T
open Go.RowKit Go.Shelf Go.Maps Go.Proofs.YtcchjofjpflbhaaGreatDoor.C Go.Proofs.YtcchjofjpflbhaaGreatDoor.E Go.Proofs.YtcchjofjpflbhaaGreatDoor.Ch
attribute [local go_sem] Oper.semAt_some

theorem armOut_even (q x y:Int) (rs:List Int):(armOut q x y rs).length % 2=0:=by
 unfold armOut
 induction rs with
 | nil=>rfl
 | cons r t ih =>
   rw [List.flatMap_cons,List.length_append]
   have:(armTwo q x y r).length=0∨(armTwo q x y r).length=2:=by unfold armTwo;split <;> simp
   omega
theorem opIn_pushA2 {F:Fence} {nF:Nat} (w:World) {o:Oper} {a:Act} {K:Act→World→Prop} {QQ:Exit→Act→World→Prop} (s x:Operand)
 (ho:o.op = .call { callee:=.builtin .append,args:=#[s,x],argTypes:=#[23,23] })
 (base:Nat) (v:Value) (l:List (Int×Int)) (hs:a.eval s=v) (hown:OwnA w base v l) (g:Nat) (p q:Int×Int) (hx:a.eval x = .slice (some ⟨g,0,none⟩) 2 2) (hu:Blk w g 31 #[.int .i64 p.1,.int .i64 p.2,.int .i64 q.1,.int .i64 q.2])
 (hlen:l.length≤1000000) (hbase:base≤w.heap.size)
 (hK:∀ v' w',OwnA w' base v' (l ++ [p,q])→w.grownBy w' v.ownBlock→(v'.ownBlock=v.ownBlock∨v'.ownBlock=some w.heap.size)→K (a.put o.dst v') w'):Oper.wpIn F nF Tryz.prog o a w K QQ:=by
 obtain ⟨i,hi,hz0,hz1,hz2⟩:=info_parts Tryz.infoAt
 obtain ⟨v',w',hrun,r1,r2,_,r3⟩:=run_append_own_at (P:=Tryz.prog) w base 23 o.type 31 i (.agg #[.int .i64 0,.int .i64 0]) 2 16 Tryz.underlying23 hi hz0 hz1 hz2 rfl (by omega) v l.length (codeCells l) hown ⟨g,0,none⟩ 2 2 [.int .i64 p.1,.int .i64 p.2,.int .i64 q.1,.int .i64 q.2] rfl
  (by intro j y hy
      rw [addr_add,Nat.zero_add,hu.cell j,List.getElem?_toArray]
      exact hy)
  (by intro y hy;simp only [List.mem_cons,List.not_mem_nil,or_false] at hy;rcases hy with rfl | rfl | rfl | rfl <;> rfl) (by unfold maxLen;omega) (by omega) hbase
 unfold Oper.wpIn
 refine ⟨by simp [Oper.about,ho,resolve,Target.leads,Sem.run_pure],?_⟩
 rw [Oper.semAt_plain F _ _ (by rw [ho];intro c hc';cases hc')]
 simp [execOp,ho,resolve,invoke,builtin,hs,hx,hrun,Result.andThen,Oper.uponIn]
 refine hK v' w' ?_ r2 r3
 unfold OwnA
 rw [cc_app,List.length_append]
 exact r1
theorem refOrderP_any (p a b:Int) (hp:p∈prm) (ha:0≤a∧a<p) (hb:0≤b∧b<p) (hab:a≠b) (w:World) :
 Calls Tryz.prog 23 #[.int .i64 p,.int .i64 a,.int .i64 b] w fun e w'=>∃ u,e = .returned u∧OwnA w' w.heap.size u (orderP p a b)∧Below w.heap.size w w':=by
 have hpb:=prm_bounds hp
 obtain ⟨P,rfl⟩:∃ P:Nat,p=(P:Int):=⟨p.toNat,by omega⟩
 have H1:=Lib.hid (fun W=>refArm_any (P:=P) (Q:=P - 1) (by omega) hp a b hab ha hb W)
 have H2:=Lib.hid (fun W=>refArm_any (P:=P) (Q:=P - 1) (by omega) hp b a (fun e=>hab e.symm) hb ha W)
 have l1:(armP (P:Int) a b).length≤100:=armP_len hp
 have l2:(armP (P:Int) b a).length≤100:=armP_len hp
 have e1:(armP (P:Int) a b).length % 2=0:=armOut_even _ _ _ _
 have e2:(armP (P:Int) b a).length % 2=0:=armOut_even _ _ _ _
 unfold orderP
 generalize armP (P:Int) a b=l at *
 generalize armP (P:Int) b a=m at *
 generalize (P:Int)=p at *
 clear hp ha hb hab hpb
 go_enter Tryz.func23,Tryz.ntmps23
 go_wp2_with fail
 refine (H1.out _).mono ?_
 rintro e w1 ⟨u1,rfl,hu1,hB1⟩
 obtain ⟨A1,n1,c1,rfl⟩:=hu1.form
 obtain rfl:n1=l.length:=by obtain ⟨_,_,e,_⟩:=OwnA.reads hu1;injection e
 go_wp2_with fail
 refine (H2.out _).mono ?_
 rintro e w2 ⟨u2,rfl,hu2,hB2⟩
 obtain ⟨A2,n2,c2,rfl⟩:=hu2.form
 obtain rfl:n2=m.length:=by obtain ⟨_,_,e,_⟩:=OwnA.reads hu2;injection e
 have hr1:=Lib.hid (fun (V:World) (hV:Below w2.heap.size w2 V)=>(hu1.below hB2).below hV)
 have hr2:=Lib.hid (fun (V:World) (hV:Below w2.heap.size w2 V)=>hu2.below hV)
 have HBW:=Lib.hid (below_in hB1 hB2)
 have HLL:=Lib.hid (And.intro (And.intro l1 l2) (And.intro e1 e2))
 clear hu1 hu2 hB1 hB2 l1 l2 e1 e2
 go_wp2_with fail
 go_loopw [7,10] (fun v i wr=>∃ j:Nat,2 * j≤max l.length m.length+1∧i = .int .i64 ((2 * j:Nat):Int)∧OwnA wr w2.heap.size v (sbs l m j)∧Below w2.heap.size w2 wr) (fun _ i _=>max l.length m.length+2 - (intOf i).toNat)
 case atStart=>exact ⟨0,by omega,rfl,ownA_nil _ _,Below.refl _ _⟩
 case round =>
  obtain ⟨j,hj,rfl,hown,hBr⟩:=hrel
  have hLL:=HLL.out
  obtain ⟨vA,vn,vc,rfl⟩:=hown.form
  obtain ⟨t,ht⟩:∃ t,2 * j=t:=⟨_,rfl⟩
  have hw1:IntKind.i64.wrap ((t:Int)+1)=((t+1:Nat):Int):=by rw [IntWalk.i64_in _ (by omega)];omega
  have HQ:Hid ((sbs l m j).length≤1000000):=by unfold Hid;have:=sbs_len l m j;omega
  rw [ht]
  by_cases h1:t<l.length
  · have d1:decide ((t:Int)<(l.length:Int))=true:=decide_eq_true (by omega)
    go_wp2_with fail
    have hl0:0<l.length:=by omega
    obtain ⟨gp,hAp,hgbp,hglp,hcep⟩:=own_cells (hr1.out w2 (Below.refl _ _)) hl0
    subst hAp
    obtain ⟨xp,yp,hxyp,hccp⟩:=two_of l hLL.2.1 j (by omega)
    have q0:=hcep _ _ (hccp 0 _ rfl)
    have q1:=hcep _ _ (hccp 1 _ rfl)
    have q2:=hcep _ _ (hccp 2 _ rfl)
    have q3:=hcep _ _ (hccp 3 _ rfl)
    rw [ht] at q0 q1 q2 q3
    rw [show t * 2+2=(t+1) * 2 by omega] at q2
    rw [show t * 2+3=(t+1) * 2+1 by omega] at q3
    have HSS:Hid (∀ V,Below wr.heap.size wr V→(fun U:World=>U.cell? ⟨gp,t * 2,none⟩=some (.int .i64 xp.1)∧U.cell? ⟨gp,t * 2+1,none⟩=some (.int .i64 xp.2)∧U.cell? ⟨gp,(t+1) * 2,none⟩=some (.int .i64 yp.1)∧U.cell? ⟨gp,(t+1) * 2+1,none⟩=some (.int .i64 yp.2)) V):=fun V hV=>⟨nextc (nextc q0 hBr) hV,nextc (nextc q1 hBr) hV,nextc (nextc q2 hBr) hV,nextc (nextc q3 hBr) hV⟩
    have HSB:Hid (∀ V V',Below wr.heap.size wr V→V.grownBy V' (Value.slice vA vn vc).ownBlock→(fun U:World=>U.cell? ⟨gp,t * 2,none⟩=some (.int .i64 xp.1)∧U.cell? ⟨gp,t * 2+1,none⟩=some (.int .i64 xp.2)∧U.cell? ⟨gp,(t+1) * 2,none⟩=some (.int .i64 yp.1)∧U.cell? ⟨gp,(t+1) * 2+1,none⟩=some (.int .i64 yp.2)) V'):=fun V V' hV hgr=>by
     have h:=HSS.out V hV
     have hk:V'.heap[gp]?=V.heap[gp]?:=hgr.block gp (by have:=hBr.size;have:=hV.size;omega) (fun e=>by have:=hown.own_le gp e.symm;omega)
     exact ⟨(World.cell?_of_block (a:=⟨gp,t * 2,none⟩) hk).trans h.1,(World.cell?_of_block (a:=⟨gp,t * 2+1,none⟩) hk).trans h.2.1,(World.cell?_of_block (a:=⟨gp,(t+1) * 2,none⟩) hk).trans h.2.2.1,(World.cell?_of_block (a:=⟨gp,(t+1) * 2+1,none⟩) hk).trans h.2.2.2⟩
    have hBx:=(Below.refl wr.heap.size wr).drew
    have hS:=HSS.out _ hBx
    have i0:(0:Int)≤(t:Int):=by omega
    have i1:(t:Int)<(l.length:Int):=by omega
    have i2:(0:Int)≤(t:Int)+1:=by omega
    have i3:(t:Int)+1<(l.length:Int):=by omega
    refine (wpIn_wide (n:=9)).1 ?_
    refine wpIn_mono (region_HF (Q:=NoPanic _) (S:=(fun U:World=>U.cell? ⟨gp,t * 2,none⟩=some (.int .i64 xp.1)∧U.cell? ⟨gp,t * 2+1,none⟩=some (.int .i64 xp.2)∧U.cell? ⟨gp,(t+1) * 2,none⟩=some (.int .i64 yp.1)∧U.cell? ⟨gp,(t+1) * 2+1,none⟩=some (.int .i64 yp.2))) (by kernel_rfl) ?_) NoPanic.imp
    refine tkF (i:=0) (d:=35) (v:=.slice vA vn vc) (s:=hS) (c:=?_)
    simp only [ud9]
    refine tkF (i:=1) (d:=36) (v:=.slice (some ⟨gp,0,none⟩) l.length c1) (s:=hS) (c:=?_)
    simp only [ud9]
    refine tkF (i:=2) (d:=37) (v:=.int .i64 (t:Int)) (s:=hS) (c:=?_)
    simp only [ud9]
    refine tkF (i:=3) (d:=38) (v:=.pointer (some ⟨gp,t * 2,none⟩)) (s:=hS) (c:=?_)
    simp only [ud9]
    refine tkF (i:=4) (d:=39) (v:=.agg #[.int .i64 xp.1,.int .i64 xp.2]) (s:=hS) (c:=?_)
    simp only [ud9]
    refine tkF (i:=5) (d:=40) (v:=.slice (some ⟨gp,0,none⟩) l.length c1) (s:=hS) (c:=?_)
    simp only [ud9]
    refine tkF (i:=6) (d:=41) (v:=.int .i64 (t:Int)) (s:=hS) (c:=?_)
    simp only [ud9]
    refine tkF (i:=7) (d:=42) (v:=.int .i64 ((t+1:Nat):Int)) (s:=hS) (c:=?_)
    simp only [ud9]
    refine tkF (i:=8) (d:=43) (v:=.pointer (some ⟨gp,(t+1) * 2,none⟩)) (s:=hS) (c:=?_)
    simp only [ud9]
    refine tkF (i:=9) (d:=44) (v:=.agg #[.int .i64 yp.1,.int .i64 yp.2]) (s:=hS) (c:=?_)
    simp only [ud9]
    refine oneF (i:=10) (c:=?_)
    have hBe:Below wr.drew.heap.size wr.drew (wr.drew.alloc (.cells #[.int .i64 xp.1,.int .i64 xp.2,.int .i64 yp.1,.int .i64 yp.2] 31)):=below_one wr.drew _
    have bE:Blk (wr.drew.alloc (.cells #[.int .i64 xp.1,.int .i64 xp.2,.int .i64 yp.1,.int .i64 yp.2] 31)) wr.drew.heap.size 31 #[.int .i64 xp.1,.int .i64 xp.2,.int .i64 yp.1,.int .i64 yp.2]:=Blk.new wr.drew _ _
    have hXa:=below_in hBx hBe
    obtain ⟨wap,he⟩:∃ zz,(wr.drew.alloc (.cells #[.int .i64 xp.1,.int .i64 xp.2,.int .i64 yp.1,.int .i64 yp.2] 31))=zz:=⟨_,rfl⟩
    rw [he] at hBe bE hXa
    clear hS
    have hS:(fun U:World=>U.cell? ⟨gp,t * 2,none⟩=some (.int .i64 xp.1)∧U.cell? ⟨gp,t * 2+1,none⟩=some (.int .i64 xp.2)∧U.cell? ⟨gp,(t+1) * 2,none⟩=some (.int .i64 yp.1)∧U.cell? ⟨gp,(t+1) * 2+1,none⟩=some (.int .i64 yp.2)) wap:=HSS.out _ hXa
    gi_wp2
    (try rw [he])
    try (refine ⟨hS,?_⟩)
    refine oneF (i:=11) (c:=?_)
    refine opIn_pushA2 wap _ _ rfl w2.heap.size (.slice vA vn vc) _ rfl (hown.below hXa) wr.drew.heap.size xp yp rfl bE HQ.out (Nat.le_trans hBr.size (Nat.le_trans (by simp) hXa.size)) ?_
    intro v' wbp hobp hgr hor
    obtain ⟨vAp,vnp,vcp,rfl⟩:=hobp.form
    clear hS
    have hS:(fun U:World=>U.cell? ⟨gp,t * 2,none⟩=some (.int .i64 xp.1)∧U.cell? ⟨gp,t * 2+1,none⟩=some (.int .i64 xp.2)∧U.cell? ⟨gp,(t+1) * 2,none⟩=some (.int .i64 yp.1)∧U.cell? ⟨gp,(t+1) * 2+1,none⟩=some (.int .i64 yp.2)) wbp:=HSB.out _ _ hXa hgr
    gi_wp2_with fail
    try (refine ⟨hS,?_⟩)
    refine oneF (i:=12) (c:=?_)
    gi_wp2
    refine anyHF_done (by kernel_rfl) ?_ _
    refine NoPanic.normal ?_
    clear hS
    clear HSS HSB q0 q1 q2 q3 i0 i1 i2 i3 bE hBe hBx
    by_cases h2:t<m.length
    · have d2:decide ((t:Int)<(m.length:Int))=true:=decide_eq_true (by omega)
      have hBr2:=below_grown (below_in hBr hXa) hgr (Nat.le_trans hBr.size hXa.size) (fun g e=>hown.own_le g e)
      have HQ2:Hid ((sbs l m j ++ [xp,yp]).length≤1000000):=by unfold Hid;rw [List.length_append];have:=sbs_len l m j;simp only [List.length_cons,List.length_nil];omega
      clear hXa hgr hor
      go_wp2_with fail
      have hl0:0<m.length:=by omega
      obtain ⟨gq,hAq,hgbq,hglq,hceq⟩:=own_cells (hr2.out w2 (Below.refl _ _)) hl0
      subst hAq
      obtain ⟨xq,yq,hxyq,hccq⟩:=two_of m hLL.2.2 j (by omega)
      have q0:=hceq _ _ (hccq 0 _ rfl)
      have q1:=hceq _ _ (hccq 1 _ rfl)
      have q2:=hceq _ _ (hccq 2 _ rfl)
      have q3:=hceq _ _ (hccq 3 _ rfl)
      rw [ht] at q0 q1 q2 q3
      rw [show t * 2+2=(t+1) * 2 by omega] at q2
      rw [show t * 2+3=(t+1) * 2+1 by omega] at q3
      have HSS:Hid (∀ V,Below wbp.heap.size wbp V→(fun U:World=>U.cell? ⟨gq,t * 2,none⟩=some (.int .i64 xq.1)∧U.cell? ⟨gq,t * 2+1,none⟩=some (.int .i64 xq.2)∧U.cell? ⟨gq,(t+1) * 2,none⟩=some (.int .i64 yq.1)∧U.cell? ⟨gq,(t+1) * 2+1,none⟩=some (.int .i64 yq.2)) V):=fun V hV=>⟨nextc (nextc q0 hBr2) hV,nextc (nextc q1 hBr2) hV,nextc (nextc q2 hBr2) hV,nextc (nextc q3 hBr2) hV⟩
      have HSB:Hid (∀ V V',Below wbp.heap.size wbp V→V.grownBy V' (Value.slice vAp vnp vcp).ownBlock→(fun U:World=>U.cell? ⟨gq,t * 2,none⟩=some (.int .i64 xq.1)∧U.cell? ⟨gq,t * 2+1,none⟩=some (.int .i64 xq.2)∧U.cell? ⟨gq,(t+1) * 2,none⟩=some (.int .i64 yq.1)∧U.cell? ⟨gq,(t+1) * 2+1,none⟩=some (.int .i64 yq.2)) V'):=fun V V' hV hgr=>by
       have h:=HSS.out V hV
       have hk:V'.heap[gq]?=V.heap[gq]?:=hgr.block gq (by have:=hBr2.size;have:=hV.size;omega) (fun e=>by have:=hobp.own_le gq e.symm;omega)
       exact ⟨(World.cell?_of_block (a:=⟨gq,t * 2,none⟩) hk).trans h.1,(World.cell?_of_block (a:=⟨gq,t * 2+1,none⟩) hk).trans h.2.1,(World.cell?_of_block (a:=⟨gq,(t+1) * 2,none⟩) hk).trans h.2.2.1,(World.cell?_of_block (a:=⟨gq,(t+1) * 2+1,none⟩) hk).trans h.2.2.2⟩
      have hBx:=(Below.refl wbp.heap.size wbp).drew
      have hS:=HSS.out _ hBx
      have i0:(0:Int)≤(t:Int):=by omega
      have i1:(t:Int)<(m.length:Int):=by omega
      have i2:(0:Int)≤(t:Int)+1:=by omega
      have i3:(t:Int)+1<(m.length:Int):=by omega
      refine (wpIn_wide (n:=9)).1 ?_
      refine wpIn_mono (region_HF (Q:=NoPanic _) (S:=(fun U:World=>U.cell? ⟨gq,t * 2,none⟩=some (.int .i64 xq.1)∧U.cell? ⟨gq,t * 2+1,none⟩=some (.int .i64 xq.2)∧U.cell? ⟨gq,(t+1) * 2,none⟩=some (.int .i64 yq.1)∧U.cell? ⟨gq,(t+1) * 2+1,none⟩=some (.int .i64 yq.2))) (by kernel_rfl) ?_) NoPanic.imp
      refine tkF (i:=0) (d:=51) (v:=.slice vAp vnp vcp) (s:=hS) (c:=?_)
      simp only [ud9]
      refine tkF (i:=1) (d:=52) (v:=.slice (some ⟨gq,0,none⟩) m.length c2) (s:=hS) (c:=?_)
      simp only [ud9]
      refine tkF (i:=2) (d:=53) (v:=.int .i64 (t:Int)) (s:=hS) (c:=?_)
      simp only [ud9]
      refine tkF (i:=3) (d:=54) (v:=.pointer (some ⟨gq,t * 2,none⟩)) (s:=hS) (c:=?_)
      simp only [ud9]
      refine tkF (i:=4) (d:=55) (v:=.agg #[.int .i64 xq.1,.int .i64 xq.2]) (s:=hS) (c:=?_)
      simp only [ud9]
      refine tkF (i:=5) (d:=56) (v:=.slice (some ⟨gq,0,none⟩) m.length c2) (s:=hS) (c:=?_)
      simp only [ud9]
      refine tkF (i:=6) (d:=57) (v:=.int .i64 (t:Int)) (s:=hS) (c:=?_)
      simp only [ud9]
      refine tkF (i:=7) (d:=58) (v:=.int .i64 ((t+1:Nat):Int)) (s:=hS) (c:=?_)
      simp only [ud9]
      refine tkF (i:=8) (d:=59) (v:=.pointer (some ⟨gq,(t+1) * 2,none⟩)) (s:=hS) (c:=?_)
      simp only [ud9]
      refine tkF (i:=9) (d:=60) (v:=.agg #[.int .i64 yq.1,.int .i64 yq.2]) (s:=hS) (c:=?_)
      simp only [ud9]
      refine oneF (i:=10) (c:=?_)
      have hBe:Below wbp.drew.heap.size wbp.drew (wbp.drew.alloc (.cells #[.int .i64 xq.1,.int .i64 xq.2,.int .i64 yq.1,.int .i64 yq.2] 31)):=below_one wbp.drew _
      have bE:Blk (wbp.drew.alloc (.cells #[.int .i64 xq.1,.int .i64 xq.2,.int .i64 yq.1,.int .i64 yq.2] 31)) wbp.drew.heap.size 31 #[.int .i64 xq.1,.int .i64 xq.2,.int .i64 yq.1,.int .i64 yq.2]:=Blk.new wbp.drew _ _
      have hXa:=below_in hBx hBe
      obtain ⟨waq,he⟩:∃ zz,(wbp.drew.alloc (.cells #[.int .i64 xq.1,.int .i64 xq.2,.int .i64 yq.1,.int .i64 yq.2] 31))=zz:=⟨_,rfl⟩
      rw [he] at hBe bE hXa
      clear hS
      have hS:(fun U:World=>U.cell? ⟨gq,t * 2,none⟩=some (.int .i64 xq.1)∧U.cell? ⟨gq,t * 2+1,none⟩=some (.int .i64 xq.2)∧U.cell? ⟨gq,(t+1) * 2,none⟩=some (.int .i64 yq.1)∧U.cell? ⟨gq,(t+1) * 2+1,none⟩=some (.int .i64 yq.2)) waq:=HSS.out _ hXa
      gi_wp2
      (try rw [he])
      try (refine ⟨hS,?_⟩)
      refine oneF (i:=11) (c:=?_)
      refine opIn_pushA2 waq _ _ rfl w2.heap.size (.slice vAp vnp vcp) _ rfl (hobp.below hXa) wbp.drew.heap.size xq yq rfl bE HQ2.out (Nat.le_trans hBr2.size (Nat.le_trans (by simp) hXa.size)) ?_
      intro v' wbq hobq hgr hor
      obtain ⟨vAq,vnq,vcq,rfl⟩:=hobq.form
      clear hS
      have hS:(fun U:World=>U.cell? ⟨gq,t * 2,none⟩=some (.int .i64 xq.1)∧U.cell? ⟨gq,t * 2+1,none⟩=some (.int .i64 xq.2)∧U.cell? ⟨gq,(t+1) * 2,none⟩=some (.int .i64 yq.1)∧U.cell? ⟨gq,(t+1) * 2+1,none⟩=some (.int .i64 yq.2)) wbq:=HSB.out _ _ hXa hgr
      gi_wp2_with fail
      try (refine ⟨hS,?_⟩)
      refine oneF (i:=12) (c:=?_)
      gi_wp2
      refine anyHF_done (by kernel_rfl) ?_ _
      refine NoPanic.normal ?_
      clear hS
      have HN:=Lib.hid (sbs_next l m j)
      rw [hxyp,hxyq,←List.append_assoc] at HN
      go_wp2_with fail
      go_roundw
      case rel=>exact ⟨j+1,by omega,by congr 1;omega,by rw [HN.out];exact hobq,below_grown (below_in hBr2 hXa) hgr (Nat.le_trans hBr2.size hXa.size) (fun g e=>hobp.own_le g e)⟩
      case measure=>simp [intOf];omega
    · have d2:decide ((t:Int)<(m.length:Int))=false:=decide_eq_false (by omega)
      have hz:(m.drop (2 * j)).take 2 = []:=by rw [List.drop_eq_nil_of_le (by omega)];rfl
      have HN:=Lib.hid (sbs_next l m j)
      rw [hxyp,hz,List.append_nil] at HN
      go_wp2_with fail
      go_roundw
      case rel=>exact ⟨j+1,by omega,by congr 1;omega,by rw [HN.out];exact hobp,below_grown (below_in hBr hXa) hgr (Nat.le_trans hBr.size hXa.size) (fun g e=>hown.own_le g e)⟩
      case measure=>simp [intOf];omega
  · have d1:decide ((t:Int)<(l.length:Int))=false:=decide_eq_false (by omega)
    have hz:(l.drop (2 * j)).take 2 = []:=by rw [List.drop_eq_nil_of_le (by omega)];rfl
    by_cases h2:t<m.length
    · have d2:decide ((t:Int)<(m.length:Int))=true:=decide_eq_true (by omega)
      go_wp2_with fail
      have hl0:0<m.length:=by omega
      obtain ⟨gq,hAq,hgbq,hglq,hceq⟩:=own_cells (hr2.out w2 (Below.refl _ _)) hl0
      subst hAq
      obtain ⟨xq,yq,hxyq,hccq⟩:=two_of m hLL.2.2 j (by omega)
      have q0:=hceq _ _ (hccq 0 _ rfl)
      have q1:=hceq _ _ (hccq 1 _ rfl)
      have q2:=hceq _ _ (hccq 2 _ rfl)
      have q3:=hceq _ _ (hccq 3 _ rfl)
      rw [ht] at q0 q1 q2 q3
      rw [show t * 2+2=(t+1) * 2 by omega] at q2
      rw [show t * 2+3=(t+1) * 2+1 by omega] at q3
      have HSS:Hid (∀ V,Below wr.heap.size wr V→(fun U:World=>U.cell? ⟨gq,t * 2,none⟩=some (.int .i64 xq.1)∧U.cell? ⟨gq,t * 2+1,none⟩=some (.int .i64 xq.2)∧U.cell? ⟨gq,(t+1) * 2,none⟩=some (.int .i64 yq.1)∧U.cell? ⟨gq,(t+1) * 2+1,none⟩=some (.int .i64 yq.2)) V):=fun V hV=>⟨nextc (nextc q0 hBr) hV,nextc (nextc q1 hBr) hV,nextc (nextc q2 hBr) hV,nextc (nextc q3 hBr) hV⟩
      have HSB:Hid (∀ V V',Below wr.heap.size wr V→V.grownBy V' (Value.slice vA vn vc).ownBlock→(fun U:World=>U.cell? ⟨gq,t * 2,none⟩=some (.int .i64 xq.1)∧U.cell? ⟨gq,t * 2+1,none⟩=some (.int .i64 xq.2)∧U.cell? ⟨gq,(t+1) * 2,none⟩=some (.int .i64 yq.1)∧U.cell? ⟨gq,(t+1) * 2+1,none⟩=some (.int .i64 yq.2)) V'):=fun V V' hV hgr=>by
       have h:=HSS.out V hV
       have hk:V'.heap[gq]?=V.heap[gq]?:=hgr.block gq (by have:=hBr.size;have:=hV.size;omega) (fun e=>by have:=hown.own_le gq e.symm;omega)
       exact ⟨(World.cell?_of_block (a:=⟨gq,t * 2,none⟩) hk).trans h.1,(World.cell?_of_block (a:=⟨gq,t * 2+1,none⟩) hk).trans h.2.1,(World.cell?_of_block (a:=⟨gq,(t+1) * 2,none⟩) hk).trans h.2.2.1,(World.cell?_of_block (a:=⟨gq,(t+1) * 2+1,none⟩) hk).trans h.2.2.2⟩
      have hBx:=(Below.refl wr.heap.size wr).drew
      have hS:=HSS.out _ hBx
      have i0:(0:Int)≤(t:Int):=by omega
      have i1:(t:Int)<(m.length:Int):=by omega
      have i2:(0:Int)≤(t:Int)+1:=by omega
      have i3:(t:Int)+1<(m.length:Int):=by omega
      refine (wpIn_wide (n:=9)).1 ?_
      refine wpIn_mono (region_HF (Q:=NoPanic _) (S:=(fun U:World=>U.cell? ⟨gq,t * 2,none⟩=some (.int .i64 xq.1)∧U.cell? ⟨gq,t * 2+1,none⟩=some (.int .i64 xq.2)∧U.cell? ⟨gq,(t+1) * 2,none⟩=some (.int .i64 yq.1)∧U.cell? ⟨gq,(t+1) * 2+1,none⟩=some (.int .i64 yq.2))) (by kernel_rfl) ?_) NoPanic.imp
      refine tkF (i:=0) (d:=51) (v:=.slice vA vn vc) (s:=hS) (c:=?_)
      simp only [ud9]
      refine tkF (i:=1) (d:=52) (v:=.slice (some ⟨gq,0,none⟩) m.length c2) (s:=hS) (c:=?_)
      simp only [ud9]
      refine tkF (i:=2) (d:=53) (v:=.int .i64 (t:Int)) (s:=hS) (c:=?_)
      simp only [ud9]
      refine tkF (i:=3) (d:=54) (v:=.pointer (some ⟨gq,t * 2,none⟩)) (s:=hS) (c:=?_)
      simp only [ud9]
      refine tkF (i:=4) (d:=55) (v:=.agg #[.int .i64 xq.1,.int .i64 xq.2]) (s:=hS) (c:=?_)
      simp only [ud9]
      refine tkF (i:=5) (d:=56) (v:=.slice (some ⟨gq,0,none⟩) m.length c2) (s:=hS) (c:=?_)
      simp only [ud9]
      refine tkF (i:=6) (d:=57) (v:=.int .i64 (t:Int)) (s:=hS) (c:=?_)
      simp only [ud9]
      refine tkF (i:=7) (d:=58) (v:=.int .i64 ((t+1:Nat):Int)) (s:=hS) (c:=?_)
      simp only [ud9]
      refine tkF (i:=8) (d:=59) (v:=.pointer (some ⟨gq,(t+1) * 2,none⟩)) (s:=hS) (c:=?_)
      simp only [ud9]
      refine tkF (i:=9) (d:=60) (v:=.agg #[.int .i64 yq.1,.int .i64 yq.2]) (s:=hS) (c:=?_)
      simp only [ud9]
      refine oneF (i:=10) (c:=?_)
      have hBe:Below wr.drew.heap.size wr.drew (wr.drew.alloc (.cells #[.int .i64 xq.1,.int .i64 xq.2,.int .i64 yq.1,.int .i64 yq.2] 31)):=below_one wr.drew _
      have bE:Blk (wr.drew.alloc (.cells #[.int .i64 xq.1,.int .i64 xq.2,.int .i64 yq.1,.int .i64 yq.2] 31)) wr.drew.heap.size 31 #[.int .i64 xq.1,.int .i64 xq.2,.int .i64 yq.1,.int .i64 yq.2]:=Blk.new wr.drew _ _
      have hXa:=below_in hBx hBe
      obtain ⟨waq,he⟩:∃ zz,(wr.drew.alloc (.cells #[.int .i64 xq.1,.int .i64 xq.2,.int .i64 yq.1,.int .i64 yq.2] 31))=zz:=⟨_,rfl⟩
      rw [he] at hBe bE hXa
      clear hS
      have hS:(fun U:World=>U.cell? ⟨gq,t * 2,none⟩=some (.int .i64 xq.1)∧U.cell? ⟨gq,t * 2+1,none⟩=some (.int .i64 xq.2)∧U.cell? ⟨gq,(t+1) * 2,none⟩=some (.int .i64 yq.1)∧U.cell? ⟨gq,(t+1) * 2+1,none⟩=some (.int .i64 yq.2)) waq:=HSS.out _ hXa
      gi_wp2
      (try rw [he])
      try (refine ⟨hS,?_⟩)
      refine oneF (i:=11) (c:=?_)
      refine opIn_pushA2 waq _ _ rfl w2.heap.size (.slice vA vn vc) _ rfl (hown.below hXa) wr.drew.heap.size xq yq rfl bE HQ.out (Nat.le_trans hBr.size (Nat.le_trans (by simp) hXa.size)) ?_
      intro v' wbq hobq hgr hor
      obtain ⟨vAq,vnq,vcq,rfl⟩:=hobq.form
      clear hS
      have hS:(fun U:World=>U.cell? ⟨gq,t * 2,none⟩=some (.int .i64 xq.1)∧U.cell? ⟨gq,t * 2+1,none⟩=some (.int .i64 xq.2)∧U.cell? ⟨gq,(t+1) * 2,none⟩=some (.int .i64 yq.1)∧U.cell? ⟨gq,(t+1) * 2+1,none⟩=some (.int .i64 yq.2)) wbq:=HSB.out _ _ hXa hgr
      gi_wp2_with fail
      try (refine ⟨hS,?_⟩)
      refine oneF (i:=12) (c:=?_)
      gi_wp2
      refine anyHF_done (by kernel_rfl) ?_ _
      refine NoPanic.normal ?_
      clear hS
      have HN:=Lib.hid (sbs_next l m j)
      rw [hxyq,hz,List.nil_append] at HN
      go_wp2_with fail
      go_roundw
      case rel=>exact ⟨j+1,by omega,by congr 1;omega,by rw [HN.out];exact hobq,below_grown (below_in hBr hXa) hgr (Nat.le_trans hBr.size hXa.size) (fun g e=>hown.own_le g e)⟩
      case measure=>simp [intOf];omega
    · have d2:decide ((t:Int)<(m.length:Int))=false:=decide_eq_false (by omega)
      have hjj:j=(max l.length m.length+1) / 2:=by omega
      have hs2:=HBW.out.size
      go_wp2
      go_ret
      exact ⟨_,rfl,by unfold sideL;rw [←hjj];exact hown.less hs2,below_in HBW.out hBr⟩
end Go.Proofs.YtcchjofjpflbhaaGreatDoor.T
