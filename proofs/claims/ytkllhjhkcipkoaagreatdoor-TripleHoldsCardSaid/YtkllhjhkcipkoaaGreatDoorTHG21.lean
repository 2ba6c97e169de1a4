/- -/
import Derived.Test.YtkllhjhkcipkoaaGreatDoorTHG14
import Derived.Test.YtkllhjhkcipkoaaGreatDoorTHG18
set_option linter.unusedVariables false
set_option linter.unusedSimpArgs false
set_option maxRecDepth 100000
set_option maxHeartbeats 8000000
namespace Go.Proofs.YtkllhjhkcipkoaaGreatDoor.Tr
open Go.RowKit Go.Shelf Go.Maps Go.Proofs.YtkllhjhkcipkoaaGreatDoor.C Go.Proofs.YtkllhjhkcipkoaaGreatDoor.E Go.Proofs.YtkllhjhkcipkoaaGreatDoor.T Go.Proofs.YtkllhjhkcipkoaaGreatDoor.Rg
attribute [local go_sem] Oper.semAt_some

def ShRow (Q:Nat) (W:World) (base:Nat) (v:Value) (ks:List Int) (Ss:List (List (List UInt8))):Prop :=
 ∃ us:List Value,W.ownsRow base 94 2 v Ss.length us∧us.length=2 * Ss.length∧∀ j,j<Ss.length→∃ A c,us[2 * j]?=some (.slice A Q c)∧us[2 * j+1]?=some (byK (ks[j]?.getD 0))∧manyR.R (fun b=>b<W.heap.size∧some b≠v.ownBlock) W (.slice A Q c) (Ss[j]?.getD [])
theorem ShRow.nil (Q:Nat) (W:World) (base:Nat):ShRow Q W base (.slice none 0 0) [] []:=⟨[],World.ownsRow_nil W base _ 2,rfl,fun j hj=>absurd hj (Nat.not_lt_zero _)⟩
theorem ShRow.form {Q:Nat} {W:World} {base:Nat} {v:Value} {ks:List Int} {Ss:List (List (List UInt8))} (h:ShRow Q W base v ks Ss):∃ A n c,v = .slice A n c:=by
 obtain ⟨us,ho,_⟩:=h
 rcases ho.2 with ⟨h1,_⟩ | ⟨g,cap,cur,h1,_⟩
 · exact ⟨_,_,_,h1⟩
 · exact ⟨_,_,_,h1⟩
theorem ShRow.ownLt {Q:Nat} {W:World} {base:Nat} {v:Value} {ks:List Int} {Ss:List (List (List UInt8))} (h:ShRow Q W base v ks Ss):∀ b,v.ownBlock=some b→base≤b∧b<W.heap.size:=fun b e=>by
 obtain ⟨us,ho,_⟩:=h
 exact World.ownsRow.lt ho b e
theorem ShRow.below {Q:Nat} {W W':World} {base:Nat} {v:Value} {ks:List Int} {Ss:List (List (List UInt8))} (h:ShRow Q W base v ks Ss) (hb:Below W.heap.size W W'):ShRow Q W' base v ks Ss:=by
 obtain ⟨us,ho,hn,hr⟩:=h
 refine ⟨us,World.ownsRow.kept ho (grown_below hb (row:=none)) (by cases v.ownBlock <;> simp),hn,fun j hj=>?_⟩
 obtain ⟨A,c,h1,h2,h3⟩:=hr j hj
 exact ⟨A,c,h1,h2,manyR.imp (manyR.keep h3 fun b hb2=>hb.block b hb2.1) fun b hb2=>⟨Nat.lt_of_lt_of_le hb2.1 hb.size,hb2.2⟩⟩
theorem ShRow.push {Q:Nat} {W:World} {base:Nat} {v:Value} {ks:List Int} {Ss:List (List (List UInt8))} (h:ShRow Q W base v ks Ss) (hks:ks.length=Ss.length) (ty:TypeId) (g:Nat) (A:Option Addr) (c:Nat) (k:Int) (S:List (List UInt8)) (hg:Blk W g 94 #[.slice A Q c,byK k]) (hu:manyR.R (fun b=>b<W.heap.size∧some b≠v.ownBlock) W (.slice A Q c) S) (hlen:Ss.length≤1000) (hbase:base≤W.heap.size) :
 ∃ v' w',(Builtin.append_ #[101,101] ty #[v,.slice (some ⟨g,0,none⟩) 1 1]).run Tryz.prog W = .ok v' w'∧ShRow Q w' base v' (ks ++ [k]) (Ss ++ [S])∧W.grownBy w' v.ownBlock∧(v'.ownBlock=v.ownBlock∨v'.ownBlock=some W.heap.size):=by
 obtain ⟨us,ho,hn,hr⟩:=h
 obtain ⟨i,hi,hz0,hz1,hz2⟩:=info_parts Tryz.infoShr
 obtain ⟨v',w',hrun,r1,r2,_,r3⟩:=run_append_own_at (P:=Tryz.prog) W base 101 ty 94 i (.agg #[.slice none 0 0,.nilFunc]) 2 32 Tryz.underlying101 hi hz0 hz1 hz2 rfl (by omega) v Ss.length us ho ⟨g,0,none⟩ 1 1 [.slice A Q c,byK k] rfl
  (by intro j y hy
      rw [addr_add,Nat.zero_add,hg.cell j,List.getElem?_toArray]
      exact hy)
  (by intro y hy;simp only [List.mem_cons,List.not_mem_nil,or_false] at hy;rcases hy with rfl | rfl <;> rfl) (by unfold maxLen;omega) (by omega) hbase
 have hk:∀ {y:Value} {z:List (List UInt8)},manyR.R (fun b=>b<W.heap.size∧some b≠v.ownBlock) W y z→manyR.R (fun b=>b<w'.heap.size∧some b≠v'.ownBlock) w' y z:=fun {y z} hy =>
  manyR.imp (manyR.keep hy fun b hb=>r2.block b hb.1 hb.2) fun b hb=>⟨Nat.lt_of_lt_of_le hb.1 r2.size,by
   rcases r3 with e | e
   · rw [e];exact hb.2
   · rw [e];intro e2;injection e2 with e2;have:=hb.1;omega⟩
 refine ⟨v',w',hrun,⟨us ++ [.slice A Q c,byK k],by rw [List.length_append];exact r1,by rw [List.length_append,List.length_append,hn];simp only [List.length_cons,List.length_nil];omega,fun j hj=>?_⟩,r2,r3⟩
 rcases Nat.lt_or_ge j Ss.length with hlt | hge
 · obtain ⟨A2,c2,h1,h2,h3⟩:=hr j hlt
   refine ⟨A2,c2,?_,?_,?_⟩
   · rw [List.getElem?_append_left (by omega)];exact h1
   · rw [List.getElem?_append_left (by omega),List.getElem?_append_left (by omega)];exact h2
   · rw [List.getElem?_append_left hlt];exact hk h3
 · have hj2:j=Ss.length:=by rw [List.length_append] at hj;simp only [List.length_cons,List.length_nil] at hj;omega
   subst hj2
   refine ⟨A,c,?_,?_,?_⟩
   · rw [List.getElem?_append_right (by omega),hn,Nat.sub_self];rfl
   · rw [List.getElem?_append_right (by omega),hn,show 2 * Ss.length+1 - 2 * Ss.length=1 by omega,List.getElem?_append_right (by omega),hks,Nat.sub_self];rfl
   · rw [List.getElem?_append_right (by omega),Nat.sub_self];exact hk hu
theorem wpList_pushSh (w:World) {ops:Array Oper} {rest:List Oper} {o:Oper} {a:Act} {QQ:Exit→Act→World→Prop} (hgd:o.guard=none) (s x:Operand)
 (ho:o.op = .call { callee:=.builtin .append,args:=#[s,x],argTypes:=#[101,101] }) {Q base:Nat} {v:Value} {ks:List Int} {Ss:List (List (List UInt8))} (hs:a.eval s=v) (h:ShRow Q w base v ks Ss) (hks:ks.length=Ss.length) (g:Nat) (A:Option Addr) (c:Nat) (k:Int) (S:List (List UInt8)) (hx:a.eval x = .slice (some ⟨g,0,none⟩) 1 1) (hg:Blk w g 94 #[.slice A Q c,byK k]) (hu:manyR.R (fun b=>b<w.heap.size∧some b≠v.ownBlock) w (.slice A Q c) S) (hlen:Ss.length≤1000) (hbase:base≤w.heap.size)
 (hK:∀ v' w',ShRow Q w' base v' (ks ++ [k]) (Ss ++ [S])→w.grownBy w' v.ownBlock→(v'.ownBlock=v.ownBlock∨v'.ownBlock=some w.heap.size)→wpList Tryz.prog ops QQ rest (a.put o.dst v') w'):wpList Tryz.prog ops QQ (o :: rest) a w :=
 wpList_plain hgd fun K hK2=>by
  obtain ⟨v',w',hrun,h1,h2,h3⟩:=ShRow.push h hks o.type g A c k S hg hu hlen hbase
  unfold Oper.wp execOp
  simp only [ho,resolve,invoke,builtin,Sem.run_bind,Sem.run_pure,Result.andThen_ok,List.map_toArray,List.map_cons,List.map_nil,hs,hx,hrun]
  exact hK2 _ _ (hK v' w' h1 h2 h3)
theorem many_of_fresh {base:Nat} {W:World} {v:Value} {ls:List (List UInt8)} {P:Nat→Prop} (h:FreshMany base W v ls) (hp:∀ j,j<ls.length→0<(ls[j]?.getD []).length) (hP:∀ b,base≤b→b<W.heap.size→P b):manyR.R P W v ls:=manyR.imp (fresh_set h hp) fun b hb=>hP b hb.1.1 hb.1.2
theorem ltold_any {P Q n:Nat} (d:Dims P Q n) (m:Nat) (hm0:0<m) (hm3:m≤3) (b1 off1 N cap:Nat) (hN:N=P+3) (gr rc:Nat) (rs ks:List Int) (hrs:rs.length=m) (hks:ks.length=m) (hrk:∀ j,j<m→RoleK (rs[j]?.getD 0) (ks[j]?.getD 0)) (L:List Int) (hLm:L.length=m) (gl lc:Nat) (css:List (List (List UInt8))) (hcl:css.length=N) (hrole:∀ j,j<m→GoodC Q n (css[P+((rs[j]?.getD 0) - 2).toNat]?.getD [])) (hgood:∀ c:Nat,c<P→(c:Int)∉L→GoodC Q n (css[c]?.getD [])) (w:World) (hL:Laid w) (hgl:gl<w.heap.size) (hcell:∀ j,j<m→w.cell? ⟨gl,j,none⟩=some (.int .i64 (L[j]?.getD 0)))
 (hgr:gr<w.heap.size) (hrc:∀ j,j<m→w.cell? ⟨gr,j,none⟩=some (.int .i64 (rs[j]?.getD 0))) (hb1:b1<w.heap.size) (hC:∀ j,j<N→∃ u,w.cell? ⟨b1,off1+j,none⟩=some u∧Many w.heap.size w u (css[j]?.getD []))
 (ANS:List (List (List UInt8)))
 (hT:∀ (V:World) (gs mc:Nat),Below w.heap.size w V→m≤mc→gs<V.heap.size→(∀ j,j<m→∃ A c,V.cell? ⟨gs,2 * j,none⟩=some (.slice A Q c)∧V.cell? ⟨gs,2 * j+1,none⟩=some (byK (ks[j]?.getD 0))∧Many V.heap.size V (.slice A Q c) (shT P Q n css (css[P+((rs[j]?.getD 0) - 2).toNat]?.getD []) (ks[j]?.getD 0) L))→Calls Tryz.prog 59 #[.agg #[.int .i64 (P:Int),.slice (some ⟨gl,0,none⟩) m lc,.slice (some ⟨gs,0,none⟩) m mc]] V fun e w'=>∃ gc,e = .returned (.slice (some ⟨gc,0,none⟩) m m)∧Cols w'.heap.size w' (.slice (some ⟨gc,0,none⟩) m m) ANS∧Below V.heap.size V w') :
 Calls Tryz.prog 32 #[.agg #[.int .i64 (P:Int),.slice (some ⟨b1,off1,none⟩) N cap,.slice (some ⟨gr,0,none⟩) m rc,.slice (some ⟨gl,0,none⟩) m lc]] w fun e w'=>∃ gc,e = .returned (.slice (some ⟨gc,0,none⟩) m m)∧Cols w'.heap.size w' (.slice (some ⟨gc,0,none⟩) m m) ANS∧Below w.heap.size w w':=by
 have hpb:=prm_bounds d.hp
 obtain ⟨S,hS⟩:∃ S:Nat→List (List UInt8),(fun j=>shT P Q n css (css[P+((rs[j]?.getD 0) - 2).toNat]?.getD []) (ks[j]?.getD 0) L)=S:=⟨_,rfl⟩
 have HSj:Hid (∀ j,shT P Q n css (css[P+((rs[j]?.getD 0) - 2).toNat]?.getD []) (ks[j]?.getD 0) L=S j):=fun j=>by rw [←hS]
 have hpos:∀ j,j<m→∀ i,i<(S j).length→0<((S j)[i]?.getD []).length:=fun j hj=>by
  rw [←HSj.out]
  exact good_pos (sh_good (k:=ks[j]?.getD 0) d (hrole j hj) hgood) d.h1
 have HPO:=Lib.hid hpos
 have HSH:=Lib.hid (fun (j:Nat) (hj:j<m) (V:World) (hV:Below w.heap.size w V)=>(by
  have h:=share_any d _ _ (hrk j hj) b1 off1 N cap hN (some ⟨gr,0,none⟩) m rc L gl 0 lc (by omega) css hcl (hrole j hj) hgood V (hL.next hV) (Nat.lt_of_lt_of_le hgl hV.size) (fun i hi=>by rw [Nat.zero_add];exact (hV.cell (p:=⟨gl,i,none⟩) hgl).trans (hcell i (by omega))) (Nat.lt_of_lt_of_le hb1 hV.size) (fun i hi=>by
   obtain ⟨u,hu,hM⟩:=hC i hi
   exact ⟨u,(hV.cell (p:=⟨b1,off1+i,none⟩) hb1).trans hu,(hM.below hV).more hV.size⟩)
  rw [HSj.out,hLm] at h
  exact h:Calls Tryz.prog 51 #[.agg #[.int .i64 (P:Int),.slice (some ⟨b1,off1,none⟩) N cap,.slice (some ⟨gr,0,none⟩) m rc,.slice (some ⟨gl,0,none⟩) m lc],.int .i64 (rs[j]?.getD 0)] V fun e w'=>∃ A c,e = .returned (.agg #[.slice A Q c,byK (ks[j]?.getD 0)])∧FreshMany V.heap.size w' (.slice A Q c) (S j)∧Below V.heap.size V w'))
 have HT:=Lib.hid (fun (V:World) (gs mc:Nat) (h1:Below w.heap.size w V) (h2:m≤mc) (h3:gs<V.heap.size) (h4:∀ j,j<m→∃ A c,V.cell? ⟨gs,2 * j,none⟩=some (.slice A Q c)∧V.cell? ⟨gs,2 * j+1,none⟩=some (byK (ks[j]?.getD 0))∧Many V.heap.size V (.slice A Q c) (S j))=>hT V gs mc h1 h2 h3 (fun j hj=>by rw [HSj.out];exact h4 j hj))
 have HRC:=Lib.hid (fun (V:World) (hV:Below w.heap.size w V) (j:Nat) (hj:j<m)=>(hV.cell (p:=⟨gr,j,none⟩) hgr).trans (hrc j hj))
 obtain ⟨Ss,hSs⟩:∃ Ss:List (List (List UInt8)),(List.range m).map S=Ss:=⟨_,rfl⟩
 have HSS:Hid (Ss.length=m∧∀ j,j<m→Ss[j]?=some (S j)):=by
  unfold Hid
  rw [←hSs]
  exact ⟨by simp,fun j hj=>by rw [List.getElem?_map,List.getElem?_range hj];rfl⟩
 have HKS:=Lib.hid hks
 have HRS:Hid (∀ j,j<m→ks[j]?=some (ks[j]?.getD 0)):=fun j hj=>by rw [List.getElem?_eq_getElem (by omega)];rfl
 have b1_:=Blk.new w 67 #[.int .i64 (P:Int),.slice (some ⟨b1,off1,none⟩) N cap,.slice (some ⟨gr,0,none⟩) m rc,.slice (some ⟨gl,0,none⟩) m lc]
 have hB1:=below_one w (.cells #[.int .i64 (P:Int),.slice (some ⟨b1,off1,none⟩) N cap,.slice (some ⟨gr,0,none⟩) m rc,.slice (some ⟨gl,0,none⟩) m lc] 67)
 obtain ⟨w1,hw1⟩:∃ x,w.alloc (.cells #[.int .i64 (P:Int),.slice (some ⟨b1,off1,none⟩) N cap,.slice (some ⟨gr,0,none⟩) m rc,.slice (some ⟨gl,0,none⟩) m lc] 67)=x:=⟨_,rfl⟩
 rw [hw1] at b1_ hB1
 have HBB:=Lib.hid (And.intro b1_ hB1)
 have k0:=b1_.cell 0
 have k2:=b1_.cell 2
 have k3:=b1_.cell 3
 simp only [gz9] at k0 k2 k3
 clear hS hSs hpos hrk hrs hks hLm hcl hrole hgood hL hgl hcell hgr hrc hb1 hC hT d hN hpb b1_ hB1
 have HEN:Hid (∀ (wr:World) (vA:Option Addr) (vn vc:Nat),ShRow Q wr w1.heap.size (.slice vA vn vc) (ks.take m) (Ss.take m)→∃ gs mc,(Value.slice vA vn vc) = .slice (some ⟨gs,0,none⟩) m mc∧m≤mc∧gs<wr.heap.size∧∀ j,j<m→∃ A c,wr.cell? ⟨gs,2 * j,none⟩=some (.slice A Q c)∧wr.cell? ⟨gs,2 * j+1,none⟩=some (byK (ks[j]?.getD 0))∧Many wr.heap.size wr (.slice A Q c) (S j)):=fun wr vA vn vc h=>by
  obtain ⟨us,ho,hn,hr⟩:=h
  rw [List.take_of_length_le (by rw [HSS.out.1];exact Nat.le_refl _)] at ho hn hr
  rw [HSS.out.1] at ho hn hr
  obtain ⟨g,cp,e,hg1,hg2⟩:=World.ownsRow.form ho hm0
  have hcp:m≤cp:=by
   rcases ho.2 with ⟨_,h1⟩ | ⟨g2,cap2,cur,e2,_,_,hnc,_⟩
   · omega
   · rw [e] at e2;injection e2 with _ _ e3;omega
  refine ⟨g,cp,e,hcp,by omega,fun j hj=>?_⟩
  rw [e] at ho
  obtain ⟨A,c,h1,h2,h3⟩:=hr j hj
  refine ⟨A,c,?_,?_,?_⟩
  · rw [World.ownsRow.cellAt ho (2 * j) (by omega)];exact h1
  · rw [World.ownsRow.cellAt ho (2 * j+1) (by omega),h2,List.getElem?_take,if_pos hj]
  · rw [HSS.out.2 j hj] at h3
    exact manyR.imp h3 fun b hb=>hb.1
 go_enter Tryz.func32,Tryz.ntmps32
 go_wp2_with fail
 (try rw [hw1])
 go_loopw [3,9] (fun v i wr=>∃ (k:Nat) (vA:Option Addr) (vn vc:Nat),k≤m∧i = .int .i64 k∧v = .slice vA vn vc∧Hid (ShRow Q wr w1.heap.size (.slice vA vn vc) (ks.take k) (Ss.take k))∧Below w1.heap.size w1 wr) (fun _ i _=>m - (intOf i).toNat)
 case atStart=>exact ⟨0,none,0,0,Nat.zero_le _,rfl,rfl,Lib.hid (ShRow.nil _ _ _),Below.refl _ _⟩
 case round =>
  obtain ⟨k,vA,vn,vc,hk,rfl,rfl,HR,hBr⟩:=hrel
  by_cases hlt:k<m
  · have hdec:decide ((k:Int)<(m:Int))=true:=by simp;omega
    have i1:(0:Int)≤(k:Int):=by omega
    have i2:(k:Int)<(m:Int):=by omega
    have hBW:=below_in HBB.out.2 hBr
    have hcr:=HRC.out wr hBW k hlt
    have bz:=HBB.out.1.below hBr HBB.out.1.lt
    have q0:=bz.cell 0
    have q1:=bz.cell 1
    have q2:=bz.cell 2
    have q3:=bz.cell 3
    simp only [gz9] at q0 q1 q2 q3
    have HSK:=Lib.hid (HSH.out k hlt wr hBW)
    have HTK:Hid (ks.take (k+1)=ks.take k ++ [ks[k]?.getD 0]∧Ss.take (k+1)=Ss.take k ++ [S k]∧(ks.take k).length=(Ss.take k).length∧(Ss.take k).length≤1000):=by
     unfold Hid
     have hkl:k<ks.length:=by have:=HKS.out;omega
     have hsl:k<Ss.length:=by have:=HSS.out.1;omega
     have e1:=List.take_succ_eq_append_getElem hkl
     have e2:=List.take_succ_eq_append_getElem hsl
     have e3:=HSS.out.2 k hlt
     rw [List.getElem?_eq_getElem hsl] at e3
     injection e3 with e3
     refine ⟨by rw [e1,List.getElem?_eq_getElem hkl];rfl,by rw [e2,e3],by rw [List.length_take,List.length_take];omega,by rw [List.length_take];omega⟩
    obtain ⟨r,hr⟩:∃ r,rs[k]?.getD 0=r:=⟨_,rfl⟩
    obtain ⟨kk,hkk⟩:∃ r,ks[k]?.getD 0=r:=⟨_,rfl⟩
    rw [hr] at hcr HSK
    rw [hkk] at HSK HTK
    have HPK:=Lib.hid (HPO.out k hlt)
    obtain ⟨SK,hSK⟩:∃ x,S k=x:=⟨_,rfl⟩
    rw [hSK] at HSK HTK HPK
    clear hr hkk hSK k0 k2 k3 bz
    go_wp2_with (first
     | (go_at_call 51;refine HSK.out.mono ?_;rintro e w2 ⟨A,c,rfl,hF,hB2⟩)
     | (at_builtin;refine wpList_pushSh (Q:=Q) (base:=w1.heap.size) (v:=.slice vA vn vc) (ks:=ks.take k) (Ss:=Ss.take k) _ rfl _ _ rfl rfl (HR.out.below (below_in hB2 (below_one w2 (.cells #[.slice A Q c,byK kk] 94)))) HTK.out.2.2.1 w2.heap.size A c kk SK rfl (Blk.new w2 94 #[.slice A Q c,byK kk]) (many_of_fresh (hF.below (below_one w2 (.cells #[.slice A Q c,byK kk] 94))) HPK.out (fun b h1 h2=>⟨h2,fun e=>by have:=(HR.out.ownLt b e.symm).2;omega⟩)) HTK.out.2.2.2 (by have h1:=hBr.size;have h2:=hB2.size;simp;omega) ?_;intro v' w5 hrow5 hgr5 _;obtain ⟨A5,n5,c5,rfl⟩:=hrow5.form;rw [←HTK.out.1,←HTK.out.2.1] at hrow5;have HR5:=Lib.hid hrow5;have hB5:=(below_in hBr (below_in hB2 (below_one w2 (.cells #[.slice A Q c,byK kk] 94)))).grown hgr5 (by have h1:=hBr.size;have h2:=hB2.size;simp;omega) (fun r e=>(HR.out.ownLt r e).1);clear hrow5 hgr5))
    go_roundw
    case rel=>exact ⟨k+1,A5,n5,c5,by omega,by go_num,rfl,HR5,hB5⟩
    case measure=>simp [intOf];omega
  · obtain rfl:k=m:=by omega
    have e1:decide ((k:Int)<(k:Int))=false:=by simp
    have hBW:=below_in HBB.out.2 hBr
    have bz:=HBB.out.1.below hBr HBB.out.1.lt
    have q0:=bz.cell 0
    have q3:=bz.cell 3
    simp only [gz9] at q0 q3
    obtain ⟨gs,mc,e2,h1,h2,h3⟩:=HEN.out wr vA vn vc HR.out
    injection e2 with e2 e3 e4
    subst e2 e3 e4
    have HTT:=Lib.hid (HT.out wr gs vc hBW h1 h2 h3)
    clear h1 h3 k0 k2 k3 bz
    go_wp2_with (go_at_call 59;refine HTT.out.mono ?_;rintro e w2 ⟨gc,rfl,hC2,hB2⟩)
    go_ret
    exact ⟨gc,rfl,hC2,below_in hBW hB2⟩
end Go.Proofs.YtkllhjhkcipkoaaGreatDoor.Tr
