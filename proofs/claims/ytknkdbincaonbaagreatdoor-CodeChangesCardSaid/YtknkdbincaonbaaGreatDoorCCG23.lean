/- -/
import Derived.Test.YtknkdbincaonbaaGreatDoorCCG22
set_option linter.unusedVariables false
set_option linter.unusedSimpArgs false
set_option maxRecDepth 100000
set_option maxHeartbeats 4000000
namespace Go.Proofs.YtknkdbincaonbaaGreatDoor.Cd
open Go.RowKit Go.Shelf Go.Maps Go.Proofs.YtknkdbincaonbaaGreatDoor.C Go.Proofs.YtknkdbincaonbaaGreatDoor.E Go.Proofs.YtknkdbincaonbaaGreatDoor.Q
attribute [local go_sem] Oper.semAt_some

theorem two_many {W:World} {B g:Nat} {t:TypeId} {va vb:Value} {a b:List UInt8} (h:Blk W g t #[va,vb]) (h1:Bytes B W va a) (h2:Bytes B W vb b) (hg:g<B):Many B W (.slice (some ⟨g,0,none⟩) 2 2) [a,b]:=by
 refine ⟨some ⟨g,0,none⟩,2,rfl,by show 2≤2;omega,fun _=>⟨g,0,rfl,hg,fun j hj=>?_⟩⟩
 have hj2:j<2:=hj
 rcases (by omega:j=0∨j=1) with rfl | rfl
 · exact ⟨va,h.cell 0,h1⟩
 · exact ⟨vb,h.cell 1,h2⟩
theorem two_xor {a b:List UInt8} (hl:b.length=a.length) (h1:1≤a.length) (h64:a.length≤64):XorOk [a,b]∧xorOf [a,b]=xorB a b:=by
 refine ⟨⟨by simp,by show Cell a;unfold Cell;omega,fun j hj=>?_⟩,T.xorOf_two rfl hl⟩
 have hj2:j<2:=hj
 rcases (by omega:j=0∨j=1) with rfl | rfl
 · rfl
 · exact hl
theorem sep_later {P:Nat→Prop} {W:World} {v:Value} {css:List (List (List UInt8))} {X Y:Nat} (h:sepC.R P W v css) (hX:X<css.length) (hY:Y<(css[X]?.getD []).length) :
 ∃ b c cap capX,v = .slice (some ⟨b,0,none⟩) css.length cap∧P b∧P c∧W.cell? ⟨b,X,none⟩=some (.slice (some ⟨c,0,none⟩) (css[X]?.getD []).length capX)∧(∃ u,W.cell? ⟨c,Y,none⟩=some u∧BytesP P W u (cellOf_ css X Y))∧W.frozen? ⟨c,Y,none⟩=false∧b≠c ∧
  ∀ (V:World),Keeps P W V→∀ (N:Nat→Prop) u l,(∀ e,N e→¬ P e)→BytesP N V u l→sepC.R (fun e=>P e∨N e) (V.setCell ⟨c,Y,none⟩ u) v (setQ css X Y l):=by
 obtain ⟨A,cap,e,hc,hA⟩:=h
 obtain ⟨b,cs,rfl,hb,hB,Z,h1,h2,h3⟩:=hA (by omega)
 obtain ⟨uX,hu,hr⟩:=h3 X hX
 obtain ⟨A2,cap2,rfl,hc2,hA2⟩:=hr
 obtain ⟨c,cs2,rfl,hb2,hB2,Z2,k1,k2,k3⟩:=hA2 (by omega)
 obtain ⟨u0,hu0,hr0⟩:=k3 Y hY
 have hcb:c≠b:=(h2 X c hb2).2
 refine ⟨b,c,cap,cap2,e,hb,(h2 X c hb2).1,by rw [hB.cell X];exact hu,⟨u0,by rw [hB2.cell Y];exact hu0,BytesP.imp hr0 fun q hq=>(h2 X q (k2 Y q hq).1).1⟩,hB2.frozen Y,Ne.symm hcb,fun V hkk N u l hN hu2=>?_⟩
 replace hB:Blk V b 58 cs:=(hkk b hb).trans hB
 replace hB2:Blk V c 32 cs2:=(hkk c (h2 X c hb2).1).trans hB2
 replace h3:∀ j,j<css.length→∃ u,cs[j]?=some u∧sepM.R (Z j) V u (css[j]?.getD []):=fun j hj=>by obtain ⟨u1,g1,g2⟩:=h3 j hj;exact ⟨u1,g1,sepM.keep g2 fun q hq=>hkk q (h2 j q hq).1⟩
 replace k3:∀ j,j<(css[X]?.getD []).length→∃ u,cs2[j]?=some u∧BytesP (Z2 j) V u ((css[X]?.getD [])[j]?.getD []):=fun j hj=>by obtain ⟨u1,g1,g2⟩:=k3 j hj;exact ⟨u1,g1,BytesP.keep g2 fun q hq=>hkk q (h2 X q (k2 j q hq).1).1⟩
 have hk:∀ {Q:Nat→Prop},(∀ q,Q q→q≠c)→Keeps Q V (V.setCell ⟨c,Y,none⟩ u):=fun hq q hQ=>Below.heap_setCell V ⟨c,Y,none⟩ u q (hq q hQ)
 have hNc:∀ q,N q→q≠c:=fun q hq e=>hN q hq (by rw [e];exact (h2 X c hb2).1)
 have hlen:(setQ css X Y l).length=css.length:=List.length_set
 refine ⟨some ⟨b,0,none⟩,cap,by rw [hlen];exact e,by rw [hlen];exact hc,fun _=>⟨b,cs,rfl,.inl hb,Blk.far hB (by simpa using Ne.symm hcb) u,fun j q=>Z j q∨(j=X∧N q),?_,?_,?_⟩⟩
 · rintro i j q (hi | ⟨rfl,hi⟩) (hj | ⟨rfl,hj⟩)
   · exact h1 i j q hi hj
   · exact absurd (h2 i q hi).1 (hN q hj)
   · exact absurd (h2 j q hj).1 (hN q hi)
   · rfl
 · rintro j q (hz | ⟨rfl,hz⟩)
   · exact ⟨.inl (h2 j q hz).1,(h2 j q hz).2⟩
   · exact ⟨.inr hz,fun e=>hN q hz (by rw [e];exact hb)⟩
 · intro j hj
   rw [hlen] at hj
   by_cases hjX:j=X
   · subst hjX
     have ecol:(setQ css j Y l)[j]?.getD []=(css[j]?.getD []).set Y l:=by unfold setQ;rw [List.getElem?_set_self hj];rfl
     refine ⟨_,hu,?_⟩
     rw [ecol]
     have hlen2:((css[j]?.getD []).set Y l).length=(css[j]?.getD []).length:=List.length_set
     refine ⟨some ⟨c,0,none⟩,cap2,by rw [hlen2],by rw [hlen2];exact hc2,fun _=>⟨c,cs2.setIfInBounds Y u,rfl,.inl hb2,hB2.set_ Y u,fun i q=>(i≠Y∧Z2 i q)∨(i=Y∧N q),?_,?_,?_⟩⟩
     · rintro i i' q (⟨_,hi⟩ | ⟨rfl,hi⟩) (⟨_,hj2⟩ | ⟨rfl,hj2⟩)
       · exact k1 i i' q hi hj2
       · exact absurd (h2 j q (k2 i q hi).1).1 (hN q hj2)
       · exact absurd (h2 j q (k2 i' q hj2).1).1 (hN q hi)
       · rfl
     · rintro i q (⟨_,hz⟩ | ⟨_,hz⟩)
       · exact ⟨.inl (k2 i q hz).1,(k2 i q hz).2⟩
       · exact ⟨.inr ⟨rfl,hz⟩,hNc q hz⟩
     · intro i hi
       rw [hlen2] at hi
       have hsz:Y<cs2.size:=by
        rcases Nat.lt_or_ge Y cs2.size with h | h
        · exact h
        · rw [Array.getElem?_eq_none h] at hu0;cases hu0
       by_cases hiY:i=Y
       · subst hiY
         refine ⟨u,Array.getElem?_setIfInBounds_self_of_lt hsz,?_⟩
         rw [List.getElem?_set_self hi]
         exact BytesP.imp (BytesP.keep hu2 (hk hNc)) fun q hq=>.inr ⟨rfl,hq⟩
       · obtain ⟨u1,g1,g2⟩:=k3 i hi
         refine ⟨u1,by rw [Array.getElem?_setIfInBounds_ne (Ne.symm hiY)];exact g1,?_⟩
         rw [List.getElem?_set_ne (Ne.symm hiY)]
         exact BytesP.imp (BytesP.keep g2 (hk fun q hq=>(k2 i q hq).2)) fun q hq=>.inl ⟨hiY,hq⟩
   · obtain ⟨u1,g1,g2⟩:=h3 j hj
     have ecol:(setQ css X Y l)[j]?.getD []=css[j]?.getD []:=by unfold setQ;rw [List.getElem?_set_ne (Ne.symm hjX)]
     refine ⟨u1,g1,?_⟩
     rw [ecol]
     exact sepM.imp (sepM.keep g2 (hk fun q hq e=>hjX (h1 j X q hq (by rw [e];exact hb2)))) fun q hq=>.inl hq
theorem tou_len2 {k p x y:Int} (hR:RightC k p):(touL k p x y).length≤500:=by
 obtain ⟨p1,p2,s1,s2,m1,m2⟩:=hR.und
 have h1:=List.length_filter_le (fun m:Int×Int=>memB k p m.1 m.2 x y || memB k p m.1 m.2 (p - shortN k) y) (flatC p (spanL (p - shortN k) (p - shortN k+madeN k)))
 have h2:=flatC_len p hR.2 (spanL (p - shortN k) (p - shortN k+madeN k))
 rw [spanL_len] at h2
 unfold touL
 omega
theorem put_any (b c cap capX N R X Y:Nat) (old:Value) (uA:Option Addr) (un uc:Nat) (w:World) (hX:X<N) (hY:Y<R) (hb:b<w.heap.size) (hc:c<w.heap.size) (hbc:b≠c) (h1:w.cell? ⟨b,X,none⟩=some (.slice (some ⟨c,0,none⟩) R capX)) (h2:w.cell? ⟨c,Y,none⟩=some old) (h3:w.frozen? ⟨c,Y,none⟩=false) :
 Calls Tryz.prog 104 #[.slice (some ⟨b,0,none⟩) N cap,.agg #[.int .i64 (X:Int),.int .i64 (Y:Int)],.slice uA un uc] w fun e w'=>e = .returned (.tuple #[])∧∃ V,Below w.heap.size w V∧w'=V.setCell ⟨c,Y,none⟩ (.slice uA un uc):=by
 have hBz:=below_one w (.cells #[.int .i64 (X:Int),.int .i64 (Y:Int)] 53)
 have bz:=Blk.new w 53 #[.int .i64 (X:Int),.int .i64 (Y:Int)]
 obtain ⟨wb,hwb⟩:∃ wb,w.alloc (.cells #[.int .i64 (X:Int),.int .i64 (Y:Int)] 53)=wb:=⟨_,rfl⟩
 rw [hwb] at hBz bz
 have c0:=bz.cell 0
 have c1:=bz.cell 1
 simp only [gz9] at c0 c1
 have h1':=(hBz.cell (p:=⟨b,X,none⟩) hb).trans h1
 have h2':=(hBz.cell (p:=⟨c,Y,none⟩) hc).trans h2
 have h3':wb.frozen? ⟨c,Y,none⟩=false:=(hBz.frozen (p:=⟨c,Y,none⟩) hc).trans h3
 have i1:(0:Int)≤(X:Int):=by omega
 have i2:(X:Int)<(N:Int):=by omega
 have i3:(0:Int)≤(Y:Int):=by omega
 have i4:(Y:Int)<(R:Int):=by omega
 have hcz:c≠w.heap.size:=by omega
 have HST:Hid ((fun U:World=>U.cell? ⟨w.heap.size,0,none⟩=some (.int .i64 (X:Int))∧U.cell? ⟨w.heap.size,1,none⟩=some (.int .i64 (Y:Int))∧U.cell? ⟨b,X,none⟩=some (.slice (some ⟨c,0,none⟩) R capX)) (wb.drew.setCell ⟨c,Y,none⟩ (.slice uA un uc))):=by
  have hk:∀ q:Addr,q.block≠c→(wb.drew.setCell ⟨c,Y,none⟩ (.slice uA un uc)).cell? q=wb.cell? q:=fun q hq=>World.cell?_of_block ((Below.heap_setCell wb.drew ⟨c,Y,none⟩ (.slice uA un uc) q.block hq))
  exact ⟨(hk ⟨w.heap.size,0,none⟩ (Ne.symm hcz)).trans c0,(hk ⟨w.heap.size,1,none⟩ (Ne.symm hcz)).trans c1,(hk ⟨b,X,none⟩ hbc).trans h1'⟩
 clear h1 h2 h3 bz hX hY
 refine (callsIn_wide (n:=9)).1 ?_
 refine callsIn_of_wp_marks Tryz.func104 rfl trivial ?_ rfl
 simp only [Tryz.ntmps104,List.size_toArray,List.length_cons,List.length_nil,Nat.reduceAdd,Nat.reduceSub,Array.replicate_succ,Array.replicate_zero,List.push_toArray,List.append_toArray,List.nil_append,List.cons_append]
 gi_wp2_with fail
 have hS:(fun U:World=>U.cell? ⟨w.heap.size,0,none⟩=some (.int .i64 (X:Int))∧U.cell? ⟨w.heap.size,1,none⟩=some (.int .i64 (Y:Int))∧U.cell? ⟨b,X,none⟩=some (.slice (some ⟨c,0,none⟩) R capX)) wb.drew:=⟨c0,c1,h1'⟩
 have hD2:wb.drew.cell? ⟨c,Y,none⟩=some old:=h2'
 have hD3:wb.drew.frozen? ⟨c,Y,none⟩=false:=h3'
 refine wpIn_mono (region_HF (Q:=NoPanic _) (S:=(fun U:World=>U.cell? ⟨w.heap.size,0,none⟩=some (.int .i64 (X:Int))∧U.cell? ⟨w.heap.size,1,none⟩=some (.int .i64 (Y:Int))∧U.cell? ⟨b,X,none⟩=some (.slice (some ⟨c,0,none⟩) R capX))) (by kernel_rfl) ?_) NoPanic.imp
 refine tkF (i:=0) (d:=6) (v:=.slice (some ⟨b,0,none⟩) N cap) (s:=hS) (c:=?_)
 simp only [ud9]
 refine tkF (i:=1) (d:=7) (v:=.pointer (some ⟨w.heap.size,0,none⟩)) (s:=hS) (c:=?_)
 simp only [ud9]
 refine tkF (i:=2) (d:=8) (v:=.int .i64 (X:Int)) (s:=hS) (c:=?_)
 simp only [ud9]
 refine tkF (i:=3) (d:=9) (v:=.pointer (some ⟨b,X,none⟩)) (s:=hS) (c:=?_)
 simp only [ud9]
 refine tkF (i:=4) (d:=10) (v:=.slice (some ⟨c,0,none⟩) R capX) (s:=hS) (c:=?_)
 simp only [ud9]
 refine tkF (i:=5) (d:=11) (v:=.pointer (some ⟨w.heap.size,1,none⟩)) (s:=hS) (c:=?_)
 simp only [ud9]
 refine tkF (i:=6) (d:=12) (v:=.int .i64 (Y:Int)) (s:=hS) (c:=?_)
 simp only [ud9]
 refine tkF (i:=7) (d:=13) (v:=.slice uA un uc) (s:=hS) (c:=?_)
 simp only [ud9]
 refine tkF (i:=8) (d:=14) (v:=.pointer (some ⟨c,Y,none⟩)) (s:=hS) (c:=?_)
 simp only [ud9]
 refine oneF (i:=9) (c:=?_)
 gi_wp2_with fail
 try (refine ⟨HST.out,?_⟩)
 refine anyHF_done (by kernel_rfl) ?_ _
 refine NoPanic.normal ?_
 gi_wp2
 exact ⟨_,results_none rfl _ _ _,rfl,wb.drew,hBz.drew,rfl⟩
theorem changed_yes {B:Nat} (k p:Int) (v:Value) (s:List (List (List UInt8))) (x y:Int) (c:List UInt8) (vc:Value) (h:AllK k p s) (hc:c.length=(firstC s).length) (hx:0≤x∧x<p - shortN k) (hy:0≤y∧y<p - 1) (w:World) (hL:Laid w) (hB:B≤w.heap.size) (hC:Cols B w v s) (hb:Bytes B w vc c) :
 Calls Tryz.prog 63 #[.agg #[.int .i64 k,.int .i64 p,v],.agg #[.int .i64 x,.int .i64 y],vc] w fun e w'=>∃ A m cc A2 n2 c2,e = .returned (.agg #[.slice A m cc,.slice A2 n2 c2])∧sepC.R (fun b=>w.heap.size<b∧b<w'.heap.size) w' (.slice A m cc) (chgK k p s x y c)∧ReadP w'.heap.size w' (.slice A2 n2 c2) (touL k p x y)∧Below w.heap.size w w':=by
 have hst:=all_stripe h
 have hln:=all_len h
 have hfn:=right_n h.2
 have hgr:=right_grid h.2
 obtain ⟨p1,p2,hp,s1,s2,m1,m2⟩:=stripe_n hst
 obtain ⟨hin,hnd,hne⟩:=chg_list h.1.1 hx hy
 have hpc:=putL_chg hst hx hy hc
 obtain ⟨n,hn⟩:∃ n,(firstC s).length=n:=⟨_,rfl⟩
 rw [hn] at hc hst hfn hgr
 have hcx:(cellI s (x,y)).length=n:=(stripe_cell hst (z:=(x,y)) ⟨hx.1,by show x < _;omega⟩ hy).1
 obtain ⟨both,hbo⟩:∃ both,xorB (cellI s (x,y)) c=both:=⟨_,rfl⟩
 have hbl:both.length=n:=by rw [←hbo,xorB_len,hcx]
 rw [hbo] at hpc
 obtain ⟨A,cap,rfl,_,_⟩:=id hC
 obtain ⟨Ac,capc,rfl,_,_⟩:=id hb
 obtain ⟨N,hN⟩:∃ N,s.length=N:=⟨_,rfl⟩
 have htl:=tou_len2 (x:=x) (y:=y) h.1.1
 obtain ⟨xn,rfl⟩:∃ xn:Nat,x=(xn:Int):=⟨x.toNat,by omega⟩
 obtain ⟨yn,rfl⟩:∃ yn:Nat,y=(yn:Int):=⟨y.toNat,by omega⟩
 have hxs:xn<s.length:=by have:=hst.2.1;omega
 obtain ⟨W2,hW2⟩:∃ W2,(((w).alloc (.cells #[.int .i64 k,.int .i64 p,.slice A s.length cap] 76)).alloc (.cells #[.int .i64 (xn:Int),.int .i64 (yn:Int)] 53)).alloc (.cells #[.slice none 0 0,.slice none 0 0] 98)=W2:=⟨_,rfl⟩
 have hBW:Below w.heap.size w W2:=by rw [←hW2];exact (below_two w _ _).alloc (by simp;omega) _
 have S2:Hid (W2.heap.size=w.heap.size+3):=by unfold Hid;rw [←hW2];simp
 have b0:Blk W2 (w.heap.size) 76 #[.int .i64 k,.int .i64 p,.slice A s.length cap]:=by rw [←hW2];exact ((Blk.new (w) 76 #[.int .i64 k,.int .i64 p,.slice A s.length cap]).alloc (.cells #[.int .i64 (xn:Int),.int .i64 (yn:Int)] 53)).alloc (.cells #[.slice none 0 0,.slice none 0 0] 98)
 have b1:Blk W2 (w.heap.size+1) 53 #[.int .i64 (xn:Int),.int .i64 (yn:Int)]:=by rw [←hW2];exact (Blk.at_size (Blk.new ((w).alloc (.cells #[.int .i64 k,.int .i64 p,.slice A s.length cap] 76)) 53 #[.int .i64 (xn:Int),.int .i64 (yn:Int)]) (by simp)).alloc (.cells #[.slice none 0 0,.slice none 0 0] 98)
 have b2:Blk W2 (w.heap.size+2) 98 #[.slice none 0 0,.slice none 0 0]:=by rw [←hW2];exact Blk.at_size (Blk.new (((w).alloc (.cells #[.int .i64 k,.int .i64 p,.slice A s.length cap] 76)).alloc (.cells #[.int .i64 (xn:Int),.int .i64 (yn:Int)] 53)) 98 #[.slice none 0 0,.slice none 0 0]) (by simp)
 have hL2:=hL.next hBW
 have hC2:=hC.below (hBW.mono hB)
 have hb2:=hb.below (hBW.mono hB)
 have hB2:B≤W2.heap.size:=Nat.le_trans hB hBW.size
 have HLEN:=Lib.hid (length_any (.slice A s.length cap) s W2 hC2 (by omega) (by rw [(hst.2.2.1 0 (by omega)).1];omega))
 rw [hn] at HLEN
 have HT:=Lib.hid ((setsTouched_any k p (xn:Int) (yn:Int) W2 hL2).mono fun _ _ hh=>(⟨hh.2.2.1 h.1.1 ⟨⟨hx.1,by omega⟩,hy⟩ hx.2,hh.2.2.2⟩:_∧_))
 have HSS:Hid (∀ U,Below W2.heap.size W2 U→(fun U:World=>U.cell? ⟨w.heap.size,0,none⟩=some (.int .i64 k)∧U.cell? ⟨w.heap.size,1,none⟩=some (.int .i64 p)∧U.cell? ⟨w.heap.size,2,none⟩=some (.slice A N cap)∧U.cell? ⟨w.heap.size+1,0,none⟩=some (.int .i64 (xn:Int))∧U.cell? ⟨w.heap.size+1,1,none⟩=some (.int .i64 (yn:Int))) U):=by
  rw [←hN]
  exact fun U hU=>⟨(b0.below hU b0.lt).cell 0,(b0.below hU b0.lt).cell 1,(b0.below hU b0.lt).cell 2,(b1.below hU b1.lt).cell 0,(b1.below hU b1.lt).cell 1⟩
 have HCELL:=Lib.hid (fun (U:World) (hU:Below W2.heap.size W2 U)=>cell_any (B:=B) (.slice A s.length cap) s (p - 1).toNat n xn yn U (Nat.le_trans hB2 hU.size) (hC2.below (hU.mono hB2)) hst.2.2.1 hxs (by omega))
 have HUP:=Lib.hid (fun (U V:World) (ua:Value) (hU:Below W2.heap.size W2 U) (hV:Below U.heap.size U V) (hua:Bytes B U ua (cellI s ((xn:Int),(yn:Int)))) (bE:Blk V U.heap.size 32 #[ua,.slice Ac c.length capc])=>by
  have hUV:=below_in hU hV
  have hsz:=hUV.size
  have hx2:=two_xor (a:=cellI s ((xn:Int),(yn:Int))) (b:=c) (by rw [hcx,hc]) (by rw [hcx];exact hfn.1) (by rw [hcx];exact hfn.2)
  have hm:=upon_any (B:=V.heap.size) _ _ V (Nat.le_refl _) (two_many bE ((hua.below (hV.mono (Nat.le_trans hB2 hU.size))).more (Nat.le_trans hB2 hsz)) (((hb2.below (hUV.mono hB2))).more (Nat.le_trans hB2 hsz)) bE.lt) (by simp) hx2.1
  rw [hx2.2,hbo] at hm
  exact hm)
 have HCOP:=Lib.hid (fun (U:World) (hU:Below W2.heap.size W2 U)=>copied_any B (.slice A s.length cap) s U (Nat.le_trans hB2 hU.size) (hC2.below (hU.mono hB2)) (by omega) fun j i=>small_right h.2 j i)
 have HCL:Hid ((cellI s ((xn:Int),(yn:Int))).length=n):=hcx
 have HBL:=Lib.hid hbl
 rw [hc] at HUP hb hb2 ⊢
 rw [hN] at HLEN HCELL HCOP b0 hW2 hC hC2 hxs ⊢
 have c0:=b0.cell 0
 have c1:=b0.cell 1
 have c2:=b0.cell 2
 have c3:=b1.cell 0
 have c4:=b1.cell 1
 simp only [gz9] at c0 c1 c2 c3 c4
 have hnn:((n:Int) == (n:Int))=true:=by simp
 have HPC:=Lib.hid hpc
 have HIN:=Lib.hid hin
 have HST:=Lib.hid hst
 have HNE:=Lib.hid hne
 have HTL:=Lib.hid htl
 have HR2:Hid (1≤n∧n≤64):=hfn
 have HNS:=Lib.hid hN
 generalize touL k p (xn:Int) (yn:Int)=tl at *
 clear hC hC2 hb hb2 hpc hin hnd hne hst hln hfn hgr htl hcx hbl hbo hc hn hxs hN h hL hL2
 go_enter Tryz.func63,Tryz.ntmps63
 go_wp2_with (first
  | (go_at_call 87;refine HLEN.out.mono ?_;rintro e wz ⟨rfl,rfl⟩)
  | (go_at_call 72;refine (need_yes _).mono ?_;rintro e wz ⟨rfl,rfl⟩)
  | (go_at_call 101;refine HT.out.mono ?_;rintro e w1 ⟨⟨th,rfl,hth⟩,hB1⟩;obtain ⟨gh,capH,rfl,hgl,hch⟩:=id hth)
  | (go_at_call 100;refine (sureA _ _).mono ?_;rintro e wz ⟨rfl,rfl⟩))
 have hBW1:=hB1
 have HSR:Hid (∀ U,Below w1.heap.size w1 U→(fun U:World=>U.cell? ⟨w.heap.size,0,none⟩=some (.int .i64 k)∧U.cell? ⟨w.heap.size,1,none⟩=some (.int .i64 p)∧U.cell? ⟨w.heap.size,2,none⟩=some (.slice A N cap)∧U.cell? ⟨w.heap.size+1,0,none⟩=some (.int .i64 (xn:Int))∧U.cell? ⟨w.heap.size+1,1,none⟩=some (.int .i64 (yn:Int))) U):=fun U hU=>HSS.out U (below_in hBW1 hU)
 have HTH:=Lib.hid hth
 have HCH:=Lib.hid hch
 clear hth hch c0 c1 c2 c3 c4 hB1
 have hBx:Below w1.heap.size w1 w1.drew:=(Below.refl _ _).drew
 have hS:(fun U:World=>U.cell? ⟨w.heap.size,0,none⟩=some (.int .i64 k)∧U.cell? ⟨w.heap.size,1,none⟩=some (.int .i64 p)∧U.cell? ⟨w.heap.size,2,none⟩=some (.slice A N cap)∧U.cell? ⟨w.heap.size+1,0,none⟩=some (.int .i64 (xn:Int))∧U.cell? ⟨w.heap.size+1,1,none⟩=some (.int .i64 (yn:Int))) w1.drew:=HSR.out _ hBx
 refine (wpIn_wide (n:=12)).1 (wpIn_mono (region_HF (Q:=NoPanic _) (S:=(fun U:World=>U.cell? ⟨w.heap.size,0,none⟩=some (.int .i64 k)∧U.cell? ⟨w.heap.size,1,none⟩=some (.int .i64 p)∧U.cell? ⟨w.heap.size,2,none⟩=some (.slice A N cap)∧U.cell? ⟨w.heap.size+1,0,none⟩=some (.int .i64 (xn:Int))∧U.cell? ⟨w.heap.size+1,1,none⟩=some (.int .i64 (yn:Int)))) (by kernel_rfl) ?_) NoPanic.imp)
 refine tkF (i:=0) (d:=26) (v:=.pointer (some ⟨w.heap.size,2,none⟩)) (s:=hS) (c:=?_)
 simp only [ud9]
 refine tkF (i:=1) (d:=27) (v:=.slice A N cap) (s:=hS) (c:=?_)
 simp only [ud9]
 refine tkF (i:=2) (d:=28) (v:=.agg #[.int .i64 (xn:Int),.int .i64 (yn:Int)]) (s:=hS) (c:=?_)
 simp only [ud9]
 refine tkF (i:=4) (d:=30) (v:=.slice Ac n capc) (s:=hS) (c:=?_)
 simp only [ud9]
 refine tkF (i:=7) (d:=33) (v:=.pointer (some ⟨w.heap.size,2,none⟩)) (s:=hS) (c:=?_)
 simp only [ud9]
 refine tkF (i:=8) (d:=34) (v:=.slice A N cap) (s:=hS) (c:=?_)
 simp only [ud9]
 refine oneF (i:=3) (c:=?_)
 gi_wp2_with fail
 refine ⟨trivial,(callsIn_wide.2 (HCELL.out _ (below_in hBW1 hBx))).mono ?_⟩
 rintro e wn ⟨ua,rfl,hua,hB1⟩
 obtain ⟨aA,ac,hae,_,_⟩:=id hua
 rw [HCL.out] at hae
 subst hae
 replace hBx:=below_in hBx hB1
 clear hS
 have hS:(fun U:World=>U.cell? ⟨w.heap.size,0,none⟩=some (.int .i64 k)∧U.cell? ⟨w.heap.size,1,none⟩=some (.int .i64 p)∧U.cell? ⟨w.heap.size,2,none⟩=some (.slice A N cap)∧U.cell? ⟨w.heap.size+1,0,none⟩=some (.int .i64 (xn:Int))∧U.cell? ⟨w.heap.size+1,1,none⟩=some (.int .i64 (yn:Int))) wn:=HSR.out _ hBx
 gi_wp2
 try (refine ⟨hS,?_⟩)
 refine oneF (i:=5) (c:=?_)
 have hB3:Below wn.heap.size wn (wn.alloc (.cells #[.slice aA n ac,.slice Ac n capc] 32)):=below_one wn _
 have bE:Blk (wn.alloc (.cells #[.slice aA n ac,.slice Ac n capc] 32)) wn.heap.size 32 #[.slice aA n ac,.slice Ac n capc]:=Blk.new wn _ _
 obtain ⟨w3,hw3⟩:∃ w3,(wn.alloc (.cells #[.slice aA n ac,.slice Ac n capc] 32))=w3:=⟨_,rfl⟩
 rw [hw3] at hB3 bE
 have hup:=HUP.out wn w3 _ (below_in hBW1 hBx) hB3 hua bE
 replace hBx:=below_in hBx hB3
 clear hS
 have hS:(fun U:World=>U.cell? ⟨w.heap.size,0,none⟩=some (.int .i64 k)∧U.cell? ⟨w.heap.size,1,none⟩=some (.int .i64 p)∧U.cell? ⟨w.heap.size,2,none⟩=some (.slice A N cap)∧U.cell? ⟨w.heap.size+1,0,none⟩=some (.int .i64 (xn:Int))∧U.cell? ⟨w.heap.size+1,1,none⟩=some (.int .i64 (yn:Int))) w3:=HSR.out _ hBx
 gi_wp2
 try rw [hw3]
 try (refine ⟨hS,?_⟩)
 refine oneF (i:=6) (c:=?_)
 gi_wp2_with fail
 refine ⟨trivial,(callsIn_wide.2 (hup)).mono ?_⟩
 rintro e w4 ⟨ub,rfl,hub,hB4⟩
 obtain ⟨bA,bc,hbe,_,_⟩:=id hub
 rw [HBL.out] at hbe
 subst hbe
 replace hBx:=below_in hBx hB4
 clear hS
 have hS:(fun U:World=>U.cell? ⟨w.heap.size,0,none⟩=some (.int .i64 k)∧U.cell? ⟨w.heap.size,1,none⟩=some (.int .i64 p)∧U.cell? ⟨w.heap.size,2,none⟩=some (.slice A N cap)∧U.cell? ⟨w.heap.size+1,0,none⟩=some (.int .i64 (xn:Int))∧U.cell? ⟨w.heap.size+1,1,none⟩=some (.int .i64 (yn:Int))) w4:=HSR.out _ hBx
 gi_wp2
 try (refine ⟨hS,?_⟩)
 refine oneF (i:=9) (c:=?_)
 gi_wp2_with fail
 refine ⟨trivial,(callsIn_wide.2 (HCOP.out _ (below_in hBW1 hBx))).mono ?_⟩
 rintro e w5 ⟨oA,oc,rfl,hcop,hB5⟩
 have hBx4:=hBx
 replace hBx:=below_in hBx hB5
 clear hS
 have hS:(fun U:World=>U.cell? ⟨w.heap.size,0,none⟩=some (.int .i64 k)∧U.cell? ⟨w.heap.size,1,none⟩=some (.int .i64 p)∧U.cell? ⟨w.heap.size,2,none⟩=some (.slice A N cap)∧U.cell? ⟨w.heap.size+1,0,none⟩=some (.int .i64 (xn:Int))∧U.cell? ⟨w.heap.size+1,1,none⟩=some (.int .i64 (yn:Int))) w5:=HSR.out _ hBx
 gi_wp2
 try (refine ⟨hS,?_⟩)
 refine oneF (i:=10) (c:=?_)
 gi_wp2
 refine oneF (i:=11) (c:=?_)
 gi_wp2
 refine anyHF_done (by kernel_rfl) ?_ _
 refine NoPanic.normal ?_
 have hlo:w1.heap.size≤w4.heap.size:=hBx4.size
 have HBO:=Lib.hid (hub.bytes.below hB5)
 have HSEP0:=Lib.hid hcop
 have HT5:=Lib.hid (HTH.out.below hBx)
 obtain ⟨_,_,_,c3,c4⟩:=HSR.out _ hBx
 have HB45:=Lib.hid hB5
 have HB14:=Lib.hid hBx4
 have HB15:=Lib.hid hBx
 clear hS hub hcop hup bE hua hB5 hB4 hB3 hBx4 HCELL HUP HCOP HSS HCH
 obtain ⟨w6,hw6⟩:∃ w6,w5.alloc (.cells #[.int .i64 (xn:Int),.int .i64 (yn:Int)] 53)=w6:=⟨_,rfl⟩
 have hB56:Below w5.heap.size w5 w6:=by rw [←hw6];exact below_one w5 _
 have b6:Blk w6 w5.heap.size 53 #[.int .i64 (xn:Int),.int .i64 (yn:Int)]:=by rw [←hw6];exact Blk.new w5 _ _
 have S6:Hid (w6.heap.size=w5.heap.size+1):=by unfold Hid;rw [←hw6];simp
 obtain ⟨w7,hw7⟩:∃ w7,w6.alloc (.cells #[.slice (some ⟨w5.heap.size,0,none⟩) 1 1,.slice (some ⟨gh,0,none⟩) tl.length capH] 47)=w7:=⟨_,rfl⟩
 have hB67:Below w6.heap.size w6 w7:=by rw [←hw7];exact below_one w6 _
 have b7:Blk w7 w6.heap.size 47 #[.slice (some ⟨w5.heap.size,0,none⟩) 1 1,.slice (some ⟨gh,0,none⟩) tl.length capH]:=by rw [←hw7];exact Blk.new w6 _ _
 have b67:=b6.below hB67 b6.lt
 have hB57:=below_in hB56 hB67
 have HCC:Hid (Calls Tryz.prog 103 #[.slice (some ⟨w6.heap.size,0,none⟩) 2 2] w7 fun e w'=>∃ v',e = .returned v'∧OwnA w' w7.heap.size v' (((xn:Int),(yn:Int)) :: tl)∧Below w7.heap.size w7 w'):=by
  have h:=concatA_any (B:=w7.heap.size) w6.heap.size 0 2 [[((xn:Int),(yn:Int))],tl] (by simp) (by simp;have:=HTL.out;omega) w7 (Nat.le_refl _) b7.lt (fun j hj=>by
   have hj2:j<2:=hj
   rcases (by omega:j=0∨j=1) with rfl | rfl
   · refine ⟨_,b7.cell 0,w5.heap.size,1,rfl,b67.lt,fun i hi=>?_⟩
     have hi0:i=0:=by have:i<1:=hi;omega
     subst hi0
     exact ⟨b67.cell 0,b67.cell 1⟩
   · refine ⟨_,b7.cell 1,?_⟩
     obtain ⟨g9,cap9,e9,hg9,hc9⟩:=HT5.out
     have hs5:=HB15.out.size
     have hs57:=hB57.size
     refine ⟨g9,cap9,e9,by omega,fun i hi=>?_⟩
     have hgl5:g9<w5.heap.size:=by omega
     exact ⟨(hB57.cell (p:=⟨g9,i * 2,none⟩) hgl5).trans (hc9 i hi).1,(hB57.cell (p:=⟨g9,i * 2+1,none⟩) hgl5).trans (hc9 i hi).2⟩)
  rw [show ([[((xn:Int),(yn:Int))],tl]:List (List (Int×Int))).flatten=((xn:Int),(yn:Int)) :: tl by simp] at h
  exact h
 clear b6 b67 b7
 go_wp2_with (go_at_call 103;refine HCC.out.mono ?_;rintro e w8 ⟨u8,rfl,hu8,hB8⟩;obtain ⟨gl,capl,he8,hgl8,hgl8b⟩:=World.ownsRow.form hu8 (by simp);rw [he8] at hu8;obtain ⟨M,hM⟩:∃ M,(((xn:Int),(yn:Int)) :: tl).length=M:=⟨_,rfl⟩;rw [hM] at he8;rw [he8];clear he8)
 have HM:Hid ((((xn:Int),(yn:Int)) :: tl).length≤600):=by have:=HTL.out;unfold Hid;simp;omega
 have HM1:Hid (((xn:Int),(yn:Int)) :: tl≠[]):=List.cons_ne_nil _ _
 have HCELLS:Hid (∀ j (hj:j<(((xn:Int),(yn:Int)) :: tl).length),w8.cell? ⟨gl,j * 2,none⟩=some (.int .i64 ((((xn:Int),(yn:Int)) :: tl)[j]).1)∧w8.cell? ⟨gl,j * 2+1,none⟩=some (.int .i64 ((((xn:Int),(yn:Int)) :: tl)[j]).2)):=fun j hj=>by
  obtain ⟨pp,cp,e9,hc9⟩:=OwnA.readA hu8
  injection e9 with e9 _ _
  obtain ⟨g9,e10,_,hc10,hc11⟩:=hc9 j hj
  rw [←e9] at e10
  injection e10 with e10
  injection e10 with e10 _ _
  subst e10
  exact ⟨hc10,hc11⟩
 have HB48:Hid (Below w4.heap.size w4 w8):=HB45.out.trans ((below_in hB57 hB8).mono HB45.out.size)
 have HB58:Hid (Below w5.heap.size w5 w8):=below_in hB57 hB8
 have HGL:Hid (w5.heap.size≤gl∧gl<w8.heap.size):=by have h1:=hB57.size;exact ⟨by omega,hgl8b⟩
 have HLO:=Lib.hid hlo
 have HB18:Hid (Below w1.heap.size w1 w8):=below_in HB15.out (below_in hB57 hB8)
 have HT8:=Lib.hid (HTH.out.below HB18.out)
 have HSE8:Hid (sepC.R (fun q=>(w4.heap.size≤q∧q<w8.heap.size)∧q≠gl) w8 (.slice oA N oc) s):=sepC.imp (sepC.keep HSEP0.out fun q hq=>(below_in hB57 hB8).block q hq.2) fun q hq=>by
  have h1:w4.heap.size≤q∧q<w5.heap.size:=hq
  have h2:=(below_in hB57 hB8).size
  have h3:=hB57.size
  exact ⟨⟨h1.1,by omega⟩,by omega⟩
 clear hu8 hB8 hB57 hB56 hB67 hgl8 hgl8b HCC c3 c4 hw6 hw7 HTL hlo HSEP0 hBx HT5 HSR
 have HPT:=Lib.hid (fun z hz=>HIN.out z hz)
 generalize ((xn:Int),(yn:Int)) :: tl=Lp at *
 have HLM:=Lib.hid hM
 rw [hM] at HM
 clear hM
 go_wp2_with fail
 go_loopw [42] (fun i wr=>∃ j:Nat,j≤M∧i = .int .i64 j∧Hid (sepC.R (fun q=>(w4.heap.size≤q∧q<wr.heap.size)∧q≠gl) wr (.slice oA N oc) (putL both s (Lp.take j)))∧Hid (Below w4.heap.size w4 wr)∧Hid (w8.heap.size≤wr.heap.size)∧Hid (∀ j (hj:j<Lp.length),wr.cell? ⟨gl,j * 2,none⟩=some (.int .i64 (Lp[j]).1)∧wr.cell? ⟨gl,j * 2+1,none⟩=some (.int .i64 (Lp[j]).2))) (fun i _=>M - (intOf i).toNat)
 case atStart=>exact ⟨0,by omega,rfl,by rw [List.take_zero];exact HSE8,HB48,Lib.hid (Nat.le_refl _),HCELLS⟩
 case round =>
  obtain ⟨j,hj,rfl,HSP,HBR,HSZ,HCJ⟩:=hrel
  by_cases hlt:j<M
  · have hdec:decide ((j:Int)<(M:Int))=true:=by simp;omega
    have hjl:j<Lp.length:=by rw [HLM.out];exact hlt
    obtain ⟨d1,d2⟩:=HCJ.out j hjl
    have hzi:=HPT.out Lp[j] (List.getElem_mem hjl)
    have hstj:StripeK k p n (putL both s (Lp.take j)):=putL_ok _ HST.out fun z hz=>HPT.out z (List.mem_of_mem_take hz)
    have hnx:=putL_next (both:=both) s Lp j hjl
    generalize putL both s (Lp.take j)=cj at *
    obtain ⟨cj1,hcj1⟩:∃ cj1,putL both s (Lp.take (j+1))=cj1:=⟨_,rfl⟩
    rw [hcj1] at hnx
    have HC1:=Lib.hid hcj1
    clear hcj1
    obtain ⟨X,hX⟩:∃ X:Nat,(Lp[j]).1=(X:Int):=⟨(Lp[j]).1.toNat,by have:=hzi.1.1;omega⟩
    obtain ⟨Y,hY⟩:∃ Y:Nat,(Lp[j]).2=(Y:Int):=⟨(Lp[j]).2.toNat,by have:=hzi.2.1;omega⟩
    have hz:Lp[j]=((X:Int),(Y:Int)):=Prod.ext hX hY
    rw [hX] at d1
    rw [hY] at d2
    rw [hz] at hzi hnx
    clear hX hY hz
    have hcz:=stripe_cell hstj hzi.1 hzi.2
    have hXl:X<cj.length:=hcz.2.1
    have hYl:Y<(cj[X]?.getD []).length:=hcz.2.2
    have hYR:Y<(p - 1).toNat:=by have:=hzi.2.2;have h2:(Y:Int)<p - 1:=this;omega
    have hcols:Cols wr.heap.size wr (.slice oA N oc) cj:=colsR_iff.1 (colsR.imp (sepC_cols HSP.out) fun q hq=>hq.1.2)
    obtain ⟨bb,c7,cap7,capX,e7,hPb,hPc,hc1,⟨old,hc2,_⟩,hfr,hbc,hlater⟩:=sep_later HSP.out hXl hYl
    have hNl:N=cj.length:=by injection e7
    obtain ⟨hoA,hoc⟩:oA=some ⟨bb,0,none⟩∧oc=cap7:=by injection e7 with e8 _ e9;exact ⟨e8,e9⟩
    have hby:(cellI cj ((X:Int),(Y:Int))).length=n:=hcz.1
    have hlen7:(cj[X]?.getD []).length=(p - 1).toNat:=(hstj.2.2.1 X hXl).1
    rw [hlen7] at hc1
    have i1:(0:Int)≤(j:Int):=by omega
    have i2:(j:Int)<(M:Int):=by omega
    obtain ⟨V0,hV0⟩:∃ V0,wr.alloc (.cells #[.int .i64 (X:Int),.int .i64 (Y:Int)] 53)=V0:=⟨_,rfl⟩
    have hB0:Below wr.heap.size wr V0:=by rw [←hV0];exact below_one wr _
    have bV:Blk V0 wr.heap.size 53 #[.int .i64 (X:Int),.int .i64 (Y:Int)]:=by rw [←hV0];exact Blk.new wr _ _
    have HS7:Hid (∀ U,Below V0.heap.size V0 U→(fun U:World=>U.cell? ⟨wr.heap.size,0,none⟩=some (.int .i64 (X:Int))∧U.cell? ⟨wr.heap.size,1,none⟩=some (.int .i64 (Y:Int))) U):=fun U hU=>⟨(bV.below hU bV.lt).cell 0,(bV.below hU bV.lt).cell 1⟩
    have hPc2:c7<wr.heap.size:=hPc.1.2
    have HS7S:Hid (∀ V u,Below V0.heap.size V0 V→(fun U:World=>U.cell? ⟨wr.heap.size,0,none⟩=some (.int .i64 (X:Int))∧U.cell? ⟨wr.heap.size,1,none⟩=some (.int .i64 (Y:Int))) (V.setCell ⟨c7,Y,none⟩ u)):=fun V u hV=>by
     have hk:∀ q:Addr,q.block≠c7→(V.setCell ⟨c7,Y,none⟩ u).cell? q=V.cell? q:=fun q hq=>World.cell?_of_block (Below.heap_setCell V ⟨c7,Y,none⟩ u q.block hq)
     have h1:=HS7.out V hV
     have h2:wr.heap.size≠c7:=by omega
     exact ⟨(hk ⟨wr.heap.size,0,none⟩ h2).trans h1.1,(hk ⟨wr.heap.size,1,none⟩ h2).trans h1.2⟩
    have HCE:=Lib.hid (fun (U:World) (hU:Below V0.heap.size V0 U)=>by
     have hU2:=below_in hB0 hU
     exact cell_any (B:=wr.heap.size) (.slice oA N oc) cj (p - 1).toNat n X Y U hU2.size (hcols.below hU2) hstj.2.2.1 hXl hYR)
    have HCLn:=Lib.hid hby
    have HBOR:Hid (Bytes w4.heap.size wr (.slice bA n bc) both):=by
     have hb4:Bytes w4.heap.size w4 (.slice bA n bc) both:=by
      obtain ⟨A9,c9,e9,h9,h10⟩:=HBO.out
      refine ⟨A9,c9,e9,h9,fun hp0=>?_⟩
      obtain ⟨b9,o9,e11,h11,h12⟩:=h10 hp0
      exact ⟨b9,o9,e11,h11,fun i hi=>((HB45.out.cell (p:=⟨b9,o9+i,none⟩) h11).symm.trans (h12 i hi))⟩
     exact hb4.below HBR.out
    have hw4r:w4.heap.size≤wr.heap.size:=HBR.out.size
    have HUP7:=Lib.hid (fun (U V:World) (ua:Value) (hU:Below V0.heap.size V0 U) (hV:Below U.heap.size U V) (hua:Bytes wr.heap.size U ua (cellI cj ((X:Int),(Y:Int)))) (bE:Blk V U.heap.size 32 #[ua,.slice bA n bc])=>by
     have hUV:=below_in (below_in hB0 hU) hV
     have hsz:=hUV.size
     have hU0:=(below_in hB0 hU).size
     have hx2:=two_xor (a:=cellI cj ((X:Int),(Y:Int))) (b:=both) (by rw [hby];exact HBL.out) (by rw [hby];exact HR2.out.1) (by rw [hby];exact HR2.out.2)
     have hm:=upon_any (B:=V.heap.size) _ _ V (Nat.le_refl _) (two_many bE ((hua.below (hV.mono hU0)).more hsz) ((HBOR.out.below (hUV.mono hw4r)).more (Nat.le_trans hw4r hsz)) bE.lt) (by simp) hx2.1
     rw [hx2.2] at hm
     exact hm)
    have HUL:Hid ((xorB (cellI cj ((X:Int),(Y:Int))) both).length=n):=by unfold Hid;rw [xorB_len,hby]
    have HPUT:=Lib.hid (fun (U:World) (uA:Option Addr) (ucp:Nat) (hU:Below V0.heap.size V0 U)=>by
     have hU2:=below_in hB0 hU
     have hus:=hU2.size
     have hpb:bb<wr.heap.size:=hPb.1.2
     have h:=put_any bb c7 cap7 capX N (p - 1).toNat X Y old uA n ucp U (by rw [hNl];exact hXl) hYR (by omega) (by omega) hbc ((hU2.cell (p:=⟨bb,X,none⟩) hpb).trans hc1) ((hU2.cell (p:=⟨c7,Y,none⟩) hPc2).trans hc2) ((hU2.frozen (p:=⟨c7,Y,none⟩) hPc2).trans hfr)
     rw [←hoA,←hoc] at h
     exact h)
    have HLAT:=Lib.hid hlater
    have HNX:=Lib.hid hnx
    have HPC7:=Lib.hid hPc
    have HB0:=Lib.hid hB0
    have HSV:Hid (V0.heap.size=wr.heap.size+1):=by unfold Hid;rw [←hV0];simp
    clear hlater hnx hcols hstj hzi hcz hc1 hc2 hfr e7 hPb hPc hB0 HSP hby hlen7 hNl hoA hoc bV hXl hYl hYR hbc hPc2
    go_wp2_with fail
    have hBx:Below V0.heap.size V0 V0.drew:=(Below.refl _ _).drew
    have hS:(fun U:World=>U.cell? ⟨wr.heap.size,0,none⟩=some (.int .i64 (X:Int))∧U.cell? ⟨wr.heap.size,1,none⟩=some (.int .i64 (Y:Int))) V0.drew:=HS7.out _ hBx
    clear d1 d2
    refine (wpIn_wide (n:=12)).1 (wpIn_mono (region_HF (Q:=NoPanic _) (S:=(fun U:World=>U.cell? ⟨wr.heap.size,0,none⟩=some (.int .i64 (X:Int))∧U.cell? ⟨wr.heap.size,1,none⟩=some (.int .i64 (Y:Int)))) (by kernel_rfl) ?_) NoPanic.imp)
    refine tkF (i:=0) (d:=46) (v:=.slice oA N oc) (s:=hS) (c:=?_)
    simp only [ud9]
    refine tkF (i:=1) (d:=47) (v:=.agg #[.int .i64 (X:Int),.int .i64 (Y:Int)]) (s:=hS) (c:=?_)
    simp only [ud9]
    refine tkF (i:=2) (d:=48) (v:=.slice oA N oc) (s:=hS) (c:=?_)
    simp only [ud9]
    refine tkF (i:=3) (d:=49) (v:=.agg #[.int .i64 (X:Int),.int .i64 (Y:Int)]) (s:=hS) (c:=?_)
    simp only [ud9]
    refine tkF (i:=5) (d:=51) (v:=.slice bA n bc) (s:=hS) (c:=?_)
    simp only [ud9]
    refine oneF (i:=4) (c:=?_)
    gi_wp2_with fail
    refine ⟨trivial,(callsIn_wide.2 (HCE.out _ hBx)).mono ?_⟩
    rintro e wp7 ⟨uc,rfl,huc,hB1⟩
    obtain ⟨cA,cc,hce,_,_⟩:=id huc
    rw [HCLn.out] at hce
    subst hce
    replace hBx:=below_in hBx hB1
    clear hS
    have hS:(fun U:World=>U.cell? ⟨wr.heap.size,0,none⟩=some (.int .i64 (X:Int))∧U.cell? ⟨wr.heap.size,1,none⟩=some (.int .i64 (Y:Int))) wp7:=HS7.out _ hBx
    gi_wp2
    try (refine ⟨hS,?_⟩)
    refine oneF (i:=6) (c:=?_)
    have hB3:Below wp7.heap.size wp7 (wp7.alloc (.cells #[.slice cA n cc,.slice bA n bc] 32)):=below_one wp7 _
    have bE:Blk (wp7.alloc (.cells #[.slice cA n cc,.slice bA n bc] 32)) wp7.heap.size 32 #[.slice cA n cc,.slice bA n bc]:=Blk.new wp7 _ _
    obtain ⟨wq7,hw3⟩:∃ w3,(wp7.alloc (.cells #[.slice cA n cc,.slice bA n bc] 32))=w3:=⟨_,rfl⟩
    rw [hw3] at hB3 bE
    have hup:=HUP7.out wp7 wq7 _ hBx hB3 huc bE
    have hsn:=hBx.size
    have hsn3:=hB3.size
    replace hBx:=below_in hBx hB3
    clear hS
    have hS:(fun U:World=>U.cell? ⟨wr.heap.size,0,none⟩=some (.int .i64 (X:Int))∧U.cell? ⟨wr.heap.size,1,none⟩=some (.int .i64 (Y:Int))) wq7:=HS7.out _ hBx
    gi_wp2
    try rw [hw3]
    try (refine ⟨hS,?_⟩)
    refine oneF (i:=7) (c:=?_)
    gi_wp2_with fail
    refine ⟨trivial,(callsIn_wide.2 (hup)).mono ?_⟩
    rintro e wr7 ⟨ub,rfl,hub,hB4⟩
    obtain ⟨uA,ucp,hbe,_,_⟩:=id hub
    rw [HUL.out] at hbe
    subst hbe
    replace hBx:=below_in hBx hB4
    clear hS
    have hS:(fun U:World=>U.cell? ⟨wr.heap.size,0,none⟩=some (.int .i64 (X:Int))∧U.cell? ⟨wr.heap.size,1,none⟩=some (.int .i64 (Y:Int))) wr7:=HS7.out _ hBx
    gi_wp2
    try (refine ⟨hS,?_⟩)
    refine oneF (i:=8) (c:=?_)
    gi_wp2_with fail
    refine ⟨trivial,(callsIn_wide.2 (HPUT.out wr7 uA ucp hBx)).mono ?_⟩
    rintro e w5 ⟨rfl,V,hBV,rfl⟩
    have hBx5:=below_in hBx hBV
    clear hS
    have hS:(fun U:World=>U.cell? ⟨wr.heap.size,0,none⟩=some (.int .i64 (X:Int))∧U.cell? ⟨wr.heap.size,1,none⟩=some (.int .i64 (Y:Int))) (V.setCell ⟨c7,Y,none⟩ (.slice uA n ucp)):=HS7S.out V _ hBx5
    gi_wp2
    try (refine ⟨hS,?_⟩)
    refine anyHF_done (by kernel_rfl) ?_ _
    refine NoPanic.normal ?_
    have HNEW:Hid (∀ V',V'=V.setCell ⟨c7,Y,none⟩ (.slice uA n ucp)→sepC.R (fun q=>(w4.heap.size≤q∧q<V'.heap.size)∧q≠gl) V' (.slice oA N oc) cj1∧Below w4.heap.size w4 V'∧w8.heap.size≤V'.heap.size∧(∀ j (hj:j<Lp.length),V'.cell? ⟨gl,j * 2,none⟩=some (.int .i64 (Lp[j]).1)∧V'.cell? ⟨gl,j * 2+1,none⟩=some (.int .i64 (Lp[j]).2))):=fun V' hV'=>by
     have hrV:=below_in HB0.out hBx5
     have hVs:V'.heap.size=V.heap.size:=by rw [hV'];simp
     have hrVs:=hrV.size
     have hszr:=HSZ.out
     have hglr:=HGL.out
     have h4V:=hBx5.size
     have hV0r:=HSV.out
     have hPc:(w4.heap.size≤c7∧c7<wr.heap.size)∧c7≠gl:=HPC7.out
     have hw3V:=below_in hB4 hBV
     refine ⟨?_,?_,by omega,fun j' hj'=>?_⟩
     · have hbyp:BytesP (fun q=>wr.heap.size≤q∧q<V.heap.size) V (.slice uA n ucp) (xorB (cellI cj ((X:Int),(Y:Int))) both):=BytesP.imp (BytesP.keep (Fresh.toP hub) fun q hq=>hBV.block q (by have h9:wq7.heap.size≤q∧q<wr7.heap.size:=hq;exact h9.2)) fun q hq=>by
        have h9:wq7.heap.size≤q∧q<wr7.heap.size:=hq
        have h10:=hBV.size
        exact ⟨by omega,by omega⟩
       have h1:=HLAT.out V (fun q hq=>hrV.block q (by have h9:(w4.heap.size≤q∧q<wr.heap.size)∧q≠gl:=hq;exact h9.1.2)) (fun q=>wr.heap.size≤q∧q<V.heap.size) (.slice uA n ucp) _ (fun e he h9=>by have h10:(w4.heap.size≤e∧e<wr.heap.size)∧e≠gl:=h9;have h11:wr.heap.size≤e∧e<V.heap.size:=he;omega) hbyp
       rw [HNX.out,hV']
       refine sepC.imp h1 fun q hq=>?_
       rw [show (V.setCell ⟨c7,Y,none⟩ (.slice uA n ucp)).heap.size=V.heap.size by simp]
       rcases hq with h9 | h9
       · exact ⟨⟨h9.1.1,by omega⟩,h9.2⟩
       · exact ⟨⟨by omega,h9.2⟩,by omega⟩
     · rw [hV']
       exact (HBR.out.trans (hrV.mono HBR.out.size)).setCell hPc.1.1 _
     · have h1:=HCJ.out j' hj'
       have hk:∀ o:Nat,V'.cell? ⟨gl,o,none⟩=wr.cell? ⟨gl,o,none⟩:=fun o=>by
        rw [hV']
        exact (World.cell?_of_block (Below.heap_setCell V ⟨c7,Y,none⟩ _ gl (Ne.symm hPc.2))).trans (hrV.cell (p:=⟨gl,o,none⟩) (by show gl < _;omega))
       exact ⟨(hk _).trans h1.1,(hk _).trans h1.2⟩
    have hM6:=HM.out
    have hj6:(j:Int)≤600:=by omega
    clear hS huc hub hup hB1 hB3 hB4 hBx hBx5 hBV bE HLAT HS7 HS7S HCE HUP7 HPUT HBOR HCJ HSZ HBR
    go_wp2
    go_roundw
    case rel =>
     obtain ⟨g1,g2,g3,g4⟩:=HNEW.out _ rfl
     exact ⟨j+1,hlt,by go_num,by rw [HC1.out];exact Lib.hid g1,Lib.hid g2,Lib.hid g3,Lib.hid g4⟩
    case measure=>simp [intOf];omega
  · obtain rfl:j=M:=by omega
    have hdec:decide ((j:Int)<(j:Int))=false:=by simp
    have hfull:Lp.take j=Lp:=by rw [←HLM.out];exact List.take_length
    rw [hfull,HPC.out] at HSP
    have hB1r:Below w1.heap.size w1 wr:=HB14.out.trans (HBR.out.mono HLO.out)
    have hB2r:=below_in hBW1 hB1r
    have b2r:Blk wr (w.heap.size+1+1) 98 #[.slice none 0 0,.slice none 0 0]:=b2.below hB2r b2.lt
    have g0:=b2r.cell 0
    have g1:=b2r.cell 1
    have f0:=b2r.frozen 0
    have f1:=b2r.frozen 1
    have HRD:=Lib.hid (HTH.out.below hB1r)
    have HW4:Hid (w.heap.size+3≤w4.heap.size∧w.heap.size+3≤wr.heap.size∧w1.heap.size≤wr.heap.size):=by
     have h1:=S2.out
     have h2:=hBW1.size
     have h3:=HLO.out
     have h4:=HBR.out.size
     exact ⟨by omega,by omega,by omega⟩
    have r:=(b2r.set_ 0 (.slice oA N oc)).set_ 1 (.slice (some ⟨gh,0,none⟩) tl.length capH)
    have r0:=r.cell 0
    have r1:=r.cell 1
    have HBF:Hid (Below w.heap.size w wr):=below_in hBW hB2r
    simp only [List.setIfInBounds_toArray,List.set_cons_zero,List.set_cons_succ,List.getElem?_toArray,List.getElem?_cons_zero,List.getElem?_cons_succ] at r0 r1 g0 g1
    have HG0:=Lib.hid g0
    clear hB1r hB2r b2r r HPT HCJ HSZ
    go_wp2
    have hk:∀ q:Nat,q≠w.heap.size+1+1→((wr.setCell ⟨w.heap.size+1+1,0,none⟩ (.slice oA N oc)).setCell ⟨w.heap.size+1+1,1,none⟩ (.slice (some ⟨gh,0,none⟩) tl.length capH)).heap[q]?=wr.heap[q]?:=fun q hq=>(Below.heap_setCell _ ⟨w.heap.size+1+1,1,none⟩ _ q hq).trans (Below.heap_setCell wr ⟨w.heap.size+1+1,0,none⟩ _ q hq)
    have hsz:((wr.setCell ⟨w.heap.size+1+1,0,none⟩ (.slice oA N oc)).setCell ⟨w.heap.size+1+1,1,none⟩ (.slice (some ⟨gh,0,none⟩) tl.length capH)).heap.size=wr.heap.size:=by simp
    obtain ⟨h4a,h4b,h4c⟩:=HW4.out
    refine bodyPost_ret (v:=.agg #[.slice oA N oc,.slice (some ⟨gh,0,none⟩) tl.length capH]) (by simp [results,Tryz.results63,go_sem,r0,r1]) rfl ⟨oA,N,oc,some ⟨gh,0,none⟩,tl.length,capH,rfl,?_,?_,?_⟩
    · refine sepC.imp (sepC.keep HSP.out fun q hq=>hk q (by have h1:(w4.heap.size≤q∧q<wr.heap.size)∧q≠gl:=hq;omega)) fun q hq=>?_
      have h1:(w4.heap.size≤q∧q<wr.heap.size)∧q≠gl:=hq
      rw [hsz]
      exact ⟨by omega,h1.1.2⟩
    · obtain ⟨g9,cap9,e9,hg9,hc9⟩:=HRD.out
      have h0:0<tl.length:=List.length_pos_iff.2 HNE.out
      have hne9:g9≠w.heap.size+1+1:=fun e=>by
       have h1:=(hc9 0 h0).1
       rw [e,Nat.zero_mul,HG0.out] at h1
       cases h1
      refine ⟨g9,cap9,e9,by rw [hsz];omega,fun i hi=>⟨?_,?_⟩⟩
      · exact (World.cell?_of_block (hk g9 hne9)).trans (hc9 i hi).1
      · exact (World.cell?_of_block (hk g9 hne9)).trans (hc9 i hi).2
    · exact (HBF.out.setCell (by show w.heap.size≤w.heap.size+1+1;omega) _).setCell (by show w.heap.size≤w.heap.size+1+1;omega) _
end Go.Proofs.YtknkdbincaonbaaGreatDoor.Cd

namespace Go.Proofs.YtknkdbincaonbaaGreatDoor.Cd
open Go.RowKit Go.Shelf Go.Proofs.YtknkdbincaonbaaGreatDoor.C Go.Proofs.YtknkdbincaonbaaGreatDoor.E Go.Proofs.YtknkdbincaonbaaGreatDoor.Q

def OctP (P:Nat→Prop) (W:World) (v:Value) (l:List UInt8):Prop :=
 ∃ A cap,v = .slice A l.length cap∧l.length≤cap∧(0<l.length→∃ b cs,A=some ⟨b,0,none⟩∧P b∧Blk W b 5 cs∧∀ j,j<l.length→cs[j]?=some (.int .u8 ((l[j]?.getD 0).toNat:Int)))
def octR:Rep (List UInt8) where
 R:=OctP
 imp:=fun ⟨A,cap,e,hc,hA⟩ hq=>⟨A,cap,e,hc,fun hp=>by
  obtain ⟨b,cs,e2,hb,hB,h3⟩:=hA hp
  exact ⟨b,cs,e2,hq b hb,hB,h3⟩⟩
 keep:=fun ⟨A,cap,e,hc,hA⟩ hk=>⟨A,cap,e,hc,fun hp=>by
  obtain ⟨b,cs,e2,hb,hB,h3⟩:=hA hp
  exact ⟨b,cs,e2,hb,(hk b hb).trans hB,h3⟩⟩
 one:=fun ⟨_,_,e,_⟩=>by rw [e];rfl
section
variable {P:Nat→Prop} {W:World} {v:Value}
theorem OctP.bytes {l:List UInt8} (h:OctP P W v l):BytesP P W v l:=by
 obtain ⟨A,cap,e,hc,hA⟩:=h
 refine ⟨A,cap,e,hc,fun hp=>?_⟩
 obtain ⟨b,cs,e2,hb,hB,h3⟩:=hA hp
 exact ⟨b,0,e2,hb,fun j hj=>by rw [Nat.zero_add,hB.cell j];exact h3 j hj⟩
theorem ownB_oct {base:Nat} {l:List UInt8} (h:OwnB W base v l):OctP (fun b=>base≤b∧b<W.heap.size) W v l:=by
 rcases h.2 with ⟨rfl,h0⟩ | ⟨g,cap,cur,rfl,hbg,hg,hn,_,hsz,ht⟩
 · have:l = []:=List.eq_nil_of_length_eq_zero h0
   subst this
   exact ⟨none,0,rfl,Nat.le_refl _,fun h=>absurd h (by simp)⟩
 · refine ⟨_,cap,rfl,hn,fun hp=>⟨g,cur,rfl,⟨hbg,(Array.getElem?_eq_some_iff.1 hg).1⟩,hg,fun j hj=>?_⟩⟩
   have e:(l.map enc)[j]?=some (enc (l[j]?.getD 0)):=by rw [List.getElem?_map,List.getElem?_eq_getElem hj];rfl
   rw [←ht,List.getElem?_take_of_lt (by omega)] at e
   rw [Array.getElem?_toList] at e
   exact e
def sepO:Rep (List (List UInt8)):=sepR octR 32 []
def sepOC:Rep (List (List (List UInt8))):=sepR sepO 58 []
theorem sepO_M {ls:List (List UInt8)} (h:sepO.R P W v ls):sepM.R P W v ls:=SepP.map h rfl fun _ _ _ _ h=>OctP.bytes h
theorem sepOC_C {css:List (List (List UInt8))} (h:sepOC.R P W v css):sepC.R P W v css:=SepP.map h rfl fun _ _ _ _ h=>sepO_M h
end

def RowS {α:Type} (r:Rep α) (t:TypeId) (d:α) (N:Nat) (W:World) (base:Nat) (v:Value) (xs:List α):Prop :=
 ∃ (us:List Value) (Z:Nat→Nat→Prop),W.ownsRow base t 1 v us.length us∧us.length=xs.length∧(∀ i j c,Z i c→Z j c→i=j)∧(∀ j c,Z j c→(base≤c∧c<N)∧some c≠v.ownBlock∧j<us.length)∧(∀ b,v.ownBlock=some b→b<N)∧N≤W.heap.size∧∀ (j:Nat) (u:Value),us[j]?=some u→r.R (Z j) W u (xs[j]?.getD d)
section
variable {α:Type} {r:Rep α} {t:TypeId} {d:α} {N:Nat} {W W':World} {base:Nat} {v:Value} {xs:List α}
theorem RowS.nil (r:Rep α) (t:TypeId) (d:α) (W:World) (base N:Nat) (hN:N≤W.heap.size):RowS r t d N W base (.slice none 0 0) [] :=
 ⟨[],fun _ _=>False,World.ownsRow_nil W base t 1,rfl,fun _ _ _ h=>h.elim,fun _ _ h=>h.elim,fun b h=>(by cases h),hN,fun j u h=>(by cases h)⟩
theorem RowS.below (h:RowS r t d N W base v xs) (hb:Below W.heap.size W W'):RowS r t d N W' base v xs:=by
 obtain ⟨us,Z,ho,hn,z1,z2,z3,hN,hr⟩:=h
 exact ⟨us,Z,World.ownsRow.kept (row:=none) ho (grown_below hb) (by cases v.ownBlock <;> simp),hn,z1,z2,z3,Nat.le_trans hN hb.size,fun j u hu=>r.keep (hr j u hu) fun b hb2=>hb.block b (by have:=(z2 j b hb2).1;omega)⟩
theorem RowS.own_le (h:RowS r t d N W base v xs) (k:Nat) (e:v.ownBlock=some k):base≤k∧k<N:=by
 obtain ⟨us,Z,ho,hn,z1,z2,z3,hN,hr⟩:=h
 exact ⟨(World.ownsRow.lt ho k e).1,z3 k e⟩
theorem RowS.push (i:TypeInfo) (hi:Tryz.prog.info? t=some i) (hz:i.zero=some (.slice none 0 0)) (h1:i.size=1) (h24:i.bytes=24) (T ty:TypeId) (hT:Tryz.prog.underlying T=some (.slice t))
 (h:RowS r t d N W base v xs) (g:Nat) (tg:TypeId) (u:Value) (x:α) (hg:Blk W g tg #[u]) (P:Nat→Prop) (hu:r.R P W u x) (hP:∀ c,P c→N≤c∧c<W.heap.size) (hlen:xs.length≤100000) (hbase:base≤N) :
 ∃ v' w',(Builtin.append_ #[T,T] ty #[v,.slice (some ⟨g,0,none⟩) 1 1]).run Tryz.prog W = .ok v' w'∧RowS r t d w'.heap.size w' base v' (xs ++ [x])∧W.grownBy w' v.ownBlock∧(v'.ownBlock=v.ownBlock∨v'.ownBlock=some W.heap.size):=by
 obtain ⟨us,Z,ho,hn,z1,z2,z3,hN,hr⟩:=h
 obtain ⟨v',w',hrun,o1,o2,_,o3⟩:=run_append_own_at (P:=Tryz.prog) W base T ty t i (.slice none 0 0) 1 24 hT hi hz h1 h24 rfl (by omega) v us.length us ho ⟨g,0,none⟩ 1 1 [u] rfl
  (by intro j y hy
      rw [addr_add,Nat.zero_add,hg.cell j,List.getElem?_toArray]
      exact hy) (by intro y hy;rw [List.mem_singleton.1 hy];exact r.one hu) (by unfold maxLen;omega) (by omega) (by omega)
 have hsz:=o2.size
 have hx:∀ c,P c→some c≠v.ownBlock:=fun c hc e=>by have h1:=z3 c e.symm;have h2:=hP c hc;omega
 have hne:∀ c,c<W.heap.size→some c≠v.ownBlock→some c≠v'.ownBlock:=fun c hc h2=>by
  rcases o3 with e | e
  · rw [e];exact h2
  · rw [e];intro e2;injection e2 with e2;omega
 refine ⟨v',w',hrun,⟨us ++ [u],fun j c=>(j<us.length∧Z j c)∨(j=us.length∧P c),by rw [List.length_append];exact o1,by rw [List.length_append,List.length_append,hn];rfl,?_,?_,?_,Nat.le_refl _,fun j y hy=>?_⟩,o2,o3⟩
 · rintro i j c (⟨h1,h2⟩ | ⟨rfl,h2⟩) (⟨h3,h4⟩ | ⟨rfl,h4⟩)
   · exact z1 i j c h2 h4
   · have a:=(z2 i c h2).1;have b:=hP c h4;omega
   · have a:=(z2 j c h4).1;have b:=hP c h2;omega
   · rfl
 · rintro j c (⟨h1,h2⟩ | ⟨rfl,h2⟩)
   · have a:=z2 j c h2
     exact ⟨⟨a.1.1,by omega⟩,hne c (by omega) a.2.1,by rw [List.length_append];exact Nat.lt_of_lt_of_le h1 (Nat.le_add_right _ _)⟩
   · have a:=hP c h2
     exact ⟨⟨by omega,by omega⟩,hne c a.2 (hx c h2),by rw [List.length_append];exact Nat.lt_succ_self _⟩
 · intro b e
   have:=World.ownsRow.lt o1 b e
   exact this.2
 · rcases Nat.lt_or_ge j us.length with hj | hj
   · rw [List.getElem?_append_left hj] at hy
     rw [List.getElem?_append_left (by omega)]
     exact r.imp (r.keep (hr j y hy) fun b hb=>o2.block b (by have:=(z2 j b hb).1;omega) (z2 j b hb).2.1) fun b hb=>.inl ⟨hj,hb⟩
   · rw [List.getElem?_append_right hj] at hy
     rw [List.getElem?_append_right (by omega),←hn]
     have hj0:j - us.length=0:=by
      rcases Nat.eq_zero_or_pos (j - us.length) with h0 | h0
      · exact h0
      · rw [List.getElem?_eq_none (by simp;omega)] at hy;cases hy
     have hj1:j=us.length:=by omega
     rw [hj0] at hy ⊢
     cases hy
     exact r.imp (r.keep hu fun b hb=>o2.block b (hP b hb).2 (hx b hb)) fun b hb=>.inr ⟨hj1,hb⟩
theorem RowS.sep (h:RowS r t d N W base v xs):SepP r t d (fun b=>base≤b∧b<N) W v xs:=by
 obtain ⟨us,Z,ho,hn,z1,z2,z3,hN,hr⟩:=h
 rcases ho.2 with ⟨e1,e2⟩ | ⟨g,cap,cur,e1,hge,hblk,hncap,_,hsz,htk⟩
 · exact ⟨none,0,by rw [e1,←hn,e2],by omega,fun hp=>by omega⟩
 · subst e1
   refine ⟨some ⟨g,0,none⟩,cap,by rw [hn],by omega,fun _=>⟨g,cur,rfl,⟨hge,z3 g rfl⟩,hblk,Z,z1,fun j c hz=>⟨(z2 j c hz).1,fun e=>(z2 j c hz).2.1 (by rw [e];rfl)⟩,fun j hj=>?_⟩⟩
   have hj2:j<us.length:=by omega
   refine ⟨us[j],?_,hr j us[j] (List.getElem?_eq_getElem hj2)⟩
   rw [←Array.getElem?_toList]
   have h4:us[j]?=(cur.toList.take (us.length * 1))[j]?:=by rw [htk]
   rw [List.getElem?_take_of_lt (by omega),List.getElem?_eq_getElem hj2] at h4
   exact h4.symm
theorem wpList_pushS {T:TypeId} (w:World) {ops:Array Oper} {rest:List Oper} {o:Oper} {a:Act} {QQ:Exit→Act→World→Prop} (hgd:o.guard=none) (s x:Operand)
 (hif:(Tryz.prog.info? t).map (fun i=>(i.zero,i.size,i.bytes))=some (some (.slice none 0 0),1,24))
 (ho:o.op = .call { callee:=.builtin .append,args:=#[s,x],argTypes:=#[T,T] }) (hT:Tryz.prog.underlying T=some (.slice t)) (hs:a.eval s=v) (h:RowS r t d N w base v xs)
 (g:Nat) (tg:TypeId) (u:Value) (y:α) (hx:a.eval x = .slice (some ⟨g,0,none⟩) 1 1) (hg:Blk w g tg #[u]) (P:Nat→Prop) (hu:r.R P w u y) (hP:∀ c,P c→N≤c∧c<w.heap.size) (hlen:xs.length≤100000) (hbase:base≤N)
 (hK:∀ v' w',RowS r t d w'.heap.size w' base v' (xs ++ [y])→w.grownBy w' v.ownBlock→(v'.ownBlock=v.ownBlock∨v'.ownBlock=some w.heap.size)→wpList Tryz.prog ops QQ rest (a.put o.dst v') w'):wpList Tryz.prog ops QQ (o :: rest) a w :=
 wpList_plain hgd fun K hK2=>by
  obtain ⟨i,hi,hz0,hz1,hz2⟩:=info_parts hif
  obtain ⟨v',w',hrun,h1,h2,h3⟩:=RowS.push i hi hz0 hz1 hz2 T o.type hT h g tg u y hg P hu hP hlen hbase
  unfold Oper.wp execOp
  simp only [ho,resolve,invoke,builtin,Sem.run_bind,Sem.run_pure,Result.andThen_ok,List.map_toArray,List.map_cons,List.map_nil,hs,hx,hrun]
  exact hK2 _ _ (hK v' w' h1 h2 h3)
end
end Go.Proofs.YtknkdbincaonbaaGreatDoor.Cd
