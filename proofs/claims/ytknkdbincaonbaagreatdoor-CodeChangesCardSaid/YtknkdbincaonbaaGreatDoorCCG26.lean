/- -/
import Derived.Test.YtknkdbincaonbaaGreatDoorCCG25
import Derived.Test.YtknkdbincaonbaaGreatDoorCCG16
import Derived.Test.YtknkdbincaonbaaGreatDoorCCG22
import Derived.Test.YtknkdbincaonbaaGreatDoorCCSA
import Derived.Test.YtknkdbincaonbaaGreatDoorCCG1
import Derived.Deep.Matrix
import Derived.ShutString
import Derived.ChangeOld
set_option linter.unusedVariables false
set_option linter.unusedSimpArgs false
set_option maxRecDepth 100000
set_option maxHeartbeats 4000000
namespace Go.Proofs.YtknkdbincaonbaaGreatDoor.Cd
open Go.RowKit Go.Shelf Go.Maps Go.Proofs.YtknkdbincaonbaaGreatDoor.C Go.Proofs.YtknkdbincaonbaaGreatDoor.E Go.Proofs.YtknkdbincaonbaaGreatDoor.Q Go.Proofs.YtknkdbincaonbaaGreatDoor.T

theorem opIn_appB {F:Fence} {nF:Nat} {v v2:Value} (w:World) {o:Oper} {a:Act} {K:Act→World→Prop} {QQ:Exit→Act→World→Prop} (s x:Operand)
 (ho:o.op = .call { callee:=.builtin .append,args:=#[s,x],argTypes:=#[32,32] }) (base:Nat) (l0:List UInt8) (hs:a.eval s=v) (h:OwnB w base v l0) (B:Nat) (l:List UInt8) (hx:a.eval x=v2)
 (hb:Bytes B w v2 l) (hlen:l0.length+l.length≤100000) (hbase:base≤w.heap.size)
 (hK:∀ v' w',OwnB w' base v' (l0 ++ l)→w.grownBy w' v.ownBlock→K (a.put o.dst v') w'):Oper.wpIn F nF Tryz.prog o a w K QQ:=by
 obtain ⟨i,hi,hz0,hz1,hz2⟩:=info_parts Tryz.infoByte
 obtain ⟨v',w',hrun,h1,h3,h4⟩:=run_app (P:=Tryz.prog) w base o.type i Tryz.underlying32 hi hz0 hz1 hz2 v l0 h B v2 l hb (by omega) hbase
 unfold Oper.wpIn
 refine ⟨by simp [Oper.about,ho,resolve,Target.leads,Sem.run_pure],?_⟩
 rw [Oper.semAt_plain F _ _ (by rw [ho];intro c hc';cases hc')]
 simp [execOp,ho,resolve,invoke,builtin,hs,hx,hrun,Result.andThen,Oper.uponIn]
 exact hK v' w' h1 h3
theorem xor_twice {a c:List UInt8} (hl:c.length=a.length):xorB a (xorB a c)=c :=
 eq_at (by rw [xorB_len,hl]) fun j=>by
  rw [at_xorB _ _ _ (by rw [xorB_len]),at_xorB _ _ _ (by rw [hl]),←UInt8.xor_assoc,UInt8.xor_self,UInt8.zero_xor]
theorem refChange_yes {B:Nat} (k p:Int) (v:Value) (s:List (List (List UInt8))) (X Y:Nat) (c:List UInt8) (vc:Value) (h:AllK k p s) (hc:c.length=(firstC s).length) (hX:X<datN k p) (hY:Y<(p - 1).toNat) (w:World) (hB:B≤w.heap.size) (hC:Cols B w v s) (hb:Bytes B w vc c) :
 Calls Tryz.prog 26 #[.agg #[.int .i64 k,.int .i64 p],v,.agg #[.int .i64 (X:Int),.int .i64 (Y:Int)],vc] w fun e w'=>∃ A m cc u2,e = .returned (.tuple #[.slice A m cc,u2])∧Cols w'.heap.size w' (.slice A m cc) (chgK k p s (X:Int) (Y:Int) c)∧ReadA w' u2 (touL k p (X:Int) (Y:Int))∧Below w.heap.size w w':=by
 have hR:=h.1.1
 have hst:=all_stripe h
 have hln:=all_len h
 have hfn:=right_n h.2
 have hgr:=right_grid h.2
 have hdn:=datN_eq hR
 have hpp:=prm_bounds hR.2
 obtain ⟨p1,p2,hp,s1,s2,m1,m2⟩:=stripe_n hst
 have hx:0≤(X:Int)∧(X:Int)<p - shortN k:=by omega
 have hy:0≤(Y:Int)∧(Y:Int)<p - 1:=by omega
 obtain ⟨hin,hnd,hne⟩:=chg_list hR hx hy
 have hpc:=putL_chg hst hx hy hc
 have hsm:=fun j i=>small_right h.2 j i
 obtain ⟨n,hn⟩:∃ n,(firstC s).length=n:=⟨_,rfl⟩
 rw [hn] at hc hst hfn hgr
 have hcx:(cellI s ((X:Int),(Y:Int))).length=n:=(stripe_cell hst (z:=((X:Int),(Y:Int))) ⟨hx.1,by show (X:Int) < _;omega⟩ hy).1
 have hzin:InS k p ((X:Int),(Y:Int)):=hin _ (List.mem_cons_self ..)
 obtain ⟨both,hbo⟩:∃ both,xorB (cellI s ((X:Int),(Y:Int))) c=both:=⟨_,rfl⟩
 have hbl:both.length=n:=by rw [←hbo,xorB_len,hcx]
 rw [hbo] at hpc
 have hs1:put1 both s ((X:Int),(Y:Int))=setQ s X Y c:=by
  show setQ s X Y (xorB (cellI s ((X:Int),(Y:Int))) both) = _
  rw [←hbo,xor_twice (by rw [hc,hcx])]
 have hst1:StripeK k p n (setQ s X Y c):=by rw [←hs1];exact put1_ok hst hzin
 have hfin:putL both (setQ s X Y c) (touL k p (X:Int) (Y:Int))=chgK k p s (X:Int) (Y:Int) c:=by rw [←hs1];exact hpc
 have hneT:=hne
 have htl:=tou_len2 (x:=(X:Int)) (y:=(Y:Int)) hR
 have hinT:∀ z∈touL k p (X:Int) (Y:Int),InS k p z:=fun z hz=>hin z (List.mem_cons_of_mem _ hz)
 obtain ⟨b1,off1,cap,rfl,hcap,hb1,hrow0⟩:=hC.at_ (by omega)
 obtain ⟨u1,hc1,hm1⟩:=hrow0 X (by omega)
 obtain ⟨hcr,hce⟩:=hgr X (by omega)
 obtain ⟨R,hRR⟩:∃ R,(p - 1).toNat=R:=⟨_,rfl⟩
 rw [hRR] at hcr hce hY hgr
 obtain ⟨A3,c2,rfl,_,_⟩:=id hm1
 obtain ⟨b2,off2,rfl,hb2,hrow3⟩:=many_at hm1 (by omega)
 obtain ⟨D0,d0,hc3,hby⟩:=hrow3 Y (by omega)
 rw [hcr] at hc1
 rw [hce Y hY] at hc3 hby
 have hby2:Bytes B w (.slice D0 n d0) (cellI s ((X:Int),(Y:Int))):=hby
 obtain ⟨Ac,capc,rfl,_,_⟩:=id hb
 have hTO:=fun (U:World)=>refTouched_any k p (X:Int) (Y:Int) hR hx hy U
 obtain ⟨N,hN⟩:∃ N,s.length=N:=⟨_,rfl⟩
 have hXN:X<N:=by omega
 obtain ⟨g6,hg6⟩:∃ g,w.heap.size+1=g:=⟨_,rfl⟩
 obtain ⟨W2,hW2⟩:∃ W2,(w.alloc (.cells #[.int .i64 k,.int .i64 p] 24)).alloc (.cells #[.int .i64 (X:Int),.int .i64 (Y:Int)] 53)=W2:=⟨_,rfl⟩
 have hBW:Below w.heap.size w W2:=by rw [←hW2];exact below_two w _ _
 have b0:Blk W2 w.heap.size 24 #[.int .i64 k,.int .i64 p]:=by rw [←hW2];exact (Blk.new w _ _).alloc _
 have b6:Blk W2 g6 53 #[.int .i64 (X:Int),.int .i64 (Y:Int)]:=by rw [←hW2,←hg6];exact Blk.at_size (Blk.new _ _ _) (by simp)
 have hs2:W2.heap.size=g6+1:=by rw [←hW2,←hg6];simp
 have HSS:Hid (∀ U,Below W2.heap.size W2 U→(fun U:World=>U.cell? ⟨g6,0,none⟩=some (.int .i64 (X:Int))∧U.cell? ⟨g6,1,none⟩=some (.int .i64 (Y:Int))∧U.cell? ⟨b1,off1+X,none⟩=some (.slice (some ⟨b2,off2,none⟩) R c2)∧U.cell? ⟨b2,off2+Y,none⟩=some (.slice D0 n d0)) U):=fun U hU=>⟨(b6.below hU b6.lt).cell 0,(b6.below hU b6.lt).cell 1,((below_in hBW hU).cell (p:=⟨b1,off1+X,none⟩) (Nat.lt_of_lt_of_le hb1 hB)).trans hc1,((below_in hBW hU).cell (p:=⟨b2,off2+Y,none⟩) (Nat.lt_of_lt_of_le hb2 hB)).trans hc3⟩
 have HPT:=Lib.hid (fun (U:World) (hU:Below W2.heap.size W2 U)=>by
  have hU2:=below_in hBW hU
  have hq:=rput_any (.slice D0 n d0) (.slice Ac c.length capc) (cellI s ((X:Int),(Y:Int))) c U ((hby2.below (hU2.mono hB)).more (Nat.le_trans hB hU2.size)) ((hb.below (hU2.mono hB)).more (Nat.le_trans hB hU2.size)) (by rw [hcx,hc];exact Nat.le_refl _) (by rw [hcx];omega)
  rw [hbo] at hq
  exact hq)
 have HCO:=Lib.hid (fun (U:World) (hU:Below w.heap.size w U)=>refCopy_any _ s U (Nat.le_trans hB hU.size) (hC.below (hU.mono hB)) (by omega) (fun j=>⟨(hsm j 0).1,fun i=>(hsm j i).2⟩))
 have HBC:=Lib.hid (fun (U:World) (hU:Below w.heap.size w U)=>hb.below (hU.mono hB))
 rw [hc] at HPT HBC ⊢
 rw [hN] at HCO hcap ⊢
 try rw [hN] at hc1
 have HCN:=Lib.hid hc
 have HBL:=Lib.hid hbl
 have HN64:Hid (n≤64):=hfn.2
 have HNS:=Lib.hid hN
 have HST1:=Lib.hid hst1
 have HFIN:=Lib.hid hfin
 have HIN:=Lib.hid hinT
 have HTO:=Lib.hid hTO
 have HTL:=Lib.hid htl
 have HNE:=Lib.hid hneT
 have i1:(0:Int)≤(X:Int):=by omega
 have i2:(X:Int)<(N:Int):=by omega
 have i3:(0:Int)≤(Y:Int):=by omega
 have i4:(Y:Int)<(R:Int):=by omega
 have HRP:Hid ((p - 1).toNat=R):=hRR
 have HGR:=Lib.hid hgr
 generalize touL k p (X:Int) (Y:Int)=tl at *
 clear hC hb hpc hin hnd hne hneT hst hln hfn hgr htl hcx hbl hbo hc hn hN h hs1 hst1 hfin hinT hsm hrow0 hrow3 hm1 hcr hce hby hby2 hc1 hc3 hTO hRR hx hy hzin
 go_enter Tryz.func26,Tryz.ntmps26
 go_wp2_with fail
 try rw [hW2]
 try simp only [hg6]
 have hBx:Below W2.heap.size W2 W2.drew:=(Below.refl _ _).drew
 have hS:(fun U:World=>U.cell? ⟨g6,0,none⟩=some (.int .i64 (X:Int))∧U.cell? ⟨g6,1,none⟩=some (.int .i64 (Y:Int))∧U.cell? ⟨b1,off1+X,none⟩=some (.slice (some ⟨b2,off2,none⟩) R c2)∧U.cell? ⟨b2,off2+Y,none⟩=some (.slice D0 n d0)) W2.drew:=HSS.out _ hBx
 refine (wpIn_wide (n:=12)).1 (wpIn_mono (region_HF (Q:=NoPanic _) (S:=(fun U:World=>U.cell? ⟨g6,0,none⟩=some (.int .i64 (X:Int))∧U.cell? ⟨g6,1,none⟩=some (.int .i64 (Y:Int))∧U.cell? ⟨b1,off1+X,none⟩=some (.slice (some ⟨b2,off2,none⟩) R c2)∧U.cell? ⟨b2,off2+Y,none⟩=some (.slice D0 n d0))) (by kernel_rfl) ?_) NoPanic.imp)
 refine tkF (i:=0) (d:=14) (v:=.slice (some ⟨b1,off1,none⟩) N cap) (s:=hS) (c:=?_)
 simp only [ud9]
 refine tkF (i:=1) (d:=15) (v:=.pointer (some ⟨g6,0,none⟩)) (s:=hS) (c:=?_)
 simp only [ud9]
 refine tkF (i:=2) (d:=16) (v:=.int .i64 (X:Int)) (s:=hS) (c:=?_)
 simp only [ud9]
 refine tkF (i:=3) (d:=17) (v:=.pointer (some ⟨b1,off1+X,none⟩)) (s:=hS) (c:=?_)
 simp only [ud9]
 refine tkF (i:=4) (d:=18) (v:=.slice (some ⟨b2,off2,none⟩) R c2) (s:=hS) (c:=?_)
 simp only [ud9]
 refine tkF (i:=5) (d:=19) (v:=.pointer (some ⟨g6,1,none⟩)) (s:=hS) (c:=?_)
 simp only [ud9]
 refine tkF (i:=6) (d:=20) (v:=.int .i64 (Y:Int)) (s:=hS) (c:=?_)
 simp only [ud9]
 refine tkF (i:=7) (d:=21) (v:=.pointer (some ⟨b2,off2+Y,none⟩)) (s:=hS) (c:=?_)
 simp only [ud9]
 refine tkF (i:=8) (d:=22) (v:=.slice D0 n d0) (s:=hS) (c:=?_)
 simp only [ud9]
 refine tkF (i:=9) (d:=23) (v:=.slice Ac n capc) (s:=hS) (c:=?_)
 simp only [ud9]
 refine oneF (i:=10) (c:=?_)
 gi_wp2_with fail
 refine ⟨trivial,(callsIn_wide.2 (HPT.out _ hBx)).mono ?_⟩
 rintro e w3 ⟨ub,rfl,hob,hB1⟩
 obtain ⟨bA,bc,hbe,_,_⟩:=id (OwnB.bytes hob)
 rw [HBL.out] at hbe
 subst hbe
 replace hBx:=below_in hBx hB1
 clear hS
 have hS:=HSS.out _ hBx
 gi_wp2
 try (refine ⟨hS,?_⟩)
 refine oneF (i:=11) (c:=?_)
 gi_wp2
 refine anyHF_done (by kernel_rfl) ?_ _
 refine NoPanic.normal ?_
 have hW3:=below_in hBW hBx
 have hw23:=hBx.size
 have hby3:=Lib.hid (OwnB.bytes hob)
 have b03:=b0.below hBx b0.lt
 have b63:=b6.below hBx b6.lt
 clear hS hob HPT HSS
 go_wp2_with (go_at_call 30;refine (HCO.out _ hW3).mono ?_;rintro e w5 ⟨uo,rfl,hso,hB5⟩)
 obtain ⟨oA,oc,hue,_,_⟩:=id hso
 rw [HNS.out] at hue
 subst hue
 have hW5:=below_in hW3 hB5
 have hsep:=sepOC_C hso
 obtain ⟨bb,c7,cap7,capX,e7,hPb,hPc,hd1,⟨old9,hold9,_⟩,hfr,hbc,hlater⟩:=sep_later hsep (X:=X) (Y:=Y) (by rw [HNS.out];exact hXN) (by rw [(HGR.out X (by rw [HNS.out];exact hXN)).1];exact hY)
 rw [(HGR.out X (by rw [HNS.out];exact hXN)).1] at hd1
 obtain ⟨rfl,rfl⟩:oA=some ⟨bb,0,none⟩∧oc=cap7:=by injection e7 with e8 _ e9;exact ⟨e8,e9⟩
 clear e7
 have hPb2:w3.heap.size≤bb∧bb<w5.heap.size:=hPb
 have hPc2:w3.heap.size≤c7∧c7<w5.heap.size:=hPc
 have b65:=b63.below hB5 b63.lt
 have hl63:=b63.lt
 have hg63:g6≠c7:=by omega
 have HSS3:Hid (∀ U,Below w5.heap.size w5 U→(fun U:World=>U.cell? ⟨g6,0,none⟩=some (.int .i64 (X:Int))∧U.cell? ⟨g6,1,none⟩=some (.int .i64 (Y:Int))∧U.cell? ⟨bb,X,none⟩=some (.slice (some ⟨c7,0,none⟩) R capX)) U):=fun U hU=>⟨(b65.below hU b65.lt).cell 0,(b65.below hU b65.lt).cell 1,(hU.cell (p:=⟨bb,X,none⟩) hPb2.2).trans hd1⟩
 have HS3V:Hid (∀ U u,Below w5.heap.size w5 U→(fun U:World=>U.cell? ⟨g6,0,none⟩=some (.int .i64 (X:Int))∧U.cell? ⟨g6,1,none⟩=some (.int .i64 (Y:Int))∧U.cell? ⟨bb,X,none⟩=some (.slice (some ⟨c7,0,none⟩) R capX)) (U.setCell ⟨c7,Y,none⟩ u)):=fun U u hU=>⟨(setCell_far hg63).trans (HSS3.out U hU).1,(setCell_far hg63).trans (HSS3.out U hU).2.1,(setCell_far hbc).trans (HSS3.out U hU).2.2⟩
 have HFZ:Hid (∀ U,Below w5.heap.size w5 U→U.frozen? ⟨c7,Y,none⟩=false):=fun U hU=>(hU.frozen (p:=⟨c7,Y,none⟩) hPc2.2).trans hfr
 have HOZ:Hid (∀ U,Below w5.heap.size w5 U→U.cell? ⟨c7,Y,none⟩=some old9):=fun U hU=>(hU.cell (p:=⟨c7,Y,none⟩) hPc2.2).trans hold9
 have HBC5:=Lib.hid (fun (U:World) (hU:Below w5.heap.size w5 U)=>HBC.out U (below_in hW5 hU))
 clear HBC
 have HBC:=HBC5
 clear HBC5
 clear hBx
 have hBx:Below w5.heap.size w5 w5.drew:=(Below.refl _ _).drew
 have hS:(fun U:World=>U.cell? ⟨g6,0,none⟩=some (.int .i64 (X:Int))∧U.cell? ⟨g6,1,none⟩=some (.int .i64 (Y:Int))∧U.cell? ⟨bb,X,none⟩=some (.slice (some ⟨c7,0,none⟩) R capX)) w5.drew:=HSS3.out _ hBx
 refine (wpIn_wide (n:=12)).1 (wpIn_mono (region_HF (Q:=NoPanic _) (S:=(fun U:World=>U.cell? ⟨g6,0,none⟩=some (.int .i64 (X:Int))∧U.cell? ⟨g6,1,none⟩=some (.int .i64 (Y:Int))∧U.cell? ⟨bb,X,none⟩=some (.slice (some ⟨c7,0,none⟩) R capX))) (by kernel_rfl) ?_) NoPanic.imp)
 refine tkF (i:=0) (d:=27) (v:=.slice (some ⟨bb,0,none⟩) N oc) (s:=hS) (c:=?_)
 simp only [ud9]
 refine tkF (i:=1) (d:=28) (v:=.pointer (some ⟨g6,0,none⟩)) (s:=hS) (c:=?_)
 simp only [ud9]
 refine tkF (i:=2) (d:=29) (v:=.int .i64 (X:Int)) (s:=hS) (c:=?_)
 simp only [ud9]
 refine tkF (i:=3) (d:=30) (v:=.pointer (some ⟨bb,X,none⟩)) (s:=hS) (c:=?_)
 simp only [ud9]
 refine tkF (i:=4) (d:=31) (v:=.slice (some ⟨c7,0,none⟩) R capX) (s:=hS) (c:=?_)
 simp only [ud9]
 refine tkF (i:=5) (d:=32) (v:=.pointer (some ⟨g6,1,none⟩)) (s:=hS) (c:=?_)
 simp only [ud9]
 refine tkF (i:=6) (d:=33) (v:=.int .i64 (Y:Int)) (s:=hS) (c:=?_)
 simp only [ud9]
 refine tkF (i:=7) (d:=34) (v:=.slice Ac n capc) (s:=hS) (c:=?_)
 simp only [ud9]
 refine oneF (i:=8) (c:=?_)
 refine opIn_appB _ _ _ rfl w5.heap.size [] rfl (World.ownsRow_nil _ _ _ _) B c rfl (HBC.out _ hBx) (by rw [HCN.out];have:=HN64.out;simp;omega) (by have:=hBx.size;simp) ?_
 intro v' w6 hnw hg6
 rw [List.nil_append] at hnw
 obtain ⟨nA,nc,hne,_,_⟩:=id (OwnB.bytes hnw)
 rw [HCN.out] at hne
 subst hne
 have hB6:Below w5.heap.size w5 w6:=hBx.grown hg6 hBx.size (fun q e=>by cases e)
 replace hBx:=hB6
 clear hS
 have hS:(fun U:World=>U.cell? ⟨g6,0,none⟩=some (.int .i64 (X:Int))∧U.cell? ⟨g6,1,none⟩=some (.int .i64 (Y:Int))∧U.cell? ⟨bb,X,none⟩=some (.slice (some ⟨c7,0,none⟩) R capX)) w6:=HSS3.out _ hBx
 gi_wp2_with fail
 try (refine ⟨hS,?_⟩)
 refine tkF (i:=9) (d:=36) (v:=.pointer (some ⟨c7,Y,none⟩)) (s:=hS) (c:=?_)
 simp only [ud9]
 refine oneF (i:=10) (c:=?_)
 have f7:=HFZ.out _ hBx
 have f8:=HOZ.out _ hBx
 have f8:=HOZ.out _ hBx
 have hSV:(fun U:World=>U.cell? ⟨g6,0,none⟩=some (.int .i64 (X:Int))∧U.cell? ⟨g6,1,none⟩=some (.int .i64 (Y:Int))∧U.cell? ⟨bb,X,none⟩=some (.slice (some ⟨c7,0,none⟩) R capX)) (w6.setCell ⟨c7,Y,none⟩ (.slice nA n nc)):=HS3V.out _ _ hBx
 gi_wp2_with fail
 try (refine ⟨hSV,?_⟩)
 refine anyHF_done (by kernel_rfl) ?_ _
 refine NoPanic.normal ?_
 have hB56:=hBx
 have hnb:BytesP (fun q=>w5.heap.size≤q∧q<w6.heap.size) w6 (.slice nA n nc) c:=Fresh.toP (OwnB.fresh hnw)
 have hsep7:=hlater w6 (fun q hq=>hB56.block q hq.2) (fun q=>w5.heap.size≤q∧q<w6.heap.size) (.slice nA n nc) c (fun q h1 h2=>by have h3:w3.heap.size≤q∧q<w5.heap.size:=h2;omega) hnb
 have hB37:Below w3.heap.size w3 (w6.setCell ⟨c7,Y,none⟩ (.slice nA n nc)):=(below_in hB5 hB56).setCell (by show w3.heap.size≤c7;omega) _
 have hs67:(w6.setCell ⟨c7,Y,none⟩ (.slice nA n nc)).heap.size=w6.heap.size:=by simp
 have hs56:=hB56.size
 have hs35:=hB5.size
 obtain ⟨w7,hw7⟩:∃ w7,w6.setCell ⟨c7,Y,none⟩ (.slice nA n nc)=w7:=⟨_,rfl⟩
 rw [hw7] at hsep7 hB37 hs67
 have hsep8:sepC.R (fun q=>w3.heap.size≤q∧q<w7.heap.size) w7 (.slice (some ⟨bb,0,none⟩) N oc) (setQ s X Y c):=sepC.imp hsep7 fun q hq=>by
  rcases hq with hq | hq
  · have h3:w3.heap.size≤q∧q<w5.heap.size:=hq
    exact ⟨h3.1,by omega⟩
  · exact ⟨by omega,by omega⟩
 have b07:=b03.below hB37 b03.lt
 have b67:=b63.below hB37 b63.lt
 have k0:=b07.cell 0
 have k1:=b07.cell 1
 have k2:=b67.cell 0
 have k3:=b67.cell 1
 simp only [gz9] at k0 k1 k2 k3
 clear hS hsep hsep7 hlater hnb hnw HSS3 HS3V HFZ HBC hso hfr hd1 b65
 try rw [hw7]
 clear hw7
 go_wp2_with (go_at_call 64;refine (HTO.out _).mono ?_;rintro e w8 ⟨vl,rfl,hol,hB8⟩;obtain ⟨gl,capl,hle,hgl,hglb⟩:=World.ownsRow.form hol (Nat.pos_of_ne_zero (fun h0=>HNE.out (List.eq_nil_of_length_eq_zero h0))))
 obtain ⟨M,hM⟩:∃ M,tl.length=M:=⟨_,rfl⟩
 have HRD:Hid (∀ j (hj:j<tl.length),w8.cell? ⟨gl,j * 2,none⟩=some (.int .i64 (tl[j]).1)∧w8.cell? ⟨gl,j * 2+1,none⟩=some (.int .i64 (tl[j]).2)):=fun j hj=>by
  rw [hle] at hol
  obtain ⟨pp,cp,e9,hc9⟩:=OwnA.readA hol
  injection e9 with e9 _ _
  obtain ⟨g9,e10,_,hc10,hc11⟩:=hc9 j hj
  rw [←e9] at e10
  injection e10 with e10
  injection e10 with e10 _ _
  subst e10
  exact ⟨hc10,hc11⟩
 rw [hM] at hle
 subst hle
 try rw [hM]
 have HM:=Lib.hid hM
 have HSP0:Hid (sepC.R (fun q=>(w3.heap.size≤q∧q<w7.heap.size)) w8 (.slice (some ⟨bb,0,none⟩) N oc) (setQ s X Y c)):=sepC.keep hsep8 fun q hq=>hB8.block q hq.2
 have HB38:Hid (Below w3.heap.size w3 w8):=below_in hB37 hB8
 have hs78:=hB8.size
 have hgl7:w7.heap.size≤gl:=hgl
 have htlb:M≤500:=by rw [←hM];exact HTL.out
 have hw03:w.heap.size≤w3.heap.size:=hW3.size
 clear hsep8 hol hM hgl k0 k1 k2 k3 b07 b67 hB37 hB8 HCO HTO HTL
 go_wp2_with fail
 go_loopw [13] (fun i wr=>∃ (j:Nat) (PP:Nat→Prop),j≤M∧i = .int .i64 j∧Hid (sepC.R PP wr (.slice (some ⟨bb,0,none⟩) N oc) (putL both (setQ s X Y c) (tl.take j)))∧Hid (∀ q,PP q→(w3.heap.size≤q∧q<wr.heap.size)∧q≠gl)∧Hid (Below w3.heap.size w3 wr)∧Hid (w8.heap.size≤wr.heap.size)∧Hid (∀ j (hj:j<tl.length),wr.cell? ⟨gl,j * 2,none⟩=some (.int .i64 (tl[j]).1)∧wr.cell? ⟨gl,j * 2+1,none⟩=some (.int .i64 (tl[j]).2))) (fun i _=>M - (intOf i).toNat)
 case atStart=>exact ⟨0,fun q=>w3.heap.size≤q∧q<w7.heap.size,by omega,rfl,by rw [List.take_zero];exact HSP0,Lib.hid (fun q hq=>⟨⟨hq.1,by omega⟩,by omega⟩),HB38,Lib.hid (Nat.le_refl _),HRD⟩
 case round =>
  obtain ⟨j,PP,hj,rfl,HSP,HPP,HBR,HSZ,HCJ⟩:=hrel
  by_cases hlt:j<M
  · have hdec:decide ((j:Int)<(M:Int))=true:=by simp;omega
    have hjl:j<tl.length:=by rw [HM.out];exact hlt
    obtain ⟨d1,d2⟩:=HCJ.out j hjl
    have hzi:=HIN.out tl[j] (List.getElem_mem hjl)
    have hstj:StripeK k p n (putL both (setQ s X Y c) (tl.take j)):=putL_ok _ HST1.out fun z hz=>HIN.out z (List.mem_of_mem_take hz)
    have hnx:=putL_next (both:=both) (setQ s X Y c) tl j hjl
    generalize putL both (setQ s X Y c) (tl.take j)=cj at *
    obtain ⟨cj1,hcj1⟩:∃ cj1,putL both (setQ s X Y c) (tl.take (j+1))=cj1:=⟨_,rfl⟩
    rw [hcj1] at hnx
    have HC1:=Lib.hid hcj1
    clear hcj1
    obtain ⟨UX,hU⟩:∃ UX:Nat,(tl[j]).1=(UX:Int):=⟨(tl[j]).1.toNat,by have:=hzi.1.1;omega⟩
    obtain ⟨VY,hV⟩:∃ VY:Nat,(tl[j]).2=(VY:Int):=⟨(tl[j]).2.toNat,by have:=hzi.2.1;omega⟩
    have hz:tl[j]=((UX:Int),(VY:Int)):=Prod.ext hU hV
    rw [hU] at d1
    rw [hV] at d2
    rw [hz] at hzi hnx
    clear hU hV hz
    have hcz:=stripe_cell hstj hzi.1 hzi.2
    have hUl:UX<cj.length:=hcz.2.1
    have hVl:VY<(cj[UX]?.getD []).length:=hcz.2.2
    have hVR:VY<R:=by have:=(hstj.2.2.1 UX hUl).1;rw [HRP.out] at this;omega
    obtain ⟨b9,e7,cap9,capU,e8,hPb9,hPe9,hc1,⟨old,hc2,holdb⟩,hfr9,hbe9,hlat9⟩:=sep_later HSP.out hUl hVl
    have hNl:N=cj.length:=by injection e8
    obtain ⟨hbb9,hoc9⟩:bb=b9∧oc=cap9:=by injection e8 with e1 _ e2;injection e1 with e1;injection e1 with e1 _ _;exact ⟨e1,e2⟩
    subst hbb9 hoc9
    have hcl9:(cellOf_ cj UX VY).length=n:=hcz.1
    obtain ⟨uA,uc,hue9,_,_⟩:=id holdb
    rw [hcl9] at hue9
    subst hue9
    rw [(hstj.2.2.1 UX hUl).1,HRP.out] at hc1
    have hb9:=(HPP.out _ hPb9)
    have he9:=(HPP.out _ hPe9)
    have HF8:=Lib.hid (fun (W:World) (hW:Below wr.heap.size wr W)=>(hW.frozen (p:=⟨e7,VY,none⟩) he9.1.2).trans hfr9)
    have HS8:Hid (∀ W,Below wr.heap.size wr W→(fun U:World=>U.cell? ⟨gl,j * 2,none⟩=some (.int .i64 (UX:Int))∧U.cell? ⟨gl,j * 2+1,none⟩=some (.int .i64 (VY:Int))∧U.cell? ⟨bb,UX,none⟩=some (.slice (some ⟨e7,0,none⟩) R capU)∧U.cell? ⟨e7,VY,none⟩=some (.slice uA n uc)) W):=fun W hW=>⟨(hW.cell (p:=⟨gl,j * 2,none⟩) (by have:=HSZ.out;show gl < _;omega)).trans d1,(hW.cell (p:=⟨gl,j * 2+1,none⟩) (by have:=HSZ.out;show gl < _;omega)).trans d2,(hW.cell (p:=⟨bb,UX,none⟩) hb9.1.2).trans hc1,(hW.cell (p:=⟨e7,VY,none⟩) he9.1.2).trans hc2⟩
    have hoB:Bytes wr.heap.size wr (.slice uA n uc) (cellOf_ cj UX VY):=BytesP.imp holdb fun q hq=>(HPP.out q hq).1.2
    have hbw:Bytes w3.heap.size wr (.slice bA n bc) both:=hby3.out.below HBR.out
    have HPJ:=Lib.hid (fun (W:World) (hW:Below wr.heap.size wr W)=>rput_any (.slice uA n uc) (.slice bA n bc) (cellOf_ cj UX VY) both W ((hoB.below hW).more hW.size) ((hbw.below (hW.mono HBR.out.size)).more (Nat.le_trans HBR.out.size hW.size)) (by rw [hcl9,HBL.out];exact Nat.le_refl _) (by rw [hcl9];have:=HN64.out;omega))
    have HJL:Hid ((xorB (cellOf_ cj UX VY) both).length=n):=by unfold Hid;rw [xorB_len,hcl9]
    have HNX:Hid (cj1=setQ cj UX VY (xorB (cellOf_ cj UX VY) both)):=hnx
    have i5:(0:Int)≤(j:Int):=by omega
    have i6:(j:Int)<(M:Int):=by omega
    have i7:(0:Int)≤(UX:Int):=by omega
    have i8:(UX:Int)<(N:Int):=by omega
    have i9:(0:Int)≤(VY:Int):=by omega
    have i10:(VY:Int)<(R:Int):=by omega
    have HLAT:=Lib.hid hlat9
    clear hlat9 hnx hcz hstj hc1 hc2 holdb hfr9 hPb9 hPe9 d1 d2 hoB hbw hzi HST1 HIN
    generalize xorB (cellOf_ cj UX VY) both=nw at *
    have hBx:Below wr.heap.size wr wr.drew:=(Below.refl _ _).drew
    have hS:(fun U:World=>U.cell? ⟨gl,j * 2,none⟩=some (.int .i64 (UX:Int))∧U.cell? ⟨gl,j * 2+1,none⟩=some (.int .i64 (VY:Int))∧U.cell? ⟨bb,UX,none⟩=some (.slice (some ⟨e7,0,none⟩) R capU)∧U.cell? ⟨e7,VY,none⟩=some (.slice uA n uc)) wr.drew:=HS8.out _ hBx
    have HNL:=Lib.hid hNl
    clear hNl e8
    go_wp2_with fail
    refine (wpIn_wide (n:=12)).1 (wpIn_mono (region_HG (Q:=NoPanic _) (S:=(fun U:World=>U.cell? ⟨gl,j * 2,none⟩=some (.int .i64 (UX:Int))∧U.cell? ⟨gl,j * 2+1,none⟩=some (.int .i64 (VY:Int))∧U.cell? ⟨bb,UX,none⟩=some (.slice (some ⟨e7,0,none⟩) R capU)∧U.cell? ⟨e7,VY,none⟩=some (.slice uA n uc))) (m:=31) (by kernel_rfl) ?_) NoPanic.imp)
    refine anyHG_take (i:=0) (d:=46) (v:=.slice (some ⟨bb,0,none⟩) N oc) (by kernel_rfl) rfl (by kernel_rfl) (by kernel_rfl) (by kernel_rfl) rfl (by kernel_rfl) (fun _ _ _ h=>h) ⟨Or.inl ⟨by rfl,fun w hS=>by obtain ⟨h0,h1,h2,h3⟩:=hS;go_simp⟩,fun _=>rfl⟩ hS ?_
    simp only [ud9]
    refine anyHG_take (i:=1) (d:=47) (v:=.slice (some ⟨gl,0,none⟩) M capl) (by kernel_rfl) rfl (by kernel_rfl) (by kernel_rfl) (by kernel_rfl) rfl (by kernel_rfl) (fun _ _ _ h=>h) ⟨Or.inl ⟨by rfl,fun w hS=>by obtain ⟨h0,h1,h2,h3⟩:=hS;go_simp⟩,fun _=>rfl⟩ hS ?_
    simp only [ud9]
    refine anyHG_take (i:=2) (d:=48) (v:=.int .i64 (j:Int)) (by kernel_rfl) rfl (by kernel_rfl) (by kernel_rfl) (by kernel_rfl) rfl (by kernel_rfl) (fun _ _ _ h=>h) ⟨Or.inl ⟨by rfl,fun w hS=>by obtain ⟨h0,h1,h2,h3⟩:=hS;go_simp⟩,fun _=>rfl⟩ hS ?_
    simp only [ud9]
    refine anyHG_take (i:=3) (d:=49) (v:=.pointer (some ⟨gl,j * 2,none⟩)) (by kernel_rfl) rfl (by kernel_rfl) (by kernel_rfl) (by kernel_rfl) rfl (by kernel_rfl) (fun _ _ _ h=>h) ⟨Or.inl ⟨by rfl,fun w hS=>by obtain ⟨h0,h1,h2,h3⟩:=hS;go_simp⟩,fun _=>rfl⟩ hS ?_
    simp only [ud9]
    refine anyHG_take (i:=4) (d:=50) (v:=.pointer (some ⟨gl,j * 2,none⟩)) (by kernel_rfl) rfl (by kernel_rfl) (by kernel_rfl) (by kernel_rfl) rfl (by kernel_rfl) (fun _ _ _ h=>h) ⟨Or.inl ⟨by rfl,fun w hS=>by obtain ⟨h0,h1,h2,h3⟩:=hS;go_simp⟩,fun _=>rfl⟩ hS ?_
    simp only [ud9]
    refine anyHG_take (i:=5) (d:=51) (v:=.int .i64 (UX:Int)) (by kernel_rfl) rfl (by kernel_rfl) (by kernel_rfl) (by kernel_rfl) rfl (by kernel_rfl) (fun _ _ _ h=>h) ⟨Or.inl ⟨by rfl,fun w hS=>by obtain ⟨h0,h1,h2,h3⟩:=hS;go_simp⟩,fun _=>rfl⟩ hS ?_
    simp only [ud9]
    refine anyHG_take (i:=6) (d:=52) (v:=.pointer (some ⟨bb,UX,none⟩)) (by kernel_rfl) rfl (by kernel_rfl) (by kernel_rfl) (by kernel_rfl) rfl (by kernel_rfl) (fun _ _ _ h=>h) ⟨Or.inl ⟨by rfl,fun w hS=>by obtain ⟨h0,h1,h2,h3⟩:=hS;go_simp⟩,fun _=>rfl⟩ hS ?_
    simp only [ud9]
    refine anyHG_take (i:=7) (d:=53) (v:=.slice (some ⟨e7,0,none⟩) R capU) (by kernel_rfl) rfl (by kernel_rfl) (by kernel_rfl) (by kernel_rfl) rfl (by kernel_rfl) (fun _ _ _ h=>h) ⟨Or.inl ⟨by rfl,fun w hS=>by obtain ⟨h0,h1,h2,h3⟩:=hS;go_simp⟩,fun _=>rfl⟩ hS ?_
    simp only [ud9]
    refine anyHG_take (i:=8) (d:=54) (v:=.slice (some ⟨gl,0,none⟩) M capl) (by kernel_rfl) rfl (by kernel_rfl) (by kernel_rfl) (by kernel_rfl) rfl (by kernel_rfl) (fun _ _ _ h=>h) ⟨Or.inl ⟨by rfl,fun w hS=>by obtain ⟨h0,h1,h2,h3⟩:=hS;go_simp⟩,fun _=>rfl⟩ hS ?_
    simp only [ud9]
    refine anyHG_take (i:=9) (d:=55) (v:=.int .i64 (j:Int)) (by kernel_rfl) rfl (by kernel_rfl) (by kernel_rfl) (by kernel_rfl) rfl (by kernel_rfl) (fun _ _ _ h=>h) ⟨Or.inl ⟨by rfl,fun w hS=>by obtain ⟨h0,h1,h2,h3⟩:=hS;go_simp⟩,fun _=>rfl⟩ hS ?_
    simp only [ud9]
    refine anyHG_take (i:=10) (d:=56) (v:=.pointer (some ⟨gl,j * 2,none⟩)) (by kernel_rfl) rfl (by kernel_rfl) (by kernel_rfl) (by kernel_rfl) rfl (by kernel_rfl) (fun _ _ _ h=>h) ⟨Or.inl ⟨by rfl,fun w hS=>by obtain ⟨h0,h1,h2,h3⟩:=hS;go_simp⟩,fun _=>rfl⟩ hS ?_
    simp only [ud9]
    refine anyHG_take (i:=11) (d:=57) (v:=.pointer (some ⟨gl,j * 2+1,none⟩)) (by kernel_rfl) rfl (by kernel_rfl) (by kernel_rfl) (by kernel_rfl) rfl (by kernel_rfl) (fun _ _ _ h=>h) ⟨Or.inl ⟨by rfl,fun w hS=>by obtain ⟨h0,h1,h2,h3⟩:=hS;go_simp⟩,fun _=>rfl⟩ hS ?_
    simp only [ud9]
    refine anyHG_take (i:=12) (d:=58) (v:=.int .i64 (VY:Int)) (by kernel_rfl) rfl (by kernel_rfl) (by kernel_rfl) (by kernel_rfl) rfl (by kernel_rfl) (fun _ _ _ h=>h) ⟨Or.inl ⟨by rfl,fun w hS=>by obtain ⟨h0,h1,h2,h3⟩:=hS;go_simp⟩,fun _=>rfl⟩ hS ?_
    simp only [ud9]
    refine anyHG_take (i:=13) (d:=59) (v:=.slice (some ⟨bb,0,none⟩) N oc) (by kernel_rfl) rfl (by kernel_rfl) (by kernel_rfl) (by kernel_rfl) rfl (by kernel_rfl) (fun _ _ _ h=>h) ⟨Or.inl ⟨by rfl,fun w hS=>by obtain ⟨h0,h1,h2,h3⟩:=hS;go_simp⟩,fun _=>rfl⟩ hS ?_
    simp only [ud9]
    refine anyHG_take (i:=14) (d:=60) (v:=.slice (some ⟨gl,0,none⟩) M capl) (by kernel_rfl) rfl (by kernel_rfl) (by kernel_rfl) (by kernel_rfl) rfl (by kernel_rfl) (fun _ _ _ h=>h) ⟨Or.inl ⟨by rfl,fun w hS=>by obtain ⟨h0,h1,h2,h3⟩:=hS;go_simp⟩,fun _=>rfl⟩ hS ?_
    simp only [ud9]
    refine anyHG_take (i:=15) (d:=61) (v:=.int .i64 (j:Int)) (by kernel_rfl) rfl (by kernel_rfl) (by kernel_rfl) (by kernel_rfl) rfl (by kernel_rfl) (fun _ _ _ h=>h) ⟨Or.inl ⟨by rfl,fun w hS=>by obtain ⟨h0,h1,h2,h3⟩:=hS;go_simp⟩,fun _=>rfl⟩ hS ?_
    simp only [ud9]
    refine anyHG_take (i:=16) (d:=62) (v:=.pointer (some ⟨gl,j * 2,none⟩)) (by kernel_rfl) rfl (by kernel_rfl) (by kernel_rfl) (by kernel_rfl) rfl (by kernel_rfl) (fun _ _ _ h=>h) ⟨Or.inl ⟨by rfl,fun w hS=>by obtain ⟨h0,h1,h2,h3⟩:=hS;go_simp⟩,fun _=>rfl⟩ hS ?_
    simp only [ud9]
    refine anyHG_take (i:=17) (d:=63) (v:=.pointer (some ⟨gl,j * 2,none⟩)) (by kernel_rfl) rfl (by kernel_rfl) (by kernel_rfl) (by kernel_rfl) rfl (by kernel_rfl) (fun _ _ _ h=>h) ⟨Or.inl ⟨by rfl,fun w hS=>by obtain ⟨h0,h1,h2,h3⟩:=hS;go_simp⟩,fun _=>rfl⟩ hS ?_
    simp only [ud9]
    refine anyHG_take (i:=18) (d:=64) (v:=.int .i64 (UX:Int)) (by kernel_rfl) rfl (by kernel_rfl) (by kernel_rfl) (by kernel_rfl) rfl (by kernel_rfl) (fun _ _ _ h=>h) ⟨Or.inl ⟨by rfl,fun w hS=>by obtain ⟨h0,h1,h2,h3⟩:=hS;go_simp⟩,fun _=>rfl⟩ hS ?_
    simp only [ud9]
    refine anyHG_take (i:=19) (d:=65) (v:=.pointer (some ⟨bb,UX,none⟩)) (by kernel_rfl) rfl (by kernel_rfl) (by kernel_rfl) (by kernel_rfl) rfl (by kernel_rfl) (fun _ _ _ h=>h) ⟨Or.inl ⟨by rfl,fun w hS=>by obtain ⟨h0,h1,h2,h3⟩:=hS;go_simp⟩,fun _=>rfl⟩ hS ?_
    simp only [ud9]
    refine anyHG_take (i:=20) (d:=66) (v:=.slice (some ⟨e7,0,none⟩) R capU) (by kernel_rfl) rfl (by kernel_rfl) (by kernel_rfl) (by kernel_rfl) rfl (by kernel_rfl) (fun _ _ _ h=>h) ⟨Or.inl ⟨by rfl,fun w hS=>by obtain ⟨h0,h1,h2,h3⟩:=hS;go_simp⟩,fun _=>rfl⟩ hS ?_
    simp only [ud9]
    refine anyHG_take (i:=21) (d:=67) (v:=.slice (some ⟨gl,0,none⟩) M capl) (by kernel_rfl) rfl (by kernel_rfl) (by kernel_rfl) (by kernel_rfl) rfl (by kernel_rfl) (fun _ _ _ h=>h) ⟨Or.inl ⟨by rfl,fun w hS=>by obtain ⟨h0,h1,h2,h3⟩:=hS;go_simp⟩,fun _=>rfl⟩ hS ?_
    simp only [ud9]
    refine anyHG_take (i:=22) (d:=68) (v:=.int .i64 (j:Int)) (by kernel_rfl) rfl (by kernel_rfl) (by kernel_rfl) (by kernel_rfl) rfl (by kernel_rfl) (fun _ _ _ h=>h) ⟨Or.inl ⟨by rfl,fun w hS=>by obtain ⟨h0,h1,h2,h3⟩:=hS;go_simp⟩,fun _=>rfl⟩ hS ?_
    simp only [ud9]
    refine anyHG_take (i:=23) (d:=69) (v:=.pointer (some ⟨gl,j * 2,none⟩)) (by kernel_rfl) rfl (by kernel_rfl) (by kernel_rfl) (by kernel_rfl) rfl (by kernel_rfl) (fun _ _ _ h=>h) ⟨Or.inl ⟨by rfl,fun w hS=>by obtain ⟨h0,h1,h2,h3⟩:=hS;go_simp⟩,fun _=>rfl⟩ hS ?_
    simp only [ud9]
    refine anyHG_take (i:=24) (d:=70) (v:=.pointer (some ⟨gl,j * 2+1,none⟩)) (by kernel_rfl) rfl (by kernel_rfl) (by kernel_rfl) (by kernel_rfl) rfl (by kernel_rfl) (fun _ _ _ h=>h) ⟨Or.inl ⟨by rfl,fun w hS=>by obtain ⟨h0,h1,h2,h3⟩:=hS;go_simp⟩,fun _=>rfl⟩ hS ?_
    simp only [ud9]
    refine anyHG_take (i:=25) (d:=71) (v:=.int .i64 (VY:Int)) (by kernel_rfl) rfl (by kernel_rfl) (by kernel_rfl) (by kernel_rfl) rfl (by kernel_rfl) (fun _ _ _ h=>h) ⟨Or.inl ⟨by rfl,fun w hS=>by obtain ⟨h0,h1,h2,h3⟩:=hS;go_simp⟩,fun _=>rfl⟩ hS ?_
    simp only [ud9]
    refine anyHG_take (i:=26) (d:=72) (v:=.pointer (some ⟨e7,VY,none⟩)) (by kernel_rfl) rfl (by kernel_rfl) (by kernel_rfl) (by kernel_rfl) rfl (by kernel_rfl) (fun _ _ _ h=>h) ⟨Or.inl ⟨by rfl,fun w hS=>by obtain ⟨h0,h1,h2,h3⟩:=hS;go_simp⟩,fun _=>rfl⟩ hS ?_
    simp only [ud9]
    refine anyHG_take (i:=27) (d:=73) (v:=.slice uA n uc) (by kernel_rfl) rfl (by kernel_rfl) (by kernel_rfl) (by kernel_rfl) rfl (by kernel_rfl) (fun _ _ _ h=>h) ⟨Or.inl ⟨by rfl,fun w hS=>by obtain ⟨h0,h1,h2,h3⟩:=hS;go_simp⟩,fun _=>rfl⟩ hS ?_
    simp only [ud9]
    refine anyHG_take (i:=28) (d:=74) (v:=.slice bA n bc) (by kernel_rfl) rfl (by kernel_rfl) (by kernel_rfl) (by kernel_rfl) rfl (by kernel_rfl) (fun _ _ _ h=>h) ⟨Or.inl ⟨by rfl,fun w hS=>by obtain ⟨h0,h1,h2,h3⟩:=hS;go_simp⟩,fun _=>rfl⟩ hS ?_
    simp only [ud9]
    refine anyHG_one (i:=29) (by kernel_rfl) rfl (by kernel_rfl) (by rfl) ?_
    gi_wp2_with fail
    refine ⟨trivial,(callsIn_wide.2 (HPJ.out _ hBx)).mono ?_⟩
    rintro e w9 ⟨uj,rfl,hoj,hB1⟩
    obtain ⟨jA,jc,hje,_,_⟩:=id (OwnB.bytes hoj)
    rw [HJL.out] at hje
    subst hje
    replace hBx:=below_in hBx hB1
    clear hS
    have hS:(fun U:World=>U.cell? ⟨gl,j * 2,none⟩=some (.int .i64 (UX:Int))∧U.cell? ⟨gl,j * 2+1,none⟩=some (.int .i64 (VY:Int))∧U.cell? ⟨bb,UX,none⟩=some (.slice (some ⟨e7,0,none⟩) R capU)∧U.cell? ⟨e7,VY,none⟩=some (.slice uA n uc)) w9:=HS8.out _ hBx
    gi_wp2
    try (refine ⟨.inr hS,?_⟩)
    refine anyHG_take (i:=30) (d:=76) (v:=.pointer (some ⟨e7,VY,none⟩)) (by kernel_rfl) rfl (by kernel_rfl) (by kernel_rfl) (by kernel_rfl) rfl (by kernel_rfl) (fun _ _ _ h=>h) ⟨Or.inl ⟨by rfl,fun w hS=>by obtain ⟨h0,h1,h2,h3⟩:=hS;go_simp⟩,fun _=>rfl⟩ hS ?_
    simp only [ud9]
    refine anyHG_one (i:=31) (by kernel_rfl) rfl (by kernel_rfl) (by rfl) ?_
    have f7:=HF8.out _ hBx
    obtain ⟨h0,h1,h2,h3⟩:=hS
    gi_wp2
    try (refine ⟨.inl rfl,?_⟩)
    refine anyHG_done (by kernel_rfl) ?_ _
    refine NoPanic.normal ?_
    have hnb9:BytesP (fun q=>wr.heap.size≤q∧q<w9.heap.size) w9 (.slice jA n jc) nw:=Fresh.toP (OwnB.fresh hoj)
    have hsp9:=HLAT.out w9 (fun q hq=>hBx.block q (HPP.out q hq).1.2) (fun q=>wr.heap.size≤q∧q<w9.heap.size) (.slice jA n jc) nw (fun q h1 h2=>by have h3:=(HPP.out q h2).1.2;omega) hnb9
    have hs9:=hBx.size
    have hbr9:Below w3.heap.size w3 (w9.setCell ⟨e7,VY,none⟩ (.slice jA n jc)):=(below_in HBR.out hBx).setCell (by show w3.heap.size≤e7;omega) _
    have hcj9:∀ j (hj:j<tl.length),(w9.setCell ⟨e7,VY,none⟩ (.slice jA n jc)).cell? ⟨gl,j * 2,none⟩=some (.int .i64 (tl[j]).1)∧(w9.setCell ⟨e7,VY,none⟩ (.slice jA n jc)).cell? ⟨gl,j * 2+1,none⟩=some (.int .i64 (tl[j]).2):=fun j hj=>by
     have hgw:gl<wr.heap.size:=by have:=HSZ.out;omega
     have hne9:gl≠e7:=Ne.symm he9.2
     exact ⟨(setCell_far hne9).trans ((hBx.cell (p:=⟨gl,j * 2,none⟩) hgw).trans (HCJ.out j hj).1),(setCell_far hne9).trans ((hBx.cell (p:=⟨gl,j * 2+1,none⟩) hgw).trans (HCJ.out j hj).2)⟩
    have hsz9:(w9.setCell ⟨e7,VY,none⟩ (.slice jA n jc)).heap.size=w9.heap.size:=by simp
    generalize w9.setCell ⟨e7,VY,none⟩ (.slice jA n jc)=w10 at *
    clear HS8 HF8 HPJ HLAT
    go_wp2
    go_roundw
    case rel =>
     refine ⟨j+1,fun q=>PP q∨(wr.heap.size≤q∧q<w9.heap.size),by omega,by go_num,by rw [HC1.out,HNX.out];exact hsp9,Lib.hid (fun q hq=>?_),Lib.hid hbr9,Lib.hid (by have:=HSZ.out;omega),Lib.hid hcj9⟩
     rcases hq with hq | hq
     · have h3:=HPP.out q hq;exact ⟨⟨h3.1.1,by omega⟩,h3.2⟩
     · have h4:=HSZ.out;exact ⟨⟨by omega,by omega⟩,by omega⟩
    case measure=>simp [intOf];omega
  · obtain rfl:j=M:=by omega
    have hdec:decide ((j:Int)<(j:Int))=false:=by simp
    have hsl:=HSP.out
    rw [List.take_of_length_le (Nat.le_of_eq HM.out),HFIN.out] at hsl
    have hco:Cols wr.heap.size wr (.slice (some ⟨bb,0,none⟩) N oc) (chgK k p s (X:Int) (Y:Int) c):=colsR_iff.1 (colsR.imp (sepC_cols hsl) fun q hq=>(HPP.out q hq).1.2)
    have hra:ReadA wr (.slice (some ⟨gl,0,none⟩) j capl) tl:=⟨_,capl,by rw [HM.out],fun i hi=>⟨gl,rfl,by have:=HSZ.out;omega,(HCJ.out i hi).1,(HCJ.out i hi).2⟩⟩
    clear hsl HSP
    go_wp2
    go_ret2
    exact ⟨_,_,_,_,rfl,hco,hra,hW3.trans (HBR.out.mono hw03)⟩
end Go.Proofs.YtknkdbincaonbaaGreatDoor.Cd

namespace Go.Proofs.YtknkdbincaonbaaGreatDoor.E
open Go.RowKit Go.Shelf Go.Proofs.YtknkdbincaonbaaGreatDoor.C Go.ChangeShapes Go.WideShapes

theorem many_rows {w:World} {a:Addr} {len cap:Nat} (hl:len≤cap) {A:Nat→Option Addr} {L C:Nat→Nat} {Z:Nat→List Int}
 (h:∀ r,r<cap→w.cell? (a.add r)=some (.slice (A r) (L r) (C r))∧IsRow .u8 w (A r) (L r) (C r) (Z r)):∃ ls:List (List UInt8),Many w.heap.size w (.slice (some a) len cap) ls:=by
 have each:∀ r,∃ l:List UInt8,r<cap→l.length=L r∧Bytes w.heap.size w (.slice (A r) (L r) (C r)) l:=by
  intro r
  by_cases hr:r<cap
  · obtain ⟨l,h1,h2⟩:=row_bytes (h r hr).2
    exact ⟨l,fun _=>⟨h1,h2⟩⟩
  · exact ⟨[],fun h=>absurd h hr⟩
 let f:Nat→List UInt8:=fun r=>(each r).choose
 have hf:∀ r,r<cap→(f r).length=L r∧Bytes w.heap.size w (.slice (A r) (L r) (C r)) (f r):=fun r=>(each r).choose_spec
 have hlen:((List.range len).map f).length=len:=by simp
 refine ⟨(List.range len).map f,some a,cap,by rw [hlen],by rw [hlen];exact hl,fun hp=>?_⟩
 rw [hlen] at hp ⊢
 obtain ⟨b,off,spot⟩:=a
 have hc:=(h 0 (by omega)).1
 have hspot:spot=none:=by simpa [Addr.add] using World.cell?_spot hc
 subst hspot
 refine ⟨b,off,rfl,?_,fun j hj=>⟨.slice (A j) (L j) (C j),?_,?_⟩⟩
 · have:=block_lt_of_cell hc
   simpa [Addr.add] using this
 · rw [←addr_add];exact (h j (by omega)).1
 · have e:((List.range len).map f)[j]?.getD []=f j:=by
    rw [List.getElem?_map,List.getElem?_range hj];rfl
   rw [e]
   exact (hf j (by omega)).2
theorem open_col {H:Type} {enc:TypeId×Value→H} {W:World} {base fuel:Nat} {v:Value} {x:DataW H×List MemPlace} (hf:DataW.trod enc Tryz.prog W base (fun _=>true) true fuel 58 [v]=some x):∃ ls,Many W.heap.size W v ls:=by
 rcases Deep.open_int_rows Tryz.underlying58 Tryz.underlying32 Tryz.underlying5 (by kernel_rfl) (by kernel_rfl) hf with ⟨hcs,_⟩ | ⟨x,l,c,AA,LL,CC,ZZ,hcs,_,hl,hm,_,hrows⟩
 · obtain rfl:v = .slice none 0 0:=by simpa using hcs
   exact ⟨[],Many.nil_ _ _ _ _⟩
 · obtain rfl:v = .slice (some x) l c:=by simpa using hcs
   refine many_rows hl (A:=AA) (L:=LL) (C:=CC) (Z:=ZZ) fun r hr=>?_
   obtain ⟨q1,q2,q3,q4,q5,q6,q7⟩:=hrows r hr
   refine ⟨q1,?_⟩
   cases hAr:AA r with
   | none =>
     have hC:=q6 hAr
     refine .inl ⟨rfl,by omega,hC,List.eq_nil_of_length_eq_zero (by omega)⟩
   | some x=>exact .inr ⟨x,rfl,q2,q3,q4,fun i hi=>(q7 x hAr).2 i (by omega),q5⟩
theorem open_cols {H:Type} {enc:TypeId×Value→H} {W:World} {base fuel:Nat} {v:Value} {x:DataW H×List MemPlace} (hf:DataW.trod enc Tryz.prog W base (fun _=>true) true fuel 25 [v]=some x):∃ css,Cols W.heap.size W v css:=by
 rcases Deep.open_slice1 Tryz.underlying25 (by kernel_rfl) hf with ⟨hcs,_⟩ | ⟨a,len,cap,m,n,V,D,Pl,hcs,hb,hl,hm,hmm,hxx,hx⟩
 · obtain rfl:v = .slice none 0 0:=by simpa using hcs
   exact ⟨[],none,0,rfl,Nat.le_refl _,fun h=>absurd h (by simp)⟩
 · obtain rfl:v = .slice (some a) len cap:=by simpa using hcs
   simp only [if_true] at hmm
   have hmm':=hmm.symm
   subst hmm'
   have each:∀ r,∃ ls:List (List UInt8),r<cap→W.cell? (a.add r)=some (V r)∧Many W.heap.size W (V r) ls:=by
    intro r
    by_cases hr:r<cap
    · obtain ⟨ls,h1⟩:=open_col (hx r hr).2
      exact ⟨ls,fun _=>⟨(hx r hr).1,h1⟩⟩
    · exact ⟨[],fun h=>absurd h hr⟩
   let f:Nat→List (List UInt8):=fun r=>(each r).choose
   have hff:∀ r,r<cap→W.cell? (a.add r)=some (V r)∧Many W.heap.size W (V r) (f r):=fun r=>(each r).choose_spec
   have hlen:((List.range len).map f).length=len:=by simp
   refine ⟨(List.range len).map f,some a,cap,by rw [hlen],by rw [hlen];exact hl,fun hp=>?_⟩
   rw [hlen] at hp ⊢
   obtain ⟨b,off,spot⟩:=a
   have hc:=(hff 0 (by omega)).1
   have hspot:spot=none:=by simpa [Addr.add] using World.cell?_spot hc
   subst hspot
   refine ⟨b,off,rfl,?_,fun j hj=>⟨V j,?_,?_⟩⟩
   · have:=block_lt_of_cell hc
     simpa [Addr.add] using this
   · rw [←addr_add];exact (hff j (by omega)).1
   · have e:((List.range len).map f)[j]?.getD []=f j:=by
      rw [List.getElem?_map,List.getElem?_range hj];rfl
     rw [e]
     exact (hff j (by omega)).2
theorem wf_i64 {n:Int} (h:(Lit.int .i64 n).wf=true):-9223372036854775808≤n∧n≤9223372036854775807:=by
 have:=bounds_i64 h
 omega
end Go.Proofs.YtknkdbincaonbaaGreatDoor.E

namespace Go.Proofs.YtknkdbincaonbaaGreatDoor.Cd
open Go.RowKit Go.Shelf Go.Proofs.YtknkdbincaonbaaGreatDoor.C Go.Proofs.YtknkdbincaonbaaGreatDoor.E Go.ChangeShapes Go.WideShapes

theorem open_bytes9 {H:Type} {enc:TypeId×Value→H} {W:World} {base fuel:Nat} {v:Value} {x:DataW H×List MemPlace} (hf:DataW.trod enc Tryz.prog W base (fun _=>true) true fuel 32 [v]=some x):∃ (A:Option Addr) (n c:Nat) (l:List UInt8),v = .slice A n c∧Bytes W.heap.size W v l:=by
 rcases open_ints Tryz.underlying32 Tryz.underlying5 (by kernel_rfl) hf with ⟨hcs,_⟩ | ⟨x,l,c,zs,hcs,_,hl,hm,hz,_,hcell,hwz⟩
 · obtain rfl:v = .slice none 0 0:=by simpa using hcs
   obtain ⟨l,_,h⟩:=row_bytes (w:=W) (.inl ⟨rfl,rfl,rfl,rfl⟩:IsRow .u8 W none 0 0 [])
   exact ⟨none,0,0,l,rfl,h⟩
 · obtain rfl:v = .slice (some x) l c:=by simpa using hcs
   obtain ⟨ll,_,h⟩:=row_bytes (w:=W) (.inr ⟨_,rfl,hl,hm,by simpa using hz,hcell,hwz⟩:IsRow .u8 W (some x) l c zs)
   exact ⟨_,_,_,ll,rfl,h⟩
end Go.Proofs.YtknkdbincaonbaaGreatDoor.Cd
