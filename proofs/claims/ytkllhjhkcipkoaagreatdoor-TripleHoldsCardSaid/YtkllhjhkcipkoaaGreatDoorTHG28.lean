/- -/
import Derived.Test.YtkllhjhkcipkoaaGreatDoorTHG27
set_option linter.unusedVariables false
set_option linter.unusedSimpArgs false
set_option maxRecDepth 100000
set_option maxHeartbeats 4000000
namespace Go.Proofs.YtkllhjhkcipkoaaGreatDoor.E
open Go.RowKit Go.Shelf Go.Proofs.YtkllhjhkcipkoaaGreatDoor.C

theorem colL_next (k p:Int) (n:Nat) (css:List (List (List UInt8))) (col:Int) {r:Nat} (hr:r<(p - 1).toNat):(colL k p n css col).take (r+1)=(colL k p n css col).take r ++ [uponL n css (memL k p col (r:Int))]:=by
 unfold colL
 rw [map_next _ 0 _ (by rw [List.length_range];exact hr),List.getElem?_range hr]
 rfl
theorem memL_in {k p:Int} (hR:RightC k p) {col row:Int} {R N:Nat} (hRR:p - 1=(R:Int)) (hN:col≤(N:Int)):inL R N (memL k p col row):=by
 intro z hz
 unfold memL at hz
 have h1:=flatC_mem' (List.mem_filter.1 hz).1
 have h2:=spanL_mem h1.1
 omega
theorem encode6_any {B:Nat} (k p:Int) (hR:RightC k p) (v1:Value) (css:List (List (List UInt8))) (n:Nat) (w:World) (hB:B≤w.heap.size) (hC:Cols B w v1 css) (hlen:(css.length:Int)=p - shortN k) (hG:Grid (p - 1).toNat n css) (hn:n≤1000) :
 Calls Tryz.prog 24 #[.agg #[.int .i64 k,.int .i64 p],v1] w fun e w'=>∃ u,e = .returned u∧Cols w'.heap.size w' u (stepsL k p n css (madeN k).toNat)∧Below w.heap.size w w':=by
 obtain ⟨p1,p2,s1,s2,m1,m2⟩:=hR.und
 obtain ⟨b1,off1,cap,rfl,hcap,hb1,hrow0⟩:=hC.at_ (by omega)
 obtain ⟨R,hRR⟩:∃ R:Nat,p - 1=(R:Int):=⟨(p - 1).toNat,by omega⟩
 obtain ⟨M,hM⟩:∃ M:Nat,madeN k=(M:Int):=⟨(madeN k).toNat,by omega⟩
 have hRt:(p - 1).toNat=R:=by omega
 have hMt:(madeN k).toNat=M:=by omega
 rw [hRt] at hG
 rw [hMt]
 have HCo:=Lib.hid (fun W=>refCols_any k p hR W)
 have HDa:=Lib.hid (fun W=>refData_any k p hR W)
 have HRw:=Lib.hid (fun W=>refRows_any k p hR W)
 have hcd:p - shortN k+madeN k=((css.length+M:Nat):Int):=by omega
 rw [hcd] at HCo
 rw [←hlen] at HDa
 rw [hRR] at HRw
 have HMB:=Lib.hid (fun (m r:Nat) (hm:m<M) (hr:r<R) (W:World)=>refMembers_any k p ((css.length+m:Nat):Int) (r:Int) hR ⟨by omega,by omega⟩ (by omega) W)
 have HMI:=Lib.hid (fun (m r:Nat)=>(memL_in hR hRR (Int.le_refl _):inL R (css.length+m) (memL k p ((css.length+m:Nat):Int) (r:Int))))
 have HMLN:=Lib.hid (fun (m r:Nat) (hm:m<M) (hr:r<R)=>(memL_len (k:=k) (p:=p) (mx:=((css.length+m:Nat):Int)) (my:=(r:Int)) hR ⟨by omega,by omega⟩))
 have HGR:=Lib.hid (fun m=>hG.steps (k:=k) (p:=p) hRt.symm m)
 have HSL:=Lib.hid (fun m=>stepsL_len k p n css m)
 have HSN:Hid (∀ m,stepsL k p n css (m+1)=stepsL k p n css m ++ [colL k p n (stepsL k p n css m) ((css.length+m:Nat):Int)]):=fun m=>by
  show _ ++ [colL k p n _ ((css.length:Int)+(m:Int))] = _
  rw [Int.natCast_add]
 have HCN:Hid (∀ (m r:Nat),r<R→(colL k p n (stepsL k p n css m) ((css.length+m:Nat):Int)).take (r+1)=(colL k p n (stepsL k p n css m) ((css.length+m:Nat):Int)).take r ++ [uponL n (stepsL k p n css m) (memL k p ((css.length+m:Nat):Int) (r:Int))]):=fun m r hr=>colL_next k p n _ _ (by omega)
 have HCL:=Lib.hid (fun m=>(colL_len k p n (stepsL k p n css m) ((css.length+m:Nat):Int)).trans hRt)
 have HUL:=Lib.hid (fun m r=>uponL_len n (stepsL k p n css m) (memL k p ((css.length+m:Nat):Int) (r:Int)))
 have hR16:R≤16:=by omega
 have hR2:2≤R:=by omega
 have hM3:M≤3:=by omega
 have hn20:css.length≤17:=by omega
 have hn1:1≤css.length:=by omega
 -- the first cell
 obtain ⟨u1,hc1,hm1⟩:=hrow0 0 (by omega)
 obtain ⟨hcr,hce⟩:=hG 0 (by omega)
 obtain ⟨A3,cap3,rfl,_,_⟩:=id hm1
 obtain ⟨b2,off3,rfl,hb2,hrow3⟩:=many_at hm1 (by omega)
 obtain ⟨Aa,ca,hc3,_⟩:=hrow3 0 (by omega)
 rw [hcr,Nat.add_zero] at hc1
 rw [hce 0 (by omega),Nat.add_zero] at hc3
 have HROW:=Lib.hid hrow0
 have HCC:=Lib.hid hC
 have HG0:=Lib.hid (fun j hj=>(hG j hj).1)
 have b0:=Blk.new w 37 #[.int .i64 k,.int .i64 p]
 have hBW:=below_one w (.cells #[.int .i64 k,.int .i64 p] 37)
 have HCI:Hid (∀ j,j<css.length→css.take (j+1)=css.take j ++ [css[j]?.getD []]):=fun j hj=>by rw [List.take_add_one,List.getElem?_eq_getElem hj];rfl
 have HCE:Hid (css.take css.length=stepsL k p n css 0):=by unfold Hid;rw [List.take_length];rfl
 have HSS:=Lib.hid (fun (V:World) (hV:Below w.heap.size w V) (hb:Blk V w.heap.size 37 #[.int .i64 k,.int .i64 p])=>(⟨by have:=hb.cell 0;simpa using this,by have:=hb.cell 1;simpa using this,(hV.cell (p:=⟨b1,off1,none⟩) (Nat.lt_of_lt_of_le hb1 hB)).trans hc1,(hV.cell (p:=⟨b2,off3,none⟩) (Nat.lt_of_lt_of_le hb2 hB)).trans hc3⟩:(fun V:World=>V.cell? ⟨w.heap.size,0,none⟩=some (.int .i64 k)∧V.cell? ⟨w.heap.size,1,none⟩=some (.int .i64 p)∧V.cell? ⟨b1,off1,none⟩=some (.slice (some ⟨b2,off3,none⟩) R cap3)∧V.cell? ⟨b2,off3,none⟩=some (.slice Aa n ca)) V))
 clear hm1 hrow3 hcr hce hc1 hc3 hrow0 hC hG hcd hlen hRR hRt hM hMt hR p1 p2 s1 s2 m1 m2
 generalize hn0:css.length=n0 at *
 clear hn0
 go_enter Tryz.func24,Tryz.ntmps24
 go_wp2_with fail
 go_loopw [5,6] (fun v i wr=>∃ m:Nat,m≤n0∧i = .int .i64 m∧RowC (fun _=>True) wr (w.heap.size+1) v (css.take m)∧Blk wr w.heap.size 37 #[.int .i64 k,.int .i64 p]∧Below w.heap.size w wr) (fun _ i _=>n0 - (intOf i).toNat)
 case atStart=>exact ⟨0,Nat.zero_le _,rfl,RowG.nil _ _ _ _ _ _,b0,hBW⟩
 case round =>
  clear b0 hBW
  obtain ⟨m,hm,rfl,hrow,b0,hBr⟩:=hrel
  by_cases hlt:m<n0
  · have hdec:decide ((m:Int)<(n0:Int))=true:=by simp;omega
    obtain ⟨u1,hc1,hm1⟩:=HROW.out m hlt
    obtain ⟨A4,cap4,rfl,_,_⟩:=id hm1
    have hc2:=(hBr.cell (p:=⟨b1,off1+m,none⟩) (Nat.lt_of_lt_of_le hb1 hB)).trans hc1
    have hnx:=HCI.out m hlt
    have hm2:Many B wr _ _:=hm1.below (hBr.mono hB)
    have HVLE:=Lib.hid (fun b e=>RowG.own_le hrow b e)
    have hpl:(css.take m).length≤100:=by rw [List.length_take];omega
    clear hc1 hm1
    generalize css[m]?.getD []=xs at *
    generalize css.take m=pre at *
    generalize xs.length=n7 at *
    have i1:(0:Int)≤(m:Int):=by omega
    have i2:(m:Int)<(n0:Int):=by omega
    have hcells:Below wr.heap.size wr (wr.alloc (.cells #[.slice A4 n7 cap4] 41)):=below_one wr _
    have hszr:=hBr.size
    have HROWC:=Lib.hid (RowG.below hrow hcells)
    have HBLK:=Lib.hid (Blk.new wr 41 #[.slice A4 n7 cap4])
    have HCP:Hid (manyR.R (fun b=>b<(wr.alloc (.cells #[.slice A4 n7 cap4] 41)).heap.size∧some b≠u5.ownBlock∧True) (wr.alloc (.cells #[.slice A4 n7 cap4] 41)) (.slice A4 n7 cap4) xs) :=
     SliceP.imp (hm2.below (hcells.mono (Nat.le_trans hB hszr))) fun b hb=>⟨by have hb':b<B:=hb;simp;omega,fun e=>by have:=HVLE.out b e.symm;have hb':b<B:=hb;omega,trivial⟩
    have hb5:Blk (wr.alloc (.cells #[.slice A4 n7 cap4] 41)) w.heap.size 37 #[.int .i64 k,.int .i64 p]:=b0.alloc _
    clear hrow hm2
    go_wp2_with (at_builtin;refine wpList_pushC (T:=32) _ rfl _ _ rfl Tryz.underlying32 pre rfl HROWC.out wr.heap.size 41 _ xs rfl HBLK.out HCP.out (by omega) (by simp;omega) ?_;intro v' w2 hrow4 hgrow hown)
    go_roundw
    case rel=>exact ⟨m+1,by omega,by go_num,by rw [hnx];exact hrow4,hb5.grown hgrow (fun e=>by have:=HVLE.out _ e.symm;omega),below_grown (below_in hBr hcells) hgrow (by simp;omega) (fun g e=>by have:=HVLE.out g e;omega)⟩
    case measure=>simp [intOf];omega
  · obtain rfl:m=n0:=by omega
    have e1:decide ((m:Int)<(m:Int))=false:=by simp
    rw [HCE.out] at hrow
    have c0:=b0.cell 0;have c1:=b0.cell 1;simp only [gz9] at c0 c1
    go_wp2_with (go_at_call 46;refine (HDa.out _).mono ?_;rintro e w1 ⟨rfl,hB1⟩;replace hrow:=RowG.below hrow hB1;replace b0:=b0.below hB1 b0.lt;replace hBr:=below_in hBr hB1)
    clear c0 c1
    go_loopw [5,7] (fun v i wr=>∃ j:Nat,j≤M∧i = .int .i64 ((m+j:Nat):Int)∧RowC (fun _=>True) wr (w.heap.size+1) v (stepsL k p n css j)∧Blk wr w.heap.size 37 #[.int .i64 k,.int .i64 p]∧Below w.heap.size w wr) (fun _ i _=>m+M - (intOf i).toNat)
    case atStart=>exact ⟨0,Nat.zero_le _,rfl,hrow,b0,hBr⟩
    case round =>
     clear b0 hBr hrow
     obtain ⟨j,hj,rfl,hrow,b0,hBr⟩:=hrel
     have c0:=b0.cell 0;have c1:=b0.cell 1;simp only [gz9] at c0 c1
     by_cases hlt:j<M
     · have HMEM:=Lib.hid (fun (r:Nat) (hr:r<R) (W:World)=>HMB.out j r hlt hr W)
       have HMIJ:=Lib.hid (fun r=>HMI.out j r)
       have HMLJ:=Lib.hid (fun r hr=>HMLN.out j r hlt hr)
       have HGJ:=Lib.hid (HGR.out j)
       have HSJ:=Lib.hid (HSL.out j)
       have HNX:=Lib.hid (HSN.out j)
       have HNR:=Lib.hid (fun r hr=>HCN.out j r hr)
       have HLC:=Lib.hid (HCL.out j)
       have HLU:=Lib.hid (fun r=>HUL.out j r)
       have hmj:m+j≤20:=by omega
       have hpl:Hid ((stepsL k p n css j).length≤100):=by unfold Hid;rw [HSL.out j];omega
       clear HMB HGR HSL HSN HCN HCL HUL HCI HCE HROW HG0 HMI HMLN
       have hdec0:((m+j:Nat):Int)<((m+M:Nat):Int):=by omega
       have hwr:wrap64 (((m+j:Nat):Int)+1)=((m+(j+1):Nat):Int):=by rw [IntWalk.wrap64_in _ (by omega)];omega
       generalize hcol:((m+j:Nat):Int)=col at *
       generalize htot:((m+M:Nat):Int)=tot at *
       have hdec:decide (col<tot)=true:=by simpa using hdec0
       have hcb1:0≤col:=by omega
       have hcb2:col≤100:=by omega
       have HCOL:=Lib.hid hcol
       have HWR:=Lib.hid hwr
       have HTOT:=Lib.hid htot
       clear hcol hwr htot hdec0
       generalize hmade:colL k p n (stepsL k p n css j) col=made at *
       generalize hst:stepsL k p n css j=st at *
       clear hmade hst
       go_wp2_with (go_at_call 47;refine (HCo.out _).mono ?_;rintro e wq ⟨rfl,hB1⟩;replace hrow:=RowG.below hrow hB1;replace b0:=b0.below hB1 b0.lt;replace hBr:=below_in hBr hB1)
       clear c0 c1 hB1
       have hgl:=b0.lt
       have HBL:=Lib.hid b0
       have HUP:=Lib.hid (fun (r:Nat) (hr:r<R) (V:World) (vm:Value) (hV:Below wq.heap.size wq V) (hm:ReadA V vm (memL k p col (r:Int)))=>upon6_any (B:=V.heap.size) u5 vm st _ R n V (Nat.le_refl _) (RowC.cols (RowG.below hrow hV)) hm HGJ.out (by rw [HSJ.out];exact HMIJ.out r) hn (HMLJ.out r hr) (by rw [HSJ.out];omega) (by omega))
       have HSS2:=Lib.hid (fun (V:World) (hV:Below wq.heap.size wq V)=>HSS.out V (below_in hBr hV) (HBL.out.below hV hgl))
       have HVLT:=Lib.hid (fun b e=>RowG.own_lt hrow b e)
       have HVLE:=Lib.hid (fun b e=>RowG.own_le hrow b e)
       have HROWQ:=Lib.hid hrow
       clear hrow
       go_wp2
       go_loopw [8,9] (fun v2 i wr=>∃ r:Nat,r≤R∧i = .int .i64 r∧RowM (fun b=>some b≠u5.ownBlock) wr wq.heap.size v2 (made.take r)∧Below wq.heap.size wq wr) (fun _ i _=>R - (intOf i).toNat)
       case atStart=>exact ⟨0,Nat.zero_le _,rfl,RowG.nil _ _ _ _ _ _,Below.refl _ _⟩
       case round =>
        obtain ⟨r,hr,rfl,hrow2,hBs⟩:=hrel
        have b5:=HBL.out.below hBs hgl
        have c0:=b5.cell 0;have c1:=b5.cell 1;simp only [gz9] at c0 c1
        by_cases hlt2:r<R
        · have hdec2:decide ((r:Int)<(R:Int))=true:=by simp;omega
          go_wp2_with (go_at_call 36;refine (HRw.out _).mono ?_;rintro e wr2 ⟨rfl,hB1⟩;replace hrow2:=RowG.below hrow2 hB1;replace hBs:=below_in hBs hB1)
          have hS0:=HSS2.out _ hBs
          have hr16:(made.take r).length≤100:=by rw [List.length_take,HLC.out];omega
          have HPL2:=Lib.hid hr16
          have HNX2:=Lib.hid (HNR.out r hlt2)
          have HLX:Hid ((uponL n st (memL k p col (r:Int))).length=n):=HLU.out r
          have HVLT2:=Lib.hid (fun b e=>RowG.own_lt hrow2 b e)
          have HVLE2:=Lib.hid (fun b e=>RowG.own_le hrow2 b e)
          have HMEMR:=Lib.hid (fun W=>HMEM.out r hlt2 W)
          have HUPR:=Lib.hid (fun V vm hV hm=>HUP.out r hlt2 V vm hV hm)
          have i5:(0:Int)≤(r:Int):=by omega
          have z1:(0:Int)<(m:Int):=by omega
          have z2:(0:Int)<(R:Int):=by omega
          have z3:¬ R=0:=by omega
          have z4:¬ m=0:=by omega
          clear hr16 c0 c1 b5
          generalize uponL n st (memL k p col (r:Int))=xone at *
          generalize memL k p col (r:Int)=mem at *
          generalize made.take r=pre2 at *
          go_wp2_with fail
          have hS:(fun V:World=>V.cell? ⟨w.heap.size,0,none⟩=some (.int .i64 k)∧V.cell? ⟨w.heap.size,1,none⟩=some (.int .i64 p)∧V.cell? ⟨b1,off1,none⟩=some (.slice (some ⟨b2,off3,none⟩) R cap3)∧V.cell? ⟨b2,off3,none⟩=some (.slice Aa n ca)) wr2.drew:=HSS2.out _ hBs.drew
          refine (wpIn_wide (n:=12)).1 (wpIn_mono (region_HF (Q:=NoPanic _) (S:=(fun V:World=>V.cell? ⟨w.heap.size,0,none⟩=some (.int .i64 k)∧V.cell? ⟨w.heap.size,1,none⟩=some (.int .i64 p)∧V.cell? ⟨b1,off1,none⟩=some (.slice (some ⟨b2,off3,none⟩) R cap3)∧V.cell? ⟨b2,off3,none⟩=some (.slice Aa n ca))) (by kernel_rfl) ?_) NoPanic.imp)
          refine tkF (i:=0) (d:=37) (v:=u8) (s:=hS) (c:=?_)
          simp only [ud9]
          refine tkF (i:=1) (d:=38) (v:=u5) (s:=hS) (c:=?_)
          simp only [ud9]
          refine tkF (i:=2) (d:=39) (v:=.agg #[.int .i64 k,.int .i64 p]) (s:=hS) (c:=?_)
          simp only [ud9]
          refine tkF (i:=3) (d:=40) (v:=.int .i64 col) (s:=hS) (c:=?_)
          simp only [ud9]
          refine tkF (i:=4) (d:=41) (v:=.int .i64 (r:Int)) (s:=hS) (c:=?_)
          simp only [ud9]
          refine tkF (i:=5) (d:=42) (v:=.agg #[.int .i64 col,.int .i64 (r:Int)]) (s:=hS) (c:=?_)
          simp only [ud9]
          refine tkF (i:=7) (d:=44) (v:=.slice (some ⟨b1,off1,none⟩) m cap) (s:=hS) (c:=?_)
          simp only [ud9]
          refine tkF (i:=8) (d:=45) (v:=.pointer (some ⟨b1,off1,none⟩)) (s:=hS) (c:=?_)
          simp only [ud9]
          refine tkF (i:=9) (d:=46) (v:=.slice (some ⟨b2,off3,none⟩) R cap3) (s:=hS) (c:=?_)
          simp only [ud9]
          refine tkF (i:=10) (d:=47) (v:=.pointer (some ⟨b2,off3,none⟩)) (s:=hS) (c:=?_)
          simp only [ud9]
          refine tkF (i:=11) (d:=48) (v:=.slice Aa n ca) (s:=hS) (c:=?_)
          simp only [ud9]
          refine tkF (i:=12) (d:=49) (v:=.int .i64 (n:Int)) (s:=hS) (c:=?_)
          simp only [ud9]
          refine oneF (i:=6) (c:=?_)
          gi_wp2_with fail
          refine ⟨trivial,(callsIn_wide.2 (HMEMR.out _)).mono ?_⟩
          rintro e wm ⟨vm,rfl,hmem,hBm⟩
          replace hBm:=below_undrew hBm
          clear hS
          have hS:(fun V:World=>V.cell? ⟨w.heap.size,0,none⟩=some (.int .i64 k)∧V.cell? ⟨w.heap.size,1,none⟩=some (.int .i64 p)∧V.cell? ⟨b1,off1,none⟩=some (.slice (some ⟨b2,off3,none⟩) R cap3)∧V.cell? ⟨b2,off3,none⟩=some (.slice Aa n ca)) wm:=HSS2.out _ (below_in hBs hBm)
          gi_wp2
          try (refine ⟨hS,?_⟩)
          refine oneF (i:=13) (c:=?_)
          gi_wp2_with fail
          refine ⟨trivial,(callsIn_wide.2 (HUPR.out _ vm (below_in hBs hBm) hmem.readA)).mono ?_⟩
          rintro e wn ⟨v',rfl,hfr,hBn⟩
          obtain ⟨Ax,cx,hxe,_,_⟩:=id hfr
          rw [HLX.out] at hxe
          subst hxe
          replace hfr:=hfr.less hBm.size
          replace hBn:=below_in hBm hBn
          clear hS
          have hS:(fun V:World=>V.cell? ⟨w.heap.size,0,none⟩=some (.int .i64 k)∧V.cell? ⟨w.heap.size,1,none⟩=some (.int .i64 p)∧V.cell? ⟨b1,off1,none⟩=some (.slice (some ⟨b2,off3,none⟩) R cap3)∧V.cell? ⟨b2,off3,none⟩=some (.slice Aa n ca)) wn:=HSS2.out _ (below_in hBs hBn)
          gi_wp2
          try (refine ⟨hS,?_⟩)
          refine oneF (i:=14) (c:=?_)
          have hcells:Below wn.heap.size wn (wn.alloc (.cells #[.slice Ax n cx] 60)):=below_one wn _
          have hBc:=below_in hBn hcells
          have HROWM:=Lib.hid (RowG.below hrow2 hBc)
          have HBLK:=Lib.hid (Blk.new wn 60 #[.slice Ax n cx])
          have hss:=hBs.size
          have hbn:=hBn.size
          have hcs:=hcells.size
          have hwq:=hBr.size
          have HBY:Hid (BytesP (fun b=>b<(wn.alloc (.cells #[.slice Ax n cx] 60)).heap.size∧some b≠u8.ownBlock∧some b≠u5.ownBlock) (wn.alloc (.cells #[.slice Ax n cx] 60)) (.slice Ax n cx) xone):=by
           obtain ⟨A8,cp8,e8,h8,hA8⟩:=hfr.below hcells
           refine ⟨A8,cp8,by rw [HLX.out] at e8 ⊢;exact e8,h8,fun hp=>?_⟩
           obtain ⟨b,off,q1,q2,q3,q4⟩:=hA8 hp
           exact ⟨b,off,q1,⟨q3,fun e=>by have:=HVLT2.out b e.symm;omega,fun e=>by have:=HVLT.out b e.symm;omega⟩,q4⟩
          clear hfr hS
          have hS:(fun V:World=>V.cell? ⟨w.heap.size,0,none⟩=some (.int .i64 k)∧V.cell? ⟨w.heap.size,1,none⟩=some (.int .i64 p)∧V.cell? ⟨b1,off1,none⟩=some (.slice (some ⟨b2,off3,none⟩) R cap3)∧V.cell? ⟨b2,off3,none⟩=some (.slice Aa n ca)) (wn.alloc (.cells #[.slice Ax n cx] 60)):=HSS2.out _ (below_in hBs hBc)
          gi_wp2
          try (refine ⟨hS,?_⟩)
          refine oneF (i:=15) (c:=?_)
          refine opIn_pushM (T:=41) (v:=u8) _ (.tmp 37) (.tmp 51) rfl Tryz.underlying41 pre2 rfl HROWM.out wn.heap.size 60 _ xone rfl HBLK.out HBY.out (by have:=HPL2.out;omega) (by omega) ?_
          intro v' w4 hrow4 hgrow4 hown4
          clear hS
          have hB4:Below wq.heap.size wq w4:=below_grown (below_in hBs hBc) hgrow4 (by omega) (fun g e=>HVLE2.out g e)
          have hS:(fun V:World=>V.cell? ⟨w.heap.size,0,none⟩=some (.int .i64 k)∧V.cell? ⟨w.heap.size,1,none⟩=some (.int .i64 p)∧V.cell? ⟨b1,off1,none⟩=some (.slice (some ⟨b2,off3,none⟩) R cap3)∧V.cell? ⟨b2,off3,none⟩=some (.slice Aa n ca)) w4:=HSS2.out _ hB4
          gi_wp2_with fail
          try (refine ⟨hS,?_⟩)
          refine oneF (i:=16) (c:=?_)
          gi_wp2
          refine anyHF_done (by kernel_rfl) ?_ _
          refine NoPanic.normal ?_
          clear hS
          gi_wp2_with fail
          go_wp2
          go_roundw
          case rel=>exact ⟨r+1,by omega,by go_num,by rw [HNX2.out];exact hrow4,hB4⟩
          case measure=>simp [intOf];omega
        · obtain rfl:r=R:=by omega
          have e1:decide ((r:Int)<(r:Int))=false:=by simp
          have HTK:Hid (made.take r=made):=by unfold Hid;rw [List.take_of_length_le];rw [HLC.out];exact Nat.le_refl _
          rw [HTK.out] at hrow2
          obtain ⟨A7,cp7,hu7,_,_⟩:=id (RowM.many hrow2 (S:=fun _=>True) (fun _ _ _=>trivial))
          subst hu7
          have HNX3:=Lib.hid HNX.out
          generalize made.length=n7 at *
          have HRC:=Lib.hid (fun (V:World) (hV:Below wr.heap.size wr V)=>RowG.below HROWQ.out (below_in (below_in hBs hV) (below_one V (.cells #[.slice A7 n7 cp7] 41))))
          have HBK:=Lib.hid (fun V:World=>Blk.new V 41 #[.slice A7 n7 cp7])
          have HMC:=Lib.hid (fun (V:World) (hV:Below wr.heap.size wr V)=>(RowM.many (RowG.below (RowG.below hrow2 hV) (below_one V (.cells #[.slice A7 n7 cp7] 41))) (fun b hb hq=>⟨hb,(by rcases hq with h | h;exact h;exact fun e=>by have:=HVLT.out b e.symm;omega),trivial⟩):manyR.R (fun b=>b<(V.alloc (.cells #[.slice A7 n7 cp7] 41)).heap.size∧some b≠u5.ownBlock∧True) (V.alloc (.cells #[.slice A7 n7 cp7] 41)) (.slice A7 n7 cp7) made))
          have HPL3:=Lib.hid (show st.length≤100000 by have:=hpl.out;omega)
          have HBS3:=Lib.hid (fun (V:World) (hV:Below wr.heap.size wr V)=>(show w.heap.size+1≤(V.alloc (.cells #[.slice A7 n7 cp7] 41)).heap.size by have:=hV.size;have:=hBs.size;have:=hBr.size;simp;omega))
          have HRL:=Lib.hid (fun (V W:World) (v':Value) (hV:Below wr.heap.size wr V) (hg:(V.alloc (.cells #[.slice A7 n7 cp7] 41)).grownBy W u5.ownBlock)=>(⟨((HBL.out.below (below_in hBs hV) hgl).alloc _).grown hg (fun e=>by have:=HVLE.out _ e.symm;omega),below_grown (below_in hBr (below_in (below_in hBs hV) (below_one V _))) hg (by have:=HBS3.out V hV;omega) (fun g e=>by have:=HVLE.out g e;omega)⟩:Blk W w.heap.size 37 #[.int .i64 k,.int .i64 p]∧Below w.heap.size w W))
          have HMS:Hid (m+M - (col+1).toNat<m+M - col.toNat):=by have h1:=HCOL.out;unfold Hid;clear HWR;omega
          have HW1:Hid (col+1=((m+(j+1):Nat):Int)):=by have h2:=HCOL.out;unfold Hid;clear HWR;omega
          clear hrow2 hBs
          go_wp2_with (first
           | (go_at_call 36;refine (HRw.out _).mono ?_;rintro e wr2 ⟨rfl,hB1⟩)
           | (at_builtin;refine wpList_pushC (T:=32) _ rfl _ _ rfl Tryz.underlying32 st rfl (HRC.out _ hB1) wr2.heap.size 41 _ made rfl (HBK.out _) (HMC.out _ hB1) HPL3.out (HBS3.out _ hB1) ?_;intro v' w2 hrow4 hgrow hown))
          go_roundw
          case rel=>exact ⟨j+1,by omega,congrArg _ HW1.out,by rw [HNX3.out];exact hrow4,HRL.out _ _ v' hB1 hgrow⟩
          case measure=>exact HMS.out
     · obtain rfl:j=M:=by omega
       have e1:decide (((m+j:Nat):Int)<((m+j:Nat):Int))=false:=by simp
       go_wp2_with (go_at_call 47;refine (HCo.out _).mono ?_;rintro e wq ⟨rfl,hB1⟩;replace hrow:=RowG.below hrow hB1;replace hBr:=below_in hBr hB1)
       go_ret
       exact ⟨_,rfl,RowC.cols hrow,hBr⟩
end Go.Proofs.YtkllhjhkcipkoaaGreatDoor.E

namespace Go.Proofs.YtkllhjhkcipkoaaGreatDoor.Ch
open Go.RowKit Go.Shelf Go.Proofs.YtkllhjhkcipkoaaGreatDoor.C Go.Proofs.YtkllhjhkcipkoaaGreatDoor.E Go.Proofs.YtkllhjhkcipkoaaGreatDoor.T

theorem append_stripe (ty:TypeId) (v x:Value) (W:World):(Builtin.append_ #[22,32] ty #[v,x]).run Tryz.prog W=(Builtin.append_ #[22,22] ty #[v,x]).run Tryz.prog W:=by
 have h1:=Tryz.underlying22
 have h2:=Tryz.underlying32
 unfold Builtin.append_
 simp only [List.getElem?_toArray,List.getElem?_cons_zero,List.getElem?_cons_succ,Sem.run_bind,run_underlying h1,run_underlying h2,Result.andThen_ok,Sem.run_pure]
 cases v <;> simp only [Sem.run_bind,run_underlying h1,run_underlying h2,Result.andThen_ok,Sem.run_pure]
theorem wpList_appStripe {Q:Nat→Prop} {base:Nat} {v v2:Value} (w:World) {ops:Array Oper} {rest:List Oper} {o:Oper} {a:Act} {QQ:Exit→Act→World→Prop} (hgd:Region.wanted o (yielded ops a.tmps)=true) (s x:Operand)
 (ho:o.op = .call { callee:=.builtin .append,args:=#[s,x],argTypes:=#[22,32] }) (css ds:List (List (List UInt8))) (hs:a.eval s=v) (h:RowC Q w base v css) (hx:a.eval x=v2)
 (h2:colsR.R (fun b=>b<w.heap.size∧some b≠v.ownBlock∧Q b) w v2 ds) (h0:0<ds.length) (hlen:css.length≤100000) (hlen2:ds.length≤100000) (hbase:base≤w.heap.size)
 (hK:∀ v' w',RowC Q w' base v' (css ++ ds)→w.grownBy w' v.ownBlock→(v'.ownBlock=v.ownBlock∨v'.ownBlock=some w.heap.size)→wpList Tryz.prog ops QQ rest (a.put o.dst v') w'):wpList Tryz.prog ops QQ (o :: rest) a w :=
 BigFrame.wpList_want hgd fun K hK2=>by
  obtain ⟨i,hi,hz0,hz1,hz2⟩:=info_parts Tryz.infoCol
  obtain ⟨v',w',hrun,h1,h3,h4⟩:=RowG.append i hi hz0 hz1 hz2 22 o.type Tryz.underlying22 h h2 (fun A cap e hA=>by
   obtain ⟨A2,c2,e2,_,hA2⟩:=h2
   rw [e] at e2
   injection e2 with _ e3 _
   omega) hlen hlen2 hbase
  unfold Oper.wp execOp
  simp only [ho,resolve,invoke,builtin,Sem.run_bind,Sem.run_pure,Result.andThen_ok,List.map_toArray,List.map_cons,List.map_nil,hs,hx,append_stripe,hrun]
  exact hK2 _ _ (hK v' w' h1 h3 h4)
theorem cols_of_blk {B N cc g:Nat} {W:World} {cur:Array Value} {css:List (List (List UInt8))} (hb:Blk W g 41 cur) (hg:g<B) (hN:css.length=N) (hc:N≤cc) (h:∀ j,j<N→∃ u,cur[j]?=some u∧Many B W u (css[j]?.getD [])):Cols B W (.slice (some ⟨g,0,none⟩) N cc) css:=by
 refine ⟨some ⟨g,0,none⟩,cc,by rw [hN],by rw [hN];exact hc,fun _=>⟨g,0,rfl,hg,fun j hj=>?_⟩⟩
 obtain ⟨u,h1,h2⟩:=h j (by omega)
 exact ⟨u,by rw [Nat.zero_add,hb.cell j];exact h1,h2⟩
theorem rowC_blkT {base:Nat} {W:World} {v:Value} {css:List (List (List UInt8))} (h:RowC (fun _=>True) W base v css) (h0:0<css.length) :
 ∃ g cap cur,v = .slice (some ⟨g,0,none⟩) css.length cap∧css.length≤cap∧base≤g∧Blk W g 41 cur∧css.length≤cur.size∧∀ j,j<css.length→∃ u,cur[j]?=some u∧manyR.R (fun b=>b<W.heap.size∧b≠g) W u (css[j]?.getD []):=by
 obtain ⟨us,ho,hn,hr⟩:=h
 rcases ho.2 with ⟨_,h1⟩ | ⟨g,cap,cur,e,hb,hg,hc,_,hs,ht⟩
 · omega
 · rw [hn] at e hc
   refine ⟨g,cap,cur,e,hc,hb,hg,by omega,fun j hj=>?_⟩
   have hj2:j<us.length:=by omega
   have e2:cur[j]?=us[j]?:=by
    rw [←ht,List.getElem?_take,if_pos (by omega),Array.getElem?_toList]
   refine ⟨us[j],by rw [e2,List.getElem?_eq_getElem hj2],?_⟩
   exact manyR.imp (hr j us[j] (List.getElem?_eq_getElem hj2)) fun b hb=>⟨hb.1,fun e3=>hb.2.1 (by rw [e3,e];rfl)⟩
/- The places of the chain,each once. -/
end Go.Proofs.YtkllhjhkcipkoaaGreatDoor.Ch

namespace Go.Proofs.YtkllhjhkcipkoaaGreatDoor.Tr
open Go.RowKit Go.Shelf Go.Maps Go.Proofs.YtkllhjhkcipkoaaGreatDoor.C Go.Proofs.YtkllhjhkcipkoaaGreatDoor.E Go.Proofs.YtkllhjhkcipkoaaGreatDoor.T Go.Proofs.YtkllhjhkcipkoaaGreatDoor.Rg Go.Proofs.YtkllhjhkcipkoaaGreatDoor.Ch
attribute [local go_sem] Oper.semAt_some

theorem num13_any (n:Int) (w:World):Calls Tryz.prog 12 #[.int .i64 n] w fun e w'=>e = .returned (.int .i64 n)∧w=w':=by
 go_enter Tryz.func12,Tryz.ntmps12
 go_wp2
 go_ret
 exact ⟨rfl,rfl⟩
def cssT:List (List (List UInt8)):=[[[1],[2]],[[4],[8]],[[16],[32]],[[21],[42]],[[57],[30]],[[45],[54]]]
def osT (w:World):List Obj:=[.cells #[.int .u8 1] 5,
 .cells #[.int .u8 2] 5,
 .cells #[.slice (some ⟨w.heap.size+0,0,none⟩) 1 1,.slice (some ⟨w.heap.size+1,0,none⟩) 1 1] 60,
 .cells #[.int .u8 4] 5,
 .cells #[.int .u8 8] 5,
 .cells #[.slice (some ⟨w.heap.size+3,0,none⟩) 1 1,.slice (some ⟨w.heap.size+4,0,none⟩) 1 1] 60,
 .cells #[.int .u8 16] 5,
 .cells #[.int .u8 32] 5,
 .cells #[.slice (some ⟨w.heap.size+6,0,none⟩) 1 1,.slice (some ⟨w.heap.size+7,0,none⟩) 1 1] 60,
 .cells #[.int .u8 21] 5,
 .cells #[.int .u8 42] 5,
 .cells #[.slice (some ⟨w.heap.size+9,0,none⟩) 1 1,.slice (some ⟨w.heap.size+10,0,none⟩) 1 1] 60,
 .cells #[.int .u8 57] 5,
 .cells #[.int .u8 30] 5,
 .cells #[.slice (some ⟨w.heap.size+12,0,none⟩) 1 1,.slice (some ⟨w.heap.size+13,0,none⟩) 1 1] 60,
 .cells #[.int .u8 45] 5,
 .cells #[.int .u8 54] 5,
 .cells #[.slice (some ⟨w.heap.size+15,0,none⟩) 1 1,.slice (some ⟨w.heap.size+16,0,none⟩) 1 1] 60,
 .cells #[.slice (some ⟨w.heap.size+2,0,none⟩) 2 2,.slice (some ⟨w.heap.size+5,0,none⟩) 2 2,.slice (some ⟨w.heap.size+8,0,none⟩) 2 2,.slice (some ⟨w.heap.size+11,0,none⟩) 2 2,.slice (some ⟨w.heap.size+14,0,none⟩) 2 2,.slice (some ⟨w.heap.size+17,0,none⟩) 2 2] 41]
structure StT (w V:World):Prop where
 hb:Blk V (w.heap.size+18) 41 #[.slice (some ⟨w.heap.size+2,0,none⟩) 2 2,.slice (some ⟨w.heap.size+5,0,none⟩) 2 2,.slice (some ⟨w.heap.size+8,0,none⟩) 2 2,.slice (some ⟨w.heap.size+11,0,none⟩) 2 2,.slice (some ⟨w.heap.size+14,0,none⟩) 2 2,.slice (some ⟨w.heap.size+17,0,none⟩) 2 2]
 hc:Cols V.heap.size V (.slice (some ⟨w.heap.size+18,0,none⟩) 6 6) cssT
 m0:Many V.heap.size V (.slice (some ⟨w.heap.size+2,0,none⟩) 2 2) [[1],[2]]
 m1:Many V.heap.size V (.slice (some ⟨w.heap.size+5,0,none⟩) 2 2) [[4],[8]]
 m2:Many V.heap.size V (.slice (some ⟨w.heap.size+8,0,none⟩) 2 2) [[16],[32]]
 m3:Many V.heap.size V (.slice (some ⟨w.heap.size+11,0,none⟩) 2 2) [[21],[42]]
 m4:Many V.heap.size V (.slice (some ⟨w.heap.size+14,0,none⟩) 2 2) [[57],[30]]
 m5:Many V.heap.size V (.slice (some ⟨w.heap.size+17,0,none⟩) 2 2) [[45],[54]]
theorem StT.below {w U V:World} (h:StT w U) (hV:Below U.heap.size U V):StT w V where
 hb:=h.hb.below hV h.hb.lt
 hc:=(h.hc.below hV).more hV.size
 m0:=(h.m0.below hV).more hV.size
 m1:=(h.m1.below hV).more hV.size
 m2:=(h.m2.below hV).more hV.size
 m3:=(h.m3.below hV).more hV.size
 m4:=(h.m4.below hV).more hV.size
 m5:=(h.m5.below hV).more hV.size
theorem stands_T (w:World):StT w (allocs w (osT w)):=by
 have k:∀ (k:Nat) (t:TypeId) (cs:Array Value),(osT w)[k]?=some (.cells cs t)→Blk (allocs w (osT w)) (w.heap.size+k) t cs:=fun k t cs h=>allocs_blk w (osT w) k t cs h
 have m0:=many_W (x:=1) (y:=2) (k 2 _ _ rfl) (k 0 _ _ rfl) (k 1 _ _ rfl)
 have m1:=many_W (x:=4) (y:=8) (k 5 _ _ rfl) (k 3 _ _ rfl) (k 4 _ _ rfl)
 have m2:=many_W (x:=16) (y:=32) (k 8 _ _ rfl) (k 6 _ _ rfl) (k 7 _ _ rfl)
 have m3:=many_W (x:=21) (y:=42) (k 11 _ _ rfl) (k 9 _ _ rfl) (k 10 _ _ rfl)
 have m4:=many_W (x:=57) (y:=30) (k 14 _ _ rfl) (k 12 _ _ rfl) (k 13 _ _ rfl)
 have m5:=many_W (x:=45) (y:=54) (k 17 _ _ rfl) (k 15 _ _ rfl) (k 16 _ _ rfl)
 refine ⟨k 18 _ _ rfl,cols_of_blk (k 18 _ _ rfl) (k 18 _ _ rfl).lt rfl (Nat.le_refl _) (fun j hj=>?_),m0,m1,m2,m3,m4,m5⟩
 rcases j with _ | _ | _ | _ | _ | _ | j
 · exact ⟨_,rfl,m0⟩
 · exact ⟨_,rfl,m1⟩
 · exact ⟨_,rfl,m2⟩
 · exact ⟨_,rfl,m3⟩
 · exact ⟨_,rfl,m4⟩
 · exact ⟨_,rfl,m5⟩
 · omega
def cssT3:List (List (List UInt8)):=[[],[],[],[[21],[42]],[[57],[30]],[[45],[54]]]
def cssT2:List (List (List UInt8)):=[[],[[4],[8]],[],[],[[57],[30]],[[45],[54]]]
def cssT1:List (List (List UInt8)):=[[[1],[2]],[],[[16],[32]],[],[],[[45],[54]]]
theorem small_T {c:List (List (List UInt8))} (h:∀ x∈c,x.length≤1000):∀ j:Nat,(c[j]?.getD []).length≤1000:=fun j=>by
 rcases Nat.lt_or_ge j c.length with h2 | h2
 · rw [List.getElem?_eq_getElem h2];exact h _ (List.getElem_mem h2)
 · rw [List.getElem?_eq_none h2];simp
theorem goods_T3:∀ i:Nat,i<3→(i:Int)∉[(0:Int),1,2]→GoodC 2 1 (cssT3[i]?.getD []):=fun i hi hm=>by
 rcases i with _ | _ | _ | i
 · exact absurd (by simp) hm
 · exact absurd (by simp) hm
 · exact absurd (by simp) hm
 · omega
theorem roles_T3:∀ r∈([2,3,4]:List Int),GoodC 2 1 (cssT3[3+(r - 2).toNat]?.getD []):=fun r hr=>by
 simp at hr
 rcases hr with rfl | rfl | rfl
 · exact good_W 21 42
 · exact good_W 57 30
 · exact good_W 45 54
theorem goods_T2:∀ i:Nat,i<3→(i:Int)∉[(0:Int),2]→GoodC 2 1 (cssT2[i]?.getD []):=fun i hi hm=>by
 rcases i with _ | _ | _ | i
 · exact absurd (by simp) hm
 · exact good_W 4 8
 · exact absurd (by simp) hm
 · omega
theorem roles_T2:∀ r∈butL 2,GoodC 2 1 (cssT2[3+(r - 2).toNat]?.getD []):=fun r hr=>by
 simp [butL] at hr
 rcases hr with rfl | rfl
 · exact good_W 57 30
 · exact good_W 45 54
theorem goods_T1:∀ i:Nat,i<3→(i:Int)∉[(1:Int)]→GoodC 2 1 (cssT1[i]?.getD []):=fun i hi hm=>by
 rcases i with _ | _ | _ | i
 · exact good_W 1 2
 · exact absurd (by simp) hm
 · exact good_W 16 32
 · omega
theorem roles_T1:∀ r∈([4]:List Int),GoodC 2 1 (cssT1[3+(r - 2).toNat]?.getD []):=fun r hr=>by
 simp at hr
 subst hr
 exact good_W 45 54
theorem told_T3:[aT3 3 2 1 (shT 3 2 1 cssT3 (cssT3[3+((2:Int) - 2).toNat]?.getD []) (0) [0,1,2]) (shT 3 2 1 cssT3 (cssT3[3+((3:Int) - 2).toNat]?.getD []) (1) [0,1,2]) (shT 3 2 1 cssT3 (cssT3[3+((4:Int) - 2).toNat]?.getD []) (-1) [0,1,2]) 0 1 2,bT3 3 2 1 (shT 3 2 1 cssT3 (cssT3[3+((2:Int) - 2).toNat]?.getD []) (0) [0,1,2]) (shT 3 2 1 cssT3 (cssT3[3+((3:Int) - 2).toNat]?.getD []) (1) [0,1,2]) (shT 3 2 1 cssT3 (cssT3[3+((4:Int) - 2).toNat]?.getD []) (-1) [0,1,2]) 0 1 2,cT3 3 2 1 (shT 3 2 1 cssT3 (cssT3[3+((2:Int) - 2).toNat]?.getD []) (0) [0,1,2]) (shT 3 2 1 cssT3 (cssT3[3+((3:Int) - 2).toNat]?.getD []) (1) [0,1,2]) (shT 3 2 1 cssT3 (cssT3[3+((4:Int) - 2).toNat]?.getD []) (-1) [0,1,2]) 0 1 2] = [[[1],[2]],[[4],[8]],[[16],[32]]]:=by decide +kernel
theorem told_T2:[aT2 3 2 1 (shT 3 2 1 cssT2 (cssT2[3+(((butL 2)[0]?.getD 0) - 2).toNat]?.getD []) (kOf ((butL 2)[0]?.getD 0)) [0,2]) (shT 3 2 1 cssT2 (cssT2[3+(((butL 2)[1]?.getD 0) - 2).toNat]?.getD []) (kOf ((butL 2)[1]?.getD 0)) [0,2]) (kOf ((butL 2)[0]?.getD 0)) (kOf ((butL 2)[1]?.getD 0)) 0 2,secT 3 2 1 (shT 3 2 1 cssT2 (cssT2[3+(((butL 2)[0]?.getD 0) - 2).toNat]?.getD []) (kOf ((butL 2)[0]?.getD 0)) [0,2]) (shT 3 2 1 cssT2 (cssT2[3+(((butL 2)[1]?.getD 0) - 2).toNat]?.getD []) (kOf ((butL 2)[1]?.getD 0)) [0,2]) (kOf ((butL 2)[0]?.getD 0)) (kOf ((butL 2)[1]?.getD 0)) 0 2] = [[[1],[2]],[[16],[32]]]:=by decide +kernel
theorem told_T1:turnC 3 2 1 (shT 3 2 1 cssT1 (cssT1[3+((4:Int) - 2).toNat]?.getD []) (kOf 4) [1]) (-(kOf 4 * 1)) = [[4],[8]]:=by decide +kernel
theorem three_T {B:Nat} (v:Value) (w:World) (hL:Laid w) (hB:B≤w.heap.size) (hC:Cols B w v cssT3):Calls Tryz.prog 10 #[.int .i64 3,v,.int .i64 0,.int .i64 1,.int .i64 2] w fun e w'=>∃ u,e = .returned (.tuple #[u,.int .i64 0])∧Cols w'.heap.size w' u [[[1],[2]],[[4],[8]],[[16],[32]]]∧Below w.heap.size w w':=by
 have h:=Three_yes dimsW 0 1 2 (by decide) (by decide) (by decide) (by decide) cssT3 rfl goods_T3 roles_T3 v w hL hB hC
 rwa [told_T3] at h
theorem two_T {B:Nat} (v:Value) (w:World) (hL:Laid w) (hB:B≤w.heap.size) (hC:Cols B w v cssT2):Calls Tryz.prog 16 #[.int .i64 3,v,.int .i64 0,.int .i64 2,.int .i64 2] w fun e w'=>∃ u,e = .returned (.tuple #[u,.int .i64 0])∧Cols w'.heap.size w' u [[[1],[2]],[[16],[32]]]∧Below w.heap.size w w':=by
 have h:=Two_yes dimsW 0 2 2 ⟨by decide,by decide⟩ (by decide) (by decide) (by decide) cssT2 rfl goods_T2 roles_T2 v w hL hB hC
 rwa [told_T2] at h
theorem one_T {B:Nat} (v:Value) (w:World) (hL:Laid w) (hB:B≤w.heap.size) (hC:Cols B w v cssT1):Calls Tryz.prog 18 #[.int .i64 3,v,.int .i64 1,.int .i64 4] w fun e w'=>∃ u,e = .returned (.tuple #[u,.int .i64 0])∧Many w'.heap.size w' u [[4],[8]]∧Below w.heap.size w w':=by
 have h:=One_yes dimsW 1 4 ⟨by decide,by decide⟩ (by decide) (by decide) cssT1 rfl goods_T1 roles_T1 v w hL hB hC
 rwa [told_T1] at h
theorem three_N (vA:Option Addr) (vc:Nat) (w:World) (hL:Laid w):Calls Tryz.prog 10 #[.int .i64 3,.slice vA 6 vc,.int .i64 0,.int .i64 2,.int .i64 1] w fun e w'=>e = .returned (.tuple #[.slice none 0 0,.int .i64 4])∧Below w.heap.size w w' :=
 three_no 4 _ _ _ _ 0 2 1 w fun V gR hV hR gE hE=>asked_ri (rs:=[2,3,4]) (L:=[0,2,1]) (N:=6) (by decide) (by decide) (by decide) (hL.next hV) hR.lt (cells3 hR) hE.lt (cells3 hE) ⟨by decide,by decide,by intro r hr;simp at hr;rcases hr with rfl | rfl | rfl <;> exact ⟨by omega,by omega⟩⟩ (fun h=>absurd (h 2 (by decide)).1 (by decide))
theorem one_N (vA:Option Addr) (vc:Nat) (w:World) (hL:Laid w):Calls Tryz.prog 18 #[.int .i64 3,.slice vA 6 vc,.int .i64 0,.int .i64 1] w fun e w'=>e = .returned (.tuple #[.slice none 0 0,.int .i64 2])∧Below w.heap.size w w' :=
 one_no 2 _ _ _ _ 0 1 w fun V gR hV hR gE hE=>asked_kn (rs:=[1]) (N:=6) (by decide) (by decide) (hL.next hV) hR.lt (cells1 hR) fun h=>absurd (h.2.2 1 (by simp)).1 (by decide)
end Go.Proofs.YtkllhjhkcipkoaaGreatDoor.Tr
