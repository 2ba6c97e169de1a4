/- -/
import Derived.Test.YtcchjofjpflbhaaGreatDoorPAG13
set_option linter.unusedVariables false
set_option linter.unusedSimpArgs false
set_option maxRecDepth 100000
set_option maxHeartbeats 8000000
namespace Go.Proofs.YtcchjofjpflbhaaGreatDoor.T
open Go.RowKit Go.Shelf Go.Maps Go.Proofs.YtcchjofjpflbhaaGreatDoor.C Go.Proofs.YtcchjofjpflbhaaGreatDoor.E Go.Proofs.YtcchjofjpflbhaaGreatDoor.Ch
attribute [local go_sem] Oper.semAt_some

theorem filled_yes {B:Nat} (p:Int) (lA:Option Addr) (ln lc:Nat) (L:List Int) (hL1:1≤L.length∧L.length≤3) (gN cN:Nat) (css:List (List (List UInt8))) (hN0:0<css.length) (hNl:css.length≤100) (v:Value) (w:World) (hL:Laid w) (hB:B≤w.heap.size) (hgN2:gN<w.heap.size) (hgNc:∀ j,j<L.length→w.cell? ⟨gN,j,none⟩=some (.int .i64 (L[j]?.getD 0))) (hC:Cols B w v css) (P Q n:Nat) (d:Rg.Dims P Q n) (hpP:p=(P:Int)) (hrange:∀ x∈L,0≤x∧x<(css.length:Int)) (hk0:0<(kept L css css.length).length) (hgood:∀ i,i<css.length→(i:Int)∉L→GoodC Q n (css[i]?.getD [])) :
 Calls Tryz.prog 111 #[.agg #[.int .i64 2,.int .i64 p,.slice lA ln lc],v,.slice (some ⟨gN,0,none⟩) L.length cN] w fun e w'=>∃ gC cc nA nc,e = .returned (.tuple #[.slice (some ⟨gC,0,none⟩) css.length cc,.slice nA n nc])∧colsR.R (fun b=>(b<B∨w.heap.size≤b)∧b<w'.heap.size) w' (.slice (some ⟨gC,0,none⟩) css.length cc) (lostC L Q n css)∧BytesP (fun b=>(b<B∨w.heap.size≤b)∧b<w'.heap.size) w' (.slice nA n nc) (List.replicate n 0)∧Below w.heap.size w w':=by
 have hQm:=q_mem d.hQ d.hp
 have hgk:∀ j,j<(kept L css css.length).length→GoodC Q n ((kept L css css.length)[j]?.getD []):=fun j hj=>by
  obtain ⟨i,hi,hm,e⟩:=kept_mem.1 (List.getElem_mem hj)
  rw [List.getElem?_eq_getElem hj]
  show GoodC Q n (kept L css css.length)[j]
  rw [e]
  exact hgood i hi hm
 have hRD:=(Rg.right_of_good d.hQ d.hp hk0 hgk).1
 have hpb:=prm_bounds d.hp
 have hQP:=d.hQ
 obtain ⟨gl,go,cap,rfl,hcapN,hgl,hrow⟩:=hC.at_ hN0
 obtain ⟨w1,hw1⟩:∃ x,w.alloc (.cells #[.int .i64 2,.int .i64 p,.slice lA ln lc] 90)=x:=⟨_,rfl⟩
 obtain ⟨g0,hg0⟩:∃ x,w.heap.size=x:=⟨_,rfl⟩
 have b0:Blk w1 g0 90 #[.int .i64 2,.int .i64 p,.slice lA ln lc]:=by rw [←hw1,←hg0];exact Blk.new w _ _
 have hBw1:Below w.heap.size w w1:=by rw [←hw1];exact below_one w _
 have s0:w1.heap.size=w.heap.size+1:=by rw [←hw1];simp
 have k0:=b0.cell 0
 have k1:=b0.cell 1
 have k2:=b0.cell 2
 simp only [gz9] at k0 k1 k2
 have HCNT:=Lib.hid (fun (gN c:Nat) (x:Int) (V:World) (h:∀ j,j<L.length→V.cell? ⟨gN,j,none⟩=some (.int .i64 (L[j]?.getD 0)))=>contains_any gN 0 c L x (by omega) V (fun j hj=>by rw [Nat.zero_add];exact h j hj))
 have HN:Hid (∀ j,j<L.length→w1.cell? ⟨gN,j,none⟩=some (.int .i64 (L[j]?.getD 0))):=fun j hj=>(hBw1.cell (p:=⟨gN,j,none⟩) hgN2).trans (hgNc j hj)
 replace hgN2:gN<w1.heap.size:=by omega
 have S0:=Lib.hid s0
 clear s0 hgNc
 have HROW:=Lib.hid hrow
 have HCOLS:=Lib.hid hC
 have H0:=Lib.hid hg0
 have hrg:∀ k,k<L.length→∃ x:Nat,L[k]?.getD 0=(x:Int)∧x<css.length:=fun k hk=>by
  have:=hrange L[k] (List.getElem_mem hk)
  exact ⟨L[k].toNat,by rw [List.getElem?_eq_getElem hk];show L[k] = _;omega,by omega⟩
 have hL0:∀ x∈L,0≤x:=fun x hx=>(hrange x hx).1
 have HRI:=Lib.hid (fun (V:World) (kv:Value) (hV:Below w.heap.size w V) (hk:Cols V.heap.size V kv (kept L css css.length))=>right_yes (B:=V.heap.size) p kv _ V (hL.next hV) (Nat.le_refl _) hk (Nat.le_trans (kept_len _ _ _) (by omega)) (by rw [hpP];exact hRD))
 have HZ:=Lib.hid (fun (V:World)=>zero_yes n d.h1 d.h64 V)
 have HLA:=Lib.hid (fun (V:World)=>Pr.last_any P Q d.hQ (by omega) lA ln lc V)
 have HRE:=Lib.hid (fun (g:Nat) (nv:Value) (h1:nv.oneCell'=true) (V:World) (hc:V.cell? ⟨g,0,none⟩=some nv) (hg:g<V.heap.size)=>repeat_any g nv h1 Q hQm V hc hg)
 have HCL:=Lib.hid (fun (V:World) (hV:Below w.heap.size w V)=>cloneC_any (B:=B) (.slice (some ⟨gl,go,none⟩) css.length cap) css V (Nat.le_trans hB hV.size) (hC.below (hV.mono hB)) hN0 (by omega))
 have HGK:=Lib.hid (And.intro hk0 hgk)
 have HRG:=Lib.hid hrg
 have HL0:=Lib.hid hL0
 have HGC:=Lib.hid hC
 have h1n:=d.h1
 have hPP:(P:Int)=p:=hpP.symm
 rw [hPP] at HLA
 clear hrange hk0 hgk hRD hgood hrg hL0 hQm hpP hPP d
 go_enter Tryz.func111,Tryz.ntmps111
 go_wp2_with fail
 have HK:=Lib.hid b0
 have hs1:=hBw1.size
 have hW1:=Lib.hid hw1
 clear hg0 k0 k1 k2 b0 hw1 hrow hC
 obtain ⟨N,hN⟩:∃ N,css.length=N:=⟨_,rfl⟩
 rw [hN] at hN0 hNl hcapN HROW HGK HRG HCL HRI ⊢
 have HNN:=Lib.hid hN
 clear hN
 obtain ⟨M,hM⟩:∃ M,L.length=M:=⟨_,rfl⟩
 rw [hM] at hL1 HCNT HN HRG ⊢
 have HMM:=Lib.hid hM
 clear hM
 (try rw [hW1.out]);(try rw [H0.out])
 go_loopw [8,15] (fun v i wr=>∃ k:Nat,k≤N∧i = .int .i64 k∧RowC (·<B) wr w1.heap.size v (kept L css k)∧Below w1.heap.size w1 wr) (fun _ i _=>N - (intOf i).toNat)
 case atStart=>exact ⟨0,Nat.zero_le _,rfl,RowG.nil _ _ _ _ _ _,Below.refl _ _⟩
 case round =>
  obtain ⟨k,hk,rfl,hrw,hBr⟩:=hrel
  by_cases hlt:k<N
  · have hdec:decide ((k:Int)<(N:Int))=true:=by simp;omega
    obtain ⟨u1,hc1,hm1⟩:=HROW.out k hlt
    obtain ⟨A4,cap4,rfl,_,_⟩:=id hm1
    have hc2:=((below_in hBw1 hBr).cell (p:=⟨gl,go+k,none⟩) (Nat.lt_of_lt_of_le hgl hB)).trans hc1
    have hm2:Many B wr _ _:=hm1.below ((below_in hBw1 hBr).mono hB)
    have HCN:=Lib.hid (HCNT.out gN cN (k:Int) wr (fun j hj=>(hBr.cell (p:=⟨gN,j,none⟩) hgN2).trans (HN.out j hj)))
    have i1:(0:Int)≤(k:Int):=by omega
    have i2:(k:Int)<(N:Int):=by omega
    have hszr:=hBr.size
    by_cases hmem:(k:Int)∈L
    · have hnx:=kept_in (css:=css) hmem
      rw [decide_eq_true hmem] at HCN
      have HNX:=Lib.hid (And.intro hnx hrw)
      clear hc1 hm1 hm2 hnx hmem hrw
      generalize (css[k]?.getD []).length=n7 at *
      go_wp2_with (go_at_call 158;refine HCN.out.mono ?_;rintro e w2 ⟨rfl,rfl⟩)
      go_roundw
      case rel=>exact ⟨k+1,by omega,by go_num,by rw [HNX.out.1];exact HNX.out.2,hBr⟩
      case measure=>simp [intOf];omega
    · have hnx:=kept_out (css:=css) hmem
      rw [decide_eq_false hmem] at HCN
      have HVLE:=Lib.hid (fun b e=>RowG.own_le hrw b e)
      have hpl:(kept L css k).length≤100:=by have:=kept_len L css k;omega
      clear hc1 hm1
      generalize css[k]?.getD []=xs at *
      generalize kept L css k=pre at *
      have HNX:=Lib.hid hnx
      clear hnx hmem
      generalize xs.length=n7 at *
      have hcells:Below wr.heap.size wr (wr.alloc (.cells #[.slice A4 n7 cap4] 50)):=below_one wr _
      have HROWC:=Lib.hid (RowG.below hrw hcells)
      have HBLK:=Lib.hid (Blk.new wr 50 #[.slice A4 n7 cap4])
      have HCP:Hid (manyR.R (fun b=>b<(wr.alloc (.cells #[.slice A4 n7 cap4] 50)).heap.size∧some b≠u8.ownBlock∧b<B) (wr.alloc (.cells #[.slice A4 n7 cap4] 50)) (.slice A4 n7 cap4) xs) :=
       SliceP.imp (hm2.below (hcells.mono (by omega))) fun b hb=>⟨by have hb':b<B:=hb;simp;omega,fun e=>by have:=HVLE.out b e.symm;have hb':b<B:=hb;omega,hb⟩
      clear hrw hm2
      go_wp2_with (first
       | (go_at_call 158;refine HCN.out.mono ?_;rintro e w2 ⟨rfl,rfl⟩)
       | (at_builtin;refine wpList_pushC (T:=40) _ rfl _ _ rfl Tryz.underlying40 pre rfl HROWC.out w2.heap.size 50 _ xs rfl HBLK.out HCP.out (by omega) (by simp;omega) ?_;intro v' w3 hrow4 hgrow hown))
      go_roundw
      case rel=>exact ⟨k+1,by omega,by go_num,by rw [HNX.out];exact hrow4,below_grown (below_in hBr hcells) hgrow (by simp;omega) (fun g e=>by have:=HVLE.out g e;omega)⟩
      case measure=>simp [intOf];omega
  · obtain rfl:k=N:=by omega
    have e1:decide ((k:Int)<(k:Int))=false:=by simp
    have hcc:=RowC.cols hrw
    obtain ⟨gk,gko,kc,hkv,_,hgkl,hkrow⟩:=hcc.at_ HGK.out.1
    subst hkv
    obtain ⟨u0,hu0,hm0⟩:=hkrow 0 HGK.out.1
    have hgd0:=HGK.out.2 0 HGK.out.1
    obtain ⟨A0,cm,rfl,_,_⟩:=id hm0
    obtain ⟨gm,gmo,rfl,hgm,hmrow⟩:=many_at hm0 (by rw [hgd0.1];omega)
    obtain ⟨Aa,ca,hc2,_⟩:=hmrow 0 (by rw [hgd0.1];omega)
    rw [hgd0.1,Nat.add_zero] at hu0
    rw [(hgd0.2 0 (by omega)).2,Nat.add_zero] at hc2
    have HC2:=Lib.hid hcc
    have hBq:=below_in hBw1 hBr
    have K:=HK.out.below hBr HK.out.lt
    have hK0:=K.cell 0
    have hK1:=K.cell 1
    have hK2:=K.cell 2
    simp only [gz9] at hK0 hK1 hK2
    have hKl:0<(kept L css k).length:=HGK.out.1
    clear K hm0 hmrow hkrow hgd0
    generalize (kept L css k).length=K at *
    have iK:(0:Int)<(K:Int):=by omega
    have iQ:(0:Int)<(Q:Int):=by omega
    clear hcc hrw HGK HROW
    go_wp2_with fail
    refine (HRI.out _ _ hBq HC2.out).mono ?_
    rintro e w5 ⟨rfl,hB5⟩
    replace hu0:=(hB5.cell (p:=⟨gk,gko,none⟩) hgkl).trans hu0
    replace hc2:=(hB5.cell (p:=⟨gm,gmo,none⟩) hgm).trans hc2
    replace hBr:=below_in hBr hB5
    have hz5:=hBr.size
    replace hBq:=below_in hBw1 hBr
    go_wp2_with fail
    refine (Pr.need_yes _ _).mono ?_
    rintro e w6 ⟨rfl,rfl⟩
    go_wp2_with fail
    refine (HZ.out _).mono ?_
    rintro e w7 ⟨nv,rfl,hF,hB7⟩
    obtain ⟨nA,nc,hnv,_⟩:=id hF
    rw [List.length_replicate] at hnv
    subst hnv
    go_wp2_with fail
    refine (Pr.sureB _ _).mono ?_
    rintro e w8 ⟨rfl,rfl⟩
    replace hBr:=below_in hBr hB7
    replace hBq:=below_in hBw1 hBr
    clear hu0 hc2 hK0 hK1 hK2
    go_wp2_with fail
    refine (HCL.out _ hBq).mono ?_
    rintro e w12 ⟨cv,rfl,hcv,hB12⟩
    obtain ⟨gC,cc,cur,hcve,hcc1,hgC,bC,hcs,hcu⟩:=rowC_blk hcv (by rw [HNN.out];omega)
    rw [HNN.out] at hcve hcc1 hcs hcu
    subst hcve
    have hB1z:Below w1.heap.size w1 w12:=below_in hBr hB12
    have hz12:=hB12.size
    have hzr:=hBr.size
    have hF12:=hF.below hB12
    have hgC1:=hgC
    have hgC2:=bC.lt
    have HW:=Lib.hid (And.intro hcu (And.intro hF (And.intro hB12 (And.intro hcc1 hBq))))
    clear hcv hcu hF hF12
    go_wp2_with fail
    go_loopw [49] (fun i wr=>∃ m:Nat,m≤M∧i = .int .i64 m∧(∃ cs,Blk wr gC 50 cs∧cs.size=cur.size∧(∀ j:Nat,(j:Int)∉L.take m→cs[j]?=cur[j]?)∧(∀ j:Nat,j<k→(j:Int)∈L.take m→∃ gR,cs[j]?=some (.slice (some ⟨gR,0,none⟩) Q Q)∧w12.heap.size≤gR∧Blk wr gR 64 (List.replicate Q (.slice nA n nc)).toArray))∧Below gC w12 wr∧w12.heap.size≤wr.heap.size∧∀ b,b<w12.heap.size→b≠gC→wr.heap[b]?=w12.heap[b]?) (fun i _=>M - (intOf i).toNat)
    case atStart=>exact ⟨0,Nat.zero_le _,rfl,⟨cur,bC,rfl,fun _ _=>rfl,fun j _ h=>by simp at h⟩,Below.refl _ _,Nat.le_refl _,fun _ _ _=>rfl⟩
    case round =>
     obtain ⟨m,hm,rfl,⟨cs,bC2,hcsz,hout,hin⟩,hBz,hzz,hkz⟩:=hrel
     by_cases hlt2:m<M
     · have hdec:decide ((m:Int)<(M:Int))=true:=by simp;omega
       obtain ⟨x,hx,hxN⟩:=HRG.out m hlt2
       have hcn:=(hBz.cell (p:=⟨gN,m,none⟩) (show gN<gC by omega)).trans ((hB1z.cell (p:=⟨gN,m,none⟩) hgN2).trans (HN.out m hlt2))
       rw [hx] at hcn
       have hts:Hid (L.take (m+1)=L.take m ++ [(x:Int)]):=by
        unfold Hid
        have hl:=HMM.out
        rw [List.take_succ_eq_append_getElem (by omega)]
        congr 2
        rw [List.getElem?_eq_getElem (by omega)] at hx
        exact hx
       have hB1y:Below w1.heap.size w1 wr:=hB1z.trans (hBz.mono (by omega))
       obtain ⟨w9,hw9⟩:∃ z,wr.alloc (.cells #[.slice nA n nc] 64)=z:=⟨_,rfl⟩
       obtain ⟨g3,hg3⟩:∃ z,wr.heap.size=z:=⟨_,rfl⟩
       have b3:Blk w9 g3 64 #[.slice nA n nc]:=by rw [←hw9,←hg3];exact Blk.new wr _ _
       have hB9:Below wr.heap.size wr w9:=by rw [←hw9];exact below_one wr _
       have K:=(HK.out.below hB1y HK.out.lt).below hB9 (HK.out.below hB1y HK.out.lt).lt
       have hK0:=K.cell 0
       have hK1:=K.cell 1
       have hK2:=K.cell 2
       simp only [gz9] at hK0 hK1 hK2
       have i1:(0:Int)≤(m:Int):=by omega
       have i2:(m:Int)<(M:Int):=by omega
       have j1:(0:Int)≤(x:Int):=by omega
       have j2:(x:Int)<(k:Int):=by omega
       have HB2:=Lib.hid (And.intro bC2 (And.intro hcsz (And.intro hout (And.intro hin (And.intro hkz hB1y)))))
       have hbl2:=bC2.lt
       clear hx bC2 hcsz hout hin hkz K
       go_wp2_with fail
       refine (HLA.out _).mono ?_
       rintro e w10 ⟨rfl,hB10⟩
       have b3':=b3.below hB10 b3.lt
       clear hK0 hK1 hK2 b3
       go_wp2_with fail
       refine (HRE.out g3 (.slice nA n nc) rfl w10 b3'.one b3'.lt).mono ?_
       rintro e w11 ⟨gR,rfl,hgR,bR,hB11⟩
       have hBrr:Below wr.heap.size wr w11:=below_in (below_in hB9 hB10) hB11
       have y1:=hB9.size
       have y2:=hB10.size
       have y3:=hB11.size
       have hbC:=HB2.out.1.below hBrr HB2.out.1.lt
       obtain ⟨old,hold⟩:∃ old,w11.cell? ⟨gC,x,none⟩=some old:=⟨_,by rw [hbC.cell x,Array.getElem?_eq_getElem (by rw [HB2.out.2.1];omega)]⟩
       have hfz:=hbC.frozen x
       have hne:gR≠gC:=by omega
       have HBC:=Lib.hid hbC
       have HBR:=Lib.hid bR
       clear hbC bR hw9 hg3 b3'
       go_wp2_with fail
       go_roundw
       case rel =>
        refine ⟨m+1,by omega,by go_num,⟨_,HBC.out.set_ x (.slice (some ⟨gR,0,none⟩) Q Q),by rw [Array.size_setIfInBounds];exact HB2.out.2.1,fun j hj=>?_,fun j hj hjm=>?_⟩,(hBz.trans (hBrr.mono (by omega))).setCell (Nat.le_refl _) _,by simp;omega,fun b hb hbne=>?_⟩
        · rw [hts.out] at hj
          have hjx:j≠x:=fun e=>hj (by rw [e];simp)
          rw [Array.getElem?_setIfInBounds_ne (fun e=>hjx e.symm)]
          exact HB2.out.2.2.1 j (fun h=>hj (List.mem_append_left _ h))
        · by_cases hjx:j=x
          · subst hjx
            exact ⟨gR,Array.getElem?_setIfInBounds_self_of_lt (by rw [HB2.out.2.1];omega),by omega,HBR.out.far hne _⟩
          · rw [hts.out] at hjm
            have hjm2:(j:Int)∈L.take m:=by
             rcases List.mem_append.1 hjm with h | h
             · exact h
             · exact absurd (by have:=List.mem_singleton.1 h;omega) hjx
            obtain ⟨gR0,q1,q2,q3⟩:=HB2.out.2.2.2.1 j hj hjm2
            have q4:=q3.below hBrr q3.lt
            exact ⟨gR0,by rw [Array.getElem?_setIfInBounds_ne (fun e=>hjx e.symm)];exact q1,q2,q4.far (show gR0≠gC by omega) _⟩
        · exact (Below.heap_setCell _ ⟨gC,x,none⟩ _ b hbne).trans ((hBrr.block b (by omega)).trans (HB2.out.2.2.2.2.1 b hb hbne))
       case measure=>simp [intOf];omega
     · obtain rfl:m=M:=by omega
       have hdec:decide ((m:Int)<(m:Int))=false:=by simp
       rw [show L.take m=L from List.take_of_length_le (by rw [HMM.out];exact Nat.le_refl _)] at hout hin
       have hBzw:Below w.heap.size w wr:=(below_in HW.out.2.2.2.2 HW.out.2.2.1).trans (hBz.mono (by omega))
       have hlC:=bC2.lt
       have hF1:BytesP (fun b=>(b<B∨w.heap.size≤b)∧b<wr.heap.size) wr (.slice nA n nc) (List.replicate n 0):=by
        refine bytesR.imp (bytesR.keep (Fresh.toP2 (B:=0) (HW.out.2.1)) (fun b hb=>?_)) fun b hb=>?_
        · exact (hkz b (by have:=hb.2;omega) (by have:=hb.2;omega)).trans (HW.out.2.2.1.block b hb.2)
        · have s0:=S0.out
          have h1:=hb.1
          have h2:=hb.2
          exact ⟨.inr (by omega),by omega⟩
       have hcolsP:colsR.R (fun b=>(b<B∨w.heap.size≤b)∧b<wr.heap.size) wr (.slice (some ⟨gC,0,none⟩) k cc) (lostC L Q n css):=by
        have hll:(lostC L Q n css).length=k:=by rw [lostC_len];exact HNN.out
        refine ⟨some ⟨gC,0,none⟩,cc,by rw [hll],by rw [hll];exact HW.out.2.2.2.1,fun _=>⟨gC,0,rfl,⟨by omega,hlC⟩,fun j hj=>?_⟩⟩
        rw [hll] at hj
        rw [lostC_at L Q n css (by rw [HNN.out];exact hj)]
        by_cases hm:(j:Int)∈L
        · rw [if_pos hm]
          obtain ⟨gR,q1,q2,q3⟩:=hin j hj hm
          refine ⟨.slice (some ⟨gR,0,none⟩) Q Q,?_,no_manyP q3 ⟨by omega,q3.lt⟩ hF1⟩
          rw [Nat.zero_add,bC2.cell j]
          exact q1
        · rw [if_neg hm]
          obtain ⟨u,hu1,hu2⟩:=HW.out.1 j hj
          refine ⟨u,?_,?_⟩
          · rw [Nat.zero_add,bC2.cell j,hout j hm]
            exact hu1
          · exact manyR.imp (show manyR.R (·<B) wr u _ from hu2.below (hBz.mono (by omega))) fun b hb=>⟨.inl hb,by have hb':b<B:=hb;omega⟩
       have HFIN:=Lib.hid (And.intro hcolsP (And.intro hF1 hBzw))
       clear hcolsP hF1 bC2 hBz hBzw hout hin hkz
       go_wp2_with fail
       go_ret2
       obtain rfl:=HNN.out
       exact ⟨_,_,_,_,rfl,HFIN.out.1,HFIN.out.2.1,HFIN.out.2.2⟩
end Go.Proofs.YtcchjofjpflbhaaGreatDoor.T

namespace Go.Proofs.YtcchjofjpflbhaaGreatDoor.T
open Go.RowKit Go.Shelf Go.Maps Go.Proofs.YtcchjofjpflbhaaGreatDoor.C Go.Proofs.YtcchjofjpflbhaaGreatDoor.E Go.Proofs.YtcchjofjpflbhaaGreatDoor.Ch
attribute [local go_sem] Oper.semAt_some

theorem many3 {W:World} {B g:Nat} {t:TypeId} {ua ub uc:Value} {la lb lc:List UInt8} (h:Blk W g t #[ua,ub,uc]) (ha:Bytes B W ua la) (hb:Bytes B W ub lb) (hc:Bytes B W uc lc) (hg:g<B):Many B W (.slice (some ⟨g,0,none⟩) 3 3) [la,lb,lc] :=
 ⟨_,3,rfl,Nat.le_refl _,fun _=>⟨g,0,rfl,hg,fun j hj=>by
  have hj2:j=0∨j=1∨j=2:=by simp at hj;omega
  rcases hj2 with rfl | rfl | rfl
  · exact ⟨ua,h.cell 0,ha⟩
  · exact ⟨ub,h.cell 1,hb⟩
  · exact ⟨uc,h.cell 2,hc⟩⟩⟩
theorem of1_any {Q N:Nat} (xn yn:Nat) (hx:xn<N) (hy:yn<Q) (hQN:Q≤1000∧N≤1000) (g9 g10 g7 gm om cm gd od cd gc co cc ge oe ce:Nat) (A1 A2 A3:Option Addr) (n1 c1 n2 c2 n3 c3:Nat) (la lb lc:List UInt8) (hok:XorOk [la,lb,lc]) (w:World)
 (h9:w.cell? ⟨g9,0,none⟩=some (.slice (some ⟨gm,om,none⟩) 2 cm)) (h10:w.cell? ⟨g10,0,none⟩=some (.slice A2 n2 c2)) (h7:w.cell? ⟨g7,0,none⟩=some (.slice (some ⟨gc,co,none⟩) N cc)) (hm:w.cell? ⟨gm,om+1,none⟩=some (.slice (some ⟨gd,od,none⟩) Q cd)) (hd:w.cell? ⟨gd,od+yn,none⟩=some (.slice A1 n1 c1)) (hc:w.cell? ⟨gc,co+xn,none⟩=some (.slice (some ⟨ge,oe,none⟩) Q ce)) (he:w.cell? ⟨ge,oe+yn,none⟩=some (.slice A3 n3 c3)) (hlt:g9<w.heap.size∧g10<w.heap.size∧g7<w.heap.size∧gm<w.heap.size∧gd<w.heap.size∧gc<w.heap.size∧ge<w.heap.size) (m1:Bytes w.heap.size w (.slice A1 n1 c1) la) (m2:Bytes w.heap.size w (.slice A2 n2 c2) lb) (m3:Bytes w.heap.size w (.slice A3 n3 c3) lc) :
 Calls Tryz.prog 119 #[.agg #[.int .i64 (xn:Int),.int .i64 (yn:Int)],.pointer (some ⟨g9,0,none⟩),.pointer (some ⟨g10,0,none⟩),.pointer (some ⟨g7,0,none⟩)] w fun e w'=>∃ u,e = .returned u∧Fresh w.heap.size w' u (xorOf [la,lb,lc])∧Below w.heap.size w w':=by
 obtain ⟨w0,hw0⟩:∃ x',w.alloc (.cells #[.int .i64 (xn:Int),.int .i64 (yn:Int)] 31)=x':=⟨_,rfl⟩
 obtain ⟨gz,hgz⟩:∃ x',w.heap.size=x':=⟨_,rfl⟩
 have bz:Blk w0 gz 31 #[.int .i64 (xn:Int),.int .i64 (yn:Int)]:=by rw [←hw0,←hgz];exact Blk.new w _ _
 have hBW:Below w.heap.size w w0:=by rw [←hw0];exact below_one w _
 have HSS:Hid (∀ V,Below w0.heap.size w0 V→(fun U:World=>U.cell? ⟨g9,0,none⟩=some (.slice (some ⟨gm,om,none⟩) 2 cm)∧U.cell? ⟨g10,0,none⟩=some (.slice A2 n2 c2)∧U.cell? ⟨g7,0,none⟩=some (.slice (some ⟨gc,co,none⟩) N cc)∧U.cell? ⟨gz,0,none⟩=some (.int .i64 (xn:Int))∧U.cell? ⟨gz,1,none⟩=some (.int .i64 (yn:Int))∧U.cell? ⟨gm,om+1,none⟩=some (.slice (some ⟨gd,od,none⟩) Q cd)∧U.cell? ⟨gd,od+yn,none⟩=some (.slice A1 n1 c1)∧U.cell? ⟨gc,co+xn,none⟩=some (.slice (some ⟨ge,oe,none⟩) Q ce)∧U.cell? ⟨ge,oe+yn,none⟩=some (.slice A3 n3 c3)) V):=fun V hV=>by
  have hV2:=below_in hBW hV
  exact ⟨(hV2.cell (p:=⟨g9,0,none⟩) hlt.1).trans h9,(hV2.cell (p:=⟨g10,0,none⟩) hlt.2.1).trans h10,(hV2.cell (p:=⟨g7,0,none⟩) hlt.2.2.1).trans h7,(bz.below hV bz.lt).cell 0,(bz.below hV bz.lt).cell 1,(hV2.cell (p:=⟨gm,om+1,none⟩) hlt.2.2.2.1).trans hm,(hV2.cell (p:=⟨gd,od+yn,none⟩) hlt.2.2.2.2.1).trans hd,(hV2.cell (p:=⟨gc,co+xn,none⟩) hlt.2.2.2.2.2.1).trans hc,(hV2.cell (p:=⟨ge,oe+yn,none⟩) hlt.2.2.2.2.2.2).trans he⟩
 have HUP:=Lib.hid (fun (g:Nat) (V:World) (hV:Below w.heap.size w V) (bE:Blk V g 64 #[.slice A1 n1 c1,.slice A2 n2 c2,.slice A3 n3 c3])=>pUpon_any (B:=V.heap.size) (.slice (some ⟨g,0,none⟩) 3 3) [la,lb,lc] V (Nat.le_refl _) (many3 bE ((m1.below hV).more hV.size) ((m2.below hV).more hV.size) ((m3.below hV).more hV.size) bE.lt) (by simp) hok)
 have hBx:=(Below.refl w0.heap.size w0).drew
 have i0:(0:Int)≤(xn:Int):=by omega
 have i1:(xn:Int)<(N:Int):=by omega
 have i2:(0:Int)≤(yn:Int):=by omega
 have i3:(yn:Int)<(Q:Int):=by omega
 have HG:=Lib.hid hgz
 clear h9 h10 h7 hm hd hc he hlt m1 m2 m3 hok hx hy hQN bz
 refine (callsIn_wide (n:=9)).1 ?_
 refine callsIn_of_wp_marks Tryz.func119 rfl trivial ?_ rfl
 simp only [Tryz.ntmps119,List.size_toArray,List.length_cons,List.length_nil,Nat.reduceAdd,Nat.reduceSub,Array.replicate_succ,Array.replicate_zero,List.push_toArray,List.append_toArray,List.nil_append,List.cons_append]
 gi_wp2_with fail
 (try rw [hgz]);(try rw [hw0])
 clear hw0 hgz
 have hS:=HSS.out _ hBx
 refine wpIn_mono (region_HF (Q:=NoPanic _) (S:=(fun U:World=>U.cell? ⟨g9,0,none⟩=some (.slice (some ⟨gm,om,none⟩) 2 cm)∧U.cell? ⟨g10,0,none⟩=some (.slice A2 n2 c2)∧U.cell? ⟨g7,0,none⟩=some (.slice (some ⟨gc,co,none⟩) N cc)∧U.cell? ⟨gz,0,none⟩=some (.int .i64 (xn:Int))∧U.cell? ⟨gz,1,none⟩=some (.int .i64 (yn:Int))∧U.cell? ⟨gm,om+1,none⟩=some (.slice (some ⟨gd,od,none⟩) Q cd)∧U.cell? ⟨gd,od+yn,none⟩=some (.slice A1 n1 c1)∧U.cell? ⟨gc,co+xn,none⟩=some (.slice (some ⟨ge,oe,none⟩) Q ce)∧U.cell? ⟨ge,oe+yn,none⟩=some (.slice A3 n3 c3))) (by kernel_rfl) ?_) NoPanic.imp
 refine tkF (i:=0) (d:=6) (v:=.slice (some ⟨gm,om,none⟩) 2 cm) (s:=hS) (c:=?_)
 simp only [ud9]
 refine tkF (i:=1) (d:=7) (v:=.pointer (some ⟨gm,om+1,none⟩)) (s:=hS) (c:=?_)
 simp only [ud9]
 refine tkF (i:=2) (d:=8) (v:=.slice (some ⟨gd,od,none⟩) Q cd) (s:=hS) (c:=?_)
 simp only [ud9]
 refine tkF (i:=3) (d:=9) (v:=.pointer (some ⟨gz,1,none⟩)) (s:=hS) (c:=?_)
 simp only [ud9]
 refine tkF (i:=4) (d:=10) (v:=.int .i64 (yn:Int)) (s:=hS) (c:=?_)
 simp only [ud9]
 refine tkF (i:=5) (d:=11) (v:=.pointer (some ⟨gd,od+yn,none⟩)) (s:=hS) (c:=?_)
 simp only [ud9]
 refine tkF (i:=6) (d:=12) (v:=.slice A1 n1 c1) (s:=hS) (c:=?_)
 simp only [ud9]
 refine tkF (i:=7) (d:=13) (v:=.slice A2 n2 c2) (s:=hS) (c:=?_)
 simp only [ud9]
 refine tkF (i:=8) (d:=14) (v:=.slice (some ⟨gc,co,none⟩) N cc) (s:=hS) (c:=?_)
 simp only [ud9]
 refine tkF (i:=9) (d:=15) (v:=.pointer (some ⟨gz,0,none⟩)) (s:=hS) (c:=?_)
 simp only [ud9]
 refine tkF (i:=10) (d:=16) (v:=.int .i64 (xn:Int)) (s:=hS) (c:=?_)
 simp only [ud9]
 refine tkF (i:=11) (d:=17) (v:=.pointer (some ⟨gc,co+xn,none⟩)) (s:=hS) (c:=?_)
 simp only [ud9]
 refine tkF (i:=12) (d:=18) (v:=.slice (some ⟨ge,oe,none⟩) Q ce) (s:=hS) (c:=?_)
 simp only [ud9]
 refine tkF (i:=13) (d:=19) (v:=.pointer (some ⟨gz,1,none⟩)) (s:=hS) (c:=?_)
 simp only [ud9]
 refine tkF (i:=14) (d:=20) (v:=.int .i64 (yn:Int)) (s:=hS) (c:=?_)
 simp only [ud9]
 refine tkF (i:=15) (d:=21) (v:=.pointer (some ⟨ge,oe+yn,none⟩)) (s:=hS) (c:=?_)
 simp only [ud9]
 refine tkF (i:=16) (d:=22) (v:=.slice A3 n3 c3) (s:=hS) (c:=?_)
 simp only [ud9]
 refine oneF (i:=17) (c:=?_)
 have hgl_g2:=hBx.size
 have hB:Below w0.drew.heap.size w0.drew (w0.drew.alloc (.cells #[.slice A1 n1 c1,.slice A2 n2 c2,.slice A3 n3 c3] 64)):=below_one w0.drew _
 have bE:Blk (w0.drew.alloc (.cells #[.slice A1 n1 c1,.slice A2 n2 c2,.slice A3 n3 c3] 64)) w0.drew.heap.size 64 #[.slice A1 n1 c1,.slice A2 n2 c2,.slice A3 n3 c3]:=Blk.new w0.drew _ _
 obtain ⟨v1,he_v1⟩:∃ x,(w0.drew.alloc (.cells #[.slice A1 n1 c1,.slice A2 n2 c2,.slice A3 n3 c3] 64))=x:=⟨_,rfl⟩
 obtain ⟨g2,hg_g2⟩:∃ x,w0.drew.heap.size=x:=⟨_,rfl⟩
 rw [he_v1] at hB bE
 rw [hg_g2] at bE
 replace hBx:=below_in hBx hB
 clear hS
 have hS:(fun U:World=>U.cell? ⟨g9,0,none⟩=some (.slice (some ⟨gm,om,none⟩) 2 cm)∧U.cell? ⟨g10,0,none⟩=some (.slice A2 n2 c2)∧U.cell? ⟨g7,0,none⟩=some (.slice (some ⟨gc,co,none⟩) N cc)∧U.cell? ⟨gz,0,none⟩=some (.int .i64 (xn:Int))∧U.cell? ⟨gz,1,none⟩=some (.int .i64 (yn:Int))∧U.cell? ⟨gm,om+1,none⟩=some (.slice (some ⟨gd,od,none⟩) Q cd)∧U.cell? ⟨gd,od+yn,none⟩=some (.slice A1 n1 c1)∧U.cell? ⟨gc,co+xn,none⟩=some (.slice (some ⟨ge,oe,none⟩) Q ce)∧U.cell? ⟨ge,oe+yn,none⟩=some (.slice A3 n3 c3)) v1:=HSS.out _ hBx
 gi_wp2
 (try rw [hg_g2]);(try rw [he_v1])
 try (refine ⟨hS,?_⟩)
 clear hB he_v1 hg_g2
 refine oneF (i:=18) (c:=?_)
 gi_wp2_with fail
 refine ⟨trivial,(callsIn_wide.2 (HUP.out _ _ (below_in hBW hBx) bE)).mono ?_⟩
 rintro e v3 ⟨uu,rfl,hFu,hB⟩
 have hge:=(below_in hBW hBx).size
 replace bE:=bE.below hB bE.lt
 replace hBx:=below_in hBx hB
 clear hS
 have hS:(fun U:World=>U.cell? ⟨g9,0,none⟩=some (.slice (some ⟨gm,om,none⟩) 2 cm)∧U.cell? ⟨g10,0,none⟩=some (.slice A2 n2 c2)∧U.cell? ⟨g7,0,none⟩=some (.slice (some ⟨gc,co,none⟩) N cc)∧U.cell? ⟨gz,0,none⟩=some (.int .i64 (xn:Int))∧U.cell? ⟨gz,1,none⟩=some (.int .i64 (yn:Int))∧U.cell? ⟨gm,om+1,none⟩=some (.slice (some ⟨gd,od,none⟩) Q cd)∧U.cell? ⟨gd,od+yn,none⟩=some (.slice A1 n1 c1)∧U.cell? ⟨gc,co+xn,none⟩=some (.slice (some ⟨ge,oe,none⟩) Q ce)∧U.cell? ⟨ge,oe+yn,none⟩=some (.slice A3 n3 c3)) v3:=HSS.out _ hBx
 clear hB
 gi_wp2
 try (refine ⟨hS,?_⟩)
 refine oneF (i:=19) (c:=?_)
 gi_wp2
 refine anyHF_done (by kernel_rfl) ?_ _
 refine NoPanic.normal ?_
 clear hS
 gi_wp2_with fail
 exact ⟨uu,by simp [results,Tryz.results119,go_sem],uu,rfl,hFu.less hge,below_in hBW hBx⟩
end Go.Proofs.YtcchjofjpflbhaaGreatDoor.T

namespace Go.Proofs.YtcchjofjpflbhaaGreatDoor.T
open Go.RowKit Go.Shelf
attribute [local go_sem] Oper.semAt_some

theorem rowsL_mem {p y:Int} (hy:0≤y∧y<p - 1):y∈rowsL p:=by
 unfold rowsL
 exact List.mem_map.2 ⟨y.toNat,List.mem_range.2 (by omega),by omega⟩
theorem cellsDown_in (n:Nat) (hn:4≤n) (l g h lo mm:Nat) (k p s m col:Int) (hp:p∈prm) (hu:Und p s m) (hg1:lo≤g) (hg2:g<lo+mm) (hh1:lo≤h) (hh2:h<lo+mm) (W:World) (hW:lo+mm≤W.heap.size) (hL:Laid W) (J Jx:List Int→(Nat→Prop)→World→Prop) (o₀:(Nat→Prop)) (ho₀:∀ b,o₀ b→b<W.heap.size)
 (hJ:FarO W.heap.size J) (hJx:FarO W.heap.size Jx) (hr1:∀ s o X,J s o X→RowO o X) (hr2:∀ s o X,Jx s o X→RowO o X)
 (hY:∀ pre x o W1,J pre o W1→x∈rowsL p→pre.length<p.toNat→W.heap.size≤W1.heap.size→YieldAt Fence.wide (n - 1) Tryz.prog l #[.agg #[.int .i64 col,.int .i64 x]] W1 fun e W'=>∃ o',FreshO o o' W1∧SinceO W.heap.size o W1 W'∧((e = .returned (.bool true)∧J (pre ++ [x]) o' W'∧Keep lo mm W1 W')∨(e = .returned (.bool false)∧Jx (pre ++ [x]) o' W'∧Keep lo mm W1 W')))
 (bg:Blk W g 184 #[.int .i64 k,.int .i64 p,.int .i64 s,.int .i64 m]) (bh:Blk W h 3 #[.int .i64 col]) (h0:J [] o₀ W) :
 CallsIn Fence.wide n Tryz.prog 238 #[.func (.yield l) #[] #[],.pointer (some ⟨g,0,none⟩),.pointer (some ⟨h,0,none⟩)] W fun e W'=>(∃ v,e = .returned v)∧∃ o',FreshO o₀ o' W∧((∃ ys,ys=rowsL p∧J ys o' W')∨(∃ pre,pre <+: rowsL p∧Jx pre o' W')):=by
 have HWk:=Lib.hid (fun V hV=>modWalk_any p 0 1 V hV (by omega) (by omega))
 refine callsIn_of_wp_marks Tryz.func238 rfl trivial ?_ rfl
 simp only [Tryz.ntmps238,List.size_toArray,List.length_cons,List.length_nil,Nat.reduceAdd,Nat.reduceSub,Array.replicate_succ,Array.replicate_zero,List.push_toArray,List.append_toArray,List.nil_append,List.cons_append]
 obtain ⟨W0,hW0⟩:∃ W0,W.alloc (.cells #[.func (.yield l) #[] #[]] 94)=W0:=⟨_,rfl⟩
 have hB0:Below W.heap.size W W0:=by rw [←hW0];exact below_one W _
 have bY:Blk W0 W.heap.size 94 #[.func (.yield l) #[] #[]]:=by rw [←hW0];exact Blk.new W _ _
 have bg0:=bg.below hB0 bg.lt
 have bh0:=bh.below hB0 bh.lt
 have hL0:=hL.next hB0
 have hJ0:J [] o₀ W0:=hJ.below h0 hB0
 have d1:W0.cell? ⟨g,1,none⟩=some (.int .i64 p):=bg0.cell 1
 gi_wp2_with fail
 refine wpIn_scope_wide ?_
 gi_wp2_with fail
 refine wpIn_label ?_
 gi_wp2_with fail
 refine ⟨trivial,fun _=>by omega,(callsIn_wide.2 (HWk.out _ hL0)).mono ?_⟩
 rintro e v1 ⟨v,rfl,⟨gf,lb,rfl,eg,eq,⟨kk,hgo⟩⟩,hX⟩
 have bY1:=bY.below hX bY.lt
 have bg1:=bg0.below hX bg0.lt
 have bh1:=bh0.below hX bh0.lt
 have hJ1:J [] o₀ v1:=hJ.below hJ0 hX
 have hlo:=hX.size
 have hi:=bY.lt
 clear eq hL0 bg0 bh0 d1 hJ0 HWk
 gi_wp2_with fail
 refine wpIn_rangeOwn1 rfl (by omega) (gf:=gf) (lb:=lb) rfl trivial eg (hgo _ (by omega)) (by omega) (Below.refl _ _) (fun _=>rfl)
  (fun pre V=>(∃ o,J pre o V∧FreshO o₀ o W∧∀ b,o b→b<W.heap.size∨v1.heap.size+(2+kk)≤b)∧(∀ y∈pre,0≤y∧y<p - 1)∧Blk V W.heap.size 94 #[.func (.yield l) #[] #[]]∧Blk V g 184 #[.int .i64 k,.int .i64 p,.int .i64 s,.int .i64 m]∧Blk V h 3 #[.int .i64 col])
  (fun c pre V=>c = .exit 0∧∃ q x o,pre=q ++ [x]∧FreshO o₀ o W∧(∀ b,o b→b<W.heap.size∨v1.heap.size+(2+kk)≤b)∧((¬ (0≤x∧x<p - 1)∧J q o V)∨((0≤x∧x<p - 1)∧Jx pre o V)))
  ?hI ?hIx ⟨⟨o₀,hJ1,FreshO.refl _ _,fun b e=>.inl (ho₀ b e)⟩,by simp,bY1,bg1,bh1⟩ ?a1 ?assign ?body ?done ?stop
 case hI =>
  refine Spares.and (fun s X Y row hs hg hr=>?_) ((spares_pure _ _ _).and ((spares_blk (by omega) _ (fun _=>_)).and ((spares_blk (by omega) _ (fun _=>_)).and (spares_blk (by omega) _ (fun _=>_)))))
  obtain ⟨o,h1,h2,h3⟩:=hs
  exact ⟨o,hJ s o X Y row h1 hg (fun r e=>⟨by have:=hr r e;omega,fun e2=>by have:=hr r e;have:=h3 r e2;omega⟩),h2,h3⟩
 case hIx =>
  rintro c pre X Y row ⟨h1,q,x,o,h2,hf,hb,h3⟩ hg hr
  have hr':∀ r,row=some r→W.heap.size≤r∧¬ o r:=fun r e=>⟨by have:=hr r e;omega,fun e2=>by have:=hr r e;have:=hb r e2;omega⟩
  exact ⟨h1,q,x,o,h2,hf,hb,h3.imp (fun h=>⟨h.1,hJ _ _ _ _ _ h.2 hg hr'⟩) (fun h=>⟨h.1,hJx _ _ _ _ _ h.2 hg hr'⟩)⟩
 case assign =>
  intro l' x V K hK
  gi_wp2
  exact hK
 case body =>
  rintro l' pre x V hsz ⟨⟨o,hj,hfo,hbo⟩,hr,bY,bg,bh⟩ hlen
  have hYo:¬ o W.heap.size:=fun e=>by have:=hbo _ e;omega
  have hlen2:pre.length<p.toNat:=by
   obtain ⟨e1,e2,_⟩:=rows_walk p hp
   rw [e1,List.length_append] at hlen
   simp at hlen
   omega
  have hn3:1≤n - 1 - 1:=by omega
  have c0:=bg.cell 0
  have c1:=bg.cell 1
  have c2:=bg.cell 2
  have c3:=bg.cell 3
  simp only [gz9] at c0 c1 c2 c3
  by_cases hx:0≤x∧x<p - 1
  · have HR:=Lib.hid (fun V=>(hasRow_any k p s m x hu V).mono fun _ _ h=>And.intro (h.1.trans (ret_bool (decide_eq_true hx))) h.2)
    gi_wp2_with fail
    refine ⟨trivial,(CallsIn.inRound l' (callsIn_wide.2 (HR.out V))).mono ?_⟩
    rintro e V1 ⟨rfl,hB1⟩
    have hj1:J pre o V1:=hJ.below hj hB1
    have hs1:=hB1.size
    have cY:=(bY.below hB1 bY.lt).one
    have cH:=(bh.below hB1 bh.lt).one
    obtain ⟨fn,tmps,asg,bdy,hy,hR⟩:=YieldAt.deep (m:=n - 1 - 1 - 1) (hY pre x o V1 hj1 (rowsL_mem hx) hlen2 (by omega))
    gi_wp2
    refine hR.mono ?_
    rintro e W3 ⟨o',hf3,hS3,(⟨rfl,hJ3,hk3⟩ | ⟨rfl,hJx3,_⟩)⟩
    · gi_wp2
      have hS:SinceO W.heap.size o V W3:=(SinceO.below hB1).trans_ hS3
      have hbo':∀ b,o' b→b<W.heap.size∨v1.heap.size+(2+kk)≤b:=fun b e=>(hf3 b e).elim (fun e=>hbo b e) fun e=>by omega
      have hfo':FreshO o₀ o' W:=hfo.trans (by omega) hf3
      have hkk:Keep lo mm V W3:=(Keep.below hB1 (by omega)).trans hk3
      refine ⟨hS.keep (by omega) hsz (fun b e=>by have:=hbo b e;omega),hS.keep (by omega) (by omega) (fun b e=>by have:=hbo b e;omega),⟨o',hJ3,hfo',hbo'⟩,?_,(hS.2 _ (Nat.le_refl _) bY.lt hYo).trans bY,hkk.blk bg hg1 hg2,hkk.blk bh hh1 hh2⟩
      intro y hy
      rcases List.mem_append.1 hy with h1 | h1
      · exact hr y h1
      · rw [List.mem_singleton.1 h1];exact hx
    · gi_wp2
      have hS:SinceO W.heap.size o V W3:=(SinceO.below hB1).trans_ hS3
      have hbo':∀ b,o' b→b<W.heap.size∨v1.heap.size+(2+kk)≤b:=fun b e=>(hf3 b e).elim (fun e=>hbo b e) fun e=>by omega
      have hfo':FreshO o₀ o' W:=hfo.trans (by omega) hf3
      exact ⟨hS.keep (by omega) hsz (fun b e=>by have:=hbo b e;omega),rfl,pre,x,o',rfl,hfo',hbo',.inr ⟨hx,hJx3⟩⟩
  · have HR:=Lib.hid (fun V=>(hasRow_any k p s m x hu V).mono fun _ _ h=>And.intro (h.1.trans (ret_bool (decide_eq_false hx))) h.2)
    gi_wp2_with (refine ⟨trivial,?_⟩;gi_at_call 239;refine (callsIn_wide.2 (HR.out _)).mono ?_;rintro e V1 ⟨rfl,hB1⟩)
    refine ⟨fun _ h=>(by cases h),?_⟩
    gi_wp2
    have hS1:Since W.heap.size V V1:=Since.below hB1
    exact ⟨hS1.keep (by omega) hsz,rfl,pre,x,o,rfl,hfo,hbo,.inl ⟨hx,hJ.below hj hB1⟩⟩
 case done =>
  rintro D xs V hD rfl ⟨_,hr,_⟩ _
  exfalso
  obtain ⟨e1,_,_⟩:=rows_walk p hp
  have:=hr (p - 1) (by rw [e1];simp)
  omega
 case stop =>
  rintro D c pre V hD hSp ⟨rfl,q,x,o,rfl,hfo,hbo,hq⟩ hK
  gi_wp2
  rw [Exit.noGoto_normal]
  refine ⟨by simp,.inl ⟨_,_,rfl,run_takeDeferred hK,?_⟩⟩
  refine ⟨_,results_none rfl _ _ _,⟨_,rfl⟩,o,hfo,?_⟩
  rcases hq with ⟨hx,hq⟩ | ⟨hx,hq⟩
  · exact .inl ⟨q,rows_left p hp q x hSp hx,hJ.put hq (by omega) ((hr1 _ _ _ hq).ne hK) _⟩
  · exact .inr ⟨_,rows_some p hp q x hSp hx,hJx.put hq (by omega) ((hr2 _ _ _ hq).ne hK) _⟩

def PlacesO (lo:Nat) (col:Int) (zs:List Int) (N:Nat) (v:Value) (w:World):Prop :=
 ∃ gf lb,v = .func (.func gf) #[] lb∧(∀ args W,(callFunc gf args).run Tryz.prog W = .ok (.enter gf args) W)∧(∀ W,(binOp .eql 28 v .nilFunc).run Tryz.prog W = .ok (.bool false) W) ∧
  ∀ n,4≤n→SeqT Fence.wide n Tryz.prog gf lb (fun x:Int=>#[.agg #[.int .i64 col,.int .i64 x]]) (fun _ x _=>x∈zs) (Keep lo (w.heap.size - lo)) (fun ys=>ys=zs) (fun pre=>pre <+: zs) N w

theorem cells1_inO (n l:Nat) (J Jx:List Int→(Nat→Prop)→World→Prop) (o₀:(Nat→Prop)) (W:World) (h0:J [] o₀ W) :
 CallsIn Fence.wide n Tryz.prog 176 (#[.func (.yield l) #[] #[]] ++ #[]) W fun e W'=>(∃ v,e = .returned v)∧∃ o',FreshO o₀ o' W∧((∃ ys,ys = []∧J ys o' W')∨(∃ pre,pre <+: []∧Jx pre o' W')):=by
 refine callsIn_of_wp Tryz.func176 rfl trivial ?_ rfl
 simp only [Tryz.ntmps176,List.size_toArray,List.length_cons,List.length_nil,Nat.reduceAdd,Nat.reduceSub,Array.replicate_succ,Array.replicate_zero,List.push_toArray,List.append_toArray,List.nil_append,List.cons_append]
 gi_wp2
 go_end0
 exact ⟨⟨_,rfl⟩,o₀,FreshO.refl _ _,.inl ⟨_,rfl,h0⟩⟩

theorem down_anyO (k p s m col:Int) (hp:p∈prm) (hu:Und p s m) (w:World) (hL:Laid w) :
 Calls Tryz.prog 175 #[.agg #[.int .i64 k,.int .i64 p,.int .i64 s,.int .i64 m],.int .i64 col] w fun e w'=>∃ v,e = .returned v∧PlacesO w.heap.size col (rowsL p) p.toNat v w'∧Below w.heap.size w w':=by
 have hmf:=make_func
 go_enter Tryz.func175,Tryz.ntmps175
 go_wp2
 go_ret
 have hB:=below_two w (.cells #[.int .i64 k,.int .i64 p,.int .i64 s,.int .i64 m] 184) (.cells #[.int .i64 col] 3)
 have bg:=(Blk.new w 184 #[.int .i64 k,.int .i64 p,.int .i64 s,.int .i64 m]).alloc (.cells #[.int .i64 col] 3)
 have bh:=Blk.second w (.cells #[.int .i64 k,.int .i64 p,.int .i64 s,.int .i64 m] 184) 3 #[.int .i64 col]
 have hL2:=hL.next hB
 refine ⟨_,rfl,⟨_,_,rfl,enter_down1,eql_down1 _ _,?_⟩,hB⟩
 intro n hn l J Jx W o₀ hW ho₀ hJ hJx hr1 hr2 hY h0
 exact cellsDown_in n hn l _ _ w.heap.size _ k p s m col hp hu (Nat.le_refl _) (by simp;omega) (by omega) (by simp;omega) W (by have:=hW.size;simp at this ⊢;omega) (hL2.next hW) J Jx o₀ ho₀ hJ hJx hr1 hr2 hY (bg.below hW bg.lt) (bh.below hW bh.lt) h0

theorem PlacesO.less {lo lo' N:Nat} {col:Int} {zs:List Int} {v:Value} {w:World} (h:PlacesO lo col zs N v w) (hl:lo'≤lo) (hw:lo≤w.heap.size):PlacesO lo' col zs N v w:=by
 obtain ⟨gf,lb,e,eg,eq,hg⟩:=h
 exact ⟨gf,lb,e,eg,eq,fun n hn l J Jx W o₀ hW ho₀ hJ hJx hr1 hr2 hY h0=>hg n hn l J Jx W o₀ hW ho₀ hJ hJx hr1 hr2 (fun pre x o W1 hj hok hl' hs=>(hY pre x o W1 hj hok hl' hs).mono fun _ _ ⟨o',hf,hS,h⟩=>⟨o',hf,hS,h.imp (fun ⟨h1,h2,h3⟩=>⟨h1,h2,h3.less hl (by omega)⟩) (fun ⟨h1,h2,h3⟩=>⟨h1,h2,h3.less hl (by omega)⟩)⟩) h0⟩

theorem none_placesO (lo N:Nat) (x:Int) (w:World):PlacesO lo x [] N (.func (.func 176) #[] #[]) w :=
 ⟨_,_,rfl,enter_cells1,eql_cells1,fun n _ l J Jx W o₀ _ _ _ _ _ _ _ h0=>cells1_inO n l J Jx o₀ W h0⟩

theorem shapeCells_anyO (k p x:Int) (w:World) (hL:Laid w):Calls Tryz.prog 118 #[.agg #[.int .i64 k,.int .i64 p],.int .i64 x] w fun e w'=>∃ v,e = .returned v∧(∃ zs,Column k p x zs∧PlacesO w.heap.size x zs p.toNat v w')∧Below w.heap.size w w':=by
 have hB:=below_one w (.cells #[.int .i64 k,.int .i64 p] 61)
 by_cases hR:RightC k p
 · by_cases hb:HasCol k p x
   · have HT:=Lib.hid (toldS_yes 174 175 enter_hasColumn enter_down k p x hR _ (fun W hL=>(hasColumn_any k p _ _ x hR.und W).mono fun _ _ h=>⟨h.1.trans (ret_bool (decide_eq_true hb)),h.2⟩)
      (fun v w'=>PlacesO w.heap.size x (rowsL p) p.toNat v w') (fun W hL hs=>(down_anyO k p _ _ x hR.2 hR.und W hL).mono fun _ _ ⟨v,h1,h2,h3⟩=>⟨v,h1,h2.less (by have:=hB.size;omega) h3.size,h3⟩) (hL.next hB))
     have HC:Hid (Column k p x (rowsL p)):=.inl ⟨hR,hb,rfl⟩
     clear hb hR
     generalize rowsL p=zs at *
     go_enter Tryz.func118,Tryz.ntmps118
     go_wp2_with (go_at_call 173;refine HT.out.mono ?_;rintro e w1 ⟨v,rfl,hv,hB1⟩)
     go_ret
     exact ⟨_,rfl,⟨_,HC.out,hv⟩,below_in hB hB1⟩
   · have HT:=Lib.hid (toldS_out 174 175 enter_hasColumn k p x hR (fun W hL=>(hasColumn_any k p _ _ x hR.und W).mono fun _ _ h=>⟨h.1.trans (ret_bool (decide_eq_false hb)),h.2⟩) _ (hL.next hB))
     have HC:Hid (Column k p x []):=.inr ⟨fun h=>hb h.2,rfl⟩
     clear hb hR
     go_enter Tryz.func118,Tryz.ntmps118
     go_wp2_with (go_at_call 173;refine HT.out.mono ?_;rintro e w1 ⟨rfl,hB1⟩)
     go_ret
     exact ⟨_,rfl,⟨_,HC.out,none_placesO _ _ _ _⟩,below_in hB hB1⟩
 · have HT:=Lib.hid (toldS_no 174 175 k p x hR _ (hL.next hB))
   have HC:Hid (Column k p x []):=.inr ⟨fun h=>hR h.1,rfl⟩
   clear hR
   go_enter Tryz.func118,Tryz.ntmps118
   go_wp2_with (go_at_call 173;refine HT.out.mono ?_;rintro e w1 ⟨rfl,hB1⟩)
   go_ret
   exact ⟨_,rfl,⟨_,HC.out,none_placesO _ _ _ _⟩,below_in hB hB1⟩
end Go.Proofs.YtcchjofjpflbhaaGreatDoor.T
