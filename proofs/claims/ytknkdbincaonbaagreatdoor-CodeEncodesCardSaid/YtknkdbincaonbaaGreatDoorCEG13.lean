/- -/
import Derived.Test.YtknkdbincaonbaaGreatDoorCEG2
import Derived.Test.YtknkdbincaonbaaGreatDoorCEG7
import Derived.Test.YtknkdbincaonbaaGreatDoorCEG12
import Derived.Test.YtknkdbincaonbaaGreatDoorCECA
set_option linter.unusedVariables false
set_option linter.unusedSimpArgs false
set_option maxRecDepth 100000
set_option maxHeartbeats 4000000
namespace Go.Proofs.YtknkdbincaonbaaGreatDoor.E
open Go.RowKit Go.Shelf Go.Proofs.YtknkdbincaonbaaGreatDoor.C

theorem sameCol_any {B B':Nat} (v1 v2:Value) (ls os:List (List UInt8)) (w:World) (h1:Many B w v1 ls) (h2:Many B' w v2 os) (hls:ls.length≤100000) (hos:os.length≤100000) :
 Calls Tryz.prog 50 #[v1,v2] w fun e w'=>e = .returned (.bool (decide (ls=os)))∧Below w.heap.size w w':=by
 have H:=Lib.hid (rsame_any v1 v2 ls os w h1 h2 (by omega) (by omega))
 obtain ⟨A1,cap1,rfl,_,_⟩:=id h1
 obtain ⟨A2,cap2,rfl,_,_⟩:=id h2
 generalize decide (ls=os)=d at *
 go_enter Tryz.func50,Tryz.ntmps50
 go_wp2_with (go_at_call 91;refine H.out.mono ?_;rintro e w2 ⟨rfl,hB2⟩)
 go_ret
 exact ⟨rfl,hB2⟩
theorem same3_iff (ls os:List (List (List UInt8))):ls=os↔ls.length=os.length∧∀ j,j<ls.length→(ls[j]?.getD [])=(os[j]?.getD []):=by
 constructor
 · rintro rfl
   exact ⟨rfl,fun _ _=>rfl⟩
 · rintro ⟨h1,h2⟩
   apply List.ext_getElem h1
   intro j hj hj2
   have:=h2 j hj
   rwa [List.getElem?_eq_getElem hj,List.getElem?_eq_getElem hj2] at this
theorem same6_any {B B':Nat} (v1 v2:Value) (ls os:List (List (List UInt8))) (w:World) (h1:Cols B w v1 ls) (h2:Cols B' w v2 os) (hB1:B≤w.heap.size) (hB2:B'≤w.heap.size) (hls:∀ j:Nat,(ls[j]?.getD []).length≤1000) (hos:∀ j:Nat,(os[j]?.getD []).length≤1000) (hl1:ls.length≤1000) (hl2:os.length≤1000) :
 Calls Tryz.prog 19 #[v1,v2] w fun e w'=>e = .returned (.bool (decide (ls=os)))∧Below w.heap.size w w':=by
 obtain ⟨A1,cap1,rfl,_,_⟩:=id h1
 obtain ⟨A2,cap2,rfl,_,_⟩:=id h2
 have hb:=same3_iff ls os
 have HLS:=Lib.hid hls
 have HOS:=Lib.hid hos
 clear hls hos
 by_cases hl:ls.length=os.length
 · have e0:((ls.length:Int) != (os.length:Int))=false:=by rw [hl];simp
   have HL:=Lib.hid hl
   have HB:=Lib.hid hb
   clear hb hl
   go_enter Tryz.func19,Tryz.ntmps19
   go_wp2
   go_loopw [5] (fun i wr=>∃ k:Nat,k≤ls.length∧i = .int .i64 k∧Hid (∀ j,j<k→(ls[j]?.getD [])=(os[j]?.getD []))∧Below w.heap.size w wr) (fun i _=>ls.length - (intOf i).toNat)
   case atStart=>exact ⟨0,Nat.zero_le _,rfl,(Lib.hid fun j hj=>absurd hj (by omega)),Below.refl _ _⟩
   case round =>
    obtain ⟨k,hk,rfl,HA,hBr⟩:=hrel
    by_cases hlt:k<ls.length
    · have hdec:decide ((k:Int)<(ls.length:Int))=true:=by simp;omega
      obtain ⟨b1,off1,cq1,e1,_,hb1,hrow1⟩:=(h1.below (hBr.mono hB1)).at_ (by omega)
      injection e1 with e1 _ e1c
      subst e1
      subst e1c
      obtain ⟨u1,hc1,hm1⟩:=hrow1 k hlt
      obtain ⟨b2,off2,cq2,e2,_,hb2,hrow2⟩:=(h2.below (hBr.mono hB2)).at_ (by have:=HL.out;omega)
      injection e2 with e2 _ e2c
      subst e2
      subst e2c
      obtain ⟨u2,hc2,hm2⟩:=hrow2 k (by have:=HL.out;omega)
      have i2:(k:Int)<(os.length:Int):=by have:=HL.out;omega
      have HS:=Lib.hid (fun (V:World) (hV:Below wr.heap.size wr V)=>sameCol_any u1 u2 _ _ V (hm1.below (hV.mono (Nat.le_trans hB1 hBr.size))) (hm2.below (hV.mono (Nat.le_trans hB2 hBr.size))) (by have:=HLS.out k;omega) (by have:=HOS.out k;omega))
      have HN:=Lib.hid (fun (h:¬ (ls[k]?.getD [])=(os[k]?.getD []))=>(fun h2=>h ((HB.out.1 h2).2 k hlt):¬ ls=os))
      have HT:=Lib.hid (fun (h:(ls[k]?.getD [])=(os[k]?.getD []))=>all_next (P:=fun j=>(ls[j]?.getD [])=(os[j]?.getD [])) HA.out h)
      obtain ⟨A3,cap3,rfl,_,_⟩:=id hm1
      obtain ⟨A4,cap4,rfl,_,_⟩:=id hm2
      clear hrow1 hrow2 hm1 hm2
      generalize ls[k]?.getD []=x at *
      generalize os[k]?.getD []=y at *
      by_cases hxy:x=y
      · rw [decide_eq_true hxy] at HS
        have HT2:=Lib.hid (HT.out hxy)
        clear hxy HT HN
        go_wp2
        go_region_held3 (fun U=>U.cell? ⟨b1,off1+k,none⟩=some (.slice A3 x.length cap3)∧U.cell? ⟨b2,off2+k,none⟩=some (.slice A4 y.length cap4)) (first | exact ⟨hc1,hc2⟩ | exact ⟨(hBy.cell (p:=⟨b1,off1+k,none⟩) (Nat.lt_of_lt_of_le hb1 (Nat.le_trans hB1 hBr.size))).trans hc1,(hBy.cell (p:=⟨b2,off2+k,none⟩) (Nat.lt_of_lt_of_le hb2 (Nat.le_trans hB2 hBr.size))).trans hc2⟩) (first | (go_at_call 50;refine (HS.out _ ?_).mono ?_;first | exact Below.refl _ _ | exact (Below.refl _ _).drew;rintro e w2 ⟨rfl,hBx⟩;have hBy:Below wr.heap.size wr w2:=(by first | exact hBx | exact Below.undrew hBx)))
        all_goals go_wp2
        all_goals go_roundw
        case rel=>exact ⟨k+1,by omega,by go_num,HT2,below_in hBr hBy⟩
        case measure=>simp [intOf];omega
      · rw [decide_eq_false hxy] at HS
        have HF:=Lib.hid (decide_eq_false (HN.out hxy))
        clear hxy HT HN
        go_wp2
        go_region_held3 (fun U=>U.cell? ⟨b1,off1+k,none⟩=some (.slice A3 x.length cap3)∧U.cell? ⟨b2,off2+k,none⟩=some (.slice A4 y.length cap4)) (first | exact ⟨hc1,hc2⟩ | exact ⟨(hBy.cell (p:=⟨b1,off1+k,none⟩) (Nat.lt_of_lt_of_le hb1 (Nat.le_trans hB1 hBr.size))).trans hc1,(hBy.cell (p:=⟨b2,off2+k,none⟩) (Nat.lt_of_lt_of_le hb2 (Nat.le_trans hB2 hBr.size))).trans hc2⟩) (first | (go_at_call 50;refine (HS.out _ ?_).mono ?_;first | exact Below.refl _ _ | exact (Below.refl _ _).drew;rintro e w2 ⟨rfl,hBx⟩;have hBy:Below wr.heap.size wr w2:=(by first | exact hBx | exact Below.undrew hBx)))
        all_goals go_wp2
        all_goals go_ret
        all_goals exact ⟨ret_bool HF.out.symm,below_in hBr hBy⟩
    · obtain rfl:k=ls.length:=by omega
      have e1:decide ((ls.length:Int)<(ls.length:Int))=false:=by simp
      go_wp2
      go_ret
      exact ⟨ret_bool (decide_eq_true (HB.out.2 ⟨HL.out,HA.out⟩)).symm,hBr⟩
 · have e0:((ls.length:Int) != (os.length:Int))=true:=by rw [bne_iff_ne];omega
   have hbf:¬ ls=os:=fun h=>hl (hb.1 h).1
   rw [decide_eq_false hbf]
   go_enter Tryz.func19,Tryz.ntmps19
   go_wp2
   go_ret
   exact ⟨rfl,Below.refl _ _⟩
end Go.Proofs.YtknkdbincaonbaaGreatDoor.E

namespace Go.Proofs.YtknkdbincaonbaaGreatDoor.E
open Go.RowKit Go.Shelf Go.Proofs.YtknkdbincaonbaaGreatDoor.C

theorem xors_next (z:List UInt8) (ls:List (List UInt8)) {k:Nat} (hk:k<ls.length):xors z (ls.take (k+1))=xorB (xors z (ls.take k)) (ls[k]?.getD []):=by
 unfold xors
 rw [List.take_add_one,List.foldl_append,List.getElem?_eq_getElem hk]
 rfl
theorem uponL_next (n:Nat) (css:List (List (List UInt8))) (l:List (Int×Int)) {k:Nat} (hk:k<l.length):uponL n css (l.take (k+1))=xorB (uponL n css (l.take k)) (cellI css l[k]):=by
 unfold uponL
 rw [List.map_take,xors_next _ _ (by rw [List.length_map];exact hk),List.map_take,List.getElem?_map,List.getElem?_eq_getElem hk]
 rfl
theorem nought6_fresh (n:Nat) (hn:n≤1000) (w:World):Calls Tryz.prog 92 #[.int .i64 (n:Int)] w fun e w'=>∃ u,e = .returned u∧Fresh w.heap.size w' u (List.replicate n 0)∧Below w.heap.size w w':=by
 obtain ⟨i0,hi,hz0,hz1,hz2⟩:=info_parts Tryz.infoByte
 have hmk:=fun W:World=>run_make (P:=Tryz.prog) W 32 5 i0 (.int .u8 0) Tryz.underlying32 hi hz0 .i64 .i64 (n:Int) (n:Int) (by omega) (by omega) (by rw [hz2];omega) (by omega)
 simp only [hz1,Nat.mul_one,Int.toNat_natCast] at hmk
 have hR:=Row.made w n
 have hBz:=below_one w (.cells (madeCells #[.int .u8 0] n) 5)
 go_enter Tryz.func92,Tryz.ntmps92
 go_wp2
 go_ret
 exact ⟨_,rfl,Row.fresh hR (Nat.le_refl _) (by simp),hBz⟩
theorem upon6_any {B:Nat} (vs vl:Value) (css:List (List (List UInt8))) (l:List (Int×Int)) (R n:Nat) (w:World) (hB:B≤w.heap.size) (hC:Cols B w vs css) (hl:ReadA w vl l) (hg:Grid R n css) (hin:inL R css.length l) (hn:n≤1000) (hll:l.length≤1000) (hcl:css.length≤1000) (hR:R≤1000) :
 Calls Tryz.prog 51 #[vs,vl,.int .i64 (n:Int)] w fun e w'=>∃ u,e = .returned u∧Fresh w.heap.size w' u (uponL n css l)∧Below w.heap.size w w':=by
 obtain ⟨A,cap,rfl,_,_⟩:=id hC
 obtain ⟨Al,capl,rfl,hRd⟩:=hl
 have HR1:=Lib.hid hRd
 have HCC:=Lib.hid hC
 have HG:=Lib.hid hg
 have HIN:=Lib.hid hin
 obtain ⟨N,hN⟩:∃ N,l.length=N:=⟨_,rfl⟩
 obtain ⟨C,hCn⟩:∃ C,css.length=C:=⟨_,rfl⟩
 have HN:=Lib.hid hN
 have HCN:=Lib.hid hCn
 rw [hN] at hll
 rw [hCn] at hcl
 rw [hN,hCn]
 have HNO:=Lib.hid (fun (U:World)=>nought6_fresh n hn U)
 have HNX:Hid (∀ k,k<N→∀ hk:k<l.length,uponL n css (l.take (k+1))=xorB (uponL n css (l.take k)) (cellI css l[k])):=fun k _ hk=>uponL_next n css l hk
 have HE:Hid (uponL n css (l.take N)=uponL n css l):=by unfold Hid;rw [←hN,List.take_length]
 have HLN:Hid (∀ k,(uponL n css (l.take k)).length=n):=fun k=>uponL_len n css _
 clear hN hCn hC hRd hg hin
 go_enter Tryz.func51,Tryz.ntmps51
 go_wp2_with (go_at_call 92;refine (HNO.out _).mono ?_;rintro e w1 ⟨u0,rfl,hu0,hB1⟩)
 go_loopw [7,8] (fun v i wr=>∃ j:Nat,j≤N∧i = .int .i64 j∧Fresh w.heap.size wr v (uponL n css (l.take j))∧Below w.heap.size w wr) (fun _ i _=>N - (intOf i).toNat)
 case atStart=>exact ⟨0,by omega,rfl,hu0,hB1⟩
 case round =>
  clear hu0 hB1
  obtain ⟨j,hj,rfl,hu,hBr⟩:=hrel
  by_cases hlt:j<N
  · have hdec:decide ((j:Int)<(N:Int))=true:=by simp;omega
    have hjs:j<l.length:=by rw [HN.out];exact hlt
    have hnx:=HNX.out j hlt hjs
    obtain ⟨g1,rfl,hg1,x0,x1⟩:=HR1.out j hjs
    obtain ⟨hz1,hz2⟩:=HIN.out l[j] (List.getElem_mem hjs)
    have hlen:=HLN.out j
    clear HR1 HIN HNX
    generalize l[j]=z at *
    obtain ⟨zx,zy⟩:=z
    simp only at hz1 hz2 x0 x1
    rw [HCN.out] at hz1
    obtain ⟨X,rfl⟩:∃ X:Nat,zx=(X:Int):=⟨zx.toNat,by omega⟩
    obtain ⟨Y,rfl⟩:∃ Y:Nat,zy=(Y:Int):=⟨zy.toNat,by omega⟩
    have hX:X<C:=by omega
    have hY:Y<R:=by omega
    obtain ⟨b1,off1,cq1,e1,hcq,hb1,hrow1⟩:=HCC.out.at_ (by rw [HCN.out];omega)
    rw [HCN.out] at e1 hcq
    injection e1 with e1 _ e1c
    subst e1 e1c
    obtain ⟨u1,hc1,hm1⟩:=hrow1 X (by rw [HCN.out];exact hX)
    obtain ⟨hcr,hce⟩:=HG.out X (by rw [HCN.out];exact hX)
    obtain ⟨A3,cap3,rfl,_,_⟩:=id hm1
    obtain ⟨b2,off3,rfl,hb2,hrow3⟩:=many_at hm1 (by omega)
    obtain ⟨Aa,ca,hc3,hby⟩:=hrow3 Y (by omega)
    have hcl2:=hce Y hY
    rw [hcr] at hc1
    rw [hcl2] at hc3 hby
    have hcI:cellI css ((X:Int),(Y:Int))=(css[X]?.getD [])[Y]?.getD []:=rfl
    rw [hcI] at hnx
    have HJX:=Lib.hid hnx
    clear hnx
    have x0':=(hBr.cell (p:=⟨g1,j * 2,none⟩) hg1).trans x0
    have x1':=(hBr.cell (p:=⟨g1,j * 2+1,none⟩) hg1).trans x1
    have y0':=(hBr.cell (p:=⟨b1,off1+X,none⟩) (Nat.lt_of_lt_of_le hb1 hB)).trans hc1
    have y1':=(hBr.cell (p:=⟨b2,off3+Y,none⟩) (Nat.lt_of_lt_of_le hb2 hB)).trans hc3
    have HP:=Lib.hid (fun (U:World) (v:Value) (hU:Below w.heap.size w U) (hv:Bytes U.heap.size U v (uponL n css (l.take j)))=>rput_any v (.slice Aa n ca) (uponL n css (l.take j)) ((css[X]?.getD [])[Y]?.getD []) U hv ((hby.below (hU.mono hB)).more (Nat.le_trans hB hU.size)) (by omega) (by omega))
    clear hcI hce hrow1 hrow3 hm1 hby x0 x1 hc1 hc3
    generalize (css[X]?.getD [])[Y]?.getD []=xy at *
    generalize uponL n css (l.take j)=cur at *
    have i1:(0:Int)≤(j:Int):=by omega
    have i2:(j:Int)<(N:Int):=by omega
    have i3:(0:Int)≤(X:Int):=by omega
    have i4:(X:Int)<(C:Int):=by omega
    have i5:(0:Int)≤(Y:Int):=by omega
    have i6:(Y:Int)<(R:Int):=by omega
    have HHU:=Lib.hid hu.bytes
    have hBz:=hBr.size
    clear hlen hcl2 hcr hu
    go_wp2
    go_region_held3 (fun U=>U.cell? ⟨g1,j * 2,none⟩=some (.int .i64 (X:Int))∧U.cell? ⟨g1,j * 2+1,none⟩=some (.int .i64 (Y:Int))∧U.cell? ⟨b1,off1+X,none⟩=some (.slice (some ⟨b2,off3,none⟩) R cap3)∧U.cell? ⟨b2,off3+Y,none⟩=some (.slice Aa n ca))
     (first | exact ⟨x0',x1',y0',y1'⟩ | exact ⟨(hB4.cell (p:=⟨g1,j * 2,none⟩) (Nat.lt_of_lt_of_le hg1 hBz)).trans x0',(hB4.cell (p:=⟨g1,j * 2+1,none⟩) (Nat.lt_of_lt_of_le hg1 hBz)).trans x1',(hB4.cell (p:=⟨b1,off1+X,none⟩) (Nat.lt_of_lt_of_le hb1 (Nat.le_trans hB hBz))).trans y0',(hB4.cell (p:=⟨b2,off3+Y,none⟩) (Nat.lt_of_lt_of_le hb2 (Nat.le_trans hB hBz))).trans y1'⟩) (first | (go_at_call 35;refine (HP.out _ _ hBr.drew (HHU.out.below ((Below.refl _ _).drew))).mono ?_;rintro e w4 ⟨v4,rfl,hv4,hB4⟩;replace hB4:=below_undrew hB4))
    all_goals go_wp2
    all_goals go_roundw
    case rel=>exact ⟨j+1,by omega,by go_num,by rw [HJX.out];exact hv4.fresh.less hBz,below_in hBr hB4⟩
    case measure=>simp [intOf];omega
  · obtain rfl:j=N:=by omega
    have hdec:decide ((j:Int)<(j:Int))=false:=by simp
    rw [HE.out] at hu
    go_wp2
    go_ret
    exact ⟨_,rfl,hu,hBr⟩
end Go.Proofs.YtknkdbincaonbaaGreatDoor.E

namespace Go.Proofs.YtknkdbincaonbaaGreatDoor.E
open Go.RowKit Go.Shelf Go.Proofs.YtknkdbincaonbaaGreatDoor.C

theorem colL_next (k p:Int) (n:Nat) (css:List (List (List UInt8))) (col:Int) {r:Nat} (hr:r<(p - 1).toNat):(colL k p n css col).take (r+1)=(colL k p n css col).take r ++ [uponL n css (memL k p col (r:Int))]:=by
 unfold colL
 rw [map_next _ 0 _ (by rw [List.length_range];exact hr),List.getElem?_range hr]
 rfl
theorem memL_in {k p:Int} (hR:RightC k p) {col row:Int} {R N:Nat} (hRR:p - 1=(R:Int)) (hN:col≤(N:Int)):inL R N (memL k p col row):=by
 intro z hz
 unfold memL at hz
 have h1:=flatC_mem' (List.mem_filter.1 hz).1
 have h2:=spanL_mem h1.1
 omega
theorem encode6_any {B:Nat} (k p:Int) (hR:RightC k p) (v1:Value) (css:List (List (List UInt8))) (n:Nat) (w:World) (hB:B≤w.heap.size) (hC:Cols B w v1 css) (hlen:(css.length:Int)=p - shortN k) (hG:Grid (p - 1).toNat n css) (hn:n≤1000) :
 Calls Tryz.prog 20 #[.agg #[.int .i64 k,.int .i64 p],v1] w fun e w'=>∃ u,e = .returned u∧Cols w'.heap.size w' u (stepsL k p n css (madeN k).toNat)∧Below w.heap.size w w':=by
 obtain ⟨p1,p2,s1,s2,m1,m2⟩:=hR.und
 obtain ⟨b1,off1,cap,rfl,hcap,hb1,hrow0⟩:=hC.at_ (by omega)
 obtain ⟨R,hRR⟩:∃ R:Nat,p - 1=(R:Int):=⟨(p - 1).toNat,by omega⟩
 obtain ⟨M,hM⟩:∃ M:Nat,madeN k=(M:Int):=⟨(madeN k).toNat,by omega⟩
 have hRt:(p - 1).toNat=R:=by omega
 have hMt:(madeN k).toNat=M:=by omega
 rw [hRt] at hG
 rw [hMt]
 have HCo:=Lib.hid (fun W=>refCols_any k p hR W)
 have HDa:=Lib.hid (fun W=>refData_any k p hR W)
 have HRw:=Lib.hid (fun W=>refRows_any k p hR W)
 have hcd:p - shortN k+madeN k=((css.length+M:Nat):Int):=by omega
 rw [hcd] at HCo
 rw [←hlen] at HDa
 rw [hRR] at HRw
 have HMB:=Lib.hid (fun (m r:Nat) (hm:m<M) (hr:r<R) (W:World)=>refMembers_any k p ((css.length+m:Nat):Int) (r:Int) hR ⟨by omega,by omega⟩ (by omega) W)
 have HMI:=Lib.hid (fun (m r:Nat)=>(memL_in hR hRR (Int.le_refl _):inL R (css.length+m) (memL k p ((css.length+m:Nat):Int) (r:Int))))
 have HMLN:=Lib.hid (fun (m r:Nat) (hm:m<M) (hr:r<R)=>(memL_len (k:=k) (p:=p) (mx:=((css.length+m:Nat):Int)) (my:=(r:Int)) hR ⟨by omega,by omega⟩))
 have HGR:=Lib.hid (fun m=>hG.steps (k:=k) (p:=p) hRt.symm m)
 have HSL:=Lib.hid (fun m=>stepsL_len k p n css m)
 have HSN:Hid (∀ m,stepsL k p n css (m+1)=stepsL k p n css m ++ [colL k p n (stepsL k p n css m) ((css.length+m:Nat):Int)]):=fun m=>by
  show _ ++ [colL k p n _ ((css.length:Int)+(m:Int))] = _
  rw [Int.natCast_add]
 have HCN:Hid (∀ (m r:Nat),r<R→(colL k p n (stepsL k p n css m) ((css.length+m:Nat):Int)).take (r+1)=(colL k p n (stepsL k p n css m) ((css.length+m:Nat):Int)).take r ++ [uponL n (stepsL k p n css m) (memL k p ((css.length+m:Nat):Int) (r:Int))]):=fun m r hr=>colL_next k p n _ _ (by omega)
 have HCL:=Lib.hid (fun m=>(colL_len k p n (stepsL k p n css m) ((css.length+m:Nat):Int)).trans hRt)
 have HUL:=Lib.hid (fun m r=>uponL_len n (stepsL k p n css m) (memL k p ((css.length+m:Nat):Int) (r:Int)))
 have hR16:R≤16:=by omega
 have hR2:2≤R:=by omega
 have hM3:M≤3:=by omega
 have hn20:css.length≤17:=by omega
 have hn1:1≤css.length:=by omega
 -- the first cell
 obtain ⟨u1,hc1,hm1⟩:=hrow0 0 (by omega)
 obtain ⟨hcr,hce⟩:=hG 0 (by omega)
 obtain ⟨A3,cap3,rfl,_,_⟩:=id hm1
 obtain ⟨b2,off3,rfl,hb2,hrow3⟩:=many_at hm1 (by omega)
 obtain ⟨Aa,ca,hc3,_⟩:=hrow3 0 (by omega)
 rw [hcr,Nat.add_zero] at hc1
 rw [hce 0 (by omega),Nat.add_zero] at hc3
 have HROW:=Lib.hid hrow0
 have HCC:=Lib.hid hC
 have HG0:=Lib.hid (fun j hj=>(hG j hj).1)
 have b0:=Blk.new w 24 #[.int .i64 k,.int .i64 p]
 have hBW:=below_one w (.cells #[.int .i64 k,.int .i64 p] 24)
 have HCI:Hid (∀ j,j<css.length→css.take (j+1)=css.take j ++ [css[j]?.getD []]):=fun j hj=>by rw [List.take_add_one,List.getElem?_eq_getElem hj];rfl
 have HCE:Hid (css.take css.length=stepsL k p n css 0):=by unfold Hid;rw [List.take_length];rfl
 have HSS:=Lib.hid (fun (V:World) (hV:Below w.heap.size w V) (hb:Blk V w.heap.size 24 #[.int .i64 k,.int .i64 p])=>(⟨by have:=hb.cell 0;simpa using this,by have:=hb.cell 1;simpa using this,(hV.cell (p:=⟨b1,off1,none⟩) (Nat.lt_of_lt_of_le hb1 hB)).trans hc1,(hV.cell (p:=⟨b2,off3,none⟩) (Nat.lt_of_lt_of_le hb2 hB)).trans hc3⟩:(fun V:World=>V.cell? ⟨w.heap.size,0,none⟩=some (.int .i64 k)∧V.cell? ⟨w.heap.size,1,none⟩=some (.int .i64 p)∧V.cell? ⟨b1,off1,none⟩=some (.slice (some ⟨b2,off3,none⟩) R cap3)∧V.cell? ⟨b2,off3,none⟩=some (.slice Aa n ca)) V))
 clear hm1 hrow3 hcr hce hc1 hc3 hrow0 hC hG hcd hlen hRR hRt hM hMt hR p1 p2 s1 s2 m1 m2
 generalize hn0:css.length=n0 at *
 clear hn0
 go_enter Tryz.func20,Tryz.ntmps20
 go_wp2_with fail
 go_loopw [5,6] (fun v i wr=>∃ m:Nat,m≤n0∧i = .int .i64 m∧RowC (fun _=>True) wr (w.heap.size+1) v (css.take m)∧Blk wr w.heap.size 24 #[.int .i64 k,.int .i64 p]∧Below w.heap.size w wr) (fun _ i _=>n0 - (intOf i).toNat)
 case atStart=>exact ⟨0,Nat.zero_le _,rfl,RowG.nil _ _ _ _ _ _,b0,hBW⟩
 case round =>
  clear b0 hBW
  obtain ⟨m,hm,rfl,hrow,b0,hBr⟩:=hrel
  by_cases hlt:m<n0
  · have hdec:decide ((m:Int)<(n0:Int))=true:=by simp;omega
    obtain ⟨u1,hc1,hm1⟩:=HROW.out m hlt
    obtain ⟨A4,cap4,rfl,_,_⟩:=id hm1
    have hc2:=(hBr.cell (p:=⟨b1,off1+m,none⟩) (Nat.lt_of_lt_of_le hb1 hB)).trans hc1
    have hnx:=HCI.out m hlt
    have hm2:Many B wr _ _:=hm1.below (hBr.mono hB)
    have HVLE:=Lib.hid (fun b e=>RowG.own_le hrow b e)
    have hpl:(css.take m).length≤100:=by rw [List.length_take];omega
    clear hc1 hm1
    generalize css[m]?.getD []=xs at *
    generalize css.take m=pre at *
    generalize xs.length=n7 at *
    have i1:(0:Int)≤(m:Int):=by omega
    have i2:(m:Int)<(n0:Int):=by omega
    have hcells:Below wr.heap.size wr (wr.alloc (.cells #[.slice A4 n7 cap4] 58)):=below_one wr _
    have hszr:=hBr.size
    have HROWC:=Lib.hid (RowG.below hrow hcells)
    have HBLK:=Lib.hid (Blk.new wr 58 #[.slice A4 n7 cap4])
    have HCP:Hid (manyR.R (fun b=>b<(wr.alloc (.cells #[.slice A4 n7 cap4] 58)).heap.size∧some b≠u5.ownBlock∧True) (wr.alloc (.cells #[.slice A4 n7 cap4] 58)) (.slice A4 n7 cap4) xs) :=
     SliceP.imp (hm2.below (hcells.mono (Nat.le_trans hB hszr))) fun b hb=>⟨by have hb':b<B:=hb;simp;omega,fun e=>by have:=HVLE.out b e.symm;have hb':b<B:=hb;omega,trivial⟩
    have hb5:Blk (wr.alloc (.cells #[.slice A4 n7 cap4] 58)) w.heap.size 24 #[.int .i64 k,.int .i64 p]:=b0.alloc _
    clear hrow hm2
    go_wp2_with (at_builtin;refine wpList_pushC (T:=28) _ rfl _ _ rfl Tryz.underlying28 pre rfl HROWC.out wr.heap.size 58 _ xs rfl HBLK.out HCP.out (by omega) (by simp;omega) ?_;intro v' w2 hrow4 hgrow hown)
    go_roundw
    case rel=>exact ⟨m+1,by omega,by go_num,by rw [hnx];exact hrow4,hb5.grown hgrow (fun e=>by have:=HVLE.out _ e.symm;omega),below_grown (below_in hBr hcells) hgrow (by simp;omega) (fun g e=>by have:=HVLE.out g e;omega)⟩
    case measure=>simp [intOf];omega
  · obtain rfl:m=n0:=by omega
    have e1:decide ((m:Int)<(m:Int))=false:=by simp
    rw [HCE.out] at hrow
    have c0:=b0.cell 0;have c1:=b0.cell 1;simp only [gz9] at c0 c1
    go_wp2_with (go_at_call 17;refine (HDa.out _).mono ?_;rintro e w1 ⟨rfl,hB1⟩;replace hrow:=RowG.below hrow hB1;replace b0:=b0.below hB1 b0.lt;replace hBr:=below_in hBr hB1)
    clear c0 c1
    go_loopw [5,7] (fun v i wr=>∃ j:Nat,j≤M∧i = .int .i64 ((m+j:Nat):Int)∧RowC (fun _=>True) wr (w.heap.size+1) v (stepsL k p n css j)∧Blk wr w.heap.size 24 #[.int .i64 k,.int .i64 p]∧Below w.heap.size w wr) (fun _ i _=>m+M - (intOf i).toNat)
    case atStart=>exact ⟨0,Nat.zero_le _,rfl,hrow,b0,hBr⟩
    case round =>
     clear b0 hBr hrow
     obtain ⟨j,hj,rfl,hrow,b0,hBr⟩:=hrel
     have c0:=b0.cell 0;have c1:=b0.cell 1;simp only [gz9] at c0 c1
     by_cases hlt:j<M
     · have HMEM:=Lib.hid (fun (r:Nat) (hr:r<R) (W:World)=>HMB.out j r hlt hr W)
       have HMIJ:=Lib.hid (fun r=>HMI.out j r)
       have HMLJ:=Lib.hid (fun r hr=>HMLN.out j r hlt hr)
       have HGJ:=Lib.hid (HGR.out j)
       have HSJ:=Lib.hid (HSL.out j)
       have HNX:=Lib.hid (HSN.out j)
       have HNR:=Lib.hid (fun r hr=>HCN.out j r hr)
       have HLC:=Lib.hid (HCL.out j)
       have HLU:=Lib.hid (fun r=>HUL.out j r)
       have hmj:m+j≤20:=by omega
       have hpl:Hid ((stepsL k p n css j).length≤100):=by unfold Hid;rw [HSL.out j];omega
       clear HMB HGR HSL HSN HCN HCL HUL HCI HCE HROW HG0 HMI HMLN
       have hdec0:((m+j:Nat):Int)<((m+M:Nat):Int):=by omega
       have hwr:wrap64 (((m+j:Nat):Int)+1)=((m+(j+1):Nat):Int):=by rw [IntWalk.wrap64_in _ (by omega)];omega
       generalize hcol:((m+j:Nat):Int)=col at *
       generalize htot:((m+M:Nat):Int)=tot at *
       have hdec:decide (col<tot)=true:=by simpa using hdec0
       have hcb1:0≤col:=by omega
       have hcb2:col≤100:=by omega
       have HCOL:=Lib.hid hcol
       have HWR:=Lib.hid hwr
       have HTOT:=Lib.hid htot
       clear hcol hwr htot hdec0
       generalize hmade:colL k p n (stepsL k p n css j) col=made at *
       generalize hst:stepsL k p n css j=st at *
       clear hmade hst
       go_wp2_with (go_at_call 47;refine (HCo.out _).mono ?_;rintro e wq ⟨rfl,hB1⟩;replace hrow:=RowG.below hrow hB1;replace b0:=b0.below hB1 b0.lt;replace hBr:=below_in hBr hB1)
       clear c0 c1 hB1
       have hgl:=b0.lt
       have HBL:=Lib.hid b0
       have HUP:=Lib.hid (fun (r:Nat) (hr:r<R) (V:World) (vm:Value) (hV:Below wq.heap.size wq V) (hm:ReadA V vm (memL k p col (r:Int)))=>upon6_any (B:=V.heap.size) u5 vm st _ R n V (Nat.le_refl _) (RowC.cols (RowG.below hrow hV)) hm HGJ.out (by rw [HSJ.out];exact HMIJ.out r) hn (HMLJ.out r hr) (by rw [HSJ.out];omega) (by omega))
       have HSS2:=Lib.hid (fun (V:World) (hV:Below wq.heap.size wq V)=>HSS.out V (below_in hBr hV) (HBL.out.below hV hgl))
       have HVLT:=Lib.hid (fun b e=>RowG.own_lt hrow b e)
       have HVLE:=Lib.hid (fun b e=>RowG.own_le hrow b e)
       have HROWQ:=Lib.hid hrow
       clear hrow
       go_wp2
       go_loopw [8,9] (fun v2 i wr=>∃ r:Nat,r≤R∧i = .int .i64 r∧RowM (fun b=>some b≠u5.ownBlock) wr wq.heap.size v2 (made.take r)∧Below wq.heap.size wq wr) (fun _ i _=>R - (intOf i).toNat)
       case atStart=>exact ⟨0,Nat.zero_le _,rfl,RowG.nil _ _ _ _ _ _,Below.refl _ _⟩
       case round =>
        obtain ⟨r,hr,rfl,hrow2,hBs⟩:=hrel
        have b5:=HBL.out.below hBs hgl
        have c0:=b5.cell 0;have c1:=b5.cell 1;simp only [gz9] at c0 c1
        by_cases hlt2:r<R
        · have hdec2:decide ((r:Int)<(R:Int))=true:=by simp;omega
          go_wp2_with (go_at_call 31;refine (HRw.out _).mono ?_;rintro e wr2 ⟨rfl,hB1⟩;replace hrow2:=RowG.below hrow2 hB1;replace hBs:=below_in hBs hB1)
          have hS0:=HSS2.out _ hBs
          have hr16:(made.take r).length≤100:=by rw [List.length_take,HLC.out];omega
          have HPL2:=Lib.hid hr16
          have HNX2:=Lib.hid (HNR.out r hlt2)
          have HLX:Hid ((uponL n st (memL k p col (r:Int))).length=n):=HLU.out r
          have HVLT2:=Lib.hid (fun b e=>RowG.own_lt hrow2 b e)
          have HVLE2:=Lib.hid (fun b e=>RowG.own_le hrow2 b e)
          have HMEMR:=Lib.hid (fun W=>HMEM.out r hlt2 W)
          have HUPR:=Lib.hid (fun V vm hV hm=>HUP.out r hlt2 V vm hV hm)
          have i5:(0:Int)≤(r:Int):=by omega
          have z1:(0:Int)<(m:Int):=by omega
          have z2:(0:Int)<(R:Int):=by omega
          have z3:¬ R=0:=by omega
          have z4:¬ m=0:=by omega
          clear hr16 c0 c1 b5
          generalize uponL n st (memL k p col (r:Int))=xone at *
          generalize memL k p col (r:Int)=mem at *
          generalize made.take r=pre2 at *
          go_wp2_with fail
          have hS:(fun V:World=>V.cell? ⟨w.heap.size,0,none⟩=some (.int .i64 k)∧V.cell? ⟨w.heap.size,1,none⟩=some (.int .i64 p)∧V.cell? ⟨b1,off1,none⟩=some (.slice (some ⟨b2,off3,none⟩) R cap3)∧V.cell? ⟨b2,off3,none⟩=some (.slice Aa n ca)) wr2.drew:=HSS2.out _ hBs.drew
          refine (wpIn_wide (n:=12)).1 (wpIn_mono (region_HF (Q:=NoPanic _) (S:=(fun V:World=>V.cell? ⟨w.heap.size,0,none⟩=some (.int .i64 k)∧V.cell? ⟨w.heap.size,1,none⟩=some (.int .i64 p)∧V.cell? ⟨b1,off1,none⟩=some (.slice (some ⟨b2,off3,none⟩) R cap3)∧V.cell? ⟨b2,off3,none⟩=some (.slice Aa n ca))) (by kernel_rfl) ?_) NoPanic.imp)
          refine tkF (i:=0) (d:=37) (v:=u8) (s:=hS) (c:=?_)
          simp only [ud9]
          refine tkF (i:=1) (d:=38) (v:=u5) (s:=hS) (c:=?_)
          simp only [ud9]
          refine tkF (i:=2) (d:=39) (v:=.agg #[.int .i64 k,.int .i64 p]) (s:=hS) (c:=?_)
          simp only [ud9]
          refine tkF (i:=3) (d:=40) (v:=.int .i64 col) (s:=hS) (c:=?_)
          simp only [ud9]
          refine tkF (i:=4) (d:=41) (v:=.int .i64 (r:Int)) (s:=hS) (c:=?_)
          simp only [ud9]
          refine tkF (i:=5) (d:=42) (v:=.agg #[.int .i64 col,.int .i64 (r:Int)]) (s:=hS) (c:=?_)
          simp only [ud9]
          refine tkF (i:=7) (d:=44) (v:=.slice (some ⟨b1,off1,none⟩) m cap) (s:=hS) (c:=?_)
          simp only [ud9]
          refine tkF (i:=8) (d:=45) (v:=.pointer (some ⟨b1,off1,none⟩)) (s:=hS) (c:=?_)
          simp only [ud9]
          refine tkF (i:=9) (d:=46) (v:=.slice (some ⟨b2,off3,none⟩) R cap3) (s:=hS) (c:=?_)
          simp only [ud9]
          refine tkF (i:=10) (d:=47) (v:=.pointer (some ⟨b2,off3,none⟩)) (s:=hS) (c:=?_)
          simp only [ud9]
          refine tkF (i:=11) (d:=48) (v:=.slice Aa n ca) (s:=hS) (c:=?_)
          simp only [ud9]
          refine tkF (i:=12) (d:=49) (v:=.int .i64 (n:Int)) (s:=hS) (c:=?_)
          simp only [ud9]
          refine oneF (i:=6) (c:=?_)
          gi_wp2_with fail
          refine ⟨trivial,(callsIn_wide.2 (HMEMR.out _)).mono ?_⟩
          rintro e wm ⟨vm,rfl,hmem,hBm⟩
          replace hBm:=below_undrew hBm
          clear hS
          have hS:(fun V:World=>V.cell? ⟨w.heap.size,0,none⟩=some (.int .i64 k)∧V.cell? ⟨w.heap.size,1,none⟩=some (.int .i64 p)∧V.cell? ⟨b1,off1,none⟩=some (.slice (some ⟨b2,off3,none⟩) R cap3)∧V.cell? ⟨b2,off3,none⟩=some (.slice Aa n ca)) wm:=HSS2.out _ (below_in hBs hBm)
          gi_wp2
          try (refine ⟨hS,?_⟩)
          refine oneF (i:=13) (c:=?_)
          gi_wp2_with fail
          refine ⟨trivial,(callsIn_wide.2 (HUPR.out _ vm (below_in hBs hBm) hmem.readA)).mono ?_⟩
          rintro e wn ⟨v',rfl,hfr,hBn⟩
          obtain ⟨Ax,cx,hxe,_,_⟩:=id hfr
          rw [HLX.out] at hxe
          subst hxe
          replace hfr:=hfr.less hBm.size
          replace hBn:=below_in hBm hBn
          clear hS
          have hS:(fun V:World=>V.cell? ⟨w.heap.size,0,none⟩=some (.int .i64 k)∧V.cell? ⟨w.heap.size,1,none⟩=some (.int .i64 p)∧V.cell? ⟨b1,off1,none⟩=some (.slice (some ⟨b2,off3,none⟩) R cap3)∧V.cell? ⟨b2,off3,none⟩=some (.slice Aa n ca)) wn:=HSS2.out _ (below_in hBs hBn)
          gi_wp2
          try (refine ⟨hS,?_⟩)
          refine oneF (i:=14) (c:=?_)
          have hcells:Below wn.heap.size wn (wn.alloc (.cells #[.slice Ax n cx] 32)):=below_one wn _
          have hBc:=below_in hBn hcells
          have HROWM:=Lib.hid (RowG.below hrow2 hBc)
          have HBLK:=Lib.hid (Blk.new wn 32 #[.slice Ax n cx])
          have hss:=hBs.size
          have hbn:=hBn.size
          have hcs:=hcells.size
          have hwq:=hBr.size
          have HBY:Hid (BytesP (fun b=>b<(wn.alloc (.cells #[.slice Ax n cx] 32)).heap.size∧some b≠u8.ownBlock∧some b≠u5.ownBlock) (wn.alloc (.cells #[.slice Ax n cx] 32)) (.slice Ax n cx) xone):=by
           obtain ⟨A8,cp8,e8,h8,hA8⟩:=hfr.below hcells
           refine ⟨A8,cp8,by rw [HLX.out] at e8 ⊢;exact e8,h8,fun hp=>?_⟩
           obtain ⟨b,off,q1,q2,q3,q4⟩:=hA8 hp
           exact ⟨b,off,q1,⟨q3,fun e=>by have:=HVLT2.out b e.symm;omega,fun e=>by have:=HVLT.out b e.symm;omega⟩,q4⟩
          clear hfr hS
          have hS:(fun V:World=>V.cell? ⟨w.heap.size,0,none⟩=some (.int .i64 k)∧V.cell? ⟨w.heap.size,1,none⟩=some (.int .i64 p)∧V.cell? ⟨b1,off1,none⟩=some (.slice (some ⟨b2,off3,none⟩) R cap3)∧V.cell? ⟨b2,off3,none⟩=some (.slice Aa n ca)) (wn.alloc (.cells #[.slice Ax n cx] 32)):=HSS2.out _ (below_in hBs hBc)
          gi_wp2
          try (refine ⟨hS,?_⟩)
          refine oneF (i:=15) (c:=?_)
          refine opIn_pushM (T:=58) (v:=u8) _ (.tmp 37) (.tmp 51) rfl Tryz.underlying58 pre2 rfl HROWM.out wn.heap.size 32 _ xone rfl HBLK.out HBY.out (by have:=HPL2.out;omega) (by omega) ?_
          intro v' w4 hrow4 hgrow4 hown4
          clear hS
          have hB4:Below wq.heap.size wq w4:=below_grown (below_in hBs hBc) hgrow4 (by omega) (fun g e=>HVLE2.out g e)
          have hS:(fun V:World=>V.cell? ⟨w.heap.size,0,none⟩=some (.int .i64 k)∧V.cell? ⟨w.heap.size,1,none⟩=some (.int .i64 p)∧V.cell? ⟨b1,off1,none⟩=some (.slice (some ⟨b2,off3,none⟩) R cap3)∧V.cell? ⟨b2,off3,none⟩=some (.slice Aa n ca)) w4:=HSS2.out _ hB4
          gi_wp2_with fail
          try (refine ⟨hS,?_⟩)
          refine oneF (i:=16) (c:=?_)
          gi_wp2
          refine anyHF_done (by kernel_rfl) ?_ _
          refine NoPanic.normal ?_
          clear hS
          gi_wp2_with fail
          go_wp2
          go_roundw
          case rel=>exact ⟨r+1,by omega,by go_num,by rw [HNX2.out];exact hrow4,hB4⟩
          case measure=>simp [intOf];omega
        · obtain rfl:r=R:=by omega
          have e1:decide ((r:Int)<(r:Int))=false:=by simp
          have HTK:Hid (made.take r=made):=by unfold Hid;rw [List.take_of_length_le];rw [HLC.out];exact Nat.le_refl _
          rw [HTK.out] at hrow2
          obtain ⟨A7,cp7,hu7,_,_⟩:=id (RowM.many hrow2 (S:=fun _=>True) (fun _ _ _=>trivial))
          subst hu7
          have HNX3:=Lib.hid HNX.out
          generalize made.length=n7 at *
          have HRC:=Lib.hid (fun (V:World) (hV:Below wr.heap.size wr V)=>RowG.below HROWQ.out (below_in (below_in hBs hV) (below_one V (.cells #[.slice A7 n7 cp7] 58))))
          have HBK:=Lib.hid (fun V:World=>Blk.new V 58 #[.slice A7 n7 cp7])
          have HMC:=Lib.hid (fun (V:World) (hV:Below wr.heap.size wr V)=>(RowM.many (RowG.below (RowG.below hrow2 hV) (below_one V (.cells #[.slice A7 n7 cp7] 58))) (fun b hb hq=>⟨hb,(by rcases hq with h | h;exact h;exact fun e=>by have:=HVLT.out b e.symm;omega),trivial⟩):manyR.R (fun b=>b<(V.alloc (.cells #[.slice A7 n7 cp7] 58)).heap.size∧some b≠u5.ownBlock∧True) (V.alloc (.cells #[.slice A7 n7 cp7] 58)) (.slice A7 n7 cp7) made))
          have HPL3:=Lib.hid (show st.length≤100000 by have:=hpl.out;omega)
          have HBS3:=Lib.hid (fun (V:World) (hV:Below wr.heap.size wr V)=>(show w.heap.size+1≤(V.alloc (.cells #[.slice A7 n7 cp7] 58)).heap.size by have:=hV.size;have:=hBs.size;have:=hBr.size;simp;omega))
          have HRL:=Lib.hid (fun (V W:World) (v':Value) (hV:Below wr.heap.size wr V) (hg:(V.alloc (.cells #[.slice A7 n7 cp7] 58)).grownBy W u5.ownBlock)=>(⟨((HBL.out.below (below_in hBs hV) hgl).alloc _).grown hg (fun e=>by have:=HVLE.out _ e.symm;omega),below_grown (below_in hBr (below_in (below_in hBs hV) (below_one V _))) hg (by have:=HBS3.out V hV;omega) (fun g e=>by have:=HVLE.out g e;omega)⟩:Blk W w.heap.size 24 #[.int .i64 k,.int .i64 p]∧Below w.heap.size w W))
          have HMS:Hid (m+M - (col+1).toNat<m+M - col.toNat):=by have h1:=HCOL.out;unfold Hid;clear HWR;omega
          have HW1:Hid (col+1=((m+(j+1):Nat):Int)):=by have h2:=HCOL.out;unfold Hid;clear HWR;omega
          clear hrow2 hBs
          go_wp2_with (first
           | (go_at_call 31;refine (HRw.out _).mono ?_;rintro e wr2 ⟨rfl,hB1⟩)
           | (at_builtin;refine wpList_pushC (T:=28) _ rfl _ _ rfl Tryz.underlying28 st rfl (HRC.out _ hB1) wr2.heap.size 58 _ made rfl (HBK.out _) (HMC.out _ hB1) HPL3.out (HBS3.out _ hB1) ?_;intro v' w2 hrow4 hgrow hown))
          go_roundw
          case rel=>exact ⟨j+1,by omega,congrArg _ HW1.out,by rw [HNX3.out];exact hrow4,HRL.out _ _ v' hB1 hgrow⟩
          case measure=>exact HMS.out
     · obtain rfl:j=M:=by omega
       have e1:decide (((m+j:Nat):Int)<((m+j:Nat):Int))=false:=by simp
       go_wp2_with (go_at_call 47;refine (HCo.out _).mono ?_;rintro e wq ⟨rfl,hB1⟩;replace hrow:=RowG.below hrow hB1;replace hBr:=below_in hBr hB1)
       go_ret
       exact ⟨_,rfl,RowC.cols hrow,hBr⟩
end Go.Proofs.YtknkdbincaonbaaGreatDoor.E

namespace Go.Proofs.YtknkdbincaonbaaGreatDoor.R
open Go.RowKit Go.Shelf Go.Proofs.YtknkdbincaonbaaGreatDoor.C Go.Proofs.YtknkdbincaonbaaGreatDoor.E

theorem need_yes (w:World):Calls Tryz.prog 244 #[.bool true] w fun e w'=>e = .returned (.tuple #[])∧w=w':=by
 go_enter Tryz.func244,Tryz.ntmps244
 go_wp2
 go_end0
 exact ⟨rfl,rfl⟩
theorem need_no (w:World):Calls Tryz.prog 244 #[.bool false] w fun e w'=>e = .panicked gaveUp∧w=w':=by
 go_enter Tryz.func244,Tryz.ntmps244
 go_wp2
 exact ⟨rfl,rfl,rfl⟩
theorem sureB (v:Value) (w:World):Calls Tryz.prog 316 #[v,.int .i64 0] w fun e w'=>e = .returned v∧w=w':=by
 go_enter Tryz.func316,Tryz.ntmps316
 go_wp2
 go_ret
 exact ⟨rfl,rfl⟩
theorem sureA (v:Value) (w:World):Calls Tryz.prog 314 #[v,.int .i64 0] w fun e w'=>e = .returned v∧w=w':=by
 go_enter Tryz.func314,Tryz.ntmps314
 go_wp2
 go_ret
 exact ⟨rfl,rfl⟩

theorem idle_S (p:Addr) (w:World) :
 CallsD Tryz.prog 232 #[.pointer (some p)] .returning w fun e u' w'=>e = .returned (.tuple #[])∧u' = .returning∧w'=w:=by
 have hta:=assert_errno
 refine callsD_of_wpS Tryz.func232 rfl fun c₀ cs hu=>?_
 simp only [Tryz.ntmps232,List.size_toArray,List.length_cons,List.length_nil,Nat.reduceAdd,Nat.reduceSub,Array.replicate_succ,Array.replicate_zero,List.push_toArray,List.append_toArray,List.nil_append,List.cons_append]
 apply wpS_seq
 apply wpS_region
 simp [wpOpsS,go_sem,recoverD,hu,Exit.thenS]
 all_goals (refine wpS_of_wp ?_;go_wp2;cases c₀;simp_all [bodyPostS,results,Tryz.results232])
theorem caught_S (p:Addr) (x:Int) (w:World) (hc:w.cell? p=some (.int .i64 x)) (hz:w.frozen? p=false) :
 CallsD Tryz.prog 232 #[.pointer (some p)] (.panicking gaveUp) w fun e u' w' =>
  e = .returned (.tuple #[])∧u' = .panicking [{ v:=.iface 29 (.int .i64 2),recovered:=true }]∧w'=w.setCell p (.int .i64 2):=by
 have hta:=assert_errno
 refine callsD_of_wpS Tryz.func232 rfl fun c₀ cs hu=>?_
 simp only [Tryz.ntmps232,List.size_toArray,List.length_cons,List.length_nil,Nat.reduceAdd,Nat.reduceSub,Array.replicate_succ,Array.replicate_zero,List.push_toArray,List.append_toArray,List.nil_append,List.cons_append]
 apply wpS_seq
 apply wpS_region
 simp [wpOpsS,go_sem,recoverD,hu,Exit.thenS,gaveUp]
 all_goals (refine wpS_of_wp ?_;go_wp2;simp [bodyPostS,results,Tryz.results232])
theorem ans_S_yes (f:Nat) (caps:Array Value) (w:World) (Post:Value→World→Prop) (hent:∀ W,(callFunc f caps).run Tryz.prog W = .ok (.enter f caps) W)
 (h:∀ W,Below w.heap.size w W→Blk W w.heap.size 29 #[.int .i64 0]→Calls Tryz.prog f caps W fun e w'=>∃ v,e = .returned v∧Post v w'∧Below W.heap.size W w') :
 Calls Tryz.prog 192 #[.func (.func f) #[] caps] w fun e w'=>∃ v W,e = .returned (.tuple #[v,.int .i64 0])∧Post v W∧Blk W w.heap.size 29 #[.int .i64 0]∧w'=W.setCell ⟨w.heap.size,0,none⟩ (.int .i64 0)∧Below w.heap.size w w':=by
 have hmf:∀ (fn:Fn) (first cap:Array Value) (w:World),(Instr.makeFunc fn first cap).run Tryz.prog w = .ok (.func fn first cap) w:=fun _ _ _ _=>rfl
 have h1:=h (w.alloc (.cells #[.int .i64 0] 29)) ((Below.refl _ w).alloc (Nat.le_refl _) _) (Blk.new w _ _)
 clear h
 go_enter_defers Tryz.func192,Tryz.ntmps192
 go_wp2
 refine h1.mono ?_
 rintro e w1 ⟨v,rfl,hv,hB1⟩
 have b1:Blk w1 w.heap.size 29 #[.int .i64 0]:=(Blk.new w _ _).below hB1 (by simp)
 have c1:=b1.cell 0
 have f1:=b1.frozen 0
 simp only [List.getElem?_toArray,List.getElem?_cons_zero] at c1
 go_wp2
 refine leaves_cons (f:=232) (args:=#[.pointer (some ⟨w.heap.size,0,none⟩)]) (by simp) (by simp [go_sem]) ?_
 refine (idle_S ⟨w.heap.size,0,none⟩ _).mono ?_
 rintro e u' w'' ⟨rfl,rfl,rfl⟩
 have c2:(w1.setCell ⟨w.heap.size,0,none⟩ (.int .i64 0)).cell? ⟨w.heap.size,0,none⟩=some (.int .i64 0):=World.cell?_setCell_same' _ _ _ (by rw [c1];rfl)
 simp [Go.Leaves,settle,results,Tryz.results192,go_sem,c2]
 exact ⟨w1,hv,b1,rfl,(((Below.refl _ w).alloc (Nat.le_refl _) _).trans (hB1.mono (by simp))).setCell (Nat.le_refl _) _⟩
theorem ans_S_no (f:Nat) (caps:Array Value) (w:World) (hent:∀ W,(callFunc f caps).run Tryz.prog W = .ok (.enter f caps) W)
 (h:∀ W,Below w.heap.size w W→w.heap.size<W.heap.size→Calls Tryz.prog f caps W fun e w'=>e = .panicked gaveUp∧Below W.heap.size W w') :
 Calls Tryz.prog 192 #[.func (.func f) #[] caps] w fun e w'=>e = .returned (.tuple #[.slice none 0 0,.int .i64 2])∧Below w.heap.size w w':=by
 have hmf:∀ (fn:Fn) (first cap:Array Value) (w:World),(Instr.makeFunc fn first cap).run Tryz.prog w = .ok (.func fn first cap) w:=fun _ _ _ _=>rfl
 have h1:=h (w.alloc (.cells #[.int .i64 0] 29)) ((Below.refl _ w).alloc (Nat.le_refl _) _) (by simp)
 clear h
 go_enter_defers Tryz.func192,Tryz.ntmps192
 go_wp2
 refine h1.mono ?_
 rintro e w1 ⟨rfl,hB1⟩
 have b1:Blk w1 w.heap.size 29 #[.int .i64 0]:=(Blk.new w _ _).below hB1 (by simp)
 have c1:=b1.cell 0
 have f1:=b1.frozen 0
 simp only [List.getElem?_toArray,List.getElem?_cons_zero] at c1
 refine leaves_cons (f:=232) (args:=#[.pointer (some ⟨w.heap.size,0,none⟩)]) (by simp) (by simp [go_sem]) ?_
 refine (caught_S ⟨w.heap.size,0,none⟩ 0 _ c1 f1).mono ?_
 rintro e u' w'' ⟨rfl,rfl,rfl⟩
 have c2:(w1.setCell ⟨w.heap.size,0,none⟩ (.int .i64 2)).cell? ⟨w.heap.size,0,none⟩=some (.int .i64 2):=World.cell?_setCell_same' _ _ _ (by rw [c1];rfl)
 simp [Go.Leaves,settle,results,Tryz.results192,go_sem,c2]
 exact (((Below.refl _ w).alloc (Nat.le_refl _) _).trans (hB1.mono (by simp))).setCell (Nat.le_refl _) _

theorem asMany_yes {B:Nat} (p:Int) (v:Value) (css:List (List (List UInt8))) (w:World) (hL:Laid w) (hB:B≤w.heap.size) (hC:Cols B w v css) (hlen:css.length≤1000) (hok:RightD p css) :
 Calls Tryz.prog 209 #[.int .i64 p,.int .i64 (css.length:Int),v] w fun e w'=>e = .returned (.agg #[.int .i64 2,.int .i64 p,v])∧Below w.heap.size w w':=by
 obtain ⟨A,cap,rfl,_,_⟩:=id hC
 have hBz:=below_one w (.cells #[.int .i64 0,.int .i64 0,.slice none 0 0] 203)
 have HR:=Lib.hid (right_yes (B:=B) p (.slice A css.length cap) css _ (hL.next hBz) (Nat.le_trans hB hBz.size) (hC.below (hBz.mono hB)) hlen hok)
 have bz:=Blk.new w 203 #[.int .i64 0,.int .i64 0,.slice none 0 0]
 clear hC hok hlen
 generalize css.length=n at *
 go_enter Tryz.func209,Tryz.ntmps209
 go_wp2_with fail
 refine HR.out.mono ?_
 rintro e w1 ⟨rfl,hB1⟩
 replace bz:=bz.below hB1 bz.lt
 have hBa:=below_in hBz hB1
 have g0:=bz.cell 0
 have g1:=bz.cell 1
 have g2:=bz.cell 2
 have f0:=bz.frozen 0
 have f1:=bz.frozen 1
 have f2:=bz.frozen 2
 simp only [gz9] at g0 g1 g2
 go_wp2_with (go_at_call 244;refine (need_yes _).mono ?_;rintro e w2 ⟨rfl,rfl⟩)
 have r:=((bz.set_ 0 (.int .i64 2)).set_ 1 (.int .i64 p)).set_ 2 (.slice A n cap)
 have r0:=r.cell 0
 have r1:=r.cell 1
 have r2:=r.cell 2
 simp only [List.setIfInBounds_toArray,List.set_cons_zero,List.set_cons_succ,List.getElem?_toArray,List.getElem?_cons_zero,List.getElem?_cons_succ] at r0 r1 r2
 exact bodyPost_ret (v:=.agg #[.int .i64 2,.int .i64 p,.slice A n cap]) (by simp [results,Tryz.results209,go_sem,r0,r1,r2]) rfl ⟨rfl,((hBa.setCell (by simp) _).setCell (by simp) _).setCell (by simp) _⟩
theorem asMany_no {B:Nat} (p many:Int) (v:Value) (css:List (List (List UInt8))) (w:World) (hL:Laid w) (hB:B≤w.heap.size) (hC:Cols B w v css) (hlen:css.length≤1000) (hcl:∀ j,j<css.length→(css[j]?.getD []).length≤1000) (hno:¬ (RightD p css∧(css.length:Int)=many)) :
 Calls Tryz.prog 209 #[.int .i64 p,.int .i64 many,v] w fun e w'=>e = .panicked gaveUp∧Below w.heap.size w w':=by
 obtain ⟨A,cap,rfl,_,_⟩:=id hC
 have hBz:=below_one w (.cells #[.int .i64 0,.int .i64 0,.slice none 0 0] 203)
 by_cases hr:RightD p css
 · have HR:=Lib.hid (right_yes (B:=B) p (.slice A css.length cap) css _ (hL.next hBz) (Nat.le_trans hB hBz.size) (hC.below (hBz.mono hB)) hlen hr)
   have hne:((css.length:Int) == many)=false:=by
    rw [beq_eq_false_iff_ne]
    exact fun h=>hno ⟨hr,h⟩
   clear hC hno hr hlen hcl
   generalize css.length=n at *
   go_enter Tryz.func209,Tryz.ntmps209
   go_wp2_with (first
    | (go_at_call 74;refine HR.out.mono ?_;rintro e w1 ⟨rfl,hB1⟩)
    | (go_at_call 244;refine (need_no _).mono ?_;rintro e w2 ⟨rfl,rfl⟩))
   exact ⟨rfl,rfl,below_in hBz hB1⟩
 · have HR:=Lib.hid (right_no (B:=B) p (.slice A css.length cap) css _ (hL.next hBz) (Nat.le_trans hB hBz.size) (hC.below (hBz.mono hB)) hlen hcl hr)
   clear hC hno hr hlen hcl
   generalize css.length=n at *
   go_enter Tryz.func209,Tryz.ntmps209
   go_wp2_with (first
    | (go_at_call 74;refine HR.out.mono ?_;rintro e w1 ⟨rfl,hB1⟩)
    | (go_at_call 244;refine (need_no _).mono ?_;rintro e w2 ⟨rfl,rfl⟩))
   exact ⟨rfl,rfl,below_in hBz hB1⟩
def DataR (p:Int) (css:List (List (List UInt8))):Prop:=RightD p css∧(css.length:Int)=p - 1
theorem asked_yes {B:Nat} (p:Int) (v:Value) (css:List (List (List UInt8))) (w:World) (hL:Laid w) (hB:B≤w.heap.size) (hC:Cols B w v css) (hok:DataR p css) :
 Calls Tryz.prog 194 #[.int .i64 p,v] w fun e w'=>e = .returned (.agg #[.int .i64 2,.int .i64 p,v])∧Below w.heap.size w w':=by
 have hpp:=prm_bounds hok.1.1
 obtain ⟨A,cap,rfl,_,_⟩:=id hC
 have hBz:=below_one w (.cells #[.int .i64 0,.int .i64 0,.slice none 0 0] 203)
 have HR:=Lib.hid (asMany_yes (B:=B) p (.slice A css.length cap) css _ (hL.next hBz) (Nat.le_trans hB hBz.size) (hC.below (hBz.mono hB)) (by have:=hok.2;omega) hok.1)
 have hq1:(css.length:Int)=p - 1:=hok.2
 have hq2:wrap64 (p - 1)=(css.length:Int):=by rw [IntWalk.wrap64_in _ (by omega)];exact hq1.symm
 have hq3:IntKind.i64.wrap (p - 1)=(css.length:Int):=by rw [IntWalk.i64_in _ (by omega)];exact hq1.symm
 have bz:=Blk.new w 203 #[.int .i64 0,.int .i64 0,.slice none 0 0]
 clear hC hok hpp hq1
 generalize css.length=n at *
 go_enter Tryz.func194,Tryz.ntmps194
 go_wp2_with fail
 refine HR.out.mono ?_
 rintro e w1 ⟨rfl,hB1⟩
 replace bz:=bz.below hB1 bz.lt
 have hBa:=below_in hBz hB1
 have g0:=bz.cell 0
 have g1:=bz.cell 1
 have g2:=bz.cell 2
 have f0:=bz.frozen 0
 have f1:=bz.frozen 1
 have f2:=bz.frozen 2
 simp only [gz9] at g0 g1 g2
 go_wp2
 have r:=((bz.set_ 0 (.int .i64 2)).set_ 1 (.int .i64 p)).set_ 2 (.slice A n cap)
 have r0:=r.cell 0
 have r1:=r.cell 1
 have r2:=r.cell 2
 simp only [List.setIfInBounds_toArray,List.set_cons_zero,List.set_cons_succ,List.getElem?_toArray,List.getElem?_cons_zero,List.getElem?_cons_succ] at r0 r1 r2
 exact bodyPost_ret (v:=.agg #[.int .i64 2,.int .i64 p,.slice A n cap]) (by simp [results,Tryz.results194,go_sem,r0,r1,r2]) rfl ⟨rfl,((hBa.setCell (by simp) _).setCell (by simp) _).setCell (by simp) _⟩
theorem asked_no {B:Nat} (p:Int) (v:Value) (css:List (List (List UInt8))) (w:World) (hL:Laid w) (hB:B≤w.heap.size) (hC:Cols B w v css) (hlen:css.length≤1000) (hcl:∀ j,j<css.length→(css[j]?.getD []).length≤1000) (hno:¬ DataR p css) :
 Calls Tryz.prog 194 #[.int .i64 p,v] w fun e w'=>e = .panicked gaveUp∧Below w.heap.size w w':=by
 obtain ⟨A,cap,rfl,_,_⟩:=id hC
 have hBz:=below_one w (.cells #[.int .i64 0,.int .i64 0,.slice none 0 0] 203)
 have HR:=Lib.hid (asMany_no (B:=B) p (wrap64 (p - 1)) (.slice A css.length cap) css _ (hL.next hBz) (Nat.le_trans hB hBz.size) (hC.below (hBz.mono hB)) hlen hcl (fun h=>hno ⟨h.1,by
  have hpp:=prm_bounds h.1.1
  have:=h.2
  rwa [IntWalk.wrap64_in _ (by omega)] at this⟩))
 clear hC hno hlen hcl
 generalize css.length=n at *
 go_enter Tryz.func194,Tryz.ntmps194
 go_wp2_with (go_at_call 209;refine HR.out.mono ?_;rintro e w1 ⟨rfl,hB1⟩)
 exact ⟨rfl,rfl,below_in hBz hB1⟩
theorem rowsAt_any (p:Int) (hp:0≤p∧p≤100) (A:Option Addr) (n cap:Nat) (w:World):Calls Tryz.prog 212 #[.agg #[.int .i64 2,.int .i64 p,.slice A n cap]] w fun e w'=>e = .returned (.int .i64 (p - 1))∧Below w.heap.size w w':=by
 have bz:=Blk.new w 203 #[.int .i64 2,.int .i64 p,.slice A n cap]
 have g1:=bz.cell 1
 simp only [gz9] at g1
 have hq2:wrap64 (p - 1)=p - 1:=IntWalk.wrap64_in _ (by omega)
 obtain ⟨h0,h1⟩:=hp
 go_enter Tryz.func212,Tryz.ntmps212
 go_wp2
 go_ret
 exact ⟨rfl,below_one w _⟩
theorem diagonalsAt_any (p:Int) (hp:0≤p∧p≤100) (A:Option Addr) (n cap:Nat) (w:World):Calls Tryz.prog 273 #[.agg #[.int .i64 2,.int .i64 p,.slice A n cap]] w fun e w'=>e = .returned (.int .i64 (p))∧Below w.heap.size w w':=by
 have bz:=Blk.new w 203 #[.int .i64 2,.int .i64 p,.slice A n cap]
 have g1:=bz.cell 1
 simp only [gz9] at g1
 have hq2:wrap64 (p - 1)=p - 1:=IntWalk.wrap64_in _ (by omega)
 obtain ⟨h0,h1⟩:=hp
 go_enter Tryz.func273,Tryz.ntmps273
 go_wp2
 go_ret
 exact ⟨rfl,below_one w _⟩
end Go.Proofs.YtknkdbincaonbaaGreatDoor.R
