/- -/
import Derived.Test.YtknkdbincaonbaaGreatDoorCCG21
import Derived.Test.YtknkdbincaonbaaGreatDoorCCG10
import Derived.Test.YtknkdbincaonbaaGreatDoorCCG11
import Derived.Test.YtknkdbincaonbaaGreatDoorCCG2
import Derived.Test.YtknkdbincaonbaaGreatDoorCCG14
import Derived.Lib.AppendZeros
import Derived.Laws.OwnMore
set_option linter.unusedVariables false
set_option linter.unusedSimpArgs false
set_option maxRecDepth 100000
set_option maxHeartbeats 2000000
namespace Go.Proofs.YtknkdbincaonbaaGreatDoor.Cd
open Go.RowKit Go.Shelf Go.Maps Go.Proofs.YtknkdbincaonbaaGreatDoor.C Go.Proofs.YtknkdbincaonbaaGreatDoor.E Go.Proofs.YtknkdbincaonbaaGreatDoor.Q
attribute [local go_sem] Oper.semAt_some

def FillOk (k p:Int) (b:List UInt8) (n:Int):Prop:=RightC k p∧(1≤n∧n≤64)∧(b.length:Int)≤(p - shortN k) * (p - 1) * n
theorem many_nat {k p:Int} (hR:RightC k p):(p - shortN k) * (p - 1)=((datN k p * (p - 1).toNat:Nat):Int)∧2≤(p - 1).toNat∧(p - 1).toNat≤16∧datN k p * (p - 1).toNat≤272:=by
 obtain ⟨hDN,hd2,hd17⟩:=datN_eq hR
 obtain ⟨p1,p2,s1,s2,m1,m2⟩:=hR.und
 have hpR:p - 1=(((p - 1).toNat:Nat):Int):=by omega
 have hle:datN k p * (p - 1).toNat≤17 * 16:=Nat.mul_le_mul hd17 (by omega)
 refine ⟨by rw [hDN,Int.natCast_mul,←hpR],by omega,by omega,by omega⟩
theorem cut_cell {b:List UInt8} {n i:Nat} (hi:i<cellsFor b.length n):(cutL n b)[i]?.getD []=cellB b n i:=by rw [cutL_at n b i hi];rfl
theorem nought_cell {b:List UInt8} {n i:Nat} (hn:1≤n) (hi:cellsFor b.length n≤i):List.replicate n (0:UInt8)=cellB b n i:=by
 have hr:=cellsFor_room b.length n hn
 have h2:b.length≤i * n:=Nat.le_trans hr (Nat.mul_le_mul_right n hi)
 unfold cellB
 refine List.ext_getElem (by simp) fun j h3 h4=>?_
 rw [List.getElem_replicate,List.getElem_map,List.getElem_range]
 unfold at_
 rw [List.getElem?_eq_none (by omega)]
 rfl
theorem cells_few {b:List UInt8} {n M:Nat} (hn:1≤n) (h:b.length≤M * n):cellsFor b.length n≤M:=by
 unfold cellsFor
 refine Nat.le_of_lt_succ ((Nat.div_lt_iff_lt_mul hn).2 ?_)
 rw [Nat.succ_mul]
 omega
theorem row_len {α:Type} {r:Rep α} {t:TypeId} {d:α} {Q:Nat→Prop} {W:World} {base:Nat} {A:Option Addr} {n c:Nat} {xs:List α} (h:RowG r t d Q W base (.slice A n c) xs):n=xs.length:=by
 obtain ⟨us,ho,hn,_⟩:=h
 rcases ho.2 with ⟨e,h0⟩ | ⟨g,cap,cur,e,_⟩
 · injection e with _ e2 _
   omega
 · injection e with _ e2 _
   omega
def sliceLen:Value→Nat
 | .slice _ n _=>n
 | _=>0
theorem filled_yes (k p:Int) (v:Value) (b:List UInt8) (n:Nat) (hok:FillOk k p b (n:Int)) (w:World) (hL:Laid w) (hb:Bytes w.heap.size w v b) :
 Calls Tryz.prog 70 #[.agg #[.int .i64 k,.int .i64 p],v,.int .i64 (n:Int)] w fun e w'=>∃ u,e = .returned u∧Cols w'.heap.size w' u (fillL (datN k p) (p - 1).toNat n b)∧Below w.heap.size w w':=by
 obtain ⟨hR,⟨hn1',hn2'⟩,hlen'⟩:=hok
 obtain ⟨hmn,hR2,hR16,hM⟩:=many_nat hR
 have hn1:1≤n:=by omega
 have hn2:n≤64:=by omega
 have HNB:=Lib.hid (fun (U:World) (hLU:Laid U)=>by
  have h:=numbers_yes k p hR U hLU
  rw [hmn] at h
  exact h)
 rw [hmn,←Int.natCast_mul] at hlen'
 have hlen:b.length≤datN k p * (p - 1).toNat * n:=by exact_mod_cast hlen'
 have HLA:=Lib.hid (fun (B:Nat) (v:Value) (ls:List (List UInt8)) (hls:ls.length=datN k p * (p - 1).toNat) (hce:∀ i,i<ls.length→ls[i]?.getD []=cellB b n i) (U:World) (hLU:Laid U) (hB:B≤U.heap.size) (hC:Many B U v ls)=>laid_any k p hR v ls n b hls hce U hLU hB hC)
 generalize fillL (datN k p) (p - 1).toNat n b=fl at *
 generalize datN k p * (p - 1).toNat=M at *
 have hMn:M * n≤272 * 64:=Nat.mul_le_mul hM hn2
 have HFE:=Lib.hid (cells_few hn1 hlen)
 have HCUT:=Lib.hid (fun (U:World) (hb:Bytes U.heap.size U v b)=>cut_row v b n hn1 hn2 (by omega) U hb)
 have HZ:=Lib.hid (fun (U:World)=>zero_yes n hn1 hn2 U)
 have HRW:=Lib.hid (fun (base:Nat) (W:World) (u:Value) (h:CutX base W u n b)=>h.row hn1 hn2 (by omega))
 have HB0:=Lib.hid hb
 obtain ⟨Av,capv,rfl,_,_⟩:=id hb
 have hdec:decide ((b.length:Int)≤(M:Int) * (n:Int))=true:=decide_eq_true hlen'
 have hw1:IntKind.i64.wrap ((M:Int) * (n:Int))=(M:Int) * (n:Int):=IntWalk.i64_in _ (by rw [←Int.natCast_mul];omega)
 have hw2:wrap64 ((M:Int) * (n:Int))=(M:Int) * (n:Int):=IntWalk.wrap64_in _ (by rw [←Int.natCast_mul];omega)
 have HNC:=Lib.hid (fun i (hi:cellsFor b.length n≤i)=>nought_cell hn1 hi)
 have HCC:=Lib.hid (fun i (hi:i<cellsFor b.length n)=>cut_cell hi)
 have HCL:=Lib.hid (cutL_len n b)
 have hBz:=below_one w (.cells #[.int .i64 k,.int .i64 p] 24)
 have bz:=Blk.new w 24 #[.int .i64 k,.int .i64 p]
 obtain ⟨wb,hwb⟩:∃ wb,w.alloc (.cells #[.int .i64 k,.int .i64 p] 24)=wb:=⟨_,rfl⟩
 rw [hwb] at hBz bz
 have hLb:=hL.next hBz
 have c0:=bz.cell 0
 have c1:=bz.cell 1
 simp only [gz9] at c0 c1
 generalize cutL n b=cl at *
 clear hlen hlen' hmn hR hb hMn
 obtain ⟨N,hN⟩:∃ N,b.length=N:=⟨_,rfl⟩
 rw [hN] at hdec HB0 HCUT HFE HNC HCC HCL ⊢
 generalize cellsFor N n=q at *
 clear hN
 go_enter Tryz.func70,Tryz.ntmps70
 go_wp2_with (first
  | (go_at_call 82;refine (HNB.out _ hLb).mono ?_;rintro e w1 ⟨rfl,hB1⟩)
  | (go_at_call 112;refine (HZ.out w1).mono ?_;rintro e w2 ⟨z,rfl,hz,hB2⟩;have hB12:=below_in hB1 hB2;obtain ⟨zA,zc,hzv,_,_⟩:=id hz;rw [List.length_replicate] at hzv;subst hzv)
  | (go_at_call 85;refine (sureB _ _).mono ?_;rintro e wz ⟨rfl,rfl⟩)
  | (go_at_call 72;refine (need_yes _).mono ?_;rintro e wz ⟨rfl,rfl⟩)
  | (go_at_call 114;refine (HCUT.out w2 (Bytes.more (Bytes.below HB0.out (below_in hBz hB12)) (below_in hBz hB12).size)).mono ?_;rintro e w3 ⟨u,rfl,hu,hB3⟩;have hrow:=HRW.out _ _ _ hu;obtain ⟨uA,un,uc,rfl⟩:=T.RowG.form hrow;obtain rfl:un=q:=(by rw [row_len hrow];exact HCL.out))
  | (go_at_call 113;refine (sureM _ _).mono ?_;rintro e wz ⟨rfl,rfl⟩))
 have HFZ:=Lib.hid (Fresh.toP hz)
 have HB12:=Lib.hid hB12
 have HB3:=Lib.hid hB3
 have HRW0:=Lib.hid hrow
 have HFq:=HFE.out
 clear hz hB12 hB3 hrow hu HCUT HZ HRW HNB HB0 hB1 hB2
 go_wp2_with fail
 go_loopw [9] (fun l wr=>∃ (j:Nat) (A:Option Addr) (c:Nat),un+j≤M∧l = .slice A (un+j) c∧Hid (RowM (fun _=>True) wr w2.heap.size (.slice A (un+j) c) (cl ++ List.replicate j (List.replicate n 0)))∧Hid (Below w2.heap.size w2 wr)) (fun l _=>M - sliceLen l)
 case atStart=>exact ⟨0,uA,uc,by omega,rfl,by rw [List.replicate_zero,List.append_nil];exact HRW0,HB3⟩
 case round =>
  obtain ⟨j,A,c,hj,rfl,HR,HBR⟩:=hrel
  by_cases hlt:un+j<M
  · have hd1:decide (((un+j:Nat):Int)<(M:Int))=true:=by simp;omega
    have hd2:decide ((un:Int)+(j:Int)<(M:Int))=true:=by simp;omega
    have hz1:=BytesP.keep HFZ.out (fun q hq=>HBR.out.block q hq.2)
    have HBal:=Lib.hid (below_one wr (.cells #[.slice zA n zc] 32))
    have bE:=Blk.new wr 32 #[.slice zA n zc]
    have hz2:=BytesP.keep hz1 (fun q hq=>HBal.out.block q (by have h1:=HBR.out.size;omega))
    have HR2:=Lib.hid (RowG.below HR.out HBal.out)
    have HLE:Hid ((cl ++ List.replicate j (List.replicate n (0:UInt8))).length≤1000):=by unfold Hid;rw [List.length_append,HCL.out,List.length_replicate];omega
    have HNX:Hid ((cl ++ List.replicate j (List.replicate n (0:UInt8))) ++ [List.replicate n 0]=cl ++ List.replicate (j+1) (List.replicate n 0)):=by unfold Hid;rw [List.append_assoc,List.replicate_succ']
    have HSZ:Hid (w2.heap.size≤(wr.alloc (.cells #[.slice zA n zc] 32)).heap.size):=Nat.le_trans HBR.out.size HBal.out.size
    have HZ3:Hid (BytesP (fun b=>b<(wr.alloc (.cells #[.slice zA n zc] 32)).heap.size∧some b≠(Value.slice A (un+j) c).ownBlock∧True) (wr.alloc (.cells #[.slice zA n zc] 32)) (.slice zA n zc) (List.replicate n 0)):=BytesP.imp hz2 (fun q hq=>by
     have hq2:q<w2.heap.size:=hq.2
     refine ⟨by have h1:=HSZ.out;omega,fun e=>by have h6:=RowG.own_le HR2.out q e.symm;omega,trivial⟩)
    clear hz1 HR
    generalize cl ++ List.replicate j (List.replicate n (0:UInt8))=xs at *
    obtain ⟨ys,HYS⟩:∃ ys,cl ++ List.replicate (j+1) (List.replicate n (0:UInt8))=ys:=⟨_,rfl⟩
    rw [HYS] at HNX
    have HNX2:=Lib.hid HYS
    clear HYS
    go_wp2_with (at_builtin;refine wpList_pushM _ rfl _ _ rfl Tryz.underlying57 _ rfl HR2.out wr.heap.size _ _ (List.replicate n 0) rfl bE HZ3.out (Nat.le_trans HLE.out (by omega)) HSZ.out ?_;intro v' w5 hrow5 hgr5 _;obtain ⟨A5,n5,cc5,rfl⟩:=T.RowG.form hrow5;rw [HNX.out] at hrow5;have HR5:=Lib.hid hrow5;have HB5:=Lib.hid (below_grown (below_in HBR.out HBal.out) hgr5 HSZ.out (fun q e=>RowG.own_le HR2.out q e));obtain rfl:n5=un+(j+1):=(by rw [row_len HR5.out,←HNX2.out,List.length_append,HCL.out,List.length_replicate]);clear hrow5 hgr5 hz2 bE)
    go_roundw
    case rel=>exact ⟨j+1,A5,cc5,by omega,rfl,by rw [HNX2.out];exact HR5,HB5⟩
    case measure=>simp [sliceLen];omega
  · have hjM:un+j=M:=by omega
    have hd1:decide (((un+j:Nat):Int)<(M:Int))=false:=by simp;omega
    have hd2:decide ((un:Int)+(j:Int)<(M:Int))=false:=by simp;omega
    have hll:(cl ++ List.replicate j (List.replicate n (0:UInt8))).length=M:=by rw [List.length_append,HCL.out,List.length_replicate];exact hjM
    have hBr2:=hBz.trans (HB12.out.mono hBz.size)
    have hBr3:Below w.heap.size w wr:=hBr2.trans (HBR.out.mono hBr2.size)
    have hbr4:Below wb.heap.size wb wr:=HB12.out.trans (HBR.out.mono HB12.out.size)
    have HLC:=Lib.hid (HLA.out wr.heap.size (.slice A (un+j) c) (cl ++ List.replicate j (List.replicate n 0)) hll (fun i hi=>by
     rcases Nat.lt_or_ge i un with h | h
     · rw [List.getElem?_append_left (by rw [HCL.out];exact h)]
       exact HCC.out i h
     · rw [List.getElem?_append_right (by rw [HCL.out];exact h),HCL.out,List.getElem?_replicate,if_pos (by omega)]
       exact HNC.out i h) wr (hL.next hBr3) (Nat.le_refl _) (manyR_iff.1 (RowM.many HR.out fun q hq _=>hq)))
    have bz2:=bz.below hbr4 bz.lt
    have c0:=bz2.cell 0
    have c1:=bz2.cell 1
    simp only [gz9] at c0 c1
    clear HR hll hjM
    go_wp2_with (go_at_call 115;refine HLC.out.mono ?_;rintro e w5 ⟨u,rfl,hu,hB5⟩;obtain ⟨uA2,uc2,rfl,_,_⟩:=id hu)
    go_ret
    exact ⟨.slice uA2 fl.length uc2,rfl,hu,below_in hBr3 hB5⟩
theorem enter_fill1:∀ args W,(callFunc 69 args).run Tryz.prog W = .ok (.enter 69 args) W:=enters_of Tryz.func69 (by kernel_rfl) rfl
theorem fill_yes (k p:Int) (v:Value) (b:List UInt8) (n:Int) (hok:FillOk k p b n) (w:World) (hL:Laid w) (hb:Bytes w.heap.size w v b) :
 Calls Tryz.prog 32 #[.agg #[.int .i64 k,.int .i64 p],v,.int .i64 n] w fun e w'=>∃ A m c,e = .returned (.tuple #[.slice A m c,.int .i64 0])∧sepC.R (fun b=>w.heap.size≤b∧b<w'.heap.size) w' (.slice A m c) (wholeL k p (fillL (datN k p) (p - 1).toNat n.toNat b))∧Below w.heap.size w w':=by
 obtain ⟨Av,capv,rfl,_,_⟩:=id hb
 obtain ⟨m,rfl⟩:∃ m:Nat,n=(m:Int):=⟨n.toNat,by have:=hok.2.1;omega⟩
 rw [Int.toNat_natCast]
 obtain ⟨W2,hW2⟩:∃ W2,(((w).alloc (.cells #[.int .i64 k,.int .i64 p] 24)).alloc (.cells #[.slice Av b.length capv] 32)).alloc (.cells #[.int .i64 (m:Int)] 3)=W2:=⟨_,rfl⟩
 have hBW:Below w.heap.size w W2:=by rw [←hW2];exact (below_two w _ _).alloc (by simp;omega) _
 have S2:Hid (W2.heap.size=w.heap.size+3):=by unfold Hid;rw [←hW2];simp
 have b0:Blk W2 (w.heap.size) 24 #[.int .i64 k,.int .i64 p]:=by rw [←hW2];exact ((Blk.new (w) 24 #[.int .i64 k,.int .i64 p]).alloc (.cells #[.slice Av b.length capv] 32)).alloc (.cells #[.int .i64 (m:Int)] 3)
 have b1:Blk W2 (w.heap.size+1) 32 #[.slice Av b.length capv]:=by rw [←hW2];exact (Blk.at_size (Blk.new ((w).alloc (.cells #[.int .i64 k,.int .i64 p] 24)) 32 #[.slice Av b.length capv]) (by simp)).alloc (.cells #[.int .i64 (m:Int)] 3)
 have b2:Blk W2 (w.heap.size+2) 3 #[.int .i64 (m:Int)]:=by rw [←hW2];exact Blk.at_size (Blk.new (((w).alloc (.cells #[.int .i64 k,.int .i64 p] 24)).alloc (.cells #[.slice Av b.length capv] 32)) 3 #[.int .i64 (m:Int)]) (by simp)
 have hL2:=hL.next hBW
 have hR:=hok.1
 obtain ⟨hDN,hd2,hd17⟩:=datN_eq hR
 obtain ⟨p1,p2,s1,s2',m1,m2⟩:=hR.und
 have hdk:DataK k p (fillL (datN k p) (p - 1).toNat m b):=⟨⟨hR,by rw [fill_len];exact hDN.symm⟩,right_of hR.2 (by rw [fill_len];omega) (fill_grid _ _ _ _) (by have:=hok.2.1;omega)⟩
 have HFC:=Lib.hid (fun (W:World) (hLW:Laid W) (hbW:Bytes W.heap.size W (.slice Av b.length capv) b)=>filled_yes k p (.slice Av b.length capv) b m hok W hLW hbW)
 generalize fillL (datN k p) (p - 1).toNat m b=fl at *
 have HA:=Lib.hid (ans_S_yes 69 #[.pointer (some ⟨w.heap.size,0,none⟩),.pointer (some ⟨w.heap.size+1,0,none⟩),.pointer (some ⟨w.heap.size+2,0,none⟩)] W2 (fun u W=>∃ A n c,u = .slice A n c∧sepC.R (fun b=>W2.heap.size<b∧b<W.heap.size) W u (wholeL k p fl)) (enter_fill1 _) (fun U hU bU=>by
  have hLU:=hL2.next hU
  have hBU:=below_in hBW hU
  have hlt:=bU.lt
  have hdl:=data_len hdk
  have HFI:=Lib.hid (fun (V:World) (hV:Below U.heap.size U V)=>HFC.out V (hLU.next hV) (Bytes.more (hb.below ((hBU.trans (hV.mono hBU.size)))) (Nat.le_trans hBU.size hV.size)))
  have HQ:=Lib.hid (fun (V V2:World) (hV:Below U.heap.size U V) (hV2:Below V.heap.size V V2) {A:Option Addr} {c:Nat} (hC:Cols V2.heap.size V2 (.slice A fl.length c) fl)=>asked_yes (B:=V2.heap.size) 39 k p (.slice A fl.length c) fl (by have h:=many_data k p;rwa [←hdk.1.2] at h) hdk.1.1 V2 (hLU.next (below_in hV hV2)) (Nat.le_refl _) hC (by omega) hdk.2)
  have HW:=Lib.hid (fun (V2 V3:World) (hV:Below U.heap.size U V2) (hV3:Below V2.heap.size V2 V3) {A:Option Addr} {n c:Nat} (hC:Cols V2.heap.size V2 (.slice A n c) fl)=>whole_any (B:=V2.heap.size) k p (.slice A n c) fl hdk V3 (hLU.next (below_in hV hV3)) hV3.size (hC.below hV3))
  have HSS:Hid (∀ V,Below U.heap.size U V→(fun U:World=>U.cell? ⟨w.heap.size,0,none⟩=some (.int .i64 k)∧U.cell? ⟨w.heap.size,1,none⟩=some (.int .i64 p)∧U.cell? ⟨w.heap.size+1,0,none⟩=some (.slice Av b.length capv)∧U.cell? ⟨w.heap.size+2,0,none⟩=some (.int .i64 (m:Int))) V):=fun V hV=>⟨((b0.below hU b0.lt).below hV (b0.below hU b0.lt).lt).cell 0,((b0.below hU b0.lt).below hV (b0.below hU b0.lt).lt).cell 1,((b1.below hU b1.lt).below hV (b1.below hU b1.lt).lt).cell 0,((b2.below hU b2.lt).below hV (b2.below hU b2.lt).lt).cell 0⟩
  clear hb b0 b1 b2 hW2 hL hL2 hLU HFC hok hdk hdl hR hDN
  generalize b.length=N at *
  refine (callsIn_wide (n:=9)).1 ?_
  refine callsIn_of_wp_marks Tryz.func69 rfl trivial ?_ rfl
  simp only [Tryz.ntmps69,List.size_toArray,List.length_cons,List.length_nil,Nat.reduceAdd,Nat.reduceSub,Array.replicate_succ,Array.replicate_zero,List.push_toArray,List.append_toArray,List.nil_append,List.cons_append]
  gi_wp2_with fail
  have hBx:Below U.heap.size U U.drew:=(Below.refl _ _).drew
  have hS:(fun U:World=>U.cell? ⟨w.heap.size,0,none⟩=some (.int .i64 k)∧U.cell? ⟨w.heap.size,1,none⟩=some (.int .i64 p)∧U.cell? ⟨w.heap.size+1,0,none⟩=some (.slice Av N capv)∧U.cell? ⟨w.heap.size+2,0,none⟩=some (.int .i64 (m:Int))) U.drew:=HSS.out _ hBx
  refine wpIn_mono (region_HF (Q:=NoPanic _) (S:=(fun U:World=>U.cell? ⟨w.heap.size,0,none⟩=some (.int .i64 k)∧U.cell? ⟨w.heap.size,1,none⟩=some (.int .i64 p)∧U.cell? ⟨w.heap.size+1,0,none⟩=some (.slice Av N capv)∧U.cell? ⟨w.heap.size+2,0,none⟩=some (.int .i64 (m:Int)))) (by kernel_rfl) ?_) NoPanic.imp
  refine tkF (i:=0) (d:=4) (v:=.agg #[.int .i64 k,.int .i64 p]) (s:=hS) (c:=?_)
  simp only [ud9]
  refine tkF (i:=1) (d:=5) (v:=.agg #[.int .i64 k,.int .i64 p]) (s:=hS) (c:=?_)
  simp only [ud9]
  refine tkF (i:=2) (d:=6) (v:=.slice Av N capv) (s:=hS) (c:=?_)
  simp only [ud9]
  refine tkF (i:=3) (d:=7) (v:=.int .i64 (m:Int)) (s:=hS) (c:=?_)
  simp only [ud9]
  refine oneF (i:=4) (c:=?_)
  gi_wp2_with fail
  refine ⟨trivial,(callsIn_wide.2 (HFI.out _ hBx)).mono ?_⟩
  rintro e wn ⟨u,rfl,hu,hB1⟩
  obtain ⟨uA,uc,rfl,_,_⟩:=id hu
  have hq:=HQ.out _ _ hBx hB1 hu
  have hcu:=hu
  generalize fl.length=un at *
  replace hBx:=below_in hBx hB1
  clear hS
  have hS:=HSS.out _ hBx
  gi_wp2
  try (refine ⟨hS,?_⟩)
  refine oneF (i:=5) (c:=?_)
  gi_wp2_with fail
  refine ⟨trivial,(callsIn_wide.2 (hq)).mono ?_⟩
  rintro e wq ⟨rfl,hB2⟩
  have hw:=HW.out _ _ hBx hB2 hcu
  replace hBx:=below_in hBx hB2
  clear hS
  have hS:=HSS.out _ hBx
  gi_wp2
  try (refine ⟨hS,?_⟩)
  refine oneF (i:=6) (c:=?_)
  gi_wp2_with fail
  refine ⟨trivial,(callsIn_wide.2 (hw)).mono ?_⟩
  rintro e wv ⟨A2,n2,c2,rfl,hs,hB3⟩
  have hBs:=hBx.size
  replace hBx:=below_in hBx hB3
  clear hS
  have hS:=HSS.out _ hBx
  gi_wp2
  try (refine ⟨hS,?_⟩)
  refine oneF (i:=7) (c:=?_)
  gi_wp2
  refine anyHF_done (by kernel_rfl) ?_ _
  refine NoPanic.normal ?_
  gi_wp2
  exact ⟨.slice A2 n2 c2,by simp [results,Tryz.results69,go_sem],.slice A2 n2 c2,rfl,⟨A2,n2,c2,rfl,sepC.imp hs fun q hq=>⟨by have h1:=hq.1;omega,hq.2⟩⟩,hBx⟩))
 clear hb b0 b1 b2 hL2 HFC hok hdk hR hDN
 generalize b.length=N at *
 go_enter Tryz.func32,Tryz.ntmps32
 have hmf:∀ (fn:Fn) (first cap:Array Value) (w:World),(Instr.makeFunc fn first cap).run Tryz.prog w = .ok (.func fn first cap) w:=fun _ _ _ _=>rfl
 go_wp2_with (go_at_call 36;refine HA.out.mono ?_;rintro e w1 ⟨u,W,rfl,⟨A2,n2,c2,rfl,hu⟩,bE,rfl,hB1⟩)
 go_ret2
 have s2:=S2.out
 refine ⟨A2,n2,c2,rfl,sepC.imp (sep_set hu fun b hb=>by omega) fun b hb=>⟨by omega,by simpa using hb.2⟩,below_in hBW hB1⟩
end Go.Proofs.YtknkdbincaonbaaGreatDoor.Cd

namespace Go.Proofs.YtknkdbincaonbaaGreatDoor
open Go.RowKit Go.Shelf
attribute [local go_sem] Oper.semAt_some

theorem touched_any (k p d c x y:Int) (hR:RightC k p) (hd:d=p - shortN k) (hc:c=p - shortN k+madeN k) (w:World) (hL:Laid w) :
 Calls Tryz.prog 139 #[.agg #[.int .i64 k,.int .i64 p,.int .i64 d,.int .i64 c],.agg #[.int .i64 x,.int .i64 y]] w fun e w'=>∃ u,e = .returned u∧OwnP w' w.heap.size u (havL k p x y ++ havL k p d y)∧Below w.heap.size w w':=by
 have hl:∀ x y,(havL k p x y).length≤1000:=fun x y=>by
  have h1:=List.length_filter_le (fun m:Int×Int=>memB k p m.1 m.2 x y) (flatC p (spanL (p - shortN k) (p - shortN k+madeN k)))
  have h2:=flatC_len p hR.2 (spanL (p - shortN k) (p - shortN k+madeN k))
  rw [spanL_len] at h2
  have:=hR.und.m2
  unfold havL
  omega
 have HH:=Lib.hid (fun x y W hL=>having_any k p d c x y hR hd hc W hL)
 have e:∀ x y,(flatC p (spanL d c)).filter (fun m=>memB k p m.1 m.2 x y)=havL k p x y:=fun x y=>by rw [hd,hc];rfl
 simp only [e] at HH
 clear hd hc hR e
 have hl1:=hl x y
 have hl2:=hl d y
 clear hl
 have e1:=HH.out x y
 have e2:=HH.out d y
 clear HH
 have H1:=Lib.hid e1
 have H2:=Lib.hid e2
 clear e1 e2
 generalize havL k p x y=l1 at *
 generalize havL k p d y=l2 at *
 obtain ⟨W0,hW0⟩:∃ W0,(w.alloc (.cells #[.int .i64 k,.int .i64 p,.int .i64 d,.int .i64 c] 177)).alloc (.cells #[.int .i64 x,.int .i64 y] 207)=W0:=⟨_,rfl⟩
 have b0:Blk W0 w.heap.size 177 #[.int .i64 k,.int .i64 p,.int .i64 d,.int .i64 c]:=by rw [←hW0];exact (Blk.new w _ _).alloc _
 have b1:Blk W0 (w.heap.size+1) 207 #[.int .i64 x,.int .i64 y]:=by rw [←hW0];exact Blk.second w _ _ _
 have hB:Below w.heap.size w W0:=by rw [←hW0];exact below_two w _ _
 have hL0:=hL.next hB
 have hs0:=hB.size
 have hs2:W0.heap.size=w.heap.size+2:=by rw [←hW0];simp
 refine (callsIn_wide (n:=12)).1 ?_
 refine callsIn_of_wp_marks Tryz.func139 rfl trivial ?_ rfl
 simp only [Tryz.ntmps139,List.size_toArray,List.length_cons,List.length_nil,Nat.reduceAdd,Nat.reduceSub,Array.replicate_succ,Array.replicate_zero,List.push_toArray,List.append_toArray,List.nil_append,List.cons_append]
 have c0:=b0.cell 0;have c1:=b0.cell 1;have c2:=b0.cell 2;have c3:=b0.cell 3;have a0:=b1.cell 0;have a1:=b1.cell 1;simp only [gz9] at c0 c1 c2 c3 a0 a1
 gi_wp2_with fail
 clear hW0
 have hS:(fun V:World=>V.cell? ⟨w.heap.size,0,none⟩=some (.int .i64 k)∧V.cell? ⟨w.heap.size,1,none⟩=some (.int .i64 p)∧V.cell? ⟨w.heap.size,2,none⟩=some (.int .i64 d)∧V.cell? ⟨w.heap.size,3,none⟩=some (.int .i64 c)∧V.cell? ⟨w.heap.size+1,0,none⟩=some (.int .i64 x)∧V.cell? ⟨w.heap.size+1,1,none⟩=some (.int .i64 y)) W0.drew:=⟨c0,c1,c2,c3,a0,a1⟩
 refine wpIn_mono (region_HF (Q:=NoPanic _) (S:=(fun V:World=>V.cell? ⟨w.heap.size,0,none⟩=some (.int .i64 k)∧V.cell? ⟨w.heap.size,1,none⟩=some (.int .i64 p)∧V.cell? ⟨w.heap.size,2,none⟩=some (.int .i64 d)∧V.cell? ⟨w.heap.size,3,none⟩=some (.int .i64 c)∧V.cell? ⟨w.heap.size+1,0,none⟩=some (.int .i64 x)∧V.cell? ⟨w.heap.size+1,1,none⟩=some (.int .i64 y))) (by kernel_rfl) ?_) NoPanic.imp
 refine tkF (i:=0) (d:=5) (v:=(.agg #[.int .i64 k,.int .i64 p,.int .i64 d,.int .i64 c])) (s:=hS) (c:=?_)
 simp only [ud9]
 refine tkF (i:=1) (d:=6) (v:=.agg #[.int .i64 x,.int .i64 y]) (s:=hS) (c:=?_)
 simp only [ud9]
 refine tkF (i:=3) (d:=8) (v:=(.agg #[.int .i64 k,.int .i64 p,.int .i64 d,.int .i64 c])) (s:=hS) (c:=?_)
 simp only [ud9]
 refine tkF (i:=4) (d:=9) (v:=.pointer (some ⟨w.heap.size,2,none⟩)) (s:=hS) (c:=?_)
 simp only [ud9]
 refine tkF (i:=5) (d:=10) (v:=.int .i64 d) (s:=hS) (c:=?_)
 simp only [ud9]
 refine tkF (i:=6) (d:=11) (v:=.pointer (some ⟨w.heap.size+1,1,none⟩)) (s:=hS) (c:=?_)
 simp only [ud9]
 refine tkF (i:=7) (d:=12) (v:=.int .i64 y) (s:=hS) (c:=?_)
 simp only [ud9]
 refine tkF (i:=8) (d:=13) (v:=.agg #[.int .i64 d,.int .i64 y]) (s:=hS) (c:=?_)
 simp only [ud9]
 refine oneF (i:=2) (c:=?_)
 gi_wp2_with fail
 refine ⟨trivial,(callsIn_wide.2 (H1.out _ (Laid.drew hL0))).mono ?_⟩
 rintro e w1 ⟨u1,rfl,ho1,hB1⟩
 replace hB1:=below_undrew hB1
 have hq1:=hB1.size
 replace b0:=b0.below hB1 b0.lt;replace b1:=b1.below hB1 b1.lt;replace hB:=below_in hB hB1;replace hL0:=hL0.next hB1
 have c0:=b0.cell 0;have c1:=b0.cell 1;have c2:=b0.cell 2;have c3:=b0.cell 3;have a0:=b1.cell 0;have a1:=b1.cell 1;simp only [gz9] at c0 c1 c2 c3 a0 a1
 replace ho1:=ho1.less (base':=w.heap.size+2) (by simp;rw [hs2];exact Nat.le_refl _)
 clear hS
 gi_wp2
 refine oneF (i:=9) (c:=?_)
 gi_wp2_with fail
 refine ⟨trivial,(callsIn_wide.2 (H2.out _ hL0)).mono ?_⟩
 rintro e w2 ⟨u2,rfl,ho2,hB1⟩
 have hq2:=hB1.size
 replace b0:=b0.below hB1 b0.lt;replace b1:=b1.below hB1 b1.lt;replace hB:=below_in hB hB1;replace hL0:=hL0.next hB1
 have c0:=b0.cell 0;have c1:=b0.cell 1;have c2:=b0.cell 2;have c3:=b0.cell 3;have a0:=b1.cell 0;have a1:=b1.cell 1;simp only [gz9] at c0 c1 c2 c3 a0 a1
 replace ho1:=ho1.below hB1
 gi_wp2
 refine oneF (i:=10) (c:=?_)
 have hn0:some w.heap.size≠u1.ownBlock:=fun e=>by have:=ho1.own_le _ e.symm;omega
 have hn1:some (w.heap.size+1)≠u1.ownBlock:=fun e=>by have:=ho1.own_le _ e.symm;omega
 refine opIn_places w2 _ _ rfl (w.heap.size+2) u1 l1 rfl ho1 _ u2 l2 rfl ho2 hl1 hl2 (by omega) ?_
 intro v3 w3 ho3 hg3
 have hB3:Below w.heap.size w w3:=hB.grown hg3 hB.size (fun r e=>by have:=ho1.own_le r e;omega)
 have b03:=b0.grown hg3 hn0
 have b13:=b1.grown hg3 hn1
 clear c0 c1 c2 c3 a0 a1
 have c0:=b03.cell 0;have c1:=b03.cell 1;have c2:=b03.cell 2;have c3:=b03.cell 3;have a0:=b13.cell 0;have a1:=b13.cell 1;simp only [gz9] at c0 c1 c2 c3 a0 a1
 refine ⟨⟨c0,c1,c2,c3,a0,a1⟩,?_⟩
 refine oneF (i:=11) (c:=?_)
 gi_wp2
 refine anyHF_done (by kernel_rfl) ?_ _
 refine NoPanic.normal ?_
 gi_wp2
 exact ⟨v3,by simp [results,Tryz.results139,go_sem],v3,rfl,ho3.less (by omega),hB3⟩
end Go.Proofs.YtknkdbincaonbaaGreatDoor

namespace Go.Proofs.YtknkdbincaonbaaGreatDoor
open Go.RowKit Go.Shelf

theorem enter_isData:∀ args W,(callFunc 138 args).run Tryz.prog W = .ok (.enter 138 args) W:=enters_of Tryz.func138 (by kernel_rfl) rfl
theorem enter_touched:∀ args W,(callFunc 139 args).run Tryz.prog W = .ok (.enter 139 args) W:=enters_of Tryz.func139 (by kernel_rfl) rfl
theorem tou_len {k p x y:Int} (hR:RightC k p):(touL k p x y).length≤1000:=by
 obtain ⟨p1,p2,s1,s2,m1,m2⟩:=hR.und
 have h1:=List.length_filter_le (fun m:Int×Int=>memB k p m.1 m.2 x y || memB k p m.1 m.2 (p - shortN k) y) (flatC p (spanL (p - shortN k) (p - shortN k+madeN k)))
 have h2:=flatC_len p hR.2 (spanL (p - shortN k) (p - shortN k+madeN k))
 rw [spanL_len] at h2
 unfold touL
 omega

def TouchedC (k p x y:Int) (w:World) (e:Ending) (w':World):Prop :=
 (¬ RightC k p→e = .returned (.tuple #[.slice none 0 0,.int .i64 2])) ∧
 (RightC k p→¬ (HasCell k p x y∧x<p - shortN k)→e = .returned (.tuple #[.slice none 0 0,.int .i64 4])) ∧
 (RightC k p→HasCell k p x y→x<p - shortN k→∃ u,e = .returned (.tuple #[u,.int .i64 0])∧ReadP w'.heap.size w' u (touL k p x y))∧Below w.heap.size w w'

theorem TouchedC.form {k p x y:Int} {w w':World} {e:Ending} (h:TouchedC k p x y w e w'):∃ (u:Value) (n:Int),e = .returned (.tuple #[u,.int .i64 n]):=by
 by_cases hR:RightC k p
 · by_cases hm:HasCell k p x y∧x<p - shortN k
   · obtain ⟨u,e,_⟩:=h.2.2.1 hR hm.1 hm.2
     exact ⟨u,0,e⟩
   · exact ⟨_,4,h.2.1 hR hm⟩
 · exact ⟨_,2,h.1 hR⟩

theorem setsTouched_any (k p x y:Int) (w:World) (hL:Laid w):Calls Tryz.prog 101 #[.agg #[.int .i64 k,.int .i64 p],.agg #[.int .i64 x,.int .i64 y]] w (TouchedC k p x y w):=by
 obtain ⟨W0,hW0⟩:∃ W0,(w.alloc (.cells #[.int .i64 k,.int .i64 p] 24)).alloc (.cells #[.int .i64 x,.int .i64 y] 53)=W0:=⟨_,rfl⟩
 have b0:Blk W0 w.heap.size 24 #[.int .i64 k,.int .i64 p]:=by rw [←hW0];exact (Blk.new w _ _).alloc _
 have b1:Blk W0 (w.heap.size+1) 53 #[.int .i64 x,.int .i64 y]:=by rw [←hW0];exact Blk.second w _ _ _
 have hB:Below w.heap.size w W0:=by rw [←hW0];exact below_two w _ _
 have hL0:=hL.next hB
 have c0:=b0.cell 0
 have c1:=b0.cell 1
 have z0:=b1.cell 0
 have z1:=b1.cell 1
 simp only [gz9] at c0 c1 z0 z1
 have HM:Hid (Calls Tryz.prog 137 #[.agg #[.int .i64 k,.int .i64 p],.func (.func 138) #[] #[],.func (.func 139) #[] #[],.agg #[.int .i64 x,.int .i64 y]] W0 (TouchedC k p x y W0)):=by
  by_cases hR:RightC k p
  · have HI:=fun (b:Bool) (hb:decide (HasCell k p x y∧x<p - shortN k)=b) W hL=>(isData_any k p (p - shortN k) (p - shortN k+madeN k) x y hR W hL).mono fun e w' (h:e = .returned (.bool (decide (HasCell k p x y∧x<p - shortN k)))∧Below W.heap.size W w')=>(by rw [hb] at h;exact h:e = .returned (.bool b)∧Below W.heap.size W w')
    by_cases hm:HasCell k p x y∧x<p - shortN k
    · have hx:0≤x∧x<p - shortN k:=⟨hm.1.1.1,hm.2⟩
      have hy:0≤y∧y<p - 1:=hm.1.2
      have hpm:=tou_perm hR hx hy
      refine (answered_yes 138 139 enter_isData enter_touched k p x y hR (fun W hL=>HI true (decide_eq_true hm) W hL) (havL k p x y ++ havL k p (p - shortN k) y) (by intro e;exact tou_ne hR hx hy (List.append_eq_nil_iff.1 e).1) (tou_nodup hR hx hy) (by rw [←hpm.length_eq];exact tou_len hR) (fun W hL=>touched_any k p _ _ x y hR rfl rfl W hL) W0 hL0).mono ?_
      rintro e w' ⟨u,s,rfl,hp,hst,hrd,hB1⟩
      rw [sorted_one (hp.trans hpm.symm) hst (touL_sorted _ _ _ _)] at hrd
      exact ⟨fun h=>absurd hR h,fun _ h=>absurd hm h,fun _ _ _=>⟨u,rfl,hrd⟩,hB1⟩
    · exact (answered_out 138 139 enter_isData k p x y hR (fun W hL=>HI false (decide_eq_false hm) W hL) W0 hL0).mono fun e w' ⟨h1,h2⟩=>⟨fun h=>absurd hR h,fun _ _=>h1,fun _ h3 h4=>absurd ⟨h3,h4⟩ hm,h2⟩
  · exact (answered_no 138 139 k p x y hR W0 hL0).mono fun e w' ⟨h1,h2⟩=>⟨fun _=>h1,fun h=>absurd h hR,fun h=>absurd h hR,h2⟩
 go_enter Tryz.func101,Tryz.ntmps101
 go_wp2_with fail
 clear hW0
 refine HM.out.mono ?_
 rintro e w1 hM
 obtain ⟨u,n,rfl⟩:=hM.form
 have hB1:=below_in hB hM.2.2.2
 have HH:=Lib.hid hM
 clear hM
 go_wp2
 go_ret2
 exact ⟨HH.out.1,HH.out.2.1,HH.out.2.2.1,hB1⟩
end Go.Proofs.YtknkdbincaonbaaGreatDoor

namespace Go.Proofs.YtknkdbincaonbaaGreatDoor.Cd
open Go.RowKit Go.Shelf Go.Proofs.YtknkdbincaonbaaGreatDoor.C Go.Proofs.YtknkdbincaonbaaGreatDoor.E

theorem flat_nextA {α:Type} (uss:List (List α)) (k:Nat) (hk:k<uss.length):(uss.take (k+1)).flatten=(uss.take k).flatten ++ (uss[k]?.getD []):=by
 rw [List.take_succ_eq_append_getElem hk,List.flatten_append,List.getElem?_eq_getElem hk];simp
theorem flat_leA {α:Type} (uss:List (List α)) (k:Nat):(uss.take k).flatten.length≤uss.flatten.length:=by
 have h:uss.flatten=(uss.take k).flatten ++ (uss.drop k).flatten:=by rw [←List.flatten_append,List.take_append_drop]
 rw [h,List.length_append]
 omega
theorem wpList_zerosA (w:World) {ops:Array Oper} {rest:List Oper} {o:Oper} {a:Act} {Q:Exit→Act→World→Prop} (hgd:o.guard=none) (s x:Operand)
 (ho:o.op = .call { callee:=.builtin .append,args:=#[s,x],argTypes:=#[47,3] }) (n:Nat) (h0:0<n) (hn:n≤1000000)
 (hs:a.eval s = .slice none 0 0) (hx:a.eval x = .int .i64 (n:Int))
 (h:∀ c w',OwnA w' w.heap.size (.slice (some ⟨w.heap.size,0,none⟩) 0 c) []→Below w.heap.size w w'→n≤c→wpList Tryz.prog ops Q rest (a.put o.dst (.slice (some ⟨w.heap.size,0,none⟩) n c)) w'):wpList Tryz.prog ops Q (o :: rest) a w :=
 wpList_plain hgd fun K hK=>by
  obtain ⟨i0,hi,hz0,hz1,hz2⟩:=info_parts Tryz.infoAt
  have hrun:=Lib.run_append_nil_zeros (P:=Tryz.prog) w 47 3 o.type 53 i0 (.agg #[.int .i64 0,.int .i64 0]) .i64 .i64 Tryz.underlying47 Tryz.underlying3 hi hz0 n h0 (by omega) (by omega) (by rw [hz2];omega)
  have hge:=grownCap_ge w n 0 53
  have hle:=grownCap_le_maxLen w n 0 53 (by unfold maxLen;omega)
  generalize grownCap w n 0 53=c at *
  have hsz:(Builtin.zeroCells (Value.agg #[.int .i64 0,.int .i64 0]).cells n ++ Builtin.zeroCells (Value.agg #[.int .i64 0,.int .i64 0]).cells (c - n)).size=c * 2:=by
   rw [Array.size_append,show (Value.agg #[.int .i64 0,.int .i64 0]).cells=#[.int .i64 0,.int .i64 0] from rfl,size_zeroCells,size_zeroCells];simp;omega
  generalize Builtin.zeroCells (Value.agg #[.int .i64 0,.int .i64 0]).cells n ++ Builtin.zeroCells (Value.agg #[.int .i64 0,.int .i64 0]).cells (c - n)=cs at *
  unfold Oper.wp execOp
  simp only [ho,resolve,invoke,builtin,Sem.run_bind,Sem.run_pure,Result.andThen_ok,List.map_toArray,List.map_cons,List.map_nil,hs,hx,hrun]
  exact hK _ _ (h c _ (World.ownsRow_made w.drew cs c (Nat.le_refl _) hle hsz) ((Below.refl w.heap.size w).drew.alloc (Nat.le_refl _) _) hge)
theorem growA_any (n:Nat) (hn:n≤1000000) (w:World) :
 Calls Tryz.prog 141 #[.slice none 0 0,.int .i64 (n:Int)] w fun e w'=>∃ v,e = .returned v∧OwnA w' w.heap.size v []∧Below w.heap.size w w':=by
 by_cases h0:n=0
 · subst h0
   go_enter Tryz.func141,Tryz.ntmps141
   go_wp2
   go_ret
   exact ⟨_,rfl,ownA_nil _ _,Below.refl _ _⟩
 · have hp:0<n:=by omega
   have d1:decide ((n:Int)<0)=false:=by simp
   have d2:decide (0<(n:Int))=true:=by simp;omega
   go_enter Tryz.func141,Tryz.ntmps141
   go_wp2_with (at_builtin;refine wpList_zerosA _ rfl _ _ rfl n hp hn rfl rfl ?_;intro c w1 hown hB1 hc)
   go_ret
   exact ⟨_,rfl,hown,hB1⟩
theorem readP_cell {B:Nat} {w:World} {g cap:Nat} {l:List (Int×Int)} (h:ReadP B w (.slice (some ⟨g,0,none⟩) l.length cap) l) (j:Nat) (u:Value) (hu:(codeCells l)[j]?=some u):w.cell? ⟨g,j,none⟩=some u:=by
 obtain ⟨g2,cap2,e,hg,hc⟩:=h
 injection e with e1 _ _
 injection e1 with e1
 injection e1 with e1 _ _
 subst e1
 have hj:j<2 * l.length:=by rw [←codeCells_len];exact (List.getElem?_eq_some_iff.1 hu).1
 obtain ⟨i,hi⟩:∃ i,j=i * 2∨j=i * 2+1:=⟨j / 2,by omega⟩
 have hil:i<l.length:=by omega
 have h3:=hc i hil
 have h4:=codeCells_at l i hil
 rcases hi with rfl | rfl
 · rw [Nat.mul_comm i 2,h4.1] at hu
   rw [h3.1]
   exact hu
 · rw [Nat.mul_comm i 2,h4.2] at hu
   rw [h3.2]
   exact hu
theorem wpList_placesA (w:World) {ops:Array Oper} {rest:List Oper} {o:Oper} {a:Act} {Q:Exit→Act→World→Prop} (hgd:o.guard=none) (s x:Operand)
 (ho:o.op = .call { callee:=.builtin .append,args:=#[s,x],argTypes:=#[47,47] })
 (base:Nat) (v:Value) (l:List (Int×Int)) (hs:a.eval s=v) (hown:OwnA w base v l) (B2:Nat) (v2:Value) (l2:List (Int×Int)) (hx:a.eval x=v2) (hv2:ReadP B2 w v2 l2) (hlen:l.length≤1000) (hlen2:l2.length≤1000) (hbase:base≤w.heap.size)
 (h:∀ v' w',OwnA w' base v' (l ++ l2)→w.grownBy w' v.ownBlock→wpList Tryz.prog ops Q rest (a.put o.dst v') w'):wpList Tryz.prog ops Q (o :: rest) a w :=
 wpList_plain hgd fun K hK=>by
  obtain ⟨i,hi,hz0,hz1,hz2⟩:=info_parts Tryz.infoAt
  obtain ⟨g,cap,rfl,_⟩:=id hv2
  obtain ⟨v',w',hrun,r1,r2,_,r3⟩:=run_append_own_at (P:=Tryz.prog) w base 47 o.type 53 i (.agg #[.int .i64 0,.int .i64 0]) 2 16 Tryz.underlying47 hi hz0 hz1 hz2 rfl (by omega) v l.length (codeCells l) hown ⟨g,0,none⟩ l2.length cap (codeCells l2) (by rw [codeCells_len];omega)
   (by intro j u hu;rw [addr_add,Nat.zero_add];exact readP_cell hv2 j u hu)
   (by intro u hu';unfold codeCells at hu';obtain ⟨z,_,hz⟩:=List.mem_flatMap.1 hu';simp only [List.mem_cons,List.not_mem_nil,or_false] at hz;rcases hz with rfl | rfl <;> rfl) (by unfold maxLen;omega) (by omega) hbase
  unfold Oper.wp execOp
  simp only [ho,resolve,invoke,builtin,Sem.run_bind,Sem.run_pure,Result.andThen_ok,List.map_toArray,List.map_cons,List.map_nil,hs,hx,hrun]
  refine hK _ _ (h v' w' ?_ r2)
  unfold OwnA
  rw [List.length_append]
  unfold codeCells at *
  rw [List.flatMap_append]
  exact r1
theorem concatA_any (b off cap:Nat) (uss:List (List (Int×Int))) (hls:uss.length≤1000) (htot:uss.flatten.length≤1000) (w:World) {B:Nat} (hB:B≤w.heap.size) (hb:b<w.heap.size)
 (hcell:∀ j,j<uss.length→∃ s,w.cell? ⟨b,off+j,none⟩=some s∧ReadP B w s (uss[j]?.getD [])) :
 Calls Tryz.prog 103 #[.slice (some ⟨b,off,none⟩) uss.length cap] w fun e w'=>∃ v',e = .returned v'∧OwnA w' w.heap.size v' uss.flatten∧Below w.heap.size w w':=by
 have HCE:=Lib.hid hcell
 clear hcell
 go_enter Tryz.func103,Tryz.ntmps103
 go_wp2_with fail
 go_loop [3,11] (fun s i=>∃ k:Nat,k≤uss.length∧i = .int .i64 k∧s = .int .i64 ((uss.take k).flatten.length:Int)) (fun _ i=>uss.length - (intOf i).toNat)
 case atStart=>exact ⟨0,Nat.zero_le _,rfl,rfl⟩
 case round =>
  obtain ⟨k,hk,rfl,rfl⟩:=hrel
  by_cases hlt:k<uss.length
  · have hdec:decide ((k:Int)<(uss.length:Int))=true:=by simp;omega
    obtain ⟨sv,hc,hv⟩:=HCE.out k hlt
    obtain ⟨g1,cp,rfl,_⟩:=id hv
    have HF:Hid ((uss.take (k+1)).flatten.length=(uss.take k).flatten.length+(uss[k]?.getD []).length):=by
     unfold Hid;rw [flat_nextA uss k hlt,List.length_append]
    have hle:=flat_leA uss (k+1)
    rw [HF.out] at hle
    clear hv
    generalize (uss[k]?.getD []).length=m at hc HF hle
    generalize (uss.take k).flatten.length=s at HF hle
    have d1:decide (((s:Int)+(m:Int))<0)=false:=by simp;omega
    go_wp2
    go_round
    case rel=>exact ⟨k+1,by omega,by go_num,by rw [HF.out];go_num⟩
    case measure=>simp [intOf];omega
  · obtain rfl:k=uss.length:=by omega
    have e1:decide ((uss.length:Int)<(uss.length:Int))=false:=by simp
    rw [List.take_length]
    have HT:=Lib.hid htot
    have HLE:=Lib.hid (fun k=>flat_leA uss k)
    generalize uss.flatten.length=T at HT HLE htot
    have HG:=Lib.hid (growA_any T (by omega) w)
    go_wp2_with (go_at_call 141;refine HG.out.mono ?_;rintro e w1 ⟨v1,rfl,hown1,hB1⟩)
    go_loopw [6,27] (fun v i wr=>∃ k:Nat,k≤uss.length∧i = .int .i64 k∧OwnA wr w.heap.size v (uss.take k).flatten∧Below w.heap.size w wr) (fun _ i _=>uss.length - (intOf i).toNat)
    case atStart=>exact ⟨0,Nat.zero_le _,rfl,hown1,hB1⟩
    case round =>
     obtain ⟨k,hk,rfl,hown,hBr⟩:=hrel
     by_cases hlt:k<uss.length
     · have hdec:decide ((k:Int)<(uss.length:Int))=true:=by simp;omega
       obtain ⟨sv,hc,hv⟩:=HCE.out k hlt
       have hc1:=(hBr.cell (p:=⟨b,off+k,none⟩) hb).trans hc
       have hv1:=hv.below (hBr.mono hB)
       have HF:=Lib.hid (flat_nextA uss k hlt)
       have hle:=HLE.out (k+1)
       rw [HF.out,List.length_append] at hle
       obtain ⟨g1,cp,rfl,_⟩:=id hv
       clear hc hv
       generalize uss[k]?.getD []=r at hc1 hv1 HF hle
       generalize (uss.take k).flatten=p at HF hle hown
       have HO:=Lib.hid hown
       have HV:=Lib.hid hv1
       clear hown hv1
       go_wp2_with (at_builtin;refine wpList_placesA _ rfl _ _ rfl w.heap.size _ p rfl HO.out B _ r rfl HV.out (by have:=HT.out;omega) (by have:=HT.out;omega) hBr.size ?_;intro v' w2 hown2 hgrow2)
       go_roundw
       case rel=>exact ⟨k+1,by omega,by go_num,by rw [HF.out];exact hown2,below_grown hBr hgrow2 hBr.size (fun g e=>(World.ownsRow.lt HO.out g e).1)⟩
       case measure=>simp [intOf];omega
     · obtain rfl:k=uss.length:=by omega
       have e1:decide ((uss.length:Int)<(uss.length:Int))=false:=by simp
       rw [List.take_length] at hown
       go_wp2
       go_ret
       exact ⟨_,rfl,hown,hBr⟩
end Go.Proofs.YtknkdbincaonbaaGreatDoor.Cd

namespace Go.Proofs.YtknkdbincaonbaaGreatDoor.Q
open Go.RowKit Go.Shelf Go.Proofs.YtknkdbincaonbaaGreatDoor.C Go.Proofs.YtknkdbincaonbaaGreatDoor.E

def put1 (both:List UInt8) (s:List (List (List UInt8))) (z:Int×Int):List (List (List UInt8)):=setQ s z.1.toNat z.2.toNat (xorB (cellI s z) both)
def putL (both:List UInt8) (s:List (List (List UInt8))) (l:List (Int×Int)):List (List (List UInt8)):=l.foldl (put1 both) s
def InS (k p:Int) (z:Int×Int):Prop:=(0≤z.1∧z.1<p - shortN k+madeN k)∧(0≤z.2∧z.2<p - 1)
variable {k p:Int} {n:Nat} {s:List (List (List UInt8))} {both:List UInt8}

theorem put1_ok (h:StripeK k p n s) {z:Int×Int} (hz:InS k p z):StripeK k p n (put1 both s z):=by
 obtain ⟨hc,h1,h2⟩:=stripe_cell h hz.1 hz.2
 exact setQ_ok h h1 (by have:=hz.2;omega) (by rw [xorB_len];exact hc)
theorem put1_at (h:StripeK k p n s) {z y:Int×Int} (hz:InS k p z) (hy:InS k p y):cellI (put1 both s z) y=if y=z then xorB (cellI s z) both else cellI s y:=by
 obtain ⟨hc,h1,h2⟩:=stripe_cell h hz.1 hz.2
 have h3:cellI (put1 both s z) y=if y.1.toNat=z.1.toNat∧y.2.toNat=z.2.toNat then xorB (cellI s z) both else cellOf_ s y.1.toNat y.2.toNat:=setQ_cell h1 h2 y.1.toNat y.2.toNat
 rw [h3]
 by_cases e:y=z
 · subst e
   rw [if_pos ⟨rfl,rfl⟩,if_pos rfl]
 · rw [if_neg e,if_neg (fun he=>e (Prod.ext (by have h5:=hz.1.1;have h6:=hy.1.1;omega) (by have h5:=hz.2.1;have h6:=hy.2.1;omega)))]
   rfl
theorem putL_ok:∀ (l:List (Int×Int)) {s:List (List (List UInt8))},StripeK k p n s→(∀ z∈l,InS k p z)→StripeK k p n (putL both s l)
 | [],_,h,_=>h
 | z :: l,_,h,hl=>putL_ok l (put1_ok h (hl z (List.mem_cons_self ..))) fun y hy=>hl y (List.mem_cons_of_mem _ hy)
theorem putL_at:∀ (l:List (Int×Int)) {s:List (List (List UInt8))},StripeK k p n s→(∀ z∈l,InS k p z)→l.Nodup→∀ y,InS k p y→cellI (putL both s l) y=if y∈l then xorB (cellI s y) both else cellI s y
 | [],_,_,_,_,y,_=>by rw [if_neg (List.not_mem_nil)];rfl
 | z :: l,s,h,hl,hn,y,hy=>by
   have hz:=hl z (List.mem_cons_self ..)
   have hn2:=List.nodup_cons.1 hn
   have ih:=putL_at l (put1_ok (both:=both) h hz) (fun y hy=>hl y (List.mem_cons_of_mem _ hy)) hn2.2 y hy
   have e1:=put1_at (both:=both) h hz hy
   show cellI (putL both (put1 both s z) l) y = _
   rw [ih,e1]
   by_cases e:y=z
   · subst e
     rw [if_neg hn2.1,if_pos rfl,if_pos (List.mem_cons_self ..)]
   · rw [if_neg e]
     have em:(y∈z :: l)↔y∈l:=by rw [List.mem_cons];exact ⟨fun h=>h.elim (fun h=>absurd h e) id,.inr⟩
     by_cases hm:y∈l
     · rw [if_pos hm,if_pos (em.2 hm)]
     · rw [if_neg hm,if_neg (fun h=>hm (em.1 h))]
theorem putL_next (s:List (List (List UInt8))) (l:List (Int×Int)) (j:Nat) (hj:j<l.length):putL both s (l.take (j+1))=put1 both (putL both s (l.take j)) l[j]:=by
 unfold putL
 rw [List.take_succ_eq_append_getElem hj,List.foldl_append]
 rfl
theorem tou_nodup (k p x y:Int):(touL k p x y).Nodup:=sorted_nodup ((flatC_sorted p _ (spanL_sorted _ _)).filter _)
theorem chg_list {x y:Int} (hR:RightC k p) (hx:0≤x∧x<p - shortN k) (hy:0≤y∧y<p - 1):(∀ z∈(x,y) :: touL k p x y,InS k p z)∧((x,y) :: touL k p x y).Nodup∧touL k p x y≠[]:=by
 obtain ⟨p1,p2,s1,s2,m1,m2⟩:=hR.und
 refine ⟨fun z hz=>?_,?_,?_⟩
 · rcases List.mem_cons.1 hz with rfl | hz
   · exact ⟨⟨hx.1,by show x < _;omega⟩,hy⟩
   · have h1:=par_of (tou_of.1 hz).1
     exact ⟨⟨by omega,h1.1.2⟩,h1.2⟩
 · refine List.nodup_cons.2 ⟨fun hz=>?_,tou_nodup _ _ _ _⟩
   have h1:=par_of (tou_of.1 hz).1
   have h2:p - shortN k≤x:=h1.1.1
   omega
 · have h1:((p - shortN k,y):Int×Int)∈touL k p x y:=tou_of.2 ⟨par_mk ⟨Int.le_refl _,by omega⟩ hy,.inl (by rw [memB_rowself hx.2];exact decide_eq_true rfl)⟩
   intro e
   rw [e] at h1
   cases h1
theorem putL_chg (h:StripeK k p n s) {x y:Int} {c:List UInt8} (hx:0≤x∧x<p - shortN k) (hy:0≤y∧y<p - 1) (hc:c.length=n):putL (xorB (cellI s (x,y)) c) s ((x,y) :: touL k p x y)=chgK k p s x y c:=by
 obtain ⟨hin,hnd,_⟩:=chg_list h.1 hx hy
 obtain ⟨p1,p2,hp,s1,s2,m1,m2⟩:=stripe_n h
 have hcx:=(stripe_cell h (z:=(x,y)) ⟨hx.1,by show x < _;omega⟩ hy).1
 refine stripe_ext (putL_ok _ h hin) (chgK_ok h hx hy hc) fun z hz hz2 j=>?_
 rw [putL_at _ h hin hnd z ⟨hz,hz2⟩,chgK_at h hz hz2]
 by_cases e:z=(x,y)
 · rw [if_pos e,if_pos (by rw [e];exact List.mem_cons_self ..),e,at_xorB _ _ _ (by rw [xorB_len]),at_xorB _ _ _ (by rw [hc,hcx]),←UInt8.xor_assoc,UInt8.xor_self,UInt8.zero_xor]
 · rw [if_neg e]
   have em:(z∈(x,y) :: touL k p x y)↔z∈touL k p x y:=by rw [List.mem_cons];exact ⟨fun h=>h.elim (fun h=>absurd h e) id,.inr⟩
   by_cases hm:z∈touL k p x y
   · rw [if_pos hm,if_pos (em.2 hm)]
   · rw [if_neg hm,if_neg (fun h=>hm (em.1 h))]
end Go.Proofs.YtknkdbincaonbaaGreatDoor.Q
