/- -/
import Derived.Test.YtkllhjhkcipkoaaGreatDoorTHG13
set_option linter.unusedVariables false
set_option linter.unusedSimpArgs false
set_option maxRecDepth 100000
set_option maxHeartbeats 8000000
namespace Go.Proofs.YtkllhjhkcipkoaaGreatDoor.Tr
open Go.RowKit Go.Shelf Go.Maps Go.Proofs.YtkllhjhkcipkoaaGreatDoor.C Go.Proofs.YtkllhjhkcipkoaaGreatDoor.E Go.Proofs.YtkllhjhkcipkoaaGreatDoor.T Go.Proofs.YtkllhjhkcipkoaaGreatDoor.Rg
attribute [local go_sem] Oper.semAt_some

def secT (P Q n:Nat) (s0 s1:List (List UInt8)) (k0 k1 a b:Int):List (List UInt8) :=
 slackL P Q (wholeF Q n (turnC P Q n (sumC Q [turnC P Q n s0 (-(k0 * a)),turnC P Q n s1 (-(k1 * a))]) (-(k0 * (b - a))))) (k1 * (b - a) - k0 * (b - a))
theorem two_all {Q n:Nat} {a b:List (List UInt8)} (ga:GoodC Q n a) (gb:GoodC Q n b):∀ j,j < [a,b].length→GoodC Q n ([a,b][j]?.getD []):=fun j hj=>by
 have h2:j=0∨j=1:=by simp at hj;omega
 rcases h2 with rfl | rfl
 · exact ga
 · exact gb
theorem two_good {P Q n:Nat} (d:Dims P Q n) {a b:List (List UInt8)} (ga:GoodC Q n a) (gb:GoodC Q n b):GoodC Q n (sumC Q [a,b]):=sum_good d.h1 d.h64 (by simp) (by intro c hc;simp only [List.mem_cons,List.not_mem_nil,or_false] at hc;rcases hc with rfl | rfl <;> assumption)
theorem sec_good {P Q n:Nat} (d:Dims P Q n) (s0 s1:List (List UInt8)) (g0:GoodC Q n s0) (g1:GoodC Q n s1) (k0 k1 a b:Int):GoodC Q n (secT P Q n s0 s1 k0 k1 a b) :=
 slack_good d.hQ d.h1 d.h64 (turn_good d.h1 d.h64 (two_good d (turn_good d.h1 d.h64 g0 _) (turn_good d.h1 d.h64 g1 _)) _) _
theorem second_any {P Q n:Nat} (d:Dims P Q n) (k0 k1:Int) (hk0:k0=0∨k0=1∨k0 = -1) (hk1:k1=0∨k1=1∨k1 = -1) (a b:Int) (ha:0≤a) (hab:a<b) (hb:b≤100) (hne:(k1 * (b - a) - k0 * (b - a)) % (P:Int)≠0) (gl lo ln lc gs m mc:Nat) (hm:1<m) (hln:1<ln) (A0:Option Addr) (c0:Nat) (A1:Option Addr) (c1:Nat) (s0 s1:List (List UInt8)) (h0:GoodC Q n s0) (h1:GoodC Q n s1) (w:World) (hL:Laid w) (hgl:gl<w.heap.size) (hgs:gs<w.heap.size) (cA:w.cell? ⟨gl,lo,none⟩=some (.int .i64 a)) (cB:w.cell? ⟨gl,lo+1,none⟩=some (.int .i64 b)) (cV0:w.cell? ⟨gs,0,none⟩=some (.slice A0 Q c0)) (cF0:w.cell? ⟨gs,1,none⟩=some (byK k0)) (cV1:w.cell? ⟨gs,2,none⟩=some (.slice A1 Q c1)) (cF1:w.cell? ⟨gs,3,none⟩=some (byK k1)) (hM0:Many w.heap.size w (.slice A0 Q c0) s0) (hM1:Many w.heap.size w (.slice A1 Q c1) s1) :
 Calls Tryz.prog 80 #[.agg #[.int .i64 (P:Int),.slice (some ⟨gl,lo,none⟩) ln lc,.slice (some ⟨gs,0,none⟩) m mc]] w fun e w'=>∃ At kt,e = .returned (.slice At Q kt)∧FreshMany w.heap.size w' (.slice At Q kt) (secT P Q n s0 s1 k0 k1 a b)∧Below w.heap.size w w':=by
 have hka:∀ k:Int,(k=0∨k=1∨k = -1)→-100≤k * (b - a)∧k * (b - a)≤100:=fun k hk=>by rcases hk with rfl | rfl | rfl <;> omega
 have hy0:=hka k0 hk0
 have hy1:=hka k1 hk1
 have HBY0:=Lib.hid (fun V=>by_any k0 hk0 (b - a) (by omega) (by omega) V)
 have HBY1:=Lib.hid (fun V=>by_any k1 hk1 (b - a) (by omega) (by omega) V)
 have hen0:=enter_by k0
 have hen1:=enter_by k1
 have gt0:=turn_good (P:=P) d.h1 d.h64 h0 (-(k0 * a))
 have gt1:=turn_good (P:=P) d.h1 d.h64 h1 (-(k1 * a))
 have g2:=two_good d gt0 gt1
 have g3:=turn_good (P:=P) d.h1 d.h64 g2 (-(k0 * (b - a)))
 have HK0:=fun (V:World) (hV:Below w.heap.size w V)=>back0_any d k0 hk0 a ha (by omega) gl lo ln lc gs m mc (by omega) (by omega) A0 c0 s0 h0 V (hL.next hV) (Nat.lt_of_lt_of_le hgl hV.size) (Nat.lt_of_lt_of_le hgs hV.size) ((hV.cell (p:=⟨gl,lo,none⟩) hgl).trans cA) ((hV.cell (p:=⟨gs,0,none⟩) hgs).trans cV0) ((hV.cell (p:=⟨gs,1,none⟩) hgs).trans cF0) ((hM0.below hV).more hV.size)
 have HK1:=fun (V:World) (hV:Below w.heap.size w V)=>back1_any d k1 hk1 a ha (by omega) gl lo ln lc gs m mc (by omega) (by omega) A1 c1 s1 h1 V (hL.next hV) (Nat.lt_of_lt_of_le hgl hV.size) (Nat.lt_of_lt_of_le hgs hV.size) ((hV.cell (p:=⟨gl,lo,none⟩) hgl).trans cA) ((hV.cell (p:=⟨gs,2,none⟩) hgs).trans cV1) ((hV.cell (p:=⟨gs,3,none⟩) hgs).trans cF1) ((hM1.below hV).more hV.size)
 have HU:=fun (V:World) (hV:Below w.heap.size w V) (v:Value) hC=>upon_any d [turnC P Q n s0 (-(k0 * a)),turnC P Q n s1 (-(k1 * a))] (by simp) (by simp) (two_all gt0 gt1) v V (hL.next hV) hC
 have HT:=fun (V:World) (hV:Below w.heap.size w V) (v:Value) hM=>turned_any d (-(k0 * (b - a))) (by omega) (by omega) (sumC Q [turnC P Q n s0 (-(k0 * a)),turnC P Q n s1 (-(k1 * a))]) g2 v V (hL.next hV) hM
 have HS:=fun (V:World) (hV:Below w.heap.size w V) (v:Value) hM=>slackened_any d (k1 * (b - a) - k0 * (b - a)) (by omega) (by omega) hne (turnC P Q n (sumC Q [turnC P Q n s0 (-(k0 * a)),turnC P Q n s1 (-(k1 * a))]) (-(k0 * (b - a)))) g3 v V (hL.next hV) hM
 unfold byK at cF0 cF1
 unfold secT
 generalize slackL P Q (wholeF Q n (turnC P Q n (sumC Q [turnC P Q n s0 (-(k0 * a)),turnC P Q n s1 (-(k1 * a))]) (-(k0 * (b - a))))) (k1 * (b - a) - k0 * (b - a))=R at *
 generalize turnC P Q n (sumC Q [turnC P Q n s0 (-(k0 * a)),turnC P Q n s1 (-(k1 * a))]) (-(k0 * (b - a)))=R3 at *
 generalize sumC Q [turnC P Q n s0 (-(k0 * a)),turnC P Q n s1 (-(k1 * a))]=R2 at *
 generalize turnC P Q n s0 (-(k0 * a))=R0 at *
 generalize turnC P Q n s1 (-(k1 * a))=R1 at *
 have hz:IntKind.i64.wrap (b - a)=b - a:=IntWalk.i64_in _ (by omega)
 generalize k0 * (b - a)=y0 at *
 generalize k1 * (b - a)=y1 at *
 generalize hzd:b - a=z at *
 replace hz:IntKind.i64.wrap (b - a)=z:=by rw [hzd];exact hz
 clear hzd
 have hn0:IntKind.i64.wrap (-y0) = -y0:=IntWalk.i64_in _ (by omega)
 have he:IntKind.i64.wrap (y1 - y0)=y1 - y0:=IntWalk.i64_in _ (by omega)
 generalize hed:y1 - y0=e at *
 replace he:IntKind.i64.wrap (y1 - y0)=e:=by rw [hed];exact he
 clear hed
 generalize fnK k0=f0 at *
 generalize fnK k1=f1 at *
 obtain ⟨w0,hw0⟩:∃ x,w.alloc (.cells #[.int .i64 (P:Int),.slice (some ⟨gl,lo,none⟩) ln lc,.slice (some ⟨gs,0,none⟩) m mc] 103)=x:=⟨_,rfl⟩
 obtain ⟨g0,hg0⟩:∃ x,w.heap.size=x:=⟨_,rfl⟩
 have b0:Blk w0 g0 103 #[.int .i64 (P:Int),.slice (some ⟨gl,lo,none⟩) ln lc,.slice (some ⟨gs,0,none⟩) m mc]:=by rw [←hw0,←hg0];exact Blk.new w _ _
 have hB0:Below w.heap.size w w0:=by rw [←hw0];exact below_one w _
 have HBK0:=Lib.hid (fun (V:World) (hV:Below w0.heap.size w0 V)=>HK0 V (below_in hB0 hV))
 have HBK1:=Lib.hid (fun (V:World) (hV:Below w0.heap.size w0 V)=>HK1 V (below_in hB0 hV))
 have HUP:=Lib.hid (fun (V:World) (hV:Below w0.heap.size w0 V)=>HU V (below_in hB0 hV))
 have HTU:=Lib.hid (fun (V:World) (hV:Below w0.heap.size w0 V)=>HT V (below_in hB0 hV))
 have HSL:=Lib.hid (fun (V:World) (hV:Below w0.heap.size w0 V)=>HS V (below_in hB0 hV))
 have HSS:Hid (∀ V,Below w0.heap.size w0 V→(fun U:World=>U.cell? ⟨g0,0,none⟩=some (.int .i64 (P:Int))∧U.cell? ⟨g0,1,none⟩=some (.slice (some ⟨gl,lo,none⟩) ln lc)∧U.cell? ⟨g0,2,none⟩=some (.slice (some ⟨gs,0,none⟩) m mc)∧U.cell? ⟨gl,lo,none⟩=some (.int .i64 a)∧U.cell? ⟨gl,lo+1,none⟩=some (.int .i64 b)∧U.cell? ⟨gs,1,none⟩=some (.func (.func f0) #[] #[])∧U.cell? ⟨gs,3,none⟩=some (.func (.func f1) #[] #[])) V):=fun V hV=>⟨(b0.below hV b0.lt).cell 0,(b0.below hV b0.lt).cell 1,(b0.below hV b0.lt).cell 2,((below_in hB0 hV).cell (p:=⟨gl,lo,none⟩) hgl).trans cA,((below_in hB0 hV).cell (p:=⟨gl,lo+1,none⟩) hgl).trans cB,((below_in hB0 hV).cell (p:=⟨gs,1,none⟩) hgs).trans cF0,((below_in hB0 hV).cell (p:=⟨gs,3,none⟩) hgs).trans cF1⟩
 have HB0:=Lib.hid hB0
 have HW0:=Lib.hid (And.intro hw0 hg0)
 have j0:¬ ln=0:=by omega
 have j1:¬ ((ln:Int)≤1):=by omega
 have j2:¬ m=0:=by omega
 have j3:¬ ((m:Int)≤1):=by omega
 clear HK0 HK1 HU HT HS d hk0 hk1 ha hab hb hne h0 h1 hL hgl hgs cA cB cV0 cF0 cV1 cF1 hM0 hM1 hka hy0 hy1 gt0 gt1 g2 g3 hB0 b0 hw0 hg0
 refine (callsIn_wide (n:=9)).1 ?_
 refine callsIn_of_wp_marks Tryz.func80 rfl trivial ?_ rfl
 simp only [Tryz.ntmps80,List.size_toArray,List.length_cons,List.length_nil,Nat.reduceAdd,Nat.reduceSub,Array.replicate_succ,Array.replicate_zero,List.push_toArray,List.append_toArray,List.nil_append,List.cons_append]
 gi_wp2_with fail
 (try rw [HW0.out.2]);(try rw [HW0.out.1])
 have hBx:=Below.refl w0.heap.size w0
 have hd:Below w0.heap.size w0 w0.drew:=(Below.refl _ _).drew
 replace hBx:=below_in hBx hd
 clear hd
 have hS:=HSS.out _ hBx
 refine wpIn_mono (region_HF (Q:=NoPanic _) (S:=(fun U:World=>U.cell? ⟨g0,0,none⟩=some (.int .i64 (P:Int))∧U.cell? ⟨g0,1,none⟩=some (.slice (some ⟨gl,lo,none⟩) ln lc)∧U.cell? ⟨g0,2,none⟩=some (.slice (some ⟨gs,0,none⟩) m mc)∧U.cell? ⟨gl,lo,none⟩=some (.int .i64 a)∧U.cell? ⟨gl,lo+1,none⟩=some (.int .i64 b)∧U.cell? ⟨gs,1,none⟩=some (.func (.func f0) #[] #[])∧U.cell? ⟨gs,3,none⟩=some (.func (.func f1) #[] #[]))) (by kernel_rfl) ?_) NoPanic.imp
 refine tkF (i:=0) (d:=7) (v:=.pointer (some ⟨g0,1,none⟩)) (s:=hS) (c:=?_)
 simp only [ud9]
 refine tkF (i:=1) (d:=8) (v:=.slice (some ⟨gl,lo,none⟩) ln lc) (s:=hS) (c:=?_)
 simp only [ud9]
 refine tkF (i:=2) (d:=9) (v:=.pointer (some ⟨gl,lo+1,none⟩)) (s:=hS) (c:=?_)
 simp only [ud9]
 refine tkF (i:=3) (d:=10) (v:=.int .i64 b) (s:=hS) (c:=?_)
 simp only [ud9]
 refine tkF (i:=4) (d:=11) (v:=.pointer (some ⟨g0,1,none⟩)) (s:=hS) (c:=?_)
 simp only [ud9]
 refine tkF (i:=5) (d:=12) (v:=.slice (some ⟨gl,lo,none⟩) ln lc) (s:=hS) (c:=?_)
 simp only [ud9]
 refine tkF (i:=6) (d:=13) (v:=.pointer (some ⟨gl,lo,none⟩)) (s:=hS) (c:=?_)
 simp only [ud9]
 refine tkF (i:=7) (d:=14) (v:=.int .i64 a) (s:=hS) (c:=?_)
 simp only [ud9]
 refine tkF (i:=8) (d:=15) (v:=.int .i64 z) (s:=hS) (c:=?_)
 simp only [ud9]
 refine oneF (i:=9) (c:=?_)
 gi_wp2
 refine anyHF_done (by kernel_rfl) ?_ _
 refine NoPanic.normal ?_
 clear hS
 gi_wp2_with fail
 have hd:Below w0.drew.heap.size w0.drew w0.drew.drew:=(Below.refl _ _).drew
 replace hBx:=below_in hBx hd
 clear hd
 have hS:=HSS.out _ hBx
 refine wpIn_mono (region_HF (Q:=NoPanic _) (S:=(fun U:World=>U.cell? ⟨g0,0,none⟩=some (.int .i64 (P:Int))∧U.cell? ⟨g0,1,none⟩=some (.slice (some ⟨gl,lo,none⟩) ln lc)∧U.cell? ⟨g0,2,none⟩=some (.slice (some ⟨gs,0,none⟩) m mc)∧U.cell? ⟨gl,lo,none⟩=some (.int .i64 a)∧U.cell? ⟨gl,lo+1,none⟩=some (.int .i64 b)∧U.cell? ⟨gs,1,none⟩=some (.func (.func f0) #[] #[])∧U.cell? ⟨gs,3,none⟩=some (.func (.func f1) #[] #[]))) (by kernel_rfl) ?_) NoPanic.imp
 refine tkF (i:=0) (d:=16) (v:=.pointer (some ⟨g0,2,none⟩)) (s:=hS) (c:=?_)
 simp only [ud9]
 refine tkF (i:=1) (d:=17) (v:=.slice (some ⟨gs,0,none⟩) m mc) (s:=hS) (c:=?_)
 simp only [ud9]
 refine tkF (i:=2) (d:=18) (v:=.pointer (some ⟨gs,0,none⟩)) (s:=hS) (c:=?_)
 simp only [ud9]
 refine tkF (i:=3) (d:=19) (v:=.pointer (some ⟨gs,1,none⟩)) (s:=hS) (c:=?_)
 simp only [ud9]
 refine tkF (i:=4) (d:=20) (v:=.func (.func f0) #[] #[]) (s:=hS) (c:=?_)
 simp only [ud9]
 refine tkF (i:=5) (d:=21) (v:=.int .i64 z) (s:=hS) (c:=?_)
 simp only [ud9]
 refine tkF (i:=7) (d:=23) (v:=.pointer (some ⟨g0,2,none⟩)) (s:=hS) (c:=?_)
 simp only [ud9]
 refine tkF (i:=8) (d:=24) (v:=.slice (some ⟨gs,0,none⟩) m mc) (s:=hS) (c:=?_)
 simp only [ud9]
 refine tkF (i:=9) (d:=25) (v:=.pointer (some ⟨gs,2,none⟩)) (s:=hS) (c:=?_)
 simp only [ud9]
 refine tkF (i:=10) (d:=26) (v:=.pointer (some ⟨gs,3,none⟩)) (s:=hS) (c:=?_)
 simp only [ud9]
 refine tkF (i:=11) (d:=27) (v:=.func (.func f1) #[] #[]) (s:=hS) (c:=?_)
 simp only [ud9]
 refine tkF (i:=12) (d:=28) (v:=.int .i64 z) (s:=hS) (c:=?_)
 simp only [ud9]
 refine oneF (i:=6) (c:=?_)
 gi_wp2_with fail
 refine ⟨trivial,(callsIn_wide.2 (HBY0.out _)).mono ?_⟩
 rintro e v1 ⟨rfl,rfl⟩
 gi_wp2
 try (refine ⟨hS,?_⟩)
 refine oneF (i:=13) (c:=?_)
 gi_wp2_with fail
 refine ⟨trivial,(callsIn_wide.2 (HBY1.out _)).mono ?_⟩
 rintro e v2 ⟨rfl,rfl⟩
 gi_wp2
 try (refine ⟨hS,?_⟩)
 refine oneF (i:=14) (c:=?_)
 gi_wp2
 refine oneF (i:=15) (c:=?_)
 gi_wp2
 refine anyHF_done (by kernel_rfl) ?_ _
 refine NoPanic.normal ?_
 clear hS
 gi_wp2_with fail
 have hd:Below w0.drew.drew.heap.size w0.drew.drew w0.drew.drew.drew:=(Below.refl _ _).drew
 replace hBx:=below_in hBx hd
 clear hd
 have hS:=HSS.out _ hBx
 refine wpIn_mono (region_HF (Q:=NoPanic _) (S:=(fun U:World=>U.cell? ⟨g0,0,none⟩=some (.int .i64 (P:Int))∧U.cell? ⟨g0,1,none⟩=some (.slice (some ⟨gl,lo,none⟩) ln lc)∧U.cell? ⟨g0,2,none⟩=some (.slice (some ⟨gs,0,none⟩) m mc)∧U.cell? ⟨gl,lo,none⟩=some (.int .i64 a)∧U.cell? ⟨gl,lo+1,none⟩=some (.int .i64 b)∧U.cell? ⟨gs,1,none⟩=some (.func (.func f0) #[] #[])∧U.cell? ⟨gs,3,none⟩=some (.func (.func f1) #[] #[]))) (by kernel_rfl) ?_) NoPanic.imp
 refine tkF (i:=0) (d:=30) (v:=.pointer (some ⟨g0,0,none⟩)) (s:=hS) (c:=?_)
 simp only [ud9]
 refine tkF (i:=1) (d:=31) (v:=.int .i64 (P:Int)) (s:=hS) (c:=?_)
 simp only [ud9]
 refine tkF (i:=2) (d:=32) (v:=.agg #[.int .i64 (P:Int),.slice (some ⟨gl,lo,none⟩) ln lc,.slice (some ⟨gs,0,none⟩) m mc]) (s:=hS) (c:=?_)
 simp only [ud9]
 refine tkF (i:=4) (d:=34) (v:=.agg #[.int .i64 (P:Int),.slice (some ⟨gl,lo,none⟩) ln lc,.slice (some ⟨gs,0,none⟩) m mc]) (s:=hS) (c:=?_)
 simp only [ud9]
 refine oneF (i:=3) (c:=?_)
 have hb0:=hBx.size
 gi_wp2_with fail
 refine ⟨trivial,(callsIn_wide.2 (HBK0.out _ hBx)).mono ?_⟩
 rintro e v3 ⟨A0,c0,rfl,M0,hB⟩
 replace M0:=M0.less hb0
 clear hb0
 replace hBx:=below_in hBx hB
 clear hS
 have hS:(fun U:World=>U.cell? ⟨g0,0,none⟩=some (.int .i64 (P:Int))∧U.cell? ⟨g0,1,none⟩=some (.slice (some ⟨gl,lo,none⟩) ln lc)∧U.cell? ⟨g0,2,none⟩=some (.slice (some ⟨gs,0,none⟩) m mc)∧U.cell? ⟨gl,lo,none⟩=some (.int .i64 a)∧U.cell? ⟨gl,lo+1,none⟩=some (.int .i64 b)∧U.cell? ⟨gs,1,none⟩=some (.func (.func f0) #[] #[])∧U.cell? ⟨gs,3,none⟩=some (.func (.func f1) #[] #[])) v3:=HSS.out _ hBx
 clear hB
 gi_wp2
 try (refine ⟨hS,?_⟩)
 refine oneF (i:=5) (c:=?_)
 have hb1:=hBx.size
 gi_wp2_with fail
 refine ⟨trivial,(callsIn_wide.2 (HBK1.out _ hBx)).mono ?_⟩
 rintro e v4 ⟨A1,c1,rfl,M1,hB⟩
 replace M1:=M1.less hb1
 clear hb1
 replace M0:=M0.below hB
 replace hBx:=below_in hBx hB
 clear hS
 have hS:(fun U:World=>U.cell? ⟨g0,0,none⟩=some (.int .i64 (P:Int))∧U.cell? ⟨g0,1,none⟩=some (.slice (some ⟨gl,lo,none⟩) ln lc)∧U.cell? ⟨g0,2,none⟩=some (.slice (some ⟨gs,0,none⟩) m mc)∧U.cell? ⟨gl,lo,none⟩=some (.int .i64 a)∧U.cell? ⟨gl,lo+1,none⟩=some (.int .i64 b)∧U.cell? ⟨gs,1,none⟩=some (.func (.func f0) #[] #[])∧U.cell? ⟨gs,3,none⟩=some (.func (.func f1) #[] #[])) v4:=HSS.out _ hBx
 clear hB
 gi_wp2
 try (refine ⟨hS,?_⟩)
 refine oneF (i:=6) (c:=?_)
 have hgl_g6:=hBx.size
 have hB:Below v4.heap.size v4 (v4.alloc (.cells #[.slice A0 Q c0,.slice A1 Q c1] 41)):=below_one v4 _
 have bE:Blk (v4.alloc (.cells #[.slice A0 Q c0,.slice A1 Q c1] 41)) v4.heap.size 41 #[.slice A0 Q c0,.slice A1 Q c1]:=Blk.new v4 _ _
 obtain ⟨v5,he_v5⟩:∃ x,(v4.alloc (.cells #[.slice A0 Q c0,.slice A1 Q c1] 41))=x:=⟨_,rfl⟩
 obtain ⟨g6,hg_g6⟩:∃ x,v4.heap.size=x:=⟨_,rfl⟩
 rw [he_v5] at hB bE
 rw [hg_g6] at bE
 replace M0:=M0.below hB
 replace M1:=M1.below hB
 replace hBx:=below_in hBx hB
 clear hS
 have hS:(fun U:World=>U.cell? ⟨g0,0,none⟩=some (.int .i64 (P:Int))∧U.cell? ⟨g0,1,none⟩=some (.slice (some ⟨gl,lo,none⟩) ln lc)∧U.cell? ⟨g0,2,none⟩=some (.slice (some ⟨gs,0,none⟩) m mc)∧U.cell? ⟨gl,lo,none⟩=some (.int .i64 a)∧U.cell? ⟨gl,lo+1,none⟩=some (.int .i64 b)∧U.cell? ⟨gs,1,none⟩=some (.func (.func f0) #[] #[])∧U.cell? ⟨gs,3,none⟩=some (.func (.func f1) #[] #[])) v5:=HSS.out _ hBx
 gi_wp2
 (try rw [hg_g6]);(try rw [he_v5])
 try (refine ⟨hS,?_⟩)
 clear hB he_v5 hg_g6
 refine oneF (i:=7) (c:=?_)
 have hb2:=hBx.size
 gi_wp2_with fail
 refine ⟨trivial,(callsIn_wide.2 (HUP.out _ hBx _ (cols_two bE M0.many M1.many bE.lt))).mono ?_⟩
 rintro e v7 ⟨A2,c2,rfl,M2,hB⟩
 replace M2:=M2.less hb2
 clear hb2
 replace bE:=bE.below hB bE.lt
 replace M0:=M0.below hB
 replace M1:=M1.below hB
 replace hBx:=below_in hBx hB
 clear hS
 have hS:(fun U:World=>U.cell? ⟨g0,0,none⟩=some (.int .i64 (P:Int))∧U.cell? ⟨g0,1,none⟩=some (.slice (some ⟨gl,lo,none⟩) ln lc)∧U.cell? ⟨g0,2,none⟩=some (.slice (some ⟨gs,0,none⟩) m mc)∧U.cell? ⟨gl,lo,none⟩=some (.int .i64 a)∧U.cell? ⟨gl,lo+1,none⟩=some (.int .i64 b)∧U.cell? ⟨gs,1,none⟩=some (.func (.func f0) #[] #[])∧U.cell? ⟨gs,3,none⟩=some (.func (.func f1) #[] #[])) v7:=HSS.out _ hBx
 clear hB
 gi_wp2
 try (refine ⟨hS,?_⟩)
 refine oneF (i:=8) (c:=?_)
 gi_wp2
 refine anyHF_done (by kernel_rfl) ?_ _
 refine NoPanic.normal ?_
 clear hS
 gi_wp2_with fail
 have hd:Below v7.heap.size v7 v7.drew:=(Below.refl _ _).drew
 replace M0:=M0.below hd
 replace M1:=M1.below hd
 replace bE:=bE.below hd bE.lt
 replace M2:=M2.below hd
 replace hBx:=below_in hBx hd
 clear hd
 have hS:(fun U:World=>U.cell? ⟨g0,0,none⟩=some (.int .i64 (P:Int))∧U.cell? ⟨g0,1,none⟩=some (.slice (some ⟨gl,lo,none⟩) ln lc)∧U.cell? ⟨g0,2,none⟩=some (.slice (some ⟨gs,0,none⟩) m mc)∧U.cell? ⟨gl,lo,none⟩=some (.int .i64 a)∧U.cell? ⟨gl,lo+1,none⟩=some (.int .i64 b)∧U.cell? ⟨gs,1,none⟩=some (.func (.func f0) #[] #[])∧U.cell? ⟨gs,3,none⟩=some (.func (.func f1) #[] #[])) v7.drew:=HSS.out _ hBx
 refine wpIn_mono (region_HF (Q:=NoPanic _) (S:=(fun U:World=>U.cell? ⟨g0,0,none⟩=some (.int .i64 (P:Int))∧U.cell? ⟨g0,1,none⟩=some (.slice (some ⟨gl,lo,none⟩) ln lc)∧U.cell? ⟨g0,2,none⟩=some (.slice (some ⟨gs,0,none⟩) m mc)∧U.cell? ⟨gl,lo,none⟩=some (.int .i64 a)∧U.cell? ⟨gl,lo+1,none⟩=some (.int .i64 b)∧U.cell? ⟨gs,1,none⟩=some (.func (.func f0) #[] #[])∧U.cell? ⟨gs,3,none⟩=some (.func (.func f1) #[] #[]))) (by kernel_rfl) ?_) NoPanic.imp
 refine tkF (i:=0) (d:=38) (v:=.pointer (some ⟨g0,0,none⟩)) (s:=hS) (c:=?_)
 simp only [ud9]
 refine tkF (i:=1) (d:=39) (v:=.int .i64 (P:Int)) (s:=hS) (c:=?_)
 simp only [ud9]
 refine tkF (i:=2) (d:=40) (v:=.pointer (some ⟨g0,0,none⟩)) (s:=hS) (c:=?_)
 simp only [ud9]
 refine tkF (i:=3) (d:=41) (v:=.int .i64 (P:Int)) (s:=hS) (c:=?_)
 simp only [ud9]
 refine tkF (i:=4) (d:=42) (v:=.slice A2 Q c2) (s:=hS) (c:=?_)
 simp only [ud9]
 refine tkF (i:=5) (d:=43) (v:=.int .i64 y0) (s:=hS) (c:=?_)
 simp only [ud9]
 refine tkF (i:=6) (d:=44) (v:=.int .i64 (-y0)) (s:=hS) (c:=?_)
 simp only [ud9]
 refine tkF (i:=8) (d:=46) (v:=.int .i64 y1) (s:=hS) (c:=?_)
 simp only [ud9]
 refine tkF (i:=9) (d:=47) (v:=.int .i64 y0) (s:=hS) (c:=?_)
 simp only [ud9]
 refine tkF (i:=10) (d:=48) (v:=.int .i64 e) (s:=hS) (c:=?_)
 simp only [ud9]
 refine oneF (i:=7) (c:=?_)
 have hb3:=hBx.size
 gi_wp2_with fail
 refine ⟨trivial,(callsIn_wide.2 (HTU.out _ hBx _ M2.many)).mono ?_⟩
 rintro e v8 ⟨A3,c3,rfl,M3,hB⟩
 replace M3:=M3.less hb3
 clear hb3
 replace bE:=bE.below hB bE.lt
 replace M0:=M0.below hB
 replace M1:=M1.below hB
 replace M2:=M2.below hB
 replace hBx:=below_in hBx hB
 clear hS
 have hS:(fun U:World=>U.cell? ⟨g0,0,none⟩=some (.int .i64 (P:Int))∧U.cell? ⟨g0,1,none⟩=some (.slice (some ⟨gl,lo,none⟩) ln lc)∧U.cell? ⟨g0,2,none⟩=some (.slice (some ⟨gs,0,none⟩) m mc)∧U.cell? ⟨gl,lo,none⟩=some (.int .i64 a)∧U.cell? ⟨gl,lo+1,none⟩=some (.int .i64 b)∧U.cell? ⟨gs,1,none⟩=some (.func (.func f0) #[] #[])∧U.cell? ⟨gs,3,none⟩=some (.func (.func f1) #[] #[])) v8:=HSS.out _ hBx
 clear hB
 gi_wp2
 try (refine ⟨hS,?_⟩)
 refine oneF (i:=11) (c:=?_)
 have hb4:=hBx.size
 gi_wp2_with fail
 refine ⟨trivial,(callsIn_wide.2 (HSL.out _ hBx _ M3.many)).mono ?_⟩
 rintro e v9 ⟨A4,c4,rfl,M4,hB⟩
 replace M4:=M4.less hb4
 clear hb4
 replace bE:=bE.below hB bE.lt
 replace M0:=M0.below hB
 replace M1:=M1.below hB
 replace M2:=M2.below hB
 replace M3:=M3.below hB
 replace hBx:=below_in hBx hB
 clear hS
 have hS:(fun U:World=>U.cell? ⟨g0,0,none⟩=some (.int .i64 (P:Int))∧U.cell? ⟨g0,1,none⟩=some (.slice (some ⟨gl,lo,none⟩) ln lc)∧U.cell? ⟨g0,2,none⟩=some (.slice (some ⟨gs,0,none⟩) m mc)∧U.cell? ⟨gl,lo,none⟩=some (.int .i64 a)∧U.cell? ⟨gl,lo+1,none⟩=some (.int .i64 b)∧U.cell? ⟨gs,1,none⟩=some (.func (.func f0) #[] #[])∧U.cell? ⟨gs,3,none⟩=some (.func (.func f1) #[] #[])) v9:=HSS.out _ hBx
 clear hB
 gi_wp2
 try (refine ⟨hS,?_⟩)
 refine oneF (i:=12) (c:=?_)
 gi_wp2
 refine anyHF_done (by kernel_rfl) ?_ _
 refine NoPanic.normal ?_
 clear hS
 gi_wp2_with fail
 exact ⟨.slice A4 Q c4,by simp [results,Tryz.results80,go_sem],A4,c4,rfl,M4.less HB0.out.size,below_in HB0.out hBx⟩
end Go.Proofs.YtkllhjhkcipkoaaGreatDoor.Tr
