/- -/
import Derived.Test.YtkllhjhkcipkoaaGreatDoorTHG16
import Derived.Test.YtkllhjhkcipkoaaGreatDoorTHG18
set_option linter.unusedVariables false
set_option linter.unusedSimpArgs false
set_option maxRecDepth 100000
set_option maxHeartbeats 8000000
namespace Go.Proofs.YtkllhjhkcipkoaaGreatDoor.Tr
open Go.RowKit Go.Shelf Go.Maps Go.Proofs.YtkllhjhkcipkoaaGreatDoor.C Go.Proofs.YtkllhjhkcipkoaaGreatDoor.E Go.Proofs.YtkllhjhkcipkoaaGreatDoor.T Go.Proofs.YtkllhjhkcipkoaaGreatDoor.Rg
attribute [local go_sem] Oper.semAt_some

theorem cell_far {W:World} {g o:Nat} {p:Addr} {u v:Value} (h:W.cell? ⟨g,o,none⟩=some v) (hne:g≠p.block):(W.setCell p u).cell? ⟨g,o,none⟩=some v:=(World.cell?_of_block (Below.heap_setCell W p u g hne)).trans h
theorem without3_any {P Q n:Nat} (d:Dims P Q n) (x:Int) (hx0:0≤x) (hx1:x≤100) (gl lc gs mc:Nat) (hlc:3≤lc) (hmc:3≤mc) (k0:Int) (hk0:k0=0∨k0=1∨k0 = -1) (A0:Option Addr) (c0:Nat) (s0:List (List UInt8)) (h0:GoodC Q n s0) (k1:Int) (hk1:k1=0∨k1=1∨k1 = -1) (A1:Option Addr) (c1:Nat) (s1:List (List UInt8)) (h1:GoodC Q n s1) (Av:Option Addr) (cv:Nat) (kn:List (List UInt8)) (hkn:GoodC Q n kn) (w:World) (hL:Laid w) (hgl:gl<w.heap.size) (hgs:gs<w.heap.size) (cX:w.cell? ⟨gl,2,none⟩=some (.int .i64 x)) (cV0:w.cell? ⟨gs,0,none⟩=some (.slice A0 Q c0)) (cF0:w.cell? ⟨gs,1,none⟩=some (byK k0)) (hM0:Many w.heap.size w (.slice A0 Q c0) s0) (cV1:w.cell? ⟨gs,2,none⟩=some (.slice A1 Q c1)) (cF1:w.cell? ⟨gs,3,none⟩=some (byK k1)) (hM1:Many w.heap.size w (.slice A1 Q c1) s1) (hMv:Many w.heap.size w (.slice Av Q cv) kn) :
 Calls Tryz.prog 79 #[.agg #[.int .i64 (P:Int),.slice (some ⟨gl,0,none⟩) 3 lc,.slice (some ⟨gs,0,none⟩) 3 mc],.slice Av Q cv] w fun e w'=>∃ gO B0 e0 B1 e1,e = .returned (.agg #[.int .i64 (P:Int),.slice (some ⟨gl,0,none⟩) 2 lc,.slice (some ⟨gO,0,none⟩) 2 2])∧w.heap.size≤gO∧Blk w' gO 94 #[.slice B0 Q e0,byK k0,.slice B1 Q e1,byK k1]∧FreshMany w.heap.size w' (.slice B0 Q e0) (sumC Q [s0,turnC P Q n kn (k0 * x)])∧FreshMany w.heap.size w' (.slice B1 Q e1) (sumC Q [s1,turnC P Q n kn (k1 * x)])∧Below w.heap.size w w':=by
 have HBY0:=Lib.hid (fun V=>by_any k0 hk0 x (by omega) (by omega) V)
 have hen0:=enter_by k0
 have hy0:-100≤k0 * x∧k0 * x≤100:=by rcases hk0 with rfl | rfl | rfl <;> omega
 have gt0:=turn_good (P:=P) d.h1 d.h64 hkn (k0 * x)
 have HT0:=fun (V:World) (hV:Below w.heap.size w V)=>turned_any d (k0 * x) (by omega) (by omega) kn hkn (.slice Av Q cv) V (hL.next hV) ((hMv.below hV).more hV.size)
 have HU0:=fun (V:World) (hV:Below w.heap.size w V) (v:Value) hC=>upon_any d [s0,turnC P Q n kn (k0 * x)] (by simp) (by simp) (two_all h0 gt0) v V (hL.next hV) hC
 have HM0:=fun (V:World) (hV:Below w.heap.size w V)=>(hM0.below hV).more hV.size
 have HBY1:=Lib.hid (fun V=>by_any k1 hk1 x (by omega) (by omega) V)
 have hen1:=enter_by k1
 have hy1:-100≤k1 * x∧k1 * x≤100:=by rcases hk1 with rfl | rfl | rfl <;> omega
 have gt1:=turn_good (P:=P) d.h1 d.h64 hkn (k1 * x)
 have HT1:=fun (V:World) (hV:Below w.heap.size w V)=>turned_any d (k1 * x) (by omega) (by omega) kn hkn (.slice Av Q cv) V (hL.next hV) ((hMv.below hV).more hV.size)
 have HU1:=fun (V:World) (hV:Below w.heap.size w V) (v:Value) hC=>upon_any d [s1,turnC P Q n kn (k1 * x)] (by simp) (by simp) (two_all h1 gt1) v V (hL.next hV) hC
 have HM1:=fun (V:World) (hV:Below w.heap.size w V)=>(hM1.below hV).more hV.size
 unfold byK at cF0 cF1 ⊢
 generalize sumC Q [s0,turnC P Q n kn (k0 * x)]=R0 at *
 generalize turnC P Q n kn (k0 * x)=T0 at *
 generalize k0 * x=y0 at *
 generalize sumC Q [s1,turnC P Q n kn (k1 * x)]=R1 at *
 generalize turnC P Q n kn (k1 * x)=T1 at *
 generalize k1 * x=y1 at *
 generalize fnK k0=f0 at *
 generalize fnK k1=f1 at *
 have HW:=Lib.hid (And.intro hgl (And.intro hgs cX))
 have HBY:=Lib.hid (hL)
 obtain ⟨w0,hw0⟩:∃ x,(w.alloc (.cells #[.int .i64 (P:Int),.slice (some ⟨gl,0,none⟩) 3 lc,.slice (some ⟨gs,0,none⟩) 3 mc] 103)).alloc (.cells #[.int .i64 0,.slice none 0 0,.slice none 0 0] 103)=x:=⟨_,rfl⟩
 obtain ⟨g0,hg0⟩:∃ x,w.heap.size=x:=⟨_,rfl⟩
 obtain ⟨g1,hg1⟩:∃ x,g0+1=x:=⟨_,rfl⟩
 have b0:Blk w0 g0 103 #[.int .i64 (P:Int),.slice (some ⟨gl,0,none⟩) 3 lc,.slice (some ⟨gs,0,none⟩) 3 mc]:=by rw [←hw0,←hg0];exact (Blk.new w _ _).alloc _
 have b1:Blk w0 g1 103 #[.int .i64 0,.slice none 0 0,.slice none 0 0]:=by rw [←hw0,←hg1,←hg0];exact Blk.second w _ _ _
 have hB0:Below w.heap.size w w0:=by rw [←hw0];exact below_two w _ _
 have HB0:=Lib.hid hB0
 have HW0:=Lib.hid (And.intro hw0 (And.intro hg0 hg1))
 obtain ⟨w2,hw2⟩:∃ x,w0.alloc (.cells #[.slice none 0 0,.nilFunc,.slice none 0 0,.nilFunc] 94)=x:=⟨_,rfl⟩
 obtain ⟨gO,hgO⟩:∃ x,w0.heap.size=x:=⟨_,rfl⟩
 have bO:Blk w2 gO 94 #[.slice none 0 0,.nilFunc,.slice none 0 0,.nilFunc]:=by rw [←hw2,←hgO];exact Blk.new w0 _ _
 have hB2:Below w.heap.size w w2:=by rw [←hw2];exact hB0.alloc hB0.size _
 have hgg:g1+1=gO:=by rw [←hgO,←hw0,←hg1,←hg0];simp
 have HW2:=Lib.hid (And.intro hw2 (And.intro hgO hgg))
 have HO:=Lib.hid (show w.heap.size≤gO∧g0<gO∧g1<gO∧w.heap.size=g0∧g0+1=g1∧gl<w.heap.size from ⟨by rw [←hgO];exact hB0.size,by rw [←hgO];exact b0.lt,by rw [←hgO];exact b1.lt,hg0,hg1,hgl⟩)
 have k0_:=b0.cell 0
 have k1_:=b0.cell 1
 have k2_:=b0.cell 2
 have q0_:=(b0.alloc (.cells #[.slice none 0 0,.nilFunc,.slice none 0 0,.nilFunc] 94)).cell 0
 have q1_:=(b0.alloc (.cells #[.slice none 0 0,.nilFunc,.slice none 0 0,.nilFunc] 94)).cell 1
 have q2_:=(b0.alloc (.cells #[.slice none 0 0,.nilFunc,.slice none 0 0,.nilFunc] 94)).cell 2
 simp only [gz9] at k0_ k1_ k2_ q0_ q1_ q2_
 have b02:Blk w2 g0 103 #[.int .i64 (P:Int),.slice (some ⟨gl,0,none⟩) 3 lc,.slice (some ⟨gs,0,none⟩) 3 mc]:=by rw [←hw2];exact b0.alloc _
 have b12:Blk w2 g1 103 #[.int .i64 0,.slice none 0 0,.slice none 0 0]:=by rw [←hw2];exact b1.alloc _
 have j1:2≤mc:=by omega
 have j2:2≤lc:=by omega
 have j3:¬ ((lc:Int)<2):=by omega
 have HTU0:=Lib.hid HT0
 have HUP0:=Lib.hid HU0
 have HMV0:=Lib.hid HM0
 have HCS0:=Lib.hid (And.intro cV0 cF0)
 have HTU1:=Lib.hid HT1
 have HUP1:=Lib.hid HU1
 have HMV1:=Lib.hid HM1
 have HCS1:=Lib.hid (And.intro cV1 cF1)
 clear hk0 h0 hgl hgs cX hL hB0 hw0 hg0 hg1 hw2 hgO hgg d hx0 hx1 hkn hMv b0 b1 HT0 HU0 HM0 gt0 hy0 hM0 hlc hmc hk1 h1 HT1 HU1 HM1 gt1 hy1 hM1 cV0 cF0 cV1 cF1
 have hmk:=mkS2
 refine (callsIn_wide (n:=9)).1 ?_
 refine callsIn_of_wp_marks Tryz.func79 rfl trivial ?_ rfl
 simp only [Tryz.ntmps79,List.size_toArray,List.length_cons,List.length_nil,Nat.reduceAdd,Nat.reduceSub,Array.replicate_succ,Array.replicate_zero,List.push_toArray,List.append_toArray,List.nil_append,List.cons_append]
 gi_wp2_with fail
 (try rw [HW0.out.2.1]);(try rw [HW0.out.2.2]);(try rw [HW0.out.1]);(try rw [HW2.out.2.2]);(try rw [HW2.out.2.1]);(try rw [HW2.out.1])
 clear k0_ k1_ k2_ q0_ q1_ q2_ hmk
 have hBW:=hB2
 clear hB2
 have hO2:gO<w2.heap.size:=bO.lt
 refine wpIn_loop_rounds 3 ?_
 have cSa:=(hBW.cell (p:=⟨gs,0,none⟩) HW.out.2.1).trans HCS0.out.1
 have cSb:=(hBW.cell (p:=⟨gs,1,none⟩) HW.out.2.1).trans HCS0.out.2
 have b80:Blk (w2.alloc (.cells #[.slice A0 Q c0,.func (.func f0) #[] #[]] 94)) w2.heap.size 94 #[.slice A0 Q c0,.func (.func f0) #[] #[]]:=Blk.new w2 _ _
 have hBa:=below_one w2 (.cells #[.slice A0 Q c0,.func (.func f0) #[] #[]] 94)
 rw [roundsIn_succ]
 gi_wp2_with fail
 clear cSa cSb
 obtain ⟨Wb0,hWb⟩:∃ x,w2.alloc (.cells #[.slice A0 Q c0,.func (.func f0) #[] #[]] 94)=x:=⟨_,rfl⟩
 obtain ⟨g80,hg8⟩:∃ x,w2.heap.size=x:=⟨_,rfl⟩
 rw [hWb] at b80 hBa
 rw [hg8] at b80
 have hne0:gO<g80:=by have:=bO.lt;omega
 have hsW0:w2.heap.size≤Wb0.heap.size:=hBa.size
 replace b02:=b02.below hBa b02.lt
 replace b12:=b12.below hBa b12.lt
 replace bO:=bO.below hBa bO.lt
 replace hBW:=below_in hBW hBa
 (try rw [hg8]);(try rw [hWb])
 clear hWb hg8 hBa
 have HSS:Hid (∀ V,Below Wb0.heap.size Wb0 V→(fun U:World=>U.cell? ⟨g0,0,none⟩=some (.int .i64 (P:Int))∧U.cell? ⟨g0,1,none⟩=some (.slice (some ⟨gl,0,none⟩) 3 lc)∧U.cell? ⟨g0,2,none⟩=some (.slice (some ⟨gs,0,none⟩) 3 mc)∧U.cell? ⟨gl,2,none⟩=some (.int .i64 x)∧U.cell? ⟨g80,0,none⟩=some (.slice A0 Q c0)∧U.cell? ⟨g80,1,none⟩=some (.func (.func f0) #[] #[])) V):=fun V hV=>⟨(b02.below hV b02.lt).cell 0,(b02.below hV b02.lt).cell 1,(b02.below hV b02.lt).cell 2,((below_in hBW hV).cell (p:=⟨gl,2,none⟩) HW.out.1).trans HW.out.2.2,(b80.below hV b80.lt).cell 0,(b80.below hV b80.lt).cell 1⟩
 have hBx:=Below.refl Wb0.heap.size Wb0
 have hd:Below Wb0.heap.size Wb0 Wb0.drew:=(Below.refl _ _).drew
 replace b02:=b02.below hd b02.lt
 replace b12:=b12.below hd b12.lt
 replace bO:=bO.below hd bO.lt
 replace hBx:=below_in hBx hd
 clear hd
 have hS:(fun U:World=>U.cell? ⟨g0,0,none⟩=some (.int .i64 (P:Int))∧U.cell? ⟨g0,1,none⟩=some (.slice (some ⟨gl,0,none⟩) 3 lc)∧U.cell? ⟨g0,2,none⟩=some (.slice (some ⟨gs,0,none⟩) 3 mc)∧U.cell? ⟨gl,2,none⟩=some (.int .i64 x)∧U.cell? ⟨g80,0,none⟩=some (.slice A0 Q c0)∧U.cell? ⟨g80,1,none⟩=some (.func (.func f0) #[] #[])) Wb0.drew:=HSS.out _ hBx
 refine wpIn_mono (region_HF (Q:=NoPanic _) (S:=(fun U:World=>U.cell? ⟨g0,0,none⟩=some (.int .i64 (P:Int))∧U.cell? ⟨g0,1,none⟩=some (.slice (some ⟨gl,0,none⟩) 3 lc)∧U.cell? ⟨g0,2,none⟩=some (.slice (some ⟨gs,0,none⟩) 3 mc)∧U.cell? ⟨gl,2,none⟩=some (.int .i64 x)∧U.cell? ⟨g80,0,none⟩=some (.slice A0 Q c0)∧U.cell? ⟨g80,1,none⟩=some (.func (.func f0) #[] #[]))) (by kernel_rfl) ?_) NoPanic.imp
 refine tkF (i:=0) (d:=25) (v:=.slice (some ⟨gO,0,none⟩) 2 2) (s:=hS) (c:=?_)
 simp only [ud9]
 refine tkF (i:=1) (d:=26) (v:=.int .i64 0) (s:=hS) (c:=?_)
 simp only [ud9]
 refine tkF (i:=2) (d:=27) (v:=.pointer (some ⟨g0,0,none⟩)) (s:=hS) (c:=?_)
 simp only [ud9]
 refine tkF (i:=3) (d:=28) (v:=.int .i64 (P:Int)) (s:=hS) (c:=?_)
 simp only [ud9]
 refine tkF (i:=4) (d:=29) (v:=.pointer (some ⟨g80,0,none⟩)) (s:=hS) (c:=?_)
 simp only [ud9]
 refine tkF (i:=5) (d:=30) (v:=.slice A0 Q c0) (s:=hS) (c:=?_)
 simp only [ud9]
 refine tkF (i:=6) (d:=31) (v:=.pointer (some ⟨g0,0,none⟩)) (s:=hS) (c:=?_)
 simp only [ud9]
 refine tkF (i:=7) (d:=32) (v:=.int .i64 (P:Int)) (s:=hS) (c:=?_)
 simp only [ud9]
 refine tkF (i:=8) (d:=33) (v:=.slice Av Q cv) (s:=hS) (c:=?_)
 simp only [ud9]
 refine tkF (i:=9) (d:=34) (v:=.pointer (some ⟨g80,1,none⟩)) (s:=hS) (c:=?_)
 simp only [ud9]
 refine tkF (i:=10) (d:=35) (v:=.func (.func f0) #[] #[]) (s:=hS) (c:=?_)
 simp only [ud9]
 refine tkF (i:=11) (d:=36) (v:=.pointer (some ⟨g0,1,none⟩)) (s:=hS) (c:=?_)
 simp only [ud9]
 refine tkF (i:=12) (d:=37) (v:=.slice (some ⟨gl,0,none⟩) 3 lc) (s:=hS) (c:=?_)
 simp only [ud9]
 refine tkF (i:=13) (d:=38) (v:=.int .i64 2) (s:=hS) (c:=?_)
 simp only [ud9]
 refine tkF (i:=14) (d:=39) (v:=.pointer (some ⟨gl,2,none⟩)) (s:=hS) (c:=?_)
 simp only [ud9]
 refine tkF (i:=15) (d:=40) (v:=.int .i64 x) (s:=hS) (c:=?_)
 simp only [ud9]
 refine tkF (i:=20) (d:=45) (v:=.pointer (some ⟨g80,1,none⟩)) (s:=hS) (c:=?_)
 simp only [ud9]
 refine tkF (i:=21) (d:=46) (v:=.func (.func f0) #[] #[]) (s:=hS) (c:=?_)
 simp only [ud9]
 refine oneF (i:=16) (c:=?_)
 gi_wp2_with fail
 refine ⟨trivial,(callsIn_wide.2 (HBY0.out _)).mono ?_⟩
 rintro e v1 ⟨rfl,rfl⟩
 gi_wp2
 try (refine ⟨hS,?_⟩)
 refine oneF (i:=17) (c:=?_)
 have hb03:=hBx.size
 gi_wp2_with fail
 refine ⟨trivial,(callsIn_wide.2 (HTU0.out _ (below_in hBW hBx))).mono ?_⟩
 rintro e v2 ⟨A03,c03,rfl,M03,hB⟩
 replace M03:=M03.less hb03
 clear hb03
 replace b02:=b02.below hB b02.lt
 replace b12:=b12.below hB b12.lt
 replace bO:=bO.below hB bO.lt
 replace hBx:=below_in hBx hB
 clear hS
 have hS:(fun U:World=>U.cell? ⟨g0,0,none⟩=some (.int .i64 (P:Int))∧U.cell? ⟨g0,1,none⟩=some (.slice (some ⟨gl,0,none⟩) 3 lc)∧U.cell? ⟨g0,2,none⟩=some (.slice (some ⟨gs,0,none⟩) 3 mc)∧U.cell? ⟨gl,2,none⟩=some (.int .i64 x)∧U.cell? ⟨g80,0,none⟩=some (.slice A0 Q c0)∧U.cell? ⟨g80,1,none⟩=some (.func (.func f0) #[] #[])) v2:=HSS.out _ hBx
 clear hB
 gi_wp2
 try (refine ⟨hS,?_⟩)
 refine oneF (i:=18) (c:=?_)
 have hgege0:=hBx.size
 have hB:Below v2.heap.size v2 (v2.alloc (.cells #[.slice A0 Q c0,.slice A03 Q c03] 41)):=below_one v2 _
 have bE0:Blk (v2.alloc (.cells #[.slice A0 Q c0,.slice A03 Q c03] 41)) v2.heap.size 41 #[.slice A0 Q c0,.slice A03 Q c03]:=Blk.new v2 _ _
 obtain ⟨a3,he⟩:∃ x,(v2.alloc (.cells #[.slice A0 Q c0,.slice A03 Q c03] 41))=x:=⟨_,rfl⟩
 obtain ⟨ge0,hg⟩:∃ x,v2.heap.size=x:=⟨_,rfl⟩
 rw [he] at hB bE0
 rw [hg] at bE0 hgege0
 replace b02:=b02.below hB b02.lt
 replace b12:=b12.below hB b12.lt
 replace bO:=bO.below hB bO.lt
 replace M03:=M03.below hB
 replace hBx:=below_in hBx hB
 clear hS
 have hS:(fun U:World=>U.cell? ⟨g0,0,none⟩=some (.int .i64 (P:Int))∧U.cell? ⟨g0,1,none⟩=some (.slice (some ⟨gl,0,none⟩) 3 lc)∧U.cell? ⟨g0,2,none⟩=some (.slice (some ⟨gs,0,none⟩) 3 mc)∧U.cell? ⟨gl,2,none⟩=some (.int .i64 x)∧U.cell? ⟨g80,0,none⟩=some (.slice A0 Q c0)∧U.cell? ⟨g80,1,none⟩=some (.func (.func f0) #[] #[])) a3:=HSS.out _ hBx
 gi_wp2
 (try rw [hg]);(try rw [he])
 try (refine ⟨hS,?_⟩)
 clear hB he hg
 refine oneF (i:=19) (c:=?_)
 have hb05:=hBx.size
 gi_wp2_with fail
 refine ⟨trivial,(callsIn_wide.2 (HUP0.out _ (below_in hBW hBx) _ (cols_two bE0 (HMV0.out _ (below_in hBW hBx)) M03.many bE0.lt))).mono ?_⟩
 rintro e v4 ⟨A05,c05,rfl,M05,hB⟩
 replace M05:=M05.less hb05
 clear hb05
 replace b02:=b02.below hB b02.lt
 replace b12:=b12.below hB b12.lt
 replace bO:=bO.below hB bO.lt
 replace bE0:=bE0.below hB bE0.lt
 replace M03:=M03.below hB
 replace hBx:=below_in hBx hB
 clear hS
 have hS:(fun U:World=>U.cell? ⟨g0,0,none⟩=some (.int .i64 (P:Int))∧U.cell? ⟨g0,1,none⟩=some (.slice (some ⟨gl,0,none⟩) 3 lc)∧U.cell? ⟨g0,2,none⟩=some (.slice (some ⟨gs,0,none⟩) 3 mc)∧U.cell? ⟨gl,2,none⟩=some (.int .i64 x)∧U.cell? ⟨g80,0,none⟩=some (.slice A0 Q c0)∧U.cell? ⟨g80,1,none⟩=some (.func (.func f0) #[] #[])) v4:=HSS.out _ hBx
 clear hB
 gi_wp2
 try (refine ⟨hS,?_⟩)
 refine tkF (i:=22) (d:=47) (v:=.agg #[.slice A05 Q c05,.func (.func f0) #[] #[]]) (s:=hS) (c:=?_)
 simp only [ud9]
 refine tkF (i:=23) (d:=48) (v:=.pointer (some ⟨gO,0,none⟩)) (s:=hS) (c:=?_)
 simp only [ud9]
 refine oneF (i:=24) (c:=?_)
 have kA:=bO.cell 0
 have kB:=bO.cell 1
 have fA:=bO.frozen 0
 have fB:=bO.frozen 1
 simp only [gz9] at kA kB
 have hoo:=HO.out
 have hbb:=hBx.size
 have hob:=bO.lt
 have hSB:(fun U:World=>U.cell? ⟨g0,0,none⟩=some (.int .i64 (P:Int))∧U.cell? ⟨g0,1,none⟩=some (.slice (some ⟨gl,0,none⟩) 3 lc)∧U.cell? ⟨g0,2,none⟩=some (.slice (some ⟨gs,0,none⟩) 3 mc)∧U.cell? ⟨gl,2,none⟩=some (.int .i64 x)∧U.cell? ⟨g80,0,none⟩=some (.slice A0 Q c0)∧U.cell? ⟨g80,1,none⟩=some (.func (.func f0) #[] #[])) ((v4.setCell ⟨gO,0,none⟩ (.slice A05 Q c05)).setCell ⟨gO,1,none⟩ (.func (.func f0) #[] #[])):=by
  obtain ⟨h0,h1,h2,h3,h4,h5⟩:=hS
  exact ⟨cell_far (cell_far h0 (by show g0≠gO;omega)) (by show g0≠gO;omega),cell_far (cell_far h1 (by show g0≠gO;omega)) (by show g0≠gO;omega),cell_far (cell_far h2 (by show g0≠gO;omega)) (by show g0≠gO;omega),cell_far (cell_far h3 (by show gl≠gO;omega)) (by show gl≠gO;omega),cell_far (cell_far h4 (by show g80≠gO;omega)) (by show g80≠gO;omega),cell_far (cell_far h5 (by show g80≠gO;omega)) (by show g80≠gO;omega)⟩
 have bOZ:Blk ((v4.setCell ⟨gO,0,none⟩ (.slice A05 Q c05)).setCell ⟨gO,1,none⟩ (.func (.func f0) #[] #[])) gO 94 #[.slice A05 Q c05,.func (.func f0) #[] #[],.slice none 0 0,.nilFunc]:=(bO.set_ 0 _).set_ 1 _
 replace b02:Blk ((v4.setCell ⟨gO,0,none⟩ (.slice A05 Q c05)).setCell ⟨gO,1,none⟩ (.func (.func f0) #[] #[])) g0 _ _:=Blk.far (Blk.far b02 (by show g0≠gO;omega) _) (by show g0≠gO;omega) _
 replace b12:Blk ((v4.setCell ⟨gO,0,none⟩ (.slice A05 Q c05)).setCell ⟨gO,1,none⟩ (.func (.func f0) #[] #[])) g1 _ _:=Blk.far (Blk.far b12 (by show g1≠gO;omega) _) (by show g1≠gO;omega) _
 replace M05:FreshMany w2.heap.size ((v4.setCell ⟨gO,0,none⟩ (.slice A05 Q c05)).setCell ⟨gO,1,none⟩ (.func (.func f0) #[] #[])) _ _:=(FreshMany.set_ (p:=⟨gO,0,none⟩) (M05.less (by omega)) hO2 (.slice A05 Q c05)).set_ (p:=⟨gO,1,none⟩) hO2 (.func (.func f0) #[] #[])
 replace hBW:Below w.heap.size w ((v4.setCell ⟨gO,0,none⟩ (.slice A05 Q c05)).setCell ⟨gO,1,none⟩ (.func (.func f0) #[] #[])):=((below_in hBW hBx).setCell (p:=⟨gO,0,none⟩) (by show w.heap.size≤gO;omega) (.slice A05 Q c05)).setCell (p:=⟨gO,1,none⟩) (by show w.heap.size≤gO;omega) (.func (.func f0) #[] #[])
 have hWs0:w2.heap.size≤((v4.setCell ⟨gO,0,none⟩ (.slice A05 Q c05)).setCell ⟨gO,1,none⟩ (.func (.func f0) #[] #[])).heap.size:=by simp only [World.size_setCell];omega
 obtain ⟨wn0,he⟩:∃ z,((v4.setCell ⟨gO,0,none⟩ (.slice A05 Q c05)).setCell ⟨gO,1,none⟩ (.func (.func f0) #[] #[]))=z:=⟨_,rfl⟩
 rw [he] at hSB bOZ b02 b12 hBW hWs0 M05
 clear bO
 have bO:=bOZ
 clear bOZ hoo hbb hob
 gi_wp2
 (try rw [he])
 clear hS
 have hS:=hSB
 try (refine ⟨hS,?_⟩)
 clear he kA kB fA fB hSB
 refine anyHF_done (by kernel_rfl) ?_ _
 refine NoPanic.normal ?_
 clear hS HSS hBx
 gi_wp2_with fail
 clear bE0 M03 b80
 have cSa:=(hBW.cell (p:=⟨gs,2,none⟩) HW.out.2.1).trans HCS1.out.1
 have cSb:=(hBW.cell (p:=⟨gs,3,none⟩) HW.out.2.1).trans HCS1.out.2
 have b81:Blk (wn0.alloc (.cells #[.slice A1 Q c1,.func (.func f1) #[] #[]] 94)) wn0.heap.size 94 #[.slice A1 Q c1,.func (.func f1) #[] #[]]:=Blk.new wn0 _ _
 have hBa:=below_one wn0 (.cells #[.slice A1 Q c1,.func (.func f1) #[] #[]] 94)
 rw [roundsIn_succ]
 gi_wp2_with fail
 clear cSa cSb
 obtain ⟨Wb1,hWb⟩:∃ x,wn0.alloc (.cells #[.slice A1 Q c1,.func (.func f1) #[] #[]] 94)=x:=⟨_,rfl⟩
 obtain ⟨g81,hg8⟩:∃ x,wn0.heap.size=x:=⟨_,rfl⟩
 rw [hWb] at b81 hBa
 rw [hg8] at b81
 have hne1:gO<g81:=by have:=bO.lt;omega
 have hsW1:w2.heap.size≤Wb1.heap.size:=Nat.le_trans hWs0 hBa.size
 replace b02:=b02.below hBa b02.lt
 replace b12:=b12.below hBa b12.lt
 replace bO:=bO.below hBa bO.lt
 replace M05:=M05.below hBa
 replace hBW:=below_in hBW hBa
 (try rw [hg8]);(try rw [hWb])
 clear hWb hg8 hBa
 have HSS:Hid (∀ V,Below Wb1.heap.size Wb1 V→(fun U:World=>U.cell? ⟨g0,0,none⟩=some (.int .i64 (P:Int))∧U.cell? ⟨g0,1,none⟩=some (.slice (some ⟨gl,0,none⟩) 3 lc)∧U.cell? ⟨g0,2,none⟩=some (.slice (some ⟨gs,0,none⟩) 3 mc)∧U.cell? ⟨gl,2,none⟩=some (.int .i64 x)∧U.cell? ⟨g81,0,none⟩=some (.slice A1 Q c1)∧U.cell? ⟨g81,1,none⟩=some (.func (.func f1) #[] #[])) V):=fun V hV=>⟨(b02.below hV b02.lt).cell 0,(b02.below hV b02.lt).cell 1,(b02.below hV b02.lt).cell 2,((below_in hBW hV).cell (p:=⟨gl,2,none⟩) HW.out.1).trans HW.out.2.2,(b81.below hV b81.lt).cell 0,(b81.below hV b81.lt).cell 1⟩
 have hBx:=Below.refl Wb1.heap.size Wb1
 have hd:Below Wb1.heap.size Wb1 Wb1.drew:=(Below.refl _ _).drew
 replace b02:=b02.below hd b02.lt
 replace b12:=b12.below hd b12.lt
 replace bO:=bO.below hd bO.lt
 replace M05:=M05.below hd
 replace hBx:=below_in hBx hd
 clear hd
 have hS:(fun U:World=>U.cell? ⟨g0,0,none⟩=some (.int .i64 (P:Int))∧U.cell? ⟨g0,1,none⟩=some (.slice (some ⟨gl,0,none⟩) 3 lc)∧U.cell? ⟨g0,2,none⟩=some (.slice (some ⟨gs,0,none⟩) 3 mc)∧U.cell? ⟨gl,2,none⟩=some (.int .i64 x)∧U.cell? ⟨g81,0,none⟩=some (.slice A1 Q c1)∧U.cell? ⟨g81,1,none⟩=some (.func (.func f1) #[] #[])) Wb1.drew:=HSS.out _ hBx
 refine wpIn_mono (region_HF (Q:=NoPanic _) (S:=(fun U:World=>U.cell? ⟨g0,0,none⟩=some (.int .i64 (P:Int))∧U.cell? ⟨g0,1,none⟩=some (.slice (some ⟨gl,0,none⟩) 3 lc)∧U.cell? ⟨g0,2,none⟩=some (.slice (some ⟨gs,0,none⟩) 3 mc)∧U.cell? ⟨gl,2,none⟩=some (.int .i64 x)∧U.cell? ⟨g81,0,none⟩=some (.slice A1 Q c1)∧U.cell? ⟨g81,1,none⟩=some (.func (.func f1) #[] #[]))) (by kernel_rfl) ?_) NoPanic.imp
 refine tkF (i:=0) (d:=25) (v:=.slice (some ⟨gO,0,none⟩) 2 2) (s:=hS) (c:=?_)
 simp only [ud9]
 refine tkF (i:=1) (d:=26) (v:=.int .i64 1) (s:=hS) (c:=?_)
 simp only [ud9]
 refine tkF (i:=2) (d:=27) (v:=.pointer (some ⟨g0,0,none⟩)) (s:=hS) (c:=?_)
 simp only [ud9]
 refine tkF (i:=3) (d:=28) (v:=.int .i64 (P:Int)) (s:=hS) (c:=?_)
 simp only [ud9]
 refine tkF (i:=4) (d:=29) (v:=.pointer (some ⟨g81,0,none⟩)) (s:=hS) (c:=?_)
 simp only [ud9]
 refine tkF (i:=5) (d:=30) (v:=.slice A1 Q c1) (s:=hS) (c:=?_)
 simp only [ud9]
 refine tkF (i:=6) (d:=31) (v:=.pointer (some ⟨g0,0,none⟩)) (s:=hS) (c:=?_)
 simp only [ud9]
 refine tkF (i:=7) (d:=32) (v:=.int .i64 (P:Int)) (s:=hS) (c:=?_)
 simp only [ud9]
 refine tkF (i:=8) (d:=33) (v:=.slice Av Q cv) (s:=hS) (c:=?_)
 simp only [ud9]
 refine tkF (i:=9) (d:=34) (v:=.pointer (some ⟨g81,1,none⟩)) (s:=hS) (c:=?_)
 simp only [ud9]
 refine tkF (i:=10) (d:=35) (v:=.func (.func f1) #[] #[]) (s:=hS) (c:=?_)
 simp only [ud9]
 refine tkF (i:=11) (d:=36) (v:=.pointer (some ⟨g0,1,none⟩)) (s:=hS) (c:=?_)
 simp only [ud9]
 refine tkF (i:=12) (d:=37) (v:=.slice (some ⟨gl,0,none⟩) 3 lc) (s:=hS) (c:=?_)
 simp only [ud9]
 refine tkF (i:=13) (d:=38) (v:=.int .i64 2) (s:=hS) (c:=?_)
 simp only [ud9]
 refine tkF (i:=14) (d:=39) (v:=.pointer (some ⟨gl,2,none⟩)) (s:=hS) (c:=?_)
 simp only [ud9]
 refine tkF (i:=15) (d:=40) (v:=.int .i64 x) (s:=hS) (c:=?_)
 simp only [ud9]
 refine tkF (i:=20) (d:=45) (v:=.pointer (some ⟨g81,1,none⟩)) (s:=hS) (c:=?_)
 simp only [ud9]
 refine tkF (i:=21) (d:=46) (v:=.func (.func f1) #[] #[]) (s:=hS) (c:=?_)
 simp only [ud9]
 refine oneF (i:=16) (c:=?_)
 gi_wp2_with fail
 refine ⟨trivial,(callsIn_wide.2 (HBY1.out _)).mono ?_⟩
 rintro e v11 ⟨rfl,rfl⟩
 gi_wp2
 try (refine ⟨hS,?_⟩)
 refine oneF (i:=17) (c:=?_)
 have hb13:=hBx.size
 gi_wp2_with fail
 refine ⟨trivial,(callsIn_wide.2 (HTU1.out _ (below_in hBW hBx))).mono ?_⟩
 rintro e v12 ⟨A13,c13,rfl,M13,hB⟩
 replace M13:=M13.less hb13
 clear hb13
 replace b02:=b02.below hB b02.lt
 replace b12:=b12.below hB b12.lt
 replace bO:=bO.below hB bO.lt
 replace M05:=M05.below hB
 replace hBx:=below_in hBx hB
 clear hS
 have hS:(fun U:World=>U.cell? ⟨g0,0,none⟩=some (.int .i64 (P:Int))∧U.cell? ⟨g0,1,none⟩=some (.slice (some ⟨gl,0,none⟩) 3 lc)∧U.cell? ⟨g0,2,none⟩=some (.slice (some ⟨gs,0,none⟩) 3 mc)∧U.cell? ⟨gl,2,none⟩=some (.int .i64 x)∧U.cell? ⟨g81,0,none⟩=some (.slice A1 Q c1)∧U.cell? ⟨g81,1,none⟩=some (.func (.func f1) #[] #[])) v12:=HSS.out _ hBx
 clear hB
 gi_wp2
 try (refine ⟨hS,?_⟩)
 refine oneF (i:=18) (c:=?_)
 have hgege1:=hBx.size
 have hB:Below v12.heap.size v12 (v12.alloc (.cells #[.slice A1 Q c1,.slice A13 Q c13] 41)):=below_one v12 _
 have bE1:Blk (v12.alloc (.cells #[.slice A1 Q c1,.slice A13 Q c13] 41)) v12.heap.size 41 #[.slice A1 Q c1,.slice A13 Q c13]:=Blk.new v12 _ _
 obtain ⟨a13,he⟩:∃ x,(v12.alloc (.cells #[.slice A1 Q c1,.slice A13 Q c13] 41))=x:=⟨_,rfl⟩
 obtain ⟨ge1,hg⟩:∃ x,v12.heap.size=x:=⟨_,rfl⟩
 rw [he] at hB bE1
 rw [hg] at bE1 hgege1
 replace b02:=b02.below hB b02.lt
 replace b12:=b12.below hB b12.lt
 replace bO:=bO.below hB bO.lt
 replace M05:=M05.below hB
 replace M13:=M13.below hB
 replace hBx:=below_in hBx hB
 clear hS
 have hS:(fun U:World=>U.cell? ⟨g0,0,none⟩=some (.int .i64 (P:Int))∧U.cell? ⟨g0,1,none⟩=some (.slice (some ⟨gl,0,none⟩) 3 lc)∧U.cell? ⟨g0,2,none⟩=some (.slice (some ⟨gs,0,none⟩) 3 mc)∧U.cell? ⟨gl,2,none⟩=some (.int .i64 x)∧U.cell? ⟨g81,0,none⟩=some (.slice A1 Q c1)∧U.cell? ⟨g81,1,none⟩=some (.func (.func f1) #[] #[])) a13:=HSS.out _ hBx
 gi_wp2
 (try rw [hg]);(try rw [he])
 try (refine ⟨hS,?_⟩)
 clear hB he hg
 refine oneF (i:=19) (c:=?_)
 have hb15:=hBx.size
 gi_wp2_with fail
 refine ⟨trivial,(callsIn_wide.2 (HUP1.out _ (below_in hBW hBx) _ (cols_two bE1 (HMV1.out _ (below_in hBW hBx)) M13.many bE1.lt))).mono ?_⟩
 rintro e v14 ⟨A15,c15,rfl,M15,hB⟩
 replace M15:=M15.less hb15
 clear hb15
 replace b02:=b02.below hB b02.lt
 replace b12:=b12.below hB b12.lt
 replace bO:=bO.below hB bO.lt
 replace bE1:=bE1.below hB bE1.lt
 replace M05:=M05.below hB
 replace M13:=M13.below hB
 replace hBx:=below_in hBx hB
 clear hS
 have hS:(fun U:World=>U.cell? ⟨g0,0,none⟩=some (.int .i64 (P:Int))∧U.cell? ⟨g0,1,none⟩=some (.slice (some ⟨gl,0,none⟩) 3 lc)∧U.cell? ⟨g0,2,none⟩=some (.slice (some ⟨gs,0,none⟩) 3 mc)∧U.cell? ⟨gl,2,none⟩=some (.int .i64 x)∧U.cell? ⟨g81,0,none⟩=some (.slice A1 Q c1)∧U.cell? ⟨g81,1,none⟩=some (.func (.func f1) #[] #[])) v14:=HSS.out _ hBx
 clear hB
 gi_wp2
 try (refine ⟨hS,?_⟩)
 refine tkF (i:=22) (d:=47) (v:=.agg #[.slice A15 Q c15,.func (.func f1) #[] #[]]) (s:=hS) (c:=?_)
 simp only [ud9]
 refine tkF (i:=23) (d:=48) (v:=.pointer (some ⟨gO,2,none⟩)) (s:=hS) (c:=?_)
 simp only [ud9]
 refine oneF (i:=24) (c:=?_)
 have kA:=bO.cell 2
 have kB:=bO.cell 3
 have fA:=bO.frozen 2
 have fB:=bO.frozen 3
 simp only [gz9] at kA kB
 have hoo:=HO.out
 have hbb:=hBx.size
 have hob:=bO.lt
 have hSB:(fun U:World=>U.cell? ⟨g0,0,none⟩=some (.int .i64 (P:Int))∧U.cell? ⟨g0,1,none⟩=some (.slice (some ⟨gl,0,none⟩) 3 lc)∧U.cell? ⟨g0,2,none⟩=some (.slice (some ⟨gs,0,none⟩) 3 mc)∧U.cell? ⟨gl,2,none⟩=some (.int .i64 x)∧U.cell? ⟨g81,0,none⟩=some (.slice A1 Q c1)∧U.cell? ⟨g81,1,none⟩=some (.func (.func f1) #[] #[])) ((v14.setCell ⟨gO,2,none⟩ (.slice A15 Q c15)).setCell ⟨gO,3,none⟩ (.func (.func f1) #[] #[])):=by
  obtain ⟨h0,h1,h2,h3,h4,h5⟩:=hS
  exact ⟨cell_far (cell_far h0 (by show g0≠gO;omega)) (by show g0≠gO;omega),cell_far (cell_far h1 (by show g0≠gO;omega)) (by show g0≠gO;omega),cell_far (cell_far h2 (by show g0≠gO;omega)) (by show g0≠gO;omega),cell_far (cell_far h3 (by show gl≠gO;omega)) (by show gl≠gO;omega),cell_far (cell_far h4 (by show g81≠gO;omega)) (by show g81≠gO;omega),cell_far (cell_far h5 (by show g81≠gO;omega)) (by show g81≠gO;omega)⟩
 have bOZ:Blk ((v14.setCell ⟨gO,2,none⟩ (.slice A15 Q c15)).setCell ⟨gO,3,none⟩ (.func (.func f1) #[] #[])) gO 94 #[.slice A05 Q c05,.func (.func f0) #[] #[],.slice A15 Q c15,.func (.func f1) #[] #[]]:=(bO.set_ 2 _).set_ 3 _
 replace b02:Blk ((v14.setCell ⟨gO,2,none⟩ (.slice A15 Q c15)).setCell ⟨gO,3,none⟩ (.func (.func f1) #[] #[])) g0 _ _:=Blk.far (Blk.far b02 (by show g0≠gO;omega) _) (by show g0≠gO;omega) _
 replace b12:Blk ((v14.setCell ⟨gO,2,none⟩ (.slice A15 Q c15)).setCell ⟨gO,3,none⟩ (.func (.func f1) #[] #[])) g1 _ _:=Blk.far (Blk.far b12 (by show g1≠gO;omega) _) (by show g1≠gO;omega) _
 replace M05:FreshMany w2.heap.size ((v14.setCell ⟨gO,2,none⟩ (.slice A15 Q c15)).setCell ⟨gO,3,none⟩ (.func (.func f1) #[] #[])) _ _:=(FreshMany.set_ (p:=⟨gO,2,none⟩) (M05.less (by omega)) hO2 (.slice A15 Q c15)).set_ (p:=⟨gO,3,none⟩) hO2 (.func (.func f1) #[] #[])
 replace M15:FreshMany w2.heap.size ((v14.setCell ⟨gO,2,none⟩ (.slice A15 Q c15)).setCell ⟨gO,3,none⟩ (.func (.func f1) #[] #[])) _ _:=(FreshMany.set_ (p:=⟨gO,2,none⟩) (M15.less (by omega)) hO2 (.slice A15 Q c15)).set_ (p:=⟨gO,3,none⟩) hO2 (.func (.func f1) #[] #[])
 replace hBW:Below w.heap.size w ((v14.setCell ⟨gO,2,none⟩ (.slice A15 Q c15)).setCell ⟨gO,3,none⟩ (.func (.func f1) #[] #[])):=((below_in hBW hBx).setCell (p:=⟨gO,2,none⟩) (by show w.heap.size≤gO;omega) (.slice A15 Q c15)).setCell (p:=⟨gO,3,none⟩) (by show w.heap.size≤gO;omega) (.func (.func f1) #[] #[])
 have hWs1:w2.heap.size≤((v14.setCell ⟨gO,2,none⟩ (.slice A15 Q c15)).setCell ⟨gO,3,none⟩ (.func (.func f1) #[] #[])).heap.size:=by simp only [World.size_setCell];omega
 obtain ⟨wn1,he⟩:∃ z,((v14.setCell ⟨gO,2,none⟩ (.slice A15 Q c15)).setCell ⟨gO,3,none⟩ (.func (.func f1) #[] #[]))=z:=⟨_,rfl⟩
 rw [he] at hSB bOZ b02 b12 hBW hWs1 M05 M15
 clear bO
 have bO:=bOZ
 clear bOZ hoo hbb hob
 gi_wp2
 (try rw [he])
 clear hS
 have hS:=hSB
 try (refine ⟨hS,?_⟩)
 clear he kA kB fA fB hSB
 refine anyHF_done (by kernel_rfl) ?_ _
 refine NoPanic.normal ?_
 clear hS HSS hBx
 gi_wp2_with fail
 clear bE1 M13 b81
 rw [roundsIn_succ]
 gi_wp2_with fail
 have HSS:Hid (∀ V,Below wn1.heap.size wn1 V→(fun U:World=>U.cell? ⟨g0,0,none⟩=some (.int .i64 (P:Int))∧U.cell? ⟨g0,1,none⟩=some (.slice (some ⟨gl,0,none⟩) 3 lc)) V):=fun V hV=>⟨(b02.below hV b02.lt).cell 0,(b02.below hV b02.lt).cell 1⟩
 have hBx:=Below.refl wn1.heap.size wn1
 have hd:Below wn1.heap.size wn1 wn1.drew:=(Below.refl _ _).drew
 replace b02:=b02.below hd b02.lt
 replace b12:=b12.below hd b12.lt
 replace bO:=bO.below hd bO.lt
 replace M05:=M05.below hd
 replace M15:=M15.below hd
 replace hBx:=below_in hBx hd
 clear hd
 have hS:=HSS.out _ hBx
 refine wpIn_mono (region_HF (Q:=NoPanic _) (S:=(fun U:World=>U.cell? ⟨g0,0,none⟩=some (.int .i64 (P:Int))∧U.cell? ⟨g0,1,none⟩=some (.slice (some ⟨gl,0,none⟩) 3 lc))) (by kernel_rfl) ?_) NoPanic.imp
 refine tkF (i:=0) (d:=50) (v:=.pointer (some ⟨g0,0,none⟩)) (s:=hS) (c:=?_)
 simp only [ud9]
 refine tkF (i:=1) (d:=51) (v:=.int .i64 (P:Int)) (s:=hS) (c:=?_)
 simp only [ud9]
 refine tkF (i:=2) (d:=52) (v:=.pointer (some ⟨g0,1,none⟩)) (s:=hS) (c:=?_)
 simp only [ud9]
 refine tkF (i:=3) (d:=53) (v:=.slice (some ⟨gl,0,none⟩) 3 lc) (s:=hS) (c:=?_)
 simp only [ud9]
 refine tkF (i:=4) (d:=54) (v:=.int .i64 2) (s:=hS) (c:=?_)
 simp only [ud9]
 refine tkF (i:=5) (d:=55) (v:=.slice (some ⟨gl,0,none⟩) 2 lc) (s:=hS) (c:=?_)
 simp only [ud9]
 refine tkF (i:=6) (d:=56) (v:=.slice (some ⟨gO,0,none⟩) 2 2) (s:=hS) (c:=?_)
 simp only [ud9]
 refine tkF (i:=7) (d:=57) (v:=.agg #[.int .i64 (P:Int),.slice (some ⟨gl,0,none⟩) 2 lc,.slice (some ⟨gO,0,none⟩) 2 2]) (s:=hS) (c:=?_)
 simp only [ud9]
 refine oneF (i:=8) (c:=?_)
 obtain ⟨wd,hwd⟩:∃ x,wn1.drew=x:=⟨_,rfl⟩
 rw [hwd] at hS hBx b02 b12 bO M05 M15 ⊢
 clear hwd
 have kA:=b12.cell 0
 have kB:=b12.cell 1
 have kC:=b12.cell 2
 have fA:=b12.frozen 0
 have fB:=b12.frozen 1
 have fC:=b12.frozen 2
 simp only [gz9] at kA kB kC
 have hoo:=HO.out
 have b1Z:Blk (((wd.setCell ⟨g1,0,none⟩ (.int .i64 (P:Int))).setCell ⟨g1,1,none⟩ (.slice (some ⟨gl,0,none⟩) 2 lc)).setCell ⟨g1,2,none⟩ (.slice (some ⟨gO,0,none⟩) 2 2)) g1 103 #[.int .i64 (P:Int),.slice (some ⟨gl,0,none⟩) 2 lc,.slice (some ⟨gO,0,none⟩) 2 2]:=((b12.set_ 0 _).set_ 1 _).set_ 2 _
 replace bO:Blk (((wd.setCell ⟨g1,0,none⟩ (.int .i64 (P:Int))).setCell ⟨g1,1,none⟩ (.slice (some ⟨gl,0,none⟩) 2 lc)).setCell ⟨g1,2,none⟩ (.slice (some ⟨gO,0,none⟩) 2 2)) gO _ _:=(Blk.far (Blk.far (Blk.far bO (by show gO≠g1;omega) _) (by show gO≠g1;omega) _) (by show gO≠g1;omega) _)
 replace M05:FreshMany w2.heap.size (((wd.setCell ⟨g1,0,none⟩ (.int .i64 (P:Int))).setCell ⟨g1,1,none⟩ (.slice (some ⟨gl,0,none⟩) 2 lc)).setCell ⟨g1,2,none⟩ (.slice (some ⟨gO,0,none⟩) 2 2)) _ _:=(FreshMany.set_ (p:=⟨g1,2,none⟩) (FreshMany.set_ (p:=⟨g1,1,none⟩) (FreshMany.set_ (p:=⟨g1,0,none⟩) M05 (by show g1<w2.heap.size;omega) (.int .i64 (P:Int))) (by show g1<w2.heap.size;omega) (.slice (some ⟨gl,0,none⟩) 2 lc)) (by show g1<w2.heap.size;omega) (.slice (some ⟨gO,0,none⟩) 2 2))
 replace M15:FreshMany w2.heap.size (((wd.setCell ⟨g1,0,none⟩ (.int .i64 (P:Int))).setCell ⟨g1,1,none⟩ (.slice (some ⟨gl,0,none⟩) 2 lc)).setCell ⟨g1,2,none⟩ (.slice (some ⟨gO,0,none⟩) 2 2)) _ _:=(FreshMany.set_ (p:=⟨g1,2,none⟩) (FreshMany.set_ (p:=⟨g1,1,none⟩) (FreshMany.set_ (p:=⟨g1,0,none⟩) M15 (by show g1<w2.heap.size;omega) (.int .i64 (P:Int))) (by show g1<w2.heap.size;omega) (.slice (some ⟨gl,0,none⟩) 2 lc)) (by show g1<w2.heap.size;omega) (.slice (some ⟨gO,0,none⟩) 2 2))
 have hSB:(fun U:World=>U.cell? ⟨g0,0,none⟩=some (.int .i64 (P:Int))∧U.cell? ⟨g0,1,none⟩=some (.slice (some ⟨gl,0,none⟩) 3 lc)) (((wd.setCell ⟨g1,0,none⟩ (.int .i64 (P:Int))).setCell ⟨g1,1,none⟩ (.slice (some ⟨gl,0,none⟩) 2 lc)).setCell ⟨g1,2,none⟩ (.slice (some ⟨gO,0,none⟩) 2 2)):=by
  obtain ⟨h0,h1⟩:=hS
  exact ⟨(cell_far (cell_far (cell_far h0 (by show g0≠g1;omega)) (by show g0≠g1;omega)) (by show g0≠g1;omega)),(cell_far (cell_far (cell_far h1 (by show g0≠g1;omega)) (by show g0≠g1;omega)) (by show g0≠g1;omega))⟩
 replace hBW:Below w.heap.size w (((wd.setCell ⟨g1,0,none⟩ (.int .i64 (P:Int))).setCell ⟨g1,1,none⟩ (.slice (some ⟨gl,0,none⟩) 2 lc)).setCell ⟨g1,2,none⟩ (.slice (some ⟨gO,0,none⟩) 2 2)):=((((below_in hBW hBx).setCell (p:=⟨g1,0,none⟩) (by show w.heap.size≤g1;omega) (.int .i64 (P:Int))).setCell (p:=⟨g1,1,none⟩) (by show w.heap.size≤g1;omega) (.slice (some ⟨gl,0,none⟩) 2 lc)).setCell (p:=⟨g1,2,none⟩) (by show w.heap.size≤g1;omega) (.slice (some ⟨gO,0,none⟩) 2 2))
 obtain ⟨wz,he⟩:∃ z,(((wd.setCell ⟨g1,0,none⟩ (.int .i64 (P:Int))).setCell ⟨g1,1,none⟩ (.slice (some ⟨gl,0,none⟩) 2 lc)).setCell ⟨g1,2,none⟩ (.slice (some ⟨gO,0,none⟩) 2 2))=z:=⟨_,rfl⟩
 rw [he] at hSB b1Z bO hBW M05 M15
 gi_wp2
 (try rw [he])
 clear hS
 have hS:=hSB
 try (refine ⟨hS,?_⟩)
 clear he kA kB kC fA fB fC hSB
 refine anyHF_done (by kernel_rfl) ?_ _
 refine NoPanic.normal ?_
 clear hS
 have r0:=b1Z.cell 0
 have r1:=b1Z.cell 1
 have r2:=b1Z.cell 2
 simp only [gz9] at r0 r1 r2
 gi_wp2_with fail
 exact ⟨.agg #[.int .i64 (P:Int),.slice (some ⟨gl,0,none⟩) 2 lc,.slice (some ⟨gO,0,none⟩) 2 2],by simp [results,Tryz.results79,go_sem,r0,r1,r2],gO,A05,c05,A15,c15,rfl,HO.out.1,bO,M05.less (by have:=HO.out;omega),M15.less (by have:=HO.out;omega),hBW⟩
theorem without2_any {P Q n:Nat} (d:Dims P Q n) (x:Int) (hx0:0≤x) (hx1:x≤100) (gl lc gs mc:Nat) (hlc:2≤lc) (hmc:2≤mc) (k0:Int) (hk0:k0=0∨k0=1∨k0 = -1) (A0:Option Addr) (c0:Nat) (s0:List (List UInt8)) (h0:GoodC Q n s0) (Av:Option Addr) (cv:Nat) (kn:List (List UInt8)) (hkn:GoodC Q n kn) (w:World) (hL:Laid w) (hgl:gl<w.heap.size) (hgs:gs<w.heap.size) (cX:w.cell? ⟨gl,1,none⟩=some (.int .i64 x)) (cV0:w.cell? ⟨gs,0,none⟩=some (.slice A0 Q c0)) (cF0:w.cell? ⟨gs,1,none⟩=some (byK k0)) (hM0:Many w.heap.size w (.slice A0 Q c0) s0) (hMv:Many w.heap.size w (.slice Av Q cv) kn) :
 Calls Tryz.prog 79 #[.agg #[.int .i64 (P:Int),.slice (some ⟨gl,0,none⟩) 2 lc,.slice (some ⟨gs,0,none⟩) 2 mc],.slice Av Q cv] w fun e w'=>∃ gO B0 e0,e = .returned (.agg #[.int .i64 (P:Int),.slice (some ⟨gl,0,none⟩) 1 lc,.slice (some ⟨gO,0,none⟩) 1 1])∧w.heap.size≤gO∧Blk w' gO 94 #[.slice B0 Q e0,byK k0]∧FreshMany w.heap.size w' (.slice B0 Q e0) (sumC Q [s0,turnC P Q n kn (k0 * x)])∧Below w.heap.size w w':=by
 have HBY0:=Lib.hid (fun V=>by_any k0 hk0 x (by omega) (by omega) V)
 have hen0:=enter_by k0
 have hy0:-100≤k0 * x∧k0 * x≤100:=by rcases hk0 with rfl | rfl | rfl <;> omega
 have gt0:=turn_good (P:=P) d.h1 d.h64 hkn (k0 * x)
 have HT0:=fun (V:World) (hV:Below w.heap.size w V)=>turned_any d (k0 * x) (by omega) (by omega) kn hkn (.slice Av Q cv) V (hL.next hV) ((hMv.below hV).more hV.size)
 have HU0:=fun (V:World) (hV:Below w.heap.size w V) (v:Value) hC=>upon_any d [s0,turnC P Q n kn (k0 * x)] (by simp) (by simp) (two_all h0 gt0) v V (hL.next hV) hC
 have HM0:=fun (V:World) (hV:Below w.heap.size w V)=>(hM0.below hV).more hV.size
 unfold byK at cF0 ⊢
 generalize sumC Q [s0,turnC P Q n kn (k0 * x)]=R0 at *
 generalize turnC P Q n kn (k0 * x)=T0 at *
 generalize k0 * x=y0 at *
 generalize fnK k0=f0 at *
 have HW:=Lib.hid (And.intro hgl (And.intro hgs cX))
 have HBY:=Lib.hid (hL)
 obtain ⟨w0,hw0⟩:∃ x,(w.alloc (.cells #[.int .i64 (P:Int),.slice (some ⟨gl,0,none⟩) 2 lc,.slice (some ⟨gs,0,none⟩) 2 mc] 103)).alloc (.cells #[.int .i64 0,.slice none 0 0,.slice none 0 0] 103)=x:=⟨_,rfl⟩
 obtain ⟨g0,hg0⟩:∃ x,w.heap.size=x:=⟨_,rfl⟩
 obtain ⟨g1,hg1⟩:∃ x,g0+1=x:=⟨_,rfl⟩
 have b0:Blk w0 g0 103 #[.int .i64 (P:Int),.slice (some ⟨gl,0,none⟩) 2 lc,.slice (some ⟨gs,0,none⟩) 2 mc]:=by rw [←hw0,←hg0];exact (Blk.new w _ _).alloc _
 have b1:Blk w0 g1 103 #[.int .i64 0,.slice none 0 0,.slice none 0 0]:=by rw [←hw0,←hg1,←hg0];exact Blk.second w _ _ _
 have hB0:Below w.heap.size w w0:=by rw [←hw0];exact below_two w _ _
 have HB0:=Lib.hid hB0
 have HW0:=Lib.hid (And.intro hw0 (And.intro hg0 hg1))
 obtain ⟨w2,hw2⟩:∃ x,w0.alloc (.cells #[.slice none 0 0,.nilFunc] 94)=x:=⟨_,rfl⟩
 obtain ⟨gO,hgO⟩:∃ x,w0.heap.size=x:=⟨_,rfl⟩
 have bO:Blk w2 gO 94 #[.slice none 0 0,.nilFunc]:=by rw [←hw2,←hgO];exact Blk.new w0 _ _
 have hB2:Below w.heap.size w w2:=by rw [←hw2];exact hB0.alloc hB0.size _
 have hgg:g1+1=gO:=by rw [←hgO,←hw0,←hg1,←hg0];simp
 have HW2:=Lib.hid (And.intro hw2 (And.intro hgO hgg))
 have HO:=Lib.hid (show w.heap.size≤gO∧g0<gO∧g1<gO∧w.heap.size=g0∧g0+1=g1∧gl<w.heap.size from ⟨by rw [←hgO];exact hB0.size,by rw [←hgO];exact b0.lt,by rw [←hgO];exact b1.lt,hg0,hg1,hgl⟩)
 have k0_:=b0.cell 0
 have k1_:=b0.cell 1
 have k2_:=b0.cell 2
 have q0_:=(b0.alloc (.cells #[.slice none 0 0,.nilFunc] 94)).cell 0
 have q1_:=(b0.alloc (.cells #[.slice none 0 0,.nilFunc] 94)).cell 1
 have q2_:=(b0.alloc (.cells #[.slice none 0 0,.nilFunc] 94)).cell 2
 simp only [gz9] at k0_ k1_ k2_ q0_ q1_ q2_
 have b02:Blk w2 g0 103 #[.int .i64 (P:Int),.slice (some ⟨gl,0,none⟩) 2 lc,.slice (some ⟨gs,0,none⟩) 2 mc]:=by rw [←hw2];exact b0.alloc _
 have b12:Blk w2 g1 103 #[.int .i64 0,.slice none 0 0,.slice none 0 0]:=by rw [←hw2];exact b1.alloc _
 have j1:1≤mc:=by omega
 have j2:1≤lc:=by omega
 have j3:¬ ((lc:Int)<1):=by omega
 have HTU0:=Lib.hid HT0
 have HUP0:=Lib.hid HU0
 have HMV0:=Lib.hid HM0
 have HCS0:=Lib.hid (And.intro cV0 cF0)
 clear hk0 h0 hgl hgs cX hL hB0 hw0 hg0 hg1 hw2 hgO hgg d hx0 hx1 hkn hMv b0 b1 HT0 HU0 HM0 gt0 hy0 hM0 hlc hmc cV0 cF0
 have hmk:=mkS1
 refine (callsIn_wide (n:=9)).1 ?_
 refine callsIn_of_wp_marks Tryz.func79 rfl trivial ?_ rfl
 simp only [Tryz.ntmps79,List.size_toArray,List.length_cons,List.length_nil,Nat.reduceAdd,Nat.reduceSub,Array.replicate_succ,Array.replicate_zero,List.push_toArray,List.append_toArray,List.nil_append,List.cons_append]
 gi_wp2_with fail
 (try rw [HW0.out.2.1]);(try rw [HW0.out.2.2]);(try rw [HW0.out.1]);(try rw [HW2.out.2.2]);(try rw [HW2.out.2.1]);(try rw [HW2.out.1])
 clear k0_ k1_ k2_ q0_ q1_ q2_ hmk
 have hBW:=hB2
 clear hB2
 have hO2:gO<w2.heap.size:=bO.lt
 refine wpIn_loop_rounds 2 ?_
 have cSa:=(hBW.cell (p:=⟨gs,0,none⟩) HW.out.2.1).trans HCS0.out.1
 have cSb:=(hBW.cell (p:=⟨gs,1,none⟩) HW.out.2.1).trans HCS0.out.2
 have b80:Blk (w2.alloc (.cells #[.slice A0 Q c0,.func (.func f0) #[] #[]] 94)) w2.heap.size 94 #[.slice A0 Q c0,.func (.func f0) #[] #[]]:=Blk.new w2 _ _
 have hBa:=below_one w2 (.cells #[.slice A0 Q c0,.func (.func f0) #[] #[]] 94)
 rw [roundsIn_succ]
 gi_wp2_with fail
 clear cSa cSb
 obtain ⟨Wb0,hWb⟩:∃ x,w2.alloc (.cells #[.slice A0 Q c0,.func (.func f0) #[] #[]] 94)=x:=⟨_,rfl⟩
 obtain ⟨g80,hg8⟩:∃ x,w2.heap.size=x:=⟨_,rfl⟩
 rw [hWb] at b80 hBa
 rw [hg8] at b80
 have hne0:gO<g80:=by have:=bO.lt;omega
 have hsW0:w2.heap.size≤Wb0.heap.size:=hBa.size
 replace b02:=b02.below hBa b02.lt
 replace b12:=b12.below hBa b12.lt
 replace bO:=bO.below hBa bO.lt
 replace hBW:=below_in hBW hBa
 (try rw [hg8]);(try rw [hWb])
 clear hWb hg8 hBa
 have HSS:Hid (∀ V,Below Wb0.heap.size Wb0 V→(fun U:World=>U.cell? ⟨g0,0,none⟩=some (.int .i64 (P:Int))∧U.cell? ⟨g0,1,none⟩=some (.slice (some ⟨gl,0,none⟩) 2 lc)∧U.cell? ⟨g0,2,none⟩=some (.slice (some ⟨gs,0,none⟩) 2 mc)∧U.cell? ⟨gl,1,none⟩=some (.int .i64 x)∧U.cell? ⟨g80,0,none⟩=some (.slice A0 Q c0)∧U.cell? ⟨g80,1,none⟩=some (.func (.func f0) #[] #[])) V):=fun V hV=>⟨(b02.below hV b02.lt).cell 0,(b02.below hV b02.lt).cell 1,(b02.below hV b02.lt).cell 2,((below_in hBW hV).cell (p:=⟨gl,1,none⟩) HW.out.1).trans HW.out.2.2,(b80.below hV b80.lt).cell 0,(b80.below hV b80.lt).cell 1⟩
 have hBx:=Below.refl Wb0.heap.size Wb0
 have hd:Below Wb0.heap.size Wb0 Wb0.drew:=(Below.refl _ _).drew
 replace b02:=b02.below hd b02.lt
 replace b12:=b12.below hd b12.lt
 replace bO:=bO.below hd bO.lt
 replace hBx:=below_in hBx hd
 clear hd
 have hS:(fun U:World=>U.cell? ⟨g0,0,none⟩=some (.int .i64 (P:Int))∧U.cell? ⟨g0,1,none⟩=some (.slice (some ⟨gl,0,none⟩) 2 lc)∧U.cell? ⟨g0,2,none⟩=some (.slice (some ⟨gs,0,none⟩) 2 mc)∧U.cell? ⟨gl,1,none⟩=some (.int .i64 x)∧U.cell? ⟨g80,0,none⟩=some (.slice A0 Q c0)∧U.cell? ⟨g80,1,none⟩=some (.func (.func f0) #[] #[])) Wb0.drew:=HSS.out _ hBx
 refine wpIn_mono (region_HF (Q:=NoPanic _) (S:=(fun U:World=>U.cell? ⟨g0,0,none⟩=some (.int .i64 (P:Int))∧U.cell? ⟨g0,1,none⟩=some (.slice (some ⟨gl,0,none⟩) 2 lc)∧U.cell? ⟨g0,2,none⟩=some (.slice (some ⟨gs,0,none⟩) 2 mc)∧U.cell? ⟨gl,1,none⟩=some (.int .i64 x)∧U.cell? ⟨g80,0,none⟩=some (.slice A0 Q c0)∧U.cell? ⟨g80,1,none⟩=some (.func (.func f0) #[] #[]))) (by kernel_rfl) ?_) NoPanic.imp
 refine tkF (i:=0) (d:=25) (v:=.slice (some ⟨gO,0,none⟩) 1 1) (s:=hS) (c:=?_)
 simp only [ud9]
 refine tkF (i:=1) (d:=26) (v:=.int .i64 0) (s:=hS) (c:=?_)
 simp only [ud9]
 refine tkF (i:=2) (d:=27) (v:=.pointer (some ⟨g0,0,none⟩)) (s:=hS) (c:=?_)
 simp only [ud9]
 refine tkF (i:=3) (d:=28) (v:=.int .i64 (P:Int)) (s:=hS) (c:=?_)
 simp only [ud9]
 refine tkF (i:=4) (d:=29) (v:=.pointer (some ⟨g80,0,none⟩)) (s:=hS) (c:=?_)
 simp only [ud9]
 refine tkF (i:=5) (d:=30) (v:=.slice A0 Q c0) (s:=hS) (c:=?_)
 simp only [ud9]
 refine tkF (i:=6) (d:=31) (v:=.pointer (some ⟨g0,0,none⟩)) (s:=hS) (c:=?_)
 simp only [ud9]
 refine tkF (i:=7) (d:=32) (v:=.int .i64 (P:Int)) (s:=hS) (c:=?_)
 simp only [ud9]
 refine tkF (i:=8) (d:=33) (v:=.slice Av Q cv) (s:=hS) (c:=?_)
 simp only [ud9]
 refine tkF (i:=9) (d:=34) (v:=.pointer (some ⟨g80,1,none⟩)) (s:=hS) (c:=?_)
 simp only [ud9]
 refine tkF (i:=10) (d:=35) (v:=.func (.func f0) #[] #[]) (s:=hS) (c:=?_)
 simp only [ud9]
 refine tkF (i:=11) (d:=36) (v:=.pointer (some ⟨g0,1,none⟩)) (s:=hS) (c:=?_)
 simp only [ud9]
 refine tkF (i:=12) (d:=37) (v:=.slice (some ⟨gl,0,none⟩) 2 lc) (s:=hS) (c:=?_)
 simp only [ud9]
 refine tkF (i:=13) (d:=38) (v:=.int .i64 1) (s:=hS) (c:=?_)
 simp only [ud9]
 refine tkF (i:=14) (d:=39) (v:=.pointer (some ⟨gl,1,none⟩)) (s:=hS) (c:=?_)
 simp only [ud9]
 refine tkF (i:=15) (d:=40) (v:=.int .i64 x) (s:=hS) (c:=?_)
 simp only [ud9]
 refine tkF (i:=20) (d:=45) (v:=.pointer (some ⟨g80,1,none⟩)) (s:=hS) (c:=?_)
 simp only [ud9]
 refine tkF (i:=21) (d:=46) (v:=.func (.func f0) #[] #[]) (s:=hS) (c:=?_)
 simp only [ud9]
 refine oneF (i:=16) (c:=?_)
 gi_wp2_with fail
 refine ⟨trivial,(callsIn_wide.2 (HBY0.out _)).mono ?_⟩
 rintro e v1 ⟨rfl,rfl⟩
 gi_wp2
 try (refine ⟨hS,?_⟩)
 refine oneF (i:=17) (c:=?_)
 have hb03:=hBx.size
 gi_wp2_with fail
 refine ⟨trivial,(callsIn_wide.2 (HTU0.out _ (below_in hBW hBx))).mono ?_⟩
 rintro e v2 ⟨A03,c03,rfl,M03,hB⟩
 replace M03:=M03.less hb03
 clear hb03
 replace b02:=b02.below hB b02.lt
 replace b12:=b12.below hB b12.lt
 replace bO:=bO.below hB bO.lt
 replace hBx:=below_in hBx hB
 clear hS
 have hS:(fun U:World=>U.cell? ⟨g0,0,none⟩=some (.int .i64 (P:Int))∧U.cell? ⟨g0,1,none⟩=some (.slice (some ⟨gl,0,none⟩) 2 lc)∧U.cell? ⟨g0,2,none⟩=some (.slice (some ⟨gs,0,none⟩) 2 mc)∧U.cell? ⟨gl,1,none⟩=some (.int .i64 x)∧U.cell? ⟨g80,0,none⟩=some (.slice A0 Q c0)∧U.cell? ⟨g80,1,none⟩=some (.func (.func f0) #[] #[])) v2:=HSS.out _ hBx
 clear hB
 gi_wp2
 try (refine ⟨hS,?_⟩)
 refine oneF (i:=18) (c:=?_)
 have hgege0:=hBx.size
 have hB:Below v2.heap.size v2 (v2.alloc (.cells #[.slice A0 Q c0,.slice A03 Q c03] 41)):=below_one v2 _
 have bE0:Blk (v2.alloc (.cells #[.slice A0 Q c0,.slice A03 Q c03] 41)) v2.heap.size 41 #[.slice A0 Q c0,.slice A03 Q c03]:=Blk.new v2 _ _
 obtain ⟨a3,he⟩:∃ x,(v2.alloc (.cells #[.slice A0 Q c0,.slice A03 Q c03] 41))=x:=⟨_,rfl⟩
 obtain ⟨ge0,hg⟩:∃ x,v2.heap.size=x:=⟨_,rfl⟩
 rw [he] at hB bE0
 rw [hg] at bE0 hgege0
 replace b02:=b02.below hB b02.lt
 replace b12:=b12.below hB b12.lt
 replace bO:=bO.below hB bO.lt
 replace M03:=M03.below hB
 replace hBx:=below_in hBx hB
 clear hS
 have hS:(fun U:World=>U.cell? ⟨g0,0,none⟩=some (.int .i64 (P:Int))∧U.cell? ⟨g0,1,none⟩=some (.slice (some ⟨gl,0,none⟩) 2 lc)∧U.cell? ⟨g0,2,none⟩=some (.slice (some ⟨gs,0,none⟩) 2 mc)∧U.cell? ⟨gl,1,none⟩=some (.int .i64 x)∧U.cell? ⟨g80,0,none⟩=some (.slice A0 Q c0)∧U.cell? ⟨g80,1,none⟩=some (.func (.func f0) #[] #[])) a3:=HSS.out _ hBx
 gi_wp2
 (try rw [hg]);(try rw [he])
 try (refine ⟨hS,?_⟩)
 clear hB he hg
 refine oneF (i:=19) (c:=?_)
 have hb05:=hBx.size
 gi_wp2_with fail
 refine ⟨trivial,(callsIn_wide.2 (HUP0.out _ (below_in hBW hBx) _ (cols_two bE0 (HMV0.out _ (below_in hBW hBx)) M03.many bE0.lt))).mono ?_⟩
 rintro e v4 ⟨A05,c05,rfl,M05,hB⟩
 replace M05:=M05.less hb05
 clear hb05
 replace b02:=b02.below hB b02.lt
 replace b12:=b12.below hB b12.lt
 replace bO:=bO.below hB bO.lt
 replace bE0:=bE0.below hB bE0.lt
 replace M03:=M03.below hB
 replace hBx:=below_in hBx hB
 clear hS
 have hS:(fun U:World=>U.cell? ⟨g0,0,none⟩=some (.int .i64 (P:Int))∧U.cell? ⟨g0,1,none⟩=some (.slice (some ⟨gl,0,none⟩) 2 lc)∧U.cell? ⟨g0,2,none⟩=some (.slice (some ⟨gs,0,none⟩) 2 mc)∧U.cell? ⟨gl,1,none⟩=some (.int .i64 x)∧U.cell? ⟨g80,0,none⟩=some (.slice A0 Q c0)∧U.cell? ⟨g80,1,none⟩=some (.func (.func f0) #[] #[])) v4:=HSS.out _ hBx
 clear hB
 gi_wp2
 try (refine ⟨hS,?_⟩)
 refine tkF (i:=22) (d:=47) (v:=.agg #[.slice A05 Q c05,.func (.func f0) #[] #[]]) (s:=hS) (c:=?_)
 simp only [ud9]
 refine tkF (i:=23) (d:=48) (v:=.pointer (some ⟨gO,0,none⟩)) (s:=hS) (c:=?_)
 simp only [ud9]
 refine oneF (i:=24) (c:=?_)
 have kA:=bO.cell 0
 have kB:=bO.cell 1
 have fA:=bO.frozen 0
 have fB:=bO.frozen 1
 simp only [gz9] at kA kB
 have hoo:=HO.out
 have hbb:=hBx.size
 have hob:=bO.lt
 have hSB:(fun U:World=>U.cell? ⟨g0,0,none⟩=some (.int .i64 (P:Int))∧U.cell? ⟨g0,1,none⟩=some (.slice (some ⟨gl,0,none⟩) 2 lc)∧U.cell? ⟨g0,2,none⟩=some (.slice (some ⟨gs,0,none⟩) 2 mc)∧U.cell? ⟨gl,1,none⟩=some (.int .i64 x)∧U.cell? ⟨g80,0,none⟩=some (.slice A0 Q c0)∧U.cell? ⟨g80,1,none⟩=some (.func (.func f0) #[] #[])) ((v4.setCell ⟨gO,0,none⟩ (.slice A05 Q c05)).setCell ⟨gO,1,none⟩ (.func (.func f0) #[] #[])):=by
  obtain ⟨h0,h1,h2,h3,h4,h5⟩:=hS
  exact ⟨cell_far (cell_far h0 (by show g0≠gO;omega)) (by show g0≠gO;omega),cell_far (cell_far h1 (by show g0≠gO;omega)) (by show g0≠gO;omega),cell_far (cell_far h2 (by show g0≠gO;omega)) (by show g0≠gO;omega),cell_far (cell_far h3 (by show gl≠gO;omega)) (by show gl≠gO;omega),cell_far (cell_far h4 (by show g80≠gO;omega)) (by show g80≠gO;omega),cell_far (cell_far h5 (by show g80≠gO;omega)) (by show g80≠gO;omega)⟩
 have bOZ:Blk ((v4.setCell ⟨gO,0,none⟩ (.slice A05 Q c05)).setCell ⟨gO,1,none⟩ (.func (.func f0) #[] #[])) gO 94 #[.slice A05 Q c05,.func (.func f0) #[] #[]]:=(bO.set_ 0 _).set_ 1 _
 replace b02:Blk ((v4.setCell ⟨gO,0,none⟩ (.slice A05 Q c05)).setCell ⟨gO,1,none⟩ (.func (.func f0) #[] #[])) g0 _ _:=Blk.far (Blk.far b02 (by show g0≠gO;omega) _) (by show g0≠gO;omega) _
 replace b12:Blk ((v4.setCell ⟨gO,0,none⟩ (.slice A05 Q c05)).setCell ⟨gO,1,none⟩ (.func (.func f0) #[] #[])) g1 _ _:=Blk.far (Blk.far b12 (by show g1≠gO;omega) _) (by show g1≠gO;omega) _
 replace M05:FreshMany w2.heap.size ((v4.setCell ⟨gO,0,none⟩ (.slice A05 Q c05)).setCell ⟨gO,1,none⟩ (.func (.func f0) #[] #[])) _ _:=(FreshMany.set_ (p:=⟨gO,0,none⟩) (M05.less (by omega)) hO2 (.slice A05 Q c05)).set_ (p:=⟨gO,1,none⟩) hO2 (.func (.func f0) #[] #[])
 replace hBW:Below w.heap.size w ((v4.setCell ⟨gO,0,none⟩ (.slice A05 Q c05)).setCell ⟨gO,1,none⟩ (.func (.func f0) #[] #[])):=((below_in hBW hBx).setCell (p:=⟨gO,0,none⟩) (by show w.heap.size≤gO;omega) (.slice A05 Q c05)).setCell (p:=⟨gO,1,none⟩) (by show w.heap.size≤gO;omega) (.func (.func f0) #[] #[])
 have hWs0:w2.heap.size≤((v4.setCell ⟨gO,0,none⟩ (.slice A05 Q c05)).setCell ⟨gO,1,none⟩ (.func (.func f0) #[] #[])).heap.size:=by simp only [World.size_setCell];omega
 obtain ⟨wn0,he⟩:∃ z,((v4.setCell ⟨gO,0,none⟩ (.slice A05 Q c05)).setCell ⟨gO,1,none⟩ (.func (.func f0) #[] #[]))=z:=⟨_,rfl⟩
 rw [he] at hSB bOZ b02 b12 hBW hWs0 M05
 clear bO
 have bO:=bOZ
 clear bOZ hoo hbb hob
 gi_wp2
 (try rw [he])
 clear hS
 have hS:=hSB
 try (refine ⟨hS,?_⟩)
 clear he kA kB fA fB hSB
 refine anyHF_done (by kernel_rfl) ?_ _
 refine NoPanic.normal ?_
 clear hS HSS hBx
 gi_wp2_with fail
 clear bE0 M03 b80
 rw [roundsIn_succ]
 gi_wp2_with fail
 have HSS:Hid (∀ V,Below wn0.heap.size wn0 V→(fun U:World=>U.cell? ⟨g0,0,none⟩=some (.int .i64 (P:Int))∧U.cell? ⟨g0,1,none⟩=some (.slice (some ⟨gl,0,none⟩) 2 lc)) V):=fun V hV=>⟨(b02.below hV b02.lt).cell 0,(b02.below hV b02.lt).cell 1⟩
 have hBx:=Below.refl wn0.heap.size wn0
 have hd:Below wn0.heap.size wn0 wn0.drew:=(Below.refl _ _).drew
 replace b02:=b02.below hd b02.lt
 replace b12:=b12.below hd b12.lt
 replace bO:=bO.below hd bO.lt
 replace M05:=M05.below hd
 replace hBx:=below_in hBx hd
 clear hd
 have hS:=HSS.out _ hBx
 refine wpIn_mono (region_HF (Q:=NoPanic _) (S:=(fun U:World=>U.cell? ⟨g0,0,none⟩=some (.int .i64 (P:Int))∧U.cell? ⟨g0,1,none⟩=some (.slice (some ⟨gl,0,none⟩) 2 lc))) (by kernel_rfl) ?_) NoPanic.imp
 refine tkF (i:=0) (d:=50) (v:=.pointer (some ⟨g0,0,none⟩)) (s:=hS) (c:=?_)
 simp only [ud9]
 refine tkF (i:=1) (d:=51) (v:=.int .i64 (P:Int)) (s:=hS) (c:=?_)
 simp only [ud9]
 refine tkF (i:=2) (d:=52) (v:=.pointer (some ⟨g0,1,none⟩)) (s:=hS) (c:=?_)
 simp only [ud9]
 refine tkF (i:=3) (d:=53) (v:=.slice (some ⟨gl,0,none⟩) 2 lc) (s:=hS) (c:=?_)
 simp only [ud9]
 refine tkF (i:=4) (d:=54) (v:=.int .i64 1) (s:=hS) (c:=?_)
 simp only [ud9]
 refine tkF (i:=5) (d:=55) (v:=.slice (some ⟨gl,0,none⟩) 1 lc) (s:=hS) (c:=?_)
 simp only [ud9]
 refine tkF (i:=6) (d:=56) (v:=.slice (some ⟨gO,0,none⟩) 1 1) (s:=hS) (c:=?_)
 simp only [ud9]
 refine tkF (i:=7) (d:=57) (v:=.agg #[.int .i64 (P:Int),.slice (some ⟨gl,0,none⟩) 1 lc,.slice (some ⟨gO,0,none⟩) 1 1]) (s:=hS) (c:=?_)
 simp only [ud9]
 refine oneF (i:=8) (c:=?_)
 obtain ⟨wd,hwd⟩:∃ x,wn0.drew=x:=⟨_,rfl⟩
 rw [hwd] at hS hBx b02 b12 bO M05 ⊢
 clear hwd
 have kA:=b12.cell 0
 have kB:=b12.cell 1
 have kC:=b12.cell 2
 have fA:=b12.frozen 0
 have fB:=b12.frozen 1
 have fC:=b12.frozen 2
 simp only [gz9] at kA kB kC
 have hoo:=HO.out
 have b1Z:Blk (((wd.setCell ⟨g1,0,none⟩ (.int .i64 (P:Int))).setCell ⟨g1,1,none⟩ (.slice (some ⟨gl,0,none⟩) 1 lc)).setCell ⟨g1,2,none⟩ (.slice (some ⟨gO,0,none⟩) 1 1)) g1 103 #[.int .i64 (P:Int),.slice (some ⟨gl,0,none⟩) 1 lc,.slice (some ⟨gO,0,none⟩) 1 1]:=((b12.set_ 0 _).set_ 1 _).set_ 2 _
 replace bO:Blk (((wd.setCell ⟨g1,0,none⟩ (.int .i64 (P:Int))).setCell ⟨g1,1,none⟩ (.slice (some ⟨gl,0,none⟩) 1 lc)).setCell ⟨g1,2,none⟩ (.slice (some ⟨gO,0,none⟩) 1 1)) gO _ _:=(Blk.far (Blk.far (Blk.far bO (by show gO≠g1;omega) _) (by show gO≠g1;omega) _) (by show gO≠g1;omega) _)
 replace M05:FreshMany w2.heap.size (((wd.setCell ⟨g1,0,none⟩ (.int .i64 (P:Int))).setCell ⟨g1,1,none⟩ (.slice (some ⟨gl,0,none⟩) 1 lc)).setCell ⟨g1,2,none⟩ (.slice (some ⟨gO,0,none⟩) 1 1)) _ _:=(FreshMany.set_ (p:=⟨g1,2,none⟩) (FreshMany.set_ (p:=⟨g1,1,none⟩) (FreshMany.set_ (p:=⟨g1,0,none⟩) M05 (by show g1<w2.heap.size;omega) (.int .i64 (P:Int))) (by show g1<w2.heap.size;omega) (.slice (some ⟨gl,0,none⟩) 1 lc)) (by show g1<w2.heap.size;omega) (.slice (some ⟨gO,0,none⟩) 1 1))
 have hSB:(fun U:World=>U.cell? ⟨g0,0,none⟩=some (.int .i64 (P:Int))∧U.cell? ⟨g0,1,none⟩=some (.slice (some ⟨gl,0,none⟩) 2 lc)) (((wd.setCell ⟨g1,0,none⟩ (.int .i64 (P:Int))).setCell ⟨g1,1,none⟩ (.slice (some ⟨gl,0,none⟩) 1 lc)).setCell ⟨g1,2,none⟩ (.slice (some ⟨gO,0,none⟩) 1 1)):=by
  obtain ⟨h0,h1⟩:=hS
  exact ⟨(cell_far (cell_far (cell_far h0 (by show g0≠g1;omega)) (by show g0≠g1;omega)) (by show g0≠g1;omega)),(cell_far (cell_far (cell_far h1 (by show g0≠g1;omega)) (by show g0≠g1;omega)) (by show g0≠g1;omega))⟩
 replace hBW:Below w.heap.size w (((wd.setCell ⟨g1,0,none⟩ (.int .i64 (P:Int))).setCell ⟨g1,1,none⟩ (.slice (some ⟨gl,0,none⟩) 1 lc)).setCell ⟨g1,2,none⟩ (.slice (some ⟨gO,0,none⟩) 1 1)):=((((below_in hBW hBx).setCell (p:=⟨g1,0,none⟩) (by show w.heap.size≤g1;omega) (.int .i64 (P:Int))).setCell (p:=⟨g1,1,none⟩) (by show w.heap.size≤g1;omega) (.slice (some ⟨gl,0,none⟩) 1 lc)).setCell (p:=⟨g1,2,none⟩) (by show w.heap.size≤g1;omega) (.slice (some ⟨gO,0,none⟩) 1 1))
 obtain ⟨wz,he⟩:∃ z,(((wd.setCell ⟨g1,0,none⟩ (.int .i64 (P:Int))).setCell ⟨g1,1,none⟩ (.slice (some ⟨gl,0,none⟩) 1 lc)).setCell ⟨g1,2,none⟩ (.slice (some ⟨gO,0,none⟩) 1 1))=z:=⟨_,rfl⟩
 rw [he] at hSB b1Z bO hBW M05
 gi_wp2
 (try rw [he])
 clear hS
 have hS:=hSB
 try (refine ⟨hS,?_⟩)
 clear he kA kB kC fA fB fC hSB
 refine anyHF_done (by kernel_rfl) ?_ _
 refine NoPanic.normal ?_
 clear hS
 have r0:=b1Z.cell 0
 have r1:=b1Z.cell 1
 have r2:=b1Z.cell 2
 simp only [gz9] at r0 r1 r2
 gi_wp2_with fail
 exact ⟨.agg #[.int .i64 (P:Int),.slice (some ⟨gl,0,none⟩) 1 lc,.slice (some ⟨gO,0,none⟩) 1 1],by simp [results,Tryz.results79,go_sem,r0,r1,r2],gO,A05,c05,rfl,HO.out.1,bO,M05.less (by have:=HO.out;omega),hBW⟩
end Go.Proofs.YtkllhjhkcipkoaaGreatDoor.Tr
