/- -/
import Derived.Laws.StructEq
import Derived.Maps.OwnIn
import Derived.Test.YtcchjofjpflbhaaGreatDoorPAG11
set_option linter.unusedVariables false
set_option linter.unusedSimpArgs false
set_option maxRecDepth 100000
set_option maxHeartbeats 8000000
namespace Go.Proofs.YtcchjofjpflbhaaGreatDoor.T
open Go.RowKit Go.Shelf Go.Maps Go.Proofs.YtcchjofjpflbhaaGreatDoor.C Go.Proofs.YtcchjofjpflbhaaGreatDoor.E Go.Proofs.YtcchjofjpflbhaaGreatDoor.Ch
attribute [local go_sem] Oper.semAt_some

theorem arms_any (p a b:Int) (hp:p∈prm) (ha:0≤a∧a<p) (hb:0≤b∧b<p) (gl:Nat) (w:World) (hL:Laid w) (hgl:gl<w.heap.size) (cA:w.cell? ⟨gl,0,none⟩=some (.int .i64 a)) (cB:w.cell? ⟨gl,1,none⟩=some (.int .i64 b)) :
 Calls Tryz.prog 106 #[.agg #[.int .i64 2,.int .i64 p,.slice (some ⟨gl,0,none⟩) 2 2]] w fun e w'=>∃ A1 n1 c1 A2 n2 c2,e = .returned (.agg #[.slice A1 n1 c1,.slice A2 n2 c2])∧OwnA w' w.heap.size (.slice A1 n1 c1) (armP p a b)∧OwnA w' w.heap.size (.slice A2 n2 c2) (armP p b a)∧Below w.heap.size w w':=by
 obtain ⟨w0,hw0⟩:∃ z,(w.alloc (.cells #[.int .i64 2,.int .i64 p,.slice (some ⟨gl,0,none⟩) 2 2] 90)).alloc (.cells #[.slice none 0 0,.slice none 0 0] 142)=z:=⟨_,rfl⟩
 obtain ⟨g0,hg0⟩:∃ z,w.heap.size=z:=⟨_,rfl⟩
 obtain ⟨gR,hgR⟩:∃ z,g0+1=z:=⟨_,rfl⟩
 have b0:Blk w0 g0 90 #[.int .i64 2,.int .i64 p,.slice (some ⟨gl,0,none⟩) 2 2]:=by rw [←hw0,←hg0];exact (Blk.new w _ _).alloc _
 have bR:Blk w0 gR 142 #[.slice none 0 0,.slice none 0 0]:=by rw [←hw0,←hgR,←hg0];exact Blk.second w _ _ _
 have hB0:Below w.heap.size w w0:=by rw [←hw0];exact below_two w _ _
 have s0:w0.heap.size=w.heap.size+2:=by rw [←hw0];simp
 have hs0:w.heap.size≤w0.heap.size:=by omega
 have HSS:Hid (∀ V,Below w0.heap.size w0 V→(fun U:World=>U.cell? ⟨g0,0,none⟩=some (.int .i64 2)∧U.cell? ⟨g0,1,none⟩=some (.int .i64 p)∧U.cell? ⟨g0,2,none⟩=some (.slice (some ⟨gl,0,none⟩) 2 2)∧U.cell? ⟨gl,0,none⟩=some (.int .i64 a)∧U.cell? ⟨gl,1,none⟩=some (.int .i64 b)) V):=fun V hV=>⟨(b0.below hV b0.lt).cell 0,(b0.below hV b0.lt).cell 1,(b0.below hV b0.lt).cell 2,((below_in hB0 hV).cell (p:=⟨gl,0,none⟩) hgl).trans cA,((below_in hB0 hV).cell (p:=⟨gl,1,none⟩) hgl).trans cB⟩
 have HGR:Hid (g0≠gR∧gl≠gR∧w.heap.size≤gR∧gR<w0.heap.size):=⟨by omega,by omega,by omega,by omega⟩
 have HALL:=Lib.hid (And.intro hp (And.intro ha (And.intro hb (fun (V:World) (hV:Below w0.heap.size w0 V)=>hL.next (below_in hB0 hV)))))
 have HB0:=Lib.hid hB0
 have HG:=Lib.hid (And.intro hg0 hgR)
 have HW0:=Lib.hid hw0
 clear hp ha hb hL cA cB hgl hB0 b0 s0 hg0 hgR hw0
 refine (callsIn_wide (n:=9)).1 ?_
 refine callsIn_of_wp_marks Tryz.func106 rfl trivial ?_ rfl
 simp only [Tryz.ntmps106,List.size_toArray,List.length_cons,List.length_nil,Nat.reduceAdd,Nat.reduceSub,Array.replicate_succ,Array.replicate_zero,List.push_toArray,List.append_toArray,List.nil_append,List.cons_append]
 gi_wp2_with fail
 (try rw [HG.out.1]);(try rw [HG.out.2]);(try rw [HW0.out])
 have hBx:=(Below.refl w0.heap.size w0).drew
 have hS:=HSS.out _ hBx
 refine wpIn_mono (region_HF (Q:=NoPanic _) (S:=(fun U:World=>U.cell? ⟨g0,0,none⟩=some (.int .i64 2)∧U.cell? ⟨g0,1,none⟩=some (.int .i64 p)∧U.cell? ⟨g0,2,none⟩=some (.slice (some ⟨gl,0,none⟩) 2 2)∧U.cell? ⟨gl,0,none⟩=some (.int .i64 a)∧U.cell? ⟨gl,1,none⟩=some (.int .i64 b))) (by kernel_rfl) ?_) NoPanic.imp
 refine tkF (i:=0) (d:=5) (v:=.pointer (some ⟨g0,2,none⟩)) (s:=hS) (c:=?_)
 simp only [ud9]
 refine tkF (i:=1) (d:=6) (v:=.slice (some ⟨gl,0,none⟩) 2 2) (s:=hS) (c:=?_)
 simp only [ud9]
 refine tkF (i:=2) (d:=7) (v:=.pointer (some ⟨gl,0,none⟩)) (s:=hS) (c:=?_)
 simp only [ud9]
 refine tkF (i:=3) (d:=8) (v:=.int .i64 a) (s:=hS) (c:=?_)
 simp only [ud9]
 refine tkF (i:=4) (d:=9) (v:=.pointer (some ⟨g0,2,none⟩)) (s:=hS) (c:=?_)
 simp only [ud9]
 refine tkF (i:=5) (d:=10) (v:=.slice (some ⟨gl,0,none⟩) 2 2) (s:=hS) (c:=?_)
 simp only [ud9]
 refine tkF (i:=6) (d:=11) (v:=.pointer (some ⟨gl,1,none⟩)) (s:=hS) (c:=?_)
 simp only [ud9]
 refine tkF (i:=7) (d:=12) (v:=.int .i64 b) (s:=hS) (c:=?_)
 simp only [ud9]
 refine oneF (i:=8) (c:=?_)
 gi_wp2
 refine oneF (i:=9) (c:=?_)
 gi_wp2
 refine anyHF_done (by kernel_rfl) ?_ _
 refine NoPanic.normal ?_
 clear hS
 gi_wp2_with fail
 replace hBx:=hBx.drew
 replace bR:=bR.below hBx bR.lt
 have hS:=HSS.out _ hBx
 refine wpIn_mono (region_HF (Q:=NoPanic _) (S:=(fun U:World=>U.cell? ⟨g0,0,none⟩=some (.int .i64 2)∧U.cell? ⟨g0,1,none⟩=some (.int .i64 p)∧U.cell? ⟨g0,2,none⟩=some (.slice (some ⟨gl,0,none⟩) 2 2)∧U.cell? ⟨gl,0,none⟩=some (.int .i64 a)∧U.cell? ⟨gl,1,none⟩=some (.int .i64 b))) (by kernel_rfl) ?_) NoPanic.imp
 refine tkF (i:=0) (d:=13) (v:=.agg #[.int .i64 2,.int .i64 p,.slice (some ⟨gl,0,none⟩) 2 2]) (s:=hS) (c:=?_)
 simp only [ud9]
 refine tkF (i:=1) (d:=14) (v:=.int .i64 a) (s:=hS) (c:=?_)
 simp only [ud9]
 refine tkF (i:=2) (d:=15) (v:=.int .i64 b) (s:=hS) (c:=?_)
 simp only [ud9]
 refine tkF (i:=5) (d:=18) (v:=.agg #[.int .i64 2,.int .i64 p,.slice (some ⟨gl,0,none⟩) 2 2]) (s:=hS) (c:=?_)
 simp only [ud9]
 refine tkF (i:=6) (d:=19) (v:=.int .i64 b) (s:=hS) (c:=?_)
 simp only [ud9]
 refine tkF (i:=7) (d:=20) (v:=.int .i64 a) (s:=hS) (c:=?_)
 simp only [ud9]
 refine oneF (i:=3) (c:=?_)
 gi_wp2_with fail
 refine ⟨trivial,(callsIn_wide.2 (arm_any p a b _ _ _ _)).mono ?_⟩
 rintro e v1 ⟨v51,rfl,hAV1,hB⟩
 obtain ⟨al1,aa1,ab1,rfl,_⟩:=id hAV1
 have hge1:=hBx.size
 have HP1:=Lib.hid (hAV1.places HALL.out.1 HALL.out.2.1 HALL.out.2.2.1 (HALL.out.2.2.2 _ (below_in hBx hB)))
 have hsz1:=hB.size
 clear hAV1
 replace bR:=bR.below hB bR.lt
 replace hBx:=below_in hBx hB
 clear hS
 have hS:(fun U:World=>U.cell? ⟨g0,0,none⟩=some (.int .i64 2)∧U.cell? ⟨g0,1,none⟩=some (.int .i64 p)∧U.cell? ⟨g0,2,none⟩=some (.slice (some ⟨gl,0,none⟩) 2 2)∧U.cell? ⟨gl,0,none⟩=some (.int .i64 a)∧U.cell? ⟨gl,1,none⟩=some (.int .i64 b)) v1:=HSS.out _ hBx
 clear hB
 gi_wp2
 try (refine ⟨hS,?_⟩)
 refine oneF (i:=4) (c:=?_)
 gi_wp2_with fail
 refine ⟨trivial,(callsIn_wide.2 (collect_any _ _ (Nat.le_trans (armP_len HALL.out.1) (by omega)) _ _ (HALL.out.2.2.2 _ hBx) (by omega) HP1.out)).mono ?_⟩
 rintro e v2 ⟨u1,rfl,hu1,hB⟩
 obtain ⟨A1,n1,c1,rfl⟩:=hu1.form
 have hgu1:=hBx.size
 replace bR:=bR.below hB bR.lt
 replace hBx:=below_in hBx hB
 clear hS
 have hS:(fun U:World=>U.cell? ⟨g0,0,none⟩=some (.int .i64 2)∧U.cell? ⟨g0,1,none⟩=some (.int .i64 p)∧U.cell? ⟨g0,2,none⟩=some (.slice (some ⟨gl,0,none⟩) 2 2)∧U.cell? ⟨gl,0,none⟩=some (.int .i64 a)∧U.cell? ⟨gl,1,none⟩=some (.int .i64 b)) v2:=HSS.out _ hBx
 clear hB
 gi_wp2
 try (refine ⟨hS,?_⟩)
 refine oneF (i:=8) (c:=?_)
 gi_wp2_with fail
 refine ⟨trivial,(callsIn_wide.2 (arm_any p b a _ _ _ _)).mono ?_⟩
 rintro e v3 ⟨v52,rfl,hAV2,hB⟩
 obtain ⟨al2,aa2,ab2,rfl,_⟩:=id hAV2
 have hge2:=hBx.size
 have HP2:=Lib.hid (hAV2.places HALL.out.1 HALL.out.2.2.1 HALL.out.2.1 (HALL.out.2.2.2 _ (below_in hBx hB)))
 have hsz2:=hB.size
 clear hAV2
 replace bR:=bR.below hB bR.lt
 replace hu1:=hu1.below hB
 replace hBx:=below_in hBx hB
 clear hS
 have hS:(fun U:World=>U.cell? ⟨g0,0,none⟩=some (.int .i64 2)∧U.cell? ⟨g0,1,none⟩=some (.int .i64 p)∧U.cell? ⟨g0,2,none⟩=some (.slice (some ⟨gl,0,none⟩) 2 2)∧U.cell? ⟨gl,0,none⟩=some (.int .i64 a)∧U.cell? ⟨gl,1,none⟩=some (.int .i64 b)) v3:=HSS.out _ hBx
 clear hB
 gi_wp2
 try (refine ⟨hS,?_⟩)
 refine oneF (i:=9) (c:=?_)
 gi_wp2_with fail
 refine ⟨trivial,(callsIn_wide.2 (collect_any _ _ (Nat.le_trans (armP_len HALL.out.1) (by omega)) _ _ (HALL.out.2.2.2 _ hBx) (by omega) HP2.out)).mono ?_⟩
 rintro e v4 ⟨u2,rfl,hu2,hB⟩
 obtain ⟨A2,n2,c2,rfl⟩:=hu2.form
 have hgu2:=hBx.size
 replace bR:=bR.below hB bR.lt
 replace hu1:=hu1.below hB
 replace hBx:=below_in hBx hB
 clear hS
 have hS:(fun U:World=>U.cell? ⟨g0,0,none⟩=some (.int .i64 2)∧U.cell? ⟨g0,1,none⟩=some (.int .i64 p)∧U.cell? ⟨g0,2,none⟩=some (.slice (some ⟨gl,0,none⟩) 2 2)∧U.cell? ⟨gl,0,none⟩=some (.int .i64 a)∧U.cell? ⟨gl,1,none⟩=some (.int .i64 b)) v4:=HSS.out _ hBx
 clear hB
 gi_wp2
 try (refine ⟨hS,?_⟩)
 refine tkF (i:=10) (d:=23) (v:=.agg #[.slice A1 n1 c1,.slice A2 n2 c2]) (s:=hS) (c:=?_)
 simp only [ud9]
 refine oneF (i:=11) (c:=?_)
 have k0:=bR.cell 0
 have k1:=bR.cell 1
 have f0:=bR.frozen 0
 have f1_:=bR.frozen 1
 simp only [gz9] at k0 k1
 replace bR:Blk ((v4.setCell ⟨gR,0,none⟩ (.slice A1 n1 c1)).setCell ⟨gR,1,none⟩ (.slice A2 n2 c2)) gR 142 #[.slice A1 n1 c1,.slice A2 n2 c2]:=(bR.set_ 0 _).set_ 1 _
 have hkz:∀ b,b≠gR→((v4.setCell ⟨gR,0,none⟩ (.slice A1 n1 c1)).setCell ⟨gR,1,none⟩ (.slice A2 n2 c2)).heap[b]?=v4.heap[b]?:=fun b hb=>(Below.heap_setCell _ ⟨gR,1,none⟩ _ b hb).trans (Below.heap_setCell _ ⟨gR,0,none⟩ _ b hb)
 have hS2:(fun U:World=>U.cell? ⟨g0,0,none⟩=some (.int .i64 2)∧U.cell? ⟨g0,1,none⟩=some (.int .i64 p)∧U.cell? ⟨g0,2,none⟩=some (.slice (some ⟨gl,0,none⟩) 2 2)∧U.cell? ⟨gl,0,none⟩=some (.int .i64 a)∧U.cell? ⟨gl,1,none⟩=some (.int .i64 b)) ((v4.setCell ⟨gR,0,none⟩ (.slice A1 n1 c1)).setCell ⟨gR,1,none⟩ (.slice A2 n2 c2)):=⟨(World.cell?_of_block (a:=⟨g0,0,none⟩) (hkz g0 HGR.out.1)).trans hS.1,(World.cell?_of_block (a:=⟨g0,1,none⟩) (hkz g0 HGR.out.1)).trans hS.2.1,(World.cell?_of_block (a:=⟨g0,2,none⟩) (hkz g0 HGR.out.1)).trans hS.2.2.1,(World.cell?_of_block (a:=⟨gl,0,none⟩) (hkz gl HGR.out.2.1)).trans hS.2.2.2.1,(World.cell?_of_block (a:=⟨gl,1,none⟩) (hkz gl HGR.out.2.1)).trans hS.2.2.2.2⟩
 have hBz:Below w.heap.size w ((v4.setCell ⟨gR,0,none⟩ (.slice A1 n1 c1)).setCell ⟨gR,1,none⟩ (.slice A2 n2 c2)):=((below_in HB0.out hBx).setCell (p:=⟨gR,0,none⟩) HGR.out.2.2.1 _).setCell (p:=⟨gR,1,none⟩) HGR.out.2.2.1 _
 replace hu1:=(hu1.far (p:=⟨gR,0,none⟩) (fun e=>by have h:=hu1.own_le gR e.symm;have:=HGR.out.2.2.2;omega) (.slice A1 n1 c1)).far (p:=⟨gR,1,none⟩) (fun e=>by have h:=hu1.own_le gR e.symm;have:=HGR.out.2.2.2;omega) (.slice A2 n2 c2)
 replace hu2:=(hu2.far (p:=⟨gR,0,none⟩) (fun e=>by have h:=hu2.own_le gR e.symm;have:=HGR.out.2.2.2;omega) (.slice A1 n1 c1)).far (p:=⟨gR,1,none⟩) (fun e=>by have h:=hu2.own_le gR e.symm;have:=HGR.out.2.2.2;omega) (.slice A2 n2 c2)
 obtain ⟨X1,hX1⟩:∃ zz,((v4.setCell ⟨gR,0,none⟩ (.slice A1 n1 c1)).setCell ⟨gR,1,none⟩ (.slice A2 n2 c2))=zz:=⟨_,rfl⟩
 rw [hX1] at bR hS2 hBz hu1 hu2
 clear hkz
 obtain ⟨q0,q1,q2,q3,q4⟩:=hS
 gi_wp2
 (try rw [hX1])
 clear hX1 k0 k1 f0 f1_ q0 q1 q2 q3 q4
 have hS:=hS2
 try (refine ⟨hS,?_⟩)
 refine anyHF_done (by kernel_rfl) ?_ _
 refine NoPanic.normal ?_
 have r0:=bR.cell 0
 have r1:=bR.cell 1
 simp only [gz9] at r0 r1
 clear hS
 gi_wp2_with fail
 exact ⟨.agg #[.slice A1 n1 c1,.slice A2 n2 c2],by simp [results,Tryz.results106,go_sem,r0,r1],_,_,_,_,_,_,rfl,hu1.less (by omega),hu2.less (by omega),hBz⟩
end Go.Proofs.YtcchjofjpflbhaaGreatDoor.T

namespace Go.Proofs.YtcchjofjpflbhaaGreatDoor.T
open Go.RowKit Go.Shelf Go.Maps Go.Proofs.YtcchjofjpflbhaaGreatDoor.C Go.Proofs.YtcchjofjpflbhaaGreatDoor.E Go.Proofs.YtcchjofjpflbhaaGreatDoor.Ch
attribute [local go_sem] Oper.semAt_some

def orderP (p a b:Int):List (Int×Int):=sideL (armP p a b) (armP p b a)
theorem orderP_any (p a b:Int) (hp:p∈prm) (ha:0≤a∧a<p) (hb:0≤b∧b<p) (gl:Nat) (w:World) (hL:Laid w) (hgl:gl<w.heap.size) (cA:w.cell? ⟨gl,0,none⟩=some (.int .i64 a)) (cB:w.cell? ⟨gl,1,none⟩=some (.int .i64 b)) :
 Calls Tryz.prog 58 #[.agg #[.int .i64 2,.int .i64 p,.slice (some ⟨gl,0,none⟩) 2 2]] w fun e w'=>∃ u,e = .returned u∧OwnA w' w.heap.size u (orderP p a b)∧Below w.heap.size w w':=by
 obtain ⟨w0,hw0⟩:∃ z,w.alloc (.cells #[.int .i64 2,.int .i64 p,.slice (some ⟨gl,0,none⟩) 2 2] 90)=z:=⟨_,rfl⟩
 have hBz:Below w.heap.size w w0:=by rw [←hw0];exact below_one w _
 have HA:=Lib.hid (arms_any p a b hp ha hb gl w0 (hL.next hBz) (Nat.lt_of_lt_of_le hgl hBz.size) ((hBz.cell (p:=⟨gl,0,none⟩) hgl).trans cA) ((hBz.cell (p:=⟨gl,1,none⟩) hgl).trans cB))
 have h1:(armP p a b).length≤400:=Nat.le_trans (armP_len hp) (by omega)
 have h2:(armP p b a).length≤400:=Nat.le_trans (armP_len hp) (by omega)
 have HS:=Lib.hid (fun A1 A2 c1 c2 b1 b2 (V:World)=>side_any (armP p a b) (armP p b a) h1 h2 A1 A2 c1 c2 b1 b2 V)
 have HZ:=Lib.hid hBz
 have hs0:=hBz.size
 have HW0:=Lib.hid hw0
 clear hp ha hb hL cA cB hgl h1 h2 hBz hw0
 go_enter Tryz.func58,Tryz.ntmps58
 go_wp2_with fail
 (try rw [HW0.out])
 refine HA.out.mono ?_
 rintro e w1 ⟨A1,n1,c1,A2,n2,c2,rfl,hu1,hu2,hB1⟩
 obtain rfl:n1=(armP p a b).length:=by obtain ⟨_,_,e,_⟩:=OwnA.reads hu1;injection e
 obtain rfl:n2=(armP p b a).length:=by obtain ⟨_,_,e,_⟩:=OwnA.reads hu2;injection e
 obtain ⟨N1,hN1⟩:∃ N,(armP p a b).length=N:=⟨_,rfl⟩
 obtain ⟨N2,hN2⟩:∃ N,(armP p b a).length=N:=⟨_,rfl⟩
 have hBq:=below_one w1 (.cells #[.slice A1 N1 c1,.slice A2 N2 c2] 142)
 have HU:=Lib.hid (And.intro (hu1.below (w':=w1.alloc (.cells #[.slice A1 N1 c1,.slice A2 N2 c2] 142)) hBq) (hu2.below (w':=w1.alloc (.cells #[.slice A1 N1 c1,.slice A2 N2 c2] 142)) hBq))
 have HB:=Lib.hid (And.intro hB1 hBq)
 have HN:=Lib.hid (And.intro hN1 hN2)
 rw [hN1,hN2]
 clear hu1 hu2 hB1 hBq hN1 hN2
 go_wp2_with fail
 have h9:=HS.out A1 A2 c1 c2 _ _ _ HU.out.1 HU.out.2
 rw [HN.out.1,HN.out.2] at h9
 refine h9.mono ?_
 rintro e w3 ⟨u,rfl,hu,hB3⟩
 obtain ⟨uA,un,uc,rfl⟩:=hu.form
 clear h9
 go_wp2_with fail
 go_ret
 have hsz:=HB.out.2.size
 have hsz1:=HB.out.1.size
 exact ⟨_,rfl,hu.less (by omega),below_in (below_in (below_in HZ.out HB.out.1) HB.out.2) hB3⟩
theorem enter_pOrder1:∀ args W,(callFunc 57 args).run Tryz.prog W = .ok (.enter 57 args) W:=enters_of Tryz.func57 (by kernel_rfl) rfl
theorem good_pr {p a b:Int} (ha:0≤a) (hab:a<b) (hb:b<p):∀ i,i < [a,b].length→Pr.GoodL p [a,b] i:=by
 intro i hi
 have hi2:i=0∨i=1:=by simp at hi;omega
 rcases hi2 with rfl | rfl
 · exact ⟨⟨ha,by show a<p;omega⟩,.inl rfl⟩
 · exact ⟨⟨by show 0≤b;omega,hb⟩,.inr hab⟩
theorem pOrder_yes (p a b:Int) (hp:p∈prm) (ha:0≤a) (hab:a<b) (hb:b<p) (w:World) (hL:Laid w) :
 Calls Tryz.prog 19 #[.int .i64 p,.int .i64 a,.int .i64 b] w fun e w'=>∃ u,e = .returned (.tuple #[u,.int .i64 0])∧OwnA w' w.heap.size u (orderP p a b)∧Below w.heap.size w w':=by
 obtain ⟨W2,hW2⟩:∃ x,((w.alloc (.cells #[.int .i64 p] 3)).alloc (.cells #[.int .i64 a] 3)).alloc (.cells #[.int .i64 b] 3)=x:=⟨_,rfl⟩
 have b0:Blk W2 (w.heap.size) 3 #[.int .i64 p]:=by rw [←hW2];exact ((Blk.new w _ _).alloc _).alloc _
 have b1:Blk W2 (w.heap.size+1) 3 #[.int .i64 a]:=by rw [←hW2];exact (Blk.second w _ _ _).alloc _
 have b2:Blk W2 (w.heap.size+1+1) 3 #[.int .i64 b]:=by rw [←hW2];exact Rg.Blk.at_ (Blk.new _ _ _) (by simp)
 have hBW:Below w.heap.size w W2:=by rw [←hW2];exact ((below_two w _ _)).alloc (by simp;omega) _
 obtain ⟨W2b,hW2b⟩:∃ x,w.heap.size=x:=⟨_,rfl⟩
 obtain ⟨W2c,hW2c⟩:∃ x,w.heap.size+1=x:=⟨_,rfl⟩
 obtain ⟨W2d,hW2d⟩:∃ x,w.heap.size+1+1=x:=⟨_,rfl⟩
 have HA:=Lib.hid (Pr.ans_A_yes 57 #[.pointer (some ⟨w.heap.size,0,none⟩),.pointer (some ⟨w.heap.size+1,0,none⟩),.pointer (some ⟨w.heap.size+1+1,0,none⟩)] W2 (fun u W=>∃ x y z,u = .slice x y z∧OwnA W (W2.heap.size+1) u (orderP p a b)) (enter_pOrder1 _) (fun U hU bU=>by
  have hBU:=below_in hBW hU
  have hltU:=bU.lt
  have k0:=(b0.below hU b0.lt).one
  have k1:=(b1.below hU b1.lt).one
  have k2:=(b2.below hU b2.lt).one
  have HUL:=Lib.hid (fun (V:World) (hV:Below U.heap.size U V)=>hL.next (below_in hBU hV))
  have HLO:=Lib.hid (fun (V:World) (g:Nat) (hV:Below U.heap.size U V) (bE:Blk V g 3 #[.int .i64 a,.int .i64 b])=>Pr.losing_yes p hp g [a,b] (by simp) (good_pr ha hab hb) V (HUL.out V hV) bE.lt (two_cells bE))
  have HOR:=Lib.hid (fun (V:World) (g:Nat) (hV:Below U.heap.size U V) (bE:Blk V g 3 #[.int .i64 a,.int .i64 b])=>orderP_any p a b hp ⟨ha,by omega⟩ ⟨by omega,hb⟩ g V (HUL.out V hV) bE.lt (bE.cell 0) (bE.cell 1))
  have hBe:=below_one U (.cells #[.int .i64 a,.int .i64 b] 3)
  have bE:=Blk.new U 3 #[.int .i64 a,.int .i64 b]
  clear b0 b1 b2 hW2 hL hW2d hW2c hW2b hp ha hab hb bU
  go_enter Tryz.func57,Tryz.ntmps57
  go_wp2_with fail
  refine (HLO.out _ _ hBe bE).mono ?_
  rintro e w5 ⟨rfl,hB5⟩
  have hBx:=below_in hBe hB5
  replace bE:=bE.below hB5 bE.lt
  go_wp2_with fail
  refine (HOR.out _ _ hBx bE).mono ?_
  rintro e w6 ⟨u,rfl,hu,hB6⟩
  obtain ⟨uA,un,uc,rfl⟩:=hu.form
  have hsx:=hBx.size
  go_wp2_with fail
  go_ret
  exact ⟨_,rfl,⟨uA,un,uc,rfl,hu.less (by omega)⟩,below_in hBx hB6⟩))
 clear b0 b1 b2 hL hW2d hW2c hW2b hp ha hab hb
 go_enter Tryz.func19,Tryz.ntmps19
 have hmf:∀ (fn:Fn) (first cap:Array Value) (w:World),(Instr.makeFunc fn first cap).run Tryz.prog w = .ok (.func fn first cap) w:=fun _ _ _ _=>rfl
 go_wp2_with (go_at_call 56;refine HA.out.mono ?_;rintro e w1 ⟨u,W,rfl,⟨uA,un,uc,rfl,hu⟩,bE,rfl,hB1⟩)
 go_ret2
 exact ⟨_,rfl,(hu.far (p:=⟨W2.heap.size,0,none⟩) (by show some W2.heap.size≠_;exact fun e=>by have:=hu.own_le _ e.symm;omega) _).less (by have:=hBW.size;omega),below_in hBW hB1⟩
end Go.Proofs.YtcchjofjpflbhaaGreatDoor.T

namespace Go.Proofs.YtcchjofjpflbhaaGreatDoor.T
open Go.RowKit Go.Shelf Go.Maps Go.Proofs.YtcchjofjpflbhaaGreatDoor.C Go.Proofs.YtcchjofjpflbhaaGreatDoor.E
attribute [local go_sem] Oper.semAt_some

theorem pUpon_any {B:Nat} (v:Value) (ls:List (List UInt8)) (w:World) (hB:B≤w.heap.size) (hM:Many B w v ls) (hls:ls.length≤1000) (hok:XorOk ls) :
 Calls Tryz.prog 120 #[v] w fun e w'=>∃ u,e = .returned u∧Fresh w.heap.size w' u (xorOf ls)∧Below w.heap.size w w':=by
 have HX:=Lib.hid (xor_yes ls v w hB hM (by omega) hok)
 obtain ⟨A,cap,rfl,_,_⟩:=id hM
 clear hM hok hls
 generalize ls.length=n at *
 go_enter Tryz.func120,Tryz.ntmps120
 go_wp2_with (first
  | (go_at_call 177;refine HX.out.mono ?_;rintro e w1 ⟨u,rfl,hF,hB1⟩)
  | (go_at_call 115;refine (Pr.sureB _ _).mono ?_;rintro e w2 ⟨rfl,rfl⟩))
 go_ret
 exact ⟨_,rfl,hF,hB1⟩
theorem inRow_any (dv nv:Value) (p:Int) (A:Option Addr) (k c gr orr nr cr:Nat) (x:Int) (i:Nat) (hi:i<nr) (hn:nr≤1000) (w:World) (hg:gr<w.heap.size) (uA:Option Addr) (un uc:Nat) (hc:w.cell? ⟨gr,orr+i,none⟩=some (.slice uA un uc)) :
 Calls Tryz.prog 123 #[.agg #[.int .i64 2,.int .i64 p,.slice A k c,.slice (some ⟨gr,orr,none⟩) nr cr,dv,nv],.agg #[.int .i64 x,.int .i64 (i:Int)]] w fun e w'=>e = .returned (.slice uA un uc)∧Below w.heap.size w w':=by
 obtain ⟨w0,hw0⟩:∃ zz,(w.alloc (.cells #[.int .i64 2,.int .i64 p,.slice A k c,.slice (some ⟨gr,orr,none⟩) nr cr,dv,nv] 99)).alloc (.cells #[.int .i64 x,.int .i64 (i:Int)] 31)=zz:=⟨_,rfl⟩
 have hB:Below w.heap.size w w0:=by rw [←hw0];exact below_two w _ _
 have hc0:=nextc hc hB
 have i0:(0:Int)≤(i:Int):=by omega
 have i1:(i:Int)<(nr:Int):=by omega
 have b0:Blk w0 w.heap.size 99 #[.int .i64 2,.int .i64 p,.slice A k c,.slice (some ⟨gr,orr,none⟩) nr cr,dv,nv]:=by rw [←hw0];exact (Blk.new w _ _).alloc _
 have b1:Blk w0 (w.heap.size+1) 31 #[.int .i64 x,.int .i64 (i:Int)]:=by rw [←hw0];exact Blk.second w _ _ _
 have k3:=b0.cell 3
 have k1:=b1.cell 1
 simp only [gz9] at k3 k1
 clear b0 b1
 go_enter Tryz.func123,Tryz.ntmps123
 go_wp2
 (try rw [hw0])
 go_ret
 exact ⟨rfl,hB⟩
theorem onDiagonal_any (rv nv:Value) (P:Nat) (hp:(P:Int)∈prm) (A:Option Addr) (k c gd od nd cd:Nat) (x y:Int) (hxy:-1000≤x+y∧x+y≤1000) (dg:Nat) (hdg:(x+y) % (P:Int)=(dg:Int)) (hi:dg<nd) (hn:nd≤1000) (w:World) (hL:Laid w) (hg:gd<w.heap.size) (uA:Option Addr) (un uc:Nat) (hc:w.cell? ⟨gd,od+dg,none⟩=some (.slice uA un uc)) :
 Calls Tryz.prog 122 #[.agg #[.int .i64 2,.int .i64 (P:Int),.slice A k c,rv,.slice (some ⟨gd,od,none⟩) nd cd,nv],.agg #[.int .i64 x,.int .i64 y]] w fun e w'=>e = .returned (.slice uA un uc)∧Below w.heap.size w w':=by
 obtain ⟨w0,hw0⟩:∃ zz,(w.alloc (.cells #[.int .i64 2,.int .i64 (P:Int),.slice A k c,rv,.slice (some ⟨gd,od,none⟩) nd cd,nv] 99)).alloc (.cells #[.int .i64 x,.int .i64 y] 31)=zz:=⟨_,rfl⟩
 obtain ⟨g0,hg0⟩:∃ zz,w.heap.size=zz:=⟨_,rfl⟩
 obtain ⟨g1,hg1⟩:∃ zz,g0+1=zz:=⟨_,rfl⟩
 have b0:Blk w0 g0 99 #[.int .i64 2,.int .i64 (P:Int),.slice A k c,rv,.slice (some ⟨gd,od,none⟩) nd cd,nv]:=by rw [←hw0,←hg0];exact (Blk.new w _ _).alloc _
 have b1:Blk w0 g1 31 #[.int .i64 x,.int .i64 y]:=by rw [←hw0,←hg1,←hg0];exact Blk.second w _ _ _
 have hB0:Below w.heap.size w w0:=by rw [←hw0];exact below_two w _ _
 have HSS:Hid (∀ V,Below w0.heap.size w0 V→(fun U:World=>U.cell? ⟨g0,0,none⟩=some (.int .i64 2)∧U.cell? ⟨g0,1,none⟩=some (.int .i64 (P:Int))∧U.cell? ⟨g0,2,none⟩=some (.slice A k c)∧U.cell? ⟨g0,4,none⟩=some (.slice (some ⟨gd,od,none⟩) nd cd)∧U.cell? ⟨g1,0,none⟩=some (.int .i64 x)∧U.cell? ⟨g1,1,none⟩=some (.int .i64 y)∧U.cell? ⟨gd,od+dg,none⟩=some (.slice uA un uc)) V):=fun V hV=>⟨(b0.below hV b0.lt).cell 0,(b0.below hV b0.lt).cell 1,(b0.below hV b0.lt).cell 2,(b0.below hV b0.lt).cell 4,(b1.below hV b1.lt).cell 0,(b1.below hV b1.lt).cell 1,nextc (nextc hc hB0) hV⟩
 have HDG:=Lib.hid (fun (V:World) (hV:Below w0.heap.size w0 V)=>Pr.diagonal_any (P:Int) x y hp hxy A k c V (hL.next (below_in hB0 hV)))
 rw [hdg] at HDG
 have i0:(0:Int)≤(dg:Int):=by omega
 have i1:(dg:Int)<(nd:Int):=by omega
 have HB0:=Lib.hid hB0
 have HG:=Lib.hid (And.intro hg0 hg1)
 have HW0:=Lib.hid hw0
 clear hp hL hc hB0 b0 b1 hg0 hg1 hw0 hg hdg hxy
 refine (callsIn_wide (n:=9)).1 ?_
 refine callsIn_of_wp_marks Tryz.func122 rfl trivial ?_ rfl
 simp only [Tryz.ntmps122,List.size_toArray,List.length_cons,List.length_nil,Nat.reduceAdd,Nat.reduceSub,Array.replicate_succ,Array.replicate_zero,List.push_toArray,List.append_toArray,List.nil_append,List.cons_append]
 gi_wp2_with fail
 (try rw [HG.out.1]);(try rw [HG.out.2]);(try rw [HW0.out])
 have hBx:=(Below.refl w0.heap.size w0).drew
 have hS:=HSS.out _ hBx
 refine wpIn_mono (region_HF (Q:=NoPanic _) (S:=(fun U:World=>U.cell? ⟨g0,0,none⟩=some (.int .i64 2)∧U.cell? ⟨g0,1,none⟩=some (.int .i64 (P:Int))∧U.cell? ⟨g0,2,none⟩=some (.slice A k c)∧U.cell? ⟨g0,4,none⟩=some (.slice (some ⟨gd,od,none⟩) nd cd)∧U.cell? ⟨g1,0,none⟩=some (.int .i64 x)∧U.cell? ⟨g1,1,none⟩=some (.int .i64 y)∧U.cell? ⟨gd,od+dg,none⟩=some (.slice uA un uc))) (by kernel_rfl) ?_) NoPanic.imp
 refine tkF (i:=0) (d:=5) (v:=.pointer (some ⟨g0,4,none⟩)) (s:=hS) (c:=?_)
 simp only [ud9]
 refine tkF (i:=1) (d:=6) (v:=.slice (some ⟨gd,od,none⟩) nd cd) (s:=hS) (c:=?_)
 simp only [ud9]
 refine tkF (i:=2) (d:=7) (v:=.pointer (some ⟨g0,0,none⟩)) (s:=hS) (c:=?_)
 simp only [ud9]
 refine tkF (i:=3) (d:=8) (v:=.agg #[.int .i64 2,.int .i64 (P:Int),.slice A k c]) (s:=hS) (c:=?_)
 simp only [ud9]
 refine tkF (i:=4) (d:=9) (v:=.agg #[.int .i64 x,.int .i64 y]) (s:=hS) (c:=?_)
 simp only [ud9]
 refine oneF (i:=5) (c:=?_)
 gi_wp2_with fail
 refine ⟨trivial,(callsIn_wide.2 (HDG.out _ hBx)).mono ?_⟩
 rintro e v1 ⟨rfl,hB⟩
 replace hBx:=below_in hBx hB
 clear hS
 have hS:(fun U:World=>U.cell? ⟨g0,0,none⟩=some (.int .i64 2)∧U.cell? ⟨g0,1,none⟩=some (.int .i64 (P:Int))∧U.cell? ⟨g0,2,none⟩=some (.slice A k c)∧U.cell? ⟨g0,4,none⟩=some (.slice (some ⟨gd,od,none⟩) nd cd)∧U.cell? ⟨g1,0,none⟩=some (.int .i64 x)∧U.cell? ⟨g1,1,none⟩=some (.int .i64 y)∧U.cell? ⟨gd,od+dg,none⟩=some (.slice uA un uc)) v1:=HSS.out _ hBx
 clear hB
 gi_wp2
 try (refine ⟨hS,?_⟩)
 refine tkF (i:=6) (d:=11) (v:=.pointer (some ⟨gd,od+dg,none⟩)) (s:=hS) (c:=?_)
 simp only [ud9]
 refine tkF (i:=7) (d:=12) (v:=.slice uA un uc) (s:=hS) (c:=?_)
 simp only [ud9]
 refine oneF (i:=8) (c:=?_)
 gi_wp2
 refine anyHF_done (by kernel_rfl) ?_ _
 refine NoPanic.normal ?_
 clear hS
 gi_wp2_with fail
 exact ⟨_,by simp [results,Tryz.results122,go_sem],rfl,below_in HB0.out hBx⟩
end Go.Proofs.YtcchjofjpflbhaaGreatDoor.T

namespace Go.Proofs.YtcchjofjpflbhaaGreatDoor.T
open Go.RowKit Go.Shelf Go.Maps Go.Proofs.YtcchjofjpflbhaaGreatDoor.C Go.Proofs.YtcchjofjpflbhaaGreatDoor.E Go.Proofs.YtcchjofjpflbhaaGreatDoor.Ch
attribute [local go_sem] Oper.semAt_some

theorem two_of (l:List (Int×Int)) (h:l.length % 2=0) (j:Nat) (hj:2 * j<l.length):∃ x y,(l.drop (2 * j)).take 2 = [x,y]∧(∀ i u,(codeCells [x,y])[i]?=some u→(codeCells l)[2 * j * 2+i]?=some u):=by
 have hlen:((l.drop (2 * j)).take 2).length=2:=by rw [List.length_take,List.length_drop];omega
 rcases hq:(l.drop (2 * j)).take 2 with _ | ⟨x,_ | ⟨y,_ | ⟨z,t⟩⟩⟩
 · rw [hq] at hlen;cases hlen
 · rw [hq] at hlen;cases hlen
 · exact ⟨x,y,rfl,fun i u hi=>codeCells_cut l (2 * j) i u (by rw [hq];exact hi)⟩
 · rw [hq] at hlen;simp at hlen
theorem own_cells {W:World} {base:Nat} {A:Option Addr} {n c:Nat} {l:List (Int×Int)} (h:OwnA W base (.slice A n c) l) (hne:0<l.length):∃ g,A=some ⟨g,0,none⟩∧base≤g∧g<W.heap.size∧∀ i u,(codeCells l)[i]?=some u→W.cell? ⟨g,i,none⟩=some u:=by
 obtain ⟨h1,h2⟩:=h
 rcases h2 with ⟨e,h0⟩ | ⟨g,cap,cur,e,hb,hh,hc,hcm,hcs,ht⟩
 · omega
 · injection e with e1 _ _
   refine ⟨g,e1,hb,(Array.getElem?_eq_some_iff.1 hh).1,fun j u hj=>?_⟩
   rw [←ht,List.getElem?_take] at hj
   split at hj
   · simp only [World.cell?,hh]
     rw [←hj]
     simp
   · cases hj
end Go.Proofs.YtcchjofjpflbhaaGreatDoor.T

namespace Go.Proofs.YtcchjofjpflbhaaGreatDoor.T
open Go.RowKit Go.Shelf Go.Maps Go.Proofs.YtcchjofjpflbhaaGreatDoor.C Go.Proofs.YtcchjofjpflbhaaGreatDoor.E Go.Proofs.YtcchjofjpflbhaaGreatDoor.Ch
attribute [local go_sem] Oper.semAt_some

theorem num12_any (n:Int) (w:World):Calls Tryz.prog 20 #[.int .i64 n] w fun e w'=>e = .returned (.int .i64 n)∧w=w':=by
 go_enter Tryz.func20,Tryz.ntmps20
 go_wp2
 go_ret
 exact ⟨rfl,rfl⟩
end Go.Proofs.YtcchjofjpflbhaaGreatDoor.T

namespace Go.Proofs.YtcchjofjpflbhaaGreatDoor.T
open Go.RowKit Go.Shelf Go.Maps Go.Proofs.YtcchjofjpflbhaaGreatDoor.C Go.Proofs.YtcchjofjpflbhaaGreatDoor.E Go.Proofs.YtcchjofjpflbhaaGreatDoor.Ch
attribute [local go_sem] Oper.semAt_some

theorem wpIn_rangeBoxP {α:Type} {F:Fence} {n:Nat} {P:Program} {g:Operand} {ps:Array Tmp} {assign body:Code} {Q:Exit→Act→World→Prop} {a:Act} {w:World}
 (hro:F.round=none) (h1:1≤n) {gf:Nat} {lb:Array Value} (hg:a.eval g = .func (.func gf) #[] lb) (hFg:F.fn gf) (eg:∀ args w,(callFunc gf args).run P w = .ok (.enter gf args) w)
 {encs:α→Array Value} {Ok:List α→α→World→Prop} {Kp:World→World→Prop} {S Sp:List α→Prop} {N:Nat} {w0:World} (hseq:SeqT F (n - 1) P gf lb encs Ok Kp S Sp N w0)
 (hKt:∀ {A B C:World},Kp A B→Kp B C→Kp A C) (hKb:∀ (W:World) (l:Nat) (ob:Obj),w.heap.size≤l→l<W.heap.size→(∃ r,W.heap[l]?=some (.loop r))→Kp W (W.putObj l ob)) (hb0:Below w0.heap.size w0 w) (hps:∀ x,(encs x).size=ps.size)
 (I:List α→(Nat→Prop)→World→Prop) (Ix:Code→List α→(Nat→Prop)→World→Prop) (hI:FarO w.heap.size I) (hIx:∀ c,FarO w.heap.size (Ix c)) (o₀:(Nat→Prop)) (ho₀:∀ b,o₀ b→b<w.heap.size) (h0:I [] o₀ w)
 (Pr:List α→α→Prop) (hPr:∀ pre x W,Ok pre x W→Pr pre x) (t:TypeId) (cs:α→Array Value) (a₁:α→Nat→Act)
 (hassign:∀ (l:Nat) (pre:List α) (x:α) (o:(Nat→Prop)) (W:World) (K:Act→World→Prop),w.heap.size≤W.heap.size→(∀ b,o b→b<W.heap.size)→I pre o W→Ok pre x W→(∀ Bx W',SinceO w.heap.size o W W'→Kp W W'→I pre o W'→Blk W' Bx t (cs x)→¬ o Bx→w.heap.size≤Bx→K (a₁ x Bx) W') →
  assign.wpIn (F.inRound l) (n - 1 - 1) P (Exit.then K (fun _ _ _=>False)) { tmps:=(ps.zip (encs x)).foldl (fun t (p,v)=>t.setIfInBounds p v) a.tmps,defers:=[] } W)
 (hrow:∀ pre o W,I pre o W→RowO o W) (hrowx:∀ c pre o W,Ix c pre o W→RowO o W)
 (hbody:∀ (l:Nat) (pre:List α) (x:α) (o:(Nat→Prop)) (Bx:Nat) (W:World),w.heap.size≤W.heap.size→I pre o W→Blk W Bx t (cs x)→¬ o Bx→w.heap.size≤Bx→Pr pre x→pre.length<N →
  body.wpIn (F.inRound l) (n - 1 - 1) P (postT w.heap.size Kp I Ix (pre ++ [x]) o W) (a₁ x Bx) W)
 (hdone:∀ (D:Nat) (xs:List α) (o:(Nat→Prop)) (W:World),w.heap.size≤D→FreshO o₀ o w→S xs→I xs o W→W.heap[D]?=some (.deferred (some []))→¬ o D→Q .normal { a with defers:={ target:=.collected D,args:=#[] } :: a.defers } W)
 (hstop:∀ (D:Nat) (c:Code) (pre:List α) (o:(Nat→Prop)) (W:World),w.heap.size≤D→FreshO o₀ o w→Sp pre→Ix c pre o W→W.heap[D]?=some (.deferred (some []))→¬ o D→c.wpIn F n P Q { a with defers:={ target:=.collected D,args:=#[] } :: a.defers } W) :
 (Code.rangeFunc g ps assign body).wpIn F n P Q a w :=
 wpIn_rangeT hro h1 hg hFg eg hseq hKt hKb hb0 hps I Ix hI hIx o₀ ho₀ h0 (fun pre x o a' W=>∃ Bx,Blk W Bx t (cs x)∧¬ o Bx∧w.heap.size≤Bx∧Pr pre x∧a'=a₁ x Bx)
  (fun _ x o a' W l ob r hl _ _ ⟨Bx,hb,hne,hle,hp,e⟩=>⟨Bx,(World.putObj_heap_other (fun e2=>by unfold Blk at hb;rw [e2,hl] at hb;cases hb)).trans hb,hne,hle,hp,e⟩)
  (fun l pre x o W K hs hol hi hok hK=>hassign l pre x o W K hs hol hi hok fun Bx W' h2 h3 h4 h5 h6 h7=>hK _ _ h2 h3 h4 ⟨Bx,h5,h6,h7,hPr _ _ _ hok,rfl⟩) hrow hrowx
  (fun l pre x o a' W hs hi ⟨Bx,hb,hne,hle,hp,e⟩ hlt=>by subst e;exact hbody l pre x o Bx W hs hi hb hne hle hp hlt) hdone hstop
def TurnC (w w8:World) (g1 g2 g3:Nat) (many:Int) (Aw:Option Addr) (nw cw:Nat) (Lp:List (Int×Int)) (V:World):Prop :=
 Blk V g1 3 #[.int .i64 many]∧Blk V g2 4 #[.bool false]∧Blk V g3 23 #[.slice Aw nw cw]∧ReadA V (.slice Aw nw cw) Lp∧Below w.heap.size w V∧Below w8.heap.size w8 V
theorem TurnC.next {w w8 V V':World} {g1 g2 g3 nw cw:Nat} {many:Int} {Aw:Option Addr} {Lp:List (Int×Int)} (h:TurnC w w8 g1 g2 g3 many Aw nw cw Lp V) (hB:Below V.heap.size V V'):TurnC w w8 g1 g2 g3 many Aw nw cw Lp V':=by
 obtain ⟨h1,h2,h3,h4,h5,h6⟩:=h
 exact ⟨h1.below hB h1.lt,h2.below hB h2.lt,h3.below hB h3.lt,h4.next hB,below_in h5 hB,below_in h6 hB⟩
end Go.Proofs.YtcchjofjpflbhaaGreatDoor.T

namespace Go.Proofs.YtcchjofjpflbhaaGreatDoor.T
open Go.RowKit Go.Shelf Go.Maps Go.Proofs.YtcchjofjpflbhaaGreatDoor.C Go.Proofs.YtcchjofjpflbhaaGreatDoor.E Go.Proofs.YtcchjofjpflbhaaGreatDoor.Ch
attribute [local go_sem] Oper.semAt_some

theorem lawArm_any (p x y:Int) (L:List (Int×Int)) (hl:L.length≤100) (w:World) (hL:Laid w) (HA:Hid (∀ V,Laid V→Calls Tryz.prog 17 #[.int .i64 p,.int .i64 x,.int .i64 y] V fun e w'=>∃ v,e = .returned v∧PlacesT V.heap.size L v w'∧Below V.heap.size V w')) :
 Calls Tryz.prog 34 #[.int .i64 p,.int .i64 x,.int .i64 y] w fun e w'=>∃ u,e = .returned u∧OwnA w' w.heap.size u L∧Below w.heap.size w w':=by
 obtain ⟨w0,hw0⟩:∃ z,w.alloc (.cells #[.slice none 0 0] 23)=z:=⟨_,rfl⟩
 obtain ⟨g1,hg1⟩:∃ z,w.heap.size=z:=⟨_,rfl⟩
 have b10:Blk w0 g1 23 #[.slice none 0 0]:=by rw [←hw0,←hg1];exact Blk.new w _ _
 have hB0:Below w.heap.size w w0:=by rw [←hw0];exact below_one w _
 have hL0:=hL.next hB0
 have HLe:=Lib.hid hl
 have HLW:=Lib.hid hL
 have HG1:=Lib.hid hg1
 clear hl hL
 refine (callsIn_wide (n:=9)).1 ?_
 refine callsIn_of_wp_marks Tryz.func34 rfl trivial ?_ rfl
 simp only [Tryz.ntmps34,List.size_toArray,List.length_cons,List.length_nil,Nat.reduceAdd,Nat.reduceSub,Array.replicate_succ,Array.replicate_zero,List.push_toArray,List.append_toArray,List.nil_append,List.cons_append]
 gi_wp2_with fail
 (try rw [hg1]);(try rw [hw0])
 refine ⟨trivial,(callsIn_wide.2 (HA.out _ hL0)).mono ?_⟩
 rintro e w1 ⟨v1,rfl,⟨gf0,lb0,rfl,_,heq,_⟩,hB1⟩
 have hL1:=hL0.next hB1
 gi_wp2_with fail
 refine ⟨trivial,(callsIn_wide.2 (HA.out _ hL1)).mono ?_⟩
 rintro e w2 ⟨v2,rfl,⟨gf,lb,rfl,eg,_,hgo⟩,hB2⟩
 have b1:=(b10.below hB1 b10.lt).below hB2 (b10.below hB1 b10.lt).lt
 have hB7:=below_in (below_in hB0 hB1) hB2
 have hs2:=hB2.size
 have hs1:=hB1.size
 have hs0:=b10.lt
 have hsw:=hB0.size
 clear hB0 hB1 hB2 b10 hL0 hL1 heq hw0
 gi_wp2_with fail
 refine wpIn_rangeBoxP rfl (by omega) (gf:=gf) (lb:=lb) rfl trivial eg (hgo _ (by omega)) (fun h h'=>h.trans h') (fun X l o hl _ _=>⟨Keep.putFar X (by omega) o,laid_put HLW.out (by omega) o⟩) (Below.refl _ _) (fun _=>rfl)
  (fun pre oX X=>∃ v,Blk X g1 23 #[v]∧OwnA X w2.heap.size v pre∧(oX=fun b=>v.ownBlock=some b)∧Below w.heap.size w X∧w2.heap.size≤X.heap.size)
  (fun _ _ _ _=>False) ?hI (fun c s o X Y row hs _ _=>hs) (fun b=>(Value.slice none 0 0).ownBlock=some b) (fun b e=>by cases e) ⟨_,b1,ownA_nil _ _,rfl,hB7,Nat.le_refl _⟩
  (fun pre x=>pre ++ [x] <+: L) (fun _ _ _ h=>h) 31 (fun x:Int×Int=>#[.int .i64 x.1,.int .i64 x.2]) (fun e Bx=>{ tmps:=#[.int .i64 p,.int .i64 x,.int .i64 y,undef,undef,undef,.slice none 0 0,.pointer (some ⟨g1,0,none⟩),.pointer (some ⟨Bx,0,none⟩),.int .i64 p,.int .i64 x,.int .i64 y,.func (.func gf0) #[] lb0,.bool false,.int .i64 p,.int .i64 x,.int .i64 y,.func (.func gf) #[] lb,.agg #[.int .i64 e.1,.int .i64 e.2],undef,undef,undef,undef,undef,undef,undef,undef],defers:=[] })
  ?assign (fun pre o X h=>by obtain ⟨v,_,ho,rfl,_⟩:=h;exact ho.rowT) (fun c pre o X h=>h.elim) ?body ?done (fun D c pre o X _ _ _ h=>h.elim)
 case hI =>
  rintro s o X Y row ⟨v,hb1,ho,rfl,hBX,hsz⟩ hgr hr
  have hg:=HG1.out
  have hne:∀ g,g<w2.heap.size→some g≠row:=fun g hg e=>by have:=(hr g e.symm).1;omega
  refine ⟨v,hb1.grown hgr (hne _ (by omega)),ho.kept hgr ?_,rfl,hBX.grown hgr hBX.size (fun r e=>by have:=(hr r e).1;omega),Nat.le_trans hsz hgr.size⟩
  cases hrow:row with
  | none=>exact (Option.eq_none_or_eq_some v.ownBlock).imp id (fun ⟨x,hx⟩=>by rw [hx];simp)
  | some r=>exact .inr (fun e=>(hr r hrow).2 e)
 case assign =>
  rintro l' pre x o X KK hsz hol ⟨v,hb1,ho,rfl,hBX,hge⟩ _ hKK
  simp only [encA]
  gi_wp2
  have hbx:=Blk.new X 31 #[.int .i64 x.1,.int .i64 x.2]
  have hBz:=below_one X (.cells #[.int .i64 x.1,.int .i64 x.2] 31)
  have hne:¬ v.ownBlock=some X.heap.size:=fun e=>by have:=hol _ e;omega
  have hKe:KeepG w1.heap.size (w2.heap.size - w1.heap.size) X (X.alloc (.cells #[.int .i64 x.1,.int .i64 x.2] 31)):=⟨Keep.alloc (by have:=hBX.size;omega) _,fun h=>h.next hBz⟩
  have hI2:∃ v',Blk (X.alloc (.cells #[.int .i64 x.1,.int .i64 x.2] 31)) g1 23 #[v']∧OwnA (X.alloc (.cells #[.int .i64 x.1,.int .i64 x.2] 31)) (w2.heap.size) v' pre∧((fun b=>v.ownBlock=some b)=fun b=>v'.ownBlock=some b)∧Below w.heap.size w (X.alloc (.cells #[.int .i64 x.1,.int .i64 x.2] 31))∧w2.heap.size≤(X.alloc (.cells #[.int .i64 x.1,.int .i64 x.2] 31)).heap.size :=
   ⟨v,hb1.below hBz hb1.lt,ho.below hBz,rfl,below_in hBX hBz,Nat.le_trans hge hBz.size⟩
  exact hKK X.heap.size _ (SinceO.below hBz) hKe hI2 hbx hne hsz
 case body =>
  rintro l' pre x o Bx X hsz ⟨v,hb1,ho,rfl,hBX,hge⟩ hbx hnBx hle hpx hlz
  obtain ⟨vA,vn,vc,rfl⟩:=ho.form
  have hg:=HG1.out
  have hvn:∀ g,g<w2.heap.size→(Value.slice vA vn vc).ownBlock≠some g:=fun g hgl e=>by have:=ho.own_le g e;omega
  have k1:=hb1.one
  have k2:=hbx.cell 0
  have k3:=hbx.cell 1
  have f1:=hb1.frozen 0
  simp only [gz9] at k2 k3
  have hBz:=below_one X (.cells #[.int .i64 x.1,.int .i64 x.2] 31)
  have bz:=Blk.new X 31 #[.int .i64 x.1,.int .i64 x.2]
  have hoz:=Lib.hid (ho.below hBz)
  have hb1z:=hb1.below hBz hb1.lt
  have HK:=Lib.hid (And.intro (And.intro hb1 hb1z) (And.intro hBX (And.intro hBz bz)))
  have HVN:=Lib.hid hvn
  have HOL:=Lib.hid (fun k e=>ho.own_le k e)
  have HLEN:Hid (pre.length≤1000000):=by unfold Hid;omega
  have hlt1:=hb1.lt
  have hltx:=hbx.lt
  clear hb1 hb1z hBX hBz bz ho hvn
  have hLe:=HLe.out
  have hpl:=List.IsPrefix.length_le hpx
  rw [List.length_append] at hpl
  simp only [List.length_cons,List.length_nil] at hpl
  gi_wp2_with (gi_at_builtin;refine wpListIn_pushA _ rfl _ _ rfl w2.heap.size (.slice vA vn vc) _ rfl hoz.out X.heap.size x.1 x.2 rfl HK.out.2.2.2 HLEN.out (by simp;omega) ?_;intro v' wb hrow hgr hor;obtain ⟨vA2,vn2,vc2,rfl⟩:=hrow.form;have h1b:=HK.out.1.2.grown hgr (fun e=>HVN.out g1 (by omega) e.symm);have k1:=h1b.one;have f1:=h1b.frozen 0;obtain rfl:vn2=pre.length+1:=(by obtain ⟨_,_,e5,_⟩:=OwnA.reads hrow;injection e5 with _ e6 _;rw [e6,List.length_append];rfl);have hdg:decide ((100:Int)<(pre.length:Int)+1)=false:=decide_eq_false (by omega))
  have hBz:=HK.out.2.2.1
  have hBX:=HK.out.2.1
  have hvn:=HVN.out
  have hsz':=hgr.size
  have hsz2:=hBz.size
  have hBV':Below w.heap.size w wb:=below_grown (below_in hBX hBz) hgr (by have:=hBX.size;omega) (fun k e=>by have:=HOL.out k e;omega)
  have hBq0:=hBV'.setCell (p:=⟨g1,0,none⟩) (by show w.heap.size≤g1;omega) (.slice vA2 (pre.length+1) vc2)
  have hBq:Below g1 w (wb.setCell ⟨g1,0,none⟩ (.slice vA2 (pre.length+1) vc2)):=by rw [hg] at hBq0;exact hBq0
  refine ⟨fun b=>(Value.slice vA2 (pre.length+1) vc2).ownBlock=some b,fun b e=>?_,⟨by simp;omega,fun b h2 h3 h4=>?_⟩,⟨⟨by simp;omega,fun b h2 h3=>?_⟩,fun hLX=>?_⟩,_,h1b.set_ 0 _,?_,rfl,hBq,by simp;omega⟩
  · rcases hor with hu | hu
    · exact .inl (by rw [←hu];exact e)
    · rw [hu] at e;injection e with e;exact .inr (by have:(X.alloc (.cells #[.int .i64 x.1,.int .i64 x.2] 31)).heap.size=X.heap.size+1:=(by simp);omega)
  · rw [Below.heap_setCell wb _ _ b (by show b≠g1;omega),hgr.block b (by omega) (fun e=>h4 e.symm),hBz.block b h3]
  · rw [Below.heap_setCell wb _ _ b (by show b≠g1;omega),hgr.block b (by omega) (fun e=>by have:=HOL.out b e.symm;omega),hBz.block b (by omega)]
  · exact laid_grownG HLW.out (laid_grownG HLW.out (hLX.next hBz) hgr (fun r e=>by have:=HOL.out r e;omega)) (grownBy_setCell' _ _ _) (fun r e=>by injection e with e;subst e;show w.heap.size≤g1;omega)
  · have hq:=hrow.far (p:=⟨g1,0,none⟩) (by
     show some g1≠(Value.slice vA2 (pre.length+1) vc2).ownBlock
     rcases hor with hu | hu
     · rw [hu];exact fun e=>hvn g1 (by omega) e.symm
     · rw [hu];intro e;injection e with e;have:(X.alloc (.cells #[.int .i64 x.1,.int .i64 x.2] 31)).heap.size=X.heap.size+1:=(by simp);omega) (.slice vA2 (pre.length+1) vc2)
    first | exact hq | (rw [hg] at hq;exact hq)
 case done =>
  rintro D xs oX X hD _ rfl ⟨v,hb1,ho,rfl,hBX,hge⟩ hKD hne
  obtain ⟨vA,vn,vc,rfl⟩:=ho.form
  have c1:=hb1.one
  have HO:=Lib.hid (And.intro ho hBX)
  have HN:=Lib.hid hne
  clear ho hBX hb1
  gi_wp2_with fail
  (try rw [Exit.noGoto_normal])
  refine ⟨by simp,.inl ⟨_,_,rfl,run_takeDeferred hKD,?_⟩⟩
  refine ⟨.slice vA vn vc,by simp [results,Tryz.results34,go_sem],_,rfl,?_,?_⟩
  · refine World.ownsRow.kept (HO.out.1.less (by omega)) (grownBy_putObj' X D _) (.inr ?_)
    exact fun e=>HN.out e
  · have hg:=HG1.out
    have h2:=HO.out.2.grown (grownBy_putObj' X D (Obj.deferred none)) HO.out.2.size (fun r e=>by injection e with e;omega)
    first | exact h2 | (rw [hg] at h2;exact h2)
end Go.Proofs.YtcchjofjpflbhaaGreatDoor.T

namespace Go.Proofs.YtcchjofjpflbhaaGreatDoor
open Go.RowKit Go.Shelf

def atV (x:Int×Int):Value:=.agg #[.int .i64 x.1,.int .i64 x.2]
theorem eqAt (a b c d:Int) (w:World):(Op.equalIn 10000 31 (.agg #[.int .i64 a,.int .i64 b]) (.agg #[.int .i64 c,.int .i64 d])).run Tryz.prog w = .ok (a == c && b == d) w:=by
 have u3:=Tryz.underlying3
 have a3:=Tryz.isAgg3
 have z3:=Tryz.sizeOf3
 have hS:Tryz.prog.underlying 31=some (.struct (Tryz.prog.fieldsOf 31)):=by kernel_rfl
 have hp:Tryz.prog.stoodInHeld 31=false:=by kernel_rfl
 rw [show (10000:Nat)=9999+1 from rfl,run_equalIn_agg w 9999 31 _ _ hS hp]
 simp only [Program.fieldsOf,Tryz.underlying31]
 go_simp
 by_cases h1:a=c <;> by_cases h2:b=d <;> simp [h1,h2]
theorem find_none (x:Int×Int) (w:World):∀ (es:List MapEntry) (i:Nat),(∀ e∈es,∃ y,e.key=atV y∧y≠x)→(Instr.findAsking 31 (atV x) es i).run Tryz.prog w = .ok none w
 | [],i,_=>by simp [Instr.findAsking]
 | e :: es,i,h=>by
   obtain ⟨y,hy,hne⟩:=h e (by simp)
   have hq:(Op.equal 31 (atV x) e.key).run Tryz.prog w = .ok false w:=by
    rw [hy]
    unfold Op.equal atV
    rw [show Op.maxDepth=10000 from rfl,eqAt]
    congr 1
    rw [Bool.and_eq_false_iff]
    by_cases h1:x.1=y.1
    · right
      rw [beq_eq_false_iff_ne]
      intro h2
      exact hne (Prod.ext h1.symm h2.symm)
    · left
      rwa [beq_eq_false_iff_ne]
   unfold Instr.findAsking
   simp only [Sem.run_bind,hq,Result.andThen_ok,Bool.false_eq_true,if_false]
   exact find_none x w es (i+1) (fun e' he'=>h e' (by simp [he']))
def AtMap (W:World) (b:Nat) (l:List (Int×Int)):Prop:=∃ es ck,W.heap[b]?=some (.map es ck)∧∀ e∈es.toList,∃ y∈l,e.key=atV y
theorem AtMap.made (w:World):AtMap (w.alloc (.map #[] 0)) w.heap.size []:=⟨#[],0,by show (w.heap.push (.map #[] 0))[w.heap.size]? = _;exact Array.getElem?_push_size,fun e he=>by simp at he⟩
theorem AtMap.lt {W:World} {b:Nat} {l:List (Int×Int)} (h:AtMap W b l):b<W.heap.size:=by
 obtain ⟨es,ck,h1,_⟩:=h
 exact (Array.getElem?_eq_some_iff.1 h1).1
theorem AtMap.below {X Y:World} {B b:Nat} {l:List (Int×Int)} (h:AtMap X b l) (hb:Below B X Y) (hB:b<B):AtMap Y b l:=by
 obtain ⟨es,ck,hh,hF⟩:=h
 exact ⟨es,ck,(hb.block b hB).trans hh,hF⟩
theorem AtMap.keep {X Y:World} {b:Nat} {l:List (Int×Int)} (h:AtMap X b l) (hb:Y.heap[b]?=X.heap[b]?):AtMap Y b l:=by
 obtain ⟨es,ck,hh,hF⟩:=h
 exact ⟨es,ck,hb.trans hh,hF⟩
theorem check_at (em:Bool) (x:Int×Int) (w:World):(Instr.checkKey em 10000 31 (atV x)).run Tryz.prog w = .ok () w:=by
 cases em <;> kernel_rfl
theorem find_key (x:Int×Int) (w:World) (es:List MapEntry) (h:∀ e∈es,∃ y,e.key=atV y∧y≠x):(Instr.findKey 31 (atV x) es).run Tryz.prog w = .ok none w:=by
 unfold Instr.findKey
 simp only [Sem.run_bind,run_underlying Tryz.underlying31,Result.andThen_ok]
 cases es with
 | nil=>simp [Instr.findNow]
 | cons e es =>
   obtain ⟨y,hy,_⟩:=h e (by simp)
   have e1:Instr.sameNow (TypeDesc.struct (Tryz.prog.fieldsOf 31)) (atV x) e.key=none:=by rw [hy];rfl
   unfold Instr.findNow
   simp only [Program.fieldsOf,Tryz.underlying31] at e1
   rw [e1]
   exact find_none x w _ _ h
theorem AtMap.look {W:World} {b:Nat} {l:List (Int×Int)} (h:AtMap W b l) (c r:Int) (hx:(c,r)∉l) :
 (Instr.lookup 62 (.map (some b)) (.agg #[.int .i64 c,.int .i64 r]) false).run Tryz.prog W = .ok (.int .i64 0) W:=by
 obtain ⟨es,ck,hh,hF⟩:=h
 have hf:=find_key (c,r) W es.toList (fun e he=>by
  obtain ⟨y,hy,e1⟩:=hF e he
  exact ⟨y,e1,fun e2=>hx (by rw [←e2];exact hy)⟩)
 have hc:=fun em=>check_at em (c,r) W
 have hz:(zeroValue 3).run Tryz.prog W = .ok (.int .i64 0) W:=by kernel_rfl
 unfold atV at hf hc
 unfold Instr.lookup
 simp only [Sem.run_bind,run_underlying Tryz.underlying62,Result.andThen_ok,Sem.run_pure,Go.MapKept.run_getObj_map hh]
 have hc':=hc es.isEmpty
 have hf':=hf
 simp only at hc' hf'
 rw [hc']
 simp only [Result.andThen_ok]
 rw [hf']
 simp only [Result.andThen_ok,hz,Sem.run_bind,Sem.run_pure]
 rfl
theorem AtMap.put {W:World} {b:Nat} {l:List (Int×Int)} (h:AtMap W b l) (c r:Int) (hx:(c,r)∉l) :
 ∃ W',(Instr.mapUpdate 62 (.map (some b)) (.agg #[.int .i64 c,.int .i64 r]) (.int .i64 1)).run Tryz.prog W = .ok () W'∧AtMap W' b (l ++ [(c,r)])∧Below b W W':=by
 have hlt:=h.lt
 obtain ⟨es,ck,hh,hF⟩:=h
 have hf:=find_key (c,r) W es.toList (fun e he=>by
  obtain ⟨y,hy,e1⟩:=hF e he
  exact ⟨y,e1,fun e2=>hx (by rw [←e2];exact hy)⟩)
 have hc:=fun em=>check_at em (c,r) W
 unfold atV at hf hc
 have hc':=hc false
 have hf':=hf
 simp only at hc' hf'
 refine ⟨{ W with heap:=W.heap.setIfInBounds b (.map (es.push { key:=.agg #[.int .i64 c,.int .i64 r],val:=.int .i64 1,born:=ck }) (ck+1)) },?_,⟨es.push { key:=.agg #[.int .i64 c,.int .i64 r],val:=.int .i64 1,born:=ck },ck+1,by simp [hlt],fun e he=>?_⟩,?_⟩
 · unfold Instr.mapUpdate
   simp only [Sem.run_bind,run_underlying Tryz.underlying62,Result.andThen_ok,Sem.run_pure,Go.MapKept.run_getObj_map hh]
   rw [hc']
   simp only [Result.andThen_ok]
   rw [hf']
   simp only [Result.andThen_ok]
   rw [Go.MapKept.run_setObj_map _ hh]
 · simp only [Array.toList_push,List.mem_append,List.mem_singleton] at he
   rcases he with he | rfl
   · obtain ⟨y,hy,e1⟩:=hF e he
     exact ⟨y,by simp [hy],e1⟩
   · exact ⟨(c,r),by simp,rfl⟩
 · exact ⟨rfl,rfl,rfl,by simp,fun k hk=>by simp [Array.getElem?_setIfInBounds,show ¬ b=k by omega]⟩
end Go.Proofs.YtcchjofjpflbhaaGreatDoor
