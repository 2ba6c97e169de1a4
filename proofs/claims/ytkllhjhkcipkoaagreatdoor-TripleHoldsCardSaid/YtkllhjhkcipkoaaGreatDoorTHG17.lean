/- -/
import Derived.Test.YtkllhjhkcipkoaaGreatDoorTHG16
set_option linter.unusedVariables false
set_option linter.unusedSimpArgs false
set_option maxRecDepth 100000
set_option maxHeartbeats 8000000
namespace Go.Proofs.YtkllhjhkcipkoaaGreatDoor.Tr
open Go.RowKit Go.Shelf Go.Maps Go.Proofs.YtkllhjhkcipkoaaGreatDoor.C Go.Proofs.YtkllhjhkcipkoaaGreatDoor.E Go.Proofs.YtkllhjhkcipkoaaGreatDoor.T Go.Proofs.YtkllhjhkcipkoaaGreatDoor.Rg
attribute [local go_sem] Oper.semAt_some

def rowsT (P Q n:Nat) (s0 s1:List (List UInt8)) (a:Int):List (List UInt8):=sumC Q [turnC P Q n s0 (-(0 * a)),turnC P Q n s1 (-(1 * a))]
def slantsT (P Q n:Nat) (s0 s2:List (List UInt8)) (a:Int):List (List UInt8):=turnC P Q n (sumC Q [turnC P Q n s0 (-(0 * a)),turnC P Q n s2 (-(-1 * a))]) (-a)
def thirdT (P Q n:Nat) (s0 s1 s2:List (List UInt8)) (a b c:Int):List (List UInt8):=slackL P Q (wholeF Q n (secT P Q n (rowsT P Q n s0 s1 a) (slantsT P Q n s0 s2 a) 0 (-1) b c)) (c - a)
theorem neg_mod_ne {P:Nat} {z:Int} (h0:0<z) (h1:z<(P:Int)):(-1 * z - 0 * z) % (P:Int)≠0:=fun h=>by
 have h2:=Int.dvd_of_emod_eq_zero h
 rw [show -1 * z - 0 * z = -z by omega] at h2
 have h3:=Int.emod_eq_zero_of_dvd ((Int.dvd_neg).1 h2)
 rw [Int.emod_eq_of_lt (by omega) h1] at h3
 omega
theorem sub_mod_ne {P:Nat} {a b:Int} (ha:0≤a) (hab:a<b) (hb:b<(P:Int)):(b - a) % (P:Int)≠0:=by rw [Int.emod_eq_of_lt (by omega) (by omega)];omega
theorem third_good {P Q n:Nat} (d:Dims P Q n) (s0 s1 s2:List (List UInt8)) (g0:GoodC Q n s0) (g1:GoodC Q n s1) (g2:GoodC Q n s2) (a b c:Int):GoodC Q n (thirdT P Q n s0 s1 s2 a b c) :=
 slack_good d.hQ d.h1 d.h64 (sec_good d _ _ (two_good d (turn_good d.h1 d.h64 g0 _) (turn_good d.h1 d.h64 g1 _)) (turn_good d.h1 d.h64 (two_good d (turn_good d.h1 d.h64 g0 _) (turn_good d.h1 d.h64 g2 _)) _) _ _ _ _) _
theorem third_any {P Q n:Nat} (d:Dims P Q n) (a b c:Int) (ha:0≤a) (hab:a<b) (hbc:b<c) (hcP:c<(P:Int)) (gl gs mc:Nat) (A0:Option Addr) (c0:Nat) (A1:Option Addr) (c1:Nat) (A2:Option Addr) (c2:Nat) (s0 s1 s2:List (List UInt8)) (h0:GoodC Q n s0) (h1:GoodC Q n s1) (h2:GoodC Q n s2) (w:World) (hL:Laid w) (hgl:gl<w.heap.size) (hgs:gs<w.heap.size) (cA:w.cell? ⟨gl,0,none⟩=some (.int .i64 a)) (cB:w.cell? ⟨gl,1,none⟩=some (.int .i64 b)) (cC:w.cell? ⟨gl,2,none⟩=some (.int .i64 c)) (cV0:w.cell? ⟨gs,0,none⟩=some (.slice A0 Q c0)) (cF0:w.cell? ⟨gs,1,none⟩=some (byK 0)) (cV1:w.cell? ⟨gs,2,none⟩=some (.slice A1 Q c1)) (cF1:w.cell? ⟨gs,3,none⟩=some (byK 1)) (cV2:w.cell? ⟨gs,4,none⟩=some (.slice A2 Q c2)) (cF2:w.cell? ⟨gs,5,none⟩=some (byK (-1))) (hM0:Many w.heap.size w (.slice A0 Q c0) s0) (hM1:Many w.heap.size w (.slice A1 Q c1) s1) (hM2:Many w.heap.size w (.slice A2 Q c2) s2) :
 Calls Tryz.prog 78 #[.agg #[.int .i64 (P:Int),.slice (some ⟨gl,0,none⟩) 3 3,.slice (some ⟨gs,0,none⟩) 3 mc]] w fun e w'=>∃ At kt,e = .returned (.slice At Q kt)∧FreshMany w.heap.size w' (.slice At Q kt) (thirdT P Q n s0 s1 s2 a b c)∧Below w.heap.size w w':=by
 have hpb:=prm_bounds d.hp
 have HTR:=Lib.hid (fun V=>turns_any V)
 have HK0:=fun (V:World) (hV:Below w.heap.size w V)=>back0_any d 0 (by omega) a ha (by omega) gl 0 3 3 gs 3 mc (by omega) (by omega) A0 c0 s0 h0 V (hL.next hV) (Nat.lt_of_lt_of_le hgl hV.size) (Nat.lt_of_lt_of_le hgs hV.size) ((hV.cell (p:=⟨gl,0,none⟩) hgl).trans cA) ((hV.cell (p:=⟨gs,0,none⟩) hgs).trans cV0) ((hV.cell (p:=⟨gs,1,none⟩) hgs).trans cF0) ((hM0.below hV).more hV.size)
 have HK1:=fun (V:World) (hV:Below w.heap.size w V)=>back1_any d 1 (by omega) a ha (by omega) gl 0 3 3 gs 3 mc (by omega) (by omega) A1 c1 s1 h1 V (hL.next hV) (Nat.lt_of_lt_of_le hgl hV.size) (Nat.lt_of_lt_of_le hgs hV.size) ((hV.cell (p:=⟨gl,0,none⟩) hgl).trans cA) ((hV.cell (p:=⟨gs,2,none⟩) hgs).trans cV1) ((hV.cell (p:=⟨gs,3,none⟩) hgs).trans cF1) ((hM1.below hV).more hV.size)
 have HK2:=fun (V:World) (hV:Below w.heap.size w V)=>back2_any d (-1) (by omega) a ha (by omega) gl 0 3 3 gs 3 mc (by omega) (by omega) A2 c2 s2 h2 V (hL.next hV) (Nat.lt_of_lt_of_le hgl hV.size) (Nat.lt_of_lt_of_le hgs hV.size) ((hV.cell (p:=⟨gl,0,none⟩) hgl).trans cA) ((hV.cell (p:=⟨gs,4,none⟩) hgs).trans cV2) ((hV.cell (p:=⟨gs,5,none⟩) hgs).trans cF2) ((hM2.below hV).more hV.size)
 have gt0:=turn_good (P:=P) d.h1 d.h64 h0 (-(0 * a))
 have gt1:=turn_good (P:=P) d.h1 d.h64 h1 (-(1 * a))
 have gt2:=turn_good (P:=P) d.h1 d.h64 h2 (-(-1 * a))
 have gr:=two_good d gt0 gt1
 have gu:=two_good d gt0 gt2
 have gs2:=turn_good (P:=P) d.h1 d.h64 gu (-a)
 have gc:=sec_good d _ _ gr gs2 0 (-1) b c
 have HU:=fun (V:World) (hV:Below w.heap.size w V) (v:Value) hC=>upon_any d [turnC P Q n s0 (-(0 * a)),turnC P Q n s1 (-(1 * a))] (by simp) (by simp) (two_all gt0 gt1) v V (hL.next hV) hC
 have HU2:=fun (V:World) (hV:Below w.heap.size w V) (v:Value) hC=>upon_any d [turnC P Q n s0 (-(0 * a)),turnC P Q n s2 (-(-1 * a))] (by simp) (by simp) (two_all gt0 gt2) v V (hL.next hV) hC
 have HT:=fun (V:World) (hV:Below w.heap.size w V) (v:Value) hM=>turned_any d (-a) (by omega) (by omega) (sumC Q [turnC P Q n s0 (-(0 * a)),turnC P Q n s2 (-(-1 * a))]) gu v V (hL.next hV) hM
 have HE:=fun (V:World) (hV:Below w.heap.size w V) (A:Option Addr) (k:Nat) (A':Option Addr) (k' g:Nat) (hb:Blk V g 94 #[.slice A Q k,byK 0,.slice A' Q k',byK (-1)]) hm hm'=>second_any d 0 (-1) (by omega) (by omega) b c (by omega) hbc (by omega) (neg_mod_ne (by omega) (by omega)) gl 1 2 2 g 2 2 (by omega) (by omega) A k A' k' (sumC Q [turnC P Q n s0 (-(0 * a)),turnC P Q n s1 (-(1 * a))]) (turnC P Q n (sumC Q [turnC P Q n s0 (-(0 * a)),turnC P Q n s2 (-(-1 * a))]) (-a)) gr gs2 V (hL.next hV) (Nat.lt_of_lt_of_le hgl hV.size) hb.lt ((hV.cell (p:=⟨gl,1,none⟩) hgl).trans cB) ((hV.cell (p:=⟨gl,2,none⟩) hgl).trans cC) (hb.cell 0) (hb.cell 1) (hb.cell 2) (hb.cell 3) hm hm'
 have HS:=fun (V:World) (hV:Below w.heap.size w V) (v:Value) hM=>slackened_any d (c - a) (by omega) (by omega) (sub_mod_ne ha (by omega) hcP) _ gc v V (hL.next hV) hM
 unfold thirdT rowsT slantsT
 generalize slackL P Q (wholeF Q n (secT P Q n (sumC Q [turnC P Q n s0 (-(0 * a)),turnC P Q n s1 (-(1 * a))]) (turnC P Q n (sumC Q [turnC P Q n s0 (-(0 * a)),turnC P Q n s2 (-(-1 * a))]) (-a)) 0 (-1) b c)) (c - a)=R at *
 generalize secT P Q n (sumC Q [turnC P Q n s0 (-(0 * a)),turnC P Q n s1 (-(1 * a))]) (turnC P Q n (sumC Q [turnC P Q n s0 (-(0 * a)),turnC P Q n s2 (-(-1 * a))]) (-a)) 0 (-1) b c=R8 at *
 generalize turnC P Q n (sumC Q [turnC P Q n s0 (-(0 * a)),turnC P Q n s2 (-(-1 * a))]) (-a)=R6 at *
 generalize sumC Q [turnC P Q n s0 (-(0 * a)),turnC P Q n s1 (-(1 * a))]=R2 at *
 generalize sumC Q [turnC P Q n s0 (-(0 * a)),turnC P Q n s2 (-(-1 * a))]=R5 at *
 generalize turnC P Q n s0 (-(0 * a))=R0 at *
 generalize turnC P Q n s1 (-(1 * a))=R1 at *
 generalize turnC P Q n s2 (-(-1 * a))=R4 at *
 have hz:IntKind.i64.wrap (c - a)=c - a:=IntWalk.i64_in _ (by omega)
 generalize hzd:c - a=z at *
 replace hz:IntKind.i64.wrap (c - a)=z:=by rw [hzd];exact hz
 clear hzd
 have hna:IntKind.i64.wrap (-a) = -a:=IntWalk.i64_in _ (by omega)
 have hen0:=enter_by 0
 have hen1:=enter_by 1
 have hen2:=enter_by (-1)
 unfold byK at cF0 cF1 cF2 HTR HE
 generalize fnK 0=f0 at *
 generalize fnK 1=f1 at *
 generalize fnK (-1)=f2 at *
 obtain ⟨w0,hw0⟩:∃ x,w.alloc (.cells #[.int .i64 (P:Int),.slice (some ⟨gl,0,none⟩) 3 3,.slice (some ⟨gs,0,none⟩) 3 mc] 103)=x:=⟨_,rfl⟩
 obtain ⟨g0,hg0⟩:∃ x,w.heap.size=x:=⟨_,rfl⟩
 have b0:Blk w0 g0 103 #[.int .i64 (P:Int),.slice (some ⟨gl,0,none⟩) 3 3,.slice (some ⟨gs,0,none⟩) 3 mc]:=by rw [←hw0,←hg0];exact Blk.new w _ _
 have hB0:Below w.heap.size w w0:=by rw [←hw0];exact below_one w _
 have HBK0:=Lib.hid (fun (V:World) (hV:Below w0.heap.size w0 V)=>HK0 V (below_in hB0 hV))
 have HBK1:=Lib.hid (fun (V:World) (hV:Below w0.heap.size w0 V)=>HK1 V (below_in hB0 hV))
 have HBK2:=Lib.hid (fun (V:World) (hV:Below w0.heap.size w0 V)=>HK2 V (below_in hB0 hV))
 have HUP:=Lib.hid (fun (V:World) (hV:Below w0.heap.size w0 V)=>HU V (below_in hB0 hV))
 have HUP2:=Lib.hid (fun (V:World) (hV:Below w0.heap.size w0 V)=>HU2 V (below_in hB0 hV))
 have HTU:=Lib.hid (fun (V:World) (hV:Below w0.heap.size w0 V)=>HT V (below_in hB0 hV))
 have HSE:=Lib.hid (fun (V:World) (hV:Below w0.heap.size w0 V)=>HE V (below_in hB0 hV))
 have HSL:=Lib.hid (fun (V:World) (hV:Below w0.heap.size w0 V)=>HS V (below_in hB0 hV))
 have HSS:Hid (∀ V,Below w0.heap.size w0 V→(fun U:World=>U.cell? ⟨g0,0,none⟩=some (.int .i64 (P:Int))∧U.cell? ⟨g0,1,none⟩=some (.slice (some ⟨gl,0,none⟩) 3 3)∧U.cell? ⟨g0,2,none⟩=some (.slice (some ⟨gs,0,none⟩) 3 mc)∧U.cell? ⟨gl,0,none⟩=some (.int .i64 a)∧U.cell? ⟨gl,1,none⟩=some (.int .i64 b)∧U.cell? ⟨gl,2,none⟩=some (.int .i64 c)) V):=fun V hV=>⟨(b0.below hV b0.lt).cell 0,(b0.below hV b0.lt).cell 1,(b0.below hV b0.lt).cell 2,((below_in hB0 hV).cell (p:=⟨gl,0,none⟩) hgl).trans cA,((below_in hB0 hV).cell (p:=⟨gl,1,none⟩) hgl).trans cB,((below_in hB0 hV).cell (p:=⟨gl,2,none⟩) hgl).trans cC⟩
 have HB0:=Lib.hid hB0
 have HW0:=Lib.hid (And.intro hw0 hg0)
 clear HK0 HK1 HK2 HU HU2 HT HE HS d ha hab hbc hcP h0 h1 h2 hL hgl hgs cA cB cC cV0 cF0 cV1 cF1 cV2 cF2 hM0 hM1 hM2 gt0 gt1 gt2 gr gu gs2 gc hB0 b0 hw0 hg0 hpb
 refine (callsIn_wide (n:=9)).1 ?_
 refine callsIn_of_wp_marks Tryz.func78 rfl trivial ?_ rfl
 simp only [Tryz.ntmps78,List.size_toArray,List.length_cons,List.length_nil,Nat.reduceAdd,Nat.reduceSub,Array.replicate_succ,Array.replicate_zero,List.push_toArray,List.append_toArray,List.nil_append,List.cons_append]
 gi_wp2_with fail
 (try rw [HW0.out.2]);(try rw [HW0.out.1])
 have hBx:=Below.refl w0.heap.size w0
 have hd:Below w0.heap.size w0 w0.drew:=(Below.refl _ _).drew
 replace hBx:=below_in hBx hd
 clear hd
 have hS:=HSS.out _ hBx
 refine wpIn_mono (region_HF (Q:=NoPanic _) (S:=(fun U:World=>U.cell? ⟨g0,0,none⟩=some (.int .i64 (P:Int))∧U.cell? ⟨g0,1,none⟩=some (.slice (some ⟨gl,0,none⟩) 3 3)∧U.cell? ⟨g0,2,none⟩=some (.slice (some ⟨gs,0,none⟩) 3 mc)∧U.cell? ⟨gl,0,none⟩=some (.int .i64 a)∧U.cell? ⟨gl,1,none⟩=some (.int .i64 b)∧U.cell? ⟨gl,2,none⟩=some (.int .i64 c))) (by kernel_rfl) ?_) NoPanic.imp
 refine tkF (i:=1) (d:=10) (v:=.pointer (some ⟨g0,1,none⟩)) (s:=hS) (c:=?_)
 simp only [ud9]
 refine tkF (i:=2) (d:=11) (v:=.slice (some ⟨gl,0,none⟩) 3 3) (s:=hS) (c:=?_)
 simp only [ud9]
 refine tkF (i:=3) (d:=12) (v:=.pointer (some ⟨gl,0,none⟩)) (s:=hS) (c:=?_)
 simp only [ud9]
 refine tkF (i:=4) (d:=13) (v:=.int .i64 a) (s:=hS) (c:=?_)
 simp only [ud9]
 refine tkF (i:=5) (d:=14) (v:=.pointer (some ⟨g0,1,none⟩)) (s:=hS) (c:=?_)
 simp only [ud9]
 refine tkF (i:=6) (d:=15) (v:=.slice (some ⟨gl,0,none⟩) 3 3) (s:=hS) (c:=?_)
 simp only [ud9]
 refine tkF (i:=7) (d:=16) (v:=.pointer (some ⟨gl,2,none⟩)) (s:=hS) (c:=?_)
 simp only [ud9]
 refine tkF (i:=8) (d:=17) (v:=.int .i64 c) (s:=hS) (c:=?_)
 simp only [ud9]
 refine Rg.anyHF_both (i:=0) (j:=9) (by kernel_rfl) rfl rfl (by rfl) (by rfl) ?c1a ?c1b
 case c1a =>
  gi_wp2_with fail
  refine ⟨trivial,(callsIn_wide.2 (HTR.out _)).mono ?_⟩
  rintro e v2 ⟨rfl,hB⟩
  replace hBx:=below_in hBx hB
  clear hS
  have hS:(fun U:World=>U.cell? ⟨g0,0,none⟩=some (.int .i64 (P:Int))∧U.cell? ⟨g0,1,none⟩=some (.slice (some ⟨gl,0,none⟩) 3 3)∧U.cell? ⟨g0,2,none⟩=some (.slice (some ⟨gs,0,none⟩) 3 mc)∧U.cell? ⟨gl,0,none⟩=some (.int .i64 a)∧U.cell? ⟨gl,1,none⟩=some (.int .i64 b)∧U.cell? ⟨gl,2,none⟩=some (.int .i64 c)) v2:=HSS.out _ hBx
  clear hB
  gi_wp2
  try (refine ⟨hS,?_⟩)
  refine oneF (i:=9) (c:=?_)
  have hgeg3:=hBx.size
  have hB:Below v2.heap.size v2 (v2.alloc (.cells #[.nilFunc,.nilFunc,.nilFunc,.nilFunc,.nilFunc] 108)):=below_one v2 _
  have b3:Blk (v2.alloc (.cells #[.nilFunc,.nilFunc,.nilFunc,.nilFunc,.nilFunc] 108)) v2.heap.size 108 #[.nilFunc,.nilFunc,.nilFunc,.nilFunc,.nilFunc]:=Blk.new v2 _ _
  obtain ⟨a3,he⟩:∃ x,(v2.alloc (.cells #[.nilFunc,.nilFunc,.nilFunc,.nilFunc,.nilFunc] 108))=x:=⟨_,rfl⟩
  obtain ⟨g3,hg⟩:∃ x,v2.heap.size=x:=⟨_,rfl⟩
  rw [he] at hB b3
  rw [hg] at b3 hgeg3
  have hgqg3:=Nat.le_of_eq hg
  have hqg3:=hB
  replace hBx:=below_in hBx hB
  clear hS
  have hS:(fun U:World=>U.cell? ⟨g0,0,none⟩=some (.int .i64 (P:Int))∧U.cell? ⟨g0,1,none⟩=some (.slice (some ⟨gl,0,none⟩) 3 3)∧U.cell? ⟨g0,2,none⟩=some (.slice (some ⟨gs,0,none⟩) 3 mc)∧U.cell? ⟨gl,0,none⟩=some (.int .i64 a)∧U.cell? ⟨gl,1,none⟩=some (.int .i64 b)∧U.cell? ⟨gl,2,none⟩=some (.int .i64 c)) a3:=HSS.out _ hBx
  gi_wp2
  (try rw [hg]);(try rw [he])
  try (refine ⟨hS,?_⟩)
  clear hB he hg
  refine oneF (i:=10) (c:=?_)
  have k0:=b3.cell 0
  have f0_:=b3.frozen 0
  have k1:=b3.cell 1
  have f1_:=b3.frozen 1
  have k2:=b3.cell 2
  have f2_:=b3.frozen 2
  have k3:=b3.cell 3
  have f3_:=b3.frozen 3
  have k4:=b3.cell 4
  have f4_:=b3.frozen 4
  simp only [gz9] at k0 k1 k2 k3 k4
  have bZ:Blk (((((a3.setCell ⟨g3,0,none⟩ (.nilFunc)).setCell ⟨g3,1,none⟩ (.nilFunc)).setCell ⟨g3,2,none⟩ (.func (.func f0) #[] #[])).setCell ⟨g3,3,none⟩ (.func (.func f1) #[] #[])).setCell ⟨g3,4,none⟩ (.func (.func f2) #[] #[])) g3 108 #[.nilFunc,.nilFunc,.func (.func f0) #[] #[],.func (.func f1) #[] #[],.func (.func f2) #[] #[]]:=(((((b3.set_ 0 _).set_ 1 _).set_ 2 _).set_ 3 _).set_ 4 _)
  replace hBx:Below w0.heap.size w0 (((((a3.setCell ⟨g3,0,none⟩ (.nilFunc)).setCell ⟨g3,1,none⟩ (.nilFunc)).setCell ⟨g3,2,none⟩ (.func (.func f0) #[] #[])).setCell ⟨g3,3,none⟩ (.func (.func f1) #[] #[])).setCell ⟨g3,4,none⟩ (.func (.func f2) #[] #[])):=(((((hBx.setCell (by show w0.heap.size≤g3;omega) _).setCell (by show w0.heap.size≤g3;omega) _).setCell (by show w0.heap.size≤g3;omega) _).setCell (by show w0.heap.size≤g3;omega) _).setCell (by show w0.heap.size≤g3;omega) _)
  replace hqg3:=(Below.setCell (p:=⟨g3,4,none⟩) (Below.setCell (p:=⟨g3,3,none⟩) (Below.setCell (p:=⟨g3,2,none⟩) (Below.setCell (p:=⟨g3,1,none⟩) (Below.setCell (p:=⟨g3,0,none⟩) hqg3 hgqg3 (.nilFunc)) hgqg3 (.nilFunc)) hgqg3 (.func (.func f0) #[] #[])) hgqg3 (.func (.func f1) #[] #[])) hgqg3 (.func (.func f2) #[] #[]))
  obtain ⟨z4,he⟩:∃ z,(((((a3.setCell ⟨g3,0,none⟩ (.nilFunc)).setCell ⟨g3,1,none⟩ (.nilFunc)).setCell ⟨g3,2,none⟩ (.func (.func f0) #[] #[])).setCell ⟨g3,3,none⟩ (.func (.func f1) #[] #[])).setCell ⟨g3,4,none⟩ (.func (.func f2) #[] #[]))=z:=⟨_,rfl⟩
  rw [he] at bZ hBx
  clear b3
  have b3:=bZ
  clear bZ hqg3
  gi_wp2
  (try rw [he])
  clear he k0 k1 k2 k3 k4 f0_ f1_ f2_ f3_ f4_
  clear hS
  have hS:(fun U:World=>U.cell? ⟨g0,0,none⟩=some (.int .i64 (P:Int))∧U.cell? ⟨g0,1,none⟩=some (.slice (some ⟨gl,0,none⟩) 3 3)∧U.cell? ⟨g0,2,none⟩=some (.slice (some ⟨gs,0,none⟩) 3 mc)∧U.cell? ⟨gl,0,none⟩=some (.int .i64 a)∧U.cell? ⟨gl,1,none⟩=some (.int .i64 b)∧U.cell? ⟨gl,2,none⟩=some (.int .i64 c)) z4:=HSS.out _ hBx
  try (refine ⟨hS,?_⟩)
  refine oneF (i:=11) (c:=?_)
  gi_wp2
  refine oneF (i:=12) (c:=?_)
  gi_wp2
  refine anyHF_done (by kernel_rfl) ?_ _
  refine NoPanic.normal ?_
  clear hS
  have hB1:=hBx
  replace HSS:Hid (∀ V,Below z4.heap.size z4 V→(fun U:World=>U.cell? ⟨g0,0,none⟩=some (.int .i64 (P:Int))∧U.cell? ⟨g0,1,none⟩=some (.slice (some ⟨gl,0,none⟩) 3 3)∧U.cell? ⟨g0,2,none⟩=some (.slice (some ⟨gs,0,none⟩) 3 mc)∧U.cell? ⟨gl,0,none⟩=some (.int .i64 a)∧U.cell? ⟨gl,1,none⟩=some (.int .i64 b)∧U.cell? ⟨gl,2,none⟩=some (.int .i64 c)∧U.cell? ⟨g3,2,none⟩=some (.func (.func f0) #[] #[])∧U.cell? ⟨g3,4,none⟩=some (.func (.func f2) #[] #[])) V):=fun V hV=>by
   obtain ⟨h0,h1,h2,h3,h4,h5⟩:=HSS.out V (below_in hB1 hV)
   exact ⟨h0,h1,h2,h3,h4,h5,(b3.below hV b3.lt).cell 2,(b3.below hV b3.lt).cell 4⟩
  replace hBx:=Below.refl z4.heap.size z4
  gi_wp2_with fail
  have hd:Below z4.heap.size z4 z4.drew:=(Below.refl _ _).drew
  replace hBx:=below_in hBx hd
  clear hd
  have hS:(fun U:World=>U.cell? ⟨g0,0,none⟩=some (.int .i64 (P:Int))∧U.cell? ⟨g0,1,none⟩=some (.slice (some ⟨gl,0,none⟩) 3 3)∧U.cell? ⟨g0,2,none⟩=some (.slice (some ⟨gs,0,none⟩) 3 mc)∧U.cell? ⟨gl,0,none⟩=some (.int .i64 a)∧U.cell? ⟨gl,1,none⟩=some (.int .i64 b)∧U.cell? ⟨gl,2,none⟩=some (.int .i64 c)∧U.cell? ⟨g3,2,none⟩=some (.func (.func f0) #[] #[])∧U.cell? ⟨g3,4,none⟩=some (.func (.func f2) #[] #[])) z4.drew:=HSS.out _ hBx
  refine wpIn_mono (region_HF (Q:=NoPanic _) (S:=(fun U:World=>U.cell? ⟨g0,0,none⟩=some (.int .i64 (P:Int))∧U.cell? ⟨g0,1,none⟩=some (.slice (some ⟨gl,0,none⟩) 3 3)∧U.cell? ⟨g0,2,none⟩=some (.slice (some ⟨gs,0,none⟩) 3 mc)∧U.cell? ⟨gl,0,none⟩=some (.int .i64 a)∧U.cell? ⟨gl,1,none⟩=some (.int .i64 b)∧U.cell? ⟨gl,2,none⟩=some (.int .i64 c)∧U.cell? ⟨g3,2,none⟩=some (.func (.func f0) #[] #[])∧U.cell? ⟨g3,4,none⟩=some (.func (.func f2) #[] #[]))) (by kernel_rfl) ?_) NoPanic.imp
  refine tkF (i:=0) (d:=18) (v:=.pointer (some ⟨g0,0,none⟩)) (s:=hS) (c:=?_)
  simp only [ud9]
  refine tkF (i:=1) (d:=19) (v:=.int .i64 (P:Int)) (s:=hS) (c:=?_)
  simp only [ud9]
  refine tkF (i:=2) (d:=20) (v:=.agg #[.int .i64 (P:Int),.slice (some ⟨gl,0,none⟩) 3 3,.slice (some ⟨gs,0,none⟩) 3 mc]) (s:=hS) (c:=?_)
  simp only [ud9]
  refine tkF (i:=4) (d:=22) (v:=.agg #[.int .i64 (P:Int),.slice (some ⟨gl,0,none⟩) 3 3,.slice (some ⟨gs,0,none⟩) 3 mc]) (s:=hS) (c:=?_)
  simp only [ud9]
  refine oneF (i:=3) (c:=?_)
  have hb0:=hBx.size
  gi_wp2_with fail
  refine ⟨trivial,(callsIn_wide.2 (HBK0.out _ (below_in hB1 hBx))).mono ?_⟩
  rintro e v5 ⟨A0,c0,rfl,M0,hB⟩
  replace M0:=M0.less hb0
  clear hb0
  replace hBx:=below_in hBx hB
  clear hS
  have hS:(fun U:World=>U.cell? ⟨g0,0,none⟩=some (.int .i64 (P:Int))∧U.cell? ⟨g0,1,none⟩=some (.slice (some ⟨gl,0,none⟩) 3 3)∧U.cell? ⟨g0,2,none⟩=some (.slice (some ⟨gs,0,none⟩) 3 mc)∧U.cell? ⟨gl,0,none⟩=some (.int .i64 a)∧U.cell? ⟨gl,1,none⟩=some (.int .i64 b)∧U.cell? ⟨gl,2,none⟩=some (.int .i64 c)∧U.cell? ⟨g3,2,none⟩=some (.func (.func f0) #[] #[])∧U.cell? ⟨g3,4,none⟩=some (.func (.func f2) #[] #[])) v5:=HSS.out _ hBx
  clear hB
  gi_wp2
  try (refine ⟨hS,?_⟩)
  refine oneF (i:=5) (c:=?_)
  have hb1:=hBx.size
  gi_wp2_with fail
  refine ⟨trivial,(callsIn_wide.2 (HBK1.out _ (below_in hB1 hBx))).mono ?_⟩
  rintro e v6 ⟨A1,c1,rfl,M1,hB⟩
  replace M1:=M1.less hb1
  clear hb1
  replace M0:=M0.below hB
  replace hBx:=below_in hBx hB
  clear hS
  have hS:(fun U:World=>U.cell? ⟨g0,0,none⟩=some (.int .i64 (P:Int))∧U.cell? ⟨g0,1,none⟩=some (.slice (some ⟨gl,0,none⟩) 3 3)∧U.cell? ⟨g0,2,none⟩=some (.slice (some ⟨gs,0,none⟩) 3 mc)∧U.cell? ⟨gl,0,none⟩=some (.int .i64 a)∧U.cell? ⟨gl,1,none⟩=some (.int .i64 b)∧U.cell? ⟨gl,2,none⟩=some (.int .i64 c)∧U.cell? ⟨g3,2,none⟩=some (.func (.func f0) #[] #[])∧U.cell? ⟨g3,4,none⟩=some (.func (.func f2) #[] #[])) v6:=HSS.out _ hBx
  clear hB
  gi_wp2
  try (refine ⟨hS,?_⟩)
  refine oneF (i:=6) (c:=?_)
  have hgege:=hBx.size
  have hB:Below v6.heap.size v6 (v6.alloc (.cells #[.slice A0 Q c0,.slice A1 Q c1] 41)):=below_one v6 _
  have bE:Blk (v6.alloc (.cells #[.slice A0 Q c0,.slice A1 Q c1] 41)) v6.heap.size 41 #[.slice A0 Q c0,.slice A1 Q c1]:=Blk.new v6 _ _
  obtain ⟨a7,he⟩:∃ x,(v6.alloc (.cells #[.slice A0 Q c0,.slice A1 Q c1] 41))=x:=⟨_,rfl⟩
  obtain ⟨ge,hg⟩:∃ x,v6.heap.size=x:=⟨_,rfl⟩
  rw [he] at hB bE
  rw [hg] at bE hgege
  replace M0:=M0.below hB
  replace M1:=M1.below hB
  replace hBx:=below_in hBx hB
  clear hS
  have hS:(fun U:World=>U.cell? ⟨g0,0,none⟩=some (.int .i64 (P:Int))∧U.cell? ⟨g0,1,none⟩=some (.slice (some ⟨gl,0,none⟩) 3 3)∧U.cell? ⟨g0,2,none⟩=some (.slice (some ⟨gs,0,none⟩) 3 mc)∧U.cell? ⟨gl,0,none⟩=some (.int .i64 a)∧U.cell? ⟨gl,1,none⟩=some (.int .i64 b)∧U.cell? ⟨gl,2,none⟩=some (.int .i64 c)∧U.cell? ⟨g3,2,none⟩=some (.func (.func f0) #[] #[])∧U.cell? ⟨g3,4,none⟩=some (.func (.func f2) #[] #[])) a7:=HSS.out _ hBx
  gi_wp2
  (try rw [hg]);(try rw [he])
  try (refine ⟨hS,?_⟩)
  clear hB he hg
  refine oneF (i:=7) (c:=?_)
  have hb2:=hBx.size
  gi_wp2_with fail
  refine ⟨trivial,(callsIn_wide.2 (HUP.out _ (below_in hB1 hBx) _ (cols_two bE M0.many M1.many bE.lt))).mono ?_⟩
  rintro e v8 ⟨A2,c2,rfl,M2,hB⟩
  replace M2:=M2.less hb2
  clear hb2
  replace bE:=bE.below hB bE.lt
  replace M0:=M0.below hB
  replace M1:=M1.below hB
  replace hBx:=below_in hBx hB
  clear hS
  have hS:(fun U:World=>U.cell? ⟨g0,0,none⟩=some (.int .i64 (P:Int))∧U.cell? ⟨g0,1,none⟩=some (.slice (some ⟨gl,0,none⟩) 3 3)∧U.cell? ⟨g0,2,none⟩=some (.slice (some ⟨gs,0,none⟩) 3 mc)∧U.cell? ⟨gl,0,none⟩=some (.int .i64 a)∧U.cell? ⟨gl,1,none⟩=some (.int .i64 b)∧U.cell? ⟨gl,2,none⟩=some (.int .i64 c)∧U.cell? ⟨g3,2,none⟩=some (.func (.func f0) #[] #[])∧U.cell? ⟨g3,4,none⟩=some (.func (.func f2) #[] #[])) v8:=HSS.out _ hBx
  clear hB
  gi_wp2
  try (refine ⟨hS,?_⟩)
  refine oneF (i:=8) (c:=?_)
  gi_wp2
  refine anyHF_done (by kernel_rfl) ?_ _
  refine NoPanic.normal ?_
  clear hS
  gi_wp2_with fail
  have hd:Below v8.heap.size v8 v8.drew:=(Below.refl _ _).drew
  replace M2:=M2.below hd
  replace hBx:=below_in hBx hd
  clear hd
  have hS:(fun U:World=>U.cell? ⟨g0,0,none⟩=some (.int .i64 (P:Int))∧U.cell? ⟨g0,1,none⟩=some (.slice (some ⟨gl,0,none⟩) 3 3)∧U.cell? ⟨g0,2,none⟩=some (.slice (some ⟨gs,0,none⟩) 3 mc)∧U.cell? ⟨gl,0,none⟩=some (.int .i64 a)∧U.cell? ⟨gl,1,none⟩=some (.int .i64 b)∧U.cell? ⟨gl,2,none⟩=some (.int .i64 c)∧U.cell? ⟨g3,2,none⟩=some (.func (.func f0) #[] #[])∧U.cell? ⟨g3,4,none⟩=some (.func (.func f2) #[] #[])) v8.drew:=HSS.out _ hBx
  refine wpIn_mono (region_HF (Q:=NoPanic _) (S:=(fun U:World=>U.cell? ⟨g0,0,none⟩=some (.int .i64 (P:Int))∧U.cell? ⟨g0,1,none⟩=some (.slice (some ⟨gl,0,none⟩) 3 3)∧U.cell? ⟨g0,2,none⟩=some (.slice (some ⟨gs,0,none⟩) 3 mc)∧U.cell? ⟨gl,0,none⟩=some (.int .i64 a)∧U.cell? ⟨gl,1,none⟩=some (.int .i64 b)∧U.cell? ⟨gl,2,none⟩=some (.int .i64 c)∧U.cell? ⟨g3,2,none⟩=some (.func (.func f0) #[] #[])∧U.cell? ⟨g3,4,none⟩=some (.func (.func f2) #[] #[]))) (by kernel_rfl) ?_) NoPanic.imp
  refine tkF (i:=0) (d:=26) (v:=.pointer (some ⟨g0,0,none⟩)) (s:=hS) (c:=?_)
  simp only [ud9]
  refine tkF (i:=1) (d:=27) (v:=.int .i64 (P:Int)) (s:=hS) (c:=?_)
  simp only [ud9]
  refine tkF (i:=2) (d:=28) (v:=.pointer (some ⟨g0,0,none⟩)) (s:=hS) (c:=?_)
  simp only [ud9]
  refine tkF (i:=3) (d:=29) (v:=.int .i64 (P:Int)) (s:=hS) (c:=?_)
  simp only [ud9]
  refine tkF (i:=4) (d:=30) (v:=.agg #[.int .i64 (P:Int),.slice (some ⟨gl,0,none⟩) 3 3,.slice (some ⟨gs,0,none⟩) 3 mc]) (s:=hS) (c:=?_)
  simp only [ud9]
  refine tkF (i:=6) (d:=32) (v:=.agg #[.int .i64 (P:Int),.slice (some ⟨gl,0,none⟩) 3 3,.slice (some ⟨gs,0,none⟩) 3 mc]) (s:=hS) (c:=?_)
  simp only [ud9]
  refine tkF (i:=10) (d:=36) (v:=.int .i64 a) (s:=hS) (c:=?_)
  simp only [ud9]
  refine tkF (i:=11) (d:=37) (v:=.int .i64 (-a)) (s:=hS) (c:=?_)
  simp only [ud9]
  refine oneF (i:=5) (c:=?_)
  have hb3:=hBx.size
  gi_wp2_with fail
  refine ⟨trivial,(callsIn_wide.2 (HBK0.out _ (below_in hB1 hBx))).mono ?_⟩
  rintro e v9 ⟨A3,c3,rfl,M3,hB⟩
  replace M3:=M3.less hb3
  clear hb3
  replace M2:=M2.below hB
  replace hBx:=below_in hBx hB
  clear hS
  have hS:(fun U:World=>U.cell? ⟨g0,0,none⟩=some (.int .i64 (P:Int))∧U.cell? ⟨g0,1,none⟩=some (.slice (some ⟨gl,0,none⟩) 3 3)∧U.cell? ⟨g0,2,none⟩=some (.slice (some ⟨gs,0,none⟩) 3 mc)∧U.cell? ⟨gl,0,none⟩=some (.int .i64 a)∧U.cell? ⟨gl,1,none⟩=some (.int .i64 b)∧U.cell? ⟨gl,2,none⟩=some (.int .i64 c)∧U.cell? ⟨g3,2,none⟩=some (.func (.func f0) #[] #[])∧U.cell? ⟨g3,4,none⟩=some (.func (.func f2) #[] #[])) v9:=HSS.out _ hBx
  clear hB
  gi_wp2
  try (refine ⟨hS,?_⟩)
  refine oneF (i:=7) (c:=?_)
  have hb4:=hBx.size
  gi_wp2_with fail
  refine ⟨trivial,(callsIn_wide.2 (HBK2.out _ (below_in hB1 hBx))).mono ?_⟩
  rintro e v10 ⟨A4,c4,rfl,M4,hB⟩
  replace M4:=M4.less hb4
  clear hb4
  replace M2:=M2.below hB
  replace M3:=M3.below hB
  replace hBx:=below_in hBx hB
  clear hS
  have hS:(fun U:World=>U.cell? ⟨g0,0,none⟩=some (.int .i64 (P:Int))∧U.cell? ⟨g0,1,none⟩=some (.slice (some ⟨gl,0,none⟩) 3 3)∧U.cell? ⟨g0,2,none⟩=some (.slice (some ⟨gs,0,none⟩) 3 mc)∧U.cell? ⟨gl,0,none⟩=some (.int .i64 a)∧U.cell? ⟨gl,1,none⟩=some (.int .i64 b)∧U.cell? ⟨gl,2,none⟩=some (.int .i64 c)∧U.cell? ⟨g3,2,none⟩=some (.func (.func f0) #[] #[])∧U.cell? ⟨g3,4,none⟩=some (.func (.func f2) #[] #[])) v10:=HSS.out _ hBx
  clear hB
  gi_wp2
  try (refine ⟨hS,?_⟩)
  refine oneF (i:=8) (c:=?_)
  have hgegf:=hBx.size
  have hB:Below v10.heap.size v10 (v10.alloc (.cells #[.slice A3 Q c3,.slice A4 Q c4] 41)):=below_one v10 _
  have bF:Blk (v10.alloc (.cells #[.slice A3 Q c3,.slice A4 Q c4] 41)) v10.heap.size 41 #[.slice A3 Q c3,.slice A4 Q c4]:=Blk.new v10 _ _
  obtain ⟨a11,he⟩:∃ x,(v10.alloc (.cells #[.slice A3 Q c3,.slice A4 Q c4] 41))=x:=⟨_,rfl⟩
  obtain ⟨gf,hg⟩:∃ x,v10.heap.size=x:=⟨_,rfl⟩
  rw [he] at hB bF
  rw [hg] at bF hgegf
  replace M2:=M2.below hB
  replace M3:=M3.below hB
  replace M4:=M4.below hB
  replace hBx:=below_in hBx hB
  clear hS
  have hS:(fun U:World=>U.cell? ⟨g0,0,none⟩=some (.int .i64 (P:Int))∧U.cell? ⟨g0,1,none⟩=some (.slice (some ⟨gl,0,none⟩) 3 3)∧U.cell? ⟨g0,2,none⟩=some (.slice (some ⟨gs,0,none⟩) 3 mc)∧U.cell? ⟨gl,0,none⟩=some (.int .i64 a)∧U.cell? ⟨gl,1,none⟩=some (.int .i64 b)∧U.cell? ⟨gl,2,none⟩=some (.int .i64 c)∧U.cell? ⟨g3,2,none⟩=some (.func (.func f0) #[] #[])∧U.cell? ⟨g3,4,none⟩=some (.func (.func f2) #[] #[])) a11:=HSS.out _ hBx
  gi_wp2
  (try rw [hg]);(try rw [he])
  try (refine ⟨hS,?_⟩)
  clear hB he hg
  refine oneF (i:=9) (c:=?_)
  have hb5:=hBx.size
  gi_wp2_with fail
  refine ⟨trivial,(callsIn_wide.2 (HUP2.out _ (below_in hB1 hBx) _ (cols_two bF M3.many M4.many bF.lt))).mono ?_⟩
  rintro e v12 ⟨A5,c5,rfl,M5,hB⟩
  replace M5:=M5.less hb5
  clear hb5
  replace bF:=bF.below hB bF.lt
  replace M2:=M2.below hB
  replace M3:=M3.below hB
  replace M4:=M4.below hB
  replace hBx:=below_in hBx hB
  clear hS
  have hS:(fun U:World=>U.cell? ⟨g0,0,none⟩=some (.int .i64 (P:Int))∧U.cell? ⟨g0,1,none⟩=some (.slice (some ⟨gl,0,none⟩) 3 3)∧U.cell? ⟨g0,2,none⟩=some (.slice (some ⟨gs,0,none⟩) 3 mc)∧U.cell? ⟨gl,0,none⟩=some (.int .i64 a)∧U.cell? ⟨gl,1,none⟩=some (.int .i64 b)∧U.cell? ⟨gl,2,none⟩=some (.int .i64 c)∧U.cell? ⟨g3,2,none⟩=some (.func (.func f0) #[] #[])∧U.cell? ⟨g3,4,none⟩=some (.func (.func f2) #[] #[])) v12:=HSS.out _ hBx
  clear hB
  gi_wp2
  try (refine ⟨hS,?_⟩)
  refine oneF (i:=12) (c:=?_)
  have hb6:=hBx.size
  gi_wp2_with fail
  refine ⟨trivial,(callsIn_wide.2 (HTU.out _ (below_in hB1 hBx) _ M5.many)).mono ?_⟩
  rintro e v13 ⟨A6,c6,rfl,M6,hB⟩
  replace M6:=M6.less hb6
  clear hb6
  replace bF:=bF.below hB bF.lt
  replace M2:=M2.below hB
  replace M3:=M3.below hB
  replace M4:=M4.below hB
  replace M5:=M5.below hB
  replace hBx:=below_in hBx hB
  clear hS
  have hS:(fun U:World=>U.cell? ⟨g0,0,none⟩=some (.int .i64 (P:Int))∧U.cell? ⟨g0,1,none⟩=some (.slice (some ⟨gl,0,none⟩) 3 3)∧U.cell? ⟨g0,2,none⟩=some (.slice (some ⟨gs,0,none⟩) 3 mc)∧U.cell? ⟨gl,0,none⟩=some (.int .i64 a)∧U.cell? ⟨gl,1,none⟩=some (.int .i64 b)∧U.cell? ⟨gl,2,none⟩=some (.int .i64 c)∧U.cell? ⟨g3,2,none⟩=some (.func (.func f0) #[] #[])∧U.cell? ⟨g3,4,none⟩=some (.func (.func f2) #[] #[])) v13:=HSS.out _ hBx
  clear hB
  gi_wp2
  try (refine ⟨hS,?_⟩)
  refine oneF (i:=13) (c:=?_)
  gi_wp2
  refine anyHF_done (by kernel_rfl) ?_ _
  refine NoPanic.normal ?_
  clear hS
  gi_wp2_with fail
  have hd:Below v13.heap.size v13 v13.drew:=(Below.refl _ _).drew
  replace M2:=M2.below hd
  replace M6:=M6.below hd
  replace hBx:=below_in hBx hd
  clear hd
  have hS:(fun U:World=>U.cell? ⟨g0,0,none⟩=some (.int .i64 (P:Int))∧U.cell? ⟨g0,1,none⟩=some (.slice (some ⟨gl,0,none⟩) 3 3)∧U.cell? ⟨g0,2,none⟩=some (.slice (some ⟨gs,0,none⟩) 3 mc)∧U.cell? ⟨gl,0,none⟩=some (.int .i64 a)∧U.cell? ⟨gl,1,none⟩=some (.int .i64 b)∧U.cell? ⟨gl,2,none⟩=some (.int .i64 c)∧U.cell? ⟨g3,2,none⟩=some (.func (.func f0) #[] #[])∧U.cell? ⟨g3,4,none⟩=some (.func (.func f2) #[] #[])) v13.drew:=HSS.out _ hBx
  refine wpIn_mono (region_HF (Q:=NoPanic _) (S:=(fun U:World=>U.cell? ⟨g0,0,none⟩=some (.int .i64 (P:Int))∧U.cell? ⟨g0,1,none⟩=some (.slice (some ⟨gl,0,none⟩) 3 3)∧U.cell? ⟨g0,2,none⟩=some (.slice (some ⟨gs,0,none⟩) 3 mc)∧U.cell? ⟨gl,0,none⟩=some (.int .i64 a)∧U.cell? ⟨gl,1,none⟩=some (.int .i64 b)∧U.cell? ⟨gl,2,none⟩=some (.int .i64 c)∧U.cell? ⟨g3,2,none⟩=some (.func (.func f0) #[] #[])∧U.cell? ⟨g3,4,none⟩=some (.func (.func f2) #[] #[]))) (by kernel_rfl) ?_) NoPanic.imp
  refine tkF (i:=0) (d:=39) (v:=.pointer (some ⟨g0,0,none⟩)) (s:=hS) (c:=?_)
  simp only [ud9]
  refine tkF (i:=1) (d:=40) (v:=.int .i64 (P:Int)) (s:=hS) (c:=?_)
  simp only [ud9]
  refine tkF (i:=2) (d:=41) (v:=.pointer (some ⟨g0,1,none⟩)) (s:=hS) (c:=?_)
  simp only [ud9]
  refine tkF (i:=3) (d:=42) (v:=.slice (some ⟨gl,0,none⟩) 3 3) (s:=hS) (c:=?_)
  simp only [ud9]
  refine tkF (i:=4) (d:=43) (v:=.slice (some ⟨gl,1,none⟩) 2 2) (s:=hS) (c:=?_)
  simp only [ud9]
  refine tkF (i:=5) (d:=44) (v:=.slice A2 Q c2) (s:=hS) (c:=?_)
  simp only [ud9]
  refine tkF (i:=6) (d:=45) (v:=.pointer (some ⟨g3,2,none⟩)) (s:=hS) (c:=?_)
  simp only [ud9]
  refine tkF (i:=7) (d:=46) (v:=.func (.func f0) #[] #[]) (s:=hS) (c:=?_)
  simp only [ud9]
  refine tkF (i:=8) (d:=47) (v:=.agg #[.slice A2 Q c2,.func (.func f0) #[] #[]]) (s:=hS) (c:=?_)
  simp only [ud9]
  refine tkF (i:=9) (d:=48) (v:=.slice A6 Q c6) (s:=hS) (c:=?_)
  simp only [ud9]
  refine tkF (i:=10) (d:=49) (v:=.pointer (some ⟨g3,4,none⟩)) (s:=hS) (c:=?_)
  simp only [ud9]
  refine tkF (i:=11) (d:=50) (v:=.func (.func f2) #[] #[]) (s:=hS) (c:=?_)
  simp only [ud9]
  refine tkF (i:=12) (d:=51) (v:=.agg #[.slice A6 Q c6,.func (.func f2) #[] #[]]) (s:=hS) (c:=?_)
  simp only [ud9]
  refine Rg.anyHF_both (i:=13) (j:=15) (by kernel_rfl) rfl rfl (by rfl) (by rfl) ?c14a ?c14b
  case c14a =>
   have hgeg7:=hBx.size
   have hB:Below v13.drew.heap.size v13.drew (v13.drew.alloc (.cells #[.slice A2 Q c2,.func (.func f0) #[] #[],.slice A6 Q c6,.func (.func f2) #[] #[]] 94)):=below_one v13.drew _
   have bE7:Blk (v13.drew.alloc (.cells #[.slice A2 Q c2,.func (.func f0) #[] #[],.slice A6 Q c6,.func (.func f2) #[] #[]] 94)) v13.drew.heap.size 94 #[.slice A2 Q c2,.func (.func f0) #[] #[],.slice A6 Q c6,.func (.func f2) #[] #[]]:=Blk.new v13.drew _ _
   obtain ⟨a15,he⟩:∃ x,(v13.drew.alloc (.cells #[.slice A2 Q c2,.func (.func f0) #[] #[],.slice A6 Q c6,.func (.func f2) #[] #[]] 94))=x:=⟨_,rfl⟩
   obtain ⟨g7,hg⟩:∃ x,v13.drew.heap.size=x:=⟨_,rfl⟩
   rw [he] at hB bE7
   rw [hg] at bE7 hgeg7
   replace M2:=M2.below hB
   replace M6:=M6.below hB
   replace hBx:=below_in hBx hB
   clear hS
   have hS:(fun U:World=>U.cell? ⟨g0,0,none⟩=some (.int .i64 (P:Int))∧U.cell? ⟨g0,1,none⟩=some (.slice (some ⟨gl,0,none⟩) 3 3)∧U.cell? ⟨g0,2,none⟩=some (.slice (some ⟨gs,0,none⟩) 3 mc)∧U.cell? ⟨gl,0,none⟩=some (.int .i64 a)∧U.cell? ⟨gl,1,none⟩=some (.int .i64 b)∧U.cell? ⟨gl,2,none⟩=some (.int .i64 c)∧U.cell? ⟨g3,2,none⟩=some (.func (.func f0) #[] #[])∧U.cell? ⟨g3,4,none⟩=some (.func (.func f2) #[] #[])) a15:=HSS.out _ hBx
   gi_wp2
   (try rw [hg]);(try rw [he])
   try (refine ⟨hS,?_⟩)
   clear hB he hg
   refine tkF (i:=14) (d:=53) (v:=.agg #[.int .i64 (P:Int),.slice (some ⟨gl,1,none⟩) 2 2,.slice (some ⟨g7,0,none⟩) 2 2]) (s:=hS) (c:=?_)
   simp only [ud9]
   refine oneF (i:=15) (c:=?_)
   have hgeg8:=hBx.size
   have hB:Below a15.heap.size a15 (a15.alloc (.cells #[.int .i64 0,.slice none 0 0,.slice none 0 0] 103)):=below_one a15 _
   have b8:Blk (a15.alloc (.cells #[.int .i64 0,.slice none 0 0,.slice none 0 0] 103)) a15.heap.size 103 #[.int .i64 0,.slice none 0 0,.slice none 0 0]:=Blk.new a15 _ _
   have hne_g7_g8:=bE7.lt
   obtain ⟨a16,he⟩:∃ x,(a15.alloc (.cells #[.int .i64 0,.slice none 0 0,.slice none 0 0] 103))=x:=⟨_,rfl⟩
   obtain ⟨g8,hg⟩:∃ x,a15.heap.size=x:=⟨_,rfl⟩
   rw [he] at hB b8
   rw [hg] at b8 hgeg8 hne_g7_g8
   have hgqg8:=Nat.le_of_eq hg
   have hqg8:=hB
   replace bE7:=bE7.below hB bE7.lt
   replace hBx:=below_in hBx hB
   clear hS
   have hS:(fun U:World=>U.cell? ⟨g0,0,none⟩=some (.int .i64 (P:Int))∧U.cell? ⟨g0,1,none⟩=some (.slice (some ⟨gl,0,none⟩) 3 3)∧U.cell? ⟨g0,2,none⟩=some (.slice (some ⟨gs,0,none⟩) 3 mc)∧U.cell? ⟨gl,0,none⟩=some (.int .i64 a)∧U.cell? ⟨gl,1,none⟩=some (.int .i64 b)∧U.cell? ⟨gl,2,none⟩=some (.int .i64 c)∧U.cell? ⟨g3,2,none⟩=some (.func (.func f0) #[] #[])∧U.cell? ⟨g3,4,none⟩=some (.func (.func f2) #[] #[])) a16:=HSS.out _ hBx
   gi_wp2
   (try rw [hg]);(try rw [he])
   try (refine ⟨hS,?_⟩)
   clear hB he hg
   refine oneF (i:=16) (c:=?_)
   have k0:=b8.cell 0
   have f0_:=b8.frozen 0
   have k1:=b8.cell 1
   have f1_:=b8.frozen 1
   have k2:=b8.cell 2
   have f2_:=b8.frozen 2
   simp only [gz9] at k0 k1 k2
   have bZ:Blk (((a16.setCell ⟨g8,0,none⟩ (.int .i64 (P:Int))).setCell ⟨g8,1,none⟩ (.slice (some ⟨gl,1,none⟩) 2 2)).setCell ⟨g8,2,none⟩ (.slice (some ⟨g7,0,none⟩) 2 2)) g8 103 #[.int .i64 (P:Int),.slice (some ⟨gl,1,none⟩) 2 2,.slice (some ⟨g7,0,none⟩) 2 2]:=(((b8.set_ 0 _).set_ 1 _).set_ 2 _)
   replace bE7:Blk (((a16.setCell ⟨g8,0,none⟩ (.int .i64 (P:Int))).setCell ⟨g8,1,none⟩ (.slice (some ⟨gl,1,none⟩) 2 2)).setCell ⟨g8,2,none⟩ (.slice (some ⟨g7,0,none⟩) 2 2)) g7 _ _:=(Blk.far (Blk.far (Blk.far bE7 (by show g7≠g8;omega) _) (by show g7≠g8;omega) _) (by show g7≠g8;omega) _)
   replace hBx:Below z4.heap.size z4 (((a16.setCell ⟨g8,0,none⟩ (.int .i64 (P:Int))).setCell ⟨g8,1,none⟩ (.slice (some ⟨gl,1,none⟩) 2 2)).setCell ⟨g8,2,none⟩ (.slice (some ⟨g7,0,none⟩) 2 2)):=(((hBx.setCell (by show z4.heap.size≤g8;omega) _).setCell (by show z4.heap.size≤g8;omega) _).setCell (by show z4.heap.size≤g8;omega) _)
   replace hqg8:=(Below.setCell (p:=⟨g8,2,none⟩) (Below.setCell (p:=⟨g8,1,none⟩) (Below.setCell (p:=⟨g8,0,none⟩) hqg8 hgqg8 (.int .i64 (P:Int))) hgqg8 (.slice (some ⟨gl,1,none⟩) 2 2)) hgqg8 (.slice (some ⟨g7,0,none⟩) 2 2))
   replace M2:=M2.below hqg8
   replace M6:=M6.below hqg8
   obtain ⟨z17,he⟩:∃ z,(((a16.setCell ⟨g8,0,none⟩ (.int .i64 (P:Int))).setCell ⟨g8,1,none⟩ (.slice (some ⟨gl,1,none⟩) 2 2)).setCell ⟨g8,2,none⟩ (.slice (some ⟨g7,0,none⟩) 2 2))=z:=⟨_,rfl⟩
   rw [he] at bZ hBx bE7 M2 M6
   clear b8
   have b8:=bZ
   clear bZ hqg8
   gi_wp2
   (try rw [he])
   clear he k0 k1 k2 f0_ f1_ f2_
   clear hS
   have hS:(fun U:World=>U.cell? ⟨g0,0,none⟩=some (.int .i64 (P:Int))∧U.cell? ⟨g0,1,none⟩=some (.slice (some ⟨gl,0,none⟩) 3 3)∧U.cell? ⟨g0,2,none⟩=some (.slice (some ⟨gs,0,none⟩) 3 mc)∧U.cell? ⟨gl,0,none⟩=some (.int .i64 a)∧U.cell? ⟨gl,1,none⟩=some (.int .i64 b)∧U.cell? ⟨gl,2,none⟩=some (.int .i64 c)∧U.cell? ⟨g3,2,none⟩=some (.func (.func f0) #[] #[])∧U.cell? ⟨g3,4,none⟩=some (.func (.func f2) #[] #[])) z17:=HSS.out _ hBx
   try (refine ⟨hS,?_⟩)
   refine anyHF_done (by kernel_rfl) ?_ _
   refine NoPanic.normal ?_
   clear hS
   have hB4:=hBx
   replace HSS:Hid (∀ V,Below z17.heap.size z17 V→(fun U:World=>U.cell? ⟨g0,0,none⟩=some (.int .i64 (P:Int))∧U.cell? ⟨g8,0,none⟩=some (.int .i64 (P:Int))∧U.cell? ⟨g8,1,none⟩=some (.slice (some ⟨gl,1,none⟩) 2 2)∧U.cell? ⟨g8,2,none⟩=some (.slice (some ⟨g7,0,none⟩) 2 2)) V):=fun V hV=>by
    obtain ⟨h0,h1,h2,h3,h4,h5,h6,h7⟩:=HSS.out V (below_in hB4 hV)
    exact ⟨h0,(b8.below hV b8.lt).cell 0,(b8.below hV b8.lt).cell 1,(b8.below hV b8.lt).cell 2⟩
   replace hBx:=Below.refl z17.heap.size z17
   gi_wp2_with fail
   have hd:Below z17.heap.size z17 z17.drew:=(Below.refl _ _).drew
   replace bE7:=bE7.below hd bE7.lt
   replace M2:=M2.below hd
   replace M6:=M6.below hd
   replace hBx:=below_in hBx hd
   clear hd
   have hS:(fun U:World=>U.cell? ⟨g0,0,none⟩=some (.int .i64 (P:Int))∧U.cell? ⟨g8,0,none⟩=some (.int .i64 (P:Int))∧U.cell? ⟨g8,1,none⟩=some (.slice (some ⟨gl,1,none⟩) 2 2)∧U.cell? ⟨g8,2,none⟩=some (.slice (some ⟨g7,0,none⟩) 2 2)) z17.drew:=HSS.out _ hBx
   refine wpIn_mono (region_HF (Q:=NoPanic _) (S:=(fun U:World=>U.cell? ⟨g0,0,none⟩=some (.int .i64 (P:Int))∧U.cell? ⟨g8,0,none⟩=some (.int .i64 (P:Int))∧U.cell? ⟨g8,1,none⟩=some (.slice (some ⟨gl,1,none⟩) 2 2)∧U.cell? ⟨g8,2,none⟩=some (.slice (some ⟨g7,0,none⟩) 2 2))) (by kernel_rfl) ?_) NoPanic.imp
   refine tkF (i:=0) (d:=54) (v:=.pointer (some ⟨g0,0,none⟩)) (s:=hS) (c:=?_)
   simp only [ud9]
   refine tkF (i:=1) (d:=55) (v:=.int .i64 (P:Int)) (s:=hS) (c:=?_)
   simp only [ud9]
   refine tkF (i:=2) (d:=56) (v:=.agg #[.int .i64 (P:Int),.slice (some ⟨gl,1,none⟩) 2 2,.slice (some ⟨g7,0,none⟩) 2 2]) (s:=hS) (c:=?_)
   simp only [ud9]
   refine tkF (i:=4) (d:=58) (v:=.int .i64 c) (s:=hS) (c:=?_)
   simp only [ud9]
   refine tkF (i:=5) (d:=59) (v:=.int .i64 a) (s:=hS) (c:=?_)
   simp only [ud9]
   refine tkF (i:=6) (d:=60) (v:=.int .i64 z) (s:=hS) (c:=?_)
   simp only [ud9]
   refine oneF (i:=3) (c:=?_)
   have hb8:=hBx.size
   gi_wp2_with fail
   refine ⟨trivial,(callsIn_wide.2 (HSE.out _ (below_in hB1 (below_in hB4 hBx)) _ _ _ _ _ bE7 M2.many M6.many)).mono ?_⟩
   rintro e v18 ⟨A8,c8,rfl,M8,hB⟩
   replace M8:=M8.less hb8
   clear hb8
   replace bE7:=bE7.below hB bE7.lt
   replace M2:=M2.below hB
   replace M6:=M6.below hB
   replace hBx:=below_in hBx hB
   clear hS
   have hS:(fun U:World=>U.cell? ⟨g0,0,none⟩=some (.int .i64 (P:Int))∧U.cell? ⟨g8,0,none⟩=some (.int .i64 (P:Int))∧U.cell? ⟨g8,1,none⟩=some (.slice (some ⟨gl,1,none⟩) 2 2)∧U.cell? ⟨g8,2,none⟩=some (.slice (some ⟨g7,0,none⟩) 2 2)) v18:=HSS.out _ hBx
   clear hB
   gi_wp2
   try (refine ⟨hS,?_⟩)
   refine oneF (i:=7) (c:=?_)
   have hb9:=hBx.size
   gi_wp2_with fail
   refine ⟨trivial,(callsIn_wide.2 (HSL.out _ (below_in hB1 (below_in hB4 hBx)) _ M8.many)).mono ?_⟩
   rintro e v19 ⟨A9,c9,rfl,M9,hB⟩
   replace M9:=M9.less hb9
   clear hb9
   replace bE7:=bE7.below hB bE7.lt
   replace M2:=M2.below hB
   replace M6:=M6.below hB
   replace M8:=M8.below hB
   replace hBx:=below_in hBx hB
   clear hS
   have hS:(fun U:World=>U.cell? ⟨g0,0,none⟩=some (.int .i64 (P:Int))∧U.cell? ⟨g8,0,none⟩=some (.int .i64 (P:Int))∧U.cell? ⟨g8,1,none⟩=some (.slice (some ⟨gl,1,none⟩) 2 2)∧U.cell? ⟨g8,2,none⟩=some (.slice (some ⟨g7,0,none⟩) 2 2)) v19:=HSS.out _ hBx
   clear hB
   gi_wp2
   try (refine ⟨hS,?_⟩)
   refine oneF (i:=8) (c:=?_)
   gi_wp2
   refine anyHF_done (by kernel_rfl) ?_ _
   refine NoPanic.normal ?_
   clear hS
   gi_wp2_with fail
   exact ⟨.slice A9 Q c9,by simp [results,Tryz.results78,go_sem],A9,c9,rfl,M9.less (Nat.le_trans HB0.out.size (Nat.le_trans hB1.size hB4.size)),below_in HB0.out (below_in hB1 (below_in hB4 hBx))⟩
  case c14b =>
   have hgeg8:=hBx.size
   have hB:Below v13.drew.heap.size v13.drew (v13.drew.alloc (.cells #[.int .i64 0,.slice none 0 0,.slice none 0 0] 103)):=below_one v13.drew _
   have b8:Blk (v13.drew.alloc (.cells #[.int .i64 0,.slice none 0 0,.slice none 0 0] 103)) v13.drew.heap.size 103 #[.int .i64 0,.slice none 0 0,.slice none 0 0]:=Blk.new v13.drew _ _
   obtain ⟨a18,he⟩:∃ x,(v13.drew.alloc (.cells #[.int .i64 0,.slice none 0 0,.slice none 0 0] 103))=x:=⟨_,rfl⟩
   obtain ⟨g8,hg⟩:∃ x,v13.drew.heap.size=x:=⟨_,rfl⟩
   rw [he] at hB b8
   rw [hg] at b8 hgeg8
   have hgqg8:=Nat.le_of_eq hg
   have hqg8:=hB
   replace hBx:=below_in hBx hB
   clear hS
   have hS:(fun U:World=>U.cell? ⟨g0,0,none⟩=some (.int .i64 (P:Int))∧U.cell? ⟨g0,1,none⟩=some (.slice (some ⟨gl,0,none⟩) 3 3)∧U.cell? ⟨g0,2,none⟩=some (.slice (some ⟨gs,0,none⟩) 3 mc)∧U.cell? ⟨gl,0,none⟩=some (.int .i64 a)∧U.cell? ⟨gl,1,none⟩=some (.int .i64 b)∧U.cell? ⟨gl,2,none⟩=some (.int .i64 c)∧U.cell? ⟨g3,2,none⟩=some (.func (.func f0) #[] #[])∧U.cell? ⟨g3,4,none⟩=some (.func (.func f2) #[] #[])) a18:=HSS.out _ hBx
   gi_wp2
   (try rw [hg]);(try rw [he])
   try (refine ⟨hS,?_⟩)
   clear hB he hg
   refine oneF (i:=13) (c:=?_)
   have hgeg7:=hBx.size
   have hB:Below a18.heap.size a18 (a18.alloc (.cells #[.slice A2 Q c2,.func (.func f0) #[] #[],.slice A6 Q c6,.func (.func f2) #[] #[]] 94)):=below_one a18 _
   have bE7:Blk (a18.alloc (.cells #[.slice A2 Q c2,.func (.func f0) #[] #[],.slice A6 Q c6,.func (.func f2) #[] #[]] 94)) a18.heap.size 94 #[.slice A2 Q c2,.func (.func f0) #[] #[],.slice A6 Q c6,.func (.func f2) #[] #[]]:=Blk.new a18 _ _
   have hne_g8_g7:=b8.lt
   obtain ⟨a19,he⟩:∃ x,(a18.alloc (.cells #[.slice A2 Q c2,.func (.func f0) #[] #[],.slice A6 Q c6,.func (.func f2) #[] #[]] 94))=x:=⟨_,rfl⟩
   obtain ⟨g7,hg⟩:∃ x,a18.heap.size=x:=⟨_,rfl⟩
   rw [he] at hB bE7
   rw [hg] at bE7 hgeg7 hne_g8_g7
   replace b8:=b8.below hB b8.lt
   replace hqg8:=below_in hqg8 hB
   replace hBx:=below_in hBx hB
   clear hS
   have hS:(fun U:World=>U.cell? ⟨g0,0,none⟩=some (.int .i64 (P:Int))∧U.cell? ⟨g0,1,none⟩=some (.slice (some ⟨gl,0,none⟩) 3 3)∧U.cell? ⟨g0,2,none⟩=some (.slice (some ⟨gs,0,none⟩) 3 mc)∧U.cell? ⟨gl,0,none⟩=some (.int .i64 a)∧U.cell? ⟨gl,1,none⟩=some (.int .i64 b)∧U.cell? ⟨gl,2,none⟩=some (.int .i64 c)∧U.cell? ⟨g3,2,none⟩=some (.func (.func f0) #[] #[])∧U.cell? ⟨g3,4,none⟩=some (.func (.func f2) #[] #[])) a19:=HSS.out _ hBx
   gi_wp2
   (try rw [hg]);(try rw [he])
   try (refine ⟨hS,?_⟩)
   clear hB he hg
   refine tkF (i:=14) (d:=53) (v:=.agg #[.int .i64 (P:Int),.slice (some ⟨gl,1,none⟩) 2 2,.slice (some ⟨g7,0,none⟩) 2 2]) (s:=hS) (c:=?_)
   simp only [ud9]
   refine oneF (i:=16) (c:=?_)
   have k0:=b8.cell 0
   have f0_:=b8.frozen 0
   have k1:=b8.cell 1
   have f1_:=b8.frozen 1
   have k2:=b8.cell 2
   have f2_:=b8.frozen 2
   simp only [gz9] at k0 k1 k2
   have bZ:Blk (((a19.setCell ⟨g8,0,none⟩ (.int .i64 (P:Int))).setCell ⟨g8,1,none⟩ (.slice (some ⟨gl,1,none⟩) 2 2)).setCell ⟨g8,2,none⟩ (.slice (some ⟨g7,0,none⟩) 2 2)) g8 103 #[.int .i64 (P:Int),.slice (some ⟨gl,1,none⟩) 2 2,.slice (some ⟨g7,0,none⟩) 2 2]:=(((b8.set_ 0 _).set_ 1 _).set_ 2 _)
   replace bE7:Blk (((a19.setCell ⟨g8,0,none⟩ (.int .i64 (P:Int))).setCell ⟨g8,1,none⟩ (.slice (some ⟨gl,1,none⟩) 2 2)).setCell ⟨g8,2,none⟩ (.slice (some ⟨g7,0,none⟩) 2 2)) g7 _ _:=(Blk.far (Blk.far (Blk.far bE7 (by show g7≠g8;omega) _) (by show g7≠g8;omega) _) (by show g7≠g8;omega) _)
   replace hBx:Below z4.heap.size z4 (((a19.setCell ⟨g8,0,none⟩ (.int .i64 (P:Int))).setCell ⟨g8,1,none⟩ (.slice (some ⟨gl,1,none⟩) 2 2)).setCell ⟨g8,2,none⟩ (.slice (some ⟨g7,0,none⟩) 2 2)):=(((hBx.setCell (by show z4.heap.size≤g8;omega) _).setCell (by show z4.heap.size≤g8;omega) _).setCell (by show z4.heap.size≤g8;omega) _)
   replace hqg8:=(Below.setCell (p:=⟨g8,2,none⟩) (Below.setCell (p:=⟨g8,1,none⟩) (Below.setCell (p:=⟨g8,0,none⟩) hqg8 hgqg8 (.int .i64 (P:Int))) hgqg8 (.slice (some ⟨gl,1,none⟩) 2 2)) hgqg8 (.slice (some ⟨g7,0,none⟩) 2 2))
   replace M2:=M2.below hqg8
   replace M6:=M6.below hqg8
   obtain ⟨z20,he⟩:∃ z,(((a19.setCell ⟨g8,0,none⟩ (.int .i64 (P:Int))).setCell ⟨g8,1,none⟩ (.slice (some ⟨gl,1,none⟩) 2 2)).setCell ⟨g8,2,none⟩ (.slice (some ⟨g7,0,none⟩) 2 2))=z:=⟨_,rfl⟩
   rw [he] at bZ hBx bE7 M2 M6
   clear b8
   have b8:=bZ
   clear bZ hqg8
   gi_wp2
   (try rw [he])
   clear he k0 k1 k2 f0_ f1_ f2_
   clear hS
   have hS:(fun U:World=>U.cell? ⟨g0,0,none⟩=some (.int .i64 (P:Int))∧U.cell? ⟨g0,1,none⟩=some (.slice (some ⟨gl,0,none⟩) 3 3)∧U.cell? ⟨g0,2,none⟩=some (.slice (some ⟨gs,0,none⟩) 3 mc)∧U.cell? ⟨gl,0,none⟩=some (.int .i64 a)∧U.cell? ⟨gl,1,none⟩=some (.int .i64 b)∧U.cell? ⟨gl,2,none⟩=some (.int .i64 c)∧U.cell? ⟨g3,2,none⟩=some (.func (.func f0) #[] #[])∧U.cell? ⟨g3,4,none⟩=some (.func (.func f2) #[] #[])) z20:=HSS.out _ hBx
   try (refine ⟨hS,?_⟩)
   refine anyHF_done (by kernel_rfl) ?_ _
   refine NoPanic.normal ?_
   clear hS
   have hB4:=hBx
   replace HSS:Hid (∀ V,Below z20.heap.size z20 V→(fun U:World=>U.cell? ⟨g0,0,none⟩=some (.int .i64 (P:Int))∧U.cell? ⟨g8,0,none⟩=some (.int .i64 (P:Int))∧U.cell? ⟨g8,1,none⟩=some (.slice (some ⟨gl,1,none⟩) 2 2)∧U.cell? ⟨g8,2,none⟩=some (.slice (some ⟨g7,0,none⟩) 2 2)) V):=fun V hV=>by
    obtain ⟨h0,h1,h2,h3,h4,h5,h6,h7⟩:=HSS.out V (below_in hB4 hV)
    exact ⟨h0,(b8.below hV b8.lt).cell 0,(b8.below hV b8.lt).cell 1,(b8.below hV b8.lt).cell 2⟩
   replace hBx:=Below.refl z20.heap.size z20
   gi_wp2_with fail
   have hd:Below z20.heap.size z20 z20.drew:=(Below.refl _ _).drew
   replace bE7:=bE7.below hd bE7.lt
   replace M2:=M2.below hd
   replace M6:=M6.below hd
   replace hBx:=below_in hBx hd
   clear hd
   have hS:(fun U:World=>U.cell? ⟨g0,0,none⟩=some (.int .i64 (P:Int))∧U.cell? ⟨g8,0,none⟩=some (.int .i64 (P:Int))∧U.cell? ⟨g8,1,none⟩=some (.slice (some ⟨gl,1,none⟩) 2 2)∧U.cell? ⟨g8,2,none⟩=some (.slice (some ⟨g7,0,none⟩) 2 2)) z20.drew:=HSS.out _ hBx
   refine wpIn_mono (region_HF (Q:=NoPanic _) (S:=(fun U:World=>U.cell? ⟨g0,0,none⟩=some (.int .i64 (P:Int))∧U.cell? ⟨g8,0,none⟩=some (.int .i64 (P:Int))∧U.cell? ⟨g8,1,none⟩=some (.slice (some ⟨gl,1,none⟩) 2 2)∧U.cell? ⟨g8,2,none⟩=some (.slice (some ⟨g7,0,none⟩) 2 2))) (by kernel_rfl) ?_) NoPanic.imp
   refine tkF (i:=0) (d:=54) (v:=.pointer (some ⟨g0,0,none⟩)) (s:=hS) (c:=?_)
   simp only [ud9]
   refine tkF (i:=1) (d:=55) (v:=.int .i64 (P:Int)) (s:=hS) (c:=?_)
   simp only [ud9]
   refine tkF (i:=2) (d:=56) (v:=.agg #[.int .i64 (P:Int),.slice (some ⟨gl,1,none⟩) 2 2,.slice (some ⟨g7,0,none⟩) 2 2]) (s:=hS) (c:=?_)
   simp only [ud9]
   refine tkF (i:=4) (d:=58) (v:=.int .i64 c) (s:=hS) (c:=?_)
   simp only [ud9]
   refine tkF (i:=5) (d:=59) (v:=.int .i64 a) (s:=hS) (c:=?_)
   simp only [ud9]
   refine tkF (i:=6) (d:=60) (v:=.int .i64 z) (s:=hS) (c:=?_)
   simp only [ud9]
   refine oneF (i:=3) (c:=?_)
   have hb8:=hBx.size
   gi_wp2_with fail
   refine ⟨trivial,(callsIn_wide.2 (HSE.out _ (below_in hB1 (below_in hB4 hBx)) _ _ _ _ _ bE7 M2.many M6.many)).mono ?_⟩
   rintro e v21 ⟨A8,c8,rfl,M8,hB⟩
   replace M8:=M8.less hb8
   clear hb8
   replace bE7:=bE7.below hB bE7.lt
   replace M2:=M2.below hB
   replace M6:=M6.below hB
   replace hBx:=below_in hBx hB
   clear hS
   have hS:(fun U:World=>U.cell? ⟨g0,0,none⟩=some (.int .i64 (P:Int))∧U.cell? ⟨g8,0,none⟩=some (.int .i64 (P:Int))∧U.cell? ⟨g8,1,none⟩=some (.slice (some ⟨gl,1,none⟩) 2 2)∧U.cell? ⟨g8,2,none⟩=some (.slice (some ⟨g7,0,none⟩) 2 2)) v21:=HSS.out _ hBx
   clear hB
   gi_wp2
   try (refine ⟨hS,?_⟩)
   refine oneF (i:=7) (c:=?_)
   have hb9:=hBx.size
   gi_wp2_with fail
   refine ⟨trivial,(callsIn_wide.2 (HSL.out _ (below_in hB1 (below_in hB4 hBx)) _ M8.many)).mono ?_⟩
   rintro e v22 ⟨A9,c9,rfl,M9,hB⟩
   replace M9:=M9.less hb9
   clear hb9
   replace bE7:=bE7.below hB bE7.lt
   replace M2:=M2.below hB
   replace M6:=M6.below hB
   replace M8:=M8.below hB
   replace hBx:=below_in hBx hB
   clear hS
   have hS:(fun U:World=>U.cell? ⟨g0,0,none⟩=some (.int .i64 (P:Int))∧U.cell? ⟨g8,0,none⟩=some (.int .i64 (P:Int))∧U.cell? ⟨g8,1,none⟩=some (.slice (some ⟨gl,1,none⟩) 2 2)∧U.cell? ⟨g8,2,none⟩=some (.slice (some ⟨g7,0,none⟩) 2 2)) v22:=HSS.out _ hBx
   clear hB
   gi_wp2
   try (refine ⟨hS,?_⟩)
   refine oneF (i:=8) (c:=?_)
   gi_wp2
   refine anyHF_done (by kernel_rfl) ?_ _
   refine NoPanic.normal ?_
   clear hS
   gi_wp2_with fail
   exact ⟨.slice A9 Q c9,by simp [results,Tryz.results78,go_sem],A9,c9,rfl,M9.less (Nat.le_trans HB0.out.size (Nat.le_trans hB1.size hB4.size)),below_in HB0.out (below_in hB1 (below_in hB4 hBx))⟩
 case c1b =>
  have hgeg3:=hBx.size
  have hB:Below w0.drew.heap.size w0.drew (w0.drew.alloc (.cells #[.nilFunc,.nilFunc,.nilFunc,.nilFunc,.nilFunc] 108)):=below_one w0.drew _
  have b3:Blk (w0.drew.alloc (.cells #[.nilFunc,.nilFunc,.nilFunc,.nilFunc,.nilFunc] 108)) w0.drew.heap.size 108 #[.nilFunc,.nilFunc,.nilFunc,.nilFunc,.nilFunc]:=Blk.new w0.drew _ _
  obtain ⟨a5,he⟩:∃ x,(w0.drew.alloc (.cells #[.nilFunc,.nilFunc,.nilFunc,.nilFunc,.nilFunc] 108))=x:=⟨_,rfl⟩
  obtain ⟨g3,hg⟩:∃ x,w0.drew.heap.size=x:=⟨_,rfl⟩
  rw [he] at hB b3
  rw [hg] at b3 hgeg3
  have hgqg3:=Nat.le_of_eq hg
  have hqg3:=hB
  replace hBx:=below_in hBx hB
  clear hS
  have hS:(fun U:World=>U.cell? ⟨g0,0,none⟩=some (.int .i64 (P:Int))∧U.cell? ⟨g0,1,none⟩=some (.slice (some ⟨gl,0,none⟩) 3 3)∧U.cell? ⟨g0,2,none⟩=some (.slice (some ⟨gs,0,none⟩) 3 mc)∧U.cell? ⟨gl,0,none⟩=some (.int .i64 a)∧U.cell? ⟨gl,1,none⟩=some (.int .i64 b)∧U.cell? ⟨gl,2,none⟩=some (.int .i64 c)) a5:=HSS.out _ hBx
  gi_wp2
  (try rw [hg]);(try rw [he])
  try (refine ⟨hS,?_⟩)
  clear hB he hg
  refine oneF (i:=0) (c:=?_)
  gi_wp2_with fail
  refine ⟨trivial,(callsIn_wide.2 (HTR.out _)).mono ?_⟩
  rintro e v6 ⟨rfl,hB⟩
  replace b3:=b3.below hB b3.lt
  replace hqg3:=below_in hqg3 hB
  replace hBx:=below_in hBx hB
  clear hS
  have hS:(fun U:World=>U.cell? ⟨g0,0,none⟩=some (.int .i64 (P:Int))∧U.cell? ⟨g0,1,none⟩=some (.slice (some ⟨gl,0,none⟩) 3 3)∧U.cell? ⟨g0,2,none⟩=some (.slice (some ⟨gs,0,none⟩) 3 mc)∧U.cell? ⟨gl,0,none⟩=some (.int .i64 a)∧U.cell? ⟨gl,1,none⟩=some (.int .i64 b)∧U.cell? ⟨gl,2,none⟩=some (.int .i64 c)) v6:=HSS.out _ hBx
  clear hB
  gi_wp2
  try (refine ⟨hS,?_⟩)
  refine oneF (i:=10) (c:=?_)
  have k0:=b3.cell 0
  have f0_:=b3.frozen 0
  have k1:=b3.cell 1
  have f1_:=b3.frozen 1
  have k2:=b3.cell 2
  have f2_:=b3.frozen 2
  have k3:=b3.cell 3
  have f3_:=b3.frozen 3
  have k4:=b3.cell 4
  have f4_:=b3.frozen 4
  simp only [gz9] at k0 k1 k2 k3 k4
  have bZ:Blk (((((v6.setCell ⟨g3,0,none⟩ (.nilFunc)).setCell ⟨g3,1,none⟩ (.nilFunc)).setCell ⟨g3,2,none⟩ (.func (.func f0) #[] #[])).setCell ⟨g3,3,none⟩ (.func (.func f1) #[] #[])).setCell ⟨g3,4,none⟩ (.func (.func f2) #[] #[])) g3 108 #[.nilFunc,.nilFunc,.func (.func f0) #[] #[],.func (.func f1) #[] #[],.func (.func f2) #[] #[]]:=(((((b3.set_ 0 _).set_ 1 _).set_ 2 _).set_ 3 _).set_ 4 _)
  replace hBx:Below w0.heap.size w0 (((((v6.setCell ⟨g3,0,none⟩ (.nilFunc)).setCell ⟨g3,1,none⟩ (.nilFunc)).setCell ⟨g3,2,none⟩ (.func (.func f0) #[] #[])).setCell ⟨g3,3,none⟩ (.func (.func f1) #[] #[])).setCell ⟨g3,4,none⟩ (.func (.func f2) #[] #[])):=(((((hBx.setCell (by show w0.heap.size≤g3;omega) _).setCell (by show w0.heap.size≤g3;omega) _).setCell (by show w0.heap.size≤g3;omega) _).setCell (by show w0.heap.size≤g3;omega) _).setCell (by show w0.heap.size≤g3;omega) _)
  replace hqg3:=(Below.setCell (p:=⟨g3,4,none⟩) (Below.setCell (p:=⟨g3,3,none⟩) (Below.setCell (p:=⟨g3,2,none⟩) (Below.setCell (p:=⟨g3,1,none⟩) (Below.setCell (p:=⟨g3,0,none⟩) hqg3 hgqg3 (.nilFunc)) hgqg3 (.nilFunc)) hgqg3 (.func (.func f0) #[] #[])) hgqg3 (.func (.func f1) #[] #[])) hgqg3 (.func (.func f2) #[] #[]))
  obtain ⟨z7,he⟩:∃ z,(((((v6.setCell ⟨g3,0,none⟩ (.nilFunc)).setCell ⟨g3,1,none⟩ (.nilFunc)).setCell ⟨g3,2,none⟩ (.func (.func f0) #[] #[])).setCell ⟨g3,3,none⟩ (.func (.func f1) #[] #[])).setCell ⟨g3,4,none⟩ (.func (.func f2) #[] #[]))=z:=⟨_,rfl⟩
  rw [he] at bZ hBx
  clear b3
  have b3:=bZ
  clear bZ hqg3
  gi_wp2
  (try rw [he])
  clear he k0 k1 k2 k3 k4 f0_ f1_ f2_ f3_ f4_
  clear hS
  have hS:(fun U:World=>U.cell? ⟨g0,0,none⟩=some (.int .i64 (P:Int))∧U.cell? ⟨g0,1,none⟩=some (.slice (some ⟨gl,0,none⟩) 3 3)∧U.cell? ⟨g0,2,none⟩=some (.slice (some ⟨gs,0,none⟩) 3 mc)∧U.cell? ⟨gl,0,none⟩=some (.int .i64 a)∧U.cell? ⟨gl,1,none⟩=some (.int .i64 b)∧U.cell? ⟨gl,2,none⟩=some (.int .i64 c)) z7:=HSS.out _ hBx
  try (refine ⟨hS,?_⟩)
  refine oneF (i:=11) (c:=?_)
  gi_wp2
  refine oneF (i:=12) (c:=?_)
  gi_wp2
  refine anyHF_done (by kernel_rfl) ?_ _
  refine NoPanic.normal ?_
  clear hS
  have hB1:=hBx
  replace HSS:Hid (∀ V,Below z7.heap.size z7 V→(fun U:World=>U.cell? ⟨g0,0,none⟩=some (.int .i64 (P:Int))∧U.cell? ⟨g0,1,none⟩=some (.slice (some ⟨gl,0,none⟩) 3 3)∧U.cell? ⟨g0,2,none⟩=some (.slice (some ⟨gs,0,none⟩) 3 mc)∧U.cell? ⟨gl,0,none⟩=some (.int .i64 a)∧U.cell? ⟨gl,1,none⟩=some (.int .i64 b)∧U.cell? ⟨gl,2,none⟩=some (.int .i64 c)∧U.cell? ⟨g3,2,none⟩=some (.func (.func f0) #[] #[])∧U.cell? ⟨g3,4,none⟩=some (.func (.func f2) #[] #[])) V):=fun V hV=>by
   obtain ⟨h0,h1,h2,h3,h4,h5⟩:=HSS.out V (below_in hB1 hV)
   exact ⟨h0,h1,h2,h3,h4,h5,(b3.below hV b3.lt).cell 2,(b3.below hV b3.lt).cell 4⟩
  replace hBx:=Below.refl z7.heap.size z7
  gi_wp2_with fail
  have hd:Below z7.heap.size z7 z7.drew:=(Below.refl _ _).drew
  replace hBx:=below_in hBx hd
  clear hd
  have hS:(fun U:World=>U.cell? ⟨g0,0,none⟩=some (.int .i64 (P:Int))∧U.cell? ⟨g0,1,none⟩=some (.slice (some ⟨gl,0,none⟩) 3 3)∧U.cell? ⟨g0,2,none⟩=some (.slice (some ⟨gs,0,none⟩) 3 mc)∧U.cell? ⟨gl,0,none⟩=some (.int .i64 a)∧U.cell? ⟨gl,1,none⟩=some (.int .i64 b)∧U.cell? ⟨gl,2,none⟩=some (.int .i64 c)∧U.cell? ⟨g3,2,none⟩=some (.func (.func f0) #[] #[])∧U.cell? ⟨g3,4,none⟩=some (.func (.func f2) #[] #[])) z7.drew:=HSS.out _ hBx
  refine wpIn_mono (region_HF (Q:=NoPanic _) (S:=(fun U:World=>U.cell? ⟨g0,0,none⟩=some (.int .i64 (P:Int))∧U.cell? ⟨g0,1,none⟩=some (.slice (some ⟨gl,0,none⟩) 3 3)∧U.cell? ⟨g0,2,none⟩=some (.slice (some ⟨gs,0,none⟩) 3 mc)∧U.cell? ⟨gl,0,none⟩=some (.int .i64 a)∧U.cell? ⟨gl,1,none⟩=some (.int .i64 b)∧U.cell? ⟨gl,2,none⟩=some (.int .i64 c)∧U.cell? ⟨g3,2,none⟩=some (.func (.func f0) #[] #[])∧U.cell? ⟨g3,4,none⟩=some (.func (.func f2) #[] #[]))) (by kernel_rfl) ?_) NoPanic.imp
  refine tkF (i:=0) (d:=18) (v:=.pointer (some ⟨g0,0,none⟩)) (s:=hS) (c:=?_)
  simp only [ud9]
  refine tkF (i:=1) (d:=19) (v:=.int .i64 (P:Int)) (s:=hS) (c:=?_)
  simp only [ud9]
  refine tkF (i:=2) (d:=20) (v:=.agg #[.int .i64 (P:Int),.slice (some ⟨gl,0,none⟩) 3 3,.slice (some ⟨gs,0,none⟩) 3 mc]) (s:=hS) (c:=?_)
  simp only [ud9]
  refine tkF (i:=4) (d:=22) (v:=.agg #[.int .i64 (P:Int),.slice (some ⟨gl,0,none⟩) 3 3,.slice (some ⟨gs,0,none⟩) 3 mc]) (s:=hS) (c:=?_)
  simp only [ud9]
  refine oneF (i:=3) (c:=?_)
  have hb0:=hBx.size
  gi_wp2_with fail
  refine ⟨trivial,(callsIn_wide.2 (HBK0.out _ (below_in hB1 hBx))).mono ?_⟩
  rintro e v8 ⟨A0,c0,rfl,M0,hB⟩
  replace M0:=M0.less hb0
  clear hb0
  replace hBx:=below_in hBx hB
  clear hS
  have hS:(fun U:World=>U.cell? ⟨g0,0,none⟩=some (.int .i64 (P:Int))∧U.cell? ⟨g0,1,none⟩=some (.slice (some ⟨gl,0,none⟩) 3 3)∧U.cell? ⟨g0,2,none⟩=some (.slice (some ⟨gs,0,none⟩) 3 mc)∧U.cell? ⟨gl,0,none⟩=some (.int .i64 a)∧U.cell? ⟨gl,1,none⟩=some (.int .i64 b)∧U.cell? ⟨gl,2,none⟩=some (.int .i64 c)∧U.cell? ⟨g3,2,none⟩=some (.func (.func f0) #[] #[])∧U.cell? ⟨g3,4,none⟩=some (.func (.func f2) #[] #[])) v8:=HSS.out _ hBx
  clear hB
  gi_wp2
  try (refine ⟨hS,?_⟩)
  refine oneF (i:=5) (c:=?_)
  have hb1:=hBx.size
  gi_wp2_with fail
  refine ⟨trivial,(callsIn_wide.2 (HBK1.out _ (below_in hB1 hBx))).mono ?_⟩
  rintro e v9 ⟨A1,c1,rfl,M1,hB⟩
  replace M1:=M1.less hb1
  clear hb1
  replace M0:=M0.below hB
  replace hBx:=below_in hBx hB
  clear hS
  have hS:(fun U:World=>U.cell? ⟨g0,0,none⟩=some (.int .i64 (P:Int))∧U.cell? ⟨g0,1,none⟩=some (.slice (some ⟨gl,0,none⟩) 3 3)∧U.cell? ⟨g0,2,none⟩=some (.slice (some ⟨gs,0,none⟩) 3 mc)∧U.cell? ⟨gl,0,none⟩=some (.int .i64 a)∧U.cell? ⟨gl,1,none⟩=some (.int .i64 b)∧U.cell? ⟨gl,2,none⟩=some (.int .i64 c)∧U.cell? ⟨g3,2,none⟩=some (.func (.func f0) #[] #[])∧U.cell? ⟨g3,4,none⟩=some (.func (.func f2) #[] #[])) v9:=HSS.out _ hBx
  clear hB
  gi_wp2
  try (refine ⟨hS,?_⟩)
  refine oneF (i:=6) (c:=?_)
  have hgege:=hBx.size
  have hB:Below v9.heap.size v9 (v9.alloc (.cells #[.slice A0 Q c0,.slice A1 Q c1] 41)):=below_one v9 _
  have bE:Blk (v9.alloc (.cells #[.slice A0 Q c0,.slice A1 Q c1] 41)) v9.heap.size 41 #[.slice A0 Q c0,.slice A1 Q c1]:=Blk.new v9 _ _
  obtain ⟨a10,he⟩:∃ x,(v9.alloc (.cells #[.slice A0 Q c0,.slice A1 Q c1] 41))=x:=⟨_,rfl⟩
  obtain ⟨ge,hg⟩:∃ x,v9.heap.size=x:=⟨_,rfl⟩
  rw [he] at hB bE
  rw [hg] at bE hgege
  replace M0:=M0.below hB
  replace M1:=M1.below hB
  replace hBx:=below_in hBx hB
  clear hS
  have hS:(fun U:World=>U.cell? ⟨g0,0,none⟩=some (.int .i64 (P:Int))∧U.cell? ⟨g0,1,none⟩=some (.slice (some ⟨gl,0,none⟩) 3 3)∧U.cell? ⟨g0,2,none⟩=some (.slice (some ⟨gs,0,none⟩) 3 mc)∧U.cell? ⟨gl,0,none⟩=some (.int .i64 a)∧U.cell? ⟨gl,1,none⟩=some (.int .i64 b)∧U.cell? ⟨gl,2,none⟩=some (.int .i64 c)∧U.cell? ⟨g3,2,none⟩=some (.func (.func f0) #[] #[])∧U.cell? ⟨g3,4,none⟩=some (.func (.func f2) #[] #[])) a10:=HSS.out _ hBx
  gi_wp2
  (try rw [hg]);(try rw [he])
  try (refine ⟨hS,?_⟩)
  clear hB he hg
  refine oneF (i:=7) (c:=?_)
  have hb2:=hBx.size
  gi_wp2_with fail
  refine ⟨trivial,(callsIn_wide.2 (HUP.out _ (below_in hB1 hBx) _ (cols_two bE M0.many M1.many bE.lt))).mono ?_⟩
  rintro e v11 ⟨A2,c2,rfl,M2,hB⟩
  replace M2:=M2.less hb2
  clear hb2
  replace bE:=bE.below hB bE.lt
  replace M0:=M0.below hB
  replace M1:=M1.below hB
  replace hBx:=below_in hBx hB
  clear hS
  have hS:(fun U:World=>U.cell? ⟨g0,0,none⟩=some (.int .i64 (P:Int))∧U.cell? ⟨g0,1,none⟩=some (.slice (some ⟨gl,0,none⟩) 3 3)∧U.cell? ⟨g0,2,none⟩=some (.slice (some ⟨gs,0,none⟩) 3 mc)∧U.cell? ⟨gl,0,none⟩=some (.int .i64 a)∧U.cell? ⟨gl,1,none⟩=some (.int .i64 b)∧U.cell? ⟨gl,2,none⟩=some (.int .i64 c)∧U.cell? ⟨g3,2,none⟩=some (.func (.func f0) #[] #[])∧U.cell? ⟨g3,4,none⟩=some (.func (.func f2) #[] #[])) v11:=HSS.out _ hBx
  clear hB
  gi_wp2
  try (refine ⟨hS,?_⟩)
  refine oneF (i:=8) (c:=?_)
  gi_wp2
  refine anyHF_done (by kernel_rfl) ?_ _
  refine NoPanic.normal ?_
  clear hS
  gi_wp2_with fail
  have hd:Below v11.heap.size v11 v11.drew:=(Below.refl _ _).drew
  replace M2:=M2.below hd
  replace hBx:=below_in hBx hd
  clear hd
  have hS:(fun U:World=>U.cell? ⟨g0,0,none⟩=some (.int .i64 (P:Int))∧U.cell? ⟨g0,1,none⟩=some (.slice (some ⟨gl,0,none⟩) 3 3)∧U.cell? ⟨g0,2,none⟩=some (.slice (some ⟨gs,0,none⟩) 3 mc)∧U.cell? ⟨gl,0,none⟩=some (.int .i64 a)∧U.cell? ⟨gl,1,none⟩=some (.int .i64 b)∧U.cell? ⟨gl,2,none⟩=some (.int .i64 c)∧U.cell? ⟨g3,2,none⟩=some (.func (.func f0) #[] #[])∧U.cell? ⟨g3,4,none⟩=some (.func (.func f2) #[] #[])) v11.drew:=HSS.out _ hBx
  refine wpIn_mono (region_HF (Q:=NoPanic _) (S:=(fun U:World=>U.cell? ⟨g0,0,none⟩=some (.int .i64 (P:Int))∧U.cell? ⟨g0,1,none⟩=some (.slice (some ⟨gl,0,none⟩) 3 3)∧U.cell? ⟨g0,2,none⟩=some (.slice (some ⟨gs,0,none⟩) 3 mc)∧U.cell? ⟨gl,0,none⟩=some (.int .i64 a)∧U.cell? ⟨gl,1,none⟩=some (.int .i64 b)∧U.cell? ⟨gl,2,none⟩=some (.int .i64 c)∧U.cell? ⟨g3,2,none⟩=some (.func (.func f0) #[] #[])∧U.cell? ⟨g3,4,none⟩=some (.func (.func f2) #[] #[]))) (by kernel_rfl) ?_) NoPanic.imp
  refine tkF (i:=0) (d:=26) (v:=.pointer (some ⟨g0,0,none⟩)) (s:=hS) (c:=?_)
  simp only [ud9]
  refine tkF (i:=1) (d:=27) (v:=.int .i64 (P:Int)) (s:=hS) (c:=?_)
  simp only [ud9]
  refine tkF (i:=2) (d:=28) (v:=.pointer (some ⟨g0,0,none⟩)) (s:=hS) (c:=?_)
  simp only [ud9]
  refine tkF (i:=3) (d:=29) (v:=.int .i64 (P:Int)) (s:=hS) (c:=?_)
  simp only [ud9]
  refine tkF (i:=4) (d:=30) (v:=.agg #[.int .i64 (P:Int),.slice (some ⟨gl,0,none⟩) 3 3,.slice (some ⟨gs,0,none⟩) 3 mc]) (s:=hS) (c:=?_)
  simp only [ud9]
  refine tkF (i:=6) (d:=32) (v:=.agg #[.int .i64 (P:Int),.slice (some ⟨gl,0,none⟩) 3 3,.slice (some ⟨gs,0,none⟩) 3 mc]) (s:=hS) (c:=?_)
  simp only [ud9]
  refine tkF (i:=10) (d:=36) (v:=.int .i64 a) (s:=hS) (c:=?_)
  simp only [ud9]
  refine tkF (i:=11) (d:=37) (v:=.int .i64 (-a)) (s:=hS) (c:=?_)
  simp only [ud9]
  refine oneF (i:=5) (c:=?_)
  have hb3:=hBx.size
  gi_wp2_with fail
  refine ⟨trivial,(callsIn_wide.2 (HBK0.out _ (below_in hB1 hBx))).mono ?_⟩
  rintro e v12 ⟨A3,c3,rfl,M3,hB⟩
  replace M3:=M3.less hb3
  clear hb3
  replace M2:=M2.below hB
  replace hBx:=below_in hBx hB
  clear hS
  have hS:(fun U:World=>U.cell? ⟨g0,0,none⟩=some (.int .i64 (P:Int))∧U.cell? ⟨g0,1,none⟩=some (.slice (some ⟨gl,0,none⟩) 3 3)∧U.cell? ⟨g0,2,none⟩=some (.slice (some ⟨gs,0,none⟩) 3 mc)∧U.cell? ⟨gl,0,none⟩=some (.int .i64 a)∧U.cell? ⟨gl,1,none⟩=some (.int .i64 b)∧U.cell? ⟨gl,2,none⟩=some (.int .i64 c)∧U.cell? ⟨g3,2,none⟩=some (.func (.func f0) #[] #[])∧U.cell? ⟨g3,4,none⟩=some (.func (.func f2) #[] #[])) v12:=HSS.out _ hBx
  clear hB
  gi_wp2
  try (refine ⟨hS,?_⟩)
  refine oneF (i:=7) (c:=?_)
  have hb4:=hBx.size
  gi_wp2_with fail
  refine ⟨trivial,(callsIn_wide.2 (HBK2.out _ (below_in hB1 hBx))).mono ?_⟩
  rintro e v13 ⟨A4,c4,rfl,M4,hB⟩
  replace M4:=M4.less hb4
  clear hb4
  replace M2:=M2.below hB
  replace M3:=M3.below hB
  replace hBx:=below_in hBx hB
  clear hS
  have hS:(fun U:World=>U.cell? ⟨g0,0,none⟩=some (.int .i64 (P:Int))∧U.cell? ⟨g0,1,none⟩=some (.slice (some ⟨gl,0,none⟩) 3 3)∧U.cell? ⟨g0,2,none⟩=some (.slice (some ⟨gs,0,none⟩) 3 mc)∧U.cell? ⟨gl,0,none⟩=some (.int .i64 a)∧U.cell? ⟨gl,1,none⟩=some (.int .i64 b)∧U.cell? ⟨gl,2,none⟩=some (.int .i64 c)∧U.cell? ⟨g3,2,none⟩=some (.func (.func f0) #[] #[])∧U.cell? ⟨g3,4,none⟩=some (.func (.func f2) #[] #[])) v13:=HSS.out _ hBx
  clear hB
  gi_wp2
  try (refine ⟨hS,?_⟩)
  refine oneF (i:=8) (c:=?_)
  have hgegf:=hBx.size
  have hB:Below v13.heap.size v13 (v13.alloc (.cells #[.slice A3 Q c3,.slice A4 Q c4] 41)):=below_one v13 _
  have bF:Blk (v13.alloc (.cells #[.slice A3 Q c3,.slice A4 Q c4] 41)) v13.heap.size 41 #[.slice A3 Q c3,.slice A4 Q c4]:=Blk.new v13 _ _
  obtain ⟨a14,he⟩:∃ x,(v13.alloc (.cells #[.slice A3 Q c3,.slice A4 Q c4] 41))=x:=⟨_,rfl⟩
  obtain ⟨gf,hg⟩:∃ x,v13.heap.size=x:=⟨_,rfl⟩
  rw [he] at hB bF
  rw [hg] at bF hgegf
  replace M2:=M2.below hB
  replace M3:=M3.below hB
  replace M4:=M4.below hB
  replace hBx:=below_in hBx hB
  clear hS
  have hS:(fun U:World=>U.cell? ⟨g0,0,none⟩=some (.int .i64 (P:Int))∧U.cell? ⟨g0,1,none⟩=some (.slice (some ⟨gl,0,none⟩) 3 3)∧U.cell? ⟨g0,2,none⟩=some (.slice (some ⟨gs,0,none⟩) 3 mc)∧U.cell? ⟨gl,0,none⟩=some (.int .i64 a)∧U.cell? ⟨gl,1,none⟩=some (.int .i64 b)∧U.cell? ⟨gl,2,none⟩=some (.int .i64 c)∧U.cell? ⟨g3,2,none⟩=some (.func (.func f0) #[] #[])∧U.cell? ⟨g3,4,none⟩=some (.func (.func f2) #[] #[])) a14:=HSS.out _ hBx
  gi_wp2
  (try rw [hg]);(try rw [he])
  try (refine ⟨hS,?_⟩)
  clear hB he hg
  refine oneF (i:=9) (c:=?_)
  have hb5:=hBx.size
  gi_wp2_with fail
  refine ⟨trivial,(callsIn_wide.2 (HUP2.out _ (below_in hB1 hBx) _ (cols_two bF M3.many M4.many bF.lt))).mono ?_⟩
  rintro e v15 ⟨A5,c5,rfl,M5,hB⟩
  replace M5:=M5.less hb5
  clear hb5
  replace bF:=bF.below hB bF.lt
  replace M2:=M2.below hB
  replace M3:=M3.below hB
  replace M4:=M4.below hB
  replace hBx:=below_in hBx hB
  clear hS
  have hS:(fun U:World=>U.cell? ⟨g0,0,none⟩=some (.int .i64 (P:Int))∧U.cell? ⟨g0,1,none⟩=some (.slice (some ⟨gl,0,none⟩) 3 3)∧U.cell? ⟨g0,2,none⟩=some (.slice (some ⟨gs,0,none⟩) 3 mc)∧U.cell? ⟨gl,0,none⟩=some (.int .i64 a)∧U.cell? ⟨gl,1,none⟩=some (.int .i64 b)∧U.cell? ⟨gl,2,none⟩=some (.int .i64 c)∧U.cell? ⟨g3,2,none⟩=some (.func (.func f0) #[] #[])∧U.cell? ⟨g3,4,none⟩=some (.func (.func f2) #[] #[])) v15:=HSS.out _ hBx
  clear hB
  gi_wp2
  try (refine ⟨hS,?_⟩)
  refine oneF (i:=12) (c:=?_)
  have hb6:=hBx.size
  gi_wp2_with fail
  refine ⟨trivial,(callsIn_wide.2 (HTU.out _ (below_in hB1 hBx) _ M5.many)).mono ?_⟩
  rintro e v16 ⟨A6,c6,rfl,M6,hB⟩
  replace M6:=M6.less hb6
  clear hb6
  replace bF:=bF.below hB bF.lt
  replace M2:=M2.below hB
  replace M3:=M3.below hB
  replace M4:=M4.below hB
  replace M5:=M5.below hB
  replace hBx:=below_in hBx hB
  clear hS
  have hS:(fun U:World=>U.cell? ⟨g0,0,none⟩=some (.int .i64 (P:Int))∧U.cell? ⟨g0,1,none⟩=some (.slice (some ⟨gl,0,none⟩) 3 3)∧U.cell? ⟨g0,2,none⟩=some (.slice (some ⟨gs,0,none⟩) 3 mc)∧U.cell? ⟨gl,0,none⟩=some (.int .i64 a)∧U.cell? ⟨gl,1,none⟩=some (.int .i64 b)∧U.cell? ⟨gl,2,none⟩=some (.int .i64 c)∧U.cell? ⟨g3,2,none⟩=some (.func (.func f0) #[] #[])∧U.cell? ⟨g3,4,none⟩=some (.func (.func f2) #[] #[])) v16:=HSS.out _ hBx
  clear hB
  gi_wp2
  try (refine ⟨hS,?_⟩)
  refine oneF (i:=13) (c:=?_)
  gi_wp2
  refine anyHF_done (by kernel_rfl) ?_ _
  refine NoPanic.normal ?_
  clear hS
  gi_wp2_with fail
  have hd:Below v16.heap.size v16 v16.drew:=(Below.refl _ _).drew
  replace M2:=M2.below hd
  replace M6:=M6.below hd
  replace hBx:=below_in hBx hd
  clear hd
  have hS:(fun U:World=>U.cell? ⟨g0,0,none⟩=some (.int .i64 (P:Int))∧U.cell? ⟨g0,1,none⟩=some (.slice (some ⟨gl,0,none⟩) 3 3)∧U.cell? ⟨g0,2,none⟩=some (.slice (some ⟨gs,0,none⟩) 3 mc)∧U.cell? ⟨gl,0,none⟩=some (.int .i64 a)∧U.cell? ⟨gl,1,none⟩=some (.int .i64 b)∧U.cell? ⟨gl,2,none⟩=some (.int .i64 c)∧U.cell? ⟨g3,2,none⟩=some (.func (.func f0) #[] #[])∧U.cell? ⟨g3,4,none⟩=some (.func (.func f2) #[] #[])) v16.drew:=HSS.out _ hBx
  refine wpIn_mono (region_HF (Q:=NoPanic _) (S:=(fun U:World=>U.cell? ⟨g0,0,none⟩=some (.int .i64 (P:Int))∧U.cell? ⟨g0,1,none⟩=some (.slice (some ⟨gl,0,none⟩) 3 3)∧U.cell? ⟨g0,2,none⟩=some (.slice (some ⟨gs,0,none⟩) 3 mc)∧U.cell? ⟨gl,0,none⟩=some (.int .i64 a)∧U.cell? ⟨gl,1,none⟩=some (.int .i64 b)∧U.cell? ⟨gl,2,none⟩=some (.int .i64 c)∧U.cell? ⟨g3,2,none⟩=some (.func (.func f0) #[] #[])∧U.cell? ⟨g3,4,none⟩=some (.func (.func f2) #[] #[]))) (by kernel_rfl) ?_) NoPanic.imp
  refine tkF (i:=0) (d:=39) (v:=.pointer (some ⟨g0,0,none⟩)) (s:=hS) (c:=?_)
  simp only [ud9]
  refine tkF (i:=1) (d:=40) (v:=.int .i64 (P:Int)) (s:=hS) (c:=?_)
  simp only [ud9]
  refine tkF (i:=2) (d:=41) (v:=.pointer (some ⟨g0,1,none⟩)) (s:=hS) (c:=?_)
  simp only [ud9]
  refine tkF (i:=3) (d:=42) (v:=.slice (some ⟨gl,0,none⟩) 3 3) (s:=hS) (c:=?_)
  simp only [ud9]
  refine tkF (i:=4) (d:=43) (v:=.slice (some ⟨gl,1,none⟩) 2 2) (s:=hS) (c:=?_)
  simp only [ud9]
  refine tkF (i:=5) (d:=44) (v:=.slice A2 Q c2) (s:=hS) (c:=?_)
  simp only [ud9]
  refine tkF (i:=6) (d:=45) (v:=.pointer (some ⟨g3,2,none⟩)) (s:=hS) (c:=?_)
  simp only [ud9]
  refine tkF (i:=7) (d:=46) (v:=.func (.func f0) #[] #[]) (s:=hS) (c:=?_)
  simp only [ud9]
  refine tkF (i:=8) (d:=47) (v:=.agg #[.slice A2 Q c2,.func (.func f0) #[] #[]]) (s:=hS) (c:=?_)
  simp only [ud9]
  refine tkF (i:=9) (d:=48) (v:=.slice A6 Q c6) (s:=hS) (c:=?_)
  simp only [ud9]
  refine tkF (i:=10) (d:=49) (v:=.pointer (some ⟨g3,4,none⟩)) (s:=hS) (c:=?_)
  simp only [ud9]
  refine tkF (i:=11) (d:=50) (v:=.func (.func f2) #[] #[]) (s:=hS) (c:=?_)
  simp only [ud9]
  refine tkF (i:=12) (d:=51) (v:=.agg #[.slice A6 Q c6,.func (.func f2) #[] #[]]) (s:=hS) (c:=?_)
  simp only [ud9]
  refine Rg.anyHF_both (i:=13) (j:=15) (by kernel_rfl) rfl rfl (by rfl) (by rfl) ?c17a ?c17b
  case c17a =>
   have hgeg7:=hBx.size
   have hB:Below v16.drew.heap.size v16.drew (v16.drew.alloc (.cells #[.slice A2 Q c2,.func (.func f0) #[] #[],.slice A6 Q c6,.func (.func f2) #[] #[]] 94)):=below_one v16.drew _
   have bE7:Blk (v16.drew.alloc (.cells #[.slice A2 Q c2,.func (.func f0) #[] #[],.slice A6 Q c6,.func (.func f2) #[] #[]] 94)) v16.drew.heap.size 94 #[.slice A2 Q c2,.func (.func f0) #[] #[],.slice A6 Q c6,.func (.func f2) #[] #[]]:=Blk.new v16.drew _ _
   obtain ⟨a18,he⟩:∃ x,(v16.drew.alloc (.cells #[.slice A2 Q c2,.func (.func f0) #[] #[],.slice A6 Q c6,.func (.func f2) #[] #[]] 94))=x:=⟨_,rfl⟩
   obtain ⟨g7,hg⟩:∃ x,v16.drew.heap.size=x:=⟨_,rfl⟩
   rw [he] at hB bE7
   rw [hg] at bE7 hgeg7
   replace M2:=M2.below hB
   replace M6:=M6.below hB
   replace hBx:=below_in hBx hB
   clear hS
   have hS:(fun U:World=>U.cell? ⟨g0,0,none⟩=some (.int .i64 (P:Int))∧U.cell? ⟨g0,1,none⟩=some (.slice (some ⟨gl,0,none⟩) 3 3)∧U.cell? ⟨g0,2,none⟩=some (.slice (some ⟨gs,0,none⟩) 3 mc)∧U.cell? ⟨gl,0,none⟩=some (.int .i64 a)∧U.cell? ⟨gl,1,none⟩=some (.int .i64 b)∧U.cell? ⟨gl,2,none⟩=some (.int .i64 c)∧U.cell? ⟨g3,2,none⟩=some (.func (.func f0) #[] #[])∧U.cell? ⟨g3,4,none⟩=some (.func (.func f2) #[] #[])) a18:=HSS.out _ hBx
   gi_wp2
   (try rw [hg]);(try rw [he])
   try (refine ⟨hS,?_⟩)
   clear hB he hg
   refine tkF (i:=14) (d:=53) (v:=.agg #[.int .i64 (P:Int),.slice (some ⟨gl,1,none⟩) 2 2,.slice (some ⟨g7,0,none⟩) 2 2]) (s:=hS) (c:=?_)
   simp only [ud9]
   refine oneF (i:=15) (c:=?_)
   have hgeg8:=hBx.size
   have hB:Below a18.heap.size a18 (a18.alloc (.cells #[.int .i64 0,.slice none 0 0,.slice none 0 0] 103)):=below_one a18 _
   have b8:Blk (a18.alloc (.cells #[.int .i64 0,.slice none 0 0,.slice none 0 0] 103)) a18.heap.size 103 #[.int .i64 0,.slice none 0 0,.slice none 0 0]:=Blk.new a18 _ _
   have hne_g7_g8:=bE7.lt
   obtain ⟨a19,he⟩:∃ x,(a18.alloc (.cells #[.int .i64 0,.slice none 0 0,.slice none 0 0] 103))=x:=⟨_,rfl⟩
   obtain ⟨g8,hg⟩:∃ x,a18.heap.size=x:=⟨_,rfl⟩
   rw [he] at hB b8
   rw [hg] at b8 hgeg8 hne_g7_g8
   have hgqg8:=Nat.le_of_eq hg
   have hqg8:=hB
   replace bE7:=bE7.below hB bE7.lt
   replace hBx:=below_in hBx hB
   clear hS
   have hS:(fun U:World=>U.cell? ⟨g0,0,none⟩=some (.int .i64 (P:Int))∧U.cell? ⟨g0,1,none⟩=some (.slice (some ⟨gl,0,none⟩) 3 3)∧U.cell? ⟨g0,2,none⟩=some (.slice (some ⟨gs,0,none⟩) 3 mc)∧U.cell? ⟨gl,0,none⟩=some (.int .i64 a)∧U.cell? ⟨gl,1,none⟩=some (.int .i64 b)∧U.cell? ⟨gl,2,none⟩=some (.int .i64 c)∧U.cell? ⟨g3,2,none⟩=some (.func (.func f0) #[] #[])∧U.cell? ⟨g3,4,none⟩=some (.func (.func f2) #[] #[])) a19:=HSS.out _ hBx
   gi_wp2
   (try rw [hg]);(try rw [he])
   try (refine ⟨hS,?_⟩)
   clear hB he hg
   refine oneF (i:=16) (c:=?_)
   have k0:=b8.cell 0
   have f0_:=b8.frozen 0
   have k1:=b8.cell 1
   have f1_:=b8.frozen 1
   have k2:=b8.cell 2
   have f2_:=b8.frozen 2
   simp only [gz9] at k0 k1 k2
   have bZ:Blk (((a19.setCell ⟨g8,0,none⟩ (.int .i64 (P:Int))).setCell ⟨g8,1,none⟩ (.slice (some ⟨gl,1,none⟩) 2 2)).setCell ⟨g8,2,none⟩ (.slice (some ⟨g7,0,none⟩) 2 2)) g8 103 #[.int .i64 (P:Int),.slice (some ⟨gl,1,none⟩) 2 2,.slice (some ⟨g7,0,none⟩) 2 2]:=(((b8.set_ 0 _).set_ 1 _).set_ 2 _)
   replace bE7:Blk (((a19.setCell ⟨g8,0,none⟩ (.int .i64 (P:Int))).setCell ⟨g8,1,none⟩ (.slice (some ⟨gl,1,none⟩) 2 2)).setCell ⟨g8,2,none⟩ (.slice (some ⟨g7,0,none⟩) 2 2)) g7 _ _:=(Blk.far (Blk.far (Blk.far bE7 (by show g7≠g8;omega) _) (by show g7≠g8;omega) _) (by show g7≠g8;omega) _)
   replace hBx:Below z7.heap.size z7 (((a19.setCell ⟨g8,0,none⟩ (.int .i64 (P:Int))).setCell ⟨g8,1,none⟩ (.slice (some ⟨gl,1,none⟩) 2 2)).setCell ⟨g8,2,none⟩ (.slice (some ⟨g7,0,none⟩) 2 2)):=(((hBx.setCell (by show z7.heap.size≤g8;omega) _).setCell (by show z7.heap.size≤g8;omega) _).setCell (by show z7.heap.size≤g8;omega) _)
   replace hqg8:=(Below.setCell (p:=⟨g8,2,none⟩) (Below.setCell (p:=⟨g8,1,none⟩) (Below.setCell (p:=⟨g8,0,none⟩) hqg8 hgqg8 (.int .i64 (P:Int))) hgqg8 (.slice (some ⟨gl,1,none⟩) 2 2)) hgqg8 (.slice (some ⟨g7,0,none⟩) 2 2))
   replace M2:=M2.below hqg8
   replace M6:=M6.below hqg8
   obtain ⟨z20,he⟩:∃ z,(((a19.setCell ⟨g8,0,none⟩ (.int .i64 (P:Int))).setCell ⟨g8,1,none⟩ (.slice (some ⟨gl,1,none⟩) 2 2)).setCell ⟨g8,2,none⟩ (.slice (some ⟨g7,0,none⟩) 2 2))=z:=⟨_,rfl⟩
   rw [he] at bZ hBx bE7 M2 M6
   clear b8
   have b8:=bZ
   clear bZ hqg8
   gi_wp2
   (try rw [he])
   clear he k0 k1 k2 f0_ f1_ f2_
   clear hS
   have hS:(fun U:World=>U.cell? ⟨g0,0,none⟩=some (.int .i64 (P:Int))∧U.cell? ⟨g0,1,none⟩=some (.slice (some ⟨gl,0,none⟩) 3 3)∧U.cell? ⟨g0,2,none⟩=some (.slice (some ⟨gs,0,none⟩) 3 mc)∧U.cell? ⟨gl,0,none⟩=some (.int .i64 a)∧U.cell? ⟨gl,1,none⟩=some (.int .i64 b)∧U.cell? ⟨gl,2,none⟩=some (.int .i64 c)∧U.cell? ⟨g3,2,none⟩=some (.func (.func f0) #[] #[])∧U.cell? ⟨g3,4,none⟩=some (.func (.func f2) #[] #[])) z20:=HSS.out _ hBx
   try (refine ⟨hS,?_⟩)
   refine anyHF_done (by kernel_rfl) ?_ _
   refine NoPanic.normal ?_
   clear hS
   have hB4:=hBx
   replace HSS:Hid (∀ V,Below z20.heap.size z20 V→(fun U:World=>U.cell? ⟨g0,0,none⟩=some (.int .i64 (P:Int))∧U.cell? ⟨g8,0,none⟩=some (.int .i64 (P:Int))∧U.cell? ⟨g8,1,none⟩=some (.slice (some ⟨gl,1,none⟩) 2 2)∧U.cell? ⟨g8,2,none⟩=some (.slice (some ⟨g7,0,none⟩) 2 2)) V):=fun V hV=>by
    obtain ⟨h0,h1,h2,h3,h4,h5,h6,h7⟩:=HSS.out V (below_in hB4 hV)
    exact ⟨h0,(b8.below hV b8.lt).cell 0,(b8.below hV b8.lt).cell 1,(b8.below hV b8.lt).cell 2⟩
   replace hBx:=Below.refl z20.heap.size z20
   gi_wp2_with fail
   have hd:Below z20.heap.size z20 z20.drew:=(Below.refl _ _).drew
   replace bE7:=bE7.below hd bE7.lt
   replace M2:=M2.below hd
   replace M6:=M6.below hd
   replace hBx:=below_in hBx hd
   clear hd
   have hS:(fun U:World=>U.cell? ⟨g0,0,none⟩=some (.int .i64 (P:Int))∧U.cell? ⟨g8,0,none⟩=some (.int .i64 (P:Int))∧U.cell? ⟨g8,1,none⟩=some (.slice (some ⟨gl,1,none⟩) 2 2)∧U.cell? ⟨g8,2,none⟩=some (.slice (some ⟨g7,0,none⟩) 2 2)) z20.drew:=HSS.out _ hBx
   refine wpIn_mono (region_HF (Q:=NoPanic _) (S:=(fun U:World=>U.cell? ⟨g0,0,none⟩=some (.int .i64 (P:Int))∧U.cell? ⟨g8,0,none⟩=some (.int .i64 (P:Int))∧U.cell? ⟨g8,1,none⟩=some (.slice (some ⟨gl,1,none⟩) 2 2)∧U.cell? ⟨g8,2,none⟩=some (.slice (some ⟨g7,0,none⟩) 2 2))) (by kernel_rfl) ?_) NoPanic.imp
   refine tkF (i:=0) (d:=54) (v:=.pointer (some ⟨g0,0,none⟩)) (s:=hS) (c:=?_)
   simp only [ud9]
   refine tkF (i:=1) (d:=55) (v:=.int .i64 (P:Int)) (s:=hS) (c:=?_)
   simp only [ud9]
   refine tkF (i:=2) (d:=56) (v:=.agg #[.int .i64 (P:Int),.slice (some ⟨gl,1,none⟩) 2 2,.slice (some ⟨g7,0,none⟩) 2 2]) (s:=hS) (c:=?_)
   simp only [ud9]
   refine tkF (i:=4) (d:=58) (v:=.int .i64 c) (s:=hS) (c:=?_)
   simp only [ud9]
   refine tkF (i:=5) (d:=59) (v:=.int .i64 a) (s:=hS) (c:=?_)
   simp only [ud9]
   refine tkF (i:=6) (d:=60) (v:=.int .i64 z) (s:=hS) (c:=?_)
   simp only [ud9]
   refine oneF (i:=3) (c:=?_)
   have hb8:=hBx.size
   gi_wp2_with fail
   refine ⟨trivial,(callsIn_wide.2 (HSE.out _ (below_in hB1 (below_in hB4 hBx)) _ _ _ _ _ bE7 M2.many M6.many)).mono ?_⟩
   rintro e v21 ⟨A8,c8,rfl,M8,hB⟩
   replace M8:=M8.less hb8
   clear hb8
   replace bE7:=bE7.below hB bE7.lt
   replace M2:=M2.below hB
   replace M6:=M6.below hB
   replace hBx:=below_in hBx hB
   clear hS
   have hS:(fun U:World=>U.cell? ⟨g0,0,none⟩=some (.int .i64 (P:Int))∧U.cell? ⟨g8,0,none⟩=some (.int .i64 (P:Int))∧U.cell? ⟨g8,1,none⟩=some (.slice (some ⟨gl,1,none⟩) 2 2)∧U.cell? ⟨g8,2,none⟩=some (.slice (some ⟨g7,0,none⟩) 2 2)) v21:=HSS.out _ hBx
   clear hB
   gi_wp2
   try (refine ⟨hS,?_⟩)
   refine oneF (i:=7) (c:=?_)
   have hb9:=hBx.size
   gi_wp2_with fail
   refine ⟨trivial,(callsIn_wide.2 (HSL.out _ (below_in hB1 (below_in hB4 hBx)) _ M8.many)).mono ?_⟩
   rintro e v22 ⟨A9,c9,rfl,M9,hB⟩
   replace M9:=M9.less hb9
   clear hb9
   replace bE7:=bE7.below hB bE7.lt
   replace M2:=M2.below hB
   replace M6:=M6.below hB
   replace M8:=M8.below hB
   replace hBx:=below_in hBx hB
   clear hS
   have hS:(fun U:World=>U.cell? ⟨g0,0,none⟩=some (.int .i64 (P:Int))∧U.cell? ⟨g8,0,none⟩=some (.int .i64 (P:Int))∧U.cell? ⟨g8,1,none⟩=some (.slice (some ⟨gl,1,none⟩) 2 2)∧U.cell? ⟨g8,2,none⟩=some (.slice (some ⟨g7,0,none⟩) 2 2)) v22:=HSS.out _ hBx
   clear hB
   gi_wp2
   try (refine ⟨hS,?_⟩)
   refine oneF (i:=8) (c:=?_)
   gi_wp2
   refine anyHF_done (by kernel_rfl) ?_ _
   refine NoPanic.normal ?_
   clear hS
   gi_wp2_with fail
   exact ⟨.slice A9 Q c9,by simp [results,Tryz.results78,go_sem],A9,c9,rfl,M9.less (Nat.le_trans HB0.out.size (Nat.le_trans hB1.size hB4.size)),below_in HB0.out (below_in hB1 (below_in hB4 hBx))⟩
  case c17b =>
   have hgeg8:=hBx.size
   have hB:Below v16.drew.heap.size v16.drew (v16.drew.alloc (.cells #[.int .i64 0,.slice none 0 0,.slice none 0 0] 103)):=below_one v16.drew _
   have b8:Blk (v16.drew.alloc (.cells #[.int .i64 0,.slice none 0 0,.slice none 0 0] 103)) v16.drew.heap.size 103 #[.int .i64 0,.slice none 0 0,.slice none 0 0]:=Blk.new v16.drew _ _
   obtain ⟨a21,he⟩:∃ x,(v16.drew.alloc (.cells #[.int .i64 0,.slice none 0 0,.slice none 0 0] 103))=x:=⟨_,rfl⟩
   obtain ⟨g8,hg⟩:∃ x,v16.drew.heap.size=x:=⟨_,rfl⟩
   rw [he] at hB b8
   rw [hg] at b8 hgeg8
   have hgqg8:=Nat.le_of_eq hg
   have hqg8:=hB
   replace hBx:=below_in hBx hB
   clear hS
   have hS:(fun U:World=>U.cell? ⟨g0,0,none⟩=some (.int .i64 (P:Int))∧U.cell? ⟨g0,1,none⟩=some (.slice (some ⟨gl,0,none⟩) 3 3)∧U.cell? ⟨g0,2,none⟩=some (.slice (some ⟨gs,0,none⟩) 3 mc)∧U.cell? ⟨gl,0,none⟩=some (.int .i64 a)∧U.cell? ⟨gl,1,none⟩=some (.int .i64 b)∧U.cell? ⟨gl,2,none⟩=some (.int .i64 c)∧U.cell? ⟨g3,2,none⟩=some (.func (.func f0) #[] #[])∧U.cell? ⟨g3,4,none⟩=some (.func (.func f2) #[] #[])) a21:=HSS.out _ hBx
   gi_wp2
   (try rw [hg]);(try rw [he])
   try (refine ⟨hS,?_⟩)
   clear hB he hg
   refine oneF (i:=13) (c:=?_)
   have hgeg7:=hBx.size
   have hB:Below a21.heap.size a21 (a21.alloc (.cells #[.slice A2 Q c2,.func (.func f0) #[] #[],.slice A6 Q c6,.func (.func f2) #[] #[]] 94)):=below_one a21 _
   have bE7:Blk (a21.alloc (.cells #[.slice A2 Q c2,.func (.func f0) #[] #[],.slice A6 Q c6,.func (.func f2) #[] #[]] 94)) a21.heap.size 94 #[.slice A2 Q c2,.func (.func f0) #[] #[],.slice A6 Q c6,.func (.func f2) #[] #[]]:=Blk.new a21 _ _
   have hne_g8_g7:=b8.lt
   obtain ⟨a22,he⟩:∃ x,(a21.alloc (.cells #[.slice A2 Q c2,.func (.func f0) #[] #[],.slice A6 Q c6,.func (.func f2) #[] #[]] 94))=x:=⟨_,rfl⟩
   obtain ⟨g7,hg⟩:∃ x,a21.heap.size=x:=⟨_,rfl⟩
   rw [he] at hB bE7
   rw [hg] at bE7 hgeg7 hne_g8_g7
   replace b8:=b8.below hB b8.lt
   replace hqg8:=below_in hqg8 hB
   replace hBx:=below_in hBx hB
   clear hS
   have hS:(fun U:World=>U.cell? ⟨g0,0,none⟩=some (.int .i64 (P:Int))∧U.cell? ⟨g0,1,none⟩=some (.slice (some ⟨gl,0,none⟩) 3 3)∧U.cell? ⟨g0,2,none⟩=some (.slice (some ⟨gs,0,none⟩) 3 mc)∧U.cell? ⟨gl,0,none⟩=some (.int .i64 a)∧U.cell? ⟨gl,1,none⟩=some (.int .i64 b)∧U.cell? ⟨gl,2,none⟩=some (.int .i64 c)∧U.cell? ⟨g3,2,none⟩=some (.func (.func f0) #[] #[])∧U.cell? ⟨g3,4,none⟩=some (.func (.func f2) #[] #[])) a22:=HSS.out _ hBx
   gi_wp2
   (try rw [hg]);(try rw [he])
   try (refine ⟨hS,?_⟩)
   clear hB he hg
   refine tkF (i:=14) (d:=53) (v:=.agg #[.int .i64 (P:Int),.slice (some ⟨gl,1,none⟩) 2 2,.slice (some ⟨g7,0,none⟩) 2 2]) (s:=hS) (c:=?_)
   simp only [ud9]
   refine oneF (i:=16) (c:=?_)
   have k0:=b8.cell 0
   have f0_:=b8.frozen 0
   have k1:=b8.cell 1
   have f1_:=b8.frozen 1
   have k2:=b8.cell 2
   have f2_:=b8.frozen 2
   simp only [gz9] at k0 k1 k2
   have bZ:Blk (((a22.setCell ⟨g8,0,none⟩ (.int .i64 (P:Int))).setCell ⟨g8,1,none⟩ (.slice (some ⟨gl,1,none⟩) 2 2)).setCell ⟨g8,2,none⟩ (.slice (some ⟨g7,0,none⟩) 2 2)) g8 103 #[.int .i64 (P:Int),.slice (some ⟨gl,1,none⟩) 2 2,.slice (some ⟨g7,0,none⟩) 2 2]:=(((b8.set_ 0 _).set_ 1 _).set_ 2 _)
   replace bE7:Blk (((a22.setCell ⟨g8,0,none⟩ (.int .i64 (P:Int))).setCell ⟨g8,1,none⟩ (.slice (some ⟨gl,1,none⟩) 2 2)).setCell ⟨g8,2,none⟩ (.slice (some ⟨g7,0,none⟩) 2 2)) g7 _ _:=(Blk.far (Blk.far (Blk.far bE7 (by show g7≠g8;omega) _) (by show g7≠g8;omega) _) (by show g7≠g8;omega) _)
   replace hBx:Below z7.heap.size z7 (((a22.setCell ⟨g8,0,none⟩ (.int .i64 (P:Int))).setCell ⟨g8,1,none⟩ (.slice (some ⟨gl,1,none⟩) 2 2)).setCell ⟨g8,2,none⟩ (.slice (some ⟨g7,0,none⟩) 2 2)):=(((hBx.setCell (by show z7.heap.size≤g8;omega) _).setCell (by show z7.heap.size≤g8;omega) _).setCell (by show z7.heap.size≤g8;omega) _)
   replace hqg8:=(Below.setCell (p:=⟨g8,2,none⟩) (Below.setCell (p:=⟨g8,1,none⟩) (Below.setCell (p:=⟨g8,0,none⟩) hqg8 hgqg8 (.int .i64 (P:Int))) hgqg8 (.slice (some ⟨gl,1,none⟩) 2 2)) hgqg8 (.slice (some ⟨g7,0,none⟩) 2 2))
   replace M2:=M2.below hqg8
   replace M6:=M6.below hqg8
   obtain ⟨z23,he⟩:∃ z,(((a22.setCell ⟨g8,0,none⟩ (.int .i64 (P:Int))).setCell ⟨g8,1,none⟩ (.slice (some ⟨gl,1,none⟩) 2 2)).setCell ⟨g8,2,none⟩ (.slice (some ⟨g7,0,none⟩) 2 2))=z:=⟨_,rfl⟩
   rw [he] at bZ hBx bE7 M2 M6
   clear b8
   have b8:=bZ
   clear bZ hqg8
   gi_wp2
   (try rw [he])
   clear he k0 k1 k2 f0_ f1_ f2_
   clear hS
   have hS:(fun U:World=>U.cell? ⟨g0,0,none⟩=some (.int .i64 (P:Int))∧U.cell? ⟨g0,1,none⟩=some (.slice (some ⟨gl,0,none⟩) 3 3)∧U.cell? ⟨g0,2,none⟩=some (.slice (some ⟨gs,0,none⟩) 3 mc)∧U.cell? ⟨gl,0,none⟩=some (.int .i64 a)∧U.cell? ⟨gl,1,none⟩=some (.int .i64 b)∧U.cell? ⟨gl,2,none⟩=some (.int .i64 c)∧U.cell? ⟨g3,2,none⟩=some (.func (.func f0) #[] #[])∧U.cell? ⟨g3,4,none⟩=some (.func (.func f2) #[] #[])) z23:=HSS.out _ hBx
   try (refine ⟨hS,?_⟩)
   refine anyHF_done (by kernel_rfl) ?_ _
   refine NoPanic.normal ?_
   clear hS
   have hB4:=hBx
   replace HSS:Hid (∀ V,Below z23.heap.size z23 V→(fun U:World=>U.cell? ⟨g0,0,none⟩=some (.int .i64 (P:Int))∧U.cell? ⟨g8,0,none⟩=some (.int .i64 (P:Int))∧U.cell? ⟨g8,1,none⟩=some (.slice (some ⟨gl,1,none⟩) 2 2)∧U.cell? ⟨g8,2,none⟩=some (.slice (some ⟨g7,0,none⟩) 2 2)) V):=fun V hV=>by
    obtain ⟨h0,h1,h2,h3,h4,h5,h6,h7⟩:=HSS.out V (below_in hB4 hV)
    exact ⟨h0,(b8.below hV b8.lt).cell 0,(b8.below hV b8.lt).cell 1,(b8.below hV b8.lt).cell 2⟩
   replace hBx:=Below.refl z23.heap.size z23
   gi_wp2_with fail
   have hd:Below z23.heap.size z23 z23.drew:=(Below.refl _ _).drew
   replace bE7:=bE7.below hd bE7.lt
   replace M2:=M2.below hd
   replace M6:=M6.below hd
   replace hBx:=below_in hBx hd
   clear hd
   have hS:(fun U:World=>U.cell? ⟨g0,0,none⟩=some (.int .i64 (P:Int))∧U.cell? ⟨g8,0,none⟩=some (.int .i64 (P:Int))∧U.cell? ⟨g8,1,none⟩=some (.slice (some ⟨gl,1,none⟩) 2 2)∧U.cell? ⟨g8,2,none⟩=some (.slice (some ⟨g7,0,none⟩) 2 2)) z23.drew:=HSS.out _ hBx
   refine wpIn_mono (region_HF (Q:=NoPanic _) (S:=(fun U:World=>U.cell? ⟨g0,0,none⟩=some (.int .i64 (P:Int))∧U.cell? ⟨g8,0,none⟩=some (.int .i64 (P:Int))∧U.cell? ⟨g8,1,none⟩=some (.slice (some ⟨gl,1,none⟩) 2 2)∧U.cell? ⟨g8,2,none⟩=some (.slice (some ⟨g7,0,none⟩) 2 2))) (by kernel_rfl) ?_) NoPanic.imp
   refine tkF (i:=0) (d:=54) (v:=.pointer (some ⟨g0,0,none⟩)) (s:=hS) (c:=?_)
   simp only [ud9]
   refine tkF (i:=1) (d:=55) (v:=.int .i64 (P:Int)) (s:=hS) (c:=?_)
   simp only [ud9]
   refine tkF (i:=2) (d:=56) (v:=.agg #[.int .i64 (P:Int),.slice (some ⟨gl,1,none⟩) 2 2,.slice (some ⟨g7,0,none⟩) 2 2]) (s:=hS) (c:=?_)
   simp only [ud9]
   refine tkF (i:=4) (d:=58) (v:=.int .i64 c) (s:=hS) (c:=?_)
   simp only [ud9]
   refine tkF (i:=5) (d:=59) (v:=.int .i64 a) (s:=hS) (c:=?_)
   simp only [ud9]
   refine tkF (i:=6) (d:=60) (v:=.int .i64 z) (s:=hS) (c:=?_)
   simp only [ud9]
   refine oneF (i:=3) (c:=?_)
   have hb8:=hBx.size
   gi_wp2_with fail
   refine ⟨trivial,(callsIn_wide.2 (HSE.out _ (below_in hB1 (below_in hB4 hBx)) _ _ _ _ _ bE7 M2.many M6.many)).mono ?_⟩
   rintro e v24 ⟨A8,c8,rfl,M8,hB⟩
   replace M8:=M8.less hb8
   clear hb8
   replace bE7:=bE7.below hB bE7.lt
   replace M2:=M2.below hB
   replace M6:=M6.below hB
   replace hBx:=below_in hBx hB
   clear hS
   have hS:(fun U:World=>U.cell? ⟨g0,0,none⟩=some (.int .i64 (P:Int))∧U.cell? ⟨g8,0,none⟩=some (.int .i64 (P:Int))∧U.cell? ⟨g8,1,none⟩=some (.slice (some ⟨gl,1,none⟩) 2 2)∧U.cell? ⟨g8,2,none⟩=some (.slice (some ⟨g7,0,none⟩) 2 2)) v24:=HSS.out _ hBx
   clear hB
   gi_wp2
   try (refine ⟨hS,?_⟩)
   refine oneF (i:=7) (c:=?_)
   have hb9:=hBx.size
   gi_wp2_with fail
   refine ⟨trivial,(callsIn_wide.2 (HSL.out _ (below_in hB1 (below_in hB4 hBx)) _ M8.many)).mono ?_⟩
   rintro e v25 ⟨A9,c9,rfl,M9,hB⟩
   replace M9:=M9.less hb9
   clear hb9
   replace bE7:=bE7.below hB bE7.lt
   replace M2:=M2.below hB
   replace M6:=M6.below hB
   replace M8:=M8.below hB
   replace hBx:=below_in hBx hB
   clear hS
   have hS:(fun U:World=>U.cell? ⟨g0,0,none⟩=some (.int .i64 (P:Int))∧U.cell? ⟨g8,0,none⟩=some (.int .i64 (P:Int))∧U.cell? ⟨g8,1,none⟩=some (.slice (some ⟨gl,1,none⟩) 2 2)∧U.cell? ⟨g8,2,none⟩=some (.slice (some ⟨g7,0,none⟩) 2 2)) v25:=HSS.out _ hBx
   clear hB
   gi_wp2
   try (refine ⟨hS,?_⟩)
   refine oneF (i:=8) (c:=?_)
   gi_wp2
   refine anyHF_done (by kernel_rfl) ?_ _
   refine NoPanic.normal ?_
   clear hS
   gi_wp2_with fail
   exact ⟨.slice A9 Q c9,by simp [results,Tryz.results78,go_sem],A9,c9,rfl,M9.less (Nat.le_trans HB0.out.size (Nat.le_trans hB1.size hB4.size)),below_in HB0.out (below_in hB1 (below_in hB4 hBx))⟩
end Go.Proofs.YtkllhjhkcipkoaaGreatDoor.Tr
