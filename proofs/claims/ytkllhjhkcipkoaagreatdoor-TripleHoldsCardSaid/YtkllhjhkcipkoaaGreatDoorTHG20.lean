/- -/
import Derived.Test.YtkllhjhkcipkoaaGreatDoorTHG17
import Derived.Test.YtkllhjhkcipkoaaGreatDoorTHG19
set_option linter.unusedVariables false
set_option linter.unusedSimpArgs false
set_option maxRecDepth 100000
set_option maxHeartbeats 8000000
namespace Go.Proofs.YtkllhjhkcipkoaaGreatDoor.Tr
open Go.RowKit Go.Shelf Go.Maps Go.Proofs.YtkllhjhkcipkoaaGreatDoor.C Go.Proofs.YtkllhjhkcipkoaaGreatDoor.E Go.Proofs.YtkllhjhkcipkoaaGreatDoor.T Go.Proofs.YtkllhjhkcipkoaaGreatDoor.Rg
attribute [local go_sem] Oper.semAt_some

theorem cols_three {W:World} {B g:Nat} {va vb vc:Value} {a b c:List (List UInt8)} (h:Blk W g 41 #[va,vb,vc]) (h1:Many B W va a) (h2:Many B W vb b) (h3:Many B W vc c) (hg:g<B):Cols B W (.slice (some ⟨g,0,none⟩) 3 3) [a,b,c]:=by
 obtain ⟨A,cap,rfl,_,_⟩:=id h1
 obtain ⟨A',cap',rfl,_,_⟩:=id h2
 obtain ⟨A'',cap'',rfl,_,_⟩:=id h3
 exact ⟨some ⟨g,0,none⟩,3,rfl,Nat.le_refl _,fun _=>⟨g,0,rfl,hg,fun j hj=>by
  have hj3:j=0∨j=1∨j=2:=(by have:j<3:=hj;omega)
  rcases hj3 with rfl | rfl | rfl
  · exact ⟨_,h.cell 0,h1⟩
  · exact ⟨_,h.cell 1,h2⟩
  · exact ⟨_,h.cell 2,h3⟩⟩⟩
theorem first_any {P Q n:Nat} (d:Dims P Q n) (k:Int) (hk:k=0∨k=1∨k = -1) (a:Int) (ha:0≤a) (haP:a≤100) (gl lo ln lc gs m mc:Nat) (hm:0<m) (hln:0<ln) (A:Option Addr) (ac:Nat) (c:List (List UInt8)) (hc:GoodC Q n c) (w:World) (hL:Laid w) (hgl:gl<w.heap.size) (hgs:gs<w.heap.size) (cA:w.cell? ⟨gl,lo,none⟩=some (.int .i64 a)) (cV:w.cell? ⟨gs,0,none⟩=some (.slice A Q ac)) (cF:w.cell? ⟨gs,1,none⟩=some (byK k)) (hM:Many w.heap.size w (.slice A Q ac) c) :
 Calls Tryz.prog 81 #[.agg #[.int .i64 (P:Int),.slice (some ⟨gl,lo,none⟩) ln lc,.slice (some ⟨gs,0,none⟩) m mc]] w fun e w'=>∃ At kt,e = .returned (.slice At Q kt)∧FreshMany w.heap.size w' (.slice At Q kt) (turnC P Q n c (-(k * a)))∧Below w.heap.size w w':=by
 have hB0:=below_one w (.cells #[.int .i64 (P:Int),.slice (some ⟨gl,lo,none⟩) ln lc,.slice (some ⟨gs,0,none⟩) m mc] 103)
 have b0:=Blk.new w 103 #[.int .i64 (P:Int),.slice (some ⟨gl,lo,none⟩) ln lc,.slice (some ⟨gs,0,none⟩) m mc]
 obtain ⟨w0,hw0⟩:∃ x,w.alloc (.cells #[.int .i64 (P:Int),.slice (some ⟨gl,lo,none⟩) ln lc,.slice (some ⟨gs,0,none⟩) m mc] 103)=x:=⟨_,rfl⟩
 rw [hw0] at hB0 b0
 have c0:=b0.cell 0
 have c1:=b0.cell 1
 have c2:=b0.cell 2
 simp only [gz9] at c0 c1 c2
 have HB:=Lib.hid (back0_any d k hk a ha haP gl lo ln lc gs m mc hm hln A ac c hc w0 (hL.next hB0) (Nat.lt_of_lt_of_le hgl hB0.size) (Nat.lt_of_lt_of_le hgs hB0.size) ((hB0.cell (p:=⟨gl,lo,none⟩) hgl).trans cA) ((hB0.cell (p:=⟨gs,0,none⟩) hgs).trans cV) ((hB0.cell (p:=⟨gs,1,none⟩) hgs).trans cF) ((hM.below hB0).more hB0.size))
 clear d hk ha haP hm hln hc hL hgl hgs cA cV cF hM b0
 generalize turnC P Q n c (-(k * a))=R at *
 go_enter Tryz.func81,Tryz.ntmps81
 go_wp2_with (go_at_call 101;(try rw [hw0]);refine HB.out.mono ?_;rintro e w1 ⟨At,kt,rfl,hMt,hB1⟩)
 go_ret
 exact ⟨At,kt,rfl,hMt.less hB0.size,below_in hB0 hB1⟩
def cT3 (P Q n:Nat) (s0 s1 s2:List (List UInt8)) (a b c:Int):List (List UInt8):=thirdT P Q n s0 s1 s2 a b c
def lT (P Q n:Nat) (s k:List (List UInt8)) (y:Int):List (List UInt8):=sumC Q [s,turnC P Q n k y]
def bT3 (P Q n:Nat) (s0 s1 s2:List (List UInt8)) (a b c:Int):List (List UInt8):=secT P Q n (lT P Q n s0 (cT3 P Q n s0 s1 s2 a b c) (0 * c)) (lT P Q n s1 (cT3 P Q n s0 s1 s2 a b c) (1 * c)) 0 1 a b
def aT3 (P Q n:Nat) (s0 s1 s2:List (List UInt8)) (a b c:Int):List (List UInt8):=turnC P Q n (lT P Q n (lT P Q n s0 (cT3 P Q n s0 s1 s2 a b c) (0 * c)) (bT3 P Q n s0 s1 s2 a b c) (0 * b)) (-(0 * a))
theorem lT_good {P Q n:Nat} (d:Dims P Q n) {s k:List (List UInt8)} (gs:GoodC Q n s) (gk:GoodC Q n k) (y:Int):GoodC Q n (lT P Q n s k y):=two_good d gs (turn_good d.h1 d.h64 gk y)
theorem told3_any {P Q n:Nat} (d:Dims P Q n) (a b c:Int) (ha:0≤a) (hab:a<b) (hbc:b<c) (hlP:c<(P:Int)) (gl gs mc:Nat) (hmc:3≤mc) (A0:Option Addr) (c0:Nat) (s0:List (List UInt8)) (h0:GoodC Q n s0) (A1:Option Addr) (c1:Nat) (s1:List (List UInt8)) (h1:GoodC Q n s1) (A2:Option Addr) (c2:Nat) (s2:List (List UInt8)) (h2:GoodC Q n s2) (w:World) (hL:Laid w) (hgl:gl<w.heap.size) (hgs:gs<w.heap.size) (cL0:w.cell? ⟨gl,0,none⟩=some (.int .i64 a)) (cL1:w.cell? ⟨gl,1,none⟩=some (.int .i64 b)) (cL2:w.cell? ⟨gl,2,none⟩=some (.int .i64 c)) (cV0:w.cell? ⟨gs,0,none⟩=some (.slice A0 Q c0)) (cF0:w.cell? ⟨gs,1,none⟩=some (byK 0)) (hM0:Many w.heap.size w (.slice A0 Q c0) s0) (cV1:w.cell? ⟨gs,2,none⟩=some (.slice A1 Q c1)) (cF1:w.cell? ⟨gs,3,none⟩=some (byK 1)) (hM1:Many w.heap.size w (.slice A1 Q c1) s1) (cV2:w.cell? ⟨gs,4,none⟩=some (.slice A2 Q c2)) (cF2:w.cell? ⟨gs,5,none⟩=some (byK (-1))) (hM2:Many w.heap.size w (.slice A2 Q c2) s2) :
 Calls Tryz.prog 59 #[.agg #[.int .i64 (P:Int),.slice (some ⟨gl,0,none⟩) 3 3,.slice (some ⟨gs,0,none⟩) 3 mc]] w fun e w'=>∃ gc,e = .returned (.slice (some ⟨gc,0,none⟩) 3 3)∧Cols w'.heap.size w' (.slice (some ⟨gc,0,none⟩) 3 3) [aT3 P Q n s0 s1 s2 a b c,bT3 P Q n s0 s1 s2 a b c,cT3 P Q n s0 s1 s2 a b c]∧Below w.heap.size w w':=by
 have hpb:=prm_bounds d.hp
 have g3:=third_good d s0 s1 s2 h0 h1 h2 a b c
 have gl0:=lT_good d h0 g3 (0 * c)
 have gl1:=lT_good d h1 g3 (1 * c)
 have g4:=sec_good d _ _ gl0 gl1 0 1 a b
 have gl2:=lT_good d gl0 g4 (0 * b)
 have H3:=fun (V:World) (hV:Below w.heap.size w V)=>third_any d a b c ha hab hbc hlP gl gs mc A0 c0 A1 c1 A2 c2 s0 s1 s2 h0 h1 h2 V (hL.next hV) (Nat.lt_of_lt_of_le hgl hV.size) (Nat.lt_of_lt_of_le hgs hV.size) ((hV.cell (p:=⟨gl,0,none⟩) hgl).trans cL0) ((hV.cell (p:=⟨gl,1,none⟩) hgl).trans cL1) ((hV.cell (p:=⟨gl,2,none⟩) hgl).trans cL2) ((hV.cell (p:=⟨gs,0,none⟩) hgs).trans cV0) ((hV.cell (p:=⟨gs,1,none⟩) hgs).trans cF0) ((hV.cell (p:=⟨gs,2,none⟩) hgs).trans cV1) ((hV.cell (p:=⟨gs,3,none⟩) hgs).trans cF1) ((hV.cell (p:=⟨gs,4,none⟩) hgs).trans cV2) ((hV.cell (p:=⟨gs,5,none⟩) hgs).trans cF2) ((hM0.below hV).more hV.size) ((hM1.below hV).more hV.size) ((hM2.below hV).more hV.size)
 have HW3:=fun (V:World) (hV:Below w.heap.size w V) (E:Option Addr) (y:Nat) hm=>without3_any d c (by omega) (by omega) gl 3 gs mc (by omega) hmc 0 (by omega) A0 c0 s0 h0 1 (by omega) A1 c1 s1 h1 E y (thirdT P Q n s0 s1 s2 a b c) g3 V (hL.next hV) (Nat.lt_of_lt_of_le hgl hV.size) (Nat.lt_of_lt_of_le hgs hV.size) ((hV.cell (p:=⟨gl,2,none⟩) hgl).trans cL2) ((hV.cell (p:=⟨gs,0,none⟩) hgs).trans cV0) ((hV.cell (p:=⟨gs,1,none⟩) hgs).trans cF0) ((hM0.below hV).more hV.size) ((hV.cell (p:=⟨gs,2,none⟩) hgs).trans cV1) ((hV.cell (p:=⟨gs,3,none⟩) hgs).trans cF1) ((hM1.below hV).more hV.size) hm
 have H2:=fun (V:World) (hV:Below w.heap.size w V) (E:Option Addr) (y:Nat) (E':Option Addr) (y' g:Nat) (hb:Blk V g 94 #[.slice E Q y,byK 0,.slice E' Q y',byK 1]) hm hm'=>second_any d 0 1 (by omega) (by omega) a b ha hab (by omega) (by rw [show (1:Int) * (b - a) - 0 * (b - a)=b - a by omega];exact sub_mod_ne ha hab (by omega)) gl 0 2 3 g 2 2 (by omega) (by omega) E y E' y' (lT P Q n s0 (thirdT P Q n s0 s1 s2 a b c) (0 * c)) (lT P Q n s1 (thirdT P Q n s0 s1 s2 a b c) (1 * c)) gl0 gl1 V (hL.next hV) (Nat.lt_of_lt_of_le hgl hV.size) hb.lt ((hV.cell (p:=⟨gl,0,none⟩) hgl).trans cL0) ((hV.cell (p:=⟨gl,1,none⟩) hgl).trans cL1) (hb.cell 0) (hb.cell 1) (hb.cell 2) (hb.cell 3) hm hm'
 have HW2:=fun (V:World) (hV:Below w.heap.size w V) (E:Option Addr) (y:Nat) (g:Nat) (X:Value) (hb:Blk V g 94 #[.slice E Q y,byK 0,X,byK 1]) (E2:Option Addr) (y2:Nat) hm hm'=>without2_any d b (by omega) (by omega) gl 3 g 2 (by omega) (by omega) 0 (by omega) E y (lT P Q n s0 (thirdT P Q n s0 s1 s2 a b c) (0 * c)) gl0 E2 y2 (secT P Q n (lT P Q n s0 (thirdT P Q n s0 s1 s2 a b c) (0 * c)) (lT P Q n s1 (thirdT P Q n s0 s1 s2 a b c) (1 * c)) 0 1 a b) g4 V (hL.next hV) (Nat.lt_of_lt_of_le hgl hV.size) hb.lt ((hV.cell (p:=⟨gl,1,none⟩) hgl).trans cL1) (hb.cell 0) (hb.cell 1) hm hm'
 have H1:=fun (V:World) (hV:Below w.heap.size w V) (E:Option Addr) (y:Nat) (g:Nat) (hb:Blk V g 94 #[.slice E Q y,byK 0]) hm=>first_any d 0 (by omega) a ha (by omega) gl 0 1 3 g 1 1 (by omega) (by omega) E y (lT P Q n (lT P Q n s0 (thirdT P Q n s0 s1 s2 a b c) (0 * c)) (secT P Q n (lT P Q n s0 (thirdT P Q n s0 s1 s2 a b c) (0 * c)) (lT P Q n s1 (thirdT P Q n s0 s1 s2 a b c) (1 * c)) 0 1 a b) (0 * b)) gl2 V (hL.next hV) (Nat.lt_of_lt_of_le hgl hV.size) hb.lt ((hV.cell (p:=⟨gl,0,none⟩) hgl).trans cL0) (hb.cell 0) (hb.cell 1) hm
 unfold aT3 bT3 cT3
 unfold lT at H2 HW2 H1 ⊢
 generalize thirdT P Q n s0 s1 s2 a b c=R3 at *
 generalize sumC Q [s0,turnC P Q n R3 (0 * c)]=L0 at *
 generalize sumC Q [s1,turnC P Q n R3 (1 * c)]=L1 at *
 generalize secT P Q n L0 L1 0 1 a b=R2 at *
 generalize sumC Q [L0,turnC P Q n R2 (0 * b)]=L2 at *
 generalize turnC P Q n L2 (-(0 * a))=R1 at *
 unfold byK at HW3 H2 HW2 H1
 generalize fnK 0=f0 at *
 generalize fnK 1=f1 at *
 obtain ⟨w1,hw1⟩:∃ x,(w.alloc (.cells #[.int .i64 (P:Int),.slice (some ⟨gl,0,none⟩) 3 3,.slice (some ⟨gs,0,none⟩) 3 mc] 103)).alloc (.cells #[.slice none 0 0,.slice none 0 0,.slice none 0 0] 41)=x:=⟨_,rfl⟩
 obtain ⟨g0,hg0⟩:∃ x,w.heap.size=x:=⟨_,rfl⟩
 obtain ⟨gc,hgc⟩:∃ x,g0+1=x:=⟨_,rfl⟩
 have b0:Blk w1 g0 103 #[.int .i64 (P:Int),.slice (some ⟨gl,0,none⟩) 3 3,.slice (some ⟨gs,0,none⟩) 3 mc]:=by rw [←hw1,←hg0];exact (Blk.new w _ _).alloc _
 have bC:Blk w1 gc 41 #[.slice none 0 0,.slice none 0 0,.slice none 0 0]:=by rw [←hw1,←hgc,←hg0];exact Blk.second w _ _ _
 have hBW:Below w.heap.size w w1:=by rw [←hw1];exact below_two w _ _
 have HW:=Lib.hid (And.intro hw1 (And.intro hg0 hgc))
 have HO:=Lib.hid (show g0<gc∧gc<w1.heap.size∧w.heap.size=g0 from ⟨by omega,bC.lt,hg0⟩)
 have HC1:=Lib.hid H1
 have HC2:=Lib.hid H2
 have HCW2:=Lib.hid HW2
 have HC3:=Lib.hid H3
 have HCW3:=Lib.hid HW3
 have k0_:=(Blk.new w 103 #[.int .i64 (P:Int),.slice (some ⟨gl,0,none⟩) 3 3,.slice (some ⟨gs,0,none⟩) 3 mc]).cell 0
 have k1_:=(Blk.new w 103 #[.int .i64 (P:Int),.slice (some ⟨gl,0,none⟩) 3 3,.slice (some ⟨gs,0,none⟩) 3 mc]).cell 1
 have k2_:=(Blk.new w 103 #[.int .i64 (P:Int),.slice (some ⟨gl,0,none⟩) 3 3,.slice (some ⟨gs,0,none⟩) 3 mc]).cell 2
 have q0_:=b0.cell 0
 have q1_:=b0.cell 1
 have q2_:=b0.cell 2
 simp only [gz9] at k0_ k1_ k2_ q0_ q1_ q2_
 have hmk:=mkC3
 clear d ha hlP hmc hL hgl hgs hpb H1 hw1 hg0 hgc h0 hM0 cL0 cV0 cF0 h1 hM1 cL1 cV1 cF1 h2 hM2 cL2 cV2 cF2 hab H2 HW2 g4 gl2 hbc H3 HW3 g3 gl0 gl1
 refine (callsIn_wide (n:=9)).1 ?_
 refine callsIn_of_wp_marks Tryz.func59 rfl trivial ?_ rfl
 simp only [Tryz.ntmps59,List.size_toArray,List.length_cons,List.length_nil,Nat.reduceAdd,Nat.reduceSub,Array.replicate_succ,Array.replicate_zero,List.push_toArray,List.append_toArray,List.nil_append,List.cons_append]
 gi_wp2_with fail
 (try rw [HW.out.2.1]);(try rw [HW.out.2.2]);(try rw [HW.out.1])
 clear k0_ k1_ k2_ q0_ q1_ q2_ hmk
 refine ⟨trivial,(callsIn_wide.2 (HC3.out _ hBW)).mono ?_⟩
 rintro e v3 ⟨E3,x3,rfl,M3,hB⟩
 replace b0:=b0.below hB b0.lt
 replace bC:=bC.below hB bC.lt
 replace M3:=M3.less (show w1.heap.size≤w1.heap.size from Nat.le_refl _)
 have hsz2:w1.heap.size≤v3.heap.size:=hB.size
 replace hBW:=below_in hBW hB
 clear hB
 have kA:=bC.cell 2
 have fA:=bC.frozen 2
 simp only [gz9] at kA
 gi_wp2_with fail
 have hoo:=HO.out
 have bCZ:Blk (v3.setCell ⟨gc,2,none⟩ (.slice E3 Q x3)) gc 41 #[.slice none 0 0,.slice none 0 0,.slice E3 Q x3]:=bC.set_ 2 _
 replace b0:Blk (v3.setCell ⟨gc,2,none⟩ (.slice E3 Q x3)) g0 _ _:=Blk.far b0 (by show g0≠gc;omega) _
 replace M3:FreshMany w1.heap.size (v3.setCell ⟨gc,2,none⟩ (.slice E3 Q x3)) _ _:=FreshMany.set_ (p:=⟨gc,2,none⟩) M3 hoo.2.1 (.slice E3 Q x3)
 replace hBW:Below w.heap.size w (v3.setCell ⟨gc,2,none⟩ (.slice E3 Q x3)):=Below.setCell (p:=⟨gc,2,none⟩) hBW (by show w.heap.size≤gc;omega) (.slice E3 Q x3)
 have hsz:w1.heap.size≤(v3.setCell ⟨gc,2,none⟩ (.slice E3 Q x3)).heap.size:=by simp only [World.size_setCell];exact hsz2
 obtain ⟨z3,he⟩:∃ z,(v3.setCell ⟨gc,2,none⟩ (.slice E3 Q x3))=z:=⟨_,rfl⟩
 rw [he] at bCZ b0 hBW hsz M3
 (try rw [he])
 clear he kA fA hsz2 hoo bC
 have bC:=bCZ
 clear bCZ
 gi_wp2_with fail
 have HSS:Hid (∀ V,Below z3.heap.size z3 V→(fun U:World=>U.cell? ⟨g0,0,none⟩=some (.int .i64 (P:Int))∧U.cell? ⟨g0,1,none⟩=some (.slice (some ⟨gl,0,none⟩) 3 3)∧U.cell? ⟨g0,2,none⟩=some (.slice (some ⟨gs,0,none⟩) 3 mc)∧U.cell? ⟨gc,2,none⟩=some (.slice E3 Q x3)) V):=fun V hV=>⟨(b0.below hV b0.lt).cell 0,(b0.below hV b0.lt).cell 1,(b0.below hV b0.lt).cell 2,(bC.below hV bC.lt).cell 2⟩
 have hBx:=Below.refl z3.heap.size z3
 have hd:Below z3.heap.size z3 z3.drew:=(Below.refl _ _).drew
 replace b0:=b0.below hd b0.lt
 replace bC:=bC.below hd bC.lt
 replace M3:=M3.below hd
 replace hBx:=below_in hBx hd
 clear hd
 have hS:(fun U:World=>U.cell? ⟨g0,0,none⟩=some (.int .i64 (P:Int))∧U.cell? ⟨g0,1,none⟩=some (.slice (some ⟨gl,0,none⟩) 3 3)∧U.cell? ⟨g0,2,none⟩=some (.slice (some ⟨gs,0,none⟩) 3 mc)∧U.cell? ⟨gc,2,none⟩=some (.slice E3 Q x3)) z3.drew:=HSS.out _ hBx
 refine wpIn_mono (region_HG (Q:=NoPanic _) (S:=(fun U:World=>U.cell? ⟨g0,0,none⟩=some (.int .i64 (P:Int))∧U.cell? ⟨g0,1,none⟩=some (.slice (some ⟨gl,0,none⟩) 3 3)∧U.cell? ⟨g0,2,none⟩=some (.slice (some ⟨gs,0,none⟩) 3 mc)∧U.cell? ⟨gc,2,none⟩=some (.slice E3 Q x3))) (m:=5) (by kernel_rfl) ?_) NoPanic.imp
 refine anyHG_take (i:=0) (d:=21) (v:=.agg #[.int .i64 (P:Int),.slice (some ⟨gl,0,none⟩) 3 3,.slice (some ⟨gs,0,none⟩) 3 mc]) (by kernel_rfl) rfl (by kernel_rfl) (by kernel_rfl) (by kernel_rfl) rfl (by kernel_rfl) (fun _ _ _ h=>h) ⟨Or.inl ⟨by rfl,fun w hS=>by obtain ⟨h0,h1,h2,h3⟩:=hS;go_simp⟩,fun _=>rfl⟩ hS ?_
 simp only [ud9]
 refine anyHG_take (i:=1) (d:=22) (v:=.slice (some ⟨gc,0,none⟩) 3 3) (by kernel_rfl) rfl (by kernel_rfl) (by kernel_rfl) (by kernel_rfl) rfl (by kernel_rfl) (fun _ _ _ h=>h) ⟨Or.inl ⟨by rfl,fun w hS=>by obtain ⟨h0,h1,h2,h3⟩:=hS;go_simp⟩,fun _=>rfl⟩ hS ?_
 simp only [ud9]
 refine anyHG_take (i:=2) (d:=23) (v:=.pointer (some ⟨gc,2,none⟩)) (by kernel_rfl) rfl (by kernel_rfl) (by kernel_rfl) (by kernel_rfl) rfl (by kernel_rfl) (fun _ _ _ h=>h) ⟨Or.inl ⟨by rfl,fun w hS=>by obtain ⟨h0,h1,h2,h3⟩:=hS;go_simp⟩,fun _=>rfl⟩ hS ?_
 simp only [ud9]
 refine anyHG_take (i:=3) (d:=24) (v:=.slice E3 Q x3) (by kernel_rfl) rfl (by kernel_rfl) (by kernel_rfl) (by kernel_rfl) rfl (by kernel_rfl) (fun _ _ _ h=>h) ⟨Or.inl ⟨by rfl,fun w hS=>by obtain ⟨h0,h1,h2,h3⟩:=hS;go_simp⟩,fun _=>rfl⟩ hS ?_
 simp only [ud9]
 refine anyHG_one (i:=4) (by kernel_rfl) rfl (by kernel_rfl) (by rfl) ?_
 gi_wp2_with fail
 refine ⟨trivial,(callsIn_wide.2 (HCW3.out _ (below_in hBW hBx) _ _ M3.many)).mono ?_⟩
 rintro e v701 ⟨gOa,E4,x4,E5,x5,rfl,hgO,bOa,M4,M5,hB⟩
 have hz0:=hBx.size
 replace M4:=M4.less (show w1.heap.size≤_ from Nat.le_trans hsz hz0)
 replace M5:=M5.less (show w1.heap.size≤_ from Nat.le_trans hsz hz0)
 have hgOa:w1.heap.size≤gOa:=Nat.le_trans (Nat.le_trans hsz hz0) hgO
 clear hz0 hgO
 replace b0:=b0.below hB b0.lt
 replace bC:=bC.below hB bC.lt
 replace M3:=M3.below hB
 replace hBx:=below_in hBx hB
 clear hS
 have hS:(fun U:World=>U.cell? ⟨g0,0,none⟩=some (.int .i64 (P:Int))∧U.cell? ⟨g0,1,none⟩=some (.slice (some ⟨gl,0,none⟩) 3 3)∧U.cell? ⟨g0,2,none⟩=some (.slice (some ⟨gs,0,none⟩) 3 mc)∧U.cell? ⟨gc,2,none⟩=some (.slice E3 Q x3)) v701:=HSS.out _ hBx
 clear hB
 gi_wp2
 try (refine ⟨.inr hS,?_⟩)
 refine anyHG_one (i:=5) (by kernel_rfl) rfl (by kernel_rfl) (by rfl) ?_
 have kA:=b0.cell 0
 have kB:=b0.cell 1
 have kC:=b0.cell 2
 have fA:=b0.frozen 0
 have fB:=b0.frozen 1
 have fC:=b0.frozen 2
 simp only [gz9] at kA kB kC
 have hoo:=HO.out
 have b0Z:Blk (((v701.setCell ⟨g0,0,none⟩ (.int .i64 (P:Int))).setCell ⟨g0,1,none⟩ (.slice (some ⟨gl,0,none⟩) 2 3)).setCell ⟨g0,2,none⟩ (.slice (some ⟨gOa,0,none⟩) 2 2)) g0 103 #[.int .i64 (P:Int),.slice (some ⟨gl,0,none⟩) 2 3,.slice (some ⟨gOa,0,none⟩) 2 2]:=((b0.set_ 0 _).set_ 1 _).set_ 2 _
 replace bC:Blk (((v701.setCell ⟨g0,0,none⟩ (.int .i64 (P:Int))).setCell ⟨g0,1,none⟩ (.slice (some ⟨gl,0,none⟩) 2 3)).setCell ⟨g0,2,none⟩ (.slice (some ⟨gOa,0,none⟩) 2 2)) gc _ _:=(Blk.far (Blk.far (Blk.far bC (by show gc≠g0;omega) _) (by show gc≠g0;omega) _) (by show gc≠g0;omega) _)
 have bOZ:Blk (((v701.setCell ⟨g0,0,none⟩ (.int .i64 (P:Int))).setCell ⟨g0,1,none⟩ (.slice (some ⟨gl,0,none⟩) 2 3)).setCell ⟨g0,2,none⟩ (.slice (some ⟨gOa,0,none⟩) 2 2)) gOa _ _:=(Blk.far (Blk.far (Blk.far bOa (by show gOa≠g0;omega) _) (by show gOa≠g0;omega) _) (by show gOa≠g0;omega) _)
 replace M3:FreshMany w1.heap.size (((v701.setCell ⟨g0,0,none⟩ (.int .i64 (P:Int))).setCell ⟨g0,1,none⟩ (.slice (some ⟨gl,0,none⟩) 2 3)).setCell ⟨g0,2,none⟩ (.slice (some ⟨gOa,0,none⟩) 2 2)) _ _:=(FreshMany.set_ (p:=⟨g0,2,none⟩) (FreshMany.set_ (p:=⟨g0,1,none⟩) (FreshMany.set_ (p:=⟨g0,0,none⟩) M3 (by show g0<w1.heap.size;omega) (.int .i64 (P:Int))) (by show g0<w1.heap.size;omega) (.slice (some ⟨gl,0,none⟩) 2 3)) (by show g0<w1.heap.size;omega) (.slice (some ⟨gOa,0,none⟩) 2 2))
 replace M4:FreshMany w1.heap.size (((v701.setCell ⟨g0,0,none⟩ (.int .i64 (P:Int))).setCell ⟨g0,1,none⟩ (.slice (some ⟨gl,0,none⟩) 2 3)).setCell ⟨g0,2,none⟩ (.slice (some ⟨gOa,0,none⟩) 2 2)) _ _:=(FreshMany.set_ (p:=⟨g0,2,none⟩) (FreshMany.set_ (p:=⟨g0,1,none⟩) (FreshMany.set_ (p:=⟨g0,0,none⟩) M4 (by show g0<w1.heap.size;omega) (.int .i64 (P:Int))) (by show g0<w1.heap.size;omega) (.slice (some ⟨gl,0,none⟩) 2 3)) (by show g0<w1.heap.size;omega) (.slice (some ⟨gOa,0,none⟩) 2 2))
 replace M5:FreshMany w1.heap.size (((v701.setCell ⟨g0,0,none⟩ (.int .i64 (P:Int))).setCell ⟨g0,1,none⟩ (.slice (some ⟨gl,0,none⟩) 2 3)).setCell ⟨g0,2,none⟩ (.slice (some ⟨gOa,0,none⟩) 2 2)) _ _:=(FreshMany.set_ (p:=⟨g0,2,none⟩) (FreshMany.set_ (p:=⟨g0,1,none⟩) (FreshMany.set_ (p:=⟨g0,0,none⟩) M5 (by show g0<w1.heap.size;omega) (.int .i64 (P:Int))) (by show g0<w1.heap.size;omega) (.slice (some ⟨gl,0,none⟩) 2 3)) (by show g0<w1.heap.size;omega) (.slice (some ⟨gOa,0,none⟩) 2 2))
 have hz0:=hBx.size
 replace hBW:Below w.heap.size w (((v701.setCell ⟨g0,0,none⟩ (.int .i64 (P:Int))).setCell ⟨g0,1,none⟩ (.slice (some ⟨gl,0,none⟩) 2 3)).setCell ⟨g0,2,none⟩ (.slice (some ⟨gOa,0,none⟩) 2 2)):=(Below.setCell (p:=⟨g0,2,none⟩) (Below.setCell (p:=⟨g0,1,none⟩) (Below.setCell (p:=⟨g0,0,none⟩) (below_in hBW hBx) (by show w.heap.size≤g0;omega) (.int .i64 (P:Int))) (by show w.heap.size≤g0;omega) (.slice (some ⟨gl,0,none⟩) 2 3)) (by show w.heap.size≤g0;omega) (.slice (some ⟨gOa,0,none⟩) 2 2))
 replace hsz:w1.heap.size≤(((v701.setCell ⟨g0,0,none⟩ (.int .i64 (P:Int))).setCell ⟨g0,1,none⟩ (.slice (some ⟨gl,0,none⟩) 2 3)).setCell ⟨g0,2,none⟩ (.slice (some ⟨gOa,0,none⟩) 2 2)).heap.size:=by simp only [World.size_setCell];exact Nat.le_trans hsz hz0
 obtain ⟨ya,he⟩:∃ z,(((v701.setCell ⟨g0,0,none⟩ (.int .i64 (P:Int))).setCell ⟨g0,1,none⟩ (.slice (some ⟨gl,0,none⟩) 2 3)).setCell ⟨g0,2,none⟩ (.slice (some ⟨gOa,0,none⟩) 2 2))=z:=⟨_,rfl⟩
 rw [he] at b0Z bC bOZ hBW hsz M3 M4 M5
 gi_wp2
 (try rw [he])
 clear hS
 try (refine ⟨.inl rfl,?_⟩)
 clear he kA kB kC fA fB fC hoo hz0 hBx HSS b0 bOa
 have b0:=b0Z
 clear b0Z
 refine anyHG_done (by kernel_rfl) ?_ _
 refine NoPanic.normal ?_
 have t0:=b0.cell 0
 have t1:=b0.cell 1
 have t2:=b0.cell 2
 simp only [gz9] at t0 t1 t2
 gi_wp2_with fail
 have bPa:=bOZ
 clear bOZ
 refine ⟨trivial,(callsIn_wide.2 (HC2.out _ hBW _ _ _ _ _ bPa M4.many M5.many)).mono ?_⟩
 rintro e v2 ⟨E2,x2,rfl,M2,hB⟩
 replace b0:=b0.below hB b0.lt
 replace bC:=bC.below hB bC.lt
 replace M3:=M3.below hB
 replace M4:=M4.below hB
 replace M5:=M5.below hB
 replace bPa:=bPa.below hB bPa.lt
 replace M2:=M2.less (show w1.heap.size≤ya.heap.size from hsz)
 have hsz2:w1.heap.size≤v2.heap.size:=Nat.le_trans hsz hB.size
 replace hBW:=below_in hBW hB
 clear hB hsz
 have kA:=bC.cell 1
 have fA:=bC.frozen 1
 simp only [gz9] at kA
 gi_wp2_with fail
 have hoo:=HO.out
 have bCZ:Blk (v2.setCell ⟨gc,1,none⟩ (.slice E2 Q x2)) gc 41 #[.slice none 0 0,.slice E2 Q x2,.slice E3 Q x3]:=bC.set_ 1 _
 replace b0:Blk (v2.setCell ⟨gc,1,none⟩ (.slice E2 Q x2)) g0 _ _:=Blk.far b0 (by show g0≠gc;omega) _
 replace M3:FreshMany w1.heap.size (v2.setCell ⟨gc,1,none⟩ (.slice E2 Q x2)) _ _:=FreshMany.set_ (p:=⟨gc,1,none⟩) M3 hoo.2.1 (.slice E2 Q x2)
 replace M4:FreshMany w1.heap.size (v2.setCell ⟨gc,1,none⟩ (.slice E2 Q x2)) _ _:=FreshMany.set_ (p:=⟨gc,1,none⟩) M4 hoo.2.1 (.slice E2 Q x2)
 replace M5:FreshMany w1.heap.size (v2.setCell ⟨gc,1,none⟩ (.slice E2 Q x2)) _ _:=FreshMany.set_ (p:=⟨gc,1,none⟩) M5 hoo.2.1 (.slice E2 Q x2)
 replace M2:FreshMany w1.heap.size (v2.setCell ⟨gc,1,none⟩ (.slice E2 Q x2)) _ _:=FreshMany.set_ (p:=⟨gc,1,none⟩) M2 hoo.2.1 (.slice E2 Q x2)
 replace bPa:Blk (v2.setCell ⟨gc,1,none⟩ (.slice E2 Q x2)) gOa _ _:=Blk.far bPa (by show gOa≠gc;omega) _
 replace hBW:Below w.heap.size w (v2.setCell ⟨gc,1,none⟩ (.slice E2 Q x2)):=Below.setCell (p:=⟨gc,1,none⟩) hBW (by show w.heap.size≤gc;omega) (.slice E2 Q x2)
 have hsz:w1.heap.size≤(v2.setCell ⟨gc,1,none⟩ (.slice E2 Q x2)).heap.size:=by simp only [World.size_setCell];exact hsz2
 obtain ⟨z2,he⟩:∃ z,(v2.setCell ⟨gc,1,none⟩ (.slice E2 Q x2))=z:=⟨_,rfl⟩
 rw [he] at bCZ b0 hBW hsz M3 M4 M5 M2 bPa
 (try rw [he])
 clear he kA fA hsz2 hoo bC t0 t1 t2
 have bC:=bCZ
 clear bCZ
 gi_wp2_with fail
 have HSS:Hid (∀ V,Below z2.heap.size z2 V→(fun U:World=>U.cell? ⟨g0,0,none⟩=some (.int .i64 (P:Int))∧U.cell? ⟨g0,1,none⟩=some (.slice (some ⟨gl,0,none⟩) 2 3)∧U.cell? ⟨g0,2,none⟩=some (.slice (some ⟨gOa,0,none⟩) 2 2)∧U.cell? ⟨gc,1,none⟩=some (.slice E2 Q x2)) V):=fun V hV=>⟨(b0.below hV b0.lt).cell 0,(b0.below hV b0.lt).cell 1,(b0.below hV b0.lt).cell 2,(bC.below hV bC.lt).cell 1⟩
 have hBx:=Below.refl z2.heap.size z2
 have hd:Below z2.heap.size z2 z2.drew:=(Below.refl _ _).drew
 replace b0:=b0.below hd b0.lt
 replace bC:=bC.below hd bC.lt
 replace M3:=M3.below hd
 replace M4:=M4.below hd
 replace M5:=M5.below hd
 replace M2:=M2.below hd
 replace bPa:=bPa.below hd bPa.lt
 replace hBx:=below_in hBx hd
 clear hd
 have hS:(fun U:World=>U.cell? ⟨g0,0,none⟩=some (.int .i64 (P:Int))∧U.cell? ⟨g0,1,none⟩=some (.slice (some ⟨gl,0,none⟩) 2 3)∧U.cell? ⟨g0,2,none⟩=some (.slice (some ⟨gOa,0,none⟩) 2 2)∧U.cell? ⟨gc,1,none⟩=some (.slice E2 Q x2)) z2.drew:=HSS.out _ hBx
 refine wpIn_mono (region_HG (Q:=NoPanic _) (S:=(fun U:World=>U.cell? ⟨g0,0,none⟩=some (.int .i64 (P:Int))∧U.cell? ⟨g0,1,none⟩=some (.slice (some ⟨gl,0,none⟩) 2 3)∧U.cell? ⟨g0,2,none⟩=some (.slice (some ⟨gOa,0,none⟩) 2 2)∧U.cell? ⟨gc,1,none⟩=some (.slice E2 Q x2))) (m:=5) (by kernel_rfl) ?_) NoPanic.imp
 refine anyHG_take (i:=0) (d:=30) (v:=.agg #[.int .i64 (P:Int),.slice (some ⟨gl,0,none⟩) 2 3,.slice (some ⟨gOa,0,none⟩) 2 2]) (by kernel_rfl) rfl (by kernel_rfl) (by kernel_rfl) (by kernel_rfl) rfl (by kernel_rfl) (fun _ _ _ h=>h) ⟨Or.inl ⟨by rfl,fun w hS=>by obtain ⟨h0,h1,h2,h3⟩:=hS;go_simp⟩,fun _=>rfl⟩ hS ?_
 simp only [ud9]
 refine anyHG_take (i:=1) (d:=31) (v:=.slice (some ⟨gc,0,none⟩) 3 3) (by kernel_rfl) rfl (by kernel_rfl) (by kernel_rfl) (by kernel_rfl) rfl (by kernel_rfl) (fun _ _ _ h=>h) ⟨Or.inl ⟨by rfl,fun w hS=>by obtain ⟨h0,h1,h2,h3⟩:=hS;go_simp⟩,fun _=>rfl⟩ hS ?_
 simp only [ud9]
 refine anyHG_take (i:=2) (d:=32) (v:=.pointer (some ⟨gc,1,none⟩)) (by kernel_rfl) rfl (by kernel_rfl) (by kernel_rfl) (by kernel_rfl) rfl (by kernel_rfl) (fun _ _ _ h=>h) ⟨Or.inl ⟨by rfl,fun w hS=>by obtain ⟨h0,h1,h2,h3⟩:=hS;go_simp⟩,fun _=>rfl⟩ hS ?_
 simp only [ud9]
 refine anyHG_take (i:=3) (d:=33) (v:=.slice E2 Q x2) (by kernel_rfl) rfl (by kernel_rfl) (by kernel_rfl) (by kernel_rfl) rfl (by kernel_rfl) (fun _ _ _ h=>h) ⟨Or.inl ⟨by rfl,fun w hS=>by obtain ⟨h0,h1,h2,h3⟩:=hS;go_simp⟩,fun _=>rfl⟩ hS ?_
 simp only [ud9]
 refine anyHG_one (i:=4) (by kernel_rfl) rfl (by kernel_rfl) (by rfl) ?_
 gi_wp2_with fail
 refine ⟨trivial,(callsIn_wide.2 (HCW2.out _ (below_in hBW hBx) _ _ _ _ bPa _ _ M4.many M2.many)).mono ?_⟩
 rintro e v901 ⟨gOb,E6,x6,rfl,hgO,bOb,M6,hB⟩
 have hz0:=hBx.size
 replace M6:=M6.less (show w1.heap.size≤_ from Nat.le_trans hsz hz0)
 have hgOb:w1.heap.size≤gOb:=Nat.le_trans (Nat.le_trans hsz hz0) hgO
 clear hz0 hgO
 replace b0:=b0.below hB b0.lt
 replace bC:=bC.below hB bC.lt
 replace bPa:=bPa.below hB bPa.lt
 replace M3:=M3.below hB
 replace M4:=M4.below hB
 replace M5:=M5.below hB
 replace M2:=M2.below hB
 replace hBx:=below_in hBx hB
 clear hS
 have hS:(fun U:World=>U.cell? ⟨g0,0,none⟩=some (.int .i64 (P:Int))∧U.cell? ⟨g0,1,none⟩=some (.slice (some ⟨gl,0,none⟩) 2 3)∧U.cell? ⟨g0,2,none⟩=some (.slice (some ⟨gOa,0,none⟩) 2 2)∧U.cell? ⟨gc,1,none⟩=some (.slice E2 Q x2)) v901:=HSS.out _ hBx
 clear hB
 gi_wp2
 try (refine ⟨.inr hS,?_⟩)
 refine anyHG_one (i:=5) (by kernel_rfl) rfl (by kernel_rfl) (by rfl) ?_
 have kA:=b0.cell 0
 have kB:=b0.cell 1
 have kC:=b0.cell 2
 have fA:=b0.frozen 0
 have fB:=b0.frozen 1
 have fC:=b0.frozen 2
 simp only [gz9] at kA kB kC
 have hoo:=HO.out
 have b0Z:Blk (((v901.setCell ⟨g0,0,none⟩ (.int .i64 (P:Int))).setCell ⟨g0,1,none⟩ (.slice (some ⟨gl,0,none⟩) 1 3)).setCell ⟨g0,2,none⟩ (.slice (some ⟨gOb,0,none⟩) 1 1)) g0 103 #[.int .i64 (P:Int),.slice (some ⟨gl,0,none⟩) 1 3,.slice (some ⟨gOb,0,none⟩) 1 1]:=((b0.set_ 0 _).set_ 1 _).set_ 2 _
 replace bC:Blk (((v901.setCell ⟨g0,0,none⟩ (.int .i64 (P:Int))).setCell ⟨g0,1,none⟩ (.slice (some ⟨gl,0,none⟩) 1 3)).setCell ⟨g0,2,none⟩ (.slice (some ⟨gOb,0,none⟩) 1 1)) gc _ _:=(Blk.far (Blk.far (Blk.far bC (by show gc≠g0;omega) _) (by show gc≠g0;omega) _) (by show gc≠g0;omega) _)
 have bOZ:Blk (((v901.setCell ⟨g0,0,none⟩ (.int .i64 (P:Int))).setCell ⟨g0,1,none⟩ (.slice (some ⟨gl,0,none⟩) 1 3)).setCell ⟨g0,2,none⟩ (.slice (some ⟨gOb,0,none⟩) 1 1)) gOb _ _:=(Blk.far (Blk.far (Blk.far bOb (by show gOb≠g0;omega) _) (by show gOb≠g0;omega) _) (by show gOb≠g0;omega) _)
 replace M3:FreshMany w1.heap.size (((v901.setCell ⟨g0,0,none⟩ (.int .i64 (P:Int))).setCell ⟨g0,1,none⟩ (.slice (some ⟨gl,0,none⟩) 1 3)).setCell ⟨g0,2,none⟩ (.slice (some ⟨gOb,0,none⟩) 1 1)) _ _:=(FreshMany.set_ (p:=⟨g0,2,none⟩) (FreshMany.set_ (p:=⟨g0,1,none⟩) (FreshMany.set_ (p:=⟨g0,0,none⟩) M3 (by show g0<w1.heap.size;omega) (.int .i64 (P:Int))) (by show g0<w1.heap.size;omega) (.slice (some ⟨gl,0,none⟩) 1 3)) (by show g0<w1.heap.size;omega) (.slice (some ⟨gOb,0,none⟩) 1 1))
 replace M4:FreshMany w1.heap.size (((v901.setCell ⟨g0,0,none⟩ (.int .i64 (P:Int))).setCell ⟨g0,1,none⟩ (.slice (some ⟨gl,0,none⟩) 1 3)).setCell ⟨g0,2,none⟩ (.slice (some ⟨gOb,0,none⟩) 1 1)) _ _:=(FreshMany.set_ (p:=⟨g0,2,none⟩) (FreshMany.set_ (p:=⟨g0,1,none⟩) (FreshMany.set_ (p:=⟨g0,0,none⟩) M4 (by show g0<w1.heap.size;omega) (.int .i64 (P:Int))) (by show g0<w1.heap.size;omega) (.slice (some ⟨gl,0,none⟩) 1 3)) (by show g0<w1.heap.size;omega) (.slice (some ⟨gOb,0,none⟩) 1 1))
 replace M5:FreshMany w1.heap.size (((v901.setCell ⟨g0,0,none⟩ (.int .i64 (P:Int))).setCell ⟨g0,1,none⟩ (.slice (some ⟨gl,0,none⟩) 1 3)).setCell ⟨g0,2,none⟩ (.slice (some ⟨gOb,0,none⟩) 1 1)) _ _:=(FreshMany.set_ (p:=⟨g0,2,none⟩) (FreshMany.set_ (p:=⟨g0,1,none⟩) (FreshMany.set_ (p:=⟨g0,0,none⟩) M5 (by show g0<w1.heap.size;omega) (.int .i64 (P:Int))) (by show g0<w1.heap.size;omega) (.slice (some ⟨gl,0,none⟩) 1 3)) (by show g0<w1.heap.size;omega) (.slice (some ⟨gOb,0,none⟩) 1 1))
 replace M2:FreshMany w1.heap.size (((v901.setCell ⟨g0,0,none⟩ (.int .i64 (P:Int))).setCell ⟨g0,1,none⟩ (.slice (some ⟨gl,0,none⟩) 1 3)).setCell ⟨g0,2,none⟩ (.slice (some ⟨gOb,0,none⟩) 1 1)) _ _:=(FreshMany.set_ (p:=⟨g0,2,none⟩) (FreshMany.set_ (p:=⟨g0,1,none⟩) (FreshMany.set_ (p:=⟨g0,0,none⟩) M2 (by show g0<w1.heap.size;omega) (.int .i64 (P:Int))) (by show g0<w1.heap.size;omega) (.slice (some ⟨gl,0,none⟩) 1 3)) (by show g0<w1.heap.size;omega) (.slice (some ⟨gOb,0,none⟩) 1 1))
 replace M6:FreshMany w1.heap.size (((v901.setCell ⟨g0,0,none⟩ (.int .i64 (P:Int))).setCell ⟨g0,1,none⟩ (.slice (some ⟨gl,0,none⟩) 1 3)).setCell ⟨g0,2,none⟩ (.slice (some ⟨gOb,0,none⟩) 1 1)) _ _:=(FreshMany.set_ (p:=⟨g0,2,none⟩) (FreshMany.set_ (p:=⟨g0,1,none⟩) (FreshMany.set_ (p:=⟨g0,0,none⟩) M6 (by show g0<w1.heap.size;omega) (.int .i64 (P:Int))) (by show g0<w1.heap.size;omega) (.slice (some ⟨gl,0,none⟩) 1 3)) (by show g0<w1.heap.size;omega) (.slice (some ⟨gOb,0,none⟩) 1 1))
 have hz0:=hBx.size
 replace hBW:Below w.heap.size w (((v901.setCell ⟨g0,0,none⟩ (.int .i64 (P:Int))).setCell ⟨g0,1,none⟩ (.slice (some ⟨gl,0,none⟩) 1 3)).setCell ⟨g0,2,none⟩ (.slice (some ⟨gOb,0,none⟩) 1 1)):=(Below.setCell (p:=⟨g0,2,none⟩) (Below.setCell (p:=⟨g0,1,none⟩) (Below.setCell (p:=⟨g0,0,none⟩) (below_in hBW hBx) (by show w.heap.size≤g0;omega) (.int .i64 (P:Int))) (by show w.heap.size≤g0;omega) (.slice (some ⟨gl,0,none⟩) 1 3)) (by show w.heap.size≤g0;omega) (.slice (some ⟨gOb,0,none⟩) 1 1))
 replace hsz:w1.heap.size≤(((v901.setCell ⟨g0,0,none⟩ (.int .i64 (P:Int))).setCell ⟨g0,1,none⟩ (.slice (some ⟨gl,0,none⟩) 1 3)).setCell ⟨g0,2,none⟩ (.slice (some ⟨gOb,0,none⟩) 1 1)).heap.size:=by simp only [World.size_setCell];exact Nat.le_trans hsz hz0
 obtain ⟨yb,he⟩:∃ z,(((v901.setCell ⟨g0,0,none⟩ (.int .i64 (P:Int))).setCell ⟨g0,1,none⟩ (.slice (some ⟨gl,0,none⟩) 1 3)).setCell ⟨g0,2,none⟩ (.slice (some ⟨gOb,0,none⟩) 1 1))=z:=⟨_,rfl⟩
 rw [he] at b0Z bC bOZ hBW hsz M3 M4 M5 M2 M6
 gi_wp2
 (try rw [he])
 clear hS
 try (refine ⟨.inl rfl,?_⟩)
 clear he kA kB kC fA fB fC hoo hz0 hBx HSS b0 bOb
 have b0:=b0Z
 clear b0Z
 refine anyHG_done (by kernel_rfl) ?_ _
 refine NoPanic.normal ?_
 have t0:=b0.cell 0
 have t1:=b0.cell 1
 have t2:=b0.cell 2
 simp only [gz9] at t0 t1 t2
 gi_wp2_with fail
 clear bPa
 have bPb:=bOZ
 clear bOZ
 refine ⟨trivial,(callsIn_wide.2 (HC1.out _ hBW _ _ _ bPb M6.many)).mono ?_⟩
 rintro e v1 ⟨E1,x1,rfl,M1,hB⟩
 replace b0:=b0.below hB b0.lt
 replace bC:=bC.below hB bC.lt
 replace M3:=M3.below hB
 replace M4:=M4.below hB
 replace M5:=M5.below hB
 replace M2:=M2.below hB
 replace M6:=M6.below hB
 replace bPb:=bPb.below hB bPb.lt
 replace M1:=M1.less (show w1.heap.size≤yb.heap.size from hsz)
 have hsz2:w1.heap.size≤v1.heap.size:=Nat.le_trans hsz hB.size
 replace hBW:=below_in hBW hB
 clear hB hsz
 have kA:=bC.cell 0
 have fA:=bC.frozen 0
 simp only [gz9] at kA
 gi_wp2_with fail
 have hoo:=HO.out
 have bCZ:Blk (v1.setCell ⟨gc,0,none⟩ (.slice E1 Q x1)) gc 41 #[.slice E1 Q x1,.slice E2 Q x2,.slice E3 Q x3]:=bC.set_ 0 _
 replace b0:Blk (v1.setCell ⟨gc,0,none⟩ (.slice E1 Q x1)) g0 _ _:=Blk.far b0 (by show g0≠gc;omega) _
 replace M3:FreshMany w1.heap.size (v1.setCell ⟨gc,0,none⟩ (.slice E1 Q x1)) _ _:=FreshMany.set_ (p:=⟨gc,0,none⟩) M3 hoo.2.1 (.slice E1 Q x1)
 replace M4:FreshMany w1.heap.size (v1.setCell ⟨gc,0,none⟩ (.slice E1 Q x1)) _ _:=FreshMany.set_ (p:=⟨gc,0,none⟩) M4 hoo.2.1 (.slice E1 Q x1)
 replace M5:FreshMany w1.heap.size (v1.setCell ⟨gc,0,none⟩ (.slice E1 Q x1)) _ _:=FreshMany.set_ (p:=⟨gc,0,none⟩) M5 hoo.2.1 (.slice E1 Q x1)
 replace M2:FreshMany w1.heap.size (v1.setCell ⟨gc,0,none⟩ (.slice E1 Q x1)) _ _:=FreshMany.set_ (p:=⟨gc,0,none⟩) M2 hoo.2.1 (.slice E1 Q x1)
 replace M6:FreshMany w1.heap.size (v1.setCell ⟨gc,0,none⟩ (.slice E1 Q x1)) _ _:=FreshMany.set_ (p:=⟨gc,0,none⟩) M6 hoo.2.1 (.slice E1 Q x1)
 replace M1:FreshMany w1.heap.size (v1.setCell ⟨gc,0,none⟩ (.slice E1 Q x1)) _ _:=FreshMany.set_ (p:=⟨gc,0,none⟩) M1 hoo.2.1 (.slice E1 Q x1)
 replace bPb:Blk (v1.setCell ⟨gc,0,none⟩ (.slice E1 Q x1)) gOb _ _:=Blk.far bPb (by show gOb≠gc;omega) _
 replace hBW:Below w.heap.size w (v1.setCell ⟨gc,0,none⟩ (.slice E1 Q x1)):=Below.setCell (p:=⟨gc,0,none⟩) hBW (by show w.heap.size≤gc;omega) (.slice E1 Q x1)
 have hsz:w1.heap.size≤(v1.setCell ⟨gc,0,none⟩ (.slice E1 Q x1)).heap.size:=by simp only [World.size_setCell];exact hsz2
 obtain ⟨z1,he⟩:∃ z,(v1.setCell ⟨gc,0,none⟩ (.slice E1 Q x1))=z:=⟨_,rfl⟩
 rw [he] at bCZ b0 hBW hsz M3 M4 M5 M2 M6 M1 bPb
 (try rw [he])
 clear he kA fA hsz2 hoo bC t0 t1 t2
 have bC:=bCZ
 clear bCZ
 gi_wp2_with fail
 exact ⟨.slice (some ⟨gc,0,none⟩) 3 3,by simp [results,Tryz.results59,go_sem],gc,rfl,cols_three bC M1.many M2.many M3.many bC.lt,hBW⟩
def aT2 (P Q n:Nat) (s0 s1:List (List UInt8)) (k0 k1 a b:Int):List (List UInt8):=turnC P Q n (lT P Q n s0 (secT P Q n s0 s1 k0 k1 a b) (k0 * b)) (-(k0 * a))
theorem told2_any {P Q n:Nat} (d:Dims P Q n) (k0:Int) (hk0:k0=0∨k0=1∨k0 = -1) (k1:Int) (hk1:k1=0∨k1=1∨k1 = -1) (a b:Int) (ha:0≤a) (hab:a<b) (hlP:b<(P:Int)) (hne:(k1 * (b - a) - k0 * (b - a)) % (P:Int)≠0) (gl gs mc:Nat) (hmc:2≤mc) (A0:Option Addr) (c0:Nat) (s0:List (List UInt8)) (h0:GoodC Q n s0) (A1:Option Addr) (c1:Nat) (s1:List (List UInt8)) (h1:GoodC Q n s1) (w:World) (hL:Laid w) (hgl:gl<w.heap.size) (hgs:gs<w.heap.size) (cL0:w.cell? ⟨gl,0,none⟩=some (.int .i64 a)) (cL1:w.cell? ⟨gl,1,none⟩=some (.int .i64 b)) (cV0:w.cell? ⟨gs,0,none⟩=some (.slice A0 Q c0)) (cF0:w.cell? ⟨gs,1,none⟩=some (byK k0)) (hM0:Many w.heap.size w (.slice A0 Q c0) s0) (cV1:w.cell? ⟨gs,2,none⟩=some (.slice A1 Q c1)) (cF1:w.cell? ⟨gs,3,none⟩=some (byK k1)) (hM1:Many w.heap.size w (.slice A1 Q c1) s1) :
 Calls Tryz.prog 59 #[.agg #[.int .i64 (P:Int),.slice (some ⟨gl,0,none⟩) 2 2,.slice (some ⟨gs,0,none⟩) 2 mc]] w fun e w'=>∃ gc,e = .returned (.slice (some ⟨gc,0,none⟩) 2 2)∧Cols w'.heap.size w' (.slice (some ⟨gc,0,none⟩) 2 2) [aT2 P Q n s0 s1 k0 k1 a b,secT P Q n s0 s1 k0 k1 a b]∧Below w.heap.size w w':=by
 have hpb:=prm_bounds d.hp
 have g4:=sec_good d s0 s1 h0 h1 k0 k1 a b
 have gl2:=lT_good d h0 g4 (k0 * b)
 have H2:=fun (V:World) (hV:Below w.heap.size w V)=>second_any d k0 k1 hk0 hk1 a b ha hab (by omega) hne gl 0 2 2 gs 2 mc (by omega) (by omega) A0 c0 A1 c1 s0 s1 h0 h1 V (hL.next hV) (Nat.lt_of_lt_of_le hgl hV.size) (Nat.lt_of_lt_of_le hgs hV.size) ((hV.cell (p:=⟨gl,0,none⟩) hgl).trans cL0) ((hV.cell (p:=⟨gl,1,none⟩) hgl).trans cL1) ((hV.cell (p:=⟨gs,0,none⟩) hgs).trans cV0) ((hV.cell (p:=⟨gs,1,none⟩) hgs).trans cF0) ((hV.cell (p:=⟨gs,2,none⟩) hgs).trans cV1) ((hV.cell (p:=⟨gs,3,none⟩) hgs).trans cF1) ((hM0.below hV).more hV.size) ((hM1.below hV).more hV.size)
 have HW2:=fun (V:World) (hV:Below w.heap.size w V) (E2:Option Addr) (y2:Nat) hm'=>without2_any d b (by omega) (by omega) gl 2 gs mc (by omega) hmc k0 hk0 A0 c0 s0 h0 E2 y2 (secT P Q n s0 s1 k0 k1 a b) g4 V (hL.next hV) (Nat.lt_of_lt_of_le hgl hV.size) (Nat.lt_of_lt_of_le hgs hV.size) ((hV.cell (p:=⟨gl,1,none⟩) hgl).trans cL1) ((hV.cell (p:=⟨gs,0,none⟩) hgs).trans cV0) ((hV.cell (p:=⟨gs,1,none⟩) hgs).trans cF0) ((hM0.below hV).more hV.size) hm'
 have H1:=fun (V:World) (hV:Below w.heap.size w V) (E:Option Addr) (y:Nat) (g:Nat) (hb:Blk V g 94 #[.slice E Q y,byK k0]) hm=>first_any d k0 hk0 a ha (by omega) gl 0 1 2 g 1 1 (by omega) (by omega) E y (lT P Q n s0 (secT P Q n s0 s1 k0 k1 a b) (k0 * b)) gl2 V (hL.next hV) (Nat.lt_of_lt_of_le hgl hV.size) hb.lt ((hV.cell (p:=⟨gl,0,none⟩) hgl).trans cL0) (hb.cell 0) (hb.cell 1) hm
 unfold aT2
 unfold lT at H1 ⊢
 generalize secT P Q n s0 s1 k0 k1 a b=R2 at *
 generalize sumC Q [s0,turnC P Q n R2 (k0 * b)]=L2 at *
 generalize turnC P Q n L2 (-(k0 * a))=R1 at *
 unfold byK at HW2 H1
 generalize fnK k0=f0 at *
 obtain ⟨w1,hw1⟩:∃ x,(w.alloc (.cells #[.int .i64 (P:Int),.slice (some ⟨gl,0,none⟩) 2 2,.slice (some ⟨gs,0,none⟩) 2 mc] 103)).alloc (.cells #[.slice none 0 0,.slice none 0 0] 41)=x:=⟨_,rfl⟩
 obtain ⟨g0,hg0⟩:∃ x,w.heap.size=x:=⟨_,rfl⟩
 obtain ⟨gc,hgc⟩:∃ x,g0+1=x:=⟨_,rfl⟩
 have b0:Blk w1 g0 103 #[.int .i64 (P:Int),.slice (some ⟨gl,0,none⟩) 2 2,.slice (some ⟨gs,0,none⟩) 2 mc]:=by rw [←hw1,←hg0];exact (Blk.new w _ _).alloc _
 have bC:Blk w1 gc 41 #[.slice none 0 0,.slice none 0 0]:=by rw [←hw1,←hgc,←hg0];exact Blk.second w _ _ _
 have hBW:Below w.heap.size w w1:=by rw [←hw1];exact below_two w _ _
 have HW:=Lib.hid (And.intro hw1 (And.intro hg0 hgc))
 have HO:=Lib.hid (show g0<gc∧gc<w1.heap.size∧w.heap.size=g0 from ⟨by omega,bC.lt,hg0⟩)
 have HC1:=Lib.hid H1
 have HC2:=Lib.hid H2
 have HCW2:=Lib.hid HW2
 have k0_:=(Blk.new w 103 #[.int .i64 (P:Int),.slice (some ⟨gl,0,none⟩) 2 2,.slice (some ⟨gs,0,none⟩) 2 mc]).cell 0
 have k1_:=(Blk.new w 103 #[.int .i64 (P:Int),.slice (some ⟨gl,0,none⟩) 2 2,.slice (some ⟨gs,0,none⟩) 2 mc]).cell 1
 have k2_:=(Blk.new w 103 #[.int .i64 (P:Int),.slice (some ⟨gl,0,none⟩) 2 2,.slice (some ⟨gs,0,none⟩) 2 mc]).cell 2
 have q0_:=b0.cell 0
 have q1_:=b0.cell 1
 have q2_:=b0.cell 2
 simp only [gz9] at k0_ k1_ k2_ q0_ q1_ q2_
 have hmk:=mk2_any
 clear d ha hlP hmc hL hgl hgs hpb H1 hw1 hg0 hgc h0 hM0 cL0 cV0 cF0 h1 hM1 cL1 cV1 cF1 hk0 hk1 hab H2 HW2 g4 gl2 hne
 refine (callsIn_wide (n:=9)).1 ?_
 refine callsIn_of_wp_marks Tryz.func59 rfl trivial ?_ rfl
 simp only [Tryz.ntmps59,List.size_toArray,List.length_cons,List.length_nil,Nat.reduceAdd,Nat.reduceSub,Array.replicate_succ,Array.replicate_zero,List.push_toArray,List.append_toArray,List.nil_append,List.cons_append]
 gi_wp2_with fail
 (try rw [HW.out.2.1]);(try rw [HW.out.2.2]);(try rw [HW.out.1])
 clear k0_ k1_ k2_ q0_ q1_ q2_ hmk
 refine ⟨trivial,(callsIn_wide.2 (HC2.out _ hBW)).mono ?_⟩
 rintro e v2 ⟨E2,x2,rfl,M2,hB⟩
 replace b0:=b0.below hB b0.lt
 replace bC:=bC.below hB bC.lt
 replace M2:=M2.less (show w1.heap.size≤w1.heap.size from Nat.le_refl _)
 have hsz2:w1.heap.size≤v2.heap.size:=hB.size
 replace hBW:=below_in hBW hB
 clear hB
 have kA:=bC.cell 1
 have fA:=bC.frozen 1
 simp only [gz9] at kA
 gi_wp2_with fail
 have hoo:=HO.out
 have bCZ:Blk (v2.setCell ⟨gc,1,none⟩ (.slice E2 Q x2)) gc 41 #[.slice none 0 0,.slice E2 Q x2]:=bC.set_ 1 _
 replace b0:Blk (v2.setCell ⟨gc,1,none⟩ (.slice E2 Q x2)) g0 _ _:=Blk.far b0 (by show g0≠gc;omega) _
 replace M2:FreshMany w1.heap.size (v2.setCell ⟨gc,1,none⟩ (.slice E2 Q x2)) _ _:=FreshMany.set_ (p:=⟨gc,1,none⟩) M2 hoo.2.1 (.slice E2 Q x2)
 replace hBW:Below w.heap.size w (v2.setCell ⟨gc,1,none⟩ (.slice E2 Q x2)):=Below.setCell (p:=⟨gc,1,none⟩) hBW (by show w.heap.size≤gc;omega) (.slice E2 Q x2)
 have hsz:w1.heap.size≤(v2.setCell ⟨gc,1,none⟩ (.slice E2 Q x2)).heap.size:=by simp only [World.size_setCell];exact hsz2
 obtain ⟨z2,he⟩:∃ z,(v2.setCell ⟨gc,1,none⟩ (.slice E2 Q x2))=z:=⟨_,rfl⟩
 rw [he] at bCZ b0 hBW hsz M2
 (try rw [he])
 clear he kA fA hsz2 hoo bC
 have bC:=bCZ
 clear bCZ
 gi_wp2_with fail
 have HSS:Hid (∀ V,Below z2.heap.size z2 V→(fun U:World=>U.cell? ⟨g0,0,none⟩=some (.int .i64 (P:Int))∧U.cell? ⟨g0,1,none⟩=some (.slice (some ⟨gl,0,none⟩) 2 2)∧U.cell? ⟨g0,2,none⟩=some (.slice (some ⟨gs,0,none⟩) 2 mc)∧U.cell? ⟨gc,1,none⟩=some (.slice E2 Q x2)) V):=fun V hV=>⟨(b0.below hV b0.lt).cell 0,(b0.below hV b0.lt).cell 1,(b0.below hV b0.lt).cell 2,(bC.below hV bC.lt).cell 1⟩
 have hBx:=Below.refl z2.heap.size z2
 have hd:Below z2.heap.size z2 z2.drew:=(Below.refl _ _).drew
 replace b0:=b0.below hd b0.lt
 replace bC:=bC.below hd bC.lt
 replace M2:=M2.below hd
 replace hBx:=below_in hBx hd
 clear hd
 have hS:(fun U:World=>U.cell? ⟨g0,0,none⟩=some (.int .i64 (P:Int))∧U.cell? ⟨g0,1,none⟩=some (.slice (some ⟨gl,0,none⟩) 2 2)∧U.cell? ⟨g0,2,none⟩=some (.slice (some ⟨gs,0,none⟩) 2 mc)∧U.cell? ⟨gc,1,none⟩=some (.slice E2 Q x2)) z2.drew:=HSS.out _ hBx
 refine wpIn_mono (region_HG (Q:=NoPanic _) (S:=(fun U:World=>U.cell? ⟨g0,0,none⟩=some (.int .i64 (P:Int))∧U.cell? ⟨g0,1,none⟩=some (.slice (some ⟨gl,0,none⟩) 2 2)∧U.cell? ⟨g0,2,none⟩=some (.slice (some ⟨gs,0,none⟩) 2 mc)∧U.cell? ⟨gc,1,none⟩=some (.slice E2 Q x2))) (m:=5) (by kernel_rfl) ?_) NoPanic.imp
 refine anyHG_take (i:=0) (d:=30) (v:=.agg #[.int .i64 (P:Int),.slice (some ⟨gl,0,none⟩) 2 2,.slice (some ⟨gs,0,none⟩) 2 mc]) (by kernel_rfl) rfl (by kernel_rfl) (by kernel_rfl) (by kernel_rfl) rfl (by kernel_rfl) (fun _ _ _ h=>h) ⟨Or.inl ⟨by rfl,fun w hS=>by obtain ⟨h0,h1,h2,h3⟩:=hS;go_simp⟩,fun _=>rfl⟩ hS ?_
 simp only [ud9]
 refine anyHG_take (i:=1) (d:=31) (v:=.slice (some ⟨gc,0,none⟩) 2 2) (by kernel_rfl) rfl (by kernel_rfl) (by kernel_rfl) (by kernel_rfl) rfl (by kernel_rfl) (fun _ _ _ h=>h) ⟨Or.inl ⟨by rfl,fun w hS=>by obtain ⟨h0,h1,h2,h3⟩:=hS;go_simp⟩,fun _=>rfl⟩ hS ?_
 simp only [ud9]
 refine anyHG_take (i:=2) (d:=32) (v:=.pointer (some ⟨gc,1,none⟩)) (by kernel_rfl) rfl (by kernel_rfl) (by kernel_rfl) (by kernel_rfl) rfl (by kernel_rfl) (fun _ _ _ h=>h) ⟨Or.inl ⟨by rfl,fun w hS=>by obtain ⟨h0,h1,h2,h3⟩:=hS;go_simp⟩,fun _=>rfl⟩ hS ?_
 simp only [ud9]
 refine anyHG_take (i:=3) (d:=33) (v:=.slice E2 Q x2) (by kernel_rfl) rfl (by kernel_rfl) (by kernel_rfl) (by kernel_rfl) rfl (by kernel_rfl) (fun _ _ _ h=>h) ⟨Or.inl ⟨by rfl,fun w hS=>by obtain ⟨h0,h1,h2,h3⟩:=hS;go_simp⟩,fun _=>rfl⟩ hS ?_
 simp only [ud9]
 refine anyHG_one (i:=4) (by kernel_rfl) rfl (by kernel_rfl) (by rfl) ?_
 gi_wp2_with fail
 refine ⟨trivial,(callsIn_wide.2 (HCW2.out _ (below_in hBW hBx) _ _ M2.many)).mono ?_⟩
 rintro e v901 ⟨gOb,E6,x6,rfl,hgO,bOb,M6,hB⟩
 have hz0:=hBx.size
 replace M6:=M6.less (show w1.heap.size≤_ from Nat.le_trans hsz hz0)
 have hgOb:w1.heap.size≤gOb:=Nat.le_trans (Nat.le_trans hsz hz0) hgO
 clear hz0 hgO
 replace b0:=b0.below hB b0.lt
 replace bC:=bC.below hB bC.lt
 replace M2:=M2.below hB
 replace hBx:=below_in hBx hB
 clear hS
 have hS:(fun U:World=>U.cell? ⟨g0,0,none⟩=some (.int .i64 (P:Int))∧U.cell? ⟨g0,1,none⟩=some (.slice (some ⟨gl,0,none⟩) 2 2)∧U.cell? ⟨g0,2,none⟩=some (.slice (some ⟨gs,0,none⟩) 2 mc)∧U.cell? ⟨gc,1,none⟩=some (.slice E2 Q x2)) v901:=HSS.out _ hBx
 clear hB
 gi_wp2
 try (refine ⟨.inr hS,?_⟩)
 refine anyHG_one (i:=5) (by kernel_rfl) rfl (by kernel_rfl) (by rfl) ?_
 have kA:=b0.cell 0
 have kB:=b0.cell 1
 have kC:=b0.cell 2
 have fA:=b0.frozen 0
 have fB:=b0.frozen 1
 have fC:=b0.frozen 2
 simp only [gz9] at kA kB kC
 have hoo:=HO.out
 have b0Z:Blk (((v901.setCell ⟨g0,0,none⟩ (.int .i64 (P:Int))).setCell ⟨g0,1,none⟩ (.slice (some ⟨gl,0,none⟩) 1 2)).setCell ⟨g0,2,none⟩ (.slice (some ⟨gOb,0,none⟩) 1 1)) g0 103 #[.int .i64 (P:Int),.slice (some ⟨gl,0,none⟩) 1 2,.slice (some ⟨gOb,0,none⟩) 1 1]:=((b0.set_ 0 _).set_ 1 _).set_ 2 _
 replace bC:Blk (((v901.setCell ⟨g0,0,none⟩ (.int .i64 (P:Int))).setCell ⟨g0,1,none⟩ (.slice (some ⟨gl,0,none⟩) 1 2)).setCell ⟨g0,2,none⟩ (.slice (some ⟨gOb,0,none⟩) 1 1)) gc _ _:=(Blk.far (Blk.far (Blk.far bC (by show gc≠g0;omega) _) (by show gc≠g0;omega) _) (by show gc≠g0;omega) _)
 have bOZ:Blk (((v901.setCell ⟨g0,0,none⟩ (.int .i64 (P:Int))).setCell ⟨g0,1,none⟩ (.slice (some ⟨gl,0,none⟩) 1 2)).setCell ⟨g0,2,none⟩ (.slice (some ⟨gOb,0,none⟩) 1 1)) gOb _ _:=(Blk.far (Blk.far (Blk.far bOb (by show gOb≠g0;omega) _) (by show gOb≠g0;omega) _) (by show gOb≠g0;omega) _)
 replace M2:FreshMany w1.heap.size (((v901.setCell ⟨g0,0,none⟩ (.int .i64 (P:Int))).setCell ⟨g0,1,none⟩ (.slice (some ⟨gl,0,none⟩) 1 2)).setCell ⟨g0,2,none⟩ (.slice (some ⟨gOb,0,none⟩) 1 1)) _ _:=(FreshMany.set_ (p:=⟨g0,2,none⟩) (FreshMany.set_ (p:=⟨g0,1,none⟩) (FreshMany.set_ (p:=⟨g0,0,none⟩) M2 (by show g0<w1.heap.size;omega) (.int .i64 (P:Int))) (by show g0<w1.heap.size;omega) (.slice (some ⟨gl,0,none⟩) 1 2)) (by show g0<w1.heap.size;omega) (.slice (some ⟨gOb,0,none⟩) 1 1))
 replace M6:FreshMany w1.heap.size (((v901.setCell ⟨g0,0,none⟩ (.int .i64 (P:Int))).setCell ⟨g0,1,none⟩ (.slice (some ⟨gl,0,none⟩) 1 2)).setCell ⟨g0,2,none⟩ (.slice (some ⟨gOb,0,none⟩) 1 1)) _ _:=(FreshMany.set_ (p:=⟨g0,2,none⟩) (FreshMany.set_ (p:=⟨g0,1,none⟩) (FreshMany.set_ (p:=⟨g0,0,none⟩) M6 (by show g0<w1.heap.size;omega) (.int .i64 (P:Int))) (by show g0<w1.heap.size;omega) (.slice (some ⟨gl,0,none⟩) 1 2)) (by show g0<w1.heap.size;omega) (.slice (some ⟨gOb,0,none⟩) 1 1))
 have hz0:=hBx.size
 replace hBW:Below w.heap.size w (((v901.setCell ⟨g0,0,none⟩ (.int .i64 (P:Int))).setCell ⟨g0,1,none⟩ (.slice (some ⟨gl,0,none⟩) 1 2)).setCell ⟨g0,2,none⟩ (.slice (some ⟨gOb,0,none⟩) 1 1)):=(Below.setCell (p:=⟨g0,2,none⟩) (Below.setCell (p:=⟨g0,1,none⟩) (Below.setCell (p:=⟨g0,0,none⟩) (below_in hBW hBx) (by show w.heap.size≤g0;omega) (.int .i64 (P:Int))) (by show w.heap.size≤g0;omega) (.slice (some ⟨gl,0,none⟩) 1 2)) (by show w.heap.size≤g0;omega) (.slice (some ⟨gOb,0,none⟩) 1 1))
 replace hsz:w1.heap.size≤(((v901.setCell ⟨g0,0,none⟩ (.int .i64 (P:Int))).setCell ⟨g0,1,none⟩ (.slice (some ⟨gl,0,none⟩) 1 2)).setCell ⟨g0,2,none⟩ (.slice (some ⟨gOb,0,none⟩) 1 1)).heap.size:=by simp only [World.size_setCell];exact Nat.le_trans hsz hz0
 obtain ⟨yb,he⟩:∃ z,(((v901.setCell ⟨g0,0,none⟩ (.int .i64 (P:Int))).setCell ⟨g0,1,none⟩ (.slice (some ⟨gl,0,none⟩) 1 2)).setCell ⟨g0,2,none⟩ (.slice (some ⟨gOb,0,none⟩) 1 1))=z:=⟨_,rfl⟩
 rw [he] at b0Z bC bOZ hBW hsz M2 M6
 gi_wp2
 (try rw [he])
 clear hS
 try (refine ⟨.inl rfl,?_⟩)
 clear he kA kB kC fA fB fC hoo hz0 hBx HSS b0 bOb
 have b0:=b0Z
 clear b0Z
 refine anyHG_done (by kernel_rfl) ?_ _
 refine NoPanic.normal ?_
 have t0:=b0.cell 0
 have t1:=b0.cell 1
 have t2:=b0.cell 2
 simp only [gz9] at t0 t1 t2
 gi_wp2_with fail
 have bPb:=bOZ
 clear bOZ
 refine ⟨trivial,(callsIn_wide.2 (HC1.out _ hBW _ _ _ bPb M6.many)).mono ?_⟩
 rintro e v1 ⟨E1,x1,rfl,M1,hB⟩
 replace b0:=b0.below hB b0.lt
 replace bC:=bC.below hB bC.lt
 replace M2:=M2.below hB
 replace M6:=M6.below hB
 replace bPb:=bPb.below hB bPb.lt
 replace M1:=M1.less (show w1.heap.size≤yb.heap.size from hsz)
 have hsz2:w1.heap.size≤v1.heap.size:=Nat.le_trans hsz hB.size
 replace hBW:=below_in hBW hB
 clear hB hsz
 have kA:=bC.cell 0
 have fA:=bC.frozen 0
 simp only [gz9] at kA
 gi_wp2_with fail
 have hoo:=HO.out
 have bCZ:Blk (v1.setCell ⟨gc,0,none⟩ (.slice E1 Q x1)) gc 41 #[.slice E1 Q x1,.slice E2 Q x2]:=bC.set_ 0 _
 replace b0:Blk (v1.setCell ⟨gc,0,none⟩ (.slice E1 Q x1)) g0 _ _:=Blk.far b0 (by show g0≠gc;omega) _
 replace M2:FreshMany w1.heap.size (v1.setCell ⟨gc,0,none⟩ (.slice E1 Q x1)) _ _:=FreshMany.set_ (p:=⟨gc,0,none⟩) M2 hoo.2.1 (.slice E1 Q x1)
 replace M6:FreshMany w1.heap.size (v1.setCell ⟨gc,0,none⟩ (.slice E1 Q x1)) _ _:=FreshMany.set_ (p:=⟨gc,0,none⟩) M6 hoo.2.1 (.slice E1 Q x1)
 replace M1:FreshMany w1.heap.size (v1.setCell ⟨gc,0,none⟩ (.slice E1 Q x1)) _ _:=FreshMany.set_ (p:=⟨gc,0,none⟩) M1 hoo.2.1 (.slice E1 Q x1)
 replace bPb:Blk (v1.setCell ⟨gc,0,none⟩ (.slice E1 Q x1)) gOb _ _:=Blk.far bPb (by show gOb≠gc;omega) _
 replace hBW:Below w.heap.size w (v1.setCell ⟨gc,0,none⟩ (.slice E1 Q x1)):=Below.setCell (p:=⟨gc,0,none⟩) hBW (by show w.heap.size≤gc;omega) (.slice E1 Q x1)
 have hsz:w1.heap.size≤(v1.setCell ⟨gc,0,none⟩ (.slice E1 Q x1)).heap.size:=by simp only [World.size_setCell];exact hsz2
 obtain ⟨z1,he⟩:∃ z,(v1.setCell ⟨gc,0,none⟩ (.slice E1 Q x1))=z:=⟨_,rfl⟩
 rw [he] at bCZ b0 hBW hsz M2 M6 M1 bPb
 (try rw [he])
 clear he kA fA hsz2 hoo bC t0 t1 t2
 have bC:=bCZ
 clear bCZ
 gi_wp2_with fail
 exact ⟨.slice (some ⟨gc,0,none⟩) 2 2,by simp [results,Tryz.results59,go_sem],gc,rfl,cols_two bC M1.many M2.many bC.lt,hBW⟩
theorem told1_any {P Q n:Nat} (d:Dims P Q n) (k0:Int) (hk0:k0=0∨k0=1∨k0 = -1) (a:Int) (ha:0≤a) (hlP:a<(P:Int)) (gl gs mc:Nat) (hmc:1≤mc) (A0:Option Addr) (c0:Nat) (s0:List (List UInt8)) (h0:GoodC Q n s0) (w:World) (hL:Laid w) (hgl:gl<w.heap.size) (hgs:gs<w.heap.size) (cL0:w.cell? ⟨gl,0,none⟩=some (.int .i64 a)) (cV0:w.cell? ⟨gs,0,none⟩=some (.slice A0 Q c0)) (cF0:w.cell? ⟨gs,1,none⟩=some (byK k0)) (hM0:Many w.heap.size w (.slice A0 Q c0) s0) :
 Calls Tryz.prog 59 #[.agg #[.int .i64 (P:Int),.slice (some ⟨gl,0,none⟩) 1 1,.slice (some ⟨gs,0,none⟩) 1 mc]] w fun e w'=>∃ gc,e = .returned (.slice (some ⟨gc,0,none⟩) 1 1)∧Cols w'.heap.size w' (.slice (some ⟨gc,0,none⟩) 1 1) [turnC P Q n s0 (-(k0 * a))]∧Below w.heap.size w w':=by
 have hpb:=prm_bounds d.hp
 have H1:=fun (V:World) (hV:Below w.heap.size w V)=>first_any d k0 hk0 a ha (by omega) gl 0 1 1 gs 1 mc (by omega) (by omega) A0 c0 s0 h0 V (hL.next hV) (Nat.lt_of_lt_of_le hgl hV.size) (Nat.lt_of_lt_of_le hgs hV.size) ((hV.cell (p:=⟨gl,0,none⟩) hgl).trans cL0) ((hV.cell (p:=⟨gs,0,none⟩) hgs).trans cV0) ((hV.cell (p:=⟨gs,1,none⟩) hgs).trans cF0) ((hM0.below hV).more hV.size)
 generalize turnC P Q n s0 (-(k0 * a))=R1 at *
 obtain ⟨w1,hw1⟩:∃ x,(w.alloc (.cells #[.int .i64 (P:Int),.slice (some ⟨gl,0,none⟩) 1 1,.slice (some ⟨gs,0,none⟩) 1 mc] 103)).alloc (.cells #[.slice none 0 0] 41)=x:=⟨_,rfl⟩
 obtain ⟨g0,hg0⟩:∃ x,w.heap.size=x:=⟨_,rfl⟩
 obtain ⟨gc,hgc⟩:∃ x,g0+1=x:=⟨_,rfl⟩
 have b0:Blk w1 g0 103 #[.int .i64 (P:Int),.slice (some ⟨gl,0,none⟩) 1 1,.slice (some ⟨gs,0,none⟩) 1 mc]:=by rw [←hw1,←hg0];exact (Blk.new w _ _).alloc _
 have bC:Blk w1 gc 41 #[.slice none 0 0]:=by rw [←hw1,←hgc,←hg0];exact Blk.second w _ _ _
 have hBW:Below w.heap.size w w1:=by rw [←hw1];exact below_two w _ _
 have HW:=Lib.hid (And.intro hw1 (And.intro hg0 hgc))
 have HO:=Lib.hid (show g0<gc∧gc<w1.heap.size∧w.heap.size=g0 from ⟨by omega,bC.lt,hg0⟩)
 have HC1:=Lib.hid H1
 have k0_:=(Blk.new w 103 #[.int .i64 (P:Int),.slice (some ⟨gl,0,none⟩) 1 1,.slice (some ⟨gs,0,none⟩) 1 mc]).cell 0
 have k1_:=(Blk.new w 103 #[.int .i64 (P:Int),.slice (some ⟨gl,0,none⟩) 1 1,.slice (some ⟨gs,0,none⟩) 1 mc]).cell 1
 have k2_:=(Blk.new w 103 #[.int .i64 (P:Int),.slice (some ⟨gl,0,none⟩) 1 1,.slice (some ⟨gs,0,none⟩) 1 mc]).cell 2
 have q0_:=b0.cell 0
 have q1_:=b0.cell 1
 have q2_:=b0.cell 2
 simp only [gz9] at k0_ k1_ k2_ q0_ q1_ q2_
 have hmk:=mkC1
 clear d ha hlP hmc hL hgl hgs hpb H1 hw1 hg0 hgc h0 hM0 cL0 cV0 cF0 hk0
 refine (callsIn_wide (n:=9)).1 ?_
 refine callsIn_of_wp_marks Tryz.func59 rfl trivial ?_ rfl
 simp only [Tryz.ntmps59,List.size_toArray,List.length_cons,List.length_nil,Nat.reduceAdd,Nat.reduceSub,Array.replicate_succ,Array.replicate_zero,List.push_toArray,List.append_toArray,List.nil_append,List.cons_append]
 gi_wp2_with fail
 (try rw [HW.out.2.1]);(try rw [HW.out.2.2]);(try rw [HW.out.1])
 clear k0_ k1_ k2_ q0_ q1_ q2_ hmk
 refine ⟨trivial,(callsIn_wide.2 (HC1.out _ hBW)).mono ?_⟩
 rintro e v1 ⟨E1,x1,rfl,M1,hB⟩
 replace b0:=b0.below hB b0.lt
 replace bC:=bC.below hB bC.lt
 replace M1:=M1.less (show w1.heap.size≤w1.heap.size from Nat.le_refl _)
 have hsz2:w1.heap.size≤v1.heap.size:=hB.size
 replace hBW:=below_in hBW hB
 clear hB
 have kA:=bC.cell 0
 have fA:=bC.frozen 0
 simp only [gz9] at kA
 gi_wp2_with fail
 have hoo:=HO.out
 have bCZ:Blk (v1.setCell ⟨gc,0,none⟩ (.slice E1 Q x1)) gc 41 #[.slice E1 Q x1]:=bC.set_ 0 _
 replace b0:Blk (v1.setCell ⟨gc,0,none⟩ (.slice E1 Q x1)) g0 _ _:=Blk.far b0 (by show g0≠gc;omega) _
 replace M1:FreshMany w1.heap.size (v1.setCell ⟨gc,0,none⟩ (.slice E1 Q x1)) _ _:=FreshMany.set_ (p:=⟨gc,0,none⟩) M1 hoo.2.1 (.slice E1 Q x1)
 replace hBW:Below w.heap.size w (v1.setCell ⟨gc,0,none⟩ (.slice E1 Q x1)):=Below.setCell (p:=⟨gc,0,none⟩) hBW (by show w.heap.size≤gc;omega) (.slice E1 Q x1)
 have hsz:w1.heap.size≤(v1.setCell ⟨gc,0,none⟩ (.slice E1 Q x1)).heap.size:=by simp only [World.size_setCell];exact hsz2
 obtain ⟨z1,he⟩:∃ z,(v1.setCell ⟨gc,0,none⟩ (.slice E1 Q x1))=z:=⟨_,rfl⟩
 rw [he] at bCZ b0 hBW hsz M1
 (try rw [he])
 clear he kA fA hsz2 hoo bC
 have bC:=bCZ
 clear bCZ
 gi_wp2_with fail
 exact ⟨.slice (some ⟨gc,0,none⟩) 1 1,by simp [results,Tryz.results59,go_sem],gc,rfl,cols_one bC M1.many bC.lt,hBW⟩
end Go.Proofs.YtkllhjhkcipkoaaGreatDoor.Tr
