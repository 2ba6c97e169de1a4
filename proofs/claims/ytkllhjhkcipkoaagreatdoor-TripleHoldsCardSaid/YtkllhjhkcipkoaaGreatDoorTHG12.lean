/- -/
import Derived.Test.YtkllhjhkcipkoaaGreatDoorTHG11
set_option linter.unusedVariables false
set_option linter.unusedSimpArgs false
set_option maxRecDepth 100000
set_option maxHeartbeats 8000000
namespace Go.Proofs.YtkllhjhkcipkoaaGreatDoor.Tr
open Go.RowKit Go.Shelf Go.Maps Go.Proofs.YtkllhjhkcipkoaaGreatDoor.C Go.Proofs.YtkllhjhkcipkoaaGreatDoor.E Go.Proofs.YtkllhjhkcipkoaaGreatDoor.T Go.Proofs.YtkllhjhkcipkoaaGreatDoor.Rg
attribute [local go_sem] Oper.semAt_some

theorem out_fresh {B Q n:Nat} {W:World} {u:Value} {c:List (List UInt8)} (h:FreshMany B W u c) (hc:GoodC Q n c):∃ A k,u = .slice A Q k∧FreshMany B W (.slice A Q k) c:=by
 obtain ⟨A,cap,e,_⟩:=id h
 rw [hc.1] at e
 subst e
 exact ⟨A,cap,rfl,h⟩
section
variable {P Q n:Nat}
theorem turnF (d:Dims P Q n) (b:Int) (y1:-9223372036854775808≤b) (y2:b≤9223372036854775807) (c:List (List UInt8)) (hc:GoodC Q n c) (v:Value) (w:World) (hL:Laid w) (hM:Many w.heap.size w v c) :
 Calls Tryz.prog 91 #[.int .i64 (P:Int),v,.int .i64 b] w fun e w'=>∃ A k,e = .returned (.tuple #[.slice A Q k,.int .i64 0])∧FreshMany w.heap.size w' (.slice A Q k) (turnC P Q n c b)∧Below w.heap.size w w':=by
 refine (turn_yes P Q n d.hQ c v b y1 y2 (ok_of d.hQ d.hp d.h1 d.h64 hc) w hL (Nat.le_refl _) hM).mono ?_
 rintro e w' ⟨u,rfl,hf,hB⟩
 rw [turn_row] at hf
 obtain ⟨A,k,rfl,hm⟩:=out_fresh hf (turn_good d.h1 d.h64 hc b)
 exact ⟨A,k,rfl,hm,hB⟩
theorem slackF (d:Dims P Q n) (b:Int) (y1:-9223372036854775808≤b) (y2:b≤9223372036854775807) (hb:b % (P:Int)≠0) (c:List (List UInt8)) (hc:GoodC Q n c) (v:Value) (w:World) (hL:Laid w) (hM:Many w.heap.size w v c) :
 Calls Tryz.prog 124 #[.int .i64 (P:Int),v,.int .i64 b] w fun e w'=>∃ A k,e = .returned (.tuple #[.slice A Q k,.int .i64 0])∧FreshMany w.heap.size w' (.slice A Q k) (slackL P Q (wholeF Q n c) b)∧Below w.heap.size w w':=by
 refine (slacken_yes P Q n d.hQ c v b y1 y2 (ok_of d.hQ d.hp d.h1 d.h64 hc) hb w hL (Nat.le_refl _) hM).mono ?_
 rintro e w' ⟨u,rfl,hf,hB⟩
 obtain ⟨A,k,rfl,hm⟩:=out_fresh hf (slack_good d.hQ d.h1 d.h64 hc b)
 exact ⟨A,k,rfl,hm,hB⟩
theorem sumF (d:Dims P Q n) (css:List (List (List UInt8))) (h0:0<css.length) (hl:css.length≤100) (hg:∀ j,j<css.length→GoodC Q n (css[j]?.getD [])) (v:Value) (w:World) (hL:Laid w) (hC:Cols w.heap.size w v css) :
 Calls Tryz.prog 95 #[.int .i64 (P:Int),v] w fun e w'=>∃ A k,e = .returned (.tuple #[.slice A Q k,.int .i64 0])∧FreshMany w.heap.size w' (.slice A Q k) (sumC Q css)∧Below w.heap.size w w':=by
 obtain ⟨hr,hf⟩:=right_of_good d.hQ d.hp h0 hg
 have hgs:GoodC Q n (sumC Q css):=sum_good d.h1 d.h64 h0 fun c hc=>by
  obtain ⟨i,hi,rfl⟩:=List.mem_iff_getElem.1 hc
  have:=hg i hi
  rwa [List.getElem?_eq_getElem hi] at this
 refine (sum_yes P Q n d.hQ css v hr hf d.h1 d.h64 h0 hl w hL (Nat.le_refl _) hC).mono ?_
 rintro e w' ⟨u,rfl,⟨hu,_⟩,hB⟩
 obtain ⟨A,k,rfl,hm⟩:=out_fresh hu hgs
 exact ⟨A,k,rfl,hm,hB⟩
end
theorem turned_any {P Q n:Nat} (d:Dims P Q n) (b:Int) (y1:-9223372036854775808≤b) (y2:b≤9223372036854775807) (c:List (List UInt8)) (hc:GoodC Q n c) (v:Value) (w:World) (hL:Laid w) (hM:Many w.heap.size w v c) :
 Calls Tryz.prog 71 #[.int .i64 (P:Int),v,.int .i64 b] w fun e w'=>∃ A k,e = .returned (.slice A Q k)∧FreshMany w.heap.size w' (.slice A Q k) (turnC P Q n c b)∧Below w.heap.size w w':=by
 have HT:=Lib.hid (turnF d b y1 y2 c hc v w hL hM)
 go_enter Tryz.func71,Tryz.ntmps71
 go_wp2_with (first
  | (go_at_call 91;refine HT.out.mono ?_;rintro e w1 ⟨A,k,rfl,hm,hB⟩)
  | (go_at_call 90;refine (sureC _ _).mono ?_;rintro e w2 ⟨rfl,rfl⟩))
 go_ret
 exact ⟨A,k,rfl,hm,hB⟩
theorem slackened_any {P Q n:Nat} (d:Dims P Q n) (b:Int) (y1:-9223372036854775808≤b) (y2:b≤9223372036854775807) (hb:b % (P:Int)≠0) (c:List (List UInt8)) (hc:GoodC Q n c) (v:Value) (w:World) (hL:Laid w) (hM:Many w.heap.size w v c) :
 Calls Tryz.prog 102 #[.int .i64 (P:Int),v,.int .i64 b] w fun e w'=>∃ A k,e = .returned (.slice A Q k)∧FreshMany w.heap.size w' (.slice A Q k) (slackL P Q (wholeF Q n c) b)∧Below w.heap.size w w':=by
 have HT:=Lib.hid (slackF d b y1 y2 hb c hc v w hL hM)
 go_enter Tryz.func102,Tryz.ntmps102
 go_wp2_with (first
  | (go_at_call 124;refine HT.out.mono ?_;rintro e w1 ⟨A,k,rfl,hm,hB⟩)
  | (go_at_call 90;refine (sureC _ _).mono ?_;rintro e w2 ⟨rfl,rfl⟩))
 go_ret
 exact ⟨A,k,rfl,hm,hB⟩
theorem upon_any {P Q n:Nat} (d:Dims P Q n) (css:List (List (List UInt8))) (h0:0<css.length) (hl:css.length≤100) (hg:∀ j,j<css.length→GoodC Q n (css[j]?.getD [])) (v:Value) (w:World) (hL:Laid w) (hC:Cols w.heap.size w v css) :
 Calls Tryz.prog 73 #[.int .i64 (P:Int),v] w fun e w'=>∃ A k,e = .returned (.slice A Q k)∧FreshMany w.heap.size w' (.slice A Q k) (sumC Q css)∧Below w.heap.size w w':=by
 have HT:=Lib.hid (sumF d css h0 hl hg v w hL hC)
 go_enter Tryz.func73,Tryz.ntmps73
 go_wp2_with (first
  | (go_at_call 95;refine HT.out.mono ?_;rintro e w1 ⟨A,k,rfl,hm,hB⟩)
  | (go_at_call 90;refine (sureC _ _).mono ?_;rintro e w2 ⟨rfl,rfl⟩))
 go_ret
 exact ⟨A,k,rfl,hm,hB⟩
theorem back0_any {P Q n:Nat} (d:Dims P Q n) (k:Int) (hk:k=0∨k=1∨k = -1) (a:Int) (ha:0≤a) (haP:a≤100) (gl lo ln lc gs m mc:Nat) (hm:0<m) (hln:0<ln) (A:Option Addr) (ac:Nat) (c:List (List UInt8)) (hc:GoodC Q n c) (w:World) (hL:Laid w) (hgl:gl<w.heap.size) (hgs:gs<w.heap.size) (cA:w.cell? ⟨gl,lo,none⟩=some (.int .i64 a)) (cV:w.cell? ⟨gs,0,none⟩=some (.slice A Q ac)) (cF:w.cell? ⟨gs,1,none⟩=some (byK k)) (hM:Many w.heap.size w (.slice A Q ac) c) :
 Calls Tryz.prog 101 #[.agg #[.int .i64 (P:Int),.slice (some ⟨gl,lo,none⟩) ln lc,.slice (some ⟨gs,0,none⟩) m mc],.int .i64 0] w fun e w'=>∃ At kt,e = .returned (.slice At Q kt)∧FreshMany w.heap.size w' (.slice At Q kt) (turnC P Q n c (-(k * a)))∧Below w.heap.size w w':=by
 have hka:-100≤k * a∧k * a≤100:=by rcases hk with rfl | rfl | rfl <;> omega
 have HBY:=Lib.hid (fun V=>by_any k hk a (by omega) (by omega) V)
 have hent:=enter_by k
 unfold byK at cF
 have HTU0:=fun (V:World) (hV:Below w.heap.size w V)=>turned_any d (-(k * a)) (by omega) (by omega) c hc (.slice A Q ac) V (hL.next hV) ((hM.below hV).more hV.size)
 obtain ⟨y,hy⟩:∃ y,k * a=y:=⟨_,rfl⟩
 rw [hy] at HBY HTU0 hka ⊢
 obtain ⟨fk,hfk⟩:∃ x,fnK k=x:=⟨_,rfl⟩
 rw [hfk] at HBY hent cF
 clear hy hfk
 have hneg:IntKind.i64.wrap (-y) = -y:=IntWalk.i64_in _ (by omega)
 obtain ⟨w0,hw0⟩:∃ x,(w.alloc (.cells #[.int .i64 (P:Int),.slice (some ⟨gl,lo,none⟩) ln lc,.slice (some ⟨gs,0,none⟩) m mc] 103)).alloc (.cells #[.slice A Q ac,.func (.func fk) #[] #[]] 94)=x:=⟨_,rfl⟩
 obtain ⟨g0,hg0⟩:∃ x,w.heap.size=x:=⟨_,rfl⟩
 obtain ⟨g1,hg1⟩:∃ x,g0+1=x:=⟨_,rfl⟩
 have b0:Blk w0 g0 103 #[.int .i64 (P:Int),.slice (some ⟨gl,lo,none⟩) ln lc,.slice (some ⟨gs,0,none⟩) m mc]:=by rw [←hw0,←hg0];exact (Blk.new w _ _).alloc _
 have b1:Blk w0 g1 94 #[.slice A Q ac,.func (.func fk) #[] #[]]:=by rw [←hw0,←hg1,←hg0];exact Blk.second w _ _ _
 have hB0:Below w.heap.size w w0:=by rw [←hw0];exact below_two w _ _
 have HTU:=Lib.hid (fun (V:World) (hV:Below w0.heap.size w0 V)=>HTU0 V (below_in hB0 hV))
 have HSS:Hid (∀ V,Below w0.heap.size w0 V→(fun U:World=>U.cell? ⟨g0,0,none⟩=some (.int .i64 (P:Int))∧U.cell? ⟨g0,1,none⟩=some (.slice (some ⟨gl,lo,none⟩) ln lc)∧U.cell? ⟨g0,2,none⟩=some (.slice (some ⟨gs,0,none⟩) m mc)∧U.cell? ⟨g1,0,none⟩=some (.slice A Q ac)∧U.cell? ⟨g1,1,none⟩=some (.func (.func fk) #[] #[])∧U.cell? ⟨gl,lo,none⟩=some (.int .i64 a)) V):=fun V hV=>⟨(b0.below hV b0.lt).cell 0,(b0.below hV b0.lt).cell 1,(b0.below hV b0.lt).cell 2,(b1.below hV b1.lt).cell 0,(b1.below hV b1.lt).cell 1,((below_in hB0 hV).cell (p:=⟨gl,lo,none⟩) hgl).trans cA⟩
 have HB0:=Lib.hid hB0
 have HW0:=Lib.hid (And.intro hw0 (And.intro hg0 hg1))
 have hi:((0:Int))<(m:Int):=by omega
 have hj:((0:Int))<(ln:Int):=by omega
 have hj0:¬ ln=0:=by omega
 have hA1:=(below_one w (.cells #[.int .i64 (P:Int),.slice (some ⟨gl,lo,none⟩) ln lc,.slice (some ⟨gs,0,none⟩) m mc] 103)).cell (p:=⟨gs,0,none⟩) hgs
 have hA2:=(below_one w (.cells #[.int .i64 (P:Int),.slice (some ⟨gl,lo,none⟩) ln lc,.slice (some ⟨gs,0,none⟩) m mc] 103)).cell (p:=⟨gs,1,none⟩) hgs
 rw [cV] at hA1
 rw [cF] at hA2
 have k0:=(Blk.new w 103 #[.int .i64 (P:Int),.slice (some ⟨gl,lo,none⟩) ln lc,.slice (some ⟨gs,0,none⟩) m mc]).cell 0
 have k1:=(Blk.new w 103 #[.int .i64 (P:Int),.slice (some ⟨gl,lo,none⟩) ln lc,.slice (some ⟨gs,0,none⟩) m mc]).cell 1
 have k2:=(Blk.new w 103 #[.int .i64 (P:Int),.slice (some ⟨gl,lo,none⟩) ln lc,.slice (some ⟨gs,0,none⟩) m mc]).cell 2
 simp only [gz9] at k0 k1 k2
 clear HTU0 d hk ha haP hm hln hc hL hgl hgs cA cV cF hM hB0 b0 b1 hg0 hw0
 refine (callsIn_wide (n:=9)).1 ?_
 refine callsIn_of_wp_marks Tryz.func101 rfl trivial ?_ rfl
 simp only [Tryz.ntmps101,List.size_toArray,List.length_cons,List.length_nil,Nat.reduceAdd,Nat.reduceSub,Array.replicate_succ,Array.replicate_zero,List.push_toArray,List.append_toArray,List.nil_append,List.cons_append]
 gi_wp2_with fail
 (try rw [HW0.out.2.1]);(try rw [HW0.out.2.2]);(try rw [HW0.out.1])
 have hBx:=(Below.refl w0.heap.size w0).drew
 have hS:=HSS.out _ hBx
 clear hA1 hA2 k0 k1 k2
 refine wpIn_mono (region_HF (Q:=NoPanic _) (S:=(fun U:World=>U.cell? ⟨g0,0,none⟩=some (.int .i64 (P:Int))∧U.cell? ⟨g0,1,none⟩=some (.slice (some ⟨gl,lo,none⟩) ln lc)∧U.cell? ⟨g0,2,none⟩=some (.slice (some ⟨gs,0,none⟩) m mc)∧U.cell? ⟨g1,0,none⟩=some (.slice A Q ac)∧U.cell? ⟨g1,1,none⟩=some (.func (.func fk) #[] #[])∧U.cell? ⟨gl,lo,none⟩=some (.int .i64 a))) (by kernel_rfl) ?_) NoPanic.imp
 refine tkF (i:=0) (d:=11) (v:=.pointer (some ⟨g0,0,none⟩)) (s:=hS) (c:=?_)
 simp only [ud9]
 refine tkF (i:=1) (d:=12) (v:=.int .i64 (P:Int)) (s:=hS) (c:=?_)
 simp only [ud9]
 refine tkF (i:=2) (d:=13) (v:=.pointer (some ⟨g1,0,none⟩)) (s:=hS) (c:=?_)
 simp only [ud9]
 refine tkF (i:=3) (d:=14) (v:=.slice A Q ac) (s:=hS) (c:=?_)
 simp only [ud9]
 refine tkF (i:=4) (d:=15) (v:=.pointer (some ⟨g1,1,none⟩)) (s:=hS) (c:=?_)
 simp only [ud9]
 refine tkF (i:=5) (d:=16) (v:=.func (.func fk) #[] #[]) (s:=hS) (c:=?_)
 simp only [ud9]
 refine tkF (i:=6) (d:=17) (v:=.pointer (some ⟨g0,1,none⟩)) (s:=hS) (c:=?_)
 simp only [ud9]
 refine tkF (i:=7) (d:=18) (v:=.slice (some ⟨gl,lo,none⟩) ln lc) (s:=hS) (c:=?_)
 simp only [ud9]
 refine tkF (i:=8) (d:=19) (v:=.pointer (some ⟨gl,lo,none⟩)) (s:=hS) (c:=?_)
 simp only [ud9]
 refine tkF (i:=9) (d:=20) (v:=.int .i64 a) (s:=hS) (c:=?_)
 simp only [ud9]
 refine oneF (i:=10) (c:=?_)
 gi_wp2_with fail
 refine ⟨trivial,(callsIn_wide.2 (HBY.out _)).mono ?_⟩
 rintro e v1 ⟨rfl,rfl⟩
 gi_wp2
 try (refine ⟨hS,?_⟩)
 refine tkF (i:=11) (d:=22) (v:=.int .i64 (-y)) (s:=hS) (c:=?_)
 simp only [ud9]
 refine oneF (i:=12) (c:=?_)
 gi_wp2_with fail
 refine ⟨trivial,(callsIn_wide.2 (HTU.out _ hBx)).mono ?_⟩
 rintro e v2 ⟨At,kt,rfl,hMt,hB⟩
 replace hMt:=hMt.less (Nat.le_trans HB0.out.size hBx.size)
 replace hBx:=below_in hBx hB
 clear hS
 have hS:(fun U:World=>U.cell? ⟨g0,0,none⟩=some (.int .i64 (P:Int))∧U.cell? ⟨g0,1,none⟩=some (.slice (some ⟨gl,lo,none⟩) ln lc)∧U.cell? ⟨g0,2,none⟩=some (.slice (some ⟨gs,0,none⟩) m mc)∧U.cell? ⟨g1,0,none⟩=some (.slice A Q ac)∧U.cell? ⟨g1,1,none⟩=some (.func (.func fk) #[] #[])∧U.cell? ⟨gl,lo,none⟩=some (.int .i64 a)) v2:=HSS.out _ hBx
 clear hB
 gi_wp2
 try (refine ⟨hS,?_⟩)
 refine oneF (i:=13) (c:=?_)
 gi_wp2
 refine anyHF_done (by kernel_rfl) ?_ _
 refine NoPanic.normal ?_
 clear hS
 gi_wp2_with fail
 exact ⟨.slice At Q kt,by simp [results,Tryz.results101,go_sem],At,kt,rfl,hMt,below_in HB0.out hBx⟩
theorem back1_any {P Q n:Nat} (d:Dims P Q n) (k:Int) (hk:k=0∨k=1∨k = -1) (a:Int) (ha:0≤a) (haP:a≤100) (gl lo ln lc gs m mc:Nat) (hm:1<m) (hln:0<ln) (A:Option Addr) (ac:Nat) (c:List (List UInt8)) (hc:GoodC Q n c) (w:World) (hL:Laid w) (hgl:gl<w.heap.size) (hgs:gs<w.heap.size) (cA:w.cell? ⟨gl,lo,none⟩=some (.int .i64 a)) (cV:w.cell? ⟨gs,2,none⟩=some (.slice A Q ac)) (cF:w.cell? ⟨gs,3,none⟩=some (byK k)) (hM:Many w.heap.size w (.slice A Q ac) c) :
 Calls Tryz.prog 101 #[.agg #[.int .i64 (P:Int),.slice (some ⟨gl,lo,none⟩) ln lc,.slice (some ⟨gs,0,none⟩) m mc],.int .i64 1] w fun e w'=>∃ At kt,e = .returned (.slice At Q kt)∧FreshMany w.heap.size w' (.slice At Q kt) (turnC P Q n c (-(k * a)))∧Below w.heap.size w w':=by
 have hka:-100≤k * a∧k * a≤100:=by rcases hk with rfl | rfl | rfl <;> omega
 have HBY:=Lib.hid (fun V=>by_any k hk a (by omega) (by omega) V)
 have hent:=enter_by k
 unfold byK at cF
 have HTU0:=fun (V:World) (hV:Below w.heap.size w V)=>turned_any d (-(k * a)) (by omega) (by omega) c hc (.slice A Q ac) V (hL.next hV) ((hM.below hV).more hV.size)
 obtain ⟨y,hy⟩:∃ y,k * a=y:=⟨_,rfl⟩
 rw [hy] at HBY HTU0 hka ⊢
 obtain ⟨fk,hfk⟩:∃ x,fnK k=x:=⟨_,rfl⟩
 rw [hfk] at HBY hent cF
 clear hy hfk
 have hneg:IntKind.i64.wrap (-y) = -y:=IntWalk.i64_in _ (by omega)
 obtain ⟨w0,hw0⟩:∃ x,(w.alloc (.cells #[.int .i64 (P:Int),.slice (some ⟨gl,lo,none⟩) ln lc,.slice (some ⟨gs,0,none⟩) m mc] 103)).alloc (.cells #[.slice A Q ac,.func (.func fk) #[] #[]] 94)=x:=⟨_,rfl⟩
 obtain ⟨g0,hg0⟩:∃ x,w.heap.size=x:=⟨_,rfl⟩
 obtain ⟨g1,hg1⟩:∃ x,g0+1=x:=⟨_,rfl⟩
 have b0:Blk w0 g0 103 #[.int .i64 (P:Int),.slice (some ⟨gl,lo,none⟩) ln lc,.slice (some ⟨gs,0,none⟩) m mc]:=by rw [←hw0,←hg0];exact (Blk.new w _ _).alloc _
 have b1:Blk w0 g1 94 #[.slice A Q ac,.func (.func fk) #[] #[]]:=by rw [←hw0,←hg1,←hg0];exact Blk.second w _ _ _
 have hB0:Below w.heap.size w w0:=by rw [←hw0];exact below_two w _ _
 have HTU:=Lib.hid (fun (V:World) (hV:Below w0.heap.size w0 V)=>HTU0 V (below_in hB0 hV))
 have HSS:Hid (∀ V,Below w0.heap.size w0 V→(fun U:World=>U.cell? ⟨g0,0,none⟩=some (.int .i64 (P:Int))∧U.cell? ⟨g0,1,none⟩=some (.slice (some ⟨gl,lo,none⟩) ln lc)∧U.cell? ⟨g0,2,none⟩=some (.slice (some ⟨gs,0,none⟩) m mc)∧U.cell? ⟨g1,0,none⟩=some (.slice A Q ac)∧U.cell? ⟨g1,1,none⟩=some (.func (.func fk) #[] #[])∧U.cell? ⟨gl,lo,none⟩=some (.int .i64 a)) V):=fun V hV=>⟨(b0.below hV b0.lt).cell 0,(b0.below hV b0.lt).cell 1,(b0.below hV b0.lt).cell 2,(b1.below hV b1.lt).cell 0,(b1.below hV b1.lt).cell 1,((below_in hB0 hV).cell (p:=⟨gl,lo,none⟩) hgl).trans cA⟩
 have HB0:=Lib.hid hB0
 have HW0:=Lib.hid (And.intro hw0 (And.intro hg0 hg1))
 have hi:((1:Int))<(m:Int):=by omega
 have hj:((0:Int))<(ln:Int):=by omega
 have hj0:¬ ln=0:=by omega
 have hA1:=(below_one w (.cells #[.int .i64 (P:Int),.slice (some ⟨gl,lo,none⟩) ln lc,.slice (some ⟨gs,0,none⟩) m mc] 103)).cell (p:=⟨gs,2,none⟩) hgs
 have hA2:=(below_one w (.cells #[.int .i64 (P:Int),.slice (some ⟨gl,lo,none⟩) ln lc,.slice (some ⟨gs,0,none⟩) m mc] 103)).cell (p:=⟨gs,3,none⟩) hgs
 rw [cV] at hA1
 rw [cF] at hA2
 have k0:=(Blk.new w 103 #[.int .i64 (P:Int),.slice (some ⟨gl,lo,none⟩) ln lc,.slice (some ⟨gs,0,none⟩) m mc]).cell 0
 have k1:=(Blk.new w 103 #[.int .i64 (P:Int),.slice (some ⟨gl,lo,none⟩) ln lc,.slice (some ⟨gs,0,none⟩) m mc]).cell 1
 have k2:=(Blk.new w 103 #[.int .i64 (P:Int),.slice (some ⟨gl,lo,none⟩) ln lc,.slice (some ⟨gs,0,none⟩) m mc]).cell 2
 simp only [gz9] at k0 k1 k2
 clear HTU0 d hk ha haP hm hln hc hL hgl hgs cA cV cF hM hB0 b0 b1 hg0 hw0
 refine (callsIn_wide (n:=9)).1 ?_
 refine callsIn_of_wp_marks Tryz.func101 rfl trivial ?_ rfl
 simp only [Tryz.ntmps101,List.size_toArray,List.length_cons,List.length_nil,Nat.reduceAdd,Nat.reduceSub,Array.replicate_succ,Array.replicate_zero,List.push_toArray,List.append_toArray,List.nil_append,List.cons_append]
 gi_wp2_with fail
 (try rw [HW0.out.2.1]);(try rw [HW0.out.2.2]);(try rw [HW0.out.1])
 have hBx:=(Below.refl w0.heap.size w0).drew
 have hS:=HSS.out _ hBx
 clear hA1 hA2 k0 k1 k2
 refine wpIn_mono (region_HF (Q:=NoPanic _) (S:=(fun U:World=>U.cell? ⟨g0,0,none⟩=some (.int .i64 (P:Int))∧U.cell? ⟨g0,1,none⟩=some (.slice (some ⟨gl,lo,none⟩) ln lc)∧U.cell? ⟨g0,2,none⟩=some (.slice (some ⟨gs,0,none⟩) m mc)∧U.cell? ⟨g1,0,none⟩=some (.slice A Q ac)∧U.cell? ⟨g1,1,none⟩=some (.func (.func fk) #[] #[])∧U.cell? ⟨gl,lo,none⟩=some (.int .i64 a))) (by kernel_rfl) ?_) NoPanic.imp
 refine tkF (i:=0) (d:=11) (v:=.pointer (some ⟨g0,0,none⟩)) (s:=hS) (c:=?_)
 simp only [ud9]
 refine tkF (i:=1) (d:=12) (v:=.int .i64 (P:Int)) (s:=hS) (c:=?_)
 simp only [ud9]
 refine tkF (i:=2) (d:=13) (v:=.pointer (some ⟨g1,0,none⟩)) (s:=hS) (c:=?_)
 simp only [ud9]
 refine tkF (i:=3) (d:=14) (v:=.slice A Q ac) (s:=hS) (c:=?_)
 simp only [ud9]
 refine tkF (i:=4) (d:=15) (v:=.pointer (some ⟨g1,1,none⟩)) (s:=hS) (c:=?_)
 simp only [ud9]
 refine tkF (i:=5) (d:=16) (v:=.func (.func fk) #[] #[]) (s:=hS) (c:=?_)
 simp only [ud9]
 refine tkF (i:=6) (d:=17) (v:=.pointer (some ⟨g0,1,none⟩)) (s:=hS) (c:=?_)
 simp only [ud9]
 refine tkF (i:=7) (d:=18) (v:=.slice (some ⟨gl,lo,none⟩) ln lc) (s:=hS) (c:=?_)
 simp only [ud9]
 refine tkF (i:=8) (d:=19) (v:=.pointer (some ⟨gl,lo,none⟩)) (s:=hS) (c:=?_)
 simp only [ud9]
 refine tkF (i:=9) (d:=20) (v:=.int .i64 a) (s:=hS) (c:=?_)
 simp only [ud9]
 refine oneF (i:=10) (c:=?_)
 gi_wp2_with fail
 refine ⟨trivial,(callsIn_wide.2 (HBY.out _)).mono ?_⟩
 rintro e v1 ⟨rfl,rfl⟩
 gi_wp2
 try (refine ⟨hS,?_⟩)
 refine tkF (i:=11) (d:=22) (v:=.int .i64 (-y)) (s:=hS) (c:=?_)
 simp only [ud9]
 refine oneF (i:=12) (c:=?_)
 gi_wp2_with fail
 refine ⟨trivial,(callsIn_wide.2 (HTU.out _ hBx)).mono ?_⟩
 rintro e v2 ⟨At,kt,rfl,hMt,hB⟩
 replace hMt:=hMt.less (Nat.le_trans HB0.out.size hBx.size)
 replace hBx:=below_in hBx hB
 clear hS
 have hS:(fun U:World=>U.cell? ⟨g0,0,none⟩=some (.int .i64 (P:Int))∧U.cell? ⟨g0,1,none⟩=some (.slice (some ⟨gl,lo,none⟩) ln lc)∧U.cell? ⟨g0,2,none⟩=some (.slice (some ⟨gs,0,none⟩) m mc)∧U.cell? ⟨g1,0,none⟩=some (.slice A Q ac)∧U.cell? ⟨g1,1,none⟩=some (.func (.func fk) #[] #[])∧U.cell? ⟨gl,lo,none⟩=some (.int .i64 a)) v2:=HSS.out _ hBx
 clear hB
 gi_wp2
 try (refine ⟨hS,?_⟩)
 refine oneF (i:=13) (c:=?_)
 gi_wp2
 refine anyHF_done (by kernel_rfl) ?_ _
 refine NoPanic.normal ?_
 clear hS
 gi_wp2_with fail
 exact ⟨.slice At Q kt,by simp [results,Tryz.results101,go_sem],At,kt,rfl,hMt,below_in HB0.out hBx⟩
theorem back2_any {P Q n:Nat} (d:Dims P Q n) (k:Int) (hk:k=0∨k=1∨k = -1) (a:Int) (ha:0≤a) (haP:a≤100) (gl lo ln lc gs m mc:Nat) (hm:2<m) (hln:0<ln) (A:Option Addr) (ac:Nat) (c:List (List UInt8)) (hc:GoodC Q n c) (w:World) (hL:Laid w) (hgl:gl<w.heap.size) (hgs:gs<w.heap.size) (cA:w.cell? ⟨gl,lo,none⟩=some (.int .i64 a)) (cV:w.cell? ⟨gs,4,none⟩=some (.slice A Q ac)) (cF:w.cell? ⟨gs,5,none⟩=some (byK k)) (hM:Many w.heap.size w (.slice A Q ac) c) :
 Calls Tryz.prog 101 #[.agg #[.int .i64 (P:Int),.slice (some ⟨gl,lo,none⟩) ln lc,.slice (some ⟨gs,0,none⟩) m mc],.int .i64 2] w fun e w'=>∃ At kt,e = .returned (.slice At Q kt)∧FreshMany w.heap.size w' (.slice At Q kt) (turnC P Q n c (-(k * a)))∧Below w.heap.size w w':=by
 have hka:-100≤k * a∧k * a≤100:=by rcases hk with rfl | rfl | rfl <;> omega
 have HBY:=Lib.hid (fun V=>by_any k hk a (by omega) (by omega) V)
 have hent:=enter_by k
 unfold byK at cF
 have HTU0:=fun (V:World) (hV:Below w.heap.size w V)=>turned_any d (-(k * a)) (by omega) (by omega) c hc (.slice A Q ac) V (hL.next hV) ((hM.below hV).more hV.size)
 obtain ⟨y,hy⟩:∃ y,k * a=y:=⟨_,rfl⟩
 rw [hy] at HBY HTU0 hka ⊢
 obtain ⟨fk,hfk⟩:∃ x,fnK k=x:=⟨_,rfl⟩
 rw [hfk] at HBY hent cF
 clear hy hfk
 have hneg:IntKind.i64.wrap (-y) = -y:=IntWalk.i64_in _ (by omega)
 obtain ⟨w0,hw0⟩:∃ x,(w.alloc (.cells #[.int .i64 (P:Int),.slice (some ⟨gl,lo,none⟩) ln lc,.slice (some ⟨gs,0,none⟩) m mc] 103)).alloc (.cells #[.slice A Q ac,.func (.func fk) #[] #[]] 94)=x:=⟨_,rfl⟩
 obtain ⟨g0,hg0⟩:∃ x,w.heap.size=x:=⟨_,rfl⟩
 obtain ⟨g1,hg1⟩:∃ x,g0+1=x:=⟨_,rfl⟩
 have b0:Blk w0 g0 103 #[.int .i64 (P:Int),.slice (some ⟨gl,lo,none⟩) ln lc,.slice (some ⟨gs,0,none⟩) m mc]:=by rw [←hw0,←hg0];exact (Blk.new w _ _).alloc _
 have b1:Blk w0 g1 94 #[.slice A Q ac,.func (.func fk) #[] #[]]:=by rw [←hw0,←hg1,←hg0];exact Blk.second w _ _ _
 have hB0:Below w.heap.size w w0:=by rw [←hw0];exact below_two w _ _
 have HTU:=Lib.hid (fun (V:World) (hV:Below w0.heap.size w0 V)=>HTU0 V (below_in hB0 hV))
 have HSS:Hid (∀ V,Below w0.heap.size w0 V→(fun U:World=>U.cell? ⟨g0,0,none⟩=some (.int .i64 (P:Int))∧U.cell? ⟨g0,1,none⟩=some (.slice (some ⟨gl,lo,none⟩) ln lc)∧U.cell? ⟨g0,2,none⟩=some (.slice (some ⟨gs,0,none⟩) m mc)∧U.cell? ⟨g1,0,none⟩=some (.slice A Q ac)∧U.cell? ⟨g1,1,none⟩=some (.func (.func fk) #[] #[])∧U.cell? ⟨gl,lo,none⟩=some (.int .i64 a)) V):=fun V hV=>⟨(b0.below hV b0.lt).cell 0,(b0.below hV b0.lt).cell 1,(b0.below hV b0.lt).cell 2,(b1.below hV b1.lt).cell 0,(b1.below hV b1.lt).cell 1,((below_in hB0 hV).cell (p:=⟨gl,lo,none⟩) hgl).trans cA⟩
 have HB0:=Lib.hid hB0
 have HW0:=Lib.hid (And.intro hw0 (And.intro hg0 hg1))
 have hi:((2:Int))<(m:Int):=by omega
 have hj:((0:Int))<(ln:Int):=by omega
 have hj0:¬ ln=0:=by omega
 have hA1:=(below_one w (.cells #[.int .i64 (P:Int),.slice (some ⟨gl,lo,none⟩) ln lc,.slice (some ⟨gs,0,none⟩) m mc] 103)).cell (p:=⟨gs,4,none⟩) hgs
 have hA2:=(below_one w (.cells #[.int .i64 (P:Int),.slice (some ⟨gl,lo,none⟩) ln lc,.slice (some ⟨gs,0,none⟩) m mc] 103)).cell (p:=⟨gs,5,none⟩) hgs
 rw [cV] at hA1
 rw [cF] at hA2
 have k0:=(Blk.new w 103 #[.int .i64 (P:Int),.slice (some ⟨gl,lo,none⟩) ln lc,.slice (some ⟨gs,0,none⟩) m mc]).cell 0
 have k1:=(Blk.new w 103 #[.int .i64 (P:Int),.slice (some ⟨gl,lo,none⟩) ln lc,.slice (some ⟨gs,0,none⟩) m mc]).cell 1
 have k2:=(Blk.new w 103 #[.int .i64 (P:Int),.slice (some ⟨gl,lo,none⟩) ln lc,.slice (some ⟨gs,0,none⟩) m mc]).cell 2
 simp only [gz9] at k0 k1 k2
 clear HTU0 d hk ha haP hm hln hc hL hgl hgs cA cV cF hM hB0 b0 b1 hg0 hw0
 refine (callsIn_wide (n:=9)).1 ?_
 refine callsIn_of_wp_marks Tryz.func101 rfl trivial ?_ rfl
 simp only [Tryz.ntmps101,List.size_toArray,List.length_cons,List.length_nil,Nat.reduceAdd,Nat.reduceSub,Array.replicate_succ,Array.replicate_zero,List.push_toArray,List.append_toArray,List.nil_append,List.cons_append]
 gi_wp2_with fail
 (try rw [HW0.out.2.1]);(try rw [HW0.out.2.2]);(try rw [HW0.out.1])
 have hBx:=(Below.refl w0.heap.size w0).drew
 have hS:=HSS.out _ hBx
 clear hA1 hA2 k0 k1 k2
 refine wpIn_mono (region_HF (Q:=NoPanic _) (S:=(fun U:World=>U.cell? ⟨g0,0,none⟩=some (.int .i64 (P:Int))∧U.cell? ⟨g0,1,none⟩=some (.slice (some ⟨gl,lo,none⟩) ln lc)∧U.cell? ⟨g0,2,none⟩=some (.slice (some ⟨gs,0,none⟩) m mc)∧U.cell? ⟨g1,0,none⟩=some (.slice A Q ac)∧U.cell? ⟨g1,1,none⟩=some (.func (.func fk) #[] #[])∧U.cell? ⟨gl,lo,none⟩=some (.int .i64 a))) (by kernel_rfl) ?_) NoPanic.imp
 refine tkF (i:=0) (d:=11) (v:=.pointer (some ⟨g0,0,none⟩)) (s:=hS) (c:=?_)
 simp only [ud9]
 refine tkF (i:=1) (d:=12) (v:=.int .i64 (P:Int)) (s:=hS) (c:=?_)
 simp only [ud9]
 refine tkF (i:=2) (d:=13) (v:=.pointer (some ⟨g1,0,none⟩)) (s:=hS) (c:=?_)
 simp only [ud9]
 refine tkF (i:=3) (d:=14) (v:=.slice A Q ac) (s:=hS) (c:=?_)
 simp only [ud9]
 refine tkF (i:=4) (d:=15) (v:=.pointer (some ⟨g1,1,none⟩)) (s:=hS) (c:=?_)
 simp only [ud9]
 refine tkF (i:=5) (d:=16) (v:=.func (.func fk) #[] #[]) (s:=hS) (c:=?_)
 simp only [ud9]
 refine tkF (i:=6) (d:=17) (v:=.pointer (some ⟨g0,1,none⟩)) (s:=hS) (c:=?_)
 simp only [ud9]
 refine tkF (i:=7) (d:=18) (v:=.slice (some ⟨gl,lo,none⟩) ln lc) (s:=hS) (c:=?_)
 simp only [ud9]
 refine tkF (i:=8) (d:=19) (v:=.pointer (some ⟨gl,lo,none⟩)) (s:=hS) (c:=?_)
 simp only [ud9]
 refine tkF (i:=9) (d:=20) (v:=.int .i64 a) (s:=hS) (c:=?_)
 simp only [ud9]
 refine oneF (i:=10) (c:=?_)
 gi_wp2_with fail
 refine ⟨trivial,(callsIn_wide.2 (HBY.out _)).mono ?_⟩
 rintro e v1 ⟨rfl,rfl⟩
 gi_wp2
 try (refine ⟨hS,?_⟩)
 refine tkF (i:=11) (d:=22) (v:=.int .i64 (-y)) (s:=hS) (c:=?_)
 simp only [ud9]
 refine oneF (i:=12) (c:=?_)
 gi_wp2_with fail
 refine ⟨trivial,(callsIn_wide.2 (HTU.out _ hBx)).mono ?_⟩
 rintro e v2 ⟨At,kt,rfl,hMt,hB⟩
 replace hMt:=hMt.less (Nat.le_trans HB0.out.size hBx.size)
 replace hBx:=below_in hBx hB
 clear hS
 have hS:(fun U:World=>U.cell? ⟨g0,0,none⟩=some (.int .i64 (P:Int))∧U.cell? ⟨g0,1,none⟩=some (.slice (some ⟨gl,lo,none⟩) ln lc)∧U.cell? ⟨g0,2,none⟩=some (.slice (some ⟨gs,0,none⟩) m mc)∧U.cell? ⟨g1,0,none⟩=some (.slice A Q ac)∧U.cell? ⟨g1,1,none⟩=some (.func (.func fk) #[] #[])∧U.cell? ⟨gl,lo,none⟩=some (.int .i64 a)) v2:=HSS.out _ hBx
 clear hB
 gi_wp2
 try (refine ⟨hS,?_⟩)
 refine oneF (i:=13) (c:=?_)
 gi_wp2
 refine anyHF_done (by kernel_rfl) ?_ _
 refine NoPanic.normal ?_
 clear hS
 gi_wp2_with fail
 exact ⟨.slice At Q kt,by simp [results,Tryz.results101,go_sem],At,kt,rfl,hMt,below_in HB0.out hBx⟩
end Go.Proofs.YtkllhjhkcipkoaaGreatDoor.Tr

namespace Go.Proofs.YtkllhjhkcipkoaaGreatDoor.T
open Go.RowKit Go.Shelf Go.Maps Go.Proofs.YtkllhjhkcipkoaaGreatDoor.C Go.Proofs.YtkllhjhkcipkoaaGreatDoor.E Go.Proofs.YtkllhjhkcipkoaaGreatDoor.Ch
attribute [local go_sem] Oper.semAt_some

def keptF (L zs:List Int):List Int:=zs.filter fun x=>decide (x∉L)
def keptL (p:Int) (L:List Int):List Int:=keptF L (walkN p 0 1)
theorem keptF_snoc (L pre:List Int) (x:Int):keptF L (pre ++ [x])=if x∈L then keptF L pre else keptF L pre ++ [x]:=by
 unfold keptF
 rw [List.filter_append]
 by_cases h:x∈L
 · rw [if_pos h];simp [h]
 · rw [if_neg h];simp [h]
theorem keptF_len (L pre:List Int):(keptF L pre).length≤pre.length:=List.length_filter_le _ _
theorem keptF_pre (L:List Int) {a b:List Int} (h:a <+: b):keptF L a <+: keptF L b:=h.filter _
def Kp2 (g gl:Nat) (X Y:World):Prop:=X.heap.size≤Y.heap.size∧Y.heap[g]?=X.heap[g]?∧Y.heap[gl]?=X.heap[gl]?
theorem Kp2.trans {g gl:Nat} {X Y Z:World} (h:Kp2 g gl X Y) (h':Kp2 g gl Y Z):Kp2 g gl X Z:=⟨Nat.le_trans h.1 h'.1,h'.2.1.trans h.2.1,h'.2.2.trans h.2.2⟩
theorem Kp2.refl (g gl:Nat) (X:World):Kp2 g gl X X:=⟨Nat.le_refl _,rfl,rfl⟩
theorem Kp2.below {g gl:Nat} {X Y:World} (h:Below X.heap.size X Y) (hg:g<X.heap.size) (hgl:gl<X.heap.size):Kp2 g gl X Y:=⟨h.size,h.block _ hg,h.block _ hgl⟩
theorem Kp2.putFar {g gl:Nat} (X:World) {l:Nat} (h1:g<l) (h2:gl<l) (hl:l<X.heap.size) (ob:Obj):Kp2 g gl X (X.putObj l ob):=by
 have h:=grownBy_putObj' X l ob
 exact ⟨h.size,h.block g (by omega) (fun e=>by injection e;omega),h.block gl (by omega) (fun e=>by injection e;omega)⟩
def OkK (p:Int) (L:List Int) (pre:List Int) (x:Int):Prop:=((0≤x∧x<p)∧x∉L)∧pre ++ [x] <+: keptL p L
def KeptT (lo:Nat) (p:Int) (L:List Int) (gl:Nat) (v:Value) (w:World):Prop :=
 ∃ g gf lb,lo≤g∧g<w.heap.size∧gl<w.heap.size∧v = .func (.func gf) #[] lb∧(∀ args W,(callFunc gf args).run Tryz.prog W = .ok (.enter gf args) W) ∧
  ∀ n,5≤n→SeqT Fence.wide n Tryz.prog gf lb (fun x:Int=>#[.int .i64 x]) (fun pre x _=>OkK p L pre x) (Kp2 g gl) (fun ys=>ys=keptL p L) (fun pre=>pre <+: keptL p L) 100 w
theorem enter_kept1:∀ args W,(callFunc 92 args).run Tryz.prog W = .ok (.enter 92 args) W:=enters_of Tryz.func92 (by kernel_rfl) rfl
theorem kept1_inT (n:Nat) (hn:5≤n) (l g gl lo2 lc:Nat) (vA:Option Addr) (vn vc:Nat) (rA:Option Addr) (rn rc:Nat) (p:Int) (hp:p∈prm) (L:List Int) (hls:L.length≤1000) (W:World) (hLW:Laid W) (hgl:gl<W.heap.size)
 (J Jx:List Int→(Nat→Prop)→World→Prop) (o₀:(Nat→Prop)) (ho₀:∀ b,o₀ b→b<W.heap.size)
 (hJ:FarO W.heap.size J) (hJx:FarO W.heap.size Jx) (hr1:∀ s o X,J s o X→RowO o X) (hr2:∀ s o X,Jx s o X→RowO o X)
 (hY:∀ pre x o W1,J pre o W1→OkK p L pre x→pre.length<100→W.heap.size≤W1.heap.size→YieldAt Fence.wide (n - 1) Tryz.prog l #[.int .i64 x] W1 fun e W'=>∃ o',FreshO o o' W1∧SinceO W.heap.size o W1 W'∧((e = .returned (.bool true)∧J (pre ++ [x]) o' W'∧Kp2 g gl W1 W')∨(e = .returned (.bool false)∧Jx (pre ++ [x]) o' W'∧Kp2 g gl W1 W')))
 (bg:Blk W g 67 #[.int .i64 p,.slice vA vn vc,.slice rA rn rc,.slice (some ⟨gl,lo2,none⟩) L.length lc]) (hcell:∀ j,j<L.length→W.cell? ⟨gl,lo2+j,none⟩=some (.int .i64 (L[j]?.getD 0))) (h0:J [] o₀ W) :
 CallsIn Fence.wide n Tryz.prog 92 #[.func (.yield l) #[] #[],.pointer (some ⟨g,0,none⟩)] W fun e W'=>(∃ v,e = .returned v)∧∃ o',FreshO o₀ o' W∧((∃ ys,ys=keptL p L∧J ys o' W')∨(∃ pre,pre <+: keptL p L∧Jx pre o' W')):=by
 have hpb:=prm_bounds hp
 have HR:=fun (V:World) (hV:Below W.heap.size W V)=>modWalk_anyT p 0 1 (fine_one.2 ⟨hp,by omega,by omega⟩) V (hLW.next hV) (by omega) (by omega)
 have hzl:(walkN p 0 1).length≤100:=by
  obtain ⟨P,rfl⟩:∃ P:Nat,p=(P:Int):=⟨p.toNat,by omega⟩
  rw [walkN_yes (fine_one.2 ⟨hp,by omega,by omega⟩),walkL_len];omega
 have HZL:=Lib.hid hzl
 unfold keptL at *
 unfold OkK keptL at hY
 generalize walkN p 0 1=zs at *
 refine callsIn_of_wp_marks Tryz.func92 rfl trivial ?_ rfl
 simp only [Tryz.ntmps92,List.size_toArray,List.length_cons,List.length_nil,Nat.reduceAdd,Nat.reduceSub,Array.replicate_succ,Array.replicate_zero,List.push_toArray,List.append_toArray,List.nil_append,List.cons_append]
 obtain ⟨W0,hW0⟩:∃ W0,W.alloc (.cells #[.func (.yield l) #[] #[]] 50)=W0:=⟨_,rfl⟩
 have hB0:Below W.heap.size W W0:=by rw [←hW0];exact below_one W _
 have bY:Blk W0 W.heap.size 50 #[.func (.yield l) #[] #[]]:=by rw [←hW0];exact Blk.new W _ _
 have s0:W0.heap.size=W.heap.size+1:=by rw [←hW0];simp
 have bg0:=bg.below hB0 bg.lt
 have hJ0:=hJ.below h0 hB0
 have HR0:=Lib.hid (HR W0 hB0)
 have S0:=Lib.hid s0
 have hgW:=bg.lt
 have c0:=bg0.cell 0
 simp only [gz9] at c0
 have HB0:=Lib.hid hB0
 clear s0 HR bg hp hzl
 gi_wp2_with fail
 refine wpIn_scope_wide ?_
 gi_wp2_with fail
 refine wpIn_label ?_
 gi_wp2_with fail
 (try rw [hW0])
 refine ⟨trivial,fun _=>by omega,(callsIn_wide.2 HR0.out).mono ?_⟩
 rintro e w1 ⟨v,rfl,⟨gf,lb,rfl,eg,hgo⟩,hB1⟩
 have bY1:=bY.below hB1 bY.lt
 have bg1:=bg0.below hB1 bg0.lt
 have hs1:=hB1.size
 have hJ1:J [] o₀ w1:=hJ.below hJ0 (hB1.mono (by have:=S0.out;omega))
 have hgl1:w1.heap[gl]?=W.heap[gl]?:=((hB1.mono (show W.heap.size≤W0.heap.size by have:=S0.out;omega)).block gl hgl).trans (HB0.out.block gl hgl)
 have HCELL:Hid (∀ (X:World),X.heap[gl]?=w1.heap[gl]?→∀ j,j<L.length→X.cell? ⟨gl,lo2+j,none⟩=some (.int .i64 (L[j]?.getD 0))):=fun X hX j hj=>(World.cell?_of_block (show X.heap[(⟨gl,lo2+j,none⟩:Addr).block]? = _ from hX.trans hgl1)).trans (hcell j hj)
 clear hW0 c0 bg0 bY hJ0 hB0 hcell hgl1
 gi_wp2_with fail
 refine wpIn_rangeT rfl (by omega) (gf:=gf) (lb:=lb) rfl trivial eg (hgo _ (by omega)) (fun h h'=>h.trans h') (fun X l' ob hl' hlX _=>Keep.putFar X (by omega) ob) (Below.refl _ _) (fun _=>rfl)
  (fun pre o X=>J (keptF L pre) o X∧FreshO o₀ o w1∧Blk X W.heap.size 50 #[.func (.yield l) #[] #[]]∧Blk X g 67 #[.int .i64 p,.slice vA vn vc,.slice rA rn rc,.slice (some ⟨gl,lo2,none⟩) L.length lc]∧X.heap[gl]?=w1.heap[gl]?)
  (fun c pre o X=>c = .exit 0∧FreshO o₀ o w1∧Jx (keptF L pre) o X)
  ?hI ?hIx o₀ (fun b e=>by have:=ho₀ b e;have:=S0.out;omega) ⟨hJ1,FreshO.refl _ _,bY1,bg1,rfl⟩ (fun pre x o a' X=>a'=({ tmps:=#[.func (.yield l) #[] #[],.pointer (some ⟨g,0,none⟩),.pointer (some ⟨W.heap.size,0,none⟩),.int .i64 x,.pointer (some ⟨g,0,none⟩),.int .i64 p,.func (.func gf) #[] lb,.int .i64 x,undef,undef,undef,undef,undef,undef,undef,undef,undef,undef,undef],defers:=[] }:Act)∧(0≤x∧x<p)∧pre ++ [x] <+: zs) ?hAx ?assign ?row1 ?row2 ?body ?done ?stop
 case assign =>
  intro l' pre x o X K hsz ho hI hok hK
  gi_wp2
  exact hK _ _ (SinceO.refl _ _ _) (Keep.refl _ _ _) hI ⟨rfl,hok⟩
 case hI =>
  rintro s o X Y row ⟨h1,h2,h3,h4,h5⟩ hgr hr
  have s0:=S0.out
  exact ⟨hJ _ o X Y row h1 hgr (fun r e=>⟨by have:=(hr r e).1;omega,(hr r e).2⟩),h2,h3.grown hgr (fun e=>by have:=(hr _ e.symm).1;omega),h4.grown hgr (fun e=>by have:=(hr _ e.symm).1;omega),(hgr.block gl (by have:=h3.lt;omega) (fun e=>by have:=(hr _ e.symm).1;omega)).trans h5⟩
 case hIx =>
  rintro c s o X Y row ⟨h1,h2,h3⟩ hgr hr
  have s0:=S0.out
  exact ⟨h1,h2,hJx _ o X Y row h3 hgr (fun r e=>⟨by have:=(hr r e).1;omega,(hr r e).2⟩)⟩
 case hAx=>exact fun _ _ _ _ _ _ _ _ _ _ _ h=>h
 case row1=>exact fun _ _ _ h=>hr1 _ _ _ h.1
 case row2=>exact fun _ _ _ _ h=>hr2 _ _ _ h.2.2
 case body =>
  rintro l' pre x o a' X hsz ⟨hj,hfo,bY,bG,hgX⟩ ⟨rfl,⟨x0,x1⟩,hpx⟩ hln
  have s0:=S0.out
  have cY:=bY.one
  have cG0:=bG.cell 0
  have cG3:=bG.cell 3
  simp only [gz9] at cG0 cG3
  have HCT:=Lib.hid (contains_any gl lo2 lc L x hls X (HCELL.out X hgX))
  have hsn:=keptF_snoc L pre x
  have hoB:∀ b,o b→b<W0.heap.size∨W0.heap.size+(w1.heap.size - W0.heap.size)≤b:=fun b e=>(hfo b e).elim (fun h=>.inl (by have:=ho₀ b h;omega)) (fun h=>.inr (by omega))
  by_cases hx:x∈L
  · rw [if_pos hx] at hsn
    have HSN:=Lib.hid hsn
    rw [decide_eq_true hx] at HCT
    clear hsn s0 hx hoB
    gi_wp2_with fail
    refine ⟨trivial,fun _=>by omega,(CallsIn.inRound l' (callsIn_wide.2 HCT.out)).mono ?_⟩
    rintro e X2 ⟨rfl,rfl⟩
    gi_wp2_with fail
    refine ⟨by simp,?_⟩
    gi_wp2_with fail
    exact ⟨o,FreshO.refl _ _,SinceO.refl _ _ _,Keep.refl _ _ _,by rw [HSN.out];exact hj,hfo,bY,bG,hgX⟩
  · rw [if_neg hx] at hsn
    obtain ⟨fn,tmps,asg,bdy,hy,hRr⟩:=YieldAt.deep (m:=n - 1 - 1 - 1) (hY (keptF L pre) x o X hj ⟨⟨⟨x0,x1⟩,hx⟩,by rw [←hsn];exact keptF_pre L hpx⟩ (by have:=keptF_len L pre;have:=HZL.out;omega) (by omega))
    have HSN:=Lib.hid hsn
    rw [decide_eq_false hx] at HCT
    have hn3:1≤n - 1 - 1:=by omega
    have HOB:=Lib.hid hoB
    clear hsn s0 hx hoB
    gi_wp2_with fail
    refine ⟨trivial,(CallsIn.inRound l' (callsIn_wide.2 HCT.out)).mono ?_⟩
    rintro e X2 ⟨rfl,rfl⟩
    gi_wp2_with fail
    refine hRr.mono ?_
    have s0:=S0.out
    rintro e W3 ⟨o',hf3,hS3,(⟨rfl,hJ3,hk3⟩ | ⟨rfl,hJx3,hk3⟩)⟩
    all_goals have hfo':=hfo.trans hsz hf3
    all_goals have hKK:Keep W0.heap.size (w1.heap.size - W0.heap.size) X2 W3:=hS3.keep (by omega) (by omega) HOB.out
    all_goals have hYn:¬ o W.heap.size:=hfo.ne (by omega) (fun e=>by have:=ho₀ _ e;omega)
    · have hR:=And.intro (hS3.less (B':=w1.heap.size) (by omega)) (hS3.blk bY (Nat.le_refl _) hYn)
      clear s0
      gi_wp2_with fail
      exact ⟨o',hf3,hR.1,hKK,by rw [HSN.out];exact hJ3,hfo',hR.2,hk3.2.1.trans bG,hk3.2.2.trans hgX⟩
    · have hR:=hS3.less (B':=w1.heap.size) (by omega)
      clear s0
      gi_wp2_with fail
      exact ⟨o',hf3,hR,hKK,rfl,hfo',by rw [HSN.out];exact hJx3⟩
 case done =>
  rintro D xs o X hD hfo rfl ⟨hj,_⟩ hK hne
  have s0:=S0.out
  gi_wp2
  rw [Exit.noGoto_normal]
  refine ⟨by simp,.inl ⟨_,_,rfl,run_takeDeferred hK,?_⟩⟩
  exact ⟨_,results_none rfl _ _ _,⟨_,rfl⟩,o,hfo.later (by omega),.inl ⟨_,rfl,hJ.put hj (by omega) hne _⟩⟩
 case stop =>
  rintro D c pre o X hD hfo hSp ⟨rfl,_,hjx⟩ hK hne
  have s0:=S0.out
  gi_wp2
  rw [Exit.noGoto_normal]
  refine ⟨by simp,.inl ⟨_,_,rfl,run_takeDeferred hK,?_⟩⟩
  exact ⟨_,results_none rfl _ _ _,⟨_,rfl⟩,o,hfo.later (by omega),.inr ⟨_,keptF_pre L hSp,hJx.put hjx (by omega) hne _⟩⟩
theorem kept_any (gl lo2 lc:Nat) (vA:Option Addr) (vn vc:Nat) (rA:Option Addr) (rn rc:Nat) (p:Int) (hp:p∈prm) (L:List Int) (hls:L.length≤1000) (w:World) (hL:Laid w) (hgl:gl<w.heap.size) (hcell:∀ j,j<L.length→w.cell? ⟨gl,lo2+j,none⟩=some (.int .i64 (L[j]?.getD 0))) :
 Calls Tryz.prog 72 #[.agg #[.int .i64 p,.slice vA vn vc,.slice rA rn rc,.slice (some ⟨gl,lo2,none⟩) L.length lc]] w fun e w'=>∃ v,e = .returned v∧KeptT w.heap.size p L gl v w'∧Below w.heap.size w w':=by
 have hmf:∀ (fn:Fn) (first cap:Array Value) (w:World),(Instr.makeFunc fn first cap).run Tryz.prog w = .ok (.func fn first cap) w:=fun _ _ _ _=>rfl
 have bg:=Blk.new w 67 #[.int .i64 p,.slice vA vn vc,.slice rA rn rc,.slice (some ⟨gl,lo2,none⟩) L.length lc]
 have hB:=below_one w (.cells #[.int .i64 p,.slice vA vn vc,.slice rA rn rc,.slice (some ⟨gl,lo2,none⟩) L.length lc] 67)
 obtain ⟨w1,hw1⟩:∃ x,w.alloc (.cells #[.int .i64 p,.slice vA vn vc,.slice rA rn rc,.slice (some ⟨gl,lo2,none⟩) L.length lc] 67)=x:=⟨_,rfl⟩
 have hsz:w1.heap.size=w.heap.size+1:=by rw [←hw1];simp
 rw [hw1] at bg hB
 have HW:=Lib.hid (And.intro hw1 (And.intro bg (And.intro hB hsz)))
 have HH:=Lib.hid (And.intro hp (And.intro hls (And.intro hL (And.intro hgl hcell))))
 clear hw1 bg hB hsz hp hls hL hgl hcell
 go_enter Tryz.func72,Tryz.ntmps72
 go_wp2_with fail
 go_ret
 obtain ⟨hw1,bg,hB,hsz⟩:=HW.out
 obtain ⟨hp,hls,hL,hgl,hcell⟩:=HH.out
 rw [hw1]
 refine ⟨_,rfl,⟨w.heap.size,_,_,Nat.le_refl _,by omega,by omega,rfl,enter_kept1,fun n hn l J Jx W o₀ hW ho₀ hJ hJx hr1 hr2 hY h0=>?_⟩,hB⟩
 exact kept1_inT n hn l w.heap.size gl lo2 lc vA vn vc rA rn rc p hp L hls W (hL.next (hB.trans (hW.mono hB.size))) (by have:=hW.size;omega) J Jx o₀ ho₀ hJ hJx hr1 hr2 (fun pre x o W1 hj hx hl hs=>hY pre x o W1 hj hx hl hs) (bg.below hW bg.lt) (fun j hj=>((hB.trans (hW.mono hB.size)).cell (p:=⟨gl,lo2+j,none⟩) hgl).trans (hcell j hj)) h0
end Go.Proofs.YtkllhjhkcipkoaaGreatDoor.T
