/- -/
import Derived.Laws.EntriesVeiled
import Derived.Lib.AppendZeros
import Derived.Laws.OwnMore
import Derived.Test.YtkllhjhkcipkoaaGreatDoorTHG1
set_option linter.unusedVariables false
set_option linter.unusedSimpArgs false
set_option maxRecDepth 100000
set_option maxHeartbeats 1000000
namespace Go.Proofs.YtkllhjhkcipkoaaGreatDoor.E
open Go.RowKit Go.Shelf Go.Proofs.YtkllhjhkcipkoaaGreatDoor.C
attribute [local go_sem] Oper.semAt_some


theorem idle_K (p:Addr) (w:World) :
 CallsD Tryz.prog 118 #[.pointer (some p)] .returning w fun e u' w'=>e = .returned (.tuple #[])∧u' = .returning∧w'=w:=by
 have hta:=assert_errno
 refine callsD_of_wpS Tryz.func118 rfl fun c₀ cs hu=>?_
 simp only [Tryz.ntmps118,List.size_toArray,List.length_cons,List.length_nil,Nat.reduceAdd,Nat.reduceSub,Array.replicate_succ,Array.replicate_zero,List.push_toArray,List.append_toArray,List.nil_append,List.cons_append]
 apply wpS_seq
 apply wpS_region
 simp [wpOpsS,go_sem,recoverD,hu,Exit.thenS]
 all_goals (refine wpS_of_wp ?_;go_wp2;cases c₀;simp_all [bodyPostS,results,Tryz.results118])
theorem caught_K (p:Addr) (x:Int) (w:World) (hc:w.cell? p=some (.int .i64 x)) (hz:w.frozen? p=false) :
 CallsD Tryz.prog 118 #[.pointer (some p)] (.panicking gaveUp) w fun e u' w' =>
  e = .returned (.tuple #[])∧u' = .panicking [{ v:=.iface 26 (.int .i64 2),recovered:=true }]∧w'=w.setCell p (.int .i64 2):=by
 have hta:=assert_errno
 refine callsD_of_wpS Tryz.func118 rfl fun c₀ cs hu=>?_
 simp only [Tryz.ntmps118,List.size_toArray,List.length_cons,List.length_nil,Nat.reduceAdd,Nat.reduceSub,Array.replicate_succ,Array.replicate_zero,List.push_toArray,List.append_toArray,List.nil_append,List.cons_append]
 apply wpS_seq
 apply wpS_region
 simp [wpOpsS,go_sem,recoverD,hu,Exit.thenS,gaveUp]
 all_goals (refine wpS_of_wp ?_;go_wp2;simp [bodyPostS,results,Tryz.results118])

theorem two_blks (w:World) {w1:World} (hB1:Below ((w.alloc (.cells #[.int .i64 0,.slice none 0 0] 135)).alloc (.cells #[.int .i64 0] 26)).heap.size ((w.alloc (.cells #[.int .i64 0,.slice none 0 0] 135)).alloc (.cells #[.int .i64 0] 26)) w1):Blk w1 w.heap.size 135 #[.int .i64 0,.slice none 0 0]∧Blk w1 (w.heap.size+1) 26 #[.int .i64 0] :=
 ⟨((Blk.new w _ _).alloc _).below hB1 (by simp;omega),(Blk.second w _ _ _).below hB1 (by simp)⟩
theorem ans_K_yes (f:Nat) (caps:Array Value) (w:World) (p:Int) (A:Option Addr) (n c:Nat) (hent:∀ W,(callFunc f caps).run Tryz.prog W = .ok (.enter f caps) W)
 (h:∀ W,Below w.heap.size w W→Calls Tryz.prog f caps W fun e w'=>e = .returned (.agg #[.int .i64 p,.slice A n c])∧Below W.heap.size W w') :
 Calls Tryz.prog 97 #[.func (.func f) #[] caps] w fun e w'=>e = .returned (.tuple #[.agg #[.int .i64 p,.slice A n c],.int .i64 0])∧Below w.heap.size w w':=by
 have hmf:∀ (fn:Fn) (first cap:Array Value) (w:World),(Instr.makeFunc fn first cap).run Tryz.prog w = .ok (.func fn first cap) w:=fun _ _ _ _=>rfl
 have hBa:=below_two w (.cells #[.int .i64 0,.slice none 0 0] 135) (.cells #[.int .i64 0] 26)
 have h1:=h _ hBa
 clear h
 go_enter_defers Tryz.func97,Tryz.ntmps97
 go_wp2
 refine h1.mono ?_
 rintro e w1 ⟨rfl,hB1⟩
 obtain ⟨b0,b1⟩:=two_blks w hB1
 have c0:=b0.cell 0
 have c1:=b0.cell 1
 have c2:=b1.cell 0
 have f0:=b0.frozen 0
 have f1:=b0.frozen 1
 have f2:=b1.frozen 0
 simp only [gz9] at c0 c1 c2
 have hBw:=below_in hBa hB1
 go_wp2
 obtain ⟨ww,hww⟩:∃ ww,((w1.setCell ⟨w.heap.size,0,none⟩ (.int .i64 p)).setCell ⟨w.heap.size,1,none⟩ (.slice A n c)).setCell ⟨w.heap.size+1,0,none⟩ (.int .i64 0)=ww:=⟨_,rfl⟩
 have d0:Blk ww w.heap.size 135 #[.int .i64 p,.slice A n c]:=by
  rw [←hww]
  exact Blk.far ((b0.set_ 0 (.int .i64 p)).set_ 1 (.slice A n c)) (by simp) _
 have d1:Blk ww (w.heap.size+1) 26 #[.int .i64 0]:=by
  rw [←hww]
  exact (Blk.far (Blk.far b1 (by simp) _) (by simp) _).set_ 0 (.int .i64 0)
 have hBz:Below w.heap.size w ww:=by
  rw [←hww]
  exact ((hBw.setCell (Nat.le_refl _) _).setCell (Nat.le_refl _) _).setCell (Nat.le_succ _) _
 rw [hww]
 have e0:=d0.cell 0
 have e1:=d0.cell 1
 have e2:=d1.cell 0
 simp only [gz9] at e0 e1 e2
 refine leaves_cons (f:=118) (args:=#[.pointer (some ⟨w.heap.size+1,0,none⟩)]) (by simp) (by simp [go_sem]) ?_
 refine (idle_K ⟨w.heap.size+1,0,none⟩ _).mono ?_
 rintro e u' w'' ⟨rfl,rfl,rfl⟩
 simp [Go.Leaves,settle,results,Tryz.results97,go_sem,e0,e1,e2]
 exact hBz
theorem ans_K_no (f:Nat) (caps:Array Value) (w:World) (hent:∀ W,(callFunc f caps).run Tryz.prog W = .ok (.enter f caps) W)
 (h:∀ W,Below w.heap.size w W→Calls Tryz.prog f caps W fun e w'=>e = .panicked gaveUp∧Below W.heap.size W w') :
 Calls Tryz.prog 97 #[.func (.func f) #[] caps] w fun e w'=>e = .returned (.tuple #[.agg #[.int .i64 0,.slice none 0 0],.int .i64 2])∧Below w.heap.size w w':=by
 have hmf:∀ (fn:Fn) (first cap:Array Value) (w:World),(Instr.makeFunc fn first cap).run Tryz.prog w = .ok (.func fn first cap) w:=fun _ _ _ _=>rfl
 have hBa:=below_two w (.cells #[.int .i64 0,.slice none 0 0] 135) (.cells #[.int .i64 0] 26)
 have h1:=h _ hBa
 clear h
 go_enter_defers Tryz.func97,Tryz.ntmps97
 go_wp2
 refine h1.mono ?_
 rintro e w1 ⟨rfl,hB1⟩
 obtain ⟨b0,b1⟩:=two_blks w hB1
 have c2:=b1.cell 0
 have f2:=b1.frozen 0
 simp only [gz9] at c2
 have hBw:=below_in hBa hB1
 refine leaves_cons (f:=118) (args:=#[.pointer (some ⟨w.heap.size+1,0,none⟩)]) (by simp) (by simp [go_sem]) ?_
 refine (caught_K ⟨w.heap.size+1,0,none⟩ 0 _ c2 f2).mono ?_
 rintro e u' w'' ⟨rfl,rfl,rfl⟩
 obtain ⟨ww,hww⟩:∃ ww,w1.setCell ⟨w.heap.size+1,0,none⟩ (.int .i64 2)=ww:=⟨_,rfl⟩
 have d0:Blk ww w.heap.size 135 #[.int .i64 0,.slice none 0 0]:=by
  rw [←hww]
  exact Blk.far b0 (by simp) _
 have d1:Blk ww (w.heap.size+1) 26 #[.int .i64 2]:=by
  rw [←hww]
  exact b1.set_ 0 (.int .i64 2)
 have hBz:Below w.heap.size w ww:=by
  rw [←hww]
  exact hBw.setCell (Nat.le_succ _) _
 rw [hww]
 have e0:=d0.cell 0
 have e1:=d0.cell 1
 have e2:=d1.cell 0
 simp only [gz9] at e0 e1 e2
 simp [Go.Leaves,settle,results,Tryz.results97,go_sem,e0,e1,e2]
 exact hBz
def Gave (U:World):Exit→Act→World→Prop:=fun e a w'=>e = .panic gaveUp∧a.defers = []∧Below U.heap.size U w'
theorem enter_right1:∀ args W,(callFunc 98 args).run Tryz.prog W = .ok (.enter 98 args) W:=enters_of Tryz.func98 (by kernel_rfl) rfl

theorem right_yes {B:Nat} (p:Int) (v:Value) (css:List (List (List UInt8))) (w:World) (hL:Laid w) (hB:B≤w.heap.size) (hC:Cols B w v css) (hlen:css.length≤1000) (hok:RightD p css) :
 Calls Tryz.prog 77 #[.int .i64 p,v] w fun e w'=>e = .returned (.bool true)∧Below w.heap.size w w':=by
 obtain ⟨A,cap,rfl,_,_⟩:=id hC
 obtain ⟨W2,hW2⟩:∃ W2,(w.alloc (.cells #[.int .i64 p] 3)).alloc (.cells #[.slice A css.length cap] 22)=W2:=⟨_,rfl⟩
 have b0:Blk W2 w.heap.size 3 #[.int .i64 p]:=by rw [←hW2];exact (Blk.new w _ _).alloc _
 have b1:Blk W2 (w.heap.size+1) 22 #[.slice A css.length cap]:=by rw [←hW2];exact Blk.second w _ _ _
 have hBW:Below w.heap.size w W2:=by rw [←hW2];exact below_two w _ _
 have hL2:=hL.next hBW
 have hpp:=prm_bounds hok.1
 have hR:RightC 1 p:=⟨by omega,hok.1⟩
 have hr:p - 1=(((p - 1).toNat:Nat):Int):=by omega
 have HA:=Lib.hid (ans_K_yes 98 #[.pointer (some ⟨w.heap.size,0,none⟩),.pointer (some ⟨w.heap.size+1,0,none⟩)] W2 p A css.length cap (enter_right1 _) (fun U hU=>by
  have hLU:=hL2.next hU
  have hBU:=below_in hBW hU
  have hCU:=hC.below (hBU.mono hB)
  have HPP:=Lib.hid (fun (V:World) (hV:Below U.heap.size U V)=>primeOf_yes p hR V (hLU.next hV))
  have HT:=Lib.hid (fun (V:World) (hV:Below U.heap.size U V)=>together_yes (B:=B) p _ hR hr (.slice A css.length cap) css V (hLU.next hV) (Nat.le_trans hB (Nat.le_trans hBU.size hV.size)) (hCU.below (hV.mono (Nat.le_trans hB hBU.size))) hlen hok.2)
  have c0:=(b0.below hU b0.lt).one
  have c1:=(b1.below hU b1.lt).one
  have hSS:=Lib.hid (fun (V:World) (hV:Below U.heap.size U V)=>(⟨(hV.cell (p:=⟨w.heap.size,0,none⟩) (b0.below hU b0.lt).lt).trans c0,(hV.cell (p:=⟨w.heap.size+1,0,none⟩) (b1.below hU b1.lt).lt).trans c1⟩:(fun V:World=>V.cell? ⟨w.heap.size,0,none⟩=some (.int .i64 p)∧V.cell? ⟨w.heap.size+1,0,none⟩=some (.slice A css.length cap)) V))
  clear hC hCU hok hW2 hL hL2 hLU hlen hr hR hpp b0 b1
  generalize css.length=n at *
  have bz:=Blk.new U 135 #[.int .i64 0,.slice none 0 0]
  have hBz:=below_one U (.cells #[.int .i64 0,.slice none 0 0] 135)
  refine (callsIn_wide (n:=9)).1 ?_
  refine callsIn_of_wp_marks Tryz.func98 rfl trivial ?_ rfl
  simp only [Tryz.ntmps98,List.size_toArray,List.length_cons,List.length_nil,Nat.reduceAdd,Nat.reduceSub,Array.replicate_succ,Array.replicate_zero,List.push_toArray,List.append_toArray,List.nil_append,List.cons_append]
  gi_wp2_with fail
  have hS:(fun V:World=>V.cell? ⟨w.heap.size,0,none⟩=some (.int .i64 p)∧V.cell? ⟨w.heap.size+1,0,none⟩=some (.slice A n cap)) (U.alloc (.cells #[.int .i64 0,.slice none 0 0] 135)).drew:=hSS.out _ hBz.drew
  refine wpIn_mono (region_HF (Q:=NoPanic _) (S:=(fun V:World=>V.cell? ⟨w.heap.size,0,none⟩=some (.int .i64 p)∧V.cell? ⟨w.heap.size+1,0,none⟩=some (.slice A n cap))) (by kernel_rfl) ?_) NoPanic.imp
  refine tkF (i:=0) (d:=3) (v:=.int .i64 p) (s:=hS) (c:=?_)
  simp only [ud9]
  refine tkF (i:=2) (d:=5) (v:=.slice A n cap) (s:=hS) (c:=?_)
  simp only [ud9]
  refine oneF (i:=1) (c:=?_)
  gi_wp2_with fail
  refine ⟨trivial,(callsIn_wide.2 (HPP.out _ hBz.drew)).mono ?_⟩
  rintro e w1 ⟨rfl,hB1⟩
  replace hB1:=below_undrew hB1
  replace bz:=bz.below hB1 bz.lt
  replace hBz:=below_in hBz hB1
  clear hS
  have hS:(fun V:World=>V.cell? ⟨w.heap.size,0,none⟩=some (.int .i64 p)∧V.cell? ⟨w.heap.size+1,0,none⟩=some (.slice A n cap)) w1:=hSS.out _ hBz
  gi_wp2
  try (refine ⟨hS,?_⟩)
  refine oneF (i:=3) (c:=?_)
  gi_wp2_with fail
  refine ⟨trivial,(callsIn_wide.2 (HT.out _ hBz)).mono ?_⟩
  rintro e w2 ⟨rfl,hB2⟩
  replace bz:=bz.below hB2 bz.lt
  replace hBz:=below_in hBz hB2
  clear hS
  have hS:(fun V:World=>V.cell? ⟨w.heap.size,0,none⟩=some (.int .i64 p)∧V.cell? ⟨w.heap.size+1,0,none⟩=some (.slice A n cap)) w2:=hSS.out _ hBz
  gi_wp2
  try (refine ⟨hS,?_⟩)
  refine oneF (i:=4) (c:=?_)
  have g0:=bz.cell 0
  have g1:=bz.cell 1
  have f0:=bz.frozen 0
  have f1:=bz.frozen 1
  simp only [gz9] at g0 g1
  gi_wp2
  have r:=(bz.set_ 0 (.int .i64 p)).set_ 1 (.slice A n cap)
  have hBf:=(hBz.setCell (p:=⟨U.heap.size,0,none⟩) (Nat.le_refl _) (.int .i64 p)).setCell (p:=⟨U.heap.size,1,none⟩) (Nat.le_refl _) (.slice A n cap)
  clear hS
  have hS:(fun V:World=>V.cell? ⟨w.heap.size,0,none⟩=some (.int .i64 p)∧V.cell? ⟨w.heap.size+1,0,none⟩=some (.slice A n cap)) _:=hSS.out _ hBf
  refine ⟨hSS.out _ (hBz.setCell (p:=⟨U.heap.size,0,none⟩) (Nat.le_refl _) (.int .i64 p)),?_⟩
  refine anyHF_done (by kernel_rfl) ?_ _
  refine NoPanic.normal ?_
  have r0:=r.cell 0
  have r1:=r.cell 1
  simp only [List.setIfInBounds_toArray,List.set_cons_zero,List.set_cons_succ,List.getElem?_toArray,List.getElem?_cons_zero,List.getElem?_cons_succ] at r0 r1
  gi_wp2
  exact ⟨.agg #[.int .i64 p,.slice A n cap],by simp [results,Tryz.results98,go_sem,r0,r1],rfl,hBf⟩))
 clear hC b0 b1 hL2 hok hlen hr hR hpp
 generalize css.length=n at *
 go_enter Tryz.func77,Tryz.ntmps77
 have hmf:∀ (fn:Fn) (first cap:Array Value) (w:World),(Instr.makeFunc fn first cap).run Tryz.prog w = .ok (.func fn first cap) w:=fun _ _ _ _=>rfl
 go_wp2_with (go_at_call 97;refine HA.out.mono ?_;rintro e w1 ⟨rfl,hB1⟩)
 go_ret
 exact ⟨rfl,below_in hBW (below_in hB1 (below_one _ _))⟩

theorem right_no {B:Nat} (p:Int) (v:Value) (css:List (List (List UInt8))) (w:World) (hL:Laid w) (hB:B≤w.heap.size) (hC:Cols B w v css) (hlen:css.length≤1000) (hcl:∀ j,j<css.length→(css[j]?.getD []).length≤1000) (hno:¬ RightD p css) :
 Calls Tryz.prog 77 #[.int .i64 p,v] w fun e w'=>e = .returned (.bool false)∧Below w.heap.size w w':=by
 obtain ⟨A,cap,rfl,_,_⟩:=id hC
 obtain ⟨W2,hW2⟩:∃ W2,(w.alloc (.cells #[.int .i64 p] 3)).alloc (.cells #[.slice A css.length cap] 22)=W2:=⟨_,rfl⟩
 have b0:Blk W2 w.heap.size 3 #[.int .i64 p]:=by rw [←hW2];exact (Blk.new w _ _).alloc _
 have b1:Blk W2 (w.heap.size+1) 22 #[.slice A css.length cap]:=by rw [←hW2];exact Blk.second w _ _ _
 have hBW:Below w.heap.size w W2:=by rw [←hW2];exact below_two w _ _
 have hL2:=hL.next hBW
 have HA:=Lib.hid (ans_K_no 98 #[.pointer (some ⟨w.heap.size,0,none⟩),.pointer (some ⟨w.heap.size+1,0,none⟩)] W2 (enter_right1 _) (fun U hU=>by
  have hLU:=hL2.next hU
  have hBU:=below_in hBW hU
  have hCU:=hC.below (hBU.mono hB)
  have c0:=(b0.below hU b0.lt).one
  have c1:=(b1.below hU b1.lt).one
  have hSS:=Lib.hid (fun (V:World) (hV:Below U.heap.size U V)=>(⟨(hV.cell (p:=⟨w.heap.size,0,none⟩) (b0.below hU b0.lt).lt).trans c0,(hV.cell (p:=⟨w.heap.size+1,0,none⟩) (b1.below hU b1.lt).lt).trans c1⟩:(fun V:World=>V.cell? ⟨w.heap.size,0,none⟩=some (.int .i64 p)∧V.cell? ⟨w.heap.size+1,0,none⟩=some (.slice A css.length cap)) V))
  have hBz:=below_one U (.cells #[.int .i64 0,.slice none 0 0] 135)
  by_cases hp:p∈prm
  · have hpp:=prm_bounds hp
    have hR:RightC 1 p:=⟨by omega,hp⟩
    have hr:p - 1=(((p - 1).toNat:Nat):Int):=by omega
    have HPP:=Lib.hid (fun (V:World) (hV:Below U.heap.size U V)=>primeOf_yes p hR V (hLU.next hV))
    have HT:=Lib.hid (fun (V:World) (hV:Below U.heap.size U V)=>together_no (B:=B) p _ hR hr (.slice A css.length cap) css V (hLU.next hV) (Nat.le_trans hB (Nat.le_trans hBU.size hV.size)) (hCU.below (hV.mono (Nat.le_trans hB hBU.size))) hlen hcl (fun h=>hno ⟨hp,h⟩))
    clear hC hCU hno b0 b1 hW2 hL hL2 hLU hlen hcl hr hR hpp hp
    generalize css.length=n at *
    refine (callsIn_wide (n:=9)).1 ?_
    refine callsIn_of_wp_marks Tryz.func98 rfl trivial ?_ rfl
    simp only [Tryz.ntmps98,List.size_toArray,List.length_cons,List.length_nil,Nat.reduceAdd,Nat.reduceSub,Array.replicate_succ,Array.replicate_zero,List.push_toArray,List.append_toArray,List.nil_append,List.cons_append]
    gi_wp2_with fail
    have hS:(fun V:World=>V.cell? ⟨w.heap.size,0,none⟩=some (.int .i64 p)∧V.cell? ⟨w.heap.size+1,0,none⟩=some (.slice A n cap)) (U.alloc (.cells #[.int .i64 0,.slice none 0 0] 135)).drew:=hSS.out _ hBz.drew
    refine wpIn_mono (region_HF (Q:=Gave U) (S:=(fun V:World=>V.cell? ⟨w.heap.size,0,none⟩=some (.int .i64 p)∧V.cell? ⟨w.heap.size+1,0,none⟩=some (.slice A n cap))) (by kernel_rfl) ?_) (fun e a w' h=>by obtain ⟨rfl,hd,hB⟩:=h;obtain ⟨tm,df⟩:=a;have hd':df = []:=hd;subst hd';exact ⟨rfl,hB⟩)
    refine anyHF_take (i:=0) (d:=3) (v:=.int .i64 p) (by kernel_rfl) rfl (by kernel_rfl) (by kernel_rfl) (by kernel_rfl) rfl (fun _ _ _ h=>⟨h.1,by simpa [Act.put] using h.2.1,h.2.2⟩) ⟨Or.inl ⟨by rfl,fun w hS=>by obtain ⟨h0,h1⟩:=hS;go_simp⟩,fun _=>rfl⟩ hS ?_
    simp only [ud9]
    refine anyHF_take (i:=2) (d:=5) (v:=.slice A n cap) (by kernel_rfl) rfl (by kernel_rfl) (by kernel_rfl) (by kernel_rfl) rfl (fun _ _ _ h=>⟨h.1,by simpa [Act.put] using h.2.1,h.2.2⟩) ⟨Or.inl ⟨by rfl,fun w hS=>by obtain ⟨h0,h1⟩:=hS;go_simp⟩,fun _=>rfl⟩ hS ?_
    simp only [ud9]
    refine oneF (i:=1) (c:=?_)
    gi_wp2_with fail
    refine ⟨trivial,(callsIn_wide.2 (HPP.out _ hBz.drew)).mono ?_⟩
    rintro e w1 ⟨rfl,hB1⟩
    replace hB1:=below_undrew hB1
    replace hBz:=below_in hBz hB1
    clear hS
    have hS:(fun V:World=>V.cell? ⟨w.heap.size,0,none⟩=some (.int .i64 p)∧V.cell? ⟨w.heap.size+1,0,none⟩=some (.slice A n cap)) w1:=hSS.out _ hBz
    gi_wp2
    try (refine ⟨hS,?_⟩)
    refine oneF (i:=3) (c:=?_)
    gi_wp2_with fail
    refine ⟨trivial,(callsIn_wide.2 (HT.out _ hBz)).mono ?_⟩
    rintro e w2 ⟨rfl,hB2⟩
    exact ⟨rfl,rfl,below_in hBz hB2⟩
  · have HPP:=Lib.hid (fun (V:World) (hV:Below U.heap.size U V)=>primeOf_no p (fun h=>hp h.2) V (hLU.next hV))
    clear hC hCU hno b0 b1 hW2 hL hL2 hLU hlen hcl hp
    generalize css.length=n at *
    refine (callsIn_wide (n:=9)).1 ?_
    refine callsIn_of_wp_marks Tryz.func98 rfl trivial ?_ rfl
    simp only [Tryz.ntmps98,List.size_toArray,List.length_cons,List.length_nil,Nat.reduceAdd,Nat.reduceSub,Array.replicate_succ,Array.replicate_zero,List.push_toArray,List.append_toArray,List.nil_append,List.cons_append]
    gi_wp2_with fail
    have hS:(fun V:World=>V.cell? ⟨w.heap.size,0,none⟩=some (.int .i64 p)∧V.cell? ⟨w.heap.size+1,0,none⟩=some (.slice A n cap)) (U.alloc (.cells #[.int .i64 0,.slice none 0 0] 135)).drew:=hSS.out _ hBz.drew
    refine wpIn_mono (region_HF (Q:=Gave U) (S:=(fun V:World=>V.cell? ⟨w.heap.size,0,none⟩=some (.int .i64 p)∧V.cell? ⟨w.heap.size+1,0,none⟩=some (.slice A n cap))) (by kernel_rfl) ?_) (fun e a w' h=>by obtain ⟨rfl,hd,hB⟩:=h;obtain ⟨tm,df⟩:=a;have hd':df = []:=hd;subst hd';exact ⟨rfl,hB⟩)
    refine anyHF_take (i:=0) (d:=3) (v:=.int .i64 p) (by kernel_rfl) rfl (by kernel_rfl) (by kernel_rfl) (by kernel_rfl) rfl (fun _ _ _ h=>⟨h.1,by simpa [Act.put] using h.2.1,h.2.2⟩) ⟨Or.inl ⟨by rfl,fun w hS=>by obtain ⟨h0,h1⟩:=hS;go_simp⟩,fun _=>rfl⟩ hS ?_
    simp only [ud9]
    refine anyHF_take (i:=2) (d:=5) (v:=.slice A n cap) (by kernel_rfl) rfl (by kernel_rfl) (by kernel_rfl) (by kernel_rfl) rfl (fun _ _ _ h=>⟨h.1,by simpa [Act.put] using h.2.1,h.2.2⟩) ⟨Or.inl ⟨by rfl,fun w hS=>by obtain ⟨h0,h1⟩:=hS;go_simp⟩,fun _=>rfl⟩ hS ?_
    simp only [ud9]
    refine oneF (i:=1) (c:=?_)
    gi_wp2_with fail
    refine ⟨trivial,(callsIn_wide.2 (HPP.out _ hBz.drew)).mono ?_⟩
    rintro e w1 ⟨rfl,hB1⟩
    exact ⟨rfl,rfl,below_in hBz (below_undrew hB1)⟩))
 clear hC b0 b1 hL2 hno hlen hcl
 generalize css.length=n at *
 go_enter Tryz.func77,Tryz.ntmps77
 have hmf:∀ (fn:Fn) (first cap:Array Value) (w:World),(Instr.makeFunc fn first cap).run Tryz.prog w = .ok (.func fn first cap) w:=fun _ _ _ _=>rfl
 go_wp2_with (go_at_call 97;refine HA.out.mono ?_;rintro e w1 ⟨rfl,hB1⟩)
 go_ret
 exact ⟨rfl,below_in hBW (below_in hB1 (below_one _ _))⟩
end Go.Proofs.YtkllhjhkcipkoaaGreatDoor.E

namespace Go.Proofs.YtkllhjhkcipkoaaGreatDoor.Tr
open Go.RowKit Go.Shelf Go.Proofs.YtkllhjhkcipkoaaGreatDoor.C Go.Proofs.YtkllhjhkcipkoaaGreatDoor.E

def gave (x:Int):List PanicEntry:=[{ v:=.iface 26 (.int .i64 x),recovered:=false }]
theorem assert_errnoX (x:Int) (w:World):(Instr.typeAssert (.iface 26 (.int .i64 x)) 20 26 false).run Tryz.prog w = .ok (.int .i64 x) w:=by kernel_rfl

theorem need_yes (y:Int) (w:World):Calls Tryz.prog 61 #[.bool true,.int .i64 y] w fun e w'=>e = .returned (.tuple #[])∧w=w':=by
 go_enter Tryz.func61,Tryz.ntmps61
 go_wp2
 go_end0
 exact ⟨rfl,rfl⟩
theorem need_no (y:Int) (w:World):Calls Tryz.prog 61 #[.bool false,.int .i64 y] w fun e w'=>e = .panicked (gave y)∧w=w':=by
 go_enter Tryz.func61,Tryz.ntmps61
 go_wp2
 exact ⟨rfl,rfl,rfl⟩
theorem sureC (v:Value) (w:World):Calls Tryz.prog 90 #[v,.int .i64 0] w fun e w'=>e = .returned v∧w=w':=by
 have hn:=need_yes 0 w
 go_enter Tryz.func90,Tryz.ntmps90
 go_wp2_with (go_at_call 61;refine (need_yes _ _).mono ?_;rintro e w2 ⟨rfl,rfl⟩)
 go_ret
 exact ⟨rfl,rfl⟩
theorem idle_S (p:Addr) (w:World) :
 CallsD Tryz.prog 54 #[.pointer (some p)] .returning w fun e u' w'=>e = .returned (.tuple #[])∧u' = .returning∧w'=w:=by
 have hta:=assert_errnoX
 refine callsD_of_wpS Tryz.func54 rfl fun c₀ cs hu=>?_
 simp only [Tryz.ntmps54,List.size_toArray,List.length_cons,List.length_nil,Nat.reduceAdd,Nat.reduceSub,Array.replicate_succ,Array.replicate_zero,List.push_toArray,List.append_toArray,List.nil_append,List.cons_append]
 apply wpS_seq
 apply wpS_region
 simp [wpOpsS,go_sem,recoverD,hu,Exit.thenS]
 all_goals (refine wpS_of_wp ?_;go_wp2;cases c₀;simp_all [bodyPostS,results,Tryz.results54])
theorem caught_S (p:Addr) (x y:Int) (w:World) (hc:w.cell? p=some (.int .i64 x)) (hz:w.frozen? p=false) :
 CallsD Tryz.prog 54 #[.pointer (some p)] (.panicking (gave y)) w fun e u' w' =>
  e = .returned (.tuple #[])∧u' = .panicking [{ v:=.iface 26 (.int .i64 y),recovered:=true }]∧w'=w.setCell p (.int .i64 y):=by
 have hta:=assert_errnoX
 refine callsD_of_wpS Tryz.func54 rfl fun c₀ cs hu=>?_
 simp only [Tryz.ntmps54,List.size_toArray,List.length_cons,List.length_nil,Nat.reduceAdd,Nat.reduceSub,Array.replicate_succ,Array.replicate_zero,List.push_toArray,List.append_toArray,List.nil_append,List.cons_append]
 apply wpS_seq
 apply wpS_region
 simp [wpOpsS,go_sem,recoverD,hu,Exit.thenS,gave]
 all_goals (refine wpS_of_wp ?_;go_wp2;simp [bodyPostS,results,Tryz.results54])
theorem ans_S_yes (f:Nat) (caps:Array Value) (w:World) (Post:Value→World→Prop) (hent:∀ W,(callFunc f caps).run Tryz.prog W = .ok (.enter f caps) W)
 (h:∀ W,Below w.heap.size w W→Blk W w.heap.size 26 #[.int .i64 0]→Calls Tryz.prog f caps W fun e w'=>∃ v,e = .returned v∧Post v w'∧Below W.heap.size W w') :
 Calls Tryz.prog 28 #[.func (.func f) #[] caps] w fun e w'=>∃ v W,e = .returned (.tuple #[v,.int .i64 0])∧Post v W∧Blk W w.heap.size 26 #[.int .i64 0]∧w'=W.setCell ⟨w.heap.size,0,none⟩ (.int .i64 0)∧Below w.heap.size w w':=by
 have hmf:∀ (fn:Fn) (first cap:Array Value) (w:World),(Instr.makeFunc fn first cap).run Tryz.prog w = .ok (.func fn first cap) w:=fun _ _ _ _=>rfl
 have h1:=h (w.alloc (.cells #[.int .i64 0] 26)) ((Below.refl _ w).alloc (Nat.le_refl _) _) (Blk.new w _ _)
 clear h
 go_enter_defers Tryz.func28,Tryz.ntmps28
 go_wp2
 refine h1.mono ?_
 rintro e w1 ⟨v,rfl,hv,hB1⟩
 have b1:Blk w1 w.heap.size 26 #[.int .i64 0]:=(Blk.new w _ _).below hB1 (by simp)
 have c1:=b1.cell 0
 have f1:=b1.frozen 0
 simp only [List.getElem?_toArray,List.getElem?_cons_zero] at c1
 go_wp2
 refine leaves_cons (f:=54) (args:=#[.pointer (some ⟨w.heap.size,0,none⟩)]) (by simp) (by simp [go_sem]) ?_
 refine (idle_S ⟨w.heap.size,0,none⟩ _).mono ?_
 rintro e u' w'' ⟨rfl,rfl,rfl⟩
 have c2:(w1.setCell ⟨w.heap.size,0,none⟩ (.int .i64 0)).cell? ⟨w.heap.size,0,none⟩=some (.int .i64 0):=World.cell?_setCell_same' _ _ _ (by rw [c1];rfl)
 simp [Go.Leaves,settle,results,Tryz.results28,go_sem,c2]
 exact ⟨w1,hv,b1,rfl,(((Below.refl _ w).alloc (Nat.le_refl _) _).trans (hB1.mono (by simp))).setCell (Nat.le_refl _) _⟩
theorem ans_S_no (y:Int) (f:Nat) (caps:Array Value) (w:World) (hent:∀ W,(callFunc f caps).run Tryz.prog W = .ok (.enter f caps) W)
 (h:∀ W,Below w.heap.size w W→w.heap.size<W.heap.size→Calls Tryz.prog f caps W fun e w'=>e = .panicked (gave y)∧Below W.heap.size W w') :
 Calls Tryz.prog 28 #[.func (.func f) #[] caps] w fun e w'=>e = .returned (.tuple #[.slice none 0 0,.int .i64 y])∧Below w.heap.size w w':=by
 have hmf:∀ (fn:Fn) (first cap:Array Value) (w:World),(Instr.makeFunc fn first cap).run Tryz.prog w = .ok (.func fn first cap) w:=fun _ _ _ _=>rfl
 have h1:=h (w.alloc (.cells #[.int .i64 0] 26)) ((Below.refl _ w).alloc (Nat.le_refl _) _) (by simp)
 clear h
 go_enter_defers Tryz.func28,Tryz.ntmps28
 go_wp2
 refine h1.mono ?_
 rintro e w1 ⟨rfl,hB1⟩
 have b1:Blk w1 w.heap.size 26 #[.int .i64 0]:=(Blk.new w _ _).below hB1 (by simp)
 have c1:=b1.cell 0
 have f1:=b1.frozen 0
 simp only [List.getElem?_toArray,List.getElem?_cons_zero] at c1
 refine leaves_cons (f:=54) (args:=#[.pointer (some ⟨w.heap.size,0,none⟩)]) (by simp) (by simp [go_sem]) ?_
 refine (caught_S ⟨w.heap.size,0,none⟩ 0 y _ c1 f1).mono ?_
 rintro e u' w'' ⟨rfl,rfl,rfl⟩
 have c2:(w1.setCell ⟨w.heap.size,0,none⟩ (.int .i64 y)).cell? ⟨w.heap.size,0,none⟩=some (.int .i64 y):=World.cell?_setCell_same' _ _ _ (by rw [c1];rfl)
 simp [Go.Leaves,settle,results,Tryz.results28,go_sem,c2]
 exact (((Below.refl _ w).alloc (Nat.le_refl _) _).trans (hB1.mono (by simp))).setCell (Nat.le_refl _) _

theorem idle_C (p:Addr) (w:World) :
 CallsD Tryz.prog 65 #[.pointer (some p)] .returning w fun e u' w'=>e = .returned (.tuple #[])∧u' = .returning∧w'=w:=by
 have hta:=assert_errnoX
 refine callsD_of_wpS Tryz.func65 rfl fun c₀ cs hu=>?_
 simp only [Tryz.ntmps65,List.size_toArray,List.length_cons,List.length_nil,Nat.reduceAdd,Nat.reduceSub,Array.replicate_succ,Array.replicate_zero,List.push_toArray,List.append_toArray,List.nil_append,List.cons_append]
 apply wpS_seq
 apply wpS_region
 simp [wpOpsS,go_sem,recoverD,hu,Exit.thenS]
 all_goals (refine wpS_of_wp ?_;go_wp2;cases c₀;simp_all [bodyPostS,results,Tryz.results65])
theorem caught_C (p:Addr) (x y:Int) (w:World) (hc:w.cell? p=some (.int .i64 x)) (hz:w.frozen? p=false) :
 CallsD Tryz.prog 65 #[.pointer (some p)] (.panicking (gave y)) w fun e u' w' =>
  e = .returned (.tuple #[])∧u' = .panicking [{ v:=.iface 26 (.int .i64 y),recovered:=true }]∧w'=w.setCell p (.int .i64 y):=by
 have hta:=assert_errnoX
 refine callsD_of_wpS Tryz.func65 rfl fun c₀ cs hu=>?_
 simp only [Tryz.ntmps65,List.size_toArray,List.length_cons,List.length_nil,Nat.reduceAdd,Nat.reduceSub,Array.replicate_succ,Array.replicate_zero,List.push_toArray,List.append_toArray,List.nil_append,List.cons_append]
 apply wpS_seq
 apply wpS_region
 simp [wpOpsS,go_sem,recoverD,hu,Exit.thenS,gave]
 all_goals (refine wpS_of_wp ?_;go_wp2;simp [bodyPostS,results,Tryz.results65])
theorem ans_C_yes (f:Nat) (caps:Array Value) (w:World) (Post:Value→World→Prop) (hent:∀ W,(callFunc f caps).run Tryz.prog W = .ok (.enter f caps) W)
 (h:∀ W,Below w.heap.size w W→Blk W w.heap.size 26 #[.int .i64 0]→Calls Tryz.prog f caps W fun e w'=>∃ v,e = .returned v∧Post v w'∧Below W.heap.size W w') :
 Calls Tryz.prog 41 #[.func (.func f) #[] caps] w fun e w'=>∃ v W,e = .returned (.tuple #[v,.int .i64 0])∧Post v W∧Blk W w.heap.size 26 #[.int .i64 0]∧w'=W.setCell ⟨w.heap.size,0,none⟩ (.int .i64 0)∧Below w.heap.size w w':=by
 have hmf:∀ (fn:Fn) (first cap:Array Value) (w:World),(Instr.makeFunc fn first cap).run Tryz.prog w = .ok (.func fn first cap) w:=fun _ _ _ _=>rfl
 have h1:=h (w.alloc (.cells #[.int .i64 0] 26)) ((Below.refl _ w).alloc (Nat.le_refl _) _) (Blk.new w _ _)
 clear h
 go_enter_defers Tryz.func41,Tryz.ntmps41
 go_wp2
 refine h1.mono ?_
 rintro e w1 ⟨v,rfl,hv,hB1⟩
 have b1:Blk w1 w.heap.size 26 #[.int .i64 0]:=(Blk.new w _ _).below hB1 (by simp)
 have c1:=b1.cell 0
 have f1:=b1.frozen 0
 simp only [List.getElem?_toArray,List.getElem?_cons_zero] at c1
 go_wp2
 refine leaves_cons (f:=65) (args:=#[.pointer (some ⟨w.heap.size,0,none⟩)]) (by simp) (by simp [go_sem]) ?_
 refine (idle_C ⟨w.heap.size,0,none⟩ _).mono ?_
 rintro e u' w'' ⟨rfl,rfl,rfl⟩
 have c2:(w1.setCell ⟨w.heap.size,0,none⟩ (.int .i64 0)).cell? ⟨w.heap.size,0,none⟩=some (.int .i64 0):=World.cell?_setCell_same' _ _ _ (by rw [c1];rfl)
 simp [Go.Leaves,settle,results,Tryz.results41,go_sem,c2]
 exact ⟨w1,hv,b1,rfl,(((Below.refl _ w).alloc (Nat.le_refl _) _).trans (hB1.mono (by simp))).setCell (Nat.le_refl _) _⟩
theorem ans_C_no (y:Int) (f:Nat) (caps:Array Value) (w:World) (hent:∀ W,(callFunc f caps).run Tryz.prog W = .ok (.enter f caps) W)
 (h:∀ W,Below w.heap.size w W→w.heap.size<W.heap.size→Calls Tryz.prog f caps W fun e w'=>e = .panicked (gave y)∧Below W.heap.size W w') :
 Calls Tryz.prog 41 #[.func (.func f) #[] caps] w fun e w'=>e = .returned (.tuple #[.slice none 0 0,.int .i64 y])∧Below w.heap.size w w':=by
 have hmf:∀ (fn:Fn) (first cap:Array Value) (w:World),(Instr.makeFunc fn first cap).run Tryz.prog w = .ok (.func fn first cap) w:=fun _ _ _ _=>rfl
 have h1:=h (w.alloc (.cells #[.int .i64 0] 26)) ((Below.refl _ w).alloc (Nat.le_refl _) _) (by simp)
 clear h
 go_enter_defers Tryz.func41,Tryz.ntmps41
 go_wp2
 refine h1.mono ?_
 rintro e w1 ⟨rfl,hB1⟩
 have b1:Blk w1 w.heap.size 26 #[.int .i64 0]:=(Blk.new w _ _).below hB1 (by simp)
 have c1:=b1.cell 0
 have f1:=b1.frozen 0
 simp only [List.getElem?_toArray,List.getElem?_cons_zero] at c1
 refine leaves_cons (f:=65) (args:=#[.pointer (some ⟨w.heap.size,0,none⟩)]) (by simp) (by simp [go_sem]) ?_
 refine (caught_C ⟨w.heap.size,0,none⟩ 0 y _ c1 f1).mono ?_
 rintro e u' w'' ⟨rfl,rfl,rfl⟩
 have c2:(w1.setCell ⟨w.heap.size,0,none⟩ (.int .i64 y)).cell? ⟨w.heap.size,0,none⟩=some (.int .i64 y):=World.cell?_setCell_same' _ _ _ (by rw [c1];rfl)
 simp [Go.Leaves,settle,results,Tryz.results41,go_sem,c2]
 exact (((Below.refl _ w).alloc (Nat.le_refl _) _).trans (hB1.mono (by simp))).setCell (Nat.le_refl _) _

theorem sureL (x0:Int) (x1:Option Addr) (x2 x3:Nat) (x4:Option Addr) (x5 x6:Nat) (x7:Option Addr) (x8 x9:Nat) (w:World):Calls Tryz.prog 74 #[.agg #[.int .i64 x0,.slice x1 x2 x3,.slice x4 x5 x6,.slice x7 x8 x9],.int .i64 0] w fun e w'=>e = .returned (.agg #[.int .i64 x0,.slice x1 x2 x3,.slice x4 x5 x6,.slice x7 x8 x9])∧Below w.heap.size w w':=by
 have b0:=(Blk.new w 67 #[.int .i64 x0,.slice x1 x2 x3,.slice x4 x5 x6,.slice x7 x8 x9]).alloc (.cells #[.int .i64 0,.slice none 0 0,.slice none 0 0,.slice none 0 0] 67)
 have b1:=Blk.second w (.cells #[.int .i64 x0,.slice x1 x2 x3,.slice x4 x5 x6,.slice x7 x8 x9] 67) 67 #[.int .i64 0,.slice none 0 0,.slice none 0 0,.slice none 0 0]
 have hB:=below_two w (.cells #[.int .i64 x0,.slice x1 x2 x3,.slice x4 x5 x6,.slice x7 x8 x9] 67) (.cells #[.int .i64 0,.slice none 0 0,.slice none 0 0,.slice none 0 0] 67)
 obtain ⟨W,hW⟩:∃ x,(w.alloc (.cells #[.int .i64 x0,.slice x1 x2 x3,.slice x4 x5 x6,.slice x7 x8 x9] 67)).alloc (.cells #[.int .i64 0,.slice none 0 0,.slice none 0 0,.slice none 0 0] 67)=x:=⟨_,rfl⟩
 rw [hW] at b0 b1 hB
 have HB:=Lib.hid (And.intro b0 (And.intro b1 hB))
 clear b0 b1 hB
 go_enter Tryz.func74,Tryz.ntmps74
 go_wp2_with (go_at_call 61;refine (need_yes _ _).mono ?_;rintro e w2 ⟨rfl,rfl⟩;(try rw [hW]);obtain ⟨b0,b1,hB⟩:=HB.out;have c0:=b0.cell 0;have c1:=b0.cell 1;have c2:=b0.cell 2;have c3:=b0.cell 3;have d0:=b1.cell 0;have d1:=b1.cell 1;have d2:=b1.cell 2;have d3:=b1.cell 3;have f0:=b1.frozen 0;have f1:=b1.frozen 1;have f2:=b1.frozen 2;have f3:=b1.frozen 3;simp only [gz9] at c0 c1 c2 c3 d0 d1 d2 d3)
 have q:=((((b1.set_ 0 (.int .i64 x0)).set_ 1 (.slice x1 x2 x3)).set_ 2 (.slice x4 x5 x6)).set_ 3 (.slice x7 x8 x9))
 have r0:=q.cell 0
 have r1:=q.cell 1
 have r2:=q.cell 2
 have r3:=q.cell 3
 simp only [List.setIfInBounds_toArray,List.set_cons_zero,List.set_cons_succ,List.getElem?_toArray,List.getElem?_cons_zero,List.getElem?_cons_succ] at r0 r1 r2 r3
 exact bodyPost_ret (v:=.agg #[.int .i64 x0,.slice x1 x2 x3,.slice x4 x5 x6,.slice x7 x8 x9]) (by simp [results,Tryz.results74,go_sem,r0,r1,r2,r3]) rfl ⟨rfl,(((hB.setCell (p:=⟨w.heap.size+1,0,none⟩) (by show w.heap.size≤w.heap.size+1;omega) _).setCell (p:=⟨w.heap.size+1,1,none⟩) (by show w.heap.size≤w.heap.size+1;omega) _).setCell (p:=⟨w.heap.size+1,2,none⟩) (by show w.heap.size≤w.heap.size+1;omega) _).setCell (p:=⟨w.heap.size+1,3,none⟩) (by show w.heap.size≤w.heap.size+1;omega) _⟩
theorem sureL_no (y:Int) (hy:¬ y=0) (x0:Int) (x1:Option Addr) (x2 x3:Nat) (x4:Option Addr) (x5 x6:Nat) (x7:Option Addr) (x8 x9:Nat) (w:World):Calls Tryz.prog 74 #[.agg #[.int .i64 x0,.slice x1 x2 x3,.slice x4 x5 x6,.slice x7 x8 x9],.int .i64 y] w fun e w'=>e = .panicked (gave y)∧Below w.heap.size w w':=by
 have hB:=below_two w (.cells #[.int .i64 x0,.slice x1 x2 x3,.slice x4 x5 x6,.slice x7 x8 x9] 67) (.cells #[.int .i64 0,.slice none 0 0,.slice none 0 0,.slice none 0 0] 67)
 have hy2:(y == 0)=false:=by simpa using hy
 clear hy
 go_enter Tryz.func74,Tryz.ntmps74
 go_wp2_with (go_at_call 61;refine (need_no _ _).mono ?_;rintro e w2 ⟨rfl,rfl⟩)
 exact ⟨rfl,rfl,hB⟩
def fnK (k:Int):Nat:=if k=0 then 87 else if k=1 then 88 else 89
theorem enter_by (k:Int):∀ args W,(callFunc (fnK k) args).run Tryz.prog W = .ok (.enter (fnK k) args) W:=by
 unfold fnK
 split
 · exact enters_of Tryz.func87 (by kernel_rfl) rfl
 · split
   · exact enters_of Tryz.func88 (by kernel_rfl) rfl
   · exact enters_of Tryz.func89 (by kernel_rfl) rfl
theorem by_any (k:Int) (hk:k=0∨k=1∨k = -1) (x:Int) (h1:-1000≤x) (h2:x≤1000) (w:World):Calls Tryz.prog (fnK k) #[.int .i64 x] w fun e w'=>e = .returned (.int .i64 (k * x))∧w=w':=by
 rcases hk with rfl | rfl | rfl
 · rw [Int.zero_mul]
   show Calls Tryz.prog 87 _ _ _
   go_enter Tryz.func87,Tryz.ntmps87
   go_wp2
   go_ret
   exact ⟨rfl,rfl⟩
 · rw [Int.one_mul]
   show Calls Tryz.prog 88 _ _ _
   go_enter Tryz.func88,Tryz.ntmps88
   go_wp2
   go_ret
   exact ⟨rfl,rfl⟩
 · rw [show (-1:Int) * x = -x by omega]
   show Calls Tryz.prog 89 _ _ _
   have hw:IntKind.i64.wrap (-x) = -x:=IntWalk.i64_in _ (by omega)
   go_enter Tryz.func89,Tryz.ntmps89
   go_wp2
   go_ret
   exact ⟨rfl,rfl⟩
def byK (k:Int):Value:=.func (.func (fnK k)) #[] #[]
theorem turns_any (w:World):Calls Tryz.prog 68 #[] w fun e w'=>e = .returned (.agg #[.nilFunc,.nilFunc,byK 0,byK 1,byK (-1)])∧Below w.heap.size w w':=by
 have b0:=Blk.new w 108 #[.nilFunc,.nilFunc,.nilFunc,.nilFunc,.nilFunc]
 have hB:=below_one w (.cells #[.nilFunc,.nilFunc,.nilFunc,.nilFunc,.nilFunc] 108)
 have c0:=b0.cell 0
 have f0:=b0.frozen 0
 have c1:=b0.cell 1
 have f1:=b0.frozen 1
 have c2:=b0.cell 2
 have f2:=b0.frozen 2
 have c3:=b0.cell 3
 have f3:=b0.frozen 3
 have c4:=b0.cell 4
 have f4:=b0.frozen 4
 simp only [gz9] at c0 c1 c2 c3 c4
 go_enter Tryz.func68,Tryz.ntmps68
 go_wp2
 have q:=Blk.new w 108 #[.nilFunc,.nilFunc,.func (.func 87) #[] #[],.func (.func 88) #[] #[],.func (.func 89) #[] #[]]
 have r0:=q.cell 0
 have r1:=q.cell 1
 have r2:=q.cell 2
 have r3:=q.cell 3
 have r4:=q.cell 4
 simp only [gz9] at r0 r1 r2 r3 r4
 exact bodyPost_ret (v:=.agg #[.nilFunc,.nilFunc,.func (.func 87) #[] #[],.func (.func 88) #[] #[],.func (.func 89) #[] #[]]) (by simp [results,Tryz.results68,go_sem,r0,r1,r2,r3,r4]) rfl ⟨rfl,below_one w _⟩
end Go.Proofs.YtkllhjhkcipkoaaGreatDoor.Tr

namespace Go.Proofs.YtkllhjhkcipkoaaGreatDoor.E
open Go.RowKit Go.Shelf Go.Proofs.YtkllhjhkcipkoaaGreatDoor.C

def rowOf (css:List (List (List UInt8))) (r:Nat):List (List UInt8):=css.map fun cs=>cs[r]?.getD []
theorem rowOf_len (css:List (List (List UInt8))) (r:Nat):(rowOf css r).length=css.length:=by unfold rowOf;simp
end Go.Proofs.YtkllhjhkcipkoaaGreatDoor.E

namespace Go.Proofs.YtkllhjhkcipkoaaGreatDoor.E
open Go.RowKit Go.Shelf Go.Proofs.YtkllhjhkcipkoaaGreatDoor.C

def Vals (B:Nat) (W:World) (v:Value) (us:List Value):Prop :=
 (v = .slice none 0 0∧us = [])∨∃ b off cap,v = .slice (some ⟨b,off,none⟩) us.length cap∧us.length≤cap∧b<B∧∀ (j:Nat) (u:Value),us[j]?=some u→W.cell? ⟨b,off+j,none⟩=some u
theorem Vals.below {B:Nat} {W W':World} {v:Value} {us:List Value} (h:Vals B W v us) (hb:Below B W W'):Vals B W' v us :=
 h.imp id fun ⟨b,off,cap,e,hc,hlt,hcell⟩=>⟨b,off,cap,e,hc,hlt,fun j u hu=>(hb.cell (p:=⟨b,off+j,none⟩) hlt).trans (hcell j u hu)⟩
theorem Vals.len {B:Nat} {W:World} {v:Value} {us:List Value} (h:Vals B W v us):∃ A cap,v = .slice A us.length cap:=by
 rcases h with ⟨rfl,rfl⟩ | ⟨b,off,cap,e,_⟩
 · exact ⟨none,0,rfl⟩
 · exact ⟨_,cap,e⟩
def OwnS (w:World) (base:Nat) (v:Value) (us:List Value):Prop:=w.ownsRow base 60 1 v us.length us
end Go.Proofs.YtkllhjhkcipkoaaGreatDoor.E

namespace Go.Proofs.YtkllhjhkcipkoaaGreatDoor.E
open Go.RowKit Go.Shelf Go.Proofs.YtkllhjhkcipkoaaGreatDoor.C

def ManyV (B:Nat) (W:World) (v:Value) (us:List Value) (ls:List (List UInt8)):Prop:=us.length=ls.length∧Vals B W v us∧∀ (j:Nat) (u:Value),us[j]?=some u→Bytes B W u (ls[j]?.getD [])
theorem ManyV.below {B:Nat} {W W':World} {v:Value} {us:List Value} {ls:List (List UInt8)} (h:ManyV B W v us ls) (hb:Below B W W'):ManyV B W' v us ls:=⟨h.1,h.2.1.below hb,fun j u hu=>(h.2.2 j u hu).below hb⟩
theorem ManyV.one {B:Nat} {W:World} {v:Value} {us:List Value} {ls:List (List UInt8)} (h:ManyV B W v us ls):∀ u∈us,u.oneCell'=true:=fun u hu=>by
 obtain ⟨j,hj⟩:=List.getElem?_of_mem hu
 obtain ⟨A,cap,rfl,_⟩:=h.2.2 j u hj
 rfl
theorem OwnS.many {B base:Nat} {W:World} {v:Value} {us:List Value} {ls:List (List UInt8)} (h:OwnS W base v us) (hn:us.length=ls.length) (h0:0<us.length) (hb:∀ (j:Nat) (u:Value),us[j]?=some u→Bytes B W u (ls[j]?.getD [])) (hB:B≤W.heap.size):Many W.heap.size W v ls:=by
 have hcp:∀ g cap,v = .slice (some ⟨g,0,none⟩) us.length cap→us.length≤cap:=fun g cap e=>by
  rcases h.2 with ⟨_,h1⟩ | ⟨g2,cap2,cur,e2,_,_,hnc,_⟩
  · omega
  · rw [e] at e2
    injection e2 with _ _ e3
    omega
 obtain ⟨g,cap,e,hg,hg1⟩:=World.ownsRow.form h h0
 have hcap:=hcp g cap e
 subst e
 refine ⟨_,cap,by rw [hn],by rw [←hn];exact hcap,fun _=>⟨g,0,rfl,by omega,fun j hj=>?_⟩⟩
 have hj2:j<us.length:=by omega
 refine ⟨us[j],?_,(hb j us[j] (List.getElem?_eq_getElem hj2)).more hB⟩
 rw [Nat.zero_add,World.ownsRow.cellAt h j (by omega),List.getElem?_eq_getElem hj2]

end Go.Proofs.YtkllhjhkcipkoaaGreatDoor.E

namespace Go.Proofs.YtkllhjhkcipkoaaGreatDoor.E
open Go.RowKit Go.Shelf Go.Proofs.YtkllhjhkcipkoaaGreatDoor.C

theorem Vals.more {B B':Nat} {W:World} {v:Value} {us:List Value} (h:Vals B W v us) (hB:B≤B'):Vals B' W v us :=
 h.imp id fun ⟨b,off,cap,e,hc,hlt,hcell⟩=>⟨b,off,cap,e,hc,Nat.lt_of_lt_of_le hlt hB,hcell⟩
theorem ManyV.more {B B':Nat} {W:World} {v:Value} {us:List Value} {ls:List (List UInt8)} (h:ManyV B W v us ls) (hB:B≤B'):ManyV B' W v us ls:=⟨h.1,h.2.1.more hB,fun j u hu=>(h.2.2 j u hu).more hB⟩
end Go.Proofs.YtkllhjhkcipkoaaGreatDoor.E

namespace Go.Proofs.YtkllhjhkcipkoaaGreatDoor.E
open Go.RowKit Go.Shelf Go.Proofs.YtkllhjhkcipkoaaGreatDoor.C

def diagAt (p a:Int) (k:Nat):List (Nat×Nat):=((List.range k).filter fun (i:Nat)=>decide ((a - (i:Int)) % p<p - 1)).map fun (i:Nat)=>(i,((a - (i:Int)) % p).toNat)
def diagOf (p a:Int) (css:List (List (List UInt8))):List (List UInt8):=(diagAt p a p.toNat).map fun x=>(css[x.1]?.getD [])[x.2]?.getD []
end Go.Proofs.YtkllhjhkcipkoaaGreatDoor.E

namespace Go.Proofs.YtkllhjhkcipkoaaGreatDoor.E
open Go.RowKit Go.Shelf Go.Proofs.YtkllhjhkcipkoaaGreatDoor.C

def GridV (B:Nat) (W:World) (v:Value) (n R:Nat) (f:Nat→Nat→Value):Prop :=
 ∃ b off cap,v = .slice (some ⟨b,off,none⟩) n cap∧b<B∧n≤cap∧∀ c,c<n→∃ b2 off2 cap2,W.cell? ⟨b,off+c,none⟩=some (.slice (some ⟨b2,off2,none⟩) R cap2)∧R≤cap2∧b2<B∧∀ r,r<R→W.cell? ⟨b2,off2+r,none⟩=some (f c r)
theorem GridV.keep_ {B:Nat} {W W':World} {v:Value} {n R:Nat} {f:Nat→Nat→Value} (h:GridV B W v n R f) (hk:∀ p:Addr,p.block<B→W'.cell? p=W.cell? p):GridV B W' v n R f:=by
 obtain ⟨b,off,cap,e,hb,hc,hA⟩:=h
 refine ⟨b,off,cap,e,hb,hc,fun c hc=>?_⟩
 obtain ⟨b2,off2,cap2,h1,h2,h3,h4⟩:=hA c hc
 exact ⟨b2,off2,cap2,(hk _ hb).trans h1,h2,h3,fun r hr=>(hk _ h3).trans (h4 r hr)⟩
theorem GridV.below {B:Nat} {W W':World} {v:Value} {n R:Nat} {f:Nat→Nat→Value} (h:GridV B W v n R f) (hb:Below B W W'):GridV B W' v n R f:=h.keep_ fun _ hp=>hb.cell hp
theorem Cols.grid {B:Nat} {W:World} {v:Value} {css:List (List (List UInt8))} {R:Nat} (h:Cols B W v css) (h0:0<css.length) (hR:0<R) (hrow:∀ j,j<css.length→(css[j]?.getD []).length=R) :
 ∃ f,GridV B W v css.length R f∧∀ c r,c<css.length→r<R→Bytes B W (f c r) ((css[c]?.getD [])[r]?.getD []):=by
 obtain ⟨b,off,cap,rfl,hc,hb,hA⟩:=h.at_ h0
 have hall:∀ c:Nat,∃ g:Nat→Value,c<css.length→(∃ b2 off2 cap2,W.cell? ⟨b,off+c,none⟩=some (.slice (some ⟨b2,off2,none⟩) R cap2)∧R≤cap2∧b2<B∧∀ r,r<R→W.cell? ⟨b2,off2+r,none⟩=some (g r))∧∀ r,r<R→Bytes B W (g r) ((css[c]?.getD [])[r]?.getD []):=by
  intro c
  by_cases hcl:c<css.length
  · obtain ⟨u,hu,A,cap2,rfl,hc2,hA2⟩:=hA c hcl
    rw [hrow c hcl] at hu hc2 hA2
    obtain ⟨b2,off2,rfl,hb2,hr2⟩:=hA2 hR
    refine ⟨fun r=>(W.cell? ⟨b2,off2+r,none⟩).getD undef,fun _=>⟨⟨b2,off2,cap2,hu,hc2,hb2,fun r hr=>?_⟩,fun r hr=>?_⟩⟩
    · obtain ⟨x,hx,_⟩:=hr2 r hr
      show _=some ((W.cell? ⟨b2,off2+r,none⟩).getD undef)
      rw [hx];rfl
    · obtain ⟨x,hx,hy⟩:=hr2 r hr
      show Bytes B W ((W.cell? ⟨b2,off2+r,none⟩).getD undef) _
      rw [hx];exact hy
  · exact ⟨fun _=>undef,fun h=>absurd h hcl⟩
 obtain ⟨f,hf⟩:=Classical.axiomOfChoice hall
 exact ⟨f,⟨b,off,cap,rfl,hb,hc,fun c hcl=>(hf c hcl).1⟩,fun c r hcl hr=>(hf c hcl).2 r hr⟩
end Go.Proofs.YtkllhjhkcipkoaaGreatDoor.E
