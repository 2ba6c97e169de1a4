/- -/
import Derived.Test.YtknkdbincaonbaaGreatDoorCCG1
import Derived.Test.YtknkdbincaonbaaGreatDoorCCG5
import Derived.Test.YtknkdbincaonbaaGreatDoorCCG2
import Derived.BigFrame
import Derived.Test.YtknkdbincaonbaaGreatDoorCCG4
import Derived.Test.YtknkdbincaonbaaGreatDoorCCCA
import Derived.Test.YtknkdbincaonbaaGreatDoorCCSA
set_option linter.unusedVariables false
set_option linter.unusedSimpArgs false
set_option maxRecDepth 100000
set_option maxHeartbeats 1000000
namespace Go.Proofs.YtknkdbincaonbaaGreatDoor.E
open Go.RowKit Go.Shelf Go.Proofs.YtknkdbincaonbaaGreatDoor.C

theorem enter_encode1:∀ args W,(callFunc 188 args).run Tryz.prog W = .ok (.enter 188 args) W:=enters_of Tryz.func188 (by kernel_rfl) rfl
theorem encode_yes {B:Nat} (p:Int) (v:Value) (css:List (List (List UInt8))) (hok:DataOk p css) (w:World) (hL:Laid w) (hB:B≤w.heap.size) (hC:Cols B w v css) :
 Calls Tryz.prog 160 #[.int .i64 p,v] w fun e w'=>∃ u,e = .returned (.tuple #[u,.int .i64 0])∧Cols w'.heap.size w' u (encOf p css)∧Below w.heap.size w w':=by
 have hdn:=dataOk_n hok
 obtain ⟨A,cap,rfl,_,_⟩:=id hC
 obtain ⟨W2,hW2⟩:∃ W2,(w.alloc (.cells #[.int .i64 p] 3)).alloc (.cells #[.slice A css.length cap] 25)=W2:=⟨_,rfl⟩
 have b0:Blk W2 w.heap.size 3 #[.int .i64 p]:=by rw [←hW2];exact (Blk.new w _ _).alloc _
 have b1:Blk W2 (w.heap.size+1) 25 #[.slice A css.length cap]:=by rw [←hW2];exact Blk.second w _ _ _
 have hBW:Below w.heap.size w W2:=by rw [←hW2];exact below_two w _ _
 have hL2:=hL.next hBW
 have HA:=Lib.hid (ans_S_yes 188 #[.pointer (some ⟨w.heap.size,0,none⟩),.pointer (some ⟨w.heap.size+1,0,none⟩)] W2 (fun u W=>Cols W.heap.size W u (encOf p css)) (enter_encode1 _) (fun U hU _=>by
  have hLU:=hL2.next hU
  have hBU:=below_in hBW hU
  have hCU:=hC.below (hBU.mono hB)
  have HQ:=Lib.hid (asked_yes (B:=B) p (.slice A css.length cap) css U hLU (Nat.le_trans hB hBU.size) hCU (by omega) hok)
  have HE:=Lib.hid (fun (V:World) (hV:Below U.heap.size U V)=>encoded_any (B:=B) p (.slice A css.length cap) css hok V (hLU.next hV) (Nat.le_trans hB (Nat.le_trans hBU.size hV.size)) (hCU.below (hV.mono (Nat.le_trans hB hBU.size))))
  have c0:=(b0.below hU b0.lt).one
  have c1:=(b1.below hU b1.lt).one
  clear hC hCU hok hdn b0 b1 hW2 hL hL2 hLU
  generalize css.length=n at *
  go_enter Tryz.func188,Tryz.ntmps188
  go_wp2_with (first
   | (go_at_call 189;refine HQ.out.mono ?_;rintro e w1 ⟨rfl,hB1⟩)
   | (go_at_call 191;refine (HE.out _ hB1).mono ?_;rintro e w2 ⟨u,rfl,hu,hB2⟩))
  go_ret
  exact ⟨_,rfl,hu,below_in hB1 hB2⟩))
 clear hC b0 b1 hL2 hok hdn
 generalize css.length=n at *
 go_enter Tryz.func160,Tryz.ntmps160
 have hmf:∀ (fn:Fn) (first cap:Array Value) (w:World),(Instr.makeFunc fn first cap).run Tryz.prog w = .ok (.func fn first cap) w:=fun _ _ _ _=>rfl
 go_wp2_with (go_at_call 187;refine HA.out.mono ?_;rintro e w1 ⟨u,W,rfl,hu,bE,rfl,hB1⟩)
 go_ret2
 exact ⟨u,rfl,Cols.more (Cols.set_int hu bE _) (by simp),below_in hBW hB1⟩
end Go.Proofs.YtknkdbincaonbaaGreatDoor.E

namespace Go.Proofs.YtknkdbincaonbaaGreatDoor.Cd
open Go.RowKit Go.Shelf Go.Proofs.YtknkdbincaonbaaGreatDoor.C Go.Proofs.YtknkdbincaonbaaGreatDoor.E

def gave (x:Int):List PanicEntry:=[{ v:=.iface 29 (.int .i64 x),recovered:=false }]
theorem assert_errnoX (x:Int) (w:World):(Instr.typeAssert (.iface 29 (.int .i64 x)) 20 29 false).run Tryz.prog w = .ok (.int .i64 x) w:=by kernel_rfl

theorem need_yes (w:World):Calls Tryz.prog 72 #[.bool true] w fun e w'=>e = .returned (.tuple #[])∧w=w':=by
 go_enter Tryz.func72,Tryz.ntmps72
 go_wp2
 go_end0
 exact ⟨rfl,rfl⟩
theorem need_no (w:World):Calls Tryz.prog 72 #[.bool false] w fun e w'=>e = .panicked (gave 2)∧w=w':=by
 go_enter Tryz.func72,Tryz.ntmps72
 go_wp2
 exact ⟨rfl,rfl,rfl⟩
theorem sureB (v:Value) (w:World):Calls Tryz.prog 85 #[v,.int .i64 0] w fun e w'=>e = .returned v∧w=w':=by
 go_enter Tryz.func85,Tryz.ntmps85
 go_wp2
 go_ret
 exact ⟨rfl,rfl⟩
theorem sureM (v:Value) (w:World):Calls Tryz.prog 113 #[v,.int .i64 0] w fun e w'=>e = .returned v∧w=w':=by
 go_enter Tryz.func113,Tryz.ntmps113
 go_wp2
 go_ret
 exact ⟨rfl,rfl⟩
theorem sureS (v:Value) (w:World):Calls Tryz.prog 122 #[v,.int .i64 0] w fun e w'=>e = .returned v∧w=w':=by
 go_enter Tryz.func122,Tryz.ntmps122
 go_wp2
 go_ret
 exact ⟨rfl,rfl⟩
theorem sureA (v:Value) (w:World):Calls Tryz.prog 100 #[v,.int .i64 0] w fun e w'=>e = .returned v∧w=w':=by
 go_enter Tryz.func100,Tryz.ntmps100
 go_wp2
 go_ret
 exact ⟨rfl,rfl⟩
theorem sureA_no (v:Value) (w:World):Calls Tryz.prog 100 #[v,.int .i64 4] w fun e w'=>e = .panicked (gave 4)∧w=w':=by
 go_enter Tryz.func100,Tryz.ntmps100
 go_wp2
 exact ⟨rfl,rfl,rfl⟩
theorem sureI (n:Int) (w:World):Calls Tryz.prog 73 #[.int .i64 n,.int .i64 0] w fun e w'=>e = .returned (.int .i64 n)∧w=w':=by
 go_enter Tryz.func73,Tryz.ntmps73
 go_wp2
 go_ret
 exact ⟨rfl,rfl⟩
theorem sureI_no (n:Int) (w:World):Calls Tryz.prog 73 #[.int .i64 n,.int .i64 2] w fun e w'=>e = .panicked (gave 2)∧w=w':=by
 go_enter Tryz.func73,Tryz.ntmps73
 go_wp2
 exact ⟨rfl,rfl,rfl⟩
theorem sureP (x y:Int) (w:World):Calls Tryz.prog 83 #[.agg #[.int .i64 x,.int .i64 y],.int .i64 0] w fun e w'=>e = .returned (.agg #[.int .i64 x,.int .i64 y])∧Below w.heap.size w w':=by
 have bz:=Blk.second w (.cells #[.int .i64 x,.int .i64 y] 53) 53 #[.int .i64 x,.int .i64 y]
 have r0:=bz.cell 0
 have r1:=bz.cell 1
 simp only [gz9] at r0 r1
 go_enter Tryz.func83,Tryz.ntmps83
 go_wp2
 exact bodyPost_ret (v:=.agg #[.int .i64 x,.int .i64 y]) (by simp [results,Tryz.results83,go_sem,r0,r1]) rfl ⟨rfl,below_two w _ _⟩

theorem idle_S (p:Addr) (w:World) :
 CallsD Tryz.prog 71 #[.pointer (some p)] .returning w fun e u' w'=>e = .returned (.tuple #[])∧u' = .returning∧w'=w:=by
 have hta:=assert_errnoX
 refine callsD_of_wpS Tryz.func71 rfl fun c₀ cs hu=>?_
 simp only [Tryz.ntmps71,List.size_toArray,List.length_cons,List.length_nil,Nat.reduceAdd,Nat.reduceSub,Array.replicate_succ,Array.replicate_zero,List.push_toArray,List.append_toArray,List.nil_append,List.cons_append]
 apply wpS_seq
 apply wpS_region
 simp [wpOpsS,go_sem,recoverD,hu,Exit.thenS]
 all_goals (refine wpS_of_wp ?_;go_wp2;cases c₀;simp_all [bodyPostS,results,Tryz.results71])
theorem ans_S_yes (f:Nat) (caps:Array Value) (w:World) (Post:Value→World→Prop) (hent:∀ W,(callFunc f caps).run Tryz.prog W = .ok (.enter f caps) W)
 (h:∀ W,Below w.heap.size w W→Blk W w.heap.size 29 #[.int .i64 0]→Calls Tryz.prog f caps W fun e w'=>∃ v,e = .returned v∧Post v w'∧Below W.heap.size W w') :
 Calls Tryz.prog 36 #[.func (.func f) #[] caps] w fun e w'=>∃ v W,e = .returned (.tuple #[v,.int .i64 0])∧Post v W∧Blk W w.heap.size 29 #[.int .i64 0]∧w'=W.setCell ⟨w.heap.size,0,none⟩ (.int .i64 0)∧Below w.heap.size w w':=by
 have hmf:∀ (fn:Fn) (first cap:Array Value) (w:World),(Instr.makeFunc fn first cap).run Tryz.prog w = .ok (.func fn first cap) w:=fun _ _ _ _=>rfl
 have h1:=h (w.alloc (.cells #[.int .i64 0] 29)) ((Below.refl _ w).alloc (Nat.le_refl _) _) (Blk.new w _ _)
 clear h
 go_enter_defers Tryz.func36,Tryz.ntmps36
 go_wp2
 refine h1.mono ?_
 rintro e w1 ⟨v,rfl,hv,hB1⟩
 have b1:Blk w1 w.heap.size 29 #[.int .i64 0]:=(Blk.new w _ _).below hB1 (by simp)
 have c1:=b1.cell 0
 have f1:=b1.frozen 0
 simp only [List.getElem?_toArray,List.getElem?_cons_zero] at c1
 go_wp2
 refine leaves_cons (f:=71) (args:=#[.pointer (some ⟨w.heap.size,0,none⟩)]) (by simp) (by simp [go_sem]) ?_
 refine (idle_S ⟨w.heap.size,0,none⟩ _).mono ?_
 rintro e u' w'' ⟨rfl,rfl,rfl⟩
 have c2:(w1.setCell ⟨w.heap.size,0,none⟩ (.int .i64 0)).cell? ⟨w.heap.size,0,none⟩=some (.int .i64 0):=World.cell?_setCell_same' _ _ _ (by rw [c1];rfl)
 simp [Go.Leaves,settle,results,Tryz.results36,go_sem,c2]
 exact ⟨w1,hv,b1,rfl,(((Below.refl _ w).alloc (Nat.le_refl _) _).trans (hB1.mono (by simp))).setCell (Nat.le_refl _) _⟩
theorem idle_K (p:Addr) (w:World) :
 CallsD Tryz.prog 88 #[.pointer (some p)] .returning w fun e u' w'=>e = .returned (.tuple #[])∧u' = .returning∧w'=w:=by
 have hta:=assert_errnoX
 refine callsD_of_wpS Tryz.func88 rfl fun c₀ cs hu=>?_
 simp only [Tryz.ntmps88,List.size_toArray,List.length_cons,List.length_nil,Nat.reduceAdd,Nat.reduceSub,Array.replicate_succ,Array.replicate_zero,List.push_toArray,List.append_toArray,List.nil_append,List.cons_append]
 apply wpS_seq
 apply wpS_region
 simp [wpOpsS,go_sem,recoverD,hu,Exit.thenS]
 all_goals (refine wpS_of_wp ?_;go_wp2;cases c₀;simp_all [bodyPostS,results,Tryz.results88])
theorem caught_K (p:Addr) (x y:Int) (w:World) (hc:w.cell? p=some (.int .i64 x)) (hz:w.frozen? p=false) :
 CallsD Tryz.prog 88 #[.pointer (some p)] (.panicking (gave y)) w fun e u' w' =>
  e = .returned (.tuple #[])∧u' = .panicking [{ v:=.iface 29 (.int .i64 y),recovered:=true }]∧w'=w.setCell p (.int .i64 y):=by
 have hta:=assert_errnoX
 refine callsD_of_wpS Tryz.func88 rfl fun c₀ cs hu=>?_
 simp only [Tryz.ntmps88,List.size_toArray,List.length_cons,List.length_nil,Nat.reduceAdd,Nat.reduceSub,Array.replicate_succ,Array.replicate_zero,List.push_toArray,List.append_toArray,List.nil_append,List.cons_append]
 apply wpS_seq
 apply wpS_region
 simp [wpOpsS,go_sem,recoverD,hu,Exit.thenS,gave]
 all_goals (refine wpS_of_wp ?_;go_wp2;simp [bodyPostS,results,Tryz.results88])

theorem two_K (w:World) {w1:World} (hB1:Below ((w.alloc (.cells #[.int .i64 0,.int .i64 0,.slice none 0 0] 76)).alloc (.cells #[.int .i64 0] 29)).heap.size ((w.alloc (.cells #[.int .i64 0,.int .i64 0,.slice none 0 0] 76)).alloc (.cells #[.int .i64 0] 29)) w1):Blk w1 w.heap.size 76 #[.int .i64 0,.int .i64 0,.slice none 0 0]∧Blk w1 (w.heap.size+1) 29 #[.int .i64 0] :=
 ⟨((Blk.new w _ _).alloc _).below hB1 (by simp;omega),(Blk.second w _ _ _).below hB1 (by simp)⟩
theorem ans_K_yes (f:Nat) (caps:Array Value) (w:World) (Post:Value→World→Prop) (hent:∀ W,(callFunc f caps).run Tryz.prog W = .ok (.enter f caps) W)
 (hP:∀ v W W',Post v W→Blk W w.heap.size 76 #[.int .i64 0,.int .i64 0,.slice none 0 0]→Blk W (w.heap.size+1) 29 #[.int .i64 0]→Keeps (fun b=>b≠w.heap.size∧b≠w.heap.size+1) W W'→W.heap.size=W'.heap.size→Post v W')
 (h:∀ W,Below w.heap.size w W→w.heap.size+2≤W.heap.size→Calls Tryz.prog f caps W fun e w'=>∃ (k p:Int) (A:Option Addr) (n c:Nat),e = .returned (.agg #[.int .i64 k,.int .i64 p,.slice A n c])∧Post (.agg #[.int .i64 k,.int .i64 p,.slice A n c]) w'∧Below W.heap.size W w') :
 Calls Tryz.prog 45 #[.func (.func f) #[] caps] w fun e w'=>∃ v,e = .returned (.tuple #[v,.int .i64 0])∧Post v w'∧Below w.heap.size w w':=by
 have hmf:∀ (fn:Fn) (first cap:Array Value) (w:World),(Instr.makeFunc fn first cap).run Tryz.prog w = .ok (.func fn first cap) w:=fun _ _ _ _=>rfl
 have hBa:=below_two w (.cells #[.int .i64 0,.int .i64 0,.slice none 0 0] 76) (.cells #[.int .i64 0] 29)
 have h1:=h _ hBa (by simp)
 clear h
 go_enter_defers Tryz.func45,Tryz.ntmps45
 go_wp2
 refine h1.mono ?_
 rintro e w1 ⟨k,p,A,n,c,rfl,hpost,hB1⟩
 obtain ⟨b0,b1⟩:=two_K w hB1
 have c0:=b0.cell 0
 have c1:=b0.cell 1
 have c2:=b0.cell 2
 have cz:=b1.cell 0
 have f0:=b0.frozen 0
 have f1:=b0.frozen 1
 have f2:=b0.frozen 2
 have fz:=b1.frozen 0
 simp only [gz9] at c0 c1 c2 cz
 have hBw:=below_in hBa hB1
 go_wp2
 obtain ⟨ww,hww⟩:∃ ww,(((w1.setCell ⟨w.heap.size,0,none⟩ (.int .i64 k)).setCell ⟨w.heap.size,1,none⟩ (.int .i64 p)).setCell ⟨w.heap.size,2,none⟩ (.slice A n c)).setCell ⟨w.heap.size+1,0,none⟩ (.int .i64 0)=ww:=⟨_,rfl⟩
 have d0:Blk ww w.heap.size 76 #[.int .i64 k,.int .i64 p,.slice A n c]:=by
  rw [←hww]
  exact Blk.far (((b0.set_ 0 (.int .i64 k)).set_ 1 (.int .i64 p)).set_ 2 (.slice A n c)) (by simp) _
 have d1:Blk ww (w.heap.size+1) 29 #[.int .i64 0]:=by
  rw [←hww]
  exact ((Blk.far (Blk.far (Blk.far b1 (by simp) _) (by simp) _) (by simp) _)).set_ 0 (.int .i64 0)
 have hBz:Below w.heap.size w ww:=by
  rw [←hww]
  exact ((((hBw).setCell (Nat.le_refl _) _).setCell (Nat.le_refl _) _).setCell (Nat.le_refl _) _).setCell (Nat.le_succ _) _
 have hpz:Post (.agg #[.int .i64 k,.int .i64 p,.slice A n c]) ww:=by
  refine hP _ _ _ hpost b0 b1 (fun b hb=>?_) ?_
  · rw [←hww]
    have e1:b≠w.heap.size:=hb.1
    have e2:b≠w.heap.size+1:=hb.2
    refine (Below.heap_setCell _ ⟨w.heap.size+1,0,none⟩ _ b e2).trans ?_
    refine (Below.heap_setCell _ ⟨w.heap.size,2,none⟩ _ b e1).trans ?_
    refine (Below.heap_setCell _ ⟨w.heap.size,1,none⟩ _ b e1).trans ?_
    refine (Below.heap_setCell _ ⟨w.heap.size,0,none⟩ _ b e1).trans ?_
    rfl
  · rw [←hww]
    simp
 rw [hww]
 have e0:=d0.cell 0
 have e1:=d0.cell 1
 have e2:=d0.cell 2
 have ez:=d1.cell 0
 simp only [gz9] at e0 e1 e2 ez
 refine leaves_cons (f:=88) (args:=#[.pointer (some ⟨w.heap.size+1,0,none⟩)]) (by simp) (by simp [go_sem]) ?_
 refine (idle_K ⟨w.heap.size+1,0,none⟩ _).mono ?_
 rintro e u' w'' ⟨rfl,rfl,rfl⟩
 simp [Go.Leaves,settle,results,Tryz.results45,go_sem,e0,e1,e2,ez]
 exact ⟨hpz,hBz⟩
theorem ans_K_no (y:Int) (f:Nat) (caps:Array Value) (w:World) (hent:∀ W,(callFunc f caps).run Tryz.prog W = .ok (.enter f caps) W)
 (h:∀ W,Below w.heap.size w W→Calls Tryz.prog f caps W fun e w'=>e = .panicked (gave y)∧Below W.heap.size W w') :
 Calls Tryz.prog 45 #[.func (.func f) #[] caps] w fun e w'=>e = .returned (.tuple #[.agg #[.int .i64 0,.int .i64 0,.slice none 0 0],.int .i64 y])∧Below w.heap.size w w':=by
 have hmf:∀ (fn:Fn) (first cap:Array Value) (w:World),(Instr.makeFunc fn first cap).run Tryz.prog w = .ok (.func fn first cap) w:=fun _ _ _ _=>rfl
 have hBa:=below_two w (.cells #[.int .i64 0,.int .i64 0,.slice none 0 0] 76) (.cells #[.int .i64 0] 29)
 have h1:=h _ hBa
 clear h
 go_enter_defers Tryz.func45,Tryz.ntmps45
 go_wp2
 refine h1.mono ?_
 rintro e w1 ⟨rfl,hB1⟩
 obtain ⟨b0,b1⟩:=two_K w hB1
 have cz:=b1.cell 0
 have fz:=b1.frozen 0
 simp only [gz9] at cz
 have hBw:=below_in hBa hB1
 refine leaves_cons (f:=88) (args:=#[.pointer (some ⟨w.heap.size+1,0,none⟩)]) (by simp) (by simp [go_sem]) ?_
 refine (caught_K ⟨w.heap.size+1,0,none⟩ 0 y _ cz fz).mono ?_
 rintro e u' w'' ⟨rfl,rfl,rfl⟩
 obtain ⟨ww,hww⟩:∃ ww,w1.setCell ⟨w.heap.size+1,0,none⟩ (.int .i64 y)=ww:=⟨_,rfl⟩
 have d0:Blk ww w.heap.size 76 #[.int .i64 0,.int .i64 0,.slice none 0 0]:=by
  rw [←hww]
  exact Blk.far b0 (by simp) _
 have d1:Blk ww (w.heap.size+1) 29 #[.int .i64 y]:=by
  rw [←hww]
  exact b1.set_ 0 (.int .i64 y)
 have hBz:Below w.heap.size w ww:=by
  rw [←hww]
  exact hBw.setCell (Nat.le_succ _) _
 rw [hww]
 have e0:=d0.cell 0
 have e1:=d0.cell 1
 have e2:=d0.cell 2
 have ez:=d1.cell 0
 simp only [gz9] at e0 e1 e2 ez
 simp [Go.Leaves,settle,results,Tryz.results45,go_sem,e0,e1,e2,ez]
 exact hBz

theorem idle_H (p:Addr) (w:World) :
 CallsD Tryz.prog 99 #[.pointer (some p)] .returning w fun e u' w'=>e = .returned (.tuple #[])∧u' = .returning∧w'=w:=by
 have hta:=assert_errnoX
 refine callsD_of_wpS Tryz.func99 rfl fun c₀ cs hu=>?_
 simp only [Tryz.ntmps99,List.size_toArray,List.length_cons,List.length_nil,Nat.reduceAdd,Nat.reduceSub,Array.replicate_succ,Array.replicate_zero,List.push_toArray,List.append_toArray,List.nil_append,List.cons_append]
 apply wpS_seq
 apply wpS_region
 simp [wpOpsS,go_sem,recoverD,hu,Exit.thenS]
 all_goals (refine wpS_of_wp ?_;go_wp2;cases c₀;simp_all [bodyPostS,results,Tryz.results99])
theorem caught_H (p:Addr) (x y:Int) (w:World) (hc:w.cell? p=some (.int .i64 x)) (hz:w.frozen? p=false) :
 CallsD Tryz.prog 99 #[.pointer (some p)] (.panicking (gave y)) w fun e u' w' =>
  e = .returned (.tuple #[])∧u' = .panicking [{ v:=.iface 29 (.int .i64 y),recovered:=true }]∧w'=w.setCell p (.int .i64 y):=by
 have hta:=assert_errnoX
 refine callsD_of_wpS Tryz.func99 rfl fun c₀ cs hu=>?_
 simp only [Tryz.ntmps99,List.size_toArray,List.length_cons,List.length_nil,Nat.reduceAdd,Nat.reduceSub,Array.replicate_succ,Array.replicate_zero,List.push_toArray,List.append_toArray,List.nil_append,List.cons_append]
 apply wpS_seq
 apply wpS_region
 simp [wpOpsS,go_sem,recoverD,hu,Exit.thenS,gave]
 all_goals (refine wpS_of_wp ?_;go_wp2;simp [bodyPostS,results,Tryz.results99])

theorem two_H (w:World) {w1:World} (hB1:Below ((w.alloc (.cells #[.slice none 0 0,.slice none 0 0] 98)).alloc (.cells #[.int .i64 0] 29)).heap.size ((w.alloc (.cells #[.slice none 0 0,.slice none 0 0] 98)).alloc (.cells #[.int .i64 0] 29)) w1):Blk w1 w.heap.size 98 #[.slice none 0 0,.slice none 0 0]∧Blk w1 (w.heap.size+1) 29 #[.int .i64 0] :=
 ⟨((Blk.new w _ _).alloc _).below hB1 (by simp;omega),(Blk.second w _ _ _).below hB1 (by simp)⟩
theorem ans_H_yes (f:Nat) (caps:Array Value) (w:World) (Post:Value→World→Prop) (hent:∀ W,(callFunc f caps).run Tryz.prog W = .ok (.enter f caps) W)
 (hP:∀ v W W',Post v W→Blk W w.heap.size 98 #[.slice none 0 0,.slice none 0 0]→Blk W (w.heap.size+1) 29 #[.int .i64 0]→Keeps (fun b=>b≠w.heap.size∧b≠w.heap.size+1) W W'→W.heap.size=W'.heap.size→Post v W')
 (h:∀ W,Below w.heap.size w W→w.heap.size+2≤W.heap.size→Calls Tryz.prog f caps W fun e w'=>∃ (A:Option Addr) (n c:Nat) (A2:Option Addr) (n2 c2:Nat),e = .returned (.agg #[.slice A n c,.slice A2 n2 c2])∧Post (.agg #[.slice A n c,.slice A2 n2 c2]) w'∧Below W.heap.size W w') :
 Calls Tryz.prog 61 #[.func (.func f) #[] caps] w fun e w'=>∃ v,e = .returned (.tuple #[v,.int .i64 0])∧Post v w'∧Below w.heap.size w w':=by
 have hmf:∀ (fn:Fn) (first cap:Array Value) (w:World),(Instr.makeFunc fn first cap).run Tryz.prog w = .ok (.func fn first cap) w:=fun _ _ _ _=>rfl
 have hBa:=below_two w (.cells #[.slice none 0 0,.slice none 0 0] 98) (.cells #[.int .i64 0] 29)
 have h1:=h _ hBa (by simp)
 clear h
 go_enter_defers Tryz.func61,Tryz.ntmps61
 go_wp2
 refine h1.mono ?_
 rintro e w1 ⟨A,n,c,A2,n2,c2,rfl,hpost,hB1⟩
 obtain ⟨b0,b1⟩:=two_H w hB1
 have c0:=b0.cell 0
 have c1:=b0.cell 1
 have cz:=b1.cell 0
 have f0:=b0.frozen 0
 have f1:=b0.frozen 1
 have fz:=b1.frozen 0
 simp only [gz9] at c0 c1 cz
 have hBw:=below_in hBa hB1
 go_wp2
 obtain ⟨ww,hww⟩:∃ ww,((w1.setCell ⟨w.heap.size,0,none⟩ (.slice A n c)).setCell ⟨w.heap.size,1,none⟩ (.slice A2 n2 c2)).setCell ⟨w.heap.size+1,0,none⟩ (.int .i64 0)=ww:=⟨_,rfl⟩
 have d0:Blk ww w.heap.size 98 #[.slice A n c,.slice A2 n2 c2]:=by
  rw [←hww]
  exact Blk.far ((b0.set_ 0 (.slice A n c)).set_ 1 (.slice A2 n2 c2)) (by simp) _
 have d1:Blk ww (w.heap.size+1) 29 #[.int .i64 0]:=by
  rw [←hww]
  exact ((Blk.far (Blk.far b1 (by simp) _) (by simp) _)).set_ 0 (.int .i64 0)
 have hBz:Below w.heap.size w ww:=by
  rw [←hww]
  exact (((hBw).setCell (Nat.le_refl _) _).setCell (Nat.le_refl _) _).setCell (Nat.le_succ _) _
 have hpz:Post (.agg #[.slice A n c,.slice A2 n2 c2]) ww:=by
  refine hP _ _ _ hpost b0 b1 (fun b hb=>?_) ?_
  · rw [←hww]
    have e1:b≠w.heap.size:=hb.1
    have e2:b≠w.heap.size+1:=hb.2
    refine (Below.heap_setCell _ ⟨w.heap.size+1,0,none⟩ _ b e2).trans ?_
    refine (Below.heap_setCell _ ⟨w.heap.size,1,none⟩ _ b e1).trans ?_
    refine (Below.heap_setCell _ ⟨w.heap.size,0,none⟩ _ b e1).trans ?_
    rfl
  · rw [←hww]
    simp
 rw [hww]
 have e0:=d0.cell 0
 have e1:=d0.cell 1
 have ez:=d1.cell 0
 simp only [gz9] at e0 e1 ez
 refine leaves_cons (f:=99) (args:=#[.pointer (some ⟨w.heap.size+1,0,none⟩)]) (by simp) (by simp [go_sem]) ?_
 refine (idle_H ⟨w.heap.size+1,0,none⟩ _).mono ?_
 rintro e u' w'' ⟨rfl,rfl,rfl⟩
 simp [Go.Leaves,settle,results,Tryz.results61,go_sem,e0,e1,ez]
 exact ⟨hpz,hBz⟩
theorem ans_H_no (y:Int) (f:Nat) (caps:Array Value) (w:World) (hent:∀ W,(callFunc f caps).run Tryz.prog W = .ok (.enter f caps) W)
 (h:∀ W,Below w.heap.size w W→Calls Tryz.prog f caps W fun e w'=>e = .panicked (gave y)∧Below W.heap.size W w') :
 Calls Tryz.prog 61 #[.func (.func f) #[] caps] w fun e w'=>e = .returned (.tuple #[.agg #[.slice none 0 0,.slice none 0 0],.int .i64 y])∧Below w.heap.size w w':=by
 have hmf:∀ (fn:Fn) (first cap:Array Value) (w:World),(Instr.makeFunc fn first cap).run Tryz.prog w = .ok (.func fn first cap) w:=fun _ _ _ _=>rfl
 have hBa:=below_two w (.cells #[.slice none 0 0,.slice none 0 0] 98) (.cells #[.int .i64 0] 29)
 have h1:=h _ hBa
 clear h
 go_enter_defers Tryz.func61,Tryz.ntmps61
 go_wp2
 refine h1.mono ?_
 rintro e w1 ⟨rfl,hB1⟩
 obtain ⟨b0,b1⟩:=two_H w hB1
 have cz:=b1.cell 0
 have fz:=b1.frozen 0
 simp only [gz9] at cz
 have hBw:=below_in hBa hB1
 refine leaves_cons (f:=99) (args:=#[.pointer (some ⟨w.heap.size+1,0,none⟩)]) (by simp) (by simp [go_sem]) ?_
 refine (caught_H ⟨w.heap.size+1,0,none⟩ 0 y _ cz fz).mono ?_
 rintro e u' w'' ⟨rfl,rfl,rfl⟩
 obtain ⟨ww,hww⟩:∃ ww,w1.setCell ⟨w.heap.size+1,0,none⟩ (.int .i64 y)=ww:=⟨_,rfl⟩
 have d0:Blk ww w.heap.size 98 #[.slice none 0 0,.slice none 0 0]:=by
  rw [←hww]
  exact Blk.far b0 (by simp) _
 have d1:Blk ww (w.heap.size+1) 29 #[.int .i64 y]:=by
  rw [←hww]
  exact b1.set_ 0 (.int .i64 y)
 have hBz:Below w.heap.size w ww:=by
  rw [←hww]
  exact hBw.setCell (Nat.le_succ _) _
 rw [hww]
 have e0:=d0.cell 0
 have e1:=d0.cell 1
 have ez:=d1.cell 0
 simp only [gz9] at e0 e1 ez
 simp [Go.Leaves,settle,results,Tryz.results61,go_sem,e0,e1,ez]
 exact hBz
end Go.Proofs.YtknkdbincaonbaaGreatDoor.Cd

namespace Go.Proofs.YtknkdbincaonbaaGreatDoor.E
open Go.RowKit Go.Shelf Go.Proofs.YtknkdbincaonbaaGreatDoor.C

structure Rep (α:Type) where
 R:(Nat→Prop)→World→Value→α→Prop
 imp:∀ {P Q:Nat→Prop} {W:World} {v:Value} {x:α},R P W v x→(∀ b,P b→Q b)→R Q W v x
 keep:∀ {P:Nat→Prop} {W W':World} {v:Value} {x:α},R P W v x→Keeps P W W'→R P W' v x
 one:∀ {P:Nat→Prop} {W:World} {v:Value} {x:α},R P W v x→v.oneCell'=true
def bytesR:Rep (List UInt8) where
 R:=BytesP
 imp:=BytesP.imp
 keep:=BytesP.keep
 one:=fun ⟨_,_,e,_⟩=>by rw [e];rfl
def SliceP {α:Type} (r:Rep α) (d:α) (P:Nat→Prop) (W:World) (v:Value) (xs:List α):Prop :=
 ∃ A cap,v = .slice A xs.length cap∧xs.length≤cap∧(0<xs.length→∃ b off,A=some ⟨b,off,none⟩∧P b∧∀ j,j<xs.length→∃ u,W.cell? ⟨b,off+j,none⟩=some u∧r.R P W u (xs[j]?.getD d))
section
variable {α:Type} {r:Rep α} {d:α} {P Q:Nat→Prop} {W W':World} {v:Value} {xs:List α}
theorem SliceP.imp (h:SliceP r d P W v xs) (hq:∀ b,P b→Q b):SliceP r d Q W v xs:=by
 obtain ⟨A,cap,e,hc,hA⟩:=h
 refine ⟨A,cap,e,hc,fun hp=>?_⟩
 obtain ⟨b,off,e2,hb,hcell⟩:=hA hp
 exact ⟨b,off,e2,hq b hb,fun j hj=>by obtain ⟨u,h1,h2⟩:=hcell j hj;exact ⟨u,h1,r.imp h2 hq⟩⟩
theorem SliceP.keep (h:SliceP r d P W v xs) (hk:Keeps P W W'):SliceP r d P W' v xs:=by
 obtain ⟨A,cap,e,hc,hA⟩:=h
 refine ⟨A,cap,e,hc,fun hp=>?_⟩
 obtain ⟨b,off,e2,hb,hcell⟩:=hA hp
 exact ⟨b,off,e2,hb,fun j hj=>by obtain ⟨u,h1,h2⟩:=hcell j hj;exact ⟨u,(World.cell?_of_block (hk b hb)).trans h1,r.keep h2 hk⟩⟩
end
def sliceR {α:Type} (r:Rep α) (d:α):Rep (List α) where
 R:=SliceP r d
 imp:=SliceP.imp
 keep:=SliceP.keep
 one:=fun ⟨_,_,e,_⟩=>by rw [e];rfl
def manyR:Rep (List (List UInt8)):=sliceR bytesR []
def colsR:Rep (List (List (List UInt8))):=sliceR manyR []
theorem manyR_iff {B:Nat} {W:World} {v:Value} {ls:List (List UInt8)}:manyR.R (·<B) W v ls↔Many B W v ls:=Iff.rfl
theorem colsR_iff {B:Nat} {W:World} {v:Value} {css:List (List (List UInt8))}:colsR.R (·<B) W v css↔Cols B W v css:=Iff.rfl
theorem Rep.below {α:Type} (r:Rep α) {P:Nat→Prop} {B:Nat} {W W':World} {v:Value} {x:α} (h:r.R P W v x) (hP:∀ b,P b→b<B) (hb:Below B W W'):r.R P W' v x:=r.keep h fun b hp=>hb.block b (hP b hp)

def RowG {α:Type} (r:Rep α) (t:TypeId) (d:α) (Q:Nat→Prop) (W:World) (base:Nat) (v:Value) (xs:List α):Prop :=
 ∃ us:List Value,W.ownsRow base t 1 v us.length us∧us.length=xs.length∧∀ (j:Nat) (u:Value),us[j]?=some u→r.R (fun b=>b<W.heap.size∧some b≠v.ownBlock∧Q b) W u (xs[j]?.getD d)
section
variable {α:Type} {r:Rep α} {t:TypeId} {d:α} {Q:Nat→Prop} {W W':World} {base:Nat} {v:Value} {xs:List α}
theorem RowG.nil (r:Rep α) (t:TypeId) (d:α) (Q:Nat→Prop) (W:World) (base:Nat):RowG r t d Q W base (.slice none 0 0) [] :=
 ⟨[],World.ownsRow_nil W base t 1,rfl,fun j u h=>by cases h⟩
theorem RowG.own_le (h:RowG r t d Q W base v xs) (k:Nat) (e:v.ownBlock=some k):base≤k:=by
 obtain ⟨us,ho,_⟩:=h
 exact (World.ownsRow.lt ho k e).1
theorem RowG.kept (h:RowG r t d Q W base v xs) {row:Option Nat} (hg:W.grownBy W' row) (hne:v.ownBlock=none∨v.ownBlock≠row) (hQ:∀ b,Q b→some b≠row):RowG r t d Q W' base v xs:=by
 obtain ⟨us,ho,hn,hr⟩:=h
 refine ⟨us,World.ownsRow.kept ho hg hne,hn,fun j u hu=>?_⟩
 exact r.imp (r.keep (hr j u hu) fun b hb=>hg.block b hb.1 (hQ b hb.2.2)) fun b hb=>⟨Nat.lt_of_lt_of_le hb.1 hg.size,hb.2⟩
theorem RowG.below (h:RowG r t d Q W base v xs) (hb:Below W.heap.size W W'):RowG r t d Q W' base v xs :=
 h.kept (row:=none) (grown_below hb) (by cases v.ownBlock <;> simp) (fun b _=>by simp)
theorem RowG.push (i:TypeInfo) (hi:Tryz.prog.info? t=some i) (hz:i.zero=some (.slice none 0 0)) (h1:i.size=1) (h24:i.bytes=24) (T ty:TypeId) (hT:Tryz.prog.underlying T=some (.slice t))
 (h:RowG r t d Q W base v xs) (g:Nat) (tg:TypeId) (u:Value) (x:α) (hg:Blk W g tg #[u]) (hu:r.R (fun b=>b<W.heap.size∧some b≠v.ownBlock∧Q b) W u x) (hlen:xs.length≤100000) (hbase:base≤W.heap.size) :
 ∃ v' w',(Builtin.append_ #[T,T] ty #[v,.slice (some ⟨g,0,none⟩) 1 1]).run Tryz.prog W = .ok v' w'∧RowG r t d Q w' base v' (xs ++ [x])∧W.grownBy w' v.ownBlock∧(v'.ownBlock=v.ownBlock∨v'.ownBlock=some W.heap.size):=by
 obtain ⟨us,ho,hn,hr⟩:=h
 obtain ⟨v',w',hrun,o1,o2,_,o3⟩:=run_append_own_at (P:=Tryz.prog) W base T ty t i (.slice none 0 0) 1 24 hT hi hz h1 h24 rfl (by omega) v us.length us ho ⟨g,0,none⟩ 1 1 [u] rfl
  (by intro j y hy
      rw [addr_add,Nat.zero_add,hg.cell j,List.getElem?_toArray]
      exact hy) (by intro y hy;rw [List.mem_singleton.1 hy];exact r.one hu) (by unfold maxLen;omega) (by omega) hbase
 have hk:∀ {y:Value} {z:α},r.R (fun b=>b<W.heap.size∧some b≠v.ownBlock∧Q b) W y z→r.R (fun b=>b<w'.heap.size∧some b≠v'.ownBlock∧Q b) w' y z:=fun {y z} hy =>
  r.imp (r.keep hy fun b hb=>o2.block b hb.1 hb.2.1) fun b hb=>⟨Nat.lt_of_lt_of_le hb.1 o2.size,by
   rcases o3 with e | e
   · rw [e];exact hb.2.1
   · rw [e];intro e2;injection e2 with e2;have:=hb.1;omega,hb.2.2⟩
 refine ⟨v',w',hrun,⟨us ++ [u],by rw [List.length_append];exact o1,by rw [List.length_append,List.length_append,hn];rfl,fun j y hy=>?_⟩,o2,o3⟩
 rcases Nat.lt_or_ge j us.length with hj | hj
 · rw [List.getElem?_append_left hj] at hy
   rw [List.getElem?_append_left (by omega)]
   exact hk (hr j y hy)
 · rw [List.getElem?_append_right hj] at hy
   rw [List.getElem?_append_right (by omega),←hn]
   have hj0:j - us.length=0:=by
    rcases Nat.eq_zero_or_pos (j - us.length) with h0 | h0
    · exact h0
    · rw [List.getElem?_eq_none (by simp;omega)] at hy;cases hy
   rw [hj0] at hy ⊢
   cases hy
   exact hk hu
theorem RowG.slice (h:RowG r t d Q W base v xs) {S:Nat→Prop} (hS:∀ b,b<W.heap.size→(Q b∨base≤b)→S b):SliceP r d S W v xs:=by
 obtain ⟨us,ho,hn,hr⟩:=h
 rcases Nat.eq_zero_or_pos us.length with h0 | h0
 · rcases ho.2 with ⟨rfl,_⟩ | ⟨g,cap,cur,rfl,_,hg,hnc,_⟩
   · exact ⟨none,0,by rw [←hn,h0],by omega,fun hp=>by omega⟩
   · exact ⟨some ⟨g,0,none⟩,cap,by rw [←hn],by omega,fun hp=>by omega⟩
 · have hcp:∀ g cap,v = .slice (some ⟨g,0,none⟩) us.length cap→us.length≤cap:=fun g cap e=>by
    rcases ho.2 with ⟨_,h1⟩ | ⟨g2,cap2,cur,e2,_,_,hnc,_⟩
    · omega
    · rw [e] at e2
      injection e2 with _ _ e3
      omega
   obtain ⟨g,cap,e,hg,hg1⟩:=World.ownsRow.form ho h0
   have hcap:=hcp g cap e
   subst e
   refine ⟨_,cap,by rw [←hn],by rw [←hn];exact hcap,fun _=>⟨g,0,rfl,hS g (by omega) (.inr hg),fun j hj=>?_⟩⟩
   have hj2:j<us.length:=by omega
   refine ⟨us[j],?_,r.imp (hr j us[j] (List.getElem?_eq_getElem hj2)) fun b hb=>hS b hb.1 (.inl hb.2.2)⟩
   rw [Nat.zero_add,World.ownsRow.cellAt ho j (by omega),List.getElem?_eq_getElem hj2]
end
theorem Tryz.infoCol:(Tryz.prog.info? 58).map (fun i=>(i.zero,i.size,i.bytes))=some (some (.slice none 0 0),1,24):=by kernel_rfl
def RowM:=RowG bytesR 32 []
def RowC:=RowG manyR 58 []
section
variable {Q:Nat→Prop} {W W':World} {base:Nat} {v:Value}
theorem RowM.many {ls:List (List UInt8)} (h:RowM Q W base v ls) {S:Nat→Prop} (hS:∀ b,b<W.heap.size→(Q b∨base≤b)→S b):manyR.R S W v ls:=RowG.slice h hS
theorem RowC.cols {css:List (List (List UInt8))} (h:RowC Q W base v css):Cols W.heap.size W v css:=RowG.slice h fun b hb _=>hb
theorem wpList_pushM {T:TypeId} (w:World) {ops:Array Oper} {rest:List Oper} {o:Oper} {a:Act} {QQ:Exit→Act→World→Prop} (hgd:o.guard=none) (s x:Operand)
 (ho:o.op = .call { callee:=.builtin .append,args:=#[s,x],argTypes:=#[T,T] }) (hT:Tryz.prog.underlying T=some (.slice 32)) (ls:List (List UInt8)) (hs:a.eval s=v) (h:RowM Q w base v ls)
 (g:Nat) (tg:TypeId) (u:Value) (l:List UInt8) (hx:a.eval x = .slice (some ⟨g,0,none⟩) 1 1) (hg:Blk w g tg #[u]) (hu:BytesP (fun b=>b<w.heap.size∧some b≠v.ownBlock∧Q b) w u l) (hlen:ls.length≤100000) (hbase:base≤w.heap.size)
 (hK:∀ v' w',RowM Q w' base v' (ls ++ [l])→w.grownBy w' v.ownBlock→(v'.ownBlock=v.ownBlock∨v'.ownBlock=some w.heap.size)→wpList Tryz.prog ops QQ rest (a.put o.dst v') w'):wpList Tryz.prog ops QQ (o :: rest) a w :=
 wpList_plain hgd fun K hK2=>by
  obtain ⟨i,hi,hz0,hz1,hz2⟩:=info_parts Tryz.infoSlcE
  obtain ⟨v',w',hrun,h1,h2,h3⟩:=RowG.push i hi hz0 hz1 hz2 T o.type hT h g tg u l hg hu hlen hbase
  unfold Oper.wp execOp
  simp only [ho,resolve,invoke,builtin,Sem.run_bind,Sem.run_pure,Result.andThen_ok,List.map_toArray,List.map_cons,List.map_nil,hs,hx,hrun]
  exact hK2 _ _ (hK v' w' h1 h2 h3)
theorem wpList_pushC {T:TypeId} (w:World) {ops:Array Oper} {rest:List Oper} {o:Oper} {a:Act} {QQ:Exit→Act→World→Prop} (hgd:o.guard=none) (s x:Operand)
 (ho:o.op = .call { callee:=.builtin .append,args:=#[s,x],argTypes:=#[T,T] }) (hT:Tryz.prog.underlying T=some (.slice 58)) (css:List (List (List UInt8))) (hs:a.eval s=v) (h:RowC Q w base v css)
 (g:Nat) (tg:TypeId) (u:Value) (ls:List (List UInt8)) (hx:a.eval x = .slice (some ⟨g,0,none⟩) 1 1) (hg:Blk w g tg #[u]) (hu:manyR.R (fun b=>b<w.heap.size∧some b≠v.ownBlock∧Q b) w u ls) (hlen:css.length≤100000) (hbase:base≤w.heap.size)
 (hK:∀ v' w',RowC Q w' base v' (css ++ [ls])→w.grownBy w' v.ownBlock→(v'.ownBlock=v.ownBlock∨v'.ownBlock=some w.heap.size)→wpList Tryz.prog ops QQ rest (a.put o.dst v') w'):wpList Tryz.prog ops QQ (o :: rest) a w :=
 wpList_plain hgd fun K hK2=>by
  obtain ⟨i,hi,hz0,hz1,hz2⟩:=info_parts Tryz.infoCol
  obtain ⟨v',w',hrun,h1,h2,h3⟩:=RowG.push i hi hz0 hz1 hz2 T o.type hT h g tg u ls hg hu hlen hbase
  unfold Oper.wp execOp
  simp only [ho,resolve,invoke,builtin,Sem.run_bind,Sem.run_pure,Result.andThen_ok,List.map_toArray,List.map_cons,List.map_nil,hs,hx,hrun]
  exact hK2 _ _ (hK v' w' h1 h2 h3)
end
end Go.Proofs.YtknkdbincaonbaaGreatDoor.E

namespace Go.Proofs.YtknkdbincaonbaaGreatDoor.E
open Go.RowKit Go.Shelf Go.Proofs.YtknkdbincaonbaaGreatDoor.C

section
variable {α:Type} {r:Rep α} {t:TypeId} {d:α} {Q:Nat→Prop} {W W':World} {base:Nat} {v:Value} {xs:List α}
theorem RowG.one {g:Nat} {u:Value} {x:α} (hg:Blk W g t #[u]) (hb:base≤g) (hu:r.R (fun b=>b<W.heap.size∧some b≠some g∧Q b) W u x):RowG r t d Q W base (.slice (some ⟨g,0,none⟩) 1 1) [x] :=
 ⟨[u],⟨rfl,.inr ⟨g,1,#[u],rfl,hb,hg,Nat.le_refl _,by unfold maxLen;omega,rfl,rfl⟩⟩,rfl,fun j y hy=>by
  cases j with
  | zero=>cases hy;exact hu
  | succ j=>simp at hy⟩
theorem RowG.append (i:TypeInfo) (hi:Tryz.prog.info? t=some i) (hz:i.zero=some (.slice none 0 0)) (h1:i.size=1) (h24:i.bytes=24) (T ty:TypeId) (hT:Tryz.prog.underlying T=some (.slice t))
 (h:RowG r t d Q W base v xs) {v2:Value} {ys:List α} (h2:SliceP r d (fun b=>b<W.heap.size∧some b≠v.ownBlock∧Q b) W v2 ys) (hn2:∀ A cap,v2 = .slice A 0 cap→A=none→cap=0) (hlen:xs.length≤100000) (hlen2:ys.length≤100000) (hbase:base≤W.heap.size) :
 ∃ v' w',(Builtin.append_ #[T,T] ty #[v,v2]).run Tryz.prog W = .ok v' w'∧RowG r t d Q w' base v' (xs ++ ys)∧W.grownBy w' v.ownBlock∧(v'.ownBlock=v.ownBlock∨v'.ownBlock=some W.heap.size):=by
 obtain ⟨us,ho,hn,hr⟩:=h
 obtain ⟨A,cap,rfl,hc,hA⟩:=h2
 rcases A with _ | ad
 · have h0:ys = []:=by
    rcases Nat.eq_zero_or_pos ys.length with h0 | h0
    · exact List.eq_nil_of_length_eq_zero h0
    · obtain ⟨b,off,h,_⟩:=hA h0
      cases h
   subst h0
   obtain rfl:=hn2 none cap rfl rfl
   rw [List.append_nil]
   exact ⟨v,W,run_append_owned_none (P:=Tryz.prog) (w:=W) base T ty t i 1 hT hi v us.length us ho,⟨us,ho,hn,hr⟩,World.grownBy.refl _ _,.inl rfl⟩
 have hus:∃ us2:List Value,us2.length=ys.length∧(∀ (j:Nat) (u:Value),us2[j]?=some u→W.cell? (ad.add j)=some u)∧∀ (j:Nat) (u:Value),us2[j]?=some u→r.R (fun b=>b<W.heap.size∧some b≠v.ownBlock∧Q b) W u (ys[j]?.getD d):=by
  rcases Nat.eq_zero_or_pos ys.length with h0 | h0
  · exact ⟨[],h0.symm,fun j u h=>(by cases h),fun j u h=>(by cases h)⟩
  · obtain ⟨b,off,e,hb,hcell⟩:=hA h0
    injection e with e
    subst e
    refine ⟨(List.range ys.length).map fun j=>(W.cell? ⟨b,off+j,none⟩).getD undef,by simp,fun j u hu=>?_,fun j u hu=>?_⟩
    all_goals
     rw [List.getElem?_map] at hu
     rcases Nat.lt_or_ge j ys.length with hj | hj
     · rw [List.getElem?_range hj] at hu
       obtain ⟨u2,q1,q2⟩:=hcell j hj
       simp only [Option.map_some,q1,Option.getD_some,Option.some.injEq] at hu
       subst hu
       first | (rw [addr_add];exact q1) | exact q2
     · rw [List.getElem?_eq_none (by simpa using hj)] at hu
       cases hu
 obtain ⟨us2,hl2,hc2,hr2⟩:=hus
 obtain ⟨v',w',hrun,o1,o2,_,o3⟩:=run_append_own_at (P:=Tryz.prog) W base T ty t i (.slice none 0 0) 1 24 hT hi hz h1 h24 rfl (by omega) v us.length us ho ad ys.length cap us2 (by omega) hc2
  (by intro y hy;obtain ⟨j,hj⟩:=List.getElem?_of_mem hy;exact r.one (hr2 j y hj)) (by unfold maxLen;omega) (by omega) hbase
 have hk:∀ {y:Value} {z:α},r.R (fun b=>b<W.heap.size∧some b≠v.ownBlock∧Q b) W y z→r.R (fun b=>b<w'.heap.size∧some b≠v'.ownBlock∧Q b) w' y z:=fun {y z} hy =>
  r.imp (r.keep hy fun b hb=>o2.block b hb.1 hb.2.1) fun b hb=>⟨Nat.lt_of_lt_of_le hb.1 o2.size,by
   rcases o3 with e | e
   · rw [e];exact hb.2.1
   · rw [e];intro e2;injection e2 with e2;have:=hb.1;omega,hb.2.2⟩
 refine ⟨v',w',hrun,⟨us ++ us2,by rw [List.length_append,hl2];exact o1,by rw [List.length_append,List.length_append,hn,hl2],fun j y hy=>?_⟩,o2,o3⟩
 rcases Nat.lt_or_ge j us.length with hj | hj
 · rw [List.getElem?_append_left hj] at hy
   rw [List.getElem?_append_left (by omega)]
   exact hk (hr j y hy)
 · rw [List.getElem?_append_right hj] at hy
   rw [List.getElem?_append_right (by omega),←hn]
   exact hk (hr2 _ y hy)
end
theorem Cols.take_ {B:Nat} {W:World} {A:Option Addr} {n cap:Nat} {css:List (List (List UInt8))} (h:Cols B W (.slice A n cap) css) {m:Nat} (hm:m≤n):Cols B W (.slice A m cap) (css.take m):=by
 obtain ⟨A',cap',e,hc,hA⟩:=h
 injection e with e1 e2 e3
 subst e1 e2 e3
 have hl:(css.take m).length=m:=by rw [List.length_take];omega
 refine ⟨A,cap,by rw [hl],by omega,fun hp=>?_⟩
 obtain ⟨b,off,e,hb,hcell⟩:=hA (by omega)
 refine ⟨b,off,e,hb,fun j hj=>?_⟩
 obtain ⟨u,h1,h2⟩:=hcell j (by omega)
 exact ⟨u,h1,by rw [List.getElem?_take_of_lt (by omega)];exact h2⟩
end Go.Proofs.YtknkdbincaonbaaGreatDoor.E

namespace Go.Proofs.YtknkdbincaonbaaGreatDoor.E
open Go.RowKit Go.Shelf Go.Proofs.YtknkdbincaonbaaGreatDoor.C

theorem RowG.own_lt {α:Type} {r:Rep α} {t:TypeId} {d:α} {Q:Nat→Prop} {W:World} {base:Nat} {v:Value} {xs:List α} (h:RowG r t d Q W base v xs) (k:Nat) (e:v.ownBlock=some k):k<W.heap.size:=by
 obtain ⟨us,ho,_⟩:=h
 exact (World.ownsRow.lt ho k e).2
theorem map_next {α β:Type} (g:α→β) (d:α) (xs:List α) {k:Nat} (hk:k<xs.length):(xs.map g).take (k+1)=(xs.map g).take k ++ [g (xs[k]?.getD d)]:=by
 rw [List.take_succ_eq_append_getElem (by rw [List.length_map];exact hk),List.getElem_map,List.getElem?_eq_getElem hk]
 rfl
theorem diagAt_in {p a:Int} (hp:0<p) {x:Nat×Nat} {n:Nat} (hx:x∈diagAt p a n):x.1<n∧(x.2:Int)<p - 1:=by
 unfold diagAt at hx
 obtain ⟨i,hi,rfl⟩:=List.mem_map.1 hx
 obtain ⟨hi1,hi2⟩:=List.mem_filter.1 hi
 have h1:=of_decide_eq_true hi2
 have h2:0≤(a - (i:Int)) % p:=Int.emod_nonneg _ (by omega)
 exact ⟨List.mem_range.1 hi1,by show (((a - (i:Int)) % p).toNat:Int)<p - 1;omega⟩
theorem enc_cells {p:Int} {css:List (List (List UInt8))} (h:DataOk p css):(encOf p css).length=2∧∀ j,j<2→((encOf p css)[j]?.getD []).length=(p - 1).toNat∧∀ i,i<(p - 1).toNat→(((encOf p css)[j]?.getD [])[i]?.getD []).length=(firstC css).length:=by
 have hd:=dataOk_n h
 refine ⟨rfl,fun j hj=>?_⟩
 have hj2:j=0∨j=1:=by omega
 rcases hj2 with rfl | rfl
 · exact ⟨rowsMade_len _,fun r hr=>by show ((rowsMade (p - 1).toNat css)[r]?.getD []).length = _;rw [rowsMade_at h hr];exact row_len h hr⟩
 · exact ⟨diagsMade_len _,fun r hr=>by show ((diagsMade p (p - 1).toNat css)[r]?.getD []).length = _;rw [diagsMade_at h hr];exact diag_len h (by omega)⟩
end Go.Proofs.YtknkdbincaonbaaGreatDoor.E

namespace Go.Proofs.YtknkdbincaonbaaGreatDoor.E
open Go.RowKit Go.Shelf Go.Proofs.YtknkdbincaonbaaGreatDoor.C

section
variable {Q:Nat→Prop} {base:Nat} {v:Value}
theorem opIn_pushM {F:Fence} {nF:Nat} {T:TypeId} (w:World) {o:Oper} {a:Act} {K:Act→World→Prop} {QQ:Exit→Act→World→Prop} (s x:Operand)
 (ho:o.op = .call { callee:=.builtin .append,args:=#[s,x],argTypes:=#[T,T] }) (hT:Tryz.prog.underlying T=some (.slice 32)) (ls:List (List UInt8)) (hs:a.eval s=v) (h:RowM Q w base v ls)
 (g:Nat) (tg:TypeId) (u:Value) (l:List UInt8) (hx:a.eval x = .slice (some ⟨g,0,none⟩) 1 1) (hg:Blk w g tg #[u]) (hu:BytesP (fun b=>b<w.heap.size∧some b≠v.ownBlock∧Q b) w u l) (hlen:ls.length≤100000) (hbase:base≤w.heap.size)
 (hK:∀ v' w',RowM Q w' base v' (ls ++ [l])→w.grownBy w' v.ownBlock→(v'.ownBlock=v.ownBlock∨v'.ownBlock=some w.heap.size)→K (a.put o.dst v') w'):Oper.wpIn F nF Tryz.prog o a w K QQ:=by
 obtain ⟨i,hi,hz0,hz1,hz2⟩:=info_parts Tryz.infoSlcE
 obtain ⟨v',w',hrun,h1,h2,h3⟩:=RowG.push i hi hz0 hz1 hz2 T o.type hT h g tg u l hg hu hlen hbase
 unfold Oper.wpIn
 refine ⟨by simp [Oper.about,ho,resolve,Target.leads,Sem.run_pure],?_⟩
 rw [Oper.semAt_plain F _ _ (by rw [ho];intro c hc';cases hc')]
 simp [execOp,ho,resolve,invoke,builtin,hs,hx,hrun,Result.andThen,Oper.uponIn]
 exact hK v' w' h1 h2 h3
end
end Go.Proofs.YtknkdbincaonbaaGreatDoor.E

namespace Go.Proofs.YtknkdbincaonbaaGreatDoor.E
open Go.RowKit Go.Shelf Go.Proofs.YtknkdbincaonbaaGreatDoor.C

def grid (R n:Nat):List (Nat×Nat):=(List.range R).flatMap fun r=>(List.range n).map fun c=>(c,r)
def slants (p:Int):List (Nat×Nat):=(List.range p.toNat).flatMap fun (a:Nat)=>diagAt p (a:Int) p.toNat
section
variable {p:Int} {a b css:List (List (List UInt8))}
end
end Go.Proofs.YtknkdbincaonbaaGreatDoor.E

namespace Go.Proofs.YtknkdbincaonbaaGreatDoor
open Go.RowKit Go.Shelf

theorem holdsData_any (k p d n x:Int) (w:World):Calls Tryz.prog 178 #[(.agg #[.int .i64 k,.int .i64 p,.int .i64 d,.int .i64 n]),.int .i64 x] w fun e w'=>e = .returned (.bool (decide (x<d)))∧Below w.heap.size w w':=by
 go_enter Tryz.func178,Tryz.ntmps178
 go_wp2
 go_ret
 exact ⟨rfl,below_one _ _⟩

theorem holdsRows_any (k p d n x:Int) (w:World):Calls Tryz.prog 324 #[(.agg #[.int .i64 k,.int .i64 p,.int .i64 d,.int .i64 n]),.int .i64 x] w fun e w'=>e = .returned (.bool ((x == d)))∧Below w.heap.size w w':=by
 go_enter Tryz.func324,Tryz.ntmps324
 go_wp2
 go_ret
 exact ⟨rfl,below_one _ _⟩

theorem isOn_any (k p d n line row:Int) (p1:3≤p) (p2:p≤17) (w:World):Calls Tryz.prog 325 #[(.agg #[.int .i64 k,.int .i64 p,.int .i64 d,.int .i64 n]),.int .i64 line,.int .i64 row] w fun e w'=>e = .returned (.bool (decide (line=row∨line=p - 1)))∧Below w.heap.size w w':=by
 by_cases h:line=row
 · have d1:(line == row)=true:=by simpa using h
   have HR:=Lib.hid (ret_bool (show true=decide (line=row∨line=p - 1) by simp [h]))
   clear h
   go_enter Tryz.func325,Tryz.ntmps325
   go_wp2
   go_ret
   exact ⟨HR.out,below_one _ _⟩
 · have d1:(line == row)=false:=by simpa using h
   have HR:=Lib.hid (ret_bool (show (line == p - 1)=decide (line=row∨line=p - 1) by rw [Bool.eq_iff_iff];simp [h]))
   clear h
   go_enter Tryz.func325,Tryz.ntmps325
   go_wp2
   go_ret
   exact ⟨HR.out,below_one _ _⟩

theorem inRow_any (k p d n row x y:Int) (w:World):Calls Tryz.prog 309 #[(.agg #[.int .i64 k,.int .i64 p,.int .i64 d,.int .i64 n]),.int .i64 row,.agg #[.int .i64 x,.int .i64 y]] w fun e w'=>e = .returned (.bool (decide (x<d∧y=row)))∧Below w.heap.size w w':=by
 have H:=Lib.hid (holdsData_any k p d n x)
 by_cases h:x<d
 · rw [decide_eq_true h] at H
   have HR:=Lib.hid (ret_bool (show (y == row)=decide (x<d∧y=row) by rw [Bool.eq_iff_iff];simp [h]))
   clear h
   obtain ⟨W0,hW0⟩:∃ W0,(w.alloc (.cells #[.int .i64 k,.int .i64 p,.int .i64 d,.int .i64 n] 177)).alloc (.cells #[.int .i64 x,.int .i64 y] 207)=W0:=⟨_,rfl⟩
   have b0:Blk W0 w.heap.size 177 #[.int .i64 k,.int .i64 p,.int .i64 d,.int .i64 n]:=by rw [←hW0];exact (Blk.new w _ _).alloc _
   have b1:Blk W0 (w.heap.size+1) 207 #[.int .i64 x,.int .i64 y]:=by rw [←hW0];exact Blk.second w _ _ _
   have hB:Below w.heap.size w W0:=by rw [←hW0];exact below_two w _ _
   have c0:=b0.cell 0
   have c1:=b0.cell 1
   have c2:=b0.cell 2
   have c3:=b0.cell 3
   have z0:=b1.cell 0
   have z1:=b1.cell 1
   simp only [gz9] at c0 c1 c2 c3 z0 z1
   go_enter Tryz.func309,Tryz.ntmps309
   go_wp2_with fail
   clear hW0
   go_wp2_with (go_at_call 178;refine (H.out _).mono ?_;rintro e w1 ⟨rfl,hB1⟩;have z0:=(b1.below hB1 b1.lt).cell 0;have z1:=(b1.below hB1 b1.lt).cell 1;simp only [gz9] at z0 z1)
   go_ret
   exact ⟨HR.out,below_in hB hB1⟩
 · rw [decide_eq_false h] at H
   have HR:=Lib.hid (ret_bool (show false=decide (x<d∧y=row) by simp [h]))
   clear h
   obtain ⟨W0,hW0⟩:∃ W0,(w.alloc (.cells #[.int .i64 k,.int .i64 p,.int .i64 d,.int .i64 n] 177)).alloc (.cells #[.int .i64 x,.int .i64 y] 207)=W0:=⟨_,rfl⟩
   have b0:Blk W0 w.heap.size 177 #[.int .i64 k,.int .i64 p,.int .i64 d,.int .i64 n]:=by rw [←hW0];exact (Blk.new w _ _).alloc _
   have b1:Blk W0 (w.heap.size+1) 207 #[.int .i64 x,.int .i64 y]:=by rw [←hW0];exact Blk.second w _ _ _
   have hB:Below w.heap.size w W0:=by rw [←hW0];exact below_two w _ _
   have c0:=b0.cell 0
   have c1:=b0.cell 1
   have c2:=b0.cell 2
   have c3:=b0.cell 3
   have z0:=b1.cell 0
   have z1:=b1.cell 1
   simp only [gz9] at c0 c1 c2 c3 z0 z1
   go_enter Tryz.func309,Tryz.ntmps309
   go_wp2_with fail
   clear hW0
   go_wp2_with (go_at_call 178;refine (H.out _).mono ?_;rintro e w1 ⟨rfl,hB1⟩;have z0:=(b1.below hB1 b1.lt).cell 0;have z1:=(b1.below hB1 b1.lt).cell 1;simp only [gz9] at z0 z1)
   go_ret
   exact ⟨HR.out,below_in hB hB1⟩

def aheadB (a b:Int×Int):Bool:=decide (a.1<b.1∨(a.1=b.1∧a.2<b.2))
theorem before_any (a1 a2 b1 b2:Int) (w:World):Calls Tryz.prog 215 #[.agg #[.int .i64 a1,.int .i64 a2],.agg #[.int .i64 b1,.int .i64 b2]] w fun e w'=>e = .returned (.bool (aheadB (a1,a2) (b1,b2))) ∧
 w'=(w.alloc (.cells #[.int .i64 a1,.int .i64 a2] 207)).alloc (.cells #[.int .i64 b1,.int .i64 b2] 207):=by
 by_cases h:a1<b1
 · have d1:decide (a1<b1)=true:=by simpa using h
   have HR:=Lib.hid (ret_bool (show true=aheadB (a1,a2) (b1,b2) by unfold aheadB;simp [h]))
   clear h
   go_enter Tryz.func215,Tryz.ntmps215
   go_wp2
   go_ret
   exact ⟨HR.out,rfl⟩
 · have d1:decide (a1<b1)=false:=by simpa using h
   by_cases h2:a1=b1
   · have d2:(a1 == b1)=true:=by simpa using h2
     have HR:=Lib.hid (ret_bool (show decide (a2<b2)=aheadB (a1,a2) (b1,b2) by unfold aheadB;simp [h2]))
     clear h h2
     go_enter Tryz.func215,Tryz.ntmps215
     go_wp2
     go_ret
     exact ⟨HR.out,rfl⟩
   · have d2:(a1 == b1)=false:=by simpa using h2
     have HR:=Lib.hid (ret_bool (show false=aheadB (a1,a2) (b1,b2) by unfold aheadB;simp [h,h2]))
     clear h h2
     go_enter Tryz.func215,Tryz.ntmps215
     go_wp2
     go_ret
     exact ⟨HR.out,rfl⟩

def spanL (a b:Int):List Int:=(List.range (b - a).toNat).map fun (i:Nat)=>a+(i:Int)
theorem spanL_nil {a b:Int} (h:b≤a):spanL a b = []:=by unfold spanL;rw [show (b - a).toNat=0 by omega];rfl
theorem spanL_more (a:Int) (i:Nat):spanL a (a+((i+1:Nat):Int))=spanL a (a+(i:Int)) ++ [a+(i:Int)]:=by
 unfold spanL
 rw [show (a+((i+1:Nat):Int) - a).toNat=i+1 by omega,show (a+(i:Int) - a).toNat=i by omega,List.range_succ,List.map_append];rfl
theorem spanL_len (a b:Int):(spanL a b).length=(b - a).toNat:=by unfold spanL;simp

theorem span_any (a b:Int) (a1:0≤a) (hab:a≤b) (b2:b≤1000) (w:World):Calls Tryz.prog 254 #[.int .i64 a,.int .i64 b] w fun e w'=>∃ v,e = .returned v∧OwnI w' w.heap.size v (spanL a b)∧Below w.heap.size w w':=by
 go_enter Tryz.func254,Tryz.ntmps254
 go_wp2
 go_loopw [5,6] (fun v i wr=>∃ j:Nat,a+(j:Int)≤b∧i = .int .i64 (a+(j:Int))∧OwnI wr w.heap.size v (spanL a (a+(j:Int)))∧Below w.heap.size w wr) (fun _ i _=>b.toNat - (intOf i).toNat)
 case atStart=>exact ⟨0,by omega,by simp,by rw [spanL_nil (by omega)];exact ownI_nil _ _,Below.refl _ _⟩
 case round =>
  obtain ⟨j,hj,rfl,hown,hB⟩:=hrel
  by_cases hlt:a+(j:Int)<b
  · have hdec:decide (a+(j:Int)<b)=true:=by simpa using hlt
    have HO:=Lib.hid (hown.grown_ (World.grownBy_alloc wr (.cells #[.int .i64 (a+(j:Int))] 3) none))
    have HU:=Lib.hid ((Blk.new wr 3 #[.int .i64 (a+(j:Int))]).one)
    have hll:(spanL a (a+(j:Int))).length≤1000:=by rw [spanL_len];omega
    go_wp2_with (at_builtin;refine wpList_one _ rfl _ _ 124 3 (.int .i64 0) 8 rfl Tryz.underlying124 Tryz.infoInt rfl w.heap.size _ _ rfl _ HO.out ⟨wr.heap.size,0,none⟩ 1 _ rfl HU.out rfl (by omega) (by omega) (by have:=hB.size;simp;omega) ?_;intro v2 w2 hown2 hgrow2 _)
    go_roundw
    case rel =>
     refine ⟨j+1,by omega,by go_num,?_,below_grown (hB.alloc hB.size _) hgrow2 (by have:=hB.size;simp;omega) (fun g e=>(World.ownsRow.lt HO.out g e).1)⟩
     unfold OwnI
     rw [spanL_more,List.map_append,List.length_append]
     exact hown2
    case measure=>simp [intOf];omega
  · obtain rfl:b=a+(j:Int):=by omega
    have hdec:decide (a+(j:Int)<a+(j:Int))=false:=by simp
    go_wp2
    go_ret
    exact ⟨_,rfl,hown,hB⟩
end Go.Proofs.YtknkdbincaonbaaGreatDoor
