/- -/
import Derived.Laws.EntriesVeiled
import Derived.Test.YtcchjofjpflbhaaGreatDoorPAG7m7
set_option linter.unusedVariables false
set_option linter.unusedSimpArgs false
set_option maxRecDepth 100000
set_option maxHeartbeats 400000
namespace Go.Proofs.YtcchjofjpflbhaaGreatDoor.Pr
open Go.RowKit Go.Shelf Go.Proofs.YtcchjofjpflbhaaGreatDoor.C Go.Proofs.YtcchjofjpflbhaaGreatDoor.E

theorem caught_A (p:Addr) (x y:Int) (w:World) (hc:w.cell? p=some (.int .i64 x)) (hz:w.frozen? p=false) :
 CallsD Tryz.prog 105 #[.pointer (some p)] (.panicking (gave y)) w fun e u' w' =>
  e = .returned (.tuple #[])∧u' = .panicking [{ v:=.iface 34 (.int .i64 y),recovered:=true }]∧w'=w.setCell p (.int .i64 y):=by
 have hta:=assert_errnoX
 refine callsD_of_wpS Tryz.func105 rfl fun c₀ cs hu=>?_
 simp only [Tryz.ntmps105,List.size_toArray,List.length_cons,List.length_nil,Nat.reduceAdd,Nat.reduceSub,Array.replicate_succ,Array.replicate_zero,List.push_toArray,List.append_toArray,List.nil_append,List.cons_append]
 apply wpS_seq
 apply wpS_region
 simp [wpOpsS,go_sem,recoverD,hu,Exit.thenS,gave]
 all_goals (refine wpS_of_wp ?_;go_wp2;simp [bodyPostS,results,Tryz.results105])
theorem ans_A_no (y:Int) (f:Nat) (caps:Array Value) (w:World) (hent:∀ W,(callFunc f caps).run Tryz.prog W = .ok (.enter f caps) W)
 (h:∀ W,Below w.heap.size w W→w.heap.size<W.heap.size→Calls Tryz.prog f caps W fun e w'=>e = .panicked (gave y)∧Below W.heap.size W w') :
 Calls Tryz.prog 56 #[.func (.func f) #[] caps] w fun e w'=>e = .returned (.tuple #[.slice none 0 0,.int .i64 y])∧Below w.heap.size w w':=by
 have hmf:∀ (fn:Fn) (first cap:Array Value) (w:World),(Instr.makeFunc fn first cap).run Tryz.prog w = .ok (.func fn first cap) w:=fun _ _ _ _=>rfl
 have h1:=h (w.alloc (.cells #[.int .i64 0] 34)) ((Below.refl _ w).alloc (Nat.le_refl _) _) (by simp)
 clear h
 go_enter_defers Tryz.func56,Tryz.ntmps56
 go_wp2
 refine h1.mono ?_
 rintro e w1 ⟨rfl,hB1⟩
 have b1:Blk w1 w.heap.size 34 #[.int .i64 0]:=(Blk.new w _ _).below hB1 (by simp)
 have c1:=b1.cell 0
 have f1:=b1.frozen 0
 simp only [List.getElem?_toArray,List.getElem?_cons_zero] at c1
 refine leaves_cons (f:=105) (args:=#[.pointer (some ⟨w.heap.size,0,none⟩)]) (by simp) (by simp [go_sem]) ?_
 refine (caught_A ⟨w.heap.size,0,none⟩ 0 y _ c1 f1).mono ?_
 rintro e u' w'' ⟨rfl,rfl,rfl⟩
 have c2:(w1.setCell ⟨w.heap.size,0,none⟩ (.int .i64 y)).cell? ⟨w.heap.size,0,none⟩=some (.int .i64 y):=World.cell?_setCell_same' _ _ _ (by rw [c1];rfl)
 simp [Go.Leaves,settle,results,Tryz.results56,go_sem,c2]
 exact (((Below.refl _ w).alloc (Nat.le_refl _) _).trans (hB1.mono (by simp))).setCell (Nat.le_refl _) _

end Go.Proofs.YtcchjofjpflbhaaGreatDoor.Pr
