/- -/
import Derived.ShutString
import Derived.ChangeOld
import Derived.LaidMore
import Derived.Stop.Joined
import Derived.MakeChecks
import Derived.Lib.LaidTab
import Derived.Test.YtkllhjhkcipkoaaGreatDoorTHMA
set_option linter.unusedVariables false
set_option linter.unusedSimpArgs false
set_option maxRecDepth 100000
set_option maxHeartbeats 1000000
namespace Go.Proofs.YtkllhjhkcipkoaaGreatDoor
open Go.RowKit Go.Shelf

structure Und (p s m:Int):Prop where
 p1:3≤p
 p2:p≤17
 s1:0≤s
 s2:s≤1
 m1:2≤m
 m2:m≤3
theorem below_one (w:World) (o:Obj):Below w.heap.size w (w.alloc o):=(Below.refl _ w).alloc (Nat.le_refl _) _
theorem below_two (w:World) (o o':Obj):Below w.heap.size w ((w.alloc o).alloc o'):=(below_one w o).alloc (by simp) _
theorem cell_lt {W:World} {g i:Nat} {v:Value} (h:W.cell? ⟨g,i,none⟩=some v):g<W.heap.size:=by
 rcases Nat.lt_or_ge g W.heap.size with h1 | h1
 · exact h1
 · unfold World.cell? at h
   rw [show W.heap[g]?=none from Array.getElem?_eq_none h1] at h
   cases h
theorem nextc {W W':World} {g i:Nat} {v:Value} (h:W.cell? ⟨g,i,none⟩=some v) (hB:Below W.heap.size W W'):W'.cell? ⟨g,i,none⟩=some v:=(hB.cell (p:=⟨g,i,none⟩) (cell_lt h)).trans h
theorem Blk.nextd {W W':World} {g:Nat} {t:TypeId} {cs:Array Value} (h:Blk W g t cs) (hB:Below W.drew.heap.size W.drew W'):Blk W' g t cs:=Blk.below (w:=W.drew) h hB (show g<W.heap.size from h.lt)
theorem below_drewN {B:Nat} {W W':World} (h:Below B W W') (n:Nat):Below B W (W'.drewN n):=h.trans ⟨rfl,rfl,rfl,Nat.le_refl _,fun _ _=>rfl⟩
theorem Blk.second (w:World) (o:Obj) (t:TypeId) (cs:Array Value):Blk ((w.alloc o).alloc (.cells cs t)) (w.heap.size+1) t cs:=by
 have:=Blk.new (w.alloc o) t cs
 rwa [World.size_alloc] at this

theorem rows_any (k p s m:Int) (hu:Und p s m) (w:World):Calls Tryz.prog 153 #[(.agg #[.int .i64 k,.int .i64 p,.int .i64 s,.int .i64 m])] w fun e w'=>e = .returned (.int .i64 (p - 1))∧Below w.heap.size w w':=by
 obtain ⟨p1,p2,s1,s2,m1,m2⟩:=hu
 go_enter Tryz.func153,Tryz.ntmps153
 go_wp2
 go_ret
 exact ⟨rfl,(Below.refl _ _).alloc (Nat.le_refl _) _⟩

end Go.Proofs.YtkllhjhkcipkoaaGreatDoor

namespace Go.Proofs.YtkllhjhkcipkoaaGreatDoor
open Go.RowKit Go.Shelf

def roleN (d x:Int):Int:=if x=d then 2 else if x=d+1 then 3 else if x=d+2 then 4 else 1
end Go.Proofs.YtkllhjhkcipkoaaGreatDoor

namespace Go.Proofs.YtkllhjhkcipkoaaGreatDoor
open Go.RowKit Go.Shelf

def RightC (k p:Int):Prop:=(1≤k∧k≤3)∧p∈prm
def shortN (k:Int):Int:=if k=2 then 1 else 0
def madeN (k:Int):Int:=if k=3 then 3 else 2
theorem RightC.und {k p:Int} (h:RightC k p):Und p (shortN k) (madeN k):=by
 obtain ⟨h1,h2⟩:=prm_bounds h.2
 unfold shortN madeN
 constructor <;> (try split) <;> omega
def SAsked (k p:Int) (w:World) (e:Ending) (w':World):Prop :=
 (RightC k p→e = .returned (.tuple #[.agg #[.int .i64 k,.int .i64 p,.int .i64 (shortN k),.int .i64 (madeN k)],.int .i64 0])) ∧
 (¬ RightC k p→e = .returned (.tuple #[.agg #[.int .i64 0,.int .i64 0,.int .i64 0,.int .i64 0],.int .i64 2]))∧Below w.heap.size w w'

theorem sasked_1 (p:Int) (hp:p∈prm) (w:World) (hL:Laid w) :
 Calls Tryz.prog 140 #[.agg #[.int .i64 1,.int .i64 p]] w fun e w'=>e = .returned (.tuple #[.agg #[.int .i64 1,.int .i64 p,.int .i64 0,.int .i64 2],.int .i64 0])∧Below w.heap.size w w':=by
 obtain ⟨W0,hW0⟩:∃ W0,(w.alloc (.cells #[.int .i64 1,.int .i64 p] 37)).alloc (.cells #[.int .i64 0,.int .i64 0,.int .i64 0,.int .i64 0] 179)=W0:=⟨_,rfl⟩
 have b0:Blk W0 w.heap.size 37 #[.int .i64 1,.int .i64 p]:=by rw [←hW0];exact (Blk.new w _ _).alloc _
 have b1:Blk W0 (w.heap.size+1) 179 #[.int .i64 0,.int .i64 0,.int .i64 0,.int .i64 0]:=by rw [←hW0];exact Blk.second w _ _ _
 have hB:Below w.heap.size w W0:=by rw [←hW0];exact below_two w _ _
 have hL0:=hL.next hB
 have c0:=b0.cell 0
 have c1:=b0.cell 1
 simp only [List.getElem?_toArray,List.getElem?_cons_zero,List.getElem?_cons_succ] at c0 c1
 have HC:=Lib.hid (check_any p W0 hL0)
 rw [if_pos hp] at HC
 clear hp
 go_enter Tryz.func140,Tryz.ntmps140
 go_wp2_with fail
 refine wp_scope_jumps 0 (fun a' w'=>False) (fun _ _=>0) rfl ?_ (fun _ _ h=>h.elim)
 try rw [hW0]
 clear hW0
 go_wp2_with (go_at_call 75;refine HC.out.mono ?_;rintro e w1 ⟨rfl,hB1⟩;replace b0:=b0.below hB1 b0.lt;replace b1:=b1.below hB1 b1.lt;replace hB:=below_in hB hB1;replace hL0:=hL0.next hB1;have c0:=b0.cell 0;have c1:=b0.cell 1;simp only [List.getElem?_toArray,List.getElem?_cons_zero,List.getElem?_cons_succ] at c0 c1)
 have f0:=b1.frozen 0
 have f1:=b1.frozen 1
 have f2:=b1.frozen 2
 have f3:=b1.frozen 3
 have d0:=b1.cell 0
 have d1:=b1.cell 1
 have d2:=b1.cell 2
 have d3:=b1.cell 3
 have g0:=hL0.kinds.cell 2
 have g1:=hL0.kinds.cell 3
 simp only [kindCells,List.getElem?_toArray,List.getElem?_cons_zero,List.getElem?_cons_succ] at d0 d1 d2 d3 g0 g1
 go_region
 all_goals go_wp2
 all_goals simp only [Exit.jump]
 have r:=((((b1.set_ 0 (.int .i64 1)).set_ 1 (.int .i64 p)).set_ 2 (.int .i64 0)).set_ 3 (.int .i64 2))
 have r0:=r.cell 0
 have r1:=r.cell 1
 have r2:=r.cell 2
 have r3:=r.cell 3
 simp only [List.setIfInBounds_toArray,List.set_cons_zero,List.set_cons_succ,List.getElem?_toArray,List.getElem?_cons_zero,List.getElem?_cons_succ] at r0 r1 r2 r3
 exact bodyPost_ret (v:=.tuple #[.agg #[.int .i64 1,.int .i64 p,.int .i64 0,.int .i64 2],.int .i64 0]) (by simp [results,Tryz.results140,go_sem,r0,r1,r2,r3]) rfl ⟨rfl,(((hB.drew.setCell (by simp) _).setCell (by simp) _).setCell (by simp) _).setCell (by simp) _⟩

theorem sasked_2 (p:Int) (hp:p∈prm) (w:World) (hL:Laid w) :
 Calls Tryz.prog 140 #[.agg #[.int .i64 2,.int .i64 p]] w fun e w'=>e = .returned (.tuple #[.agg #[.int .i64 2,.int .i64 p,.int .i64 1,.int .i64 2],.int .i64 0])∧Below w.heap.size w w':=by
 obtain ⟨W0,hW0⟩:∃ W0,(w.alloc (.cells #[.int .i64 2,.int .i64 p] 37)).alloc (.cells #[.int .i64 0,.int .i64 0,.int .i64 0,.int .i64 0] 179)=W0:=⟨_,rfl⟩
 have b0:Blk W0 w.heap.size 37 #[.int .i64 2,.int .i64 p]:=by rw [←hW0];exact (Blk.new w _ _).alloc _
 have b1:Blk W0 (w.heap.size+1) 179 #[.int .i64 0,.int .i64 0,.int .i64 0,.int .i64 0]:=by rw [←hW0];exact Blk.second w _ _ _
 have hB:Below w.heap.size w W0:=by rw [←hW0];exact below_two w _ _
 have hL0:=hL.next hB
 have c0:=b0.cell 0
 have c1:=b0.cell 1
 simp only [List.getElem?_toArray,List.getElem?_cons_zero,List.getElem?_cons_succ] at c0 c1
 have HC:=Lib.hid (check_any p W0 hL0)
 rw [if_pos hp] at HC
 clear hp
 go_enter Tryz.func140,Tryz.ntmps140
 go_wp2_with fail
 refine wp_scope_jumps 0 (fun a' w'=>False) (fun _ _=>0) rfl ?_ (fun _ _ h=>h.elim)
 try rw [hW0]
 clear hW0
 go_wp2_with (go_at_call 75;refine HC.out.mono ?_;rintro e w1 ⟨rfl,hB1⟩;replace b0:=b0.below hB1 b0.lt;replace b1:=b1.below hB1 b1.lt;replace hB:=below_in hB hB1;replace hL0:=hL0.next hB1;have c0:=b0.cell 0;have c1:=b0.cell 1;simp only [List.getElem?_toArray,List.getElem?_cons_zero,List.getElem?_cons_succ] at c0 c1)
 have f0:=b1.frozen 0
 have f1:=b1.frozen 1
 have f2:=b1.frozen 2
 have f3:=b1.frozen 3
 have d0:=b1.cell 0
 have d1:=b1.cell 1
 have d2:=b1.cell 2
 have d3:=b1.cell 3
 have g0:=hL0.kinds.cell 4
 have g1:=hL0.kinds.cell 5
 simp only [kindCells,List.getElem?_toArray,List.getElem?_cons_zero,List.getElem?_cons_succ] at d0 d1 d2 d3 g0 g1
 go_region
 all_goals go_wp2
 all_goals simp only [Exit.jump]
 have r:=((((b1.set_ 0 (.int .i64 2)).set_ 1 (.int .i64 p)).set_ 2 (.int .i64 1)).set_ 3 (.int .i64 2))
 have r0:=r.cell 0
 have r1:=r.cell 1
 have r2:=r.cell 2
 have r3:=r.cell 3
 simp only [List.setIfInBounds_toArray,List.set_cons_zero,List.set_cons_succ,List.getElem?_toArray,List.getElem?_cons_zero,List.getElem?_cons_succ] at r0 r1 r2 r3
 exact bodyPost_ret (v:=.tuple #[.agg #[.int .i64 2,.int .i64 p,.int .i64 1,.int .i64 2],.int .i64 0]) (by simp [results,Tryz.results140,go_sem,r0,r1,r2,r3]) rfl ⟨rfl,(((hB.drew.setCell (by simp) _).setCell (by simp) _).setCell (by simp) _).setCell (by simp) _⟩

theorem sasked_3 (p:Int) (hp:p∈prm) (w:World) (hL:Laid w) :
 Calls Tryz.prog 140 #[.agg #[.int .i64 3,.int .i64 p]] w fun e w'=>e = .returned (.tuple #[.agg #[.int .i64 3,.int .i64 p,.int .i64 0,.int .i64 3],.int .i64 0])∧Below w.heap.size w w':=by
 obtain ⟨W0,hW0⟩:∃ W0,(w.alloc (.cells #[.int .i64 3,.int .i64 p] 37)).alloc (.cells #[.int .i64 0,.int .i64 0,.int .i64 0,.int .i64 0] 179)=W0:=⟨_,rfl⟩
 have b0:Blk W0 w.heap.size 37 #[.int .i64 3,.int .i64 p]:=by rw [←hW0];exact (Blk.new w _ _).alloc _
 have b1:Blk W0 (w.heap.size+1) 179 #[.int .i64 0,.int .i64 0,.int .i64 0,.int .i64 0]:=by rw [←hW0];exact Blk.second w _ _ _
 have hB:Below w.heap.size w W0:=by rw [←hW0];exact below_two w _ _
 have hL0:=hL.next hB
 have c0:=b0.cell 0
 have c1:=b0.cell 1
 simp only [List.getElem?_toArray,List.getElem?_cons_zero,List.getElem?_cons_succ] at c0 c1
 have HC:=Lib.hid (check_any p W0 hL0)
 rw [if_pos hp] at HC
 clear hp
 go_enter Tryz.func140,Tryz.ntmps140
 go_wp2_with fail
 refine wp_scope_jumps 0 (fun a' w'=>False) (fun _ _=>0) rfl ?_ (fun _ _ h=>h.elim)
 try rw [hW0]
 clear hW0
 go_wp2_with (go_at_call 75;refine HC.out.mono ?_;rintro e w1 ⟨rfl,hB1⟩;replace b0:=b0.below hB1 b0.lt;replace b1:=b1.below hB1 b1.lt;replace hB:=below_in hB hB1;replace hL0:=hL0.next hB1;have c0:=b0.cell 0;have c1:=b0.cell 1;simp only [List.getElem?_toArray,List.getElem?_cons_zero,List.getElem?_cons_succ] at c0 c1)
 have f0:=b1.frozen 0
 have f1:=b1.frozen 1
 have f2:=b1.frozen 2
 have f3:=b1.frozen 3
 have d0:=b1.cell 0
 have d1:=b1.cell 1
 have d2:=b1.cell 2
 have d3:=b1.cell 3
 have g0:=hL0.kinds.cell 6
 have g1:=hL0.kinds.cell 7
 simp only [kindCells,List.getElem?_toArray,List.getElem?_cons_zero,List.getElem?_cons_succ] at d0 d1 d2 d3 g0 g1
 go_region
 all_goals go_wp2
 all_goals simp only [Exit.jump]
 have r:=((((b1.set_ 0 (.int .i64 3)).set_ 1 (.int .i64 p)).set_ 2 (.int .i64 0)).set_ 3 (.int .i64 3))
 have r0:=r.cell 0
 have r1:=r.cell 1
 have r2:=r.cell 2
 have r3:=r.cell 3
 simp only [List.setIfInBounds_toArray,List.set_cons_zero,List.set_cons_succ,List.getElem?_toArray,List.getElem?_cons_zero,List.getElem?_cons_succ] at r0 r1 r2 r3
 exact bodyPost_ret (v:=.tuple #[.agg #[.int .i64 3,.int .i64 p,.int .i64 0,.int .i64 3],.int .i64 0]) (by simp [results,Tryz.results140,go_sem,r0,r1,r2,r3]) rfl ⟨rfl,(((hB.drew.setCell (by simp) _).setCell (by simp) _).setCell (by simp) _).setCell (by simp) _⟩

theorem sasked_low (k p:Int) (hk:k<1) (w:World) (hL:Laid w) :
 Calls Tryz.prog 140 #[.agg #[.int .i64 k,.int .i64 p]] w fun e w'=>e = .returned (.tuple #[.agg #[.int .i64 0,.int .i64 0,.int .i64 0,.int .i64 0],.int .i64 2])∧Below w.heap.size w w':=by
 obtain ⟨W0,hW0⟩:∃ W0,(w.alloc (.cells #[.int .i64 k,.int .i64 p] 37)).alloc (.cells #[.int .i64 0,.int .i64 0,.int .i64 0,.int .i64 0] 179)=W0:=⟨_,rfl⟩
 have b0:Blk W0 w.heap.size 37 #[.int .i64 k,.int .i64 p]:=by rw [←hW0];exact (Blk.new w _ _).alloc _
 have b1:Blk W0 (w.heap.size+1) 179 #[.int .i64 0,.int .i64 0,.int .i64 0,.int .i64 0]:=by rw [←hW0];exact Blk.second w _ _ _
 have hB:Below w.heap.size w W0:=by rw [←hW0];exact below_two w _ _
 have hL0:=hL.next hB
 have c0:=b0.cell 0
 have c1:=b0.cell 1
 simp only [List.getElem?_toArray,List.getElem?_cons_zero,List.getElem?_cons_succ] at c0 c1
 have d:decide (k≤0)=true:=by simp;omega
 go_enter Tryz.func140,Tryz.ntmps140
 go_wp2_with fail
 refine wp_scope_jumps 0 (fun a' w'=>Blk w' (w.heap.size+1) 179 #[.int .i64 0,.int .i64 0,.int .i64 0,.int .i64 0]∧Below w.heap.size w w'∧∃ (u4 u5 u6 u7 u8 u9 u10 u11 u12 u13 u14 u15 u16 u17 u18 u19 u20 u21 u22:Value),a' = { tmps:=#[.agg #[.int .i64 k,.int .i64 p],.pointer (some ⟨w.heap.size,0,none⟩),.pointer (some ⟨w.heap.size+1,0,none⟩),.int .i64 0,u4,u5,u6,u7,u8,u9,u10,u11,u12,u13,u14,u15,u16,u17,u18,u19,u20,u21,u22],defers:=[] }) (fun _ _=>0) rfl ?_ ?_
 · try rw [hW0]
   clear hW0
   go_wp2
   go_step3
   exact ⟨rfl,b1,hB,_,_,_,_,_,_,_,_,_,_,_,_,_,_,_,_,_,_,_,rfl⟩
 · clear hW0 b0 b1 hB hL0 c0 c1
   rintro a' w' ⟨b1,hB,u4,u5,u6,u7,u8,u9,u10,u11,u12,u13,u14,u15,u16,u17,u18,u19,u20,u21,u22,rfl⟩
   have f0:=b1.frozen 0
   have f1:=b1.frozen 1
   have f2:=b1.frozen 2
   have f3:=b1.frozen 3
   have d0:=b1.cell 0
   have d1:=b1.cell 1
   have d2:=b1.cell 2
   have d3:=b1.cell 3
   simp only [List.getElem?_toArray,List.getElem?_cons_zero,List.getElem?_cons_succ] at d0 d1 d2 d3
   go_wp2
   simp only [Exit.jump]
   have r:=((((b1.set_ 0 (.int .i64 0)).set_ 1 (.int .i64 0)).set_ 2 (.int .i64 0)).set_ 3 (.int .i64 0))
   have r0:=r.cell 0
   have r1:=r.cell 1
   have r2:=r.cell 2
   have r3:=r.cell 3
   simp only [List.setIfInBounds_toArray,List.set_cons_zero,List.set_cons_succ,List.getElem?_toArray,List.getElem?_cons_zero,List.getElem?_cons_succ] at r0 r1 r2 r3
   exact bodyPost_ret (v:=(.tuple #[.agg #[.int .i64 0,.int .i64 0,.int .i64 0,.int .i64 0],.int .i64 2])) (by simp [results,Tryz.results140,go_sem,r0,r1,r2,r3]) rfl ⟨rfl,(((hB.setCell (by simp) _).setCell (by simp) _).setCell (by simp) _).setCell (by simp) _⟩

theorem sasked_high (k p:Int) (hk:3<k) (w:World) (hL:Laid w) :
 Calls Tryz.prog 140 #[.agg #[.int .i64 k,.int .i64 p]] w fun e w'=>e = .returned (.tuple #[.agg #[.int .i64 0,.int .i64 0,.int .i64 0,.int .i64 0],.int .i64 2])∧Below w.heap.size w w':=by
 obtain ⟨W0,hW0⟩:∃ W0,(w.alloc (.cells #[.int .i64 k,.int .i64 p] 37)).alloc (.cells #[.int .i64 0,.int .i64 0,.int .i64 0,.int .i64 0] 179)=W0:=⟨_,rfl⟩
 have b0:Blk W0 w.heap.size 37 #[.int .i64 k,.int .i64 p]:=by rw [←hW0];exact (Blk.new w _ _).alloc _
 have b1:Blk W0 (w.heap.size+1) 179 #[.int .i64 0,.int .i64 0,.int .i64 0,.int .i64 0]:=by rw [←hW0];exact Blk.second w _ _ _
 have hB:Below w.heap.size w W0:=by rw [←hW0];exact below_two w _ _
 have hL0:=hL.next hB
 have c0:=b0.cell 0
 have c1:=b0.cell 1
 simp only [List.getElem?_toArray,List.getElem?_cons_zero,List.getElem?_cons_succ] at c0 c1
 have d:decide (k≤0)=false:=by simp;omega
 have d2:decide (3<k)=true:=by simpa using hk
 go_enter Tryz.func140,Tryz.ntmps140
 go_wp2_with fail
 refine wp_scope_jumps 0 (fun a' w'=>Blk w' (w.heap.size+1) 179 #[.int .i64 0,.int .i64 0,.int .i64 0,.int .i64 0]∧Below w.heap.size w w'∧∃ (u4 u5 u6 u7 u8 u9 u10 u11 u12 u13 u14 u15 u16 u17 u18 u19 u20 u21 u22:Value),a' = { tmps:=#[.agg #[.int .i64 k,.int .i64 p],.pointer (some ⟨w.heap.size,0,none⟩),.pointer (some ⟨w.heap.size+1,0,none⟩),.int .i64 0,u4,u5,u6,u7,u8,u9,u10,u11,u12,u13,u14,u15,u16,u17,u18,u19,u20,u21,u22],defers:=[] }) (fun _ _=>0) rfl ?_ ?_
 · try rw [hW0]
   clear hW0
   go_wp2
   go_step3
   exact ⟨rfl,b1,hB,_,_,_,_,_,_,_,_,_,_,_,_,_,_,_,_,_,_,_,rfl⟩
 · clear hW0 b0 b1 hB hL0 c0 c1
   rintro a' w' ⟨b1,hB,u4,u5,u6,u7,u8,u9,u10,u11,u12,u13,u14,u15,u16,u17,u18,u19,u20,u21,u22,rfl⟩
   have f0:=b1.frozen 0
   have f1:=b1.frozen 1
   have f2:=b1.frozen 2
   have f3:=b1.frozen 3
   have d0:=b1.cell 0
   have d1:=b1.cell 1
   have d2:=b1.cell 2
   have d3:=b1.cell 3
   simp only [List.getElem?_toArray,List.getElem?_cons_zero,List.getElem?_cons_succ] at d0 d1 d2 d3
   go_wp2
   simp only [Exit.jump]
   have r:=((((b1.set_ 0 (.int .i64 0)).set_ 1 (.int .i64 0)).set_ 2 (.int .i64 0)).set_ 3 (.int .i64 0))
   have r0:=r.cell 0
   have r1:=r.cell 1
   have r2:=r.cell 2
   have r3:=r.cell 3
   simp only [List.setIfInBounds_toArray,List.set_cons_zero,List.set_cons_succ,List.getElem?_toArray,List.getElem?_cons_zero,List.getElem?_cons_succ] at r0 r1 r2 r3
   exact bodyPost_ret (v:=(.tuple #[.agg #[.int .i64 0,.int .i64 0,.int .i64 0,.int .i64 0],.int .i64 2])) (by simp [results,Tryz.results140,go_sem,r0,r1,r2,r3]) rfl ⟨rfl,(((hB.setCell (by simp) _).setCell (by simp) _).setCell (by simp) _).setCell (by simp) _⟩

theorem sasked_bad (k p:Int) (hk:1≤k∧k≤3) (hp:p∉prm) (w:World) (hL:Laid w) :
 Calls Tryz.prog 140 #[.agg #[.int .i64 k,.int .i64 p]] w fun e w'=>e = .returned (.tuple #[.agg #[.int .i64 0,.int .i64 0,.int .i64 0,.int .i64 0],.int .i64 2])∧Below w.heap.size w w':=by
 obtain ⟨W0,hW0⟩:∃ W0,(w.alloc (.cells #[.int .i64 k,.int .i64 p] 37)).alloc (.cells #[.int .i64 0,.int .i64 0,.int .i64 0,.int .i64 0] 179)=W0:=⟨_,rfl⟩
 have b0:Blk W0 w.heap.size 37 #[.int .i64 k,.int .i64 p]:=by rw [←hW0];exact (Blk.new w _ _).alloc _
 have b1:Blk W0 (w.heap.size+1) 179 #[.int .i64 0,.int .i64 0,.int .i64 0,.int .i64 0]:=by rw [←hW0];exact Blk.second w _ _ _
 have hB:Below w.heap.size w W0:=by rw [←hW0];exact below_two w _ _
 have hL0:=hL.next hB
 have c0:=b0.cell 0
 have c1:=b0.cell 1
 simp only [List.getElem?_toArray,List.getElem?_cons_zero,List.getElem?_cons_succ] at c0 c1
 have d:decide (k≤0)=false:=by simp;omega
 have d2:decide (3<k)=false:=by simp;omega
 have HC:=Lib.hid (check_any p W0 hL0)
 rw [if_neg hp] at HC
 clear hp hk
 go_enter Tryz.func140,Tryz.ntmps140
 go_wp2_with fail
 refine wp_scope_jumps 0 (fun a' w'=>Blk w' (w.heap.size+1) 179 #[.int .i64 0,.int .i64 0,.int .i64 0,.int .i64 0]∧Below w.heap.size w w'∧∃ (u4 u5 u6 u7 u8 u9 u10 u11 u12 u13 u14 u15 u16 u17 u18 u19 u20 u21 u22:Value),a' = { tmps:=#[.agg #[.int .i64 k,.int .i64 p],.pointer (some ⟨w.heap.size,0,none⟩),.pointer (some ⟨w.heap.size+1,0,none⟩),.int .i64 0,u4,u5,u6,u7,u8,u9,u10,u11,u12,u13,u14,u15,u16,u17,u18,u19,u20,u21,u22],defers:=[] }) (fun _ _=>0) rfl ?_ ?_
 · try rw [hW0]
   clear hW0
   go_wp2_with (go_at_call 75;refine HC.out.mono ?_;rintro e w1 ⟨rfl,hB1⟩;replace b0:=b0.below hB1 b0.lt;replace b1:=b1.below hB1 b1.lt;replace hB:=below_in hB hB1;replace hL0:=hL0.next hB1;have c0:=b0.cell 0;have c1:=b0.cell 1;simp only [List.getElem?_toArray,List.getElem?_cons_zero,List.getElem?_cons_succ] at c0 c1)
   go_step3
   exact ⟨rfl,b1,hB,_,_,_,_,_,_,_,_,_,_,_,_,_,_,_,_,_,_,_,rfl⟩
 · clear hW0 b0 b1 hB hL0 c0 c1
   rintro a' w' ⟨b1,hB,u4,u5,u6,u7,u8,u9,u10,u11,u12,u13,u14,u15,u16,u17,u18,u19,u20,u21,u22,rfl⟩
   have f0:=b1.frozen 0
   have f1:=b1.frozen 1
   have f2:=b1.frozen 2
   have f3:=b1.frozen 3
   have d0:=b1.cell 0
   have d1:=b1.cell 1
   have d2:=b1.cell 2
   have d3:=b1.cell 3
   simp only [List.getElem?_toArray,List.getElem?_cons_zero,List.getElem?_cons_succ] at d0 d1 d2 d3
   go_wp2
   simp only [Exit.jump]
   have r:=((((b1.set_ 0 (.int .i64 0)).set_ 1 (.int .i64 0)).set_ 2 (.int .i64 0)).set_ 3 (.int .i64 0))
   have r0:=r.cell 0
   have r1:=r.cell 1
   have r2:=r.cell 2
   have r3:=r.cell 3
   simp only [List.setIfInBounds_toArray,List.set_cons_zero,List.set_cons_succ,List.getElem?_toArray,List.getElem?_cons_zero,List.getElem?_cons_succ] at r0 r1 r2 r3
   exact bodyPost_ret (v:=(.tuple #[.agg #[.int .i64 0,.int .i64 0,.int .i64 0,.int .i64 0],.int .i64 2])) (by simp [results,Tryz.results140,go_sem,r0,r1,r2,r3]) rfl ⟨rfl,(((hB.setCell (by simp) _).setCell (by simp) _).setCell (by simp) _).setCell (by simp) _⟩

theorem sasked_any (k p:Int) (w:World) (hL:Laid w):Calls Tryz.prog 140 #[.agg #[.int .i64 k,.int .i64 p]] w (SAsked k p w):=by
 by_cases hk:1≤k∧k≤3
 · by_cases hp:p∈prm
   · have hR:RightC k p:=⟨hk,hp⟩
     obtain rfl | rfl | rfl:k=1∨k=2∨k=3:=by omega
     · exact (sasked_1 p hp w hL).mono fun _ _ h=>⟨fun _=>h.1,fun hn=>absurd hR hn,h.2⟩
     · exact (sasked_2 p hp w hL).mono fun _ _ h=>⟨fun _=>h.1,fun hn=>absurd hR hn,h.2⟩
     · exact (sasked_3 p hp w hL).mono fun _ _ h=>⟨fun _=>h.1,fun hn=>absurd hR hn,h.2⟩
   · have hR:¬ RightC k p:=fun h=>hp h.2
     exact (sasked_bad k p hk hp w hL).mono fun _ _ h=>⟨fun hr=>absurd hr hR,fun _=>h.1,h.2⟩
 · have hR:¬ RightC k p:=fun h=>hk h.1
   rcases Int.lt_or_le k 1 with h1 | h1
   · exact (sasked_low k p h1 w hL).mono fun _ _ h=>⟨fun hr=>absurd hr hR,fun _=>h.1,h.2⟩
   · exact (sasked_high k p (by omega) w hL).mono fun _ _ h=>⟨fun hr=>absurd hr hR,fun _=>h.1,h.2⟩
end Go.Proofs.YtkllhjhkcipkoaaGreatDoor

namespace Go.Proofs.YtkllhjhkcipkoaaGreatDoor
open Go.RowKit Go.Shelf

theorem Tells.mk {c:Prop} {n b:Int} {w w':World} {e:Ending} (hc:c) (h:e = .returned (.tuple #[.int .i64 n,.int .i64 0])∧Below w.heap.size w w'):Tells c n b w e w':=⟨fun _=>h.1,fun hn=>absurd hc hn,h.2⟩
theorem Tells.mkn {c:Prop} {n b:Int} {w w':World} {e:Ending} (hc:¬ c) (h:e = .returned (.tuple #[.int .i64 0,.int .i64 b])∧Below w.heap.size w w'):Tells c n b w e w':=⟨fun h=>absurd h hc,fun _=>h.1,h.2⟩

theorem counted_any (f:Nat) (r:Int→Int→Int) (ef:∀ args W,(callFunc f args).run Tryz.prog W = .ok (.enter f args) W) (k p:Int)
 (hf:RightC k p→∀ W,Calls Tryz.prog f #[(.agg #[.int .i64 k,.int .i64 p,.int .i64 (shortN k),.int .i64 (madeN k)])] W fun e w'=>e = .returned (.int .i64 (r k p))∧Below W.heap.size W w') (w:World) (hL:Laid w) :
 Calls Tryz.prog 152 #[.agg #[.int .i64 k,.int .i64 p],.func (.func f) #[] #[]] w (Tells (RightC k p) (r k p) 2 w):=by
 have hB:=below_one w (.cells #[.int .i64 k,.int .i64 p] 37)
 by_cases hR:RightC k p
 · refine Calls.mono ?_ fun _ _ h=>Tells.mk hR h
   have HA:=Lib.hid ((sasked_any k p _ (hL.next hB)).mono fun _ _ h=>And.intro (h.1 hR) h.2.2)
   have HF:=Lib.hid (hf hR)
   clear hf hR
   generalize r k p=n at *
   generalize shortN k=s at *
   generalize madeN k=m at *
   go_enter Tryz.func152,Tryz.ntmps152
   go_wp2_with fail
   refine HA.out.mono ?_
   rintro e w1 ⟨rfl,hB1⟩
   replace hB:=below_in hB hB1
   go_wp2_with fail
   refine (HF.out _).mono ?_
   rintro e w2 ⟨rfl,hB2⟩
   go_wp2
   go_ret2
   exact ⟨rfl,below_in (below_in hB (below_one _ _)) hB2⟩
 · refine Calls.mono ?_ fun _ _ h=>Tells.mkn hR h
   have HA:=Lib.hid ((sasked_any k p _ (hL.next hB)).mono fun _ _ h=>And.intro (h.2.1 hR) h.2.2)
   clear hf hR
   go_enter Tryz.func152,Tryz.ntmps152
   go_wp2_with fail
   refine HA.out.mono ?_
   rintro e w1 ⟨rfl,hB1⟩
   replace hB:=below_in hB hB1
   go_wp2
   go_ret2
   exact ⟨rfl,below_in hB (below_one _ _)⟩

theorem enter_rows:∀ args W,(callFunc 153 args).run Tryz.prog W = .ok (.enter 153 args) W:=enters_of Tryz.func153 (by kernel_rfl) rfl
theorem shapeRows_any (k p:Int) (w:World) (hL:Laid w):Calls Tryz.prog 142 #[.agg #[.int .i64 k,.int .i64 p]] w (Tells (RightC k p) (p - 1) 2 w):=by
 have hB:=below_one w (.cells #[.int .i64 k,.int .i64 p] 37)
 have HC:=Lib.hid (counted_any 153 (fun k p=>(p - 1)) enter_rows k p (fun hR W=>rows_any k p _ _ hR.und W) _ (hL.next hB))
 by_cases hR:RightC k p
 · refine Calls.mono ?_ fun _ _ h=>Tells.mk hR h
   generalize (p - 1)=n at *
   have HR:=Lib.hid hR
   clear hR
   go_enter Tryz.func142,Tryz.ntmps142
   go_wp2_with (go_at_call 152;refine HC.out.mono ?_;rintro e w1 ⟨h1,_,hB1⟩;obtain rfl:=h1 HR.out)
   go_ret2
   exact ⟨rfl,below_in hB hB1⟩
 · refine Calls.mono ?_ fun _ _ h=>Tells.mkn hR h
   generalize (p - 1)=n at *
   have HR:=Lib.hid hR
   clear hR
   go_enter Tryz.func142,Tryz.ntmps142
   go_wp2_with (go_at_call 152;refine HC.out.mono ?_;rintro e w1 ⟨_,h1,hB1⟩;obtain rfl:=h1 HR.out)
   go_ret2
   exact ⟨rfl,below_in hB hB1⟩

theorem shapeCheck_any (k p:Int) (w:World) (hL:Laid w):Calls Tryz.prog 120 #[.agg #[.int .i64 k,.int .i64 p]] w fun e w'=>(RightC k p→e = .returned (.int .i64 0))∧(¬ RightC k p→e = .returned (.int .i64 2))∧Below w.heap.size w w':=by
 have hB:=below_one w (.cells #[.int .i64 k,.int .i64 p] 37)
 have HA:=Lib.hid (sasked_any k p _ (hL.next hB))
 by_cases hR:RightC k p
 · refine Calls.mono (R:=fun e w'=>e = .returned (.int .i64 0)∧Below w.heap.size w w') ?_ fun _ _ h=>⟨fun _=>h.1,fun hn=>absurd hR hn,h.2⟩
   have HR:=Lib.hid hR
   clear hR
   go_enter Tryz.func120,Tryz.ntmps120
   go_wp2_with (go_at_call 140;refine HA.out.mono ?_;rintro e w1 ⟨h1,_,hB1⟩;obtain rfl:=h1 HR.out)
   go_ret
   exact ⟨rfl,below_in (below_in hB hB1) (below_one _ _)⟩
 · refine Calls.mono (R:=fun e w'=>e = .returned (.int .i64 2)∧Below w.heap.size w w') ?_ fun _ _ h=>⟨fun hn=>absurd hn hR,fun _=>h.1,h.2⟩
   have HR:=Lib.hid hR
   clear hR
   go_enter Tryz.func120,Tryz.ntmps120
   go_wp2_with (go_at_call 140;refine HA.out.mono ?_;rintro e w1 ⟨_,h1,hB1⟩;obtain rfl:=h1 HR.out)
   go_ret
   exact ⟨rfl,below_in (below_in hB hB1) (below_one _ _)⟩

def Told (c b:Prop) (zero:Value) (R:Value→World→Prop) (w:World) (e:Ending) (w':World):Prop :=
 (¬ c→e = .returned (.tuple #[zero,.int .i64 2]))∧(c→¬ b→e = .returned (.tuple #[zero,.int .i64 4]))∧(c→b→∃ v,e = .returned (.tuple #[v,.int .i64 0])∧R v w')∧Below w.heap.size w w'
theorem Told.no {c b:Prop} {zero:Value} {R:Value→World→Prop} {w w':World} {e:Ending} (hc:¬ c) (h:e = .returned (.tuple #[zero,.int .i64 2])∧Below w.heap.size w w'):Told c b zero R w e w':=⟨fun _=>h.1,fun h=>absurd h hc,fun h=>absurd h hc,h.2⟩
theorem Told.out {c b:Prop} {zero:Value} {R:Value→World→Prop} {w w':World} {e:Ending} (hc:c) (hb:¬ b) (h:e = .returned (.tuple #[zero,.int .i64 4])∧Below w.heap.size w w'):Told c b zero R w e w':=⟨fun h=>absurd hc h,fun _ _=>h.1,fun _ h=>absurd h hb,h.2⟩
theorem Told.yes {c b:Prop} {zero:Value} {R:Value→World→Prop} {w w':World} {e:Ending} (hc:c) (hb:b) (h:∃ v,e = .returned (.tuple #[v,.int .i64 0])∧R v w'∧Below w.heap.size w w'):Told c b zero R w e w':=by
 obtain ⟨v,h1,h2,h3⟩:=h
 exact ⟨fun h=>absurd hc h,fun _ h=>absurd hb h,fun _ _=>⟨v,h1,h2⟩,h3⟩
theorem Told.one {c b:Prop} {zero v:Value} {w w':World} {e:Ending} (h:Told c b zero (fun u _=>u=v) w e w'):(¬ c→e = .returned (.tuple #[zero,.int .i64 2]))∧(c→¬ b→e = .returned (.tuple #[zero,.int .i64 4]))∧(c→b→e = .returned (.tuple #[v,.int .i64 0]))∧Below w.heap.size w w' :=
 ⟨h.1,h.2.1,fun hc hb=>by obtain ⟨u,h1,rfl⟩:=h.2.2.1 hc hb;exact h1,h.2.2.2⟩

end Go.Proofs.YtkllhjhkcipkoaaGreatDoor

namespace Go.Proofs.YtkllhjhkcipkoaaGreatDoor
open Go.RowKit Go.Shelf

def Tells3 (c b:Prop) (zero v:Value) (w:World) (e:Ending) (w':World):Prop :=
 (¬ c→e = .returned (.tuple #[zero,.int .i64 2]))∧(c→¬ b→e = .returned (.tuple #[zero,.int .i64 4]))∧(c→b→e = .returned (.tuple #[v,.int .i64 0]))∧Below w.heap.size w w'
theorem Tells3.no {c b:Prop} {zero v:Value} {w w':World} {e:Ending} (hc:¬ c) (h:e = .returned (.tuple #[zero,.int .i64 2])∧Below w.heap.size w w'):Tells3 c b zero v w e w':=⟨fun _=>h.1,fun h=>absurd h hc,fun h=>absurd h hc,h.2⟩
theorem Tells3.out {c b:Prop} {zero v:Value} {w w':World} {e:Ending} (hc:c) (hb:¬ b) (h:e = .returned (.tuple #[zero,.int .i64 4])∧Below w.heap.size w w'):Tells3 c b zero v w e w':=⟨fun h=>absurd hc h,fun _ _=>h.1,fun _ h=>absurd h hb,h.2⟩
theorem Tells3.yes {c b:Prop} {zero v:Value} {w w':World} {e:Ending} (hc:c) (hb:b) (h:e = .returned (.tuple #[v,.int .i64 0])∧Below w.heap.size w w'):Tells3 c b zero v w e w':=⟨fun h=>absurd hc h,fun _ h=>absurd hb h,fun _ _=>h.1,h.2⟩

def HasCell (k p x y:Int):Prop:=(0≤x∧x<p - shortN k+madeN k)∧0≤y∧y<p - 1
end Go.Proofs.YtkllhjhkcipkoaaGreatDoor

namespace Go.Proofs.YtkllhjhkcipkoaaGreatDoor
open Go.RowKit Go.Shelf

theorem refRows_any (k p:Int) (hR:RightC k p) (w:World):Calls Tryz.prog 36 #[(.agg #[.int .i64 k,.int .i64 p])] w fun e w'=>e = .returned (.int .i64 (p - 1))∧Below w.heap.size w w':=by
 obtain ⟨p1,p2,s1,s2,m1,m2⟩:=hR.und
 go_enter Tryz.func36,Tryz.ntmps36
 go_wp2
 go_ret
 exact ⟨rfl,(below_one w _)⟩

theorem refData_any (k p:Int) (hR:RightC k p) (w:World):Calls Tryz.prog 46 #[(.agg #[.int .i64 k,.int .i64 p])] w fun e w'=>e = .returned (.int .i64 (p - shortN k))∧Below w.heap.size w w':=by
 obtain ⟨p1,p2,s1,s2,m1,m2⟩:=hR.und
 by_cases h:k=2
 · subst h
   go_enter Tryz.func46,Tryz.ntmps46
   go_wp2
   go_ret
   exact ⟨rfl,(below_one w _)⟩
 · have d:((k:Int) == 2)=false:=by simpa using h
   have e:shortN k=0:=if_neg h
   rw [e]
   go_enter Tryz.func46,Tryz.ntmps46
   go_wp2
   go_ret
   exact ⟨ret_i64 (by omega),(below_one w _)⟩

theorem refLost_any (k p:Int) (hR:RightC k p) (w:World):Calls Tryz.prog 66 #[(.agg #[.int .i64 k,.int .i64 p])] w fun e w'=>e = .returned (.int .i64 (madeN k))∧Below w.heap.size w w':=by
 obtain ⟨p1,p2,s1,s2,m1,m2⟩:=hR.und
 by_cases h:k=3
 · subst h
   go_enter Tryz.func66,Tryz.ntmps66
   go_wp2
   go_ret
   exact ⟨rfl,(below_one w _)⟩
 · have d:((k:Int) == 3)=false:=by simpa using h
   have e:madeN k=2:=if_neg h
   rw [e]
   go_enter Tryz.func66,Tryz.ntmps66
   go_wp2
   go_ret
   exact ⟨rfl,(below_one w _)⟩

theorem refCols_any (k p:Int) (hR:RightC k p) (w:World):Calls Tryz.prog 47 #[(.agg #[.int .i64 k,.int .i64 p])] w fun e w'=>e = .returned (.int .i64 (p - shortN k+madeN k))∧Below w.heap.size w w':=by
 obtain ⟨p1,p2,s1,s2,m1,m2⟩:=hR.und
 have HD:=Lib.hid (fun W=>refData_any k p hR W)
 have HLo:=Lib.hid (fun W=>refLost_any k p hR W)
 clear hR
 generalize shortN k=s at *
 generalize madeN k=m at *
 have e1:=IntWalk.i64_in (p - s+m) (by omega)
 go_enter Tryz.func47,Tryz.ntmps47
 go_wp2
 obtain ⟨W0,hW0⟩:∃ W0,w.alloc (.cells #[.int .i64 k,.int .i64 p] 37)=W0:=⟨_,rfl⟩
 have b0:Blk W0 w.heap.size 37 #[.int .i64 k,.int .i64 p]:=by rw [←hW0];exact Blk.new w _ _
 have hB:Below w.heap.size w W0:=by rw [←hW0];exact below_one w _
 rw [hW0]
 clear hW0
 go_region_held3 (fun W=>W.cell? ⟨w.heap.size,0,none⟩=some (.int .i64 k)∧W.cell? ⟨w.heap.size,1,none⟩=some (.int .i64 p))
  (exact ⟨b0.cell 0,b0.cell 1⟩) (first
  | (go_at_call 46;refine (HD.out _).mono ?_;rintro e w1 ⟨rfl,hB1⟩;(first | replace b0:=b0.below hB1 b0.lt | replace b0:=b0.nextd hB1);(first | replace hB:=below_in hB hB1 | replace hB:=below_in hB.drew hB1))
  | (go_at_call 66;refine (HLo.out _).mono ?_;rintro e w1 ⟨rfl,hB1⟩;(first | replace b0:=b0.below hB1 b0.lt | replace b0:=b0.nextd hB1);(first | replace hB:=below_in hB hB1 | replace hB:=below_in hB.drew hB1)))
 all_goals go_wp2
 all_goals go_ret
 all_goals exact ⟨rfl,hB⟩

def rroleN (d x:Int):Int:=if x<d then 1 else x - d+2
theorem role_eq {p s m x:Int} (h:0≤x∧x<p - s+m) (hu:Und p s m):roleN (p - s) x=rroleN (p - s) x:=by
 obtain ⟨p1,p2,s1,s2,m1,m2⟩:=hu
 unfold roleN rroleN
 split <;> (try split) <;> (try split) <;> (try split) <;> omega
theorem refRole_any (k p x:Int) (hR:RightC k p) (hx:0≤x∧x<1000) (w:World):Calls Tryz.prog 84 #[(.agg #[.int .i64 k,.int .i64 p]),.int .i64 x] w fun e w'=>e = .returned (.int .i64 (rroleN (p - shortN k) x))∧Below w.heap.size w w':=by
 obtain ⟨p1,p2,s1,s2,m1,m2⟩:=hR.und
 have HD:=Lib.hid (fun W=>refData_any k p hR W)
 clear hR
 generalize shortN k=s at *
 by_cases h:x<p - s
 · have d:decide (x<p - s)=true:=by simpa using h
   have e:rroleN (p - s) x=1:=if_pos h
   rw [e]
   go_enter Tryz.func84,Tryz.ntmps84
   go_wp2_with fail
   obtain ⟨W0,hW0⟩:∃ W0,w.alloc (.cells #[.int .i64 k,.int .i64 p] 37)=W0:=⟨_,rfl⟩
   have b0:Blk W0 w.heap.size 37 #[.int .i64 k,.int .i64 p]:=by rw [←hW0];exact Blk.new w _ _
   have hB:Below w.heap.size w W0:=by rw [←hW0];exact below_one w _
   try rw [hW0]
   clear hW0
   have c0:=b0.cell 0
   have c1:=b0.cell 1
   simp only [List.getElem?_toArray,List.getElem?_cons_zero,List.getElem?_cons_succ] at c0 c1
   go_wp2_with (go_at_call 46;refine (HD.out _).mono ?_;rintro e w1 ⟨rfl,hB1⟩;(first | replace b0:=b0.below hB1 b0.lt | replace b0:=b0.nextd hB1);(first | replace hB:=below_in hB hB1 | replace hB:=below_in hB.drew hB1))
   go_ret
   exact ⟨rfl,hB⟩
 · have d:decide (x<p - s)=false:=decide_eq_false h
   have e:rroleN (p - s) x=x - (p - s)+2:=if_neg h
   rw [e]
   go_enter Tryz.func84,Tryz.ntmps84
   go_wp2_with fail
   obtain ⟨W0,hW0⟩:∃ W0,w.alloc (.cells #[.int .i64 k,.int .i64 p] 37)=W0:=⟨_,rfl⟩
   have b0:Blk W0 w.heap.size 37 #[.int .i64 k,.int .i64 p]:=by rw [←hW0];exact Blk.new w _ _
   have hB:Below w.heap.size w W0:=by rw [←hW0];exact below_one w _
   try rw [hW0]
   clear hW0
   have c0:=b0.cell 0
   have c1:=b0.cell 1
   simp only [List.getElem?_toArray,List.getElem?_cons_zero,List.getElem?_cons_succ] at c0 c1
   go_wp2_with (go_at_call 46;refine (HD.out _).mono ?_;rintro e w1 ⟨rfl,hB1⟩;(first | replace b0:=b0.below hB1 b0.lt | replace b0:=b0.nextd hB1);(first | replace hB:=below_in hB hB1 | replace hB:=below_in hB.drew hB1);have c0:=b0.cell 0;have c1:=b0.cell 1;simp only [List.getElem?_toArray,List.getElem?_cons_zero,List.getElem?_cons_succ] at c0 c1)
   go_ret
   exact ⟨rfl,hB⟩

theorem refDiagonal_any (k p x y:Int) (hR:RightC k p) (hx:0≤x∧x<24) (hy:0≤y∧y<24) (w:World):Calls Tryz.prog 85 #[(.agg #[.int .i64 k,.int .i64 p]),(.agg #[.int .i64 x,.int .i64 y])] w fun e w'=>e = .returned (.int .i64 ((x+y) % p))∧Below w.heap.size w w':=by
 obtain ⟨p1,p2,s1,s2,m1,m2⟩:=hR.und
 have e1:(x+y).tmod p=(x+y) % p:=Int.tmod_eq_emod_of_nonneg (by omega)
 have n0:¬ p=0:=by omega
 go_enter Tryz.func85,Tryz.ntmps85
 go_wp2
 go_ret
 exact ⟨rfl,below_two w _ _⟩

theorem refSlant_any (k p x y:Int) (hR:RightC k p) (hx:0≤x∧x<24) (hy:0≤y∧y<24) (w:World):Calls Tryz.prog 86 #[(.agg #[.int .i64 k,.int .i64 p]),(.agg #[.int .i64 x,.int .i64 y])] w fun e w'=>e = .returned (.int .i64 ((y - x) % p))∧Below w.heap.size w w':=by
 obtain ⟨p1,p2,s1,s2,m1,m2⟩:=hR.und
 have HO:=Lib.hid (fun W=>rof_any p (y - x) W (by omega) (by omega) (by omega) (by omega))
 go_enter Tryz.func86,Tryz.ntmps86
 go_wp2_with (go_at_call 52;refine (HO.out _).mono ?_;rintro e w1 ⟨rfl,rfl⟩)
 go_ret
 exact ⟨rfl,below_two w _ _⟩

end Go.Proofs.YtkllhjhkcipkoaaGreatDoor

namespace Go.Proofs.YtkllhjhkcipkoaaGreatDoor
open Go.RowKit Go.Shelf

theorem wpList_code (w:World) {ops:Array Oper} {rest:List Oper} {o:Oper} {a:Act} {Q:Exit→Act→World→Prop} (hgd:o.guard=none) (s x:Operand) (t e:TypeId) (z:Value) (bytes:Nat)
 (ho:o.op = .call { callee:=.builtin .append,args:=#[s,x],argTypes:=#[t,t] }) (ht:Tryz.prog.underlying t=some (.slice e)) (hinfo:(Tryz.prog.info? e).map (fun i=>(i.zero,i.size,i.bytes))=some (some z,2,bytes)) (hzs:z.cells.size=2)
 (base:Nat) (v:Value) (xs:List Value) (hs:a.eval s=v) (n:Nat) (hown:w.ownsRow base e 2 v n xs) (g:Nat) (c:Nat) (k p:Int) (hx:a.eval x = .slice (some ⟨g,0,none⟩) 1 c) (hu:Blk w g e #[.int .i64 k,.int .i64 p])
 (hlen:n≤1000000000) (hby2:bytes≤100) (hbase:base≤w.heap.size)
 (h:∀ v' w',w'.ownsRow base e 2 v' (n+1) (xs ++ [.int .i64 k,.int .i64 p])→w.grownBy w' v.ownBlock→wpList Tryz.prog ops Q rest (a.put o.dst v') w'):wpList Tryz.prog ops Q (o :: rest) a w :=
 wpList_plain hgd fun K hK=>by
  obtain ⟨i,hi,hz0,hz1,hz2⟩:=info_parts hinfo
  have hb:(n+1) * bytes≤140737488355328:=by
   have:=Nat.mul_le_mul (show n+1≤1000000001 by omega) hby2
   omega
  obtain ⟨v',w',hrun,r1,r2,_,r3⟩:=run_append_own_at (P:=Tryz.prog) w base t o.type e i z 2 bytes ht hi hz0 hz1 hz2 hzs (by omega) v n xs hown ⟨g,0,none⟩ 1 c [.int .i64 k,.int .i64 p] (by simp) (by
   intro j y hy
   rw [addr_add,Nat.zero_add,hu.cell j]
   rw [List.getElem?_toArray]
   exact hy) (by intro y hy;simp only [List.mem_cons,List.not_mem_nil,or_false] at hy;rcases hy with rfl | rfl <;> rfl) (by unfold maxLen;omega) hb hbase
  unfold Oper.wp execOp
  simp only [ho,resolve,invoke,builtin,Sem.run_bind,Sem.run_pure,Result.andThen_ok,List.map_toArray,List.map_cons,List.map_nil,hs,hx,hrun]
  exact hK _ _ (h v' w' r1 r2)

def allC:List (Int×Int):=[1,2,3].flatMap fun k=>prm.map fun p=>(k,p)
def codeCells (l:List (Int×Int)):List Value:=l.flatMap fun c=>[.int .i64 c.1,.int .i64 c.2]
theorem codeCells_at (l:List (Int×Int)) (j:Nat) (hj:j<l.length):(codeCells l)[2 * j]?=some (.int .i64 (l[j]).1)∧(codeCells l)[2 * j+1]?=some (.int .i64 (l[j]).2):=by
 unfold codeCells
 induction l generalizing j with
 | nil=>simp at hj
 | cons c l ih =>
   cases j with
   | zero=>exact ⟨rfl,rfl⟩
   | succ j =>
     have:=ih j (by simpa using hj)
     exact this
theorem allC_next:∀ j∈List.range 3,∀ i∈List.range 6,allC.take (6 * j+(i+1))=allC.take (6 * j+i) ++ [(((j+1:Nat):Int),prm[i]?.getD 0)]:=by decide +kernel
theorem allC_len:allC.length=18:=by decide +kernel
def OwnC (w:World) (base:Nat) (v:Value) (l:List (Int×Int)):Prop:=w.ownsRow base 37 2 v l.length (codeCells l)
theorem OwnC.grown_ {w w':World} {base:Nat} {v:Value} {l:List (Int×Int)} (h:OwnC w base v l) (hg:w.grownBy w' none):OwnC w' base v l :=
 World.ownsRow.kept h hg (by cases hv:v.ownBlock <;> simp)
theorem OwnC.below {w w':World} {base:Nat} {v:Value} {l:List (Int×Int)} (h:OwnC w base v l) (hb:Below w.heap.size w w'):OwnC w' base v l:=by
 refine ⟨h.1,?_⟩
 rcases h.2 with h1 | ⟨g,cap,cur,e,h2,hg,rest⟩
 · exact .inl h1
 · exact .inr ⟨g,cap,cur,e,h2,(hb.block g (Array.getElem?_eq_some_iff.1 hg).1).trans hg,rest⟩
theorem OwnC.ne {w:World} {base:Nat} {v:Value} {l:List (Int×Int)} (h:OwnC w base v l) {g:Nat} {t:TypeId} {cs:Array Value} (hb:Blk w g t cs) (ht:t≠37):some g≠v.ownBlock:=by
 rcases h.2 with ⟨rfl,_⟩ | ⟨g',cap,cur,rfl,_,hg,_⟩
 · intro e;cases e
 · intro e
   injection e with e
   subst e
   unfold Blk at hb
   rw [hb] at hg
   injection hg with hg
   injection hg with _ h2 _
   exact ht h2
theorem OwnC.own_le {w:World} {base:Nat} {v:Value} {l:List (Int×Int)} (h:OwnC w base v l):∀ k,v.ownBlock=some k→base≤k:=fun k e=>(World.ownsRow.lt h k e).1
theorem OwnC.next {w:World} {base:Nat} {v:Value} {j i:Nat} {kk:Int} (hk:Hid (((j+1:Nat):Int)=kk)) (hj:j<3) (hi:i<6) (h:w.ownsRow base 37 2 v ((allC.take (6 * j+i)).length+1) (codeCells (allC.take (6 * j+i)) ++ [.int .i64 kk,.int .i64 (prm[i]?.getD 0)])):OwnC w base v (allC.take (6 * j+(i+1))):=by
 unfold Hid at hk
 subst hk
 have e:=allC_next j (List.mem_range.2 hj) i (List.mem_range.2 hi)
 unfold OwnC
 rw [e,List.length_append]
 unfold codeCells at *
 rw [List.flatMap_append]
 exact h

end Go.Proofs.YtkllhjhkcipkoaaGreatDoor

namespace Go.Proofs.YtkllhjhkcipkoaaGreatDoor
open Go.ChangeShapes Go.WideShapes Go.ChangeAt Go.RowKit Go.Shelf

theorem gPrimes : Tryz.prog.globalNamed "palisade/mod.primes" = some 0 := by kernel_rfl
theorem tPrimes:(Tryz.prog.globals[0]?).map (·.type)=some 175:=by kernel_rfl
theorem gKinds : Tryz.prog.globalNamed "palisade/shape.kinds" = some 1 := by kernel_rfl
theorem tKinds:(Tryz.prog.globals[1]?).map (·.type)=some 194:=by kernel_rfl
def laidL : List (String × DataW Unit) := [("palisade/mod.primes", Rows.laid_palisade_mod_primes), ("palisade/shape.kinds", Rows.laid_palisade_shape_kinds)]
theorem door_met (os:Os) (args:Array Value):laidMetH Tryz.prog laidL ((World.doorLaid Tryz.prog 200 os).forCall (fun _ _=>0) ⟨#[],args,[]⟩).memory :=
 laidMetH_of_parts3 (fuel:=8) (laidMet_of_run' 8 (by kernel_rfl) (by kernel_rfl)) (by kernel_rfl) (by kernel_rfl)

theorem cells_int:Tryz.prog.cellsOf 3=1:=by kernel_rfl
theorem cells_kind:Tryz.prog.cellsOf 177=2:=by kernel_rfl
theorem cells_kinds:Tryz.prog.cellsOf 194=8:=by kernel_rfl
theorem list2 {α:Type} (l:List α) (h:l.length=2):∃ a b,l = [a,b]:=by
 match l,h with
 | [a,b],_=>exact ⟨a,b,rfl⟩
theorem list4 {α:Type} (l:List α) (h:l.length=4):∃ a b c d,l = [a,b,c,d]:=by
 match l,h with
 | [a,b,c,d],_=>exact ⟨a,b,c,d,rfl⟩
theorem list8 {α:Type} (l:List α) (h:l.length=8):∃ a b c d e f g i,l = [a,b,c,d,e,f,g,i]:=by
 match l,h with
 | [a,b,c,d,e,f,g,i],_=>exact ⟨a,b,c,d,e,f,g,i,rfl⟩

theorem two_of {H:Type} {enc:TypeId×Value→H} {W:World} {sp:Nat→Bool} {held:Bool} {fuel:Nat} {t t1 t2:TypeId} {fs:Array Field} {c0 c1:Value} {x:DataW H×List MemPlace}
 (ht:Tryz.prog.underlying t=some (.struct fs)) (hn:fs.size=2) (h0:fs[0]?.map (fun f=>(f.type,f.offset))=some (t1,0)) (h1:fs[1]?.map (fun f=>(f.type,f.offset))=some (t2,1))
 (u1:Tryz.prog.underlying t1=some (.int .i64)) (u2:Tryz.prog.underlying t2=some (.int .i64)) (k1:Tryz.prog.cellsOf t1=1) (k2:Tryz.prog.cellsOf t2=1)
 (h:DataW.trod enc Tryz.prog W 0 sp held fuel t [c0,c1]=some x) :
 ∃ a b:Int,c0 = .int .i64 a∧c1 = .int .i64 b∧x.1 = .agg [.lit (.int .i64 a),.lit (.int .i64 b)]∧(Lit.int .i64 a).wf=true∧(Lit.int .i64 b).wf=true:=by
 obtain ⟨xs,m,rfl,rfl,_,hx,hel⟩:=DataW.trod_struct ht h
 obtain ⟨y0,y1,rfl⟩:=list2 xs (hx.trans hn)
 obtain ⟨f0,hf0,e0⟩:=Option.map_eq_some_iff.1 h0
 obtain ⟨f1,hf1,e1⟩:=Option.map_eq_some_iff.1 h1
 injection e0 with e0 e0'
 injection e1 with e1 e1'
 have g0:=hel 0 f0 hf0
 have g1:=hel 1 f1 hf1
 rw [e0,e0',k1] at g0
 rw [e1,e1',k2] at g1
 obtain ⟨a,ea,ya,wa⟩:=DataW.trod_int u1 (show DataW.trod enc Tryz.prog W 0 sp held m t1 [c0]=some y0 from g0)
 obtain ⟨b,eb,yb,wb⟩:=DataW.trod_int u2 (show DataW.trod enc Tryz.prog W 0 sp held m t2 [c1]=some y1 from g1)
 injection ea with ea _
 injection eb with eb _
 subst ea eb ya yb
 exact ⟨a,b,rfl,rfl,rfl,wa,wb⟩

theorem laid_of {W:World} (h:laidMetH Tryz.prog laidL W):Laid W:=by
 rw [MakeChecks.laidMetH_plain _ _ _ (by kernel_rfl)] at h
 obtain ⟨ps,⟨g0,t0,cs0,f0,p0,q0,hg0,ht0,hv0,hd0,⟨g1,t1,cs1,f1,p1,q1,hg1,ht1,hv1,hd1,_,_⟩,_⟩,_,_⟩:=h
 obtain rfl:=Option.some.inj (gPrimes.symm.trans hg0)
 obtain rfl:=Option.some.inj (tPrimes.symm.trans ht0)
 obtain rfl:=Option.some.inj (gKinds.symm.trans hg1)
 obtain rfl:=Option.some.inj (tKinds.symm.trans ht1)
 refine ⟨?_,?_⟩
 · have hc:=Lib.cells_of_tab Tryz.underlying175 Tryz.underlying3 (by kernel_rfl) (by kernel_rfl) (k:=.i64) (zs:=prm) hd0
   obtain ⟨l0⟩:=cs0
   have hc':l0=prm.map fun z=>Value.int .i64 z:=hc
   subst hc'
   unfold World.var? at hv0
   rw [gPrimes,Option.bind_some] at hv0
   split at hv0
   · rename_i cs t fr hh
     injection hv0 with hv0
     subst hv0
     exact ⟨t,fr,hh⟩
   · cases hv0
 · obtain ⟨l1⟩:=cs1
   obtain ⟨xs,m,rfl,hxs,hl,hn,hel⟩:=DataW.trod_array Tryz.underlying194 hd1
   rw [cells_kinds] at hl
   obtain ⟨y0,y1,y2,y3,rfl⟩:=list4 xs hn
   obtain ⟨v0,v1,v2,v3,v4,v5,v6,v7,rfl⟩:=list8 l1 hl
   have h0:=hel 0 (by omega)
   have h1:=hel 1 (by omega)
   have h2:=hel 2 (by omega)
   have h3:=hel 3 (by omega)
   rw [cells_kind] at h0 h1 h2 h3
   obtain ⟨a0,b0,rfl,rfl,z0,_,_⟩:=two_of Tryz.underlying177 rfl rfl rfl Tryz.underlying3 Tryz.underlying3 cells_int cells_int (show DataW.trod _ Tryz.prog W 0 (fun _=>true) false m 177 [v0,v1]=some y0 from h0)
   obtain ⟨a1,b1,rfl,rfl,z1,_,_⟩:=two_of Tryz.underlying177 rfl rfl rfl Tryz.underlying3 Tryz.underlying3 cells_int cells_int (show DataW.trod _ Tryz.prog W 0 (fun _=>true) false m 177 [v2,v3]=some y1 from h1)
   obtain ⟨a2,b2,rfl,rfl,z2,_,_⟩:=two_of Tryz.underlying177 rfl rfl rfl Tryz.underlying3 Tryz.underlying3 cells_int cells_int (show DataW.trod _ Tryz.prog W 0 (fun _=>true) false m 177 [v4,v5]=some y2 from h2)
   obtain ⟨a3,b3,rfl,rfl,z3,_,_⟩:=two_of Tryz.underlying177 rfl rfl rfl Tryz.underlying3 Tryz.underlying3 cells_int cells_int (show DataW.trod _ Tryz.prog W 0 (fun _=>true) false m 177 [v6,v7]=some y3 from h3)
   have hx:=congrArg Prod.fst hxs
   simp only [List.map_cons,List.map_nil,z0,z1,z2,z3,Rows.laid_palisade_shape_kinds] at hx
   simp only [DataW.agg.injEq,List.cons.injEq,DataW.lit.injEq,Lit.int.injEq,true_and,and_true] at hx
   obtain ⟨⟨q0,q1⟩,⟨q2,q3⟩,⟨q4,q5⟩,q6,q7⟩:=hx
   subst q0 q1 q2 q3 q4 q5 q6 q7
   unfold World.var? at hv1
   rw [gKinds,Option.bind_some] at hv1
   split at hv1
   · rename_i cs t fr hh
     injection hv1 with hv1
     subst hv1
     exact ⟨t,fr,hh⟩
   · cases hv1

theorem wf_i64 {n:Int} (h:(Lit.int .i64 n).wf=true):-9223372036854775808≤n∧n≤9223372036854775807:=by
 have:=bounds_i64 h
 omega

def AllIs (W:World) (g:Nat):Prop:=g<W.heap.size∧∀ j,j<18→W.cell? ⟨g,j * 2,none⟩=some (.int .i64 (allC[j]?.getD (0,0)).1)∧W.cell? ⟨g,j * 2+1,none⟩=some (.int .i64 (allC[j]?.getD (0,0)).2)
theorem AllIs.below {W W':World} {g:Nat} (h:AllIs W g) (hb:Below W.heap.size W W'):AllIs W' g :=
 ⟨Nat.lt_of_lt_of_le h.1 hb.size,fun j hj=>⟨nextc (h.2 j hj).1 hb,nextc (h.2 j hj).2 hb⟩⟩
theorem OwnC.all {W:World} {base:Nat} {v:Value} (h:OwnC W base v allC):∃ g cap,v = .slice (some ⟨g,0,none⟩) 18 cap∧AllIs W g:=by
 rcases h.2 with ⟨_,h0⟩ | ⟨g,cap,cur,rfl,_,hg,hn,_,hsz,ht⟩
 · rw [allC_len] at h0;cases h0
 · rw [allC_len] at hn ht
   refine ⟨g,cap,by rw [allC_len],(Array.getElem?_eq_some_iff.1 hg).1,fun j hj=>?_⟩
   have hj':j<allC.length:=by rw [allC_len];exact hj
   have e:=codeCells_at allC j hj'
   have e0:allC[j]?.getD (0,0)=allC[j]:=by rw [List.getElem?_eq_getElem hj'];rfl
   rw [e0,cell_of_row W g _ cur _ (0,0) hg,cell_of_row W g _ cur _ (0,0) hg]
   rw [←ht,List.getElem?_take_of_lt (by omega),Array.getElem?_toList,Nat.mul_comm 2 j] at e
   rw [List.getElem?_take_of_lt (by omega),Array.getElem?_toList] at e
   exact e
theorem below_undrew {w w':World} (h:Below w.drew.heap.size w.drew w'):Below w.heap.size w w':=(Below.refl w.heap.size w).drew.trans h

end Go.Proofs.YtkllhjhkcipkoaaGreatDoor

namespace Go.Proofs.YtkllhjhkcipkoaaGreatDoor
open Go.RowKit Go.Shelf

def Far {β:Type} (B:Nat) (I:β→World→Prop):Prop :=
 ∀ s X Y row,I s X→X.grownBy Y row→(∀ r,row=some r→B≤r)→I s Y
def Since (B:Nat) (X Y:World):Prop:=X.heap.size≤Y.heap.size∧∀ b,B≤b→b<X.heap.size→Y.heap[b]?=X.heap[b]?

section
variable {β:Type} {B k:Nat} {I I':β→World→Prop} {X Y Z:World}
theorem Far.and (h:Far B I) (h':Far B I'):Far B (fun s W=>I s W∧I' s W):=fun s X Y row hs hg hr=>⟨h s X Y row hs.1 hg hr,h' s X Y row hs.2 hg hr⟩
theorem Far.less {B':Nat} (h:Far B I) (hB:B≤B'):Far B' I:=fun s X Y row hs hg hr=>h s X Y row hs hg fun r e=>by have:=hr r e;omega
theorem Far.put (h:Far B I) {s:β} {l:Nat} (hs:I s X) (h1:B≤l) (o:Obj):I s (X.putObj l o) :=
 h s X _ (some l) hs (grownBy_putObj' X l o) fun r e=>by injection e with e;omega
theorem Far.lay (h:Far B I) {s:β} (hs:I s X) (o:Obj):I s (X.alloc o):=h s X _ none hs (World.grownBy_alloc X o none) fun r e=>by cases e
theorem Far.below (h:Far B I) {s:β} (hs:I s X) (hb:Below X.heap.size X Y):I s Y:=h s X Y none hs (grown_below hb) fun r e=>by cases e
theorem Since.refl (B:Nat) (X:World):Since B X X:=⟨Nat.le_refl _,fun _ _ _=>rfl⟩
theorem Since.trans (h:Since B X Y) (h':Since B Y Z):Since B X Z:=⟨Nat.le_trans h.1 h'.1,fun b h1 h2=>(h'.2 b h1 (by have:=h.1;omega)).trans (h.2 b h1 h2)⟩
theorem Since.below (hb:Below X.heap.size X Y):Since B X Y:=⟨hb.size,fun b _ h2=>hb.block b h2⟩
theorem Since.setCell (X:World) {p:Addr} (hp:p.block<B) (v:Value):Since B X (X.setCell p v):=⟨by simp,fun b h1 _=>Below.heap_setCell X p v b (by omega)⟩
theorem Since.grown {row:Option Nat} (hg:X.grownBy Y row) (hr:∀ r,row=some r→r<B):Since B X Y:=⟨hg.size,fun b h1 h2=>hg.block b h2 (fun e=>by have:=hr b e.symm;omega)⟩
theorem Since.keep {B' k:Nat} (h:Since B X Y) (hB:B≤B') (hk:B'+k≤X.heap.size):Keep B' k X Y:=⟨h.1,fun b h1 h2=>h.2 b (by omega) (by omega)⟩
theorem Since.less {B':Nat} (h:Since B X Y) (hB:B≤B'):Since B' X Y:=⟨h.1,fun b h1 h2=>h.2 b (by omega) h2⟩
end

theorem Held.since {rec:LoopState→Option Code→Loop} {D B:Nat} {st:LoopState} {pe:Option Code} {X Y:World} (h:Held rec D st pe X) (hk:Since B X Y) (h1:B≤D):Held rec D st pe Y :=
 ⟨(hk.2 _ (by omega) h.lt).trans h.1,(hk.2 _ h1 (by have:=h.lt;omega)).trans h.2⟩
theorem YieldAt.deep {n m:Nat} {P:Program} {l:Nat} {args:Array Value} {W:World} {R:Ending→World→Prop} (h:YieldAt Fence.wide n P l args W R):YieldAt Fence.wide m P l args W R:=by
 obtain ⟨fn,tmps,assign,body,hy,hR⟩:=h
 exact ⟨fn,tmps,assign,body,hy,hR.1,fun c cs _=>hR.2 c cs (room_wide _)⟩
end Go.Proofs.YtkllhjhkcipkoaaGreatDoor

namespace Go.Proofs.YtkllhjhkcipkoaaGreatDoor
open Go.RowKit Go.Shelf
attribute [local go_sem] Oper.semAt_some

def rowsL (p:Int):List Int:=(List.range (p - 1).toNat).map fun (i:Nat)=>(i:Int)
theorem rows_walk:∀ p∈prm,walkN p 0 1=rowsL p ++ [p - 1]∧((rowsL p).length:Int)=p - 1∧(∀ y∈rowsL p,0≤y∧y<p - 1):=by decide +kernel
end Go.Proofs.YtkllhjhkcipkoaaGreatDoor

namespace Go.Proofs.YtkllhjhkcipkoaaGreatDoor
open Go.RowKit Go.Shelf

def notDefer:Op→Bool
 | .defer _=>false
 | _=>true
theorem notDefer_ne {o:Op} (h:notDefer o=true):∀ c,o≠.defer c:=fun c e=>by rw [e] at h;cases h

theorem all_nd {ops:Array Oper} (h:(ops.toList.all fun o=>notDefer o.op)=true):∀ (i:Nat) (o:Oper),ops[i]?=some o→notDefer o.op=true:=fun i o ho =>
 List.all_eq_true.1 h o (by rw [Array.mem_toList_iff];exact Array.mem_of_getElem? ho)

end Go.Proofs.YtkllhjhkcipkoaaGreatDoor
