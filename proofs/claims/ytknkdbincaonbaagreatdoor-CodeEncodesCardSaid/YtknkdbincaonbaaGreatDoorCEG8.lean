/- -/
import Derived.Test.YtknkdbincaonbaaGreatDoorCESA
set_option linter.unusedVariables false
set_option linter.unusedSimpArgs false
set_option maxRecDepth 100000
set_option maxHeartbeats 2000000
namespace Go.Proofs.YtknkdbincaonbaaGreatDoor
open Go.RowKit Go.Shelf

theorem holdsData_any (k p d n x:Int) (w:World):Calls Tryz.prog 178 #[(.agg #[.int .i64 k,.int .i64 p,.int .i64 d,.int .i64 n]),.int .i64 x] w fun e w'=>e = .returned (.bool (decide (x<d)))∧Below w.heap.size w w':=by
 go_enter Tryz.func178,Tryz.ntmps178
 go_wp2
 go_ret
 exact ⟨rfl,below_one _ _⟩

theorem holdsRows_any (k p d n x:Int) (w:World):Calls Tryz.prog 324 #[(.agg #[.int .i64 k,.int .i64 p,.int .i64 d,.int .i64 n]),.int .i64 x] w fun e w'=>e = .returned (.bool ((x == d)))∧Below w.heap.size w w':=by
 go_enter Tryz.func324,Tryz.ntmps324
 go_wp2
 go_ret
 exact ⟨rfl,below_one _ _⟩

theorem isOn_any (k p d n line row:Int) (p1:3≤p) (p2:p≤17) (w:World):Calls Tryz.prog 325 #[(.agg #[.int .i64 k,.int .i64 p,.int .i64 d,.int .i64 n]),.int .i64 line,.int .i64 row] w fun e w'=>e = .returned (.bool (decide (line=row∨line=p - 1)))∧Below w.heap.size w w':=by
 by_cases h:line=row
 · have d1:(line == row)=true:=by simpa using h
   have HR:=Lib.hid (ret_bool (show true=decide (line=row∨line=p - 1) by simp [h]))
   clear h
   go_enter Tryz.func325,Tryz.ntmps325
   go_wp2
   go_ret
   exact ⟨HR.out,below_one _ _⟩
 · have d1:(line == row)=false:=by simpa using h
   have HR:=Lib.hid (ret_bool (show (line == p - 1)=decide (line=row∨line=p - 1) by rw [Bool.eq_iff_iff];simp [h]))
   clear h
   go_enter Tryz.func325,Tryz.ntmps325
   go_wp2
   go_ret
   exact ⟨HR.out,below_one _ _⟩

theorem inRow_any (k p d n row x y:Int) (w:World):Calls Tryz.prog 309 #[(.agg #[.int .i64 k,.int .i64 p,.int .i64 d,.int .i64 n]),.int .i64 row,.agg #[.int .i64 x,.int .i64 y]] w fun e w'=>e = .returned (.bool (decide (x<d∧y=row)))∧Below w.heap.size w w':=by
 have H:=Lib.hid (holdsData_any k p d n x)
 by_cases h:x<d
 · rw [decide_eq_true h] at H
   have HR:=Lib.hid (ret_bool (show (y == row)=decide (x<d∧y=row) by rw [Bool.eq_iff_iff];simp [h]))
   clear h
   obtain ⟨W0,hW0⟩:∃ W0,(w.alloc (.cells #[.int .i64 k,.int .i64 p,.int .i64 d,.int .i64 n] 177)).alloc (.cells #[.int .i64 x,.int .i64 y] 207)=W0:=⟨_,rfl⟩
   have b0:Blk W0 w.heap.size 177 #[.int .i64 k,.int .i64 p,.int .i64 d,.int .i64 n]:=by rw [←hW0];exact (Blk.new w _ _).alloc _
   have b1:Blk W0 (w.heap.size+1) 207 #[.int .i64 x,.int .i64 y]:=by rw [←hW0];exact Blk.second w _ _ _
   have hB:Below w.heap.size w W0:=by rw [←hW0];exact below_two w _ _
   have c0:=b0.cell 0
   have c1:=b0.cell 1
   have c2:=b0.cell 2
   have c3:=b0.cell 3
   have z0:=b1.cell 0
   have z1:=b1.cell 1
   simp only [List.getElem?_toArray,List.getElem?_cons_zero,List.getElem?_cons_succ] at c0 c1 c2 c3 z0 z1
   go_enter Tryz.func309,Tryz.ntmps309
   go_wp2_with fail
   clear hW0
   go_wp2_with (go_at_call 178;refine (H.out _).mono ?_;rintro e w1 ⟨rfl,hB1⟩;have z0:=(b1.below hB1 b1.lt).cell 0;have z1:=(b1.below hB1 b1.lt).cell 1;simp only [List.getElem?_toArray,List.getElem?_cons_zero,List.getElem?_cons_succ] at z0 z1)
   go_ret
   exact ⟨HR.out,below_in hB hB1⟩
 · rw [decide_eq_false h] at H
   have HR:=Lib.hid (ret_bool (show false=decide (x<d∧y=row) by simp [h]))
   clear h
   obtain ⟨W0,hW0⟩:∃ W0,(w.alloc (.cells #[.int .i64 k,.int .i64 p,.int .i64 d,.int .i64 n] 177)).alloc (.cells #[.int .i64 x,.int .i64 y] 207)=W0:=⟨_,rfl⟩
   have b0:Blk W0 w.heap.size 177 #[.int .i64 k,.int .i64 p,.int .i64 d,.int .i64 n]:=by rw [←hW0];exact (Blk.new w _ _).alloc _
   have b1:Blk W0 (w.heap.size+1) 207 #[.int .i64 x,.int .i64 y]:=by rw [←hW0];exact Blk.second w _ _ _
   have hB:Below w.heap.size w W0:=by rw [←hW0];exact below_two w _ _
   have c0:=b0.cell 0
   have c1:=b0.cell 1
   have c2:=b0.cell 2
   have c3:=b0.cell 3
   have z0:=b1.cell 0
   have z1:=b1.cell 1
   simp only [List.getElem?_toArray,List.getElem?_cons_zero,List.getElem?_cons_succ] at c0 c1 c2 c3 z0 z1
   go_enter Tryz.func309,Tryz.ntmps309
   go_wp2_with fail
   clear hW0
   go_wp2_with (go_at_call 178;refine (H.out _).mono ?_;rintro e w1 ⟨rfl,hB1⟩;have z0:=(b1.below hB1 b1.lt).cell 0;have z1:=(b1.below hB1 b1.lt).cell 1;simp only [List.getElem?_toArray,List.getElem?_cons_zero,List.getElem?_cons_succ] at z0 z1)
   go_ret
   exact ⟨HR.out,below_in hB hB1⟩

def aheadB (a b:Int×Int):Bool:=decide (a.1<b.1∨(a.1=b.1∧a.2<b.2))
theorem before_any (a1 a2 b1 b2:Int) (w:World):Calls Tryz.prog 215 #[.agg #[.int .i64 a1,.int .i64 a2],.agg #[.int .i64 b1,.int .i64 b2]] w fun e w'=>e = .returned (.bool (aheadB (a1,a2) (b1,b2))) ∧
 w'=(w.alloc (.cells #[.int .i64 a1,.int .i64 a2] 207)).alloc (.cells #[.int .i64 b1,.int .i64 b2] 207):=by
 by_cases h:a1<b1
 · have d1:decide (a1<b1)=true:=by simpa using h
   have HR:=Lib.hid (ret_bool (show true=aheadB (a1,a2) (b1,b2) by unfold aheadB;simp [h]))
   clear h
   go_enter Tryz.func215,Tryz.ntmps215
   go_wp2
   go_ret
   exact ⟨HR.out,rfl⟩
 · have d1:decide (a1<b1)=false:=by simpa using h
   by_cases h2:a1=b1
   · have d2:(a1 == b1)=true:=by simpa using h2
     have HR:=Lib.hid (ret_bool (show decide (a2<b2)=aheadB (a1,a2) (b1,b2) by unfold aheadB;simp [h2]))
     clear h h2
     go_enter Tryz.func215,Tryz.ntmps215
     go_wp2
     go_ret
     exact ⟨HR.out,rfl⟩
   · have d2:(a1 == b1)=false:=by simpa using h2
     have HR:=Lib.hid (ret_bool (show false=aheadB (a1,a2) (b1,b2) by unfold aheadB;simp [h,h2]))
     clear h h2
     go_enter Tryz.func215,Tryz.ntmps215
     go_wp2
     go_ret
     exact ⟨HR.out,rfl⟩

def spanL (a b:Int):List Int:=(List.range (b - a).toNat).map fun (i:Nat)=>a+(i:Int)
theorem spanL_nil {a b:Int} (h:b≤a):spanL a b = []:=by unfold spanL;rw [show (b - a).toNat=0 by omega];rfl
theorem spanL_more (a:Int) (i:Nat):spanL a (a+((i+1:Nat):Int))=spanL a (a+(i:Int)) ++ [a+(i:Int)]:=by
 unfold spanL
 rw [show (a+((i+1:Nat):Int) - a).toNat=i+1 by omega,show (a+(i:Int) - a).toNat=i by omega,List.range_succ,List.map_append];rfl
theorem spanL_len (a b:Int):(spanL a b).length=(b - a).toNat:=by unfold spanL;simp

theorem span_any (a b:Int) (a1:0≤a) (hab:a≤b) (b2:b≤1000) (w:World):Calls Tryz.prog 254 #[.int .i64 a,.int .i64 b] w fun e w'=>∃ v,e = .returned v∧OwnI w' w.heap.size v (spanL a b)∧Below w.heap.size w w':=by
 go_enter Tryz.func254,Tryz.ntmps254
 go_wp2
 go_loopw [5,6] (fun v i wr=>∃ j:Nat,a+(j:Int)≤b∧i = .int .i64 (a+(j:Int))∧OwnI wr w.heap.size v (spanL a (a+(j:Int)))∧Below w.heap.size w wr) (fun _ i _=>b.toNat - (intOf i).toNat)
 case atStart=>exact ⟨0,by omega,by simp,by rw [spanL_nil (by omega)];exact ownI_nil _ _,Below.refl _ _⟩
 case round =>
  obtain ⟨j,hj,rfl,hown,hB⟩:=hrel
  by_cases hlt:a+(j:Int)<b
  · have hdec:decide (a+(j:Int)<b)=true:=by simpa using hlt
    have HO:=Lib.hid (hown.grown_ (World.grownBy_alloc wr (.cells #[.int .i64 (a+(j:Int))] 3) none))
    have HU:=Lib.hid ((Blk.new wr 3 #[.int .i64 (a+(j:Int))]).one)
    have hll:(spanL a (a+(j:Int))).length≤1000:=by rw [spanL_len];omega
    go_wp2_with (at_builtin;refine wpList_one _ rfl _ _ 124 3 (.int .i64 0) 8 rfl Tryz.underlying124 Tryz.infoInt rfl w.heap.size _ _ rfl _ HO.out ⟨wr.heap.size,0,none⟩ 1 _ rfl HU.out rfl (by omega) (by omega) (by have:=hB.size;simp;omega) ?_;intro v2 w2 hown2 hgrow2 _)
    go_roundw
    case rel =>
     refine ⟨j+1,by omega,by go_num,?_,below_grown (hB.alloc hB.size _) hgrow2 (by have:=hB.size;simp;omega) (fun g e=>(World.ownsRow.lt HO.out g e).1)⟩
     unfold OwnI
     rw [spanL_more,List.map_append,List.length_append]
     exact hown2
    case measure=>simp [intOf];omega
  · obtain rfl:b=a+(j:Int):=by omega
    have hdec:decide (a+(j:Int)<a+(j:Int))=false:=by simp
    go_wp2
    go_ret
    exact ⟨_,rfl,hown,hB⟩
end Go.Proofs.YtknkdbincaonbaaGreatDoor

namespace Go.Proofs.YtknkdbincaonbaaGreatDoor
open Go.RowKit Go.Shelf

instance (k p x y:Int):Decidable (HasCell k p x y):=by unfold HasCell;infer_instance
def dgN2 (k p x y:Int):Int:=if HasCell k p x y then (x+y) % p else 0
def slN2 (k p x y:Int):Int:=if HasCell k p x y then (y - x) % p else 0
theorem diag_calls (k p x y:Int) (hR:RightC k p) (w:World) (hL:Laid w):Calls Tryz.prog 216 #[.agg #[.int .i64 k,.int .i64 p],.agg #[.int .i64 x,.int .i64 y]] w fun e w' =>
 e = .returned (.tuple #[.int .i64 (dgN2 k p x y),.int .i64 (if HasCell k p x y then 0 else 4)])∧Below w.heap.size w w' :=
 (shapeDiagonal_any k p x y w hL).mono fun e w' h=>by
  unfold dgN2
  by_cases hc:HasCell k p x y
  · rw [if_pos hc,if_pos hc];exact tells3_yes hR hc h
  · rw [if_neg hc,if_neg hc];exact ⟨h.2.1 hR hc,h.2.2.2⟩
theorem slant_calls (k p x y:Int) (hR:RightC k p) (w:World) (hL:Laid w):Calls Tryz.prog 313 #[.agg #[.int .i64 k,.int .i64 p],.agg #[.int .i64 x,.int .i64 y]] w fun e w' =>
 e = .returned (.tuple #[.int .i64 (slN2 k p x y),.int .i64 (if HasCell k p x y then 0 else 4)])∧Below w.heap.size w w' :=
 (shapeSlant_any k p x y w hL).mono fun e w' h=>by
  unfold slN2
  by_cases hc:HasCell k p x y
  · rw [if_pos hc,if_pos hc];exact tells3_yes hR hc h
  · rw [if_neg hc,if_neg hc];exact ⟨h.2.1 hR hc,h.2.2.2⟩

theorem isCell_any (k p d n x y:Int) (hR:RightC k p) (w:World) (hL:Laid w):Calls Tryz.prog 177 #[(.agg #[.int .i64 k,.int .i64 p,.int .i64 d,.int .i64 n]),.agg #[.int .i64 x,.int .i64 y]] w fun e w'=>e = .returned (.bool (decide (HasCell k p x y)))∧Below w.heap.size w w':=by
 have HD:=Lib.hid (fun W hL=>diag_calls k p x y hR W hL)
 generalize dgN2 k p x y=dg at HD
 by_cases hc:HasCell k p x y
 · rw [if_pos hc] at HD
   have HX:=Lib.hid (ret_bool (show true=decide (HasCell k p x y) by simp [hc]))
   clear hc hR
   obtain ⟨W0,hW0⟩:∃ W0,(w.alloc (.cells #[.int .i64 k,.int .i64 p,.int .i64 d,.int .i64 n] 177)).alloc (.cells #[.int .i64 x,.int .i64 y] 207)=W0:=⟨_,rfl⟩
   have b0:Blk W0 w.heap.size 177 #[.int .i64 k,.int .i64 p,.int .i64 d,.int .i64 n]:=by rw [←hW0];exact (Blk.new w _ _).alloc _
   have b1:Blk W0 (w.heap.size+1) 207 #[.int .i64 x,.int .i64 y]:=by rw [←hW0];exact Blk.second w _ _ _
   have hB:Below w.heap.size w W0:=by rw [←hW0];exact below_two w _ _
   have hL0:=hL.next hB
   have c0:=b0.cell 0
   have c1:=b0.cell 1
   have c2:=b0.cell 2
   have c3:=b0.cell 3
   have z0:=b1.cell 0
   have z1:=b1.cell 1
   simp only [List.getElem?_toArray,List.getElem?_cons_zero,List.getElem?_cons_succ] at c0 c1 c2 c3 z0 z1
   go_enter Tryz.func177,Tryz.ntmps177
   go_wp2_with fail
   clear hW0
   go_wp2_with (go_at_call 216;refine (HD.out _ hL0).mono ?_;rintro e w1 ⟨rfl,hB1⟩;replace b0:=b0.below hB1 b0.lt;replace b1:=b1.below hB1 b1.lt;replace hB:=below_in hB hB1;replace hL0:=hL0.next hB1;have c0:=b0.cell 0;have c1:=b0.cell 1;have c2:=b0.cell 2;have c3:=b0.cell 3;have z0:=b1.cell 0;have z1:=b1.cell 1;simp only [List.getElem?_toArray,List.getElem?_cons_zero,List.getElem?_cons_succ] at c0 c1 c2 c3 z0 z1)
   go_ret
   exact ⟨HX.out,hB⟩
 · rw [if_neg hc] at HD
   have HX:=Lib.hid (ret_bool (show false=decide (HasCell k p x y) by simp [hc]))
   clear hc hR
   obtain ⟨W0,hW0⟩:∃ W0,(w.alloc (.cells #[.int .i64 k,.int .i64 p,.int .i64 d,.int .i64 n] 177)).alloc (.cells #[.int .i64 x,.int .i64 y] 207)=W0:=⟨_,rfl⟩
   have b0:Blk W0 w.heap.size 177 #[.int .i64 k,.int .i64 p,.int .i64 d,.int .i64 n]:=by rw [←hW0];exact (Blk.new w _ _).alloc _
   have b1:Blk W0 (w.heap.size+1) 207 #[.int .i64 x,.int .i64 y]:=by rw [←hW0];exact Blk.second w _ _ _
   have hB:Below w.heap.size w W0:=by rw [←hW0];exact below_two w _ _
   have hL0:=hL.next hB
   have c0:=b0.cell 0
   have c1:=b0.cell 1
   have c2:=b0.cell 2
   have c3:=b0.cell 3
   have z0:=b1.cell 0
   have z1:=b1.cell 1
   simp only [List.getElem?_toArray,List.getElem?_cons_zero,List.getElem?_cons_succ] at c0 c1 c2 c3 z0 z1
   go_enter Tryz.func177,Tryz.ntmps177
   go_wp2_with fail
   clear hW0
   go_wp2_with (go_at_call 216;refine (HD.out _ hL0).mono ?_;rintro e w1 ⟨rfl,hB1⟩;replace b0:=b0.below hB1 b0.lt;replace b1:=b1.below hB1 b1.lt;replace hB:=below_in hB hB1;replace hL0:=hL0.next hB1;have c0:=b0.cell 0;have c1:=b0.cell 1;have c2:=b0.cell 2;have c3:=b0.cell 3;have z0:=b1.cell 0;have z1:=b1.cell 1;simp only [List.getElem?_toArray,List.getElem?_cons_zero,List.getElem?_cons_succ] at c0 c1 c2 c3 z0 z1)
   go_ret
   exact ⟨HX.out,hB⟩

theorem isMade_any (k p d n x y:Int) (hR:RightC k p) (w:World) (hL:Laid w):Calls Tryz.prog 327 #[(.agg #[.int .i64 k,.int .i64 p,.int .i64 d,.int .i64 n]),.agg #[.int .i64 x,.int .i64 y]] w fun e w'=>e = .returned (.bool (decide (HasCell k p x y∧d≤x)))∧Below w.heap.size w w':=by
 have HC:=Lib.hid (fun W hL=>isCell_any k p d n x y hR W hL)
 have HH:=Lib.hid (holdsData_any k p d n x)
 by_cases hc:HasCell k p x y
 · rw [decide_eq_true hc] at HC
   by_cases hd:x<d
   · rw [decide_eq_true hd] at HH
     have HX:=Lib.hid (ret_bool (show false=decide (HasCell k p x y∧d≤x) by simp [hc,hd] <;> omega))
     clear hc hd hR
     obtain ⟨W0,hW0⟩:∃ W0,(w.alloc (.cells #[.int .i64 k,.int .i64 p,.int .i64 d,.int .i64 n] 177)).alloc (.cells #[.int .i64 x,.int .i64 y] 207)=W0:=⟨_,rfl⟩
     have b0:Blk W0 w.heap.size 177 #[.int .i64 k,.int .i64 p,.int .i64 d,.int .i64 n]:=by rw [←hW0];exact (Blk.new w _ _).alloc _
     have b1:Blk W0 (w.heap.size+1) 207 #[.int .i64 x,.int .i64 y]:=by rw [←hW0];exact Blk.second w _ _ _
     have hB:Below w.heap.size w W0:=by rw [←hW0];exact below_two w _ _
     have hL0:=hL.next hB
     have c0:=b0.cell 0
     have c1:=b0.cell 1
     have c2:=b0.cell 2
     have c3:=b0.cell 3
     have z0:=b1.cell 0
     have z1:=b1.cell 1
     simp only [List.getElem?_toArray,List.getElem?_cons_zero,List.getElem?_cons_succ] at c0 c1 c2 c3 z0 z1
     go_enter Tryz.func327,Tryz.ntmps327
     go_wp2_with fail
     clear hW0
     go_wp2_with (first
      | (go_at_call 177;refine (HC.out _ hL0).mono ?_;rintro e w1 ⟨rfl,hB1⟩;replace b0:=b0.below hB1 b0.lt;replace b1:=b1.below hB1 b1.lt;replace hB:=below_in hB hB1;replace hL0:=hL0.next hB1;have c0:=b0.cell 0;have c1:=b0.cell 1;have c2:=b0.cell 2;have c3:=b0.cell 3;have z0:=b1.cell 0;have z1:=b1.cell 1;simp only [List.getElem?_toArray,List.getElem?_cons_zero,List.getElem?_cons_succ] at c0 c1 c2 c3 z0 z1)
      | (go_at_call 178;refine (HH.out _).mono ?_;rintro e w1 ⟨rfl,hB1⟩;replace b0:=b0.below hB1 b0.lt;replace b1:=b1.below hB1 b1.lt;replace hB:=below_in hB hB1;replace hL0:=hL0.next hB1;have c0:=b0.cell 0;have c1:=b0.cell 1;have c2:=b0.cell 2;have c3:=b0.cell 3;have z0:=b1.cell 0;have z1:=b1.cell 1;simp only [List.getElem?_toArray,List.getElem?_cons_zero,List.getElem?_cons_succ] at c0 c1 c2 c3 z0 z1))
     go_ret
     exact ⟨HX.out,hB⟩
   · rw [decide_eq_false hd] at HH
     have HX:=Lib.hid (ret_bool (show true=decide (HasCell k p x y∧d≤x) by simp [hc,hd] <;> omega))
     clear hc hd hR
     obtain ⟨W0,hW0⟩:∃ W0,(w.alloc (.cells #[.int .i64 k,.int .i64 p,.int .i64 d,.int .i64 n] 177)).alloc (.cells #[.int .i64 x,.int .i64 y] 207)=W0:=⟨_,rfl⟩
     have b0:Blk W0 w.heap.size 177 #[.int .i64 k,.int .i64 p,.int .i64 d,.int .i64 n]:=by rw [←hW0];exact (Blk.new w _ _).alloc _
     have b1:Blk W0 (w.heap.size+1) 207 #[.int .i64 x,.int .i64 y]:=by rw [←hW0];exact Blk.second w _ _ _
     have hB:Below w.heap.size w W0:=by rw [←hW0];exact below_two w _ _
     have hL0:=hL.next hB
     have c0:=b0.cell 0
     have c1:=b0.cell 1
     have c2:=b0.cell 2
     have c3:=b0.cell 3
     have z0:=b1.cell 0
     have z1:=b1.cell 1
     simp only [List.getElem?_toArray,List.getElem?_cons_zero,List.getElem?_cons_succ] at c0 c1 c2 c3 z0 z1
     go_enter Tryz.func327,Tryz.ntmps327
     go_wp2_with fail
     clear hW0
     go_wp2_with (first
      | (go_at_call 177;refine (HC.out _ hL0).mono ?_;rintro e w1 ⟨rfl,hB1⟩;replace b0:=b0.below hB1 b0.lt;replace b1:=b1.below hB1 b1.lt;replace hB:=below_in hB hB1;replace hL0:=hL0.next hB1;have c0:=b0.cell 0;have c1:=b0.cell 1;have c2:=b0.cell 2;have c3:=b0.cell 3;have z0:=b1.cell 0;have z1:=b1.cell 1;simp only [List.getElem?_toArray,List.getElem?_cons_zero,List.getElem?_cons_succ] at c0 c1 c2 c3 z0 z1)
      | (go_at_call 178;refine (HH.out _).mono ?_;rintro e w1 ⟨rfl,hB1⟩;replace b0:=b0.below hB1 b0.lt;replace b1:=b1.below hB1 b1.lt;replace hB:=below_in hB hB1;replace hL0:=hL0.next hB1;have c0:=b0.cell 0;have c1:=b0.cell 1;have c2:=b0.cell 2;have c3:=b0.cell 3;have z0:=b1.cell 0;have z1:=b1.cell 1;simp only [List.getElem?_toArray,List.getElem?_cons_zero,List.getElem?_cons_succ] at c0 c1 c2 c3 z0 z1))
     go_ret
     exact ⟨HX.out,hB⟩
 · rw [decide_eq_false hc] at HC
   have HX:=Lib.hid (ret_bool (show false=decide (HasCell k p x y∧d≤x) by simp [hc] <;> omega))
   clear hc hR
   obtain ⟨W0,hW0⟩:∃ W0,(w.alloc (.cells #[.int .i64 k,.int .i64 p,.int .i64 d,.int .i64 n] 177)).alloc (.cells #[.int .i64 x,.int .i64 y] 207)=W0:=⟨_,rfl⟩
   have b0:Blk W0 w.heap.size 177 #[.int .i64 k,.int .i64 p,.int .i64 d,.int .i64 n]:=by rw [←hW0];exact (Blk.new w _ _).alloc _
   have b1:Blk W0 (w.heap.size+1) 207 #[.int .i64 x,.int .i64 y]:=by rw [←hW0];exact Blk.second w _ _ _
   have hB:Below w.heap.size w W0:=by rw [←hW0];exact below_two w _ _
   have hL0:=hL.next hB
   have c0:=b0.cell 0
   have c1:=b0.cell 1
   have c2:=b0.cell 2
   have c3:=b0.cell 3
   have z0:=b1.cell 0
   have z1:=b1.cell 1
   simp only [List.getElem?_toArray,List.getElem?_cons_zero,List.getElem?_cons_succ] at c0 c1 c2 c3 z0 z1
   go_enter Tryz.func327,Tryz.ntmps327
   go_wp2_with fail
   clear hW0
   go_wp2_with (first
    | (go_at_call 177;refine (HC.out _ hL0).mono ?_;rintro e w1 ⟨rfl,hB1⟩;replace b0:=b0.below hB1 b0.lt;replace b1:=b1.below hB1 b1.lt;replace hB:=below_in hB hB1;replace hL0:=hL0.next hB1;have c0:=b0.cell 0;have c1:=b0.cell 1;have c2:=b0.cell 2;have c3:=b0.cell 3;have z0:=b1.cell 0;have z1:=b1.cell 1;simp only [List.getElem?_toArray,List.getElem?_cons_zero,List.getElem?_cons_succ] at c0 c1 c2 c3 z0 z1)
    | (go_at_call 178;refine (HH.out _).mono ?_;rintro e w1 ⟨rfl,hB1⟩;replace b0:=b0.below hB1 b0.lt;replace b1:=b1.below hB1 b1.lt;replace hB:=below_in hB hB1;replace hL0:=hL0.next hB1;have c0:=b0.cell 0;have c1:=b0.cell 1;have c2:=b0.cell 2;have c3:=b0.cell 3;have z0:=b1.cell 0;have z1:=b1.cell 1;simp only [List.getElem?_toArray,List.getElem?_cons_zero,List.getElem?_cons_succ] at c0 c1 c2 c3 z0 z1))
   go_ret
   exact ⟨HX.out,hB⟩

theorem isData_any (k p d n x y:Int) (hR:RightC k p) (w:World) (hL:Laid w):Calls Tryz.prog 138 #[(.agg #[.int .i64 k,.int .i64 p,.int .i64 d,.int .i64 n]),.agg #[.int .i64 x,.int .i64 y]] w fun e w'=>e = .returned (.bool (decide (HasCell k p x y∧x<d)))∧Below w.heap.size w w':=by
 have HC:=Lib.hid (fun W hL=>isCell_any k p d n x y hR W hL)
 have HH:=Lib.hid (holdsData_any k p d n x)
 by_cases hc:HasCell k p x y
 · rw [decide_eq_true hc] at HC
   by_cases hd:x<d
   · rw [decide_eq_true hd] at HH
     have HX:=Lib.hid (ret_bool (show true=decide (HasCell k p x y∧x<d) by simp [hc,hd] <;> omega))
     clear hc hd hR
     obtain ⟨W0,hW0⟩:∃ W0,(w.alloc (.cells #[.int .i64 k,.int .i64 p,.int .i64 d,.int .i64 n] 177)).alloc (.cells #[.int .i64 x,.int .i64 y] 207)=W0:=⟨_,rfl⟩
     have b0:Blk W0 w.heap.size 177 #[.int .i64 k,.int .i64 p,.int .i64 d,.int .i64 n]:=by rw [←hW0];exact (Blk.new w _ _).alloc _
     have b1:Blk W0 (w.heap.size+1) 207 #[.int .i64 x,.int .i64 y]:=by rw [←hW0];exact Blk.second w _ _ _
     have hB:Below w.heap.size w W0:=by rw [←hW0];exact below_two w _ _
     have hL0:=hL.next hB
     have c0:=b0.cell 0
     have c1:=b0.cell 1
     have c2:=b0.cell 2
     have c3:=b0.cell 3
     have z0:=b1.cell 0
     have z1:=b1.cell 1
     simp only [List.getElem?_toArray,List.getElem?_cons_zero,List.getElem?_cons_succ] at c0 c1 c2 c3 z0 z1
     go_enter Tryz.func138,Tryz.ntmps138
     go_wp2_with fail
     clear hW0
     go_wp2_with (first
      | (go_at_call 177;refine (HC.out _ hL0).mono ?_;rintro e w1 ⟨rfl,hB1⟩;replace b0:=b0.below hB1 b0.lt;replace b1:=b1.below hB1 b1.lt;replace hB:=below_in hB hB1;replace hL0:=hL0.next hB1;have c0:=b0.cell 0;have c1:=b0.cell 1;have c2:=b0.cell 2;have c3:=b0.cell 3;have z0:=b1.cell 0;have z1:=b1.cell 1;simp only [List.getElem?_toArray,List.getElem?_cons_zero,List.getElem?_cons_succ] at c0 c1 c2 c3 z0 z1)
      | (go_at_call 178;refine (HH.out _).mono ?_;rintro e w1 ⟨rfl,hB1⟩;replace b0:=b0.below hB1 b0.lt;replace b1:=b1.below hB1 b1.lt;replace hB:=below_in hB hB1;replace hL0:=hL0.next hB1;have c0:=b0.cell 0;have c1:=b0.cell 1;have c2:=b0.cell 2;have c3:=b0.cell 3;have z0:=b1.cell 0;have z1:=b1.cell 1;simp only [List.getElem?_toArray,List.getElem?_cons_zero,List.getElem?_cons_succ] at c0 c1 c2 c3 z0 z1))
     go_ret
     exact ⟨HX.out,hB⟩
   · rw [decide_eq_false hd] at HH
     have HX:=Lib.hid (ret_bool (show false=decide (HasCell k p x y∧x<d) by simp [hc,hd] <;> omega))
     clear hc hd hR
     obtain ⟨W0,hW0⟩:∃ W0,(w.alloc (.cells #[.int .i64 k,.int .i64 p,.int .i64 d,.int .i64 n] 177)).alloc (.cells #[.int .i64 x,.int .i64 y] 207)=W0:=⟨_,rfl⟩
     have b0:Blk W0 w.heap.size 177 #[.int .i64 k,.int .i64 p,.int .i64 d,.int .i64 n]:=by rw [←hW0];exact (Blk.new w _ _).alloc _
     have b1:Blk W0 (w.heap.size+1) 207 #[.int .i64 x,.int .i64 y]:=by rw [←hW0];exact Blk.second w _ _ _
     have hB:Below w.heap.size w W0:=by rw [←hW0];exact below_two w _ _
     have hL0:=hL.next hB
     have c0:=b0.cell 0
     have c1:=b0.cell 1
     have c2:=b0.cell 2
     have c3:=b0.cell 3
     have z0:=b1.cell 0
     have z1:=b1.cell 1
     simp only [List.getElem?_toArray,List.getElem?_cons_zero,List.getElem?_cons_succ] at c0 c1 c2 c3 z0 z1
     go_enter Tryz.func138,Tryz.ntmps138
     go_wp2_with fail
     clear hW0
     go_wp2_with (first
      | (go_at_call 177;refine (HC.out _ hL0).mono ?_;rintro e w1 ⟨rfl,hB1⟩;replace b0:=b0.below hB1 b0.lt;replace b1:=b1.below hB1 b1.lt;replace hB:=below_in hB hB1;replace hL0:=hL0.next hB1;have c0:=b0.cell 0;have c1:=b0.cell 1;have c2:=b0.cell 2;have c3:=b0.cell 3;have z0:=b1.cell 0;have z1:=b1.cell 1;simp only [List.getElem?_toArray,List.getElem?_cons_zero,List.getElem?_cons_succ] at c0 c1 c2 c3 z0 z1)
      | (go_at_call 178;refine (HH.out _).mono ?_;rintro e w1 ⟨rfl,hB1⟩;replace b0:=b0.below hB1 b0.lt;replace b1:=b1.below hB1 b1.lt;replace hB:=below_in hB hB1;replace hL0:=hL0.next hB1;have c0:=b0.cell 0;have c1:=b0.cell 1;have c2:=b0.cell 2;have c3:=b0.cell 3;have z0:=b1.cell 0;have z1:=b1.cell 1;simp only [List.getElem?_toArray,List.getElem?_cons_zero,List.getElem?_cons_succ] at c0 c1 c2 c3 z0 z1))
     go_ret
     exact ⟨HX.out,hB⟩
 · rw [decide_eq_false hc] at HC
   have HX:=Lib.hid (ret_bool (show false=decide (HasCell k p x y∧x<d) by simp [hc] <;> omega))
   clear hc hR
   obtain ⟨W0,hW0⟩:∃ W0,(w.alloc (.cells #[.int .i64 k,.int .i64 p,.int .i64 d,.int .i64 n] 177)).alloc (.cells #[.int .i64 x,.int .i64 y] 207)=W0:=⟨_,rfl⟩
   have b0:Blk W0 w.heap.size 177 #[.int .i64 k,.int .i64 p,.int .i64 d,.int .i64 n]:=by rw [←hW0];exact (Blk.new w _ _).alloc _
   have b1:Blk W0 (w.heap.size+1) 207 #[.int .i64 x,.int .i64 y]:=by rw [←hW0];exact Blk.second w _ _ _
   have hB:Below w.heap.size w W0:=by rw [←hW0];exact below_two w _ _
   have hL0:=hL.next hB
   have c0:=b0.cell 0
   have c1:=b0.cell 1
   have c2:=b0.cell 2
   have c3:=b0.cell 3
   have z0:=b1.cell 0
   have z1:=b1.cell 1
   simp only [List.getElem?_toArray,List.getElem?_cons_zero,List.getElem?_cons_succ] at c0 c1 c2 c3 z0 z1
   go_enter Tryz.func138,Tryz.ntmps138
   go_wp2_with fail
   clear hW0
   go_wp2_with (first
    | (go_at_call 177;refine (HC.out _ hL0).mono ?_;rintro e w1 ⟨rfl,hB1⟩;replace b0:=b0.below hB1 b0.lt;replace b1:=b1.below hB1 b1.lt;replace hB:=below_in hB hB1;replace hL0:=hL0.next hB1;have c0:=b0.cell 0;have c1:=b0.cell 1;have c2:=b0.cell 2;have c3:=b0.cell 3;have z0:=b1.cell 0;have z1:=b1.cell 1;simp only [List.getElem?_toArray,List.getElem?_cons_zero,List.getElem?_cons_succ] at c0 c1 c2 c3 z0 z1)
    | (go_at_call 178;refine (HH.out _).mono ?_;rintro e w1 ⟨rfl,hB1⟩;replace b0:=b0.below hB1 b0.lt;replace b1:=b1.below hB1 b1.lt;replace hB:=below_in hB hB1;replace hL0:=hL0.next hB1;have c0:=b0.cell 0;have c1:=b0.cell 1;have c2:=b0.cell 2;have c3:=b0.cell 3;have z0:=b1.cell 0;have z1:=b1.cell 1;simp only [List.getElem?_toArray,List.getElem?_cons_zero,List.getElem?_cons_succ] at c0 c1 c2 c3 z0 z1))
   go_ret
   exact ⟨HX.out,hB⟩

end Go.Proofs.YtknkdbincaonbaaGreatDoor

namespace Go.Proofs.YtknkdbincaonbaaGreatDoor
open Go.RowKit Go.Shelf

def inRw (d row x y:Int):Bool:=decide (x<d∧y=row)
def onDg (k p d row x y:Int):Bool:=if k=2 then decide ((x<d∨x=d)∧dgN2 k p x y=row) else decide (x<d∧(dgN2 k p x y=row∨dgN2 k p x y=p - 1))
def onSl (k p d row x y:Int):Bool:=decide (x<d∧(slN2 k p x y=row∨slN2 k p x y=p - 1))

theorem onDiagonal_any (k p d n row x y:Int) (hR:RightC k p) (w:World) (hL:Laid w):Calls Tryz.prog 310 #[(.agg #[.int .i64 k,.int .i64 p,.int .i64 d,.int .i64 n]),.int .i64 row,.agg #[.int .i64 x,.int .i64 y]] w fun e w'=>e = .returned (.bool (onDg k p d row x y))∧Below w.heap.size w w':=by
 obtain ⟨p1,p2,_,_,_,_⟩:=hR.und
 have HD:=Lib.hid (fun W hL=>diag_calls k p x y hR W hL)
 unfold onDg
 generalize (if HasCell k p x y then (0:Int) else 4)=er at HD
 generalize dgN2 k p x y=dg at HD ⊢
 obtain ⟨bo,hbo⟩:∃ b,decide (dg=row∨dg=p - 1)=b:=⟨_,rfl⟩
 have HI:=Lib.hid (isOn_any k p d n dg row p1 p2)
 rw [hbo] at HI
 have HH:=Lib.hid (holdsData_any k p d n x)
 have HRo:=Lib.hid (holdsRows_any k p d n x)
 by_cases hk:k=2
 · rw [if_pos hk]
   have hk2:(k == 2)=true:=by simpa using hk
   clear hk
   by_cases hd:x<d
   · rw [decide_eq_true hd] at HH
     have HX:=Lib.hid (ret_bool (show (dg == row)=decide ((x<d∨x=d)∧dg=row) by rw [Bool.eq_iff_iff];simp [hd]))
     clear hd hR
     obtain ⟨W0,hW0⟩:∃ W0,(w.alloc (.cells #[.int .i64 k,.int .i64 p,.int .i64 d,.int .i64 n] 177)).alloc (.cells #[.int .i64 x,.int .i64 y] 207)=W0:=⟨_,rfl⟩
     have b0:Blk W0 w.heap.size 177 #[.int .i64 k,.int .i64 p,.int .i64 d,.int .i64 n]:=by rw [←hW0];exact (Blk.new w _ _).alloc _
     have b1:Blk W0 (w.heap.size+1) 207 #[.int .i64 x,.int .i64 y]:=by rw [←hW0];exact Blk.second w _ _ _
     have hB:Below w.heap.size w W0:=by rw [←hW0];exact below_two w _ _
     have hL0:=hL.next hB
     have c0:=b0.cell 0
     have c1:=b0.cell 1
     have c2:=b0.cell 2
     have c3:=b0.cell 3
     have z0:=b1.cell 0
     have z1:=b1.cell 1
     simp only [List.getElem?_toArray,List.getElem?_cons_zero,List.getElem?_cons_succ] at c0 c1 c2 c3 z0 z1
     go_enter Tryz.func310,Tryz.ntmps310
     go_wp2_with fail
     clear hW0
     go_wp2_with (first
      | (go_at_call 216;refine (HD.out _ hL0).mono ?_;rintro e w1 ⟨rfl,hB1⟩;replace b0:=b0.below hB1 b0.lt;replace b1:=b1.below hB1 b1.lt;replace hB:=below_in hB hB1;replace hL0:=hL0.next hB1;have c0:=b0.cell 0;have c1:=b0.cell 1;have c2:=b0.cell 2;have c3:=b0.cell 3;have z0:=b1.cell 0;have z1:=b1.cell 1;simp only [List.getElem?_toArray,List.getElem?_cons_zero,List.getElem?_cons_succ] at c0 c1 c2 c3 z0 z1)
      | (go_at_call 178;refine (HH.out _).mono ?_;rintro e w1 ⟨rfl,hB1⟩;replace b0:=b0.below hB1 b0.lt;replace b1:=b1.below hB1 b1.lt;replace hB:=below_in hB hB1;replace hL0:=hL0.next hB1;have c0:=b0.cell 0;have c1:=b0.cell 1;have c2:=b0.cell 2;have c3:=b0.cell 3;have z0:=b1.cell 0;have z1:=b1.cell 1;simp only [List.getElem?_toArray,List.getElem?_cons_zero,List.getElem?_cons_succ] at c0 c1 c2 c3 z0 z1)
      | (go_at_call 324;refine (HRo.out _).mono ?_;rintro e w1 ⟨rfl,hB1⟩;replace b0:=b0.below hB1 b0.lt;replace b1:=b1.below hB1 b1.lt;replace hB:=below_in hB hB1;replace hL0:=hL0.next hB1;have c0:=b0.cell 0;have c1:=b0.cell 1;have c2:=b0.cell 2;have c3:=b0.cell 3;have z0:=b1.cell 0;have z1:=b1.cell 1;simp only [List.getElem?_toArray,List.getElem?_cons_zero,List.getElem?_cons_succ] at c0 c1 c2 c3 z0 z1)
      | (go_at_call 325;refine (HI.out _).mono ?_;rintro e w1 ⟨rfl,hB1⟩;replace b0:=b0.below hB1 b0.lt;replace b1:=b1.below hB1 b1.lt;replace hB:=below_in hB hB1;replace hL0:=hL0.next hB1;have c0:=b0.cell 0;have c1:=b0.cell 1;have c2:=b0.cell 2;have c3:=b0.cell 3;have z0:=b1.cell 0;have z1:=b1.cell 1;simp only [List.getElem?_toArray,List.getElem?_cons_zero,List.getElem?_cons_succ] at c0 c1 c2 c3 z0 z1))
     go_ret
     exact ⟨HX.out,hB⟩
   · rw [decide_eq_false hd] at HH
     by_cases he:x=d
     · rw [show (x == d)=true by simpa using he] at HRo
       have HX:=Lib.hid (ret_bool (show (dg == row)=decide ((x<d∨x=d)∧dg=row) by rw [Bool.eq_iff_iff];simp [he]))
       clear he hbo hd hR
       obtain ⟨W0,hW0⟩:∃ W0,(w.alloc (.cells #[.int .i64 k,.int .i64 p,.int .i64 d,.int .i64 n] 177)).alloc (.cells #[.int .i64 x,.int .i64 y] 207)=W0:=⟨_,rfl⟩
       have b0:Blk W0 w.heap.size 177 #[.int .i64 k,.int .i64 p,.int .i64 d,.int .i64 n]:=by rw [←hW0];exact (Blk.new w _ _).alloc _
       have b1:Blk W0 (w.heap.size+1) 207 #[.int .i64 x,.int .i64 y]:=by rw [←hW0];exact Blk.second w _ _ _
       have hB:Below w.heap.size w W0:=by rw [←hW0];exact below_two w _ _
       have hL0:=hL.next hB
       have c0:=b0.cell 0
       have c1:=b0.cell 1
       have c2:=b0.cell 2
       have c3:=b0.cell 3
       have z0:=b1.cell 0
       have z1:=b1.cell 1
       simp only [List.getElem?_toArray,List.getElem?_cons_zero,List.getElem?_cons_succ] at c0 c1 c2 c3 z0 z1
       go_enter Tryz.func310,Tryz.ntmps310
       go_wp2_with fail
       clear hW0
       go_wp2_with (first
        | (go_at_call 216;refine (HD.out _ hL0).mono ?_;rintro e w1 ⟨rfl,hB1⟩;replace b0:=b0.below hB1 b0.lt;replace b1:=b1.below hB1 b1.lt;replace hB:=below_in hB hB1;replace hL0:=hL0.next hB1;have c0:=b0.cell 0;have c1:=b0.cell 1;have c2:=b0.cell 2;have c3:=b0.cell 3;have z0:=b1.cell 0;have z1:=b1.cell 1;simp only [List.getElem?_toArray,List.getElem?_cons_zero,List.getElem?_cons_succ] at c0 c1 c2 c3 z0 z1)
        | (go_at_call 178;refine (HH.out _).mono ?_;rintro e w1 ⟨rfl,hB1⟩;replace b0:=b0.below hB1 b0.lt;replace b1:=b1.below hB1 b1.lt;replace hB:=below_in hB hB1;replace hL0:=hL0.next hB1;have c0:=b0.cell 0;have c1:=b0.cell 1;have c2:=b0.cell 2;have c3:=b0.cell 3;have z0:=b1.cell 0;have z1:=b1.cell 1;simp only [List.getElem?_toArray,List.getElem?_cons_zero,List.getElem?_cons_succ] at c0 c1 c2 c3 z0 z1)
        | (go_at_call 324;refine (HRo.out _).mono ?_;rintro e w1 ⟨rfl,hB1⟩;replace b0:=b0.below hB1 b0.lt;replace b1:=b1.below hB1 b1.lt;replace hB:=below_in hB hB1;replace hL0:=hL0.next hB1;have c0:=b0.cell 0;have c1:=b0.cell 1;have c2:=b0.cell 2;have c3:=b0.cell 3;have z0:=b1.cell 0;have z1:=b1.cell 1;simp only [List.getElem?_toArray,List.getElem?_cons_zero,List.getElem?_cons_succ] at c0 c1 c2 c3 z0 z1)
        | (go_at_call 325;refine (HI.out _).mono ?_;rintro e w1 ⟨rfl,hB1⟩;replace b0:=b0.below hB1 b0.lt;replace b1:=b1.below hB1 b1.lt;replace hB:=below_in hB hB1;replace hL0:=hL0.next hB1;have c0:=b0.cell 0;have c1:=b0.cell 1;have c2:=b0.cell 2;have c3:=b0.cell 3;have z0:=b1.cell 0;have z1:=b1.cell 1;simp only [List.getElem?_toArray,List.getElem?_cons_zero,List.getElem?_cons_succ] at c0 c1 c2 c3 z0 z1))
       go_ret
       exact ⟨HX.out,hB⟩
     · rw [show (x == d)=false by simpa using he] at HRo
       have HX:=Lib.hid (ret_bool (show false=decide ((x<d∨x=d)∧dg=row) by simp [hd,he] <;> omega))
       clear hd he hR
       obtain ⟨W0,hW0⟩:∃ W0,(w.alloc (.cells #[.int .i64 k,.int .i64 p,.int .i64 d,.int .i64 n] 177)).alloc (.cells #[.int .i64 x,.int .i64 y] 207)=W0:=⟨_,rfl⟩
       have b0:Blk W0 w.heap.size 177 #[.int .i64 k,.int .i64 p,.int .i64 d,.int .i64 n]:=by rw [←hW0];exact (Blk.new w _ _).alloc _
       have b1:Blk W0 (w.heap.size+1) 207 #[.int .i64 x,.int .i64 y]:=by rw [←hW0];exact Blk.second w _ _ _
       have hB:Below w.heap.size w W0:=by rw [←hW0];exact below_two w _ _
       have hL0:=hL.next hB
       have c0:=b0.cell 0
       have c1:=b0.cell 1
       have c2:=b0.cell 2
       have c3:=b0.cell 3
       have z0:=b1.cell 0
       have z1:=b1.cell 1
       simp only [List.getElem?_toArray,List.getElem?_cons_zero,List.getElem?_cons_succ] at c0 c1 c2 c3 z0 z1
       go_enter Tryz.func310,Tryz.ntmps310
       go_wp2_with fail
       clear hW0
       go_wp2_with (first
        | (go_at_call 216;refine (HD.out _ hL0).mono ?_;rintro e w1 ⟨rfl,hB1⟩;replace b0:=b0.below hB1 b0.lt;replace b1:=b1.below hB1 b1.lt;replace hB:=below_in hB hB1;replace hL0:=hL0.next hB1;have c0:=b0.cell 0;have c1:=b0.cell 1;have c2:=b0.cell 2;have c3:=b0.cell 3;have z0:=b1.cell 0;have z1:=b1.cell 1;simp only [List.getElem?_toArray,List.getElem?_cons_zero,List.getElem?_cons_succ] at c0 c1 c2 c3 z0 z1)
        | (go_at_call 178;refine (HH.out _).mono ?_;rintro e w1 ⟨rfl,hB1⟩;replace b0:=b0.below hB1 b0.lt;replace b1:=b1.below hB1 b1.lt;replace hB:=below_in hB hB1;replace hL0:=hL0.next hB1;have c0:=b0.cell 0;have c1:=b0.cell 1;have c2:=b0.cell 2;have c3:=b0.cell 3;have z0:=b1.cell 0;have z1:=b1.cell 1;simp only [List.getElem?_toArray,List.getElem?_cons_zero,List.getElem?_cons_succ] at c0 c1 c2 c3 z0 z1)
        | (go_at_call 324;refine (HRo.out _).mono ?_;rintro e w1 ⟨rfl,hB1⟩;replace b0:=b0.below hB1 b0.lt;replace b1:=b1.below hB1 b1.lt;replace hB:=below_in hB hB1;replace hL0:=hL0.next hB1;have c0:=b0.cell 0;have c1:=b0.cell 1;have c2:=b0.cell 2;have c3:=b0.cell 3;have z0:=b1.cell 0;have z1:=b1.cell 1;simp only [List.getElem?_toArray,List.getElem?_cons_zero,List.getElem?_cons_succ] at c0 c1 c2 c3 z0 z1)
        | (go_at_call 325;refine (HI.out _).mono ?_;rintro e w1 ⟨rfl,hB1⟩;replace b0:=b0.below hB1 b0.lt;replace b1:=b1.below hB1 b1.lt;replace hB:=below_in hB hB1;replace hL0:=hL0.next hB1;have c0:=b0.cell 0;have c1:=b0.cell 1;have c2:=b0.cell 2;have c3:=b0.cell 3;have z0:=b1.cell 0;have z1:=b1.cell 1;simp only [List.getElem?_toArray,List.getElem?_cons_zero,List.getElem?_cons_succ] at c0 c1 c2 c3 z0 z1))
       go_ret
       exact ⟨HX.out,hB⟩
 · rw [if_neg hk]
   have hk2:(k == 2)=false:=by simpa using hk
   by_cases hd:x<d
   · rw [decide_eq_true hd] at HH
     have HX:=Lib.hid (ret_bool (show bo=decide (x<d∧(dg=row∨dg=p - 1)) by rw [←hbo];simp [hd]))
     clear hbo hd hR
     obtain ⟨W0,hW0⟩:∃ W0,(w.alloc (.cells #[.int .i64 k,.int .i64 p,.int .i64 d,.int .i64 n] 177)).alloc (.cells #[.int .i64 x,.int .i64 y] 207)=W0:=⟨_,rfl⟩
     have b0:Blk W0 w.heap.size 177 #[.int .i64 k,.int .i64 p,.int .i64 d,.int .i64 n]:=by rw [←hW0];exact (Blk.new w _ _).alloc _
     have b1:Blk W0 (w.heap.size+1) 207 #[.int .i64 x,.int .i64 y]:=by rw [←hW0];exact Blk.second w _ _ _
     have hB:Below w.heap.size w W0:=by rw [←hW0];exact below_two w _ _
     have hL0:=hL.next hB
     have c0:=b0.cell 0
     have c1:=b0.cell 1
     have c2:=b0.cell 2
     have c3:=b0.cell 3
     have z0:=b1.cell 0
     have z1:=b1.cell 1
     simp only [List.getElem?_toArray,List.getElem?_cons_zero,List.getElem?_cons_succ] at c0 c1 c2 c3 z0 z1
     go_enter Tryz.func310,Tryz.ntmps310
     go_wp2_with fail
     clear hW0
     go_wp2_with (first
      | (go_at_call 216;refine (HD.out _ hL0).mono ?_;rintro e w1 ⟨rfl,hB1⟩;replace b0:=b0.below hB1 b0.lt;replace b1:=b1.below hB1 b1.lt;replace hB:=below_in hB hB1;replace hL0:=hL0.next hB1;have c0:=b0.cell 0;have c1:=b0.cell 1;have c2:=b0.cell 2;have c3:=b0.cell 3;have z0:=b1.cell 0;have z1:=b1.cell 1;simp only [List.getElem?_toArray,List.getElem?_cons_zero,List.getElem?_cons_succ] at c0 c1 c2 c3 z0 z1)
      | (go_at_call 178;refine (HH.out _).mono ?_;rintro e w1 ⟨rfl,hB1⟩;replace b0:=b0.below hB1 b0.lt;replace b1:=b1.below hB1 b1.lt;replace hB:=below_in hB hB1;replace hL0:=hL0.next hB1;have c0:=b0.cell 0;have c1:=b0.cell 1;have c2:=b0.cell 2;have c3:=b0.cell 3;have z0:=b1.cell 0;have z1:=b1.cell 1;simp only [List.getElem?_toArray,List.getElem?_cons_zero,List.getElem?_cons_succ] at c0 c1 c2 c3 z0 z1)
      | (go_at_call 324;refine (HRo.out _).mono ?_;rintro e w1 ⟨rfl,hB1⟩;replace b0:=b0.below hB1 b0.lt;replace b1:=b1.below hB1 b1.lt;replace hB:=below_in hB hB1;replace hL0:=hL0.next hB1;have c0:=b0.cell 0;have c1:=b0.cell 1;have c2:=b0.cell 2;have c3:=b0.cell 3;have z0:=b1.cell 0;have z1:=b1.cell 1;simp only [List.getElem?_toArray,List.getElem?_cons_zero,List.getElem?_cons_succ] at c0 c1 c2 c3 z0 z1)
      | (go_at_call 325;refine (HI.out _).mono ?_;rintro e w1 ⟨rfl,hB1⟩;replace b0:=b0.below hB1 b0.lt;replace b1:=b1.below hB1 b1.lt;replace hB:=below_in hB hB1;replace hL0:=hL0.next hB1;have c0:=b0.cell 0;have c1:=b0.cell 1;have c2:=b0.cell 2;have c3:=b0.cell 3;have z0:=b1.cell 0;have z1:=b1.cell 1;simp only [List.getElem?_toArray,List.getElem?_cons_zero,List.getElem?_cons_succ] at c0 c1 c2 c3 z0 z1))
     go_ret
     exact ⟨HX.out,hB⟩
   · rw [decide_eq_false hd] at HH
     have HX:=Lib.hid (ret_bool (show false=decide (x<d∧(dg=row∨dg=p - 1)) by simp [hd]))
     clear hbo hd hR
     obtain ⟨W0,hW0⟩:∃ W0,(w.alloc (.cells #[.int .i64 k,.int .i64 p,.int .i64 d,.int .i64 n] 177)).alloc (.cells #[.int .i64 x,.int .i64 y] 207)=W0:=⟨_,rfl⟩
     have b0:Blk W0 w.heap.size 177 #[.int .i64 k,.int .i64 p,.int .i64 d,.int .i64 n]:=by rw [←hW0];exact (Blk.new w _ _).alloc _
     have b1:Blk W0 (w.heap.size+1) 207 #[.int .i64 x,.int .i64 y]:=by rw [←hW0];exact Blk.second w _ _ _
     have hB:Below w.heap.size w W0:=by rw [←hW0];exact below_two w _ _
     have hL0:=hL.next hB
     have c0:=b0.cell 0
     have c1:=b0.cell 1
     have c2:=b0.cell 2
     have c3:=b0.cell 3
     have z0:=b1.cell 0
     have z1:=b1.cell 1
     simp only [List.getElem?_toArray,List.getElem?_cons_zero,List.getElem?_cons_succ] at c0 c1 c2 c3 z0 z1
     go_enter Tryz.func310,Tryz.ntmps310
     go_wp2_with fail
     clear hW0
     go_wp2_with (first
      | (go_at_call 216;refine (HD.out _ hL0).mono ?_;rintro e w1 ⟨rfl,hB1⟩;replace b0:=b0.below hB1 b0.lt;replace b1:=b1.below hB1 b1.lt;replace hB:=below_in hB hB1;replace hL0:=hL0.next hB1;have c0:=b0.cell 0;have c1:=b0.cell 1;have c2:=b0.cell 2;have c3:=b0.cell 3;have z0:=b1.cell 0;have z1:=b1.cell 1;simp only [List.getElem?_toArray,List.getElem?_cons_zero,List.getElem?_cons_succ] at c0 c1 c2 c3 z0 z1)
      | (go_at_call 178;refine (HH.out _).mono ?_;rintro e w1 ⟨rfl,hB1⟩;replace b0:=b0.below hB1 b0.lt;replace b1:=b1.below hB1 b1.lt;replace hB:=below_in hB hB1;replace hL0:=hL0.next hB1;have c0:=b0.cell 0;have c1:=b0.cell 1;have c2:=b0.cell 2;have c3:=b0.cell 3;have z0:=b1.cell 0;have z1:=b1.cell 1;simp only [List.getElem?_toArray,List.getElem?_cons_zero,List.getElem?_cons_succ] at c0 c1 c2 c3 z0 z1)
      | (go_at_call 324;refine (HRo.out _).mono ?_;rintro e w1 ⟨rfl,hB1⟩;replace b0:=b0.below hB1 b0.lt;replace b1:=b1.below hB1 b1.lt;replace hB:=below_in hB hB1;replace hL0:=hL0.next hB1;have c0:=b0.cell 0;have c1:=b0.cell 1;have c2:=b0.cell 2;have c3:=b0.cell 3;have z0:=b1.cell 0;have z1:=b1.cell 1;simp only [List.getElem?_toArray,List.getElem?_cons_zero,List.getElem?_cons_succ] at c0 c1 c2 c3 z0 z1)
      | (go_at_call 325;refine (HI.out _).mono ?_;rintro e w1 ⟨rfl,hB1⟩;replace b0:=b0.below hB1 b0.lt;replace b1:=b1.below hB1 b1.lt;replace hB:=below_in hB hB1;replace hL0:=hL0.next hB1;have c0:=b0.cell 0;have c1:=b0.cell 1;have c2:=b0.cell 2;have c3:=b0.cell 3;have z0:=b1.cell 0;have z1:=b1.cell 1;simp only [List.getElem?_toArray,List.getElem?_cons_zero,List.getElem?_cons_succ] at c0 c1 c2 c3 z0 z1))
     go_ret
     exact ⟨HX.out,hB⟩

theorem onSlant_any (k p d n row x y:Int) (hR:RightC k p) (w:World) (hL:Laid w):Calls Tryz.prog 311 #[(.agg #[.int .i64 k,.int .i64 p,.int .i64 d,.int .i64 n]),.int .i64 row,.agg #[.int .i64 x,.int .i64 y]] w fun e w'=>e = .returned (.bool (onSl k p d row x y))∧Below w.heap.size w w':=by
 obtain ⟨p1,p2,_,_,_,_⟩:=hR.und
 have HD:=Lib.hid (fun W hL=>slant_calls k p x y hR W hL)
 unfold onSl
 generalize (if HasCell k p x y then (0:Int) else 4)=er at HD
 generalize slN2 k p x y=dg at HD ⊢
 obtain ⟨bo,hbo⟩:∃ b,decide (dg=row∨dg=p - 1)=b:=⟨_,rfl⟩
 have HI:=Lib.hid (isOn_any k p d n dg row p1 p2)
 rw [hbo] at HI
 have HH:=Lib.hid (holdsData_any k p d n x)
 have HRo:=Lib.hid (holdsRows_any k p d n x)
 by_cases hd:x<d
 · rw [decide_eq_true hd] at HH
   have HX:=Lib.hid (ret_bool (show bo=decide (x<d∧(dg=row∨dg=p - 1)) by rw [←hbo];simp [hd]))
   clear hbo hd hR
   obtain ⟨W0,hW0⟩:∃ W0,(w.alloc (.cells #[.int .i64 k,.int .i64 p,.int .i64 d,.int .i64 n] 177)).alloc (.cells #[.int .i64 x,.int .i64 y] 207)=W0:=⟨_,rfl⟩
   have b0:Blk W0 w.heap.size 177 #[.int .i64 k,.int .i64 p,.int .i64 d,.int .i64 n]:=by rw [←hW0];exact (Blk.new w _ _).alloc _
   have b1:Blk W0 (w.heap.size+1) 207 #[.int .i64 x,.int .i64 y]:=by rw [←hW0];exact Blk.second w _ _ _
   have hB:Below w.heap.size w W0:=by rw [←hW0];exact below_two w _ _
   have hL0:=hL.next hB
   have c0:=b0.cell 0
   have c1:=b0.cell 1
   have c2:=b0.cell 2
   have c3:=b0.cell 3
   have z0:=b1.cell 0
   have z1:=b1.cell 1
   simp only [List.getElem?_toArray,List.getElem?_cons_zero,List.getElem?_cons_succ] at c0 c1 c2 c3 z0 z1
   go_enter Tryz.func311,Tryz.ntmps311
   go_wp2_with fail
   clear hW0
   go_wp2_with (first
    | (go_at_call 313;refine (HD.out _ hL0).mono ?_;rintro e w1 ⟨rfl,hB1⟩;replace b0:=b0.below hB1 b0.lt;replace b1:=b1.below hB1 b1.lt;replace hB:=below_in hB hB1;replace hL0:=hL0.next hB1;have c0:=b0.cell 0;have c1:=b0.cell 1;have c2:=b0.cell 2;have c3:=b0.cell 3;have z0:=b1.cell 0;have z1:=b1.cell 1;simp only [List.getElem?_toArray,List.getElem?_cons_zero,List.getElem?_cons_succ] at c0 c1 c2 c3 z0 z1)
    | (go_at_call 178;refine (HH.out _).mono ?_;rintro e w1 ⟨rfl,hB1⟩;replace b0:=b0.below hB1 b0.lt;replace b1:=b1.below hB1 b1.lt;replace hB:=below_in hB hB1;replace hL0:=hL0.next hB1;have c0:=b0.cell 0;have c1:=b0.cell 1;have c2:=b0.cell 2;have c3:=b0.cell 3;have z0:=b1.cell 0;have z1:=b1.cell 1;simp only [List.getElem?_toArray,List.getElem?_cons_zero,List.getElem?_cons_succ] at c0 c1 c2 c3 z0 z1)
    | (go_at_call 324;refine (HRo.out _).mono ?_;rintro e w1 ⟨rfl,hB1⟩;replace b0:=b0.below hB1 b0.lt;replace b1:=b1.below hB1 b1.lt;replace hB:=below_in hB hB1;replace hL0:=hL0.next hB1;have c0:=b0.cell 0;have c1:=b0.cell 1;have c2:=b0.cell 2;have c3:=b0.cell 3;have z0:=b1.cell 0;have z1:=b1.cell 1;simp only [List.getElem?_toArray,List.getElem?_cons_zero,List.getElem?_cons_succ] at c0 c1 c2 c3 z0 z1)
    | (go_at_call 325;refine (HI.out _).mono ?_;rintro e w1 ⟨rfl,hB1⟩;replace b0:=b0.below hB1 b0.lt;replace b1:=b1.below hB1 b1.lt;replace hB:=below_in hB hB1;replace hL0:=hL0.next hB1;have c0:=b0.cell 0;have c1:=b0.cell 1;have c2:=b0.cell 2;have c3:=b0.cell 3;have z0:=b1.cell 0;have z1:=b1.cell 1;simp only [List.getElem?_toArray,List.getElem?_cons_zero,List.getElem?_cons_succ] at c0 c1 c2 c3 z0 z1))
   go_ret
   exact ⟨HX.out,hB⟩
 · rw [decide_eq_false hd] at HH
   have HX:=Lib.hid (ret_bool (show false=decide (x<d∧(dg=row∨dg=p - 1)) by simp [hd]))
   clear hbo hd hR
   obtain ⟨W0,hW0⟩:∃ W0,(w.alloc (.cells #[.int .i64 k,.int .i64 p,.int .i64 d,.int .i64 n] 177)).alloc (.cells #[.int .i64 x,.int .i64 y] 207)=W0:=⟨_,rfl⟩
   have b0:Blk W0 w.heap.size 177 #[.int .i64 k,.int .i64 p,.int .i64 d,.int .i64 n]:=by rw [←hW0];exact (Blk.new w _ _).alloc _
   have b1:Blk W0 (w.heap.size+1) 207 #[.int .i64 x,.int .i64 y]:=by rw [←hW0];exact Blk.second w _ _ _
   have hB:Below w.heap.size w W0:=by rw [←hW0];exact below_two w _ _
   have hL0:=hL.next hB
   have c0:=b0.cell 0
   have c1:=b0.cell 1
   have c2:=b0.cell 2
   have c3:=b0.cell 3
   have z0:=b1.cell 0
   have z1:=b1.cell 1
   simp only [List.getElem?_toArray,List.getElem?_cons_zero,List.getElem?_cons_succ] at c0 c1 c2 c3 z0 z1
   go_enter Tryz.func311,Tryz.ntmps311
   go_wp2_with fail
   clear hW0
   go_wp2_with (first
    | (go_at_call 313;refine (HD.out _ hL0).mono ?_;rintro e w1 ⟨rfl,hB1⟩;replace b0:=b0.below hB1 b0.lt;replace b1:=b1.below hB1 b1.lt;replace hB:=below_in hB hB1;replace hL0:=hL0.next hB1;have c0:=b0.cell 0;have c1:=b0.cell 1;have c2:=b0.cell 2;have c3:=b0.cell 3;have z0:=b1.cell 0;have z1:=b1.cell 1;simp only [List.getElem?_toArray,List.getElem?_cons_zero,List.getElem?_cons_succ] at c0 c1 c2 c3 z0 z1)
    | (go_at_call 178;refine (HH.out _).mono ?_;rintro e w1 ⟨rfl,hB1⟩;replace b0:=b0.below hB1 b0.lt;replace b1:=b1.below hB1 b1.lt;replace hB:=below_in hB hB1;replace hL0:=hL0.next hB1;have c0:=b0.cell 0;have c1:=b0.cell 1;have c2:=b0.cell 2;have c3:=b0.cell 3;have z0:=b1.cell 0;have z1:=b1.cell 1;simp only [List.getElem?_toArray,List.getElem?_cons_zero,List.getElem?_cons_succ] at c0 c1 c2 c3 z0 z1)
    | (go_at_call 324;refine (HRo.out _).mono ?_;rintro e w1 ⟨rfl,hB1⟩;replace b0:=b0.below hB1 b0.lt;replace b1:=b1.below hB1 b1.lt;replace hB:=below_in hB hB1;replace hL0:=hL0.next hB1;have c0:=b0.cell 0;have c1:=b0.cell 1;have c2:=b0.cell 2;have c3:=b0.cell 3;have z0:=b1.cell 0;have z1:=b1.cell 1;simp only [List.getElem?_toArray,List.getElem?_cons_zero,List.getElem?_cons_succ] at c0 c1 c2 c3 z0 z1)
    | (go_at_call 325;refine (HI.out _).mono ?_;rintro e w1 ⟨rfl,hB1⟩;replace b0:=b0.below hB1 b0.lt;replace b1:=b1.below hB1 b1.lt;replace hB:=below_in hB hB1;replace hL0:=hL0.next hB1;have c0:=b0.cell 0;have c1:=b0.cell 1;have c2:=b0.cell 2;have c3:=b0.cell 3;have z0:=b1.cell 0;have z1:=b1.cell 1;simp only [List.getElem?_toArray,List.getElem?_cons_zero,List.getElem?_cons_succ] at c0 c1 c2 c3 z0 z1))
   go_ret
   exact ⟨HX.out,hB⟩

end Go.Proofs.YtknkdbincaonbaaGreatDoor
