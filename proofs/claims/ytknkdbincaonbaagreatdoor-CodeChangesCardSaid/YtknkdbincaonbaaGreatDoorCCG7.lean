/- -/
import Derived.Test.YtknkdbincaonbaaGreatDoorCCG6
import Derived.Test.YtknkdbincaonbaaGreatDoorCCSA
import Derived.Maps.OwnSet
import Derived.Maps.OwnIn
import Derived.Laws.EntriesVeiled
set_option linter.unusedVariables false
set_option linter.unusedSimpArgs false
set_option maxRecDepth 100000
set_option maxHeartbeats 2000000
namespace Go.Proofs.YtknkdbincaonbaaGreatDoor
open Go.RowKit Go.Shelf

instance (k p x y:Int):Decidable (HasCell k p x y):=by unfold HasCell;infer_instance
def dgN2 (k p x y:Int):Int:=if HasCell k p x y then (x+y) % p else 0
def slN2 (k p x y:Int):Int:=if HasCell k p x y then (y - x) % p else 0
theorem diag_calls (k p x y:Int) (hR:RightC k p) (w:World) (hL:Laid w):Calls Tryz.prog 216 #[.agg #[.int .i64 k,.int .i64 p],.agg #[.int .i64 x,.int .i64 y]] w fun e w' =>
 e = .returned (.tuple #[.int .i64 (dgN2 k p x y),.int .i64 (if HasCell k p x y then 0 else 4)])∧Below w.heap.size w w' :=
 (shapeDiagonal_any k p x y w hL).mono fun e w' h=>by
  unfold dgN2
  by_cases hc:HasCell k p x y
  · rw [if_pos hc,if_pos hc];exact tells3_yes hR hc h
  · rw [if_neg hc,if_neg hc];exact ⟨h.2.1 hR hc,h.2.2.2⟩
theorem slant_calls (k p x y:Int) (hR:RightC k p) (w:World) (hL:Laid w):Calls Tryz.prog 313 #[.agg #[.int .i64 k,.int .i64 p],.agg #[.int .i64 x,.int .i64 y]] w fun e w' =>
 e = .returned (.tuple #[.int .i64 (slN2 k p x y),.int .i64 (if HasCell k p x y then 0 else 4)])∧Below w.heap.size w w' :=
 (shapeSlant_any k p x y w hL).mono fun e w' h=>by
  unfold slN2
  by_cases hc:HasCell k p x y
  · rw [if_pos hc,if_pos hc];exact tells3_yes hR hc h
  · rw [if_neg hc,if_neg hc];exact ⟨h.2.1 hR hc,h.2.2.2⟩

theorem isCell_any (k p d n x y:Int) (hR:RightC k p) (w:World) (hL:Laid w):Calls Tryz.prog 177 #[(.agg #[.int .i64 k,.int .i64 p,.int .i64 d,.int .i64 n]),.agg #[.int .i64 x,.int .i64 y]] w fun e w'=>e = .returned (.bool (decide (HasCell k p x y)))∧Below w.heap.size w w':=by
 have HD:=Lib.hid (fun W hL=>diag_calls k p x y hR W hL)
 generalize dgN2 k p x y=dg at HD
 by_cases hc:HasCell k p x y
 · rw [if_pos hc] at HD
   have HX:=Lib.hid (ret_bool (show true=decide (HasCell k p x y) by simp [hc]))
   clear hc hR
   obtain ⟨W0,hW0⟩:∃ W0,(w.alloc (.cells #[.int .i64 k,.int .i64 p,.int .i64 d,.int .i64 n] 177)).alloc (.cells #[.int .i64 x,.int .i64 y] 207)=W0:=⟨_,rfl⟩
   have b0:Blk W0 w.heap.size 177 #[.int .i64 k,.int .i64 p,.int .i64 d,.int .i64 n]:=by rw [←hW0];exact (Blk.new w _ _).alloc _
   have b1:Blk W0 (w.heap.size+1) 207 #[.int .i64 x,.int .i64 y]:=by rw [←hW0];exact Blk.second w _ _ _
   have hB:Below w.heap.size w W0:=by rw [←hW0];exact below_two w _ _
   have hL0:=hL.next hB
   have c0:=b0.cell 0
   have c1:=b0.cell 1
   have c2:=b0.cell 2
   have c3:=b0.cell 3
   have z0:=b1.cell 0
   have z1:=b1.cell 1
   simp only [gz9] at c0 c1 c2 c3 z0 z1
   go_enter Tryz.func177,Tryz.ntmps177
   go_wp2_with fail
   clear hW0
   go_wp2_with (go_at_call 216;refine (HD.out _ hL0).mono ?_;rintro e w1 ⟨rfl,hB1⟩;replace b0:=b0.below hB1 b0.lt;replace b1:=b1.below hB1 b1.lt;replace hB:=below_in hB hB1;replace hL0:=hL0.next hB1;have c0:=b0.cell 0;have c1:=b0.cell 1;have c2:=b0.cell 2;have c3:=b0.cell 3;have z0:=b1.cell 0;have z1:=b1.cell 1;simp only [gz9] at c0 c1 c2 c3 z0 z1)
   go_ret
   exact ⟨HX.out,hB⟩
 · rw [if_neg hc] at HD
   have HX:=Lib.hid (ret_bool (show false=decide (HasCell k p x y) by simp [hc]))
   clear hc hR
   obtain ⟨W0,hW0⟩:∃ W0,(w.alloc (.cells #[.int .i64 k,.int .i64 p,.int .i64 d,.int .i64 n] 177)).alloc (.cells #[.int .i64 x,.int .i64 y] 207)=W0:=⟨_,rfl⟩
   have b0:Blk W0 w.heap.size 177 #[.int .i64 k,.int .i64 p,.int .i64 d,.int .i64 n]:=by rw [←hW0];exact (Blk.new w _ _).alloc _
   have b1:Blk W0 (w.heap.size+1) 207 #[.int .i64 x,.int .i64 y]:=by rw [←hW0];exact Blk.second w _ _ _
   have hB:Below w.heap.size w W0:=by rw [←hW0];exact below_two w _ _
   have hL0:=hL.next hB
   have c0:=b0.cell 0
   have c1:=b0.cell 1
   have c2:=b0.cell 2
   have c3:=b0.cell 3
   have z0:=b1.cell 0
   have z1:=b1.cell 1
   simp only [gz9] at c0 c1 c2 c3 z0 z1
   go_enter Tryz.func177,Tryz.ntmps177
   go_wp2_with fail
   clear hW0
   go_wp2_with (go_at_call 216;refine (HD.out _ hL0).mono ?_;rintro e w1 ⟨rfl,hB1⟩;replace b0:=b0.below hB1 b0.lt;replace b1:=b1.below hB1 b1.lt;replace hB:=below_in hB hB1;replace hL0:=hL0.next hB1;have c0:=b0.cell 0;have c1:=b0.cell 1;have c2:=b0.cell 2;have c3:=b0.cell 3;have z0:=b1.cell 0;have z1:=b1.cell 1;simp only [gz9] at c0 c1 c2 c3 z0 z1)
   go_ret
   exact ⟨HX.out,hB⟩

theorem isMade_any (k p d n x y:Int) (hR:RightC k p) (w:World) (hL:Laid w):Calls Tryz.prog 327 #[(.agg #[.int .i64 k,.int .i64 p,.int .i64 d,.int .i64 n]),.agg #[.int .i64 x,.int .i64 y]] w fun e w'=>e = .returned (.bool (decide (HasCell k p x y∧d≤x)))∧Below w.heap.size w w':=by
 have HC:=Lib.hid (fun W hL=>isCell_any k p d n x y hR W hL)
 have HH:=Lib.hid (holdsData_any k p d n x)
 by_cases hc:HasCell k p x y
 · rw [decide_eq_true hc] at HC
   by_cases hd:x<d
   · rw [decide_eq_true hd] at HH
     have HX:=Lib.hid (ret_bool (show false=decide (HasCell k p x y∧d≤x) by simp [hc,hd] <;> omega))
     clear hc hd hR
     obtain ⟨W0,hW0⟩:∃ W0,(w.alloc (.cells #[.int .i64 k,.int .i64 p,.int .i64 d,.int .i64 n] 177)).alloc (.cells #[.int .i64 x,.int .i64 y] 207)=W0:=⟨_,rfl⟩
     have b0:Blk W0 w.heap.size 177 #[.int .i64 k,.int .i64 p,.int .i64 d,.int .i64 n]:=by rw [←hW0];exact (Blk.new w _ _).alloc _
     have b1:Blk W0 (w.heap.size+1) 207 #[.int .i64 x,.int .i64 y]:=by rw [←hW0];exact Blk.second w _ _ _
     have hB:Below w.heap.size w W0:=by rw [←hW0];exact below_two w _ _
     have hL0:=hL.next hB
     have c0:=b0.cell 0
     have c1:=b0.cell 1
     have c2:=b0.cell 2
     have c3:=b0.cell 3
     have z0:=b1.cell 0
     have z1:=b1.cell 1
     simp only [gz9] at c0 c1 c2 c3 z0 z1
     go_enter Tryz.func327,Tryz.ntmps327
     go_wp2_with fail
     clear hW0
     go_wp2_with (first
      | (go_at_call 177;refine (HC.out _ hL0).mono ?_;rintro e w1 ⟨rfl,hB1⟩;replace b0:=b0.below hB1 b0.lt;replace b1:=b1.below hB1 b1.lt;replace hB:=below_in hB hB1;replace hL0:=hL0.next hB1;have c0:=b0.cell 0;have c1:=b0.cell 1;have c2:=b0.cell 2;have c3:=b0.cell 3;have z0:=b1.cell 0;have z1:=b1.cell 1;simp only [gz9] at c0 c1 c2 c3 z0 z1)
      | (go_at_call 178;refine (HH.out _).mono ?_;rintro e w1 ⟨rfl,hB1⟩;replace b0:=b0.below hB1 b0.lt;replace b1:=b1.below hB1 b1.lt;replace hB:=below_in hB hB1;replace hL0:=hL0.next hB1;have c0:=b0.cell 0;have c1:=b0.cell 1;have c2:=b0.cell 2;have c3:=b0.cell 3;have z0:=b1.cell 0;have z1:=b1.cell 1;simp only [gz9] at c0 c1 c2 c3 z0 z1))
     go_ret
     exact ⟨HX.out,hB⟩
   · rw [decide_eq_false hd] at HH
     have HX:=Lib.hid (ret_bool (show true=decide (HasCell k p x y∧d≤x) by simp [hc,hd] <;> omega))
     clear hc hd hR
     obtain ⟨W0,hW0⟩:∃ W0,(w.alloc (.cells #[.int .i64 k,.int .i64 p,.int .i64 d,.int .i64 n] 177)).alloc (.cells #[.int .i64 x,.int .i64 y] 207)=W0:=⟨_,rfl⟩
     have b0:Blk W0 w.heap.size 177 #[.int .i64 k,.int .i64 p,.int .i64 d,.int .i64 n]:=by rw [←hW0];exact (Blk.new w _ _).alloc _
     have b1:Blk W0 (w.heap.size+1) 207 #[.int .i64 x,.int .i64 y]:=by rw [←hW0];exact Blk.second w _ _ _
     have hB:Below w.heap.size w W0:=by rw [←hW0];exact below_two w _ _
     have hL0:=hL.next hB
     have c0:=b0.cell 0
     have c1:=b0.cell 1
     have c2:=b0.cell 2
     have c3:=b0.cell 3
     have z0:=b1.cell 0
     have z1:=b1.cell 1
     simp only [gz9] at c0 c1 c2 c3 z0 z1
     go_enter Tryz.func327,Tryz.ntmps327
     go_wp2_with fail
     clear hW0
     go_wp2_with (first
      | (go_at_call 177;refine (HC.out _ hL0).mono ?_;rintro e w1 ⟨rfl,hB1⟩;replace b0:=b0.below hB1 b0.lt;replace b1:=b1.below hB1 b1.lt;replace hB:=below_in hB hB1;replace hL0:=hL0.next hB1;have c0:=b0.cell 0;have c1:=b0.cell 1;have c2:=b0.cell 2;have c3:=b0.cell 3;have z0:=b1.cell 0;have z1:=b1.cell 1;simp only [gz9] at c0 c1 c2 c3 z0 z1)
      | (go_at_call 178;refine (HH.out _).mono ?_;rintro e w1 ⟨rfl,hB1⟩;replace b0:=b0.below hB1 b0.lt;replace b1:=b1.below hB1 b1.lt;replace hB:=below_in hB hB1;replace hL0:=hL0.next hB1;have c0:=b0.cell 0;have c1:=b0.cell 1;have c2:=b0.cell 2;have c3:=b0.cell 3;have z0:=b1.cell 0;have z1:=b1.cell 1;simp only [gz9] at c0 c1 c2 c3 z0 z1))
     go_ret
     exact ⟨HX.out,hB⟩
 · rw [decide_eq_false hc] at HC
   have HX:=Lib.hid (ret_bool (show false=decide (HasCell k p x y∧d≤x) by simp [hc] <;> omega))
   clear hc hR
   obtain ⟨W0,hW0⟩:∃ W0,(w.alloc (.cells #[.int .i64 k,.int .i64 p,.int .i64 d,.int .i64 n] 177)).alloc (.cells #[.int .i64 x,.int .i64 y] 207)=W0:=⟨_,rfl⟩
   have b0:Blk W0 w.heap.size 177 #[.int .i64 k,.int .i64 p,.int .i64 d,.int .i64 n]:=by rw [←hW0];exact (Blk.new w _ _).alloc _
   have b1:Blk W0 (w.heap.size+1) 207 #[.int .i64 x,.int .i64 y]:=by rw [←hW0];exact Blk.second w _ _ _
   have hB:Below w.heap.size w W0:=by rw [←hW0];exact below_two w _ _
   have hL0:=hL.next hB
   have c0:=b0.cell 0
   have c1:=b0.cell 1
   have c2:=b0.cell 2
   have c3:=b0.cell 3
   have z0:=b1.cell 0
   have z1:=b1.cell 1
   simp only [gz9] at c0 c1 c2 c3 z0 z1
   go_enter Tryz.func327,Tryz.ntmps327
   go_wp2_with fail
   clear hW0
   go_wp2_with (first
    | (go_at_call 177;refine (HC.out _ hL0).mono ?_;rintro e w1 ⟨rfl,hB1⟩;replace b0:=b0.below hB1 b0.lt;replace b1:=b1.below hB1 b1.lt;replace hB:=below_in hB hB1;replace hL0:=hL0.next hB1;have c0:=b0.cell 0;have c1:=b0.cell 1;have c2:=b0.cell 2;have c3:=b0.cell 3;have z0:=b1.cell 0;have z1:=b1.cell 1;simp only [gz9] at c0 c1 c2 c3 z0 z1)
    | (go_at_call 178;refine (HH.out _).mono ?_;rintro e w1 ⟨rfl,hB1⟩;replace b0:=b0.below hB1 b0.lt;replace b1:=b1.below hB1 b1.lt;replace hB:=below_in hB hB1;replace hL0:=hL0.next hB1;have c0:=b0.cell 0;have c1:=b0.cell 1;have c2:=b0.cell 2;have c3:=b0.cell 3;have z0:=b1.cell 0;have z1:=b1.cell 1;simp only [gz9] at c0 c1 c2 c3 z0 z1))
   go_ret
   exact ⟨HX.out,hB⟩

theorem isData_any (k p d n x y:Int) (hR:RightC k p) (w:World) (hL:Laid w):Calls Tryz.prog 138 #[(.agg #[.int .i64 k,.int .i64 p,.int .i64 d,.int .i64 n]),.agg #[.int .i64 x,.int .i64 y]] w fun e w'=>e = .returned (.bool (decide (HasCell k p x y∧x<d)))∧Below w.heap.size w w':=by
 have HC:=Lib.hid (fun W hL=>isCell_any k p d n x y hR W hL)
 have HH:=Lib.hid (holdsData_any k p d n x)
 by_cases hc:HasCell k p x y
 · rw [decide_eq_true hc] at HC
   by_cases hd:x<d
   · rw [decide_eq_true hd] at HH
     have HX:=Lib.hid (ret_bool (show true=decide (HasCell k p x y∧x<d) by simp [hc,hd] <;> omega))
     clear hc hd hR
     obtain ⟨W0,hW0⟩:∃ W0,(w.alloc (.cells #[.int .i64 k,.int .i64 p,.int .i64 d,.int .i64 n] 177)).alloc (.cells #[.int .i64 x,.int .i64 y] 207)=W0:=⟨_,rfl⟩
     have b0:Blk W0 w.heap.size 177 #[.int .i64 k,.int .i64 p,.int .i64 d,.int .i64 n]:=by rw [←hW0];exact (Blk.new w _ _).alloc _
     have b1:Blk W0 (w.heap.size+1) 207 #[.int .i64 x,.int .i64 y]:=by rw [←hW0];exact Blk.second w _ _ _
     have hB:Below w.heap.size w W0:=by rw [←hW0];exact below_two w _ _
     have hL0:=hL.next hB
     have c0:=b0.cell 0
     have c1:=b0.cell 1
     have c2:=b0.cell 2
     have c3:=b0.cell 3
     have z0:=b1.cell 0
     have z1:=b1.cell 1
     simp only [gz9] at c0 c1 c2 c3 z0 z1
     go_enter Tryz.func138,Tryz.ntmps138
     go_wp2_with fail
     clear hW0
     go_wp2_with (first
      | (go_at_call 177;refine (HC.out _ hL0).mono ?_;rintro e w1 ⟨rfl,hB1⟩;replace b0:=b0.below hB1 b0.lt;replace b1:=b1.below hB1 b1.lt;replace hB:=below_in hB hB1;replace hL0:=hL0.next hB1;have c0:=b0.cell 0;have c1:=b0.cell 1;have c2:=b0.cell 2;have c3:=b0.cell 3;have z0:=b1.cell 0;have z1:=b1.cell 1;simp only [gz9] at c0 c1 c2 c3 z0 z1)
      | (go_at_call 178;refine (HH.out _).mono ?_;rintro e w1 ⟨rfl,hB1⟩;replace b0:=b0.below hB1 b0.lt;replace b1:=b1.below hB1 b1.lt;replace hB:=below_in hB hB1;replace hL0:=hL0.next hB1;have c0:=b0.cell 0;have c1:=b0.cell 1;have c2:=b0.cell 2;have c3:=b0.cell 3;have z0:=b1.cell 0;have z1:=b1.cell 1;simp only [gz9] at c0 c1 c2 c3 z0 z1))
     go_ret
     exact ⟨HX.out,hB⟩
   · rw [decide_eq_false hd] at HH
     have HX:=Lib.hid (ret_bool (show false=decide (HasCell k p x y∧x<d) by simp [hc,hd] <;> omega))
     clear hc hd hR
     obtain ⟨W0,hW0⟩:∃ W0,(w.alloc (.cells #[.int .i64 k,.int .i64 p,.int .i64 d,.int .i64 n] 177)).alloc (.cells #[.int .i64 x,.int .i64 y] 207)=W0:=⟨_,rfl⟩
     have b0:Blk W0 w.heap.size 177 #[.int .i64 k,.int .i64 p,.int .i64 d,.int .i64 n]:=by rw [←hW0];exact (Blk.new w _ _).alloc _
     have b1:Blk W0 (w.heap.size+1) 207 #[.int .i64 x,.int .i64 y]:=by rw [←hW0];exact Blk.second w _ _ _
     have hB:Below w.heap.size w W0:=by rw [←hW0];exact below_two w _ _
     have hL0:=hL.next hB
     have c0:=b0.cell 0
     have c1:=b0.cell 1
     have c2:=b0.cell 2
     have c3:=b0.cell 3
     have z0:=b1.cell 0
     have z1:=b1.cell 1
     simp only [gz9] at c0 c1 c2 c3 z0 z1
     go_enter Tryz.func138,Tryz.ntmps138
     go_wp2_with fail
     clear hW0
     go_wp2_with (first
      | (go_at_call 177;refine (HC.out _ hL0).mono ?_;rintro e w1 ⟨rfl,hB1⟩;replace b0:=b0.below hB1 b0.lt;replace b1:=b1.below hB1 b1.lt;replace hB:=below_in hB hB1;replace hL0:=hL0.next hB1;have c0:=b0.cell 0;have c1:=b0.cell 1;have c2:=b0.cell 2;have c3:=b0.cell 3;have z0:=b1.cell 0;have z1:=b1.cell 1;simp only [gz9] at c0 c1 c2 c3 z0 z1)
      | (go_at_call 178;refine (HH.out _).mono ?_;rintro e w1 ⟨rfl,hB1⟩;replace b0:=b0.below hB1 b0.lt;replace b1:=b1.below hB1 b1.lt;replace hB:=below_in hB hB1;replace hL0:=hL0.next hB1;have c0:=b0.cell 0;have c1:=b0.cell 1;have c2:=b0.cell 2;have c3:=b0.cell 3;have z0:=b1.cell 0;have z1:=b1.cell 1;simp only [gz9] at c0 c1 c2 c3 z0 z1))
     go_ret
     exact ⟨HX.out,hB⟩
 · rw [decide_eq_false hc] at HC
   have HX:=Lib.hid (ret_bool (show false=decide (HasCell k p x y∧x<d) by simp [hc] <;> omega))
   clear hc hR
   obtain ⟨W0,hW0⟩:∃ W0,(w.alloc (.cells #[.int .i64 k,.int .i64 p,.int .i64 d,.int .i64 n] 177)).alloc (.cells #[.int .i64 x,.int .i64 y] 207)=W0:=⟨_,rfl⟩
   have b0:Blk W0 w.heap.size 177 #[.int .i64 k,.int .i64 p,.int .i64 d,.int .i64 n]:=by rw [←hW0];exact (Blk.new w _ _).alloc _
   have b1:Blk W0 (w.heap.size+1) 207 #[.int .i64 x,.int .i64 y]:=by rw [←hW0];exact Blk.second w _ _ _
   have hB:Below w.heap.size w W0:=by rw [←hW0];exact below_two w _ _
   have hL0:=hL.next hB
   have c0:=b0.cell 0
   have c1:=b0.cell 1
   have c2:=b0.cell 2
   have c3:=b0.cell 3
   have z0:=b1.cell 0
   have z1:=b1.cell 1
   simp only [gz9] at c0 c1 c2 c3 z0 z1
   go_enter Tryz.func138,Tryz.ntmps138
   go_wp2_with fail
   clear hW0
   go_wp2_with (first
    | (go_at_call 177;refine (HC.out _ hL0).mono ?_;rintro e w1 ⟨rfl,hB1⟩;replace b0:=b0.below hB1 b0.lt;replace b1:=b1.below hB1 b1.lt;replace hB:=below_in hB hB1;replace hL0:=hL0.next hB1;have c0:=b0.cell 0;have c1:=b0.cell 1;have c2:=b0.cell 2;have c3:=b0.cell 3;have z0:=b1.cell 0;have z1:=b1.cell 1;simp only [gz9] at c0 c1 c2 c3 z0 z1)
    | (go_at_call 178;refine (HH.out _).mono ?_;rintro e w1 ⟨rfl,hB1⟩;replace b0:=b0.below hB1 b0.lt;replace b1:=b1.below hB1 b1.lt;replace hB:=below_in hB hB1;replace hL0:=hL0.next hB1;have c0:=b0.cell 0;have c1:=b0.cell 1;have c2:=b0.cell 2;have c3:=b0.cell 3;have z0:=b1.cell 0;have z1:=b1.cell 1;simp only [gz9] at c0 c1 c2 c3 z0 z1))
   go_ret
   exact ⟨HX.out,hB⟩

end Go.Proofs.YtknkdbincaonbaaGreatDoor

namespace Go.Proofs.YtknkdbincaonbaaGreatDoor
open Go.RowKit Go.Shelf

def inRw (d row x y:Int):Bool:=decide (x<d∧y=row)
def onDg (k p d row x y:Int):Bool:=if k=2 then decide ((x<d∨x=d)∧dgN2 k p x y=row) else decide (x<d∧(dgN2 k p x y=row∨dgN2 k p x y=p - 1))
def onSl (k p d row x y:Int):Bool:=decide (x<d∧(slN2 k p x y=row∨slN2 k p x y=p - 1))

theorem onDiagonal_any (k p d n row x y:Int) (hR:RightC k p) (w:World) (hL:Laid w):Calls Tryz.prog 310 #[(.agg #[.int .i64 k,.int .i64 p,.int .i64 d,.int .i64 n]),.int .i64 row,.agg #[.int .i64 x,.int .i64 y]] w fun e w'=>e = .returned (.bool (onDg k p d row x y))∧Below w.heap.size w w':=by
 obtain ⟨p1,p2,_,_,_,_⟩:=hR.und
 have HD:=Lib.hid (fun W hL=>diag_calls k p x y hR W hL)
 unfold onDg
 generalize (if HasCell k p x y then (0:Int) else 4)=er at HD
 generalize dgN2 k p x y=dg at HD ⊢
 obtain ⟨bo,hbo⟩:∃ b,decide (dg=row∨dg=p - 1)=b:=⟨_,rfl⟩
 have HI:=Lib.hid (isOn_any k p d n dg row p1 p2)
 rw [hbo] at HI
 have HH:=Lib.hid (holdsData_any k p d n x)
 have HRo:=Lib.hid (holdsRows_any k p d n x)
 by_cases hk:k=2
 · rw [if_pos hk]
   have hk2:(k == 2)=true:=by simpa using hk
   clear hk
   by_cases hd:x<d
   · rw [decide_eq_true hd] at HH
     have HX:=Lib.hid (ret_bool (show (dg == row)=decide ((x<d∨x=d)∧dg=row) by rw [Bool.eq_iff_iff];simp [hd]))
     clear hd hR
     obtain ⟨W0,hW0⟩:∃ W0,(w.alloc (.cells #[.int .i64 k,.int .i64 p,.int .i64 d,.int .i64 n] 177)).alloc (.cells #[.int .i64 x,.int .i64 y] 207)=W0:=⟨_,rfl⟩
     have b0:Blk W0 w.heap.size 177 #[.int .i64 k,.int .i64 p,.int .i64 d,.int .i64 n]:=by rw [←hW0];exact (Blk.new w _ _).alloc _
     have b1:Blk W0 (w.heap.size+1) 207 #[.int .i64 x,.int .i64 y]:=by rw [←hW0];exact Blk.second w _ _ _
     have hB:Below w.heap.size w W0:=by rw [←hW0];exact below_two w _ _
     have hL0:=hL.next hB
     have c0:=b0.cell 0
     have c1:=b0.cell 1
     have c2:=b0.cell 2
     have c3:=b0.cell 3
     have z0:=b1.cell 0
     have z1:=b1.cell 1
     simp only [gz9] at c0 c1 c2 c3 z0 z1
     go_enter Tryz.func310,Tryz.ntmps310
     go_wp2_with fail
     clear hW0
     go_wp2_with (first
      | (go_at_call 216;refine (HD.out _ hL0).mono ?_;rintro e w1 ⟨rfl,hB1⟩;replace b0:=b0.below hB1 b0.lt;replace b1:=b1.below hB1 b1.lt;replace hB:=below_in hB hB1;replace hL0:=hL0.next hB1;have c0:=b0.cell 0;have c1:=b0.cell 1;have c2:=b0.cell 2;have c3:=b0.cell 3;have z0:=b1.cell 0;have z1:=b1.cell 1;simp only [gz9] at c0 c1 c2 c3 z0 z1)
      | (go_at_call 178;refine (HH.out _).mono ?_;rintro e w1 ⟨rfl,hB1⟩;replace b0:=b0.below hB1 b0.lt;replace b1:=b1.below hB1 b1.lt;replace hB:=below_in hB hB1;replace hL0:=hL0.next hB1;have c0:=b0.cell 0;have c1:=b0.cell 1;have c2:=b0.cell 2;have c3:=b0.cell 3;have z0:=b1.cell 0;have z1:=b1.cell 1;simp only [gz9] at c0 c1 c2 c3 z0 z1)
      | (go_at_call 324;refine (HRo.out _).mono ?_;rintro e w1 ⟨rfl,hB1⟩;replace b0:=b0.below hB1 b0.lt;replace b1:=b1.below hB1 b1.lt;replace hB:=below_in hB hB1;replace hL0:=hL0.next hB1;have c0:=b0.cell 0;have c1:=b0.cell 1;have c2:=b0.cell 2;have c3:=b0.cell 3;have z0:=b1.cell 0;have z1:=b1.cell 1;simp only [gz9] at c0 c1 c2 c3 z0 z1)
      | (go_at_call 325;refine (HI.out _).mono ?_;rintro e w1 ⟨rfl,hB1⟩;replace b0:=b0.below hB1 b0.lt;replace b1:=b1.below hB1 b1.lt;replace hB:=below_in hB hB1;replace hL0:=hL0.next hB1;have c0:=b0.cell 0;have c1:=b0.cell 1;have c2:=b0.cell 2;have c3:=b0.cell 3;have z0:=b1.cell 0;have z1:=b1.cell 1;simp only [gz9] at c0 c1 c2 c3 z0 z1))
     go_ret
     exact ⟨HX.out,hB⟩
   · rw [decide_eq_false hd] at HH
     by_cases he:x=d
     · rw [show (x == d)=true by simpa using he] at HRo
       have HX:=Lib.hid (ret_bool (show (dg == row)=decide ((x<d∨x=d)∧dg=row) by rw [Bool.eq_iff_iff];simp [he]))
       clear he hbo hd hR
       obtain ⟨W0,hW0⟩:∃ W0,(w.alloc (.cells #[.int .i64 k,.int .i64 p,.int .i64 d,.int .i64 n] 177)).alloc (.cells #[.int .i64 x,.int .i64 y] 207)=W0:=⟨_,rfl⟩
       have b0:Blk W0 w.heap.size 177 #[.int .i64 k,.int .i64 p,.int .i64 d,.int .i64 n]:=by rw [←hW0];exact (Blk.new w _ _).alloc _
       have b1:Blk W0 (w.heap.size+1) 207 #[.int .i64 x,.int .i64 y]:=by rw [←hW0];exact Blk.second w _ _ _
       have hB:Below w.heap.size w W0:=by rw [←hW0];exact below_two w _ _
       have hL0:=hL.next hB
       have c0:=b0.cell 0
       have c1:=b0.cell 1
       have c2:=b0.cell 2
       have c3:=b0.cell 3
       have z0:=b1.cell 0
       have z1:=b1.cell 1
       simp only [gz9] at c0 c1 c2 c3 z0 z1
       go_enter Tryz.func310,Tryz.ntmps310
       go_wp2_with fail
       clear hW0
       go_wp2_with (first
        | (go_at_call 216;refine (HD.out _ hL0).mono ?_;rintro e w1 ⟨rfl,hB1⟩;replace b0:=b0.below hB1 b0.lt;replace b1:=b1.below hB1 b1.lt;replace hB:=below_in hB hB1;replace hL0:=hL0.next hB1;have c0:=b0.cell 0;have c1:=b0.cell 1;have c2:=b0.cell 2;have c3:=b0.cell 3;have z0:=b1.cell 0;have z1:=b1.cell 1;simp only [gz9] at c0 c1 c2 c3 z0 z1)
        | (go_at_call 178;refine (HH.out _).mono ?_;rintro e w1 ⟨rfl,hB1⟩;replace b0:=b0.below hB1 b0.lt;replace b1:=b1.below hB1 b1.lt;replace hB:=below_in hB hB1;replace hL0:=hL0.next hB1;have c0:=b0.cell 0;have c1:=b0.cell 1;have c2:=b0.cell 2;have c3:=b0.cell 3;have z0:=b1.cell 0;have z1:=b1.cell 1;simp only [gz9] at c0 c1 c2 c3 z0 z1)
        | (go_at_call 324;refine (HRo.out _).mono ?_;rintro e w1 ⟨rfl,hB1⟩;replace b0:=b0.below hB1 b0.lt;replace b1:=b1.below hB1 b1.lt;replace hB:=below_in hB hB1;replace hL0:=hL0.next hB1;have c0:=b0.cell 0;have c1:=b0.cell 1;have c2:=b0.cell 2;have c3:=b0.cell 3;have z0:=b1.cell 0;have z1:=b1.cell 1;simp only [gz9] at c0 c1 c2 c3 z0 z1)
        | (go_at_call 325;refine (HI.out _).mono ?_;rintro e w1 ⟨rfl,hB1⟩;replace b0:=b0.below hB1 b0.lt;replace b1:=b1.below hB1 b1.lt;replace hB:=below_in hB hB1;replace hL0:=hL0.next hB1;have c0:=b0.cell 0;have c1:=b0.cell 1;have c2:=b0.cell 2;have c3:=b0.cell 3;have z0:=b1.cell 0;have z1:=b1.cell 1;simp only [gz9] at c0 c1 c2 c3 z0 z1))
       go_ret
       exact ⟨HX.out,hB⟩
     · rw [show (x == d)=false by simpa using he] at HRo
       have HX:=Lib.hid (ret_bool (show false=decide ((x<d∨x=d)∧dg=row) by simp [hd,he] <;> omega))
       clear hd he hR
       obtain ⟨W0,hW0⟩:∃ W0,(w.alloc (.cells #[.int .i64 k,.int .i64 p,.int .i64 d,.int .i64 n] 177)).alloc (.cells #[.int .i64 x,.int .i64 y] 207)=W0:=⟨_,rfl⟩
       have b0:Blk W0 w.heap.size 177 #[.int .i64 k,.int .i64 p,.int .i64 d,.int .i64 n]:=by rw [←hW0];exact (Blk.new w _ _).alloc _
       have b1:Blk W0 (w.heap.size+1) 207 #[.int .i64 x,.int .i64 y]:=by rw [←hW0];exact Blk.second w _ _ _
       have hB:Below w.heap.size w W0:=by rw [←hW0];exact below_two w _ _
       have hL0:=hL.next hB
       have c0:=b0.cell 0
       have c1:=b0.cell 1
       have c2:=b0.cell 2
       have c3:=b0.cell 3
       have z0:=b1.cell 0
       have z1:=b1.cell 1
       simp only [gz9] at c0 c1 c2 c3 z0 z1
       go_enter Tryz.func310,Tryz.ntmps310
       go_wp2_with fail
       clear hW0
       go_wp2_with (first
        | (go_at_call 216;refine (HD.out _ hL0).mono ?_;rintro e w1 ⟨rfl,hB1⟩;replace b0:=b0.below hB1 b0.lt;replace b1:=b1.below hB1 b1.lt;replace hB:=below_in hB hB1;replace hL0:=hL0.next hB1;have c0:=b0.cell 0;have c1:=b0.cell 1;have c2:=b0.cell 2;have c3:=b0.cell 3;have z0:=b1.cell 0;have z1:=b1.cell 1;simp only [gz9] at c0 c1 c2 c3 z0 z1)
        | (go_at_call 178;refine (HH.out _).mono ?_;rintro e w1 ⟨rfl,hB1⟩;replace b0:=b0.below hB1 b0.lt;replace b1:=b1.below hB1 b1.lt;replace hB:=below_in hB hB1;replace hL0:=hL0.next hB1;have c0:=b0.cell 0;have c1:=b0.cell 1;have c2:=b0.cell 2;have c3:=b0.cell 3;have z0:=b1.cell 0;have z1:=b1.cell 1;simp only [gz9] at c0 c1 c2 c3 z0 z1)
        | (go_at_call 324;refine (HRo.out _).mono ?_;rintro e w1 ⟨rfl,hB1⟩;replace b0:=b0.below hB1 b0.lt;replace b1:=b1.below hB1 b1.lt;replace hB:=below_in hB hB1;replace hL0:=hL0.next hB1;have c0:=b0.cell 0;have c1:=b0.cell 1;have c2:=b0.cell 2;have c3:=b0.cell 3;have z0:=b1.cell 0;have z1:=b1.cell 1;simp only [gz9] at c0 c1 c2 c3 z0 z1)
        | (go_at_call 325;refine (HI.out _).mono ?_;rintro e w1 ⟨rfl,hB1⟩;replace b0:=b0.below hB1 b0.lt;replace b1:=b1.below hB1 b1.lt;replace hB:=below_in hB hB1;replace hL0:=hL0.next hB1;have c0:=b0.cell 0;have c1:=b0.cell 1;have c2:=b0.cell 2;have c3:=b0.cell 3;have z0:=b1.cell 0;have z1:=b1.cell 1;simp only [gz9] at c0 c1 c2 c3 z0 z1))
       go_ret
       exact ⟨HX.out,hB⟩
 · rw [if_neg hk]
   have hk2:(k == 2)=false:=by simpa using hk
   by_cases hd:x<d
   · rw [decide_eq_true hd] at HH
     have HX:=Lib.hid (ret_bool (show bo=decide (x<d∧(dg=row∨dg=p - 1)) by rw [←hbo];simp [hd]))
     clear hbo hd hR
     obtain ⟨W0,hW0⟩:∃ W0,(w.alloc (.cells #[.int .i64 k,.int .i64 p,.int .i64 d,.int .i64 n] 177)).alloc (.cells #[.int .i64 x,.int .i64 y] 207)=W0:=⟨_,rfl⟩
     have b0:Blk W0 w.heap.size 177 #[.int .i64 k,.int .i64 p,.int .i64 d,.int .i64 n]:=by rw [←hW0];exact (Blk.new w _ _).alloc _
     have b1:Blk W0 (w.heap.size+1) 207 #[.int .i64 x,.int .i64 y]:=by rw [←hW0];exact Blk.second w _ _ _
     have hB:Below w.heap.size w W0:=by rw [←hW0];exact below_two w _ _
     have hL0:=hL.next hB
     have c0:=b0.cell 0
     have c1:=b0.cell 1
     have c2:=b0.cell 2
     have c3:=b0.cell 3
     have z0:=b1.cell 0
     have z1:=b1.cell 1
     simp only [gz9] at c0 c1 c2 c3 z0 z1
     go_enter Tryz.func310,Tryz.ntmps310
     go_wp2_with fail
     clear hW0
     go_wp2_with (first
      | (go_at_call 216;refine (HD.out _ hL0).mono ?_;rintro e w1 ⟨rfl,hB1⟩;replace b0:=b0.below hB1 b0.lt;replace b1:=b1.below hB1 b1.lt;replace hB:=below_in hB hB1;replace hL0:=hL0.next hB1;have c0:=b0.cell 0;have c1:=b0.cell 1;have c2:=b0.cell 2;have c3:=b0.cell 3;have z0:=b1.cell 0;have z1:=b1.cell 1;simp only [gz9] at c0 c1 c2 c3 z0 z1)
      | (go_at_call 178;refine (HH.out _).mono ?_;rintro e w1 ⟨rfl,hB1⟩;replace b0:=b0.below hB1 b0.lt;replace b1:=b1.below hB1 b1.lt;replace hB:=below_in hB hB1;replace hL0:=hL0.next hB1;have c0:=b0.cell 0;have c1:=b0.cell 1;have c2:=b0.cell 2;have c3:=b0.cell 3;have z0:=b1.cell 0;have z1:=b1.cell 1;simp only [gz9] at c0 c1 c2 c3 z0 z1)
      | (go_at_call 324;refine (HRo.out _).mono ?_;rintro e w1 ⟨rfl,hB1⟩;replace b0:=b0.below hB1 b0.lt;replace b1:=b1.below hB1 b1.lt;replace hB:=below_in hB hB1;replace hL0:=hL0.next hB1;have c0:=b0.cell 0;have c1:=b0.cell 1;have c2:=b0.cell 2;have c3:=b0.cell 3;have z0:=b1.cell 0;have z1:=b1.cell 1;simp only [gz9] at c0 c1 c2 c3 z0 z1)
      | (go_at_call 325;refine (HI.out _).mono ?_;rintro e w1 ⟨rfl,hB1⟩;replace b0:=b0.below hB1 b0.lt;replace b1:=b1.below hB1 b1.lt;replace hB:=below_in hB hB1;replace hL0:=hL0.next hB1;have c0:=b0.cell 0;have c1:=b0.cell 1;have c2:=b0.cell 2;have c3:=b0.cell 3;have z0:=b1.cell 0;have z1:=b1.cell 1;simp only [gz9] at c0 c1 c2 c3 z0 z1))
     go_ret
     exact ⟨HX.out,hB⟩
   · rw [decide_eq_false hd] at HH
     have HX:=Lib.hid (ret_bool (show false=decide (x<d∧(dg=row∨dg=p - 1)) by simp [hd]))
     clear hbo hd hR
     obtain ⟨W0,hW0⟩:∃ W0,(w.alloc (.cells #[.int .i64 k,.int .i64 p,.int .i64 d,.int .i64 n] 177)).alloc (.cells #[.int .i64 x,.int .i64 y] 207)=W0:=⟨_,rfl⟩
     have b0:Blk W0 w.heap.size 177 #[.int .i64 k,.int .i64 p,.int .i64 d,.int .i64 n]:=by rw [←hW0];exact (Blk.new w _ _).alloc _
     have b1:Blk W0 (w.heap.size+1) 207 #[.int .i64 x,.int .i64 y]:=by rw [←hW0];exact Blk.second w _ _ _
     have hB:Below w.heap.size w W0:=by rw [←hW0];exact below_two w _ _
     have hL0:=hL.next hB
     have c0:=b0.cell 0
     have c1:=b0.cell 1
     have c2:=b0.cell 2
     have c3:=b0.cell 3
     have z0:=b1.cell 0
     have z1:=b1.cell 1
     simp only [gz9] at c0 c1 c2 c3 z0 z1
     go_enter Tryz.func310,Tryz.ntmps310
     go_wp2_with fail
     clear hW0
     go_wp2_with (first
      | (go_at_call 216;refine (HD.out _ hL0).mono ?_;rintro e w1 ⟨rfl,hB1⟩;replace b0:=b0.below hB1 b0.lt;replace b1:=b1.below hB1 b1.lt;replace hB:=below_in hB hB1;replace hL0:=hL0.next hB1;have c0:=b0.cell 0;have c1:=b0.cell 1;have c2:=b0.cell 2;have c3:=b0.cell 3;have z0:=b1.cell 0;have z1:=b1.cell 1;simp only [gz9] at c0 c1 c2 c3 z0 z1)
      | (go_at_call 178;refine (HH.out _).mono ?_;rintro e w1 ⟨rfl,hB1⟩;replace b0:=b0.below hB1 b0.lt;replace b1:=b1.below hB1 b1.lt;replace hB:=below_in hB hB1;replace hL0:=hL0.next hB1;have c0:=b0.cell 0;have c1:=b0.cell 1;have c2:=b0.cell 2;have c3:=b0.cell 3;have z0:=b1.cell 0;have z1:=b1.cell 1;simp only [gz9] at c0 c1 c2 c3 z0 z1)
      | (go_at_call 324;refine (HRo.out _).mono ?_;rintro e w1 ⟨rfl,hB1⟩;replace b0:=b0.below hB1 b0.lt;replace b1:=b1.below hB1 b1.lt;replace hB:=below_in hB hB1;replace hL0:=hL0.next hB1;have c0:=b0.cell 0;have c1:=b0.cell 1;have c2:=b0.cell 2;have c3:=b0.cell 3;have z0:=b1.cell 0;have z1:=b1.cell 1;simp only [gz9] at c0 c1 c2 c3 z0 z1)
      | (go_at_call 325;refine (HI.out _).mono ?_;rintro e w1 ⟨rfl,hB1⟩;replace b0:=b0.below hB1 b0.lt;replace b1:=b1.below hB1 b1.lt;replace hB:=below_in hB hB1;replace hL0:=hL0.next hB1;have c0:=b0.cell 0;have c1:=b0.cell 1;have c2:=b0.cell 2;have c3:=b0.cell 3;have z0:=b1.cell 0;have z1:=b1.cell 1;simp only [gz9] at c0 c1 c2 c3 z0 z1))
     go_ret
     exact ⟨HX.out,hB⟩

theorem onSlant_any (k p d n row x y:Int) (hR:RightC k p) (w:World) (hL:Laid w):Calls Tryz.prog 311 #[(.agg #[.int .i64 k,.int .i64 p,.int .i64 d,.int .i64 n]),.int .i64 row,.agg #[.int .i64 x,.int .i64 y]] w fun e w'=>e = .returned (.bool (onSl k p d row x y))∧Below w.heap.size w w':=by
 obtain ⟨p1,p2,_,_,_,_⟩:=hR.und
 have HD:=Lib.hid (fun W hL=>slant_calls k p x y hR W hL)
 unfold onSl
 generalize (if HasCell k p x y then (0:Int) else 4)=er at HD
 generalize slN2 k p x y=dg at HD ⊢
 obtain ⟨bo,hbo⟩:∃ b,decide (dg=row∨dg=p - 1)=b:=⟨_,rfl⟩
 have HI:=Lib.hid (isOn_any k p d n dg row p1 p2)
 rw [hbo] at HI
 have HH:=Lib.hid (holdsData_any k p d n x)
 have HRo:=Lib.hid (holdsRows_any k p d n x)
 by_cases hd:x<d
 · rw [decide_eq_true hd] at HH
   have HX:=Lib.hid (ret_bool (show bo=decide (x<d∧(dg=row∨dg=p - 1)) by rw [←hbo];simp [hd]))
   clear hbo hd hR
   obtain ⟨W0,hW0⟩:∃ W0,(w.alloc (.cells #[.int .i64 k,.int .i64 p,.int .i64 d,.int .i64 n] 177)).alloc (.cells #[.int .i64 x,.int .i64 y] 207)=W0:=⟨_,rfl⟩
   have b0:Blk W0 w.heap.size 177 #[.int .i64 k,.int .i64 p,.int .i64 d,.int .i64 n]:=by rw [←hW0];exact (Blk.new w _ _).alloc _
   have b1:Blk W0 (w.heap.size+1) 207 #[.int .i64 x,.int .i64 y]:=by rw [←hW0];exact Blk.second w _ _ _
   have hB:Below w.heap.size w W0:=by rw [←hW0];exact below_two w _ _
   have hL0:=hL.next hB
   have c0:=b0.cell 0
   have c1:=b0.cell 1
   have c2:=b0.cell 2
   have c3:=b0.cell 3
   have z0:=b1.cell 0
   have z1:=b1.cell 1
   simp only [gz9] at c0 c1 c2 c3 z0 z1
   go_enter Tryz.func311,Tryz.ntmps311
   go_wp2_with fail
   clear hW0
   go_wp2_with (first
    | (go_at_call 313;refine (HD.out _ hL0).mono ?_;rintro e w1 ⟨rfl,hB1⟩;replace b0:=b0.below hB1 b0.lt;replace b1:=b1.below hB1 b1.lt;replace hB:=below_in hB hB1;replace hL0:=hL0.next hB1;have c0:=b0.cell 0;have c1:=b0.cell 1;have c2:=b0.cell 2;have c3:=b0.cell 3;have z0:=b1.cell 0;have z1:=b1.cell 1;simp only [gz9] at c0 c1 c2 c3 z0 z1)
    | (go_at_call 178;refine (HH.out _).mono ?_;rintro e w1 ⟨rfl,hB1⟩;replace b0:=b0.below hB1 b0.lt;replace b1:=b1.below hB1 b1.lt;replace hB:=below_in hB hB1;replace hL0:=hL0.next hB1;have c0:=b0.cell 0;have c1:=b0.cell 1;have c2:=b0.cell 2;have c3:=b0.cell 3;have z0:=b1.cell 0;have z1:=b1.cell 1;simp only [gz9] at c0 c1 c2 c3 z0 z1)
    | (go_at_call 324;refine (HRo.out _).mono ?_;rintro e w1 ⟨rfl,hB1⟩;replace b0:=b0.below hB1 b0.lt;replace b1:=b1.below hB1 b1.lt;replace hB:=below_in hB hB1;replace hL0:=hL0.next hB1;have c0:=b0.cell 0;have c1:=b0.cell 1;have c2:=b0.cell 2;have c3:=b0.cell 3;have z0:=b1.cell 0;have z1:=b1.cell 1;simp only [gz9] at c0 c1 c2 c3 z0 z1)
    | (go_at_call 325;refine (HI.out _).mono ?_;rintro e w1 ⟨rfl,hB1⟩;replace b0:=b0.below hB1 b0.lt;replace b1:=b1.below hB1 b1.lt;replace hB:=below_in hB hB1;replace hL0:=hL0.next hB1;have c0:=b0.cell 0;have c1:=b0.cell 1;have c2:=b0.cell 2;have c3:=b0.cell 3;have z0:=b1.cell 0;have z1:=b1.cell 1;simp only [gz9] at c0 c1 c2 c3 z0 z1))
   go_ret
   exact ⟨HX.out,hB⟩
 · rw [decide_eq_false hd] at HH
   have HX:=Lib.hid (ret_bool (show false=decide (x<d∧(dg=row∨dg=p - 1)) by simp [hd]))
   clear hbo hd hR
   obtain ⟨W0,hW0⟩:∃ W0,(w.alloc (.cells #[.int .i64 k,.int .i64 p,.int .i64 d,.int .i64 n] 177)).alloc (.cells #[.int .i64 x,.int .i64 y] 207)=W0:=⟨_,rfl⟩
   have b0:Blk W0 w.heap.size 177 #[.int .i64 k,.int .i64 p,.int .i64 d,.int .i64 n]:=by rw [←hW0];exact (Blk.new w _ _).alloc _
   have b1:Blk W0 (w.heap.size+1) 207 #[.int .i64 x,.int .i64 y]:=by rw [←hW0];exact Blk.second w _ _ _
   have hB:Below w.heap.size w W0:=by rw [←hW0];exact below_two w _ _
   have hL0:=hL.next hB
   have c0:=b0.cell 0
   have c1:=b0.cell 1
   have c2:=b0.cell 2
   have c3:=b0.cell 3
   have z0:=b1.cell 0
   have z1:=b1.cell 1
   simp only [gz9] at c0 c1 c2 c3 z0 z1
   go_enter Tryz.func311,Tryz.ntmps311
   go_wp2_with fail
   clear hW0
   go_wp2_with (first
    | (go_at_call 313;refine (HD.out _ hL0).mono ?_;rintro e w1 ⟨rfl,hB1⟩;replace b0:=b0.below hB1 b0.lt;replace b1:=b1.below hB1 b1.lt;replace hB:=below_in hB hB1;replace hL0:=hL0.next hB1;have c0:=b0.cell 0;have c1:=b0.cell 1;have c2:=b0.cell 2;have c3:=b0.cell 3;have z0:=b1.cell 0;have z1:=b1.cell 1;simp only [gz9] at c0 c1 c2 c3 z0 z1)
    | (go_at_call 178;refine (HH.out _).mono ?_;rintro e w1 ⟨rfl,hB1⟩;replace b0:=b0.below hB1 b0.lt;replace b1:=b1.below hB1 b1.lt;replace hB:=below_in hB hB1;replace hL0:=hL0.next hB1;have c0:=b0.cell 0;have c1:=b0.cell 1;have c2:=b0.cell 2;have c3:=b0.cell 3;have z0:=b1.cell 0;have z1:=b1.cell 1;simp only [gz9] at c0 c1 c2 c3 z0 z1)
    | (go_at_call 324;refine (HRo.out _).mono ?_;rintro e w1 ⟨rfl,hB1⟩;replace b0:=b0.below hB1 b0.lt;replace b1:=b1.below hB1 b1.lt;replace hB:=below_in hB hB1;replace hL0:=hL0.next hB1;have c0:=b0.cell 0;have c1:=b0.cell 1;have c2:=b0.cell 2;have c3:=b0.cell 3;have z0:=b1.cell 0;have z1:=b1.cell 1;simp only [gz9] at c0 c1 c2 c3 z0 z1)
    | (go_at_call 325;refine (HI.out _).mono ?_;rintro e w1 ⟨rfl,hB1⟩;replace b0:=b0.below hB1 b0.lt;replace b1:=b1.below hB1 b1.lt;replace hB:=below_in hB hB1;replace hL0:=hL0.next hB1;have c0:=b0.cell 0;have c1:=b0.cell 1;have c2:=b0.cell 2;have c3:=b0.cell 3;have z0:=b1.cell 0;have z1:=b1.cell 1;simp only [gz9] at c0 c1 c2 c3 z0 z1))
   go_ret
   exact ⟨HX.out,hB⟩

end Go.Proofs.YtknkdbincaonbaaGreatDoor

namespace Go.Proofs.YtknkdbincaonbaaGreatDoor
open Go.RowKit Go.Shelf Go.Maps

def readF (v:Value):Option (DataW Unit×List MemPlace) :=
 match v with
 | .func (.func g) a c=>if a.size=0∧c.size=0 then some (.lit (.int .i64 g),[]) else none
 | .nilFunc=>some (.lit (.int .i64 0),[])
 | _=>none
theorem readF_func {v:Value} {g:Nat} {ps:List MemPlace} (h:readF v=some (.lit (.int .i64 (g:Int)),ps)) (hg:g≠0):v = .func (.func g) #[] #[]:=by
 unfold readF at h
 split at h
 · rename_i q a c
   split at h
   · rename_i hac
     injection h with h
     injection h with h1 _
     injection h1 with h1
     injection h1 with _ h1
     have:q=g:=Int.ofNat.inj h1
     rw [this,Array.eq_empty_of_size_eq_zero hac.1,Array.eq_empty_of_size_eq_zero hac.2]
   · cases h
 · simp only [Option.some.injEq,Prod.mk.injEq,DataW.lit.injEq,Lit.int.injEq] at h
   omega
 · cases h
def waysD:DataW Unit:=(((DataW.map []).put (.int .i64 2) (.lit (.int .i64 309))).put (.int .i64 3) (.lit (.int .i64 310))).put (.int .i64 4) (.lit (.int .i64 311))
def Ways (W:World) (b:Nat):Prop:=W.ownsMap Tryz.prog 289 readF b 3 waysD
theorem Ways.look {W:World} {b:Nat} (h:Ways W b) (r:Int) (g:Nat) (hr:(Lit.int .i64 r).wf=true) (hg:g≠0) (hat:waysD.atKey (.int .i64 r) (.lit (.int .i64 0)) = .lit (.int .i64 (g:Int))) :
 (Instr.lookup 293 (.map (some b)) (.int .i64 r) false).run Tryz.prog W = .ok (.func (.func g) #[] #[]) W:=by
 obtain ⟨v,ps,hrun,hv⟩:=World.ownsMap.lookup h (int_keyed Tryz.underlying289) Tryz.underlying293 (Tryz.zeroValue292 W) (zd:=.lit (.int .i64 0)) (zp:=[]) rfl (keyOf_int_mk Tryz.underlying289 hr)
 rw [hat] at hv
 rw [hrun,readF_func hv hg]

theorem ways_any (w:World):Calls Tryz.prog 279 #[] w fun e w'=>e = .returned (.map (some w.heap.size))∧Ways w' w.heap.size∧Below w.heap.size w w':=by
 have hmm:=@run_makeMap Tryz.prog
 have m0:=World.ownsMap_made w Tryz.prog 289 readF
 obtain ⟨w1,r1,m1,g1⟩:=World.ownsMap.update m0 (int_keyed Tryz.underlying289) Tryz.underlying293 (by unfold maxLen;omega) (key:=.int .i64 2) (val:=.func (.func 309) #[] #[]) (kl:=.int .i64 2) (d:=.lit (.int .i64 309)) (ps:=[]) (keyOf_int_mk Tryz.underlying289 (by decide)) rfl
 obtain ⟨w2,r2,m2,g2⟩:=World.ownsMap.update m1 (int_keyed Tryz.underlying289) Tryz.underlying293 (by unfold maxLen;omega) (key:=.int .i64 3) (val:=.func (.func 310) #[] #[]) (kl:=.int .i64 3) (d:=.lit (.int .i64 310)) (ps:=[]) (keyOf_int_mk Tryz.underlying289 (by decide)) rfl
 obtain ⟨w3,r3,m3,g3⟩:=World.ownsMap.update m2 (int_keyed Tryz.underlying289) Tryz.underlying293 (by unfold maxLen;omega) (key:=.int .i64 4) (val:=.func (.func 311) #[] #[]) (kl:=.int .i64 4) (d:=.lit (.int .i64 311)) (ps:=[]) (keyOf_int_mk Tryz.underlying289 (by decide)) rfl
 have hB1:Below w.heap.size w w3:=(((below_one w (.map #[] 0)).grown g1 (by simp) (fun k e=>by injection e with e;omega)).grown g2 (by have:=g1.size;simp at this;omega) (fun k e=>by injection e with e;omega)).grown g3 (by have:=g1.size;have:=g2.size;simp at *;omega) (fun k e=>by injection e with e;omega)
 have HM:Hid (Ways w3 w.heap.size):=m3
 clear m0 m1 m2 m3 g1 g2 g3
 go_enter Tryz.func279,Tryz.ntmps279
 go_wp2
 go_ret
 exact ⟨rfl,HM.out,hB1⟩

def wayB (k p d row r x y:Int):Bool:=if r=2 then inRw d row x y else if r=3 then onDg k p d row x y else onSl k p d row x y
theorem way_of (k p d n row r:Int) (hR:RightC k p) (h:r=2∨r=3∨r=4):∃ g:Nat,g≠0∧waysD.atKey (.int .i64 r) (.lit (.int .i64 0)) = .lit (.int .i64 (g:Int))∧(∀ args W,(callFunc g args).run Tryz.prog W = .ok (.enter g args) W) ∧
 ∀ x y W,Laid W→Calls Tryz.prog g #[.agg #[.int .i64 k,.int .i64 p,.int .i64 d,.int .i64 n],.int .i64 row,.agg #[.int .i64 x,.int .i64 y]] W fun e w'=>e = .returned (.bool (wayB k p d row r x y))∧Below W.heap.size W w':=by
 rcases h with rfl | rfl | rfl
 · exact ⟨309,by decide,by rfl,enters_of Tryz.func309 (by kernel_rfl) rfl,fun x y W hL=>by unfold wayB;rw [if_pos rfl];exact inRow_any k p d n row x y W⟩
 · exact ⟨310,by decide,by rfl,enters_of Tryz.func310 (by kernel_rfl) rfl,fun x y W hL=>by unfold wayB;rw [if_neg (by decide),if_pos rfl];exact onDiagonal_any k p d n row x y hR W hL⟩
 · exact ⟨311,by decide,by rfl,enters_of Tryz.func311 (by kernel_rfl) rfl,fun x y W hL=>by unfold wayB;rw [if_neg (by decide),if_neg (by decide)];exact onSlant_any k p d n row x y hR W hL⟩

def Sub (w W:World):Prop:=w.heap.size≤W.heap.size∧∀ (b:Nat) (cs:Array Value) (t:TypeId) (fr:Nat×Nat),w.heap[b]?=some (.cells cs t fr)→W.heap[b]?=some (.cells cs t fr)
theorem Sub.below {w W:World} (h:Below w.heap.size w W):Sub w W:=⟨h.size,fun b cs t fr hb=>(h.block b (Array.getElem?_eq_some_iff.1 hb).1).trans hb⟩
theorem Sub.trans {a b c:World} (h:Sub a b) (h':Sub b c):Sub a c:=⟨Nat.le_trans h.1 h'.1,fun x cs t fr hx=>h'.2 x cs t fr (h.2 x cs t fr hx)⟩
theorem Sub.blk {w W:World} (h:Sub w W) {g:Nat} {t:TypeId} {cs:Array Value} (hb:Blk w g t cs):Blk W g t cs:=h.2 g cs t (0,0) hb
theorem Sub.laid {w W:World} (h:Sub w W) (hL:Laid w):Laid W:=by
 obtain ⟨⟨t1,f1,h1⟩,t2,f2,h2⟩:=hL
 exact ⟨⟨t1,f1,h.2 _ _ _ _ h1⟩,t2,f2,h.2 _ _ _ _ h2⟩
theorem Sub.put {w:World} {l:Nat} (hl:∃ r,w.heap[l]?=some (.loop r)) (ob:Obj):Sub w (w.putObj l ob):=by
 obtain ⟨r,hr⟩:=hl
 exact ⟨by simp [World.putObj],fun b cs t fr hb=>(World.putObj_heap_other (fun e=>by rw [e,hr] at hb;cases hb)).trans hb⟩
def Asks (q:Int→Int→Bool) (v:Value) (w:World):Prop :=
 ∃ gf lb,v = .func (.func gf) #[] lb∧(∀ args W,(callFunc gf args).run Tryz.prog W = .ok (.enter gf args) W) ∧
  ∀ x y W,Sub w W→Calls Tryz.prog gf (#[.agg #[.int .i64 x,.int .i64 y]] ++ lb) W fun e w'=>e = .returned (.bool (q x y))∧Below W.heap.size W w'
theorem Asks.sub {q:Int→Int→Bool} {v:Value} {w w':World} (h:Asks q v w) (hB:Sub w w'):Asks q v w':=by
 obtain ⟨gf,lb,e,eg,hc⟩:=h
 exact ⟨gf,lb,e,eg,fun x y W hW=>hc x y W (hB.trans hW)⟩
theorem Asks.next {q:Int→Int→Bool} {v:Value} {w w':World} (h:Asks q v w) (hB:Below w.heap.size w w'):Asks q v w':=h.sub (Sub.below hB)
theorem enter_asker1:∀ args W,(callFunc 280 args).run Tryz.prog W = .ok (.enter 280 args) W:=enters_of Tryz.func280 (by kernel_rfl) rfl

theorem asker1_any (g ga gb gc:Nat) (q:Bool) (k p d n mx my x y:Int) (W:World) (hL:Laid W) (ba:Blk W ga 292 #[.func (.func g) #[] #[]]) (bb:Blk W gb 177 #[.int .i64 k,.int .i64 p,.int .i64 d,.int .i64 n]) (bc:Blk W gc 207 #[.int .i64 mx,.int .i64 my])
 (eg:∀ args W,(callFunc g args).run Tryz.prog W = .ok (.enter g args) W) (hg:∀ W,Laid W→Calls Tryz.prog g #[.agg #[.int .i64 k,.int .i64 p,.int .i64 d,.int .i64 n],.int .i64 my,.agg #[.int .i64 x,.int .i64 y]] W fun e w'=>e = .returned (.bool q)∧Below W.heap.size W w') :
 Calls Tryz.prog 280 #[.agg #[.int .i64 x,.int .i64 y],.pointer (some ⟨ga,0,none⟩),.pointer (some ⟨gb,0,none⟩),.pointer (some ⟨gc,0,none⟩)] W fun e w'=>e = .returned (.bool q)∧Below W.heap.size W w':=by
 have hB:=below_one W (.cells #[.int .i64 x,.int .i64 y] 207)
 have bX:=Blk.new W 207 #[.int .i64 x,.int .i64 y]
 have ca:=(ba.alloc (.cells #[.int .i64 x,.int .i64 y] 207)).one
 have c0:=(bb.alloc (.cells #[.int .i64 x,.int .i64 y] 207)).cell 0
 have c1:=(bb.alloc (.cells #[.int .i64 x,.int .i64 y] 207)).cell 1
 have c2:=(bb.alloc (.cells #[.int .i64 x,.int .i64 y] 207)).cell 2
 have c3:=(bb.alloc (.cells #[.int .i64 x,.int .i64 y] 207)).cell 3
 have m1:=(bc.alloc (.cells #[.int .i64 x,.int .i64 y] 207)).cell 1
 have x0:=bX.cell 0
 have x1:=bX.cell 1
 simp only [gz9] at c0 c1 c2 c3 m1 x0 x1
 have HG:=Lib.hid (hg _ (hL.next hB))
 clear hg
 go_enter Tryz.func280,Tryz.ntmps280
 go_wp2_with fail
 refine HG.out.mono ?_
 rintro e w1 ⟨rfl,hB1⟩
 go_wp2
 go_ret
 exact ⟨rfl,below_in hB hB1⟩

theorem asker_any (k p d n mx my r:Int) (hR:RightC k p) (hd:d=p - shortN k) (hc:HasCol k p mx) (hr:roleN d mx=r) (h234:r=2∨r=3∨r=4) (w:World) (hL:Laid w) :
 Calls Tryz.prog 255 #[.agg #[.int .i64 k,.int .i64 p,.int .i64 d,.int .i64 n],.agg #[.int .i64 mx,.int .i64 my]] w fun e w'=>∃ v,e = .returned v∧Asks (wayB k p d my r) v w'∧Below w.heap.size w w':=by
 have hmf:=make_func
 obtain ⟨g,hg0,hat,eg,hg⟩:=way_of k p d n my r hR h234
 have hrw:(Lit.int .i64 r).wf=true:=by rcases h234 with rfl | rfl | rfl <;> decide
 have HR:=Lib.hid (fun W hL=>(shapeRole_any k p mx W hL).mono fun _ _ h=>tells3_yes hR hc h)
 rw [←hd,hr] at HR
 obtain ⟨W0,hW0⟩:∃ W0,(w.alloc (.cells #[.int .i64 k,.int .i64 p,.int .i64 d,.int .i64 n] 177)).alloc (.cells #[.int .i64 mx,.int .i64 my] 207)=W0:=⟨_,rfl⟩
 have b0:Blk W0 w.heap.size 177 #[.int .i64 k,.int .i64 p,.int .i64 d,.int .i64 n]:=by rw [←hW0];exact (Blk.new w _ _).alloc _
 have b1:Blk W0 (w.heap.size+1) 207 #[.int .i64 mx,.int .i64 my]:=by rw [←hW0];exact Blk.second w _ _ _
 have hB:Below w.heap.size w W0:=by rw [←hW0];exact below_two w _ _
 have hL0:=hL.next hB
 have c0:=b0.cell 0
 have c1:=b0.cell 1
 have m0:=b1.cell 0
 have m1:=b1.cell 1
 simp only [gz9] at c0 c1 m0 m1
 have HA:=Lib.hid (fun W b (h:Ways W b)=>h.look r g hrw hg0 hat)
 have HG:=Lib.hid hg
 have HE:=Lib.hid eg
 have HHR:=Lib.hid hR
 clear hg eg hat hg0 hR hc hr hd h234
 go_enter Tryz.func255,Tryz.ntmps255
 go_wp2_with fail
 clear hW0
 refine (HR.out _ hL0).mono ?_
 rintro e w1 ⟨rfl,hB1⟩
 replace b0:=b0.below hB1 b0.lt
 replace b1:=b1.below hB1 b1.lt
 replace hB:=below_in hB hB1
 replace hL0:=hL0.next hB1
 clear c0 c1 m0 m1
 go_wp2_with fail
 refine (ways_any _).mono ?_
 rintro e w2 ⟨rfl,hw,hB2⟩
 replace b0:=b0.below hB2 b0.lt
 replace b1:=b1.below hB2 b1.lt
 replace hB:=below_in hB hB2
 replace hL0:=hL0.next hB2
 have hlk:=HA.out _ _ hw
 have bW:=Blk.new w2 292 #[.func (.func g) #[] #[]]
 have hBW:=below_one w2 (.cells #[.func (.func g) #[] #[]] 292)
 go_wp2
 go_ret
 refine ⟨_,rfl,⟨_,_,rfl,enter_asker1,fun x y W hW=>?_⟩,below_in hB hBW⟩
 exact asker1_any g w2.heap.size w.heap.size (w.heap.size+1) _ k p d n mx my x y W (hW.laid (hL0.next hBW)) (hW.blk bW) (hW.blk (b0.below hBW b0.lt)) (hW.blk (b1.below hBW b1.lt)) HE.out (fun W' hL'=>HG.out x y W' hL')
end Go.Proofs.YtknkdbincaonbaaGreatDoor
