/- The chapter's rows: works answers true. -/
import Derived.Test.YthhgalhabdkikaaDoorSwH
namespace Go.Proofs.YthhgalhabdkikaaDoor
open Go.RowKit Go.Shelf
set_option linter.unusedSimpArgs false
set_option linter.unusedVariables false

theorem tells_yes {c : Prop} {n b : Int} {w w' : World} {e : Ending} (hc : c) (h : Tells c n b w e w') : e = .returned (.tuple #[.int .i64 n, .int .i64 0]) ∧ Below w.heap.size w w' := ⟨h.1 hc, h.2.2⟩
theorem tells_no {c : Prop} {n b : Int} {w w' : World} {e : Ending} (hc : ¬ c) (h : Tells c n b w e w') : e = .returned (.tuple #[.int .i64 0, .int .i64 b]) ∧ Below w.heap.size w w' := ⟨h.2.1 hc, h.2.2⟩
theorem tells3_yes {c b : Prop} {z v : Value} {w w' : World} {e : Ending} (hc : c) (hb : b) (h : Tells3 c b z v w e w') : e = .returned (.tuple #[v, .int .i64 0]) ∧ Below w.heap.size w w' := ⟨h.2.2.1 hc hb, h.2.2.2⟩
theorem row_r1 (W : World) (hL : Laid W) : Calls Tryd.prog 15 #[.agg #[.int .i64 1, .int .i64 5]] W fun e w' => e = .returned (.tuple #[(.int .i64 7), .int .i64 0]) ∧ Below W.heap.size W w' :=
  (shapeCols_any 1 5 W hL).mono fun _ _ h => tells_yes (show RightC 1 5 from ⟨by omega, by decide⟩) h
theorem row_r2 (W : World) (hL : Laid W) : Calls Tryd.prog 15 #[.agg #[.int .i64 2, .int .i64 5]] W fun e w' => e = .returned (.tuple #[(.int .i64 6), .int .i64 0]) ∧ Below W.heap.size W w' :=
  (shapeCols_any 2 5 W hL).mono fun _ _ h => tells_yes (show RightC 2 5 from ⟨by omega, by decide⟩) h
theorem row_r3 (W : World) (hL : Laid W) : Calls Tryd.prog 15 #[.agg #[.int .i64 3, .int .i64 5]] W fun e w' => e = .returned (.tuple #[(.int .i64 8), .int .i64 0]) ∧ Below W.heap.size W w' :=
  (shapeCols_any 3 5 W hL).mono fun _ _ h => tells_yes (show RightC 3 5 from ⟨by omega, by decide⟩) h
theorem row_r4 (W : World) (hL : Laid W) : Calls Tryd.prog 16 #[.agg #[.int .i64 3, .int .i64 5]] W fun e w' => e = .returned (.tuple #[(.int .i64 3), .int .i64 0]) ∧ Below W.heap.size W w' :=
  (shapeLost_any 3 5 W hL).mono fun _ _ h => tells_yes (show RightC 3 5 from ⟨by omega, by decide⟩) h
theorem row_r5 (W : World) (hL : Laid W) : Calls Tryd.prog 14 #[.agg #[.int .i64 2, .int .i64 5]] W fun e w' => e = .returned (.tuple #[(.int .i64 4), .int .i64 0]) ∧ Below W.heap.size W w' :=
  (shapeData_any 2 5 W hL).mono fun _ _ h => tells_yes (show RightC 2 5 from ⟨by omega, by decide⟩) h
theorem row_r6 (W : World) (hL : Laid W) : Calls Tryd.prog 23 #[.agg #[.int .i64 2, .int .i64 5], .int .i64 4] W fun e w' => e = .returned (.tuple #[(.int .i64 2), .int .i64 0]) ∧ Below W.heap.size W w' :=
  (shapeRole_any 2 5 4 W hL).mono fun _ _ h => tells3_yes (show RightC 2 5 from ⟨by omega, by decide⟩) (show HasCol 2 5 4 from by unfold HasCol; decide) h
theorem row_r7 (W : World) (hL : Laid W) : Calls Tryd.prog 24 #[.agg #[.int .i64 1, .int .i64 5], .int .i64 7] W fun e w' => e = .returned (.tuple #[(.agg #[.int .i64 2, .int .i64 1]), .int .i64 0]) ∧ Below W.heap.size W w' :=
  (shapePlace_any 1 5 7 W hL).mono fun _ _ h => tells3_yes (show RightC 1 5 from ⟨by omega, by decide⟩) (show HasNum 1 5 7 from by unfold HasNum; decide) h
theorem row_r8 (W : World) (hL : Laid W) : Calls Tryd.prog 29 #[.agg #[.int .i64 1, .int .i64 5], .agg #[.int .i64 3, .int .i64 3]] W fun e w' => e = .returned (.tuple #[(.int .i64 1), .int .i64 0]) ∧ Below W.heap.size W w' :=
  (shapeDiagonal_any 1 5 3 3 W hL).mono fun _ _ h => tells3_yes (show RightC 1 5 from ⟨by omega, by decide⟩) (show HasCell 1 5 3 3 from by unfold HasCell; decide) h
theorem row_r9 (W : World) (hL : Laid W) : Calls Tryd.prog 30 #[.agg #[.int .i64 1, .int .i64 5], .agg #[.int .i64 3, .int .i64 3]] W fun e w' => e = .returned (.tuple #[(.int .i64 0), .int .i64 0]) ∧ Below W.heap.size W w' :=
  (shapeSlant_any 1 5 3 3 W hL).mono fun _ _ h => tells3_yes (show RightC 1 5 from ⟨by omega, by decide⟩) (show HasCell 1 5 3 3 from by unfold HasCell; decide) h
theorem row_r10 (W : World) (hL : Laid W) : Calls Tryd.prog 20 #[.agg #[.int .i64 3, .int .i64 4]] W fun e w' => e = .returned (.int .i64 2) ∧ Below W.heap.size W w' :=
  (shapeCheck_any 3 4 W hL).mono fun _ _ h => ⟨h.2.1 (fun hr => by have := hr.2; revert this; decide), h.2.2⟩

set_option maxRecDepth 100000 in
set_option maxHeartbeats 4000000 in
theorem works_any (w : World) (hL : Laid w) :
    Calls Tryd.prog 22 #[] w fun e w' => e = .returned (.bool true) ∧ Below w.heap.size w w' := by
  go_enter Tryd.func22, Tryd.ntmps22
  go_wp2_with fail
  have b1 := ((Blk.new w 24 #[.int .i64 1, .int .i64 5]).alloc (.cells #[.int .i64 2, .int .i64 5] 24)).alloc (.cells #[.int .i64 3, .int .i64 5] 24)
  have b2 := (Blk.second w (.cells #[.int .i64 1, .int .i64 5] 24) 24 #[.int .i64 2, .int .i64 5]).alloc (.cells #[.int .i64 3, .int .i64 5] 24)
  have b3 := Blk.second (w.alloc (.cells #[.int .i64 1, .int .i64 5] 24)) (.cells #[.int .i64 2, .int .i64 5] 24) 24 #[.int .i64 3, .int .i64 5]
  rw [World.size_alloc] at b3
  have hB := (below_two w (.cells #[.int .i64 1, .int .i64 5] 24) (.cells #[.int .i64 2, .int .i64 5] 24)).alloc (by simp; omega) (.cells #[.int .i64 3, .int .i64 5] 24)
  replace hL := hL.next hB
  refine (row_r1 _ hL).mono ?_
  rintro e w1 ⟨rfl, hB1⟩
  replace b1 := b1.below hB1 b1.lt
  replace b2 := b2.below hB1 b2.lt
  replace b3 := b3.below hB1 b3.lt
  replace hB := below_in hB hB1
  replace hL := hL.next hB1
  clear hB1
  have c1 := b1.cell 0
  have d1 := b1.cell 1
  have c2 := b2.cell 0
  have d2 := b2.cell 1
  have c3 := b3.cell 0
  have d3 := b3.cell 1
  simp only [List.getElem?_toArray, List.getElem?_cons_zero, List.getElem?_cons_succ] at c1 d1 c2 d2 c3 d3
  go_wp2_with fail
  refine (row_r2 _ hL).mono ?_
  rintro e w1 ⟨rfl, hB1⟩
  replace b1 := b1.below hB1 b1.lt
  replace b2 := b2.below hB1 b2.lt
  replace b3 := b3.below hB1 b3.lt
  replace hB := below_in hB hB1
  replace hL := hL.next hB1
  clear hB1
  have c1 := b1.cell 0
  have d1 := b1.cell 1
  have c2 := b2.cell 0
  have d2 := b2.cell 1
  have c3 := b3.cell 0
  have d3 := b3.cell 1
  simp only [List.getElem?_toArray, List.getElem?_cons_zero, List.getElem?_cons_succ] at c1 d1 c2 d2 c3 d3
  go_wp2_with fail
  refine (row_r3 _ hL).mono ?_
  rintro e w1 ⟨rfl, hB1⟩
  replace b1 := b1.below hB1 b1.lt
  replace b2 := b2.below hB1 b2.lt
  replace b3 := b3.below hB1 b3.lt
  replace hB := below_in hB hB1
  replace hL := hL.next hB1
  clear hB1
  have c1 := b1.cell 0
  have d1 := b1.cell 1
  have c2 := b2.cell 0
  have d2 := b2.cell 1
  have c3 := b3.cell 0
  have d3 := b3.cell 1
  simp only [List.getElem?_toArray, List.getElem?_cons_zero, List.getElem?_cons_succ] at c1 d1 c2 d2 c3 d3
  go_wp2_with fail
  refine (row_r4 _ hL).mono ?_
  rintro e w1 ⟨rfl, hB1⟩
  replace b1 := b1.below hB1 b1.lt
  replace b2 := b2.below hB1 b2.lt
  replace b3 := b3.below hB1 b3.lt
  replace hB := below_in hB hB1
  replace hL := hL.next hB1
  clear hB1
  have c1 := b1.cell 0
  have d1 := b1.cell 1
  have c2 := b2.cell 0
  have d2 := b2.cell 1
  have c3 := b3.cell 0
  have d3 := b3.cell 1
  simp only [List.getElem?_toArray, List.getElem?_cons_zero, List.getElem?_cons_succ] at c1 d1 c2 d2 c3 d3
  go_wp2_with fail
  refine (row_r5 _ hL).mono ?_
  rintro e w1 ⟨rfl, hB1⟩
  replace b1 := b1.below hB1 b1.lt
  replace b2 := b2.below hB1 b2.lt
  replace b3 := b3.below hB1 b3.lt
  replace hB := below_in hB hB1
  replace hL := hL.next hB1
  clear hB1
  have c1 := b1.cell 0
  have d1 := b1.cell 1
  have c2 := b2.cell 0
  have d2 := b2.cell 1
  have c3 := b3.cell 0
  have d3 := b3.cell 1
  simp only [List.getElem?_toArray, List.getElem?_cons_zero, List.getElem?_cons_succ] at c1 d1 c2 d2 c3 d3
  go_wp2_with fail
  refine (row_r6 _ hL).mono ?_
  rintro e w1 ⟨rfl, hB1⟩
  replace b1 := b1.below hB1 b1.lt
  replace b2 := b2.below hB1 b2.lt
  replace b3 := b3.below hB1 b3.lt
  replace hB := below_in hB hB1
  replace hL := hL.next hB1
  clear hB1
  have c1 := b1.cell 0
  have d1 := b1.cell 1
  have c2 := b2.cell 0
  have d2 := b2.cell 1
  have c3 := b3.cell 0
  have d3 := b3.cell 1
  simp only [List.getElem?_toArray, List.getElem?_cons_zero, List.getElem?_cons_succ] at c1 d1 c2 d2 c3 d3
  go_wp2_with fail
  refine (row_r7 _ hL).mono ?_
  rintro e w1 ⟨rfl, hB1⟩
  replace b1 := b1.below hB1 b1.lt
  replace b2 := b2.below hB1 b2.lt
  replace b3 := b3.below hB1 b3.lt
  replace hB := below_in hB hB1
  replace hL := hL.next hB1
  have b4 := Blk.new w1 37 #[.int .i64 2, .int .i64 1]
  replace b1 := b1.alloc (.cells #[.int .i64 2, .int .i64 1] 37)
  replace b2 := b2.alloc (.cells #[.int .i64 2, .int .i64 1] 37)
  replace b3 := b3.alloc (.cells #[.int .i64 2, .int .i64 1] 37)
  replace hB := hB.alloc hB.size (.cells #[.int .i64 2, .int .i64 1] 37)
  replace hL := hL.next (below_one w1 (.cells #[.int .i64 2, .int .i64 1] 37))
  clear hB1
  have c1 := b1.cell 0
  have d1 := b1.cell 1
  have c2 := b2.cell 0
  have d2 := b2.cell 1
  have c3 := b3.cell 0
  have d3 := b3.cell 1
  simp only [List.getElem?_toArray, List.getElem?_cons_zero, List.getElem?_cons_succ] at c1 d1 c2 d2 c3 d3
  go_wp2_with fail
  refine (row_r8 _ hL).mono ?_
  rintro e w1 ⟨rfl, hB1⟩
  replace b1 := b1.below hB1 b1.lt
  replace b2 := b2.below hB1 b2.lt
  replace b3 := b3.below hB1 b3.lt
  replace hB := below_in hB hB1
  replace hL := hL.next hB1
  replace b4 := b4.below hB1 b4.lt
  clear hB1
  have c1 := b1.cell 0
  have d1 := b1.cell 1
  have c2 := b2.cell 0
  have d2 := b2.cell 1
  have c3 := b3.cell 0
  have d3 := b3.cell 1
  simp only [List.getElem?_toArray, List.getElem?_cons_zero, List.getElem?_cons_succ] at c1 d1 c2 d2 c3 d3
  go_wp2_with fail
  refine (row_r9 _ hL).mono ?_
  rintro e w1 ⟨rfl, hB1⟩
  replace b1 := b1.below hB1 b1.lt
  replace b2 := b2.below hB1 b2.lt
  replace b3 := b3.below hB1 b3.lt
  replace hB := below_in hB hB1
  replace hL := hL.next hB1
  replace b4 := b4.below hB1 b4.lt
  clear hB1
  have c1 := b1.cell 0
  have d1 := b1.cell 1
  have c2 := b2.cell 0
  have d2 := b2.cell 1
  have c3 := b3.cell 0
  have d3 := b3.cell 1
  simp only [List.getElem?_toArray, List.getElem?_cons_zero, List.getElem?_cons_succ] at c1 d1 c2 d2 c3 d3
  have c4 := b4.cell 0
  have d4 := b4.cell 1
  simp only [List.getElem?_toArray, List.getElem?_cons_zero, List.getElem?_cons_succ] at c4 d4
  go_wp2_with (first
    | (go_at_call 19; refine (num_any _ _).mono ?_; rintro e w' ⟨rfl, rfl⟩)
    | (go_at_call 20; refine (row_r10 _ hL).mono ?_; rintro e w' ⟨rfl, hB1⟩))
  go_ret
  exact ⟨rfl, below_in hB hB1⟩
end Go.Proofs.YthhgalhabdkikaaDoor
