/- The chapter's rows: works answers true. -/
import Derived.Test.YtggdlklkjnbbjaaGreatDoorSwH
namespace Go.Proofs.YtggdlklkjnbbjaaGreatDoor
open Go.RowKit Go.Shelf
set_option linter.unusedSimpArgs false
set_option linter.unusedVariables false

theorem tells_yes {c : Prop} {n b : Int} {w w' : World} {e : Ending} (hc : c) (h : Tells c n b w e w') : e = .returned (.tuple #[.int .i64 n, .int .i64 0]) ∧ Below w.heap.size w w' := ⟨h.1 hc, h.2.2⟩
theorem tells_no {c : Prop} {n b : Int} {w w' : World} {e : Ending} (hc : ¬ c) (h : Tells c n b w e w') : e = .returned (.tuple #[.int .i64 0, .int .i64 b]) ∧ Below w.heap.size w w' := ⟨h.2.1 hc, h.2.2⟩
theorem tells3_yes {c b : Prop} {z v : Value} {w w' : World} {e : Ending} (hc : c) (hb : b) (h : Tells3 c b z v w e w') : e = .returned (.tuple #[v, .int .i64 0]) ∧ Below w.heap.size w w' := ⟨h.2.2.1 hc hb, h.2.2.2⟩
theorem row_r1 (W : World) (hL : Laid W) : Calls Tryz.prog 106 #[.agg #[.int .i64 1, .int .i64 5]] W fun e w' => e = .returned (.tuple #[(.int .i64 7), .int .i64 0]) ∧ Below W.heap.size W w' :=
  (shapeCols_any 1 5 W hL).mono fun _ _ h => tells_yes (show RightC 1 5 from ⟨by omega, by decide⟩) h
theorem row_r2 (W : World) (hL : Laid W) : Calls Tryz.prog 106 #[.agg #[.int .i64 2, .int .i64 5]] W fun e w' => e = .returned (.tuple #[(.int .i64 6), .int .i64 0]) ∧ Below W.heap.size W w' :=
  (shapeCols_any 2 5 W hL).mono fun _ _ h => tells_yes (show RightC 2 5 from ⟨by omega, by decide⟩) h
theorem row_r3 (W : World) (hL : Laid W) : Calls Tryz.prog 106 #[.agg #[.int .i64 3, .int .i64 5]] W fun e w' => e = .returned (.tuple #[(.int .i64 8), .int .i64 0]) ∧ Below W.heap.size W w' :=
  (shapeCols_any 3 5 W hL).mono fun _ _ h => tells_yes (show RightC 3 5 from ⟨by omega, by decide⟩) h
theorem row_r5 (W : World) (hL : Laid W) : Calls Tryz.prog 85 #[.agg #[.int .i64 2, .int .i64 5]] W fun e w' => e = .returned (.tuple #[(.int .i64 4), .int .i64 0]) ∧ Below W.heap.size W w' :=
  (shapeData_any 2 5 W hL).mono fun _ _ h => tells_yes (show RightC 2 5 from ⟨by omega, by decide⟩) h
theorem row_r6 (W : World) (hL : Laid W) : Calls Tryz.prog 195 #[.agg #[.int .i64 2, .int .i64 5], .int .i64 4] W fun e w' => e = .returned (.tuple #[(.int .i64 2), .int .i64 0]) ∧ Below W.heap.size W w' :=
  (shapeRole_any 2 5 4 W hL).mono fun _ _ h => tells3_yes (show RightC 2 5 from ⟨by omega, by decide⟩) (show HasCol 2 5 4 from by unfold HasCol; decide) h
theorem row_r8 (W : World) (hL : Laid W) : Calls Tryz.prog 194 #[.agg #[.int .i64 1, .int .i64 5], .agg #[.int .i64 3, .int .i64 3]] W fun e w' => e = .returned (.tuple #[(.int .i64 1), .int .i64 0]) ∧ Below W.heap.size W w' :=
  (shapeDiagonal_any 1 5 3 3 W hL).mono fun _ _ h => tells3_yes (show RightC 1 5 from ⟨by omega, by decide⟩) (show HasCell 1 5 3 3 from by unfold HasCell; decide) h
theorem row_r9 (W : World) (hL : Laid W) : Calls Tryz.prog 220 #[.agg #[.int .i64 1, .int .i64 5], .agg #[.int .i64 3, .int .i64 3]] W fun e w' => e = .returned (.tuple #[(.int .i64 0), .int .i64 0]) ∧ Below W.heap.size W w' :=
  (shapeSlant_any 1 5 3 3 W hL).mono fun _ _ h => tells3_yes (show RightC 1 5 from ⟨by omega, by decide⟩) (show HasCell 1 5 3 3 from by unfold HasCell; decide) h
theorem row_r10 (W : World) (hL : Laid W) : Calls Tryz.prog 98 #[.agg #[.int .i64 3, .int .i64 4]] W fun e w' => e = .returned (.int .i64 2) ∧ Below W.heap.size W w' :=
  (shapeCheck_any 3 4 W hL).mono fun _ _ h => ⟨h.2.1 (fun hr => by have := hr.2; revert this; decide), h.2.2⟩

end Go.Proofs.YtggdlklkjnbbjaaGreatDoor
