/- The chapter's rows: works answers true. -/
import Derived.Test.YtcbkdbnpcpgadaaDoorSwH
namespace Go.Proofs.YtcbkdbnpcpgadaaDoor
open Go.RowKit Go.Shelf
set_option linter.unusedSimpArgs false
set_option linter.unusedVariables false

theorem tells_yes {c : Prop} {n b : Int} {w w' : World} {e : Ending} (hc : c) (h : Tells c n b w e w') : e = .returned (.tuple #[.int .i64 n, .int .i64 0]) ∧ Below w.heap.size w w' := ⟨h.1 hc, h.2.2⟩
theorem tells_no {c : Prop} {n b : Int} {w w' : World} {e : Ending} (hc : ¬ c) (h : Tells c n b w e w') : e = .returned (.tuple #[.int .i64 0, .int .i64 b]) ∧ Below w.heap.size w w' := ⟨h.2.1 hc, h.2.2⟩
theorem tells3_yes {c b : Prop} {z v : Value} {w w' : World} {e : Ending} (hc : c) (hb : b) (h : Tells3 c b z v w e w') : e = .returned (.tuple #[v, .int .i64 0]) ∧ Below w.heap.size w w' := ⟨h.2.2.1 hc hb, h.2.2.2⟩
theorem row_r5 (W : World) (hL : Laid W) : Calls Tryd.prog 37 #[.agg #[.int .i64 2, .int .i64 5]] W fun e w' => e = .returned (.tuple #[(.int .i64 4), .int .i64 0]) ∧ Below W.heap.size W w' :=
  (shapeData_any 2 5 W hL).mono fun _ _ h => tells_yes (show RightC 2 5 from ⟨by omega, by decide⟩) h
theorem row_r10 (W : World) (hL : Laid W) : Calls Tryd.prog 50 #[.agg #[.int .i64 3, .int .i64 4]] W fun e w' => e = .returned (.int .i64 2) ∧ Below W.heap.size W w' :=
  (shapeCheck_any 3 4 W hL).mono fun _ _ h => ⟨h.2.1 (fun hr => by have := hr.2; revert this; decide), h.2.2⟩

end Go.Proofs.YtcbkdbnpcpgadaaDoor
