/- Cells. -/
import Derived.Test.YtcbkdbnpcpgadaaDoorSwL
namespace Go.Proofs.YtcbkdbnpcpgadaaDoor
open Go.RowKit Go.Shelf
set_option linter.unusedSimpArgs false
set_option linter.unusedVariables false
attribute [local go_sem] Oper.semAt_some

/-- The rows of a column; none, where there is no such column. -/
def Column (k p x : Int) (zs : List Int) : Prop := (RightC k p ∧ HasCol k p x ∧ zs = rowsL p) ∨ (¬ (RightC k p ∧ HasCol k p x) ∧ zs = [])

end Go.Proofs.YtcbkdbnpcpgadaaDoor
