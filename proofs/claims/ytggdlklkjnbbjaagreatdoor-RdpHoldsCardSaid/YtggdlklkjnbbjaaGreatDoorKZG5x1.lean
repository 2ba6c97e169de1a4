/- Sets: over the cells that are made, each with what asks for its members. Sets: the cells that are made; those of which a place is a member. Sets: what hangs on a data cell. Sets: what hangs on a data cell, by lists. Rows of places as the callers know them; grids of cells; the document's Same and Parity. The document's member. The document's Members, Parity. The document's Parity. -/
import Derived.Test.YtggdlklkjnbbjaaGreatDoorKZG4
import Derived.Shelf.RegionOpen
import Derived.Test.YtggdlklkjnbbjaaGreatDoorKZwV
import Derived.Laws.OwnMore
import Derived.Test.YtggdlklkjnbbjaaGreatDoorKSAx1
import Derived.Test.YtggdlklkjnbbjaaGreatDoorKEG4x1
import Derived.Test.YtggdlklkjnbbjaaGreatDoorKEG6x1
import Derived.Test.YtggdlklkjnbbjaaGreatDoorKZG5
namespace Go.Proofs.YtggdlklkjnbbjaaGreatDoor
open Go.RowKit Go.Shelf
set_option linter.unusedSimpArgs false
set_option linter.unusedVariables false
attribute [local go_sem] Oper.semAt_some

end Go.Proofs.YtggdlklkjnbbjaaGreatDoor

namespace Go.Proofs.YtggdlklkjnbbjaaGreatDoor
open Go.RowKit Go.Shelf
set_option linter.unusedSimpArgs false
set_option linter.unusedVariables false
attribute [local go_sem] Oper.semAt_some

end Go.Proofs.YtggdlklkjnbbjaaGreatDoor

namespace Go.Proofs.YtggdlklkjnbbjaaGreatDoor
open Go.RowKit Go.Shelf
set_option linter.unusedSimpArgs false
set_option linter.unusedVariables false

end Go.Proofs.YtggdlklkjnbbjaaGreatDoor

namespace Go.Proofs.YtggdlklkjnbbjaaGreatDoor
open Go.RowKit Go.Shelf

theorem spanL_mk {a b x : Int} (h1 : a ≤ x) (h2 : x < b) : x ∈ spanL a b := by
  unfold spanL
  exact List.mem_map.2 ⟨(x - a).toNat, List.mem_range.2 (by omega), by omega⟩
theorem mem_memL {k p mx my x y : Int} (hR : RightC k p) (hm : p - shortN k ≤ mx) (hx : 0 ≤ x) (hy : 0 ≤ y ∧ y < p - 1) : ((x, y) ∈ memL k p mx my) ↔ memB k p mx my x y = true := by
  unfold memL
  rw [List.mem_filter]
  refine ⟨fun h => h.2, fun h => ⟨flatC_mem (spanL_mk hx (memB_data hR h hm)) hy, h⟩⟩
end Go.Proofs.YtggdlklkjnbbjaaGreatDoor

namespace Go.Proofs.YtggdlklkjnbbjaaGreatDoor
open Go.RowKit Go.Shelf
set_option linter.unusedSimpArgs false
set_option linter.unusedVariables false

end Go.Proofs.YtggdlklkjnbbjaaGreatDoor

namespace Go.Proofs.YtggdlklkjnbbjaaGreatDoor
open Go.RowKit Go.Shelf
set_option linter.unusedSimpArgs false
set_option linter.unusedVariables false
attribute [local go_sem] Oper.semAt_some

end Go.Proofs.YtggdlklkjnbbjaaGreatDoor

namespace Go.Proofs.YtggdlklkjnbbjaaGreatDoor
open Go.RowKit Go.Shelf
set_option linter.unusedSimpArgs false
set_option linter.unusedVariables false

end Go.Proofs.YtggdlklkjnbbjaaGreatDoor

namespace Go.Proofs.YtggdlklkjnbbjaaGreatDoor
open Go.RowKit Go.Shelf
set_option linter.unusedSimpArgs false
set_option linter.unusedVariables false

end Go.Proofs.YtggdlklkjnbbjaaGreatDoor

