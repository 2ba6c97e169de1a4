/- The primes, as the program hands them out. -/
import Derived.Test.YtoljflkfhdaipaaDoorMBase
namespace Go.Proofs.YtoljflkfhdaipaaDoor
open Go.RowKit

theorem infoSix : (Tryd.prog.info? 45).map (·.size) = some 6 := by kernel_rfl

theorem prm_cells : prmCells = (prm.map (Value.int .i64)).toArray := rfl

set_option maxHeartbeats 400000 in
theorem primes_any (w : World) (hL : Laid w) : Calls Tryd.prog 8 #[] w fun e w' => ∃ g, e = .returned (.slice (some ⟨g, 0, none⟩) 6 6) ∧ Blk w' g 45 prmCells ∧ Below w.heap.size w w' := by
  obtain ⟨t, fr, hg⟩ := hL
  unfold prmCells at hg
  go_enter Tryd.func8, Tryd.ntmps8
  go_wp2_with (refine wpList_load_row rfl 45 _ rfl 0 rfl t _ fr _ hg Tryd.underlying45 rfl infoSix ?_)
  go_ret
  exact ⟨_, rfl, Blk.new _ _ _, (Below.refl _ _).alloc (Nat.le_refl _) _⟩
end Go.Proofs.YtoljflkfhdaipaaDoor
