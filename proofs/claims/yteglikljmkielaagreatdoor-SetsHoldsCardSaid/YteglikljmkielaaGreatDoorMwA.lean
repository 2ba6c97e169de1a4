/- The primes, as the program hands them out. -/
import Derived.Test.YteglikljmkielaaGreatDoorMBase
namespace Go.Proofs.YteglikljmkielaaGreatDoor
open Go.RowKit

theorem infoSix : (Tryz.prog.info? 162).map (·.size) = some 6 := by kernel_rfl

theorem prm_cells : prmCells = (prm.map (Value.int .i64)).toArray := rfl

set_option maxHeartbeats 400000 in
theorem primes_any (w : World) (hL : Laid w) : Calls Tryz.prog 116 #[] w fun e w' => ∃ g, e = .returned (.slice (some ⟨g, 0, none⟩) 6 6) ∧ Blk w' g 162 prmCells ∧ Below w.heap.size w w' := by
  obtain ⟨t, fr, hg⟩ := hL.prm
  unfold prmCells at hg
  go_enter Tryz.func116, Tryz.ntmps116
  go_wp2_with (refine wpList_load_row rfl 162 _ rfl 1 rfl t _ fr _ hg Tryz.underlying162 rfl infoSix ?_)
  go_ret
  exact ⟨_, rfl, Blk.new _ _ _, (Below.refl _ _).alloc (Nat.le_refl _) _⟩
end Go.Proofs.YteglikljmkielaaGreatDoor
