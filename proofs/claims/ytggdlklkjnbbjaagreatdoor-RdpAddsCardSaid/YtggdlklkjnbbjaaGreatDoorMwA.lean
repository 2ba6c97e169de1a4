/- The primes, as the program hands them out. -/
import Derived.Test.YtggdlklkjnbbjaaGreatDoorMBase
namespace Go.Proofs.YtggdlklkjnbbjaaGreatDoor
open Go.RowKit

theorem infoSix : (Tryz.prog.info? 182).map (·.size) = some 6 := by kernel_rfl

theorem prm_cells : prmCells = (prm.map (Value.int .i64)).toArray := rfl

set_option maxHeartbeats 400000 in
theorem primes_any (w : World) (hL : Laid w) : Calls Tryz.prog 168 #[] w fun e w' => ∃ g, e = .returned (.slice (some ⟨g, 0, none⟩) 6 6) ∧ Blk w' g 182 prmCells ∧ Below w.heap.size w w' := by
  obtain ⟨t, fr, hg⟩ := hL.prm
  unfold prmCells at hg
  go_enter Tryz.func168, Tryz.ntmps168
  go_wp2_with (refine wpList_load_row rfl 182 _ rfl 1 rfl t _ fr _ hg Tryz.underlying182 rfl infoSix ?_)
  go_ret
  exact ⟨_, rfl, Blk.new _ _ _, (Below.refl _ _).alloc (Nat.le_refl _) _⟩
end Go.Proofs.YtggdlklkjnbbjaaGreatDoor
