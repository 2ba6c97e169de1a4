/- The primes, as the program hands them out. -/
import Derived.Test.YtcbkdbnpcpgadaaDoorMBase
namespace Go.Proofs.YtcbkdbnpcpgadaaDoor
open Go.RowKit

theorem infoSix : (Tryd.prog.info? 127).map (·.size) = some 6 := by kernel_rfl

theorem prm_cells : prmCells = (prm.map (Value.int .i64)).toArray := rfl

set_option maxHeartbeats 400000 in
theorem primes_any (w : World) (hL : Laid w) : Calls Tryd.prog 86 #[] w fun e w' => ∃ g, e = .returned (.slice (some ⟨g, 0, none⟩) 6 6) ∧ Blk w' g 127 prmCells ∧ Below w.heap.size w w' := by
  obtain ⟨t, fr, hg⟩ := hL.prm
  unfold prmCells at hg
  go_enter Tryd.func86, Tryd.ntmps86
  go_wp2_with (refine wpList_load_row rfl 127 _ rfl 1 rfl t _ fr _ hg Tryd.underlying127 rfl infoSix ?_)
  go_ret
  exact ⟨_, rfl, Blk.new _ _ _, (Below.refl _ _).alloc (Nat.le_refl _) _⟩
end Go.Proofs.YtcbkdbnpcpgadaaDoor
