/- -/
import Derived.Test.YtkllhjhkcipkoaaGreatDoorTHG9
set_option linter.unusedVariables false
set_option linter.unusedSimpArgs false
set_option maxRecDepth 100000
set_option maxHeartbeats 400000
namespace Go.Proofs.YtkllhjhkcipkoaaGreatDoor.Tr
open Go.RowKit Go.Shelf Go.Maps Go.Proofs.YtkllhjhkcipkoaaGreatDoor.C Go.Proofs.YtkllhjhkcipkoaaGreatDoor.E Go.Proofs.YtkllhjhkcipkoaaGreatDoor.T Go.Proofs.YtkllhjhkcipkoaaGreatDoor.Rg Go.Proofs.YtkllhjhkcipkoaaGreatDoor.Ch
theorem Tryz.infoShr:(Tryz.prog.info? 94).map (fun i=>(i.zero,i.size,i.bytes))=some (some (.agg #[.slice none 0 0,.nilFunc]),2,32):=by kernel_rfl
theorem mkS2:∀ W:World,(Instr.makeSlice 101 (.int .i64 2) (.int .i64 2)).run Tryz.prog W = .ok (.slice (some ⟨W.heap.size,0,none⟩) 2 2) (W.alloc (.cells #[.slice none 0 0,.nilFunc,.slice none 0 0,.nilFunc] 94)):=fun W=>by
 obtain ⟨i,hi,hz0,hz1,hz2⟩:=info_parts Tryz.infoShr
 have hrun:=run_make (P:=Tryz.prog) W 101 94 i (.agg #[.slice none 0 0,.nilFunc]) Tryz.underlying101 hi hz0 .i64 .i64 2 2 (by omega) (Int.le_refl _) (by rw [hz2];omega) (by omega)
 have e:madeCells (Value.agg #[.slice none 0 0,.nilFunc]).cells (Int.toNat 2 * 2)=#[.slice none 0 0,.nilFunc,.slice none 0 0,.nilFunc]:=by kernel_rfl
 rw [hrun,hz1,e]
 rfl
theorem mkS1:∀ W:World,(Instr.makeSlice 101 (.int .i64 1) (.int .i64 1)).run Tryz.prog W = .ok (.slice (some ⟨W.heap.size,0,none⟩) 1 1) (W.alloc (.cells #[.slice none 0 0,.nilFunc] 94)):=fun W=>by
 obtain ⟨i,hi,hz0,hz1,hz2⟩:=info_parts Tryz.infoShr
 have hrun:=run_make (P:=Tryz.prog) W 101 94 i (.agg #[.slice none 0 0,.nilFunc]) Tryz.underlying101 hi hz0 .i64 .i64 1 1 (by omega) (Int.le_refl _) (by rw [hz2];omega) (by omega)
 have e:madeCells (Value.agg #[.slice none 0 0,.nilFunc]).cells (Int.toNat 1 * 2)=#[.slice none 0 0,.nilFunc]:=by kernel_rfl
 rw [hrun,hz1,e]
 rfl
theorem mkC3:∀ W:World,(Instr.makeSlice 22 (.int .i64 3) (.int .i64 3)).run Tryz.prog W = .ok (.slice (some ⟨W.heap.size,0,none⟩) 3 3) (W.alloc (.cells #[.slice none 0 0,.slice none 0 0,.slice none 0 0] 41)):=fun W=>by
 obtain ⟨i,hi,hz0,hz1,hz2⟩:=info_parts Tryz.infoCol
 have hrun:=run_make (P:=Tryz.prog) W 22 41 i (.slice none 0 0) Tryz.underlying22 hi hz0 .i64 .i64 3 3 (by omega) (Int.le_refl _) (by rw [hz2];omega) (by omega)
 have e:madeCells (Value.slice none 0 0).cells (Int.toNat 3 * 1)=#[.slice none 0 0,.slice none 0 0,.slice none 0 0]:=by kernel_rfl
 rw [hrun,hz1,e]
 rfl
theorem mkC1:∀ W:World,(Instr.makeSlice 22 (.int .i64 1) (.int .i64 1)).run Tryz.prog W = .ok (.slice (some ⟨W.heap.size,0,none⟩) 1 1) (W.alloc (.cells #[.slice none 0 0] 41)):=fun W=>by
 obtain ⟨i,hi,hz0,hz1,hz2⟩:=info_parts Tryz.infoCol
 have hrun:=run_make (P:=Tryz.prog) W 22 41 i (.slice none 0 0) Tryz.underlying22 hi hz0 .i64 .i64 1 1 (by omega) (Int.le_refl _) (by rw [hz2];omega) (by omega)
 have e:madeCells (Value.slice none 0 0).cells (Int.toNat 1 * 1)=#[.slice none 0 0]:=by kernel_rfl
 rw [hrun,hz1,e]
 rfl
end Go.Proofs.YtkllhjhkcipkoaaGreatDoor.Tr
