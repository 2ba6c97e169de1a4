/- Which codes may be. -/
import Derived.Test.YtggdlklkjnbbjaaGreatDoorSwB
namespace Go.Proofs.YtggdlklkjnbbjaaGreatDoor
open Go.RowKit Go.Shelf
set_option linter.unusedSimpArgs false

/-- A code that may be; its kind's two numbers. -/
def RightC (k p : Int) : Prop := (1 ≤ k ∧ k ≤ 3) ∧ p ∈ prm
def shortN (k : Int) : Int := if k = 2 then 1 else 0
def madeN (k : Int) : Int := if k = 3 then 3 else 2
theorem RightC.und {k p : Int} (h : RightC k p) : Und p (shortN k) (madeN k) := by
  obtain ⟨h1, h2⟩ := prm_bounds h.2
  unfold shortN madeN
  constructor <;> (try split) <;> omega
def SAsked (k p : Int) (w : World) (e : Ending) (w' : World) : Prop :=
  (RightC k p → e = .returned (.tuple #[.agg #[.int .i64 k, .int .i64 p, .int .i64 (shortN k), .int .i64 (madeN k)], .int .i64 0])) ∧
  (¬ RightC k p → e = .returned (.tuple #[.agg #[.int .i64 0, .int .i64 0, .int .i64 0, .int .i64 0], .int .i64 2])) ∧ Below w.heap.size w w'

set_option maxRecDepth 100000 in
set_option maxHeartbeats 1000000 in
theorem sasked_1 (p : Int) (hp : p ∈ prm) (w : World) (hL : Laid w) :
    Calls Tryz.prog 136 #[.agg #[.int .i64 1, .int .i64 p]] w fun e w' => e = .returned (.tuple #[.agg #[.int .i64 1, .int .i64 p, .int .i64 0, .int .i64 2], .int .i64 0]) ∧ Below w.heap.size w w' := by
  obtain ⟨W0, hW0⟩ : ∃ W0, (w.alloc (.cells #[.int .i64 1, .int .i64 p] 37)).alloc (.cells #[.int .i64 0, .int .i64 0, .int .i64 0, .int .i64 0] 130) = W0 := ⟨_, rfl⟩
  have b0 : Blk W0 w.heap.size 37 #[.int .i64 1, .int .i64 p] := by rw [← hW0]; exact (Blk.new w _ _).alloc _
  have b1 : Blk W0 (w.heap.size + 1) 130 #[.int .i64 0, .int .i64 0, .int .i64 0, .int .i64 0] := by rw [← hW0]; exact Blk.second w _ _ _
  have hB : Below w.heap.size w W0 := by rw [← hW0]; exact below_two w _ _
  have hL0 := hL.next hB
  have c0 := b0.cell 0
  have c1 := b0.cell 1
  simp only [List.getElem?_toArray, List.getElem?_cons_zero, List.getElem?_cons_succ] at c0 c1
  have HC := Lib.hid (check_any p W0 hL0)
  rw [if_pos hp] at HC
  clear hp
  go_enter Tryz.func136, Tryz.ntmps136
  go_wp2_with fail
  refine wp_scope_jumps 0 (fun a' w' => False) (fun _ _ => 0) rfl ?_ (fun _ _ h => h.elim)
  try rw [hW0]
  clear hW0
  go_wp2_with (go_at_call 157; refine HC.out.mono ?_; rintro e w1 ⟨rfl, hB1⟩; replace b0 := b0.below hB1 b0.lt; replace b1 := b1.below hB1 b1.lt; replace hB := below_in hB hB1; replace hL0 := hL0.next hB1; have c0 := b0.cell 0; have c1 := b0.cell 1; simp only [List.getElem?_toArray, List.getElem?_cons_zero, List.getElem?_cons_succ] at c0 c1)
  have f0 := b1.frozen 0
  have f1 := b1.frozen 1
  have f2 := b1.frozen 2
  have f3 := b1.frozen 3
  have d0 := b1.cell 0
  have d1 := b1.cell 1
  have d2 := b1.cell 2
  have d3 := b1.cell 3
  have g0 := hL0.kinds.cell 2
  have g1 := hL0.kinds.cell 3
  simp only [kindCells, List.getElem?_toArray, List.getElem?_cons_zero, List.getElem?_cons_succ] at d0 d1 d2 d3 g0 g1
  go_region
  all_goals go_wp2
  all_goals simp only [Exit.jump]
  have r := ((((b1.set_ 0 (.int .i64 1)).set_ 1 (.int .i64 p)).set_ 2 (.int .i64 0)).set_ 3 (.int .i64 2))
  have r0 := r.cell 0
  have r1 := r.cell 1
  have r2 := r.cell 2
  have r3 := r.cell 3
  simp only [List.setIfInBounds_toArray, List.set_cons_zero, List.set_cons_succ, List.getElem?_toArray, List.getElem?_cons_zero, List.getElem?_cons_succ] at r0 r1 r2 r3
  exact bodyPost_ret (v := .tuple #[.agg #[.int .i64 1, .int .i64 p, .int .i64 0, .int .i64 2], .int .i64 0]) (by simp [results, Tryz.results136, go_sem, r0, r1, r2, r3]) rfl ⟨rfl, (((hB.drew.setCell (by simp) _).setCell (by simp) _).setCell (by simp) _).setCell (by simp) _⟩

set_option maxRecDepth 100000 in
set_option maxHeartbeats 1000000 in
theorem sasked_2 (p : Int) (hp : p ∈ prm) (w : World) (hL : Laid w) :
    Calls Tryz.prog 136 #[.agg #[.int .i64 2, .int .i64 p]] w fun e w' => e = .returned (.tuple #[.agg #[.int .i64 2, .int .i64 p, .int .i64 1, .int .i64 2], .int .i64 0]) ∧ Below w.heap.size w w' := by
  obtain ⟨W0, hW0⟩ : ∃ W0, (w.alloc (.cells #[.int .i64 2, .int .i64 p] 37)).alloc (.cells #[.int .i64 0, .int .i64 0, .int .i64 0, .int .i64 0] 130) = W0 := ⟨_, rfl⟩
  have b0 : Blk W0 w.heap.size 37 #[.int .i64 2, .int .i64 p] := by rw [← hW0]; exact (Blk.new w _ _).alloc _
  have b1 : Blk W0 (w.heap.size + 1) 130 #[.int .i64 0, .int .i64 0, .int .i64 0, .int .i64 0] := by rw [← hW0]; exact Blk.second w _ _ _
  have hB : Below w.heap.size w W0 := by rw [← hW0]; exact below_two w _ _
  have hL0 := hL.next hB
  have c0 := b0.cell 0
  have c1 := b0.cell 1
  simp only [List.getElem?_toArray, List.getElem?_cons_zero, List.getElem?_cons_succ] at c0 c1
  have HC := Lib.hid (check_any p W0 hL0)
  rw [if_pos hp] at HC
  clear hp
  go_enter Tryz.func136, Tryz.ntmps136
  go_wp2_with fail
  refine wp_scope_jumps 0 (fun a' w' => False) (fun _ _ => 0) rfl ?_ (fun _ _ h => h.elim)
  try rw [hW0]
  clear hW0
  go_wp2_with (go_at_call 157; refine HC.out.mono ?_; rintro e w1 ⟨rfl, hB1⟩; replace b0 := b0.below hB1 b0.lt; replace b1 := b1.below hB1 b1.lt; replace hB := below_in hB hB1; replace hL0 := hL0.next hB1; have c0 := b0.cell 0; have c1 := b0.cell 1; simp only [List.getElem?_toArray, List.getElem?_cons_zero, List.getElem?_cons_succ] at c0 c1)
  have f0 := b1.frozen 0
  have f1 := b1.frozen 1
  have f2 := b1.frozen 2
  have f3 := b1.frozen 3
  have d0 := b1.cell 0
  have d1 := b1.cell 1
  have d2 := b1.cell 2
  have d3 := b1.cell 3
  have g0 := hL0.kinds.cell 4
  have g1 := hL0.kinds.cell 5
  simp only [kindCells, List.getElem?_toArray, List.getElem?_cons_zero, List.getElem?_cons_succ] at d0 d1 d2 d3 g0 g1
  go_region
  all_goals go_wp2
  all_goals simp only [Exit.jump]
  have r := ((((b1.set_ 0 (.int .i64 2)).set_ 1 (.int .i64 p)).set_ 2 (.int .i64 1)).set_ 3 (.int .i64 2))
  have r0 := r.cell 0
  have r1 := r.cell 1
  have r2 := r.cell 2
  have r3 := r.cell 3
  simp only [List.setIfInBounds_toArray, List.set_cons_zero, List.set_cons_succ, List.getElem?_toArray, List.getElem?_cons_zero, List.getElem?_cons_succ] at r0 r1 r2 r3
  exact bodyPost_ret (v := .tuple #[.agg #[.int .i64 2, .int .i64 p, .int .i64 1, .int .i64 2], .int .i64 0]) (by simp [results, Tryz.results136, go_sem, r0, r1, r2, r3]) rfl ⟨rfl, (((hB.drew.setCell (by simp) _).setCell (by simp) _).setCell (by simp) _).setCell (by simp) _⟩

set_option maxRecDepth 100000 in
set_option maxHeartbeats 1000000 in
theorem sasked_3 (p : Int) (hp : p ∈ prm) (w : World) (hL : Laid w) :
    Calls Tryz.prog 136 #[.agg #[.int .i64 3, .int .i64 p]] w fun e w' => e = .returned (.tuple #[.agg #[.int .i64 3, .int .i64 p, .int .i64 0, .int .i64 3], .int .i64 0]) ∧ Below w.heap.size w w' := by
  obtain ⟨W0, hW0⟩ : ∃ W0, (w.alloc (.cells #[.int .i64 3, .int .i64 p] 37)).alloc (.cells #[.int .i64 0, .int .i64 0, .int .i64 0, .int .i64 0] 130) = W0 := ⟨_, rfl⟩
  have b0 : Blk W0 w.heap.size 37 #[.int .i64 3, .int .i64 p] := by rw [← hW0]; exact (Blk.new w _ _).alloc _
  have b1 : Blk W0 (w.heap.size + 1) 130 #[.int .i64 0, .int .i64 0, .int .i64 0, .int .i64 0] := by rw [← hW0]; exact Blk.second w _ _ _
  have hB : Below w.heap.size w W0 := by rw [← hW0]; exact below_two w _ _
  have hL0 := hL.next hB
  have c0 := b0.cell 0
  have c1 := b0.cell 1
  simp only [List.getElem?_toArray, List.getElem?_cons_zero, List.getElem?_cons_succ] at c0 c1
  have HC := Lib.hid (check_any p W0 hL0)
  rw [if_pos hp] at HC
  clear hp
  go_enter Tryz.func136, Tryz.ntmps136
  go_wp2_with fail
  refine wp_scope_jumps 0 (fun a' w' => False) (fun _ _ => 0) rfl ?_ (fun _ _ h => h.elim)
  try rw [hW0]
  clear hW0
  go_wp2_with (go_at_call 157; refine HC.out.mono ?_; rintro e w1 ⟨rfl, hB1⟩; replace b0 := b0.below hB1 b0.lt; replace b1 := b1.below hB1 b1.lt; replace hB := below_in hB hB1; replace hL0 := hL0.next hB1; have c0 := b0.cell 0; have c1 := b0.cell 1; simp only [List.getElem?_toArray, List.getElem?_cons_zero, List.getElem?_cons_succ] at c0 c1)
  have f0 := b1.frozen 0
  have f1 := b1.frozen 1
  have f2 := b1.frozen 2
  have f3 := b1.frozen 3
  have d0 := b1.cell 0
  have d1 := b1.cell 1
  have d2 := b1.cell 2
  have d3 := b1.cell 3
  have g0 := hL0.kinds.cell 6
  have g1 := hL0.kinds.cell 7
  simp only [kindCells, List.getElem?_toArray, List.getElem?_cons_zero, List.getElem?_cons_succ] at d0 d1 d2 d3 g0 g1
  go_region
  all_goals go_wp2
  all_goals simp only [Exit.jump]
  have r := ((((b1.set_ 0 (.int .i64 3)).set_ 1 (.int .i64 p)).set_ 2 (.int .i64 0)).set_ 3 (.int .i64 3))
  have r0 := r.cell 0
  have r1 := r.cell 1
  have r2 := r.cell 2
  have r3 := r.cell 3
  simp only [List.setIfInBounds_toArray, List.set_cons_zero, List.set_cons_succ, List.getElem?_toArray, List.getElem?_cons_zero, List.getElem?_cons_succ] at r0 r1 r2 r3
  exact bodyPost_ret (v := .tuple #[.agg #[.int .i64 3, .int .i64 p, .int .i64 0, .int .i64 3], .int .i64 0]) (by simp [results, Tryz.results136, go_sem, r0, r1, r2, r3]) rfl ⟨rfl, (((hB.drew.setCell (by simp) _).setCell (by simp) _).setCell (by simp) _).setCell (by simp) _⟩

set_option maxRecDepth 100000 in
set_option maxHeartbeats 1000000 in
theorem sasked_low (k p : Int) (hk : k < 1) (w : World) (hL : Laid w) :
    Calls Tryz.prog 136 #[.agg #[.int .i64 k, .int .i64 p]] w fun e w' => e = .returned (.tuple #[.agg #[.int .i64 0, .int .i64 0, .int .i64 0, .int .i64 0], .int .i64 2]) ∧ Below w.heap.size w w' := by
  obtain ⟨W0, hW0⟩ : ∃ W0, (w.alloc (.cells #[.int .i64 k, .int .i64 p] 37)).alloc (.cells #[.int .i64 0, .int .i64 0, .int .i64 0, .int .i64 0] 130) = W0 := ⟨_, rfl⟩
  have b0 : Blk W0 w.heap.size 37 #[.int .i64 k, .int .i64 p] := by rw [← hW0]; exact (Blk.new w _ _).alloc _
  have b1 : Blk W0 (w.heap.size + 1) 130 #[.int .i64 0, .int .i64 0, .int .i64 0, .int .i64 0] := by rw [← hW0]; exact Blk.second w _ _ _
  have hB : Below w.heap.size w W0 := by rw [← hW0]; exact below_two w _ _
  have hL0 := hL.next hB
  have c0 := b0.cell 0
  have c1 := b0.cell 1
  simp only [List.getElem?_toArray, List.getElem?_cons_zero, List.getElem?_cons_succ] at c0 c1
  have d : decide (k ≤ 0) = true := by simp; omega
  go_enter Tryz.func136, Tryz.ntmps136
  go_wp2_with fail
  refine wp_scope_jumps 0 (fun a' w' => Blk w' (w.heap.size + 1) 130 #[.int .i64 0, .int .i64 0, .int .i64 0, .int .i64 0] ∧ Below w.heap.size w w' ∧ ∃ (u4 u5 u6 u7 u8 u9 u10 u11 u12 u13 u14 u15 u16 u17 u18 u19 u20 u21 u22 : Value), a' = { tmps := #[.agg #[.int .i64 k, .int .i64 p], .pointer (some ⟨w.heap.size, 0, none⟩), .pointer (some ⟨w.heap.size + 1, 0, none⟩), .int .i64 0, u4, u5, u6, u7, u8, u9, u10, u11, u12, u13, u14, u15, u16, u17, u18, u19, u20, u21, u22], defers := [] }) (fun _ _ => 0) rfl ?_ ?_
  · try rw [hW0]
    clear hW0
    go_wp2
    go_step3
    exact ⟨rfl, b1, hB, _, _, _, _, _, _, _, _, _, _, _, _, _, _, _, _, _, _, _, rfl⟩
  · clear hW0 b0 b1 hB hL0 c0 c1
    rintro a' w' ⟨b1, hB, u4, u5, u6, u7, u8, u9, u10, u11, u12, u13, u14, u15, u16, u17, u18, u19, u20, u21, u22, rfl⟩
    have f0 := b1.frozen 0
    have f1 := b1.frozen 1
    have f2 := b1.frozen 2
    have f3 := b1.frozen 3
    have d0 := b1.cell 0
    have d1 := b1.cell 1
    have d2 := b1.cell 2
    have d3 := b1.cell 3
    simp only [List.getElem?_toArray, List.getElem?_cons_zero, List.getElem?_cons_succ] at d0 d1 d2 d3
    go_wp2
    simp only [Exit.jump]
    have r := ((((b1.set_ 0 (.int .i64 0)).set_ 1 (.int .i64 0)).set_ 2 (.int .i64 0)).set_ 3 (.int .i64 0))
    have r0 := r.cell 0
    have r1 := r.cell 1
    have r2 := r.cell 2
    have r3 := r.cell 3
    simp only [List.setIfInBounds_toArray, List.set_cons_zero, List.set_cons_succ, List.getElem?_toArray, List.getElem?_cons_zero, List.getElem?_cons_succ] at r0 r1 r2 r3
    exact bodyPost_ret (v := (.tuple #[.agg #[.int .i64 0, .int .i64 0, .int .i64 0, .int .i64 0], .int .i64 2])) (by simp [results, Tryz.results136, go_sem, r0, r1, r2, r3]) rfl ⟨rfl, (((hB.setCell (by simp) _).setCell (by simp) _).setCell (by simp) _).setCell (by simp) _⟩

set_option maxRecDepth 100000 in
set_option maxHeartbeats 1000000 in
theorem sasked_high (k p : Int) (hk : 3 < k) (w : World) (hL : Laid w) :
    Calls Tryz.prog 136 #[.agg #[.int .i64 k, .int .i64 p]] w fun e w' => e = .returned (.tuple #[.agg #[.int .i64 0, .int .i64 0, .int .i64 0, .int .i64 0], .int .i64 2]) ∧ Below w.heap.size w w' := by
  obtain ⟨W0, hW0⟩ : ∃ W0, (w.alloc (.cells #[.int .i64 k, .int .i64 p] 37)).alloc (.cells #[.int .i64 0, .int .i64 0, .int .i64 0, .int .i64 0] 130) = W0 := ⟨_, rfl⟩
  have b0 : Blk W0 w.heap.size 37 #[.int .i64 k, .int .i64 p] := by rw [← hW0]; exact (Blk.new w _ _).alloc _
  have b1 : Blk W0 (w.heap.size + 1) 130 #[.int .i64 0, .int .i64 0, .int .i64 0, .int .i64 0] := by rw [← hW0]; exact Blk.second w _ _ _
  have hB : Below w.heap.size w W0 := by rw [← hW0]; exact below_two w _ _
  have hL0 := hL.next hB
  have c0 := b0.cell 0
  have c1 := b0.cell 1
  simp only [List.getElem?_toArray, List.getElem?_cons_zero, List.getElem?_cons_succ] at c0 c1
  have d : decide (k ≤ 0) = false := by simp; omega
  have d2 : decide (3 < k) = true := by simpa using hk
  go_enter Tryz.func136, Tryz.ntmps136
  go_wp2_with fail
  refine wp_scope_jumps 0 (fun a' w' => Blk w' (w.heap.size + 1) 130 #[.int .i64 0, .int .i64 0, .int .i64 0, .int .i64 0] ∧ Below w.heap.size w w' ∧ ∃ (u4 u5 u6 u7 u8 u9 u10 u11 u12 u13 u14 u15 u16 u17 u18 u19 u20 u21 u22 : Value), a' = { tmps := #[.agg #[.int .i64 k, .int .i64 p], .pointer (some ⟨w.heap.size, 0, none⟩), .pointer (some ⟨w.heap.size + 1, 0, none⟩), .int .i64 0, u4, u5, u6, u7, u8, u9, u10, u11, u12, u13, u14, u15, u16, u17, u18, u19, u20, u21, u22], defers := [] }) (fun _ _ => 0) rfl ?_ ?_
  · try rw [hW0]
    clear hW0
    go_wp2
    go_step3
    exact ⟨rfl, b1, hB, _, _, _, _, _, _, _, _, _, _, _, _, _, _, _, _, _, _, _, rfl⟩
  · clear hW0 b0 b1 hB hL0 c0 c1
    rintro a' w' ⟨b1, hB, u4, u5, u6, u7, u8, u9, u10, u11, u12, u13, u14, u15, u16, u17, u18, u19, u20, u21, u22, rfl⟩
    have f0 := b1.frozen 0
    have f1 := b1.frozen 1
    have f2 := b1.frozen 2
    have f3 := b1.frozen 3
    have d0 := b1.cell 0
    have d1 := b1.cell 1
    have d2 := b1.cell 2
    have d3 := b1.cell 3
    simp only [List.getElem?_toArray, List.getElem?_cons_zero, List.getElem?_cons_succ] at d0 d1 d2 d3
    go_wp2
    simp only [Exit.jump]
    have r := ((((b1.set_ 0 (.int .i64 0)).set_ 1 (.int .i64 0)).set_ 2 (.int .i64 0)).set_ 3 (.int .i64 0))
    have r0 := r.cell 0
    have r1 := r.cell 1
    have r2 := r.cell 2
    have r3 := r.cell 3
    simp only [List.setIfInBounds_toArray, List.set_cons_zero, List.set_cons_succ, List.getElem?_toArray, List.getElem?_cons_zero, List.getElem?_cons_succ] at r0 r1 r2 r3
    exact bodyPost_ret (v := (.tuple #[.agg #[.int .i64 0, .int .i64 0, .int .i64 0, .int .i64 0], .int .i64 2])) (by simp [results, Tryz.results136, go_sem, r0, r1, r2, r3]) rfl ⟨rfl, (((hB.setCell (by simp) _).setCell (by simp) _).setCell (by simp) _).setCell (by simp) _⟩

set_option maxRecDepth 100000 in
set_option maxHeartbeats 1000000 in
theorem sasked_bad (k p : Int) (hk : 1 ≤ k ∧ k ≤ 3) (hp : p ∉ prm) (w : World) (hL : Laid w) :
    Calls Tryz.prog 136 #[.agg #[.int .i64 k, .int .i64 p]] w fun e w' => e = .returned (.tuple #[.agg #[.int .i64 0, .int .i64 0, .int .i64 0, .int .i64 0], .int .i64 2]) ∧ Below w.heap.size w w' := by
  obtain ⟨W0, hW0⟩ : ∃ W0, (w.alloc (.cells #[.int .i64 k, .int .i64 p] 37)).alloc (.cells #[.int .i64 0, .int .i64 0, .int .i64 0, .int .i64 0] 130) = W0 := ⟨_, rfl⟩
  have b0 : Blk W0 w.heap.size 37 #[.int .i64 k, .int .i64 p] := by rw [← hW0]; exact (Blk.new w _ _).alloc _
  have b1 : Blk W0 (w.heap.size + 1) 130 #[.int .i64 0, .int .i64 0, .int .i64 0, .int .i64 0] := by rw [← hW0]; exact Blk.second w _ _ _
  have hB : Below w.heap.size w W0 := by rw [← hW0]; exact below_two w _ _
  have hL0 := hL.next hB
  have c0 := b0.cell 0
  have c1 := b0.cell 1
  simp only [List.getElem?_toArray, List.getElem?_cons_zero, List.getElem?_cons_succ] at c0 c1
  have d : decide (k ≤ 0) = false := by simp; omega
  have d2 : decide (3 < k) = false := by simp; omega
  have HC := Lib.hid (check_any p W0 hL0)
  rw [if_neg hp] at HC
  clear hp hk
  go_enter Tryz.func136, Tryz.ntmps136
  go_wp2_with fail
  refine wp_scope_jumps 0 (fun a' w' => Blk w' (w.heap.size + 1) 130 #[.int .i64 0, .int .i64 0, .int .i64 0, .int .i64 0] ∧ Below w.heap.size w w' ∧ ∃ (u4 u5 u6 u7 u8 u9 u10 u11 u12 u13 u14 u15 u16 u17 u18 u19 u20 u21 u22 : Value), a' = { tmps := #[.agg #[.int .i64 k, .int .i64 p], .pointer (some ⟨w.heap.size, 0, none⟩), .pointer (some ⟨w.heap.size + 1, 0, none⟩), .int .i64 0, u4, u5, u6, u7, u8, u9, u10, u11, u12, u13, u14, u15, u16, u17, u18, u19, u20, u21, u22], defers := [] }) (fun _ _ => 0) rfl ?_ ?_
  · try rw [hW0]
    clear hW0
    go_wp2_with (go_at_call 157; refine HC.out.mono ?_; rintro e w1 ⟨rfl, hB1⟩; replace b0 := b0.below hB1 b0.lt; replace b1 := b1.below hB1 b1.lt; replace hB := below_in hB hB1; replace hL0 := hL0.next hB1; have c0 := b0.cell 0; have c1 := b0.cell 1; simp only [List.getElem?_toArray, List.getElem?_cons_zero, List.getElem?_cons_succ] at c0 c1)
    go_step3
    exact ⟨rfl, b1, hB, _, _, _, _, _, _, _, _, _, _, _, _, _, _, _, _, _, _, _, rfl⟩
  · clear hW0 b0 b1 hB hL0 c0 c1
    rintro a' w' ⟨b1, hB, u4, u5, u6, u7, u8, u9, u10, u11, u12, u13, u14, u15, u16, u17, u18, u19, u20, u21, u22, rfl⟩
    have f0 := b1.frozen 0
    have f1 := b1.frozen 1
    have f2 := b1.frozen 2
    have f3 := b1.frozen 3
    have d0 := b1.cell 0
    have d1 := b1.cell 1
    have d2 := b1.cell 2
    have d3 := b1.cell 3
    simp only [List.getElem?_toArray, List.getElem?_cons_zero, List.getElem?_cons_succ] at d0 d1 d2 d3
    go_wp2
    simp only [Exit.jump]
    have r := ((((b1.set_ 0 (.int .i64 0)).set_ 1 (.int .i64 0)).set_ 2 (.int .i64 0)).set_ 3 (.int .i64 0))
    have r0 := r.cell 0
    have r1 := r.cell 1
    have r2 := r.cell 2
    have r3 := r.cell 3
    simp only [List.setIfInBounds_toArray, List.set_cons_zero, List.set_cons_succ, List.getElem?_toArray, List.getElem?_cons_zero, List.getElem?_cons_succ] at r0 r1 r2 r3
    exact bodyPost_ret (v := (.tuple #[.agg #[.int .i64 0, .int .i64 0, .int .i64 0, .int .i64 0], .int .i64 2])) (by simp [results, Tryz.results136, go_sem, r0, r1, r2, r3]) rfl ⟨rfl, (((hB.setCell (by simp) _).setCell (by simp) _).setCell (by simp) _).setCell (by simp) _⟩

theorem sasked_any (k p : Int) (w : World) (hL : Laid w) : Calls Tryz.prog 136 #[.agg #[.int .i64 k, .int .i64 p]] w (SAsked k p w) := by
  by_cases hk : 1 ≤ k ∧ k ≤ 3
  · by_cases hp : p ∈ prm
    · have hR : RightC k p := ⟨hk, hp⟩
      obtain rfl | rfl | rfl : k = 1 ∨ k = 2 ∨ k = 3 := by omega
      · exact (sasked_1 p hp w hL).mono fun _ _ h => ⟨fun _ => h.1, fun hn => absurd hR hn, h.2⟩
      · exact (sasked_2 p hp w hL).mono fun _ _ h => ⟨fun _ => h.1, fun hn => absurd hR hn, h.2⟩
      · exact (sasked_3 p hp w hL).mono fun _ _ h => ⟨fun _ => h.1, fun hn => absurd hR hn, h.2⟩
    · have hR : ¬ RightC k p := fun h => hp h.2
      exact (sasked_bad k p hk hp w hL).mono fun _ _ h => ⟨fun hr => absurd hr hR, fun _ => h.1, h.2⟩
  · have hR : ¬ RightC k p := fun h => hk h.1
    rcases Int.lt_or_le k 1 with h1 | h1
    · exact (sasked_low k p h1 w hL).mono fun _ _ h => ⟨fun hr => absurd hr hR, fun _ => h.1, h.2⟩
    · exact (sasked_high k p (by omega) w hL).mono fun _ _ h => ⟨fun hr => absurd hr hR, fun _ => h.1, h.2⟩
end Go.Proofs.YtggdlklkjnbbjaaGreatDoor
