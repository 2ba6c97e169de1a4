/- The document's answers for layer 4. -/
import Derived.Test.YtggdlklkjnbbjaaGreatDoorSwE
namespace Go.Proofs.YtggdlklkjnbbjaaGreatDoor
open Go.RowKit Go.Shelf
set_option linter.unusedSimpArgs false
set_option linter.unusedVariables false

set_option maxHeartbeats 1000000 in
theorem refRows_any (k p : Int) (hR : RightC k p) (w : World) : Calls Tryz.prog 55 #[(.agg #[.int .i64 k, .int .i64 p])] w fun e w' => e = .returned (.int .i64 (p - 1)) ∧ Below w.heap.size w w' := by
  obtain ⟨p1, p2, s1, s2, m1, m2⟩ := hR.und
  go_enter Tryz.func55, Tryz.ntmps55
  go_wp2
  go_ret
  exact ⟨rfl, (below_one w _)⟩

set_option maxHeartbeats 1000000 in
theorem refData_any (k p : Int) (hR : RightC k p) (w : World) : Calls Tryz.prog 53 #[(.agg #[.int .i64 k, .int .i64 p])] w fun e w' => e = .returned (.int .i64 (p - shortN k)) ∧ Below w.heap.size w w' := by
  obtain ⟨p1, p2, s1, s2, m1, m2⟩ := hR.und
  by_cases h : k = 2
  · subst h
    go_enter Tryz.func53, Tryz.ntmps53
    go_wp2
    go_ret
    exact ⟨rfl, (below_one w _)⟩
  · have d : ((k : Int) == 2) = false := by simpa using h
    have e : shortN k = 0 := if_neg h
    rw [e]
    go_enter Tryz.func53, Tryz.ntmps53
    go_wp2
    go_ret
    exact ⟨ret_i64 (by omega), (below_one w _)⟩

set_option maxHeartbeats 1000000 in
theorem refLost_any (k p : Int) (hR : RightC k p) (w : World) : Calls Tryz.prog 101 #[(.agg #[.int .i64 k, .int .i64 p])] w fun e w' => e = .returned (.int .i64 (madeN k)) ∧ Below w.heap.size w w' := by
  obtain ⟨p1, p2, s1, s2, m1, m2⟩ := hR.und
  by_cases h : k = 3
  · subst h
    go_enter Tryz.func101, Tryz.ntmps101
    go_wp2
    go_ret
    exact ⟨rfl, (below_one w _)⟩
  · have d : ((k : Int) == 3) = false := by simpa using h
    have e : madeN k = 2 := if_neg h
    rw [e]
    go_enter Tryz.func101, Tryz.ntmps101
    go_wp2
    go_ret
    exact ⟨rfl, (below_one w _)⟩

set_option maxHeartbeats 1000000 in
theorem refCols_any (k p : Int) (hR : RightC k p) (w : World) : Calls Tryz.prog 54 #[(.agg #[.int .i64 k, .int .i64 p])] w fun e w' => e = .returned (.int .i64 (p - shortN k + madeN k)) ∧ Below w.heap.size w w' := by
  obtain ⟨p1, p2, s1, s2, m1, m2⟩ := hR.und
  have HD := Lib.hid (fun W => refData_any k p hR W)
  have HLo := Lib.hid (fun W => refLost_any k p hR W)
  clear hR
  generalize shortN k = s at *
  generalize madeN k = m at *
  have e1 := IntWalk.i64_in (p - s + m) (by omega)
  go_enter Tryz.func54, Tryz.ntmps54
  go_wp2
  obtain ⟨W0, hW0⟩ : ∃ W0, w.alloc (.cells #[.int .i64 k, .int .i64 p] 37) = W0 := ⟨_, rfl⟩
  have b0 : Blk W0 w.heap.size 37 #[.int .i64 k, .int .i64 p] := by rw [← hW0]; exact Blk.new w _ _
  have hB : Below w.heap.size w W0 := by rw [← hW0]; exact below_one w _
  rw [hW0]
  clear hW0
  go_region_held3 (fun W => W.cell? ⟨w.heap.size, 0, none⟩ = some (.int .i64 k) ∧ W.cell? ⟨w.heap.size, 1, none⟩ = some (.int .i64 p))
    (exact ⟨b0.cell 0, b0.cell 1⟩) (first
    | (go_at_call 53; refine (HD.out _).mono ?_; rintro e w1 ⟨rfl, hB1⟩; (first | replace b0 := b0.below hB1 b0.lt | replace b0 := b0.nextd hB1); (first | replace hB := below_in hB hB1 | replace hB := below_in hB.drew hB1))
    | (go_at_call 101; refine (HLo.out _).mono ?_; rintro e w1 ⟨rfl, hB1⟩; (first | replace b0 := b0.below hB1 b0.lt | replace b0 := b0.nextd hB1); (first | replace hB := below_in hB hB1 | replace hB := below_in hB.drew hB1)))
  all_goals go_wp2
  all_goals go_ret
  all_goals exact ⟨rfl, hB⟩

def rroleN (d x : Int) : Int := if x < d then 1 else x - d + 2
theorem role_eq {p s m x : Int} (h : 0 ≤ x ∧ x < p - s + m) (hu : Und p s m) : roleN (p - s) x = rroleN (p - s) x := by
  obtain ⟨p1, p2, s1, s2, m1, m2⟩ := hu
  unfold roleN rroleN
  split <;> (try split) <;> (try split) <;> (try split) <;> omega
set_option maxHeartbeats 1000000 in
theorem refRole_any (k p x : Int) (hR : RightC k p) (hx : 0 ≤ x ∧ x < 1000) (w : World) : Calls Tryz.prog 138 #[(.agg #[.int .i64 k, .int .i64 p]), .int .i64 x] w fun e w' => e = .returned (.int .i64 (rroleN (p - shortN k) x)) ∧ Below w.heap.size w w' := by
  obtain ⟨p1, p2, s1, s2, m1, m2⟩ := hR.und
  have HD := Lib.hid (fun W => refData_any k p hR W)
  clear hR
  generalize shortN k = s at *
  by_cases h : x < p - s
  · have d : decide (x < p - s) = true := by simpa using h
    have e : rroleN (p - s) x = 1 := if_pos h
    rw [e]
    go_enter Tryz.func138, Tryz.ntmps138
    go_wp2_with fail
    obtain ⟨W0, hW0⟩ : ∃ W0, w.alloc (.cells #[.int .i64 k, .int .i64 p] 37) = W0 := ⟨_, rfl⟩
    have b0 : Blk W0 w.heap.size 37 #[.int .i64 k, .int .i64 p] := by rw [← hW0]; exact Blk.new w _ _
    have hB : Below w.heap.size w W0 := by rw [← hW0]; exact below_one w _
    try rw [hW0]
    clear hW0
    have c0 := b0.cell 0
    have c1 := b0.cell 1
    simp only [List.getElem?_toArray, List.getElem?_cons_zero, List.getElem?_cons_succ] at c0 c1
    go_wp2_with (go_at_call 53; refine (HD.out _).mono ?_; rintro e w1 ⟨rfl, hB1⟩; (first | replace b0 := b0.below hB1 b0.lt | replace b0 := b0.nextd hB1); (first | replace hB := below_in hB hB1 | replace hB := below_in hB.drew hB1))
    go_ret
    exact ⟨rfl, hB⟩
  · have d : decide (x < p - s) = false := decide_eq_false h
    have e : rroleN (p - s) x = x - (p - s) + 2 := if_neg h
    rw [e]
    go_enter Tryz.func138, Tryz.ntmps138
    go_wp2_with fail
    obtain ⟨W0, hW0⟩ : ∃ W0, w.alloc (.cells #[.int .i64 k, .int .i64 p] 37) = W0 := ⟨_, rfl⟩
    have b0 : Blk W0 w.heap.size 37 #[.int .i64 k, .int .i64 p] := by rw [← hW0]; exact Blk.new w _ _
    have hB : Below w.heap.size w W0 := by rw [← hW0]; exact below_one w _
    try rw [hW0]
    clear hW0
    have c0 := b0.cell 0
    have c1 := b0.cell 1
    simp only [List.getElem?_toArray, List.getElem?_cons_zero, List.getElem?_cons_succ] at c0 c1
    go_wp2_with (go_at_call 53; refine (HD.out _).mono ?_; rintro e w1 ⟨rfl, hB1⟩; (first | replace b0 := b0.below hB1 b0.lt | replace b0 := b0.nextd hB1); (first | replace hB := below_in hB hB1 | replace hB := below_in hB.drew hB1); have c0 := b0.cell 0; have c1 := b0.cell 1; simp only [List.getElem?_toArray, List.getElem?_cons_zero, List.getElem?_cons_succ] at c0 c1)
    go_ret
    exact ⟨rfl, hB⟩

set_option maxHeartbeats 1000000 in
theorem refDiagonal_any (k p x y : Int) (hR : RightC k p) (hx : 0 ≤ x ∧ x < 24) (hy : 0 ≤ y ∧ y < 24) (w : World) : Calls Tryz.prog 37 #[(.agg #[.int .i64 k, .int .i64 p]), (.agg #[.int .i64 x, .int .i64 y])] w fun e w' => e = .returned (.int .i64 ((x + y) % p)) ∧ Below w.heap.size w w' := by
  obtain ⟨p1, p2, s1, s2, m1, m2⟩ := hR.und
  have e1 : (x + y).tmod p = (x + y) % p := Int.tmod_eq_emod_of_nonneg (by omega)
  have n0 : ¬ p = 0 := by omega
  go_enter Tryz.func37, Tryz.ntmps37
  go_wp2
  go_ret
  exact ⟨rfl, below_two w _ _⟩

set_option maxHeartbeats 1000000 in
theorem refSlant_any (k p x y : Int) (hR : RightC k p) (hx : 0 ≤ x ∧ x < 24) (hy : 0 ≤ y ∧ y < 24) (w : World) : Calls Tryz.prog 58 #[(.agg #[.int .i64 k, .int .i64 p]), (.agg #[.int .i64 x, .int .i64 y])] w fun e w' => e = .returned (.int .i64 ((y - x) % p)) ∧ Below w.heap.size w w' := by
  obtain ⟨p1, p2, s1, s2, m1, m2⟩ := hR.und
  have HO := Lib.hid (fun W => rof_any p (y - x) W (by omega) (by omega) (by omega) (by omega))
  go_enter Tryz.func58, Tryz.ntmps58
  go_wp2_with (go_at_call 103; refine (HO.out _).mono ?_; rintro e w1 ⟨rfl, rfl⟩)
  go_ret
  exact ⟨rfl, below_two w _ _⟩

set_option maxRecDepth 100000 in
set_option maxHeartbeats 2000000 in
theorem refThereA (k p x y : Int) (hR : RightC k p) (h : x < 0) (w : World) : Calls Tryz.prog 36 #[(.agg #[.int .i64 k, .int .i64 p]), (.agg #[.int .i64 x, .int .i64 y])] w fun e w' => e = .returned (.bool false) ∧ Below w.heap.size w w' := by
  obtain ⟨p1, p2, s1, s2, m1, m2⟩ := hR.und
  have HC := Lib.hid (fun W => refCols_any k p hR W)
  have HRo := Lib.hid (fun W => refRows_any k p hR W)
  clear hR
  generalize shortN k = s at * 
  generalize madeN k = m at * 
  have d : decide (0 ≤ x) = false := by simp; omega
  clear h
  go_enter Tryz.func36, Tryz.ntmps36
  go_wp2
  obtain ⟨W0, hW0⟩ : ∃ W0, (w.alloc (.cells #[.int .i64 k, .int .i64 p] 37)).alloc (.cells #[.int .i64 x, .int .i64 y] 56) = W0 := ⟨_, rfl⟩
  have b0 : Blk W0 w.heap.size 37 #[.int .i64 k, .int .i64 p] := by rw [← hW0]; exact (Blk.new w _ _).alloc _
  have b1 : Blk W0 (w.heap.size + 1) 56 #[.int .i64 x, .int .i64 y] := by rw [← hW0]; exact Blk.second w _ _ _
  have hB : Below w.heap.size w W0 := by rw [← hW0]; exact below_two w _ _
  rw [hW0]
  clear hW0
  have c0 := b0.cell 0
  have c1 := b0.cell 1
  have a0 := b1.cell 0
  have a1 := b1.cell 1
  simp only [List.getElem?_toArray, List.getElem?_cons_zero, List.getElem?_cons_succ] at c0 c1 a0 a1
  go_quiet (fail)
  go_wp2
  go_ret
  exact ⟨rfl, below_drewN hB _⟩

set_option maxRecDepth 100000 in
set_option maxHeartbeats 2000000 in
theorem refThereB (k p x y : Int) (hR : RightC k p) (h : 0 ≤ x ∧ ¬ x < p - shortN k + madeN k) (w : World) : Calls Tryz.prog 36 #[(.agg #[.int .i64 k, .int .i64 p]), (.agg #[.int .i64 x, .int .i64 y])] w fun e w' => e = .returned (.bool false) ∧ Below w.heap.size w w' := by
  obtain ⟨p1, p2, s1, s2, m1, m2⟩ := hR.und
  have HC := Lib.hid (fun W => refCols_any k p hR W)
  have HRo := Lib.hid (fun W => refRows_any k p hR W)
  clear hR
  generalize shortN k = s at * 
  generalize madeN k = m at * 
  obtain ⟨h0, h1⟩ := h
  have d : decide (0 ≤ x) = true := by simp; omega
  have d2 : decide (x < p - s + m) = false := decide_eq_false h1
  go_enter Tryz.func36, Tryz.ntmps36
  go_wp2
  obtain ⟨W0, hW0⟩ : ∃ W0, (w.alloc (.cells #[.int .i64 k, .int .i64 p] 37)).alloc (.cells #[.int .i64 x, .int .i64 y] 56) = W0 := ⟨_, rfl⟩
  have b0 : Blk W0 w.heap.size 37 #[.int .i64 k, .int .i64 p] := by rw [← hW0]; exact (Blk.new w _ _).alloc _
  have b1 : Blk W0 (w.heap.size + 1) 56 #[.int .i64 x, .int .i64 y] := by rw [← hW0]; exact Blk.second w _ _ _
  have hB : Below w.heap.size w W0 := by rw [← hW0]; exact below_two w _ _
  rw [hW0]
  clear hW0
  have c0 := b0.cell 0
  have c1 := b0.cell 1
  have a0 := b1.cell 0
  have a1 := b1.cell 1
  simp only [List.getElem?_toArray, List.getElem?_cons_zero, List.getElem?_cons_succ] at c0 c1 a0 a1
  refine wp_region_held_drew (S := fun W => W.cell? ⟨w.heap.size, 0, none⟩ = some (.int .i64 k) ∧ W.cell? ⟨w.heap.size, 1, none⟩ = some (.int .i64 p) ∧ W.cell? ⟨w.heap.size + 1, 0, none⟩ = some (.int .i64 x) ∧ W.cell? ⟨w.heap.size + 1, 1, none⟩ = some (.int .i64 y)) (by kernel_rfl) ⟨c0, c1, a0, a1⟩ (fun hS => ?_)
  refine wpAnyH_take (i := 0) (v := (.pointer (some ⟨w.heap.size + 1, 0, none⟩))) rfl (by kernel_rfl) (by kernel_rfl) (by kernel_rfl) (fun _ _ _ h => h) (Or.inl ⟨by rfl, fun w hS => by obtain ⟨h0, h1, h2, h3⟩ := hS; go_simp⟩) (by assumption) ?_
  try simp only [Act.put, List.setIfInBounds_toArray, List.set_cons_zero, List.set_cons_succ]
  change wpAnyH _ _ _ _ _ _ _ { tmps := #[(.agg #[.int .i64 k, .int .i64 p]), (.agg #[.int .i64 x, .int .i64 y]), (.pointer (some ⟨w.heap.size, 0, none⟩)), (.pointer (some ⟨w.heap.size + 1, 0, none⟩)), .bool false, (.pointer (some ⟨w.heap.size + 1, 0, none⟩)), undef, undef, undef, undef, undef, undef, undef, undef, undef, undef, undef, undef, undef, undef, undef, undef, undef, undef, undef, undef, undef], defers := [] } _
  refine wpAnyH_take (i := 1) (v := (.int .i64 x)) rfl (by kernel_rfl) (by kernel_rfl) (by kernel_rfl) (fun _ _ _ h => h) (Or.inl ⟨by rfl, fun w hS => by obtain ⟨h0, h1, h2, h3⟩ := hS; go_simp⟩) (by assumption) ?_
  try simp only [Act.put, List.setIfInBounds_toArray, List.set_cons_zero, List.set_cons_succ]
  change wpAnyH _ _ _ _ _ _ _ { tmps := #[(.agg #[.int .i64 k, .int .i64 p]), (.agg #[.int .i64 x, .int .i64 y]), (.pointer (some ⟨w.heap.size, 0, none⟩)), (.pointer (some ⟨w.heap.size + 1, 0, none⟩)), .bool false, (.pointer (some ⟨w.heap.size + 1, 0, none⟩)), (.int .i64 x), undef, undef, undef, undef, undef, undef, undef, undef, undef, undef, undef, undef, undef, undef, undef, undef, undef, undef, undef, undef], defers := [] } _
  refine wpAnyH_take (i := 2) (v := (.bool true)) rfl (by kernel_rfl) (by kernel_rfl) (by kernel_rfl) (fun _ _ _ h => h) (Or.inl ⟨by rfl, fun w hS => by obtain ⟨h0, h1, h2, h3⟩ := hS; go_simp⟩) (by assumption) ?_
  try simp only [Act.put, List.setIfInBounds_toArray, List.set_cons_zero, List.set_cons_succ]
  change wpAnyH _ _ _ _ _ _ _ { tmps := #[(.agg #[.int .i64 k, .int .i64 p]), (.agg #[.int .i64 x, .int .i64 y]), (.pointer (some ⟨w.heap.size, 0, none⟩)), (.pointer (some ⟨w.heap.size + 1, 0, none⟩)), .bool false, (.pointer (some ⟨w.heap.size + 1, 0, none⟩)), (.int .i64 x), (.bool true), undef, undef, undef, undef, undef, undef, undef, undef, undef, undef, undef, undef, undef, undef, undef, undef, undef, undef, undef], defers := [] } _
  refine wpAnyH_take (i := 3) (v := (.bool true)) rfl (by kernel_rfl) (by kernel_rfl) (by kernel_rfl) (fun _ _ _ h => h) (Or.inl ⟨by rfl, fun w hS => by obtain ⟨h0, h1, h2, h3⟩ := hS; go_simp⟩) (by assumption) ?_
  try simp only [Act.put, List.setIfInBounds_toArray, List.set_cons_zero, List.set_cons_succ]
  change wpAnyH _ _ _ _ _ _ _ { tmps := #[(.agg #[.int .i64 k, .int .i64 p]), (.agg #[.int .i64 x, .int .i64 y]), (.pointer (some ⟨w.heap.size, 0, none⟩)), (.pointer (some ⟨w.heap.size + 1, 0, none⟩)), .bool false, (.pointer (some ⟨w.heap.size + 1, 0, none⟩)), (.int .i64 x), (.bool true), (.bool true), undef, undef, undef, undef, undef, undef, undef, undef, undef, undef, undef, undef, undef, undef, undef, undef, undef, undef], defers := [] } _
  refine wpAnyH_take (i := 4) (v := (.pointer (some ⟨w.heap.size + 1, 0, none⟩))) rfl (by kernel_rfl) (by kernel_rfl) (by kernel_rfl) (fun _ _ _ h => h) (Or.inl ⟨by rfl, fun w hS => by obtain ⟨h0, h1, h2, h3⟩ := hS; go_simp⟩) (by assumption) ?_
  try simp only [Act.put, List.setIfInBounds_toArray, List.set_cons_zero, List.set_cons_succ]
  change wpAnyH _ _ _ _ _ _ _ { tmps := #[(.agg #[.int .i64 k, .int .i64 p]), (.agg #[.int .i64 x, .int .i64 y]), (.pointer (some ⟨w.heap.size, 0, none⟩)), (.pointer (some ⟨w.heap.size + 1, 0, none⟩)), .bool false, (.pointer (some ⟨w.heap.size + 1, 0, none⟩)), (.int .i64 x), (.bool true), (.bool true), (.pointer (some ⟨w.heap.size + 1, 0, none⟩)), undef, undef, undef, undef, undef, undef, undef, undef, undef, undef, undef, undef, undef, undef, undef, undef, undef], defers := [] } _
  refine wpAnyH_take (i := 5) (v := (.int .i64 x)) rfl (by kernel_rfl) (by kernel_rfl) (by kernel_rfl) (fun _ _ _ h => h) (Or.inl ⟨by rfl, fun w hS => by obtain ⟨h0, h1, h2, h3⟩ := hS; go_simp⟩) (by assumption) ?_
  try simp only [Act.put, List.setIfInBounds_toArray, List.set_cons_zero, List.set_cons_succ]
  change wpAnyH _ _ _ _ _ _ _ { tmps := #[(.agg #[.int .i64 k, .int .i64 p]), (.agg #[.int .i64 x, .int .i64 y]), (.pointer (some ⟨w.heap.size, 0, none⟩)), (.pointer (some ⟨w.heap.size + 1, 0, none⟩)), .bool false, (.pointer (some ⟨w.heap.size + 1, 0, none⟩)), (.int .i64 x), (.bool true), (.bool true), (.pointer (some ⟨w.heap.size + 1, 0, none⟩)), (.int .i64 x), undef, undef, undef, undef, undef, undef, undef, undef, undef, undef, undef, undef, undef, undef, undef, undef], defers := [] } _
  refine wpAnyH_take (i := 6) (v := (.agg #[.int .i64 k, .int .i64 p])) rfl (by kernel_rfl) (by kernel_rfl) (by kernel_rfl) (fun _ _ _ h => h) (Or.inl ⟨by rfl, fun w hS => by obtain ⟨h0, h1, h2, h3⟩ := hS; go_simp⟩) (by assumption) ?_
  try simp only [Act.put, List.setIfInBounds_toArray, List.set_cons_zero, List.set_cons_succ]
  change wpAnyH _ _ _ _ _ _ _ { tmps := #[(.agg #[.int .i64 k, .int .i64 p]), (.agg #[.int .i64 x, .int .i64 y]), (.pointer (some ⟨w.heap.size, 0, none⟩)), (.pointer (some ⟨w.heap.size + 1, 0, none⟩)), .bool false, (.pointer (some ⟨w.heap.size + 1, 0, none⟩)), (.int .i64 x), (.bool true), (.bool true), (.pointer (some ⟨w.heap.size + 1, 0, none⟩)), (.int .i64 x), (.agg #[.int .i64 k, .int .i64 p]), undef, undef, undef, undef, undef, undef, undef, undef, undef, undef, undef, undef, undef, undef, undef], defers := [] } _
  refine wpAnyH_ready (rs := [7]) (by kernel_rfl) (by simp) ?_
  refine AllReadyH.cons rfl (fun K hK => ?_) AllReadyH.nil
  rw [if_pos (by rfl)]
  go_simp
  (go_at_call 54; refine (HC.out _).mono ?_; rintro e w1 ⟨rfl, hB1⟩; (first | replace b0 := b0.below hB1 b0.lt | replace b0 := b0.nextd hB1); (first | replace b1 := b1.below hB1 b1.lt | replace b1 := b1.nextd hB1); (first | replace hB := below_in hB hB1 | replace hB := below_in hB.drew hB1))
  refine hK.out _ _ (by exact ⟨b0.cell 0, b0.cell 1, b1.cell 0, b1.cell 1⟩) (fun _ => ?_)
  clear hK K
  try simp only [Act.put, List.setIfInBounds_toArray, List.set_cons_zero, List.set_cons_succ]
  change wpAnyH _ _ _ _ _ _ _ { tmps := #[(.agg #[.int .i64 k, .int .i64 p]), (.agg #[.int .i64 x, .int .i64 y]), (.pointer (some ⟨w.heap.size, 0, none⟩)), (.pointer (some ⟨w.heap.size + 1, 0, none⟩)), .bool false, (.pointer (some ⟨w.heap.size + 1, 0, none⟩)), (.int .i64 x), (.bool true), (.bool true), (.pointer (some ⟨w.heap.size + 1, 0, none⟩)), (.int .i64 x), (.agg #[.int .i64 k, .int .i64 p]), (.int .i64 (p - s + m)), undef, undef, undef, undef, undef, undef, undef, undef, undef, undef, undef, undef, undef, undef], defers := [] } _
  refine wpAnyH_take (i := 8) (v := (.bool false)) rfl (by kernel_rfl) (by kernel_rfl) (by kernel_rfl) (fun _ _ _ h => h) (Or.inl ⟨by rfl, fun w hS => by obtain ⟨h0, h1, h2, h3⟩ := hS; go_simp⟩) (by assumption) ?_
  try simp only [Act.put, List.setIfInBounds_toArray, List.set_cons_zero, List.set_cons_succ]
  change wpAnyH _ _ _ _ _ _ _ { tmps := #[(.agg #[.int .i64 k, .int .i64 p]), (.agg #[.int .i64 x, .int .i64 y]), (.pointer (some ⟨w.heap.size, 0, none⟩)), (.pointer (some ⟨w.heap.size + 1, 0, none⟩)), .bool false, (.pointer (some ⟨w.heap.size + 1, 0, none⟩)), (.int .i64 x), (.bool true), (.bool true), (.pointer (some ⟨w.heap.size + 1, 0, none⟩)), (.int .i64 x), (.agg #[.int .i64 k, .int .i64 p]), (.int .i64 (p - s + m)), (.bool false), undef, undef, undef, undef, undef, undef, undef, undef, undef, undef, undef, undef, undef], defers := [] } _
  refine wpAnyH_take (i := 9) (v := (.bool false)) rfl (by kernel_rfl) (by kernel_rfl) (by kernel_rfl) (fun _ _ _ h => h) (Or.inl ⟨by rfl, fun w hS => by obtain ⟨h0, h1, h2, h3⟩ := hS; go_simp⟩) (by assumption) ?_
  try simp only [Act.put, List.setIfInBounds_toArray, List.set_cons_zero, List.set_cons_succ]
  change wpAnyH _ _ _ _ _ _ _ { tmps := #[(.agg #[.int .i64 k, .int .i64 p]), (.agg #[.int .i64 x, .int .i64 y]), (.pointer (some ⟨w.heap.size, 0, none⟩)), (.pointer (some ⟨w.heap.size + 1, 0, none⟩)), .bool false, (.pointer (some ⟨w.heap.size + 1, 0, none⟩)), (.int .i64 x), (.bool true), (.bool true), (.pointer (some ⟨w.heap.size + 1, 0, none⟩)), (.int .i64 x), (.agg #[.int .i64 k, .int .i64 p]), (.int .i64 (p - s + m)), (.bool false), (.bool false), undef, undef, undef, undef, undef, undef, undef, undef, undef, undef, undef, undef], defers := [] } _
  refine wpAnyH_take (i := 10) (v := (.bool false)) rfl (by kernel_rfl) (by kernel_rfl) (by kernel_rfl) (fun _ _ _ h => h) (Or.inl ⟨by rfl, fun w hS => by obtain ⟨h0, h1, h2, h3⟩ := hS; go_simp⟩) (by assumption) ?_
  try simp only [Act.put, List.setIfInBounds_toArray, List.set_cons_zero, List.set_cons_succ]
  change wpAnyH _ _ _ _ _ _ _ { tmps := #[(.agg #[.int .i64 k, .int .i64 p]), (.agg #[.int .i64 x, .int .i64 y]), (.pointer (some ⟨w.heap.size, 0, none⟩)), (.pointer (some ⟨w.heap.size + 1, 0, none⟩)), .bool false, (.pointer (some ⟨w.heap.size + 1, 0, none⟩)), (.int .i64 x), (.bool true), (.bool true), (.pointer (some ⟨w.heap.size + 1, 0, none⟩)), (.int .i64 x), (.agg #[.int .i64 k, .int .i64 p]), (.int .i64 (p - s + m)), (.bool false), (.bool false), (.bool false), undef, undef, undef, undef, undef, undef, undef, undef, undef, undef, undef], defers := [] } _
  refine wpAnyH_take (i := 11) (v := undef) rfl (by kernel_rfl) (by kernel_rfl) (by kernel_rfl) (fun _ _ _ h => h) (Or.inr ⟨by rfl, rfl⟩) (by assumption) ?_
  try simp only [Act.put, List.setIfInBounds_toArray, List.set_cons_zero, List.set_cons_succ]
  change wpAnyH _ _ _ _ _ _ _ { tmps := #[(.agg #[.int .i64 k, .int .i64 p]), (.agg #[.int .i64 x, .int .i64 y]), (.pointer (some ⟨w.heap.size, 0, none⟩)), (.pointer (some ⟨w.heap.size + 1, 0, none⟩)), .bool false, (.pointer (some ⟨w.heap.size + 1, 0, none⟩)), (.int .i64 x), (.bool true), (.bool true), (.pointer (some ⟨w.heap.size + 1, 0, none⟩)), (.int .i64 x), (.agg #[.int .i64 k, .int .i64 p]), (.int .i64 (p - s + m)), (.bool false), (.bool false), (.bool false), undef, undef, undef, undef, undef, undef, undef, undef, undef, undef, undef], defers := [] } _
  refine wpAnyH_take (i := 12) (v := undef) rfl (by kernel_rfl) (by kernel_rfl) (by kernel_rfl) (fun _ _ _ h => h) (Or.inr ⟨by rfl, rfl⟩) (by assumption) ?_
  try simp only [Act.put, List.setIfInBounds_toArray, List.set_cons_zero, List.set_cons_succ]
  change wpAnyH _ _ _ _ _ _ _ { tmps := #[(.agg #[.int .i64 k, .int .i64 p]), (.agg #[.int .i64 x, .int .i64 y]), (.pointer (some ⟨w.heap.size, 0, none⟩)), (.pointer (some ⟨w.heap.size + 1, 0, none⟩)), .bool false, (.pointer (some ⟨w.heap.size + 1, 0, none⟩)), (.int .i64 x), (.bool true), (.bool true), (.pointer (some ⟨w.heap.size + 1, 0, none⟩)), (.int .i64 x), (.agg #[.int .i64 k, .int .i64 p]), (.int .i64 (p - s + m)), (.bool false), (.bool false), (.bool false), undef, undef, undef, undef, undef, undef, undef, undef, undef, undef, undef], defers := [] } _
  refine wpAnyH_take (i := 13) (v := undef) rfl (by kernel_rfl) (by kernel_rfl) (by kernel_rfl) (fun _ _ _ h => h) (Or.inr ⟨by rfl, rfl⟩) (by assumption) ?_
  try simp only [Act.put, List.setIfInBounds_toArray, List.set_cons_zero, List.set_cons_succ]
  change wpAnyH _ _ _ _ _ _ _ { tmps := #[(.agg #[.int .i64 k, .int .i64 p]), (.agg #[.int .i64 x, .int .i64 y]), (.pointer (some ⟨w.heap.size, 0, none⟩)), (.pointer (some ⟨w.heap.size + 1, 0, none⟩)), .bool false, (.pointer (some ⟨w.heap.size + 1, 0, none⟩)), (.int .i64 x), (.bool true), (.bool true), (.pointer (some ⟨w.heap.size + 1, 0, none⟩)), (.int .i64 x), (.agg #[.int .i64 k, .int .i64 p]), (.int .i64 (p - s + m)), (.bool false), (.bool false), (.bool false), undef, undef, undef, undef, undef, undef, undef, undef, undef, undef, undef], defers := [] } _
  refine wpAnyH_take (i := 14) (v := (.bool false)) rfl (by kernel_rfl) (by kernel_rfl) (by kernel_rfl) (fun _ _ _ h => h) (Or.inl ⟨by rfl, fun w hS => by obtain ⟨h0, h1, h2, h3⟩ := hS; go_simp⟩) (by assumption) ?_
  try simp only [Act.put, List.setIfInBounds_toArray, List.set_cons_zero, List.set_cons_succ]
  change wpAnyH _ _ _ _ _ _ _ { tmps := #[(.agg #[.int .i64 k, .int .i64 p]), (.agg #[.int .i64 x, .int .i64 y]), (.pointer (some ⟨w.heap.size, 0, none⟩)), (.pointer (some ⟨w.heap.size + 1, 0, none⟩)), .bool false, (.pointer (some ⟨w.heap.size + 1, 0, none⟩)), (.int .i64 x), (.bool true), (.bool true), (.pointer (some ⟨w.heap.size + 1, 0, none⟩)), (.int .i64 x), (.agg #[.int .i64 k, .int .i64 p]), (.int .i64 (p - s + m)), (.bool false), (.bool false), (.bool false), undef, undef, undef, (.bool false), undef, undef, undef, undef, undef, undef, undef], defers := [] } _
  refine wpAnyH_take (i := 15) (v := (.bool false)) rfl (by kernel_rfl) (by kernel_rfl) (by kernel_rfl) (fun _ _ _ h => h) (Or.inl ⟨by rfl, fun w hS => by obtain ⟨h0, h1, h2, h3⟩ := hS; go_simp⟩) (by assumption) ?_
  try simp only [Act.put, List.setIfInBounds_toArray, List.set_cons_zero, List.set_cons_succ]
  change wpAnyH _ _ _ _ _ _ _ { tmps := #[(.agg #[.int .i64 k, .int .i64 p]), (.agg #[.int .i64 x, .int .i64 y]), (.pointer (some ⟨w.heap.size, 0, none⟩)), (.pointer (some ⟨w.heap.size + 1, 0, none⟩)), .bool false, (.pointer (some ⟨w.heap.size + 1, 0, none⟩)), (.int .i64 x), (.bool true), (.bool true), (.pointer (some ⟨w.heap.size + 1, 0, none⟩)), (.int .i64 x), (.agg #[.int .i64 k, .int .i64 p]), (.int .i64 (p - s + m)), (.bool false), (.bool false), (.bool false), undef, undef, undef, (.bool false), (.bool false), undef, undef, undef, undef, undef, undef], defers := [] } _
  refine wpAnyH_take (i := 16) (v := undef) rfl (by kernel_rfl) (by kernel_rfl) (by kernel_rfl) (fun _ _ _ h => h) (Or.inr ⟨by rfl, rfl⟩) (by assumption) ?_
  try simp only [Act.put, List.setIfInBounds_toArray, List.set_cons_zero, List.set_cons_succ]
  change wpAnyH _ _ _ _ _ _ _ { tmps := #[(.agg #[.int .i64 k, .int .i64 p]), (.agg #[.int .i64 x, .int .i64 y]), (.pointer (some ⟨w.heap.size, 0, none⟩)), (.pointer (some ⟨w.heap.size + 1, 0, none⟩)), .bool false, (.pointer (some ⟨w.heap.size + 1, 0, none⟩)), (.int .i64 x), (.bool true), (.bool true), (.pointer (some ⟨w.heap.size + 1, 0, none⟩)), (.int .i64 x), (.agg #[.int .i64 k, .int .i64 p]), (.int .i64 (p - s + m)), (.bool false), (.bool false), (.bool false), undef, undef, undef, (.bool false), (.bool false), undef, undef, undef, undef, undef, undef], defers := [] } _
  refine wpAnyH_take (i := 17) (v := undef) rfl (by kernel_rfl) (by kernel_rfl) (by kernel_rfl) (fun _ _ _ h => h) (Or.inr ⟨by rfl, rfl⟩) (by assumption) ?_
  try simp only [Act.put, List.setIfInBounds_toArray, List.set_cons_zero, List.set_cons_succ]
  change wpAnyH _ _ _ _ _ _ _ { tmps := #[(.agg #[.int .i64 k, .int .i64 p]), (.agg #[.int .i64 x, .int .i64 y]), (.pointer (some ⟨w.heap.size, 0, none⟩)), (.pointer (some ⟨w.heap.size + 1, 0, none⟩)), .bool false, (.pointer (some ⟨w.heap.size + 1, 0, none⟩)), (.int .i64 x), (.bool true), (.bool true), (.pointer (some ⟨w.heap.size + 1, 0, none⟩)), (.int .i64 x), (.agg #[.int .i64 k, .int .i64 p]), (.int .i64 (p - s + m)), (.bool false), (.bool false), (.bool false), undef, undef, undef, (.bool false), (.bool false), undef, undef, undef, undef, undef, undef], defers := [] } _
  refine wpAnyH_take (i := 18) (v := undef) rfl (by kernel_rfl) (by kernel_rfl) (by kernel_rfl) (fun _ _ _ h => h) (Or.inr ⟨by rfl, rfl⟩) (by assumption) ?_
  try simp only [Act.put, List.setIfInBounds_toArray, List.set_cons_zero, List.set_cons_succ]
  change wpAnyH _ _ _ _ _ _ _ { tmps := #[(.agg #[.int .i64 k, .int .i64 p]), (.agg #[.int .i64 x, .int .i64 y]), (.pointer (some ⟨w.heap.size, 0, none⟩)), (.pointer (some ⟨w.heap.size + 1, 0, none⟩)), .bool false, (.pointer (some ⟨w.heap.size + 1, 0, none⟩)), (.int .i64 x), (.bool true), (.bool true), (.pointer (some ⟨w.heap.size + 1, 0, none⟩)), (.int .i64 x), (.agg #[.int .i64 k, .int .i64 p]), (.int .i64 (p - s + m)), (.bool false), (.bool false), (.bool false), undef, undef, undef, (.bool false), (.bool false), undef, undef, undef, undef, undef, undef], defers := [] } _
  refine wpAnyH_take (i := 19) (v := undef) rfl (by kernel_rfl) (by kernel_rfl) (by kernel_rfl) (fun _ _ _ h => h) (Or.inr ⟨by rfl, rfl⟩) (by assumption) ?_
  try simp only [Act.put, List.setIfInBounds_toArray, List.set_cons_zero, List.set_cons_succ]
  change wpAnyH _ _ _ _ _ _ _ { tmps := #[(.agg #[.int .i64 k, .int .i64 p]), (.agg #[.int .i64 x, .int .i64 y]), (.pointer (some ⟨w.heap.size, 0, none⟩)), (.pointer (some ⟨w.heap.size + 1, 0, none⟩)), .bool false, (.pointer (some ⟨w.heap.size + 1, 0, none⟩)), (.int .i64 x), (.bool true), (.bool true), (.pointer (some ⟨w.heap.size + 1, 0, none⟩)), (.int .i64 x), (.agg #[.int .i64 k, .int .i64 p]), (.int .i64 (p - s + m)), (.bool false), (.bool false), (.bool false), undef, undef, undef, (.bool false), (.bool false), undef, undef, undef, undef, undef, undef], defers := [] } _
  refine wpAnyH_take (i := 20) (v := undef) rfl (by kernel_rfl) (by kernel_rfl) (by kernel_rfl) (fun _ _ _ h => h) (Or.inr ⟨by rfl, rfl⟩) (by assumption) ?_
  try simp only [Act.put, List.setIfInBounds_toArray, List.set_cons_zero, List.set_cons_succ]
  change wpAnyH _ _ _ _ _ _ _ { tmps := #[(.agg #[.int .i64 k, .int .i64 p]), (.agg #[.int .i64 x, .int .i64 y]), (.pointer (some ⟨w.heap.size, 0, none⟩)), (.pointer (some ⟨w.heap.size + 1, 0, none⟩)), .bool false, (.pointer (some ⟨w.heap.size + 1, 0, none⟩)), (.int .i64 x), (.bool true), (.bool true), (.pointer (some ⟨w.heap.size + 1, 0, none⟩)), (.int .i64 x), (.agg #[.int .i64 k, .int .i64 p]), (.int .i64 (p - s + m)), (.bool false), (.bool false), (.bool false), undef, undef, undef, (.bool false), (.bool false), undef, undef, undef, undef, undef, undef], defers := [] } _
  refine wpAnyH_take (i := 21) (v := (.bool false)) rfl (by kernel_rfl) (by kernel_rfl) (by kernel_rfl) (fun _ _ _ h => h) (Or.inl ⟨by rfl, fun w hS => by obtain ⟨h0, h1, h2, h3⟩ := hS; go_simp⟩) (by assumption) ?_
  try simp only [Act.put, List.setIfInBounds_toArray, List.set_cons_zero, List.set_cons_succ]
  change wpAnyH _ _ _ _ _ _ _ { tmps := #[(.agg #[.int .i64 k, .int .i64 p]), (.agg #[.int .i64 x, .int .i64 y]), (.pointer (some ⟨w.heap.size, 0, none⟩)), (.pointer (some ⟨w.heap.size + 1, 0, none⟩)), .bool false, (.pointer (some ⟨w.heap.size + 1, 0, none⟩)), (.int .i64 x), (.bool true), (.bool true), (.pointer (some ⟨w.heap.size + 1, 0, none⟩)), (.int .i64 x), (.agg #[.int .i64 k, .int .i64 p]), (.int .i64 (p - s + m)), (.bool false), (.bool false), (.bool false), undef, undef, undef, (.bool false), (.bool false), undef, undef, undef, undef, undef, (.bool false)], defers := [] } _
  refine wpAnyH_take (i := 22) (v := (.bool false)) rfl (by kernel_rfl) (by kernel_rfl) (by kernel_rfl) (fun _ _ _ h => h) (Or.inl ⟨by rfl, fun w hS => by obtain ⟨h0, h1, h2, h3⟩ := hS; go_simp⟩) (by assumption) ?_
  try simp only [Act.put, List.setIfInBounds_toArray, List.set_cons_zero, List.set_cons_succ]
  change wpAnyH _ _ _ _ _ _ _ { tmps := #[(.agg #[.int .i64 k, .int .i64 p]), (.agg #[.int .i64 x, .int .i64 y]), (.pointer (some ⟨w.heap.size, 0, none⟩)), (.pointer (some ⟨w.heap.size + 1, 0, none⟩)), .bool false, (.pointer (some ⟨w.heap.size + 1, 0, none⟩)), (.int .i64 x), (.bool true), (.bool true), (.pointer (some ⟨w.heap.size + 1, 0, none⟩)), (.int .i64 x), (.agg #[.int .i64 k, .int .i64 p]), (.int .i64 (p - s + m)), (.bool false), (.bool false), (.bool false), undef, undef, undef, (.bool false), (.bool false), undef, undef, undef, undef, undef, (.bool false)], defers := [] } _
  refine wpAnyH_done (by kernel_rfl) ?_ _
  all_goals go_wp2
  all_goals go_ret
  all_goals exact ⟨rfl, hB⟩

set_option maxRecDepth 100000 in
set_option maxHeartbeats 2000000 in
theorem refThereC (k p x y : Int) (hR : RightC k p) (h : 0 ≤ x ∧ x < p - shortN k + madeN k) (hy : y < 0) (w : World) : Calls Tryz.prog 36 #[(.agg #[.int .i64 k, .int .i64 p]), (.agg #[.int .i64 x, .int .i64 y])] w fun e w' => e = .returned (.bool false) ∧ Below w.heap.size w w' := by
  obtain ⟨p1, p2, s1, s2, m1, m2⟩ := hR.und
  have HC := Lib.hid (fun W => refCols_any k p hR W)
  have HRo := Lib.hid (fun W => refRows_any k p hR W)
  clear hR
  generalize shortN k = s at * 
  generalize madeN k = m at * 
  obtain ⟨h0, h1⟩ := h
  have d : decide (0 ≤ x) = true := by simp; omega
  have d2 : decide (x < p - s + m) = true := decide_eq_true h1
  have d3 : decide (0 ≤ y) = false := by simp; omega
  go_enter Tryz.func36, Tryz.ntmps36
  go_wp2
  obtain ⟨W0, hW0⟩ : ∃ W0, (w.alloc (.cells #[.int .i64 k, .int .i64 p] 37)).alloc (.cells #[.int .i64 x, .int .i64 y] 56) = W0 := ⟨_, rfl⟩
  have b0 : Blk W0 w.heap.size 37 #[.int .i64 k, .int .i64 p] := by rw [← hW0]; exact (Blk.new w _ _).alloc _
  have b1 : Blk W0 (w.heap.size + 1) 56 #[.int .i64 x, .int .i64 y] := by rw [← hW0]; exact Blk.second w _ _ _
  have hB : Below w.heap.size w W0 := by rw [← hW0]; exact below_two w _ _
  rw [hW0]
  clear hW0
  have c0 := b0.cell 0
  have c1 := b0.cell 1
  have a0 := b1.cell 0
  have a1 := b1.cell 1
  simp only [List.getElem?_toArray, List.getElem?_cons_zero, List.getElem?_cons_succ] at c0 c1 a0 a1
  refine wp_region_held_drew (S := fun W => W.cell? ⟨w.heap.size, 0, none⟩ = some (.int .i64 k) ∧ W.cell? ⟨w.heap.size, 1, none⟩ = some (.int .i64 p) ∧ W.cell? ⟨w.heap.size + 1, 0, none⟩ = some (.int .i64 x) ∧ W.cell? ⟨w.heap.size + 1, 1, none⟩ = some (.int .i64 y)) (by kernel_rfl) ⟨c0, c1, a0, a1⟩ (fun hS => ?_)
  refine wpAnyH_take (i := 0) (v := (.pointer (some ⟨w.heap.size + 1, 0, none⟩))) rfl (by kernel_rfl) (by kernel_rfl) (by kernel_rfl) (fun _ _ _ h => h) (Or.inl ⟨by rfl, fun w hS => by obtain ⟨h0, h1, h2, h3⟩ := hS; go_simp⟩) (by assumption) ?_
  try simp only [Act.put, List.setIfInBounds_toArray, List.set_cons_zero, List.set_cons_succ]
  change wpAnyH _ _ _ _ _ _ _ { tmps := #[(.agg #[.int .i64 k, .int .i64 p]), (.agg #[.int .i64 x, .int .i64 y]), (.pointer (some ⟨w.heap.size, 0, none⟩)), (.pointer (some ⟨w.heap.size + 1, 0, none⟩)), .bool false, (.pointer (some ⟨w.heap.size + 1, 0, none⟩)), undef, undef, undef, undef, undef, undef, undef, undef, undef, undef, undef, undef, undef, undef, undef, undef, undef, undef, undef, undef, undef], defers := [] } _
  refine wpAnyH_take (i := 1) (v := (.int .i64 x)) rfl (by kernel_rfl) (by kernel_rfl) (by kernel_rfl) (fun _ _ _ h => h) (Or.inl ⟨by rfl, fun w hS => by obtain ⟨h0, h1, h2, h3⟩ := hS; go_simp⟩) (by assumption) ?_
  try simp only [Act.put, List.setIfInBounds_toArray, List.set_cons_zero, List.set_cons_succ]
  change wpAnyH _ _ _ _ _ _ _ { tmps := #[(.agg #[.int .i64 k, .int .i64 p]), (.agg #[.int .i64 x, .int .i64 y]), (.pointer (some ⟨w.heap.size, 0, none⟩)), (.pointer (some ⟨w.heap.size + 1, 0, none⟩)), .bool false, (.pointer (some ⟨w.heap.size + 1, 0, none⟩)), (.int .i64 x), undef, undef, undef, undef, undef, undef, undef, undef, undef, undef, undef, undef, undef, undef, undef, undef, undef, undef, undef, undef], defers := [] } _
  refine wpAnyH_take (i := 2) (v := (.bool true)) rfl (by kernel_rfl) (by kernel_rfl) (by kernel_rfl) (fun _ _ _ h => h) (Or.inl ⟨by rfl, fun w hS => by obtain ⟨h0, h1, h2, h3⟩ := hS; go_simp⟩) (by assumption) ?_
  try simp only [Act.put, List.setIfInBounds_toArray, List.set_cons_zero, List.set_cons_succ]
  change wpAnyH _ _ _ _ _ _ _ { tmps := #[(.agg #[.int .i64 k, .int .i64 p]), (.agg #[.int .i64 x, .int .i64 y]), (.pointer (some ⟨w.heap.size, 0, none⟩)), (.pointer (some ⟨w.heap.size + 1, 0, none⟩)), .bool false, (.pointer (some ⟨w.heap.size + 1, 0, none⟩)), (.int .i64 x), (.bool true), undef, undef, undef, undef, undef, undef, undef, undef, undef, undef, undef, undef, undef, undef, undef, undef, undef, undef, undef], defers := [] } _
  refine wpAnyH_take (i := 3) (v := (.bool true)) rfl (by kernel_rfl) (by kernel_rfl) (by kernel_rfl) (fun _ _ _ h => h) (Or.inl ⟨by rfl, fun w hS => by obtain ⟨h0, h1, h2, h3⟩ := hS; go_simp⟩) (by assumption) ?_
  try simp only [Act.put, List.setIfInBounds_toArray, List.set_cons_zero, List.set_cons_succ]
  change wpAnyH _ _ _ _ _ _ _ { tmps := #[(.agg #[.int .i64 k, .int .i64 p]), (.agg #[.int .i64 x, .int .i64 y]), (.pointer (some ⟨w.heap.size, 0, none⟩)), (.pointer (some ⟨w.heap.size + 1, 0, none⟩)), .bool false, (.pointer (some ⟨w.heap.size + 1, 0, none⟩)), (.int .i64 x), (.bool true), (.bool true), undef, undef, undef, undef, undef, undef, undef, undef, undef, undef, undef, undef, undef, undef, undef, undef, undef, undef], defers := [] } _
  refine wpAnyH_take (i := 4) (v := (.pointer (some ⟨w.heap.size + 1, 0, none⟩))) rfl (by kernel_rfl) (by kernel_rfl) (by kernel_rfl) (fun _ _ _ h => h) (Or.inl ⟨by rfl, fun w hS => by obtain ⟨h0, h1, h2, h3⟩ := hS; go_simp⟩) (by assumption) ?_
  try simp only [Act.put, List.setIfInBounds_toArray, List.set_cons_zero, List.set_cons_succ]
  change wpAnyH _ _ _ _ _ _ _ { tmps := #[(.agg #[.int .i64 k, .int .i64 p]), (.agg #[.int .i64 x, .int .i64 y]), (.pointer (some ⟨w.heap.size, 0, none⟩)), (.pointer (some ⟨w.heap.size + 1, 0, none⟩)), .bool false, (.pointer (some ⟨w.heap.size + 1, 0, none⟩)), (.int .i64 x), (.bool true), (.bool true), (.pointer (some ⟨w.heap.size + 1, 0, none⟩)), undef, undef, undef, undef, undef, undef, undef, undef, undef, undef, undef, undef, undef, undef, undef, undef, undef], defers := [] } _
  refine wpAnyH_take (i := 5) (v := (.int .i64 x)) rfl (by kernel_rfl) (by kernel_rfl) (by kernel_rfl) (fun _ _ _ h => h) (Or.inl ⟨by rfl, fun w hS => by obtain ⟨h0, h1, h2, h3⟩ := hS; go_simp⟩) (by assumption) ?_
  try simp only [Act.put, List.setIfInBounds_toArray, List.set_cons_zero, List.set_cons_succ]
  change wpAnyH _ _ _ _ _ _ _ { tmps := #[(.agg #[.int .i64 k, .int .i64 p]), (.agg #[.int .i64 x, .int .i64 y]), (.pointer (some ⟨w.heap.size, 0, none⟩)), (.pointer (some ⟨w.heap.size + 1, 0, none⟩)), .bool false, (.pointer (some ⟨w.heap.size + 1, 0, none⟩)), (.int .i64 x), (.bool true), (.bool true), (.pointer (some ⟨w.heap.size + 1, 0, none⟩)), (.int .i64 x), undef, undef, undef, undef, undef, undef, undef, undef, undef, undef, undef, undef, undef, undef, undef, undef], defers := [] } _
  refine wpAnyH_take (i := 6) (v := (.agg #[.int .i64 k, .int .i64 p])) rfl (by kernel_rfl) (by kernel_rfl) (by kernel_rfl) (fun _ _ _ h => h) (Or.inl ⟨by rfl, fun w hS => by obtain ⟨h0, h1, h2, h3⟩ := hS; go_simp⟩) (by assumption) ?_
  try simp only [Act.put, List.setIfInBounds_toArray, List.set_cons_zero, List.set_cons_succ]
  change wpAnyH _ _ _ _ _ _ _ { tmps := #[(.agg #[.int .i64 k, .int .i64 p]), (.agg #[.int .i64 x, .int .i64 y]), (.pointer (some ⟨w.heap.size, 0, none⟩)), (.pointer (some ⟨w.heap.size + 1, 0, none⟩)), .bool false, (.pointer (some ⟨w.heap.size + 1, 0, none⟩)), (.int .i64 x), (.bool true), (.bool true), (.pointer (some ⟨w.heap.size + 1, 0, none⟩)), (.int .i64 x), (.agg #[.int .i64 k, .int .i64 p]), undef, undef, undef, undef, undef, undef, undef, undef, undef, undef, undef, undef, undef, undef, undef], defers := [] } _
  refine wpAnyH_ready (rs := [7]) (by kernel_rfl) (by simp) ?_
  refine AllReadyH.cons rfl (fun K hK => ?_) AllReadyH.nil
  rw [if_pos (by rfl)]
  go_simp
  (go_at_call 54; refine (HC.out _).mono ?_; rintro e w1 ⟨rfl, hB1⟩; (first | replace b0 := b0.below hB1 b0.lt | replace b0 := b0.nextd hB1); (first | replace b1 := b1.below hB1 b1.lt | replace b1 := b1.nextd hB1); (first | replace hB := below_in hB hB1 | replace hB := below_in hB.drew hB1))
  refine hK.out _ _ (by exact ⟨b0.cell 0, b0.cell 1, b1.cell 0, b1.cell 1⟩) (fun _ => ?_)
  clear hK K
  try simp only [Act.put, List.setIfInBounds_toArray, List.set_cons_zero, List.set_cons_succ]
  change wpAnyH _ _ _ _ _ _ _ { tmps := #[(.agg #[.int .i64 k, .int .i64 p]), (.agg #[.int .i64 x, .int .i64 y]), (.pointer (some ⟨w.heap.size, 0, none⟩)), (.pointer (some ⟨w.heap.size + 1, 0, none⟩)), .bool false, (.pointer (some ⟨w.heap.size + 1, 0, none⟩)), (.int .i64 x), (.bool true), (.bool true), (.pointer (some ⟨w.heap.size + 1, 0, none⟩)), (.int .i64 x), (.agg #[.int .i64 k, .int .i64 p]), (.int .i64 (p - s + m)), undef, undef, undef, undef, undef, undef, undef, undef, undef, undef, undef, undef, undef, undef], defers := [] } _
  refine wpAnyH_take (i := 8) (v := (.bool true)) rfl (by kernel_rfl) (by kernel_rfl) (by kernel_rfl) (fun _ _ _ h => h) (Or.inl ⟨by rfl, fun w hS => by obtain ⟨h0, h1, h2, h3⟩ := hS; go_simp⟩) (by assumption) ?_
  try simp only [Act.put, List.setIfInBounds_toArray, List.set_cons_zero, List.set_cons_succ]
  change wpAnyH _ _ _ _ _ _ _ { tmps := #[(.agg #[.int .i64 k, .int .i64 p]), (.agg #[.int .i64 x, .int .i64 y]), (.pointer (some ⟨w.heap.size, 0, none⟩)), (.pointer (some ⟨w.heap.size + 1, 0, none⟩)), .bool false, (.pointer (some ⟨w.heap.size + 1, 0, none⟩)), (.int .i64 x), (.bool true), (.bool true), (.pointer (some ⟨w.heap.size + 1, 0, none⟩)), (.int .i64 x), (.agg #[.int .i64 k, .int .i64 p]), (.int .i64 (p - s + m)), (.bool true), undef, undef, undef, undef, undef, undef, undef, undef, undef, undef, undef, undef, undef], defers := [] } _
  refine wpAnyH_take (i := 9) (v := (.bool true)) rfl (by kernel_rfl) (by kernel_rfl) (by kernel_rfl) (fun _ _ _ h => h) (Or.inl ⟨by rfl, fun w hS => by obtain ⟨h0, h1, h2, h3⟩ := hS; go_simp⟩) (by assumption) ?_
  try simp only [Act.put, List.setIfInBounds_toArray, List.set_cons_zero, List.set_cons_succ]
  change wpAnyH _ _ _ _ _ _ _ { tmps := #[(.agg #[.int .i64 k, .int .i64 p]), (.agg #[.int .i64 x, .int .i64 y]), (.pointer (some ⟨w.heap.size, 0, none⟩)), (.pointer (some ⟨w.heap.size + 1, 0, none⟩)), .bool false, (.pointer (some ⟨w.heap.size + 1, 0, none⟩)), (.int .i64 x), (.bool true), (.bool true), (.pointer (some ⟨w.heap.size + 1, 0, none⟩)), (.int .i64 x), (.agg #[.int .i64 k, .int .i64 p]), (.int .i64 (p - s + m)), (.bool true), (.bool true), undef, undef, undef, undef, undef, undef, undef, undef, undef, undef, undef, undef], defers := [] } _
  refine wpAnyH_take (i := 10) (v := (.bool true)) rfl (by kernel_rfl) (by kernel_rfl) (by kernel_rfl) (fun _ _ _ h => h) (Or.inl ⟨by rfl, fun w hS => by obtain ⟨h0, h1, h2, h3⟩ := hS; go_simp⟩) (by assumption) ?_
  try simp only [Act.put, List.setIfInBounds_toArray, List.set_cons_zero, List.set_cons_succ]
  change wpAnyH _ _ _ _ _ _ _ { tmps := #[(.agg #[.int .i64 k, .int .i64 p]), (.agg #[.int .i64 x, .int .i64 y]), (.pointer (some ⟨w.heap.size, 0, none⟩)), (.pointer (some ⟨w.heap.size + 1, 0, none⟩)), .bool false, (.pointer (some ⟨w.heap.size + 1, 0, none⟩)), (.int .i64 x), (.bool true), (.bool true), (.pointer (some ⟨w.heap.size + 1, 0, none⟩)), (.int .i64 x), (.agg #[.int .i64 k, .int .i64 p]), (.int .i64 (p - s + m)), (.bool true), (.bool true), (.bool true), undef, undef, undef, undef, undef, undef, undef, undef, undef, undef, undef], defers := [] } _
  refine wpAnyH_take (i := 11) (v := (.pointer (some ⟨w.heap.size + 1, 1, none⟩))) rfl (by kernel_rfl) (by kernel_rfl) (by kernel_rfl) (fun _ _ _ h => h) (Or.inl ⟨by rfl, fun w hS => by obtain ⟨h0, h1, h2, h3⟩ := hS; go_simp⟩) (by assumption) ?_
  try simp only [Act.put, List.setIfInBounds_toArray, List.set_cons_zero, List.set_cons_succ]
  change wpAnyH _ _ _ _ _ _ _ { tmps := #[(.agg #[.int .i64 k, .int .i64 p]), (.agg #[.int .i64 x, .int .i64 y]), (.pointer (some ⟨w.heap.size, 0, none⟩)), (.pointer (some ⟨w.heap.size + 1, 0, none⟩)), .bool false, (.pointer (some ⟨w.heap.size + 1, 0, none⟩)), (.int .i64 x), (.bool true), (.bool true), (.pointer (some ⟨w.heap.size + 1, 0, none⟩)), (.int .i64 x), (.agg #[.int .i64 k, .int .i64 p]), (.int .i64 (p - s + m)), (.bool true), (.bool true), (.bool true), (.pointer (some ⟨w.heap.size + 1, 1, none⟩)), undef, undef, undef, undef, undef, undef, undef, undef, undef, undef], defers := [] } _
  refine wpAnyH_take (i := 12) (v := (.int .i64 y)) rfl (by kernel_rfl) (by kernel_rfl) (by kernel_rfl) (fun _ _ _ h => h) (Or.inl ⟨by rfl, fun w hS => by obtain ⟨h0, h1, h2, h3⟩ := hS; go_simp⟩) (by assumption) ?_
  try simp only [Act.put, List.setIfInBounds_toArray, List.set_cons_zero, List.set_cons_succ]
  change wpAnyH _ _ _ _ _ _ _ { tmps := #[(.agg #[.int .i64 k, .int .i64 p]), (.agg #[.int .i64 x, .int .i64 y]), (.pointer (some ⟨w.heap.size, 0, none⟩)), (.pointer (some ⟨w.heap.size + 1, 0, none⟩)), .bool false, (.pointer (some ⟨w.heap.size + 1, 0, none⟩)), (.int .i64 x), (.bool true), (.bool true), (.pointer (some ⟨w.heap.size + 1, 0, none⟩)), (.int .i64 x), (.agg #[.int .i64 k, .int .i64 p]), (.int .i64 (p - s + m)), (.bool true), (.bool true), (.bool true), (.pointer (some ⟨w.heap.size + 1, 1, none⟩)), (.int .i64 y), undef, undef, undef, undef, undef, undef, undef, undef, undef], defers := [] } _
  refine wpAnyH_take (i := 13) (v := (.bool false)) rfl (by kernel_rfl) (by kernel_rfl) (by kernel_rfl) (fun _ _ _ h => h) (Or.inl ⟨by rfl, fun w hS => by obtain ⟨h0, h1, h2, h3⟩ := hS; go_simp⟩) (by assumption) ?_
  try simp only [Act.put, List.setIfInBounds_toArray, List.set_cons_zero, List.set_cons_succ]
  change wpAnyH _ _ _ _ _ _ _ { tmps := #[(.agg #[.int .i64 k, .int .i64 p]), (.agg #[.int .i64 x, .int .i64 y]), (.pointer (some ⟨w.heap.size, 0, none⟩)), (.pointer (some ⟨w.heap.size + 1, 0, none⟩)), .bool false, (.pointer (some ⟨w.heap.size + 1, 0, none⟩)), (.int .i64 x), (.bool true), (.bool true), (.pointer (some ⟨w.heap.size + 1, 0, none⟩)), (.int .i64 x), (.agg #[.int .i64 k, .int .i64 p]), (.int .i64 (p - s + m)), (.bool true), (.bool true), (.bool true), (.pointer (some ⟨w.heap.size + 1, 1, none⟩)), (.int .i64 y), (.bool false), undef, undef, undef, undef, undef, undef, undef, undef], defers := [] } _
  refine wpAnyH_take (i := 14) (v := (.bool false)) rfl (by kernel_rfl) (by kernel_rfl) (by kernel_rfl) (fun _ _ _ h => h) (Or.inl ⟨by rfl, fun w hS => by obtain ⟨h0, h1, h2, h3⟩ := hS; go_simp⟩) (by assumption) ?_
  try simp only [Act.put, List.setIfInBounds_toArray, List.set_cons_zero, List.set_cons_succ]
  change wpAnyH _ _ _ _ _ _ _ { tmps := #[(.agg #[.int .i64 k, .int .i64 p]), (.agg #[.int .i64 x, .int .i64 y]), (.pointer (some ⟨w.heap.size, 0, none⟩)), (.pointer (some ⟨w.heap.size + 1, 0, none⟩)), .bool false, (.pointer (some ⟨w.heap.size + 1, 0, none⟩)), (.int .i64 x), (.bool true), (.bool true), (.pointer (some ⟨w.heap.size + 1, 0, none⟩)), (.int .i64 x), (.agg #[.int .i64 k, .int .i64 p]), (.int .i64 (p - s + m)), (.bool true), (.bool true), (.bool true), (.pointer (some ⟨w.heap.size + 1, 1, none⟩)), (.int .i64 y), (.bool false), (.bool false), undef, undef, undef, undef, undef, undef, undef], defers := [] } _
  refine wpAnyH_take (i := 15) (v := (.bool false)) rfl (by kernel_rfl) (by kernel_rfl) (by kernel_rfl) (fun _ _ _ h => h) (Or.inl ⟨by rfl, fun w hS => by obtain ⟨h0, h1, h2, h3⟩ := hS; go_simp⟩) (by assumption) ?_
  try simp only [Act.put, List.setIfInBounds_toArray, List.set_cons_zero, List.set_cons_succ]
  change wpAnyH _ _ _ _ _ _ _ { tmps := #[(.agg #[.int .i64 k, .int .i64 p]), (.agg #[.int .i64 x, .int .i64 y]), (.pointer (some ⟨w.heap.size, 0, none⟩)), (.pointer (some ⟨w.heap.size + 1, 0, none⟩)), .bool false, (.pointer (some ⟨w.heap.size + 1, 0, none⟩)), (.int .i64 x), (.bool true), (.bool true), (.pointer (some ⟨w.heap.size + 1, 0, none⟩)), (.int .i64 x), (.agg #[.int .i64 k, .int .i64 p]), (.int .i64 (p - s + m)), (.bool true), (.bool true), (.bool true), (.pointer (some ⟨w.heap.size + 1, 1, none⟩)), (.int .i64 y), (.bool false), (.bool false), (.bool false), undef, undef, undef, undef, undef, undef], defers := [] } _
  refine wpAnyH_take (i := 16) (v := undef) rfl (by kernel_rfl) (by kernel_rfl) (by kernel_rfl) (fun _ _ _ h => h) (Or.inr ⟨by rfl, rfl⟩) (by assumption) ?_
  try simp only [Act.put, List.setIfInBounds_toArray, List.set_cons_zero, List.set_cons_succ]
  change wpAnyH _ _ _ _ _ _ _ { tmps := #[(.agg #[.int .i64 k, .int .i64 p]), (.agg #[.int .i64 x, .int .i64 y]), (.pointer (some ⟨w.heap.size, 0, none⟩)), (.pointer (some ⟨w.heap.size + 1, 0, none⟩)), .bool false, (.pointer (some ⟨w.heap.size + 1, 0, none⟩)), (.int .i64 x), (.bool true), (.bool true), (.pointer (some ⟨w.heap.size + 1, 0, none⟩)), (.int .i64 x), (.agg #[.int .i64 k, .int .i64 p]), (.int .i64 (p - s + m)), (.bool true), (.bool true), (.bool true), (.pointer (some ⟨w.heap.size + 1, 1, none⟩)), (.int .i64 y), (.bool false), (.bool false), (.bool false), undef, undef, undef, undef, undef, undef], defers := [] } _
  refine wpAnyH_take (i := 17) (v := undef) rfl (by kernel_rfl) (by kernel_rfl) (by kernel_rfl) (fun _ _ _ h => h) (Or.inr ⟨by rfl, rfl⟩) (by assumption) ?_
  try simp only [Act.put, List.setIfInBounds_toArray, List.set_cons_zero, List.set_cons_succ]
  change wpAnyH _ _ _ _ _ _ _ { tmps := #[(.agg #[.int .i64 k, .int .i64 p]), (.agg #[.int .i64 x, .int .i64 y]), (.pointer (some ⟨w.heap.size, 0, none⟩)), (.pointer (some ⟨w.heap.size + 1, 0, none⟩)), .bool false, (.pointer (some ⟨w.heap.size + 1, 0, none⟩)), (.int .i64 x), (.bool true), (.bool true), (.pointer (some ⟨w.heap.size + 1, 0, none⟩)), (.int .i64 x), (.agg #[.int .i64 k, .int .i64 p]), (.int .i64 (p - s + m)), (.bool true), (.bool true), (.bool true), (.pointer (some ⟨w.heap.size + 1, 1, none⟩)), (.int .i64 y), (.bool false), (.bool false), (.bool false), undef, undef, undef, undef, undef, undef], defers := [] } _
  refine wpAnyH_take (i := 18) (v := undef) rfl (by kernel_rfl) (by kernel_rfl) (by kernel_rfl) (fun _ _ _ h => h) (Or.inr ⟨by rfl, rfl⟩) (by assumption) ?_
  try simp only [Act.put, List.setIfInBounds_toArray, List.set_cons_zero, List.set_cons_succ]
  change wpAnyH _ _ _ _ _ _ _ { tmps := #[(.agg #[.int .i64 k, .int .i64 p]), (.agg #[.int .i64 x, .int .i64 y]), (.pointer (some ⟨w.heap.size, 0, none⟩)), (.pointer (some ⟨w.heap.size + 1, 0, none⟩)), .bool false, (.pointer (some ⟨w.heap.size + 1, 0, none⟩)), (.int .i64 x), (.bool true), (.bool true), (.pointer (some ⟨w.heap.size + 1, 0, none⟩)), (.int .i64 x), (.agg #[.int .i64 k, .int .i64 p]), (.int .i64 (p - s + m)), (.bool true), (.bool true), (.bool true), (.pointer (some ⟨w.heap.size + 1, 1, none⟩)), (.int .i64 y), (.bool false), (.bool false), (.bool false), undef, undef, undef, undef, undef, undef], defers := [] } _
  refine wpAnyH_take (i := 19) (v := undef) rfl (by kernel_rfl) (by kernel_rfl) (by kernel_rfl) (fun _ _ _ h => h) (Or.inr ⟨by rfl, rfl⟩) (by assumption) ?_
  try simp only [Act.put, List.setIfInBounds_toArray, List.set_cons_zero, List.set_cons_succ]
  change wpAnyH _ _ _ _ _ _ _ { tmps := #[(.agg #[.int .i64 k, .int .i64 p]), (.agg #[.int .i64 x, .int .i64 y]), (.pointer (some ⟨w.heap.size, 0, none⟩)), (.pointer (some ⟨w.heap.size + 1, 0, none⟩)), .bool false, (.pointer (some ⟨w.heap.size + 1, 0, none⟩)), (.int .i64 x), (.bool true), (.bool true), (.pointer (some ⟨w.heap.size + 1, 0, none⟩)), (.int .i64 x), (.agg #[.int .i64 k, .int .i64 p]), (.int .i64 (p - s + m)), (.bool true), (.bool true), (.bool true), (.pointer (some ⟨w.heap.size + 1, 1, none⟩)), (.int .i64 y), (.bool false), (.bool false), (.bool false), undef, undef, undef, undef, undef, undef], defers := [] } _
  refine wpAnyH_take (i := 20) (v := undef) rfl (by kernel_rfl) (by kernel_rfl) (by kernel_rfl) (fun _ _ _ h => h) (Or.inr ⟨by rfl, rfl⟩) (by assumption) ?_
  try simp only [Act.put, List.setIfInBounds_toArray, List.set_cons_zero, List.set_cons_succ]
  change wpAnyH _ _ _ _ _ _ _ { tmps := #[(.agg #[.int .i64 k, .int .i64 p]), (.agg #[.int .i64 x, .int .i64 y]), (.pointer (some ⟨w.heap.size, 0, none⟩)), (.pointer (some ⟨w.heap.size + 1, 0, none⟩)), .bool false, (.pointer (some ⟨w.heap.size + 1, 0, none⟩)), (.int .i64 x), (.bool true), (.bool true), (.pointer (some ⟨w.heap.size + 1, 0, none⟩)), (.int .i64 x), (.agg #[.int .i64 k, .int .i64 p]), (.int .i64 (p - s + m)), (.bool true), (.bool true), (.bool true), (.pointer (some ⟨w.heap.size + 1, 1, none⟩)), (.int .i64 y), (.bool false), (.bool false), (.bool false), undef, undef, undef, undef, undef, undef], defers := [] } _
  refine wpAnyH_take (i := 21) (v := (.bool false)) rfl (by kernel_rfl) (by kernel_rfl) (by kernel_rfl) (fun _ _ _ h => h) (Or.inl ⟨by rfl, fun w hS => by obtain ⟨h0, h1, h2, h3⟩ := hS; go_simp⟩) (by assumption) ?_
  try simp only [Act.put, List.setIfInBounds_toArray, List.set_cons_zero, List.set_cons_succ]
  change wpAnyH _ _ _ _ _ _ _ { tmps := #[(.agg #[.int .i64 k, .int .i64 p]), (.agg #[.int .i64 x, .int .i64 y]), (.pointer (some ⟨w.heap.size, 0, none⟩)), (.pointer (some ⟨w.heap.size + 1, 0, none⟩)), .bool false, (.pointer (some ⟨w.heap.size + 1, 0, none⟩)), (.int .i64 x), (.bool true), (.bool true), (.pointer (some ⟨w.heap.size + 1, 0, none⟩)), (.int .i64 x), (.agg #[.int .i64 k, .int .i64 p]), (.int .i64 (p - s + m)), (.bool true), (.bool true), (.bool true), (.pointer (some ⟨w.heap.size + 1, 1, none⟩)), (.int .i64 y), (.bool false), (.bool false), (.bool false), undef, undef, undef, undef, undef, (.bool false)], defers := [] } _
  refine wpAnyH_take (i := 22) (v := (.bool false)) rfl (by kernel_rfl) (by kernel_rfl) (by kernel_rfl) (fun _ _ _ h => h) (Or.inl ⟨by rfl, fun w hS => by obtain ⟨h0, h1, h2, h3⟩ := hS; go_simp⟩) (by assumption) ?_
  try simp only [Act.put, List.setIfInBounds_toArray, List.set_cons_zero, List.set_cons_succ]
  change wpAnyH _ _ _ _ _ _ _ { tmps := #[(.agg #[.int .i64 k, .int .i64 p]), (.agg #[.int .i64 x, .int .i64 y]), (.pointer (some ⟨w.heap.size, 0, none⟩)), (.pointer (some ⟨w.heap.size + 1, 0, none⟩)), .bool false, (.pointer (some ⟨w.heap.size + 1, 0, none⟩)), (.int .i64 x), (.bool true), (.bool true), (.pointer (some ⟨w.heap.size + 1, 0, none⟩)), (.int .i64 x), (.agg #[.int .i64 k, .int .i64 p]), (.int .i64 (p - s + m)), (.bool true), (.bool true), (.bool true), (.pointer (some ⟨w.heap.size + 1, 1, none⟩)), (.int .i64 y), (.bool false), (.bool false), (.bool false), undef, undef, undef, undef, undef, (.bool false)], defers := [] } _
  refine wpAnyH_done (by kernel_rfl) ?_ _
  all_goals go_wp2
  all_goals go_ret
  all_goals exact ⟨rfl, hB⟩

set_option maxRecDepth 100000 in
set_option maxHeartbeats 2000000 in
theorem refThereD (k p x y : Int) (hR : RightC k p) (h : 0 ≤ x ∧ x < p - shortN k + madeN k) (hy : 0 ≤ y) (w : World) : Calls Tryz.prog 36 #[(.agg #[.int .i64 k, .int .i64 p]), (.agg #[.int .i64 x, .int .i64 y])] w fun e w' => e = .returned (.bool (decide (y < p - 1))) ∧ Below w.heap.size w w' := by
  obtain ⟨p1, p2, s1, s2, m1, m2⟩ := hR.und
  have HC := Lib.hid (fun W => refCols_any k p hR W)
  have HRo := Lib.hid (fun W => refRows_any k p hR W)
  clear hR
  generalize shortN k = s at * 
  generalize madeN k = m at * 
  obtain ⟨h0, h1⟩ := h
  have d : decide (0 ≤ x) = true := by simp; omega
  have d2 : decide (x < p - s + m) = true := decide_eq_true h1
  have d3 : decide (0 ≤ y) = true := by simpa using hy
  go_enter Tryz.func36, Tryz.ntmps36
  go_wp2
  obtain ⟨W0, hW0⟩ : ∃ W0, (w.alloc (.cells #[.int .i64 k, .int .i64 p] 37)).alloc (.cells #[.int .i64 x, .int .i64 y] 56) = W0 := ⟨_, rfl⟩
  have b0 : Blk W0 w.heap.size 37 #[.int .i64 k, .int .i64 p] := by rw [← hW0]; exact (Blk.new w _ _).alloc _
  have b1 : Blk W0 (w.heap.size + 1) 56 #[.int .i64 x, .int .i64 y] := by rw [← hW0]; exact Blk.second w _ _ _
  have hB : Below w.heap.size w W0 := by rw [← hW0]; exact below_two w _ _
  rw [hW0]
  clear hW0
  go_region_held3 (fun W => W.cell? ⟨w.heap.size, 0, none⟩ = some (.int .i64 k) ∧ W.cell? ⟨w.heap.size, 1, none⟩ = some (.int .i64 p) ∧ W.cell? ⟨w.heap.size + 1, 0, none⟩ = some (.int .i64 x) ∧ W.cell? ⟨w.heap.size + 1, 1, none⟩ = some (.int .i64 y))
    (exact ⟨b0.cell 0, b0.cell 1, b1.cell 0, b1.cell 1⟩) (first
    | (go_at_call 54; refine (HC.out _).mono ?_; rintro e w1 ⟨rfl, hB1⟩; (first | replace b0 := b0.below hB1 b0.lt | replace b0 := b0.nextd hB1); (first | replace b1 := b1.below hB1 b1.lt | replace b1 := b1.nextd hB1); (first | replace hB := below_in hB hB1 | replace hB := below_in hB.drew hB1))
    | (go_at_call 55; refine (HRo.out _).mono ?_; rintro e w1 ⟨rfl, hB1⟩; (first | replace b0 := b0.below hB1 b0.lt | replace b0 := b0.nextd hB1); (first | replace b1 := b1.below hB1 b1.lt | replace b1 := b1.nextd hB1); (first | replace hB := below_in hB hB1 | replace hB := below_in hB.drew hB1)))
  all_goals go_wp2
  all_goals go_ret
  all_goals exact ⟨rfl, hB⟩

theorem refThere_any (k p x y : Int) (hR : RightC k p) (w : World) : Calls Tryz.prog 36 #[(.agg #[.int .i64 k, .int .i64 p]), (.agg #[.int .i64 x, .int .i64 y])] w fun e w' => (HasCell k p x y → e = .returned (.bool true)) ∧ (¬ HasCell k p x y → e = .returned (.bool false)) ∧ Below w.heap.size w w' := by
  rcases Int.lt_or_le x 0 with h1 | h1
  · exact (refThereA k p x y hR h1 w).mono fun _ _ h => ⟨fun hr => by have := hr.1; omega, fun _ => h.1, h.2⟩
  by_cases h2 : x < p - shortN k + madeN k
  · rcases Int.lt_or_le y 0 with h3 | h3
    · exact (refThereC k p x y hR ⟨h1, h2⟩ h3 w).mono fun _ _ h => ⟨fun hr => by have := hr.2; omega, fun _ => h.1, h.2⟩
    · exact (refThereD k p x y hR ⟨h1, h2⟩ h3 w).mono fun _ _ h => ⟨fun hr => h.1.trans (ret_bool (decide_eq_true hr.2.2)), fun hn => h.1.trans (ret_bool (decide_eq_false fun hp => hn ⟨⟨h1, h2⟩, h3, hp⟩)), h.2⟩
  · exact (refThereB k p x y hR ⟨h1, h2⟩ w).mono fun _ _ h => ⟨fun hr => absurd hr.1.2 h2, fun _ => h.1, h.2⟩

end Go.Proofs.YtggdlklkjnbbjaaGreatDoor
