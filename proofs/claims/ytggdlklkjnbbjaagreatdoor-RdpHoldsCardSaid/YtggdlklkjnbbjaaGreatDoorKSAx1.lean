/- A code under way: its rows, its columns; what it has. A code under way: numbers, places, diagonals, slants, roles. Which codes may be. What of a code is counted; what of it is told. Role, Place, Number, Diagonal, Slant. The document's answers for layer 4. All codes; what the law asks of an answer. All codes, as the program and as the document tell them; the law's num and told. The chapter's rows: works answers true. What the laws of shape share: the variables as the row lays them, and a world in which they lie so; codes and places that came in. A range over a function that calls other functions of whatever memory: the body leaves alone all that lies from the call on. The places of a column: the function that Cells hands back goes over them. Cells. A range over a function whose variable lies in a block of its own, anew each round. Regions that draw their order, in a round; what a map's update does. -/
import Derived.Test.YtggdlklkjnbbjaaGreatDoorKMA
import Derived.ShutString
import Derived.ChangeOld
import Derived.LaidMore
import Derived.Stop.Joined
import Derived.MakeChecks
import Derived.Lib.LaidTab
import Derived.Test.YtggdlklkjnbbjaaGreatDoorKSA
namespace Go.Proofs.YtggdlklkjnbbjaaGreatDoor
open Go.RowKit Go.Shelf
set_option linter.unusedSimpArgs false
set_option linter.unusedVariables false

set_option maxRecDepth 100000 in
set_option maxHeartbeats 2000000 in
theorem refThereA (k p x y : Int) (hR : RightC k p) (h : x < 0) (w : World) : Calls Tryz.prog 36 #[(.agg #[.int .i64 k, .int .i64 p]), (.agg #[.int .i64 x, .int .i64 y])] w fun e w' => e = .returned (.bool false) ∧ Below w.heap.size w w' := by
  obtain ⟨p1, p2, s1, s2, m1, m2⟩ := hR.und
  have HC := Lib.hid (fun W => refCols_any k p hR W)
  have HRo := Lib.hid (fun W => refRows_any k p hR W)
  clear hR
  generalize shortN k = s at * 
  generalize madeN k = m at * 
  have d : decide (0 ≤ x) = false := by simp; omega
  clear h
  go_enter Tryz.func36, Tryz.ntmps36
  go_wp2
  obtain ⟨W0, hW0⟩ : ∃ W0, (w.alloc (.cells #[.int .i64 k, .int .i64 p] 37)).alloc (.cells #[.int .i64 x, .int .i64 y] 56) = W0 := ⟨_, rfl⟩
  have b0 : Blk W0 w.heap.size 37 #[.int .i64 k, .int .i64 p] := by rw [← hW0]; exact (Blk.new w _ _).alloc _
  have b1 : Blk W0 (w.heap.size + 1) 56 #[.int .i64 x, .int .i64 y] := by rw [← hW0]; exact Blk.second w _ _ _
  have hB : Below w.heap.size w W0 := by rw [← hW0]; exact below_two w _ _
  rw [hW0]
  clear hW0
  have c0 := b0.cell 0
  have c1 := b0.cell 1
  have a0 := b1.cell 0
  have a1 := b1.cell 1
  simp only [List.getElem?_toArray, List.getElem?_cons_zero, List.getElem?_cons_succ] at c0 c1 a0 a1
  go_quiet (fail)
  go_wp2
  go_ret
  exact ⟨rfl, below_drewN hB _⟩

set_option maxRecDepth 100000 in
set_option maxHeartbeats 2000000 in
theorem refThereB (k p x y : Int) (hR : RightC k p) (h : 0 ≤ x ∧ ¬ x < p - shortN k + madeN k) (w : World) : Calls Tryz.prog 36 #[(.agg #[.int .i64 k, .int .i64 p]), (.agg #[.int .i64 x, .int .i64 y])] w fun e w' => e = .returned (.bool false) ∧ Below w.heap.size w w' := by
  obtain ⟨p1, p2, s1, s2, m1, m2⟩ := hR.und
  have HC := Lib.hid (fun W => refCols_any k p hR W)
  have HRo := Lib.hid (fun W => refRows_any k p hR W)
  clear hR
  generalize shortN k = s at * 
  generalize madeN k = m at * 
  obtain ⟨h0, h1⟩ := h
  have d : decide (0 ≤ x) = true := by simp; omega
  have d2 : decide (x < p - s + m) = false := decide_eq_false h1
  go_enter Tryz.func36, Tryz.ntmps36
  go_wp2
  obtain ⟨W0, hW0⟩ : ∃ W0, (w.alloc (.cells #[.int .i64 k, .int .i64 p] 37)).alloc (.cells #[.int .i64 x, .int .i64 y] 56) = W0 := ⟨_, rfl⟩
  have b0 : Blk W0 w.heap.size 37 #[.int .i64 k, .int .i64 p] := by rw [← hW0]; exact (Blk.new w _ _).alloc _
  have b1 : Blk W0 (w.heap.size + 1) 56 #[.int .i64 x, .int .i64 y] := by rw [← hW0]; exact Blk.second w _ _ _
  have hB : Below w.heap.size w W0 := by rw [← hW0]; exact below_two w _ _
  rw [hW0]
  clear hW0
  have c0 := b0.cell 0
  have c1 := b0.cell 1
  have a0 := b1.cell 0
  have a1 := b1.cell 1
  simp only [List.getElem?_toArray, List.getElem?_cons_zero, List.getElem?_cons_succ] at c0 c1 a0 a1
  refine wp_region_held_drew (S := fun W => W.cell? ⟨w.heap.size, 0, none⟩ = some (.int .i64 k) ∧ W.cell? ⟨w.heap.size, 1, none⟩ = some (.int .i64 p) ∧ W.cell? ⟨w.heap.size + 1, 0, none⟩ = some (.int .i64 x) ∧ W.cell? ⟨w.heap.size + 1, 1, none⟩ = some (.int .i64 y)) (by kernel_rfl) ⟨c0, c1, a0, a1⟩ (fun hS => ?_)
  refine wpAnyH_take (i := 0) (v := (.pointer (some ⟨w.heap.size + 1, 0, none⟩))) rfl (by kernel_rfl) (by kernel_rfl) (by kernel_rfl) (fun _ _ _ h => h) (Or.inl ⟨by rfl, fun w hS => by obtain ⟨h0, h1, h2, h3⟩ := hS; go_simp⟩) (by assumption) ?_
  try simp only [Act.put, List.setIfInBounds_toArray, List.set_cons_zero, List.set_cons_succ]
  change wpAnyH _ _ _ _ _ _ _ { tmps := #[(.agg #[.int .i64 k, .int .i64 p]), (.agg #[.int .i64 x, .int .i64 y]), (.pointer (some ⟨w.heap.size, 0, none⟩)), (.pointer (some ⟨w.heap.size + 1, 0, none⟩)), .bool false, (.pointer (some ⟨w.heap.size + 1, 0, none⟩)), undef, undef, undef, undef, undef, undef, undef, undef, undef, undef, undef, undef, undef, undef, undef, undef, undef, undef, undef, undef, undef], defers := [] } _
  refine wpAnyH_take (i := 1) (v := (.int .i64 x)) rfl (by kernel_rfl) (by kernel_rfl) (by kernel_rfl) (fun _ _ _ h => h) (Or.inl ⟨by rfl, fun w hS => by obtain ⟨h0, h1, h2, h3⟩ := hS; go_simp⟩) (by assumption) ?_
  try simp only [Act.put, List.setIfInBounds_toArray, List.set_cons_zero, List.set_cons_succ]
  change wpAnyH _ _ _ _ _ _ _ { tmps := #[(.agg #[.int .i64 k, .int .i64 p]), (.agg #[.int .i64 x, .int .i64 y]), (.pointer (some ⟨w.heap.size, 0, none⟩)), (.pointer (some ⟨w.heap.size + 1, 0, none⟩)), .bool false, (.pointer (some ⟨w.heap.size + 1, 0, none⟩)), (.int .i64 x), undef, undef, undef, undef, undef, undef, undef, undef, undef, undef, undef, undef, undef, undef, undef, undef, undef, undef, undef, undef], defers := [] } _
  refine wpAnyH_take (i := 2) (v := (.bool true)) rfl (by kernel_rfl) (by kernel_rfl) (by kernel_rfl) (fun _ _ _ h => h) (Or.inl ⟨by rfl, fun w hS => by obtain ⟨h0, h1, h2, h3⟩ := hS; go_simp⟩) (by assumption) ?_
  try simp only [Act.put, List.setIfInBounds_toArray, List.set_cons_zero, List.set_cons_succ]
  change wpAnyH _ _ _ _ _ _ _ { tmps := #[(.agg #[.int .i64 k, .int .i64 p]), (.agg #[.int .i64 x, .int .i64 y]), (.pointer (some ⟨w.heap.size, 0, none⟩)), (.pointer (some ⟨w.heap.size + 1, 0, none⟩)), .bool false, (.pointer (some ⟨w.heap.size + 1, 0, none⟩)), (.int .i64 x), (.bool true), undef, undef, undef, undef, undef, undef, undef, undef, undef, undef, undef, undef, undef, undef, undef, undef, undef, undef, undef], defers := [] } _
  refine wpAnyH_take (i := 3) (v := (.bool true)) rfl (by kernel_rfl) (by kernel_rfl) (by kernel_rfl) (fun _ _ _ h => h) (Or.inl ⟨by rfl, fun w hS => by obtain ⟨h0, h1, h2, h3⟩ := hS; go_simp⟩) (by assumption) ?_
  try simp only [Act.put, List.setIfInBounds_toArray, List.set_cons_zero, List.set_cons_succ]
  change wpAnyH _ _ _ _ _ _ _ { tmps := #[(.agg #[.int .i64 k, .int .i64 p]), (.agg #[.int .i64 x, .int .i64 y]), (.pointer (some ⟨w.heap.size, 0, none⟩)), (.pointer (some ⟨w.heap.size + 1, 0, none⟩)), .bool false, (.pointer (some ⟨w.heap.size + 1, 0, none⟩)), (.int .i64 x), (.bool true), (.bool true), undef, undef, undef, undef, undef, undef, undef, undef, undef, undef, undef, undef, undef, undef, undef, undef, undef, undef], defers := [] } _
  refine wpAnyH_take (i := 4) (v := (.pointer (some ⟨w.heap.size + 1, 0, none⟩))) rfl (by kernel_rfl) (by kernel_rfl) (by kernel_rfl) (fun _ _ _ h => h) (Or.inl ⟨by rfl, fun w hS => by obtain ⟨h0, h1, h2, h3⟩ := hS; go_simp⟩) (by assumption) ?_
  try simp only [Act.put, List.setIfInBounds_toArray, List.set_cons_zero, List.set_cons_succ]
  change wpAnyH _ _ _ _ _ _ _ { tmps := #[(.agg #[.int .i64 k, .int .i64 p]), (.agg #[.int .i64 x, .int .i64 y]), (.pointer (some ⟨w.heap.size, 0, none⟩)), (.pointer (some ⟨w.heap.size + 1, 0, none⟩)), .bool false, (.pointer (some ⟨w.heap.size + 1, 0, none⟩)), (.int .i64 x), (.bool true), (.bool true), (.pointer (some ⟨w.heap.size + 1, 0, none⟩)), undef, undef, undef, undef, undef, undef, undef, undef, undef, undef, undef, undef, undef, undef, undef, undef, undef], defers := [] } _
  refine wpAnyH_take (i := 5) (v := (.int .i64 x)) rfl (by kernel_rfl) (by kernel_rfl) (by kernel_rfl) (fun _ _ _ h => h) (Or.inl ⟨by rfl, fun w hS => by obtain ⟨h0, h1, h2, h3⟩ := hS; go_simp⟩) (by assumption) ?_
  try simp only [Act.put, List.setIfInBounds_toArray, List.set_cons_zero, List.set_cons_succ]
  change wpAnyH _ _ _ _ _ _ _ { tmps := #[(.agg #[.int .i64 k, .int .i64 p]), (.agg #[.int .i64 x, .int .i64 y]), (.pointer (some ⟨w.heap.size, 0, none⟩)), (.pointer (some ⟨w.heap.size + 1, 0, none⟩)), .bool false, (.pointer (some ⟨w.heap.size + 1, 0, none⟩)), (.int .i64 x), (.bool true), (.bool true), (.pointer (some ⟨w.heap.size + 1, 0, none⟩)), (.int .i64 x), undef, undef, undef, undef, undef, undef, undef, undef, undef, undef, undef, undef, undef, undef, undef, undef], defers := [] } _
  refine wpAnyH_take (i := 6) (v := (.agg #[.int .i64 k, .int .i64 p])) rfl (by kernel_rfl) (by kernel_rfl) (by kernel_rfl) (fun _ _ _ h => h) (Or.inl ⟨by rfl, fun w hS => by obtain ⟨h0, h1, h2, h3⟩ := hS; go_simp⟩) (by assumption) ?_
  try simp only [Act.put, List.setIfInBounds_toArray, List.set_cons_zero, List.set_cons_succ]
  change wpAnyH _ _ _ _ _ _ _ { tmps := #[(.agg #[.int .i64 k, .int .i64 p]), (.agg #[.int .i64 x, .int .i64 y]), (.pointer (some ⟨w.heap.size, 0, none⟩)), (.pointer (some ⟨w.heap.size + 1, 0, none⟩)), .bool false, (.pointer (some ⟨w.heap.size + 1, 0, none⟩)), (.int .i64 x), (.bool true), (.bool true), (.pointer (some ⟨w.heap.size + 1, 0, none⟩)), (.int .i64 x), (.agg #[.int .i64 k, .int .i64 p]), undef, undef, undef, undef, undef, undef, undef, undef, undef, undef, undef, undef, undef, undef, undef], defers := [] } _
  refine wpAnyH_ready (rs := [7]) (by kernel_rfl) (by simp) ?_
  refine AllReadyH.cons rfl (fun K hK => ?_) AllReadyH.nil
  rw [if_pos (by rfl)]
  go_simp
  (go_at_call 54; refine (HC.out _).mono ?_; rintro e w1 ⟨rfl, hB1⟩; (first | replace b0 := b0.below hB1 b0.lt | replace b0 := b0.nextd hB1); (first | replace b1 := b1.below hB1 b1.lt | replace b1 := b1.nextd hB1); (first | replace hB := below_in hB hB1 | replace hB := below_in hB.drew hB1))
  refine hK.out _ _ (by exact ⟨b0.cell 0, b0.cell 1, b1.cell 0, b1.cell 1⟩) (fun _ => ?_)
  clear hK K
  try simp only [Act.put, List.setIfInBounds_toArray, List.set_cons_zero, List.set_cons_succ]
  change wpAnyH _ _ _ _ _ _ _ { tmps := #[(.agg #[.int .i64 k, .int .i64 p]), (.agg #[.int .i64 x, .int .i64 y]), (.pointer (some ⟨w.heap.size, 0, none⟩)), (.pointer (some ⟨w.heap.size + 1, 0, none⟩)), .bool false, (.pointer (some ⟨w.heap.size + 1, 0, none⟩)), (.int .i64 x), (.bool true), (.bool true), (.pointer (some ⟨w.heap.size + 1, 0, none⟩)), (.int .i64 x), (.agg #[.int .i64 k, .int .i64 p]), (.int .i64 (p - s + m)), undef, undef, undef, undef, undef, undef, undef, undef, undef, undef, undef, undef, undef, undef], defers := [] } _
  refine wpAnyH_take (i := 8) (v := (.bool false)) rfl (by kernel_rfl) (by kernel_rfl) (by kernel_rfl) (fun _ _ _ h => h) (Or.inl ⟨by rfl, fun w hS => by obtain ⟨h0, h1, h2, h3⟩ := hS; go_simp⟩) (by assumption) ?_
  try simp only [Act.put, List.setIfInBounds_toArray, List.set_cons_zero, List.set_cons_succ]
  change wpAnyH _ _ _ _ _ _ _ { tmps := #[(.agg #[.int .i64 k, .int .i64 p]), (.agg #[.int .i64 x, .int .i64 y]), (.pointer (some ⟨w.heap.size, 0, none⟩)), (.pointer (some ⟨w.heap.size + 1, 0, none⟩)), .bool false, (.pointer (some ⟨w.heap.size + 1, 0, none⟩)), (.int .i64 x), (.bool true), (.bool true), (.pointer (some ⟨w.heap.size + 1, 0, none⟩)), (.int .i64 x), (.agg #[.int .i64 k, .int .i64 p]), (.int .i64 (p - s + m)), (.bool false), undef, undef, undef, undef, undef, undef, undef, undef, undef, undef, undef, undef, undef], defers := [] } _
  refine wpAnyH_take (i := 9) (v := (.bool false)) rfl (by kernel_rfl) (by kernel_rfl) (by kernel_rfl) (fun _ _ _ h => h) (Or.inl ⟨by rfl, fun w hS => by obtain ⟨h0, h1, h2, h3⟩ := hS; go_simp⟩) (by assumption) ?_
  try simp only [Act.put, List.setIfInBounds_toArray, List.set_cons_zero, List.set_cons_succ]
  change wpAnyH _ _ _ _ _ _ _ { tmps := #[(.agg #[.int .i64 k, .int .i64 p]), (.agg #[.int .i64 x, .int .i64 y]), (.pointer (some ⟨w.heap.size, 0, none⟩)), (.pointer (some ⟨w.heap.size + 1, 0, none⟩)), .bool false, (.pointer (some ⟨w.heap.size + 1, 0, none⟩)), (.int .i64 x), (.bool true), (.bool true), (.pointer (some ⟨w.heap.size + 1, 0, none⟩)), (.int .i64 x), (.agg #[.int .i64 k, .int .i64 p]), (.int .i64 (p - s + m)), (.bool false), (.bool false), undef, undef, undef, undef, undef, undef, undef, undef, undef, undef, undef, undef], defers := [] } _
  refine wpAnyH_take (i := 10) (v := (.bool false)) rfl (by kernel_rfl) (by kernel_rfl) (by kernel_rfl) (fun _ _ _ h => h) (Or.inl ⟨by rfl, fun w hS => by obtain ⟨h0, h1, h2, h3⟩ := hS; go_simp⟩) (by assumption) ?_
  try simp only [Act.put, List.setIfInBounds_toArray, List.set_cons_zero, List.set_cons_succ]
  change wpAnyH _ _ _ _ _ _ _ { tmps := #[(.agg #[.int .i64 k, .int .i64 p]), (.agg #[.int .i64 x, .int .i64 y]), (.pointer (some ⟨w.heap.size, 0, none⟩)), (.pointer (some ⟨w.heap.size + 1, 0, none⟩)), .bool false, (.pointer (some ⟨w.heap.size + 1, 0, none⟩)), (.int .i64 x), (.bool true), (.bool true), (.pointer (some ⟨w.heap.size + 1, 0, none⟩)), (.int .i64 x), (.agg #[.int .i64 k, .int .i64 p]), (.int .i64 (p - s + m)), (.bool false), (.bool false), (.bool false), undef, undef, undef, undef, undef, undef, undef, undef, undef, undef, undef], defers := [] } _
  refine wpAnyH_take (i := 11) (v := undef) rfl (by kernel_rfl) (by kernel_rfl) (by kernel_rfl) (fun _ _ _ h => h) (Or.inr ⟨by rfl, rfl⟩) (by assumption) ?_
  try simp only [Act.put, List.setIfInBounds_toArray, List.set_cons_zero, List.set_cons_succ]
  change wpAnyH _ _ _ _ _ _ _ { tmps := #[(.agg #[.int .i64 k, .int .i64 p]), (.agg #[.int .i64 x, .int .i64 y]), (.pointer (some ⟨w.heap.size, 0, none⟩)), (.pointer (some ⟨w.heap.size + 1, 0, none⟩)), .bool false, (.pointer (some ⟨w.heap.size + 1, 0, none⟩)), (.int .i64 x), (.bool true), (.bool true), (.pointer (some ⟨w.heap.size + 1, 0, none⟩)), (.int .i64 x), (.agg #[.int .i64 k, .int .i64 p]), (.int .i64 (p - s + m)), (.bool false), (.bool false), (.bool false), undef, undef, undef, undef, undef, undef, undef, undef, undef, undef, undef], defers := [] } _
  refine wpAnyH_take (i := 12) (v := undef) rfl (by kernel_rfl) (by kernel_rfl) (by kernel_rfl) (fun _ _ _ h => h) (Or.inr ⟨by rfl, rfl⟩) (by assumption) ?_
  try simp only [Act.put, List.setIfInBounds_toArray, List.set_cons_zero, List.set_cons_succ]
  change wpAnyH _ _ _ _ _ _ _ { tmps := #[(.agg #[.int .i64 k, .int .i64 p]), (.agg #[.int .i64 x, .int .i64 y]), (.pointer (some ⟨w.heap.size, 0, none⟩)), (.pointer (some ⟨w.heap.size + 1, 0, none⟩)), .bool false, (.pointer (some ⟨w.heap.size + 1, 0, none⟩)), (.int .i64 x), (.bool true), (.bool true), (.pointer (some ⟨w.heap.size + 1, 0, none⟩)), (.int .i64 x), (.agg #[.int .i64 k, .int .i64 p]), (.int .i64 (p - s + m)), (.bool false), (.bool false), (.bool false), undef, undef, undef, undef, undef, undef, undef, undef, undef, undef, undef], defers := [] } _
  refine wpAnyH_take (i := 13) (v := undef) rfl (by kernel_rfl) (by kernel_rfl) (by kernel_rfl) (fun _ _ _ h => h) (Or.inr ⟨by rfl, rfl⟩) (by assumption) ?_
  try simp only [Act.put, List.setIfInBounds_toArray, List.set_cons_zero, List.set_cons_succ]
  change wpAnyH _ _ _ _ _ _ _ { tmps := #[(.agg #[.int .i64 k, .int .i64 p]), (.agg #[.int .i64 x, .int .i64 y]), (.pointer (some ⟨w.heap.size, 0, none⟩)), (.pointer (some ⟨w.heap.size + 1, 0, none⟩)), .bool false, (.pointer (some ⟨w.heap.size + 1, 0, none⟩)), (.int .i64 x), (.bool true), (.bool true), (.pointer (some ⟨w.heap.size + 1, 0, none⟩)), (.int .i64 x), (.agg #[.int .i64 k, .int .i64 p]), (.int .i64 (p - s + m)), (.bool false), (.bool false), (.bool false), undef, undef, undef, undef, undef, undef, undef, undef, undef, undef, undef], defers := [] } _
  refine wpAnyH_take (i := 14) (v := (.bool false)) rfl (by kernel_rfl) (by kernel_rfl) (by kernel_rfl) (fun _ _ _ h => h) (Or.inl ⟨by rfl, fun w hS => by obtain ⟨h0, h1, h2, h3⟩ := hS; go_simp⟩) (by assumption) ?_
  try simp only [Act.put, List.setIfInBounds_toArray, List.set_cons_zero, List.set_cons_succ]
  change wpAnyH _ _ _ _ _ _ _ { tmps := #[(.agg #[.int .i64 k, .int .i64 p]), (.agg #[.int .i64 x, .int .i64 y]), (.pointer (some ⟨w.heap.size, 0, none⟩)), (.pointer (some ⟨w.heap.size + 1, 0, none⟩)), .bool false, (.pointer (some ⟨w.heap.size + 1, 0, none⟩)), (.int .i64 x), (.bool true), (.bool true), (.pointer (some ⟨w.heap.size + 1, 0, none⟩)), (.int .i64 x), (.agg #[.int .i64 k, .int .i64 p]), (.int .i64 (p - s + m)), (.bool false), (.bool false), (.bool false), undef, undef, undef, (.bool false), undef, undef, undef, undef, undef, undef, undef], defers := [] } _
  refine wpAnyH_take (i := 15) (v := (.bool false)) rfl (by kernel_rfl) (by kernel_rfl) (by kernel_rfl) (fun _ _ _ h => h) (Or.inl ⟨by rfl, fun w hS => by obtain ⟨h0, h1, h2, h3⟩ := hS; go_simp⟩) (by assumption) ?_
  try simp only [Act.put, List.setIfInBounds_toArray, List.set_cons_zero, List.set_cons_succ]
  change wpAnyH _ _ _ _ _ _ _ { tmps := #[(.agg #[.int .i64 k, .int .i64 p]), (.agg #[.int .i64 x, .int .i64 y]), (.pointer (some ⟨w.heap.size, 0, none⟩)), (.pointer (some ⟨w.heap.size + 1, 0, none⟩)), .bool false, (.pointer (some ⟨w.heap.size + 1, 0, none⟩)), (.int .i64 x), (.bool true), (.bool true), (.pointer (some ⟨w.heap.size + 1, 0, none⟩)), (.int .i64 x), (.agg #[.int .i64 k, .int .i64 p]), (.int .i64 (p - s + m)), (.bool false), (.bool false), (.bool false), undef, undef, undef, (.bool false), (.bool false), undef, undef, undef, undef, undef, undef], defers := [] } _
  refine wpAnyH_take (i := 16) (v := undef) rfl (by kernel_rfl) (by kernel_rfl) (by kernel_rfl) (fun _ _ _ h => h) (Or.inr ⟨by rfl, rfl⟩) (by assumption) ?_
  try simp only [Act.put, List.setIfInBounds_toArray, List.set_cons_zero, List.set_cons_succ]
  change wpAnyH _ _ _ _ _ _ _ { tmps := #[(.agg #[.int .i64 k, .int .i64 p]), (.agg #[.int .i64 x, .int .i64 y]), (.pointer (some ⟨w.heap.size, 0, none⟩)), (.pointer (some ⟨w.heap.size + 1, 0, none⟩)), .bool false, (.pointer (some ⟨w.heap.size + 1, 0, none⟩)), (.int .i64 x), (.bool true), (.bool true), (.pointer (some ⟨w.heap.size + 1, 0, none⟩)), (.int .i64 x), (.agg #[.int .i64 k, .int .i64 p]), (.int .i64 (p - s + m)), (.bool false), (.bool false), (.bool false), undef, undef, undef, (.bool false), (.bool false), undef, undef, undef, undef, undef, undef], defers := [] } _
  refine wpAnyH_take (i := 17) (v := undef) rfl (by kernel_rfl) (by kernel_rfl) (by kernel_rfl) (fun _ _ _ h => h) (Or.inr ⟨by rfl, rfl⟩) (by assumption) ?_
  try simp only [Act.put, List.setIfInBounds_toArray, List.set_cons_zero, List.set_cons_succ]
  change wpAnyH _ _ _ _ _ _ _ { tmps := #[(.agg #[.int .i64 k, .int .i64 p]), (.agg #[.int .i64 x, .int .i64 y]), (.pointer (some ⟨w.heap.size, 0, none⟩)), (.pointer (some ⟨w.heap.size + 1, 0, none⟩)), .bool false, (.pointer (some ⟨w.heap.size + 1, 0, none⟩)), (.int .i64 x), (.bool true), (.bool true), (.pointer (some ⟨w.heap.size + 1, 0, none⟩)), (.int .i64 x), (.agg #[.int .i64 k, .int .i64 p]), (.int .i64 (p - s + m)), (.bool false), (.bool false), (.bool false), undef, undef, undef, (.bool false), (.bool false), undef, undef, undef, undef, undef, undef], defers := [] } _
  refine wpAnyH_take (i := 18) (v := undef) rfl (by kernel_rfl) (by kernel_rfl) (by kernel_rfl) (fun _ _ _ h => h) (Or.inr ⟨by rfl, rfl⟩) (by assumption) ?_
  try simp only [Act.put, List.setIfInBounds_toArray, List.set_cons_zero, List.set_cons_succ]
  change wpAnyH _ _ _ _ _ _ _ { tmps := #[(.agg #[.int .i64 k, .int .i64 p]), (.agg #[.int .i64 x, .int .i64 y]), (.pointer (some ⟨w.heap.size, 0, none⟩)), (.pointer (some ⟨w.heap.size + 1, 0, none⟩)), .bool false, (.pointer (some ⟨w.heap.size + 1, 0, none⟩)), (.int .i64 x), (.bool true), (.bool true), (.pointer (some ⟨w.heap.size + 1, 0, none⟩)), (.int .i64 x), (.agg #[.int .i64 k, .int .i64 p]), (.int .i64 (p - s + m)), (.bool false), (.bool false), (.bool false), undef, undef, undef, (.bool false), (.bool false), undef, undef, undef, undef, undef, undef], defers := [] } _
  refine wpAnyH_take (i := 19) (v := undef) rfl (by kernel_rfl) (by kernel_rfl) (by kernel_rfl) (fun _ _ _ h => h) (Or.inr ⟨by rfl, rfl⟩) (by assumption) ?_
  try simp only [Act.put, List.setIfInBounds_toArray, List.set_cons_zero, List.set_cons_succ]
  change wpAnyH _ _ _ _ _ _ _ { tmps := #[(.agg #[.int .i64 k, .int .i64 p]), (.agg #[.int .i64 x, .int .i64 y]), (.pointer (some ⟨w.heap.size, 0, none⟩)), (.pointer (some ⟨w.heap.size + 1, 0, none⟩)), .bool false, (.pointer (some ⟨w.heap.size + 1, 0, none⟩)), (.int .i64 x), (.bool true), (.bool true), (.pointer (some ⟨w.heap.size + 1, 0, none⟩)), (.int .i64 x), (.agg #[.int .i64 k, .int .i64 p]), (.int .i64 (p - s + m)), (.bool false), (.bool false), (.bool false), undef, undef, undef, (.bool false), (.bool false), undef, undef, undef, undef, undef, undef], defers := [] } _
  refine wpAnyH_take (i := 20) (v := undef) rfl (by kernel_rfl) (by kernel_rfl) (by kernel_rfl) (fun _ _ _ h => h) (Or.inr ⟨by rfl, rfl⟩) (by assumption) ?_
  try simp only [Act.put, List.setIfInBounds_toArray, List.set_cons_zero, List.set_cons_succ]
  change wpAnyH _ _ _ _ _ _ _ { tmps := #[(.agg #[.int .i64 k, .int .i64 p]), (.agg #[.int .i64 x, .int .i64 y]), (.pointer (some ⟨w.heap.size, 0, none⟩)), (.pointer (some ⟨w.heap.size + 1, 0, none⟩)), .bool false, (.pointer (some ⟨w.heap.size + 1, 0, none⟩)), (.int .i64 x), (.bool true), (.bool true), (.pointer (some ⟨w.heap.size + 1, 0, none⟩)), (.int .i64 x), (.agg #[.int .i64 k, .int .i64 p]), (.int .i64 (p - s + m)), (.bool false), (.bool false), (.bool false), undef, undef, undef, (.bool false), (.bool false), undef, undef, undef, undef, undef, undef], defers := [] } _
  refine wpAnyH_take (i := 21) (v := (.bool false)) rfl (by kernel_rfl) (by kernel_rfl) (by kernel_rfl) (fun _ _ _ h => h) (Or.inl ⟨by rfl, fun w hS => by obtain ⟨h0, h1, h2, h3⟩ := hS; go_simp⟩) (by assumption) ?_
  try simp only [Act.put, List.setIfInBounds_toArray, List.set_cons_zero, List.set_cons_succ]
  change wpAnyH _ _ _ _ _ _ _ { tmps := #[(.agg #[.int .i64 k, .int .i64 p]), (.agg #[.int .i64 x, .int .i64 y]), (.pointer (some ⟨w.heap.size, 0, none⟩)), (.pointer (some ⟨w.heap.size + 1, 0, none⟩)), .bool false, (.pointer (some ⟨w.heap.size + 1, 0, none⟩)), (.int .i64 x), (.bool true), (.bool true), (.pointer (some ⟨w.heap.size + 1, 0, none⟩)), (.int .i64 x), (.agg #[.int .i64 k, .int .i64 p]), (.int .i64 (p - s + m)), (.bool false), (.bool false), (.bool false), undef, undef, undef, (.bool false), (.bool false), undef, undef, undef, undef, undef, (.bool false)], defers := [] } _
  refine wpAnyH_take (i := 22) (v := (.bool false)) rfl (by kernel_rfl) (by kernel_rfl) (by kernel_rfl) (fun _ _ _ h => h) (Or.inl ⟨by rfl, fun w hS => by obtain ⟨h0, h1, h2, h3⟩ := hS; go_simp⟩) (by assumption) ?_
  try simp only [Act.put, List.setIfInBounds_toArray, List.set_cons_zero, List.set_cons_succ]
  change wpAnyH _ _ _ _ _ _ _ { tmps := #[(.agg #[.int .i64 k, .int .i64 p]), (.agg #[.int .i64 x, .int .i64 y]), (.pointer (some ⟨w.heap.size, 0, none⟩)), (.pointer (some ⟨w.heap.size + 1, 0, none⟩)), .bool false, (.pointer (some ⟨w.heap.size + 1, 0, none⟩)), (.int .i64 x), (.bool true), (.bool true), (.pointer (some ⟨w.heap.size + 1, 0, none⟩)), (.int .i64 x), (.agg #[.int .i64 k, .int .i64 p]), (.int .i64 (p - s + m)), (.bool false), (.bool false), (.bool false), undef, undef, undef, (.bool false), (.bool false), undef, undef, undef, undef, undef, (.bool false)], defers := [] } _
  refine wpAnyH_done (by kernel_rfl) ?_ _
  all_goals go_wp2
  all_goals go_ret
  all_goals exact ⟨rfl, hB⟩

set_option maxRecDepth 100000 in
set_option maxHeartbeats 2000000 in
theorem refThereC (k p x y : Int) (hR : RightC k p) (h : 0 ≤ x ∧ x < p - shortN k + madeN k) (hy : y < 0) (w : World) : Calls Tryz.prog 36 #[(.agg #[.int .i64 k, .int .i64 p]), (.agg #[.int .i64 x, .int .i64 y])] w fun e w' => e = .returned (.bool false) ∧ Below w.heap.size w w' := by
  obtain ⟨p1, p2, s1, s2, m1, m2⟩ := hR.und
  have HC := Lib.hid (fun W => refCols_any k p hR W)
  have HRo := Lib.hid (fun W => refRows_any k p hR W)
  clear hR
  generalize shortN k = s at * 
  generalize madeN k = m at * 
  obtain ⟨h0, h1⟩ := h
  have d : decide (0 ≤ x) = true := by simp; omega
  have d2 : decide (x < p - s + m) = true := decide_eq_true h1
  have d3 : decide (0 ≤ y) = false := by simp; omega
  go_enter Tryz.func36, Tryz.ntmps36
  go_wp2
  obtain ⟨W0, hW0⟩ : ∃ W0, (w.alloc (.cells #[.int .i64 k, .int .i64 p] 37)).alloc (.cells #[.int .i64 x, .int .i64 y] 56) = W0 := ⟨_, rfl⟩
  have b0 : Blk W0 w.heap.size 37 #[.int .i64 k, .int .i64 p] := by rw [← hW0]; exact (Blk.new w _ _).alloc _
  have b1 : Blk W0 (w.heap.size + 1) 56 #[.int .i64 x, .int .i64 y] := by rw [← hW0]; exact Blk.second w _ _ _
  have hB : Below w.heap.size w W0 := by rw [← hW0]; exact below_two w _ _
  rw [hW0]
  clear hW0
  have c0 := b0.cell 0
  have c1 := b0.cell 1
  have a0 := b1.cell 0
  have a1 := b1.cell 1
  simp only [List.getElem?_toArray, List.getElem?_cons_zero, List.getElem?_cons_succ] at c0 c1 a0 a1
  refine wp_region_held_drew (S := fun W => W.cell? ⟨w.heap.size, 0, none⟩ = some (.int .i64 k) ∧ W.cell? ⟨w.heap.size, 1, none⟩ = some (.int .i64 p) ∧ W.cell? ⟨w.heap.size + 1, 0, none⟩ = some (.int .i64 x) ∧ W.cell? ⟨w.heap.size + 1, 1, none⟩ = some (.int .i64 y)) (by kernel_rfl) ⟨c0, c1, a0, a1⟩ (fun hS => ?_)
  refine wpAnyH_take (i := 0) (v := (.pointer (some ⟨w.heap.size + 1, 0, none⟩))) rfl (by kernel_rfl) (by kernel_rfl) (by kernel_rfl) (fun _ _ _ h => h) (Or.inl ⟨by rfl, fun w hS => by obtain ⟨h0, h1, h2, h3⟩ := hS; go_simp⟩) (by assumption) ?_
  try simp only [Act.put, List.setIfInBounds_toArray, List.set_cons_zero, List.set_cons_succ]
  change wpAnyH _ _ _ _ _ _ _ { tmps := #[(.agg #[.int .i64 k, .int .i64 p]), (.agg #[.int .i64 x, .int .i64 y]), (.pointer (some ⟨w.heap.size, 0, none⟩)), (.pointer (some ⟨w.heap.size + 1, 0, none⟩)), .bool false, (.pointer (some ⟨w.heap.size + 1, 0, none⟩)), undef, undef, undef, undef, undef, undef, undef, undef, undef, undef, undef, undef, undef, undef, undef, undef, undef, undef, undef, undef, undef], defers := [] } _
  refine wpAnyH_take (i := 1) (v := (.int .i64 x)) rfl (by kernel_rfl) (by kernel_rfl) (by kernel_rfl) (fun _ _ _ h => h) (Or.inl ⟨by rfl, fun w hS => by obtain ⟨h0, h1, h2, h3⟩ := hS; go_simp⟩) (by assumption) ?_
  try simp only [Act.put, List.setIfInBounds_toArray, List.set_cons_zero, List.set_cons_succ]
  change wpAnyH _ _ _ _ _ _ _ { tmps := #[(.agg #[.int .i64 k, .int .i64 p]), (.agg #[.int .i64 x, .int .i64 y]), (.pointer (some ⟨w.heap.size, 0, none⟩)), (.pointer (some ⟨w.heap.size + 1, 0, none⟩)), .bool false, (.pointer (some ⟨w.heap.size + 1, 0, none⟩)), (.int .i64 x), undef, undef, undef, undef, undef, undef, undef, undef, undef, undef, undef, undef, undef, undef, undef, undef, undef, undef, undef, undef], defers := [] } _
  refine wpAnyH_take (i := 2) (v := (.bool true)) rfl (by kernel_rfl) (by kernel_rfl) (by kernel_rfl) (fun _ _ _ h => h) (Or.inl ⟨by rfl, fun w hS => by obtain ⟨h0, h1, h2, h3⟩ := hS; go_simp⟩) (by assumption) ?_
  try simp only [Act.put, List.setIfInBounds_toArray, List.set_cons_zero, List.set_cons_succ]
  change wpAnyH _ _ _ _ _ _ _ { tmps := #[(.agg #[.int .i64 k, .int .i64 p]), (.agg #[.int .i64 x, .int .i64 y]), (.pointer (some ⟨w.heap.size, 0, none⟩)), (.pointer (some ⟨w.heap.size + 1, 0, none⟩)), .bool false, (.pointer (some ⟨w.heap.size + 1, 0, none⟩)), (.int .i64 x), (.bool true), undef, undef, undef, undef, undef, undef, undef, undef, undef, undef, undef, undef, undef, undef, undef, undef, undef, undef, undef], defers := [] } _
  refine wpAnyH_take (i := 3) (v := (.bool true)) rfl (by kernel_rfl) (by kernel_rfl) (by kernel_rfl) (fun _ _ _ h => h) (Or.inl ⟨by rfl, fun w hS => by obtain ⟨h0, h1, h2, h3⟩ := hS; go_simp⟩) (by assumption) ?_
  try simp only [Act.put, List.setIfInBounds_toArray, List.set_cons_zero, List.set_cons_succ]
  change wpAnyH _ _ _ _ _ _ _ { tmps := #[(.agg #[.int .i64 k, .int .i64 p]), (.agg #[.int .i64 x, .int .i64 y]), (.pointer (some ⟨w.heap.size, 0, none⟩)), (.pointer (some ⟨w.heap.size + 1, 0, none⟩)), .bool false, (.pointer (some ⟨w.heap.size + 1, 0, none⟩)), (.int .i64 x), (.bool true), (.bool true), undef, undef, undef, undef, undef, undef, undef, undef, undef, undef, undef, undef, undef, undef, undef, undef, undef, undef], defers := [] } _
  refine wpAnyH_take (i := 4) (v := (.pointer (some ⟨w.heap.size + 1, 0, none⟩))) rfl (by kernel_rfl) (by kernel_rfl) (by kernel_rfl) (fun _ _ _ h => h) (Or.inl ⟨by rfl, fun w hS => by obtain ⟨h0, h1, h2, h3⟩ := hS; go_simp⟩) (by assumption) ?_
  try simp only [Act.put, List.setIfInBounds_toArray, List.set_cons_zero, List.set_cons_succ]
  change wpAnyH _ _ _ _ _ _ _ { tmps := #[(.agg #[.int .i64 k, .int .i64 p]), (.agg #[.int .i64 x, .int .i64 y]), (.pointer (some ⟨w.heap.size, 0, none⟩)), (.pointer (some ⟨w.heap.size + 1, 0, none⟩)), .bool false, (.pointer (some ⟨w.heap.size + 1, 0, none⟩)), (.int .i64 x), (.bool true), (.bool true), (.pointer (some ⟨w.heap.size + 1, 0, none⟩)), undef, undef, undef, undef, undef, undef, undef, undef, undef, undef, undef, undef, undef, undef, undef, undef, undef], defers := [] } _
  refine wpAnyH_take (i := 5) (v := (.int .i64 x)) rfl (by kernel_rfl) (by kernel_rfl) (by kernel_rfl) (fun _ _ _ h => h) (Or.inl ⟨by rfl, fun w hS => by obtain ⟨h0, h1, h2, h3⟩ := hS; go_simp⟩) (by assumption) ?_
  try simp only [Act.put, List.setIfInBounds_toArray, List.set_cons_zero, List.set_cons_succ]
  change wpAnyH _ _ _ _ _ _ _ { tmps := #[(.agg #[.int .i64 k, .int .i64 p]), (.agg #[.int .i64 x, .int .i64 y]), (.pointer (some ⟨w.heap.size, 0, none⟩)), (.pointer (some ⟨w.heap.size + 1, 0, none⟩)), .bool false, (.pointer (some ⟨w.heap.size + 1, 0, none⟩)), (.int .i64 x), (.bool true), (.bool true), (.pointer (some ⟨w.heap.size + 1, 0, none⟩)), (.int .i64 x), undef, undef, undef, undef, undef, undef, undef, undef, undef, undef, undef, undef, undef, undef, undef, undef], defers := [] } _
  refine wpAnyH_take (i := 6) (v := (.agg #[.int .i64 k, .int .i64 p])) rfl (by kernel_rfl) (by kernel_rfl) (by kernel_rfl) (fun _ _ _ h => h) (Or.inl ⟨by rfl, fun w hS => by obtain ⟨h0, h1, h2, h3⟩ := hS; go_simp⟩) (by assumption) ?_
  try simp only [Act.put, List.setIfInBounds_toArray, List.set_cons_zero, List.set_cons_succ]
  change wpAnyH _ _ _ _ _ _ _ { tmps := #[(.agg #[.int .i64 k, .int .i64 p]), (.agg #[.int .i64 x, .int .i64 y]), (.pointer (some ⟨w.heap.size, 0, none⟩)), (.pointer (some ⟨w.heap.size + 1, 0, none⟩)), .bool false, (.pointer (some ⟨w.heap.size + 1, 0, none⟩)), (.int .i64 x), (.bool true), (.bool true), (.pointer (some ⟨w.heap.size + 1, 0, none⟩)), (.int .i64 x), (.agg #[.int .i64 k, .int .i64 p]), undef, undef, undef, undef, undef, undef, undef, undef, undef, undef, undef, undef, undef, undef, undef], defers := [] } _
  refine wpAnyH_ready (rs := [7]) (by kernel_rfl) (by simp) ?_
  refine AllReadyH.cons rfl (fun K hK => ?_) AllReadyH.nil
  rw [if_pos (by rfl)]
  go_simp
  (go_at_call 54; refine (HC.out _).mono ?_; rintro e w1 ⟨rfl, hB1⟩; (first | replace b0 := b0.below hB1 b0.lt | replace b0 := b0.nextd hB1); (first | replace b1 := b1.below hB1 b1.lt | replace b1 := b1.nextd hB1); (first | replace hB := below_in hB hB1 | replace hB := below_in hB.drew hB1))
  refine hK.out _ _ (by exact ⟨b0.cell 0, b0.cell 1, b1.cell 0, b1.cell 1⟩) (fun _ => ?_)
  clear hK K
  try simp only [Act.put, List.setIfInBounds_toArray, List.set_cons_zero, List.set_cons_succ]
  change wpAnyH _ _ _ _ _ _ _ { tmps := #[(.agg #[.int .i64 k, .int .i64 p]), (.agg #[.int .i64 x, .int .i64 y]), (.pointer (some ⟨w.heap.size, 0, none⟩)), (.pointer (some ⟨w.heap.size + 1, 0, none⟩)), .bool false, (.pointer (some ⟨w.heap.size + 1, 0, none⟩)), (.int .i64 x), (.bool true), (.bool true), (.pointer (some ⟨w.heap.size + 1, 0, none⟩)), (.int .i64 x), (.agg #[.int .i64 k, .int .i64 p]), (.int .i64 (p - s + m)), undef, undef, undef, undef, undef, undef, undef, undef, undef, undef, undef, undef, undef, undef], defers := [] } _
  refine wpAnyH_take (i := 8) (v := (.bool true)) rfl (by kernel_rfl) (by kernel_rfl) (by kernel_rfl) (fun _ _ _ h => h) (Or.inl ⟨by rfl, fun w hS => by obtain ⟨h0, h1, h2, h3⟩ := hS; go_simp⟩) (by assumption) ?_
  try simp only [Act.put, List.setIfInBounds_toArray, List.set_cons_zero, List.set_cons_succ]
  change wpAnyH _ _ _ _ _ _ _ { tmps := #[(.agg #[.int .i64 k, .int .i64 p]), (.agg #[.int .i64 x, .int .i64 y]), (.pointer (some ⟨w.heap.size, 0, none⟩)), (.pointer (some ⟨w.heap.size + 1, 0, none⟩)), .bool false, (.pointer (some ⟨w.heap.size + 1, 0, none⟩)), (.int .i64 x), (.bool true), (.bool true), (.pointer (some ⟨w.heap.size + 1, 0, none⟩)), (.int .i64 x), (.agg #[.int .i64 k, .int .i64 p]), (.int .i64 (p - s + m)), (.bool true), undef, undef, undef, undef, undef, undef, undef, undef, undef, undef, undef, undef, undef], defers := [] } _
  refine wpAnyH_take (i := 9) (v := (.bool true)) rfl (by kernel_rfl) (by kernel_rfl) (by kernel_rfl) (fun _ _ _ h => h) (Or.inl ⟨by rfl, fun w hS => by obtain ⟨h0, h1, h2, h3⟩ := hS; go_simp⟩) (by assumption) ?_
  try simp only [Act.put, List.setIfInBounds_toArray, List.set_cons_zero, List.set_cons_succ]
  change wpAnyH _ _ _ _ _ _ _ { tmps := #[(.agg #[.int .i64 k, .int .i64 p]), (.agg #[.int .i64 x, .int .i64 y]), (.pointer (some ⟨w.heap.size, 0, none⟩)), (.pointer (some ⟨w.heap.size + 1, 0, none⟩)), .bool false, (.pointer (some ⟨w.heap.size + 1, 0, none⟩)), (.int .i64 x), (.bool true), (.bool true), (.pointer (some ⟨w.heap.size + 1, 0, none⟩)), (.int .i64 x), (.agg #[.int .i64 k, .int .i64 p]), (.int .i64 (p - s + m)), (.bool true), (.bool true), undef, undef, undef, undef, undef, undef, undef, undef, undef, undef, undef, undef], defers := [] } _
  refine wpAnyH_take (i := 10) (v := (.bool true)) rfl (by kernel_rfl) (by kernel_rfl) (by kernel_rfl) (fun _ _ _ h => h) (Or.inl ⟨by rfl, fun w hS => by obtain ⟨h0, h1, h2, h3⟩ := hS; go_simp⟩) (by assumption) ?_
  try simp only [Act.put, List.setIfInBounds_toArray, List.set_cons_zero, List.set_cons_succ]
  change wpAnyH _ _ _ _ _ _ _ { tmps := #[(.agg #[.int .i64 k, .int .i64 p]), (.agg #[.int .i64 x, .int .i64 y]), (.pointer (some ⟨w.heap.size, 0, none⟩)), (.pointer (some ⟨w.heap.size + 1, 0, none⟩)), .bool false, (.pointer (some ⟨w.heap.size + 1, 0, none⟩)), (.int .i64 x), (.bool true), (.bool true), (.pointer (some ⟨w.heap.size + 1, 0, none⟩)), (.int .i64 x), (.agg #[.int .i64 k, .int .i64 p]), (.int .i64 (p - s + m)), (.bool true), (.bool true), (.bool true), undef, undef, undef, undef, undef, undef, undef, undef, undef, undef, undef], defers := [] } _
  refine wpAnyH_take (i := 11) (v := (.pointer (some ⟨w.heap.size + 1, 1, none⟩))) rfl (by kernel_rfl) (by kernel_rfl) (by kernel_rfl) (fun _ _ _ h => h) (Or.inl ⟨by rfl, fun w hS => by obtain ⟨h0, h1, h2, h3⟩ := hS; go_simp⟩) (by assumption) ?_
  try simp only [Act.put, List.setIfInBounds_toArray, List.set_cons_zero, List.set_cons_succ]
  change wpAnyH _ _ _ _ _ _ _ { tmps := #[(.agg #[.int .i64 k, .int .i64 p]), (.agg #[.int .i64 x, .int .i64 y]), (.pointer (some ⟨w.heap.size, 0, none⟩)), (.pointer (some ⟨w.heap.size + 1, 0, none⟩)), .bool false, (.pointer (some ⟨w.heap.size + 1, 0, none⟩)), (.int .i64 x), (.bool true), (.bool true), (.pointer (some ⟨w.heap.size + 1, 0, none⟩)), (.int .i64 x), (.agg #[.int .i64 k, .int .i64 p]), (.int .i64 (p - s + m)), (.bool true), (.bool true), (.bool true), (.pointer (some ⟨w.heap.size + 1, 1, none⟩)), undef, undef, undef, undef, undef, undef, undef, undef, undef, undef], defers := [] } _
  refine wpAnyH_take (i := 12) (v := (.int .i64 y)) rfl (by kernel_rfl) (by kernel_rfl) (by kernel_rfl) (fun _ _ _ h => h) (Or.inl ⟨by rfl, fun w hS => by obtain ⟨h0, h1, h2, h3⟩ := hS; go_simp⟩) (by assumption) ?_
  try simp only [Act.put, List.setIfInBounds_toArray, List.set_cons_zero, List.set_cons_succ]
  change wpAnyH _ _ _ _ _ _ _ { tmps := #[(.agg #[.int .i64 k, .int .i64 p]), (.agg #[.int .i64 x, .int .i64 y]), (.pointer (some ⟨w.heap.size, 0, none⟩)), (.pointer (some ⟨w.heap.size + 1, 0, none⟩)), .bool false, (.pointer (some ⟨w.heap.size + 1, 0, none⟩)), (.int .i64 x), (.bool true), (.bool true), (.pointer (some ⟨w.heap.size + 1, 0, none⟩)), (.int .i64 x), (.agg #[.int .i64 k, .int .i64 p]), (.int .i64 (p - s + m)), (.bool true), (.bool true), (.bool true), (.pointer (some ⟨w.heap.size + 1, 1, none⟩)), (.int .i64 y), undef, undef, undef, undef, undef, undef, undef, undef, undef], defers := [] } _
  refine wpAnyH_take (i := 13) (v := (.bool false)) rfl (by kernel_rfl) (by kernel_rfl) (by kernel_rfl) (fun _ _ _ h => h) (Or.inl ⟨by rfl, fun w hS => by obtain ⟨h0, h1, h2, h3⟩ := hS; go_simp⟩) (by assumption) ?_
  try simp only [Act.put, List.setIfInBounds_toArray, List.set_cons_zero, List.set_cons_succ]
  change wpAnyH _ _ _ _ _ _ _ { tmps := #[(.agg #[.int .i64 k, .int .i64 p]), (.agg #[.int .i64 x, .int .i64 y]), (.pointer (some ⟨w.heap.size, 0, none⟩)), (.pointer (some ⟨w.heap.size + 1, 0, none⟩)), .bool false, (.pointer (some ⟨w.heap.size + 1, 0, none⟩)), (.int .i64 x), (.bool true), (.bool true), (.pointer (some ⟨w.heap.size + 1, 0, none⟩)), (.int .i64 x), (.agg #[.int .i64 k, .int .i64 p]), (.int .i64 (p - s + m)), (.bool true), (.bool true), (.bool true), (.pointer (some ⟨w.heap.size + 1, 1, none⟩)), (.int .i64 y), (.bool false), undef, undef, undef, undef, undef, undef, undef, undef], defers := [] } _
  refine wpAnyH_take (i := 14) (v := (.bool false)) rfl (by kernel_rfl) (by kernel_rfl) (by kernel_rfl) (fun _ _ _ h => h) (Or.inl ⟨by rfl, fun w hS => by obtain ⟨h0, h1, h2, h3⟩ := hS; go_simp⟩) (by assumption) ?_
  try simp only [Act.put, List.setIfInBounds_toArray, List.set_cons_zero, List.set_cons_succ]
  change wpAnyH _ _ _ _ _ _ _ { tmps := #[(.agg #[.int .i64 k, .int .i64 p]), (.agg #[.int .i64 x, .int .i64 y]), (.pointer (some ⟨w.heap.size, 0, none⟩)), (.pointer (some ⟨w.heap.size + 1, 0, none⟩)), .bool false, (.pointer (some ⟨w.heap.size + 1, 0, none⟩)), (.int .i64 x), (.bool true), (.bool true), (.pointer (some ⟨w.heap.size + 1, 0, none⟩)), (.int .i64 x), (.agg #[.int .i64 k, .int .i64 p]), (.int .i64 (p - s + m)), (.bool true), (.bool true), (.bool true), (.pointer (some ⟨w.heap.size + 1, 1, none⟩)), (.int .i64 y), (.bool false), (.bool false), undef, undef, undef, undef, undef, undef, undef], defers := [] } _
  refine wpAnyH_take (i := 15) (v := (.bool false)) rfl (by kernel_rfl) (by kernel_rfl) (by kernel_rfl) (fun _ _ _ h => h) (Or.inl ⟨by rfl, fun w hS => by obtain ⟨h0, h1, h2, h3⟩ := hS; go_simp⟩) (by assumption) ?_
  try simp only [Act.put, List.setIfInBounds_toArray, List.set_cons_zero, List.set_cons_succ]
  change wpAnyH _ _ _ _ _ _ _ { tmps := #[(.agg #[.int .i64 k, .int .i64 p]), (.agg #[.int .i64 x, .int .i64 y]), (.pointer (some ⟨w.heap.size, 0, none⟩)), (.pointer (some ⟨w.heap.size + 1, 0, none⟩)), .bool false, (.pointer (some ⟨w.heap.size + 1, 0, none⟩)), (.int .i64 x), (.bool true), (.bool true), (.pointer (some ⟨w.heap.size + 1, 0, none⟩)), (.int .i64 x), (.agg #[.int .i64 k, .int .i64 p]), (.int .i64 (p - s + m)), (.bool true), (.bool true), (.bool true), (.pointer (some ⟨w.heap.size + 1, 1, none⟩)), (.int .i64 y), (.bool false), (.bool false), (.bool false), undef, undef, undef, undef, undef, undef], defers := [] } _
  refine wpAnyH_take (i := 16) (v := undef) rfl (by kernel_rfl) (by kernel_rfl) (by kernel_rfl) (fun _ _ _ h => h) (Or.inr ⟨by rfl, rfl⟩) (by assumption) ?_
  try simp only [Act.put, List.setIfInBounds_toArray, List.set_cons_zero, List.set_cons_succ]
  change wpAnyH _ _ _ _ _ _ _ { tmps := #[(.agg #[.int .i64 k, .int .i64 p]), (.agg #[.int .i64 x, .int .i64 y]), (.pointer (some ⟨w.heap.size, 0, none⟩)), (.pointer (some ⟨w.heap.size + 1, 0, none⟩)), .bool false, (.pointer (some ⟨w.heap.size + 1, 0, none⟩)), (.int .i64 x), (.bool true), (.bool true), (.pointer (some ⟨w.heap.size + 1, 0, none⟩)), (.int .i64 x), (.agg #[.int .i64 k, .int .i64 p]), (.int .i64 (p - s + m)), (.bool true), (.bool true), (.bool true), (.pointer (some ⟨w.heap.size + 1, 1, none⟩)), (.int .i64 y), (.bool false), (.bool false), (.bool false), undef, undef, undef, undef, undef, undef], defers := [] } _
  refine wpAnyH_take (i := 17) (v := undef) rfl (by kernel_rfl) (by kernel_rfl) (by kernel_rfl) (fun _ _ _ h => h) (Or.inr ⟨by rfl, rfl⟩) (by assumption) ?_
  try simp only [Act.put, List.setIfInBounds_toArray, List.set_cons_zero, List.set_cons_succ]
  change wpAnyH _ _ _ _ _ _ _ { tmps := #[(.agg #[.int .i64 k, .int .i64 p]), (.agg #[.int .i64 x, .int .i64 y]), (.pointer (some ⟨w.heap.size, 0, none⟩)), (.pointer (some ⟨w.heap.size + 1, 0, none⟩)), .bool false, (.pointer (some ⟨w.heap.size + 1, 0, none⟩)), (.int .i64 x), (.bool true), (.bool true), (.pointer (some ⟨w.heap.size + 1, 0, none⟩)), (.int .i64 x), (.agg #[.int .i64 k, .int .i64 p]), (.int .i64 (p - s + m)), (.bool true), (.bool true), (.bool true), (.pointer (some ⟨w.heap.size + 1, 1, none⟩)), (.int .i64 y), (.bool false), (.bool false), (.bool false), undef, undef, undef, undef, undef, undef], defers := [] } _
  refine wpAnyH_take (i := 18) (v := undef) rfl (by kernel_rfl) (by kernel_rfl) (by kernel_rfl) (fun _ _ _ h => h) (Or.inr ⟨by rfl, rfl⟩) (by assumption) ?_
  try simp only [Act.put, List.setIfInBounds_toArray, List.set_cons_zero, List.set_cons_succ]
  change wpAnyH _ _ _ _ _ _ _ { tmps := #[(.agg #[.int .i64 k, .int .i64 p]), (.agg #[.int .i64 x, .int .i64 y]), (.pointer (some ⟨w.heap.size, 0, none⟩)), (.pointer (some ⟨w.heap.size + 1, 0, none⟩)), .bool false, (.pointer (some ⟨w.heap.size + 1, 0, none⟩)), (.int .i64 x), (.bool true), (.bool true), (.pointer (some ⟨w.heap.size + 1, 0, none⟩)), (.int .i64 x), (.agg #[.int .i64 k, .int .i64 p]), (.int .i64 (p - s + m)), (.bool true), (.bool true), (.bool true), (.pointer (some ⟨w.heap.size + 1, 1, none⟩)), (.int .i64 y), (.bool false), (.bool false), (.bool false), undef, undef, undef, undef, undef, undef], defers := [] } _
  refine wpAnyH_take (i := 19) (v := undef) rfl (by kernel_rfl) (by kernel_rfl) (by kernel_rfl) (fun _ _ _ h => h) (Or.inr ⟨by rfl, rfl⟩) (by assumption) ?_
  try simp only [Act.put, List.setIfInBounds_toArray, List.set_cons_zero, List.set_cons_succ]
  change wpAnyH _ _ _ _ _ _ _ { tmps := #[(.agg #[.int .i64 k, .int .i64 p]), (.agg #[.int .i64 x, .int .i64 y]), (.pointer (some ⟨w.heap.size, 0, none⟩)), (.pointer (some ⟨w.heap.size + 1, 0, none⟩)), .bool false, (.pointer (some ⟨w.heap.size + 1, 0, none⟩)), (.int .i64 x), (.bool true), (.bool true), (.pointer (some ⟨w.heap.size + 1, 0, none⟩)), (.int .i64 x), (.agg #[.int .i64 k, .int .i64 p]), (.int .i64 (p - s + m)), (.bool true), (.bool true), (.bool true), (.pointer (some ⟨w.heap.size + 1, 1, none⟩)), (.int .i64 y), (.bool false), (.bool false), (.bool false), undef, undef, undef, undef, undef, undef], defers := [] } _
  refine wpAnyH_take (i := 20) (v := undef) rfl (by kernel_rfl) (by kernel_rfl) (by kernel_rfl) (fun _ _ _ h => h) (Or.inr ⟨by rfl, rfl⟩) (by assumption) ?_
  try simp only [Act.put, List.setIfInBounds_toArray, List.set_cons_zero, List.set_cons_succ]
  change wpAnyH _ _ _ _ _ _ _ { tmps := #[(.agg #[.int .i64 k, .int .i64 p]), (.agg #[.int .i64 x, .int .i64 y]), (.pointer (some ⟨w.heap.size, 0, none⟩)), (.pointer (some ⟨w.heap.size + 1, 0, none⟩)), .bool false, (.pointer (some ⟨w.heap.size + 1, 0, none⟩)), (.int .i64 x), (.bool true), (.bool true), (.pointer (some ⟨w.heap.size + 1, 0, none⟩)), (.int .i64 x), (.agg #[.int .i64 k, .int .i64 p]), (.int .i64 (p - s + m)), (.bool true), (.bool true), (.bool true), (.pointer (some ⟨w.heap.size + 1, 1, none⟩)), (.int .i64 y), (.bool false), (.bool false), (.bool false), undef, undef, undef, undef, undef, undef], defers := [] } _
  refine wpAnyH_take (i := 21) (v := (.bool false)) rfl (by kernel_rfl) (by kernel_rfl) (by kernel_rfl) (fun _ _ _ h => h) (Or.inl ⟨by rfl, fun w hS => by obtain ⟨h0, h1, h2, h3⟩ := hS; go_simp⟩) (by assumption) ?_
  try simp only [Act.put, List.setIfInBounds_toArray, List.set_cons_zero, List.set_cons_succ]
  change wpAnyH _ _ _ _ _ _ _ { tmps := #[(.agg #[.int .i64 k, .int .i64 p]), (.agg #[.int .i64 x, .int .i64 y]), (.pointer (some ⟨w.heap.size, 0, none⟩)), (.pointer (some ⟨w.heap.size + 1, 0, none⟩)), .bool false, (.pointer (some ⟨w.heap.size + 1, 0, none⟩)), (.int .i64 x), (.bool true), (.bool true), (.pointer (some ⟨w.heap.size + 1, 0, none⟩)), (.int .i64 x), (.agg #[.int .i64 k, .int .i64 p]), (.int .i64 (p - s + m)), (.bool true), (.bool true), (.bool true), (.pointer (some ⟨w.heap.size + 1, 1, none⟩)), (.int .i64 y), (.bool false), (.bool false), (.bool false), undef, undef, undef, undef, undef, (.bool false)], defers := [] } _
  refine wpAnyH_take (i := 22) (v := (.bool false)) rfl (by kernel_rfl) (by kernel_rfl) (by kernel_rfl) (fun _ _ _ h => h) (Or.inl ⟨by rfl, fun w hS => by obtain ⟨h0, h1, h2, h3⟩ := hS; go_simp⟩) (by assumption) ?_
  try simp only [Act.put, List.setIfInBounds_toArray, List.set_cons_zero, List.set_cons_succ]
  change wpAnyH _ _ _ _ _ _ _ { tmps := #[(.agg #[.int .i64 k, .int .i64 p]), (.agg #[.int .i64 x, .int .i64 y]), (.pointer (some ⟨w.heap.size, 0, none⟩)), (.pointer (some ⟨w.heap.size + 1, 0, none⟩)), .bool false, (.pointer (some ⟨w.heap.size + 1, 0, none⟩)), (.int .i64 x), (.bool true), (.bool true), (.pointer (some ⟨w.heap.size + 1, 0, none⟩)), (.int .i64 x), (.agg #[.int .i64 k, .int .i64 p]), (.int .i64 (p - s + m)), (.bool true), (.bool true), (.bool true), (.pointer (some ⟨w.heap.size + 1, 1, none⟩)), (.int .i64 y), (.bool false), (.bool false), (.bool false), undef, undef, undef, undef, undef, (.bool false)], defers := [] } _
  refine wpAnyH_done (by kernel_rfl) ?_ _
  all_goals go_wp2
  all_goals go_ret
  all_goals exact ⟨rfl, hB⟩

set_option maxRecDepth 100000 in
set_option maxHeartbeats 2000000 in
theorem refThereD (k p x y : Int) (hR : RightC k p) (h : 0 ≤ x ∧ x < p - shortN k + madeN k) (hy : 0 ≤ y) (w : World) : Calls Tryz.prog 36 #[(.agg #[.int .i64 k, .int .i64 p]), (.agg #[.int .i64 x, .int .i64 y])] w fun e w' => e = .returned (.bool (decide (y < p - 1))) ∧ Below w.heap.size w w' := by
  obtain ⟨p1, p2, s1, s2, m1, m2⟩ := hR.und
  have HC := Lib.hid (fun W => refCols_any k p hR W)
  have HRo := Lib.hid (fun W => refRows_any k p hR W)
  clear hR
  generalize shortN k = s at * 
  generalize madeN k = m at * 
  obtain ⟨h0, h1⟩ := h
  have d : decide (0 ≤ x) = true := by simp; omega
  have d2 : decide (x < p - s + m) = true := decide_eq_true h1
  have d3 : decide (0 ≤ y) = true := by simpa using hy
  go_enter Tryz.func36, Tryz.ntmps36
  go_wp2
  obtain ⟨W0, hW0⟩ : ∃ W0, (w.alloc (.cells #[.int .i64 k, .int .i64 p] 37)).alloc (.cells #[.int .i64 x, .int .i64 y] 56) = W0 := ⟨_, rfl⟩
  have b0 : Blk W0 w.heap.size 37 #[.int .i64 k, .int .i64 p] := by rw [← hW0]; exact (Blk.new w _ _).alloc _
  have b1 : Blk W0 (w.heap.size + 1) 56 #[.int .i64 x, .int .i64 y] := by rw [← hW0]; exact Blk.second w _ _ _
  have hB : Below w.heap.size w W0 := by rw [← hW0]; exact below_two w _ _
  rw [hW0]
  clear hW0
  go_region_held3 (fun W => W.cell? ⟨w.heap.size, 0, none⟩ = some (.int .i64 k) ∧ W.cell? ⟨w.heap.size, 1, none⟩ = some (.int .i64 p) ∧ W.cell? ⟨w.heap.size + 1, 0, none⟩ = some (.int .i64 x) ∧ W.cell? ⟨w.heap.size + 1, 1, none⟩ = some (.int .i64 y))
    (exact ⟨b0.cell 0, b0.cell 1, b1.cell 0, b1.cell 1⟩) (first
    | (go_at_call 54; refine (HC.out _).mono ?_; rintro e w1 ⟨rfl, hB1⟩; (first | replace b0 := b0.below hB1 b0.lt | replace b0 := b0.nextd hB1); (first | replace b1 := b1.below hB1 b1.lt | replace b1 := b1.nextd hB1); (first | replace hB := below_in hB hB1 | replace hB := below_in hB.drew hB1))
    | (go_at_call 55; refine (HRo.out _).mono ?_; rintro e w1 ⟨rfl, hB1⟩; (first | replace b0 := b0.below hB1 b0.lt | replace b0 := b0.nextd hB1); (first | replace b1 := b1.below hB1 b1.lt | replace b1 := b1.nextd hB1); (first | replace hB := below_in hB hB1 | replace hB := below_in hB.drew hB1)))
  all_goals go_wp2
  all_goals go_ret
  all_goals exact ⟨rfl, hB⟩

theorem refThere_any (k p x y : Int) (hR : RightC k p) (w : World) : Calls Tryz.prog 36 #[(.agg #[.int .i64 k, .int .i64 p]), (.agg #[.int .i64 x, .int .i64 y])] w fun e w' => (HasCell k p x y → e = .returned (.bool true)) ∧ (¬ HasCell k p x y → e = .returned (.bool false)) ∧ Below w.heap.size w w' := by
  rcases Int.lt_or_le x 0 with h1 | h1
  · exact (refThereA k p x y hR h1 w).mono fun _ _ h => ⟨fun hr => by have := hr.1; omega, fun _ => h.1, h.2⟩
  by_cases h2 : x < p - shortN k + madeN k
  · rcases Int.lt_or_le y 0 with h3 | h3
    · exact (refThereC k p x y hR ⟨h1, h2⟩ h3 w).mono fun _ _ h => ⟨fun hr => by have := hr.2; omega, fun _ => h.1, h.2⟩
    · exact (refThereD k p x y hR ⟨h1, h2⟩ h3 w).mono fun _ _ h => ⟨fun hr => h.1.trans (ret_bool (decide_eq_true hr.2.2)), fun hn => h.1.trans (ret_bool (decide_eq_false fun hp => hn ⟨⟨h1, h2⟩, h3, hp⟩)), h.2⟩
  · exact (refThereB k p x y hR ⟨h1, h2⟩ w).mono fun _ _ h => ⟨fun hr => absurd hr.1.2 h2, fun _ => h.1, h.2⟩

end Go.Proofs.YtggdlklkjnbbjaaGreatDoor

namespace Go.Proofs.YtggdlklkjnbbjaaGreatDoor
open Go.ChangeShapes Go.WideShapes Go.ChangeAt Go.RowKit Go.Shelf

theorem cells_at : Tryz.prog.cellsOf 56 = 2 := by kernel_rfl
set_option maxRecDepth 100000 in
theorem open_at {H : Type} {enc : TypeId × Value → H} {W : World} {base : Nat} {v : Value} {d : DataW H} {p : List MemPlace} (hv : Value.okWide Tryz.prog W .any base 56 v)
    (h : ∃ fuel, DataW.trod enc Tryz.prog W 0 (fun _ => true) true fuel 56 v.cells.toList = some (d, p)) :
    ∃ x y : Int, v = .agg #[.int .i64 x, .int .i64 y] ∧ (Lit.int .i64 x).wf = true ∧ (Lit.int .i64 y).wf = true := by
  obtain ⟨cs, rfl, hsz⟩ := okWide_struct Tryz.underlying56 hv
  rw [cells_at] at hsz
  obtain ⟨l⟩ := cs
  obtain ⟨c0, c1, rfl⟩ := list2 l hsz
  obtain ⟨fuel, hf⟩ := h
  obtain ⟨a, b, rfl, rfl, _, wa, wb⟩ := two_of Tryz.underlying56 rfl rfl rfl Tryz.underlying3 Tryz.underlying3 cells_int cells_int (show DataW.trod enc Tryz.prog W 0 (fun _ => true) true fuel 56 [c0, c1] = some (d, p) from hf)
  exact ⟨a, b, rfl, wa, wb⟩

end Go.Proofs.YtggdlklkjnbbjaaGreatDoor

