/- The law SetsTouched answers true for every input and leaves its arguments as they were. -/
import Derived.Test.YteglikljmkielaaGreatDoorSLawKit
import Derived.Test.YteglikljmkielaaGreatDoorCards
import Derived.Test.YteglikljmkielaaGreatDoorTie
import Derived.SevenTiedAt
import Derived.Test.YteglikljmkielaaGreatDoorZG1
namespace Go.Proofs.YteglikljmkielaaGreatDoor.setsTouched
open Go.ChangeShapes Go.WideShapes Go.ChangeAt Go.RowKit Go.Shelf
set_option linter.unusedVariables false
set_option linter.unusedSimpArgs false
attribute [local go_sem] Oper.semAt_some

set_option maxRecDepth 100000 in
set_option maxHeartbeats 2000000 in
theorem walk_big (k p x y : Int) (w : World) (hL : Laid w) (hp : ¬ p ≤ 11) : Calls Tryz.prog 4 #[.agg #[.int .i64 k, .int .i64 p], .agg #[.int .i64 x, .int .i64 y]] w fun e w' => e = .returned (.bool true) ∧ Below w.heap.size w w' := by
  have hpd : decide (11 < p) = true := decide_eq_true (by omega)
  obtain ⟨W0, hW0⟩ : ∃ W0, (w.alloc (.cells #[.int .i64 k, .int .i64 p] 24)).alloc (.cells #[.int .i64 x, .int .i64 y] 26) = W0 := ⟨_, rfl⟩
  have b0 : Blk W0 w.heap.size 24 #[.int .i64 k, .int .i64 p] := by rw [← hW0]; exact (Blk.new w _ _).alloc _
  have b1 : Blk W0 (w.heap.size + 1) 26 #[.int .i64 x, .int .i64 y] := by rw [← hW0]; exact Blk.second w _ _ _
  have hB : Below w.heap.size w W0 := by rw [← hW0]; exact below_two w _ _
  replace hL := hL.next hB
  have c0 := b0.cell 0; have c1 := b0.cell 1; have a0 := b1.cell 0; have a1 := b1.cell 1; simp only [List.getElem?_toArray, List.getElem?_cons_zero, List.getElem?_cons_succ] at c0 c1 a0 a1
  go_enter Tryz.func4, Tryz.ntmps4
  go_wp2_with fail
  clear hW0
  go_wp2_with (go_at_call 11; refine (works_any _ hL).mono ?_; rintro e w3 ⟨rfl, hB1⟩)
  go_ret
  exact ⟨rfl, below_in hB hB1⟩
set_option maxRecDepth 100000 in
set_option maxHeartbeats 2000000 in
theorem walk_no (k p x y : Int) (w : World) (hL : Laid w) (hR : ¬ RightC k p) (hp : p ≤ 11) : Calls Tryz.prog 4 #[.agg #[.int .i64 k, .int .i64 p], .agg #[.int .i64 x, .int .i64 y]] w fun e w' => e = .returned (.bool true) ∧ Below w.heap.size w w' := by
  have hpd : decide (11 < p) = false := decide_eq_false (by omega)
  have HM := Lib.hid (fun W hL => (setsTouched_any k p x y W hL).mono fun e w' (h : TouchedC k p x y W e w') => (⟨h.1 hR, h.2.2.2⟩ : e = .returned (.tuple #[.slice none 0 0, .int .i64 2]) ∧ Below W.heap.size W w'))
  have HQ := Lib.hid (fun W => (refRight_any k p W).mono fun _ _ h => And.intro (h.2.1 hR) h.2.2)
  clear hR
  obtain ⟨W0, hW0⟩ : ∃ W0, (w.alloc (.cells #[.int .i64 k, .int .i64 p] 24)).alloc (.cells #[.int .i64 x, .int .i64 y] 26) = W0 := ⟨_, rfl⟩
  have b0 : Blk W0 w.heap.size 24 #[.int .i64 k, .int .i64 p] := by rw [← hW0]; exact (Blk.new w _ _).alloc _
  have b1 : Blk W0 (w.heap.size + 1) 26 #[.int .i64 x, .int .i64 y] := by rw [← hW0]; exact Blk.second w _ _ _
  have hB : Below w.heap.size w W0 := by rw [← hW0]; exact below_two w _ _
  replace hL := hL.next hB
  have c0 := b0.cell 0; have c1 := b0.cell 1; have a0 := b1.cell 0; have a1 := b1.cell 1; simp only [List.getElem?_toArray, List.getElem?_cons_zero, List.getElem?_cons_succ] at c0 c1 a0 a1
  go_enter Tryz.func4, Tryz.ntmps4
  go_wp2_with fail
  clear hW0
  refine (HM.out _ hL).mono ?_
  rintro e w1 ⟨rfl, hB1⟩
  replace b0 := b0.below hB1 b0.lt
  replace b1 := b1.below hB1 b1.lt
  replace hB := below_in hB hB1
  replace hL := hL.next hB1
  clear hB1 c0 c1 a0 a1 HM
  have c0 := b0.cell 0; have c1 := b0.cell 1; have a0 := b1.cell 0; have a1 := b1.cell 1; simp only [List.getElem?_toArray, List.getElem?_cons_zero, List.getElem?_cons_succ] at c0 c1 a0 a1
  go_wp2_with (first | (go_at_call 9; refine (HQ.out _).mono ?_; rintro e w1 ⟨rfl, hB1⟩; replace b0 := b0.below hB1 b0.lt; replace b1 := b1.below hB1 b1.lt; replace hB := below_in hB hB1; replace hL := hL.next hB1; have c0 := b0.cell 0; have c1 := b0.cell 1; have a0 := b1.cell 0; have a1 := b1.cell 1; simp only [List.getElem?_toArray, List.getElem?_cons_zero, List.getElem?_cons_succ] at c0 c1 a0 a1) | (go_at_call 10; refine (num_any _ _).mono ?_; rintro e w' ⟨rfl, rfl⟩) | (go_at_call 11; refine (works_any _ hL).mono ?_; rintro e w3 ⟨rfl, hB1⟩))
  go_ret
  exact ⟨rfl, below_in hB hB1⟩
set_option maxRecDepth 100000 in
set_option maxHeartbeats 2000000 in
theorem walk_out (k p x y : Int) (w : World) (hL : Laid w) (hR : RightC k p) (hc : ¬ HasCell k p x y) (hp : p ≤ 11) : Calls Tryz.prog 4 #[.agg #[.int .i64 k, .int .i64 p], .agg #[.int .i64 x, .int .i64 y]] w fun e w' => e = .returned (.bool true) ∧ Below w.heap.size w w' := by
  have hpd : decide (11 < p) = false := decide_eq_false (by omega)
  have HM := Lib.hid (fun W hL => (setsTouched_any k p x y W hL).mono fun e w' (h : TouchedC k p x y W e w') => (⟨h.2.1 hR (fun hh => hc hh.1), h.2.2.2⟩ : e = .returned (.tuple #[.slice none 0 0, .int .i64 4]) ∧ Below W.heap.size W w'))
  have HQ := Lib.hid (fun W => (refRight_any k p W).mono fun _ _ h => And.intro (h.1 hR) h.2.2)
  have HT := Lib.hid (fun W => (refThere_any k p x y hR W).mono fun _ _ h => And.intro (h.2.1 hc) h.2.2)
  clear hR hc
  obtain ⟨W0, hW0⟩ : ∃ W0, (w.alloc (.cells #[.int .i64 k, .int .i64 p] 24)).alloc (.cells #[.int .i64 x, .int .i64 y] 26) = W0 := ⟨_, rfl⟩
  have b0 : Blk W0 w.heap.size 24 #[.int .i64 k, .int .i64 p] := by rw [← hW0]; exact (Blk.new w _ _).alloc _
  have b1 : Blk W0 (w.heap.size + 1) 26 #[.int .i64 x, .int .i64 y] := by rw [← hW0]; exact Blk.second w _ _ _
  have hB : Below w.heap.size w W0 := by rw [← hW0]; exact below_two w _ _
  replace hL := hL.next hB
  have c0 := b0.cell 0; have c1 := b0.cell 1; have a0 := b1.cell 0; have a1 := b1.cell 1; simp only [List.getElem?_toArray, List.getElem?_cons_zero, List.getElem?_cons_succ] at c0 c1 a0 a1
  go_enter Tryz.func4, Tryz.ntmps4
  go_wp2_with fail
  clear hW0
  refine (HM.out _ hL).mono ?_
  rintro e w1 ⟨rfl, hB1⟩
  replace b0 := b0.below hB1 b0.lt
  replace b1 := b1.below hB1 b1.lt
  replace hB := below_in hB hB1
  replace hL := hL.next hB1
  clear hB1 c0 c1 a0 a1 HM
  have c0 := b0.cell 0; have c1 := b0.cell 1; have a0 := b1.cell 0; have a1 := b1.cell 1; simp only [List.getElem?_toArray, List.getElem?_cons_zero, List.getElem?_cons_succ] at c0 c1 a0 a1
  go_wp2_with (go_at_call 9; refine (HQ.out _).mono ?_; rintro e w1 ⟨rfl, hB1⟩; replace b0 := b0.below hB1 b0.lt; replace b1 := b1.below hB1 b1.lt; replace hB := below_in hB hB1; replace hL := hL.next hB1; have c0 := b0.cell 0; have c1 := b0.cell 1; have a0 := b1.cell 0; have a1 := b1.cell 1; simp only [List.getElem?_toArray, List.getElem?_cons_zero, List.getElem?_cons_succ] at c0 c1 a0 a1)
  have hS : (fun W : World => W.cell? ⟨w.heap.size, 0, none⟩ = some (.int .i64 k) ∧ W.cell? ⟨w.heap.size, 1, none⟩ = some (.int .i64 p) ∧ W.cell? ⟨w.heap.size + 1, 0, none⟩ = some (.int .i64 x) ∧ W.cell? ⟨w.heap.size + 1, 1, none⟩ = some (.int .i64 y)) _ := ⟨c0, c1, a0, a1⟩
  refine (wpIn_wide (n := 12)).1 (wpIn_mono (region_HF (Q := NoPanic _) (S := (fun W : World => W.cell? ⟨w.heap.size, 0, none⟩ = some (.int .i64 k) ∧ W.cell? ⟨w.heap.size, 1, none⟩ = some (.int .i64 p) ∧ W.cell? ⟨w.heap.size + 1, 0, none⟩ = some (.int .i64 x) ∧ W.cell? ⟨w.heap.size + 1, 1, none⟩ = some (.int .i64 y))) (by kernel_rfl) ?_) NoPanic.imp)
  refine anyHF_take (i := 0) (d := 33) (v := .agg #[.int .i64 k, .int .i64 p]) (by kernel_rfl) rfl (by kernel_rfl) (by kernel_rfl) (by kernel_rfl) rfl (fun _ _ _ h => h) ⟨Or.inl ⟨by rfl, fun w hS => by obtain ⟨h0, h1, h2, h3⟩ := hS; go_simp⟩, fun _ => rfl⟩ hS ?_
  simp only [List.setIfInBounds_toArray, List.set_cons_zero, List.set_cons_succ]
  refine anyHF_take (i := 1) (d := 34) (v := .agg #[.int .i64 x, .int .i64 y]) (by kernel_rfl) rfl (by kernel_rfl) (by kernel_rfl) (by kernel_rfl) rfl (fun _ _ _ h => h) ⟨Or.inl ⟨by rfl, fun w hS => by obtain ⟨h0, h1, h2, h3⟩ := hS; go_simp⟩, fun _ => rfl⟩ hS ?_
  simp only [List.setIfInBounds_toArray, List.set_cons_zero, List.set_cons_succ]
  refine anyHF_one (i := 2) (by kernel_rfl) rfl (by kernel_rfl) (by rfl) ?_
  gi_wp2_with fail
  refine ⟨trivial, (callsIn_wide.2 (HT.out _)).mono ?_⟩
  rintro e w1 ⟨rfl, hB1⟩
  replace hB1 := below_undrew hB1
  replace b0 := b0.below hB1 b0.lt
  replace b1 := b1.below hB1 b1.lt
  replace hB := below_in hB hB1
  replace hL := hL.next hB1
  try replace hcc := hcc.next hB1
  clear hS hB1 c0 c1 a0 a1
  have c0 := b0.cell 0; have c1 := b0.cell 1; have a0 := b1.cell 0; have a1 := b1.cell 1; simp only [List.getElem?_toArray, List.getElem?_cons_zero, List.getElem?_cons_succ] at c0 c1 a0 a1
  have hS : (fun W : World => W.cell? ⟨w.heap.size, 0, none⟩ = some (.int .i64 k) ∧ W.cell? ⟨w.heap.size, 1, none⟩ = some (.int .i64 p) ∧ W.cell? ⟨w.heap.size + 1, 0, none⟩ = some (.int .i64 x) ∧ W.cell? ⟨w.heap.size + 1, 1, none⟩ = some (.int .i64 y)) w1 := ⟨c0, c1, a0, a1⟩
  gi_wp2
  refine anyHF_take (i := 3) (d := 36) (v := .bool true) (by kernel_rfl) rfl (by kernel_rfl) (by kernel_rfl) (by kernel_rfl) rfl (fun _ _ _ h => h) ⟨Or.inl ⟨by rfl, fun w hS => by obtain ⟨h0, h1, h2, h3⟩ := hS; go_simp⟩, fun _ => rfl⟩ hS ?_
  simp only [List.setIfInBounds_toArray, List.set_cons_zero, List.set_cons_succ]
  refine anyHF_take (i := 4) (d := 37) (v := .bool true) (by kernel_rfl) rfl (by kernel_rfl) (by kernel_rfl) (by kernel_rfl) rfl (fun _ _ _ h => h) ⟨Or.inl ⟨by rfl, fun w hS => by obtain ⟨h0, h1, h2, h3⟩ := hS; go_simp⟩, fun _ => rfl⟩ hS ?_
  simp only [List.setIfInBounds_toArray, List.set_cons_zero, List.set_cons_succ]
  refine anyHF_take (i := 5) (d := 38) (v := undef) (by kernel_rfl) rfl (by kernel_rfl) (by kernel_rfl) (by kernel_rfl) rfl (fun _ _ _ h => h) ⟨Or.inr ⟨by rfl, rfl⟩, fun _ => rfl⟩ hS ?_
  simp only [List.setIfInBounds_toArray, List.set_cons_zero, List.set_cons_succ]
  refine anyHF_take (i := 6) (d := 39) (v := undef) (by kernel_rfl) rfl (by kernel_rfl) (by kernel_rfl) (by kernel_rfl) rfl (fun _ _ _ h => h) ⟨Or.inr ⟨by rfl, rfl⟩, fun _ => rfl⟩ hS ?_
  simp only [List.setIfInBounds_toArray, List.set_cons_zero, List.set_cons_succ]
  refine anyHF_take (i := 7) (d := 40) (v := undef) (by kernel_rfl) rfl (by kernel_rfl) (by kernel_rfl) (by kernel_rfl) rfl (fun _ _ _ h => h) ⟨Or.inr ⟨by rfl, rfl⟩, fun _ => rfl⟩ hS ?_
  simp only [List.setIfInBounds_toArray, List.set_cons_zero, List.set_cons_succ]
  refine anyHF_skip (i := 8) (d := 41) (by kernel_rfl) rfl (by rfl) rfl wide_fn hS ?_
  simp only [List.setIfInBounds_toArray, List.set_cons_zero, List.set_cons_succ]
  refine anyHF_take (i := 9) (d := 42) (v := undef) (by kernel_rfl) rfl (by kernel_rfl) (by kernel_rfl) (by kernel_rfl) rfl (fun _ _ _ h => h) ⟨Or.inr ⟨by rfl, rfl⟩, fun _ => rfl⟩ hS ?_
  simp only [List.setIfInBounds_toArray, List.set_cons_zero, List.set_cons_succ]
  refine anyHF_take (i := 10) (d := 43) (v := .bool true) (by kernel_rfl) rfl (by kernel_rfl) (by kernel_rfl) (by kernel_rfl) rfl (fun _ _ _ h => h) ⟨Or.inl ⟨by rfl, fun w hS => by obtain ⟨h0, h1, h2, h3⟩ := hS; go_simp⟩, fun _ => rfl⟩ hS ?_
  simp only [List.setIfInBounds_toArray, List.set_cons_zero, List.set_cons_succ]
  refine anyHF_one (i := 11) (by kernel_rfl) rfl (by kernel_rfl) (by rfl) ?_
  gi_wp2
  refine anyHF_done (by kernel_rfl) ?_ _
  refine NoPanic.normal ?_
  clear hS
  go_wp2_with (first | (go_at_call 10; refine (num_any _ _).mono ?_; rintro e w' ⟨rfl, rfl⟩) | (go_at_call 11; refine (works_any _ hL).mono ?_; rintro e w3 ⟨rfl, hB1⟩))
  go_ret
  exact ⟨rfl, below_in hB hB1⟩
set_option maxRecDepth 100000 in
set_option maxHeartbeats 2000000 in
theorem walk_made (k p x y : Int) (w : World) (hL : Laid w) (hR : RightC k p) (hc : HasCell k p x y) (hx : p - shortN k ≤ x) (hp : p ≤ 11) : Calls Tryz.prog 4 #[.agg #[.int .i64 k, .int .i64 p], .agg #[.int .i64 x, .int .i64 y]] w fun e w' => e = .returned (.bool true) ∧ Below w.heap.size w w' := by
  have hpd : decide (11 < p) = false := decide_eq_false (by omega)
  have HM := Lib.hid (fun W hL => (setsTouched_any k p x y W hL).mono fun e w' (h : TouchedC k p x y W e w') => (⟨h.2.1 hR (fun hh => by omega), h.2.2.2⟩ : e = .returned (.tuple #[.slice none 0 0, .int .i64 4]) ∧ Below W.heap.size W w'))
  have HQ := Lib.hid (fun W => (refRight_any k p W).mono fun _ _ h => And.intro (h.1 hR) h.2.2)
  have HT := Lib.hid (fun W => (refThere_any k p x y hR W).mono fun _ _ h => And.intro (h.1 hc) h.2.2)
  have HD := Lib.hid (fun W => refData_any k p hR W)
  clear hR hc
  generalize p - shortN k = d at *
  have hdx : decide (d ≤ x) = true := decide_eq_true hx
  clear hx
  obtain ⟨W0, hW0⟩ : ∃ W0, (w.alloc (.cells #[.int .i64 k, .int .i64 p] 24)).alloc (.cells #[.int .i64 x, .int .i64 y] 26) = W0 := ⟨_, rfl⟩
  have b0 : Blk W0 w.heap.size 24 #[.int .i64 k, .int .i64 p] := by rw [← hW0]; exact (Blk.new w _ _).alloc _
  have b1 : Blk W0 (w.heap.size + 1) 26 #[.int .i64 x, .int .i64 y] := by rw [← hW0]; exact Blk.second w _ _ _
  have hB : Below w.heap.size w W0 := by rw [← hW0]; exact below_two w _ _
  replace hL := hL.next hB
  have c0 := b0.cell 0; have c1 := b0.cell 1; have a0 := b1.cell 0; have a1 := b1.cell 1; simp only [List.getElem?_toArray, List.getElem?_cons_zero, List.getElem?_cons_succ] at c0 c1 a0 a1
  go_enter Tryz.func4, Tryz.ntmps4
  go_wp2_with fail
  clear hW0
  refine (HM.out _ hL).mono ?_
  rintro e w1 ⟨rfl, hB1⟩
  replace b0 := b0.below hB1 b0.lt
  replace b1 := b1.below hB1 b1.lt
  replace hB := below_in hB hB1
  replace hL := hL.next hB1
  clear hB1 c0 c1 a0 a1 HM
  have c0 := b0.cell 0; have c1 := b0.cell 1; have a0 := b1.cell 0; have a1 := b1.cell 1; simp only [List.getElem?_toArray, List.getElem?_cons_zero, List.getElem?_cons_succ] at c0 c1 a0 a1
  go_wp2_with (go_at_call 9; refine (HQ.out _).mono ?_; rintro e w1 ⟨rfl, hB1⟩; replace b0 := b0.below hB1 b0.lt; replace b1 := b1.below hB1 b1.lt; replace hB := below_in hB hB1; replace hL := hL.next hB1; have c0 := b0.cell 0; have c1 := b0.cell 1; have a0 := b1.cell 0; have a1 := b1.cell 1; simp only [List.getElem?_toArray, List.getElem?_cons_zero, List.getElem?_cons_succ] at c0 c1 a0 a1)
  have hS : (fun W : World => W.cell? ⟨w.heap.size, 0, none⟩ = some (.int .i64 k) ∧ W.cell? ⟨w.heap.size, 1, none⟩ = some (.int .i64 p) ∧ W.cell? ⟨w.heap.size + 1, 0, none⟩ = some (.int .i64 x) ∧ W.cell? ⟨w.heap.size + 1, 1, none⟩ = some (.int .i64 y)) _ := ⟨c0, c1, a0, a1⟩
  refine (wpIn_wide (n := 12)).1 (wpIn_mono (region_HF (Q := NoPanic _) (S := (fun W : World => W.cell? ⟨w.heap.size, 0, none⟩ = some (.int .i64 k) ∧ W.cell? ⟨w.heap.size, 1, none⟩ = some (.int .i64 p) ∧ W.cell? ⟨w.heap.size + 1, 0, none⟩ = some (.int .i64 x) ∧ W.cell? ⟨w.heap.size + 1, 1, none⟩ = some (.int .i64 y))) (by kernel_rfl) ?_) NoPanic.imp)
  refine anyHF_take (i := 0) (d := 33) (v := .agg #[.int .i64 k, .int .i64 p]) (by kernel_rfl) rfl (by kernel_rfl) (by kernel_rfl) (by kernel_rfl) rfl (fun _ _ _ h => h) ⟨Or.inl ⟨by rfl, fun w hS => by obtain ⟨h0, h1, h2, h3⟩ := hS; go_simp⟩, fun _ => rfl⟩ hS ?_
  simp only [List.setIfInBounds_toArray, List.set_cons_zero, List.set_cons_succ]
  refine anyHF_take (i := 1) (d := 34) (v := .agg #[.int .i64 x, .int .i64 y]) (by kernel_rfl) rfl (by kernel_rfl) (by kernel_rfl) (by kernel_rfl) rfl (fun _ _ _ h => h) ⟨Or.inl ⟨by rfl, fun w hS => by obtain ⟨h0, h1, h2, h3⟩ := hS; go_simp⟩, fun _ => rfl⟩ hS ?_
  simp only [List.setIfInBounds_toArray, List.set_cons_zero, List.set_cons_succ]
  refine anyHF_one (i := 2) (by kernel_rfl) rfl (by kernel_rfl) (by rfl) ?_
  gi_wp2_with fail
  refine ⟨trivial, (callsIn_wide.2 (HT.out _)).mono ?_⟩
  rintro e w1 ⟨rfl, hB1⟩
  replace hB1 := below_undrew hB1
  replace b0 := b0.below hB1 b0.lt
  replace b1 := b1.below hB1 b1.lt
  replace hB := below_in hB hB1
  replace hL := hL.next hB1
  try replace hcc := hcc.next hB1
  clear hS hB1 c0 c1 a0 a1
  have c0 := b0.cell 0; have c1 := b0.cell 1; have a0 := b1.cell 0; have a1 := b1.cell 1; simp only [List.getElem?_toArray, List.getElem?_cons_zero, List.getElem?_cons_succ] at c0 c1 a0 a1
  have hS : (fun W : World => W.cell? ⟨w.heap.size, 0, none⟩ = some (.int .i64 k) ∧ W.cell? ⟨w.heap.size, 1, none⟩ = some (.int .i64 p) ∧ W.cell? ⟨w.heap.size + 1, 0, none⟩ = some (.int .i64 x) ∧ W.cell? ⟨w.heap.size + 1, 1, none⟩ = some (.int .i64 y)) w1 := ⟨c0, c1, a0, a1⟩
  gi_wp2
  refine anyHF_take (i := 3) (d := 36) (v := .bool false) (by kernel_rfl) rfl (by kernel_rfl) (by kernel_rfl) (by kernel_rfl) rfl (fun _ _ _ h => h) ⟨Or.inl ⟨by rfl, fun w hS => by obtain ⟨h0, h1, h2, h3⟩ := hS; go_simp⟩, fun _ => rfl⟩ hS ?_
  simp only [List.setIfInBounds_toArray, List.set_cons_zero, List.set_cons_succ]
  refine anyHF_take (i := 4) (d := 37) (v := .bool false) (by kernel_rfl) rfl (by kernel_rfl) (by kernel_rfl) (by kernel_rfl) rfl (fun _ _ _ h => h) ⟨Or.inl ⟨by rfl, fun w hS => by obtain ⟨h0, h1, h2, h3⟩ := hS; go_simp⟩, fun _ => rfl⟩ hS ?_
  simp only [List.setIfInBounds_toArray, List.set_cons_zero, List.set_cons_succ]
  refine anyHF_take (i := 5) (d := 38) (v := .pointer (some ⟨w.heap.size + 1, 0, none⟩)) (by kernel_rfl) rfl (by kernel_rfl) (by kernel_rfl) (by kernel_rfl) rfl (fun _ _ _ h => h) ⟨Or.inl ⟨by rfl, fun w hS => by obtain ⟨h0, h1, h2, h3⟩ := hS; go_simp⟩, fun _ => rfl⟩ hS ?_
  simp only [List.setIfInBounds_toArray, List.set_cons_zero, List.set_cons_succ]
  refine anyHF_take (i := 6) (d := 39) (v := .int .i64 x) (by kernel_rfl) rfl (by kernel_rfl) (by kernel_rfl) (by kernel_rfl) rfl (fun _ _ _ h => h) ⟨Or.inl ⟨by rfl, fun w hS => by obtain ⟨h0, h1, h2, h3⟩ := hS; go_simp⟩, fun _ => rfl⟩ hS ?_
  simp only [List.setIfInBounds_toArray, List.set_cons_zero, List.set_cons_succ]
  refine anyHF_take (i := 7) (d := 40) (v := .agg #[.int .i64 k, .int .i64 p]) (by kernel_rfl) rfl (by kernel_rfl) (by kernel_rfl) (by kernel_rfl) rfl (fun _ _ _ h => h) ⟨Or.inl ⟨by rfl, fun w hS => by obtain ⟨h0, h1, h2, h3⟩ := hS; go_simp⟩, fun _ => rfl⟩ hS ?_
  simp only [List.setIfInBounds_toArray, List.set_cons_zero, List.set_cons_succ]
  refine anyHF_one (i := 8) (by kernel_rfl) rfl (by kernel_rfl) (by rfl) ?_
  gi_wp2_with fail
  refine ⟨trivial, (callsIn_wide.2 (HD.out _)).mono ?_⟩
  rintro e w1 ⟨rfl, hB1⟩
  replace b0 := b0.below hB1 b0.lt
  replace b1 := b1.below hB1 b1.lt
  replace hB := below_in hB hB1
  replace hL := hL.next hB1
  try replace hcc := hcc.next hB1
  clear hS hB1 c0 c1 a0 a1
  have c0 := b0.cell 0; have c1 := b0.cell 1; have a0 := b1.cell 0; have a1 := b1.cell 1; simp only [List.getElem?_toArray, List.getElem?_cons_zero, List.getElem?_cons_succ] at c0 c1 a0 a1
  have hS : (fun W : World => W.cell? ⟨w.heap.size, 0, none⟩ = some (.int .i64 k) ∧ W.cell? ⟨w.heap.size, 1, none⟩ = some (.int .i64 p) ∧ W.cell? ⟨w.heap.size + 1, 0, none⟩ = some (.int .i64 x) ∧ W.cell? ⟨w.heap.size + 1, 1, none⟩ = some (.int .i64 y)) w1 := ⟨c0, c1, a0, a1⟩
  gi_wp2
  refine anyHF_take (i := 9) (d := 42) (v := .bool true) (by kernel_rfl) rfl (by kernel_rfl) (by kernel_rfl) (by kernel_rfl) rfl (fun _ _ _ h => h) ⟨Or.inl ⟨by rfl, fun w hS => by obtain ⟨h0, h1, h2, h3⟩ := hS; go_simp⟩, fun _ => rfl⟩ hS ?_
  simp only [List.setIfInBounds_toArray, List.set_cons_zero, List.set_cons_succ]
  refine anyHF_take (i := 10) (d := 43) (v := .bool true) (by kernel_rfl) rfl (by kernel_rfl) (by kernel_rfl) (by kernel_rfl) rfl (fun _ _ _ h => h) ⟨Or.inl ⟨by rfl, fun w hS => by obtain ⟨h0, h1, h2, h3⟩ := hS; go_simp⟩, fun _ => rfl⟩ hS ?_
  simp only [List.setIfInBounds_toArray, List.set_cons_zero, List.set_cons_succ]
  refine anyHF_one (i := 11) (by kernel_rfl) rfl (by kernel_rfl) (by rfl) ?_
  gi_wp2
  refine anyHF_done (by kernel_rfl) ?_ _
  refine NoPanic.normal ?_
  clear hS
  go_wp2_with (first | (go_at_call 10; refine (num_any _ _).mono ?_; rintro e w' ⟨rfl, rfl⟩) | (go_at_call 11; refine (works_any _ hL).mono ?_; rintro e w3 ⟨rfl, hB1⟩))
  go_ret
  exact ⟨rfl, below_in hB hB1⟩
set_option maxRecDepth 100000 in
set_option maxHeartbeats 2000000 in
theorem walk_data (k p x y : Int) (w : World) (hL : Laid w) (hR : RightC k p) (hc : HasCell k p x y) (hx : x < p - shortN k) (hp : p ≤ 11) : Calls Tryz.prog 4 #[.agg #[.int .i64 k, .int .i64 p], .agg #[.int .i64 x, .int .i64 y]] w fun e w' => e = .returned (.bool true) ∧ Below w.heap.size w w' := by
  have hpd : decide (11 < p) = false := decide_eq_false (by omega)
  have HM := Lib.hid (fun W hL => (setsTouched_any k p x y W hL).mono fun e w' (h : TouchedC k p x y W e w') => (⟨h.2.2.1 hR hc hx, h.2.2.2⟩ : (∃ u, e = .returned (.tuple #[u, .int .i64 0]) ∧ ReadP w'.heap.size w' u (touL k p x y)) ∧ Below W.heap.size W w'))
  have HRM := Lib.hid (fun W => refTouched_any k p x y hR ⟨hc.1.1, hx⟩ hc.2 W)
  have hln := tou_len (x := x) (y := y) hR
  generalize touL k p x y = l at *
  have HQ := Lib.hid (fun W => (refRight_any k p W).mono fun _ _ h => And.intro (h.1 hR) h.2.2)
  have HT := Lib.hid (fun W => (refThere_any k p x y hR W).mono fun _ _ h => And.intro (h.1 hc) h.2.2)
  have HD := Lib.hid (fun W => refData_any k p hR W)
  clear hR hc
  generalize p - shortN k = d at *
  have hdx : decide (d ≤ x) = false := decide_eq_false (by omega)
  clear hx
  obtain ⟨W0, hW0⟩ : ∃ W0, (w.alloc (.cells #[.int .i64 k, .int .i64 p] 24)).alloc (.cells #[.int .i64 x, .int .i64 y] 26) = W0 := ⟨_, rfl⟩
  have b0 : Blk W0 w.heap.size 24 #[.int .i64 k, .int .i64 p] := by rw [← hW0]; exact (Blk.new w _ _).alloc _
  have b1 : Blk W0 (w.heap.size + 1) 26 #[.int .i64 x, .int .i64 y] := by rw [← hW0]; exact Blk.second w _ _ _
  have hB : Below w.heap.size w W0 := by rw [← hW0]; exact below_two w _ _
  replace hL := hL.next hB
  have c0 := b0.cell 0; have c1 := b0.cell 1; have a0 := b1.cell 0; have a1 := b1.cell 1; simp only [List.getElem?_toArray, List.getElem?_cons_zero, List.getElem?_cons_succ] at c0 c1 a0 a1
  go_enter Tryz.func4, Tryz.ntmps4
  go_wp2_with fail
  clear hW0
  refine (HM.out _ hL).mono ?_
  rintro e w1 ⟨⟨u, rfl, hrd⟩, hB1⟩
  replace b0 := b0.below hB1 b0.lt
  replace b1 := b1.below hB1 b1.lt
  replace hB := below_in hB hB1
  replace hL := hL.next hB1
  have hcc := hrd.readA
  clear hB1 c0 c1 a0 a1 HM hrd
  have c0 := b0.cell 0; have c1 := b0.cell 1; have a0 := b1.cell 0; have a1 := b1.cell 1; simp only [List.getElem?_toArray, List.getElem?_cons_zero, List.getElem?_cons_succ] at c0 c1 a0 a1
  go_wp2_with (go_at_call 9; refine (HQ.out _).mono ?_; rintro e w1 ⟨rfl, hB1⟩; replace b0 := b0.below hB1 b0.lt; replace b1 := b1.below hB1 b1.lt; replace hB := below_in hB hB1; replace hL := hL.next hB1; replace hcc := hcc.next hB1; have c0 := b0.cell 0; have c1 := b0.cell 1; have a0 := b1.cell 0; have a1 := b1.cell 1; simp only [List.getElem?_toArray, List.getElem?_cons_zero, List.getElem?_cons_succ] at c0 c1 a0 a1)
  have hS : (fun W : World => W.cell? ⟨w.heap.size, 0, none⟩ = some (.int .i64 k) ∧ W.cell? ⟨w.heap.size, 1, none⟩ = some (.int .i64 p) ∧ W.cell? ⟨w.heap.size + 1, 0, none⟩ = some (.int .i64 x) ∧ W.cell? ⟨w.heap.size + 1, 1, none⟩ = some (.int .i64 y)) _ := ⟨c0, c1, a0, a1⟩
  refine (wpIn_wide (n := 12)).1 (wpIn_mono (region_HF (Q := NoPanic _) (S := (fun W : World => W.cell? ⟨w.heap.size, 0, none⟩ = some (.int .i64 k) ∧ W.cell? ⟨w.heap.size, 1, none⟩ = some (.int .i64 p) ∧ W.cell? ⟨w.heap.size + 1, 0, none⟩ = some (.int .i64 x) ∧ W.cell? ⟨w.heap.size + 1, 1, none⟩ = some (.int .i64 y))) (by kernel_rfl) ?_) NoPanic.imp)
  refine anyHF_take (i := 0) (d := 33) (v := .agg #[.int .i64 k, .int .i64 p]) (by kernel_rfl) rfl (by kernel_rfl) (by kernel_rfl) (by kernel_rfl) rfl (fun _ _ _ h => h) ⟨Or.inl ⟨by rfl, fun w hS => by obtain ⟨h0, h1, h2, h3⟩ := hS; go_simp⟩, fun _ => rfl⟩ hS ?_
  simp only [List.setIfInBounds_toArray, List.set_cons_zero, List.set_cons_succ]
  refine anyHF_take (i := 1) (d := 34) (v := .agg #[.int .i64 x, .int .i64 y]) (by kernel_rfl) rfl (by kernel_rfl) (by kernel_rfl) (by kernel_rfl) rfl (fun _ _ _ h => h) ⟨Or.inl ⟨by rfl, fun w hS => by obtain ⟨h0, h1, h2, h3⟩ := hS; go_simp⟩, fun _ => rfl⟩ hS ?_
  simp only [List.setIfInBounds_toArray, List.set_cons_zero, List.set_cons_succ]
  refine anyHF_one (i := 2) (by kernel_rfl) rfl (by kernel_rfl) (by rfl) ?_
  gi_wp2_with fail
  refine ⟨trivial, (callsIn_wide.2 (HT.out _)).mono ?_⟩
  rintro e w1 ⟨rfl, hB1⟩
  replace hB1 := below_undrew hB1
  replace b0 := b0.below hB1 b0.lt
  replace b1 := b1.below hB1 b1.lt
  replace hB := below_in hB hB1
  replace hL := hL.next hB1
  try replace hcc := hcc.next hB1
  clear hS hB1 c0 c1 a0 a1
  have c0 := b0.cell 0; have c1 := b0.cell 1; have a0 := b1.cell 0; have a1 := b1.cell 1; simp only [List.getElem?_toArray, List.getElem?_cons_zero, List.getElem?_cons_succ] at c0 c1 a0 a1
  have hS : (fun W : World => W.cell? ⟨w.heap.size, 0, none⟩ = some (.int .i64 k) ∧ W.cell? ⟨w.heap.size, 1, none⟩ = some (.int .i64 p) ∧ W.cell? ⟨w.heap.size + 1, 0, none⟩ = some (.int .i64 x) ∧ W.cell? ⟨w.heap.size + 1, 1, none⟩ = some (.int .i64 y)) w1 := ⟨c0, c1, a0, a1⟩
  gi_wp2
  refine anyHF_take (i := 3) (d := 36) (v := .bool false) (by kernel_rfl) rfl (by kernel_rfl) (by kernel_rfl) (by kernel_rfl) rfl (fun _ _ _ h => h) ⟨Or.inl ⟨by rfl, fun w hS => by obtain ⟨h0, h1, h2, h3⟩ := hS; go_simp⟩, fun _ => rfl⟩ hS ?_
  simp only [List.setIfInBounds_toArray, List.set_cons_zero, List.set_cons_succ]
  refine anyHF_take (i := 4) (d := 37) (v := .bool false) (by kernel_rfl) rfl (by kernel_rfl) (by kernel_rfl) (by kernel_rfl) rfl (fun _ _ _ h => h) ⟨Or.inl ⟨by rfl, fun w hS => by obtain ⟨h0, h1, h2, h3⟩ := hS; go_simp⟩, fun _ => rfl⟩ hS ?_
  simp only [List.setIfInBounds_toArray, List.set_cons_zero, List.set_cons_succ]
  refine anyHF_take (i := 5) (d := 38) (v := .pointer (some ⟨w.heap.size + 1, 0, none⟩)) (by kernel_rfl) rfl (by kernel_rfl) (by kernel_rfl) (by kernel_rfl) rfl (fun _ _ _ h => h) ⟨Or.inl ⟨by rfl, fun w hS => by obtain ⟨h0, h1, h2, h3⟩ := hS; go_simp⟩, fun _ => rfl⟩ hS ?_
  simp only [List.setIfInBounds_toArray, List.set_cons_zero, List.set_cons_succ]
  refine anyHF_take (i := 6) (d := 39) (v := .int .i64 x) (by kernel_rfl) rfl (by kernel_rfl) (by kernel_rfl) (by kernel_rfl) rfl (fun _ _ _ h => h) ⟨Or.inl ⟨by rfl, fun w hS => by obtain ⟨h0, h1, h2, h3⟩ := hS; go_simp⟩, fun _ => rfl⟩ hS ?_
  simp only [List.setIfInBounds_toArray, List.set_cons_zero, List.set_cons_succ]
  refine anyHF_take (i := 7) (d := 40) (v := .agg #[.int .i64 k, .int .i64 p]) (by kernel_rfl) rfl (by kernel_rfl) (by kernel_rfl) (by kernel_rfl) rfl (fun _ _ _ h => h) ⟨Or.inl ⟨by rfl, fun w hS => by obtain ⟨h0, h1, h2, h3⟩ := hS; go_simp⟩, fun _ => rfl⟩ hS ?_
  simp only [List.setIfInBounds_toArray, List.set_cons_zero, List.set_cons_succ]
  refine anyHF_one (i := 8) (by kernel_rfl) rfl (by kernel_rfl) (by rfl) ?_
  gi_wp2_with fail
  refine ⟨trivial, (callsIn_wide.2 (HD.out _)).mono ?_⟩
  rintro e w1 ⟨rfl, hB1⟩
  replace b0 := b0.below hB1 b0.lt
  replace b1 := b1.below hB1 b1.lt
  replace hB := below_in hB hB1
  replace hL := hL.next hB1
  try replace hcc := hcc.next hB1
  clear hS hB1 c0 c1 a0 a1
  have c0 := b0.cell 0; have c1 := b0.cell 1; have a0 := b1.cell 0; have a1 := b1.cell 1; simp only [List.getElem?_toArray, List.getElem?_cons_zero, List.getElem?_cons_succ] at c0 c1 a0 a1
  have hS : (fun W : World => W.cell? ⟨w.heap.size, 0, none⟩ = some (.int .i64 k) ∧ W.cell? ⟨w.heap.size, 1, none⟩ = some (.int .i64 p) ∧ W.cell? ⟨w.heap.size + 1, 0, none⟩ = some (.int .i64 x) ∧ W.cell? ⟨w.heap.size + 1, 1, none⟩ = some (.int .i64 y)) w1 := ⟨c0, c1, a0, a1⟩
  gi_wp2
  refine anyHF_take (i := 9) (d := 42) (v := .bool false) (by kernel_rfl) rfl (by kernel_rfl) (by kernel_rfl) (by kernel_rfl) rfl (fun _ _ _ h => h) ⟨Or.inl ⟨by rfl, fun w hS => by obtain ⟨h0, h1, h2, h3⟩ := hS; go_simp⟩, fun _ => rfl⟩ hS ?_
  simp only [List.setIfInBounds_toArray, List.set_cons_zero, List.set_cons_succ]
  refine anyHF_take (i := 10) (d := 43) (v := .bool false) (by kernel_rfl) rfl (by kernel_rfl) (by kernel_rfl) (by kernel_rfl) rfl (fun _ _ _ h => h) ⟨Or.inl ⟨by rfl, fun w hS => by obtain ⟨h0, h1, h2, h3⟩ := hS; go_simp⟩, fun _ => rfl⟩ hS ?_
  simp only [List.setIfInBounds_toArray, List.set_cons_zero, List.set_cons_succ]
  refine anyHF_one (i := 11) (by kernel_rfl) rfl (by kernel_rfl) (by rfl) ?_
  gi_wp2
  refine anyHF_done (by kernel_rfl) ?_ _
  refine NoPanic.normal ?_
  clear hS
  go_wp2_with fail
  refine (HRM.out _).mono ?_
  rintro e w2 ⟨v, rfl, ho, hB1⟩
  replace hB := below_in hB hB1
  replace hL := hL.next hB1
  replace hcc := hcc.next hB1
  have hc2 := ho.readA
  clear hB1 ho HRM
  go_wp2_with fail
  refine (same_yes _ _ l (by omega) _ hcc hc2).mono ?_
  rintro e w3 ⟨rfl, hB1⟩
  replace hB := below_in hB hB1
  replace hL := hL.next hB1
  clear hB1
  go_wp2_with (first | (go_at_call 10; refine (num_any _ _).mono ?_; rintro e w' ⟨rfl, rfl⟩) | (go_at_call 11; refine (works_any _ hL).mono ?_; rintro e w3 ⟨rfl, hB1⟩))
  go_ret
  exact ⟨rfl, below_in hB hB1⟩
theorem walk (k p x y : Int) (w : World) (hL : Laid w) (wk : -9223372036854775808 ≤ k ∧ k ≤ 9223372036854775807) (wp : -9223372036854775808 ≤ p ∧ p ≤ 9223372036854775807) (wx : -9223372036854775808 ≤ x ∧ x ≤ 9223372036854775807) (wy : -9223372036854775808 ≤ y ∧ y ≤ 9223372036854775807) :
    Calls Tryz.prog 4 #[.agg #[.int .i64 k, .int .i64 p], .agg #[.int .i64 x, .int .i64 y]] w fun e w' => e = .returned (.bool true) ∧ Below w.heap.size w w' := by
  by_cases hp : p ≤ 11
  case neg => exact walk_big k p x y w hL hp
  by_cases hR : RightC k p
  · by_cases hc : HasCell k p x y
    · by_cases hx : x < p - shortN k
      · exact walk_data k p x y w hL hR hc hx hp
      · exact walk_made k p x y w hL hR hc (by omega) hp
    · exact walk_out k p x y w hL hR hc hp
  · exact walk_no k p x y w hL hR hp

set_option maxRecDepth 100000 in
theorem lifted (os : Os) (started : os.Started) (H : Type) (enc : TypeId × Value → H) :
    ReturnsInHanded {} Tryz.checked os 4 .any (fun w args => (Rows.setsTouchedSpec.pre enc Tryz.prog Tryz.f4 [] false w args ∧ laidMetH Tryz.prog laidL w) ∧ sizedMet enc Tryz.prog Tryz.f4 (OpenSpec.ofChange Rows.setsTouchedSpec) false w args)
      (Rows.setsTouchedSpec.post enc Tryz.prog Tryz.f4 false true false false) := by
  refine returnsInHanded_of_change_and (C := Tryz.checked) (X := fun w _ => laidMetH Tryz.prog laidL w) (fun _ _ _ hh h => h.of_heap hh) own started (by kernel_rfl) Tryz.func4
    (ChangeSpec.witness_shaped (enc := enc) (C := Tryz.checked) (os := os) (X := fun w _ => laidMetH Tryz.prog laidL w) false (World.doorLaid Tryz.prog 200 os) #[.agg #[.int .i64 0, .int .i64 0], .agg #[.int .i64 0, .int .i64 0]] 8 rfl (World.shaped_of_RefB (by kernel_rfl) (by kernel_rfl)) (by kernel_rfl) (by kernel_rfl) (by kernel_rfl) (door_met os _)) ?_
  intro W base args ds gs before hval0 hW _ _ hL0 _
  have hL := laid_of hL0
  have hval : ∀ (j : Nat) t v, Tryz.f4.params[j]? = some t → args[j]? = some v → Value.okWide Tryz.prog W .any base t v := hval0
  have hW' := hW
  obtain ⟨p, q, hA0, hV, rfl, hfz, hnd⟩ := hW
  have hA : DataW.TrodAll enc Tryz.prog W 0 (fun _ => true) true Tryz.f4.params.toList args.toList ds p := hA0
  rw [Tryz.params4] at hA hval
  obtain ⟨v0, vs0, d0, ds0, p0, q0, hargs, rfl, rfl, h0, r0⟩ := trodAll_cons hA
  obtain ⟨v1, vs1, d1, ds1, p1, q1, rfl, rfl, rfl, h1, r1⟩ := trodAll_cons r0
  obtain ⟨rfl, rfl, rfl⟩ := trodAll_nil r1
  obtain rfl : args = #[v0, v1] := by cases args; simp_all
  obtain ⟨rfl, rfl⟩ := trodVars_none hV
  have k0 := h0
  have lt0 : ∀ x ∈ p0, x.block < W.heap.size := by obtain ⟨m, hm⟩ := k0; exact DataW.trod_lt m _ _ _ hm
  obtain ⟨x0, y0, rfl, w0⟩ := open_code (hval 0 24 v0 rfl rfl) h0
  have k1 := h1
  have lt1 : ∀ x ∈ p1, x.block < W.heap.size := by obtain ⟨m, hm⟩ := k1; exact DataW.trod_lt m _ _ _ hm
  obtain ⟨x1, y1, rfl, w1⟩ := open_at (hval 1 26 v1 rfl rfl) h1
  clear hA0 hval0
  simp only [List.append_nil] at hW'
  refine (walk x0 y0 x1 y1 W hL (wf_i64 w0.1) (wf_i64 w0.2) (wf_i64 w1.1) (wf_i64 w1.2)).mono fun e W' ⟨he, bel⟩ => ?_
  subst he
  exact ⟨_, rfl, _, _, _, [], _, [], hW', trodAll_mk1 (shut_bool Tryz.underlying4 _), (trodAll_cons_mk (Below.trod laidOut (by kernel_rfl) (of_decide_eq_true (by kernel_rfl)) k0 bel lt0) (trodAll_cons_mk (Below.trod laidOut (by kernel_rfl) (of_decide_eq_true (by kernel_rfl)) k1 bel lt1) trodAll_mk0)), rfl, bel.frame _, fun h => by cases h⟩

theorem over : Rows.setsTouchedRow.holds Tryz.pinned (OpenSpec.ofChange Rows.setsTouchedSpec) :=
  OpenClaim.holds_of_wide 4 Tryz.f4 rfl rfl rfl rfl rfl rfl rfl ⟨rfl, rfl, rfl, rfl, rfl⟩ rfl rfl rfl rfl rfl (by kernel_rfl) Tryz.func4 (by kernel_rfl)
    (of_decide_eq_true (by kernel_rfl)) (by unfold Func.isWrapper; first | (rw [if_pos (by decide +kernel)]; kernel_rfl) | (rw [if_neg (by decide +kernel)]; exact ⟨rfl, rfl⟩))
    (fun os started H enc _ => lifted os started H enc)

/-- The tied card: the row, and the tie that is given. -/
theorem setsTouched_holds : Rows.SetsTouchedCardSaid :=
  Claim7.holds_tied_plain_at .later [] [.data, .data] true _ false over (fun _ h => by cases h) (by kernel_rfl) (fun _ h => by cases h) setsTouched_row_tie rfl ⟨rfl, rfl⟩ (by kernel_rfl) rfl
    (fun f fn hf hfn => by
      obtain rfl : f = 4 := Option.some.inj ((show Tryz.prog.funcNamed "palisade/palisadelaw05.SetsTouched" = some 4 by kernel_rfl).symm.trans hf) |>.symm
      obtain rfl : fn = Tryz.f4 := (Option.some.inj (Tryz.func4.symm.trans hfn)).symm
      exact ⟨by kernel_rfl, fun j t ht => by
        rw [Tryz.params4] at ht
        have hm : t ∈ [24, 26] := by simpa using Array.mem_of_getElem? ht
        have hall : ([24, 26].all fun u => !Tryz.prog.wantsStandIn u) = true := by kernel_rfl
        exact (show Tryz.prog.wantsStandIn t = false by simpa using List.all_eq_true.1 hall t hm)⟩)
    (by kernel_rfl)
end Go.Proofs.YteglikljmkielaaGreatDoor.setsTouched
