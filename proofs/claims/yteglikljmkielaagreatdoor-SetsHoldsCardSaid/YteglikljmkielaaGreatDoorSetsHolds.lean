/- The law SetsHolds answers true for every input and leaves its arguments as they were. -/
import Derived.Test.YteglikljmkielaaGreatDoorSLawKit
import Derived.Test.YteglikljmkielaaGreatDoorCards
import Derived.Test.YteglikljmkielaaGreatDoorTie
import Derived.SevenTiedAt
import Derived.Test.YteglikljmkielaaGreatDoorZG1
import Derived.Test.YteglikljmkielaaGreatDoorZhM
namespace Go.Proofs.YteglikljmkielaaGreatDoor.setsHolds
open Go.ChangeShapes Go.WideShapes Go.ChangeAt Go.RowKit Go.Shelf
set_option linter.unusedVariables false
set_option linter.unusedSimpArgs false
attribute [local go_sem] Oper.semAt_some

set_option maxRecDepth 100000 in
set_option maxHeartbeats 4000000 in
theorem walk_no (k p n : Int) (w : World) (hL : Laid w) (hR : ¬ RightC k p) :
    Calls Tryz.prog 6 #[.agg #[.int .i64 k, .int .i64 p], .int .i64 n] w fun e w' => e = .returned (.bool true) ∧ Below w.heap.size w w' := by
  have HQ := Lib.hid (fun W => (refRight_any k p W).mono fun _ _ h => And.intro (h.2.1 hR) h.2.2)
  clear hR
  obtain ⟨W2, hW2⟩ : ∃ W2, (w.alloc (.cells #[.int .i64 k, .int .i64 p] 24)).alloc (.cells #[.bool false] 4) = W2 := ⟨_, rfl⟩
  have b0 : Blk W2 w.heap.size 24 #[.int .i64 k, .int .i64 p] := by rw [← hW2]; exact (Blk.new w _ _).alloc _
  have br : Blk W2 (w.heap.size + 1) 4 #[.bool false] := by rw [← hW2]; exact Blk.second w _ _ _
  have hB : Below w.heap.size w W2 := by rw [← hW2]; exact below_two w _ _
  replace hL := hL.next hB
  have c0 := b0.cell 0; have c1 := b0.cell 1; simp only [List.getElem?_toArray, List.getElem?_cons_zero, List.getElem?_cons_succ] at c0 c1
  refine (callsIn_wide (n := 20)).1 ?_
  refine callsIn_of_wp_marks Tryz.func6 rfl trivial ?_ rfl
  simp only [Tryz.ntmps6, List.size_toArray, List.length_cons, List.length_nil, Nat.reduceAdd, Nat.reduceSub, Array.replicate_succ, Array.replicate_zero, List.push_toArray, List.append_toArray, List.nil_append, List.cons_append]
  refine wpIn_wide.2 ?_
  go_wp2_with fail
  try rw [hW2]
  clear hW2
  have hS : (fun W : World => W.cell? ⟨w.heap.size, 0, none⟩ = some (.int .i64 k) ∧ W.cell? ⟨w.heap.size, 1, none⟩ = some (.int .i64 p)) _ := ⟨c0, c1⟩
  refine (wpIn_wide (n := 12)).1 (wpIn_mono (region_HF (Q := NoPanic _) (S := (fun W : World => W.cell? ⟨w.heap.size, 0, none⟩ = some (.int .i64 k) ∧ W.cell? ⟨w.heap.size, 1, none⟩ = some (.int .i64 p))) (by kernel_rfl) ?_) NoPanic.imp)
  refine anyHF_take (i := 0) (d := 19) (v := .agg #[.int .i64 k, .int .i64 p]) (by kernel_rfl) rfl (by kernel_rfl) (by kernel_rfl) (by kernel_rfl) rfl (fun _ _ _ h => h) ⟨Or.inl ⟨by rfl, fun w hS => by obtain ⟨h0, h1⟩ := hS; go_simp⟩, fun _ => rfl⟩ hS ?_
  simp only [List.setIfInBounds_toArray, List.set_cons_zero, List.set_cons_succ]
  refine anyHF_one (i := 1) (by kernel_rfl) rfl (by kernel_rfl) (by rfl) ?_
  gi_wp2_with fail
  refine ⟨trivial, (callsIn_wide.2 (HQ.out _)).mono ?_⟩
  rintro e w1 ⟨rfl, hB1⟩
  replace hB1 := below_undrew hB1
  replace b0 := b0.below hB1 b0.lt
  replace br := br.below hB1 br.lt
  replace hB := below_in hB hB1
  replace hL := hL.next hB1
  clear hS hB1 c0 c1
  have c0 := b0.cell 0; have c1 := b0.cell 1; simp only [List.getElem?_toArray, List.getElem?_cons_zero, List.getElem?_cons_succ] at c0 c1
  have hS : (fun W : World => W.cell? ⟨w.heap.size, 0, none⟩ = some (.int .i64 k) ∧ W.cell? ⟨w.heap.size, 1, none⟩ = some (.int .i64 p)) w1 := ⟨c0, c1⟩
  gi_wp2
  refine anyHF_take (i := 2) (d := 21) (v := .bool true) (by kernel_rfl) rfl (by kernel_rfl) (by kernel_rfl) (by kernel_rfl) rfl (fun _ _ _ h => h) ⟨Or.inl ⟨by rfl, fun w hS => by obtain ⟨h0, h1⟩ := hS; go_simp⟩, fun _ => rfl⟩ hS ?_
  simp only [List.setIfInBounds_toArray, List.set_cons_zero, List.set_cons_succ]
  refine anyHF_take (i := 3) (d := 22) (v := .bool true) (by kernel_rfl) rfl (by kernel_rfl) (by kernel_rfl) (by kernel_rfl) rfl (fun _ _ _ h => h) ⟨Or.inl ⟨by rfl, fun w hS => by obtain ⟨h0, h1⟩ := hS; go_simp⟩, fun _ => rfl⟩ hS ?_
  simp only [List.setIfInBounds_toArray, List.set_cons_zero, List.set_cons_succ]
  refine anyHF_take (i := 4) (d := 23) (v := undef) (by kernel_rfl) rfl (by kernel_rfl) (by kernel_rfl) (by kernel_rfl) rfl (fun _ _ _ h => h) ⟨Or.inr ⟨by rfl, rfl⟩, fun _ => rfl⟩ hS ?_
  simp only [List.setIfInBounds_toArray, List.set_cons_zero, List.set_cons_succ]
  refine anyHF_take (i := 5) (d := 24) (v := undef) (by kernel_rfl) rfl (by kernel_rfl) (by kernel_rfl) (by kernel_rfl) rfl (fun _ _ _ h => h) ⟨Or.inr ⟨by rfl, rfl⟩, fun _ => rfl⟩ hS ?_
  simp only [List.setIfInBounds_toArray, List.set_cons_zero, List.set_cons_succ]
  refine anyHF_take (i := 6) (d := 25) (v := undef) (by kernel_rfl) rfl (by kernel_rfl) (by kernel_rfl) (by kernel_rfl) rfl (fun _ _ _ h => h) ⟨Or.inr ⟨by rfl, rfl⟩, fun _ => rfl⟩ hS ?_
  simp only [List.setIfInBounds_toArray, List.set_cons_zero, List.set_cons_succ]
  refine anyHF_take (i := 7) (d := 26) (v := .bool true) (by kernel_rfl) rfl (by kernel_rfl) (by kernel_rfl) (by kernel_rfl) rfl (fun _ _ _ h => h) ⟨Or.inl ⟨by rfl, fun w hS => by obtain ⟨h0, h1⟩ := hS; go_simp⟩, fun _ => rfl⟩ hS ?_
  simp only [List.setIfInBounds_toArray, List.set_cons_zero, List.set_cons_succ]
  refine anyHF_take (i := 8) (d := 27) (v := .bool true) (by kernel_rfl) rfl (by kernel_rfl) (by kernel_rfl) (by kernel_rfl) rfl (fun _ _ _ h => h) ⟨Or.inl ⟨by rfl, fun w hS => by obtain ⟨h0, h1⟩ := hS; go_simp⟩, fun _ => rfl⟩ hS ?_
  simp only [List.setIfInBounds_toArray, List.set_cons_zero, List.set_cons_succ]
  refine anyHF_take (i := 9) (d := 28) (v := undef) (by kernel_rfl) rfl (by kernel_rfl) (by kernel_rfl) (by kernel_rfl) rfl (fun _ _ _ h => h) ⟨Or.inr ⟨by rfl, rfl⟩, fun _ => rfl⟩ hS ?_
  simp only [List.setIfInBounds_toArray, List.set_cons_zero, List.set_cons_succ]
  refine anyHF_take (i := 10) (d := 29) (v := undef) (by kernel_rfl) rfl (by kernel_rfl) (by kernel_rfl) (by kernel_rfl) rfl (fun _ _ _ h => h) ⟨Or.inr ⟨by rfl, rfl⟩, fun _ => rfl⟩ hS ?_
  simp only [List.setIfInBounds_toArray, List.set_cons_zero, List.set_cons_succ]
  refine anyHF_take (i := 11) (d := 30) (v := .bool true) (by kernel_rfl) rfl (by kernel_rfl) (by kernel_rfl) (by kernel_rfl) rfl (fun _ _ _ h => h) ⟨Or.inl ⟨by rfl, fun w hS => by obtain ⟨h0, h1⟩ := hS; go_simp⟩, fun _ => rfl⟩ hS ?_
  simp only [List.setIfInBounds_toArray, List.set_cons_zero, List.set_cons_succ]
  refine anyHF_take (i := 12) (d := 31) (v := .bool true) (by kernel_rfl) rfl (by kernel_rfl) (by kernel_rfl) (by kernel_rfl) rfl (fun _ _ _ h => h) ⟨Or.inl ⟨by rfl, fun w hS => by obtain ⟨h0, h1⟩ := hS; go_simp⟩, fun _ => rfl⟩ hS ?_
  simp only [List.setIfInBounds_toArray, List.set_cons_zero, List.set_cons_succ]
  refine anyHF_take (i := 13) (d := 32) (v := undef) (by kernel_rfl) rfl (by kernel_rfl) (by kernel_rfl) (by kernel_rfl) rfl (fun _ _ _ h => h) ⟨Or.inr ⟨by rfl, rfl⟩, fun _ => rfl⟩ hS ?_
  simp only [List.setIfInBounds_toArray, List.set_cons_zero, List.set_cons_succ]
  refine anyHF_take (i := 14) (d := 33) (v := undef) (by kernel_rfl) rfl (by kernel_rfl) (by kernel_rfl) (by kernel_rfl) rfl (fun _ _ _ h => h) ⟨Or.inr ⟨by rfl, rfl⟩, fun _ => rfl⟩ hS ?_
  simp only [List.setIfInBounds_toArray, List.set_cons_zero, List.set_cons_succ]
  refine anyHF_take (i := 16) (d := 35) (v := undef) (by kernel_rfl) rfl (by kernel_rfl) (by kernel_rfl) (by kernel_rfl) rfl (fun _ _ _ h => h) ⟨Or.inr ⟨by rfl, rfl⟩, fun _ => rfl⟩ hS ?_
  simp only [List.setIfInBounds_toArray, List.set_cons_zero, List.set_cons_succ]
  refine anyHF_skip (i := 15) (d := 34) (by kernel_rfl) rfl (by rfl) rfl wide_fn hS ?_
  simp only [List.setIfInBounds_toArray, List.set_cons_zero, List.set_cons_succ]
  refine anyHF_skip (i := 17) (d := 36) (by kernel_rfl) rfl (by rfl) rfl wide_fn hS ?_
  simp only [List.setIfInBounds_toArray, List.set_cons_zero, List.set_cons_succ]
  refine anyHF_take (i := 18) (d := 37) (v := undef) (by kernel_rfl) rfl (by kernel_rfl) (by kernel_rfl) (by kernel_rfl) rfl (fun _ _ _ h => h) ⟨Or.inr ⟨by rfl, rfl⟩, fun _ => rfl⟩ hS ?_
  simp only [List.setIfInBounds_toArray, List.set_cons_zero, List.set_cons_succ]
  refine anyHF_take (i := 19) (d := 38) (v := undef) (by kernel_rfl) rfl (by kernel_rfl) (by kernel_rfl) (by kernel_rfl) rfl (fun _ _ _ h => h) ⟨Or.inr ⟨by rfl, rfl⟩, fun _ => rfl⟩ hS ?_
  simp only [List.setIfInBounds_toArray, List.set_cons_zero, List.set_cons_succ]
  refine anyHF_take (i := 20) (d := 39) (v := .bool true) (by kernel_rfl) rfl (by kernel_rfl) (by kernel_rfl) (by kernel_rfl) rfl (fun _ _ _ h => h) ⟨Or.inl ⟨by rfl, fun w hS => by obtain ⟨h0, h1⟩ := hS; go_simp⟩, fun _ => rfl⟩ hS ?_
  simp only [List.setIfInBounds_toArray, List.set_cons_zero, List.set_cons_succ]
  refine anyHF_done (by kernel_rfl) ?_ _
  refine NoPanic.normal ?_
  clear hS c0 c1
  go_wp2_with (go_at_call 11; refine (works_any _ hL).mono ?_; rintro e wf ⟨rfl, hBf⟩; have crx := (br.below hBf br.lt).one; have frx := (br.below hBf br.lt).frozen 0)
  have h3 : Blk (wf.setCell ⟨w.heap.size + 1, 0, none⟩ (.bool true)) (w.heap.size + 1) 4 #[.bool true] := (br.below hBf br.lt).set_ 0 _
  have hBz := below_in hB hBf
  refine leaves_blks w [] _ (Left.nil _ _) (hBz.setCell (by simp) _) fun W' hB' hk => ?_
  have cr := (hk _ _ _ h3).one
  exact ⟨.bool true, by simp [results, Tryz.results6, go_sem, cr], rfl, hB'⟩
set_option maxRecDepth 100000 in
set_option maxHeartbeats 4000000 in
theorem walk_big (k p n : Int) (w : World) (hL : Laid w) (hR : RightC k p) (hp : 13 < p) :
    Calls Tryz.prog 6 #[.agg #[.int .i64 k, .int .i64 p], .int .i64 n] w fun e w' => e = .returned (.bool true) ∧ Below w.heap.size w w' := by
  have HQ := Lib.hid (fun W => (refRight_any k p W).mono fun _ _ h => And.intro (h.1 hR) h.2.2)
  have d1 : decide (13 < p) = true := decide_eq_true hp
  clear hR hp
  obtain ⟨W2, hW2⟩ : ∃ W2, (w.alloc (.cells #[.int .i64 k, .int .i64 p] 24)).alloc (.cells #[.bool false] 4) = W2 := ⟨_, rfl⟩
  have b0 : Blk W2 w.heap.size 24 #[.int .i64 k, .int .i64 p] := by rw [← hW2]; exact (Blk.new w _ _).alloc _
  have br : Blk W2 (w.heap.size + 1) 4 #[.bool false] := by rw [← hW2]; exact Blk.second w _ _ _
  have hB : Below w.heap.size w W2 := by rw [← hW2]; exact below_two w _ _
  replace hL := hL.next hB
  have c0 := b0.cell 0; have c1 := b0.cell 1; simp only [List.getElem?_toArray, List.getElem?_cons_zero, List.getElem?_cons_succ] at c0 c1
  refine (callsIn_wide (n := 20)).1 ?_
  refine callsIn_of_wp_marks Tryz.func6 rfl trivial ?_ rfl
  simp only [Tryz.ntmps6, List.size_toArray, List.length_cons, List.length_nil, Nat.reduceAdd, Nat.reduceSub, Array.replicate_succ, Array.replicate_zero, List.push_toArray, List.append_toArray, List.nil_append, List.cons_append]
  refine wpIn_wide.2 ?_
  go_wp2_with fail
  try rw [hW2]
  clear hW2
  have hS : (fun W : World => W.cell? ⟨w.heap.size, 0, none⟩ = some (.int .i64 k) ∧ W.cell? ⟨w.heap.size, 1, none⟩ = some (.int .i64 p)) _ := ⟨c0, c1⟩
  refine (wpIn_wide (n := 12)).1 (wpIn_mono (region_HF (Q := NoPanic _) (S := (fun W : World => W.cell? ⟨w.heap.size, 0, none⟩ = some (.int .i64 k) ∧ W.cell? ⟨w.heap.size, 1, none⟩ = some (.int .i64 p))) (by kernel_rfl) ?_) NoPanic.imp)
  refine anyHF_take (i := 0) (d := 19) (v := .agg #[.int .i64 k, .int .i64 p]) (by kernel_rfl) rfl (by kernel_rfl) (by kernel_rfl) (by kernel_rfl) rfl (fun _ _ _ h => h) ⟨Or.inl ⟨by rfl, fun w hS => by obtain ⟨h0, h1⟩ := hS; go_simp⟩, fun _ => rfl⟩ hS ?_
  simp only [List.setIfInBounds_toArray, List.set_cons_zero, List.set_cons_succ]
  refine anyHF_one (i := 1) (by kernel_rfl) rfl (by kernel_rfl) (by rfl) ?_
  gi_wp2_with fail
  refine ⟨trivial, (callsIn_wide.2 (HQ.out _)).mono ?_⟩
  rintro e w1 ⟨rfl, hB1⟩
  replace hB1 := below_undrew hB1
  replace b0 := b0.below hB1 b0.lt
  replace br := br.below hB1 br.lt
  replace hB := below_in hB hB1
  replace hL := hL.next hB1
  clear hS hB1 c0 c1
  have c0 := b0.cell 0; have c1 := b0.cell 1; simp only [List.getElem?_toArray, List.getElem?_cons_zero, List.getElem?_cons_succ] at c0 c1
  have hS : (fun W : World => W.cell? ⟨w.heap.size, 0, none⟩ = some (.int .i64 k) ∧ W.cell? ⟨w.heap.size, 1, none⟩ = some (.int .i64 p)) w1 := ⟨c0, c1⟩
  gi_wp2
  refine anyHF_take (i := 2) (d := 21) (v := .bool false) (by kernel_rfl) rfl (by kernel_rfl) (by kernel_rfl) (by kernel_rfl) rfl (fun _ _ _ h => h) ⟨Or.inl ⟨by rfl, fun w hS => by obtain ⟨h0, h1⟩ := hS; go_simp⟩, fun _ => rfl⟩ hS ?_
  simp only [List.setIfInBounds_toArray, List.set_cons_zero, List.set_cons_succ]
  refine anyHF_take (i := 3) (d := 22) (v := .bool false) (by kernel_rfl) rfl (by kernel_rfl) (by kernel_rfl) (by kernel_rfl) rfl (fun _ _ _ h => h) ⟨Or.inl ⟨by rfl, fun w hS => by obtain ⟨h0, h1⟩ := hS; go_simp⟩, fun _ => rfl⟩ hS ?_
  simp only [List.setIfInBounds_toArray, List.set_cons_zero, List.set_cons_succ]
  refine anyHF_take (i := 4) (d := 23) (v := .pointer (some ⟨w.heap.size, 1, none⟩)) (by kernel_rfl) rfl (by kernel_rfl) (by kernel_rfl) (by kernel_rfl) rfl (fun _ _ _ h => h) ⟨Or.inl ⟨by rfl, fun w hS => by obtain ⟨h0, h1⟩ := hS; go_simp⟩, fun _ => rfl⟩ hS ?_
  simp only [List.setIfInBounds_toArray, List.set_cons_zero, List.set_cons_succ]
  refine anyHF_take (i := 5) (d := 24) (v := .int .i64 p) (by kernel_rfl) rfl (by kernel_rfl) (by kernel_rfl) (by kernel_rfl) rfl (fun _ _ _ h => h) ⟨Or.inl ⟨by rfl, fun w hS => by obtain ⟨h0, h1⟩ := hS; go_simp⟩, fun _ => rfl⟩ hS ?_
  simp only [List.setIfInBounds_toArray, List.set_cons_zero, List.set_cons_succ]
  refine anyHF_take (i := 6) (d := 25) (v := .bool true) (by kernel_rfl) rfl (by kernel_rfl) (by kernel_rfl) (by kernel_rfl) rfl (fun _ _ _ h => h) ⟨Or.inl ⟨by rfl, fun w hS => by obtain ⟨h0, h1⟩ := hS; go_simp⟩, fun _ => rfl⟩ hS ?_
  simp only [List.setIfInBounds_toArray, List.set_cons_zero, List.set_cons_succ]
  refine anyHF_take (i := 7) (d := 26) (v := .bool true) (by kernel_rfl) rfl (by kernel_rfl) (by kernel_rfl) (by kernel_rfl) rfl (fun _ _ _ h => h) ⟨Or.inl ⟨by rfl, fun w hS => by obtain ⟨h0, h1⟩ := hS; go_simp⟩, fun _ => rfl⟩ hS ?_
  simp only [List.setIfInBounds_toArray, List.set_cons_zero, List.set_cons_succ]
  refine anyHF_take (i := 8) (d := 27) (v := .bool true) (by kernel_rfl) rfl (by kernel_rfl) (by kernel_rfl) (by kernel_rfl) rfl (fun _ _ _ h => h) ⟨Or.inl ⟨by rfl, fun w hS => by obtain ⟨h0, h1⟩ := hS; go_simp⟩, fun _ => rfl⟩ hS ?_
  simp only [List.setIfInBounds_toArray, List.set_cons_zero, List.set_cons_succ]
  refine anyHF_take (i := 9) (d := 28) (v := undef) (by kernel_rfl) rfl (by kernel_rfl) (by kernel_rfl) (by kernel_rfl) rfl (fun _ _ _ h => h) ⟨Or.inr ⟨by rfl, rfl⟩, fun _ => rfl⟩ hS ?_
  simp only [List.setIfInBounds_toArray, List.set_cons_zero, List.set_cons_succ]
  refine anyHF_take (i := 10) (d := 29) (v := undef) (by kernel_rfl) rfl (by kernel_rfl) (by kernel_rfl) (by kernel_rfl) rfl (fun _ _ _ h => h) ⟨Or.inr ⟨by rfl, rfl⟩, fun _ => rfl⟩ hS ?_
  simp only [List.setIfInBounds_toArray, List.set_cons_zero, List.set_cons_succ]
  refine anyHF_take (i := 11) (d := 30) (v := .bool true) (by kernel_rfl) rfl (by kernel_rfl) (by kernel_rfl) (by kernel_rfl) rfl (fun _ _ _ h => h) ⟨Or.inl ⟨by rfl, fun w hS => by obtain ⟨h0, h1⟩ := hS; go_simp⟩, fun _ => rfl⟩ hS ?_
  simp only [List.setIfInBounds_toArray, List.set_cons_zero, List.set_cons_succ]
  refine anyHF_take (i := 12) (d := 31) (v := .bool true) (by kernel_rfl) rfl (by kernel_rfl) (by kernel_rfl) (by kernel_rfl) rfl (fun _ _ _ h => h) ⟨Or.inl ⟨by rfl, fun w hS => by obtain ⟨h0, h1⟩ := hS; go_simp⟩, fun _ => rfl⟩ hS ?_
  simp only [List.setIfInBounds_toArray, List.set_cons_zero, List.set_cons_succ]
  refine anyHF_take (i := 13) (d := 32) (v := undef) (by kernel_rfl) rfl (by kernel_rfl) (by kernel_rfl) (by kernel_rfl) rfl (fun _ _ _ h => h) ⟨Or.inr ⟨by rfl, rfl⟩, fun _ => rfl⟩ hS ?_
  simp only [List.setIfInBounds_toArray, List.set_cons_zero, List.set_cons_succ]
  refine anyHF_take (i := 14) (d := 33) (v := undef) (by kernel_rfl) rfl (by kernel_rfl) (by kernel_rfl) (by kernel_rfl) rfl (fun _ _ _ h => h) ⟨Or.inr ⟨by rfl, rfl⟩, fun _ => rfl⟩ hS ?_
  simp only [List.setIfInBounds_toArray, List.set_cons_zero, List.set_cons_succ]
  refine anyHF_take (i := 16) (d := 35) (v := undef) (by kernel_rfl) rfl (by kernel_rfl) (by kernel_rfl) (by kernel_rfl) rfl (fun _ _ _ h => h) ⟨Or.inr ⟨by rfl, rfl⟩, fun _ => rfl⟩ hS ?_
  simp only [List.setIfInBounds_toArray, List.set_cons_zero, List.set_cons_succ]
  refine anyHF_skip (i := 15) (d := 34) (by kernel_rfl) rfl (by rfl) rfl wide_fn hS ?_
  simp only [List.setIfInBounds_toArray, List.set_cons_zero, List.set_cons_succ]
  refine anyHF_skip (i := 17) (d := 36) (by kernel_rfl) rfl (by rfl) rfl wide_fn hS ?_
  simp only [List.setIfInBounds_toArray, List.set_cons_zero, List.set_cons_succ]
  refine anyHF_take (i := 18) (d := 37) (v := undef) (by kernel_rfl) rfl (by kernel_rfl) (by kernel_rfl) (by kernel_rfl) rfl (fun _ _ _ h => h) ⟨Or.inr ⟨by rfl, rfl⟩, fun _ => rfl⟩ hS ?_
  simp only [List.setIfInBounds_toArray, List.set_cons_zero, List.set_cons_succ]
  refine anyHF_take (i := 19) (d := 38) (v := undef) (by kernel_rfl) rfl (by kernel_rfl) (by kernel_rfl) (by kernel_rfl) rfl (fun _ _ _ h => h) ⟨Or.inr ⟨by rfl, rfl⟩, fun _ => rfl⟩ hS ?_
  simp only [List.setIfInBounds_toArray, List.set_cons_zero, List.set_cons_succ]
  refine anyHF_take (i := 20) (d := 39) (v := .bool true) (by kernel_rfl) rfl (by kernel_rfl) (by kernel_rfl) (by kernel_rfl) rfl (fun _ _ _ h => h) ⟨Or.inl ⟨by rfl, fun w hS => by obtain ⟨h0, h1⟩ := hS; go_simp⟩, fun _ => rfl⟩ hS ?_
  simp only [List.setIfInBounds_toArray, List.set_cons_zero, List.set_cons_succ]
  refine anyHF_done (by kernel_rfl) ?_ _
  refine NoPanic.normal ?_
  clear hS c0 c1
  go_wp2_with (go_at_call 11; refine (works_any _ hL).mono ?_; rintro e wf ⟨rfl, hBf⟩; have crx := (br.below hBf br.lt).one; have frx := (br.below hBf br.lt).frozen 0)
  have h3 : Blk (wf.setCell ⟨w.heap.size + 1, 0, none⟩ (.bool true)) (w.heap.size + 1) 4 #[.bool true] := (br.below hBf br.lt).set_ 0 _
  have hBz := below_in hB hBf
  refine leaves_blks w [] _ (Left.nil _ _) (hBz.setCell (by simp) _) fun W' hB' hk => ?_
  have cr := (hk _ _ _ h3).one
  exact ⟨.bool true, by simp [results, Tryz.results6, go_sem, cr], rfl, hB'⟩
set_option maxRecDepth 100000 in
set_option maxHeartbeats 4000000 in
theorem walk_low (k p n : Int) (w : World) (hL : Laid w) (hR : RightC k p) (hp : ¬ 13 < p) (hn : n < 0) :
    Calls Tryz.prog 6 #[.agg #[.int .i64 k, .int .i64 p], .int .i64 n] w fun e w' => e = .returned (.bool true) ∧ Below w.heap.size w w' := by
  have HQ := Lib.hid (fun W => (refRight_any k p W).mono fun _ _ h => And.intro (h.1 hR) h.2.2)
  have d1 : decide (13 < p) = false := decide_eq_false hp
  have d2 : decide (n < 0) = true := decide_eq_true hn
  clear hR hp hn
  obtain ⟨W2, hW2⟩ : ∃ W2, (w.alloc (.cells #[.int .i64 k, .int .i64 p] 24)).alloc (.cells #[.bool false] 4) = W2 := ⟨_, rfl⟩
  have b0 : Blk W2 w.heap.size 24 #[.int .i64 k, .int .i64 p] := by rw [← hW2]; exact (Blk.new w _ _).alloc _
  have br : Blk W2 (w.heap.size + 1) 4 #[.bool false] := by rw [← hW2]; exact Blk.second w _ _ _
  have hB : Below w.heap.size w W2 := by rw [← hW2]; exact below_two w _ _
  replace hL := hL.next hB
  have c0 := b0.cell 0; have c1 := b0.cell 1; simp only [List.getElem?_toArray, List.getElem?_cons_zero, List.getElem?_cons_succ] at c0 c1
  refine (callsIn_wide (n := 20)).1 ?_
  refine callsIn_of_wp_marks Tryz.func6 rfl trivial ?_ rfl
  simp only [Tryz.ntmps6, List.size_toArray, List.length_cons, List.length_nil, Nat.reduceAdd, Nat.reduceSub, Array.replicate_succ, Array.replicate_zero, List.push_toArray, List.append_toArray, List.nil_append, List.cons_append]
  refine wpIn_wide.2 ?_
  go_wp2_with fail
  try rw [hW2]
  clear hW2
  have hS : (fun W : World => W.cell? ⟨w.heap.size, 0, none⟩ = some (.int .i64 k) ∧ W.cell? ⟨w.heap.size, 1, none⟩ = some (.int .i64 p)) _ := ⟨c0, c1⟩
  refine (wpIn_wide (n := 12)).1 (wpIn_mono (region_HF (Q := NoPanic _) (S := (fun W : World => W.cell? ⟨w.heap.size, 0, none⟩ = some (.int .i64 k) ∧ W.cell? ⟨w.heap.size, 1, none⟩ = some (.int .i64 p))) (by kernel_rfl) ?_) NoPanic.imp)
  refine anyHF_take (i := 0) (d := 19) (v := .agg #[.int .i64 k, .int .i64 p]) (by kernel_rfl) rfl (by kernel_rfl) (by kernel_rfl) (by kernel_rfl) rfl (fun _ _ _ h => h) ⟨Or.inl ⟨by rfl, fun w hS => by obtain ⟨h0, h1⟩ := hS; go_simp⟩, fun _ => rfl⟩ hS ?_
  simp only [List.setIfInBounds_toArray, List.set_cons_zero, List.set_cons_succ]
  refine anyHF_one (i := 1) (by kernel_rfl) rfl (by kernel_rfl) (by rfl) ?_
  gi_wp2_with fail
  refine ⟨trivial, (callsIn_wide.2 (HQ.out _)).mono ?_⟩
  rintro e w1 ⟨rfl, hB1⟩
  replace hB1 := below_undrew hB1
  replace b0 := b0.below hB1 b0.lt
  replace br := br.below hB1 br.lt
  replace hB := below_in hB hB1
  replace hL := hL.next hB1
  clear hS hB1 c0 c1
  have c0 := b0.cell 0; have c1 := b0.cell 1; simp only [List.getElem?_toArray, List.getElem?_cons_zero, List.getElem?_cons_succ] at c0 c1
  have hS : (fun W : World => W.cell? ⟨w.heap.size, 0, none⟩ = some (.int .i64 k) ∧ W.cell? ⟨w.heap.size, 1, none⟩ = some (.int .i64 p)) w1 := ⟨c0, c1⟩
  gi_wp2
  refine anyHF_take (i := 2) (d := 21) (v := .bool false) (by kernel_rfl) rfl (by kernel_rfl) (by kernel_rfl) (by kernel_rfl) rfl (fun _ _ _ h => h) ⟨Or.inl ⟨by rfl, fun w hS => by obtain ⟨h0, h1⟩ := hS; go_simp⟩, fun _ => rfl⟩ hS ?_
  simp only [List.setIfInBounds_toArray, List.set_cons_zero, List.set_cons_succ]
  refine anyHF_take (i := 3) (d := 22) (v := .bool false) (by kernel_rfl) rfl (by kernel_rfl) (by kernel_rfl) (by kernel_rfl) rfl (fun _ _ _ h => h) ⟨Or.inl ⟨by rfl, fun w hS => by obtain ⟨h0, h1⟩ := hS; go_simp⟩, fun _ => rfl⟩ hS ?_
  simp only [List.setIfInBounds_toArray, List.set_cons_zero, List.set_cons_succ]
  refine anyHF_take (i := 4) (d := 23) (v := .pointer (some ⟨w.heap.size, 1, none⟩)) (by kernel_rfl) rfl (by kernel_rfl) (by kernel_rfl) (by kernel_rfl) rfl (fun _ _ _ h => h) ⟨Or.inl ⟨by rfl, fun w hS => by obtain ⟨h0, h1⟩ := hS; go_simp⟩, fun _ => rfl⟩ hS ?_
  simp only [List.setIfInBounds_toArray, List.set_cons_zero, List.set_cons_succ]
  refine anyHF_take (i := 5) (d := 24) (v := .int .i64 p) (by kernel_rfl) rfl (by kernel_rfl) (by kernel_rfl) (by kernel_rfl) rfl (fun _ _ _ h => h) ⟨Or.inl ⟨by rfl, fun w hS => by obtain ⟨h0, h1⟩ := hS; go_simp⟩, fun _ => rfl⟩ hS ?_
  simp only [List.setIfInBounds_toArray, List.set_cons_zero, List.set_cons_succ]
  refine anyHF_take (i := 6) (d := 25) (v := .bool false) (by kernel_rfl) rfl (by kernel_rfl) (by kernel_rfl) (by kernel_rfl) rfl (fun _ _ _ h => h) ⟨Or.inl ⟨by rfl, fun w hS => by obtain ⟨h0, h1⟩ := hS; go_simp⟩, fun _ => rfl⟩ hS ?_
  simp only [List.setIfInBounds_toArray, List.set_cons_zero, List.set_cons_succ]
  refine anyHF_take (i := 7) (d := 26) (v := .bool false) (by kernel_rfl) rfl (by kernel_rfl) (by kernel_rfl) (by kernel_rfl) rfl (fun _ _ _ h => h) ⟨Or.inl ⟨by rfl, fun w hS => by obtain ⟨h0, h1⟩ := hS; go_simp⟩, fun _ => rfl⟩ hS ?_
  simp only [List.setIfInBounds_toArray, List.set_cons_zero, List.set_cons_succ]
  refine anyHF_take (i := 8) (d := 27) (v := .bool false) (by kernel_rfl) rfl (by kernel_rfl) (by kernel_rfl) (by kernel_rfl) rfl (fun _ _ _ h => h) ⟨Or.inl ⟨by rfl, fun w hS => by obtain ⟨h0, h1⟩ := hS; go_simp⟩, fun _ => rfl⟩ hS ?_
  simp only [List.setIfInBounds_toArray, List.set_cons_zero, List.set_cons_succ]
  refine anyHF_take (i := 9) (d := 28) (v := .int .i64 n) (by kernel_rfl) rfl (by kernel_rfl) (by kernel_rfl) (by kernel_rfl) rfl (fun _ _ _ h => h) ⟨Or.inl ⟨by rfl, fun w hS => by obtain ⟨h0, h1⟩ := hS; go_simp⟩, fun _ => rfl⟩ hS ?_
  simp only [List.setIfInBounds_toArray, List.set_cons_zero, List.set_cons_succ]
  refine anyHF_take (i := 10) (d := 29) (v := .bool true) (by kernel_rfl) rfl (by kernel_rfl) (by kernel_rfl) (by kernel_rfl) rfl (fun _ _ _ h => h) ⟨Or.inl ⟨by rfl, fun w hS => by obtain ⟨h0, h1⟩ := hS; go_simp⟩, fun _ => rfl⟩ hS ?_
  simp only [List.setIfInBounds_toArray, List.set_cons_zero, List.set_cons_succ]
  refine anyHF_take (i := 11) (d := 30) (v := .bool true) (by kernel_rfl) rfl (by kernel_rfl) (by kernel_rfl) (by kernel_rfl) rfl (fun _ _ _ h => h) ⟨Or.inl ⟨by rfl, fun w hS => by obtain ⟨h0, h1⟩ := hS; go_simp⟩, fun _ => rfl⟩ hS ?_
  simp only [List.setIfInBounds_toArray, List.set_cons_zero, List.set_cons_succ]
  refine anyHF_take (i := 12) (d := 31) (v := .bool true) (by kernel_rfl) rfl (by kernel_rfl) (by kernel_rfl) (by kernel_rfl) rfl (fun _ _ _ h => h) ⟨Or.inl ⟨by rfl, fun w hS => by obtain ⟨h0, h1⟩ := hS; go_simp⟩, fun _ => rfl⟩ hS ?_
  simp only [List.setIfInBounds_toArray, List.set_cons_zero, List.set_cons_succ]
  refine anyHF_take (i := 13) (d := 32) (v := undef) (by kernel_rfl) rfl (by kernel_rfl) (by kernel_rfl) (by kernel_rfl) rfl (fun _ _ _ h => h) ⟨Or.inr ⟨by rfl, rfl⟩, fun _ => rfl⟩ hS ?_
  simp only [List.setIfInBounds_toArray, List.set_cons_zero, List.set_cons_succ]
  refine anyHF_take (i := 14) (d := 33) (v := undef) (by kernel_rfl) rfl (by kernel_rfl) (by kernel_rfl) (by kernel_rfl) rfl (fun _ _ _ h => h) ⟨Or.inr ⟨by rfl, rfl⟩, fun _ => rfl⟩ hS ?_
  simp only [List.setIfInBounds_toArray, List.set_cons_zero, List.set_cons_succ]
  refine anyHF_take (i := 16) (d := 35) (v := undef) (by kernel_rfl) rfl (by kernel_rfl) (by kernel_rfl) (by kernel_rfl) rfl (fun _ _ _ h => h) ⟨Or.inr ⟨by rfl, rfl⟩, fun _ => rfl⟩ hS ?_
  simp only [List.setIfInBounds_toArray, List.set_cons_zero, List.set_cons_succ]
  refine anyHF_skip (i := 15) (d := 34) (by kernel_rfl) rfl (by rfl) rfl wide_fn hS ?_
  simp only [List.setIfInBounds_toArray, List.set_cons_zero, List.set_cons_succ]
  refine anyHF_skip (i := 17) (d := 36) (by kernel_rfl) rfl (by rfl) rfl wide_fn hS ?_
  simp only [List.setIfInBounds_toArray, List.set_cons_zero, List.set_cons_succ]
  refine anyHF_take (i := 18) (d := 37) (v := undef) (by kernel_rfl) rfl (by kernel_rfl) (by kernel_rfl) (by kernel_rfl) rfl (fun _ _ _ h => h) ⟨Or.inr ⟨by rfl, rfl⟩, fun _ => rfl⟩ hS ?_
  simp only [List.setIfInBounds_toArray, List.set_cons_zero, List.set_cons_succ]
  refine anyHF_take (i := 19) (d := 38) (v := undef) (by kernel_rfl) rfl (by kernel_rfl) (by kernel_rfl) (by kernel_rfl) rfl (fun _ _ _ h => h) ⟨Or.inr ⟨by rfl, rfl⟩, fun _ => rfl⟩ hS ?_
  simp only [List.setIfInBounds_toArray, List.set_cons_zero, List.set_cons_succ]
  refine anyHF_take (i := 20) (d := 39) (v := .bool true) (by kernel_rfl) rfl (by kernel_rfl) (by kernel_rfl) (by kernel_rfl) rfl (fun _ _ _ h => h) ⟨Or.inl ⟨by rfl, fun w hS => by obtain ⟨h0, h1⟩ := hS; go_simp⟩, fun _ => rfl⟩ hS ?_
  simp only [List.setIfInBounds_toArray, List.set_cons_zero, List.set_cons_succ]
  refine anyHF_done (by kernel_rfl) ?_ _
  refine NoPanic.normal ?_
  clear hS c0 c1
  go_wp2_with (go_at_call 11; refine (works_any _ hL).mono ?_; rintro e wf ⟨rfl, hBf⟩; have crx := (br.below hBf br.lt).one; have frx := (br.below hBf br.lt).frozen 0)
  have h3 : Blk (wf.setCell ⟨w.heap.size + 1, 0, none⟩ (.bool true)) (w.heap.size + 1) 4 #[.bool true] := (br.below hBf br.lt).set_ 0 _
  have hBz := below_in hB hBf
  refine leaves_blks w [] _ (Left.nil _ _) (hBz.setCell (by simp) _) fun W' hB' hk => ?_
  have cr := (hk _ _ _ h3).one
  exact ⟨.bool true, by simp [results, Tryz.results6, go_sem, cr], rfl, hB'⟩
set_option maxRecDepth 100000 in
set_option maxHeartbeats 4000000 in
theorem walk_high (k p n : Int) (w : World) (hL : Laid w) (hR : RightC k p) (hp : ¬ 13 < p) (hn : ¬ n < 0) (hh : (p - shortN k) * (p - 1) ≤ n) :
    Calls Tryz.prog 6 #[.agg #[.int .i64 k, .int .i64 p], .int .i64 n] w fun e w' => e = .returned (.bool true) ∧ Below w.heap.size w w' := by
  have HQ := Lib.hid (fun W => (refRight_any k p W).mono fun _ _ h => And.intro (h.1 hR) h.2.2)
  have HDa := Lib.hid (fun W => refData_any k p hR W)
  have HRo := Lib.hid (fun W => refRows_any k p hR W)
  have hmul : 0 ≤ (p - shortN k) * (p - 1) ∧ (p - shortN k) * (p - 1) ≤ 1000 := by
    obtain ⟨p1, p2, s1, s2, m1, m2⟩ := hR.und
    have := Int.mul_le_mul (show p - shortN k ≤ 17 by omega) (show p - 1 ≤ 17 by omega) (by omega) (by omega)
    exact ⟨Int.mul_nonneg (by omega) (by omega), by omega⟩
  have d1 : decide (13 < p) = false := decide_eq_false hp
  have d2 : decide (n < 0) = false := decide_eq_false hn
  clear hR hp hn
  generalize p - shortN k = d at *
  generalize hRR : p - 1 = R at *
  clear hRR
  have d3 : decide (d * R ≤ n) = true := decide_eq_true hh
  obtain ⟨q, hq⟩ : ∃ q, d * R = q := ⟨_, rfl⟩
  rw [hq] at hmul d3
  have dw : IntKind.i64.wrap (d * R) = d * R := IntWalk.i64_in _ (by omega)
  rw [hq] at dw
  clear hh
  obtain ⟨W2, hW2⟩ : ∃ W2, (w.alloc (.cells #[.int .i64 k, .int .i64 p] 24)).alloc (.cells #[.bool false] 4) = W2 := ⟨_, rfl⟩
  have b0 : Blk W2 w.heap.size 24 #[.int .i64 k, .int .i64 p] := by rw [← hW2]; exact (Blk.new w _ _).alloc _
  have br : Blk W2 (w.heap.size + 1) 4 #[.bool false] := by rw [← hW2]; exact Blk.second w _ _ _
  have hB : Below w.heap.size w W2 := by rw [← hW2]; exact below_two w _ _
  replace hL := hL.next hB
  have c0 := b0.cell 0; have c1 := b0.cell 1; simp only [List.getElem?_toArray, List.getElem?_cons_zero, List.getElem?_cons_succ] at c0 c1
  refine (callsIn_wide (n := 20)).1 ?_
  refine callsIn_of_wp_marks Tryz.func6 rfl trivial ?_ rfl
  simp only [Tryz.ntmps6, List.size_toArray, List.length_cons, List.length_nil, Nat.reduceAdd, Nat.reduceSub, Array.replicate_succ, Array.replicate_zero, List.push_toArray, List.append_toArray, List.nil_append, List.cons_append]
  refine wpIn_wide.2 ?_
  go_wp2_with fail
  try rw [hW2]
  clear hW2
  have hS : (fun W : World => W.cell? ⟨w.heap.size, 0, none⟩ = some (.int .i64 k) ∧ W.cell? ⟨w.heap.size, 1, none⟩ = some (.int .i64 p)) _ := ⟨c0, c1⟩
  refine (wpIn_wide (n := 12)).1 (wpIn_mono (region_HF (Q := NoPanic _) (S := (fun W : World => W.cell? ⟨w.heap.size, 0, none⟩ = some (.int .i64 k) ∧ W.cell? ⟨w.heap.size, 1, none⟩ = some (.int .i64 p))) (by kernel_rfl) ?_) NoPanic.imp)
  refine anyHF_take (i := 0) (d := 19) (v := .agg #[.int .i64 k, .int .i64 p]) (by kernel_rfl) rfl (by kernel_rfl) (by kernel_rfl) (by kernel_rfl) rfl (fun _ _ _ h => h) ⟨Or.inl ⟨by rfl, fun w hS => by obtain ⟨h0, h1⟩ := hS; go_simp⟩, fun _ => rfl⟩ hS ?_
  simp only [List.setIfInBounds_toArray, List.set_cons_zero, List.set_cons_succ]
  refine anyHF_one (i := 1) (by kernel_rfl) rfl (by kernel_rfl) (by rfl) ?_
  gi_wp2_with fail
  refine ⟨trivial, (callsIn_wide.2 (HQ.out _)).mono ?_⟩
  rintro e w1 ⟨rfl, hB1⟩
  replace hB1 := below_undrew hB1
  replace b0 := b0.below hB1 b0.lt
  replace br := br.below hB1 br.lt
  replace hB := below_in hB hB1
  replace hL := hL.next hB1
  clear hS hB1 c0 c1
  have c0 := b0.cell 0; have c1 := b0.cell 1; simp only [List.getElem?_toArray, List.getElem?_cons_zero, List.getElem?_cons_succ] at c0 c1
  have hS : (fun W : World => W.cell? ⟨w.heap.size, 0, none⟩ = some (.int .i64 k) ∧ W.cell? ⟨w.heap.size, 1, none⟩ = some (.int .i64 p)) w1 := ⟨c0, c1⟩
  gi_wp2
  refine anyHF_take (i := 2) (d := 21) (v := .bool false) (by kernel_rfl) rfl (by kernel_rfl) (by kernel_rfl) (by kernel_rfl) rfl (fun _ _ _ h => h) ⟨Or.inl ⟨by rfl, fun w hS => by obtain ⟨h0, h1⟩ := hS; go_simp⟩, fun _ => rfl⟩ hS ?_
  simp only [List.setIfInBounds_toArray, List.set_cons_zero, List.set_cons_succ]
  refine anyHF_take (i := 3) (d := 22) (v := .bool false) (by kernel_rfl) rfl (by kernel_rfl) (by kernel_rfl) (by kernel_rfl) rfl (fun _ _ _ h => h) ⟨Or.inl ⟨by rfl, fun w hS => by obtain ⟨h0, h1⟩ := hS; go_simp⟩, fun _ => rfl⟩ hS ?_
  simp only [List.setIfInBounds_toArray, List.set_cons_zero, List.set_cons_succ]
  refine anyHF_take (i := 4) (d := 23) (v := .pointer (some ⟨w.heap.size, 1, none⟩)) (by kernel_rfl) rfl (by kernel_rfl) (by kernel_rfl) (by kernel_rfl) rfl (fun _ _ _ h => h) ⟨Or.inl ⟨by rfl, fun w hS => by obtain ⟨h0, h1⟩ := hS; go_simp⟩, fun _ => rfl⟩ hS ?_
  simp only [List.setIfInBounds_toArray, List.set_cons_zero, List.set_cons_succ]
  refine anyHF_take (i := 5) (d := 24) (v := .int .i64 p) (by kernel_rfl) rfl (by kernel_rfl) (by kernel_rfl) (by kernel_rfl) rfl (fun _ _ _ h => h) ⟨Or.inl ⟨by rfl, fun w hS => by obtain ⟨h0, h1⟩ := hS; go_simp⟩, fun _ => rfl⟩ hS ?_
  simp only [List.setIfInBounds_toArray, List.set_cons_zero, List.set_cons_succ]
  refine anyHF_take (i := 6) (d := 25) (v := .bool false) (by kernel_rfl) rfl (by kernel_rfl) (by kernel_rfl) (by kernel_rfl) rfl (fun _ _ _ h => h) ⟨Or.inl ⟨by rfl, fun w hS => by obtain ⟨h0, h1⟩ := hS; go_simp⟩, fun _ => rfl⟩ hS ?_
  simp only [List.setIfInBounds_toArray, List.set_cons_zero, List.set_cons_succ]
  refine anyHF_take (i := 7) (d := 26) (v := .bool false) (by kernel_rfl) rfl (by kernel_rfl) (by kernel_rfl) (by kernel_rfl) rfl (fun _ _ _ h => h) ⟨Or.inl ⟨by rfl, fun w hS => by obtain ⟨h0, h1⟩ := hS; go_simp⟩, fun _ => rfl⟩ hS ?_
  simp only [List.setIfInBounds_toArray, List.set_cons_zero, List.set_cons_succ]
  refine anyHF_take (i := 8) (d := 27) (v := .bool false) (by kernel_rfl) rfl (by kernel_rfl) (by kernel_rfl) (by kernel_rfl) rfl (fun _ _ _ h => h) ⟨Or.inl ⟨by rfl, fun w hS => by obtain ⟨h0, h1⟩ := hS; go_simp⟩, fun _ => rfl⟩ hS ?_
  simp only [List.setIfInBounds_toArray, List.set_cons_zero, List.set_cons_succ]
  refine anyHF_take (i := 9) (d := 28) (v := .int .i64 n) (by kernel_rfl) rfl (by kernel_rfl) (by kernel_rfl) (by kernel_rfl) rfl (fun _ _ _ h => h) ⟨Or.inl ⟨by rfl, fun w hS => by obtain ⟨h0, h1⟩ := hS; go_simp⟩, fun _ => rfl⟩ hS ?_
  simp only [List.setIfInBounds_toArray, List.set_cons_zero, List.set_cons_succ]
  refine anyHF_take (i := 10) (d := 29) (v := .bool false) (by kernel_rfl) rfl (by kernel_rfl) (by kernel_rfl) (by kernel_rfl) rfl (fun _ _ _ h => h) ⟨Or.inl ⟨by rfl, fun w hS => by obtain ⟨h0, h1⟩ := hS; go_simp⟩, fun _ => rfl⟩ hS ?_
  simp only [List.setIfInBounds_toArray, List.set_cons_zero, List.set_cons_succ]
  refine anyHF_take (i := 11) (d := 30) (v := .bool false) (by kernel_rfl) rfl (by kernel_rfl) (by kernel_rfl) (by kernel_rfl) rfl (fun _ _ _ h => h) ⟨Or.inl ⟨by rfl, fun w hS => by obtain ⟨h0, h1⟩ := hS; go_simp⟩, fun _ => rfl⟩ hS ?_
  simp only [List.setIfInBounds_toArray, List.set_cons_zero, List.set_cons_succ]
  refine anyHF_take (i := 12) (d := 31) (v := .bool false) (by kernel_rfl) rfl (by kernel_rfl) (by kernel_rfl) (by kernel_rfl) rfl (fun _ _ _ h => h) ⟨Or.inl ⟨by rfl, fun w hS => by obtain ⟨h0, h1⟩ := hS; go_simp⟩, fun _ => rfl⟩ hS ?_
  simp only [List.setIfInBounds_toArray, List.set_cons_zero, List.set_cons_succ]
  refine anyHF_take (i := 13) (d := 32) (v := .int .i64 n) (by kernel_rfl) rfl (by kernel_rfl) (by kernel_rfl) (by kernel_rfl) rfl (fun _ _ _ h => h) ⟨Or.inl ⟨by rfl, fun w hS => by obtain ⟨h0, h1⟩ := hS; go_simp⟩, fun _ => rfl⟩ hS ?_
  simp only [List.setIfInBounds_toArray, List.set_cons_zero, List.set_cons_succ]
  refine anyHF_take (i := 14) (d := 33) (v := .agg #[.int .i64 k, .int .i64 p]) (by kernel_rfl) rfl (by kernel_rfl) (by kernel_rfl) (by kernel_rfl) rfl (fun _ _ _ h => h) ⟨Or.inl ⟨by rfl, fun w hS => by obtain ⟨h0, h1⟩ := hS; go_simp⟩, fun _ => rfl⟩ hS ?_
  simp only [List.setIfInBounds_toArray, List.set_cons_zero, List.set_cons_succ]
  refine anyHF_take (i := 16) (d := 35) (v := .agg #[.int .i64 k, .int .i64 p]) (by kernel_rfl) rfl (by kernel_rfl) (by kernel_rfl) (by kernel_rfl) rfl (fun _ _ _ h => h) ⟨Or.inl ⟨by rfl, fun w hS => by obtain ⟨h0, h1⟩ := hS; go_simp⟩, fun _ => rfl⟩ hS ?_
  simp only [List.setIfInBounds_toArray, List.set_cons_zero, List.set_cons_succ]
  refine anyHF_one (i := 15) (by kernel_rfl) rfl (by kernel_rfl) (by rfl) ?_
  gi_wp2_with fail
  refine ⟨trivial, (callsIn_wide.2 (HDa.out _)).mono ?_⟩
  rintro e w1 ⟨rfl, hB1⟩
  replace b0 := b0.below hB1 b0.lt
  replace br := br.below hB1 br.lt
  replace hB := below_in hB hB1
  replace hL := hL.next hB1
  clear hS hB1 c0 c1
  have c0 := b0.cell 0; have c1 := b0.cell 1; simp only [List.getElem?_toArray, List.getElem?_cons_zero, List.getElem?_cons_succ] at c0 c1
  have hS : (fun W : World => W.cell? ⟨w.heap.size, 0, none⟩ = some (.int .i64 k) ∧ W.cell? ⟨w.heap.size, 1, none⟩ = some (.int .i64 p)) w1 := ⟨c0, c1⟩
  gi_wp2
  refine anyHF_one (i := 17) (by kernel_rfl) rfl (by kernel_rfl) (by rfl) ?_
  gi_wp2_with fail
  refine ⟨trivial, (callsIn_wide.2 (HRo.out _)).mono ?_⟩
  rintro e w1 ⟨rfl, hB1⟩
  replace b0 := b0.below hB1 b0.lt
  replace br := br.below hB1 br.lt
  replace hB := below_in hB hB1
  replace hL := hL.next hB1
  clear hS hB1 c0 c1
  have c0 := b0.cell 0; have c1 := b0.cell 1; simp only [List.getElem?_toArray, List.getElem?_cons_zero, List.getElem?_cons_succ] at c0 c1
  have hS : (fun W : World => W.cell? ⟨w.heap.size, 0, none⟩ = some (.int .i64 k) ∧ W.cell? ⟨w.heap.size, 1, none⟩ = some (.int .i64 p)) w1 := ⟨c0, c1⟩
  gi_wp2
  refine anyHF_take (i := 18) (d := 37) (v := .int .i64 q) (by kernel_rfl) rfl (by kernel_rfl) (by kernel_rfl) (by kernel_rfl) rfl (fun _ _ _ h => h) ⟨Or.inl ⟨by rfl, fun w hS => by obtain ⟨h0, h1⟩ := hS; go_simp⟩, fun _ => rfl⟩ hS ?_
  simp only [List.setIfInBounds_toArray, List.set_cons_zero, List.set_cons_succ]
  refine anyHF_take (i := 19) (d := 38) (v := .bool true) (by kernel_rfl) rfl (by kernel_rfl) (by kernel_rfl) (by kernel_rfl) rfl (fun _ _ _ h => h) ⟨Or.inl ⟨by rfl, fun w hS => by obtain ⟨h0, h1⟩ := hS; go_simp⟩, fun _ => rfl⟩ hS ?_
  simp only [List.setIfInBounds_toArray, List.set_cons_zero, List.set_cons_succ]
  refine anyHF_take (i := 20) (d := 39) (v := .bool true) (by kernel_rfl) rfl (by kernel_rfl) (by kernel_rfl) (by kernel_rfl) rfl (fun _ _ _ h => h) ⟨Or.inl ⟨by rfl, fun w hS => by obtain ⟨h0, h1⟩ := hS; go_simp⟩, fun _ => rfl⟩ hS ?_
  simp only [List.setIfInBounds_toArray, List.set_cons_zero, List.set_cons_succ]
  refine anyHF_done (by kernel_rfl) ?_ _
  refine NoPanic.normal ?_
  clear hS c0 c1
  go_wp2_with (go_at_call 11; refine (works_any _ hL).mono ?_; rintro e wf ⟨rfl, hBf⟩; have crx := (br.below hBf br.lt).one; have frx := (br.below hBf br.lt).frozen 0)
  have h3 : Blk (wf.setCell ⟨w.heap.size + 1, 0, none⟩ (.bool true)) (w.heap.size + 1) 4 #[.bool true] := (br.below hBf br.lt).set_ 0 _
  have hBz := below_in hB hBf
  refine leaves_blks w [] _ (Left.nil _ _) (hBz.setCell (by simp) _) fun W' hB' hk => ?_
  have cr := (hk _ _ _ h3).one
  exact ⟨.bool true, by simp [results, Tryz.results6, go_sem, cr], rfl, hB'⟩
set_option maxRecDepth 100000 in
set_option maxHeartbeats 4000000 in
theorem main (k p n : Int) (w : World) (hL : Laid w) (hR : RightC k p) (hp : ¬ 13 < p) (hn : ¬ n < 0) (hh : n < (p - shortN k) * (p - 1)) :
    Calls Tryz.prog 6 #[.agg #[.int .i64 k, .int .i64 p], .int .i64 n] w fun e w' => e = .returned (.bool true) ∧ Below w.heap.size w w' := by
  have HQ := Lib.hid (fun W => (refRight_any k p W).mono fun _ _ h => And.intro (h.1 hR) h.2.2)
  have HDa := Lib.hid (fun W => refData_any k p hR W)
  have HRo := Lib.hid (fun W => refRows_any k p hR W)
  have hmul : 0 ≤ (p - shortN k) * (p - 1) ∧ (p - shortN k) * (p - 1) ≤ 1000 := by
    obtain ⟨p1, p2, s1, s2, m1, m2⟩ := hR.und
    have := Int.mul_le_mul (show p - shortN k ≤ 17 by omega) (show p - 1 ≤ 17 by omega) (by omega) (by omega)
    exact ⟨Int.mul_nonneg (by omega) (by omega), by omega⟩
  have hp13 : p ≤ 13 := by omega
  have d1 : decide (13 < p) = false := decide_eq_false hp
  have d2 : decide (n < 0) = false := decide_eq_false hn
  have HPl := Lib.hid (fun W => refPlace_any k p n hR (by omega) (by omega) W)
  have HLi := Lib.hid (fun W hL => setsLines_yes k p hR W hL)
  obtain ⟨x, y, hxe, hye, hx, hy⟩ : ∃ x y, n % (p - shortN k) = x ∧ n / (p - shortN k) = y ∧ (0 ≤ x ∧ x < p - shortN k) ∧ (0 ≤ y ∧ y < p - 1) := by
    obtain ⟨p1, p2, s1, s2, m1, m2⟩ := hR.und
    have h0 : 0 < p - shortN k := by omega
    refine ⟨_, _, rfl, rfl, ⟨Int.emod_nonneg _ (by omega), Int.emod_lt_of_pos _ h0⟩, Int.ediv_nonneg (by omega) (by omega), ?_⟩
    exact Int.ediv_lt_of_lt_mul h0 (by rw [Int.mul_comm]; exact hh)
  rw [hxe, hye] at HPl
  clear hxe hye hp hn
  have HKeep := Lib.hid (And.intro hR (And.intro hx (And.intro hy hp13)))
  have HDe := Lib.hid (show ∃ e, p - shortN k = e from ⟨_, rfl⟩)
  clear hR hx hy hp13
  obtain ⟨d, hde⟩ := HDe.out
  obtain ⟨R, hRe⟩ : ∃ R, p - 1 = R := ⟨_, rfl⟩
  rw [hde] at HDa
  rw [hRe] at HRo
  rw [hde, hRe] at hmul hh
  replace hde := Lib.hid hde
  replace hRe := Lib.hid hRe
  obtain ⟨q, hq⟩ : ∃ q, d * R = q := ⟨_, rfl⟩
  have dw : IntKind.i64.wrap (d * R) = d * R := IntWalk.i64_in _ (by omega)
  rw [hq] at hmul hh dw
  have d3 : decide (q ≤ n) = false := decide_eq_false (by omega)
  clear hh HDe
  obtain ⟨W2, hW2⟩ : ∃ W2, (w.alloc (.cells #[.int .i64 k, .int .i64 p] 24)).alloc (.cells #[.bool false] 4) = W2 := ⟨_, rfl⟩
  have b0 : Blk W2 w.heap.size 24 #[.int .i64 k, .int .i64 p] := by rw [← hW2]; exact (Blk.new w _ _).alloc _
  have br : Blk W2 (w.heap.size + 1) 4 #[.bool false] := by rw [← hW2]; exact Blk.second w _ _ _
  have hB : Below w.heap.size w W2 := by rw [← hW2]; exact below_two w _ _
  replace hL := hL.next hB
  have c0 := b0.cell 0; have c1 := b0.cell 1; simp only [List.getElem?_toArray, List.getElem?_cons_zero, List.getElem?_cons_succ] at c0 c1
  refine (callsIn_wide (n := 20)).1 ?_
  refine callsIn_of_wp_marks Tryz.func6 rfl trivial ?_ rfl
  simp only [Tryz.ntmps6, List.size_toArray, List.length_cons, List.length_nil, Nat.reduceAdd, Nat.reduceSub, Array.replicate_succ, Array.replicate_zero, List.push_toArray, List.append_toArray, List.nil_append, List.cons_append]
  refine wpIn_wide.2 ?_
  go_wp2_with fail
  try rw [hW2]
  clear hW2
  have hS : (fun W : World => W.cell? ⟨w.heap.size, 0, none⟩ = some (.int .i64 k) ∧ W.cell? ⟨w.heap.size, 1, none⟩ = some (.int .i64 p)) _ := ⟨c0, c1⟩
  refine (wpIn_wide (n := 12)).1 (wpIn_mono (region_HF (Q := NoPanic _) (S := (fun W : World => W.cell? ⟨w.heap.size, 0, none⟩ = some (.int .i64 k) ∧ W.cell? ⟨w.heap.size, 1, none⟩ = some (.int .i64 p))) (by kernel_rfl) ?_) NoPanic.imp)
  refine anyHF_take (i := 0) (d := 19) (v := .agg #[.int .i64 k, .int .i64 p]) (by kernel_rfl) rfl (by kernel_rfl) (by kernel_rfl) (by kernel_rfl) rfl (fun _ _ _ h => h) ⟨Or.inl ⟨by rfl, fun w hS => by obtain ⟨h0, h1⟩ := hS; go_simp⟩, fun _ => rfl⟩ hS ?_
  simp only [List.setIfInBounds_toArray, List.set_cons_zero, List.set_cons_succ]
  refine anyHF_one (i := 1) (by kernel_rfl) rfl (by kernel_rfl) (by rfl) ?_
  gi_wp2_with fail
  refine ⟨trivial, (callsIn_wide.2 (HQ.out _)).mono ?_⟩
  rintro e w1 ⟨rfl, hB1⟩
  replace hB1 := below_undrew hB1
  replace b0 := b0.below hB1 b0.lt
  replace br := br.below hB1 br.lt
  replace hB := below_in hB hB1
  replace hL := hL.next hB1
  clear hS hB1 c0 c1
  have c0 := b0.cell 0; have c1 := b0.cell 1; simp only [List.getElem?_toArray, List.getElem?_cons_zero, List.getElem?_cons_succ] at c0 c1
  have hS : (fun W : World => W.cell? ⟨w.heap.size, 0, none⟩ = some (.int .i64 k) ∧ W.cell? ⟨w.heap.size, 1, none⟩ = some (.int .i64 p)) w1 := ⟨c0, c1⟩
  gi_wp2
  refine anyHF_take (i := 2) (d := 21) (v := .bool false) (by kernel_rfl) rfl (by kernel_rfl) (by kernel_rfl) (by kernel_rfl) rfl (fun _ _ _ h => h) ⟨Or.inl ⟨by rfl, fun w hS => by obtain ⟨h0, h1⟩ := hS; go_simp⟩, fun _ => rfl⟩ hS ?_
  simp only [List.setIfInBounds_toArray, List.set_cons_zero, List.set_cons_succ]
  refine anyHF_take (i := 3) (d := 22) (v := .bool false) (by kernel_rfl) rfl (by kernel_rfl) (by kernel_rfl) (by kernel_rfl) rfl (fun _ _ _ h => h) ⟨Or.inl ⟨by rfl, fun w hS => by obtain ⟨h0, h1⟩ := hS; go_simp⟩, fun _ => rfl⟩ hS ?_
  simp only [List.setIfInBounds_toArray, List.set_cons_zero, List.set_cons_succ]
  refine anyHF_take (i := 4) (d := 23) (v := .pointer (some ⟨w.heap.size, 1, none⟩)) (by kernel_rfl) rfl (by kernel_rfl) (by kernel_rfl) (by kernel_rfl) rfl (fun _ _ _ h => h) ⟨Or.inl ⟨by rfl, fun w hS => by obtain ⟨h0, h1⟩ := hS; go_simp⟩, fun _ => rfl⟩ hS ?_
  simp only [List.setIfInBounds_toArray, List.set_cons_zero, List.set_cons_succ]
  refine anyHF_take (i := 5) (d := 24) (v := .int .i64 p) (by kernel_rfl) rfl (by kernel_rfl) (by kernel_rfl) (by kernel_rfl) rfl (fun _ _ _ h => h) ⟨Or.inl ⟨by rfl, fun w hS => by obtain ⟨h0, h1⟩ := hS; go_simp⟩, fun _ => rfl⟩ hS ?_
  simp only [List.setIfInBounds_toArray, List.set_cons_zero, List.set_cons_succ]
  refine anyHF_take (i := 6) (d := 25) (v := .bool false) (by kernel_rfl) rfl (by kernel_rfl) (by kernel_rfl) (by kernel_rfl) rfl (fun _ _ _ h => h) ⟨Or.inl ⟨by rfl, fun w hS => by obtain ⟨h0, h1⟩ := hS; go_simp⟩, fun _ => rfl⟩ hS ?_
  simp only [List.setIfInBounds_toArray, List.set_cons_zero, List.set_cons_succ]
  refine anyHF_take (i := 7) (d := 26) (v := .bool false) (by kernel_rfl) rfl (by kernel_rfl) (by kernel_rfl) (by kernel_rfl) rfl (fun _ _ _ h => h) ⟨Or.inl ⟨by rfl, fun w hS => by obtain ⟨h0, h1⟩ := hS; go_simp⟩, fun _ => rfl⟩ hS ?_
  simp only [List.setIfInBounds_toArray, List.set_cons_zero, List.set_cons_succ]
  refine anyHF_take (i := 8) (d := 27) (v := .bool false) (by kernel_rfl) rfl (by kernel_rfl) (by kernel_rfl) (by kernel_rfl) rfl (fun _ _ _ h => h) ⟨Or.inl ⟨by rfl, fun w hS => by obtain ⟨h0, h1⟩ := hS; go_simp⟩, fun _ => rfl⟩ hS ?_
  simp only [List.setIfInBounds_toArray, List.set_cons_zero, List.set_cons_succ]
  refine anyHF_take (i := 9) (d := 28) (v := .int .i64 n) (by kernel_rfl) rfl (by kernel_rfl) (by kernel_rfl) (by kernel_rfl) rfl (fun _ _ _ h => h) ⟨Or.inl ⟨by rfl, fun w hS => by obtain ⟨h0, h1⟩ := hS; go_simp⟩, fun _ => rfl⟩ hS ?_
  simp only [List.setIfInBounds_toArray, List.set_cons_zero, List.set_cons_succ]
  refine anyHF_take (i := 10) (d := 29) (v := .bool false) (by kernel_rfl) rfl (by kernel_rfl) (by kernel_rfl) (by kernel_rfl) rfl (fun _ _ _ h => h) ⟨Or.inl ⟨by rfl, fun w hS => by obtain ⟨h0, h1⟩ := hS; go_simp⟩, fun _ => rfl⟩ hS ?_
  simp only [List.setIfInBounds_toArray, List.set_cons_zero, List.set_cons_succ]
  refine anyHF_take (i := 11) (d := 30) (v := .bool false) (by kernel_rfl) rfl (by kernel_rfl) (by kernel_rfl) (by kernel_rfl) rfl (fun _ _ _ h => h) ⟨Or.inl ⟨by rfl, fun w hS => by obtain ⟨h0, h1⟩ := hS; go_simp⟩, fun _ => rfl⟩ hS ?_
  simp only [List.setIfInBounds_toArray, List.set_cons_zero, List.set_cons_succ]
  refine anyHF_take (i := 12) (d := 31) (v := .bool false) (by kernel_rfl) rfl (by kernel_rfl) (by kernel_rfl) (by kernel_rfl) rfl (fun _ _ _ h => h) ⟨Or.inl ⟨by rfl, fun w hS => by obtain ⟨h0, h1⟩ := hS; go_simp⟩, fun _ => rfl⟩ hS ?_
  simp only [List.setIfInBounds_toArray, List.set_cons_zero, List.set_cons_succ]
  refine anyHF_take (i := 13) (d := 32) (v := .int .i64 n) (by kernel_rfl) rfl (by kernel_rfl) (by kernel_rfl) (by kernel_rfl) rfl (fun _ _ _ h => h) ⟨Or.inl ⟨by rfl, fun w hS => by obtain ⟨h0, h1⟩ := hS; go_simp⟩, fun _ => rfl⟩ hS ?_
  simp only [List.setIfInBounds_toArray, List.set_cons_zero, List.set_cons_succ]
  refine anyHF_take (i := 14) (d := 33) (v := .agg #[.int .i64 k, .int .i64 p]) (by kernel_rfl) rfl (by kernel_rfl) (by kernel_rfl) (by kernel_rfl) rfl (fun _ _ _ h => h) ⟨Or.inl ⟨by rfl, fun w hS => by obtain ⟨h0, h1⟩ := hS; go_simp⟩, fun _ => rfl⟩ hS ?_
  simp only [List.setIfInBounds_toArray, List.set_cons_zero, List.set_cons_succ]
  refine anyHF_take (i := 16) (d := 35) (v := .agg #[.int .i64 k, .int .i64 p]) (by kernel_rfl) rfl (by kernel_rfl) (by kernel_rfl) (by kernel_rfl) rfl (fun _ _ _ h => h) ⟨Or.inl ⟨by rfl, fun w hS => by obtain ⟨h0, h1⟩ := hS; go_simp⟩, fun _ => rfl⟩ hS ?_
  simp only [List.setIfInBounds_toArray, List.set_cons_zero, List.set_cons_succ]
  refine anyHF_one (i := 15) (by kernel_rfl) rfl (by kernel_rfl) (by rfl) ?_
  gi_wp2_with fail
  refine ⟨trivial, (callsIn_wide.2 (HDa.out _)).mono ?_⟩
  rintro e w1 ⟨rfl, hB1⟩
  replace b0 := b0.below hB1 b0.lt
  replace br := br.below hB1 br.lt
  replace hB := below_in hB hB1
  replace hL := hL.next hB1
  clear hS hB1 c0 c1
  have c0 := b0.cell 0; have c1 := b0.cell 1; simp only [List.getElem?_toArray, List.getElem?_cons_zero, List.getElem?_cons_succ] at c0 c1
  have hS : (fun W : World => W.cell? ⟨w.heap.size, 0, none⟩ = some (.int .i64 k) ∧ W.cell? ⟨w.heap.size, 1, none⟩ = some (.int .i64 p)) w1 := ⟨c0, c1⟩
  gi_wp2
  refine anyHF_one (i := 17) (by kernel_rfl) rfl (by kernel_rfl) (by rfl) ?_
  gi_wp2_with fail
  refine ⟨trivial, (callsIn_wide.2 (HRo.out _)).mono ?_⟩
  rintro e w1 ⟨rfl, hB1⟩
  replace b0 := b0.below hB1 b0.lt
  replace br := br.below hB1 br.lt
  replace hB := below_in hB hB1
  replace hL := hL.next hB1
  clear hS hB1 c0 c1
  have c0 := b0.cell 0; have c1 := b0.cell 1; simp only [List.getElem?_toArray, List.getElem?_cons_zero, List.getElem?_cons_succ] at c0 c1
  have hS : (fun W : World => W.cell? ⟨w.heap.size, 0, none⟩ = some (.int .i64 k) ∧ W.cell? ⟨w.heap.size, 1, none⟩ = some (.int .i64 p)) w1 := ⟨c0, c1⟩
  gi_wp2
  refine anyHF_take (i := 18) (d := 37) (v := .int .i64 q) (by kernel_rfl) rfl (by kernel_rfl) (by kernel_rfl) (by kernel_rfl) rfl (fun _ _ _ h => h) ⟨Or.inl ⟨by rfl, fun w hS => by obtain ⟨h0, h1⟩ := hS; go_simp⟩, fun _ => rfl⟩ hS ?_
  simp only [List.setIfInBounds_toArray, List.set_cons_zero, List.set_cons_succ]
  refine anyHF_take (i := 19) (d := 38) (v := .bool false) (by kernel_rfl) rfl (by kernel_rfl) (by kernel_rfl) (by kernel_rfl) rfl (fun _ _ _ h => h) ⟨Or.inl ⟨by rfl, fun w hS => by obtain ⟨h0, h1⟩ := hS; go_simp⟩, fun _ => rfl⟩ hS ?_
  simp only [List.setIfInBounds_toArray, List.set_cons_zero, List.set_cons_succ]
  refine anyHF_take (i := 20) (d := 39) (v := .bool false) (by kernel_rfl) rfl (by kernel_rfl) (by kernel_rfl) (by kernel_rfl) rfl (fun _ _ _ h => h) ⟨Or.inl ⟨by rfl, fun w hS => by obtain ⟨h0, h1⟩ := hS; go_simp⟩, fun _ => rfl⟩ hS ?_
  simp only [List.setIfInBounds_toArray, List.set_cons_zero, List.set_cons_succ]
  refine anyHF_done (by kernel_rfl) ?_ _
  refine NoPanic.normal ?_
  clear hS
  go_wp2_with fail
  refine (HPl.out _).mono ?_
  rintro e w1 ⟨rfl, hB1⟩
  replace b0 := b0.below hB1 b0.lt
  replace br := br.below hB1 br.lt
  replace hB := below_in hB hB1
  replace hL := hL.next hB1
  clear hB1 c0 c1 HQ HPl
  have c0 := b0.cell 0; have c1 := b0.cell 1; simp only [List.getElem?_toArray, List.getElem?_cons_zero, List.getElem?_cons_succ] at c0 c1
  have b5 := (((b0.alloc (.cells #[.int .i64 x, .int .i64 y] 26)).alloc (.cells #[.slice none 0 0] 27)).alloc (.cells #[.int .i64 0] 3)).alloc (.cells #[.int .i64 0] 3)
  clear c0 c1
  have c0 := b5.cell 0
  have c1 := b5.cell 1
  simp only [List.getElem?_toArray, List.getElem?_cons_zero, List.getElem?_cons_succ] at c0 c1
  go_wp2_with fail
  clear b5 c0 c1
  obtain ⟨B, hBdef⟩ : ∃ B, w1.heap.size = B := ⟨_, rfl⟩
  obtain ⟨W5, hW5⟩ : ∃ W5, (((w1.alloc (.cells #[.int .i64 x, .int .i64 y] 26)).alloc (.cells #[.slice none 0 0] 27)).alloc (.cells #[.int .i64 0] 3)).alloc (.cells #[.int .i64 0] 3) = W5 := ⟨_, rfl⟩
  have hB5 : Below w1.heap.size w1 W5 := by rw [← hW5]; exact ((((below_two w1 _ _).alloc (by simp; omega) _).alloc (by simp; omega) _))
  have ka : Blk W5 B 26 #[.int .i64 x, .int .i64 y] := by rw [← hW5, ← hBdef]; exact (((Blk.new w1 _ _).alloc _).alloc _).alloc _
  have kt : Blk W5 (B + 1) 27 #[.slice none 0 0] := by rw [← hW5, ← hBdef]; exact ((Blk.second w1 _ _ _).alloc _).alloc _
  have kr : Blk W5 (B + 1 + 1) 3 #[.int .i64 0] := by
    rw [← hW5, ← hBdef]
    have := (Blk.second (w1.alloc (.cells #[.int .i64 x, .int .i64 y] 26)) (.cells #[.slice none 0 0] 27) 3 #[.int .i64 0]).alloc (.cells #[.int .i64 0] 3)
    rwa [World.size_alloc] at this
  have kd : Blk W5 (B + 1 + 1 + 1) 3 #[.int .i64 0] := by
    rw [← hW5, ← hBdef]
    have := Blk.second ((w1.alloc (.cells #[.int .i64 x, .int .i64 y] 26)).alloc (.cells #[.slice none 0 0] 27)) (.cells #[.int .i64 0] 3) 3 #[.int .i64 0]
    rwa [World.size_alloc, World.size_alloc] at this
  have hs5 : W5.heap.size = B + 4 := by rw [← hW5, ← hBdef]; simp
  have HF5 : HFacts W5 w.heap.size B k p x y := ⟨b0.below hB5 b0.lt, br.below hB5 br.lt, ka, hL.next hB5, by have := br.lt; omega, by have := hL.pos; omega⟩
  have hB5w := below_in hB hB5
  clear b0 br hB hL ka hB5
  rw [hW5, hBdef]
  clear hW5 hBdef
  refine (HLi.out _ HF5.hL).mono ?_
  rintro e w7 ⟨u7, rfl, ⟨gf0, pa0, lb0, rfl, eg0, eq0, hg0⟩, hB7⟩
  clear hg0 eg0
  have HF7 := HF5.next hB7
  replace kt := kt.below hB7 kt.lt
  replace kr := kr.below hB7 kr.lt
  replace kd := kd.below hB7 kd.lt
  have hB7w := below_in hB5w hB7
  have hs7 := hB7.size
  clear hB5w HF5
  have c0 := HF7.b0.cell 0
  have c1 := HF7.b0.cell 1
  simp only [List.getElem?_toArray, List.getElem?_cons_zero, List.getElem?_cons_succ] at c0 c1
  go_wp2_with fail
  refine (HLi.out _ HF7.hL).mono ?_
  clear c0 c1 HLi
  rintro e w8 ⟨u8, rfl, ⟨gf, pa, lb, rfl, eg, eq, hg⟩, hB8⟩
  have HF8 := HF7.next hB8
  replace kt := kt.below hB8 kt.lt
  replace kr := kr.below hB8 kr.lt
  replace kd := kd.below hB8 kd.lt
  have hB8w := below_in hB7w hB8
  have hs8 := hB8.size
  clear hB7w HF7 hB7
  go_wp2_with fail
  obtain ⟨hR, hx, hy, hp13⟩ := HKeep.out
  have hel : ∀ z ∈ flatC p (spanL (p - shortN k) (p - shortN k + madeN k)), HasCell k p z.1 z.2 ∧ p - shortN k ≤ z.1 := fun z hz => by
    obtain ⟨q1, q2, q3, q4, q5, q6⟩ := hR.und
    obtain ⟨h3, h4⟩ := flatC_mem' hz
    have h5 := spanL_mem h3
    exact ⟨⟨⟨by omega, h5.2⟩, h4⟩, h5.1⟩
  have hzl : (flatC p (spanL (p - shortN k) (p - shortN k + madeN k))).length ≤ 400 := by
    have h2 := flatC_len p hR.2 (spanL (p - shortN k) (p - shortN k + madeN k))
    rw [spanL_len] at h2
    have := hR.und.m2
    omega
  have HEl : Hid (∀ z ∈ flatC p (spanL (p - shortN k) (p - shortN k + madeN k)), (∀ e ∈ memL k p z.1 z.2, (e.1 < d ∨ e.1 = d) ∧ 0 ≤ e.1 ∧ e.1 ≤ 20) ∧ 0 < (memL k p z.1 z.2).length ∧ (memL k p z.1 z.2).length ≤ 1000 ∧ turnF (x, y) (d, y) (memL k p z.1 z.2) = hangB k p z.1 z.2 x y ∧ (memL k p z.1 z.2).count (x, y) = (if memB k p z.1 z.2 x y then 1 else 0) ∧ 0 ≤ z.1 ∧ z.1 ≤ 20) := fun z hz => by
    obtain ⟨q1, q2, q3, q4, q5, q6⟩ := hR.und
    obtain ⟨h1, h2⟩ := hel z hz
    have h3 := h1.1.2
    refine ⟨fun e he => ?_, List.length_pos_iff.2 (memL_ne hR h1 h2), memL_len hR h1, ?_, memL_count_at hR h2 hx.1 hy, h1.1.1, by omega⟩
    · have h4 := memL_elem hR h2 h1 he
      rw [← hde.out]
      exact ⟨h4.2.1, h4.1.1, by omega⟩
    · rw [← hde.out]
      exact turn_hang hR h2 hx hy
  have HMe : Hid (∀ z ∈ flatC p (spanL (p - shortN k) (p - shortN k + madeN k)), ∀ ry, (d, ry) ∈ memL k p z.1 z.2 → ∀ W, Laid W → Calls Tryz.prog 8 #[.agg #[.int .i64 k, .int .i64 p], .agg #[.int .i64 d, .int .i64 ry]] W fun e w' => ∃ u, e = .returned (.tuple #[u, .int .i64 0]) ∧ ReadP w'.heap.size w' u (memL k p d ry) ∧ Below W.heap.size W w') := fun z hz ry hry W hL => by
    obtain ⟨h1, h2⟩ := hel z hz
    have h4 := (memL_elem hR h2 h1 hry).2.2
    refine (setsMembers_any k p d ry W hL).mono fun e w' h => ?_
    obtain ⟨u, e1, h5⟩ := h.2.2.1 hR h4 (by rw [hde.out]; exact Int.le_refl _)
    exact ⟨u, e1, h5, h.2.2.2⟩
  have HMr : Hid (∀ ry, HasCell k p d ry → turnF (x, y) (d, y) (memL k p d ry) = decide (ry = y) ∧ 0 < (memL k p d ry).length ∧ (memL k p d ry).length ≤ 1000 ∧ ∀ e ∈ memL k p d ry, e.1 < d) := fun ry h => by
    have h0 : p - shortN k ≤ d := by rw [hde.out]; exact Int.le_refl _
    have h1 := turn_hang (my := ry) hR h0 hx hy
    rw [← hde.out] at h h0 h1 ⊢
    rw [hang_row hx.2] at h1
    exact ⟨h1, List.length_pos_iff.2 (memL_ne hR h h0), memL_len hR h, fun e he => (memL_elem hR h0 h he).1.2⟩
  have HMc : Hid (∀ z ∈ flatC p (spanL (p - shortN k) (p - shortN k + madeN k)), ∀ ry, (d, ry) ∈ memL k p z.1 z.2 → HasCell k p d ry) := fun z hz ry hry => (memL_elem hR (hel z hz).2 (hel z hz).1 hry).2.2
  have HCn := Lib.hid (cnt_of hR hp13 hx hy)
  have HTo := Lib.hid (hang_tou hR hx hy)
  have HDg := Lib.hid (fun W => refDiagonal_any k p x y hR ⟨hx.1, by have := hR.und.p2; have := hR.und.s1; omega⟩ ⟨hy.1, by have := hR.und.p2; omega⟩ W)
  have HTou := Lib.hid (fun W hL => (setsTouched_any k p x y W hL).mono fun e w' (h : TouchedC k p x y W e w') => (⟨h.2.2.1 hR ⟨⟨hx.1, by have := hR.und.m1; omega⟩, hy⟩ hx.2, h.2.2.2⟩ : (∃ u, e = .returned (.tuple #[u, .int .i64 0]) ∧ ReadP w'.heap.size w' u (touL k p x y)) ∧ Below W.heap.size W w'))
  have HTl := Lib.hid (tou_len (x := x) (y := y) hR)
  have hxd : x < d ∧ 0 ≤ x := by rw [← hde.out]; exact ⟨hx.2, hx.1⟩
  have hdb : 2 ≤ d ∧ d ≤ 17 := by have q := hR.und; obtain ⟨q1, q2, q3, q4, q5, q6⟩ := q; have := hde.out; omega
  have hpb : 3 ≤ p ∧ p ≤ 17 := ⟨hR.und.p1, hR.und.p2⟩
  clear hel hx hy hp13 hR HKeep
  generalize flatC p (spanL (p - shortN k) (p - shortN k + madeN k)) = zs at *
  rw [hde.out] at HCn
  refine (wpIn_wide (n := 20)).1 ?_
  refine wpIn_rangeBoxB rfl (by omega) (gf := gf) (pa := pa) (lb := lb) rfl trivial eg (hg 19 (by omega)) (fun h h' => h.trans h') (fun W l o hl _ hlp => ⟨Keep.putFar W (by omega) o, fun h => laid_put h hlp o⟩) (Below.refl _ _) (fun _ => rfl)
    (fun pre o X => ∃ v, Blk X (B + 1) 27 #[v] ∧ OwnA X w8.heap.size v ((pre.map (·.1)).filter fun z => hangB k p z.1 z.2 x y) ∧ v.ownBlock = o ∧ Blk X (B + 1 + 1) 3 #[.int .i64 (cntC k p x y d (pre.map (·.1)) : Int)] ∧ Blk X (B + 1 + 1 + 1) 3 #[.int .i64 (cntC k p x y (d + 1) (pre.map (·.1)) : Int)] ∧ Below (B + 1) w8 X)
    (fun c pre o X => False)
    ?hI (fun c s o X Y row hs _ _ => hs) none (fun b e => by cases e) ⟨_, kt, ownA_nil _ _, rfl, kr, kd, Below.refl _ _⟩
    (fun z W => LineOk k p zs z W) (fun z W l ob hl h => by obtain ⟨r, hr⟩ := hl; exact LineOk.put hr h) 26 (fun z : (Int × Int) × Value => #[.int .i64 z.1.1, .int .i64 z.1.2]) ?a1
    ?assign (fun pre o X h => by obtain ⟨v, _, ho, rfl, _⟩ := h; exact OwnA.rowO ho) (fun c pre o X h => h.elim) ?body ?done (fun D c pre o X _ _ _ h => h.elim)
  case hI =>
    rintro s o X Y row ⟨v, ht, ho, rfl, hr, hd, hbX⟩ hgr hrr
    have hne : ∀ b, b < w8.heap.size → some b ≠ row := fun b hb e => by have := (hrr b e.symm).1; omega
    refine ⟨v, ht.grown hgr (hne _ (by omega)), OwnA.kept ho hgr ?_, rfl, hr.grown hgr (hne _ (by omega)), hd.grown hgr (hne _ (by omega)), hbX.grown hgr (by have := hbX.size; omega) (fun r e => by have := (hrr r e).1; omega)⟩
    cases hrow : row with
    | none => exact (Option.eq_none_or_eq_some v.ownBlock).imp id (fun ⟨x, hx⟩ => by rw [hx]; simp)
    | some r => exact .inr (fun e => (hrr r hrow).2 e.symm)
  case assign =>
    rintro l' pre z o X KK hsz hol ⟨v, ht, ho, rfl, hr, hd, hbX⟩ hok hKK
    gi_wp2
    have hbx := Blk.new X 26 #[.int .i64 z.1.1, .int .i64 z.1.2]
    have hBz := below_one X (.cells #[.int .i64 z.1.1, .int .i64 z.1.2] 26)
    have hSi : SinceO w8.heap.size v.ownBlock X (X.alloc (.cells #[.int .i64 z.1.1, .int .i64 z.1.2] 26)) := SinceO.below hBz
    have hKe : KeepL w7.heap.size (w8.heap.size - w7.heap.size) X (X.alloc (.cells #[.int .i64 z.1.1, .int .i64 z.1.2] 26)) := ⟨Keep.alloc (by omega) _, fun h => h.next hBz⟩
    have h1' := ht.below hBz ht.lt
    have h2' := ho.below hBz
    have h3' := hr.below hBz hr.lt
    have h4' := hd.below hBz hd.lt
    have h5' := hbX.trans (hBz.mono (by have := ht.lt; omega))
    have hok' : LineOk k p zs z (X.alloc (.cells #[.int .i64 z.1.1, .int .i64 z.1.2] 26)) := ⟨hok.1, hok.2.next hBz⟩
    have hne : some X.heap.size ≠ v.ownBlock := fun e => by have := hol _ e.symm; omega
    clear hBz hol ht ho hr hd hbX hok
    generalize X.alloc (.cells #[.int .i64 z.1.1, .int .i64 z.1.2] 26) = X' at *
    generalize X.heap.size = Bx at *
    exact hKK Bx _ hSi hKe ⟨v, h1', h2', rfl, h3', h4', h5'⟩ hbx hne hsz hok'
  case body =>
    rintro l' pre z o Bx X hsz ⟨v, ht, ho, rfl, hr, hd, hbX⟩ hbx hneB hleB hok hlt
    obtain ⟨⟨mx, my⟩, zv⟩ := z
    have hzm := hok.1
    obtain ⟨g, cap, hze, hgl, hcc⟩ := hok.2
    simp only at hze hcc hbx hzm
    subst hze
    obtain ⟨hle, hl0, hl1, htu, hco, hm0, hm1⟩ := HEl.out (mx, my) hzm
    have HMe1 := Lib.hid (HMe.out (mx, my) hzm)
    have HMc1 := Lib.hid (HMc.out (mx, my) hzm)
    have HCR := Lib.hid (cntC_next k p x y d (pre.map (·.1)) (mx, my))
    have HCD := Lib.hid (cntC_next k p x y (d + 1) (pre.map (·.1)) (mx, my))
    have hcrb : cntC k p x y d (pre.map (·.1)) ≤ 1000 := by unfold cntC; exact Nat.le_trans (List.length_filter_le _ _) (by rw [List.length_map]; omega)
    have hcdb : cntC k p x y (d + 1) (pre.map (·.1)) ≤ 1000 := by unfold cntC; exact Nat.le_trans (List.length_filter_le _ _) (by rw [List.length_map]; omega)
    simp only at hle hl0 hl1 htu hco hm0 hm1 HMe1 HMc1 HCR HCD
    have HPre : Hid ((pre ++ [((mx, my), Value.slice (some ⟨g, 0, none⟩) (memL k p mx my).length cap)]).map (·.1) = pre.map (·.1) ++ [(mx, my)]) := by unfold Hid; rw [List.map_append]; rfl
    generalize hcr : cntC k p x y d (pre.map (·.1)) = cr at *
    generalize hcd : cntC k p x y (d + 1) (pre.map (·.1)) = cd at *
    clear hcr hcd
    generalize hmm : memL k p mx my = l at *
    clear hmm
    have HF := HF8.below hbX
    have hga : g ≠ B + 1 + 1 ∧ g ≠ B + 1 + 1 + 1 := by
      have h1 := (hcc 0 hl0).2
      exact ⟨cell_apart hr (by simpa using h1), cell_apart hd (by simpa using h1)⟩
    have HCC := Lib.hid hcc
    have HLE := Lib.hid hle
    have HTU := Lib.hid htu
    have HCO := Lib.hid hco
    have HOK := Lib.hid hzm
    clear hcc hle htu hco hok hzm
    obtain ⟨n2, hn2⟩ : ∃ n2, l.length = n2 := ⟨_, rfl⟩
    have HN2 := Lib.hid hn2
    rw [hn2] at hl0 hl1
    have hXs : w8.heap.size ≤ X.heap.size := hsz
    have hw1 : IntKind.i64.wrap (d + 1) = d + 1 := IntWalk.i64_in _ (by omega)
    rw [hn2] at HPre ⊢
    clear hn2
    gi_wp2_with fail
    gi_loopw [11, 12] (fun od i wr => ∃ (j : Nat) (rv dv : Int), j ≤ n2 ∧ i = .int .i64 j ∧ od = .bool (turnF (x, y) (d, y) (l.take j)) ∧ Blk wr (B + 1 + 1) 3 #[.int .i64 rv] ∧ Blk wr (B + 1 + 1 + 1) 3 #[.int .i64 dv] ∧ Hid (rv = (cr : Int) + (if mx = d then ((l.take j).count (x, y) : Int) else 0)) ∧ Hid (dv = (cd : Int) + (if mx = d + 1 then ((l.take j).count (x, y) : Int) else 0)) ∧ Below (B + 1 + 1) X wr ∧ SinceO (B + 4) none X wr) (fun _ i _ => n2 - (intOf i).toNat)
    case atStart => exact ⟨0, cr, cd, by omega, rfl, rfl, hr, hd, by unfold Hid; simp, by unfold Hid; simp, Below.refl _ _, SinceO.refl _ _ _⟩
    case round =>
      obtain ⟨j, rv, dv, hj, rfl, rfl, kr2, kd2, HRv, HDv, hbr, hsr⟩ := hrel
      have hbr2 : B + 1 + 1 ≤ wr.heap.size := by have := kr2.lt; omega
      by_cases hlt2 : j < n2
      · have hdec : decide ((j : Int) < (n2 : Int)) = true := by simp; omega
        have hjs : j < l.length := by rw [HN2.out]; exact hlt2
        obtain ⟨he0, he1⟩ := HCC.out j hjs
        have i1 : (0 : Int) ≤ (j : Int) := by omega
        have i2 : (j : Int) < (n2 : Int) := by omega
        obtain ⟨hz1, hz2, hz3⟩ := HLE.out _ (List.getElem_mem hjs)
        have hin := List.getElem_mem hjs
        have htn := turn_next (x, y) (d, y) l j hjs
        have hcn := count_next (x, y) l j hjs
        have hcb : (l.take j).count (x, y) ≤ 1000 := Nat.le_trans List.count_le_length (by rw [List.length_take]; omega)
        generalize l[j] = e at *
        obtain ⟨ex, ey⟩ := e
        simp only at he0 he1 hz1 hz2 hz3
        generalize turnF (x, y) (d, y) (l.take j) = acc at *
        have hrvb : 0 ≤ rv ∧ rv ≤ 5000 := by have := HRv.out; split at this <;> omega
        have hdvb : 0 ≤ dv ∧ dv ≤ 5000 := by have := HDv.out; split at this <;> omega
        have hw2 : IntKind.i64.wrap (rv + 1) = rv + 1 := IntWalk.i64_in _ (by omega)
        have hw3 : IntKind.i64.wrap (dv + 1) = dv + 1 := IntWalk.i64_in _ (by omega)
        try clear c0 c1 a0 a1 z0 z1 e0 e1
        have HFr := HF.below (hbr.mono (by omega))
        have c0 := HFr.b0.cell 0
        have c1 := HFr.b0.cell 1
        have a0 := HFr.ba.cell 0
        have a1 := HFr.ba.cell 1
        have hbxr := hsr.blk hbx (by omega) (by simp)
        have z0 := hbxr.cell 0
        have z1 := hbxr.cell 1
        simp only [List.getElem?_toArray, List.getElem?_cons_zero, List.getElem?_cons_succ] at c0 c1 a0 a1 z0 z1
        have e0 := cell_keep he0 hga hbr hsr
        have e1 := cell_keep he1 hga hbr hsr
        rcases hz1 with h1 | h1
        · by_cases e1x : x = ex
          · by_cases e2x : y = ey
            · subst e1x
              subst e2x
              have hxd2 : (x == d) = false := by rw [beq_eq_false_iff_ne]; omega
              have HTN : Hid (turnF (x, y) (d, y) (l.take (j + 1)) = (acc != true)) := by unfold Hid; rw [htn]; simp
              by_cases hmx : mx = d
              · have HRN : Hid (rv + 1 = (cr : Int) + (if mx = d then ((l.take (j + 1)).count (x, y) : Int) else 0)) := by have hRo := HRv.out; unfold Hid; rw [hRo, if_pos hmx, if_pos hmx, hcn, if_pos rfl]; omega
                have HDN : Hid (dv = (cd : Int) + (if mx = d + 1 then ((l.take (j + 1)).count (x, y) : Int) else 0)) := by have hDo := HDv.out; unfold Hid; rw [hDo, if_neg (by omega), if_neg (by omega)]
                have hm9 : (mx == d) = true := by simpa using hmx
                clear hcn htn HRv HDv hcb hin
                clear hmx
                gi_wp2_with fail
                have hS : (fun U : World => U.cell? ⟨g, j * 2, none⟩ = some (.int .i64 x) ∧ U.cell? ⟨g, j * 2 + 1, none⟩ = some (.int .i64 y) ∧ U.cell? ⟨B, 0, none⟩ = some (.int .i64 x) ∧ U.cell? ⟨B, 1, none⟩ = some (.int .i64 y) ∧ U.cell? ⟨w.heap.size, 0, none⟩ = some (.int .i64 k) ∧ U.cell? ⟨w.heap.size, 1, none⟩ = some (.int .i64 p) ∧ U.cell? ⟨Bx, 0, none⟩ = some (.int .i64 mx) ∧ U.cell? ⟨Bx, 1, none⟩ = some (.int .i64 my)) _ := ⟨e0, e1, a0, a1, c0, c1, z0, z1⟩
                refine region_HF (S := (fun U : World => U.cell? ⟨g, j * 2, none⟩ = some (.int .i64 x) ∧ U.cell? ⟨g, j * 2 + 1, none⟩ = some (.int .i64 y) ∧ U.cell? ⟨B, 0, none⟩ = some (.int .i64 x) ∧ U.cell? ⟨B, 1, none⟩ = some (.int .i64 y) ∧ U.cell? ⟨w.heap.size, 0, none⟩ = some (.int .i64 k) ∧ U.cell? ⟨w.heap.size, 1, none⟩ = some (.int .i64 p) ∧ U.cell? ⟨Bx, 0, none⟩ = some (.int .i64 mx) ∧ U.cell? ⟨Bx, 1, none⟩ = some (.int .i64 my))) (by kernel_rfl) ?_
                refine anyHF_take (i := 0) (d := 57) (v := .slice (some ⟨g, 0, none⟩) n2 cap) (by kernel_rfl) rfl (by kernel_rfl) (by kernel_rfl) (by kernel_rfl) rfl (fun _ _ _ h => h) ⟨Or.inl ⟨by rfl, fun w hS => by obtain ⟨h0, h1, h2, h3, h4, h5, h6, h7⟩ := hS; go_simp⟩, fun _ => rfl⟩ hS ?_
                simp only [List.setIfInBounds_toArray, List.set_cons_zero, List.set_cons_succ]
                refine anyHF_take (i := 1) (d := 58) (v := .int .i64 (j : Int)) (by kernel_rfl) rfl (by kernel_rfl) (by kernel_rfl) (by kernel_rfl) rfl (fun _ _ _ h => h) ⟨Or.inl ⟨by rfl, fun w hS => by obtain ⟨h0, h1, h2, h3, h4, h5, h6, h7⟩ := hS; go_simp⟩, fun _ => rfl⟩ hS ?_
                simp only [List.setIfInBounds_toArray, List.set_cons_zero, List.set_cons_succ]
                refine anyHF_take (i := 2) (d := 59) (v := .pointer (some ⟨g, j * 2, none⟩)) (by kernel_rfl) rfl (by kernel_rfl) (by kernel_rfl) (by kernel_rfl) rfl (fun _ _ _ h => h) ⟨Or.inl ⟨by rfl, fun w hS => by obtain ⟨h0, h1, h2, h3, h4, h5, h6, h7⟩ := hS; go_simp⟩, fun _ => rfl⟩ hS ?_
                simp only [List.setIfInBounds_toArray, List.set_cons_zero, List.set_cons_succ]
                refine anyHF_take (i := 3) (d := 60) (v := .agg #[.int .i64 x, .int .i64 y]) (by kernel_rfl) rfl (by kernel_rfl) (by kernel_rfl) (by kernel_rfl) rfl (fun _ _ _ h => h) ⟨Or.inl ⟨by rfl, fun w hS => by obtain ⟨h0, h1, h2, h3, h4, h5, h6, h7⟩ := hS; go_simp⟩, fun _ => rfl⟩ hS ?_
                simp only [List.setIfInBounds_toArray, List.set_cons_zero, List.set_cons_succ]
                refine anyHF_take (i := 4) (d := 61) (v := .agg #[.int .i64 x, .int .i64 y]) (by kernel_rfl) rfl (by kernel_rfl) (by kernel_rfl) (by kernel_rfl) rfl (fun _ _ _ h => h) ⟨Or.inl ⟨by rfl, fun w hS => by obtain ⟨h0, h1, h2, h3, h4, h5, h6, h7⟩ := hS; go_simp⟩, fun _ => rfl⟩ hS ?_
                simp only [List.setIfInBounds_toArray, List.set_cons_zero, List.set_cons_succ]
                refine anyHF_take (i := 5) (d := 62) (v := .bool true) (by kernel_rfl) rfl (by kernel_rfl) (by kernel_rfl) (by kernel_rfl) rfl (fun _ _ _ h => h) ⟨Or.inl ⟨by rfl, fun w hS => by obtain ⟨h0, h1, h2, h3, h4, h5, h6, h7⟩ := hS; go_simp⟩, fun _ => rfl⟩ hS ?_
                simp only [List.setIfInBounds_toArray, List.set_cons_zero, List.set_cons_succ]
                refine anyHF_done (by kernel_rfl) ?_ _
                clear hS
                gi_wp2_with fail
                have hS : (fun U : World => U.cell? ⟨g, j * 2, none⟩ = some (.int .i64 x) ∧ U.cell? ⟨g, j * 2 + 1, none⟩ = some (.int .i64 y) ∧ U.cell? ⟨B, 0, none⟩ = some (.int .i64 x) ∧ U.cell? ⟨B, 1, none⟩ = some (.int .i64 y) ∧ U.cell? ⟨w.heap.size, 0, none⟩ = some (.int .i64 k) ∧ U.cell? ⟨w.heap.size, 1, none⟩ = some (.int .i64 p) ∧ U.cell? ⟨Bx, 0, none⟩ = some (.int .i64 mx) ∧ U.cell? ⟨Bx, 1, none⟩ = some (.int .i64 my)) _ := ⟨e0, e1, a0, a1, c0, c1, z0, z1⟩
                refine region_HF (S := (fun U : World => U.cell? ⟨g, j * 2, none⟩ = some (.int .i64 x) ∧ U.cell? ⟨g, j * 2 + 1, none⟩ = some (.int .i64 y) ∧ U.cell? ⟨B, 0, none⟩ = some (.int .i64 x) ∧ U.cell? ⟨B, 1, none⟩ = some (.int .i64 y) ∧ U.cell? ⟨w.heap.size, 0, none⟩ = some (.int .i64 k) ∧ U.cell? ⟨w.heap.size, 1, none⟩ = some (.int .i64 p) ∧ U.cell? ⟨Bx, 0, none⟩ = some (.int .i64 mx) ∧ U.cell? ⟨Bx, 1, none⟩ = some (.int .i64 my))) (by kernel_rfl) ?_
                refine anyHF_take (i := 0) (d := 65) (v := .pointer (some ⟨Bx, 0, none⟩)) (by kernel_rfl) rfl (by kernel_rfl) (by kernel_rfl) (by kernel_rfl) rfl (fun _ _ _ h => h) ⟨Or.inl ⟨by rfl, fun w hS => by obtain ⟨h0, h1, h2, h3, h4, h5, h6, h7⟩ := hS; go_simp⟩, fun _ => rfl⟩ hS ?_
                simp only [List.setIfInBounds_toArray, List.set_cons_zero, List.set_cons_succ]
                refine anyHF_take (i := 1) (d := 66) (v := .int .i64 mx) (by kernel_rfl) rfl (by kernel_rfl) (by kernel_rfl) (by kernel_rfl) rfl (fun _ _ _ h => h) ⟨Or.inl ⟨by rfl, fun w hS => by obtain ⟨h0, h1, h2, h3, h4, h5, h6, h7⟩ := hS; go_simp⟩, fun _ => rfl⟩ hS ?_
                simp only [List.setIfInBounds_toArray, List.set_cons_zero, List.set_cons_succ]
                refine anyHF_take (i := 2) (d := 67) (v := .agg #[.int .i64 k, .int .i64 p]) (by kernel_rfl) rfl (by kernel_rfl) (by kernel_rfl) (by kernel_rfl) rfl (fun _ _ _ h => h) ⟨Or.inl ⟨by rfl, fun w hS => by obtain ⟨h0, h1, h2, h3, h4, h5, h6, h7⟩ := hS; go_simp⟩, fun _ => rfl⟩ hS ?_
                simp only [List.setIfInBounds_toArray, List.set_cons_zero, List.set_cons_succ]
                refine anyHF_one (i := 3) (by kernel_rfl) rfl (by kernel_rfl) (by rfl) ?_
                gi_wp2_with fail
                refine ⟨trivial, (CallsIn.inRound l' (callsIn_wide.2 (HDa.out _))).mono ?_⟩
                rintro e v1 ⟨rfl, hB1⟩
                replace hB1 : Below (wr).heap.size (wr) v1 := by first | exact hB1 | exact below_undrew hB1 | exact below_undrew (below_undrew hB1) | exact below_undrew (below_undrew (below_undrew hB1))
                replace hbr := hbr.trans (hB1.mono hbr2)
                replace hsr := hsr.trans_ (SinceO.below hB1)
                have hbr2 : B + 1 + 1 ≤ v1.heap.size := Nat.le_trans hbr2 hB1.size
                replace kr2 := kr2.below hB1 kr2.lt
                replace kd2 := kd2.below hB1 kd2.lt
                clear hS hB1
                try clear c0 c1 a0 a1 z0 z1 e0 e1
                have HFr := HF.below (hbr.mono (by omega))
                have c0 := HFr.b0.cell 0
                have c1 := HFr.b0.cell 1
                have a0 := HFr.ba.cell 0
                have a1 := HFr.ba.cell 1
                have hbxr := hsr.blk hbx (by omega) (by simp)
                have z0 := hbxr.cell 0
                have z1 := hbxr.cell 1
                simp only [List.getElem?_toArray, List.getElem?_cons_zero, List.getElem?_cons_succ] at c0 c1 a0 a1 z0 z1
                have e0 := cell_keep he0 hga hbr hsr
                have e1 := cell_keep he1 hga hbr hsr
                have hS : (fun U : World => U.cell? ⟨g, j * 2, none⟩ = some (.int .i64 x) ∧ U.cell? ⟨g, j * 2 + 1, none⟩ = some (.int .i64 y) ∧ U.cell? ⟨B, 0, none⟩ = some (.int .i64 x) ∧ U.cell? ⟨B, 1, none⟩ = some (.int .i64 y) ∧ U.cell? ⟨w.heap.size, 0, none⟩ = some (.int .i64 k) ∧ U.cell? ⟨w.heap.size, 1, none⟩ = some (.int .i64 p) ∧ U.cell? ⟨Bx, 0, none⟩ = some (.int .i64 mx) ∧ U.cell? ⟨Bx, 1, none⟩ = some (.int .i64 my)) v1 := ⟨e0, e1, a0, a1, c0, c1, z0, z1⟩
                gi_wp2
                refine anyHF_take (i := 4) (d := 69) (v := .bool true) (by kernel_rfl) rfl (by kernel_rfl) (by kernel_rfl) (by kernel_rfl) rfl (fun _ _ _ h => h) ⟨Or.inl ⟨by rfl, fun w hS => by obtain ⟨h0, h1, h2, h3, h4, h5, h6, h7⟩ := hS; go_simp⟩, fun _ => rfl⟩ hS ?_
                simp only [List.setIfInBounds_toArray, List.set_cons_zero, List.set_cons_succ]
                refine anyHF_done (by kernel_rfl) ?_ _
                clear hS
                have f0 := kr2.frozen 0
                have v0 := kr2.one
                gi_wp2_with fail
                replace hbr : Below (B + 1 + 1) X (v1.setCell ⟨B + 1 + 1, 0, none⟩ (.int .i64 (rv + 1))) := by exact hbr.setCell (by simp) _
                replace hsr : SinceO (B + 4) none X (v1.setCell ⟨B + 1 + 1, 0, none⟩ (.int .i64 (rv + 1))) := hsr.trans_ (sinceO_set _ (by omega) _ _)
                replace hbr2 : B + 1 + 1 ≤ (v1.setCell ⟨B + 1 + 1, 0, none⟩ (.int .i64 (rv + 1))).heap.size := by simpa using hbr2
                replace kr2 : Blk (v1.setCell ⟨B + 1 + 1, 0, none⟩ (.int .i64 (rv + 1))) (B + 1 + 1) 3 #[.int .i64 (rv + 1)] := by exact kr2.set_ 0 _
                replace kd2 := kd2.far (p := ⟨B + 1 + 1, 0, none⟩) (by simp) (.int .i64 (rv + 1))
                clear f0 v0
                try clear c0 c1 a0 a1 z0 z1 e0 e1
                have HFr := HF.below (hbr.mono (by omega))
                have c0 := HFr.b0.cell 0
                have c1 := HFr.b0.cell 1
                have a0 := HFr.ba.cell 0
                have a1 := HFr.ba.cell 1
                have hbxr := hsr.blk hbx (by omega) (by simp)
                have z0 := hbxr.cell 0
                have z1 := hbxr.cell 1
                simp only [List.getElem?_toArray, List.getElem?_cons_zero, List.getElem?_cons_succ] at c0 c1 a0 a1 z0 z1
                have e0 := cell_keep he0 hga hbr hsr
                have e1 := cell_keep he1 hga hbr hsr
                have hS : (fun U : World => U.cell? ⟨g, j * 2, none⟩ = some (.int .i64 x) ∧ U.cell? ⟨g, j * 2 + 1, none⟩ = some (.int .i64 y) ∧ U.cell? ⟨B, 0, none⟩ = some (.int .i64 x) ∧ U.cell? ⟨B, 1, none⟩ = some (.int .i64 y) ∧ U.cell? ⟨w.heap.size, 0, none⟩ = some (.int .i64 k) ∧ U.cell? ⟨w.heap.size, 1, none⟩ = some (.int .i64 p) ∧ U.cell? ⟨Bx, 0, none⟩ = some (.int .i64 mx) ∧ U.cell? ⟨Bx, 1, none⟩ = some (.int .i64 my)) _ := ⟨e0, e1, a0, a1, c0, c1, z0, z1⟩
                refine region_HF (S := (fun U : World => U.cell? ⟨g, j * 2, none⟩ = some (.int .i64 x) ∧ U.cell? ⟨g, j * 2 + 1, none⟩ = some (.int .i64 y) ∧ U.cell? ⟨B, 0, none⟩ = some (.int .i64 x) ∧ U.cell? ⟨B, 1, none⟩ = some (.int .i64 y) ∧ U.cell? ⟨w.heap.size, 0, none⟩ = some (.int .i64 k) ∧ U.cell? ⟨w.heap.size, 1, none⟩ = some (.int .i64 p) ∧ U.cell? ⟨Bx, 0, none⟩ = some (.int .i64 mx) ∧ U.cell? ⟨Bx, 1, none⟩ = some (.int .i64 my))) (by kernel_rfl) ?_
                refine anyHF_take (i := 0) (d := 80) (v := .slice (some ⟨g, 0, none⟩) n2 cap) (by kernel_rfl) rfl (by kernel_rfl) (by kernel_rfl) (by kernel_rfl) rfl (fun _ _ _ h => h) ⟨Or.inl ⟨by rfl, fun w hS => by obtain ⟨h0, h1, h2, h3, h4, h5, h6, h7⟩ := hS; go_simp⟩, fun _ => rfl⟩ hS ?_
                simp only [List.setIfInBounds_toArray, List.set_cons_zero, List.set_cons_succ]
                refine anyHF_take (i := 1) (d := 81) (v := .int .i64 (j : Int)) (by kernel_rfl) rfl (by kernel_rfl) (by kernel_rfl) (by kernel_rfl) rfl (fun _ _ _ h => h) ⟨Or.inl ⟨by rfl, fun w hS => by obtain ⟨h0, h1, h2, h3, h4, h5, h6, h7⟩ := hS; go_simp⟩, fun _ => rfl⟩ hS ?_
                simp only [List.setIfInBounds_toArray, List.set_cons_zero, List.set_cons_succ]
                refine anyHF_take (i := 2) (d := 82) (v := .pointer (some ⟨g, j * 2, none⟩)) (by kernel_rfl) rfl (by kernel_rfl) (by kernel_rfl) (by kernel_rfl) rfl (fun _ _ _ h => h) ⟨Or.inl ⟨by rfl, fun w hS => by obtain ⟨h0, h1, h2, h3, h4, h5, h6, h7⟩ := hS; go_simp⟩, fun _ => rfl⟩ hS ?_
                simp only [List.setIfInBounds_toArray, List.set_cons_zero, List.set_cons_succ]
                refine anyHF_take (i := 3) (d := 83) (v := .pointer (some ⟨g, j * 2, none⟩)) (by kernel_rfl) rfl (by kernel_rfl) (by kernel_rfl) (by kernel_rfl) rfl (fun _ _ _ h => h) ⟨Or.inl ⟨by rfl, fun w hS => by obtain ⟨h0, h1, h2, h3, h4, h5, h6, h7⟩ := hS; go_simp⟩, fun _ => rfl⟩ hS ?_
                simp only [List.setIfInBounds_toArray, List.set_cons_zero, List.set_cons_succ]
                refine anyHF_take (i := 4) (d := 84) (v := .int .i64 x) (by kernel_rfl) rfl (by kernel_rfl) (by kernel_rfl) (by kernel_rfl) rfl (fun _ _ _ h => h) ⟨Or.inl ⟨by rfl, fun w hS => by obtain ⟨h0, h1, h2, h3, h4, h5, h6, h7⟩ := hS; go_simp⟩, fun _ => rfl⟩ hS ?_
                simp only [List.setIfInBounds_toArray, List.set_cons_zero, List.set_cons_succ]
                refine anyHF_take (i := 5) (d := 85) (v := .agg #[.int .i64 k, .int .i64 p]) (by kernel_rfl) rfl (by kernel_rfl) (by kernel_rfl) (by kernel_rfl) rfl (fun _ _ _ h => h) ⟨Or.inl ⟨by rfl, fun w hS => by obtain ⟨h0, h1, h2, h3, h4, h5, h6, h7⟩ := hS; go_simp⟩, fun _ => rfl⟩ hS ?_
                simp only [List.setIfInBounds_toArray, List.set_cons_zero, List.set_cons_succ]
                refine anyHF_one (i := 6) (by kernel_rfl) rfl (by kernel_rfl) (by rfl) ?_
                gi_wp2_with fail
                refine ⟨trivial, (CallsIn.inRound l' (callsIn_wide.2 (HDa.out _))).mono ?_⟩
                rintro e v2 ⟨rfl, hB1⟩
                replace hB1 : Below (v1.setCell ⟨B + 1 + 1, 0, none⟩ (.int .i64 (rv + 1))).heap.size (v1.setCell ⟨B + 1 + 1, 0, none⟩ (.int .i64 (rv + 1))) v2 := by first | exact hB1 | exact below_undrew hB1 | exact below_undrew (below_undrew hB1) | exact below_undrew (below_undrew (below_undrew hB1))
                replace hbr := hbr.trans (hB1.mono hbr2)
                replace hsr := hsr.trans_ (SinceO.below hB1)
                have hbr2 : B + 1 + 1 ≤ v2.heap.size := Nat.le_trans hbr2 hB1.size
                replace kr2 := kr2.below hB1 kr2.lt
                replace kd2 := kd2.below hB1 kd2.lt
                clear hS hB1
                try clear c0 c1 a0 a1 z0 z1 e0 e1
                have HFr := HF.below (hbr.mono (by omega))
                have c0 := HFr.b0.cell 0
                have c1 := HFr.b0.cell 1
                have a0 := HFr.ba.cell 0
                have a1 := HFr.ba.cell 1
                have hbxr := hsr.blk hbx (by omega) (by simp)
                have z0 := hbxr.cell 0
                have z1 := hbxr.cell 1
                simp only [List.getElem?_toArray, List.getElem?_cons_zero, List.getElem?_cons_succ] at c0 c1 a0 a1 z0 z1
                have e0 := cell_keep he0 hga hbr hsr
                have e1 := cell_keep he1 hga hbr hsr
                have hS : (fun U : World => U.cell? ⟨g, j * 2, none⟩ = some (.int .i64 x) ∧ U.cell? ⟨g, j * 2 + 1, none⟩ = some (.int .i64 y) ∧ U.cell? ⟨B, 0, none⟩ = some (.int .i64 x) ∧ U.cell? ⟨B, 1, none⟩ = some (.int .i64 y) ∧ U.cell? ⟨w.heap.size, 0, none⟩ = some (.int .i64 k) ∧ U.cell? ⟨w.heap.size, 1, none⟩ = some (.int .i64 p) ∧ U.cell? ⟨Bx, 0, none⟩ = some (.int .i64 mx) ∧ U.cell? ⟨Bx, 1, none⟩ = some (.int .i64 my)) v2 := ⟨e0, e1, a0, a1, c0, c1, z0, z1⟩
                gi_wp2
                refine anyHF_take (i := 7) (d := 87) (v := .bool false) (by kernel_rfl) rfl (by kernel_rfl) (by kernel_rfl) (by kernel_rfl) rfl (fun _ _ _ h => h) ⟨Or.inl ⟨by rfl, fun w hS => by obtain ⟨h0, h1, h2, h3, h4, h5, h6, h7⟩ := hS; go_simp⟩, fun _ => rfl⟩ hS ?_
                simp only [List.setIfInBounds_toArray, List.set_cons_zero, List.set_cons_succ]
                refine anyHF_done (by kernel_rfl) ?_ _
                clear hS
                gi_wp2
                go_roundw
                case rel => exact ⟨j + 1, rv + 1, dv, by omega, by go_num, by rw [HTN.out]; simp, kr2, kd2, HRN.out, HDN.out, hbr, hsr⟩
                case measure => simp [intOf]; omega
              · by_cases hmx2 : mx = d + 1
                · clear hmx
                  have hmx := hmx2
                  have HRN : Hid (rv = (cr : Int) + (if mx = d then ((l.take (j + 1)).count (x, y) : Int) else 0)) := by have hRo := HRv.out; unfold Hid; rw [hRo, if_neg (by omega), if_neg (by omega)]
                  have HDN : Hid (dv + 1 = (cd : Int) + (if mx = d + 1 then ((l.take (j + 1)).count (x, y) : Int) else 0)) := by have hDo := HDv.out; unfold Hid; rw [hDo, if_pos hmx, if_pos hmx, hcn, if_pos rfl]; omega
                  subst hmx
                  have hm9 : (d + 1 == d) = false := by rw [beq_eq_false_iff_ne]; omega
                  clear hcn htn HRv HDv hcb hin
                  gi_wp2_with fail
                  have hS : (fun U : World => U.cell? ⟨g, j * 2, none⟩ = some (.int .i64 x) ∧ U.cell? ⟨g, j * 2 + 1, none⟩ = some (.int .i64 y) ∧ U.cell? ⟨B, 0, none⟩ = some (.int .i64 x) ∧ U.cell? ⟨B, 1, none⟩ = some (.int .i64 y) ∧ U.cell? ⟨w.heap.size, 0, none⟩ = some (.int .i64 k) ∧ U.cell? ⟨w.heap.size, 1, none⟩ = some (.int .i64 p) ∧ U.cell? ⟨Bx, 0, none⟩ = some (.int .i64 (d + 1)) ∧ U.cell? ⟨Bx, 1, none⟩ = some (.int .i64 my)) _ := ⟨e0, e1, a0, a1, c0, c1, z0, z1⟩
                  refine region_HF (S := (fun U : World => U.cell? ⟨g, j * 2, none⟩ = some (.int .i64 x) ∧ U.cell? ⟨g, j * 2 + 1, none⟩ = some (.int .i64 y) ∧ U.cell? ⟨B, 0, none⟩ = some (.int .i64 x) ∧ U.cell? ⟨B, 1, none⟩ = some (.int .i64 y) ∧ U.cell? ⟨w.heap.size, 0, none⟩ = some (.int .i64 k) ∧ U.cell? ⟨w.heap.size, 1, none⟩ = some (.int .i64 p) ∧ U.cell? ⟨Bx, 0, none⟩ = some (.int .i64 (d + 1)) ∧ U.cell? ⟨Bx, 1, none⟩ = some (.int .i64 my))) (by kernel_rfl) ?_
                  refine anyHF_take (i := 0) (d := 57) (v := .slice (some ⟨g, 0, none⟩) n2 cap) (by kernel_rfl) rfl (by kernel_rfl) (by kernel_rfl) (by kernel_rfl) rfl (fun _ _ _ h => h) ⟨Or.inl ⟨by rfl, fun w hS => by obtain ⟨h0, h1, h2, h3, h4, h5, h6, h7⟩ := hS; go_simp⟩, fun _ => rfl⟩ hS ?_
                  simp only [List.setIfInBounds_toArray, List.set_cons_zero, List.set_cons_succ]
                  refine anyHF_take (i := 1) (d := 58) (v := .int .i64 (j : Int)) (by kernel_rfl) rfl (by kernel_rfl) (by kernel_rfl) (by kernel_rfl) rfl (fun _ _ _ h => h) ⟨Or.inl ⟨by rfl, fun w hS => by obtain ⟨h0, h1, h2, h3, h4, h5, h6, h7⟩ := hS; go_simp⟩, fun _ => rfl⟩ hS ?_
                  simp only [List.setIfInBounds_toArray, List.set_cons_zero, List.set_cons_succ]
                  refine anyHF_take (i := 2) (d := 59) (v := .pointer (some ⟨g, j * 2, none⟩)) (by kernel_rfl) rfl (by kernel_rfl) (by kernel_rfl) (by kernel_rfl) rfl (fun _ _ _ h => h) ⟨Or.inl ⟨by rfl, fun w hS => by obtain ⟨h0, h1, h2, h3, h4, h5, h6, h7⟩ := hS; go_simp⟩, fun _ => rfl⟩ hS ?_
                  simp only [List.setIfInBounds_toArray, List.set_cons_zero, List.set_cons_succ]
                  refine anyHF_take (i := 3) (d := 60) (v := .agg #[.int .i64 x, .int .i64 y]) (by kernel_rfl) rfl (by kernel_rfl) (by kernel_rfl) (by kernel_rfl) rfl (fun _ _ _ h => h) ⟨Or.inl ⟨by rfl, fun w hS => by obtain ⟨h0, h1, h2, h3, h4, h5, h6, h7⟩ := hS; go_simp⟩, fun _ => rfl⟩ hS ?_
                  simp only [List.setIfInBounds_toArray, List.set_cons_zero, List.set_cons_succ]
                  refine anyHF_take (i := 4) (d := 61) (v := .agg #[.int .i64 x, .int .i64 y]) (by kernel_rfl) rfl (by kernel_rfl) (by kernel_rfl) (by kernel_rfl) rfl (fun _ _ _ h => h) ⟨Or.inl ⟨by rfl, fun w hS => by obtain ⟨h0, h1, h2, h3, h4, h5, h6, h7⟩ := hS; go_simp⟩, fun _ => rfl⟩ hS ?_
                  simp only [List.setIfInBounds_toArray, List.set_cons_zero, List.set_cons_succ]
                  refine anyHF_take (i := 5) (d := 62) (v := .bool true) (by kernel_rfl) rfl (by kernel_rfl) (by kernel_rfl) (by kernel_rfl) rfl (fun _ _ _ h => h) ⟨Or.inl ⟨by rfl, fun w hS => by obtain ⟨h0, h1, h2, h3, h4, h5, h6, h7⟩ := hS; go_simp⟩, fun _ => rfl⟩ hS ?_
                  simp only [List.setIfInBounds_toArray, List.set_cons_zero, List.set_cons_succ]
                  refine anyHF_done (by kernel_rfl) ?_ _
                  clear hS
                  gi_wp2_with fail
                  have hS : (fun U : World => U.cell? ⟨g, j * 2, none⟩ = some (.int .i64 x) ∧ U.cell? ⟨g, j * 2 + 1, none⟩ = some (.int .i64 y) ∧ U.cell? ⟨B, 0, none⟩ = some (.int .i64 x) ∧ U.cell? ⟨B, 1, none⟩ = some (.int .i64 y) ∧ U.cell? ⟨w.heap.size, 0, none⟩ = some (.int .i64 k) ∧ U.cell? ⟨w.heap.size, 1, none⟩ = some (.int .i64 p) ∧ U.cell? ⟨Bx, 0, none⟩ = some (.int .i64 (d + 1)) ∧ U.cell? ⟨Bx, 1, none⟩ = some (.int .i64 my)) _ := ⟨e0, e1, a0, a1, c0, c1, z0, z1⟩
                  refine region_HF (S := (fun U : World => U.cell? ⟨g, j * 2, none⟩ = some (.int .i64 x) ∧ U.cell? ⟨g, j * 2 + 1, none⟩ = some (.int .i64 y) ∧ U.cell? ⟨B, 0, none⟩ = some (.int .i64 x) ∧ U.cell? ⟨B, 1, none⟩ = some (.int .i64 y) ∧ U.cell? ⟨w.heap.size, 0, none⟩ = some (.int .i64 k) ∧ U.cell? ⟨w.heap.size, 1, none⟩ = some (.int .i64 p) ∧ U.cell? ⟨Bx, 0, none⟩ = some (.int .i64 (d + 1)) ∧ U.cell? ⟨Bx, 1, none⟩ = some (.int .i64 my))) (by kernel_rfl) ?_
                  refine anyHF_take (i := 0) (d := 65) (v := .pointer (some ⟨Bx, 0, none⟩)) (by kernel_rfl) rfl (by kernel_rfl) (by kernel_rfl) (by kernel_rfl) rfl (fun _ _ _ h => h) ⟨Or.inl ⟨by rfl, fun w hS => by obtain ⟨h0, h1, h2, h3, h4, h5, h6, h7⟩ := hS; go_simp⟩, fun _ => rfl⟩ hS ?_
                  simp only [List.setIfInBounds_toArray, List.set_cons_zero, List.set_cons_succ]
                  refine anyHF_take (i := 1) (d := 66) (v := .int .i64 (d + 1)) (by kernel_rfl) rfl (by kernel_rfl) (by kernel_rfl) (by kernel_rfl) rfl (fun _ _ _ h => h) ⟨Or.inl ⟨by rfl, fun w hS => by obtain ⟨h0, h1, h2, h3, h4, h5, h6, h7⟩ := hS; go_simp⟩, fun _ => rfl⟩ hS ?_
                  simp only [List.setIfInBounds_toArray, List.set_cons_zero, List.set_cons_succ]
                  refine anyHF_take (i := 2) (d := 67) (v := .agg #[.int .i64 k, .int .i64 p]) (by kernel_rfl) rfl (by kernel_rfl) (by kernel_rfl) (by kernel_rfl) rfl (fun _ _ _ h => h) ⟨Or.inl ⟨by rfl, fun w hS => by obtain ⟨h0, h1, h2, h3, h4, h5, h6, h7⟩ := hS; go_simp⟩, fun _ => rfl⟩ hS ?_
                  simp only [List.setIfInBounds_toArray, List.set_cons_zero, List.set_cons_succ]
                  refine anyHF_one (i := 3) (by kernel_rfl) rfl (by kernel_rfl) (by rfl) ?_
                  gi_wp2_with fail
                  refine ⟨trivial, (CallsIn.inRound l' (callsIn_wide.2 (HDa.out _))).mono ?_⟩
                  rintro e v1 ⟨rfl, hB1⟩
                  replace hB1 : Below (wr).heap.size (wr) v1 := by first | exact hB1 | exact below_undrew hB1 | exact below_undrew (below_undrew hB1) | exact below_undrew (below_undrew (below_undrew hB1))
                  replace hbr := hbr.trans (hB1.mono hbr2)
                  replace hsr := hsr.trans_ (SinceO.below hB1)
                  have hbr2 : B + 1 + 1 ≤ v1.heap.size := Nat.le_trans hbr2 hB1.size
                  replace kr2 := kr2.below hB1 kr2.lt
                  replace kd2 := kd2.below hB1 kd2.lt
                  clear hS hB1
                  try clear c0 c1 a0 a1 z0 z1 e0 e1
                  have HFr := HF.below (hbr.mono (by omega))
                  have c0 := HFr.b0.cell 0
                  have c1 := HFr.b0.cell 1
                  have a0 := HFr.ba.cell 0
                  have a1 := HFr.ba.cell 1
                  have hbxr := hsr.blk hbx (by omega) (by simp)
                  have z0 := hbxr.cell 0
                  have z1 := hbxr.cell 1
                  simp only [List.getElem?_toArray, List.getElem?_cons_zero, List.getElem?_cons_succ] at c0 c1 a0 a1 z0 z1
                  have e0 := cell_keep he0 hga hbr hsr
                  have e1 := cell_keep he1 hga hbr hsr
                  have hS : (fun U : World => U.cell? ⟨g, j * 2, none⟩ = some (.int .i64 x) ∧ U.cell? ⟨g, j * 2 + 1, none⟩ = some (.int .i64 y) ∧ U.cell? ⟨B, 0, none⟩ = some (.int .i64 x) ∧ U.cell? ⟨B, 1, none⟩ = some (.int .i64 y) ∧ U.cell? ⟨w.heap.size, 0, none⟩ = some (.int .i64 k) ∧ U.cell? ⟨w.heap.size, 1, none⟩ = some (.int .i64 p) ∧ U.cell? ⟨Bx, 0, none⟩ = some (.int .i64 (d + 1)) ∧ U.cell? ⟨Bx, 1, none⟩ = some (.int .i64 my)) v1 := ⟨e0, e1, a0, a1, c0, c1, z0, z1⟩
                  gi_wp2
                  refine anyHF_take (i := 4) (d := 69) (v := .bool false) (by kernel_rfl) rfl (by kernel_rfl) (by kernel_rfl) (by kernel_rfl) rfl (fun _ _ _ h => h) ⟨Or.inl ⟨by rfl, fun w hS => by obtain ⟨h0, h1, h2, h3, h4, h5, h6, h7⟩ := hS; go_simp⟩, fun _ => rfl⟩ hS ?_
                  simp only [List.setIfInBounds_toArray, List.set_cons_zero, List.set_cons_succ]
                  refine anyHF_done (by kernel_rfl) ?_ _
                  clear hS
                  gi_wp2_with fail
                  have hS : (fun U : World => U.cell? ⟨g, j * 2, none⟩ = some (.int .i64 x) ∧ U.cell? ⟨g, j * 2 + 1, none⟩ = some (.int .i64 y) ∧ U.cell? ⟨B, 0, none⟩ = some (.int .i64 x) ∧ U.cell? ⟨B, 1, none⟩ = some (.int .i64 y) ∧ U.cell? ⟨w.heap.size, 0, none⟩ = some (.int .i64 k) ∧ U.cell? ⟨w.heap.size, 1, none⟩ = some (.int .i64 p) ∧ U.cell? ⟨Bx, 0, none⟩ = some (.int .i64 (d + 1)) ∧ U.cell? ⟨Bx, 1, none⟩ = some (.int .i64 my)) _ := ⟨e0, e1, a0, a1, c0, c1, z0, z1⟩
                  refine region_HF (S := (fun U : World => U.cell? ⟨g, j * 2, none⟩ = some (.int .i64 x) ∧ U.cell? ⟨g, j * 2 + 1, none⟩ = some (.int .i64 y) ∧ U.cell? ⟨B, 0, none⟩ = some (.int .i64 x) ∧ U.cell? ⟨B, 1, none⟩ = some (.int .i64 y) ∧ U.cell? ⟨w.heap.size, 0, none⟩ = some (.int .i64 k) ∧ U.cell? ⟨w.heap.size, 1, none⟩ = some (.int .i64 p) ∧ U.cell? ⟨Bx, 0, none⟩ = some (.int .i64 (d + 1)) ∧ U.cell? ⟨Bx, 1, none⟩ = some (.int .i64 my))) (by kernel_rfl) ?_
                  refine anyHF_take (i := 0) (d := 72) (v := .pointer (some ⟨Bx, 0, none⟩)) (by kernel_rfl) rfl (by kernel_rfl) (by kernel_rfl) (by kernel_rfl) rfl (fun _ _ _ h => h) ⟨Or.inl ⟨by rfl, fun w hS => by obtain ⟨h0, h1, h2, h3, h4, h5, h6, h7⟩ := hS; go_simp⟩, fun _ => rfl⟩ hS ?_
                  simp only [List.setIfInBounds_toArray, List.set_cons_zero, List.set_cons_succ]
                  refine anyHF_take (i := 1) (d := 73) (v := .int .i64 (d + 1)) (by kernel_rfl) rfl (by kernel_rfl) (by kernel_rfl) (by kernel_rfl) rfl (fun _ _ _ h => h) ⟨Or.inl ⟨by rfl, fun w hS => by obtain ⟨h0, h1, h2, h3, h4, h5, h6, h7⟩ := hS; go_simp⟩, fun _ => rfl⟩ hS ?_
                  simp only [List.setIfInBounds_toArray, List.set_cons_zero, List.set_cons_succ]
                  refine anyHF_take (i := 2) (d := 74) (v := .agg #[.int .i64 k, .int .i64 p]) (by kernel_rfl) rfl (by kernel_rfl) (by kernel_rfl) (by kernel_rfl) rfl (fun _ _ _ h => h) ⟨Or.inl ⟨by rfl, fun w hS => by obtain ⟨h0, h1, h2, h3, h4, h5, h6, h7⟩ := hS; go_simp⟩, fun _ => rfl⟩ hS ?_
                  simp only [List.setIfInBounds_toArray, List.set_cons_zero, List.set_cons_succ]
                  refine anyHF_one (i := 3) (by kernel_rfl) rfl (by kernel_rfl) (by rfl) ?_
                  gi_wp2_with fail
                  refine ⟨trivial, (CallsIn.inRound l' (callsIn_wide.2 (HDa.out _))).mono ?_⟩
                  rintro e v2 ⟨rfl, hB1⟩
                  replace hB1 : Below (v1).heap.size (v1) v2 := by first | exact hB1 | exact below_undrew hB1 | exact below_undrew (below_undrew hB1) | exact below_undrew (below_undrew (below_undrew hB1))
                  replace hbr := hbr.trans (hB1.mono hbr2)
                  replace hsr := hsr.trans_ (SinceO.below hB1)
                  have hbr2 : B + 1 + 1 ≤ v2.heap.size := Nat.le_trans hbr2 hB1.size
                  replace kr2 := kr2.below hB1 kr2.lt
                  replace kd2 := kd2.below hB1 kd2.lt
                  clear hS hB1
                  try clear c0 c1 a0 a1 z0 z1 e0 e1
                  have HFr := HF.below (hbr.mono (by omega))
                  have c0 := HFr.b0.cell 0
                  have c1 := HFr.b0.cell 1
                  have a0 := HFr.ba.cell 0
                  have a1 := HFr.ba.cell 1
                  have hbxr := hsr.blk hbx (by omega) (by simp)
                  have z0 := hbxr.cell 0
                  have z1 := hbxr.cell 1
                  simp only [List.getElem?_toArray, List.getElem?_cons_zero, List.getElem?_cons_succ] at c0 c1 a0 a1 z0 z1
                  have e0 := cell_keep he0 hga hbr hsr
                  have e1 := cell_keep he1 hga hbr hsr
                  have hS : (fun U : World => U.cell? ⟨g, j * 2, none⟩ = some (.int .i64 x) ∧ U.cell? ⟨g, j * 2 + 1, none⟩ = some (.int .i64 y) ∧ U.cell? ⟨B, 0, none⟩ = some (.int .i64 x) ∧ U.cell? ⟨B, 1, none⟩ = some (.int .i64 y) ∧ U.cell? ⟨w.heap.size, 0, none⟩ = some (.int .i64 k) ∧ U.cell? ⟨w.heap.size, 1, none⟩ = some (.int .i64 p) ∧ U.cell? ⟨Bx, 0, none⟩ = some (.int .i64 (d + 1)) ∧ U.cell? ⟨Bx, 1, none⟩ = some (.int .i64 my)) v2 := ⟨e0, e1, a0, a1, c0, c1, z0, z1⟩
                  gi_wp2
                  refine anyHF_take (i := 4) (d := 76) (v := .int .i64 (d + 1)) (by kernel_rfl) rfl (by kernel_rfl) (by kernel_rfl) (by kernel_rfl) rfl (fun _ _ _ h => h) ⟨Or.inl ⟨by rfl, fun w hS => by obtain ⟨h0, h1, h2, h3, h4, h5, h6, h7⟩ := hS; go_simp⟩, fun _ => rfl⟩ hS ?_
                  simp only [List.setIfInBounds_toArray, List.set_cons_zero, List.set_cons_succ]
                  refine anyHF_take (i := 5) (d := 77) (v := .bool true) (by kernel_rfl) rfl (by kernel_rfl) (by kernel_rfl) (by kernel_rfl) rfl (fun _ _ _ h => h) ⟨Or.inl ⟨by rfl, fun w hS => by obtain ⟨h0, h1, h2, h3, h4, h5, h6, h7⟩ := hS; go_simp⟩, fun _ => rfl⟩ hS ?_
                  simp only [List.setIfInBounds_toArray, List.set_cons_zero, List.set_cons_succ]
                  refine anyHF_done (by kernel_rfl) ?_ _
                  clear hS
                  have f0 := kd2.frozen 0
                  have v0 := kd2.one
                  gi_wp2_with fail
                  replace hbr : Below (B + 1 + 1) X (v2.setCell ⟨B + 1 + 1 + 1, 0, none⟩ (.int .i64 (dv + 1))) := by exact hbr.setCell (by simp) _
                  replace hsr : SinceO (B + 4) none X (v2.setCell ⟨B + 1 + 1 + 1, 0, none⟩ (.int .i64 (dv + 1))) := hsr.trans_ (sinceO_set _ (by omega) _ _)
                  replace hbr2 : B + 1 + 1 ≤ (v2.setCell ⟨B + 1 + 1 + 1, 0, none⟩ (.int .i64 (dv + 1))).heap.size := by simpa using hbr2
                  replace kd2 : Blk (v2.setCell ⟨B + 1 + 1 + 1, 0, none⟩ (.int .i64 (dv + 1))) (B + 1 + 1 + 1) 3 #[.int .i64 (dv + 1)] := by exact kd2.set_ 0 _
                  replace kr2 := kr2.far (p := ⟨B + 1 + 1 + 1, 0, none⟩) (by simp) (.int .i64 (dv + 1))
                  clear f0 v0
                  try clear c0 c1 a0 a1 z0 z1 e0 e1
                  have HFr := HF.below (hbr.mono (by omega))
                  have c0 := HFr.b0.cell 0
                  have c1 := HFr.b0.cell 1
                  have a0 := HFr.ba.cell 0
                  have a1 := HFr.ba.cell 1
                  have hbxr := hsr.blk hbx (by omega) (by simp)
                  have z0 := hbxr.cell 0
                  have z1 := hbxr.cell 1
                  simp only [List.getElem?_toArray, List.getElem?_cons_zero, List.getElem?_cons_succ] at c0 c1 a0 a1 z0 z1
                  have e0 := cell_keep he0 hga hbr hsr
                  have e1 := cell_keep he1 hga hbr hsr
                  have hS : (fun U : World => U.cell? ⟨g, j * 2, none⟩ = some (.int .i64 x) ∧ U.cell? ⟨g, j * 2 + 1, none⟩ = some (.int .i64 y) ∧ U.cell? ⟨B, 0, none⟩ = some (.int .i64 x) ∧ U.cell? ⟨B, 1, none⟩ = some (.int .i64 y) ∧ U.cell? ⟨w.heap.size, 0, none⟩ = some (.int .i64 k) ∧ U.cell? ⟨w.heap.size, 1, none⟩ = some (.int .i64 p) ∧ U.cell? ⟨Bx, 0, none⟩ = some (.int .i64 (d + 1)) ∧ U.cell? ⟨Bx, 1, none⟩ = some (.int .i64 my)) _ := ⟨e0, e1, a0, a1, c0, c1, z0, z1⟩
                  refine region_HF (S := (fun U : World => U.cell? ⟨g, j * 2, none⟩ = some (.int .i64 x) ∧ U.cell? ⟨g, j * 2 + 1, none⟩ = some (.int .i64 y) ∧ U.cell? ⟨B, 0, none⟩ = some (.int .i64 x) ∧ U.cell? ⟨B, 1, none⟩ = some (.int .i64 y) ∧ U.cell? ⟨w.heap.size, 0, none⟩ = some (.int .i64 k) ∧ U.cell? ⟨w.heap.size, 1, none⟩ = some (.int .i64 p) ∧ U.cell? ⟨Bx, 0, none⟩ = some (.int .i64 (d + 1)) ∧ U.cell? ⟨Bx, 1, none⟩ = some (.int .i64 my))) (by kernel_rfl) ?_
                  refine anyHF_take (i := 0) (d := 80) (v := .slice (some ⟨g, 0, none⟩) n2 cap) (by kernel_rfl) rfl (by kernel_rfl) (by kernel_rfl) (by kernel_rfl) rfl (fun _ _ _ h => h) ⟨Or.inl ⟨by rfl, fun w hS => by obtain ⟨h0, h1, h2, h3, h4, h5, h6, h7⟩ := hS; go_simp⟩, fun _ => rfl⟩ hS ?_
                  simp only [List.setIfInBounds_toArray, List.set_cons_zero, List.set_cons_succ]
                  refine anyHF_take (i := 1) (d := 81) (v := .int .i64 (j : Int)) (by kernel_rfl) rfl (by kernel_rfl) (by kernel_rfl) (by kernel_rfl) rfl (fun _ _ _ h => h) ⟨Or.inl ⟨by rfl, fun w hS => by obtain ⟨h0, h1, h2, h3, h4, h5, h6, h7⟩ := hS; go_simp⟩, fun _ => rfl⟩ hS ?_
                  simp only [List.setIfInBounds_toArray, List.set_cons_zero, List.set_cons_succ]
                  refine anyHF_take (i := 2) (d := 82) (v := .pointer (some ⟨g, j * 2, none⟩)) (by kernel_rfl) rfl (by kernel_rfl) (by kernel_rfl) (by kernel_rfl) rfl (fun _ _ _ h => h) ⟨Or.inl ⟨by rfl, fun w hS => by obtain ⟨h0, h1, h2, h3, h4, h5, h6, h7⟩ := hS; go_simp⟩, fun _ => rfl⟩ hS ?_
                  simp only [List.setIfInBounds_toArray, List.set_cons_zero, List.set_cons_succ]
                  refine anyHF_take (i := 3) (d := 83) (v := .pointer (some ⟨g, j * 2, none⟩)) (by kernel_rfl) rfl (by kernel_rfl) (by kernel_rfl) (by kernel_rfl) rfl (fun _ _ _ h => h) ⟨Or.inl ⟨by rfl, fun w hS => by obtain ⟨h0, h1, h2, h3, h4, h5, h6, h7⟩ := hS; go_simp⟩, fun _ => rfl⟩ hS ?_
                  simp only [List.setIfInBounds_toArray, List.set_cons_zero, List.set_cons_succ]
                  refine anyHF_take (i := 4) (d := 84) (v := .int .i64 x) (by kernel_rfl) rfl (by kernel_rfl) (by kernel_rfl) (by kernel_rfl) rfl (fun _ _ _ h => h) ⟨Or.inl ⟨by rfl, fun w hS => by obtain ⟨h0, h1, h2, h3, h4, h5, h6, h7⟩ := hS; go_simp⟩, fun _ => rfl⟩ hS ?_
                  simp only [List.setIfInBounds_toArray, List.set_cons_zero, List.set_cons_succ]
                  refine anyHF_take (i := 5) (d := 85) (v := .agg #[.int .i64 k, .int .i64 p]) (by kernel_rfl) rfl (by kernel_rfl) (by kernel_rfl) (by kernel_rfl) rfl (fun _ _ _ h => h) ⟨Or.inl ⟨by rfl, fun w hS => by obtain ⟨h0, h1, h2, h3, h4, h5, h6, h7⟩ := hS; go_simp⟩, fun _ => rfl⟩ hS ?_
                  simp only [List.setIfInBounds_toArray, List.set_cons_zero, List.set_cons_succ]
                  refine anyHF_one (i := 6) (by kernel_rfl) rfl (by kernel_rfl) (by rfl) ?_
                  gi_wp2_with fail
                  refine ⟨trivial, (CallsIn.inRound l' (callsIn_wide.2 (HDa.out _))).mono ?_⟩
                  rintro e v3 ⟨rfl, hB1⟩
                  replace hB1 : Below (v2.setCell ⟨B + 1 + 1 + 1, 0, none⟩ (.int .i64 (dv + 1))).heap.size (v2.setCell ⟨B + 1 + 1 + 1, 0, none⟩ (.int .i64 (dv + 1))) v3 := by first | exact hB1 | exact below_undrew hB1 | exact below_undrew (below_undrew hB1) | exact below_undrew (below_undrew (below_undrew hB1))
                  replace hbr := hbr.trans (hB1.mono hbr2)
                  replace hsr := hsr.trans_ (SinceO.below hB1)
                  have hbr2 : B + 1 + 1 ≤ v3.heap.size := Nat.le_trans hbr2 hB1.size
                  replace kr2 := kr2.below hB1 kr2.lt
                  replace kd2 := kd2.below hB1 kd2.lt
                  clear hS hB1
                  try clear c0 c1 a0 a1 z0 z1 e0 e1
                  have HFr := HF.below (hbr.mono (by omega))
                  have c0 := HFr.b0.cell 0
                  have c1 := HFr.b0.cell 1
                  have a0 := HFr.ba.cell 0
                  have a1 := HFr.ba.cell 1
                  have hbxr := hsr.blk hbx (by omega) (by simp)
                  have z0 := hbxr.cell 0
                  have z1 := hbxr.cell 1
                  simp only [List.getElem?_toArray, List.getElem?_cons_zero, List.getElem?_cons_succ] at c0 c1 a0 a1 z0 z1
                  have e0 := cell_keep he0 hga hbr hsr
                  have e1 := cell_keep he1 hga hbr hsr
                  have hS : (fun U : World => U.cell? ⟨g, j * 2, none⟩ = some (.int .i64 x) ∧ U.cell? ⟨g, j * 2 + 1, none⟩ = some (.int .i64 y) ∧ U.cell? ⟨B, 0, none⟩ = some (.int .i64 x) ∧ U.cell? ⟨B, 1, none⟩ = some (.int .i64 y) ∧ U.cell? ⟨w.heap.size, 0, none⟩ = some (.int .i64 k) ∧ U.cell? ⟨w.heap.size, 1, none⟩ = some (.int .i64 p) ∧ U.cell? ⟨Bx, 0, none⟩ = some (.int .i64 (d + 1)) ∧ U.cell? ⟨Bx, 1, none⟩ = some (.int .i64 my)) v3 := ⟨e0, e1, a0, a1, c0, c1, z0, z1⟩
                  gi_wp2
                  refine anyHF_take (i := 7) (d := 87) (v := .bool false) (by kernel_rfl) rfl (by kernel_rfl) (by kernel_rfl) (by kernel_rfl) rfl (fun _ _ _ h => h) ⟨Or.inl ⟨by rfl, fun w hS => by obtain ⟨h0, h1, h2, h3, h4, h5, h6, h7⟩ := hS; go_simp⟩, fun _ => rfl⟩ hS ?_
                  simp only [List.setIfInBounds_toArray, List.set_cons_zero, List.set_cons_succ]
                  refine anyHF_done (by kernel_rfl) ?_ _
                  clear hS
                  gi_wp2
                  go_roundw
                  case rel => exact ⟨j + 1, rv, dv + 1, by omega, by go_num, by rw [HTN.out]; simp, kr2, kd2, HRN.out, HDN.out, hbr, hsr⟩
                  case measure => simp [intOf]; omega
                · have HRN : Hid (rv = (cr : Int) + (if mx = d then ((l.take (j + 1)).count (x, y) : Int) else 0)) := by have hRo := HRv.out; unfold Hid; rw [hRo, if_neg hmx, if_neg hmx]
                  have HDN : Hid (dv = (cd : Int) + (if mx = d + 1 then ((l.take (j + 1)).count (x, y) : Int) else 0)) := by have hDo := HDv.out; unfold Hid; rw [hDo, if_neg hmx2, if_neg hmx2]
                  have hm9 : (mx == d) = false := by simpa using hmx
                  have hm8 : (mx == d + 1) = false := by simpa using hmx2
                  clear hcn htn HRv HDv hcb hin
                  clear hmx hmx2
                  gi_wp2_with fail
                  have hS : (fun U : World => U.cell? ⟨g, j * 2, none⟩ = some (.int .i64 x) ∧ U.cell? ⟨g, j * 2 + 1, none⟩ = some (.int .i64 y) ∧ U.cell? ⟨B, 0, none⟩ = some (.int .i64 x) ∧ U.cell? ⟨B, 1, none⟩ = some (.int .i64 y) ∧ U.cell? ⟨w.heap.size, 0, none⟩ = some (.int .i64 k) ∧ U.cell? ⟨w.heap.size, 1, none⟩ = some (.int .i64 p) ∧ U.cell? ⟨Bx, 0, none⟩ = some (.int .i64 mx) ∧ U.cell? ⟨Bx, 1, none⟩ = some (.int .i64 my)) _ := ⟨e0, e1, a0, a1, c0, c1, z0, z1⟩
                  refine region_HF (S := (fun U : World => U.cell? ⟨g, j * 2, none⟩ = some (.int .i64 x) ∧ U.cell? ⟨g, j * 2 + 1, none⟩ = some (.int .i64 y) ∧ U.cell? ⟨B, 0, none⟩ = some (.int .i64 x) ∧ U.cell? ⟨B, 1, none⟩ = some (.int .i64 y) ∧ U.cell? ⟨w.heap.size, 0, none⟩ = some (.int .i64 k) ∧ U.cell? ⟨w.heap.size, 1, none⟩ = some (.int .i64 p) ∧ U.cell? ⟨Bx, 0, none⟩ = some (.int .i64 mx) ∧ U.cell? ⟨Bx, 1, none⟩ = some (.int .i64 my))) (by kernel_rfl) ?_
                  refine anyHF_take (i := 0) (d := 57) (v := .slice (some ⟨g, 0, none⟩) n2 cap) (by kernel_rfl) rfl (by kernel_rfl) (by kernel_rfl) (by kernel_rfl) rfl (fun _ _ _ h => h) ⟨Or.inl ⟨by rfl, fun w hS => by obtain ⟨h0, h1, h2, h3, h4, h5, h6, h7⟩ := hS; go_simp⟩, fun _ => rfl⟩ hS ?_
                  simp only [List.setIfInBounds_toArray, List.set_cons_zero, List.set_cons_succ]
                  refine anyHF_take (i := 1) (d := 58) (v := .int .i64 (j : Int)) (by kernel_rfl) rfl (by kernel_rfl) (by kernel_rfl) (by kernel_rfl) rfl (fun _ _ _ h => h) ⟨Or.inl ⟨by rfl, fun w hS => by obtain ⟨h0, h1, h2, h3, h4, h5, h6, h7⟩ := hS; go_simp⟩, fun _ => rfl⟩ hS ?_
                  simp only [List.setIfInBounds_toArray, List.set_cons_zero, List.set_cons_succ]
                  refine anyHF_take (i := 2) (d := 59) (v := .pointer (some ⟨g, j * 2, none⟩)) (by kernel_rfl) rfl (by kernel_rfl) (by kernel_rfl) (by kernel_rfl) rfl (fun _ _ _ h => h) ⟨Or.inl ⟨by rfl, fun w hS => by obtain ⟨h0, h1, h2, h3, h4, h5, h6, h7⟩ := hS; go_simp⟩, fun _ => rfl⟩ hS ?_
                  simp only [List.setIfInBounds_toArray, List.set_cons_zero, List.set_cons_succ]
                  refine anyHF_take (i := 3) (d := 60) (v := .agg #[.int .i64 x, .int .i64 y]) (by kernel_rfl) rfl (by kernel_rfl) (by kernel_rfl) (by kernel_rfl) rfl (fun _ _ _ h => h) ⟨Or.inl ⟨by rfl, fun w hS => by obtain ⟨h0, h1, h2, h3, h4, h5, h6, h7⟩ := hS; go_simp⟩, fun _ => rfl⟩ hS ?_
                  simp only [List.setIfInBounds_toArray, List.set_cons_zero, List.set_cons_succ]
                  refine anyHF_take (i := 4) (d := 61) (v := .agg #[.int .i64 x, .int .i64 y]) (by kernel_rfl) rfl (by kernel_rfl) (by kernel_rfl) (by kernel_rfl) rfl (fun _ _ _ h => h) ⟨Or.inl ⟨by rfl, fun w hS => by obtain ⟨h0, h1, h2, h3, h4, h5, h6, h7⟩ := hS; go_simp⟩, fun _ => rfl⟩ hS ?_
                  simp only [List.setIfInBounds_toArray, List.set_cons_zero, List.set_cons_succ]
                  refine anyHF_take (i := 5) (d := 62) (v := .bool true) (by kernel_rfl) rfl (by kernel_rfl) (by kernel_rfl) (by kernel_rfl) rfl (fun _ _ _ h => h) ⟨Or.inl ⟨by rfl, fun w hS => by obtain ⟨h0, h1, h2, h3, h4, h5, h6, h7⟩ := hS; go_simp⟩, fun _ => rfl⟩ hS ?_
                  simp only [List.setIfInBounds_toArray, List.set_cons_zero, List.set_cons_succ]
                  refine anyHF_done (by kernel_rfl) ?_ _
                  clear hS
                  gi_wp2_with fail
                  have hS : (fun U : World => U.cell? ⟨g, j * 2, none⟩ = some (.int .i64 x) ∧ U.cell? ⟨g, j * 2 + 1, none⟩ = some (.int .i64 y) ∧ U.cell? ⟨B, 0, none⟩ = some (.int .i64 x) ∧ U.cell? ⟨B, 1, none⟩ = some (.int .i64 y) ∧ U.cell? ⟨w.heap.size, 0, none⟩ = some (.int .i64 k) ∧ U.cell? ⟨w.heap.size, 1, none⟩ = some (.int .i64 p) ∧ U.cell? ⟨Bx, 0, none⟩ = some (.int .i64 mx) ∧ U.cell? ⟨Bx, 1, none⟩ = some (.int .i64 my)) _ := ⟨e0, e1, a0, a1, c0, c1, z0, z1⟩
                  refine region_HF (S := (fun U : World => U.cell? ⟨g, j * 2, none⟩ = some (.int .i64 x) ∧ U.cell? ⟨g, j * 2 + 1, none⟩ = some (.int .i64 y) ∧ U.cell? ⟨B, 0, none⟩ = some (.int .i64 x) ∧ U.cell? ⟨B, 1, none⟩ = some (.int .i64 y) ∧ U.cell? ⟨w.heap.size, 0, none⟩ = some (.int .i64 k) ∧ U.cell? ⟨w.heap.size, 1, none⟩ = some (.int .i64 p) ∧ U.cell? ⟨Bx, 0, none⟩ = some (.int .i64 mx) ∧ U.cell? ⟨Bx, 1, none⟩ = some (.int .i64 my))) (by kernel_rfl) ?_
                  refine anyHF_take (i := 0) (d := 65) (v := .pointer (some ⟨Bx, 0, none⟩)) (by kernel_rfl) rfl (by kernel_rfl) (by kernel_rfl) (by kernel_rfl) rfl (fun _ _ _ h => h) ⟨Or.inl ⟨by rfl, fun w hS => by obtain ⟨h0, h1, h2, h3, h4, h5, h6, h7⟩ := hS; go_simp⟩, fun _ => rfl⟩ hS ?_
                  simp only [List.setIfInBounds_toArray, List.set_cons_zero, List.set_cons_succ]
                  refine anyHF_take (i := 1) (d := 66) (v := .int .i64 mx) (by kernel_rfl) rfl (by kernel_rfl) (by kernel_rfl) (by kernel_rfl) rfl (fun _ _ _ h => h) ⟨Or.inl ⟨by rfl, fun w hS => by obtain ⟨h0, h1, h2, h3, h4, h5, h6, h7⟩ := hS; go_simp⟩, fun _ => rfl⟩ hS ?_
                  simp only [List.setIfInBounds_toArray, List.set_cons_zero, List.set_cons_succ]
                  refine anyHF_take (i := 2) (d := 67) (v := .agg #[.int .i64 k, .int .i64 p]) (by kernel_rfl) rfl (by kernel_rfl) (by kernel_rfl) (by kernel_rfl) rfl (fun _ _ _ h => h) ⟨Or.inl ⟨by rfl, fun w hS => by obtain ⟨h0, h1, h2, h3, h4, h5, h6, h7⟩ := hS; go_simp⟩, fun _ => rfl⟩ hS ?_
                  simp only [List.setIfInBounds_toArray, List.set_cons_zero, List.set_cons_succ]
                  refine anyHF_one (i := 3) (by kernel_rfl) rfl (by kernel_rfl) (by rfl) ?_
                  gi_wp2_with fail
                  refine ⟨trivial, (CallsIn.inRound l' (callsIn_wide.2 (HDa.out _))).mono ?_⟩
                  rintro e v1 ⟨rfl, hB1⟩
                  replace hB1 : Below (wr).heap.size (wr) v1 := by first | exact hB1 | exact below_undrew hB1 | exact below_undrew (below_undrew hB1) | exact below_undrew (below_undrew (below_undrew hB1))
                  replace hbr := hbr.trans (hB1.mono hbr2)
                  replace hsr := hsr.trans_ (SinceO.below hB1)
                  have hbr2 : B + 1 + 1 ≤ v1.heap.size := Nat.le_trans hbr2 hB1.size
                  replace kr2 := kr2.below hB1 kr2.lt
                  replace kd2 := kd2.below hB1 kd2.lt
                  clear hS hB1
                  try clear c0 c1 a0 a1 z0 z1 e0 e1
                  have HFr := HF.below (hbr.mono (by omega))
                  have c0 := HFr.b0.cell 0
                  have c1 := HFr.b0.cell 1
                  have a0 := HFr.ba.cell 0
                  have a1 := HFr.ba.cell 1
                  have hbxr := hsr.blk hbx (by omega) (by simp)
                  have z0 := hbxr.cell 0
                  have z1 := hbxr.cell 1
                  simp only [List.getElem?_toArray, List.getElem?_cons_zero, List.getElem?_cons_succ] at c0 c1 a0 a1 z0 z1
                  have e0 := cell_keep he0 hga hbr hsr
                  have e1 := cell_keep he1 hga hbr hsr
                  have hS : (fun U : World => U.cell? ⟨g, j * 2, none⟩ = some (.int .i64 x) ∧ U.cell? ⟨g, j * 2 + 1, none⟩ = some (.int .i64 y) ∧ U.cell? ⟨B, 0, none⟩ = some (.int .i64 x) ∧ U.cell? ⟨B, 1, none⟩ = some (.int .i64 y) ∧ U.cell? ⟨w.heap.size, 0, none⟩ = some (.int .i64 k) ∧ U.cell? ⟨w.heap.size, 1, none⟩ = some (.int .i64 p) ∧ U.cell? ⟨Bx, 0, none⟩ = some (.int .i64 mx) ∧ U.cell? ⟨Bx, 1, none⟩ = some (.int .i64 my)) v1 := ⟨e0, e1, a0, a1, c0, c1, z0, z1⟩
                  gi_wp2
                  refine anyHF_take (i := 4) (d := 69) (v := .bool false) (by kernel_rfl) rfl (by kernel_rfl) (by kernel_rfl) (by kernel_rfl) rfl (fun _ _ _ h => h) ⟨Or.inl ⟨by rfl, fun w hS => by obtain ⟨h0, h1, h2, h3, h4, h5, h6, h7⟩ := hS; go_simp⟩, fun _ => rfl⟩ hS ?_
                  simp only [List.setIfInBounds_toArray, List.set_cons_zero, List.set_cons_succ]
                  refine anyHF_done (by kernel_rfl) ?_ _
                  clear hS
                  gi_wp2_with fail
                  have hS : (fun U : World => U.cell? ⟨g, j * 2, none⟩ = some (.int .i64 x) ∧ U.cell? ⟨g, j * 2 + 1, none⟩ = some (.int .i64 y) ∧ U.cell? ⟨B, 0, none⟩ = some (.int .i64 x) ∧ U.cell? ⟨B, 1, none⟩ = some (.int .i64 y) ∧ U.cell? ⟨w.heap.size, 0, none⟩ = some (.int .i64 k) ∧ U.cell? ⟨w.heap.size, 1, none⟩ = some (.int .i64 p) ∧ U.cell? ⟨Bx, 0, none⟩ = some (.int .i64 mx) ∧ U.cell? ⟨Bx, 1, none⟩ = some (.int .i64 my)) _ := ⟨e0, e1, a0, a1, c0, c1, z0, z1⟩
                  refine region_HF (S := (fun U : World => U.cell? ⟨g, j * 2, none⟩ = some (.int .i64 x) ∧ U.cell? ⟨g, j * 2 + 1, none⟩ = some (.int .i64 y) ∧ U.cell? ⟨B, 0, none⟩ = some (.int .i64 x) ∧ U.cell? ⟨B, 1, none⟩ = some (.int .i64 y) ∧ U.cell? ⟨w.heap.size, 0, none⟩ = some (.int .i64 k) ∧ U.cell? ⟨w.heap.size, 1, none⟩ = some (.int .i64 p) ∧ U.cell? ⟨Bx, 0, none⟩ = some (.int .i64 mx) ∧ U.cell? ⟨Bx, 1, none⟩ = some (.int .i64 my))) (by kernel_rfl) ?_
                  refine anyHF_take (i := 0) (d := 72) (v := .pointer (some ⟨Bx, 0, none⟩)) (by kernel_rfl) rfl (by kernel_rfl) (by kernel_rfl) (by kernel_rfl) rfl (fun _ _ _ h => h) ⟨Or.inl ⟨by rfl, fun w hS => by obtain ⟨h0, h1, h2, h3, h4, h5, h6, h7⟩ := hS; go_simp⟩, fun _ => rfl⟩ hS ?_
                  simp only [List.setIfInBounds_toArray, List.set_cons_zero, List.set_cons_succ]
                  refine anyHF_take (i := 1) (d := 73) (v := .int .i64 mx) (by kernel_rfl) rfl (by kernel_rfl) (by kernel_rfl) (by kernel_rfl) rfl (fun _ _ _ h => h) ⟨Or.inl ⟨by rfl, fun w hS => by obtain ⟨h0, h1, h2, h3, h4, h5, h6, h7⟩ := hS; go_simp⟩, fun _ => rfl⟩ hS ?_
                  simp only [List.setIfInBounds_toArray, List.set_cons_zero, List.set_cons_succ]
                  refine anyHF_take (i := 2) (d := 74) (v := .agg #[.int .i64 k, .int .i64 p]) (by kernel_rfl) rfl (by kernel_rfl) (by kernel_rfl) (by kernel_rfl) rfl (fun _ _ _ h => h) ⟨Or.inl ⟨by rfl, fun w hS => by obtain ⟨h0, h1, h2, h3, h4, h5, h6, h7⟩ := hS; go_simp⟩, fun _ => rfl⟩ hS ?_
                  simp only [List.setIfInBounds_toArray, List.set_cons_zero, List.set_cons_succ]
                  refine anyHF_one (i := 3) (by kernel_rfl) rfl (by kernel_rfl) (by rfl) ?_
                  gi_wp2_with fail
                  refine ⟨trivial, (CallsIn.inRound l' (callsIn_wide.2 (HDa.out _))).mono ?_⟩
                  rintro e v2 ⟨rfl, hB1⟩
                  replace hB1 : Below (v1).heap.size (v1) v2 := by first | exact hB1 | exact below_undrew hB1 | exact below_undrew (below_undrew hB1) | exact below_undrew (below_undrew (below_undrew hB1))
                  replace hbr := hbr.trans (hB1.mono hbr2)
                  replace hsr := hsr.trans_ (SinceO.below hB1)
                  have hbr2 : B + 1 + 1 ≤ v2.heap.size := Nat.le_trans hbr2 hB1.size
                  replace kr2 := kr2.below hB1 kr2.lt
                  replace kd2 := kd2.below hB1 kd2.lt
                  clear hS hB1
                  try clear c0 c1 a0 a1 z0 z1 e0 e1
                  have HFr := HF.below (hbr.mono (by omega))
                  have c0 := HFr.b0.cell 0
                  have c1 := HFr.b0.cell 1
                  have a0 := HFr.ba.cell 0
                  have a1 := HFr.ba.cell 1
                  have hbxr := hsr.blk hbx (by omega) (by simp)
                  have z0 := hbxr.cell 0
                  have z1 := hbxr.cell 1
                  simp only [List.getElem?_toArray, List.getElem?_cons_zero, List.getElem?_cons_succ] at c0 c1 a0 a1 z0 z1
                  have e0 := cell_keep he0 hga hbr hsr
                  have e1 := cell_keep he1 hga hbr hsr
                  have hS : (fun U : World => U.cell? ⟨g, j * 2, none⟩ = some (.int .i64 x) ∧ U.cell? ⟨g, j * 2 + 1, none⟩ = some (.int .i64 y) ∧ U.cell? ⟨B, 0, none⟩ = some (.int .i64 x) ∧ U.cell? ⟨B, 1, none⟩ = some (.int .i64 y) ∧ U.cell? ⟨w.heap.size, 0, none⟩ = some (.int .i64 k) ∧ U.cell? ⟨w.heap.size, 1, none⟩ = some (.int .i64 p) ∧ U.cell? ⟨Bx, 0, none⟩ = some (.int .i64 mx) ∧ U.cell? ⟨Bx, 1, none⟩ = some (.int .i64 my)) v2 := ⟨e0, e1, a0, a1, c0, c1, z0, z1⟩
                  gi_wp2
                  refine anyHF_take (i := 4) (d := 76) (v := .int .i64 (d + 1)) (by kernel_rfl) rfl (by kernel_rfl) (by kernel_rfl) (by kernel_rfl) rfl (fun _ _ _ h => h) ⟨Or.inl ⟨by rfl, fun w hS => by obtain ⟨h0, h1, h2, h3, h4, h5, h6, h7⟩ := hS; go_simp⟩, fun _ => rfl⟩ hS ?_
                  simp only [List.setIfInBounds_toArray, List.set_cons_zero, List.set_cons_succ]
                  refine anyHF_take (i := 5) (d := 77) (v := .bool false) (by kernel_rfl) rfl (by kernel_rfl) (by kernel_rfl) (by kernel_rfl) rfl (fun _ _ _ h => h) ⟨Or.inl ⟨by rfl, fun w hS => by obtain ⟨h0, h1, h2, h3, h4, h5, h6, h7⟩ := hS; go_simp⟩, fun _ => rfl⟩ hS ?_
                  simp only [List.setIfInBounds_toArray, List.set_cons_zero, List.set_cons_succ]
                  refine anyHF_done (by kernel_rfl) ?_ _
                  clear hS
                  gi_wp2_with fail
                  have hS : (fun U : World => U.cell? ⟨g, j * 2, none⟩ = some (.int .i64 x) ∧ U.cell? ⟨g, j * 2 + 1, none⟩ = some (.int .i64 y) ∧ U.cell? ⟨B, 0, none⟩ = some (.int .i64 x) ∧ U.cell? ⟨B, 1, none⟩ = some (.int .i64 y) ∧ U.cell? ⟨w.heap.size, 0, none⟩ = some (.int .i64 k) ∧ U.cell? ⟨w.heap.size, 1, none⟩ = some (.int .i64 p) ∧ U.cell? ⟨Bx, 0, none⟩ = some (.int .i64 mx) ∧ U.cell? ⟨Bx, 1, none⟩ = some (.int .i64 my)) _ := ⟨e0, e1, a0, a1, c0, c1, z0, z1⟩
                  refine region_HF (S := (fun U : World => U.cell? ⟨g, j * 2, none⟩ = some (.int .i64 x) ∧ U.cell? ⟨g, j * 2 + 1, none⟩ = some (.int .i64 y) ∧ U.cell? ⟨B, 0, none⟩ = some (.int .i64 x) ∧ U.cell? ⟨B, 1, none⟩ = some (.int .i64 y) ∧ U.cell? ⟨w.heap.size, 0, none⟩ = some (.int .i64 k) ∧ U.cell? ⟨w.heap.size, 1, none⟩ = some (.int .i64 p) ∧ U.cell? ⟨Bx, 0, none⟩ = some (.int .i64 mx) ∧ U.cell? ⟨Bx, 1, none⟩ = some (.int .i64 my))) (by kernel_rfl) ?_
                  refine anyHF_take (i := 0) (d := 80) (v := .slice (some ⟨g, 0, none⟩) n2 cap) (by kernel_rfl) rfl (by kernel_rfl) (by kernel_rfl) (by kernel_rfl) rfl (fun _ _ _ h => h) ⟨Or.inl ⟨by rfl, fun w hS => by obtain ⟨h0, h1, h2, h3, h4, h5, h6, h7⟩ := hS; go_simp⟩, fun _ => rfl⟩ hS ?_
                  simp only [List.setIfInBounds_toArray, List.set_cons_zero, List.set_cons_succ]
                  refine anyHF_take (i := 1) (d := 81) (v := .int .i64 (j : Int)) (by kernel_rfl) rfl (by kernel_rfl) (by kernel_rfl) (by kernel_rfl) rfl (fun _ _ _ h => h) ⟨Or.inl ⟨by rfl, fun w hS => by obtain ⟨h0, h1, h2, h3, h4, h5, h6, h7⟩ := hS; go_simp⟩, fun _ => rfl⟩ hS ?_
                  simp only [List.setIfInBounds_toArray, List.set_cons_zero, List.set_cons_succ]
                  refine anyHF_take (i := 2) (d := 82) (v := .pointer (some ⟨g, j * 2, none⟩)) (by kernel_rfl) rfl (by kernel_rfl) (by kernel_rfl) (by kernel_rfl) rfl (fun _ _ _ h => h) ⟨Or.inl ⟨by rfl, fun w hS => by obtain ⟨h0, h1, h2, h3, h4, h5, h6, h7⟩ := hS; go_simp⟩, fun _ => rfl⟩ hS ?_
                  simp only [List.setIfInBounds_toArray, List.set_cons_zero, List.set_cons_succ]
                  refine anyHF_take (i := 3) (d := 83) (v := .pointer (some ⟨g, j * 2, none⟩)) (by kernel_rfl) rfl (by kernel_rfl) (by kernel_rfl) (by kernel_rfl) rfl (fun _ _ _ h => h) ⟨Or.inl ⟨by rfl, fun w hS => by obtain ⟨h0, h1, h2, h3, h4, h5, h6, h7⟩ := hS; go_simp⟩, fun _ => rfl⟩ hS ?_
                  simp only [List.setIfInBounds_toArray, List.set_cons_zero, List.set_cons_succ]
                  refine anyHF_take (i := 4) (d := 84) (v := .int .i64 x) (by kernel_rfl) rfl (by kernel_rfl) (by kernel_rfl) (by kernel_rfl) rfl (fun _ _ _ h => h) ⟨Or.inl ⟨by rfl, fun w hS => by obtain ⟨h0, h1, h2, h3, h4, h5, h6, h7⟩ := hS; go_simp⟩, fun _ => rfl⟩ hS ?_
                  simp only [List.setIfInBounds_toArray, List.set_cons_zero, List.set_cons_succ]
                  refine anyHF_take (i := 5) (d := 85) (v := .agg #[.int .i64 k, .int .i64 p]) (by kernel_rfl) rfl (by kernel_rfl) (by kernel_rfl) (by kernel_rfl) rfl (fun _ _ _ h => h) ⟨Or.inl ⟨by rfl, fun w hS => by obtain ⟨h0, h1, h2, h3, h4, h5, h6, h7⟩ := hS; go_simp⟩, fun _ => rfl⟩ hS ?_
                  simp only [List.setIfInBounds_toArray, List.set_cons_zero, List.set_cons_succ]
                  refine anyHF_one (i := 6) (by kernel_rfl) rfl (by kernel_rfl) (by rfl) ?_
                  gi_wp2_with fail
                  refine ⟨trivial, (CallsIn.inRound l' (callsIn_wide.2 (HDa.out _))).mono ?_⟩
                  rintro e v3 ⟨rfl, hB1⟩
                  replace hB1 : Below (v2).heap.size (v2) v3 := by first | exact hB1 | exact below_undrew hB1 | exact below_undrew (below_undrew hB1) | exact below_undrew (below_undrew (below_undrew hB1))
                  replace hbr := hbr.trans (hB1.mono hbr2)
                  replace hsr := hsr.trans_ (SinceO.below hB1)
                  have hbr2 : B + 1 + 1 ≤ v3.heap.size := Nat.le_trans hbr2 hB1.size
                  replace kr2 := kr2.below hB1 kr2.lt
                  replace kd2 := kd2.below hB1 kd2.lt
                  clear hS hB1
                  try clear c0 c1 a0 a1 z0 z1 e0 e1
                  have HFr := HF.below (hbr.mono (by omega))
                  have c0 := HFr.b0.cell 0
                  have c1 := HFr.b0.cell 1
                  have a0 := HFr.ba.cell 0
                  have a1 := HFr.ba.cell 1
                  have hbxr := hsr.blk hbx (by omega) (by simp)
                  have z0 := hbxr.cell 0
                  have z1 := hbxr.cell 1
                  simp only [List.getElem?_toArray, List.getElem?_cons_zero, List.getElem?_cons_succ] at c0 c1 a0 a1 z0 z1
                  have e0 := cell_keep he0 hga hbr hsr
                  have e1 := cell_keep he1 hga hbr hsr
                  have hS : (fun U : World => U.cell? ⟨g, j * 2, none⟩ = some (.int .i64 x) ∧ U.cell? ⟨g, j * 2 + 1, none⟩ = some (.int .i64 y) ∧ U.cell? ⟨B, 0, none⟩ = some (.int .i64 x) ∧ U.cell? ⟨B, 1, none⟩ = some (.int .i64 y) ∧ U.cell? ⟨w.heap.size, 0, none⟩ = some (.int .i64 k) ∧ U.cell? ⟨w.heap.size, 1, none⟩ = some (.int .i64 p) ∧ U.cell? ⟨Bx, 0, none⟩ = some (.int .i64 mx) ∧ U.cell? ⟨Bx, 1, none⟩ = some (.int .i64 my)) v3 := ⟨e0, e1, a0, a1, c0, c1, z0, z1⟩
                  gi_wp2
                  refine anyHF_take (i := 7) (d := 87) (v := .bool false) (by kernel_rfl) rfl (by kernel_rfl) (by kernel_rfl) (by kernel_rfl) rfl (fun _ _ _ h => h) ⟨Or.inl ⟨by rfl, fun w hS => by obtain ⟨h0, h1, h2, h3, h4, h5, h6, h7⟩ := hS; go_simp⟩, fun _ => rfl⟩ hS ?_
                  simp only [List.setIfInBounds_toArray, List.set_cons_zero, List.set_cons_succ]
                  refine anyHF_done (by kernel_rfl) ?_ _
                  clear hS
                  gi_wp2
                  go_roundw
                  case rel => exact ⟨j + 1, rv, dv, by omega, by go_num, by rw [HTN.out]; simp, kr2, kd2, HRN.out, HDN.out, hbr, hsr⟩
                  case measure => simp [intOf]; omega
            · subst e1x
              have e3x : ¬ ey = y := fun e => e2x e.symm
              have hne2 : ¬ ((x, ey) : Int × Int) = (x, y) := by intro e; injection e with _ e; exact e2x e.symm
              have hne3 : ¬ ((x, ey) : Int × Int) = (d, y) := by intro e; injection e; omega
              have hxd2 : (x == d) = false := by rw [beq_eq_false_iff_ne]; omega
              have HTN : Hid (turnF (x, y) (d, y) (l.take (j + 1)) = (acc != false)) := by unfold Hid; rw [htn]; simp [hne2, hne3]
              have HRN : Hid (rv = (cr : Int) + (if mx = d then ((l.take (j + 1)).count (x, y) : Int) else 0)) := by have hRo := HRv.out; unfold Hid; rw [hRo, hcn, if_neg hne2]; simp
              have HDN : Hid (dv = (cd : Int) + (if mx = d + 1 then ((l.take (j + 1)).count (x, y) : Int) else 0)) := by have hDo := HDv.out; unfold Hid; rw [hDo, hcn, if_neg hne2]; simp
              clear hne2 hne3
              clear hcn htn HRv HDv hcb hin
              gi_wp2_with fail
              have hS : (fun U : World => U.cell? ⟨g, j * 2, none⟩ = some (.int .i64 x) ∧ U.cell? ⟨g, j * 2 + 1, none⟩ = some (.int .i64 ey) ∧ U.cell? ⟨B, 0, none⟩ = some (.int .i64 x) ∧ U.cell? ⟨B, 1, none⟩ = some (.int .i64 y) ∧ U.cell? ⟨w.heap.size, 0, none⟩ = some (.int .i64 k) ∧ U.cell? ⟨w.heap.size, 1, none⟩ = some (.int .i64 p) ∧ U.cell? ⟨Bx, 0, none⟩ = some (.int .i64 mx) ∧ U.cell? ⟨Bx, 1, none⟩ = some (.int .i64 my)) _ := ⟨e0, e1, a0, a1, c0, c1, z0, z1⟩
              refine region_HF (S := (fun U : World => U.cell? ⟨g, j * 2, none⟩ = some (.int .i64 x) ∧ U.cell? ⟨g, j * 2 + 1, none⟩ = some (.int .i64 ey) ∧ U.cell? ⟨B, 0, none⟩ = some (.int .i64 x) ∧ U.cell? ⟨B, 1, none⟩ = some (.int .i64 y) ∧ U.cell? ⟨w.heap.size, 0, none⟩ = some (.int .i64 k) ∧ U.cell? ⟨w.heap.size, 1, none⟩ = some (.int .i64 p) ∧ U.cell? ⟨Bx, 0, none⟩ = some (.int .i64 mx) ∧ U.cell? ⟨Bx, 1, none⟩ = some (.int .i64 my))) (by kernel_rfl) ?_
              refine anyHF_take (i := 0) (d := 57) (v := .slice (some ⟨g, 0, none⟩) n2 cap) (by kernel_rfl) rfl (by kernel_rfl) (by kernel_rfl) (by kernel_rfl) rfl (fun _ _ _ h => h) ⟨Or.inl ⟨by rfl, fun w hS => by obtain ⟨h0, h1, h2, h3, h4, h5, h6, h7⟩ := hS; go_simp⟩, fun _ => rfl⟩ hS ?_
              simp only [List.setIfInBounds_toArray, List.set_cons_zero, List.set_cons_succ]
              refine anyHF_take (i := 1) (d := 58) (v := .int .i64 (j : Int)) (by kernel_rfl) rfl (by kernel_rfl) (by kernel_rfl) (by kernel_rfl) rfl (fun _ _ _ h => h) ⟨Or.inl ⟨by rfl, fun w hS => by obtain ⟨h0, h1, h2, h3, h4, h5, h6, h7⟩ := hS; go_simp⟩, fun _ => rfl⟩ hS ?_
              simp only [List.setIfInBounds_toArray, List.set_cons_zero, List.set_cons_succ]
              refine anyHF_take (i := 2) (d := 59) (v := .pointer (some ⟨g, j * 2, none⟩)) (by kernel_rfl) rfl (by kernel_rfl) (by kernel_rfl) (by kernel_rfl) rfl (fun _ _ _ h => h) ⟨Or.inl ⟨by rfl, fun w hS => by obtain ⟨h0, h1, h2, h3, h4, h5, h6, h7⟩ := hS; go_simp⟩, fun _ => rfl⟩ hS ?_
              simp only [List.setIfInBounds_toArray, List.set_cons_zero, List.set_cons_succ]
              refine anyHF_take (i := 3) (d := 60) (v := .agg #[.int .i64 x, .int .i64 ey]) (by kernel_rfl) rfl (by kernel_rfl) (by kernel_rfl) (by kernel_rfl) rfl (fun _ _ _ h => h) ⟨Or.inl ⟨by rfl, fun w hS => by obtain ⟨h0, h1, h2, h3, h4, h5, h6, h7⟩ := hS; go_simp⟩, fun _ => rfl⟩ hS ?_
              simp only [List.setIfInBounds_toArray, List.set_cons_zero, List.set_cons_succ]
              refine anyHF_take (i := 4) (d := 61) (v := .agg #[.int .i64 x, .int .i64 y]) (by kernel_rfl) rfl (by kernel_rfl) (by kernel_rfl) (by kernel_rfl) rfl (fun _ _ _ h => h) ⟨Or.inl ⟨by rfl, fun w hS => by obtain ⟨h0, h1, h2, h3, h4, h5, h6, h7⟩ := hS; go_simp⟩, fun _ => rfl⟩ hS ?_
              simp only [List.setIfInBounds_toArray, List.set_cons_zero, List.set_cons_succ]
              refine anyHF_take (i := 5) (d := 62) (v := .bool false) (by kernel_rfl) rfl (by kernel_rfl) (by kernel_rfl) (by kernel_rfl) rfl (fun _ _ _ h => h) ⟨Or.inl ⟨by rfl, fun w hS => by obtain ⟨h0, h1, h2, h3, h4, h5, h6, h7⟩ := hS; go_simp⟩, fun _ => rfl⟩ hS ?_
              simp only [List.setIfInBounds_toArray, List.set_cons_zero, List.set_cons_succ]
              refine anyHF_done (by kernel_rfl) ?_ _
              clear hS
              gi_wp2_with fail
              have hS : (fun U : World => U.cell? ⟨g, j * 2, none⟩ = some (.int .i64 x) ∧ U.cell? ⟨g, j * 2 + 1, none⟩ = some (.int .i64 ey) ∧ U.cell? ⟨B, 0, none⟩ = some (.int .i64 x) ∧ U.cell? ⟨B, 1, none⟩ = some (.int .i64 y) ∧ U.cell? ⟨w.heap.size, 0, none⟩ = some (.int .i64 k) ∧ U.cell? ⟨w.heap.size, 1, none⟩ = some (.int .i64 p) ∧ U.cell? ⟨Bx, 0, none⟩ = some (.int .i64 mx) ∧ U.cell? ⟨Bx, 1, none⟩ = some (.int .i64 my)) _ := ⟨e0, e1, a0, a1, c0, c1, z0, z1⟩
              refine region_HF (S := (fun U : World => U.cell? ⟨g, j * 2, none⟩ = some (.int .i64 x) ∧ U.cell? ⟨g, j * 2 + 1, none⟩ = some (.int .i64 ey) ∧ U.cell? ⟨B, 0, none⟩ = some (.int .i64 x) ∧ U.cell? ⟨B, 1, none⟩ = some (.int .i64 y) ∧ U.cell? ⟨w.heap.size, 0, none⟩ = some (.int .i64 k) ∧ U.cell? ⟨w.heap.size, 1, none⟩ = some (.int .i64 p) ∧ U.cell? ⟨Bx, 0, none⟩ = some (.int .i64 mx) ∧ U.cell? ⟨Bx, 1, none⟩ = some (.int .i64 my))) (by kernel_rfl) ?_
              refine anyHF_take (i := 0) (d := 80) (v := .slice (some ⟨g, 0, none⟩) n2 cap) (by kernel_rfl) rfl (by kernel_rfl) (by kernel_rfl) (by kernel_rfl) rfl (fun _ _ _ h => h) ⟨Or.inl ⟨by rfl, fun w hS => by obtain ⟨h0, h1, h2, h3, h4, h5, h6, h7⟩ := hS; go_simp⟩, fun _ => rfl⟩ hS ?_
              simp only [List.setIfInBounds_toArray, List.set_cons_zero, List.set_cons_succ]
              refine anyHF_take (i := 1) (d := 81) (v := .int .i64 (j : Int)) (by kernel_rfl) rfl (by kernel_rfl) (by kernel_rfl) (by kernel_rfl) rfl (fun _ _ _ h => h) ⟨Or.inl ⟨by rfl, fun w hS => by obtain ⟨h0, h1, h2, h3, h4, h5, h6, h7⟩ := hS; go_simp⟩, fun _ => rfl⟩ hS ?_
              simp only [List.setIfInBounds_toArray, List.set_cons_zero, List.set_cons_succ]
              refine anyHF_take (i := 2) (d := 82) (v := .pointer (some ⟨g, j * 2, none⟩)) (by kernel_rfl) rfl (by kernel_rfl) (by kernel_rfl) (by kernel_rfl) rfl (fun _ _ _ h => h) ⟨Or.inl ⟨by rfl, fun w hS => by obtain ⟨h0, h1, h2, h3, h4, h5, h6, h7⟩ := hS; go_simp⟩, fun _ => rfl⟩ hS ?_
              simp only [List.setIfInBounds_toArray, List.set_cons_zero, List.set_cons_succ]
              refine anyHF_take (i := 3) (d := 83) (v := .pointer (some ⟨g, j * 2, none⟩)) (by kernel_rfl) rfl (by kernel_rfl) (by kernel_rfl) (by kernel_rfl) rfl (fun _ _ _ h => h) ⟨Or.inl ⟨by rfl, fun w hS => by obtain ⟨h0, h1, h2, h3, h4, h5, h6, h7⟩ := hS; go_simp⟩, fun _ => rfl⟩ hS ?_
              simp only [List.setIfInBounds_toArray, List.set_cons_zero, List.set_cons_succ]
              refine anyHF_take (i := 4) (d := 84) (v := .int .i64 x) (by kernel_rfl) rfl (by kernel_rfl) (by kernel_rfl) (by kernel_rfl) rfl (fun _ _ _ h => h) ⟨Or.inl ⟨by rfl, fun w hS => by obtain ⟨h0, h1, h2, h3, h4, h5, h6, h7⟩ := hS; go_simp⟩, fun _ => rfl⟩ hS ?_
              simp only [List.setIfInBounds_toArray, List.set_cons_zero, List.set_cons_succ]
              refine anyHF_take (i := 5) (d := 85) (v := .agg #[.int .i64 k, .int .i64 p]) (by kernel_rfl) rfl (by kernel_rfl) (by kernel_rfl) (by kernel_rfl) rfl (fun _ _ _ h => h) ⟨Or.inl ⟨by rfl, fun w hS => by obtain ⟨h0, h1, h2, h3, h4, h5, h6, h7⟩ := hS; go_simp⟩, fun _ => rfl⟩ hS ?_
              simp only [List.setIfInBounds_toArray, List.set_cons_zero, List.set_cons_succ]
              refine anyHF_one (i := 6) (by kernel_rfl) rfl (by kernel_rfl) (by rfl) ?_
              gi_wp2_with fail
              refine ⟨trivial, (CallsIn.inRound l' (callsIn_wide.2 (HDa.out _))).mono ?_⟩
              rintro e v1 ⟨rfl, hB1⟩
              replace hB1 : Below (wr).heap.size (wr) v1 := by first | exact hB1 | exact below_undrew hB1 | exact below_undrew (below_undrew hB1) | exact below_undrew (below_undrew (below_undrew hB1))
              replace hbr := hbr.trans (hB1.mono hbr2)
              replace hsr := hsr.trans_ (SinceO.below hB1)
              have hbr2 : B + 1 + 1 ≤ v1.heap.size := Nat.le_trans hbr2 hB1.size
              replace kr2 := kr2.below hB1 kr2.lt
              replace kd2 := kd2.below hB1 kd2.lt
              clear hS hB1
              try clear c0 c1 a0 a1 z0 z1 e0 e1
              have HFr := HF.below (hbr.mono (by omega))
              have c0 := HFr.b0.cell 0
              have c1 := HFr.b0.cell 1
              have a0 := HFr.ba.cell 0
              have a1 := HFr.ba.cell 1
              have hbxr := hsr.blk hbx (by omega) (by simp)
              have z0 := hbxr.cell 0
              have z1 := hbxr.cell 1
              simp only [List.getElem?_toArray, List.getElem?_cons_zero, List.getElem?_cons_succ] at c0 c1 a0 a1 z0 z1
              have e0 := cell_keep he0 hga hbr hsr
              have e1 := cell_keep he1 hga hbr hsr
              have hS : (fun U : World => U.cell? ⟨g, j * 2, none⟩ = some (.int .i64 x) ∧ U.cell? ⟨g, j * 2 + 1, none⟩ = some (.int .i64 ey) ∧ U.cell? ⟨B, 0, none⟩ = some (.int .i64 x) ∧ U.cell? ⟨B, 1, none⟩ = some (.int .i64 y) ∧ U.cell? ⟨w.heap.size, 0, none⟩ = some (.int .i64 k) ∧ U.cell? ⟨w.heap.size, 1, none⟩ = some (.int .i64 p) ∧ U.cell? ⟨Bx, 0, none⟩ = some (.int .i64 mx) ∧ U.cell? ⟨Bx, 1, none⟩ = some (.int .i64 my)) v1 := ⟨e0, e1, a0, a1, c0, c1, z0, z1⟩
              gi_wp2
              refine anyHF_take (i := 7) (d := 87) (v := .bool false) (by kernel_rfl) rfl (by kernel_rfl) (by kernel_rfl) (by kernel_rfl) rfl (fun _ _ _ h => h) ⟨Or.inl ⟨by rfl, fun w hS => by obtain ⟨h0, h1, h2, h3, h4, h5, h6, h7⟩ := hS; go_simp⟩, fun _ => rfl⟩ hS ?_
              simp only [List.setIfInBounds_toArray, List.set_cons_zero, List.set_cons_succ]
              refine anyHF_done (by kernel_rfl) ?_ _
              clear hS
              gi_wp2
              go_roundw
              case rel => exact ⟨j + 1, rv, dv, by omega, by go_num, by rw [HTN.out]; simp, kr2, kd2, HRN.out, HDN.out, hbr, hsr⟩
              case measure => simp [intOf]; omega
          · have e3x : ¬ ex = x := fun e => e1x e.symm
            have hne2 : ¬ ((ex, ey) : Int × Int) = (x, y) := by intro e; injection e with e _; exact e1x e.symm
            have hne3 : ¬ ((ex, ey) : Int × Int) = (d, y) := by intro e; injection e; omega
            have hxd2 : (ex == d) = false := by rw [beq_eq_false_iff_ne]; omega
            have HTN : Hid (turnF (x, y) (d, y) (l.take (j + 1)) = (acc != false)) := by unfold Hid; rw [htn]; simp [hne2, hne3]
            have HRN : Hid (rv = (cr : Int) + (if mx = d then ((l.take (j + 1)).count (x, y) : Int) else 0)) := by have hRo := HRv.out; unfold Hid; rw [hRo, hcn, if_neg hne2]; simp
            have HDN : Hid (dv = (cd : Int) + (if mx = d + 1 then ((l.take (j + 1)).count (x, y) : Int) else 0)) := by have hDo := HDv.out; unfold Hid; rw [hDo, hcn, if_neg hne2]; simp
            clear hne2 hne3
            clear hcn htn HRv HDv hcb hin
            gi_wp2_with fail
            have hS : (fun U : World => U.cell? ⟨g, j * 2, none⟩ = some (.int .i64 ex) ∧ U.cell? ⟨g, j * 2 + 1, none⟩ = some (.int .i64 ey) ∧ U.cell? ⟨B, 0, none⟩ = some (.int .i64 x) ∧ U.cell? ⟨B, 1, none⟩ = some (.int .i64 y) ∧ U.cell? ⟨w.heap.size, 0, none⟩ = some (.int .i64 k) ∧ U.cell? ⟨w.heap.size, 1, none⟩ = some (.int .i64 p) ∧ U.cell? ⟨Bx, 0, none⟩ = some (.int .i64 mx) ∧ U.cell? ⟨Bx, 1, none⟩ = some (.int .i64 my)) _ := ⟨e0, e1, a0, a1, c0, c1, z0, z1⟩
            refine region_HF (S := (fun U : World => U.cell? ⟨g, j * 2, none⟩ = some (.int .i64 ex) ∧ U.cell? ⟨g, j * 2 + 1, none⟩ = some (.int .i64 ey) ∧ U.cell? ⟨B, 0, none⟩ = some (.int .i64 x) ∧ U.cell? ⟨B, 1, none⟩ = some (.int .i64 y) ∧ U.cell? ⟨w.heap.size, 0, none⟩ = some (.int .i64 k) ∧ U.cell? ⟨w.heap.size, 1, none⟩ = some (.int .i64 p) ∧ U.cell? ⟨Bx, 0, none⟩ = some (.int .i64 mx) ∧ U.cell? ⟨Bx, 1, none⟩ = some (.int .i64 my))) (by kernel_rfl) ?_
            refine anyHF_take (i := 0) (d := 57) (v := .slice (some ⟨g, 0, none⟩) n2 cap) (by kernel_rfl) rfl (by kernel_rfl) (by kernel_rfl) (by kernel_rfl) rfl (fun _ _ _ h => h) ⟨Or.inl ⟨by rfl, fun w hS => by obtain ⟨h0, h1, h2, h3, h4, h5, h6, h7⟩ := hS; go_simp⟩, fun _ => rfl⟩ hS ?_
            simp only [List.setIfInBounds_toArray, List.set_cons_zero, List.set_cons_succ]
            refine anyHF_take (i := 1) (d := 58) (v := .int .i64 (j : Int)) (by kernel_rfl) rfl (by kernel_rfl) (by kernel_rfl) (by kernel_rfl) rfl (fun _ _ _ h => h) ⟨Or.inl ⟨by rfl, fun w hS => by obtain ⟨h0, h1, h2, h3, h4, h5, h6, h7⟩ := hS; go_simp⟩, fun _ => rfl⟩ hS ?_
            simp only [List.setIfInBounds_toArray, List.set_cons_zero, List.set_cons_succ]
            refine anyHF_take (i := 2) (d := 59) (v := .pointer (some ⟨g, j * 2, none⟩)) (by kernel_rfl) rfl (by kernel_rfl) (by kernel_rfl) (by kernel_rfl) rfl (fun _ _ _ h => h) ⟨Or.inl ⟨by rfl, fun w hS => by obtain ⟨h0, h1, h2, h3, h4, h5, h6, h7⟩ := hS; go_simp⟩, fun _ => rfl⟩ hS ?_
            simp only [List.setIfInBounds_toArray, List.set_cons_zero, List.set_cons_succ]
            refine anyHF_take (i := 3) (d := 60) (v := .agg #[.int .i64 ex, .int .i64 ey]) (by kernel_rfl) rfl (by kernel_rfl) (by kernel_rfl) (by kernel_rfl) rfl (fun _ _ _ h => h) ⟨Or.inl ⟨by rfl, fun w hS => by obtain ⟨h0, h1, h2, h3, h4, h5, h6, h7⟩ := hS; go_simp⟩, fun _ => rfl⟩ hS ?_
            simp only [List.setIfInBounds_toArray, List.set_cons_zero, List.set_cons_succ]
            refine anyHF_take (i := 4) (d := 61) (v := .agg #[.int .i64 x, .int .i64 y]) (by kernel_rfl) rfl (by kernel_rfl) (by kernel_rfl) (by kernel_rfl) rfl (fun _ _ _ h => h) ⟨Or.inl ⟨by rfl, fun w hS => by obtain ⟨h0, h1, h2, h3, h4, h5, h6, h7⟩ := hS; go_simp⟩, fun _ => rfl⟩ hS ?_
            simp only [List.setIfInBounds_toArray, List.set_cons_zero, List.set_cons_succ]
            refine anyHF_take (i := 5) (d := 62) (v := .bool false) (by kernel_rfl) rfl (by kernel_rfl) (by kernel_rfl) (by kernel_rfl) rfl (fun _ _ _ h => h) ⟨Or.inl ⟨by rfl, fun w hS => by obtain ⟨h0, h1, h2, h3, h4, h5, h6, h7⟩ := hS; go_simp⟩, fun _ => rfl⟩ hS ?_
            simp only [List.setIfInBounds_toArray, List.set_cons_zero, List.set_cons_succ]
            refine anyHF_done (by kernel_rfl) ?_ _
            clear hS
            gi_wp2_with fail
            have hS : (fun U : World => U.cell? ⟨g, j * 2, none⟩ = some (.int .i64 ex) ∧ U.cell? ⟨g, j * 2 + 1, none⟩ = some (.int .i64 ey) ∧ U.cell? ⟨B, 0, none⟩ = some (.int .i64 x) ∧ U.cell? ⟨B, 1, none⟩ = some (.int .i64 y) ∧ U.cell? ⟨w.heap.size, 0, none⟩ = some (.int .i64 k) ∧ U.cell? ⟨w.heap.size, 1, none⟩ = some (.int .i64 p) ∧ U.cell? ⟨Bx, 0, none⟩ = some (.int .i64 mx) ∧ U.cell? ⟨Bx, 1, none⟩ = some (.int .i64 my)) _ := ⟨e0, e1, a0, a1, c0, c1, z0, z1⟩
            refine region_HF (S := (fun U : World => U.cell? ⟨g, j * 2, none⟩ = some (.int .i64 ex) ∧ U.cell? ⟨g, j * 2 + 1, none⟩ = some (.int .i64 ey) ∧ U.cell? ⟨B, 0, none⟩ = some (.int .i64 x) ∧ U.cell? ⟨B, 1, none⟩ = some (.int .i64 y) ∧ U.cell? ⟨w.heap.size, 0, none⟩ = some (.int .i64 k) ∧ U.cell? ⟨w.heap.size, 1, none⟩ = some (.int .i64 p) ∧ U.cell? ⟨Bx, 0, none⟩ = some (.int .i64 mx) ∧ U.cell? ⟨Bx, 1, none⟩ = some (.int .i64 my))) (by kernel_rfl) ?_
            refine anyHF_take (i := 0) (d := 80) (v := .slice (some ⟨g, 0, none⟩) n2 cap) (by kernel_rfl) rfl (by kernel_rfl) (by kernel_rfl) (by kernel_rfl) rfl (fun _ _ _ h => h) ⟨Or.inl ⟨by rfl, fun w hS => by obtain ⟨h0, h1, h2, h3, h4, h5, h6, h7⟩ := hS; go_simp⟩, fun _ => rfl⟩ hS ?_
            simp only [List.setIfInBounds_toArray, List.set_cons_zero, List.set_cons_succ]
            refine anyHF_take (i := 1) (d := 81) (v := .int .i64 (j : Int)) (by kernel_rfl) rfl (by kernel_rfl) (by kernel_rfl) (by kernel_rfl) rfl (fun _ _ _ h => h) ⟨Or.inl ⟨by rfl, fun w hS => by obtain ⟨h0, h1, h2, h3, h4, h5, h6, h7⟩ := hS; go_simp⟩, fun _ => rfl⟩ hS ?_
            simp only [List.setIfInBounds_toArray, List.set_cons_zero, List.set_cons_succ]
            refine anyHF_take (i := 2) (d := 82) (v := .pointer (some ⟨g, j * 2, none⟩)) (by kernel_rfl) rfl (by kernel_rfl) (by kernel_rfl) (by kernel_rfl) rfl (fun _ _ _ h => h) ⟨Or.inl ⟨by rfl, fun w hS => by obtain ⟨h0, h1, h2, h3, h4, h5, h6, h7⟩ := hS; go_simp⟩, fun _ => rfl⟩ hS ?_
            simp only [List.setIfInBounds_toArray, List.set_cons_zero, List.set_cons_succ]
            refine anyHF_take (i := 3) (d := 83) (v := .pointer (some ⟨g, j * 2, none⟩)) (by kernel_rfl) rfl (by kernel_rfl) (by kernel_rfl) (by kernel_rfl) rfl (fun _ _ _ h => h) ⟨Or.inl ⟨by rfl, fun w hS => by obtain ⟨h0, h1, h2, h3, h4, h5, h6, h7⟩ := hS; go_simp⟩, fun _ => rfl⟩ hS ?_
            simp only [List.setIfInBounds_toArray, List.set_cons_zero, List.set_cons_succ]
            refine anyHF_take (i := 4) (d := 84) (v := .int .i64 ex) (by kernel_rfl) rfl (by kernel_rfl) (by kernel_rfl) (by kernel_rfl) rfl (fun _ _ _ h => h) ⟨Or.inl ⟨by rfl, fun w hS => by obtain ⟨h0, h1, h2, h3, h4, h5, h6, h7⟩ := hS; go_simp⟩, fun _ => rfl⟩ hS ?_
            simp only [List.setIfInBounds_toArray, List.set_cons_zero, List.set_cons_succ]
            refine anyHF_take (i := 5) (d := 85) (v := .agg #[.int .i64 k, .int .i64 p]) (by kernel_rfl) rfl (by kernel_rfl) (by kernel_rfl) (by kernel_rfl) rfl (fun _ _ _ h => h) ⟨Or.inl ⟨by rfl, fun w hS => by obtain ⟨h0, h1, h2, h3, h4, h5, h6, h7⟩ := hS; go_simp⟩, fun _ => rfl⟩ hS ?_
            simp only [List.setIfInBounds_toArray, List.set_cons_zero, List.set_cons_succ]
            refine anyHF_one (i := 6) (by kernel_rfl) rfl (by kernel_rfl) (by rfl) ?_
            gi_wp2_with fail
            refine ⟨trivial, (CallsIn.inRound l' (callsIn_wide.2 (HDa.out _))).mono ?_⟩
            rintro e v1 ⟨rfl, hB1⟩
            replace hB1 : Below (wr).heap.size (wr) v1 := by first | exact hB1 | exact below_undrew hB1 | exact below_undrew (below_undrew hB1) | exact below_undrew (below_undrew (below_undrew hB1))
            replace hbr := hbr.trans (hB1.mono hbr2)
            replace hsr := hsr.trans_ (SinceO.below hB1)
            have hbr2 : B + 1 + 1 ≤ v1.heap.size := Nat.le_trans hbr2 hB1.size
            replace kr2 := kr2.below hB1 kr2.lt
            replace kd2 := kd2.below hB1 kd2.lt
            clear hS hB1
            try clear c0 c1 a0 a1 z0 z1 e0 e1
            have HFr := HF.below (hbr.mono (by omega))
            have c0 := HFr.b0.cell 0
            have c1 := HFr.b0.cell 1
            have a0 := HFr.ba.cell 0
            have a1 := HFr.ba.cell 1
            have hbxr := hsr.blk hbx (by omega) (by simp)
            have z0 := hbxr.cell 0
            have z1 := hbxr.cell 1
            simp only [List.getElem?_toArray, List.getElem?_cons_zero, List.getElem?_cons_succ] at c0 c1 a0 a1 z0 z1
            have e0 := cell_keep he0 hga hbr hsr
            have e1 := cell_keep he1 hga hbr hsr
            have hS : (fun U : World => U.cell? ⟨g, j * 2, none⟩ = some (.int .i64 ex) ∧ U.cell? ⟨g, j * 2 + 1, none⟩ = some (.int .i64 ey) ∧ U.cell? ⟨B, 0, none⟩ = some (.int .i64 x) ∧ U.cell? ⟨B, 1, none⟩ = some (.int .i64 y) ∧ U.cell? ⟨w.heap.size, 0, none⟩ = some (.int .i64 k) ∧ U.cell? ⟨w.heap.size, 1, none⟩ = some (.int .i64 p) ∧ U.cell? ⟨Bx, 0, none⟩ = some (.int .i64 mx) ∧ U.cell? ⟨Bx, 1, none⟩ = some (.int .i64 my)) v1 := ⟨e0, e1, a0, a1, c0, c1, z0, z1⟩
            gi_wp2
            refine anyHF_take (i := 7) (d := 87) (v := .bool false) (by kernel_rfl) rfl (by kernel_rfl) (by kernel_rfl) (by kernel_rfl) rfl (fun _ _ _ h => h) ⟨Or.inl ⟨by rfl, fun w hS => by obtain ⟨h0, h1, h2, h3, h4, h5, h6, h7⟩ := hS; go_simp⟩, fun _ => rfl⟩ hS ?_
            simp only [List.setIfInBounds_toArray, List.set_cons_zero, List.set_cons_succ]
            refine anyHF_done (by kernel_rfl) ?_ _
            clear hS
            gi_wp2
            go_roundw
            case rel => exact ⟨j + 1, rv, dv, by omega, by go_num, by rw [HTN.out]; simp, kr2, kd2, HRN.out, HDN.out, hbr, hsr⟩
            case measure => simp [intOf]; omega
        · have h1' := h1.symm
          subst h1'
          have e3x : ¬ d = x := by omega
          have hdx : (d == x) = false := by rw [beq_eq_false_iff_ne]; omega
          have hne2 : ¬ ((d, ey) : Int × Int) = (x, y) := by intro e; injection e; omega
          have HTN : Hid (turnF (x, y) (d, y) (l.take (j + 1)) = (acc != decide (ey = y))) := by unfold Hid; rw [htn]; congr 1; rw [decide_eq_decide]; first | (simp; done) | (simp; omega)
          have HRN : Hid (rv = (cr : Int) + (if mx = d then ((l.take (j + 1)).count (x, y) : Int) else 0)) := by have hRo := HRv.out; unfold Hid; rw [hRo, hcn, if_neg hne2]; simp
          have HDN : Hid (dv = (cd : Int) + (if mx = d + 1 then ((l.take (j + 1)).count (x, y) : Int) else 0)) := by have hDo := HDv.out; unfold Hid; rw [hDo, hcn, if_neg hne2]; simp
          have HMM := Lib.hid (HMe1.out ey hin)
          have HMr1 := HMr.out ey (HMc1.out ey hin)
          clear hne2
          clear hcn htn HRv HDv hcb hin
          gi_wp2_with fail
          have hS : (fun U : World => U.cell? ⟨g, j * 2, none⟩ = some (.int .i64 d) ∧ U.cell? ⟨g, j * 2 + 1, none⟩ = some (.int .i64 ey) ∧ U.cell? ⟨B, 0, none⟩ = some (.int .i64 x) ∧ U.cell? ⟨B, 1, none⟩ = some (.int .i64 y) ∧ U.cell? ⟨w.heap.size, 0, none⟩ = some (.int .i64 k) ∧ U.cell? ⟨w.heap.size, 1, none⟩ = some (.int .i64 p) ∧ U.cell? ⟨Bx, 0, none⟩ = some (.int .i64 mx) ∧ U.cell? ⟨Bx, 1, none⟩ = some (.int .i64 my)) _ := ⟨e0, e1, a0, a1, c0, c1, z0, z1⟩
          refine region_HF (S := (fun U : World => U.cell? ⟨g, j * 2, none⟩ = some (.int .i64 d) ∧ U.cell? ⟨g, j * 2 + 1, none⟩ = some (.int .i64 ey) ∧ U.cell? ⟨B, 0, none⟩ = some (.int .i64 x) ∧ U.cell? ⟨B, 1, none⟩ = some (.int .i64 y) ∧ U.cell? ⟨w.heap.size, 0, none⟩ = some (.int .i64 k) ∧ U.cell? ⟨w.heap.size, 1, none⟩ = some (.int .i64 p) ∧ U.cell? ⟨Bx, 0, none⟩ = some (.int .i64 mx) ∧ U.cell? ⟨Bx, 1, none⟩ = some (.int .i64 my))) (by kernel_rfl) ?_
          refine anyHF_take (i := 0) (d := 57) (v := .slice (some ⟨g, 0, none⟩) n2 cap) (by kernel_rfl) rfl (by kernel_rfl) (by kernel_rfl) (by kernel_rfl) rfl (fun _ _ _ h => h) ⟨Or.inl ⟨by rfl, fun w hS => by obtain ⟨h0, h1, h2, h3, h4, h5, h6, h7⟩ := hS; go_simp⟩, fun _ => rfl⟩ hS ?_
          simp only [List.setIfInBounds_toArray, List.set_cons_zero, List.set_cons_succ]
          refine anyHF_take (i := 1) (d := 58) (v := .int .i64 (j : Int)) (by kernel_rfl) rfl (by kernel_rfl) (by kernel_rfl) (by kernel_rfl) rfl (fun _ _ _ h => h) ⟨Or.inl ⟨by rfl, fun w hS => by obtain ⟨h0, h1, h2, h3, h4, h5, h6, h7⟩ := hS; go_simp⟩, fun _ => rfl⟩ hS ?_
          simp only [List.setIfInBounds_toArray, List.set_cons_zero, List.set_cons_succ]
          refine anyHF_take (i := 2) (d := 59) (v := .pointer (some ⟨g, j * 2, none⟩)) (by kernel_rfl) rfl (by kernel_rfl) (by kernel_rfl) (by kernel_rfl) rfl (fun _ _ _ h => h) ⟨Or.inl ⟨by rfl, fun w hS => by obtain ⟨h0, h1, h2, h3, h4, h5, h6, h7⟩ := hS; go_simp⟩, fun _ => rfl⟩ hS ?_
          simp only [List.setIfInBounds_toArray, List.set_cons_zero, List.set_cons_succ]
          refine anyHF_take (i := 3) (d := 60) (v := .agg #[.int .i64 d, .int .i64 ey]) (by kernel_rfl) rfl (by kernel_rfl) (by kernel_rfl) (by kernel_rfl) rfl (fun _ _ _ h => h) ⟨Or.inl ⟨by rfl, fun w hS => by obtain ⟨h0, h1, h2, h3, h4, h5, h6, h7⟩ := hS; go_simp⟩, fun _ => rfl⟩ hS ?_
          simp only [List.setIfInBounds_toArray, List.set_cons_zero, List.set_cons_succ]
          refine anyHF_take (i := 4) (d := 61) (v := .agg #[.int .i64 x, .int .i64 y]) (by kernel_rfl) rfl (by kernel_rfl) (by kernel_rfl) (by kernel_rfl) rfl (fun _ _ _ h => h) ⟨Or.inl ⟨by rfl, fun w hS => by obtain ⟨h0, h1, h2, h3, h4, h5, h6, h7⟩ := hS; go_simp⟩, fun _ => rfl⟩ hS ?_
          simp only [List.setIfInBounds_toArray, List.set_cons_zero, List.set_cons_succ]
          refine anyHF_take (i := 5) (d := 62) (v := .bool false) (by kernel_rfl) rfl (by kernel_rfl) (by kernel_rfl) (by kernel_rfl) rfl (fun _ _ _ h => h) ⟨Or.inl ⟨by rfl, fun w hS => by obtain ⟨h0, h1, h2, h3, h4, h5, h6, h7⟩ := hS; go_simp⟩, fun _ => rfl⟩ hS ?_
          simp only [List.setIfInBounds_toArray, List.set_cons_zero, List.set_cons_succ]
          refine anyHF_done (by kernel_rfl) ?_ _
          clear hS
          gi_wp2_with fail
          have hS : (fun U : World => U.cell? ⟨g, j * 2, none⟩ = some (.int .i64 d) ∧ U.cell? ⟨g, j * 2 + 1, none⟩ = some (.int .i64 ey) ∧ U.cell? ⟨B, 0, none⟩ = some (.int .i64 x) ∧ U.cell? ⟨B, 1, none⟩ = some (.int .i64 y) ∧ U.cell? ⟨w.heap.size, 0, none⟩ = some (.int .i64 k) ∧ U.cell? ⟨w.heap.size, 1, none⟩ = some (.int .i64 p) ∧ U.cell? ⟨Bx, 0, none⟩ = some (.int .i64 mx) ∧ U.cell? ⟨Bx, 1, none⟩ = some (.int .i64 my)) _ := ⟨e0, e1, a0, a1, c0, c1, z0, z1⟩
          refine region_HF (S := (fun U : World => U.cell? ⟨g, j * 2, none⟩ = some (.int .i64 d) ∧ U.cell? ⟨g, j * 2 + 1, none⟩ = some (.int .i64 ey) ∧ U.cell? ⟨B, 0, none⟩ = some (.int .i64 x) ∧ U.cell? ⟨B, 1, none⟩ = some (.int .i64 y) ∧ U.cell? ⟨w.heap.size, 0, none⟩ = some (.int .i64 k) ∧ U.cell? ⟨w.heap.size, 1, none⟩ = some (.int .i64 p) ∧ U.cell? ⟨Bx, 0, none⟩ = some (.int .i64 mx) ∧ U.cell? ⟨Bx, 1, none⟩ = some (.int .i64 my))) (by kernel_rfl) ?_
          refine anyHF_take (i := 0) (d := 80) (v := .slice (some ⟨g, 0, none⟩) n2 cap) (by kernel_rfl) rfl (by kernel_rfl) (by kernel_rfl) (by kernel_rfl) rfl (fun _ _ _ h => h) ⟨Or.inl ⟨by rfl, fun w hS => by obtain ⟨h0, h1, h2, h3, h4, h5, h6, h7⟩ := hS; go_simp⟩, fun _ => rfl⟩ hS ?_
          simp only [List.setIfInBounds_toArray, List.set_cons_zero, List.set_cons_succ]
          refine anyHF_take (i := 1) (d := 81) (v := .int .i64 (j : Int)) (by kernel_rfl) rfl (by kernel_rfl) (by kernel_rfl) (by kernel_rfl) rfl (fun _ _ _ h => h) ⟨Or.inl ⟨by rfl, fun w hS => by obtain ⟨h0, h1, h2, h3, h4, h5, h6, h7⟩ := hS; go_simp⟩, fun _ => rfl⟩ hS ?_
          simp only [List.setIfInBounds_toArray, List.set_cons_zero, List.set_cons_succ]
          refine anyHF_take (i := 2) (d := 82) (v := .pointer (some ⟨g, j * 2, none⟩)) (by kernel_rfl) rfl (by kernel_rfl) (by kernel_rfl) (by kernel_rfl) rfl (fun _ _ _ h => h) ⟨Or.inl ⟨by rfl, fun w hS => by obtain ⟨h0, h1, h2, h3, h4, h5, h6, h7⟩ := hS; go_simp⟩, fun _ => rfl⟩ hS ?_
          simp only [List.setIfInBounds_toArray, List.set_cons_zero, List.set_cons_succ]
          refine anyHF_take (i := 3) (d := 83) (v := .pointer (some ⟨g, j * 2, none⟩)) (by kernel_rfl) rfl (by kernel_rfl) (by kernel_rfl) (by kernel_rfl) rfl (fun _ _ _ h => h) ⟨Or.inl ⟨by rfl, fun w hS => by obtain ⟨h0, h1, h2, h3, h4, h5, h6, h7⟩ := hS; go_simp⟩, fun _ => rfl⟩ hS ?_
          simp only [List.setIfInBounds_toArray, List.set_cons_zero, List.set_cons_succ]
          refine anyHF_take (i := 4) (d := 84) (v := .int .i64 d) (by kernel_rfl) rfl (by kernel_rfl) (by kernel_rfl) (by kernel_rfl) rfl (fun _ _ _ h => h) ⟨Or.inl ⟨by rfl, fun w hS => by obtain ⟨h0, h1, h2, h3, h4, h5, h6, h7⟩ := hS; go_simp⟩, fun _ => rfl⟩ hS ?_
          simp only [List.setIfInBounds_toArray, List.set_cons_zero, List.set_cons_succ]
          refine anyHF_take (i := 5) (d := 85) (v := .agg #[.int .i64 k, .int .i64 p]) (by kernel_rfl) rfl (by kernel_rfl) (by kernel_rfl) (by kernel_rfl) rfl (fun _ _ _ h => h) ⟨Or.inl ⟨by rfl, fun w hS => by obtain ⟨h0, h1, h2, h3, h4, h5, h6, h7⟩ := hS; go_simp⟩, fun _ => rfl⟩ hS ?_
          simp only [List.setIfInBounds_toArray, List.set_cons_zero, List.set_cons_succ]
          refine anyHF_one (i := 6) (by kernel_rfl) rfl (by kernel_rfl) (by rfl) ?_
          gi_wp2_with fail
          refine ⟨trivial, (CallsIn.inRound l' (callsIn_wide.2 (HDa.out _))).mono ?_⟩
          rintro e v1 ⟨rfl, hB1⟩
          replace hB1 : Below (wr).heap.size (wr) v1 := by first | exact hB1 | exact below_undrew hB1 | exact below_undrew (below_undrew hB1) | exact below_undrew (below_undrew (below_undrew hB1))
          replace hbr := hbr.trans (hB1.mono hbr2)
          replace hsr := hsr.trans_ (SinceO.below hB1)
          have hbr2 : B + 1 + 1 ≤ v1.heap.size := Nat.le_trans hbr2 hB1.size
          replace kr2 := kr2.below hB1 kr2.lt
          replace kd2 := kd2.below hB1 kd2.lt
          clear hS hB1
          try clear c0 c1 a0 a1 z0 z1 e0 e1
          have HFr := HF.below (hbr.mono (by omega))
          have c0 := HFr.b0.cell 0
          have c1 := HFr.b0.cell 1
          have a0 := HFr.ba.cell 0
          have a1 := HFr.ba.cell 1
          have hbxr := hsr.blk hbx (by omega) (by simp)
          have z0 := hbxr.cell 0
          have z1 := hbxr.cell 1
          simp only [List.getElem?_toArray, List.getElem?_cons_zero, List.getElem?_cons_succ] at c0 c1 a0 a1 z0 z1
          have e0 := cell_keep he0 hga hbr hsr
          have e1 := cell_keep he1 hga hbr hsr
          have hS : (fun U : World => U.cell? ⟨g, j * 2, none⟩ = some (.int .i64 d) ∧ U.cell? ⟨g, j * 2 + 1, none⟩ = some (.int .i64 ey) ∧ U.cell? ⟨B, 0, none⟩ = some (.int .i64 x) ∧ U.cell? ⟨B, 1, none⟩ = some (.int .i64 y) ∧ U.cell? ⟨w.heap.size, 0, none⟩ = some (.int .i64 k) ∧ U.cell? ⟨w.heap.size, 1, none⟩ = some (.int .i64 p) ∧ U.cell? ⟨Bx, 0, none⟩ = some (.int .i64 mx) ∧ U.cell? ⟨Bx, 1, none⟩ = some (.int .i64 my)) v1 := ⟨e0, e1, a0, a1, c0, c1, z0, z1⟩
          gi_wp2
          refine anyHF_take (i := 7) (d := 87) (v := .bool true) (by kernel_rfl) rfl (by kernel_rfl) (by kernel_rfl) (by kernel_rfl) rfl (fun _ _ _ h => h) ⟨Or.inl ⟨by rfl, fun w hS => by obtain ⟨h0, h1, h2, h3, h4, h5, h6, h7⟩ := hS; go_simp⟩, fun _ => rfl⟩ hS ?_
          simp only [List.setIfInBounds_toArray, List.set_cons_zero, List.set_cons_succ]
          refine anyHF_done (by kernel_rfl) ?_ _
          clear hS
          gi_wp2_with fail
          have hS : (fun U : World => U.cell? ⟨g, j * 2, none⟩ = some (.int .i64 d) ∧ U.cell? ⟨g, j * 2 + 1, none⟩ = some (.int .i64 ey) ∧ U.cell? ⟨B, 0, none⟩ = some (.int .i64 x) ∧ U.cell? ⟨B, 1, none⟩ = some (.int .i64 y) ∧ U.cell? ⟨w.heap.size, 0, none⟩ = some (.int .i64 k) ∧ U.cell? ⟨w.heap.size, 1, none⟩ = some (.int .i64 p) ∧ U.cell? ⟨Bx, 0, none⟩ = some (.int .i64 mx) ∧ U.cell? ⟨Bx, 1, none⟩ = some (.int .i64 my)) _ := ⟨e0, e1, a0, a1, c0, c1, z0, z1⟩
          refine region_HF (S := (fun U : World => U.cell? ⟨g, j * 2, none⟩ = some (.int .i64 d) ∧ U.cell? ⟨g, j * 2 + 1, none⟩ = some (.int .i64 ey) ∧ U.cell? ⟨B, 0, none⟩ = some (.int .i64 x) ∧ U.cell? ⟨B, 1, none⟩ = some (.int .i64 y) ∧ U.cell? ⟨w.heap.size, 0, none⟩ = some (.int .i64 k) ∧ U.cell? ⟨w.heap.size, 1, none⟩ = some (.int .i64 p) ∧ U.cell? ⟨Bx, 0, none⟩ = some (.int .i64 mx) ∧ U.cell? ⟨Bx, 1, none⟩ = some (.int .i64 my))) (by kernel_rfl) ?_
          refine anyHF_take (i := 0) (d := 89) (v := .agg #[.int .i64 k, .int .i64 p]) (by kernel_rfl) rfl (by kernel_rfl) (by kernel_rfl) (by kernel_rfl) rfl (fun _ _ _ h => h) ⟨Or.inl ⟨by rfl, fun w hS => by obtain ⟨h0, h1, h2, h3, h4, h5, h6, h7⟩ := hS; go_simp⟩, fun _ => rfl⟩ hS ?_
          simp only [List.setIfInBounds_toArray, List.set_cons_zero, List.set_cons_succ]
          refine anyHF_take (i := 1) (d := 90) (v := .slice (some ⟨g, 0, none⟩) n2 cap) (by kernel_rfl) rfl (by kernel_rfl) (by kernel_rfl) (by kernel_rfl) rfl (fun _ _ _ h => h) ⟨Or.inl ⟨by rfl, fun w hS => by obtain ⟨h0, h1, h2, h3, h4, h5, h6, h7⟩ := hS; go_simp⟩, fun _ => rfl⟩ hS ?_
          simp only [List.setIfInBounds_toArray, List.set_cons_zero, List.set_cons_succ]
          refine anyHF_take (i := 2) (d := 91) (v := .int .i64 (j : Int)) (by kernel_rfl) rfl (by kernel_rfl) (by kernel_rfl) (by kernel_rfl) rfl (fun _ _ _ h => h) ⟨Or.inl ⟨by rfl, fun w hS => by obtain ⟨h0, h1, h2, h3, h4, h5, h6, h7⟩ := hS; go_simp⟩, fun _ => rfl⟩ hS ?_
          simp only [List.setIfInBounds_toArray, List.set_cons_zero, List.set_cons_succ]
          refine anyHF_take (i := 3) (d := 92) (v := .pointer (some ⟨g, j * 2, none⟩)) (by kernel_rfl) rfl (by kernel_rfl) (by kernel_rfl) (by kernel_rfl) rfl (fun _ _ _ h => h) ⟨Or.inl ⟨by rfl, fun w hS => by obtain ⟨h0, h1, h2, h3, h4, h5, h6, h7⟩ := hS; go_simp⟩, fun _ => rfl⟩ hS ?_
          simp only [List.setIfInBounds_toArray, List.set_cons_zero, List.set_cons_succ]
          refine anyHF_take (i := 4) (d := 93) (v := .agg #[.int .i64 d, .int .i64 ey]) (by kernel_rfl) rfl (by kernel_rfl) (by kernel_rfl) (by kernel_rfl) rfl (fun _ _ _ h => h) ⟨Or.inl ⟨by rfl, fun w hS => by obtain ⟨h0, h1, h2, h3, h4, h5, h6, h7⟩ := hS; go_simp⟩, fun _ => rfl⟩ hS ?_
          simp only [List.setIfInBounds_toArray, List.set_cons_zero, List.set_cons_succ]
          refine anyHF_one (i := 5) (by kernel_rfl) rfl (by kernel_rfl) (by rfl) ?_
          gi_wp2_with fail
          refine ⟨trivial, (CallsIn.inRound l' (callsIn_wide.2 (HMM.out v1.drew HFr.hL))).mono ?_⟩
          rintro e v2 ⟨u, rfl, hrd, hB1⟩
          replace hB1 : Below (v1).heap.size (v1) v2 := by first | exact hB1 | exact below_undrew hB1 | exact below_undrew (below_undrew hB1) | exact below_undrew (below_undrew (below_undrew hB1))
          obtain ⟨g2, cap2, rfl, hg2, hc2⟩ := hrd
          obtain ⟨ht2, hl20, hl21, hle2⟩ := HMr1
          generalize memL k p d ey = m at *
          obtain ⟨n3, hn3⟩ : ∃ n3, m.length = n3 := ⟨_, rfl⟩
          have HC2 := Lib.hid hc2
          have HN3 := Lib.hid hn3
          have HT2 := Lib.hid ht2
          have HLE2 := Lib.hid hle2
          clear hc2 ht2 hle2
          rw [hn3] at hl20 hl21 ⊢
          clear hn3
          replace hbr := hbr.trans (hB1.mono hbr2)
          replace hsr := hsr.trans_ (SinceO.below hB1)
          have hbr2 : B + 1 + 1 ≤ v2.heap.size := Nat.le_trans hbr2 hB1.size
          replace kr2 := kr2.below hB1 kr2.lt
          replace kd2 := kd2.below hB1 kd2.lt
          clear hS hB1
          try clear c0 c1 a0 a1 z0 z1 e0 e1
          have HFr := HF.below (hbr.mono (by omega))
          have c0 := HFr.b0.cell 0
          have c1 := HFr.b0.cell 1
          have a0 := HFr.ba.cell 0
          have a1 := HFr.ba.cell 1
          have hbxr := hsr.blk hbx (by omega) (by simp)
          have z0 := hbxr.cell 0
          have z1 := hbxr.cell 1
          simp only [List.getElem?_toArray, List.getElem?_cons_zero, List.getElem?_cons_succ] at c0 c1 a0 a1 z0 z1
          have e0 := cell_keep he0 hga hbr hsr
          have e1 := cell_keep he1 hga hbr hsr
          have hS : (fun U : World => U.cell? ⟨g, j * 2, none⟩ = some (.int .i64 d) ∧ U.cell? ⟨g, j * 2 + 1, none⟩ = some (.int .i64 ey) ∧ U.cell? ⟨B, 0, none⟩ = some (.int .i64 x) ∧ U.cell? ⟨B, 1, none⟩ = some (.int .i64 y) ∧ U.cell? ⟨w.heap.size, 0, none⟩ = some (.int .i64 k) ∧ U.cell? ⟨w.heap.size, 1, none⟩ = some (.int .i64 p) ∧ U.cell? ⟨Bx, 0, none⟩ = some (.int .i64 mx) ∧ U.cell? ⟨Bx, 1, none⟩ = some (.int .i64 my)) v2 := ⟨e0, e1, a0, a1, c0, c1, z0, z1⟩
          gi_wp2
          refine anyHF_take (i := 6) (d := 88) (v := .tuple #[.slice (some ⟨g2, 0, none⟩) n3 cap2, .int .i64 0]) (by kernel_rfl) rfl (by kernel_rfl) (by kernel_rfl) (by kernel_rfl) rfl (fun _ _ _ h => h) ⟨Or.inl ⟨by rfl, fun w hS => by obtain ⟨h0, h1, h2, h3, h4, h5, h6, h7⟩ := hS; go_simp⟩, fun _ => rfl⟩ hS ?_
          simp only [List.setIfInBounds_toArray, List.set_cons_zero, List.set_cons_succ]
          refine anyHF_take (i := 7) (d := 95) (v := .slice (some ⟨g2, 0, none⟩) n3 cap2) (by kernel_rfl) rfl (by kernel_rfl) (by kernel_rfl) (by kernel_rfl) rfl (fun _ _ _ h => h) ⟨Or.inl ⟨by rfl, fun w hS => by obtain ⟨h0, h1, h2, h3, h4, h5, h6, h7⟩ := hS; go_simp⟩, fun _ => rfl⟩ hS ?_
          simp only [List.setIfInBounds_toArray, List.set_cons_zero, List.set_cons_succ]
          refine anyHF_take (i := 8) (d := 96) (v := .int .i64 0) (by kernel_rfl) rfl (by kernel_rfl) (by kernel_rfl) (by kernel_rfl) rfl (fun _ _ _ h => h) ⟨Or.inl ⟨by rfl, fun w hS => by obtain ⟨h0, h1, h2, h3, h4, h5, h6, h7⟩ := hS; go_simp⟩, fun _ => rfl⟩ hS ?_
          simp only [List.setIfInBounds_toArray, List.set_cons_zero, List.set_cons_succ]
          refine anyHF_one (i := 9) (by kernel_rfl) rfl (by kernel_rfl) (by rfl) ?_
          gi_wp2
          refine anyHF_one (i := 10) (by kernel_rfl) rfl (by kernel_rfl) (by rfl) ?_
          gi_wp2
          refine anyHF_done (by kernel_rfl) ?_ _
          clear hS
          gi_wp2_with fail
          refine ⟨trivial, (CallsIn.inRound l' (callsIn_wide.2 (num_any _ _))).mono ?_⟩
          rintro e w' ⟨rfl, rfl⟩
          gi_wp2_with fail
          gi_loopw [11, 15] (fun od i wz => ∃ i2 : Nat, i2 ≤ n3 ∧ i = .int .i64 i2 ∧ od = .bool (acc != turnF (x, y) (d, y) (m.take i2)) ∧ Below v2.heap.size v2 wz) (fun _ i _ => n3 - (intOf i).toNat)
          case atStart => exact ⟨0, by omega, rfl, by cases acc <;> rfl, by first | exact Below.refl _ _ | exact (Below.refl _ _).drew⟩
          case round =>
            obtain ⟨i2, hi2, rfl, rfl, hbz⟩ := hrel
            by_cases hlt3 : i2 < n3
            · have hdec3 : decide ((i2 : Int) < (n3 : Int)) = true := by simp; omega
              have his : i2 < m.length := by rw [HN3.out]; exact hlt3
              obtain ⟨m0, m1⟩ := HC2.out i2 his
              replace m0 := nextc m0 hbz
              replace m1 := nextc m1 hbz
              have HFz := HFr.next hbz
              clear a0 a1
              have a0 := HFz.ba.cell 0
              have a1 := HFz.ba.cell 1
              simp only [List.getElem?_toArray, List.getElem?_cons_zero, List.getElem?_cons_succ] at a0 a1
              have i3 : (0 : Int) ≤ (i2 : Int) := by omega
              have i4 : (i2 : Int) < (n3 : Int) := by omega
              have htn2 := turn_next (x, y) (d, y) m i2 his
              have hfx := HLE2.out _ (List.getElem_mem his)
              generalize m[i2] = e2 at *
              obtain ⟨fx, fy⟩ := e2
              simp only at m0 m1 hfx
              obtain ⟨od, hodn⟩ : ∃ od, od = (acc != turnF (x, y) (d, y) (m.take i2)) := ⟨_, rfl⟩
              rw [← hodn]
              by_cases f1 : x = fx
              · subst f1
                by_cases f2 : y = fy
                · subst f2
                  have hdq : decide (((x, y) : Int × Int) = (x, y) ∨ ((x, y) : Int × Int) = (d, y)) = true := by simp
                  have HOD : Hid ((acc != turnF (x, y) (d, y) (m.take (i2 + 1))) = (od != true)) := by unfold Hid; rw [hodn, htn2, hdq]; cases acc <;> cases turnF (x, y) (d, y) (m.take i2) <;> rfl
                  clear htn2 hdq hodn
                  cases od with
                  | true =>
                    gi_wp2_with fail
                    have hS : (fun U : World => U.cell? ⟨g2, i2 * 2, none⟩ = some (.int .i64 x) ∧ U.cell? ⟨g2, i2 * 2 + 1, none⟩ = some (.int .i64 y) ∧ U.cell? ⟨B, 0, none⟩ = some (.int .i64 x) ∧ U.cell? ⟨B, 1, none⟩ = some (.int .i64 y)) _ := ⟨m0, m1, a0, a1⟩
                    refine region_HF (S := (fun U : World => U.cell? ⟨g2, i2 * 2, none⟩ = some (.int .i64 x) ∧ U.cell? ⟨g2, i2 * 2 + 1, none⟩ = some (.int .i64 y) ∧ U.cell? ⟨B, 0, none⟩ = some (.int .i64 x) ∧ U.cell? ⟨B, 1, none⟩ = some (.int .i64 y))) (by kernel_rfl) ?_
                    refine anyHF_take (i := 0) (d := 106) (v := .bool true) (by kernel_rfl) rfl (by kernel_rfl) (by kernel_rfl) (by kernel_rfl) rfl (fun _ _ _ h => h) ⟨Or.inl ⟨by rfl, fun w hS => by obtain ⟨h0, h1, h2, h3⟩ := hS; go_simp⟩, fun _ => rfl⟩ hS ?_
                    simp only [List.setIfInBounds_toArray, List.set_cons_zero, List.set_cons_succ]
                    refine anyHF_take (i := 1) (d := 107) (v := .slice (some ⟨g2, 0, none⟩) n3 cap2) (by kernel_rfl) rfl (by kernel_rfl) (by kernel_rfl) (by kernel_rfl) rfl (fun _ _ _ h => h) ⟨Or.inl ⟨by rfl, fun w hS => by obtain ⟨h0, h1, h2, h3⟩ := hS; go_simp⟩, fun _ => rfl⟩ hS ?_
                    simp only [List.setIfInBounds_toArray, List.set_cons_zero, List.set_cons_succ]
                    refine anyHF_take (i := 2) (d := 108) (v := .int .i64 (i2 : Int)) (by kernel_rfl) rfl (by kernel_rfl) (by kernel_rfl) (by kernel_rfl) rfl (fun _ _ _ h => h) ⟨Or.inl ⟨by rfl, fun w hS => by obtain ⟨h0, h1, h2, h3⟩ := hS; go_simp⟩, fun _ => rfl⟩ hS ?_
                    simp only [List.setIfInBounds_toArray, List.set_cons_zero, List.set_cons_succ]
                    refine anyHF_take (i := 3) (d := 109) (v := .pointer (some ⟨g2, i2 * 2, none⟩)) (by kernel_rfl) rfl (by kernel_rfl) (by kernel_rfl) (by kernel_rfl) rfl (fun _ _ _ h => h) ⟨Or.inl ⟨by rfl, fun w hS => by obtain ⟨h0, h1, h2, h3⟩ := hS; go_simp⟩, fun _ => rfl⟩ hS ?_
                    simp only [List.setIfInBounds_toArray, List.set_cons_zero, List.set_cons_succ]
                    refine anyHF_take (i := 4) (d := 110) (v := .agg #[.int .i64 x, .int .i64 y]) (by kernel_rfl) rfl (by kernel_rfl) (by kernel_rfl) (by kernel_rfl) rfl (fun _ _ _ h => h) ⟨Or.inl ⟨by rfl, fun w hS => by obtain ⟨h0, h1, h2, h3⟩ := hS; go_simp⟩, fun _ => rfl⟩ hS ?_
                    simp only [List.setIfInBounds_toArray, List.set_cons_zero, List.set_cons_succ]
                    refine anyHF_take (i := 5) (d := 111) (v := .agg #[.int .i64 x, .int .i64 y]) (by kernel_rfl) rfl (by kernel_rfl) (by kernel_rfl) (by kernel_rfl) rfl (fun _ _ _ h => h) ⟨Or.inl ⟨by rfl, fun w hS => by obtain ⟨h0, h1, h2, h3⟩ := hS; go_simp⟩, fun _ => rfl⟩ hS ?_
                    simp only [List.setIfInBounds_toArray, List.set_cons_zero, List.set_cons_succ]
                    refine anyHF_take (i := 6) (d := 112) (v := .bool true) (by kernel_rfl) rfl (by kernel_rfl) (by kernel_rfl) (by kernel_rfl) rfl (fun _ _ _ h => h) ⟨Or.inl ⟨by rfl, fun w hS => by obtain ⟨h0, h1, h2, h3⟩ := hS; go_simp⟩, fun _ => rfl⟩ hS ?_
                    simp only [List.setIfInBounds_toArray, List.set_cons_zero, List.set_cons_succ]
                    refine anyHF_take (i := 7) (d := 113) (v := .bool false) (by kernel_rfl) rfl (by kernel_rfl) (by kernel_rfl) (by kernel_rfl) rfl (fun _ _ _ h => h) ⟨Or.inl ⟨by rfl, fun w hS => by obtain ⟨h0, h1, h2, h3⟩ := hS; go_simp⟩, fun _ => rfl⟩ hS ?_
                    simp only [List.setIfInBounds_toArray, List.set_cons_zero, List.set_cons_succ]
                    refine anyHF_one (i := 8) (by kernel_rfl) rfl (by kernel_rfl) (by rfl) ?_
                    gi_wp2
                    refine anyHF_done (by kernel_rfl) ?_ _
                    clear hS
                    gi_wp2
                    go_roundw
                    case rel => exact ⟨i2 + 1, by omega, by go_num, by rw [HOD.out]; rfl, (by first | exact hbz | exact hbz.drew | exact hbz.drew.drew)⟩
                    case measure => simp [intOf]; omega
                  | false =>
                    gi_wp2_with fail
                    have hS : (fun U : World => U.cell? ⟨g2, i2 * 2, none⟩ = some (.int .i64 x) ∧ U.cell? ⟨g2, i2 * 2 + 1, none⟩ = some (.int .i64 y) ∧ U.cell? ⟨B, 0, none⟩ = some (.int .i64 x) ∧ U.cell? ⟨B, 1, none⟩ = some (.int .i64 y)) _ := ⟨m0, m1, a0, a1⟩
                    refine region_HF (S := (fun U : World => U.cell? ⟨g2, i2 * 2, none⟩ = some (.int .i64 x) ∧ U.cell? ⟨g2, i2 * 2 + 1, none⟩ = some (.int .i64 y) ∧ U.cell? ⟨B, 0, none⟩ = some (.int .i64 x) ∧ U.cell? ⟨B, 1, none⟩ = some (.int .i64 y))) (by kernel_rfl) ?_
                    refine anyHF_take (i := 0) (d := 106) (v := .bool false) (by kernel_rfl) rfl (by kernel_rfl) (by kernel_rfl) (by kernel_rfl) rfl (fun _ _ _ h => h) ⟨Or.inl ⟨by rfl, fun w hS => by obtain ⟨h0, h1, h2, h3⟩ := hS; go_simp⟩, fun _ => rfl⟩ hS ?_
                    simp only [List.setIfInBounds_toArray, List.set_cons_zero, List.set_cons_succ]
                    refine anyHF_take (i := 1) (d := 107) (v := .slice (some ⟨g2, 0, none⟩) n3 cap2) (by kernel_rfl) rfl (by kernel_rfl) (by kernel_rfl) (by kernel_rfl) rfl (fun _ _ _ h => h) ⟨Or.inl ⟨by rfl, fun w hS => by obtain ⟨h0, h1, h2, h3⟩ := hS; go_simp⟩, fun _ => rfl⟩ hS ?_
                    simp only [List.setIfInBounds_toArray, List.set_cons_zero, List.set_cons_succ]
                    refine anyHF_take (i := 2) (d := 108) (v := .int .i64 (i2 : Int)) (by kernel_rfl) rfl (by kernel_rfl) (by kernel_rfl) (by kernel_rfl) rfl (fun _ _ _ h => h) ⟨Or.inl ⟨by rfl, fun w hS => by obtain ⟨h0, h1, h2, h3⟩ := hS; go_simp⟩, fun _ => rfl⟩ hS ?_
                    simp only [List.setIfInBounds_toArray, List.set_cons_zero, List.set_cons_succ]
                    refine anyHF_take (i := 3) (d := 109) (v := .pointer (some ⟨g2, i2 * 2, none⟩)) (by kernel_rfl) rfl (by kernel_rfl) (by kernel_rfl) (by kernel_rfl) rfl (fun _ _ _ h => h) ⟨Or.inl ⟨by rfl, fun w hS => by obtain ⟨h0, h1, h2, h3⟩ := hS; go_simp⟩, fun _ => rfl⟩ hS ?_
                    simp only [List.setIfInBounds_toArray, List.set_cons_zero, List.set_cons_succ]
                    refine anyHF_take (i := 4) (d := 110) (v := .agg #[.int .i64 x, .int .i64 y]) (by kernel_rfl) rfl (by kernel_rfl) (by kernel_rfl) (by kernel_rfl) rfl (fun _ _ _ h => h) ⟨Or.inl ⟨by rfl, fun w hS => by obtain ⟨h0, h1, h2, h3⟩ := hS; go_simp⟩, fun _ => rfl⟩ hS ?_
                    simp only [List.setIfInBounds_toArray, List.set_cons_zero, List.set_cons_succ]
                    refine anyHF_take (i := 5) (d := 111) (v := .agg #[.int .i64 x, .int .i64 y]) (by kernel_rfl) rfl (by kernel_rfl) (by kernel_rfl) (by kernel_rfl) rfl (fun _ _ _ h => h) ⟨Or.inl ⟨by rfl, fun w hS => by obtain ⟨h0, h1, h2, h3⟩ := hS; go_simp⟩, fun _ => rfl⟩ hS ?_
                    simp only [List.setIfInBounds_toArray, List.set_cons_zero, List.set_cons_succ]
                    refine anyHF_take (i := 6) (d := 112) (v := .bool true) (by kernel_rfl) rfl (by kernel_rfl) (by kernel_rfl) (by kernel_rfl) rfl (fun _ _ _ h => h) ⟨Or.inl ⟨by rfl, fun w hS => by obtain ⟨h0, h1, h2, h3⟩ := hS; go_simp⟩, fun _ => rfl⟩ hS ?_
                    simp only [List.setIfInBounds_toArray, List.set_cons_zero, List.set_cons_succ]
                    refine anyHF_take (i := 7) (d := 113) (v := .bool true) (by kernel_rfl) rfl (by kernel_rfl) (by kernel_rfl) (by kernel_rfl) rfl (fun _ _ _ h => h) ⟨Or.inl ⟨by rfl, fun w hS => by obtain ⟨h0, h1, h2, h3⟩ := hS; go_simp⟩, fun _ => rfl⟩ hS ?_
                    simp only [List.setIfInBounds_toArray, List.set_cons_zero, List.set_cons_succ]
                    refine anyHF_one (i := 8) (by kernel_rfl) rfl (by kernel_rfl) (by rfl) ?_
                    gi_wp2
                    refine anyHF_done (by kernel_rfl) ?_ _
                    clear hS
                    gi_wp2
                    go_roundw
                    case rel => exact ⟨i2 + 1, by omega, by go_num, by rw [HOD.out]; rfl, (by first | exact hbz | exact hbz.drew | exact hbz.drew.drew)⟩
                    case measure => simp [intOf]; omega
                · have f3 : ¬ fy = y := fun e => f2 e.symm
                  have hdq : decide (((x, fy) : Int × Int) = (x, y) ∨ ((x, fy) : Int × Int) = (d, y)) = false := by first | (simp; done) | (simp; omega)
                  have HOD : Hid ((acc != turnF (x, y) (d, y) (m.take (i2 + 1))) = (od != false)) := by unfold Hid; rw [hodn, htn2, hdq]; cases acc <;> cases turnF (x, y) (d, y) (m.take i2) <;> rfl
                  clear htn2 hdq hodn
                  cases od with
                  | true =>
                    gi_wp2_with fail
                    have hS : (fun U : World => U.cell? ⟨g2, i2 * 2, none⟩ = some (.int .i64 x) ∧ U.cell? ⟨g2, i2 * 2 + 1, none⟩ = some (.int .i64 fy) ∧ U.cell? ⟨B, 0, none⟩ = some (.int .i64 x) ∧ U.cell? ⟨B, 1, none⟩ = some (.int .i64 y)) _ := ⟨m0, m1, a0, a1⟩
                    refine region_HF (S := (fun U : World => U.cell? ⟨g2, i2 * 2, none⟩ = some (.int .i64 x) ∧ U.cell? ⟨g2, i2 * 2 + 1, none⟩ = some (.int .i64 fy) ∧ U.cell? ⟨B, 0, none⟩ = some (.int .i64 x) ∧ U.cell? ⟨B, 1, none⟩ = some (.int .i64 y))) (by kernel_rfl) ?_
                    refine anyHF_take (i := 0) (d := 106) (v := .bool true) (by kernel_rfl) rfl (by kernel_rfl) (by kernel_rfl) (by kernel_rfl) rfl (fun _ _ _ h => h) ⟨Or.inl ⟨by rfl, fun w hS => by obtain ⟨h0, h1, h2, h3⟩ := hS; go_simp⟩, fun _ => rfl⟩ hS ?_
                    simp only [List.setIfInBounds_toArray, List.set_cons_zero, List.set_cons_succ]
                    refine anyHF_take (i := 1) (d := 107) (v := .slice (some ⟨g2, 0, none⟩) n3 cap2) (by kernel_rfl) rfl (by kernel_rfl) (by kernel_rfl) (by kernel_rfl) rfl (fun _ _ _ h => h) ⟨Or.inl ⟨by rfl, fun w hS => by obtain ⟨h0, h1, h2, h3⟩ := hS; go_simp⟩, fun _ => rfl⟩ hS ?_
                    simp only [List.setIfInBounds_toArray, List.set_cons_zero, List.set_cons_succ]
                    refine anyHF_take (i := 2) (d := 108) (v := .int .i64 (i2 : Int)) (by kernel_rfl) rfl (by kernel_rfl) (by kernel_rfl) (by kernel_rfl) rfl (fun _ _ _ h => h) ⟨Or.inl ⟨by rfl, fun w hS => by obtain ⟨h0, h1, h2, h3⟩ := hS; go_simp⟩, fun _ => rfl⟩ hS ?_
                    simp only [List.setIfInBounds_toArray, List.set_cons_zero, List.set_cons_succ]
                    refine anyHF_take (i := 3) (d := 109) (v := .pointer (some ⟨g2, i2 * 2, none⟩)) (by kernel_rfl) rfl (by kernel_rfl) (by kernel_rfl) (by kernel_rfl) rfl (fun _ _ _ h => h) ⟨Or.inl ⟨by rfl, fun w hS => by obtain ⟨h0, h1, h2, h3⟩ := hS; go_simp⟩, fun _ => rfl⟩ hS ?_
                    simp only [List.setIfInBounds_toArray, List.set_cons_zero, List.set_cons_succ]
                    refine anyHF_take (i := 4) (d := 110) (v := .agg #[.int .i64 x, .int .i64 fy]) (by kernel_rfl) rfl (by kernel_rfl) (by kernel_rfl) (by kernel_rfl) rfl (fun _ _ _ h => h) ⟨Or.inl ⟨by rfl, fun w hS => by obtain ⟨h0, h1, h2, h3⟩ := hS; go_simp⟩, fun _ => rfl⟩ hS ?_
                    simp only [List.setIfInBounds_toArray, List.set_cons_zero, List.set_cons_succ]
                    refine anyHF_take (i := 5) (d := 111) (v := .agg #[.int .i64 x, .int .i64 y]) (by kernel_rfl) rfl (by kernel_rfl) (by kernel_rfl) (by kernel_rfl) rfl (fun _ _ _ h => h) ⟨Or.inl ⟨by rfl, fun w hS => by obtain ⟨h0, h1, h2, h3⟩ := hS; go_simp⟩, fun _ => rfl⟩ hS ?_
                    simp only [List.setIfInBounds_toArray, List.set_cons_zero, List.set_cons_succ]
                    refine anyHF_take (i := 6) (d := 112) (v := .bool false) (by kernel_rfl) rfl (by kernel_rfl) (by kernel_rfl) (by kernel_rfl) rfl (fun _ _ _ h => h) ⟨Or.inl ⟨by rfl, fun w hS => by obtain ⟨h0, h1, h2, h3⟩ := hS; go_simp⟩, fun _ => rfl⟩ hS ?_
                    simp only [List.setIfInBounds_toArray, List.set_cons_zero, List.set_cons_succ]
                    refine anyHF_take (i := 7) (d := 113) (v := .bool true) (by kernel_rfl) rfl (by kernel_rfl) (by kernel_rfl) (by kernel_rfl) rfl (fun _ _ _ h => h) ⟨Or.inl ⟨by rfl, fun w hS => by obtain ⟨h0, h1, h2, h3⟩ := hS; go_simp⟩, fun _ => rfl⟩ hS ?_
                    simp only [List.setIfInBounds_toArray, List.set_cons_zero, List.set_cons_succ]
                    refine anyHF_one (i := 8) (by kernel_rfl) rfl (by kernel_rfl) (by rfl) ?_
                    gi_wp2
                    refine anyHF_done (by kernel_rfl) ?_ _
                    clear hS
                    gi_wp2
                    go_roundw
                    case rel => exact ⟨i2 + 1, by omega, by go_num, by rw [HOD.out]; rfl, (by first | exact hbz | exact hbz.drew | exact hbz.drew.drew)⟩
                    case measure => simp [intOf]; omega
                  | false =>
                    gi_wp2_with fail
                    have hS : (fun U : World => U.cell? ⟨g2, i2 * 2, none⟩ = some (.int .i64 x) ∧ U.cell? ⟨g2, i2 * 2 + 1, none⟩ = some (.int .i64 fy) ∧ U.cell? ⟨B, 0, none⟩ = some (.int .i64 x) ∧ U.cell? ⟨B, 1, none⟩ = some (.int .i64 y)) _ := ⟨m0, m1, a0, a1⟩
                    refine region_HF (S := (fun U : World => U.cell? ⟨g2, i2 * 2, none⟩ = some (.int .i64 x) ∧ U.cell? ⟨g2, i2 * 2 + 1, none⟩ = some (.int .i64 fy) ∧ U.cell? ⟨B, 0, none⟩ = some (.int .i64 x) ∧ U.cell? ⟨B, 1, none⟩ = some (.int .i64 y))) (by kernel_rfl) ?_
                    refine anyHF_take (i := 0) (d := 106) (v := .bool false) (by kernel_rfl) rfl (by kernel_rfl) (by kernel_rfl) (by kernel_rfl) rfl (fun _ _ _ h => h) ⟨Or.inl ⟨by rfl, fun w hS => by obtain ⟨h0, h1, h2, h3⟩ := hS; go_simp⟩, fun _ => rfl⟩ hS ?_
                    simp only [List.setIfInBounds_toArray, List.set_cons_zero, List.set_cons_succ]
                    refine anyHF_take (i := 1) (d := 107) (v := .slice (some ⟨g2, 0, none⟩) n3 cap2) (by kernel_rfl) rfl (by kernel_rfl) (by kernel_rfl) (by kernel_rfl) rfl (fun _ _ _ h => h) ⟨Or.inl ⟨by rfl, fun w hS => by obtain ⟨h0, h1, h2, h3⟩ := hS; go_simp⟩, fun _ => rfl⟩ hS ?_
                    simp only [List.setIfInBounds_toArray, List.set_cons_zero, List.set_cons_succ]
                    refine anyHF_take (i := 2) (d := 108) (v := .int .i64 (i2 : Int)) (by kernel_rfl) rfl (by kernel_rfl) (by kernel_rfl) (by kernel_rfl) rfl (fun _ _ _ h => h) ⟨Or.inl ⟨by rfl, fun w hS => by obtain ⟨h0, h1, h2, h3⟩ := hS; go_simp⟩, fun _ => rfl⟩ hS ?_
                    simp only [List.setIfInBounds_toArray, List.set_cons_zero, List.set_cons_succ]
                    refine anyHF_take (i := 3) (d := 109) (v := .pointer (some ⟨g2, i2 * 2, none⟩)) (by kernel_rfl) rfl (by kernel_rfl) (by kernel_rfl) (by kernel_rfl) rfl (fun _ _ _ h => h) ⟨Or.inl ⟨by rfl, fun w hS => by obtain ⟨h0, h1, h2, h3⟩ := hS; go_simp⟩, fun _ => rfl⟩ hS ?_
                    simp only [List.setIfInBounds_toArray, List.set_cons_zero, List.set_cons_succ]
                    refine anyHF_take (i := 4) (d := 110) (v := .agg #[.int .i64 x, .int .i64 fy]) (by kernel_rfl) rfl (by kernel_rfl) (by kernel_rfl) (by kernel_rfl) rfl (fun _ _ _ h => h) ⟨Or.inl ⟨by rfl, fun w hS => by obtain ⟨h0, h1, h2, h3⟩ := hS; go_simp⟩, fun _ => rfl⟩ hS ?_
                    simp only [List.setIfInBounds_toArray, List.set_cons_zero, List.set_cons_succ]
                    refine anyHF_take (i := 5) (d := 111) (v := .agg #[.int .i64 x, .int .i64 y]) (by kernel_rfl) rfl (by kernel_rfl) (by kernel_rfl) (by kernel_rfl) rfl (fun _ _ _ h => h) ⟨Or.inl ⟨by rfl, fun w hS => by obtain ⟨h0, h1, h2, h3⟩ := hS; go_simp⟩, fun _ => rfl⟩ hS ?_
                    simp only [List.setIfInBounds_toArray, List.set_cons_zero, List.set_cons_succ]
                    refine anyHF_take (i := 6) (d := 112) (v := .bool false) (by kernel_rfl) rfl (by kernel_rfl) (by kernel_rfl) (by kernel_rfl) rfl (fun _ _ _ h => h) ⟨Or.inl ⟨by rfl, fun w hS => by obtain ⟨h0, h1, h2, h3⟩ := hS; go_simp⟩, fun _ => rfl⟩ hS ?_
                    simp only [List.setIfInBounds_toArray, List.set_cons_zero, List.set_cons_succ]
                    refine anyHF_take (i := 7) (d := 113) (v := .bool false) (by kernel_rfl) rfl (by kernel_rfl) (by kernel_rfl) (by kernel_rfl) rfl (fun _ _ _ h => h) ⟨Or.inl ⟨by rfl, fun w hS => by obtain ⟨h0, h1, h2, h3⟩ := hS; go_simp⟩, fun _ => rfl⟩ hS ?_
                    simp only [List.setIfInBounds_toArray, List.set_cons_zero, List.set_cons_succ]
                    refine anyHF_one (i := 8) (by kernel_rfl) rfl (by kernel_rfl) (by rfl) ?_
                    gi_wp2
                    refine anyHF_done (by kernel_rfl) ?_ _
                    clear hS
                    gi_wp2
                    go_roundw
                    case rel => exact ⟨i2 + 1, by omega, by go_num, by rw [HOD.out]; rfl, (by first | exact hbz | exact hbz.drew | exact hbz.drew.drew)⟩
                    case measure => simp [intOf]; omega
              · have f3 : ¬ fx = x := fun e => f1 e.symm
                have hdq : decide (((fx, fy) : Int × Int) = (x, y) ∨ ((fx, fy) : Int × Int) = (d, y)) = false := by first | (simp; done) | (simp; omega)
                have HOD : Hid ((acc != turnF (x, y) (d, y) (m.take (i2 + 1))) = (od != false)) := by unfold Hid; rw [hodn, htn2, hdq]; cases acc <;> cases turnF (x, y) (d, y) (m.take i2) <;> rfl
                clear htn2 hdq hodn
                cases od with
                | true =>
                  gi_wp2_with fail
                  have hS : (fun U : World => U.cell? ⟨g2, i2 * 2, none⟩ = some (.int .i64 fx) ∧ U.cell? ⟨g2, i2 * 2 + 1, none⟩ = some (.int .i64 fy) ∧ U.cell? ⟨B, 0, none⟩ = some (.int .i64 x) ∧ U.cell? ⟨B, 1, none⟩ = some (.int .i64 y)) _ := ⟨m0, m1, a0, a1⟩
                  refine region_HF (S := (fun U : World => U.cell? ⟨g2, i2 * 2, none⟩ = some (.int .i64 fx) ∧ U.cell? ⟨g2, i2 * 2 + 1, none⟩ = some (.int .i64 fy) ∧ U.cell? ⟨B, 0, none⟩ = some (.int .i64 x) ∧ U.cell? ⟨B, 1, none⟩ = some (.int .i64 y))) (by kernel_rfl) ?_
                  refine anyHF_take (i := 0) (d := 106) (v := .bool true) (by kernel_rfl) rfl (by kernel_rfl) (by kernel_rfl) (by kernel_rfl) rfl (fun _ _ _ h => h) ⟨Or.inl ⟨by rfl, fun w hS => by obtain ⟨h0, h1, h2, h3⟩ := hS; go_simp⟩, fun _ => rfl⟩ hS ?_
                  simp only [List.setIfInBounds_toArray, List.set_cons_zero, List.set_cons_succ]
                  refine anyHF_take (i := 1) (d := 107) (v := .slice (some ⟨g2, 0, none⟩) n3 cap2) (by kernel_rfl) rfl (by kernel_rfl) (by kernel_rfl) (by kernel_rfl) rfl (fun _ _ _ h => h) ⟨Or.inl ⟨by rfl, fun w hS => by obtain ⟨h0, h1, h2, h3⟩ := hS; go_simp⟩, fun _ => rfl⟩ hS ?_
                  simp only [List.setIfInBounds_toArray, List.set_cons_zero, List.set_cons_succ]
                  refine anyHF_take (i := 2) (d := 108) (v := .int .i64 (i2 : Int)) (by kernel_rfl) rfl (by kernel_rfl) (by kernel_rfl) (by kernel_rfl) rfl (fun _ _ _ h => h) ⟨Or.inl ⟨by rfl, fun w hS => by obtain ⟨h0, h1, h2, h3⟩ := hS; go_simp⟩, fun _ => rfl⟩ hS ?_
                  simp only [List.setIfInBounds_toArray, List.set_cons_zero, List.set_cons_succ]
                  refine anyHF_take (i := 3) (d := 109) (v := .pointer (some ⟨g2, i2 * 2, none⟩)) (by kernel_rfl) rfl (by kernel_rfl) (by kernel_rfl) (by kernel_rfl) rfl (fun _ _ _ h => h) ⟨Or.inl ⟨by rfl, fun w hS => by obtain ⟨h0, h1, h2, h3⟩ := hS; go_simp⟩, fun _ => rfl⟩ hS ?_
                  simp only [List.setIfInBounds_toArray, List.set_cons_zero, List.set_cons_succ]
                  refine anyHF_take (i := 4) (d := 110) (v := .agg #[.int .i64 fx, .int .i64 fy]) (by kernel_rfl) rfl (by kernel_rfl) (by kernel_rfl) (by kernel_rfl) rfl (fun _ _ _ h => h) ⟨Or.inl ⟨by rfl, fun w hS => by obtain ⟨h0, h1, h2, h3⟩ := hS; go_simp⟩, fun _ => rfl⟩ hS ?_
                  simp only [List.setIfInBounds_toArray, List.set_cons_zero, List.set_cons_succ]
                  refine anyHF_take (i := 5) (d := 111) (v := .agg #[.int .i64 x, .int .i64 y]) (by kernel_rfl) rfl (by kernel_rfl) (by kernel_rfl) (by kernel_rfl) rfl (fun _ _ _ h => h) ⟨Or.inl ⟨by rfl, fun w hS => by obtain ⟨h0, h1, h2, h3⟩ := hS; go_simp⟩, fun _ => rfl⟩ hS ?_
                  simp only [List.setIfInBounds_toArray, List.set_cons_zero, List.set_cons_succ]
                  refine anyHF_take (i := 6) (d := 112) (v := .bool false) (by kernel_rfl) rfl (by kernel_rfl) (by kernel_rfl) (by kernel_rfl) rfl (fun _ _ _ h => h) ⟨Or.inl ⟨by rfl, fun w hS => by obtain ⟨h0, h1, h2, h3⟩ := hS; go_simp⟩, fun _ => rfl⟩ hS ?_
                  simp only [List.setIfInBounds_toArray, List.set_cons_zero, List.set_cons_succ]
                  refine anyHF_take (i := 7) (d := 113) (v := .bool true) (by kernel_rfl) rfl (by kernel_rfl) (by kernel_rfl) (by kernel_rfl) rfl (fun _ _ _ h => h) ⟨Or.inl ⟨by rfl, fun w hS => by obtain ⟨h0, h1, h2, h3⟩ := hS; go_simp⟩, fun _ => rfl⟩ hS ?_
                  simp only [List.setIfInBounds_toArray, List.set_cons_zero, List.set_cons_succ]
                  refine anyHF_one (i := 8) (by kernel_rfl) rfl (by kernel_rfl) (by rfl) ?_
                  gi_wp2
                  refine anyHF_done (by kernel_rfl) ?_ _
                  clear hS
                  gi_wp2
                  go_roundw
                  case rel => exact ⟨i2 + 1, by omega, by go_num, by rw [HOD.out]; rfl, (by first | exact hbz | exact hbz.drew | exact hbz.drew.drew)⟩
                  case measure => simp [intOf]; omega
                | false =>
                  gi_wp2_with fail
                  have hS : (fun U : World => U.cell? ⟨g2, i2 * 2, none⟩ = some (.int .i64 fx) ∧ U.cell? ⟨g2, i2 * 2 + 1, none⟩ = some (.int .i64 fy) ∧ U.cell? ⟨B, 0, none⟩ = some (.int .i64 x) ∧ U.cell? ⟨B, 1, none⟩ = some (.int .i64 y)) _ := ⟨m0, m1, a0, a1⟩
                  refine region_HF (S := (fun U : World => U.cell? ⟨g2, i2 * 2, none⟩ = some (.int .i64 fx) ∧ U.cell? ⟨g2, i2 * 2 + 1, none⟩ = some (.int .i64 fy) ∧ U.cell? ⟨B, 0, none⟩ = some (.int .i64 x) ∧ U.cell? ⟨B, 1, none⟩ = some (.int .i64 y))) (by kernel_rfl) ?_
                  refine anyHF_take (i := 0) (d := 106) (v := .bool false) (by kernel_rfl) rfl (by kernel_rfl) (by kernel_rfl) (by kernel_rfl) rfl (fun _ _ _ h => h) ⟨Or.inl ⟨by rfl, fun w hS => by obtain ⟨h0, h1, h2, h3⟩ := hS; go_simp⟩, fun _ => rfl⟩ hS ?_
                  simp only [List.setIfInBounds_toArray, List.set_cons_zero, List.set_cons_succ]
                  refine anyHF_take (i := 1) (d := 107) (v := .slice (some ⟨g2, 0, none⟩) n3 cap2) (by kernel_rfl) rfl (by kernel_rfl) (by kernel_rfl) (by kernel_rfl) rfl (fun _ _ _ h => h) ⟨Or.inl ⟨by rfl, fun w hS => by obtain ⟨h0, h1, h2, h3⟩ := hS; go_simp⟩, fun _ => rfl⟩ hS ?_
                  simp only [List.setIfInBounds_toArray, List.set_cons_zero, List.set_cons_succ]
                  refine anyHF_take (i := 2) (d := 108) (v := .int .i64 (i2 : Int)) (by kernel_rfl) rfl (by kernel_rfl) (by kernel_rfl) (by kernel_rfl) rfl (fun _ _ _ h => h) ⟨Or.inl ⟨by rfl, fun w hS => by obtain ⟨h0, h1, h2, h3⟩ := hS; go_simp⟩, fun _ => rfl⟩ hS ?_
                  simp only [List.setIfInBounds_toArray, List.set_cons_zero, List.set_cons_succ]
                  refine anyHF_take (i := 3) (d := 109) (v := .pointer (some ⟨g2, i2 * 2, none⟩)) (by kernel_rfl) rfl (by kernel_rfl) (by kernel_rfl) (by kernel_rfl) rfl (fun _ _ _ h => h) ⟨Or.inl ⟨by rfl, fun w hS => by obtain ⟨h0, h1, h2, h3⟩ := hS; go_simp⟩, fun _ => rfl⟩ hS ?_
                  simp only [List.setIfInBounds_toArray, List.set_cons_zero, List.set_cons_succ]
                  refine anyHF_take (i := 4) (d := 110) (v := .agg #[.int .i64 fx, .int .i64 fy]) (by kernel_rfl) rfl (by kernel_rfl) (by kernel_rfl) (by kernel_rfl) rfl (fun _ _ _ h => h) ⟨Or.inl ⟨by rfl, fun w hS => by obtain ⟨h0, h1, h2, h3⟩ := hS; go_simp⟩, fun _ => rfl⟩ hS ?_
                  simp only [List.setIfInBounds_toArray, List.set_cons_zero, List.set_cons_succ]
                  refine anyHF_take (i := 5) (d := 111) (v := .agg #[.int .i64 x, .int .i64 y]) (by kernel_rfl) rfl (by kernel_rfl) (by kernel_rfl) (by kernel_rfl) rfl (fun _ _ _ h => h) ⟨Or.inl ⟨by rfl, fun w hS => by obtain ⟨h0, h1, h2, h3⟩ := hS; go_simp⟩, fun _ => rfl⟩ hS ?_
                  simp only [List.setIfInBounds_toArray, List.set_cons_zero, List.set_cons_succ]
                  refine anyHF_take (i := 6) (d := 112) (v := .bool false) (by kernel_rfl) rfl (by kernel_rfl) (by kernel_rfl) (by kernel_rfl) rfl (fun _ _ _ h => h) ⟨Or.inl ⟨by rfl, fun w hS => by obtain ⟨h0, h1, h2, h3⟩ := hS; go_simp⟩, fun _ => rfl⟩ hS ?_
                  simp only [List.setIfInBounds_toArray, List.set_cons_zero, List.set_cons_succ]
                  refine anyHF_take (i := 7) (d := 113) (v := .bool false) (by kernel_rfl) rfl (by kernel_rfl) (by kernel_rfl) (by kernel_rfl) rfl (fun _ _ _ h => h) ⟨Or.inl ⟨by rfl, fun w hS => by obtain ⟨h0, h1, h2, h3⟩ := hS; go_simp⟩, fun _ => rfl⟩ hS ?_
                  simp only [List.setIfInBounds_toArray, List.set_cons_zero, List.set_cons_succ]
                  refine anyHF_one (i := 8) (by kernel_rfl) rfl (by kernel_rfl) (by rfl) ?_
                  gi_wp2
                  refine anyHF_done (by kernel_rfl) ?_ _
                  clear hS
                  gi_wp2
                  go_roundw
                  case rel => exact ⟨i2 + 1, by omega, by go_num, by rw [HOD.out]; rfl, (by first | exact hbz | exact hbz.drew | exact hbz.drew.drew)⟩
                  case measure => simp [intOf]; omega
            · obtain rfl : i2 = n3 := by omega
              have hdec3 : decide ((i2 : Int) < (i2 : Int)) = false := by simp
              have ht2 := HT2.out
              have hmt : m.take i2 = m := List.take_of_length_le (by rw [HN3.out]; omega)
              rw [hmt, ht2]
              clear hmt ht2
              gi_wp2
              go_roundw
              case rel => exact ⟨j + 1, rv, dv, by omega, by go_num, by rw [HTN.out], kr2.below hbz kr2.lt, kd2.below hbz kd2.lt, HRN.out, HDN.out, hbr.trans (hbz.mono hbr2), hsr.trans_ (SinceO.below hbz)⟩
              case measure => simp [intOf]; omega
      · obtain rfl : j = n2 := by omega
        have hdec : decide ((j : Int) < (j : Int)) = false := by simp
        have htk : l.take j = l := List.take_of_length_le (by rw [HN2.out]; omega)
        rw [htk] at HRv HDv
        rw [htk, HTU.out]
        have HRE : Hid ((cntC k p x y d (pre.map (·.1) ++ [(mx, my)]) : Int) = rv) := by
          have h1 := HCR.out
          have h2 := HRv.out
          have h3 := HCO.out
          unfold Hid
          rw [h1, h2, h3]
          by_cases q1 : mx = d <;> cases memB k p mx my x y <;> simp [q1]
        have HDE : Hid ((cntC k p x y (d + 1) (pre.map (·.1) ++ [(mx, my)]) : Int) = dv) := by
          have h1 := HCD.out
          have h2 := HDv.out
          have h3 := HCO.out
          unfold Hid
          rw [h1, h2, h3]
          by_cases q1 : mx = d + 1 <;> cases memB k p mx my x y <;> simp [q1]
        clear HRv HDv htk HCR HCD HCO HTU
        have HFr := HF.below (hbr.mono (by omega))
        have hbxr := hsr.blk hbx (by omega) (by simp)
        have htr := ht.below hbr (by omega)
        have hor := OwnA.since ho hsr (by omega)
        have hsz2 := hsr.1
        have hKr : KeepL w7.heap.size (w8.heap.size - w7.heap.size) X wr := ⟨hsr.keep (by omega) (by omega) (fun b e => by cases e), fun _ => HFr.hL⟩
        have hSr : SinceO w8.heap.size v.ownBlock X wr := ⟨hsr.1, fun b h1 h2 _ => hsr.2 b (by omega) h2 (by simp)⟩
        have hbw : Below (B + 1) w8 wr := hbX.trans (hbr.mono (by omega))
        cases hq : hangB k p mx my x y with
        | false =>
          have hfl : ((pre.map (·.1) ++ [(mx, my)]).filter fun z => hangB k p z.1 z.2 x y) = (pre.map (·.1)).filter fun z => hangB k p z.1 z.2 x y := by rw [List.filter_append]; simp [hq]
          have HFL := Lib.hid hfl
          clear hfl hq
          gi_wp2
          exact ⟨v.ownBlock, .inl rfl, hSr, hKr, v, htr, by rw [HPre.out, HFL.out]; exact hor, rfl, by rw [HPre.out, HRE.out]; exact kr2, by rw [HPre.out, HDE.out]; exact kd2, hbw⟩
        | true =>
          have hfl : ((pre.map (·.1) ++ [(mx, my)]).filter fun z => hangB k p z.1 z.2 x y) = ((pre.map (·.1)).filter fun z => hangB k p z.1 z.2 x y) ++ [(mx, my)] := by rw [List.filter_append]; simp [hq]
          have hfn : ((pre.map (·.1)).filter fun z => hangB k p z.1 z.2 x y).length ≤ 1000 := Nat.le_trans (List.length_filter_le _ _) (by rw [List.length_map]; omega)
          have HFL := Lib.hid hfl
          clear hfl hq
          generalize ((pre.map (·.1)).filter fun z => hangB k p z.1 z.2 x y) = fl at *
          have z0 := hbxr.cell 0
          have z1 := hbxr.cell 1
          simp only [List.getElem?_toArray, List.getElem?_cons_zero, List.getElem?_cons_succ] at z0 z1
          have cv := htr.one
          have hBb := below_one wr (.cells #[.int .i64 mx, .int .i64 my] 26)
          have HO := Lib.hid (hor.below hBb)
          have HU := Lib.hid (Blk.new wr 26 #[.int .i64 mx, .int .i64 my])
          have htb := htr.below hBb htr.lt
          have krb := kr2.below hBb kr2.lt
          have kdb := kd2.below hBb kd2.lt
          have hva := hor.own_le
          have hsb := hBb.size
          have hn1 : some (B + 1) ≠ v.ownBlock := fun e => by have := hva _ e.symm; omega
          have hn2' : some (B + 1 + 1) ≠ v.ownBlock := fun e => by have := hva _ e.symm; omega
          have hn3' : some (B + 1 + 1 + 1) ≠ v.ownBlock := fun e => by have := hva _ e.symm; omega
          gi_wp2_with (gi_at_builtin; refine wpListIn_at _ rfl _ _ rfl w8.heap.size v _ rfl HO.out wr.heap.size mx my rfl HU.out (by omega) (by omega) ?_; intro vn w3 ho2 hg2 hd2; (have hfm := World.ownsRow.form ho2 (by simp)); (obtain ⟨g3, cap3, hv2, _, _⟩ := hfm); (generalize (fl ++ [(mx, my)]).length = N at hv2); subst hv2; have hb3 := htb.grown hg2 hn1; have hb4 := krb.grown hg2 hn2'; have hb5 := kdb.grown hg2 hn3'; have c3 := hb3.one; have f3 := hb3.frozen 0)
          have hs3 := hg2.size
          have hnn : some (B + 1) ≠ (Value.slice (some ⟨g3, 0, none⟩) N cap3).ownBlock := fun e => by have := ho2.own_le _ e.symm; omega
          have hfr : FreshO v.ownBlock (Value.slice (some ⟨g3, 0, none⟩) N cap3).ownBlock X := by
            rcases hd2 with h | h
            · exact .inl h
            · exact .inr ⟨_, h, by simp; omega⟩
          have hsi : SinceO w8.heap.size v.ownBlock X (w3.setCell ⟨B + 1, 0, none⟩ (Value.slice (some ⟨g3, 0, none⟩) N cap3)) :=
            (hSr.trans_ (SinceO.below hBb)).trans_ ⟨by simpa using hs3, fun b h1 h2 h3 => (Below.heap_setCell w3 _ (Value.slice (some ⟨g3, 0, none⟩) N cap3) b (by simp; omega)).trans (hg2.block b h2 h3)⟩
          have hke : Keep w7.heap.size (w8.heap.size - w7.heap.size) X (w3.setCell ⟨B + 1, 0, none⟩ (Value.slice (some ⟨g3, 0, none⟩) N cap3)) :=
            ((hKr.1.trans (Keep.below hBb (by omega))).trans (Keep.grown hg2 (by omega) (fun r e => .inr (by have := hva r e; omega)))).trans (Keep.setCell w3 (by simp; omega) (Value.slice (some ⟨g3, 0, none⟩) N cap3))
          have hbe : Below (B + 1) w8 (w3.setCell ⟨B + 1, 0, none⟩ (Value.slice (some ⟨g3, 0, none⟩) N cap3)) := by
            exact (((hbw.trans (hBb.mono (by omega))).grown hg2 (by omega) (fun r e => by have := hva r e; omega))).setCell (by simp) _
          have hla := (HF8.below hbe).hL
          exact ⟨(Value.slice (some ⟨g3, 0, none⟩) N cap3).ownBlock, hfr, hsi, ⟨hke, fun _ => hla⟩, (Value.slice (some ⟨g3, 0, none⟩) N cap3), hb3.set_ 0 _, by rw [HPre.out, HFL.out]; exact OwnA.far ho2 hnn _, rfl, by rw [HPre.out, HRE.out]; exact hb4.far (by simp <;> omega) _, by rw [HPre.out, HDE.out]; exact hb5.far (by simp <;> omega) _, hbe⟩
  case done =>
    rintro D xs o X hD hf hxs ⟨v, ht, ho, rfl, hr, hd, hbX⟩ hKD hne
    rw [hxs] at ho hr hd
    have hwant := HCn.out
    rw [hwant.1] at hr
    rw [hwant.2] at hd
    rw [HTo.out] at ho
    have HFX := HF8.below hbX
    have hBX : Below w.heap.size w X := hB8w.trans (hbX.mono (by have := HF8.lo; omega))
    have hLeft : Left w.heap.size X [D] := ⟨by simp, fun E hE => by obtain rfl := List.mem_singleton.1 hE; exact ⟨by have := hB8w.size; omega, hKD⟩⟩
    have hrt := ho.readA
    clear ho HCn HTo hwant HEl HMe HMr HMc hxs hg eg eq hB8w HF8 hbX hKD kt kr kd
    obtain ⟨tp, tcap, rfl, hct⟩ : ∃ tp tcap, v = .slice tp (touL k p x y).length tcap ∧ True := by obtain ⟨a, b, e, _⟩ := hrt; exact ⟨a, b, e, trivial⟩
    generalize touL k p x y = tl at *
    have c0 := HFX.b0.cell 0
    have c1 := HFX.b0.cell 1
    have a0 := HFX.ba.cell 0
    have a1 := HFX.ba.cell 1
    simp only [List.getElem?_toArray, List.getElem?_cons_zero, List.getElem?_cons_succ] at c0 c1 a0 a1
    gi_wp2_with fail
    unfold wantD at hd
    generalize (x + y) % p = dg at *
    have hw5 : IntKind.i64.wrap (p - 1) = p - 1 := IntWalk.i64_in _ (by omega)
    by_cases hdg : dg = p - 1
    · by_cases hk : k = 2
      · have hdg2 : (dg == p - 1) = true := by simpa using hdg
        have hk2 : (k == 2) = true := by simpa using hk
        rw [if_pos hdg, if_pos hk] at hd
        clear hdg hk
        go_wp2_with fail
        have hS : (fun U : World => U.cell? ⟨w.heap.size, 0, none⟩ = some (.int .i64 k) ∧ U.cell? ⟨w.heap.size, 1, none⟩ = some (.int .i64 p) ∧ U.cell? ⟨B, 0, none⟩ = some (.int .i64 x) ∧ U.cell? ⟨B, 1, none⟩ = some (.int .i64 y)) _ := ⟨c0, c1, a0, a1⟩
        refine (wpIn_wide (n := 12)).1 (wpIn_mono (region_HF (Q := NoPanic _) (S := (fun U : World => U.cell? ⟨w.heap.size, 0, none⟩ = some (.int .i64 k) ∧ U.cell? ⟨w.heap.size, 1, none⟩ = some (.int .i64 p) ∧ U.cell? ⟨B, 0, none⟩ = some (.int .i64 x) ∧ U.cell? ⟨B, 1, none⟩ = some (.int .i64 y))) (by kernel_rfl) ?_) NoPanic.imp)
        refine anyHF_take (i := 0) (d := 119) (v := .agg #[.int .i64 k, .int .i64 p]) (by kernel_rfl) rfl (by kernel_rfl) (by kernel_rfl) (by kernel_rfl) rfl (fun _ _ _ h => h) ⟨Or.inl ⟨by rfl, fun w hS => by obtain ⟨h0, h1, h2, h3⟩ := hS; go_simp⟩, fun _ => rfl⟩ hS ?_
        simp only [List.setIfInBounds_toArray, List.set_cons_zero, List.set_cons_succ]
        refine anyHF_take (i := 1) (d := 120) (v := .agg #[.int .i64 x, .int .i64 y]) (by kernel_rfl) rfl (by kernel_rfl) (by kernel_rfl) (by kernel_rfl) rfl (fun _ _ _ h => h) ⟨Or.inl ⟨by rfl, fun w hS => by obtain ⟨h0, h1, h2, h3⟩ := hS; go_simp⟩, fun _ => rfl⟩ hS ?_
        simp only [List.setIfInBounds_toArray, List.set_cons_zero, List.set_cons_succ]
        refine anyHF_take (i := 3) (d := 122) (v := .pointer (some ⟨w.heap.size, 1, none⟩)) (by kernel_rfl) rfl (by kernel_rfl) (by kernel_rfl) (by kernel_rfl) rfl (fun _ _ _ h => h) ⟨Or.inl ⟨by rfl, fun w hS => by obtain ⟨h0, h1, h2, h3⟩ := hS; go_simp⟩, fun _ => rfl⟩ hS ?_
        simp only [List.setIfInBounds_toArray, List.set_cons_zero, List.set_cons_succ]
        refine anyHF_take (i := 4) (d := 123) (v := .int .i64 p) (by kernel_rfl) rfl (by kernel_rfl) (by kernel_rfl) (by kernel_rfl) rfl (fun _ _ _ h => h) ⟨Or.inl ⟨by rfl, fun w hS => by obtain ⟨h0, h1, h2, h3⟩ := hS; go_simp⟩, fun _ => rfl⟩ hS ?_
        simp only [List.setIfInBounds_toArray, List.set_cons_zero, List.set_cons_succ]
        refine anyHF_take (i := 5) (d := 124) (v := .int .i64 (p - 1)) (by kernel_rfl) rfl (by kernel_rfl) (by kernel_rfl) (by kernel_rfl) rfl (fun _ _ _ h => h) ⟨Or.inl ⟨by rfl, fun w hS => by obtain ⟨h0, h1, h2, h3⟩ := hS; go_simp⟩, fun _ => rfl⟩ hS ?_
        simp only [List.setIfInBounds_toArray, List.set_cons_zero, List.set_cons_succ]
        refine anyHF_one (i := 2) (by kernel_rfl) rfl (by kernel_rfl) (by rfl) ?_
        gi_wp2_with fail
        refine ⟨trivial, (callsIn_wide.2 (HDg.out _)).mono ?_⟩
        rintro e X1 ⟨rfl, hB1⟩
        replace hB1 := below_undrew hB1
        replace hr := hr.below hB1 hr.lt
        replace hd := hd.below hB1 hd.lt
        replace ht := ht.below hB1 ht.lt
        replace hrt := hrt.next hB1
        replace hLeft := hLeft.below hB1
        replace hBX := below_in hBX hB1
        replace HFX := HFX.next hB1
        clear hS hB1
        clear c0 c1 a0 a1
        have c0 := HFX.b0.cell 0
        have c1 := HFX.b0.cell 1
        have a0 := HFX.ba.cell 0
        have a1 := HFX.ba.cell 1
        simp only [List.getElem?_toArray, List.getElem?_cons_zero, List.getElem?_cons_succ] at c0 c1 a0 a1
        have hS : (fun U : World => U.cell? ⟨w.heap.size, 0, none⟩ = some (.int .i64 k) ∧ U.cell? ⟨w.heap.size, 1, none⟩ = some (.int .i64 p) ∧ U.cell? ⟨B, 0, none⟩ = some (.int .i64 x) ∧ U.cell? ⟨B, 1, none⟩ = some (.int .i64 y)) X1 := ⟨c0, c1, a0, a1⟩
        gi_wp2
        refine anyHF_take (i := 6) (d := 125) (v := .bool true) (by kernel_rfl) rfl (by kernel_rfl) (by kernel_rfl) (by kernel_rfl) rfl (fun _ _ _ h => h) ⟨Or.inl ⟨by rfl, fun w hS => by obtain ⟨h0, h1, h2, h3⟩ := hS; go_simp⟩, fun _ => rfl⟩ hS ?_
        simp only [List.setIfInBounds_toArray, List.set_cons_zero, List.set_cons_succ]
        refine anyHF_done (by kernel_rfl) ?_ _
        refine NoPanic.normal ?_
        clear hS
        go_wp2_with fail
        refine (HTou.out _ HFX.hL).mono ?_
        rintro e X2 ⟨⟨u, rfl, hru⟩, hB1⟩
        replace hr := hr.below hB1 hr.lt
        replace hd := hd.below hB1 hd.lt
        replace ht := ht.below hB1 ht.lt
        replace hrt := hrt.next hB1
        replace hLeft := hLeft.below hB1
        replace hBX := below_in hBX hB1
        replace HFX := HFX.next hB1
        have hru2 := hru.readA
        clear hru hB1 HTou HDg
        clear c0 c1 a0 a1
        have c0 := HFX.b0.cell 0
        have c1 := HFX.b0.cell 1
        have a0 := HFX.ba.cell 0
        have a1 := HFX.ba.cell 1
        simp only [List.getElem?_toArray, List.getElem?_cons_zero, List.getElem?_cons_succ] at c0 c1 a0 a1
        have c5 := ht.one
        have c6 := hr.one
        have c7 := hd.one
        go_wp2_with (first | (go_at_call 10; refine (num_any _ _).mono ?_; rintro e w' ⟨rfl, rfl⟩) | (go_at_call 14; refine (same_yes _ _ tl HTl.out _ hru2 hrt).mono ?_; rintro e X3 ⟨rfl, hB3⟩; have HF3 := HFX.next hB3; have hr3 := hr.below hB3 hr.lt; have hd3 := hd.below hB3 hd.lt; have c6 := hr3.one; have c7 := hd3.one) | (go_at_call 11; refine (works_any _ HF3.hL).mono ?_; rintro e wf ⟨rfl, hBf⟩; have crx := (HF3.br.below hBf HF3.br.lt).one; have frx := (HF3.br.below hBf HF3.br.lt).frozen 0))
        have h3 : Blk (wf.setCell ⟨w.heap.size + 1, 0, none⟩ (.bool true)) (w.heap.size + 1) 4 #[.bool true] := (HF3.br.below hBf HF3.br.lt).set_ 0 _
        have hBz := below_in (below_in hBX hB3) hBf
        refine leaves_blks w [D] _ (((hLeft.below hB3).below hBf).set_ _ _) (hBz.setCell (by simp) _) fun W' hB' hk => ?_
        have cr := (hk _ _ _ h3).one
        exact ⟨.bool true, by simp [results, Tryz.results6, go_sem, cr], rfl, hB'⟩
      · have hdg2 : (dg == p - 1) = true := by simpa using hdg
        have hk2 : (k == 2) = false := by simpa using hk
        rw [if_pos hdg, if_neg hk] at hd
        clear hdg hk
        go_wp2_with fail
        have hS : (fun U : World => U.cell? ⟨w.heap.size, 0, none⟩ = some (.int .i64 k) ∧ U.cell? ⟨w.heap.size, 1, none⟩ = some (.int .i64 p) ∧ U.cell? ⟨B, 0, none⟩ = some (.int .i64 x) ∧ U.cell? ⟨B, 1, none⟩ = some (.int .i64 y)) _ := ⟨c0, c1, a0, a1⟩
        refine (wpIn_wide (n := 12)).1 (wpIn_mono (region_HF (Q := NoPanic _) (S := (fun U : World => U.cell? ⟨w.heap.size, 0, none⟩ = some (.int .i64 k) ∧ U.cell? ⟨w.heap.size, 1, none⟩ = some (.int .i64 p) ∧ U.cell? ⟨B, 0, none⟩ = some (.int .i64 x) ∧ U.cell? ⟨B, 1, none⟩ = some (.int .i64 y))) (by kernel_rfl) ?_) NoPanic.imp)
        refine anyHF_take (i := 0) (d := 119) (v := .agg #[.int .i64 k, .int .i64 p]) (by kernel_rfl) rfl (by kernel_rfl) (by kernel_rfl) (by kernel_rfl) rfl (fun _ _ _ h => h) ⟨Or.inl ⟨by rfl, fun w hS => by obtain ⟨h0, h1, h2, h3⟩ := hS; go_simp⟩, fun _ => rfl⟩ hS ?_
        simp only [List.setIfInBounds_toArray, List.set_cons_zero, List.set_cons_succ]
        refine anyHF_take (i := 1) (d := 120) (v := .agg #[.int .i64 x, .int .i64 y]) (by kernel_rfl) rfl (by kernel_rfl) (by kernel_rfl) (by kernel_rfl) rfl (fun _ _ _ h => h) ⟨Or.inl ⟨by rfl, fun w hS => by obtain ⟨h0, h1, h2, h3⟩ := hS; go_simp⟩, fun _ => rfl⟩ hS ?_
        simp only [List.setIfInBounds_toArray, List.set_cons_zero, List.set_cons_succ]
        refine anyHF_take (i := 3) (d := 122) (v := .pointer (some ⟨w.heap.size, 1, none⟩)) (by kernel_rfl) rfl (by kernel_rfl) (by kernel_rfl) (by kernel_rfl) rfl (fun _ _ _ h => h) ⟨Or.inl ⟨by rfl, fun w hS => by obtain ⟨h0, h1, h2, h3⟩ := hS; go_simp⟩, fun _ => rfl⟩ hS ?_
        simp only [List.setIfInBounds_toArray, List.set_cons_zero, List.set_cons_succ]
        refine anyHF_take (i := 4) (d := 123) (v := .int .i64 p) (by kernel_rfl) rfl (by kernel_rfl) (by kernel_rfl) (by kernel_rfl) rfl (fun _ _ _ h => h) ⟨Or.inl ⟨by rfl, fun w hS => by obtain ⟨h0, h1, h2, h3⟩ := hS; go_simp⟩, fun _ => rfl⟩ hS ?_
        simp only [List.setIfInBounds_toArray, List.set_cons_zero, List.set_cons_succ]
        refine anyHF_take (i := 5) (d := 124) (v := .int .i64 (p - 1)) (by kernel_rfl) rfl (by kernel_rfl) (by kernel_rfl) (by kernel_rfl) rfl (fun _ _ _ h => h) ⟨Or.inl ⟨by rfl, fun w hS => by obtain ⟨h0, h1, h2, h3⟩ := hS; go_simp⟩, fun _ => rfl⟩ hS ?_
        simp only [List.setIfInBounds_toArray, List.set_cons_zero, List.set_cons_succ]
        refine anyHF_one (i := 2) (by kernel_rfl) rfl (by kernel_rfl) (by rfl) ?_
        gi_wp2_with fail
        refine ⟨trivial, (callsIn_wide.2 (HDg.out _)).mono ?_⟩
        rintro e X1 ⟨rfl, hB1⟩
        replace hB1 := below_undrew hB1
        replace hr := hr.below hB1 hr.lt
        replace hd := hd.below hB1 hd.lt
        replace ht := ht.below hB1 ht.lt
        replace hrt := hrt.next hB1
        replace hLeft := hLeft.below hB1
        replace hBX := below_in hBX hB1
        replace HFX := HFX.next hB1
        clear hS hB1
        clear c0 c1 a0 a1
        have c0 := HFX.b0.cell 0
        have c1 := HFX.b0.cell 1
        have a0 := HFX.ba.cell 0
        have a1 := HFX.ba.cell 1
        simp only [List.getElem?_toArray, List.getElem?_cons_zero, List.getElem?_cons_succ] at c0 c1 a0 a1
        have hS : (fun U : World => U.cell? ⟨w.heap.size, 0, none⟩ = some (.int .i64 k) ∧ U.cell? ⟨w.heap.size, 1, none⟩ = some (.int .i64 p) ∧ U.cell? ⟨B, 0, none⟩ = some (.int .i64 x) ∧ U.cell? ⟨B, 1, none⟩ = some (.int .i64 y)) X1 := ⟨c0, c1, a0, a1⟩
        gi_wp2
        refine anyHF_take (i := 6) (d := 125) (v := .bool true) (by kernel_rfl) rfl (by kernel_rfl) (by kernel_rfl) (by kernel_rfl) rfl (fun _ _ _ h => h) ⟨Or.inl ⟨by rfl, fun w hS => by obtain ⟨h0, h1, h2, h3⟩ := hS; go_simp⟩, fun _ => rfl⟩ hS ?_
        simp only [List.setIfInBounds_toArray, List.set_cons_zero, List.set_cons_succ]
        refine anyHF_done (by kernel_rfl) ?_ _
        refine NoPanic.normal ?_
        clear hS
        go_wp2_with fail
        refine (HTou.out _ HFX.hL).mono ?_
        rintro e X2 ⟨⟨u, rfl, hru⟩, hB1⟩
        replace hr := hr.below hB1 hr.lt
        replace hd := hd.below hB1 hd.lt
        replace ht := ht.below hB1 ht.lt
        replace hrt := hrt.next hB1
        replace hLeft := hLeft.below hB1
        replace hBX := below_in hBX hB1
        replace HFX := HFX.next hB1
        have hru2 := hru.readA
        clear hru hB1 HTou HDg
        clear c0 c1 a0 a1
        have c0 := HFX.b0.cell 0
        have c1 := HFX.b0.cell 1
        have a0 := HFX.ba.cell 0
        have a1 := HFX.ba.cell 1
        simp only [List.getElem?_toArray, List.getElem?_cons_zero, List.getElem?_cons_succ] at c0 c1 a0 a1
        have c5 := ht.one
        have c6 := hr.one
        have c7 := hd.one
        go_wp2_with (first | (go_at_call 10; refine (num_any _ _).mono ?_; rintro e w' ⟨rfl, rfl⟩) | (go_at_call 14; refine (same_yes _ _ tl HTl.out _ hru2 hrt).mono ?_; rintro e X3 ⟨rfl, hB3⟩; have HF3 := HFX.next hB3; have hr3 := hr.below hB3 hr.lt; have hd3 := hd.below hB3 hd.lt; have c6 := hr3.one; have c7 := hd3.one) | (go_at_call 11; refine (works_any _ HF3.hL).mono ?_; rintro e wf ⟨rfl, hBf⟩; have crx := (HF3.br.below hBf HF3.br.lt).one; have frx := (HF3.br.below hBf HF3.br.lt).frozen 0))
        have h3 : Blk (wf.setCell ⟨w.heap.size + 1, 0, none⟩ (.bool true)) (w.heap.size + 1) 4 #[.bool true] := (HF3.br.below hBf HF3.br.lt).set_ 0 _
        have hBz := below_in (below_in hBX hB3) hBf
        refine leaves_blks w [D] _ (((hLeft.below hB3).below hBf).set_ _ _) (hBz.setCell (by simp) _) fun W' hB' hk => ?_
        have cr := (hk _ _ _ h3).one
        exact ⟨.bool true, by simp [results, Tryz.results6, go_sem, cr], rfl, hB'⟩
    · have hdg2 : (dg == p - 1) = false := by simpa using hdg
      rw [if_neg hdg] at hd
      clear hdg
      go_wp2_with fail
      have hS : (fun U : World => U.cell? ⟨w.heap.size, 0, none⟩ = some (.int .i64 k) ∧ U.cell? ⟨w.heap.size, 1, none⟩ = some (.int .i64 p) ∧ U.cell? ⟨B, 0, none⟩ = some (.int .i64 x) ∧ U.cell? ⟨B, 1, none⟩ = some (.int .i64 y)) _ := ⟨c0, c1, a0, a1⟩
      refine (wpIn_wide (n := 12)).1 (wpIn_mono (region_HF (Q := NoPanic _) (S := (fun U : World => U.cell? ⟨w.heap.size, 0, none⟩ = some (.int .i64 k) ∧ U.cell? ⟨w.heap.size, 1, none⟩ = some (.int .i64 p) ∧ U.cell? ⟨B, 0, none⟩ = some (.int .i64 x) ∧ U.cell? ⟨B, 1, none⟩ = some (.int .i64 y))) (by kernel_rfl) ?_) NoPanic.imp)
      refine anyHF_take (i := 0) (d := 119) (v := .agg #[.int .i64 k, .int .i64 p]) (by kernel_rfl) rfl (by kernel_rfl) (by kernel_rfl) (by kernel_rfl) rfl (fun _ _ _ h => h) ⟨Or.inl ⟨by rfl, fun w hS => by obtain ⟨h0, h1, h2, h3⟩ := hS; go_simp⟩, fun _ => rfl⟩ hS ?_
      simp only [List.setIfInBounds_toArray, List.set_cons_zero, List.set_cons_succ]
      refine anyHF_take (i := 1) (d := 120) (v := .agg #[.int .i64 x, .int .i64 y]) (by kernel_rfl) rfl (by kernel_rfl) (by kernel_rfl) (by kernel_rfl) rfl (fun _ _ _ h => h) ⟨Or.inl ⟨by rfl, fun w hS => by obtain ⟨h0, h1, h2, h3⟩ := hS; go_simp⟩, fun _ => rfl⟩ hS ?_
      simp only [List.setIfInBounds_toArray, List.set_cons_zero, List.set_cons_succ]
      refine anyHF_take (i := 3) (d := 122) (v := .pointer (some ⟨w.heap.size, 1, none⟩)) (by kernel_rfl) rfl (by kernel_rfl) (by kernel_rfl) (by kernel_rfl) rfl (fun _ _ _ h => h) ⟨Or.inl ⟨by rfl, fun w hS => by obtain ⟨h0, h1, h2, h3⟩ := hS; go_simp⟩, fun _ => rfl⟩ hS ?_
      simp only [List.setIfInBounds_toArray, List.set_cons_zero, List.set_cons_succ]
      refine anyHF_take (i := 4) (d := 123) (v := .int .i64 p) (by kernel_rfl) rfl (by kernel_rfl) (by kernel_rfl) (by kernel_rfl) rfl (fun _ _ _ h => h) ⟨Or.inl ⟨by rfl, fun w hS => by obtain ⟨h0, h1, h2, h3⟩ := hS; go_simp⟩, fun _ => rfl⟩ hS ?_
      simp only [List.setIfInBounds_toArray, List.set_cons_zero, List.set_cons_succ]
      refine anyHF_take (i := 5) (d := 124) (v := .int .i64 (p - 1)) (by kernel_rfl) rfl (by kernel_rfl) (by kernel_rfl) (by kernel_rfl) rfl (fun _ _ _ h => h) ⟨Or.inl ⟨by rfl, fun w hS => by obtain ⟨h0, h1, h2, h3⟩ := hS; go_simp⟩, fun _ => rfl⟩ hS ?_
      simp only [List.setIfInBounds_toArray, List.set_cons_zero, List.set_cons_succ]
      refine anyHF_one (i := 2) (by kernel_rfl) rfl (by kernel_rfl) (by rfl) ?_
      gi_wp2_with fail
      refine ⟨trivial, (callsIn_wide.2 (HDg.out _)).mono ?_⟩
      rintro e X1 ⟨rfl, hB1⟩
      replace hB1 := below_undrew hB1
      replace hr := hr.below hB1 hr.lt
      replace hd := hd.below hB1 hd.lt
      replace ht := ht.below hB1 ht.lt
      replace hrt := hrt.next hB1
      replace hLeft := hLeft.below hB1
      replace hBX := below_in hBX hB1
      replace HFX := HFX.next hB1
      clear hS hB1
      clear c0 c1 a0 a1
      have c0 := HFX.b0.cell 0
      have c1 := HFX.b0.cell 1
      have a0 := HFX.ba.cell 0
      have a1 := HFX.ba.cell 1
      simp only [List.getElem?_toArray, List.getElem?_cons_zero, List.getElem?_cons_succ] at c0 c1 a0 a1
      have hS : (fun U : World => U.cell? ⟨w.heap.size, 0, none⟩ = some (.int .i64 k) ∧ U.cell? ⟨w.heap.size, 1, none⟩ = some (.int .i64 p) ∧ U.cell? ⟨B, 0, none⟩ = some (.int .i64 x) ∧ U.cell? ⟨B, 1, none⟩ = some (.int .i64 y)) X1 := ⟨c0, c1, a0, a1⟩
      gi_wp2
      refine anyHF_take (i := 6) (d := 125) (v := .bool false) (by kernel_rfl) rfl (by kernel_rfl) (by kernel_rfl) (by kernel_rfl) rfl (fun _ _ _ h => h) ⟨Or.inl ⟨by rfl, fun w hS => by obtain ⟨h0, h1, h2, h3⟩ := hS; go_simp⟩, fun _ => rfl⟩ hS ?_
      simp only [List.setIfInBounds_toArray, List.set_cons_zero, List.set_cons_succ]
      refine anyHF_done (by kernel_rfl) ?_ _
      refine NoPanic.normal ?_
      clear hS
      go_wp2_with fail
      refine (HTou.out _ HFX.hL).mono ?_
      rintro e X2 ⟨⟨u, rfl, hru⟩, hB1⟩
      replace hr := hr.below hB1 hr.lt
      replace hd := hd.below hB1 hd.lt
      replace ht := ht.below hB1 ht.lt
      replace hrt := hrt.next hB1
      replace hLeft := hLeft.below hB1
      replace hBX := below_in hBX hB1
      replace HFX := HFX.next hB1
      have hru2 := hru.readA
      clear hru hB1 HTou HDg
      clear c0 c1 a0 a1
      have c0 := HFX.b0.cell 0
      have c1 := HFX.b0.cell 1
      have a0 := HFX.ba.cell 0
      have a1 := HFX.ba.cell 1
      simp only [List.getElem?_toArray, List.getElem?_cons_zero, List.getElem?_cons_succ] at c0 c1 a0 a1
      have c5 := ht.one
      have c6 := hr.one
      have c7 := hd.one
      go_wp2_with (first | (go_at_call 10; refine (num_any _ _).mono ?_; rintro e w' ⟨rfl, rfl⟩) | (go_at_call 14; refine (same_yes _ _ tl HTl.out _ hru2 hrt).mono ?_; rintro e X3 ⟨rfl, hB3⟩; have HF3 := HFX.next hB3; have hr3 := hr.below hB3 hr.lt; have hd3 := hd.below hB3 hd.lt; have c6 := hr3.one; have c7 := hd3.one) | (go_at_call 11; refine (works_any _ HF3.hL).mono ?_; rintro e wf ⟨rfl, hBf⟩; have crx := (HF3.br.below hBf HF3.br.lt).one; have frx := (HF3.br.below hBf HF3.br.lt).frozen 0))
      have h3 : Blk (wf.setCell ⟨w.heap.size + 1, 0, none⟩ (.bool true)) (w.heap.size + 1) 4 #[.bool true] := (HF3.br.below hBf HF3.br.lt).set_ 0 _
      have hBz := below_in (below_in hBX hB3) hBf
      refine leaves_blks w [D] _ (((hLeft.below hB3).below hBf).set_ _ _) (hBz.setCell (by simp) _) fun W' hB' hk => ?_
      have cr := (hk _ _ _ h3).one
      exact ⟨.bool true, by simp [results, Tryz.results6, go_sem, cr], rfl, hB'⟩
theorem walk (k p n : Int) (w : World) (hL : Laid w) (wk : -9223372036854775808 ≤ k ∧ k ≤ 9223372036854775807) (wp : -9223372036854775808 ≤ p ∧ p ≤ 9223372036854775807) (wn : -9223372036854775808 ≤ n ∧ n ≤ 9223372036854775807) :
    Calls Tryz.prog 6 #[.agg #[.int .i64 k, .int .i64 p], .int .i64 n] w fun e w' => e = .returned (.bool true) ∧ Below w.heap.size w w' := by
  by_cases hR : RightC k p
  · by_cases hp : 13 < p
    · exact walk_big k p n w hL hR hp
    · by_cases hn : n < 0
      · exact walk_low k p n w hL hR hp hn
      · by_cases hh : (p - shortN k) * (p - 1) ≤ n
        · exact walk_high k p n w hL hR hp hn hh
        · exact main k p n w hL hR hp hn (by omega)
  · exact walk_no k p n w hL hR

set_option maxRecDepth 100000 in
theorem lifted (os : Os) (started : os.Started) (H : Type) (enc : TypeId × Value → H) :
    ReturnsInHanded {} Tryz.checked os 6 .any (fun w args => (Rows.setsHoldsSpec.pre enc Tryz.prog Tryz.f6 [] false w args ∧ laidMetH Tryz.prog laidL w) ∧ sizedMet enc Tryz.prog Tryz.f6 (OpenSpec.ofChange Rows.setsHoldsSpec) false w args)
      (Rows.setsHoldsSpec.post enc Tryz.prog Tryz.f6 false true false false) := by
  refine returnsInHanded_of_change_and (C := Tryz.checked) (X := fun w _ => laidMetH Tryz.prog laidL w) (fun _ _ _ hh h => h.of_heap hh) own started (by kernel_rfl) Tryz.func6
    (ChangeSpec.witness_shaped (enc := enc) (C := Tryz.checked) (os := os) (X := fun w _ => laidMetH Tryz.prog laidL w) false (World.doorLaid Tryz.prog 200 os) #[.agg #[.int .i64 0, .int .i64 0], .int .i64 0] 8 rfl (World.shaped_of_RefB (by kernel_rfl) (by kernel_rfl)) (by kernel_rfl) (by kernel_rfl) (by kernel_rfl) (door_met os _)) ?_
  intro W base args ds gs before hval0 hW _ _ hL0 _
  have hL := laid_of hL0
  have hval : ∀ (j : Nat) t v, Tryz.f6.params[j]? = some t → args[j]? = some v → Value.okWide Tryz.prog W .any base t v := hval0
  have hW' := hW
  obtain ⟨p, q, hA0, hV, rfl, hfz, hnd⟩ := hW
  have hA : DataW.TrodAll enc Tryz.prog W 0 (fun _ => true) true Tryz.f6.params.toList args.toList ds p := hA0
  rw [Tryz.params6] at hA hval
  obtain ⟨v0, vs0, d0, ds0, p0, q0, hargs, rfl, rfl, h0, r0⟩ := trodAll_cons hA
  obtain ⟨v1, vs1, d1, ds1, p1, q1, rfl, rfl, rfl, h1, r1⟩ := trodAll_cons r0
  obtain ⟨rfl, rfl, rfl⟩ := trodAll_nil r1
  obtain rfl : args = #[v0, v1] := by cases args; simp_all
  obtain ⟨rfl, rfl⟩ := trodVars_none hV
  have k0 := h0
  have lt0 : ∀ x ∈ p0, x.block < W.heap.size := by obtain ⟨m, hm⟩ := k0; exact DataW.trod_lt m _ _ _ hm
  obtain ⟨x0, y0, rfl, w0⟩ := open_code (hval 0 24 v0 rfl rfl) h0
  obtain ⟨a1, rfl, rfl, rfl, w1⟩ := open_int Tryz.underlying3 (hval 1 3 v1 rfl rfl) h1
  clear hA0 hval0
  simp only [List.append_nil] at hW'
  refine (walk x0 y0 a1 W hL (wf_i64 w0.1) (wf_i64 w0.2) (wf_i64 w1)).mono fun e W' ⟨he, bel⟩ => ?_
  subst he
  exact ⟨_, rfl, _, _, _, [], _, [], hW', trodAll_mk1 (shut_bool Tryz.underlying4 _), (trodAll_cons_mk (Below.trod laidOut (by kernel_rfl) (of_decide_eq_true (by kernel_rfl)) k0 bel lt0) (trodAll_cons_mk (shut_int Tryz.underlying3 w1) trodAll_mk0)), rfl, bel.frame _, fun h => by cases h⟩

theorem over : Rows.setsHoldsRow.holds Tryz.pinned (OpenSpec.ofChange Rows.setsHoldsSpec) :=
  OpenClaim.holds_of_wide 6 Tryz.f6 rfl rfl rfl rfl rfl rfl rfl ⟨rfl, rfl, rfl, rfl, rfl⟩ rfl rfl rfl rfl rfl (by kernel_rfl) Tryz.func6 (by kernel_rfl)
    (of_decide_eq_true (by kernel_rfl)) (by unfold Func.isWrapper; first | (rw [if_pos (by decide +kernel)]; kernel_rfl) | (rw [if_neg (by decide +kernel)]; exact ⟨rfl, rfl⟩))
    (fun os started H enc _ => lifted os started H enc)

/-- The tied card: the row, and the tie that is given. -/
theorem setsHolds_holds : Rows.SetsHoldsCardSaid :=
  Claim7.holds_tied_plain_at .later [] [.data, .data] true _ false over (fun _ h => by cases h) (by kernel_rfl) (fun _ h => by cases h) setsHolds_row_tie rfl ⟨rfl, rfl⟩ (by kernel_rfl) rfl
    (fun f fn hf hfn => by
      obtain rfl : f = 6 := Option.some.inj ((show Tryz.prog.funcNamed "palisade/palisadelaw05.SetsHolds" = some 6 by kernel_rfl).symm.trans hf) |>.symm
      obtain rfl : fn = Tryz.f6 := (Option.some.inj (Tryz.func6.symm.trans hfn)).symm
      exact ⟨by kernel_rfl, fun j t ht => by
        rw [Tryz.params6] at ht
        have hm : t ∈ [24, 3] := by simpa using Array.mem_of_getElem? ht
        have hall : ([24, 3].all fun u => !Tryz.prog.wantsStandIn u) = true := by kernel_rfl
        exact (show Tryz.prog.wantsStandIn t = false by simpa using List.all_eq_true.1 hall t hm)⟩)
    (by kernel_rfl)
end Go.Proofs.YteglikljmkielaaGreatDoor.setsHolds
