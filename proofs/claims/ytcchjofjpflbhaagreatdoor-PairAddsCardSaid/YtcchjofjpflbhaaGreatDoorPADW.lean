/- -/
import Derived.Test.YtcchjofjpflbhaaGreatDoorPAG20m8
import Derived.Test.YtcchjofjpflbhaaGreatDoorPAX
import Derived.Test.YtcchjofjpflbhaaGreatDoorCards
import Derived.Test.YtcchjofjpflbhaaGreatDoorTie
import Derived.SevenTiedAt
namespace Go.Proofs.YtcchjofjpflbhaaGreatDoor.pairAdds
open Go.ChangeShapes Go.WideShapes Go.ChangeAt Go.RowKit Go.Shelf
set_option linter.unusedVariables false
set_option linter.unusedSimpArgs false
attribute [local go_sem] Oper.semAt_some

theorem q_pos {P Q : Nat} (h : 3 ≤ (P : Int)) (hQ : P = Q + 1) : 0 < Q := by omega
open Go.Proofs.YtcchjofjpflbhaaGreatDoor.E Go.Proofs.YtcchjofjpflbhaaGreatDoor.C Go.Proofs.YtcchjofjpflbhaaGreatDoor.T Go.Proofs.YtcchjofjpflbhaaGreatDoor.Ch in
set_option maxRecDepth 100000 in
set_option maxHeartbeats 4000000 in
theorem n1 (p : Int) (v : Value) (a : List (List (List UInt8))) (v2 : Value) (b : List (List (List UInt8))) (x0 x1 : Int) (w : World) (hL : Laid w) (wp : -9223372036854775808 ≤ p ∧ p ≤ 9223372036854775807) (hC : Cols w.heap.size w v a) (hD : Cols w.heap.size w v2 b) (wx : -9223372036854775808 ≤ x0 ∧ x0 ≤ 9223372036854775807) (wy : -9223372036854775808 ≤ x1 ∧ x1 ≤ 9223372036854775807) (hf0 : ¬ Few6 a) :
    Calls Tryz.prog 8 #[.int .i64 p, v, v2, .agg #[.int .i64 x0, .int .i64 x1]] w fun e w' => e = .returned (.bool true) ∧ Below w.heap.size w w' := by
  obtain ⟨A, cap, rfl, _, _⟩ := id hC
  obtain ⟨A', cap', rfl, _, _⟩ := id hD
  obtain ⟨w0, hw0⟩ : ∃ x, w.alloc (.cells #[.int .i64 x0, .int .i64 x1] 22) = x := ⟨_, rfl⟩
  obtain ⟨g0, hg0⟩ : ∃ g, w.heap.size = g := ⟨_, rfl⟩
  have b0 : Blk w0 g0 22 #[.int .i64 x0, .int .i64 x1] := by rw [← hw0, ← hg0]; exact Blk.new w _ _
  have hB0 : Below w.heap.size w w0 := by rw [← hw0]; exact below_one w _
  have HW0 := Lib.hid hw0
  have HG0 := Lib.hid hg0
  have HLW := Lib.hid (fun (U : World) (hU : Below w.heap.size w U) => hL.next hU)
  have HF0 := Lib.hid (fun (U : World) (hU : Below w0.heap.size w0 U) => few6_any _ a U (hC.below (below_in hB0 hU)) false (by simp [hf0]))
  have HSS : Hid (∀ U, Below w0.heap.size w0 U → (fun U : World => U.cell? ⟨g0, 0, none⟩ = some (.int .i64 x0) ∧ U.cell? ⟨g0, 1, none⟩ = some (.int .i64 x1)) U) := fun U hU => by
      have h0 := b0.below hU b0.lt
      have hx := below_in hB0 hU
      exact ⟨h0.cell 0, h0.cell 1⟩
  clear hf0 hC hD b0
  clear hw0 hg0 hL
  generalize a.length = na at *
  generalize b.length = nb at *
  go_enter Tryz.func8, Tryz.ntmps8
  go_wp2_with fail
  rw [HW0.out]
  (try rw [HG0.out])
  have hB : Below w0.heap.size w0 w0.drew := (Below.refl _ _).drew
  have hS : (fun U : World => U.cell? ⟨g0, 0, none⟩ = some (.int .i64 x0) ∧ U.cell? ⟨g0, 1, none⟩ = some (.int .i64 x1)) w0.drew := HSS.out _ hB
  refine (wpIn_wide (n := 12)).1 (wpIn_mono (region_HF (Q := NoPanic _) (S := (fun U : World => U.cell? ⟨g0, 0, none⟩ = some (.int .i64 x0) ∧ U.cell? ⟨g0, 1, none⟩ = some (.int .i64 x1))) (by kernel_rfl) ?_) NoPanic.imp)
  refine anyHF_take (i := 0) (d := 15) (v := .slice A na cap) (by kernel_rfl) rfl (by kernel_rfl) (by kernel_rfl) (by kernel_rfl) rfl (fun _ _ _ h => h) ⟨Or.inl ⟨by rfl, fun w hS => by obtain ⟨h0, h1⟩ := hS; go_simp⟩, fun _ => rfl⟩ hS ?_
  simp only [List.setIfInBounds_toArray, List.set_cons_zero, List.set_cons_succ]
  refine anyHF_one (i := 1) (by kernel_rfl) rfl (by kernel_rfl) (by rfl) ?_
  gi_wp2_with fail
  refine ⟨trivial, (callsIn_wide.2 (HF0.out _ hB)).mono ?_⟩
  rintro e wn ⟨rfl, rfl⟩
  gi_wp2
  try (refine ⟨hS, ?_⟩)
  refine anyHF_take (i := 2) (d := 17) (v := .bool true) (by kernel_rfl) rfl (by kernel_rfl) (by kernel_rfl) (by kernel_rfl) rfl (fun _ _ _ h => h) ⟨Or.inl ⟨by rfl, fun w hS => by obtain ⟨h0, h1⟩ := hS; go_simp⟩, fun _ => rfl⟩ hS ?_
  simp only [List.setIfInBounds_toArray, List.set_cons_zero, List.set_cons_succ]
  refine anyHF_take (i := 3) (d := 18) (v := .bool true) (by kernel_rfl) rfl (by kernel_rfl) (by kernel_rfl) (by kernel_rfl) rfl (fun _ _ _ h => h) ⟨Or.inl ⟨by rfl, fun w hS => by obtain ⟨h0, h1⟩ := hS; go_simp⟩, fun _ => rfl⟩ hS ?_
  simp only [List.setIfInBounds_toArray, List.set_cons_zero, List.set_cons_succ]
  refine anyHF_take (i := 4) (d := 19) (v := undef) (by kernel_rfl) rfl (by kernel_rfl) (by kernel_rfl) (by kernel_rfl) rfl (fun _ _ _ h => h) ⟨Or.inr ⟨by rfl, rfl⟩, fun _ => rfl⟩ hS ?_
  simp only [List.setIfInBounds_toArray, List.set_cons_zero, List.set_cons_succ]
  refine anyHF_skip (i := 5) (d := 20) (by kernel_rfl) rfl (by rfl) rfl wide_fn hS ?_
  simp only [List.setIfInBounds_toArray, List.set_cons_zero, List.set_cons_succ]
  refine anyHF_take (i := 6) (d := 21) (v := undef) (by kernel_rfl) rfl (by kernel_rfl) (by kernel_rfl) (by kernel_rfl) rfl (fun _ _ _ h => h) ⟨Or.inr ⟨by rfl, rfl⟩, fun _ => rfl⟩ hS ?_
  simp only [List.setIfInBounds_toArray, List.set_cons_zero, List.set_cons_succ]
  refine anyHF_take (i := 7) (d := 22) (v := .bool true) (by kernel_rfl) rfl (by kernel_rfl) (by kernel_rfl) (by kernel_rfl) rfl (fun _ _ _ h => h) ⟨Or.inl ⟨by rfl, fun w hS => by obtain ⟨h0, h1⟩ := hS; go_simp⟩, fun _ => rfl⟩ hS ?_
  simp only [List.setIfInBounds_toArray, List.set_cons_zero, List.set_cons_succ]
  refine anyHF_take (i := 8) (d := 23) (v := .bool true) (by kernel_rfl) rfl (by kernel_rfl) (by kernel_rfl) (by kernel_rfl) rfl (fun _ _ _ h => h) ⟨Or.inl ⟨by rfl, fun w hS => by obtain ⟨h0, h1⟩ := hS; go_simp⟩, fun _ => rfl⟩ hS ?_
  simp only [List.setIfInBounds_toArray, List.set_cons_zero, List.set_cons_succ]
  refine anyHF_take (i := 9) (d := 24) (v := undef) (by kernel_rfl) rfl (by kernel_rfl) (by kernel_rfl) (by kernel_rfl) rfl (fun _ _ _ h => h) ⟨Or.inr ⟨by rfl, rfl⟩, fun _ => rfl⟩ hS ?_
  simp only [List.setIfInBounds_toArray, List.set_cons_zero, List.set_cons_succ]
  refine anyHF_take (i := 10) (d := 25) (v := undef) (by kernel_rfl) rfl (by kernel_rfl) (by kernel_rfl) (by kernel_rfl) rfl (fun _ _ _ h => h) ⟨Or.inr ⟨by rfl, rfl⟩, fun _ => rfl⟩ hS ?_
  simp only [List.setIfInBounds_toArray, List.set_cons_zero, List.set_cons_succ]
  refine anyHF_skip (i := 11) (d := 26) (by kernel_rfl) rfl (by rfl) rfl wide_fn hS ?_
  simp only [List.setIfInBounds_toArray, List.set_cons_zero, List.set_cons_succ]
  refine anyHF_take (i := 12) (d := 27) (v := undef) (by kernel_rfl) rfl (by kernel_rfl) (by kernel_rfl) (by kernel_rfl) rfl (fun _ _ _ h => h) ⟨Or.inr ⟨by rfl, rfl⟩, fun _ => rfl⟩ hS ?_
  simp only [List.setIfInBounds_toArray, List.set_cons_zero, List.set_cons_succ]
  refine anyHF_take (i := 13) (d := 28) (v := .bool true) (by kernel_rfl) rfl (by kernel_rfl) (by kernel_rfl) (by kernel_rfl) rfl (fun _ _ _ h => h) ⟨Or.inl ⟨by rfl, fun w hS => by obtain ⟨h0, h1⟩ := hS; go_simp⟩, fun _ => rfl⟩ hS ?_
  simp only [List.setIfInBounds_toArray, List.set_cons_zero, List.set_cons_succ]
  refine anyHF_take (i := 14) (d := 29) (v := .bool true) (by kernel_rfl) rfl (by kernel_rfl) (by kernel_rfl) (by kernel_rfl) rfl (fun _ _ _ h => h) ⟨Or.inl ⟨by rfl, fun w hS => by obtain ⟨h0, h1⟩ := hS; go_simp⟩, fun _ => rfl⟩ hS ?_
  simp only [List.setIfInBounds_toArray, List.set_cons_zero, List.set_cons_succ]
  refine anyHF_take (i := 15) (d := 30) (v := undef) (by kernel_rfl) rfl (by kernel_rfl) (by kernel_rfl) (by kernel_rfl) rfl (fun _ _ _ h => h) ⟨Or.inr ⟨by rfl, rfl⟩, fun _ => rfl⟩ hS ?_
  simp only [List.setIfInBounds_toArray, List.set_cons_zero, List.set_cons_succ]
  refine anyHF_take (i := 16) (d := 31) (v := undef) (by kernel_rfl) rfl (by kernel_rfl) (by kernel_rfl) (by kernel_rfl) rfl (fun _ _ _ h => h) ⟨Or.inr ⟨by rfl, rfl⟩, fun _ => rfl⟩ hS ?_
  simp only [List.setIfInBounds_toArray, List.set_cons_zero, List.set_cons_succ]
  refine anyHF_skip (i := 17) (d := 32) (by kernel_rfl) rfl (by rfl) rfl wide_fn hS ?_
  simp only [List.setIfInBounds_toArray, List.set_cons_zero, List.set_cons_succ]
  refine anyHF_take (i := 18) (d := 33) (v := undef) (by kernel_rfl) rfl (by kernel_rfl) (by kernel_rfl) (by kernel_rfl) rfl (fun _ _ _ h => h) ⟨Or.inr ⟨by rfl, rfl⟩, fun _ => rfl⟩ hS ?_
  simp only [List.setIfInBounds_toArray, List.set_cons_zero, List.set_cons_succ]
  refine anyHF_take (i := 19) (d := 34) (v := .bool true) (by kernel_rfl) rfl (by kernel_rfl) (by kernel_rfl) (by kernel_rfl) rfl (fun _ _ _ h => h) ⟨Or.inl ⟨by rfl, fun w hS => by obtain ⟨h0, h1⟩ := hS; go_simp⟩, fun _ => rfl⟩ hS ?_
  simp only [List.setIfInBounds_toArray, List.set_cons_zero, List.set_cons_succ]
  refine anyHF_take (i := 20) (d := 35) (v := .bool true) (by kernel_rfl) rfl (by kernel_rfl) (by kernel_rfl) (by kernel_rfl) rfl (fun _ _ _ h => h) ⟨Or.inl ⟨by rfl, fun w hS => by obtain ⟨h0, h1⟩ := hS; go_simp⟩, fun _ => rfl⟩ hS ?_
  simp only [List.setIfInBounds_toArray, List.set_cons_zero, List.set_cons_succ]
  refine anyHF_take (i := 21) (d := 36) (v := undef) (by kernel_rfl) rfl (by kernel_rfl) (by kernel_rfl) (by kernel_rfl) rfl (fun _ _ _ h => h) ⟨Or.inr ⟨by rfl, rfl⟩, fun _ => rfl⟩ hS ?_
  simp only [List.setIfInBounds_toArray, List.set_cons_zero, List.set_cons_succ]
  refine anyHF_take (i := 22) (d := 37) (v := undef) (by kernel_rfl) rfl (by kernel_rfl) (by kernel_rfl) (by kernel_rfl) rfl (fun _ _ _ h => h) ⟨Or.inr ⟨by rfl, rfl⟩, fun _ => rfl⟩ hS ?_
  simp only [List.setIfInBounds_toArray, List.set_cons_zero, List.set_cons_succ]
  refine anyHF_take (i := 23) (d := 38) (v := undef) (by kernel_rfl) rfl (by kernel_rfl) (by kernel_rfl) (by kernel_rfl) rfl (fun _ _ _ h => h) ⟨Or.inr ⟨by rfl, rfl⟩, fun _ => rfl⟩ hS ?_
  simp only [List.setIfInBounds_toArray, List.set_cons_zero, List.set_cons_succ]
  refine anyHF_take (i := 24) (d := 39) (v := undef) (by kernel_rfl) rfl (by kernel_rfl) (by kernel_rfl) (by kernel_rfl) rfl (fun _ _ _ h => h) ⟨Or.inr ⟨by rfl, rfl⟩, fun _ => rfl⟩ hS ?_
  simp only [List.setIfInBounds_toArray, List.set_cons_zero, List.set_cons_succ]
  refine anyHF_take (i := 25) (d := 40) (v := undef) (by kernel_rfl) rfl (by kernel_rfl) (by kernel_rfl) (by kernel_rfl) rfl (fun _ _ _ h => h) ⟨Or.inr ⟨by rfl, rfl⟩, fun _ => rfl⟩ hS ?_
  simp only [List.setIfInBounds_toArray, List.set_cons_zero, List.set_cons_succ]
  refine anyHF_take (i := 26) (d := 41) (v := .bool true) (by kernel_rfl) rfl (by kernel_rfl) (by kernel_rfl) (by kernel_rfl) rfl (fun _ _ _ h => h) ⟨Or.inl ⟨by rfl, fun w hS => by obtain ⟨h0, h1⟩ := hS; go_simp⟩, fun _ => rfl⟩ hS ?_
  simp only [List.setIfInBounds_toArray, List.set_cons_zero, List.set_cons_succ]
  refine anyHF_take (i := 27) (d := 42) (v := .bool true) (by kernel_rfl) rfl (by kernel_rfl) (by kernel_rfl) (by kernel_rfl) rfl (fun _ _ _ h => h) ⟨Or.inl ⟨by rfl, fun w hS => by obtain ⟨h0, h1⟩ := hS; go_simp⟩, fun _ => rfl⟩ hS ?_
  simp only [List.setIfInBounds_toArray, List.set_cons_zero, List.set_cons_succ]
  refine anyHF_take (i := 28) (d := 43) (v := undef) (by kernel_rfl) rfl (by kernel_rfl) (by kernel_rfl) (by kernel_rfl) rfl (fun _ _ _ h => h) ⟨Or.inr ⟨by rfl, rfl⟩, fun _ => rfl⟩ hS ?_
  simp only [List.setIfInBounds_toArray, List.set_cons_zero, List.set_cons_succ]
  refine anyHF_take (i := 29) (d := 44) (v := undef) (by kernel_rfl) rfl (by kernel_rfl) (by kernel_rfl) (by kernel_rfl) rfl (fun _ _ _ h => h) ⟨Or.inr ⟨by rfl, rfl⟩, fun _ => rfl⟩ hS ?_
  simp only [List.setIfInBounds_toArray, List.set_cons_zero, List.set_cons_succ]
  refine anyHF_take (i := 30) (d := 45) (v := undef) (by kernel_rfl) rfl (by kernel_rfl) (by kernel_rfl) (by kernel_rfl) rfl (fun _ _ _ h => h) ⟨Or.inr ⟨by rfl, rfl⟩, fun _ => rfl⟩ hS ?_
  simp only [List.setIfInBounds_toArray, List.set_cons_zero, List.set_cons_succ]
  refine anyHF_take (i := 31) (d := 46) (v := undef) (by kernel_rfl) rfl (by kernel_rfl) (by kernel_rfl) (by kernel_rfl) rfl (fun _ _ _ h => h) ⟨Or.inr ⟨by rfl, rfl⟩, fun _ => rfl⟩ hS ?_
  simp only [List.setIfInBounds_toArray, List.set_cons_zero, List.set_cons_succ]
  refine anyHF_take (i := 32) (d := 47) (v := undef) (by kernel_rfl) rfl (by kernel_rfl) (by kernel_rfl) (by kernel_rfl) rfl (fun _ _ _ h => h) ⟨Or.inr ⟨by rfl, rfl⟩, fun _ => rfl⟩ hS ?_
  simp only [List.setIfInBounds_toArray, List.set_cons_zero, List.set_cons_succ]
  refine anyHF_take (i := 33) (d := 48) (v := .bool true) (by kernel_rfl) rfl (by kernel_rfl) (by kernel_rfl) (by kernel_rfl) rfl (fun _ _ _ h => h) ⟨Or.inl ⟨by rfl, fun w hS => by obtain ⟨h0, h1⟩ := hS; go_simp⟩, fun _ => rfl⟩ hS ?_
  simp only [List.setIfInBounds_toArray, List.set_cons_zero, List.set_cons_succ]
  refine anyHF_take (i := 34) (d := 49) (v := .bool true) (by kernel_rfl) rfl (by kernel_rfl) (by kernel_rfl) (by kernel_rfl) rfl (fun _ _ _ h => h) ⟨Or.inl ⟨by rfl, fun w hS => by obtain ⟨h0, h1⟩ := hS; go_simp⟩, fun _ => rfl⟩ hS ?_
  simp only [List.setIfInBounds_toArray, List.set_cons_zero, List.set_cons_succ]
  refine anyHF_take (i := 35) (d := 50) (v := undef) (by kernel_rfl) rfl (by kernel_rfl) (by kernel_rfl) (by kernel_rfl) rfl (fun _ _ _ h => h) ⟨Or.inr ⟨by rfl, rfl⟩, fun _ => rfl⟩ hS ?_
  simp only [List.setIfInBounds_toArray, List.set_cons_zero, List.set_cons_succ]
  refine anyHF_take (i := 36) (d := 51) (v := undef) (by kernel_rfl) rfl (by kernel_rfl) (by kernel_rfl) (by kernel_rfl) rfl (fun _ _ _ h => h) ⟨Or.inr ⟨by rfl, rfl⟩, fun _ => rfl⟩ hS ?_
  simp only [List.setIfInBounds_toArray, List.set_cons_zero, List.set_cons_succ]
  refine anyHF_take (i := 37) (d := 52) (v := undef) (by kernel_rfl) rfl (by kernel_rfl) (by kernel_rfl) (by kernel_rfl) rfl (fun _ _ _ h => h) ⟨Or.inr ⟨by rfl, rfl⟩, fun _ => rfl⟩ hS ?_
  simp only [List.setIfInBounds_toArray, List.set_cons_zero, List.set_cons_succ]
  refine anyHF_take (i := 38) (d := 53) (v := undef) (by kernel_rfl) rfl (by kernel_rfl) (by kernel_rfl) (by kernel_rfl) rfl (fun _ _ _ h => h) ⟨Or.inr ⟨by rfl, rfl⟩, fun _ => rfl⟩ hS ?_
  simp only [List.setIfInBounds_toArray, List.set_cons_zero, List.set_cons_succ]
  refine anyHF_take (i := 39) (d := 54) (v := undef) (by kernel_rfl) rfl (by kernel_rfl) (by kernel_rfl) (by kernel_rfl) rfl (fun _ _ _ h => h) ⟨Or.inr ⟨by rfl, rfl⟩, fun _ => rfl⟩ hS ?_
  simp only [List.setIfInBounds_toArray, List.set_cons_zero, List.set_cons_succ]
  refine anyHF_take (i := 40) (d := 55) (v := undef) (by kernel_rfl) rfl (by kernel_rfl) (by kernel_rfl) (by kernel_rfl) rfl (fun _ _ _ h => h) ⟨Or.inr ⟨by rfl, rfl⟩, fun _ => rfl⟩ hS ?_
  simp only [List.setIfInBounds_toArray, List.set_cons_zero, List.set_cons_succ]
  refine anyHF_take (i := 41) (d := 56) (v := undef) (by kernel_rfl) rfl (by kernel_rfl) (by kernel_rfl) (by kernel_rfl) rfl (fun _ _ _ h => h) ⟨Or.inr ⟨by rfl, rfl⟩, fun _ => rfl⟩ hS ?_
  simp only [List.setIfInBounds_toArray, List.set_cons_zero, List.set_cons_succ]
  refine anyHF_take (i := 42) (d := 57) (v := undef) (by kernel_rfl) rfl (by kernel_rfl) (by kernel_rfl) (by kernel_rfl) rfl (fun _ _ _ h => h) ⟨Or.inr ⟨by rfl, rfl⟩, fun _ => rfl⟩ hS ?_
  simp only [List.setIfInBounds_toArray, List.set_cons_zero, List.set_cons_succ]
  refine anyHF_take (i := 43) (d := 58) (v := undef) (by kernel_rfl) rfl (by kernel_rfl) (by kernel_rfl) (by kernel_rfl) rfl (fun _ _ _ h => h) ⟨Or.inr ⟨by rfl, rfl⟩, fun _ => rfl⟩ hS ?_
  simp only [List.setIfInBounds_toArray, List.set_cons_zero, List.set_cons_succ]
  refine anyHF_take (i := 44) (d := 59) (v := undef) (by kernel_rfl) rfl (by kernel_rfl) (by kernel_rfl) (by kernel_rfl) rfl (fun _ _ _ h => h) ⟨Or.inr ⟨by rfl, rfl⟩, fun _ => rfl⟩ hS ?_
  simp only [List.setIfInBounds_toArray, List.set_cons_zero, List.set_cons_succ]
  refine anyHF_take (i := 45) (d := 60) (v := undef) (by kernel_rfl) rfl (by kernel_rfl) (by kernel_rfl) (by kernel_rfl) rfl (fun _ _ _ h => h) ⟨Or.inr ⟨by rfl, rfl⟩, fun _ => rfl⟩ hS ?_
  simp only [List.setIfInBounds_toArray, List.set_cons_zero, List.set_cons_succ]
  refine anyHF_take (i := 46) (d := 61) (v := undef) (by kernel_rfl) rfl (by kernel_rfl) (by kernel_rfl) (by kernel_rfl) rfl (fun _ _ _ h => h) ⟨Or.inr ⟨by rfl, rfl⟩, fun _ => rfl⟩ hS ?_
  simp only [List.setIfInBounds_toArray, List.set_cons_zero, List.set_cons_succ]
  refine anyHF_take (i := 47) (d := 62) (v := undef) (by kernel_rfl) rfl (by kernel_rfl) (by kernel_rfl) (by kernel_rfl) rfl (fun _ _ _ h => h) ⟨Or.inr ⟨by rfl, rfl⟩, fun _ => rfl⟩ hS ?_
  simp only [List.setIfInBounds_toArray, List.set_cons_zero, List.set_cons_succ]
  refine anyHF_take (i := 48) (d := 63) (v := .bool true) (by kernel_rfl) rfl (by kernel_rfl) (by kernel_rfl) (by kernel_rfl) rfl (fun _ _ _ h => h) ⟨Or.inl ⟨by rfl, fun w hS => by obtain ⟨h0, h1⟩ := hS; go_simp⟩, fun _ => rfl⟩ hS ?_
  simp only [List.setIfInBounds_toArray, List.set_cons_zero, List.set_cons_succ]
  refine anyHF_take (i := 49) (d := 64) (v := .bool true) (by kernel_rfl) rfl (by kernel_rfl) (by kernel_rfl) (by kernel_rfl) rfl (fun _ _ _ h => h) ⟨Or.inl ⟨by rfl, fun w hS => by obtain ⟨h0, h1⟩ := hS; go_simp⟩, fun _ => rfl⟩ hS ?_
  simp only [List.setIfInBounds_toArray, List.set_cons_zero, List.set_cons_succ]
  refine anyHF_take (i := 50) (d := 65) (v := undef) (by kernel_rfl) rfl (by kernel_rfl) (by kernel_rfl) (by kernel_rfl) rfl (fun _ _ _ h => h) ⟨Or.inr ⟨by rfl, rfl⟩, fun _ => rfl⟩ hS ?_
  simp only [List.setIfInBounds_toArray, List.set_cons_zero, List.set_cons_succ]
  refine anyHF_take (i := 51) (d := 66) (v := undef) (by kernel_rfl) rfl (by kernel_rfl) (by kernel_rfl) (by kernel_rfl) rfl (fun _ _ _ h => h) ⟨Or.inr ⟨by rfl, rfl⟩, fun _ => rfl⟩ hS ?_
  simp only [List.setIfInBounds_toArray, List.set_cons_zero, List.set_cons_succ]
  refine anyHF_take (i := 52) (d := 67) (v := undef) (by kernel_rfl) rfl (by kernel_rfl) (by kernel_rfl) (by kernel_rfl) rfl (fun _ _ _ h => h) ⟨Or.inr ⟨by rfl, rfl⟩, fun _ => rfl⟩ hS ?_
  simp only [List.setIfInBounds_toArray, List.set_cons_zero, List.set_cons_succ]
  refine anyHF_take (i := 53) (d := 68) (v := undef) (by kernel_rfl) rfl (by kernel_rfl) (by kernel_rfl) (by kernel_rfl) rfl (fun _ _ _ h => h) ⟨Or.inr ⟨by rfl, rfl⟩, fun _ => rfl⟩ hS ?_
  simp only [List.setIfInBounds_toArray, List.set_cons_zero, List.set_cons_succ]
  refine anyHF_take (i := 54) (d := 69) (v := undef) (by kernel_rfl) rfl (by kernel_rfl) (by kernel_rfl) (by kernel_rfl) rfl (fun _ _ _ h => h) ⟨Or.inr ⟨by rfl, rfl⟩, fun _ => rfl⟩ hS ?_
  simp only [List.setIfInBounds_toArray, List.set_cons_zero, List.set_cons_succ]
  refine anyHF_skip (i := 55) (d := 70) (by kernel_rfl) rfl (by rfl) rfl wide_fn hS ?_
  simp only [List.setIfInBounds_toArray, List.set_cons_zero, List.set_cons_succ]
  refine anyHF_take (i := 56) (d := 71) (v := undef) (by kernel_rfl) rfl (by kernel_rfl) (by kernel_rfl) (by kernel_rfl) rfl (fun _ _ _ h => h) ⟨Or.inr ⟨by rfl, rfl⟩, fun _ => rfl⟩ hS ?_
  simp only [List.setIfInBounds_toArray, List.set_cons_zero, List.set_cons_succ]
  refine anyHF_take (i := 57) (d := 72) (v := .bool true) (by kernel_rfl) rfl (by kernel_rfl) (by kernel_rfl) (by kernel_rfl) rfl (fun _ _ _ h => h) ⟨Or.inl ⟨by rfl, fun w hS => by obtain ⟨h0, h1⟩ := hS; go_simp⟩, fun _ => rfl⟩ hS ?_
  simp only [List.setIfInBounds_toArray, List.set_cons_zero, List.set_cons_succ]
  refine anyHF_done (by kernel_rfl) ?_ _
  refine NoPanic.normal ?_
  clear hS
  go_wp2_with fail
  refine (works12_any _ (HLW.out _ (below_in hB0 hB))).mono ?_
  rintro e w1 ⟨rfl, hB1⟩
  go_wp2
  go_ret
  exact ⟨rfl, below_in (below_in hB0 hB) hB1⟩

open Go.Proofs.YtcchjofjpflbhaaGreatDoor.E Go.Proofs.YtcchjofjpflbhaaGreatDoor.C Go.Proofs.YtcchjofjpflbhaaGreatDoor.T Go.Proofs.YtcchjofjpflbhaaGreatDoor.Ch in
set_option maxRecDepth 100000 in
set_option maxHeartbeats 4000000 in
theorem n2 (p : Int) (v : Value) (a : List (List (List UInt8))) (v2 : Value) (b : List (List (List UInt8))) (x0 x1 : Int) (w : World) (hL : Laid w) (wp : -9223372036854775808 ≤ p ∧ p ≤ 9223372036854775807) (hC : Cols w.heap.size w v a) (hD : Cols w.heap.size w v2 b) (wx : -9223372036854775808 ≤ x0 ∧ x0 ≤ 9223372036854775807) (wy : -9223372036854775808 ≤ x1 ∧ x1 ≤ 9223372036854775807) (hf0 : Few6 a) (hf1 : ¬ Few6 b) :
    Calls Tryz.prog 8 #[.int .i64 p, v, v2, .agg #[.int .i64 x0, .int .i64 x1]] w fun e w' => e = .returned (.bool true) ∧ Below w.heap.size w w' := by
  obtain ⟨A, cap, rfl, _, _⟩ := id hC
  obtain ⟨A', cap', rfl, _, _⟩ := id hD
  obtain ⟨w0, hw0⟩ : ∃ x, w.alloc (.cells #[.int .i64 x0, .int .i64 x1] 22) = x := ⟨_, rfl⟩
  obtain ⟨g0, hg0⟩ : ∃ g, w.heap.size = g := ⟨_, rfl⟩
  have b0 : Blk w0 g0 22 #[.int .i64 x0, .int .i64 x1] := by rw [← hw0, ← hg0]; exact Blk.new w _ _
  have hB0 : Below w.heap.size w w0 := by rw [← hw0]; exact below_one w _
  have HW0 := Lib.hid hw0
  have HG0 := Lib.hid hg0
  have HLW := Lib.hid (fun (U : World) (hU : Below w.heap.size w U) => hL.next hU)
  have HF0 := Lib.hid (fun (U : World) (hU : Below w0.heap.size w0 U) => few6_any _ a U (hC.below (below_in hB0 hU)) true (by simp [hf0]))
  have HF1 := Lib.hid (fun (U : World) (hU : Below w0.heap.size w0 U) => few6_any _ b U (hD.below (below_in hB0 hU)) false (by simp [hf1]))
  have HSS : Hid (∀ U, Below w0.heap.size w0 U → (fun U : World => U.cell? ⟨g0, 0, none⟩ = some (.int .i64 x0) ∧ U.cell? ⟨g0, 1, none⟩ = some (.int .i64 x1)) U) := fun U hU => by
      have h0 := b0.below hU b0.lt
      have hx := below_in hB0 hU
      exact ⟨h0.cell 0, h0.cell 1⟩
  clear hf0 hf1 hC hD b0
  clear hw0 hg0 hL
  generalize a.length = na at *
  generalize b.length = nb at *
  go_enter Tryz.func8, Tryz.ntmps8
  go_wp2_with fail
  rw [HW0.out]
  (try rw [HG0.out])
  have hB : Below w0.heap.size w0 w0.drew := (Below.refl _ _).drew
  have hS : (fun U : World => U.cell? ⟨g0, 0, none⟩ = some (.int .i64 x0) ∧ U.cell? ⟨g0, 1, none⟩ = some (.int .i64 x1)) w0.drew := HSS.out _ hB
  refine (wpIn_wide (n := 12)).1 (wpIn_mono (region_HF (Q := NoPanic _) (S := (fun U : World => U.cell? ⟨g0, 0, none⟩ = some (.int .i64 x0) ∧ U.cell? ⟨g0, 1, none⟩ = some (.int .i64 x1))) (by kernel_rfl) ?_) NoPanic.imp)
  refine anyHF_take (i := 0) (d := 15) (v := .slice A na cap) (by kernel_rfl) rfl (by kernel_rfl) (by kernel_rfl) (by kernel_rfl) rfl (fun _ _ _ h => h) ⟨Or.inl ⟨by rfl, fun w hS => by obtain ⟨h0, h1⟩ := hS; go_simp⟩, fun _ => rfl⟩ hS ?_
  simp only [List.setIfInBounds_toArray, List.set_cons_zero, List.set_cons_succ]
  refine anyHF_one (i := 1) (by kernel_rfl) rfl (by kernel_rfl) (by rfl) ?_
  gi_wp2_with fail
  refine ⟨trivial, (callsIn_wide.2 (HF0.out _ hB)).mono ?_⟩
  rintro e wn ⟨rfl, rfl⟩
  gi_wp2
  try (refine ⟨hS, ?_⟩)
  refine anyHF_take (i := 2) (d := 17) (v := .bool false) (by kernel_rfl) rfl (by kernel_rfl) (by kernel_rfl) (by kernel_rfl) rfl (fun _ _ _ h => h) ⟨Or.inl ⟨by rfl, fun w hS => by obtain ⟨h0, h1⟩ := hS; go_simp⟩, fun _ => rfl⟩ hS ?_
  simp only [List.setIfInBounds_toArray, List.set_cons_zero, List.set_cons_succ]
  refine anyHF_take (i := 3) (d := 18) (v := .bool false) (by kernel_rfl) rfl (by kernel_rfl) (by kernel_rfl) (by kernel_rfl) rfl (fun _ _ _ h => h) ⟨Or.inl ⟨by rfl, fun w hS => by obtain ⟨h0, h1⟩ := hS; go_simp⟩, fun _ => rfl⟩ hS ?_
  simp only [List.setIfInBounds_toArray, List.set_cons_zero, List.set_cons_succ]
  refine anyHF_take (i := 4) (d := 19) (v := .slice A' nb cap') (by kernel_rfl) rfl (by kernel_rfl) (by kernel_rfl) (by kernel_rfl) rfl (fun _ _ _ h => h) ⟨Or.inl ⟨by rfl, fun w hS => by obtain ⟨h0, h1⟩ := hS; go_simp⟩, fun _ => rfl⟩ hS ?_
  simp only [List.setIfInBounds_toArray, List.set_cons_zero, List.set_cons_succ]
  refine anyHF_one (i := 5) (by kernel_rfl) rfl (by kernel_rfl) (by rfl) ?_
  gi_wp2_with fail
  refine ⟨trivial, (callsIn_wide.2 (HF1.out _ hB)).mono ?_⟩
  rintro e wn ⟨rfl, rfl⟩
  gi_wp2
  try (refine ⟨hS, ?_⟩)
  refine anyHF_take (i := 6) (d := 21) (v := .bool true) (by kernel_rfl) rfl (by kernel_rfl) (by kernel_rfl) (by kernel_rfl) rfl (fun _ _ _ h => h) ⟨Or.inl ⟨by rfl, fun w hS => by obtain ⟨h0, h1⟩ := hS; go_simp⟩, fun _ => rfl⟩ hS ?_
  simp only [List.setIfInBounds_toArray, List.set_cons_zero, List.set_cons_succ]
  refine anyHF_take (i := 7) (d := 22) (v := .bool true) (by kernel_rfl) rfl (by kernel_rfl) (by kernel_rfl) (by kernel_rfl) rfl (fun _ _ _ h => h) ⟨Or.inl ⟨by rfl, fun w hS => by obtain ⟨h0, h1⟩ := hS; go_simp⟩, fun _ => rfl⟩ hS ?_
  simp only [List.setIfInBounds_toArray, List.set_cons_zero, List.set_cons_succ]
  refine anyHF_take (i := 8) (d := 23) (v := .bool true) (by kernel_rfl) rfl (by kernel_rfl) (by kernel_rfl) (by kernel_rfl) rfl (fun _ _ _ h => h) ⟨Or.inl ⟨by rfl, fun w hS => by obtain ⟨h0, h1⟩ := hS; go_simp⟩, fun _ => rfl⟩ hS ?_
  simp only [List.setIfInBounds_toArray, List.set_cons_zero, List.set_cons_succ]
  refine anyHF_take (i := 9) (d := 24) (v := undef) (by kernel_rfl) rfl (by kernel_rfl) (by kernel_rfl) (by kernel_rfl) rfl (fun _ _ _ h => h) ⟨Or.inr ⟨by rfl, rfl⟩, fun _ => rfl⟩ hS ?_
  simp only [List.setIfInBounds_toArray, List.set_cons_zero, List.set_cons_succ]
  refine anyHF_take (i := 10) (d := 25) (v := undef) (by kernel_rfl) rfl (by kernel_rfl) (by kernel_rfl) (by kernel_rfl) rfl (fun _ _ _ h => h) ⟨Or.inr ⟨by rfl, rfl⟩, fun _ => rfl⟩ hS ?_
  simp only [List.setIfInBounds_toArray, List.set_cons_zero, List.set_cons_succ]
  refine anyHF_skip (i := 11) (d := 26) (by kernel_rfl) rfl (by rfl) rfl wide_fn hS ?_
  simp only [List.setIfInBounds_toArray, List.set_cons_zero, List.set_cons_succ]
  refine anyHF_take (i := 12) (d := 27) (v := undef) (by kernel_rfl) rfl (by kernel_rfl) (by kernel_rfl) (by kernel_rfl) rfl (fun _ _ _ h => h) ⟨Or.inr ⟨by rfl, rfl⟩, fun _ => rfl⟩ hS ?_
  simp only [List.setIfInBounds_toArray, List.set_cons_zero, List.set_cons_succ]
  refine anyHF_take (i := 13) (d := 28) (v := .bool true) (by kernel_rfl) rfl (by kernel_rfl) (by kernel_rfl) (by kernel_rfl) rfl (fun _ _ _ h => h) ⟨Or.inl ⟨by rfl, fun w hS => by obtain ⟨h0, h1⟩ := hS; go_simp⟩, fun _ => rfl⟩ hS ?_
  simp only [List.setIfInBounds_toArray, List.set_cons_zero, List.set_cons_succ]
  refine anyHF_take (i := 14) (d := 29) (v := .bool true) (by kernel_rfl) rfl (by kernel_rfl) (by kernel_rfl) (by kernel_rfl) rfl (fun _ _ _ h => h) ⟨Or.inl ⟨by rfl, fun w hS => by obtain ⟨h0, h1⟩ := hS; go_simp⟩, fun _ => rfl⟩ hS ?_
  simp only [List.setIfInBounds_toArray, List.set_cons_zero, List.set_cons_succ]
  refine anyHF_take (i := 15) (d := 30) (v := undef) (by kernel_rfl) rfl (by kernel_rfl) (by kernel_rfl) (by kernel_rfl) rfl (fun _ _ _ h => h) ⟨Or.inr ⟨by rfl, rfl⟩, fun _ => rfl⟩ hS ?_
  simp only [List.setIfInBounds_toArray, List.set_cons_zero, List.set_cons_succ]
  refine anyHF_take (i := 16) (d := 31) (v := undef) (by kernel_rfl) rfl (by kernel_rfl) (by kernel_rfl) (by kernel_rfl) rfl (fun _ _ _ h => h) ⟨Or.inr ⟨by rfl, rfl⟩, fun _ => rfl⟩ hS ?_
  simp only [List.setIfInBounds_toArray, List.set_cons_zero, List.set_cons_succ]
  refine anyHF_skip (i := 17) (d := 32) (by kernel_rfl) rfl (by rfl) rfl wide_fn hS ?_
  simp only [List.setIfInBounds_toArray, List.set_cons_zero, List.set_cons_succ]
  refine anyHF_take (i := 18) (d := 33) (v := undef) (by kernel_rfl) rfl (by kernel_rfl) (by kernel_rfl) (by kernel_rfl) rfl (fun _ _ _ h => h) ⟨Or.inr ⟨by rfl, rfl⟩, fun _ => rfl⟩ hS ?_
  simp only [List.setIfInBounds_toArray, List.set_cons_zero, List.set_cons_succ]
  refine anyHF_take (i := 19) (d := 34) (v := .bool true) (by kernel_rfl) rfl (by kernel_rfl) (by kernel_rfl) (by kernel_rfl) rfl (fun _ _ _ h => h) ⟨Or.inl ⟨by rfl, fun w hS => by obtain ⟨h0, h1⟩ := hS; go_simp⟩, fun _ => rfl⟩ hS ?_
  simp only [List.setIfInBounds_toArray, List.set_cons_zero, List.set_cons_succ]
  refine anyHF_take (i := 20) (d := 35) (v := .bool true) (by kernel_rfl) rfl (by kernel_rfl) (by kernel_rfl) (by kernel_rfl) rfl (fun _ _ _ h => h) ⟨Or.inl ⟨by rfl, fun w hS => by obtain ⟨h0, h1⟩ := hS; go_simp⟩, fun _ => rfl⟩ hS ?_
  simp only [List.setIfInBounds_toArray, List.set_cons_zero, List.set_cons_succ]
  refine anyHF_take (i := 21) (d := 36) (v := undef) (by kernel_rfl) rfl (by kernel_rfl) (by kernel_rfl) (by kernel_rfl) rfl (fun _ _ _ h => h) ⟨Or.inr ⟨by rfl, rfl⟩, fun _ => rfl⟩ hS ?_
  simp only [List.setIfInBounds_toArray, List.set_cons_zero, List.set_cons_succ]
  refine anyHF_take (i := 22) (d := 37) (v := undef) (by kernel_rfl) rfl (by kernel_rfl) (by kernel_rfl) (by kernel_rfl) rfl (fun _ _ _ h => h) ⟨Or.inr ⟨by rfl, rfl⟩, fun _ => rfl⟩ hS ?_
  simp only [List.setIfInBounds_toArray, List.set_cons_zero, List.set_cons_succ]
  refine anyHF_take (i := 23) (d := 38) (v := undef) (by kernel_rfl) rfl (by kernel_rfl) (by kernel_rfl) (by kernel_rfl) rfl (fun _ _ _ h => h) ⟨Or.inr ⟨by rfl, rfl⟩, fun _ => rfl⟩ hS ?_
  simp only [List.setIfInBounds_toArray, List.set_cons_zero, List.set_cons_succ]
  refine anyHF_take (i := 24) (d := 39) (v := undef) (by kernel_rfl) rfl (by kernel_rfl) (by kernel_rfl) (by kernel_rfl) rfl (fun _ _ _ h => h) ⟨Or.inr ⟨by rfl, rfl⟩, fun _ => rfl⟩ hS ?_
  simp only [List.setIfInBounds_toArray, List.set_cons_zero, List.set_cons_succ]
  refine anyHF_take (i := 25) (d := 40) (v := undef) (by kernel_rfl) rfl (by kernel_rfl) (by kernel_rfl) (by kernel_rfl) rfl (fun _ _ _ h => h) ⟨Or.inr ⟨by rfl, rfl⟩, fun _ => rfl⟩ hS ?_
  simp only [List.setIfInBounds_toArray, List.set_cons_zero, List.set_cons_succ]
  refine anyHF_take (i := 26) (d := 41) (v := .bool true) (by kernel_rfl) rfl (by kernel_rfl) (by kernel_rfl) (by kernel_rfl) rfl (fun _ _ _ h => h) ⟨Or.inl ⟨by rfl, fun w hS => by obtain ⟨h0, h1⟩ := hS; go_simp⟩, fun _ => rfl⟩ hS ?_
  simp only [List.setIfInBounds_toArray, List.set_cons_zero, List.set_cons_succ]
  refine anyHF_take (i := 27) (d := 42) (v := .bool true) (by kernel_rfl) rfl (by kernel_rfl) (by kernel_rfl) (by kernel_rfl) rfl (fun _ _ _ h => h) ⟨Or.inl ⟨by rfl, fun w hS => by obtain ⟨h0, h1⟩ := hS; go_simp⟩, fun _ => rfl⟩ hS ?_
  simp only [List.setIfInBounds_toArray, List.set_cons_zero, List.set_cons_succ]
  refine anyHF_take (i := 28) (d := 43) (v := undef) (by kernel_rfl) rfl (by kernel_rfl) (by kernel_rfl) (by kernel_rfl) rfl (fun _ _ _ h => h) ⟨Or.inr ⟨by rfl, rfl⟩, fun _ => rfl⟩ hS ?_
  simp only [List.setIfInBounds_toArray, List.set_cons_zero, List.set_cons_succ]
  refine anyHF_take (i := 29) (d := 44) (v := undef) (by kernel_rfl) rfl (by kernel_rfl) (by kernel_rfl) (by kernel_rfl) rfl (fun _ _ _ h => h) ⟨Or.inr ⟨by rfl, rfl⟩, fun _ => rfl⟩ hS ?_
  simp only [List.setIfInBounds_toArray, List.set_cons_zero, List.set_cons_succ]
  refine anyHF_take (i := 30) (d := 45) (v := undef) (by kernel_rfl) rfl (by kernel_rfl) (by kernel_rfl) (by kernel_rfl) rfl (fun _ _ _ h => h) ⟨Or.inr ⟨by rfl, rfl⟩, fun _ => rfl⟩ hS ?_
  simp only [List.setIfInBounds_toArray, List.set_cons_zero, List.set_cons_succ]
  refine anyHF_take (i := 31) (d := 46) (v := undef) (by kernel_rfl) rfl (by kernel_rfl) (by kernel_rfl) (by kernel_rfl) rfl (fun _ _ _ h => h) ⟨Or.inr ⟨by rfl, rfl⟩, fun _ => rfl⟩ hS ?_
  simp only [List.setIfInBounds_toArray, List.set_cons_zero, List.set_cons_succ]
  refine anyHF_take (i := 32) (d := 47) (v := undef) (by kernel_rfl) rfl (by kernel_rfl) (by kernel_rfl) (by kernel_rfl) rfl (fun _ _ _ h => h) ⟨Or.inr ⟨by rfl, rfl⟩, fun _ => rfl⟩ hS ?_
  simp only [List.setIfInBounds_toArray, List.set_cons_zero, List.set_cons_succ]
  refine anyHF_take (i := 33) (d := 48) (v := .bool true) (by kernel_rfl) rfl (by kernel_rfl) (by kernel_rfl) (by kernel_rfl) rfl (fun _ _ _ h => h) ⟨Or.inl ⟨by rfl, fun w hS => by obtain ⟨h0, h1⟩ := hS; go_simp⟩, fun _ => rfl⟩ hS ?_
  simp only [List.setIfInBounds_toArray, List.set_cons_zero, List.set_cons_succ]
  refine anyHF_take (i := 34) (d := 49) (v := .bool true) (by kernel_rfl) rfl (by kernel_rfl) (by kernel_rfl) (by kernel_rfl) rfl (fun _ _ _ h => h) ⟨Or.inl ⟨by rfl, fun w hS => by obtain ⟨h0, h1⟩ := hS; go_simp⟩, fun _ => rfl⟩ hS ?_
  simp only [List.setIfInBounds_toArray, List.set_cons_zero, List.set_cons_succ]
  refine anyHF_take (i := 35) (d := 50) (v := undef) (by kernel_rfl) rfl (by kernel_rfl) (by kernel_rfl) (by kernel_rfl) rfl (fun _ _ _ h => h) ⟨Or.inr ⟨by rfl, rfl⟩, fun _ => rfl⟩ hS ?_
  simp only [List.setIfInBounds_toArray, List.set_cons_zero, List.set_cons_succ]
  refine anyHF_take (i := 36) (d := 51) (v := undef) (by kernel_rfl) rfl (by kernel_rfl) (by kernel_rfl) (by kernel_rfl) rfl (fun _ _ _ h => h) ⟨Or.inr ⟨by rfl, rfl⟩, fun _ => rfl⟩ hS ?_
  simp only [List.setIfInBounds_toArray, List.set_cons_zero, List.set_cons_succ]
  refine anyHF_take (i := 37) (d := 52) (v := undef) (by kernel_rfl) rfl (by kernel_rfl) (by kernel_rfl) (by kernel_rfl) rfl (fun _ _ _ h => h) ⟨Or.inr ⟨by rfl, rfl⟩, fun _ => rfl⟩ hS ?_
  simp only [List.setIfInBounds_toArray, List.set_cons_zero, List.set_cons_succ]
  refine anyHF_take (i := 38) (d := 53) (v := undef) (by kernel_rfl) rfl (by kernel_rfl) (by kernel_rfl) (by kernel_rfl) rfl (fun _ _ _ h => h) ⟨Or.inr ⟨by rfl, rfl⟩, fun _ => rfl⟩ hS ?_
  simp only [List.setIfInBounds_toArray, List.set_cons_zero, List.set_cons_succ]
  refine anyHF_take (i := 39) (d := 54) (v := undef) (by kernel_rfl) rfl (by kernel_rfl) (by kernel_rfl) (by kernel_rfl) rfl (fun _ _ _ h => h) ⟨Or.inr ⟨by rfl, rfl⟩, fun _ => rfl⟩ hS ?_
  simp only [List.setIfInBounds_toArray, List.set_cons_zero, List.set_cons_succ]
  refine anyHF_take (i := 40) (d := 55) (v := undef) (by kernel_rfl) rfl (by kernel_rfl) (by kernel_rfl) (by kernel_rfl) rfl (fun _ _ _ h => h) ⟨Or.inr ⟨by rfl, rfl⟩, fun _ => rfl⟩ hS ?_
  simp only [List.setIfInBounds_toArray, List.set_cons_zero, List.set_cons_succ]
  refine anyHF_take (i := 41) (d := 56) (v := undef) (by kernel_rfl) rfl (by kernel_rfl) (by kernel_rfl) (by kernel_rfl) rfl (fun _ _ _ h => h) ⟨Or.inr ⟨by rfl, rfl⟩, fun _ => rfl⟩ hS ?_
  simp only [List.setIfInBounds_toArray, List.set_cons_zero, List.set_cons_succ]
  refine anyHF_take (i := 42) (d := 57) (v := undef) (by kernel_rfl) rfl (by kernel_rfl) (by kernel_rfl) (by kernel_rfl) rfl (fun _ _ _ h => h) ⟨Or.inr ⟨by rfl, rfl⟩, fun _ => rfl⟩ hS ?_
  simp only [List.setIfInBounds_toArray, List.set_cons_zero, List.set_cons_succ]
  refine anyHF_take (i := 43) (d := 58) (v := undef) (by kernel_rfl) rfl (by kernel_rfl) (by kernel_rfl) (by kernel_rfl) rfl (fun _ _ _ h => h) ⟨Or.inr ⟨by rfl, rfl⟩, fun _ => rfl⟩ hS ?_
  simp only [List.setIfInBounds_toArray, List.set_cons_zero, List.set_cons_succ]
  refine anyHF_take (i := 44) (d := 59) (v := undef) (by kernel_rfl) rfl (by kernel_rfl) (by kernel_rfl) (by kernel_rfl) rfl (fun _ _ _ h => h) ⟨Or.inr ⟨by rfl, rfl⟩, fun _ => rfl⟩ hS ?_
  simp only [List.setIfInBounds_toArray, List.set_cons_zero, List.set_cons_succ]
  refine anyHF_take (i := 45) (d := 60) (v := undef) (by kernel_rfl) rfl (by kernel_rfl) (by kernel_rfl) (by kernel_rfl) rfl (fun _ _ _ h => h) ⟨Or.inr ⟨by rfl, rfl⟩, fun _ => rfl⟩ hS ?_
  simp only [List.setIfInBounds_toArray, List.set_cons_zero, List.set_cons_succ]
  refine anyHF_take (i := 46) (d := 61) (v := undef) (by kernel_rfl) rfl (by kernel_rfl) (by kernel_rfl) (by kernel_rfl) rfl (fun _ _ _ h => h) ⟨Or.inr ⟨by rfl, rfl⟩, fun _ => rfl⟩ hS ?_
  simp only [List.setIfInBounds_toArray, List.set_cons_zero, List.set_cons_succ]
  refine anyHF_take (i := 47) (d := 62) (v := undef) (by kernel_rfl) rfl (by kernel_rfl) (by kernel_rfl) (by kernel_rfl) rfl (fun _ _ _ h => h) ⟨Or.inr ⟨by rfl, rfl⟩, fun _ => rfl⟩ hS ?_
  simp only [List.setIfInBounds_toArray, List.set_cons_zero, List.set_cons_succ]
  refine anyHF_take (i := 48) (d := 63) (v := .bool true) (by kernel_rfl) rfl (by kernel_rfl) (by kernel_rfl) (by kernel_rfl) rfl (fun _ _ _ h => h) ⟨Or.inl ⟨by rfl, fun w hS => by obtain ⟨h0, h1⟩ := hS; go_simp⟩, fun _ => rfl⟩ hS ?_
  simp only [List.setIfInBounds_toArray, List.set_cons_zero, List.set_cons_succ]
  refine anyHF_take (i := 49) (d := 64) (v := .bool true) (by kernel_rfl) rfl (by kernel_rfl) (by kernel_rfl) (by kernel_rfl) rfl (fun _ _ _ h => h) ⟨Or.inl ⟨by rfl, fun w hS => by obtain ⟨h0, h1⟩ := hS; go_simp⟩, fun _ => rfl⟩ hS ?_
  simp only [List.setIfInBounds_toArray, List.set_cons_zero, List.set_cons_succ]
  refine anyHF_take (i := 50) (d := 65) (v := undef) (by kernel_rfl) rfl (by kernel_rfl) (by kernel_rfl) (by kernel_rfl) rfl (fun _ _ _ h => h) ⟨Or.inr ⟨by rfl, rfl⟩, fun _ => rfl⟩ hS ?_
  simp only [List.setIfInBounds_toArray, List.set_cons_zero, List.set_cons_succ]
  refine anyHF_take (i := 51) (d := 66) (v := undef) (by kernel_rfl) rfl (by kernel_rfl) (by kernel_rfl) (by kernel_rfl) rfl (fun _ _ _ h => h) ⟨Or.inr ⟨by rfl, rfl⟩, fun _ => rfl⟩ hS ?_
  simp only [List.setIfInBounds_toArray, List.set_cons_zero, List.set_cons_succ]
  refine anyHF_take (i := 52) (d := 67) (v := undef) (by kernel_rfl) rfl (by kernel_rfl) (by kernel_rfl) (by kernel_rfl) rfl (fun _ _ _ h => h) ⟨Or.inr ⟨by rfl, rfl⟩, fun _ => rfl⟩ hS ?_
  simp only [List.setIfInBounds_toArray, List.set_cons_zero, List.set_cons_succ]
  refine anyHF_take (i := 53) (d := 68) (v := undef) (by kernel_rfl) rfl (by kernel_rfl) (by kernel_rfl) (by kernel_rfl) rfl (fun _ _ _ h => h) ⟨Or.inr ⟨by rfl, rfl⟩, fun _ => rfl⟩ hS ?_
  simp only [List.setIfInBounds_toArray, List.set_cons_zero, List.set_cons_succ]
  refine anyHF_take (i := 54) (d := 69) (v := undef) (by kernel_rfl) rfl (by kernel_rfl) (by kernel_rfl) (by kernel_rfl) rfl (fun _ _ _ h => h) ⟨Or.inr ⟨by rfl, rfl⟩, fun _ => rfl⟩ hS ?_
  simp only [List.setIfInBounds_toArray, List.set_cons_zero, List.set_cons_succ]
  refine anyHF_skip (i := 55) (d := 70) (by kernel_rfl) rfl (by rfl) rfl wide_fn hS ?_
  simp only [List.setIfInBounds_toArray, List.set_cons_zero, List.set_cons_succ]
  refine anyHF_take (i := 56) (d := 71) (v := undef) (by kernel_rfl) rfl (by kernel_rfl) (by kernel_rfl) (by kernel_rfl) rfl (fun _ _ _ h => h) ⟨Or.inr ⟨by rfl, rfl⟩, fun _ => rfl⟩ hS ?_
  simp only [List.setIfInBounds_toArray, List.set_cons_zero, List.set_cons_succ]
  refine anyHF_take (i := 57) (d := 72) (v := .bool true) (by kernel_rfl) rfl (by kernel_rfl) (by kernel_rfl) (by kernel_rfl) rfl (fun _ _ _ h => h) ⟨Or.inl ⟨by rfl, fun w hS => by obtain ⟨h0, h1⟩ := hS; go_simp⟩, fun _ => rfl⟩ hS ?_
  simp only [List.setIfInBounds_toArray, List.set_cons_zero, List.set_cons_succ]
  refine anyHF_done (by kernel_rfl) ?_ _
  refine NoPanic.normal ?_
  clear hS
  go_wp2_with fail
  refine (works12_any _ (HLW.out _ (below_in hB0 hB))).mono ?_
  rintro e w1 ⟨rfl, hB1⟩
  go_wp2
  go_ret
  exact ⟨rfl, below_in (below_in hB0 hB) hB1⟩

open Go.Proofs.YtcchjofjpflbhaaGreatDoor.E Go.Proofs.YtcchjofjpflbhaaGreatDoor.C Go.Proofs.YtcchjofjpflbhaaGreatDoor.T Go.Proofs.YtcchjofjpflbhaaGreatDoor.Ch in
set_option maxRecDepth 100000 in
set_option maxHeartbeats 4000000 in
theorem n3 (p : Int) (v : Value) (a : List (List (List UInt8))) (v2 : Value) (b : List (List (List UInt8))) (x0 x1 : Int) (w : World) (hL : Laid w) (wp : -9223372036854775808 ≤ p ∧ p ≤ 9223372036854775807) (hC : Cols w.heap.size w v a) (hD : Cols w.heap.size w v2 b) (wx : -9223372036854775808 ≤ x0 ∧ x0 ≤ 9223372036854775807) (wy : -9223372036854775808 ≤ x1 ∧ x1 ≤ 9223372036854775807) (hf0 : Few6 a) (hf1 : Few6 b) (hr0 : ¬ RightD p a) :
    Calls Tryz.prog 8 #[.int .i64 p, v, v2, .agg #[.int .i64 x0, .int .i64 x1]] w fun e w' => e = .returned (.bool true) ∧ Below w.heap.size w w' := by
  obtain ⟨A, cap, rfl, _, _⟩ := id hC
  obtain ⟨A', cap', rfl, _, _⟩ := id hD
  obtain ⟨w0, hw0⟩ : ∃ x, w.alloc (.cells #[.int .i64 x0, .int .i64 x1] 22) = x := ⟨_, rfl⟩
  obtain ⟨g0, hg0⟩ : ∃ g, w.heap.size = g := ⟨_, rfl⟩
  have b0 : Blk w0 g0 22 #[.int .i64 x0, .int .i64 x1] := by rw [← hw0, ← hg0]; exact Blk.new w _ _
  have hB0 : Below w.heap.size w w0 := by rw [← hw0]; exact below_one w _
  have HW0 := Lib.hid hw0
  have HG0 := Lib.hid hg0
  have HLW := Lib.hid (fun (U : World) (hU : Below w.heap.size w U) => hL.next hU)
  have HF0 := Lib.hid (fun (U : World) (hU : Below w0.heap.size w0 U) => few6_any _ a U (hC.below (below_in hB0 hU)) true (by simp [hf0]))
  have HF1 := Lib.hid (fun (U : World) (hU : Below w0.heap.size w0 U) => few6_any _ b U (hD.below (below_in hB0 hU)) true (by simp [hf1]))
  have HR0 := Lib.hid (fun (U : World) (hU : Below w0.heap.size w0 U) => right6_any p _ a U (below_in hB0 hU).size (hC.below (below_in hB0 hU)) (by have := hf0.1; omega) false (by simp [hr0]))
  have HSS : Hid (∀ U, Below w0.heap.size w0 U → (fun U : World => U.cell? ⟨g0, 0, none⟩ = some (.int .i64 x0) ∧ U.cell? ⟨g0, 1, none⟩ = some (.int .i64 x1)) U) := fun U hU => by
      have h0 := b0.below hU b0.lt
      have hx := below_in hB0 hU
      exact ⟨h0.cell 0, h0.cell 1⟩
  clear hf0 hf1 hr0 hC hD b0
  clear hw0 hg0 hL
  generalize a.length = na at *
  generalize b.length = nb at *
  go_enter Tryz.func8, Tryz.ntmps8
  go_wp2_with fail
  rw [HW0.out]
  (try rw [HG0.out])
  have hB : Below w0.heap.size w0 w0.drew := (Below.refl _ _).drew
  have hS : (fun U : World => U.cell? ⟨g0, 0, none⟩ = some (.int .i64 x0) ∧ U.cell? ⟨g0, 1, none⟩ = some (.int .i64 x1)) w0.drew := HSS.out _ hB
  refine (wpIn_wide (n := 12)).1 (wpIn_mono (region_HF (Q := NoPanic _) (S := (fun U : World => U.cell? ⟨g0, 0, none⟩ = some (.int .i64 x0) ∧ U.cell? ⟨g0, 1, none⟩ = some (.int .i64 x1))) (by kernel_rfl) ?_) NoPanic.imp)
  refine anyHF_take (i := 0) (d := 15) (v := .slice A na cap) (by kernel_rfl) rfl (by kernel_rfl) (by kernel_rfl) (by kernel_rfl) rfl (fun _ _ _ h => h) ⟨Or.inl ⟨by rfl, fun w hS => by obtain ⟨h0, h1⟩ := hS; go_simp⟩, fun _ => rfl⟩ hS ?_
  simp only [List.setIfInBounds_toArray, List.set_cons_zero, List.set_cons_succ]
  refine anyHF_one (i := 1) (by kernel_rfl) rfl (by kernel_rfl) (by rfl) ?_
  gi_wp2_with fail
  refine ⟨trivial, (callsIn_wide.2 (HF0.out _ hB)).mono ?_⟩
  rintro e wn ⟨rfl, rfl⟩
  gi_wp2
  try (refine ⟨hS, ?_⟩)
  refine anyHF_take (i := 2) (d := 17) (v := .bool false) (by kernel_rfl) rfl (by kernel_rfl) (by kernel_rfl) (by kernel_rfl) rfl (fun _ _ _ h => h) ⟨Or.inl ⟨by rfl, fun w hS => by obtain ⟨h0, h1⟩ := hS; go_simp⟩, fun _ => rfl⟩ hS ?_
  simp only [List.setIfInBounds_toArray, List.set_cons_zero, List.set_cons_succ]
  refine anyHF_take (i := 3) (d := 18) (v := .bool false) (by kernel_rfl) rfl (by kernel_rfl) (by kernel_rfl) (by kernel_rfl) rfl (fun _ _ _ h => h) ⟨Or.inl ⟨by rfl, fun w hS => by obtain ⟨h0, h1⟩ := hS; go_simp⟩, fun _ => rfl⟩ hS ?_
  simp only [List.setIfInBounds_toArray, List.set_cons_zero, List.set_cons_succ]
  refine anyHF_take (i := 4) (d := 19) (v := .slice A' nb cap') (by kernel_rfl) rfl (by kernel_rfl) (by kernel_rfl) (by kernel_rfl) rfl (fun _ _ _ h => h) ⟨Or.inl ⟨by rfl, fun w hS => by obtain ⟨h0, h1⟩ := hS; go_simp⟩, fun _ => rfl⟩ hS ?_
  simp only [List.setIfInBounds_toArray, List.set_cons_zero, List.set_cons_succ]
  refine anyHF_one (i := 5) (by kernel_rfl) rfl (by kernel_rfl) (by rfl) ?_
  gi_wp2_with fail
  refine ⟨trivial, (callsIn_wide.2 (HF1.out _ hB)).mono ?_⟩
  rintro e wn ⟨rfl, rfl⟩
  gi_wp2
  try (refine ⟨hS, ?_⟩)
  refine anyHF_take (i := 6) (d := 21) (v := .bool false) (by kernel_rfl) rfl (by kernel_rfl) (by kernel_rfl) (by kernel_rfl) rfl (fun _ _ _ h => h) ⟨Or.inl ⟨by rfl, fun w hS => by obtain ⟨h0, h1⟩ := hS; go_simp⟩, fun _ => rfl⟩ hS ?_
  simp only [List.setIfInBounds_toArray, List.set_cons_zero, List.set_cons_succ]
  refine anyHF_take (i := 7) (d := 22) (v := .bool false) (by kernel_rfl) rfl (by kernel_rfl) (by kernel_rfl) (by kernel_rfl) rfl (fun _ _ _ h => h) ⟨Or.inl ⟨by rfl, fun w hS => by obtain ⟨h0, h1⟩ := hS; go_simp⟩, fun _ => rfl⟩ hS ?_
  simp only [List.setIfInBounds_toArray, List.set_cons_zero, List.set_cons_succ]
  refine anyHF_take (i := 8) (d := 23) (v := .bool false) (by kernel_rfl) rfl (by kernel_rfl) (by kernel_rfl) (by kernel_rfl) rfl (fun _ _ _ h => h) ⟨Or.inl ⟨by rfl, fun w hS => by obtain ⟨h0, h1⟩ := hS; go_simp⟩, fun _ => rfl⟩ hS ?_
  simp only [List.setIfInBounds_toArray, List.set_cons_zero, List.set_cons_succ]
  refine anyHF_take (i := 9) (d := 24) (v := .int .i64 p) (by kernel_rfl) rfl (by kernel_rfl) (by kernel_rfl) (by kernel_rfl) rfl (fun _ _ _ h => h) ⟨Or.inl ⟨by rfl, fun w hS => by obtain ⟨h0, h1⟩ := hS; go_simp⟩, fun _ => rfl⟩ hS ?_
  simp only [List.setIfInBounds_toArray, List.set_cons_zero, List.set_cons_succ]
  refine anyHF_take (i := 10) (d := 25) (v := .slice A na cap) (by kernel_rfl) rfl (by kernel_rfl) (by kernel_rfl) (by kernel_rfl) rfl (fun _ _ _ h => h) ⟨Or.inl ⟨by rfl, fun w hS => by obtain ⟨h0, h1⟩ := hS; go_simp⟩, fun _ => rfl⟩ hS ?_
  simp only [List.setIfInBounds_toArray, List.set_cons_zero, List.set_cons_succ]
  refine anyHF_one (i := 11) (by kernel_rfl) rfl (by kernel_rfl) (by rfl) ?_
  gi_wp2_with fail
  refine ⟨trivial, (callsIn_wide.2 (HR0.out _ hB)).mono ?_⟩
  rintro e wn ⟨rfl, hBn⟩
  replace hB := below_in hB hBn
  clear hBn
  clear hS
  have hS : (fun U : World => U.cell? ⟨g0, 0, none⟩ = some (.int .i64 x0) ∧ U.cell? ⟨g0, 1, none⟩ = some (.int .i64 x1)) wn := HSS.out _ hB
  gi_wp2
  try (refine ⟨hS, ?_⟩)
  refine anyHF_take (i := 12) (d := 27) (v := .bool true) (by kernel_rfl) rfl (by kernel_rfl) (by kernel_rfl) (by kernel_rfl) rfl (fun _ _ _ h => h) ⟨Or.inl ⟨by rfl, fun w hS => by obtain ⟨h0, h1⟩ := hS; go_simp⟩, fun _ => rfl⟩ hS ?_
  simp only [List.setIfInBounds_toArray, List.set_cons_zero, List.set_cons_succ]
  refine anyHF_take (i := 13) (d := 28) (v := .bool true) (by kernel_rfl) rfl (by kernel_rfl) (by kernel_rfl) (by kernel_rfl) rfl (fun _ _ _ h => h) ⟨Or.inl ⟨by rfl, fun w hS => by obtain ⟨h0, h1⟩ := hS; go_simp⟩, fun _ => rfl⟩ hS ?_
  simp only [List.setIfInBounds_toArray, List.set_cons_zero, List.set_cons_succ]
  refine anyHF_take (i := 14) (d := 29) (v := .bool true) (by kernel_rfl) rfl (by kernel_rfl) (by kernel_rfl) (by kernel_rfl) rfl (fun _ _ _ h => h) ⟨Or.inl ⟨by rfl, fun w hS => by obtain ⟨h0, h1⟩ := hS; go_simp⟩, fun _ => rfl⟩ hS ?_
  simp only [List.setIfInBounds_toArray, List.set_cons_zero, List.set_cons_succ]
  refine anyHF_take (i := 15) (d := 30) (v := undef) (by kernel_rfl) rfl (by kernel_rfl) (by kernel_rfl) (by kernel_rfl) rfl (fun _ _ _ h => h) ⟨Or.inr ⟨by rfl, rfl⟩, fun _ => rfl⟩ hS ?_
  simp only [List.setIfInBounds_toArray, List.set_cons_zero, List.set_cons_succ]
  refine anyHF_take (i := 16) (d := 31) (v := undef) (by kernel_rfl) rfl (by kernel_rfl) (by kernel_rfl) (by kernel_rfl) rfl (fun _ _ _ h => h) ⟨Or.inr ⟨by rfl, rfl⟩, fun _ => rfl⟩ hS ?_
  simp only [List.setIfInBounds_toArray, List.set_cons_zero, List.set_cons_succ]
  refine anyHF_skip (i := 17) (d := 32) (by kernel_rfl) rfl (by rfl) rfl wide_fn hS ?_
  simp only [List.setIfInBounds_toArray, List.set_cons_zero, List.set_cons_succ]
  refine anyHF_take (i := 18) (d := 33) (v := undef) (by kernel_rfl) rfl (by kernel_rfl) (by kernel_rfl) (by kernel_rfl) rfl (fun _ _ _ h => h) ⟨Or.inr ⟨by rfl, rfl⟩, fun _ => rfl⟩ hS ?_
  simp only [List.setIfInBounds_toArray, List.set_cons_zero, List.set_cons_succ]
  refine anyHF_take (i := 19) (d := 34) (v := .bool true) (by kernel_rfl) rfl (by kernel_rfl) (by kernel_rfl) (by kernel_rfl) rfl (fun _ _ _ h => h) ⟨Or.inl ⟨by rfl, fun w hS => by obtain ⟨h0, h1⟩ := hS; go_simp⟩, fun _ => rfl⟩ hS ?_
  simp only [List.setIfInBounds_toArray, List.set_cons_zero, List.set_cons_succ]
  refine anyHF_take (i := 20) (d := 35) (v := .bool true) (by kernel_rfl) rfl (by kernel_rfl) (by kernel_rfl) (by kernel_rfl) rfl (fun _ _ _ h => h) ⟨Or.inl ⟨by rfl, fun w hS => by obtain ⟨h0, h1⟩ := hS; go_simp⟩, fun _ => rfl⟩ hS ?_
  simp only [List.setIfInBounds_toArray, List.set_cons_zero, List.set_cons_succ]
  refine anyHF_take (i := 21) (d := 36) (v := undef) (by kernel_rfl) rfl (by kernel_rfl) (by kernel_rfl) (by kernel_rfl) rfl (fun _ _ _ h => h) ⟨Or.inr ⟨by rfl, rfl⟩, fun _ => rfl⟩ hS ?_
  simp only [List.setIfInBounds_toArray, List.set_cons_zero, List.set_cons_succ]
  refine anyHF_take (i := 22) (d := 37) (v := undef) (by kernel_rfl) rfl (by kernel_rfl) (by kernel_rfl) (by kernel_rfl) rfl (fun _ _ _ h => h) ⟨Or.inr ⟨by rfl, rfl⟩, fun _ => rfl⟩ hS ?_
  simp only [List.setIfInBounds_toArray, List.set_cons_zero, List.set_cons_succ]
  refine anyHF_take (i := 23) (d := 38) (v := undef) (by kernel_rfl) rfl (by kernel_rfl) (by kernel_rfl) (by kernel_rfl) rfl (fun _ _ _ h => h) ⟨Or.inr ⟨by rfl, rfl⟩, fun _ => rfl⟩ hS ?_
  simp only [List.setIfInBounds_toArray, List.set_cons_zero, List.set_cons_succ]
  refine anyHF_take (i := 24) (d := 39) (v := undef) (by kernel_rfl) rfl (by kernel_rfl) (by kernel_rfl) (by kernel_rfl) rfl (fun _ _ _ h => h) ⟨Or.inr ⟨by rfl, rfl⟩, fun _ => rfl⟩ hS ?_
  simp only [List.setIfInBounds_toArray, List.set_cons_zero, List.set_cons_succ]
  refine anyHF_take (i := 25) (d := 40) (v := undef) (by kernel_rfl) rfl (by kernel_rfl) (by kernel_rfl) (by kernel_rfl) rfl (fun _ _ _ h => h) ⟨Or.inr ⟨by rfl, rfl⟩, fun _ => rfl⟩ hS ?_
  simp only [List.setIfInBounds_toArray, List.set_cons_zero, List.set_cons_succ]
  refine anyHF_take (i := 26) (d := 41) (v := .bool true) (by kernel_rfl) rfl (by kernel_rfl) (by kernel_rfl) (by kernel_rfl) rfl (fun _ _ _ h => h) ⟨Or.inl ⟨by rfl, fun w hS => by obtain ⟨h0, h1⟩ := hS; go_simp⟩, fun _ => rfl⟩ hS ?_
  simp only [List.setIfInBounds_toArray, List.set_cons_zero, List.set_cons_succ]
  refine anyHF_take (i := 27) (d := 42) (v := .bool true) (by kernel_rfl) rfl (by kernel_rfl) (by kernel_rfl) (by kernel_rfl) rfl (fun _ _ _ h => h) ⟨Or.inl ⟨by rfl, fun w hS => by obtain ⟨h0, h1⟩ := hS; go_simp⟩, fun _ => rfl⟩ hS ?_
  simp only [List.setIfInBounds_toArray, List.set_cons_zero, List.set_cons_succ]
  refine anyHF_take (i := 28) (d := 43) (v := undef) (by kernel_rfl) rfl (by kernel_rfl) (by kernel_rfl) (by kernel_rfl) rfl (fun _ _ _ h => h) ⟨Or.inr ⟨by rfl, rfl⟩, fun _ => rfl⟩ hS ?_
  simp only [List.setIfInBounds_toArray, List.set_cons_zero, List.set_cons_succ]
  refine anyHF_take (i := 29) (d := 44) (v := undef) (by kernel_rfl) rfl (by kernel_rfl) (by kernel_rfl) (by kernel_rfl) rfl (fun _ _ _ h => h) ⟨Or.inr ⟨by rfl, rfl⟩, fun _ => rfl⟩ hS ?_
  simp only [List.setIfInBounds_toArray, List.set_cons_zero, List.set_cons_succ]
  refine anyHF_take (i := 30) (d := 45) (v := undef) (by kernel_rfl) rfl (by kernel_rfl) (by kernel_rfl) (by kernel_rfl) rfl (fun _ _ _ h => h) ⟨Or.inr ⟨by rfl, rfl⟩, fun _ => rfl⟩ hS ?_
  simp only [List.setIfInBounds_toArray, List.set_cons_zero, List.set_cons_succ]
  refine anyHF_take (i := 31) (d := 46) (v := undef) (by kernel_rfl) rfl (by kernel_rfl) (by kernel_rfl) (by kernel_rfl) rfl (fun _ _ _ h => h) ⟨Or.inr ⟨by rfl, rfl⟩, fun _ => rfl⟩ hS ?_
  simp only [List.setIfInBounds_toArray, List.set_cons_zero, List.set_cons_succ]
  refine anyHF_take (i := 32) (d := 47) (v := undef) (by kernel_rfl) rfl (by kernel_rfl) (by kernel_rfl) (by kernel_rfl) rfl (fun _ _ _ h => h) ⟨Or.inr ⟨by rfl, rfl⟩, fun _ => rfl⟩ hS ?_
  simp only [List.setIfInBounds_toArray, List.set_cons_zero, List.set_cons_succ]
  refine anyHF_take (i := 33) (d := 48) (v := .bool true) (by kernel_rfl) rfl (by kernel_rfl) (by kernel_rfl) (by kernel_rfl) rfl (fun _ _ _ h => h) ⟨Or.inl ⟨by rfl, fun w hS => by obtain ⟨h0, h1⟩ := hS; go_simp⟩, fun _ => rfl⟩ hS ?_
  simp only [List.setIfInBounds_toArray, List.set_cons_zero, List.set_cons_succ]
  refine anyHF_take (i := 34) (d := 49) (v := .bool true) (by kernel_rfl) rfl (by kernel_rfl) (by kernel_rfl) (by kernel_rfl) rfl (fun _ _ _ h => h) ⟨Or.inl ⟨by rfl, fun w hS => by obtain ⟨h0, h1⟩ := hS; go_simp⟩, fun _ => rfl⟩ hS ?_
  simp only [List.setIfInBounds_toArray, List.set_cons_zero, List.set_cons_succ]
  refine anyHF_take (i := 35) (d := 50) (v := undef) (by kernel_rfl) rfl (by kernel_rfl) (by kernel_rfl) (by kernel_rfl) rfl (fun _ _ _ h => h) ⟨Or.inr ⟨by rfl, rfl⟩, fun _ => rfl⟩ hS ?_
  simp only [List.setIfInBounds_toArray, List.set_cons_zero, List.set_cons_succ]
  refine anyHF_take (i := 36) (d := 51) (v := undef) (by kernel_rfl) rfl (by kernel_rfl) (by kernel_rfl) (by kernel_rfl) rfl (fun _ _ _ h => h) ⟨Or.inr ⟨by rfl, rfl⟩, fun _ => rfl⟩ hS ?_
  simp only [List.setIfInBounds_toArray, List.set_cons_zero, List.set_cons_succ]
  refine anyHF_take (i := 37) (d := 52) (v := undef) (by kernel_rfl) rfl (by kernel_rfl) (by kernel_rfl) (by kernel_rfl) rfl (fun _ _ _ h => h) ⟨Or.inr ⟨by rfl, rfl⟩, fun _ => rfl⟩ hS ?_
  simp only [List.setIfInBounds_toArray, List.set_cons_zero, List.set_cons_succ]
  refine anyHF_take (i := 38) (d := 53) (v := undef) (by kernel_rfl) rfl (by kernel_rfl) (by kernel_rfl) (by kernel_rfl) rfl (fun _ _ _ h => h) ⟨Or.inr ⟨by rfl, rfl⟩, fun _ => rfl⟩ hS ?_
  simp only [List.setIfInBounds_toArray, List.set_cons_zero, List.set_cons_succ]
  refine anyHF_take (i := 39) (d := 54) (v := undef) (by kernel_rfl) rfl (by kernel_rfl) (by kernel_rfl) (by kernel_rfl) rfl (fun _ _ _ h => h) ⟨Or.inr ⟨by rfl, rfl⟩, fun _ => rfl⟩ hS ?_
  simp only [List.setIfInBounds_toArray, List.set_cons_zero, List.set_cons_succ]
  refine anyHF_take (i := 40) (d := 55) (v := undef) (by kernel_rfl) rfl (by kernel_rfl) (by kernel_rfl) (by kernel_rfl) rfl (fun _ _ _ h => h) ⟨Or.inr ⟨by rfl, rfl⟩, fun _ => rfl⟩ hS ?_
  simp only [List.setIfInBounds_toArray, List.set_cons_zero, List.set_cons_succ]
  refine anyHF_take (i := 41) (d := 56) (v := undef) (by kernel_rfl) rfl (by kernel_rfl) (by kernel_rfl) (by kernel_rfl) rfl (fun _ _ _ h => h) ⟨Or.inr ⟨by rfl, rfl⟩, fun _ => rfl⟩ hS ?_
  simp only [List.setIfInBounds_toArray, List.set_cons_zero, List.set_cons_succ]
  refine anyHF_take (i := 42) (d := 57) (v := undef) (by kernel_rfl) rfl (by kernel_rfl) (by kernel_rfl) (by kernel_rfl) rfl (fun _ _ _ h => h) ⟨Or.inr ⟨by rfl, rfl⟩, fun _ => rfl⟩ hS ?_
  simp only [List.setIfInBounds_toArray, List.set_cons_zero, List.set_cons_succ]
  refine anyHF_take (i := 43) (d := 58) (v := undef) (by kernel_rfl) rfl (by kernel_rfl) (by kernel_rfl) (by kernel_rfl) rfl (fun _ _ _ h => h) ⟨Or.inr ⟨by rfl, rfl⟩, fun _ => rfl⟩ hS ?_
  simp only [List.setIfInBounds_toArray, List.set_cons_zero, List.set_cons_succ]
  refine anyHF_take (i := 44) (d := 59) (v := undef) (by kernel_rfl) rfl (by kernel_rfl) (by kernel_rfl) (by kernel_rfl) rfl (fun _ _ _ h => h) ⟨Or.inr ⟨by rfl, rfl⟩, fun _ => rfl⟩ hS ?_
  simp only [List.setIfInBounds_toArray, List.set_cons_zero, List.set_cons_succ]
  refine anyHF_take (i := 45) (d := 60) (v := undef) (by kernel_rfl) rfl (by kernel_rfl) (by kernel_rfl) (by kernel_rfl) rfl (fun _ _ _ h => h) ⟨Or.inr ⟨by rfl, rfl⟩, fun _ => rfl⟩ hS ?_
  simp only [List.setIfInBounds_toArray, List.set_cons_zero, List.set_cons_succ]
  refine anyHF_take (i := 46) (d := 61) (v := undef) (by kernel_rfl) rfl (by kernel_rfl) (by kernel_rfl) (by kernel_rfl) rfl (fun _ _ _ h => h) ⟨Or.inr ⟨by rfl, rfl⟩, fun _ => rfl⟩ hS ?_
  simp only [List.setIfInBounds_toArray, List.set_cons_zero, List.set_cons_succ]
  refine anyHF_take (i := 47) (d := 62) (v := undef) (by kernel_rfl) rfl (by kernel_rfl) (by kernel_rfl) (by kernel_rfl) rfl (fun _ _ _ h => h) ⟨Or.inr ⟨by rfl, rfl⟩, fun _ => rfl⟩ hS ?_
  simp only [List.setIfInBounds_toArray, List.set_cons_zero, List.set_cons_succ]
  refine anyHF_take (i := 48) (d := 63) (v := .bool true) (by kernel_rfl) rfl (by kernel_rfl) (by kernel_rfl) (by kernel_rfl) rfl (fun _ _ _ h => h) ⟨Or.inl ⟨by rfl, fun w hS => by obtain ⟨h0, h1⟩ := hS; go_simp⟩, fun _ => rfl⟩ hS ?_
  simp only [List.setIfInBounds_toArray, List.set_cons_zero, List.set_cons_succ]
  refine anyHF_take (i := 49) (d := 64) (v := .bool true) (by kernel_rfl) rfl (by kernel_rfl) (by kernel_rfl) (by kernel_rfl) rfl (fun _ _ _ h => h) ⟨Or.inl ⟨by rfl, fun w hS => by obtain ⟨h0, h1⟩ := hS; go_simp⟩, fun _ => rfl⟩ hS ?_
  simp only [List.setIfInBounds_toArray, List.set_cons_zero, List.set_cons_succ]
  refine anyHF_take (i := 50) (d := 65) (v := undef) (by kernel_rfl) rfl (by kernel_rfl) (by kernel_rfl) (by kernel_rfl) rfl (fun _ _ _ h => h) ⟨Or.inr ⟨by rfl, rfl⟩, fun _ => rfl⟩ hS ?_
  simp only [List.setIfInBounds_toArray, List.set_cons_zero, List.set_cons_succ]
  refine anyHF_take (i := 51) (d := 66) (v := undef) (by kernel_rfl) rfl (by kernel_rfl) (by kernel_rfl) (by kernel_rfl) rfl (fun _ _ _ h => h) ⟨Or.inr ⟨by rfl, rfl⟩, fun _ => rfl⟩ hS ?_
  simp only [List.setIfInBounds_toArray, List.set_cons_zero, List.set_cons_succ]
  refine anyHF_take (i := 52) (d := 67) (v := undef) (by kernel_rfl) rfl (by kernel_rfl) (by kernel_rfl) (by kernel_rfl) rfl (fun _ _ _ h => h) ⟨Or.inr ⟨by rfl, rfl⟩, fun _ => rfl⟩ hS ?_
  simp only [List.setIfInBounds_toArray, List.set_cons_zero, List.set_cons_succ]
  refine anyHF_take (i := 53) (d := 68) (v := undef) (by kernel_rfl) rfl (by kernel_rfl) (by kernel_rfl) (by kernel_rfl) rfl (fun _ _ _ h => h) ⟨Or.inr ⟨by rfl, rfl⟩, fun _ => rfl⟩ hS ?_
  simp only [List.setIfInBounds_toArray, List.set_cons_zero, List.set_cons_succ]
  refine anyHF_take (i := 54) (d := 69) (v := undef) (by kernel_rfl) rfl (by kernel_rfl) (by kernel_rfl) (by kernel_rfl) rfl (fun _ _ _ h => h) ⟨Or.inr ⟨by rfl, rfl⟩, fun _ => rfl⟩ hS ?_
  simp only [List.setIfInBounds_toArray, List.set_cons_zero, List.set_cons_succ]
  refine anyHF_skip (i := 55) (d := 70) (by kernel_rfl) rfl (by rfl) rfl wide_fn hS ?_
  simp only [List.setIfInBounds_toArray, List.set_cons_zero, List.set_cons_succ]
  refine anyHF_take (i := 56) (d := 71) (v := undef) (by kernel_rfl) rfl (by kernel_rfl) (by kernel_rfl) (by kernel_rfl) rfl (fun _ _ _ h => h) ⟨Or.inr ⟨by rfl, rfl⟩, fun _ => rfl⟩ hS ?_
  simp only [List.setIfInBounds_toArray, List.set_cons_zero, List.set_cons_succ]
  refine anyHF_take (i := 57) (d := 72) (v := .bool true) (by kernel_rfl) rfl (by kernel_rfl) (by kernel_rfl) (by kernel_rfl) rfl (fun _ _ _ h => h) ⟨Or.inl ⟨by rfl, fun w hS => by obtain ⟨h0, h1⟩ := hS; go_simp⟩, fun _ => rfl⟩ hS ?_
  simp only [List.setIfInBounds_toArray, List.set_cons_zero, List.set_cons_succ]
  refine anyHF_done (by kernel_rfl) ?_ _
  refine NoPanic.normal ?_
  clear hS
  go_wp2_with fail
  refine (works12_any _ (HLW.out _ (below_in hB0 hB))).mono ?_
  rintro e w1 ⟨rfl, hB1⟩
  go_wp2
  go_ret
  exact ⟨rfl, below_in (below_in hB0 hB) hB1⟩

open Go.Proofs.YtcchjofjpflbhaaGreatDoor.E Go.Proofs.YtcchjofjpflbhaaGreatDoor.C Go.Proofs.YtcchjofjpflbhaaGreatDoor.T Go.Proofs.YtcchjofjpflbhaaGreatDoor.Ch in
set_option maxRecDepth 100000 in
set_option maxHeartbeats 4000000 in
theorem n4 (p : Int) (v : Value) (a : List (List (List UInt8))) (v2 : Value) (b : List (List (List UInt8))) (x0 x1 : Int) (w : World) (hL : Laid w) (wp : -9223372036854775808 ≤ p ∧ p ≤ 9223372036854775807) (hC : Cols w.heap.size w v a) (hD : Cols w.heap.size w v2 b) (wx : -9223372036854775808 ≤ x0 ∧ x0 ≤ 9223372036854775807) (wy : -9223372036854775808 ≤ x1 ∧ x1 ≤ 9223372036854775807) (hf0 : Few6 a) (hf1 : Few6 b) (hr0 : RightD p a) (hr1 : ¬ RightD p b) :
    Calls Tryz.prog 8 #[.int .i64 p, v, v2, .agg #[.int .i64 x0, .int .i64 x1]] w fun e w' => e = .returned (.bool true) ∧ Below w.heap.size w w' := by
  obtain ⟨A, cap, rfl, _, _⟩ := id hC
  obtain ⟨A', cap', rfl, _, _⟩ := id hD
  obtain ⟨w0, hw0⟩ : ∃ x, w.alloc (.cells #[.int .i64 x0, .int .i64 x1] 22) = x := ⟨_, rfl⟩
  obtain ⟨g0, hg0⟩ : ∃ g, w.heap.size = g := ⟨_, rfl⟩
  have b0 : Blk w0 g0 22 #[.int .i64 x0, .int .i64 x1] := by rw [← hw0, ← hg0]; exact Blk.new w _ _
  have hB0 : Below w.heap.size w w0 := by rw [← hw0]; exact below_one w _
  have HW0 := Lib.hid hw0
  have HG0 := Lib.hid hg0
  have HLW := Lib.hid (fun (U : World) (hU : Below w.heap.size w U) => hL.next hU)
  have HF0 := Lib.hid (fun (U : World) (hU : Below w0.heap.size w0 U) => few6_any _ a U (hC.below (below_in hB0 hU)) true (by simp [hf0]))
  have HF1 := Lib.hid (fun (U : World) (hU : Below w0.heap.size w0 U) => few6_any _ b U (hD.below (below_in hB0 hU)) true (by simp [hf1]))
  have HR0 := Lib.hid (fun (U : World) (hU : Below w0.heap.size w0 U) => right6_any p _ a U (below_in hB0 hU).size (hC.below (below_in hB0 hU)) (by have := hf0.1; omega) true (by simp [hr0]))
  have HR1 := Lib.hid (fun (U : World) (hU : Below w0.heap.size w0 U) => right6_any p _ b U (below_in hB0 hU).size (hD.below (below_in hB0 hU)) (by have := hf1.1; omega) false (by simp [hr1]))
  have HSS : Hid (∀ U, Below w0.heap.size w0 U → (fun U : World => U.cell? ⟨g0, 0, none⟩ = some (.int .i64 x0) ∧ U.cell? ⟨g0, 1, none⟩ = some (.int .i64 x1)) U) := fun U hU => by
      have h0 := b0.below hU b0.lt
      have hx := below_in hB0 hU
      exact ⟨h0.cell 0, h0.cell 1⟩
  clear hf0 hf1 hr0 hr1 hC hD b0
  clear hw0 hg0 hL
  generalize a.length = na at *
  generalize b.length = nb at *
  go_enter Tryz.func8, Tryz.ntmps8
  go_wp2_with fail
  rw [HW0.out]
  (try rw [HG0.out])
  have hB : Below w0.heap.size w0 w0.drew := (Below.refl _ _).drew
  have hS : (fun U : World => U.cell? ⟨g0, 0, none⟩ = some (.int .i64 x0) ∧ U.cell? ⟨g0, 1, none⟩ = some (.int .i64 x1)) w0.drew := HSS.out _ hB
  refine (wpIn_wide (n := 12)).1 (wpIn_mono (region_HF (Q := NoPanic _) (S := (fun U : World => U.cell? ⟨g0, 0, none⟩ = some (.int .i64 x0) ∧ U.cell? ⟨g0, 1, none⟩ = some (.int .i64 x1))) (by kernel_rfl) ?_) NoPanic.imp)
  refine anyHF_take (i := 0) (d := 15) (v := .slice A na cap) (by kernel_rfl) rfl (by kernel_rfl) (by kernel_rfl) (by kernel_rfl) rfl (fun _ _ _ h => h) ⟨Or.inl ⟨by rfl, fun w hS => by obtain ⟨h0, h1⟩ := hS; go_simp⟩, fun _ => rfl⟩ hS ?_
  simp only [List.setIfInBounds_toArray, List.set_cons_zero, List.set_cons_succ]
  refine anyHF_one (i := 1) (by kernel_rfl) rfl (by kernel_rfl) (by rfl) ?_
  gi_wp2_with fail
  refine ⟨trivial, (callsIn_wide.2 (HF0.out _ hB)).mono ?_⟩
  rintro e wn ⟨rfl, rfl⟩
  gi_wp2
  try (refine ⟨hS, ?_⟩)
  refine anyHF_take (i := 2) (d := 17) (v := .bool false) (by kernel_rfl) rfl (by kernel_rfl) (by kernel_rfl) (by kernel_rfl) rfl (fun _ _ _ h => h) ⟨Or.inl ⟨by rfl, fun w hS => by obtain ⟨h0, h1⟩ := hS; go_simp⟩, fun _ => rfl⟩ hS ?_
  simp only [List.setIfInBounds_toArray, List.set_cons_zero, List.set_cons_succ]
  refine anyHF_take (i := 3) (d := 18) (v := .bool false) (by kernel_rfl) rfl (by kernel_rfl) (by kernel_rfl) (by kernel_rfl) rfl (fun _ _ _ h => h) ⟨Or.inl ⟨by rfl, fun w hS => by obtain ⟨h0, h1⟩ := hS; go_simp⟩, fun _ => rfl⟩ hS ?_
  simp only [List.setIfInBounds_toArray, List.set_cons_zero, List.set_cons_succ]
  refine anyHF_take (i := 4) (d := 19) (v := .slice A' nb cap') (by kernel_rfl) rfl (by kernel_rfl) (by kernel_rfl) (by kernel_rfl) rfl (fun _ _ _ h => h) ⟨Or.inl ⟨by rfl, fun w hS => by obtain ⟨h0, h1⟩ := hS; go_simp⟩, fun _ => rfl⟩ hS ?_
  simp only [List.setIfInBounds_toArray, List.set_cons_zero, List.set_cons_succ]
  refine anyHF_one (i := 5) (by kernel_rfl) rfl (by kernel_rfl) (by rfl) ?_
  gi_wp2_with fail
  refine ⟨trivial, (callsIn_wide.2 (HF1.out _ hB)).mono ?_⟩
  rintro e wn ⟨rfl, rfl⟩
  gi_wp2
  try (refine ⟨hS, ?_⟩)
  refine anyHF_take (i := 6) (d := 21) (v := .bool false) (by kernel_rfl) rfl (by kernel_rfl) (by kernel_rfl) (by kernel_rfl) rfl (fun _ _ _ h => h) ⟨Or.inl ⟨by rfl, fun w hS => by obtain ⟨h0, h1⟩ := hS; go_simp⟩, fun _ => rfl⟩ hS ?_
  simp only [List.setIfInBounds_toArray, List.set_cons_zero, List.set_cons_succ]
  refine anyHF_take (i := 7) (d := 22) (v := .bool false) (by kernel_rfl) rfl (by kernel_rfl) (by kernel_rfl) (by kernel_rfl) rfl (fun _ _ _ h => h) ⟨Or.inl ⟨by rfl, fun w hS => by obtain ⟨h0, h1⟩ := hS; go_simp⟩, fun _ => rfl⟩ hS ?_
  simp only [List.setIfInBounds_toArray, List.set_cons_zero, List.set_cons_succ]
  refine anyHF_take (i := 8) (d := 23) (v := .bool false) (by kernel_rfl) rfl (by kernel_rfl) (by kernel_rfl) (by kernel_rfl) rfl (fun _ _ _ h => h) ⟨Or.inl ⟨by rfl, fun w hS => by obtain ⟨h0, h1⟩ := hS; go_simp⟩, fun _ => rfl⟩ hS ?_
  simp only [List.setIfInBounds_toArray, List.set_cons_zero, List.set_cons_succ]
  refine anyHF_take (i := 9) (d := 24) (v := .int .i64 p) (by kernel_rfl) rfl (by kernel_rfl) (by kernel_rfl) (by kernel_rfl) rfl (fun _ _ _ h => h) ⟨Or.inl ⟨by rfl, fun w hS => by obtain ⟨h0, h1⟩ := hS; go_simp⟩, fun _ => rfl⟩ hS ?_
  simp only [List.setIfInBounds_toArray, List.set_cons_zero, List.set_cons_succ]
  refine anyHF_take (i := 10) (d := 25) (v := .slice A na cap) (by kernel_rfl) rfl (by kernel_rfl) (by kernel_rfl) (by kernel_rfl) rfl (fun _ _ _ h => h) ⟨Or.inl ⟨by rfl, fun w hS => by obtain ⟨h0, h1⟩ := hS; go_simp⟩, fun _ => rfl⟩ hS ?_
  simp only [List.setIfInBounds_toArray, List.set_cons_zero, List.set_cons_succ]
  refine anyHF_one (i := 11) (by kernel_rfl) rfl (by kernel_rfl) (by rfl) ?_
  gi_wp2_with fail
  refine ⟨trivial, (callsIn_wide.2 (HR0.out _ hB)).mono ?_⟩
  rintro e wn ⟨rfl, hBn⟩
  replace hB := below_in hB hBn
  clear hBn
  clear hS
  have hS : (fun U : World => U.cell? ⟨g0, 0, none⟩ = some (.int .i64 x0) ∧ U.cell? ⟨g0, 1, none⟩ = some (.int .i64 x1)) wn := HSS.out _ hB
  gi_wp2
  try (refine ⟨hS, ?_⟩)
  refine anyHF_take (i := 12) (d := 27) (v := .bool false) (by kernel_rfl) rfl (by kernel_rfl) (by kernel_rfl) (by kernel_rfl) rfl (fun _ _ _ h => h) ⟨Or.inl ⟨by rfl, fun w hS => by obtain ⟨h0, h1⟩ := hS; go_simp⟩, fun _ => rfl⟩ hS ?_
  simp only [List.setIfInBounds_toArray, List.set_cons_zero, List.set_cons_succ]
  refine anyHF_take (i := 13) (d := 28) (v := .bool false) (by kernel_rfl) rfl (by kernel_rfl) (by kernel_rfl) (by kernel_rfl) rfl (fun _ _ _ h => h) ⟨Or.inl ⟨by rfl, fun w hS => by obtain ⟨h0, h1⟩ := hS; go_simp⟩, fun _ => rfl⟩ hS ?_
  simp only [List.setIfInBounds_toArray, List.set_cons_zero, List.set_cons_succ]
  refine anyHF_take (i := 14) (d := 29) (v := .bool false) (by kernel_rfl) rfl (by kernel_rfl) (by kernel_rfl) (by kernel_rfl) rfl (fun _ _ _ h => h) ⟨Or.inl ⟨by rfl, fun w hS => by obtain ⟨h0, h1⟩ := hS; go_simp⟩, fun _ => rfl⟩ hS ?_
  simp only [List.setIfInBounds_toArray, List.set_cons_zero, List.set_cons_succ]
  refine anyHF_take (i := 15) (d := 30) (v := .int .i64 p) (by kernel_rfl) rfl (by kernel_rfl) (by kernel_rfl) (by kernel_rfl) rfl (fun _ _ _ h => h) ⟨Or.inl ⟨by rfl, fun w hS => by obtain ⟨h0, h1⟩ := hS; go_simp⟩, fun _ => rfl⟩ hS ?_
  simp only [List.setIfInBounds_toArray, List.set_cons_zero, List.set_cons_succ]
  refine anyHF_take (i := 16) (d := 31) (v := .slice A' nb cap') (by kernel_rfl) rfl (by kernel_rfl) (by kernel_rfl) (by kernel_rfl) rfl (fun _ _ _ h => h) ⟨Or.inl ⟨by rfl, fun w hS => by obtain ⟨h0, h1⟩ := hS; go_simp⟩, fun _ => rfl⟩ hS ?_
  simp only [List.setIfInBounds_toArray, List.set_cons_zero, List.set_cons_succ]
  refine anyHF_one (i := 17) (by kernel_rfl) rfl (by kernel_rfl) (by rfl) ?_
  gi_wp2_with fail
  refine ⟨trivial, (callsIn_wide.2 (HR1.out _ hB)).mono ?_⟩
  rintro e wn ⟨rfl, hBn⟩
  replace hB := below_in hB hBn
  clear hBn
  clear hS
  have hS : (fun U : World => U.cell? ⟨g0, 0, none⟩ = some (.int .i64 x0) ∧ U.cell? ⟨g0, 1, none⟩ = some (.int .i64 x1)) wn := HSS.out _ hB
  gi_wp2
  try (refine ⟨hS, ?_⟩)
  refine anyHF_take (i := 18) (d := 33) (v := .bool true) (by kernel_rfl) rfl (by kernel_rfl) (by kernel_rfl) (by kernel_rfl) rfl (fun _ _ _ h => h) ⟨Or.inl ⟨by rfl, fun w hS => by obtain ⟨h0, h1⟩ := hS; go_simp⟩, fun _ => rfl⟩ hS ?_
  simp only [List.setIfInBounds_toArray, List.set_cons_zero, List.set_cons_succ]
  refine anyHF_take (i := 19) (d := 34) (v := .bool true) (by kernel_rfl) rfl (by kernel_rfl) (by kernel_rfl) (by kernel_rfl) rfl (fun _ _ _ h => h) ⟨Or.inl ⟨by rfl, fun w hS => by obtain ⟨h0, h1⟩ := hS; go_simp⟩, fun _ => rfl⟩ hS ?_
  simp only [List.setIfInBounds_toArray, List.set_cons_zero, List.set_cons_succ]
  refine anyHF_take (i := 20) (d := 35) (v := .bool true) (by kernel_rfl) rfl (by kernel_rfl) (by kernel_rfl) (by kernel_rfl) rfl (fun _ _ _ h => h) ⟨Or.inl ⟨by rfl, fun w hS => by obtain ⟨h0, h1⟩ := hS; go_simp⟩, fun _ => rfl⟩ hS ?_
  simp only [List.setIfInBounds_toArray, List.set_cons_zero, List.set_cons_succ]
  refine anyHF_take (i := 21) (d := 36) (v := undef) (by kernel_rfl) rfl (by kernel_rfl) (by kernel_rfl) (by kernel_rfl) rfl (fun _ _ _ h => h) ⟨Or.inr ⟨by rfl, rfl⟩, fun _ => rfl⟩ hS ?_
  simp only [List.setIfInBounds_toArray, List.set_cons_zero, List.set_cons_succ]
  refine anyHF_take (i := 22) (d := 37) (v := undef) (by kernel_rfl) rfl (by kernel_rfl) (by kernel_rfl) (by kernel_rfl) rfl (fun _ _ _ h => h) ⟨Or.inr ⟨by rfl, rfl⟩, fun _ => rfl⟩ hS ?_
  simp only [List.setIfInBounds_toArray, List.set_cons_zero, List.set_cons_succ]
  refine anyHF_take (i := 23) (d := 38) (v := undef) (by kernel_rfl) rfl (by kernel_rfl) (by kernel_rfl) (by kernel_rfl) rfl (fun _ _ _ h => h) ⟨Or.inr ⟨by rfl, rfl⟩, fun _ => rfl⟩ hS ?_
  simp only [List.setIfInBounds_toArray, List.set_cons_zero, List.set_cons_succ]
  refine anyHF_take (i := 24) (d := 39) (v := undef) (by kernel_rfl) rfl (by kernel_rfl) (by kernel_rfl) (by kernel_rfl) rfl (fun _ _ _ h => h) ⟨Or.inr ⟨by rfl, rfl⟩, fun _ => rfl⟩ hS ?_
  simp only [List.setIfInBounds_toArray, List.set_cons_zero, List.set_cons_succ]
  refine anyHF_take (i := 25) (d := 40) (v := undef) (by kernel_rfl) rfl (by kernel_rfl) (by kernel_rfl) (by kernel_rfl) rfl (fun _ _ _ h => h) ⟨Or.inr ⟨by rfl, rfl⟩, fun _ => rfl⟩ hS ?_
  simp only [List.setIfInBounds_toArray, List.set_cons_zero, List.set_cons_succ]
  refine anyHF_take (i := 26) (d := 41) (v := .bool true) (by kernel_rfl) rfl (by kernel_rfl) (by kernel_rfl) (by kernel_rfl) rfl (fun _ _ _ h => h) ⟨Or.inl ⟨by rfl, fun w hS => by obtain ⟨h0, h1⟩ := hS; go_simp⟩, fun _ => rfl⟩ hS ?_
  simp only [List.setIfInBounds_toArray, List.set_cons_zero, List.set_cons_succ]
  refine anyHF_take (i := 27) (d := 42) (v := .bool true) (by kernel_rfl) rfl (by kernel_rfl) (by kernel_rfl) (by kernel_rfl) rfl (fun _ _ _ h => h) ⟨Or.inl ⟨by rfl, fun w hS => by obtain ⟨h0, h1⟩ := hS; go_simp⟩, fun _ => rfl⟩ hS ?_
  simp only [List.setIfInBounds_toArray, List.set_cons_zero, List.set_cons_succ]
  refine anyHF_take (i := 28) (d := 43) (v := undef) (by kernel_rfl) rfl (by kernel_rfl) (by kernel_rfl) (by kernel_rfl) rfl (fun _ _ _ h => h) ⟨Or.inr ⟨by rfl, rfl⟩, fun _ => rfl⟩ hS ?_
  simp only [List.setIfInBounds_toArray, List.set_cons_zero, List.set_cons_succ]
  refine anyHF_take (i := 29) (d := 44) (v := undef) (by kernel_rfl) rfl (by kernel_rfl) (by kernel_rfl) (by kernel_rfl) rfl (fun _ _ _ h => h) ⟨Or.inr ⟨by rfl, rfl⟩, fun _ => rfl⟩ hS ?_
  simp only [List.setIfInBounds_toArray, List.set_cons_zero, List.set_cons_succ]
  refine anyHF_take (i := 30) (d := 45) (v := undef) (by kernel_rfl) rfl (by kernel_rfl) (by kernel_rfl) (by kernel_rfl) rfl (fun _ _ _ h => h) ⟨Or.inr ⟨by rfl, rfl⟩, fun _ => rfl⟩ hS ?_
  simp only [List.setIfInBounds_toArray, List.set_cons_zero, List.set_cons_succ]
  refine anyHF_take (i := 31) (d := 46) (v := undef) (by kernel_rfl) rfl (by kernel_rfl) (by kernel_rfl) (by kernel_rfl) rfl (fun _ _ _ h => h) ⟨Or.inr ⟨by rfl, rfl⟩, fun _ => rfl⟩ hS ?_
  simp only [List.setIfInBounds_toArray, List.set_cons_zero, List.set_cons_succ]
  refine anyHF_take (i := 32) (d := 47) (v := undef) (by kernel_rfl) rfl (by kernel_rfl) (by kernel_rfl) (by kernel_rfl) rfl (fun _ _ _ h => h) ⟨Or.inr ⟨by rfl, rfl⟩, fun _ => rfl⟩ hS ?_
  simp only [List.setIfInBounds_toArray, List.set_cons_zero, List.set_cons_succ]
  refine anyHF_take (i := 33) (d := 48) (v := .bool true) (by kernel_rfl) rfl (by kernel_rfl) (by kernel_rfl) (by kernel_rfl) rfl (fun _ _ _ h => h) ⟨Or.inl ⟨by rfl, fun w hS => by obtain ⟨h0, h1⟩ := hS; go_simp⟩, fun _ => rfl⟩ hS ?_
  simp only [List.setIfInBounds_toArray, List.set_cons_zero, List.set_cons_succ]
  refine anyHF_take (i := 34) (d := 49) (v := .bool true) (by kernel_rfl) rfl (by kernel_rfl) (by kernel_rfl) (by kernel_rfl) rfl (fun _ _ _ h => h) ⟨Or.inl ⟨by rfl, fun w hS => by obtain ⟨h0, h1⟩ := hS; go_simp⟩, fun _ => rfl⟩ hS ?_
  simp only [List.setIfInBounds_toArray, List.set_cons_zero, List.set_cons_succ]
  refine anyHF_take (i := 35) (d := 50) (v := undef) (by kernel_rfl) rfl (by kernel_rfl) (by kernel_rfl) (by kernel_rfl) rfl (fun _ _ _ h => h) ⟨Or.inr ⟨by rfl, rfl⟩, fun _ => rfl⟩ hS ?_
  simp only [List.setIfInBounds_toArray, List.set_cons_zero, List.set_cons_succ]
  refine anyHF_take (i := 36) (d := 51) (v := undef) (by kernel_rfl) rfl (by kernel_rfl) (by kernel_rfl) (by kernel_rfl) rfl (fun _ _ _ h => h) ⟨Or.inr ⟨by rfl, rfl⟩, fun _ => rfl⟩ hS ?_
  simp only [List.setIfInBounds_toArray, List.set_cons_zero, List.set_cons_succ]
  refine anyHF_take (i := 37) (d := 52) (v := undef) (by kernel_rfl) rfl (by kernel_rfl) (by kernel_rfl) (by kernel_rfl) rfl (fun _ _ _ h => h) ⟨Or.inr ⟨by rfl, rfl⟩, fun _ => rfl⟩ hS ?_
  simp only [List.setIfInBounds_toArray, List.set_cons_zero, List.set_cons_succ]
  refine anyHF_take (i := 38) (d := 53) (v := undef) (by kernel_rfl) rfl (by kernel_rfl) (by kernel_rfl) (by kernel_rfl) rfl (fun _ _ _ h => h) ⟨Or.inr ⟨by rfl, rfl⟩, fun _ => rfl⟩ hS ?_
  simp only [List.setIfInBounds_toArray, List.set_cons_zero, List.set_cons_succ]
  refine anyHF_take (i := 39) (d := 54) (v := undef) (by kernel_rfl) rfl (by kernel_rfl) (by kernel_rfl) (by kernel_rfl) rfl (fun _ _ _ h => h) ⟨Or.inr ⟨by rfl, rfl⟩, fun _ => rfl⟩ hS ?_
  simp only [List.setIfInBounds_toArray, List.set_cons_zero, List.set_cons_succ]
  refine anyHF_take (i := 40) (d := 55) (v := undef) (by kernel_rfl) rfl (by kernel_rfl) (by kernel_rfl) (by kernel_rfl) rfl (fun _ _ _ h => h) ⟨Or.inr ⟨by rfl, rfl⟩, fun _ => rfl⟩ hS ?_
  simp only [List.setIfInBounds_toArray, List.set_cons_zero, List.set_cons_succ]
  refine anyHF_take (i := 41) (d := 56) (v := undef) (by kernel_rfl) rfl (by kernel_rfl) (by kernel_rfl) (by kernel_rfl) rfl (fun _ _ _ h => h) ⟨Or.inr ⟨by rfl, rfl⟩, fun _ => rfl⟩ hS ?_
  simp only [List.setIfInBounds_toArray, List.set_cons_zero, List.set_cons_succ]
  refine anyHF_take (i := 42) (d := 57) (v := undef) (by kernel_rfl) rfl (by kernel_rfl) (by kernel_rfl) (by kernel_rfl) rfl (fun _ _ _ h => h) ⟨Or.inr ⟨by rfl, rfl⟩, fun _ => rfl⟩ hS ?_
  simp only [List.setIfInBounds_toArray, List.set_cons_zero, List.set_cons_succ]
  refine anyHF_take (i := 43) (d := 58) (v := undef) (by kernel_rfl) rfl (by kernel_rfl) (by kernel_rfl) (by kernel_rfl) rfl (fun _ _ _ h => h) ⟨Or.inr ⟨by rfl, rfl⟩, fun _ => rfl⟩ hS ?_
  simp only [List.setIfInBounds_toArray, List.set_cons_zero, List.set_cons_succ]
  refine anyHF_take (i := 44) (d := 59) (v := undef) (by kernel_rfl) rfl (by kernel_rfl) (by kernel_rfl) (by kernel_rfl) rfl (fun _ _ _ h => h) ⟨Or.inr ⟨by rfl, rfl⟩, fun _ => rfl⟩ hS ?_
  simp only [List.setIfInBounds_toArray, List.set_cons_zero, List.set_cons_succ]
  refine anyHF_take (i := 45) (d := 60) (v := undef) (by kernel_rfl) rfl (by kernel_rfl) (by kernel_rfl) (by kernel_rfl) rfl (fun _ _ _ h => h) ⟨Or.inr ⟨by rfl, rfl⟩, fun _ => rfl⟩ hS ?_
  simp only [List.setIfInBounds_toArray, List.set_cons_zero, List.set_cons_succ]
  refine anyHF_take (i := 46) (d := 61) (v := undef) (by kernel_rfl) rfl (by kernel_rfl) (by kernel_rfl) (by kernel_rfl) rfl (fun _ _ _ h => h) ⟨Or.inr ⟨by rfl, rfl⟩, fun _ => rfl⟩ hS ?_
  simp only [List.setIfInBounds_toArray, List.set_cons_zero, List.set_cons_succ]
  refine anyHF_take (i := 47) (d := 62) (v := undef) (by kernel_rfl) rfl (by kernel_rfl) (by kernel_rfl) (by kernel_rfl) rfl (fun _ _ _ h => h) ⟨Or.inr ⟨by rfl, rfl⟩, fun _ => rfl⟩ hS ?_
  simp only [List.setIfInBounds_toArray, List.set_cons_zero, List.set_cons_succ]
  refine anyHF_take (i := 48) (d := 63) (v := .bool true) (by kernel_rfl) rfl (by kernel_rfl) (by kernel_rfl) (by kernel_rfl) rfl (fun _ _ _ h => h) ⟨Or.inl ⟨by rfl, fun w hS => by obtain ⟨h0, h1⟩ := hS; go_simp⟩, fun _ => rfl⟩ hS ?_
  simp only [List.setIfInBounds_toArray, List.set_cons_zero, List.set_cons_succ]
  refine anyHF_take (i := 49) (d := 64) (v := .bool true) (by kernel_rfl) rfl (by kernel_rfl) (by kernel_rfl) (by kernel_rfl) rfl (fun _ _ _ h => h) ⟨Or.inl ⟨by rfl, fun w hS => by obtain ⟨h0, h1⟩ := hS; go_simp⟩, fun _ => rfl⟩ hS ?_
  simp only [List.setIfInBounds_toArray, List.set_cons_zero, List.set_cons_succ]
  refine anyHF_take (i := 50) (d := 65) (v := undef) (by kernel_rfl) rfl (by kernel_rfl) (by kernel_rfl) (by kernel_rfl) rfl (fun _ _ _ h => h) ⟨Or.inr ⟨by rfl, rfl⟩, fun _ => rfl⟩ hS ?_
  simp only [List.setIfInBounds_toArray, List.set_cons_zero, List.set_cons_succ]
  refine anyHF_take (i := 51) (d := 66) (v := undef) (by kernel_rfl) rfl (by kernel_rfl) (by kernel_rfl) (by kernel_rfl) rfl (fun _ _ _ h => h) ⟨Or.inr ⟨by rfl, rfl⟩, fun _ => rfl⟩ hS ?_
  simp only [List.setIfInBounds_toArray, List.set_cons_zero, List.set_cons_succ]
  refine anyHF_take (i := 52) (d := 67) (v := undef) (by kernel_rfl) rfl (by kernel_rfl) (by kernel_rfl) (by kernel_rfl) rfl (fun _ _ _ h => h) ⟨Or.inr ⟨by rfl, rfl⟩, fun _ => rfl⟩ hS ?_
  simp only [List.setIfInBounds_toArray, List.set_cons_zero, List.set_cons_succ]
  refine anyHF_take (i := 53) (d := 68) (v := undef) (by kernel_rfl) rfl (by kernel_rfl) (by kernel_rfl) (by kernel_rfl) rfl (fun _ _ _ h => h) ⟨Or.inr ⟨by rfl, rfl⟩, fun _ => rfl⟩ hS ?_
  simp only [List.setIfInBounds_toArray, List.set_cons_zero, List.set_cons_succ]
  refine anyHF_take (i := 54) (d := 69) (v := undef) (by kernel_rfl) rfl (by kernel_rfl) (by kernel_rfl) (by kernel_rfl) rfl (fun _ _ _ h => h) ⟨Or.inr ⟨by rfl, rfl⟩, fun _ => rfl⟩ hS ?_
  simp only [List.setIfInBounds_toArray, List.set_cons_zero, List.set_cons_succ]
  refine anyHF_skip (i := 55) (d := 70) (by kernel_rfl) rfl (by rfl) rfl wide_fn hS ?_
  simp only [List.setIfInBounds_toArray, List.set_cons_zero, List.set_cons_succ]
  refine anyHF_take (i := 56) (d := 71) (v := undef) (by kernel_rfl) rfl (by kernel_rfl) (by kernel_rfl) (by kernel_rfl) rfl (fun _ _ _ h => h) ⟨Or.inr ⟨by rfl, rfl⟩, fun _ => rfl⟩ hS ?_
  simp only [List.setIfInBounds_toArray, List.set_cons_zero, List.set_cons_succ]
  refine anyHF_take (i := 57) (d := 72) (v := .bool true) (by kernel_rfl) rfl (by kernel_rfl) (by kernel_rfl) (by kernel_rfl) rfl (fun _ _ _ h => h) ⟨Or.inl ⟨by rfl, fun w hS => by obtain ⟨h0, h1⟩ := hS; go_simp⟩, fun _ => rfl⟩ hS ?_
  simp only [List.setIfInBounds_toArray, List.set_cons_zero, List.set_cons_succ]
  refine anyHF_done (by kernel_rfl) ?_ _
  refine NoPanic.normal ?_
  clear hS
  go_wp2_with fail
  refine (works12_any _ (HLW.out _ (below_in hB0 hB))).mono ?_
  rintro e w1 ⟨rfl, hB1⟩
  go_wp2
  go_ret
  exact ⟨rfl, below_in (below_in hB0 hB) hB1⟩

open Go.Proofs.YtcchjofjpflbhaaGreatDoor.E Go.Proofs.YtcchjofjpflbhaaGreatDoor.C Go.Proofs.YtcchjofjpflbhaaGreatDoor.T Go.Proofs.YtcchjofjpflbhaaGreatDoor.Ch in
set_option maxRecDepth 100000 in
set_option maxHeartbeats 4000000 in
theorem n5 (p : Int) (v : Value) (a : List (List (List UInt8))) (v2 : Value) (b : List (List (List UInt8))) (x0 x1 : Int) (w : World) (hL : Laid w) (wp : -9223372036854775808 ≤ p ∧ p ≤ 9223372036854775807) (hC : Cols w.heap.size w v a) (hD : Cols w.heap.size w v2 b) (wx : -9223372036854775808 ≤ x0 ∧ x0 ≤ 9223372036854775807) (wy : -9223372036854775808 ≤ x1 ∧ x1 ≤ 9223372036854775807) (hf0 : Few6 a) (hf1 : Few6 b) (hr0 : RightD p a) (hr1 : RightD p b) (hna : (a.length : Int) ≠ p + 1) :
    Calls Tryz.prog 8 #[.int .i64 p, v, v2, .agg #[.int .i64 x0, .int .i64 x1]] w fun e w' => e = .returned (.bool true) ∧ Below w.heap.size w w' := by
  obtain ⟨A, cap, rfl, _, _⟩ := id hC
  obtain ⟨A', cap', rfl, _, _⟩ := id hD
  obtain ⟨w0, hw0⟩ : ∃ x, w.alloc (.cells #[.int .i64 x0, .int .i64 x1] 22) = x := ⟨_, rfl⟩
  obtain ⟨g0, hg0⟩ : ∃ g, w.heap.size = g := ⟨_, rfl⟩
  have b0 : Blk w0 g0 22 #[.int .i64 x0, .int .i64 x1] := by rw [← hw0, ← hg0]; exact Blk.new w _ _
  have hB0 : Below w.heap.size w w0 := by rw [← hw0]; exact below_one w _
  have HW0 := Lib.hid hw0
  have HG0 := Lib.hid hg0
  have HLW := Lib.hid (fun (U : World) (hU : Below w.heap.size w U) => hL.next hU)
  have HF0 := Lib.hid (fun (U : World) (hU : Below w0.heap.size w0 U) => few6_any _ a U (hC.below (below_in hB0 hU)) true (by simp [hf0]))
  have HF1 := Lib.hid (fun (U : World) (hU : Below w0.heap.size w0 U) => few6_any _ b U (hD.below (below_in hB0 hU)) true (by simp [hf1]))
  have HR0 := Lib.hid (fun (U : World) (hU : Below w0.heap.size w0 U) => right6_any p _ a U (below_in hB0 hU).size (hC.below (below_in hB0 hU)) (by have := hf0.1; omega) true (by simp [hr0]))
  have HR1 := Lib.hid (fun (U : World) (hU : Below w0.heap.size w0 U) => right6_any p _ b U (below_in hB0 hU).size (hD.below (below_in hB0 hU)) (by have := hf1.1; omega) true (by simp [hr1]))
  have hpb0 := prm_bounds hr0.1
  have hw2 : IntKind.i64.wrap (p + 1) = p + 1 := IntWalk.i64_in _ (by omega)
  have HSS : Hid (∀ U, Below w0.heap.size w0 U → (fun U : World => U.cell? ⟨g0, 0, none⟩ = some (.int .i64 x0) ∧ U.cell? ⟨g0, 1, none⟩ = some (.int .i64 x1)) U) := fun U hU => by
      have h0 := b0.below hU b0.lt
      have hx := below_in hB0 hU
      exact ⟨h0.cell 0, h0.cell 1⟩
  have hne : ((a.length : Int) != p + 1) = true := bne_iff_ne.2 hna
  clear hf0 hf1 hr0 hr1 hC hD b0 hpb0 hna
  clear hw0 hg0 hL
  generalize a.length = na at *
  generalize b.length = nb at *
  go_enter Tryz.func8, Tryz.ntmps8
  go_wp2_with fail
  rw [HW0.out]
  (try rw [HG0.out])
  have hB : Below w0.heap.size w0 w0.drew := (Below.refl _ _).drew
  have hS : (fun U : World => U.cell? ⟨g0, 0, none⟩ = some (.int .i64 x0) ∧ U.cell? ⟨g0, 1, none⟩ = some (.int .i64 x1)) w0.drew := HSS.out _ hB
  refine (wpIn_wide (n := 12)).1 (wpIn_mono (region_HF (Q := NoPanic _) (S := (fun U : World => U.cell? ⟨g0, 0, none⟩ = some (.int .i64 x0) ∧ U.cell? ⟨g0, 1, none⟩ = some (.int .i64 x1))) (by kernel_rfl) ?_) NoPanic.imp)
  refine anyHF_take (i := 0) (d := 15) (v := .slice A na cap) (by kernel_rfl) rfl (by kernel_rfl) (by kernel_rfl) (by kernel_rfl) rfl (fun _ _ _ h => h) ⟨Or.inl ⟨by rfl, fun w hS => by obtain ⟨h0, h1⟩ := hS; go_simp⟩, fun _ => rfl⟩ hS ?_
  simp only [List.setIfInBounds_toArray, List.set_cons_zero, List.set_cons_succ]
  refine anyHF_one (i := 1) (by kernel_rfl) rfl (by kernel_rfl) (by rfl) ?_
  gi_wp2_with fail
  refine ⟨trivial, (callsIn_wide.2 (HF0.out _ hB)).mono ?_⟩
  rintro e wn ⟨rfl, rfl⟩
  gi_wp2
  try (refine ⟨hS, ?_⟩)
  refine anyHF_take (i := 2) (d := 17) (v := .bool false) (by kernel_rfl) rfl (by kernel_rfl) (by kernel_rfl) (by kernel_rfl) rfl (fun _ _ _ h => h) ⟨Or.inl ⟨by rfl, fun w hS => by obtain ⟨h0, h1⟩ := hS; go_simp⟩, fun _ => rfl⟩ hS ?_
  simp only [List.setIfInBounds_toArray, List.set_cons_zero, List.set_cons_succ]
  refine anyHF_take (i := 3) (d := 18) (v := .bool false) (by kernel_rfl) rfl (by kernel_rfl) (by kernel_rfl) (by kernel_rfl) rfl (fun _ _ _ h => h) ⟨Or.inl ⟨by rfl, fun w hS => by obtain ⟨h0, h1⟩ := hS; go_simp⟩, fun _ => rfl⟩ hS ?_
  simp only [List.setIfInBounds_toArray, List.set_cons_zero, List.set_cons_succ]
  refine anyHF_take (i := 4) (d := 19) (v := .slice A' nb cap') (by kernel_rfl) rfl (by kernel_rfl) (by kernel_rfl) (by kernel_rfl) rfl (fun _ _ _ h => h) ⟨Or.inl ⟨by rfl, fun w hS => by obtain ⟨h0, h1⟩ := hS; go_simp⟩, fun _ => rfl⟩ hS ?_
  simp only [List.setIfInBounds_toArray, List.set_cons_zero, List.set_cons_succ]
  refine anyHF_one (i := 5) (by kernel_rfl) rfl (by kernel_rfl) (by rfl) ?_
  gi_wp2_with fail
  refine ⟨trivial, (callsIn_wide.2 (HF1.out _ hB)).mono ?_⟩
  rintro e wn ⟨rfl, rfl⟩
  gi_wp2
  try (refine ⟨hS, ?_⟩)
  refine anyHF_take (i := 6) (d := 21) (v := .bool false) (by kernel_rfl) rfl (by kernel_rfl) (by kernel_rfl) (by kernel_rfl) rfl (fun _ _ _ h => h) ⟨Or.inl ⟨by rfl, fun w hS => by obtain ⟨h0, h1⟩ := hS; go_simp⟩, fun _ => rfl⟩ hS ?_
  simp only [List.setIfInBounds_toArray, List.set_cons_zero, List.set_cons_succ]
  refine anyHF_take (i := 7) (d := 22) (v := .bool false) (by kernel_rfl) rfl (by kernel_rfl) (by kernel_rfl) (by kernel_rfl) rfl (fun _ _ _ h => h) ⟨Or.inl ⟨by rfl, fun w hS => by obtain ⟨h0, h1⟩ := hS; go_simp⟩, fun _ => rfl⟩ hS ?_
  simp only [List.setIfInBounds_toArray, List.set_cons_zero, List.set_cons_succ]
  refine anyHF_take (i := 8) (d := 23) (v := .bool false) (by kernel_rfl) rfl (by kernel_rfl) (by kernel_rfl) (by kernel_rfl) rfl (fun _ _ _ h => h) ⟨Or.inl ⟨by rfl, fun w hS => by obtain ⟨h0, h1⟩ := hS; go_simp⟩, fun _ => rfl⟩ hS ?_
  simp only [List.setIfInBounds_toArray, List.set_cons_zero, List.set_cons_succ]
  refine anyHF_take (i := 9) (d := 24) (v := .int .i64 p) (by kernel_rfl) rfl (by kernel_rfl) (by kernel_rfl) (by kernel_rfl) rfl (fun _ _ _ h => h) ⟨Or.inl ⟨by rfl, fun w hS => by obtain ⟨h0, h1⟩ := hS; go_simp⟩, fun _ => rfl⟩ hS ?_
  simp only [List.setIfInBounds_toArray, List.set_cons_zero, List.set_cons_succ]
  refine anyHF_take (i := 10) (d := 25) (v := .slice A na cap) (by kernel_rfl) rfl (by kernel_rfl) (by kernel_rfl) (by kernel_rfl) rfl (fun _ _ _ h => h) ⟨Or.inl ⟨by rfl, fun w hS => by obtain ⟨h0, h1⟩ := hS; go_simp⟩, fun _ => rfl⟩ hS ?_
  simp only [List.setIfInBounds_toArray, List.set_cons_zero, List.set_cons_succ]
  refine anyHF_one (i := 11) (by kernel_rfl) rfl (by kernel_rfl) (by rfl) ?_
  gi_wp2_with fail
  refine ⟨trivial, (callsIn_wide.2 (HR0.out _ hB)).mono ?_⟩
  rintro e wn ⟨rfl, hBn⟩
  replace hB := below_in hB hBn
  clear hBn
  clear hS
  have hS : (fun U : World => U.cell? ⟨g0, 0, none⟩ = some (.int .i64 x0) ∧ U.cell? ⟨g0, 1, none⟩ = some (.int .i64 x1)) wn := HSS.out _ hB
  gi_wp2
  try (refine ⟨hS, ?_⟩)
  refine anyHF_take (i := 12) (d := 27) (v := .bool false) (by kernel_rfl) rfl (by kernel_rfl) (by kernel_rfl) (by kernel_rfl) rfl (fun _ _ _ h => h) ⟨Or.inl ⟨by rfl, fun w hS => by obtain ⟨h0, h1⟩ := hS; go_simp⟩, fun _ => rfl⟩ hS ?_
  simp only [List.setIfInBounds_toArray, List.set_cons_zero, List.set_cons_succ]
  refine anyHF_take (i := 13) (d := 28) (v := .bool false) (by kernel_rfl) rfl (by kernel_rfl) (by kernel_rfl) (by kernel_rfl) rfl (fun _ _ _ h => h) ⟨Or.inl ⟨by rfl, fun w hS => by obtain ⟨h0, h1⟩ := hS; go_simp⟩, fun _ => rfl⟩ hS ?_
  simp only [List.setIfInBounds_toArray, List.set_cons_zero, List.set_cons_succ]
  refine anyHF_take (i := 14) (d := 29) (v := .bool false) (by kernel_rfl) rfl (by kernel_rfl) (by kernel_rfl) (by kernel_rfl) rfl (fun _ _ _ h => h) ⟨Or.inl ⟨by rfl, fun w hS => by obtain ⟨h0, h1⟩ := hS; go_simp⟩, fun _ => rfl⟩ hS ?_
  simp only [List.setIfInBounds_toArray, List.set_cons_zero, List.set_cons_succ]
  refine anyHF_take (i := 15) (d := 30) (v := .int .i64 p) (by kernel_rfl) rfl (by kernel_rfl) (by kernel_rfl) (by kernel_rfl) rfl (fun _ _ _ h => h) ⟨Or.inl ⟨by rfl, fun w hS => by obtain ⟨h0, h1⟩ := hS; go_simp⟩, fun _ => rfl⟩ hS ?_
  simp only [List.setIfInBounds_toArray, List.set_cons_zero, List.set_cons_succ]
  refine anyHF_take (i := 16) (d := 31) (v := .slice A' nb cap') (by kernel_rfl) rfl (by kernel_rfl) (by kernel_rfl) (by kernel_rfl) rfl (fun _ _ _ h => h) ⟨Or.inl ⟨by rfl, fun w hS => by obtain ⟨h0, h1⟩ := hS; go_simp⟩, fun _ => rfl⟩ hS ?_
  simp only [List.setIfInBounds_toArray, List.set_cons_zero, List.set_cons_succ]
  refine anyHF_one (i := 17) (by kernel_rfl) rfl (by kernel_rfl) (by rfl) ?_
  gi_wp2_with fail
  refine ⟨trivial, (callsIn_wide.2 (HR1.out _ hB)).mono ?_⟩
  rintro e wn ⟨rfl, hBn⟩
  replace hB := below_in hB hBn
  clear hBn
  clear hS
  have hS : (fun U : World => U.cell? ⟨g0, 0, none⟩ = some (.int .i64 x0) ∧ U.cell? ⟨g0, 1, none⟩ = some (.int .i64 x1)) wn := HSS.out _ hB
  gi_wp2
  try (refine ⟨hS, ?_⟩)
  refine anyHF_take (i := 18) (d := 33) (v := .bool false) (by kernel_rfl) rfl (by kernel_rfl) (by kernel_rfl) (by kernel_rfl) rfl (fun _ _ _ h => h) ⟨Or.inl ⟨by rfl, fun w hS => by obtain ⟨h0, h1⟩ := hS; go_simp⟩, fun _ => rfl⟩ hS ?_
  simp only [List.setIfInBounds_toArray, List.set_cons_zero, List.set_cons_succ]
  refine anyHF_take (i := 19) (d := 34) (v := .bool false) (by kernel_rfl) rfl (by kernel_rfl) (by kernel_rfl) (by kernel_rfl) rfl (fun _ _ _ h => h) ⟨Or.inl ⟨by rfl, fun w hS => by obtain ⟨h0, h1⟩ := hS; go_simp⟩, fun _ => rfl⟩ hS ?_
  simp only [List.setIfInBounds_toArray, List.set_cons_zero, List.set_cons_succ]
  refine anyHF_take (i := 20) (d := 35) (v := .bool false) (by kernel_rfl) rfl (by kernel_rfl) (by kernel_rfl) (by kernel_rfl) rfl (fun _ _ _ h => h) ⟨Or.inl ⟨by rfl, fun w hS => by obtain ⟨h0, h1⟩ := hS; go_simp⟩, fun _ => rfl⟩ hS ?_
  simp only [List.setIfInBounds_toArray, List.set_cons_zero, List.set_cons_succ]
  refine anyHF_take (i := 21) (d := 36) (v := .slice A na cap) (by kernel_rfl) rfl (by kernel_rfl) (by kernel_rfl) (by kernel_rfl) rfl (fun _ _ _ h => h) ⟨Or.inl ⟨by rfl, fun w hS => by obtain ⟨h0, h1⟩ := hS; go_simp⟩, fun _ => rfl⟩ hS ?_
  simp only [List.setIfInBounds_toArray, List.set_cons_zero, List.set_cons_succ]
  refine anyHF_take (i := 22) (d := 37) (v := .int .i64 (na : Int)) (by kernel_rfl) rfl (by kernel_rfl) (by kernel_rfl) (by kernel_rfl) rfl (fun _ _ _ h => h) ⟨Or.inl ⟨by rfl, fun w hS => by obtain ⟨h0, h1⟩ := hS; go_simp⟩, fun _ => rfl⟩ hS ?_
  simp only [List.setIfInBounds_toArray, List.set_cons_zero, List.set_cons_succ]
  refine anyHF_take (i := 23) (d := 38) (v := .int .i64 p) (by kernel_rfl) rfl (by kernel_rfl) (by kernel_rfl) (by kernel_rfl) rfl (fun _ _ _ h => h) ⟨Or.inl ⟨by rfl, fun w hS => by obtain ⟨h0, h1⟩ := hS; go_simp⟩, fun _ => rfl⟩ hS ?_
  simp only [List.setIfInBounds_toArray, List.set_cons_zero, List.set_cons_succ]
  refine anyHF_take (i := 24) (d := 39) (v := .int .i64 (p + 1)) (by kernel_rfl) rfl (by kernel_rfl) (by kernel_rfl) (by kernel_rfl) rfl (fun _ _ _ h => h) ⟨Or.inl ⟨by rfl, fun w hS => by obtain ⟨h0, h1⟩ := hS; go_simp⟩, fun _ => rfl⟩ hS ?_
  simp only [List.setIfInBounds_toArray, List.set_cons_zero, List.set_cons_succ]
  refine anyHF_take (i := 25) (d := 40) (v := .bool true) (by kernel_rfl) rfl (by kernel_rfl) (by kernel_rfl) (by kernel_rfl) rfl (fun _ _ _ h => h) ⟨Or.inl ⟨by rfl, fun w hS => by obtain ⟨h0, h1⟩ := hS; go_simp⟩, fun _ => rfl⟩ hS ?_
  simp only [List.setIfInBounds_toArray, List.set_cons_zero, List.set_cons_succ]
  refine anyHF_take (i := 26) (d := 41) (v := .bool true) (by kernel_rfl) rfl (by kernel_rfl) (by kernel_rfl) (by kernel_rfl) rfl (fun _ _ _ h => h) ⟨Or.inl ⟨by rfl, fun w hS => by obtain ⟨h0, h1⟩ := hS; go_simp⟩, fun _ => rfl⟩ hS ?_
  simp only [List.setIfInBounds_toArray, List.set_cons_zero, List.set_cons_succ]
  refine anyHF_take (i := 27) (d := 42) (v := .bool true) (by kernel_rfl) rfl (by kernel_rfl) (by kernel_rfl) (by kernel_rfl) rfl (fun _ _ _ h => h) ⟨Or.inl ⟨by rfl, fun w hS => by obtain ⟨h0, h1⟩ := hS; go_simp⟩, fun _ => rfl⟩ hS ?_
  simp only [List.setIfInBounds_toArray, List.set_cons_zero, List.set_cons_succ]
  refine anyHF_take (i := 28) (d := 43) (v := undef) (by kernel_rfl) rfl (by kernel_rfl) (by kernel_rfl) (by kernel_rfl) rfl (fun _ _ _ h => h) ⟨Or.inr ⟨by rfl, rfl⟩, fun _ => rfl⟩ hS ?_
  simp only [List.setIfInBounds_toArray, List.set_cons_zero, List.set_cons_succ]
  refine anyHF_take (i := 29) (d := 44) (v := undef) (by kernel_rfl) rfl (by kernel_rfl) (by kernel_rfl) (by kernel_rfl) rfl (fun _ _ _ h => h) ⟨Or.inr ⟨by rfl, rfl⟩, fun _ => rfl⟩ hS ?_
  simp only [List.setIfInBounds_toArray, List.set_cons_zero, List.set_cons_succ]
  refine anyHF_take (i := 30) (d := 45) (v := undef) (by kernel_rfl) rfl (by kernel_rfl) (by kernel_rfl) (by kernel_rfl) rfl (fun _ _ _ h => h) ⟨Or.inr ⟨by rfl, rfl⟩, fun _ => rfl⟩ hS ?_
  simp only [List.setIfInBounds_toArray, List.set_cons_zero, List.set_cons_succ]
  refine anyHF_take (i := 31) (d := 46) (v := undef) (by kernel_rfl) rfl (by kernel_rfl) (by kernel_rfl) (by kernel_rfl) rfl (fun _ _ _ h => h) ⟨Or.inr ⟨by rfl, rfl⟩, fun _ => rfl⟩ hS ?_
  simp only [List.setIfInBounds_toArray, List.set_cons_zero, List.set_cons_succ]
  refine anyHF_take (i := 32) (d := 47) (v := undef) (by kernel_rfl) rfl (by kernel_rfl) (by kernel_rfl) (by kernel_rfl) rfl (fun _ _ _ h => h) ⟨Or.inr ⟨by rfl, rfl⟩, fun _ => rfl⟩ hS ?_
  simp only [List.setIfInBounds_toArray, List.set_cons_zero, List.set_cons_succ]
  refine anyHF_take (i := 33) (d := 48) (v := .bool true) (by kernel_rfl) rfl (by kernel_rfl) (by kernel_rfl) (by kernel_rfl) rfl (fun _ _ _ h => h) ⟨Or.inl ⟨by rfl, fun w hS => by obtain ⟨h0, h1⟩ := hS; go_simp⟩, fun _ => rfl⟩ hS ?_
  simp only [List.setIfInBounds_toArray, List.set_cons_zero, List.set_cons_succ]
  refine anyHF_take (i := 34) (d := 49) (v := .bool true) (by kernel_rfl) rfl (by kernel_rfl) (by kernel_rfl) (by kernel_rfl) rfl (fun _ _ _ h => h) ⟨Or.inl ⟨by rfl, fun w hS => by obtain ⟨h0, h1⟩ := hS; go_simp⟩, fun _ => rfl⟩ hS ?_
  simp only [List.setIfInBounds_toArray, List.set_cons_zero, List.set_cons_succ]
  refine anyHF_take (i := 35) (d := 50) (v := undef) (by kernel_rfl) rfl (by kernel_rfl) (by kernel_rfl) (by kernel_rfl) rfl (fun _ _ _ h => h) ⟨Or.inr ⟨by rfl, rfl⟩, fun _ => rfl⟩ hS ?_
  simp only [List.setIfInBounds_toArray, List.set_cons_zero, List.set_cons_succ]
  refine anyHF_take (i := 36) (d := 51) (v := undef) (by kernel_rfl) rfl (by kernel_rfl) (by kernel_rfl) (by kernel_rfl) rfl (fun _ _ _ h => h) ⟨Or.inr ⟨by rfl, rfl⟩, fun _ => rfl⟩ hS ?_
  simp only [List.setIfInBounds_toArray, List.set_cons_zero, List.set_cons_succ]
  refine anyHF_take (i := 37) (d := 52) (v := undef) (by kernel_rfl) rfl (by kernel_rfl) (by kernel_rfl) (by kernel_rfl) rfl (fun _ _ _ h => h) ⟨Or.inr ⟨by rfl, rfl⟩, fun _ => rfl⟩ hS ?_
  simp only [List.setIfInBounds_toArray, List.set_cons_zero, List.set_cons_succ]
  refine anyHF_take (i := 38) (d := 53) (v := undef) (by kernel_rfl) rfl (by kernel_rfl) (by kernel_rfl) (by kernel_rfl) rfl (fun _ _ _ h => h) ⟨Or.inr ⟨by rfl, rfl⟩, fun _ => rfl⟩ hS ?_
  simp only [List.setIfInBounds_toArray, List.set_cons_zero, List.set_cons_succ]
  refine anyHF_take (i := 39) (d := 54) (v := undef) (by kernel_rfl) rfl (by kernel_rfl) (by kernel_rfl) (by kernel_rfl) rfl (fun _ _ _ h => h) ⟨Or.inr ⟨by rfl, rfl⟩, fun _ => rfl⟩ hS ?_
  simp only [List.setIfInBounds_toArray, List.set_cons_zero, List.set_cons_succ]
  refine anyHF_take (i := 40) (d := 55) (v := undef) (by kernel_rfl) rfl (by kernel_rfl) (by kernel_rfl) (by kernel_rfl) rfl (fun _ _ _ h => h) ⟨Or.inr ⟨by rfl, rfl⟩, fun _ => rfl⟩ hS ?_
  simp only [List.setIfInBounds_toArray, List.set_cons_zero, List.set_cons_succ]
  refine anyHF_take (i := 41) (d := 56) (v := undef) (by kernel_rfl) rfl (by kernel_rfl) (by kernel_rfl) (by kernel_rfl) rfl (fun _ _ _ h => h) ⟨Or.inr ⟨by rfl, rfl⟩, fun _ => rfl⟩ hS ?_
  simp only [List.setIfInBounds_toArray, List.set_cons_zero, List.set_cons_succ]
  refine anyHF_take (i := 42) (d := 57) (v := undef) (by kernel_rfl) rfl (by kernel_rfl) (by kernel_rfl) (by kernel_rfl) rfl (fun _ _ _ h => h) ⟨Or.inr ⟨by rfl, rfl⟩, fun _ => rfl⟩ hS ?_
  simp only [List.setIfInBounds_toArray, List.set_cons_zero, List.set_cons_succ]
  refine anyHF_take (i := 43) (d := 58) (v := undef) (by kernel_rfl) rfl (by kernel_rfl) (by kernel_rfl) (by kernel_rfl) rfl (fun _ _ _ h => h) ⟨Or.inr ⟨by rfl, rfl⟩, fun _ => rfl⟩ hS ?_
  simp only [List.setIfInBounds_toArray, List.set_cons_zero, List.set_cons_succ]
  refine anyHF_take (i := 44) (d := 59) (v := undef) (by kernel_rfl) rfl (by kernel_rfl) (by kernel_rfl) (by kernel_rfl) rfl (fun _ _ _ h => h) ⟨Or.inr ⟨by rfl, rfl⟩, fun _ => rfl⟩ hS ?_
  simp only [List.setIfInBounds_toArray, List.set_cons_zero, List.set_cons_succ]
  refine anyHF_take (i := 45) (d := 60) (v := undef) (by kernel_rfl) rfl (by kernel_rfl) (by kernel_rfl) (by kernel_rfl) rfl (fun _ _ _ h => h) ⟨Or.inr ⟨by rfl, rfl⟩, fun _ => rfl⟩ hS ?_
  simp only [List.setIfInBounds_toArray, List.set_cons_zero, List.set_cons_succ]
  refine anyHF_take (i := 46) (d := 61) (v := undef) (by kernel_rfl) rfl (by kernel_rfl) (by kernel_rfl) (by kernel_rfl) rfl (fun _ _ _ h => h) ⟨Or.inr ⟨by rfl, rfl⟩, fun _ => rfl⟩ hS ?_
  simp only [List.setIfInBounds_toArray, List.set_cons_zero, List.set_cons_succ]
  refine anyHF_take (i := 47) (d := 62) (v := undef) (by kernel_rfl) rfl (by kernel_rfl) (by kernel_rfl) (by kernel_rfl) rfl (fun _ _ _ h => h) ⟨Or.inr ⟨by rfl, rfl⟩, fun _ => rfl⟩ hS ?_
  simp only [List.setIfInBounds_toArray, List.set_cons_zero, List.set_cons_succ]
  refine anyHF_take (i := 48) (d := 63) (v := .bool true) (by kernel_rfl) rfl (by kernel_rfl) (by kernel_rfl) (by kernel_rfl) rfl (fun _ _ _ h => h) ⟨Or.inl ⟨by rfl, fun w hS => by obtain ⟨h0, h1⟩ := hS; go_simp⟩, fun _ => rfl⟩ hS ?_
  simp only [List.setIfInBounds_toArray, List.set_cons_zero, List.set_cons_succ]
  refine anyHF_take (i := 49) (d := 64) (v := .bool true) (by kernel_rfl) rfl (by kernel_rfl) (by kernel_rfl) (by kernel_rfl) rfl (fun _ _ _ h => h) ⟨Or.inl ⟨by rfl, fun w hS => by obtain ⟨h0, h1⟩ := hS; go_simp⟩, fun _ => rfl⟩ hS ?_
  simp only [List.setIfInBounds_toArray, List.set_cons_zero, List.set_cons_succ]
  refine anyHF_take (i := 50) (d := 65) (v := undef) (by kernel_rfl) rfl (by kernel_rfl) (by kernel_rfl) (by kernel_rfl) rfl (fun _ _ _ h => h) ⟨Or.inr ⟨by rfl, rfl⟩, fun _ => rfl⟩ hS ?_
  simp only [List.setIfInBounds_toArray, List.set_cons_zero, List.set_cons_succ]
  refine anyHF_take (i := 51) (d := 66) (v := undef) (by kernel_rfl) rfl (by kernel_rfl) (by kernel_rfl) (by kernel_rfl) rfl (fun _ _ _ h => h) ⟨Or.inr ⟨by rfl, rfl⟩, fun _ => rfl⟩ hS ?_
  simp only [List.setIfInBounds_toArray, List.set_cons_zero, List.set_cons_succ]
  refine anyHF_take (i := 52) (d := 67) (v := undef) (by kernel_rfl) rfl (by kernel_rfl) (by kernel_rfl) (by kernel_rfl) rfl (fun _ _ _ h => h) ⟨Or.inr ⟨by rfl, rfl⟩, fun _ => rfl⟩ hS ?_
  simp only [List.setIfInBounds_toArray, List.set_cons_zero, List.set_cons_succ]
  refine anyHF_take (i := 53) (d := 68) (v := undef) (by kernel_rfl) rfl (by kernel_rfl) (by kernel_rfl) (by kernel_rfl) rfl (fun _ _ _ h => h) ⟨Or.inr ⟨by rfl, rfl⟩, fun _ => rfl⟩ hS ?_
  simp only [List.setIfInBounds_toArray, List.set_cons_zero, List.set_cons_succ]
  refine anyHF_take (i := 54) (d := 69) (v := undef) (by kernel_rfl) rfl (by kernel_rfl) (by kernel_rfl) (by kernel_rfl) rfl (fun _ _ _ h => h) ⟨Or.inr ⟨by rfl, rfl⟩, fun _ => rfl⟩ hS ?_
  simp only [List.setIfInBounds_toArray, List.set_cons_zero, List.set_cons_succ]
  refine anyHF_skip (i := 55) (d := 70) (by kernel_rfl) rfl (by rfl) rfl wide_fn hS ?_
  simp only [List.setIfInBounds_toArray, List.set_cons_zero, List.set_cons_succ]
  refine anyHF_take (i := 56) (d := 71) (v := undef) (by kernel_rfl) rfl (by kernel_rfl) (by kernel_rfl) (by kernel_rfl) rfl (fun _ _ _ h => h) ⟨Or.inr ⟨by rfl, rfl⟩, fun _ => rfl⟩ hS ?_
  simp only [List.setIfInBounds_toArray, List.set_cons_zero, List.set_cons_succ]
  refine anyHF_take (i := 57) (d := 72) (v := .bool true) (by kernel_rfl) rfl (by kernel_rfl) (by kernel_rfl) (by kernel_rfl) rfl (fun _ _ _ h => h) ⟨Or.inl ⟨by rfl, fun w hS => by obtain ⟨h0, h1⟩ := hS; go_simp⟩, fun _ => rfl⟩ hS ?_
  simp only [List.setIfInBounds_toArray, List.set_cons_zero, List.set_cons_succ]
  refine anyHF_done (by kernel_rfl) ?_ _
  refine NoPanic.normal ?_
  clear hS
  go_wp2_with fail
  refine (works12_any _ (HLW.out _ (below_in hB0 hB))).mono ?_
  rintro e w1 ⟨rfl, hB1⟩
  go_wp2
  go_ret
  exact ⟨rfl, below_in (below_in hB0 hB) hB1⟩

open Go.Proofs.YtcchjofjpflbhaaGreatDoor.E Go.Proofs.YtcchjofjpflbhaaGreatDoor.C Go.Proofs.YtcchjofjpflbhaaGreatDoor.T Go.Proofs.YtcchjofjpflbhaaGreatDoor.Ch in
set_option maxRecDepth 100000 in
set_option maxHeartbeats 4000000 in
theorem n6 (p : Int) (v : Value) (a : List (List (List UInt8))) (v2 : Value) (b : List (List (List UInt8))) (x0 x1 : Int) (w : World) (hL : Laid w) (wp : -9223372036854775808 ≤ p ∧ p ≤ 9223372036854775807) (hC : Cols w.heap.size w v a) (hD : Cols w.heap.size w v2 b) (wx : -9223372036854775808 ≤ x0 ∧ x0 ≤ 9223372036854775807) (wy : -9223372036854775808 ≤ x1 ∧ x1 ≤ 9223372036854775807) (hf0 : Few6 a) (hf1 : Few6 b) (hr0 : RightD p a) (hr1 : RightD p b) (hna : (a.length : Int) = p + 1) (hnb : (b.length : Int) ≠ p + 1) :
    Calls Tryz.prog 8 #[.int .i64 p, v, v2, .agg #[.int .i64 x0, .int .i64 x1]] w fun e w' => e = .returned (.bool true) ∧ Below w.heap.size w w' := by
  obtain ⟨A, cap, rfl, _, _⟩ := id hC
  obtain ⟨A', cap', rfl, _, _⟩ := id hD
  obtain ⟨w0, hw0⟩ : ∃ x, w.alloc (.cells #[.int .i64 x0, .int .i64 x1] 22) = x := ⟨_, rfl⟩
  obtain ⟨g0, hg0⟩ : ∃ g, w.heap.size = g := ⟨_, rfl⟩
  have b0 : Blk w0 g0 22 #[.int .i64 x0, .int .i64 x1] := by rw [← hw0, ← hg0]; exact Blk.new w _ _
  have hB0 : Below w.heap.size w w0 := by rw [← hw0]; exact below_one w _
  have HW0 := Lib.hid hw0
  have HG0 := Lib.hid hg0
  have HLW := Lib.hid (fun (U : World) (hU : Below w.heap.size w U) => hL.next hU)
  have HF0 := Lib.hid (fun (U : World) (hU : Below w0.heap.size w0 U) => few6_any _ a U (hC.below (below_in hB0 hU)) true (by simp [hf0]))
  have HF1 := Lib.hid (fun (U : World) (hU : Below w0.heap.size w0 U) => few6_any _ b U (hD.below (below_in hB0 hU)) true (by simp [hf1]))
  have HR0 := Lib.hid (fun (U : World) (hU : Below w0.heap.size w0 U) => right6_any p _ a U (below_in hB0 hU).size (hC.below (below_in hB0 hU)) (by have := hf0.1; omega) true (by simp [hr0]))
  have HR1 := Lib.hid (fun (U : World) (hU : Below w0.heap.size w0 U) => right6_any p _ b U (below_in hB0 hU).size (hD.below (below_in hB0 hU)) (by have := hf1.1; omega) true (by simp [hr1]))
  have hpb0 := prm_bounds hr0.1
  have hw2 : IntKind.i64.wrap (p + 1) = p + 1 := IntWalk.i64_in _ (by omega)
  have HSS : Hid (∀ U, Below w0.heap.size w0 U → (fun U : World => U.cell? ⟨g0, 0, none⟩ = some (.int .i64 x0) ∧ U.cell? ⟨g0, 1, none⟩ = some (.int .i64 x1)) U) := fun U hU => by
      have h0 := b0.below hU b0.lt
      have hx := below_in hB0 hU
      exact ⟨h0.cell 0, h0.cell 1⟩
  have hne : ((a.length : Int) != p + 1) = false := by rw [hna]; simp
  have hne2 : ((b.length : Int) != p + 1) = true := bne_iff_ne.2 hnb
  clear hf0 hf1 hr0 hr1 hC hD b0 hpb0 hna hnb
  clear hw0 hg0 hL
  generalize a.length = na at *
  generalize b.length = nb at *
  go_enter Tryz.func8, Tryz.ntmps8
  go_wp2_with fail
  rw [HW0.out]
  (try rw [HG0.out])
  have hB : Below w0.heap.size w0 w0.drew := (Below.refl _ _).drew
  have hS : (fun U : World => U.cell? ⟨g0, 0, none⟩ = some (.int .i64 x0) ∧ U.cell? ⟨g0, 1, none⟩ = some (.int .i64 x1)) w0.drew := HSS.out _ hB
  refine (wpIn_wide (n := 12)).1 (wpIn_mono (region_HF (Q := NoPanic _) (S := (fun U : World => U.cell? ⟨g0, 0, none⟩ = some (.int .i64 x0) ∧ U.cell? ⟨g0, 1, none⟩ = some (.int .i64 x1))) (by kernel_rfl) ?_) NoPanic.imp)
  refine anyHF_take (i := 0) (d := 15) (v := .slice A na cap) (by kernel_rfl) rfl (by kernel_rfl) (by kernel_rfl) (by kernel_rfl) rfl (fun _ _ _ h => h) ⟨Or.inl ⟨by rfl, fun w hS => by obtain ⟨h0, h1⟩ := hS; go_simp⟩, fun _ => rfl⟩ hS ?_
  simp only [List.setIfInBounds_toArray, List.set_cons_zero, List.set_cons_succ]
  refine anyHF_one (i := 1) (by kernel_rfl) rfl (by kernel_rfl) (by rfl) ?_
  gi_wp2_with fail
  refine ⟨trivial, (callsIn_wide.2 (HF0.out _ hB)).mono ?_⟩
  rintro e wn ⟨rfl, rfl⟩
  gi_wp2
  try (refine ⟨hS, ?_⟩)
  refine anyHF_take (i := 2) (d := 17) (v := .bool false) (by kernel_rfl) rfl (by kernel_rfl) (by kernel_rfl) (by kernel_rfl) rfl (fun _ _ _ h => h) ⟨Or.inl ⟨by rfl, fun w hS => by obtain ⟨h0, h1⟩ := hS; go_simp⟩, fun _ => rfl⟩ hS ?_
  simp only [List.setIfInBounds_toArray, List.set_cons_zero, List.set_cons_succ]
  refine anyHF_take (i := 3) (d := 18) (v := .bool false) (by kernel_rfl) rfl (by kernel_rfl) (by kernel_rfl) (by kernel_rfl) rfl (fun _ _ _ h => h) ⟨Or.inl ⟨by rfl, fun w hS => by obtain ⟨h0, h1⟩ := hS; go_simp⟩, fun _ => rfl⟩ hS ?_
  simp only [List.setIfInBounds_toArray, List.set_cons_zero, List.set_cons_succ]
  refine anyHF_take (i := 4) (d := 19) (v := .slice A' nb cap') (by kernel_rfl) rfl (by kernel_rfl) (by kernel_rfl) (by kernel_rfl) rfl (fun _ _ _ h => h) ⟨Or.inl ⟨by rfl, fun w hS => by obtain ⟨h0, h1⟩ := hS; go_simp⟩, fun _ => rfl⟩ hS ?_
  simp only [List.setIfInBounds_toArray, List.set_cons_zero, List.set_cons_succ]
  refine anyHF_one (i := 5) (by kernel_rfl) rfl (by kernel_rfl) (by rfl) ?_
  gi_wp2_with fail
  refine ⟨trivial, (callsIn_wide.2 (HF1.out _ hB)).mono ?_⟩
  rintro e wn ⟨rfl, rfl⟩
  gi_wp2
  try (refine ⟨hS, ?_⟩)
  refine anyHF_take (i := 6) (d := 21) (v := .bool false) (by kernel_rfl) rfl (by kernel_rfl) (by kernel_rfl) (by kernel_rfl) rfl (fun _ _ _ h => h) ⟨Or.inl ⟨by rfl, fun w hS => by obtain ⟨h0, h1⟩ := hS; go_simp⟩, fun _ => rfl⟩ hS ?_
  simp only [List.setIfInBounds_toArray, List.set_cons_zero, List.set_cons_succ]
  refine anyHF_take (i := 7) (d := 22) (v := .bool false) (by kernel_rfl) rfl (by kernel_rfl) (by kernel_rfl) (by kernel_rfl) rfl (fun _ _ _ h => h) ⟨Or.inl ⟨by rfl, fun w hS => by obtain ⟨h0, h1⟩ := hS; go_simp⟩, fun _ => rfl⟩ hS ?_
  simp only [List.setIfInBounds_toArray, List.set_cons_zero, List.set_cons_succ]
  refine anyHF_take (i := 8) (d := 23) (v := .bool false) (by kernel_rfl) rfl (by kernel_rfl) (by kernel_rfl) (by kernel_rfl) rfl (fun _ _ _ h => h) ⟨Or.inl ⟨by rfl, fun w hS => by obtain ⟨h0, h1⟩ := hS; go_simp⟩, fun _ => rfl⟩ hS ?_
  simp only [List.setIfInBounds_toArray, List.set_cons_zero, List.set_cons_succ]
  refine anyHF_take (i := 9) (d := 24) (v := .int .i64 p) (by kernel_rfl) rfl (by kernel_rfl) (by kernel_rfl) (by kernel_rfl) rfl (fun _ _ _ h => h) ⟨Or.inl ⟨by rfl, fun w hS => by obtain ⟨h0, h1⟩ := hS; go_simp⟩, fun _ => rfl⟩ hS ?_
  simp only [List.setIfInBounds_toArray, List.set_cons_zero, List.set_cons_succ]
  refine anyHF_take (i := 10) (d := 25) (v := .slice A na cap) (by kernel_rfl) rfl (by kernel_rfl) (by kernel_rfl) (by kernel_rfl) rfl (fun _ _ _ h => h) ⟨Or.inl ⟨by rfl, fun w hS => by obtain ⟨h0, h1⟩ := hS; go_simp⟩, fun _ => rfl⟩ hS ?_
  simp only [List.setIfInBounds_toArray, List.set_cons_zero, List.set_cons_succ]
  refine anyHF_one (i := 11) (by kernel_rfl) rfl (by kernel_rfl) (by rfl) ?_
  gi_wp2_with fail
  refine ⟨trivial, (callsIn_wide.2 (HR0.out _ hB)).mono ?_⟩
  rintro e wn ⟨rfl, hBn⟩
  replace hB := below_in hB hBn
  clear hBn
  clear hS
  have hS : (fun U : World => U.cell? ⟨g0, 0, none⟩ = some (.int .i64 x0) ∧ U.cell? ⟨g0, 1, none⟩ = some (.int .i64 x1)) wn := HSS.out _ hB
  gi_wp2
  try (refine ⟨hS, ?_⟩)
  refine anyHF_take (i := 12) (d := 27) (v := .bool false) (by kernel_rfl) rfl (by kernel_rfl) (by kernel_rfl) (by kernel_rfl) rfl (fun _ _ _ h => h) ⟨Or.inl ⟨by rfl, fun w hS => by obtain ⟨h0, h1⟩ := hS; go_simp⟩, fun _ => rfl⟩ hS ?_
  simp only [List.setIfInBounds_toArray, List.set_cons_zero, List.set_cons_succ]
  refine anyHF_take (i := 13) (d := 28) (v := .bool false) (by kernel_rfl) rfl (by kernel_rfl) (by kernel_rfl) (by kernel_rfl) rfl (fun _ _ _ h => h) ⟨Or.inl ⟨by rfl, fun w hS => by obtain ⟨h0, h1⟩ := hS; go_simp⟩, fun _ => rfl⟩ hS ?_
  simp only [List.setIfInBounds_toArray, List.set_cons_zero, List.set_cons_succ]
  refine anyHF_take (i := 14) (d := 29) (v := .bool false) (by kernel_rfl) rfl (by kernel_rfl) (by kernel_rfl) (by kernel_rfl) rfl (fun _ _ _ h => h) ⟨Or.inl ⟨by rfl, fun w hS => by obtain ⟨h0, h1⟩ := hS; go_simp⟩, fun _ => rfl⟩ hS ?_
  simp only [List.setIfInBounds_toArray, List.set_cons_zero, List.set_cons_succ]
  refine anyHF_take (i := 15) (d := 30) (v := .int .i64 p) (by kernel_rfl) rfl (by kernel_rfl) (by kernel_rfl) (by kernel_rfl) rfl (fun _ _ _ h => h) ⟨Or.inl ⟨by rfl, fun w hS => by obtain ⟨h0, h1⟩ := hS; go_simp⟩, fun _ => rfl⟩ hS ?_
  simp only [List.setIfInBounds_toArray, List.set_cons_zero, List.set_cons_succ]
  refine anyHF_take (i := 16) (d := 31) (v := .slice A' nb cap') (by kernel_rfl) rfl (by kernel_rfl) (by kernel_rfl) (by kernel_rfl) rfl (fun _ _ _ h => h) ⟨Or.inl ⟨by rfl, fun w hS => by obtain ⟨h0, h1⟩ := hS; go_simp⟩, fun _ => rfl⟩ hS ?_
  simp only [List.setIfInBounds_toArray, List.set_cons_zero, List.set_cons_succ]
  refine anyHF_one (i := 17) (by kernel_rfl) rfl (by kernel_rfl) (by rfl) ?_
  gi_wp2_with fail
  refine ⟨trivial, (callsIn_wide.2 (HR1.out _ hB)).mono ?_⟩
  rintro e wn ⟨rfl, hBn⟩
  replace hB := below_in hB hBn
  clear hBn
  clear hS
  have hS : (fun U : World => U.cell? ⟨g0, 0, none⟩ = some (.int .i64 x0) ∧ U.cell? ⟨g0, 1, none⟩ = some (.int .i64 x1)) wn := HSS.out _ hB
  gi_wp2
  try (refine ⟨hS, ?_⟩)
  refine anyHF_take (i := 18) (d := 33) (v := .bool false) (by kernel_rfl) rfl (by kernel_rfl) (by kernel_rfl) (by kernel_rfl) rfl (fun _ _ _ h => h) ⟨Or.inl ⟨by rfl, fun w hS => by obtain ⟨h0, h1⟩ := hS; go_simp⟩, fun _ => rfl⟩ hS ?_
  simp only [List.setIfInBounds_toArray, List.set_cons_zero, List.set_cons_succ]
  refine anyHF_take (i := 19) (d := 34) (v := .bool false) (by kernel_rfl) rfl (by kernel_rfl) (by kernel_rfl) (by kernel_rfl) rfl (fun _ _ _ h => h) ⟨Or.inl ⟨by rfl, fun w hS => by obtain ⟨h0, h1⟩ := hS; go_simp⟩, fun _ => rfl⟩ hS ?_
  simp only [List.setIfInBounds_toArray, List.set_cons_zero, List.set_cons_succ]
  refine anyHF_take (i := 20) (d := 35) (v := .bool false) (by kernel_rfl) rfl (by kernel_rfl) (by kernel_rfl) (by kernel_rfl) rfl (fun _ _ _ h => h) ⟨Or.inl ⟨by rfl, fun w hS => by obtain ⟨h0, h1⟩ := hS; go_simp⟩, fun _ => rfl⟩ hS ?_
  simp only [List.setIfInBounds_toArray, List.set_cons_zero, List.set_cons_succ]
  refine anyHF_take (i := 21) (d := 36) (v := .slice A na cap) (by kernel_rfl) rfl (by kernel_rfl) (by kernel_rfl) (by kernel_rfl) rfl (fun _ _ _ h => h) ⟨Or.inl ⟨by rfl, fun w hS => by obtain ⟨h0, h1⟩ := hS; go_simp⟩, fun _ => rfl⟩ hS ?_
  simp only [List.setIfInBounds_toArray, List.set_cons_zero, List.set_cons_succ]
  refine anyHF_take (i := 22) (d := 37) (v := .int .i64 (na : Int)) (by kernel_rfl) rfl (by kernel_rfl) (by kernel_rfl) (by kernel_rfl) rfl (fun _ _ _ h => h) ⟨Or.inl ⟨by rfl, fun w hS => by obtain ⟨h0, h1⟩ := hS; go_simp⟩, fun _ => rfl⟩ hS ?_
  simp only [List.setIfInBounds_toArray, List.set_cons_zero, List.set_cons_succ]
  refine anyHF_take (i := 23) (d := 38) (v := .int .i64 p) (by kernel_rfl) rfl (by kernel_rfl) (by kernel_rfl) (by kernel_rfl) rfl (fun _ _ _ h => h) ⟨Or.inl ⟨by rfl, fun w hS => by obtain ⟨h0, h1⟩ := hS; go_simp⟩, fun _ => rfl⟩ hS ?_
  simp only [List.setIfInBounds_toArray, List.set_cons_zero, List.set_cons_succ]
  refine anyHF_take (i := 24) (d := 39) (v := .int .i64 (p + 1)) (by kernel_rfl) rfl (by kernel_rfl) (by kernel_rfl) (by kernel_rfl) rfl (fun _ _ _ h => h) ⟨Or.inl ⟨by rfl, fun w hS => by obtain ⟨h0, h1⟩ := hS; go_simp⟩, fun _ => rfl⟩ hS ?_
  simp only [List.setIfInBounds_toArray, List.set_cons_zero, List.set_cons_succ]
  refine anyHF_take (i := 25) (d := 40) (v := .bool false) (by kernel_rfl) rfl (by kernel_rfl) (by kernel_rfl) (by kernel_rfl) rfl (fun _ _ _ h => h) ⟨Or.inl ⟨by rfl, fun w hS => by obtain ⟨h0, h1⟩ := hS; go_simp⟩, fun _ => rfl⟩ hS ?_
  simp only [List.setIfInBounds_toArray, List.set_cons_zero, List.set_cons_succ]
  refine anyHF_take (i := 26) (d := 41) (v := .bool false) (by kernel_rfl) rfl (by kernel_rfl) (by kernel_rfl) (by kernel_rfl) rfl (fun _ _ _ h => h) ⟨Or.inl ⟨by rfl, fun w hS => by obtain ⟨h0, h1⟩ := hS; go_simp⟩, fun _ => rfl⟩ hS ?_
  simp only [List.setIfInBounds_toArray, List.set_cons_zero, List.set_cons_succ]
  refine anyHF_take (i := 27) (d := 42) (v := .bool false) (by kernel_rfl) rfl (by kernel_rfl) (by kernel_rfl) (by kernel_rfl) rfl (fun _ _ _ h => h) ⟨Or.inl ⟨by rfl, fun w hS => by obtain ⟨h0, h1⟩ := hS; go_simp⟩, fun _ => rfl⟩ hS ?_
  simp only [List.setIfInBounds_toArray, List.set_cons_zero, List.set_cons_succ]
  refine anyHF_take (i := 28) (d := 43) (v := .slice A' nb cap') (by kernel_rfl) rfl (by kernel_rfl) (by kernel_rfl) (by kernel_rfl) rfl (fun _ _ _ h => h) ⟨Or.inl ⟨by rfl, fun w hS => by obtain ⟨h0, h1⟩ := hS; go_simp⟩, fun _ => rfl⟩ hS ?_
  simp only [List.setIfInBounds_toArray, List.set_cons_zero, List.set_cons_succ]
  refine anyHF_take (i := 29) (d := 44) (v := .int .i64 (nb : Int)) (by kernel_rfl) rfl (by kernel_rfl) (by kernel_rfl) (by kernel_rfl) rfl (fun _ _ _ h => h) ⟨Or.inl ⟨by rfl, fun w hS => by obtain ⟨h0, h1⟩ := hS; go_simp⟩, fun _ => rfl⟩ hS ?_
  simp only [List.setIfInBounds_toArray, List.set_cons_zero, List.set_cons_succ]
  refine anyHF_take (i := 30) (d := 45) (v := .int .i64 p) (by kernel_rfl) rfl (by kernel_rfl) (by kernel_rfl) (by kernel_rfl) rfl (fun _ _ _ h => h) ⟨Or.inl ⟨by rfl, fun w hS => by obtain ⟨h0, h1⟩ := hS; go_simp⟩, fun _ => rfl⟩ hS ?_
  simp only [List.setIfInBounds_toArray, List.set_cons_zero, List.set_cons_succ]
  refine anyHF_take (i := 31) (d := 46) (v := .int .i64 (p + 1)) (by kernel_rfl) rfl (by kernel_rfl) (by kernel_rfl) (by kernel_rfl) rfl (fun _ _ _ h => h) ⟨Or.inl ⟨by rfl, fun w hS => by obtain ⟨h0, h1⟩ := hS; go_simp⟩, fun _ => rfl⟩ hS ?_
  simp only [List.setIfInBounds_toArray, List.set_cons_zero, List.set_cons_succ]
  refine anyHF_take (i := 32) (d := 47) (v := .bool true) (by kernel_rfl) rfl (by kernel_rfl) (by kernel_rfl) (by kernel_rfl) rfl (fun _ _ _ h => h) ⟨Or.inl ⟨by rfl, fun w hS => by obtain ⟨h0, h1⟩ := hS; go_simp⟩, fun _ => rfl⟩ hS ?_
  simp only [List.setIfInBounds_toArray, List.set_cons_zero, List.set_cons_succ]
  refine anyHF_take (i := 33) (d := 48) (v := .bool true) (by kernel_rfl) rfl (by kernel_rfl) (by kernel_rfl) (by kernel_rfl) rfl (fun _ _ _ h => h) ⟨Or.inl ⟨by rfl, fun w hS => by obtain ⟨h0, h1⟩ := hS; go_simp⟩, fun _ => rfl⟩ hS ?_
  simp only [List.setIfInBounds_toArray, List.set_cons_zero, List.set_cons_succ]
  refine anyHF_take (i := 34) (d := 49) (v := .bool true) (by kernel_rfl) rfl (by kernel_rfl) (by kernel_rfl) (by kernel_rfl) rfl (fun _ _ _ h => h) ⟨Or.inl ⟨by rfl, fun w hS => by obtain ⟨h0, h1⟩ := hS; go_simp⟩, fun _ => rfl⟩ hS ?_
  simp only [List.setIfInBounds_toArray, List.set_cons_zero, List.set_cons_succ]
  refine anyHF_take (i := 35) (d := 50) (v := undef) (by kernel_rfl) rfl (by kernel_rfl) (by kernel_rfl) (by kernel_rfl) rfl (fun _ _ _ h => h) ⟨Or.inr ⟨by rfl, rfl⟩, fun _ => rfl⟩ hS ?_
  simp only [List.setIfInBounds_toArray, List.set_cons_zero, List.set_cons_succ]
  refine anyHF_take (i := 36) (d := 51) (v := undef) (by kernel_rfl) rfl (by kernel_rfl) (by kernel_rfl) (by kernel_rfl) rfl (fun _ _ _ h => h) ⟨Or.inr ⟨by rfl, rfl⟩, fun _ => rfl⟩ hS ?_
  simp only [List.setIfInBounds_toArray, List.set_cons_zero, List.set_cons_succ]
  refine anyHF_take (i := 37) (d := 52) (v := undef) (by kernel_rfl) rfl (by kernel_rfl) (by kernel_rfl) (by kernel_rfl) rfl (fun _ _ _ h => h) ⟨Or.inr ⟨by rfl, rfl⟩, fun _ => rfl⟩ hS ?_
  simp only [List.setIfInBounds_toArray, List.set_cons_zero, List.set_cons_succ]
  refine anyHF_take (i := 38) (d := 53) (v := undef) (by kernel_rfl) rfl (by kernel_rfl) (by kernel_rfl) (by kernel_rfl) rfl (fun _ _ _ h => h) ⟨Or.inr ⟨by rfl, rfl⟩, fun _ => rfl⟩ hS ?_
  simp only [List.setIfInBounds_toArray, List.set_cons_zero, List.set_cons_succ]
  refine anyHF_take (i := 39) (d := 54) (v := undef) (by kernel_rfl) rfl (by kernel_rfl) (by kernel_rfl) (by kernel_rfl) rfl (fun _ _ _ h => h) ⟨Or.inr ⟨by rfl, rfl⟩, fun _ => rfl⟩ hS ?_
  simp only [List.setIfInBounds_toArray, List.set_cons_zero, List.set_cons_succ]
  refine anyHF_take (i := 40) (d := 55) (v := undef) (by kernel_rfl) rfl (by kernel_rfl) (by kernel_rfl) (by kernel_rfl) rfl (fun _ _ _ h => h) ⟨Or.inr ⟨by rfl, rfl⟩, fun _ => rfl⟩ hS ?_
  simp only [List.setIfInBounds_toArray, List.set_cons_zero, List.set_cons_succ]
  refine anyHF_take (i := 41) (d := 56) (v := undef) (by kernel_rfl) rfl (by kernel_rfl) (by kernel_rfl) (by kernel_rfl) rfl (fun _ _ _ h => h) ⟨Or.inr ⟨by rfl, rfl⟩, fun _ => rfl⟩ hS ?_
  simp only [List.setIfInBounds_toArray, List.set_cons_zero, List.set_cons_succ]
  refine anyHF_take (i := 42) (d := 57) (v := undef) (by kernel_rfl) rfl (by kernel_rfl) (by kernel_rfl) (by kernel_rfl) rfl (fun _ _ _ h => h) ⟨Or.inr ⟨by rfl, rfl⟩, fun _ => rfl⟩ hS ?_
  simp only [List.setIfInBounds_toArray, List.set_cons_zero, List.set_cons_succ]
  refine anyHF_take (i := 43) (d := 58) (v := undef) (by kernel_rfl) rfl (by kernel_rfl) (by kernel_rfl) (by kernel_rfl) rfl (fun _ _ _ h => h) ⟨Or.inr ⟨by rfl, rfl⟩, fun _ => rfl⟩ hS ?_
  simp only [List.setIfInBounds_toArray, List.set_cons_zero, List.set_cons_succ]
  refine anyHF_take (i := 44) (d := 59) (v := undef) (by kernel_rfl) rfl (by kernel_rfl) (by kernel_rfl) (by kernel_rfl) rfl (fun _ _ _ h => h) ⟨Or.inr ⟨by rfl, rfl⟩, fun _ => rfl⟩ hS ?_
  simp only [List.setIfInBounds_toArray, List.set_cons_zero, List.set_cons_succ]
  refine anyHF_take (i := 45) (d := 60) (v := undef) (by kernel_rfl) rfl (by kernel_rfl) (by kernel_rfl) (by kernel_rfl) rfl (fun _ _ _ h => h) ⟨Or.inr ⟨by rfl, rfl⟩, fun _ => rfl⟩ hS ?_
  simp only [List.setIfInBounds_toArray, List.set_cons_zero, List.set_cons_succ]
  refine anyHF_take (i := 46) (d := 61) (v := undef) (by kernel_rfl) rfl (by kernel_rfl) (by kernel_rfl) (by kernel_rfl) rfl (fun _ _ _ h => h) ⟨Or.inr ⟨by rfl, rfl⟩, fun _ => rfl⟩ hS ?_
  simp only [List.setIfInBounds_toArray, List.set_cons_zero, List.set_cons_succ]
  refine anyHF_take (i := 47) (d := 62) (v := undef) (by kernel_rfl) rfl (by kernel_rfl) (by kernel_rfl) (by kernel_rfl) rfl (fun _ _ _ h => h) ⟨Or.inr ⟨by rfl, rfl⟩, fun _ => rfl⟩ hS ?_
  simp only [List.setIfInBounds_toArray, List.set_cons_zero, List.set_cons_succ]
  refine anyHF_take (i := 48) (d := 63) (v := .bool true) (by kernel_rfl) rfl (by kernel_rfl) (by kernel_rfl) (by kernel_rfl) rfl (fun _ _ _ h => h) ⟨Or.inl ⟨by rfl, fun w hS => by obtain ⟨h0, h1⟩ := hS; go_simp⟩, fun _ => rfl⟩ hS ?_
  simp only [List.setIfInBounds_toArray, List.set_cons_zero, List.set_cons_succ]
  refine anyHF_take (i := 49) (d := 64) (v := .bool true) (by kernel_rfl) rfl (by kernel_rfl) (by kernel_rfl) (by kernel_rfl) rfl (fun _ _ _ h => h) ⟨Or.inl ⟨by rfl, fun w hS => by obtain ⟨h0, h1⟩ := hS; go_simp⟩, fun _ => rfl⟩ hS ?_
  simp only [List.setIfInBounds_toArray, List.set_cons_zero, List.set_cons_succ]
  refine anyHF_take (i := 50) (d := 65) (v := undef) (by kernel_rfl) rfl (by kernel_rfl) (by kernel_rfl) (by kernel_rfl) rfl (fun _ _ _ h => h) ⟨Or.inr ⟨by rfl, rfl⟩, fun _ => rfl⟩ hS ?_
  simp only [List.setIfInBounds_toArray, List.set_cons_zero, List.set_cons_succ]
  refine anyHF_take (i := 51) (d := 66) (v := undef) (by kernel_rfl) rfl (by kernel_rfl) (by kernel_rfl) (by kernel_rfl) rfl (fun _ _ _ h => h) ⟨Or.inr ⟨by rfl, rfl⟩, fun _ => rfl⟩ hS ?_
  simp only [List.setIfInBounds_toArray, List.set_cons_zero, List.set_cons_succ]
  refine anyHF_take (i := 52) (d := 67) (v := undef) (by kernel_rfl) rfl (by kernel_rfl) (by kernel_rfl) (by kernel_rfl) rfl (fun _ _ _ h => h) ⟨Or.inr ⟨by rfl, rfl⟩, fun _ => rfl⟩ hS ?_
  simp only [List.setIfInBounds_toArray, List.set_cons_zero, List.set_cons_succ]
  refine anyHF_take (i := 53) (d := 68) (v := undef) (by kernel_rfl) rfl (by kernel_rfl) (by kernel_rfl) (by kernel_rfl) rfl (fun _ _ _ h => h) ⟨Or.inr ⟨by rfl, rfl⟩, fun _ => rfl⟩ hS ?_
  simp only [List.setIfInBounds_toArray, List.set_cons_zero, List.set_cons_succ]
  refine anyHF_take (i := 54) (d := 69) (v := undef) (by kernel_rfl) rfl (by kernel_rfl) (by kernel_rfl) (by kernel_rfl) rfl (fun _ _ _ h => h) ⟨Or.inr ⟨by rfl, rfl⟩, fun _ => rfl⟩ hS ?_
  simp only [List.setIfInBounds_toArray, List.set_cons_zero, List.set_cons_succ]
  refine anyHF_skip (i := 55) (d := 70) (by kernel_rfl) rfl (by rfl) rfl wide_fn hS ?_
  simp only [List.setIfInBounds_toArray, List.set_cons_zero, List.set_cons_succ]
  refine anyHF_take (i := 56) (d := 71) (v := undef) (by kernel_rfl) rfl (by kernel_rfl) (by kernel_rfl) (by kernel_rfl) rfl (fun _ _ _ h => h) ⟨Or.inr ⟨by rfl, rfl⟩, fun _ => rfl⟩ hS ?_
  simp only [List.setIfInBounds_toArray, List.set_cons_zero, List.set_cons_succ]
  refine anyHF_take (i := 57) (d := 72) (v := .bool true) (by kernel_rfl) rfl (by kernel_rfl) (by kernel_rfl) (by kernel_rfl) rfl (fun _ _ _ h => h) ⟨Or.inl ⟨by rfl, fun w hS => by obtain ⟨h0, h1⟩ := hS; go_simp⟩, fun _ => rfl⟩ hS ?_
  simp only [List.setIfInBounds_toArray, List.set_cons_zero, List.set_cons_succ]
  refine anyHF_done (by kernel_rfl) ?_ _
  refine NoPanic.normal ?_
  clear hS
  go_wp2_with fail
  refine (works12_any _ (HLW.out _ (below_in hB0 hB))).mono ?_
  rintro e w1 ⟨rfl, hB1⟩
  go_wp2
  go_ret
  exact ⟨rfl, below_in (below_in hB0 hB) hB1⟩

open Go.Proofs.YtcchjofjpflbhaaGreatDoor.E Go.Proofs.YtcchjofjpflbhaaGreatDoor.C Go.Proofs.YtcchjofjpflbhaaGreatDoor.T Go.Proofs.YtcchjofjpflbhaaGreatDoor.Ch in
set_option maxRecDepth 100000 in
set_option maxHeartbeats 4000000 in
theorem n7 (p : Int) (v : Value) (a : List (List (List UInt8))) (v2 : Value) (b : List (List (List UInt8))) (x0 x1 : Int) (w : World) (hL : Laid w) (wp : -9223372036854775808 ≤ p ∧ p ≤ 9223372036854775807) (hC : Cols w.heap.size w v a) (hD : Cols w.heap.size w v2 b) (wx : -9223372036854775808 ≤ x0 ∧ x0 ≤ 9223372036854775807) (wy : -9223372036854775808 ≤ x1 ∧ x1 ≤ 9223372036854775807) (hf0 : Few6 a) (hf1 : Few6 b) (hr0 : RightD p a) (hr1 : RightD p b) (hna : (a.length : Int) = p + 1) (hnb : (b.length : Int) = p + 1) (hl : ¬ (firstC a).length = (firstC b).length) :
    Calls Tryz.prog 8 #[.int .i64 p, v, v2, .agg #[.int .i64 x0, .int .i64 x1]] w fun e w' => e = .returned (.bool true) ∧ Below w.heap.size w w' := by
  obtain ⟨A, cap, rfl, _, _⟩ := id hC
  obtain ⟨A', cap', rfl, _, _⟩ := id hD
  obtain ⟨w0, hw0⟩ : ∃ x, w.alloc (.cells #[.int .i64 x0, .int .i64 x1] 22) = x := ⟨_, rfl⟩
  obtain ⟨g0, hg0⟩ : ∃ g, w.heap.size = g := ⟨_, rfl⟩
  have b0 : Blk w0 g0 22 #[.int .i64 x0, .int .i64 x1] := by rw [← hw0, ← hg0]; exact Blk.new w _ _
  have hB0 : Below w.heap.size w w0 := by rw [← hw0]; exact below_one w _
  have HW0 := Lib.hid hw0
  have HG0 := Lib.hid hg0
  have HLW := Lib.hid (fun (U : World) (hU : Below w.heap.size w U) => hL.next hU)
  have HF0 := Lib.hid (fun (U : World) (hU : Below w0.heap.size w0 U) => few6_any _ a U (hC.below (below_in hB0 hU)) true (by simp [hf0]))
  have HF1 := Lib.hid (fun (U : World) (hU : Below w0.heap.size w0 U) => few6_any _ b U (hD.below (below_in hB0 hU)) true (by simp [hf1]))
  have HR0 := Lib.hid (fun (U : World) (hU : Below w0.heap.size w0 U) => right6_any p _ a U (below_in hB0 hU).size (hC.below (below_in hB0 hU)) (by have := hf0.1; omega) true (by simp [hr0]))
  have HR1 := Lib.hid (fun (U : World) (hU : Below w0.heap.size w0 U) => right6_any p _ b U (below_in hB0 hU).size (hD.below (below_in hB0 hU)) (by have := hf1.1; omega) true (by simp [hr1]))
  have h0a := hr0.2.1
  have h0b := hr1.2.1
  obtain ⟨P, Q, n, rfl, hQ, hp, h1, h64, hn1, ga⟩ := Go.Proofs.YtcchjofjpflbhaaGreatDoor.Rg.right_yes hr0 h0a
  obtain ⟨P', Q', n2, hPP, hQ', _, h1', h64', hn2, gb⟩ := Go.Proofs.YtcchjofjpflbhaaGreatDoor.Rg.right_yes hr1 h0b
  obtain rfl : P = P' := Int.ofNat_inj.1 hPP
  obtain rfl : Q = Q' := Nat.succ.inj (hQ.symm.trans hQ')
  have hpb := prm_bounds hp
  have hQ0 := q_pos hpb.1 hQ
  obtain ⟨b1, off1, cq, e1, _, hb1, hrow⟩ := hC.at_ h0a
  injection e1 with e1 _ e1c
  subst e1
  subst e1c
  obtain ⟨d1, off2, cq, e1, _, hd1, hrowd⟩ := hD.at_ h0b
  injection e1 with e1 _ e1c
  subst e1
  subst e1c
  obtain ⟨u9, hu9, hm9⟩ := hrow 0 h0a
  obtain ⟨u8, hu8, hm8⟩ := hrowd 0 h0b
  have g9 := ga 0 h0a
  have g8 := gb 0 h0b
  obtain ⟨A9, cap9, rfl, _, _⟩ := id hm9
  obtain ⟨A8, cap8, rfl, _, _⟩ := id hm8
  obtain ⟨b9, off9, rfl, hb9, hrow9⟩ := many_at hm9 (by rw [g9.1]; exact hQ0)
  obtain ⟨b8, off8, rfl, hb8, hrow8⟩ := many_at hm8 (by rw [g8.1]; exact hQ0)
  obtain ⟨B9, cp9, hx9, hby9⟩ := hrow9 0 (by rw [g9.1]; exact hQ0)
  obtain ⟨B8, cp8, hx8, hby8⟩ := hrow8 0 (by rw [g8.1]; exact hQ0)
  rw [Nat.add_zero] at hu9 hu8 hx9 hx8
  rw [g9.1] at hu9 hm9
  rw [g8.1] at hu8
  rw [(g9.2 0 hQ0).2] at hx9
  rw [(g8.2 0 hQ0).2] at hx8
  have hne : ((a.length : Int) != (P : Int) + 1) = false := by rw [hna]; simp
  have hne2 : ((b.length : Int) != (P : Int) + 1) = false := by rw [hnb]; simp
  have hw2 : IntKind.i64.wrap ((P : Int) + 1) = (P : Int) + 1 := IntWalk.i64_in _ (by omega)
  have z1 : (0 : Int) < (a.length : Int) := Int.ofNat_lt.2 h0a
  have z6 : ¬ a.length = 0 := fun h => by rw [h] at h0a; exact Nat.lt_irrefl _ h0a
  have z7 : ¬ b.length = 0 := fun h => by rw [h] at h0b; exact Nat.lt_irrefl _ h0b
  have z2 : (0 : Int) < (b.length : Int) := Int.ofNat_lt.2 h0b
  have z3 : (0 : Int) < (Q : Int) := Int.ofNat_lt.2 hQ0
  have z5 : ¬ Q = 0 := fun h => by rw [h] at hQ0; exact Nat.lt_irrefl _ hQ0
  clear hQ0
  have HSS : Hid (∀ U, Below w0.heap.size w0 U → (fun U : World => U.cell? ⟨g0, 0, none⟩ = some (.int .i64 x0) ∧ U.cell? ⟨g0, 1, none⟩ = some (.int .i64 x1) ∧ U.cell? ⟨b1, off1, none⟩ = some (.slice (some ⟨b9, off9, none⟩) Q cap9) ∧ U.cell? ⟨b9, off9, none⟩ = some (.slice B9 n cp9) ∧ U.cell? ⟨d1, off2, none⟩ = some (.slice (some ⟨b8, off8, none⟩) Q cap8) ∧ U.cell? ⟨b8, off8, none⟩ = some (.slice B8 n2 cp8)) U) := fun U hU => by
      have h0 := b0.below hU b0.lt
      have hx := below_in hB0 hU
      exact ⟨h0.cell 0, h0.cell 1, (hx.cell (p := ⟨b1, off1, none⟩) hb1).trans hu9, (hx.cell (p := ⟨b9, off9, none⟩) hb9).trans hx9, (hx.cell (p := ⟨d1, off2, none⟩) hd1).trans hu8, (hx.cell (p := ⟨b8, off8, none⟩) hb8).trans hx8⟩
  have z4 : ¬ (n : Int) = (n2 : Int) := fun h => hl (by rw [hn1, hn2]; exact Int.ofNat_inj.1 h)
  clear hf0 hf1 hr0 hr1 hC hD b0 hl hrow hrowd hrow9 hrow8 hby9 hby8 hm9 hm8 g9 g8 ga gb hn1 hn2 hQ hQ' hpb hna hnb hu9 hu8 hx9 hx8 hPP h0a h0b h1 h64 h1' h64'
  clear hw0 hg0 hL
  generalize a.length = na at *
  generalize b.length = nb at *
  go_enter Tryz.func8, Tryz.ntmps8
  go_wp2_with fail
  rw [HW0.out]
  (try rw [HG0.out])
  have hB : Below w0.heap.size w0 w0.drew := (Below.refl _ _).drew
  have hS : (fun U : World => U.cell? ⟨g0, 0, none⟩ = some (.int .i64 x0) ∧ U.cell? ⟨g0, 1, none⟩ = some (.int .i64 x1) ∧ U.cell? ⟨b1, off1, none⟩ = some (.slice (some ⟨b9, off9, none⟩) Q cap9) ∧ U.cell? ⟨b9, off9, none⟩ = some (.slice B9 n cp9) ∧ U.cell? ⟨d1, off2, none⟩ = some (.slice (some ⟨b8, off8, none⟩) Q cap8) ∧ U.cell? ⟨b8, off8, none⟩ = some (.slice B8 n2 cp8)) w0.drew := HSS.out _ hB
  refine (wpIn_wide (n := 12)).1 (wpIn_mono (region_HF (Q := NoPanic _) (S := (fun U : World => U.cell? ⟨g0, 0, none⟩ = some (.int .i64 x0) ∧ U.cell? ⟨g0, 1, none⟩ = some (.int .i64 x1) ∧ U.cell? ⟨b1, off1, none⟩ = some (.slice (some ⟨b9, off9, none⟩) Q cap9) ∧ U.cell? ⟨b9, off9, none⟩ = some (.slice B9 n cp9) ∧ U.cell? ⟨d1, off2, none⟩ = some (.slice (some ⟨b8, off8, none⟩) Q cap8) ∧ U.cell? ⟨b8, off8, none⟩ = some (.slice B8 n2 cp8))) (by kernel_rfl) ?_) NoPanic.imp)
  refine anyHF_take (i := 0) (d := 15) (v := .slice (some ⟨b1, off1, none⟩) na cap) (by kernel_rfl) rfl (by kernel_rfl) (by kernel_rfl) (by kernel_rfl) rfl (fun _ _ _ h => h) ⟨Or.inl ⟨by rfl, fun w hS => by obtain ⟨h0, h1, h2, h3, h4, h5⟩ := hS; go_simp⟩, fun _ => rfl⟩ hS ?_
  simp only [List.setIfInBounds_toArray, List.set_cons_zero, List.set_cons_succ]
  refine anyHF_one (i := 1) (by kernel_rfl) rfl (by kernel_rfl) (by rfl) ?_
  gi_wp2_with fail
  refine ⟨trivial, (callsIn_wide.2 (HF0.out _ hB)).mono ?_⟩
  rintro e wn ⟨rfl, rfl⟩
  gi_wp2
  try (refine ⟨hS, ?_⟩)
  refine anyHF_take (i := 2) (d := 17) (v := .bool false) (by kernel_rfl) rfl (by kernel_rfl) (by kernel_rfl) (by kernel_rfl) rfl (fun _ _ _ h => h) ⟨Or.inl ⟨by rfl, fun w hS => by obtain ⟨h0, h1, h2, h3, h4, h5⟩ := hS; go_simp⟩, fun _ => rfl⟩ hS ?_
  simp only [List.setIfInBounds_toArray, List.set_cons_zero, List.set_cons_succ]
  refine anyHF_take (i := 3) (d := 18) (v := .bool false) (by kernel_rfl) rfl (by kernel_rfl) (by kernel_rfl) (by kernel_rfl) rfl (fun _ _ _ h => h) ⟨Or.inl ⟨by rfl, fun w hS => by obtain ⟨h0, h1, h2, h3, h4, h5⟩ := hS; go_simp⟩, fun _ => rfl⟩ hS ?_
  simp only [List.setIfInBounds_toArray, List.set_cons_zero, List.set_cons_succ]
  refine anyHF_take (i := 4) (d := 19) (v := .slice (some ⟨d1, off2, none⟩) nb cap') (by kernel_rfl) rfl (by kernel_rfl) (by kernel_rfl) (by kernel_rfl) rfl (fun _ _ _ h => h) ⟨Or.inl ⟨by rfl, fun w hS => by obtain ⟨h0, h1, h2, h3, h4, h5⟩ := hS; go_simp⟩, fun _ => rfl⟩ hS ?_
  simp only [List.setIfInBounds_toArray, List.set_cons_zero, List.set_cons_succ]
  refine anyHF_one (i := 5) (by kernel_rfl) rfl (by kernel_rfl) (by rfl) ?_
  gi_wp2_with fail
  refine ⟨trivial, (callsIn_wide.2 (HF1.out _ hB)).mono ?_⟩
  rintro e wn ⟨rfl, rfl⟩
  gi_wp2
  try (refine ⟨hS, ?_⟩)
  refine anyHF_take (i := 6) (d := 21) (v := .bool false) (by kernel_rfl) rfl (by kernel_rfl) (by kernel_rfl) (by kernel_rfl) rfl (fun _ _ _ h => h) ⟨Or.inl ⟨by rfl, fun w hS => by obtain ⟨h0, h1, h2, h3, h4, h5⟩ := hS; go_simp⟩, fun _ => rfl⟩ hS ?_
  simp only [List.setIfInBounds_toArray, List.set_cons_zero, List.set_cons_succ]
  refine anyHF_take (i := 7) (d := 22) (v := .bool false) (by kernel_rfl) rfl (by kernel_rfl) (by kernel_rfl) (by kernel_rfl) rfl (fun _ _ _ h => h) ⟨Or.inl ⟨by rfl, fun w hS => by obtain ⟨h0, h1, h2, h3, h4, h5⟩ := hS; go_simp⟩, fun _ => rfl⟩ hS ?_
  simp only [List.setIfInBounds_toArray, List.set_cons_zero, List.set_cons_succ]
  refine anyHF_take (i := 8) (d := 23) (v := .bool false) (by kernel_rfl) rfl (by kernel_rfl) (by kernel_rfl) (by kernel_rfl) rfl (fun _ _ _ h => h) ⟨Or.inl ⟨by rfl, fun w hS => by obtain ⟨h0, h1, h2, h3, h4, h5⟩ := hS; go_simp⟩, fun _ => rfl⟩ hS ?_
  simp only [List.setIfInBounds_toArray, List.set_cons_zero, List.set_cons_succ]
  refine anyHF_take (i := 9) (d := 24) (v := .int .i64 (P : Int)) (by kernel_rfl) rfl (by kernel_rfl) (by kernel_rfl) (by kernel_rfl) rfl (fun _ _ _ h => h) ⟨Or.inl ⟨by rfl, fun w hS => by obtain ⟨h0, h1, h2, h3, h4, h5⟩ := hS; go_simp⟩, fun _ => rfl⟩ hS ?_
  simp only [List.setIfInBounds_toArray, List.set_cons_zero, List.set_cons_succ]
  refine anyHF_take (i := 10) (d := 25) (v := .slice (some ⟨b1, off1, none⟩) na cap) (by kernel_rfl) rfl (by kernel_rfl) (by kernel_rfl) (by kernel_rfl) rfl (fun _ _ _ h => h) ⟨Or.inl ⟨by rfl, fun w hS => by obtain ⟨h0, h1, h2, h3, h4, h5⟩ := hS; go_simp⟩, fun _ => rfl⟩ hS ?_
  simp only [List.setIfInBounds_toArray, List.set_cons_zero, List.set_cons_succ]
  refine anyHF_one (i := 11) (by kernel_rfl) rfl (by kernel_rfl) (by rfl) ?_
  gi_wp2_with fail
  refine ⟨trivial, (callsIn_wide.2 (HR0.out _ hB)).mono ?_⟩
  rintro e wn ⟨rfl, hBn⟩
  replace hB := below_in hB hBn
  clear hBn
  clear hS
  have hS : (fun U : World => U.cell? ⟨g0, 0, none⟩ = some (.int .i64 x0) ∧ U.cell? ⟨g0, 1, none⟩ = some (.int .i64 x1) ∧ U.cell? ⟨b1, off1, none⟩ = some (.slice (some ⟨b9, off9, none⟩) Q cap9) ∧ U.cell? ⟨b9, off9, none⟩ = some (.slice B9 n cp9) ∧ U.cell? ⟨d1, off2, none⟩ = some (.slice (some ⟨b8, off8, none⟩) Q cap8) ∧ U.cell? ⟨b8, off8, none⟩ = some (.slice B8 n2 cp8)) wn := HSS.out _ hB
  gi_wp2
  try (refine ⟨hS, ?_⟩)
  refine anyHF_take (i := 12) (d := 27) (v := .bool false) (by kernel_rfl) rfl (by kernel_rfl) (by kernel_rfl) (by kernel_rfl) rfl (fun _ _ _ h => h) ⟨Or.inl ⟨by rfl, fun w hS => by obtain ⟨h0, h1, h2, h3, h4, h5⟩ := hS; go_simp⟩, fun _ => rfl⟩ hS ?_
  simp only [List.setIfInBounds_toArray, List.set_cons_zero, List.set_cons_succ]
  refine anyHF_take (i := 13) (d := 28) (v := .bool false) (by kernel_rfl) rfl (by kernel_rfl) (by kernel_rfl) (by kernel_rfl) rfl (fun _ _ _ h => h) ⟨Or.inl ⟨by rfl, fun w hS => by obtain ⟨h0, h1, h2, h3, h4, h5⟩ := hS; go_simp⟩, fun _ => rfl⟩ hS ?_
  simp only [List.setIfInBounds_toArray, List.set_cons_zero, List.set_cons_succ]
  refine anyHF_take (i := 14) (d := 29) (v := .bool false) (by kernel_rfl) rfl (by kernel_rfl) (by kernel_rfl) (by kernel_rfl) rfl (fun _ _ _ h => h) ⟨Or.inl ⟨by rfl, fun w hS => by obtain ⟨h0, h1, h2, h3, h4, h5⟩ := hS; go_simp⟩, fun _ => rfl⟩ hS ?_
  simp only [List.setIfInBounds_toArray, List.set_cons_zero, List.set_cons_succ]
  refine anyHF_take (i := 15) (d := 30) (v := .int .i64 (P : Int)) (by kernel_rfl) rfl (by kernel_rfl) (by kernel_rfl) (by kernel_rfl) rfl (fun _ _ _ h => h) ⟨Or.inl ⟨by rfl, fun w hS => by obtain ⟨h0, h1, h2, h3, h4, h5⟩ := hS; go_simp⟩, fun _ => rfl⟩ hS ?_
  simp only [List.setIfInBounds_toArray, List.set_cons_zero, List.set_cons_succ]
  refine anyHF_take (i := 16) (d := 31) (v := .slice (some ⟨d1, off2, none⟩) nb cap') (by kernel_rfl) rfl (by kernel_rfl) (by kernel_rfl) (by kernel_rfl) rfl (fun _ _ _ h => h) ⟨Or.inl ⟨by rfl, fun w hS => by obtain ⟨h0, h1, h2, h3, h4, h5⟩ := hS; go_simp⟩, fun _ => rfl⟩ hS ?_
  simp only [List.setIfInBounds_toArray, List.set_cons_zero, List.set_cons_succ]
  refine anyHF_one (i := 17) (by kernel_rfl) rfl (by kernel_rfl) (by rfl) ?_
  gi_wp2_with fail
  refine ⟨trivial, (callsIn_wide.2 (HR1.out _ hB)).mono ?_⟩
  rintro e wn ⟨rfl, hBn⟩
  replace hB := below_in hB hBn
  clear hBn
  clear hS
  have hS : (fun U : World => U.cell? ⟨g0, 0, none⟩ = some (.int .i64 x0) ∧ U.cell? ⟨g0, 1, none⟩ = some (.int .i64 x1) ∧ U.cell? ⟨b1, off1, none⟩ = some (.slice (some ⟨b9, off9, none⟩) Q cap9) ∧ U.cell? ⟨b9, off9, none⟩ = some (.slice B9 n cp9) ∧ U.cell? ⟨d1, off2, none⟩ = some (.slice (some ⟨b8, off8, none⟩) Q cap8) ∧ U.cell? ⟨b8, off8, none⟩ = some (.slice B8 n2 cp8)) wn := HSS.out _ hB
  gi_wp2
  try (refine ⟨hS, ?_⟩)
  refine anyHF_take (i := 18) (d := 33) (v := .bool false) (by kernel_rfl) rfl (by kernel_rfl) (by kernel_rfl) (by kernel_rfl) rfl (fun _ _ _ h => h) ⟨Or.inl ⟨by rfl, fun w hS => by obtain ⟨h0, h1, h2, h3, h4, h5⟩ := hS; go_simp⟩, fun _ => rfl⟩ hS ?_
  simp only [List.setIfInBounds_toArray, List.set_cons_zero, List.set_cons_succ]
  refine anyHF_take (i := 19) (d := 34) (v := .bool false) (by kernel_rfl) rfl (by kernel_rfl) (by kernel_rfl) (by kernel_rfl) rfl (fun _ _ _ h => h) ⟨Or.inl ⟨by rfl, fun w hS => by obtain ⟨h0, h1, h2, h3, h4, h5⟩ := hS; go_simp⟩, fun _ => rfl⟩ hS ?_
  simp only [List.setIfInBounds_toArray, List.set_cons_zero, List.set_cons_succ]
  refine anyHF_take (i := 20) (d := 35) (v := .bool false) (by kernel_rfl) rfl (by kernel_rfl) (by kernel_rfl) (by kernel_rfl) rfl (fun _ _ _ h => h) ⟨Or.inl ⟨by rfl, fun w hS => by obtain ⟨h0, h1, h2, h3, h4, h5⟩ := hS; go_simp⟩, fun _ => rfl⟩ hS ?_
  simp only [List.setIfInBounds_toArray, List.set_cons_zero, List.set_cons_succ]
  refine anyHF_take (i := 21) (d := 36) (v := .slice (some ⟨b1, off1, none⟩) na cap) (by kernel_rfl) rfl (by kernel_rfl) (by kernel_rfl) (by kernel_rfl) rfl (fun _ _ _ h => h) ⟨Or.inl ⟨by rfl, fun w hS => by obtain ⟨h0, h1, h2, h3, h4, h5⟩ := hS; go_simp⟩, fun _ => rfl⟩ hS ?_
  simp only [List.setIfInBounds_toArray, List.set_cons_zero, List.set_cons_succ]
  refine anyHF_take (i := 22) (d := 37) (v := .int .i64 (na : Int)) (by kernel_rfl) rfl (by kernel_rfl) (by kernel_rfl) (by kernel_rfl) rfl (fun _ _ _ h => h) ⟨Or.inl ⟨by rfl, fun w hS => by obtain ⟨h0, h1, h2, h3, h4, h5⟩ := hS; go_simp⟩, fun _ => rfl⟩ hS ?_
  simp only [List.setIfInBounds_toArray, List.set_cons_zero, List.set_cons_succ]
  refine anyHF_take (i := 23) (d := 38) (v := .int .i64 (P : Int)) (by kernel_rfl) rfl (by kernel_rfl) (by kernel_rfl) (by kernel_rfl) rfl (fun _ _ _ h => h) ⟨Or.inl ⟨by rfl, fun w hS => by obtain ⟨h0, h1, h2, h3, h4, h5⟩ := hS; go_simp⟩, fun _ => rfl⟩ hS ?_
  simp only [List.setIfInBounds_toArray, List.set_cons_zero, List.set_cons_succ]
  refine anyHF_take (i := 24) (d := 39) (v := .int .i64 ((P : Int) + 1)) (by kernel_rfl) rfl (by kernel_rfl) (by kernel_rfl) (by kernel_rfl) rfl (fun _ _ _ h => h) ⟨Or.inl ⟨by rfl, fun w hS => by obtain ⟨h0, h1, h2, h3, h4, h5⟩ := hS; go_simp⟩, fun _ => rfl⟩ hS ?_
  simp only [List.setIfInBounds_toArray, List.set_cons_zero, List.set_cons_succ]
  refine anyHF_take (i := 25) (d := 40) (v := .bool false) (by kernel_rfl) rfl (by kernel_rfl) (by kernel_rfl) (by kernel_rfl) rfl (fun _ _ _ h => h) ⟨Or.inl ⟨by rfl, fun w hS => by obtain ⟨h0, h1, h2, h3, h4, h5⟩ := hS; go_simp⟩, fun _ => rfl⟩ hS ?_
  simp only [List.setIfInBounds_toArray, List.set_cons_zero, List.set_cons_succ]
  refine anyHF_take (i := 26) (d := 41) (v := .bool false) (by kernel_rfl) rfl (by kernel_rfl) (by kernel_rfl) (by kernel_rfl) rfl (fun _ _ _ h => h) ⟨Or.inl ⟨by rfl, fun w hS => by obtain ⟨h0, h1, h2, h3, h4, h5⟩ := hS; go_simp⟩, fun _ => rfl⟩ hS ?_
  simp only [List.setIfInBounds_toArray, List.set_cons_zero, List.set_cons_succ]
  refine anyHF_take (i := 27) (d := 42) (v := .bool false) (by kernel_rfl) rfl (by kernel_rfl) (by kernel_rfl) (by kernel_rfl) rfl (fun _ _ _ h => h) ⟨Or.inl ⟨by rfl, fun w hS => by obtain ⟨h0, h1, h2, h3, h4, h5⟩ := hS; go_simp⟩, fun _ => rfl⟩ hS ?_
  simp only [List.setIfInBounds_toArray, List.set_cons_zero, List.set_cons_succ]
  refine anyHF_take (i := 28) (d := 43) (v := .slice (some ⟨d1, off2, none⟩) nb cap') (by kernel_rfl) rfl (by kernel_rfl) (by kernel_rfl) (by kernel_rfl) rfl (fun _ _ _ h => h) ⟨Or.inl ⟨by rfl, fun w hS => by obtain ⟨h0, h1, h2, h3, h4, h5⟩ := hS; go_simp⟩, fun _ => rfl⟩ hS ?_
  simp only [List.setIfInBounds_toArray, List.set_cons_zero, List.set_cons_succ]
  refine anyHF_take (i := 29) (d := 44) (v := .int .i64 (nb : Int)) (by kernel_rfl) rfl (by kernel_rfl) (by kernel_rfl) (by kernel_rfl) rfl (fun _ _ _ h => h) ⟨Or.inl ⟨by rfl, fun w hS => by obtain ⟨h0, h1, h2, h3, h4, h5⟩ := hS; go_simp⟩, fun _ => rfl⟩ hS ?_
  simp only [List.setIfInBounds_toArray, List.set_cons_zero, List.set_cons_succ]
  refine anyHF_take (i := 30) (d := 45) (v := .int .i64 (P : Int)) (by kernel_rfl) rfl (by kernel_rfl) (by kernel_rfl) (by kernel_rfl) rfl (fun _ _ _ h => h) ⟨Or.inl ⟨by rfl, fun w hS => by obtain ⟨h0, h1, h2, h3, h4, h5⟩ := hS; go_simp⟩, fun _ => rfl⟩ hS ?_
  simp only [List.setIfInBounds_toArray, List.set_cons_zero, List.set_cons_succ]
  refine anyHF_take (i := 31) (d := 46) (v := .int .i64 ((P : Int) + 1)) (by kernel_rfl) rfl (by kernel_rfl) (by kernel_rfl) (by kernel_rfl) rfl (fun _ _ _ h => h) ⟨Or.inl ⟨by rfl, fun w hS => by obtain ⟨h0, h1, h2, h3, h4, h5⟩ := hS; go_simp⟩, fun _ => rfl⟩ hS ?_
  simp only [List.setIfInBounds_toArray, List.set_cons_zero, List.set_cons_succ]
  refine anyHF_take (i := 32) (d := 47) (v := .bool false) (by kernel_rfl) rfl (by kernel_rfl) (by kernel_rfl) (by kernel_rfl) rfl (fun _ _ _ h => h) ⟨Or.inl ⟨by rfl, fun w hS => by obtain ⟨h0, h1, h2, h3, h4, h5⟩ := hS; go_simp⟩, fun _ => rfl⟩ hS ?_
  simp only [List.setIfInBounds_toArray, List.set_cons_zero, List.set_cons_succ]
  refine anyHF_take (i := 33) (d := 48) (v := .bool false) (by kernel_rfl) rfl (by kernel_rfl) (by kernel_rfl) (by kernel_rfl) rfl (fun _ _ _ h => h) ⟨Or.inl ⟨by rfl, fun w hS => by obtain ⟨h0, h1, h2, h3, h4, h5⟩ := hS; go_simp⟩, fun _ => rfl⟩ hS ?_
  simp only [List.setIfInBounds_toArray, List.set_cons_zero, List.set_cons_succ]
  refine anyHF_take (i := 34) (d := 49) (v := .bool false) (by kernel_rfl) rfl (by kernel_rfl) (by kernel_rfl) (by kernel_rfl) rfl (fun _ _ _ h => h) ⟨Or.inl ⟨by rfl, fun w hS => by obtain ⟨h0, h1, h2, h3, h4, h5⟩ := hS; go_simp⟩, fun _ => rfl⟩ hS ?_
  simp only [List.setIfInBounds_toArray, List.set_cons_zero, List.set_cons_succ]
  refine anyHF_take (i := 35) (d := 50) (v := .slice (some ⟨b1, off1, none⟩) na cap) (by kernel_rfl) rfl (by kernel_rfl) (by kernel_rfl) (by kernel_rfl) rfl (fun _ _ _ h => h) ⟨Or.inl ⟨by rfl, fun w hS => by obtain ⟨h0, h1, h2, h3, h4, h5⟩ := hS; go_simp⟩, fun _ => rfl⟩ hS ?_
  simp only [List.setIfInBounds_toArray, List.set_cons_zero, List.set_cons_succ]
  refine anyHF_take (i := 36) (d := 51) (v := .pointer (some ⟨b1, off1, none⟩)) (by kernel_rfl) rfl (by kernel_rfl) (by kernel_rfl) (by kernel_rfl) rfl (fun _ _ _ h => h) ⟨Or.inl ⟨by rfl, fun w hS => by obtain ⟨h0, h1, h2, h3, h4, h5⟩ := hS; go_simp⟩, fun _ => rfl⟩ hS ?_
  simp only [List.setIfInBounds_toArray, List.set_cons_zero, List.set_cons_succ]
  refine anyHF_take (i := 37) (d := 52) (v := .slice (some ⟨b9, off9, none⟩) Q cap9) (by kernel_rfl) rfl (by kernel_rfl) (by kernel_rfl) (by kernel_rfl) rfl (fun _ _ _ h => h) ⟨Or.inl ⟨by rfl, fun w hS => by obtain ⟨h0, h1, h2, h3, h4, h5⟩ := hS; go_simp⟩, fun _ => rfl⟩ hS ?_
  simp only [List.setIfInBounds_toArray, List.set_cons_zero, List.set_cons_succ]
  refine anyHF_take (i := 38) (d := 53) (v := .pointer (some ⟨b9, off9, none⟩)) (by kernel_rfl) rfl (by kernel_rfl) (by kernel_rfl) (by kernel_rfl) rfl (fun _ _ _ h => h) ⟨Or.inl ⟨by rfl, fun w hS => by obtain ⟨h0, h1, h2, h3, h4, h5⟩ := hS; go_simp⟩, fun _ => rfl⟩ hS ?_
  simp only [List.setIfInBounds_toArray, List.set_cons_zero, List.set_cons_succ]
  refine anyHF_take (i := 39) (d := 54) (v := .slice B9 n cp9) (by kernel_rfl) rfl (by kernel_rfl) (by kernel_rfl) (by kernel_rfl) rfl (fun _ _ _ h => h) ⟨Or.inl ⟨by rfl, fun w hS => by obtain ⟨h0, h1, h2, h3, h4, h5⟩ := hS; go_simp⟩, fun _ => rfl⟩ hS ?_
  simp only [List.setIfInBounds_toArray, List.set_cons_zero, List.set_cons_succ]
  refine anyHF_take (i := 40) (d := 55) (v := .int .i64 (n : Int)) (by kernel_rfl) rfl (by kernel_rfl) (by kernel_rfl) (by kernel_rfl) rfl (fun _ _ _ h => h) ⟨Or.inl ⟨by rfl, fun w hS => by obtain ⟨h0, h1, h2, h3, h4, h5⟩ := hS; go_simp⟩, fun _ => rfl⟩ hS ?_
  simp only [List.setIfInBounds_toArray, List.set_cons_zero, List.set_cons_succ]
  refine anyHF_take (i := 41) (d := 56) (v := .slice (some ⟨d1, off2, none⟩) nb cap') (by kernel_rfl) rfl (by kernel_rfl) (by kernel_rfl) (by kernel_rfl) rfl (fun _ _ _ h => h) ⟨Or.inl ⟨by rfl, fun w hS => by obtain ⟨h0, h1, h2, h3, h4, h5⟩ := hS; go_simp⟩, fun _ => rfl⟩ hS ?_
  simp only [List.setIfInBounds_toArray, List.set_cons_zero, List.set_cons_succ]
  refine anyHF_take (i := 42) (d := 57) (v := .pointer (some ⟨d1, off2, none⟩)) (by kernel_rfl) rfl (by kernel_rfl) (by kernel_rfl) (by kernel_rfl) rfl (fun _ _ _ h => h) ⟨Or.inl ⟨by rfl, fun w hS => by obtain ⟨h0, h1, h2, h3, h4, h5⟩ := hS; go_simp⟩, fun _ => rfl⟩ hS ?_
  simp only [List.setIfInBounds_toArray, List.set_cons_zero, List.set_cons_succ]
  refine anyHF_take (i := 43) (d := 58) (v := .slice (some ⟨b8, off8, none⟩) Q cap8) (by kernel_rfl) rfl (by kernel_rfl) (by kernel_rfl) (by kernel_rfl) rfl (fun _ _ _ h => h) ⟨Or.inl ⟨by rfl, fun w hS => by obtain ⟨h0, h1, h2, h3, h4, h5⟩ := hS; go_simp⟩, fun _ => rfl⟩ hS ?_
  simp only [List.setIfInBounds_toArray, List.set_cons_zero, List.set_cons_succ]
  refine anyHF_take (i := 44) (d := 59) (v := .pointer (some ⟨b8, off8, none⟩)) (by kernel_rfl) rfl (by kernel_rfl) (by kernel_rfl) (by kernel_rfl) rfl (fun _ _ _ h => h) ⟨Or.inl ⟨by rfl, fun w hS => by obtain ⟨h0, h1, h2, h3, h4, h5⟩ := hS; go_simp⟩, fun _ => rfl⟩ hS ?_
  simp only [List.setIfInBounds_toArray, List.set_cons_zero, List.set_cons_succ]
  refine anyHF_take (i := 45) (d := 60) (v := .slice B8 n2 cp8) (by kernel_rfl) rfl (by kernel_rfl) (by kernel_rfl) (by kernel_rfl) rfl (fun _ _ _ h => h) ⟨Or.inl ⟨by rfl, fun w hS => by obtain ⟨h0, h1, h2, h3, h4, h5⟩ := hS; go_simp⟩, fun _ => rfl⟩ hS ?_
  simp only [List.setIfInBounds_toArray, List.set_cons_zero, List.set_cons_succ]
  refine anyHF_take (i := 46) (d := 61) (v := .int .i64 (n2 : Int)) (by kernel_rfl) rfl (by kernel_rfl) (by kernel_rfl) (by kernel_rfl) rfl (fun _ _ _ h => h) ⟨Or.inl ⟨by rfl, fun w hS => by obtain ⟨h0, h1, h2, h3, h4, h5⟩ := hS; go_simp⟩, fun _ => rfl⟩ hS ?_
  simp only [List.setIfInBounds_toArray, List.set_cons_zero, List.set_cons_succ]
  refine anyHF_take (i := 47) (d := 62) (v := .bool true) (by kernel_rfl) rfl (by kernel_rfl) (by kernel_rfl) (by kernel_rfl) rfl (fun _ _ _ h => h) ⟨Or.inl ⟨by rfl, fun w hS => by obtain ⟨h0, h1, h2, h3, h4, h5⟩ := hS; go_simp⟩, fun _ => rfl⟩ hS ?_
  simp only [List.setIfInBounds_toArray, List.set_cons_zero, List.set_cons_succ]
  refine anyHF_take (i := 48) (d := 63) (v := .bool true) (by kernel_rfl) rfl (by kernel_rfl) (by kernel_rfl) (by kernel_rfl) rfl (fun _ _ _ h => h) ⟨Or.inl ⟨by rfl, fun w hS => by obtain ⟨h0, h1, h2, h3, h4, h5⟩ := hS; go_simp⟩, fun _ => rfl⟩ hS ?_
  simp only [List.setIfInBounds_toArray, List.set_cons_zero, List.set_cons_succ]
  refine anyHF_take (i := 49) (d := 64) (v := .bool true) (by kernel_rfl) rfl (by kernel_rfl) (by kernel_rfl) (by kernel_rfl) rfl (fun _ _ _ h => h) ⟨Or.inl ⟨by rfl, fun w hS => by obtain ⟨h0, h1, h2, h3, h4, h5⟩ := hS; go_simp⟩, fun _ => rfl⟩ hS ?_
  simp only [List.setIfInBounds_toArray, List.set_cons_zero, List.set_cons_succ]
  refine anyHF_take (i := 50) (d := 65) (v := undef) (by kernel_rfl) rfl (by kernel_rfl) (by kernel_rfl) (by kernel_rfl) rfl (fun _ _ _ h => h) ⟨Or.inr ⟨by rfl, rfl⟩, fun _ => rfl⟩ hS ?_
  simp only [List.setIfInBounds_toArray, List.set_cons_zero, List.set_cons_succ]
  refine anyHF_take (i := 51) (d := 66) (v := undef) (by kernel_rfl) rfl (by kernel_rfl) (by kernel_rfl) (by kernel_rfl) rfl (fun _ _ _ h => h) ⟨Or.inr ⟨by rfl, rfl⟩, fun _ => rfl⟩ hS ?_
  simp only [List.setIfInBounds_toArray, List.set_cons_zero, List.set_cons_succ]
  refine anyHF_take (i := 52) (d := 67) (v := undef) (by kernel_rfl) rfl (by kernel_rfl) (by kernel_rfl) (by kernel_rfl) rfl (fun _ _ _ h => h) ⟨Or.inr ⟨by rfl, rfl⟩, fun _ => rfl⟩ hS ?_
  simp only [List.setIfInBounds_toArray, List.set_cons_zero, List.set_cons_succ]
  refine anyHF_take (i := 53) (d := 68) (v := undef) (by kernel_rfl) rfl (by kernel_rfl) (by kernel_rfl) (by kernel_rfl) rfl (fun _ _ _ h => h) ⟨Or.inr ⟨by rfl, rfl⟩, fun _ => rfl⟩ hS ?_
  simp only [List.setIfInBounds_toArray, List.set_cons_zero, List.set_cons_succ]
  refine anyHF_take (i := 54) (d := 69) (v := undef) (by kernel_rfl) rfl (by kernel_rfl) (by kernel_rfl) (by kernel_rfl) rfl (fun _ _ _ h => h) ⟨Or.inr ⟨by rfl, rfl⟩, fun _ => rfl⟩ hS ?_
  simp only [List.setIfInBounds_toArray, List.set_cons_zero, List.set_cons_succ]
  refine anyHF_skip (i := 55) (d := 70) (by kernel_rfl) rfl (by rfl) rfl wide_fn hS ?_
  simp only [List.setIfInBounds_toArray, List.set_cons_zero, List.set_cons_succ]
  refine anyHF_take (i := 56) (d := 71) (v := undef) (by kernel_rfl) rfl (by kernel_rfl) (by kernel_rfl) (by kernel_rfl) rfl (fun _ _ _ h => h) ⟨Or.inr ⟨by rfl, rfl⟩, fun _ => rfl⟩ hS ?_
  simp only [List.setIfInBounds_toArray, List.set_cons_zero, List.set_cons_succ]
  refine anyHF_take (i := 57) (d := 72) (v := .bool true) (by kernel_rfl) rfl (by kernel_rfl) (by kernel_rfl) (by kernel_rfl) rfl (fun _ _ _ h => h) ⟨Or.inl ⟨by rfl, fun w hS => by obtain ⟨h0, h1, h2, h3, h4, h5⟩ := hS; go_simp⟩, fun _ => rfl⟩ hS ?_
  simp only [List.setIfInBounds_toArray, List.set_cons_zero, List.set_cons_succ]
  refine anyHF_done (by kernel_rfl) ?_ _
  refine NoPanic.normal ?_
  clear hS
  go_wp2_with fail
  refine (works12_any _ (HLW.out _ (below_in hB0 hB))).mono ?_
  rintro e w1 ⟨rfl, hB1⟩
  go_wp2
  go_ret
  exact ⟨rfl, below_in (below_in hB0 hB) hB1⟩

open Go.Proofs.YtcchjofjpflbhaaGreatDoor.E Go.Proofs.YtcchjofjpflbhaaGreatDoor.C Go.Proofs.YtcchjofjpflbhaaGreatDoor.T Go.Proofs.YtcchjofjpflbhaaGreatDoor.Ch in
set_option maxRecDepth 100000 in
set_option maxHeartbeats 4000000 in
theorem n8 (p : Int) (v : Value) (a : List (List (List UInt8))) (v2 : Value) (b : List (List (List UInt8))) (x0 x1 : Int) (w : World) (hL : Laid w) (wp : -9223372036854775808 ≤ p ∧ p ≤ 9223372036854775807) (hC : Cols w.heap.size w v a) (hD : Cols w.heap.size w v2 b) (wx : -9223372036854775808 ≤ x0 ∧ x0 ≤ 9223372036854775807) (wy : -9223372036854775808 ≤ x1 ∧ x1 ≤ 9223372036854775807) (hf0 : Few6 a) (hf1 : Few6 b) (hr0 : RightD p a) (hr1 : RightD p b) (hna : (a.length : Int) = p + 1) (hnb : (b.length : Int) = p + 1) (hl : (firstC a).length = (firstC b).length) (hth : ¬ (0 ≤ x0 ∧ x0 < x1 ∧ x1 < p)) :
    Calls Tryz.prog 8 #[.int .i64 p, v, v2, .agg #[.int .i64 x0, .int .i64 x1]] w fun e w' => e = .returned (.bool true) ∧ Below w.heap.size w w' := by
  obtain ⟨A, cap, rfl, _, _⟩ := id hC
  obtain ⟨A', cap', rfl, _, _⟩ := id hD
  obtain ⟨w0, hw0⟩ : ∃ x, w.alloc (.cells #[.int .i64 x0, .int .i64 x1] 22) = x := ⟨_, rfl⟩
  obtain ⟨g0, hg0⟩ : ∃ g, w.heap.size = g := ⟨_, rfl⟩
  have b0 : Blk w0 g0 22 #[.int .i64 x0, .int .i64 x1] := by rw [← hw0, ← hg0]; exact Blk.new w _ _
  have hB0 : Below w.heap.size w w0 := by rw [← hw0]; exact below_one w _
  have HW0 := Lib.hid hw0
  have HG0 := Lib.hid hg0
  have HLW := Lib.hid (fun (U : World) (hU : Below w.heap.size w U) => hL.next hU)
  have HF0 := Lib.hid (fun (U : World) (hU : Below w0.heap.size w0 U) => few6_any _ a U (hC.below (below_in hB0 hU)) true (by simp [hf0]))
  have HF1 := Lib.hid (fun (U : World) (hU : Below w0.heap.size w0 U) => few6_any _ b U (hD.below (below_in hB0 hU)) true (by simp [hf1]))
  have HR0 := Lib.hid (fun (U : World) (hU : Below w0.heap.size w0 U) => right6_any p _ a U (below_in hB0 hU).size (hC.below (below_in hB0 hU)) (by have := hf0.1; omega) true (by simp [hr0]))
  have HR1 := Lib.hid (fun (U : World) (hU : Below w0.heap.size w0 U) => right6_any p _ b U (below_in hB0 hU).size (hD.below (below_in hB0 hU)) (by have := hf1.1; omega) true (by simp [hr1]))
  have h0a := hr0.2.1
  have h0b := hr1.2.1
  obtain ⟨P, Q, n, rfl, hQ, hp, h1, h64, hn1, ga⟩ := Go.Proofs.YtcchjofjpflbhaaGreatDoor.Rg.right_yes hr0 h0a
  obtain ⟨P', Q', n2, hPP, hQ', _, h1', h64', hn2, gb⟩ := Go.Proofs.YtcchjofjpflbhaaGreatDoor.Rg.right_yes hr1 h0b
  obtain rfl : P = P' := Int.ofNat_inj.1 hPP
  obtain rfl : Q = Q' := Nat.succ.inj (hQ.symm.trans hQ')
  have hpb := prm_bounds hp
  have hQ0 := q_pos hpb.1 hQ
  obtain ⟨b1, off1, cq, e1, _, hb1, hrow⟩ := hC.at_ h0a
  injection e1 with e1 _ e1c
  subst e1
  subst e1c
  obtain ⟨d1, off2, cq, e1, _, hd1, hrowd⟩ := hD.at_ h0b
  injection e1 with e1 _ e1c
  subst e1
  subst e1c
  obtain ⟨u9, hu9, hm9⟩ := hrow 0 h0a
  obtain ⟨u8, hu8, hm8⟩ := hrowd 0 h0b
  have g9 := ga 0 h0a
  have g8 := gb 0 h0b
  obtain ⟨A9, cap9, rfl, _, _⟩ := id hm9
  obtain ⟨A8, cap8, rfl, _, _⟩ := id hm8
  obtain ⟨b9, off9, rfl, hb9, hrow9⟩ := many_at hm9 (by rw [g9.1]; exact hQ0)
  obtain ⟨b8, off8, rfl, hb8, hrow8⟩ := many_at hm8 (by rw [g8.1]; exact hQ0)
  obtain ⟨B9, cp9, hx9, hby9⟩ := hrow9 0 (by rw [g9.1]; exact hQ0)
  obtain ⟨B8, cp8, hx8, hby8⟩ := hrow8 0 (by rw [g8.1]; exact hQ0)
  rw [Nat.add_zero] at hu9 hu8 hx9 hx8
  rw [g9.1] at hu9 hm9
  rw [g8.1] at hu8
  rw [(g9.2 0 hQ0).2] at hx9
  rw [(g8.2 0 hQ0).2] at hx8
  obtain rfl : n = n2 := by rw [← hn1, ← hn2]; exact hl
  have hne : ((a.length : Int) != (P : Int) + 1) = false := by rw [hna]; simp
  have hne2 : ((b.length : Int) != (P : Int) + 1) = false := by rw [hnb]; simp
  have hw2 : IntKind.i64.wrap ((P : Int) + 1) = (P : Int) + 1 := IntWalk.i64_in _ (by omega)
  have z1 : (0 : Int) < (a.length : Int) := Int.ofNat_lt.2 h0a
  have z6 : ¬ a.length = 0 := fun h => by rw [h] at h0a; exact Nat.lt_irrefl _ h0a
  have z7 : ¬ b.length = 0 := fun h => by rw [h] at h0b; exact Nat.lt_irrefl _ h0b
  have z2 : (0 : Int) < (b.length : Int) := Int.ofNat_lt.2 h0b
  have z3 : (0 : Int) < (Q : Int) := Int.ofNat_lt.2 hQ0
  have z5 : ¬ Q = 0 := fun h => by rw [h] at hQ0; exact Nat.lt_irrefl _ hQ0
  clear hQ0
  have HSS : Hid (∀ U, Below w0.heap.size w0 U → (fun U : World => U.cell? ⟨g0, 0, none⟩ = some (.int .i64 x0) ∧ U.cell? ⟨g0, 1, none⟩ = some (.int .i64 x1) ∧ U.cell? ⟨b1, off1, none⟩ = some (.slice (some ⟨b9, off9, none⟩) Q cap9) ∧ U.cell? ⟨b9, off9, none⟩ = some (.slice B9 n cp9) ∧ U.cell? ⟨d1, off2, none⟩ = some (.slice (some ⟨b8, off8, none⟩) Q cap8) ∧ U.cell? ⟨b8, off8, none⟩ = some (.slice B8 n cp8)) U) := fun U hU => by
      have h0 := b0.below hU b0.lt
      have hx := below_in hB0 hU
      exact ⟨h0.cell 0, h0.cell 1, (hx.cell (p := ⟨b1, off1, none⟩) hb1).trans hu9, (hx.cell (p := ⟨b9, off9, none⟩) hb9).trans hx9, (hx.cell (p := ⟨d1, off2, none⟩) hd1).trans hu8, (hx.cell (p := ⟨b8, off8, none⟩) hb8).trans hx8⟩
  have HTH := Lib.hid (fun W => there12_any (P : Int) x0 x1 W)
  rw [decide_eq_false hth] at HTH
  clear hf0 hf1 hr0 hr1 hC hD b0 hl hrow hrowd hrow9 hrow8 hby9 hby8 hm9 hm8 g9 g8 ga gb hn1 hn2 hQ hQ' hpb hna hnb hu9 hu8 hx9 hx8 hPP h0a h0b h1 h64 h1' h64' hth
  clear hw0 hg0 hL
  generalize a.length = na at *
  generalize b.length = nb at *
  go_enter Tryz.func8, Tryz.ntmps8
  go_wp2_with fail
  rw [HW0.out]
  (try rw [HG0.out])
  have hB : Below w0.heap.size w0 w0.drew := (Below.refl _ _).drew
  have hS : (fun U : World => U.cell? ⟨g0, 0, none⟩ = some (.int .i64 x0) ∧ U.cell? ⟨g0, 1, none⟩ = some (.int .i64 x1) ∧ U.cell? ⟨b1, off1, none⟩ = some (.slice (some ⟨b9, off9, none⟩) Q cap9) ∧ U.cell? ⟨b9, off9, none⟩ = some (.slice B9 n cp9) ∧ U.cell? ⟨d1, off2, none⟩ = some (.slice (some ⟨b8, off8, none⟩) Q cap8) ∧ U.cell? ⟨b8, off8, none⟩ = some (.slice B8 n cp8)) w0.drew := HSS.out _ hB
  refine (wpIn_wide (n := 12)).1 (wpIn_mono (region_HF (Q := NoPanic _) (S := (fun U : World => U.cell? ⟨g0, 0, none⟩ = some (.int .i64 x0) ∧ U.cell? ⟨g0, 1, none⟩ = some (.int .i64 x1) ∧ U.cell? ⟨b1, off1, none⟩ = some (.slice (some ⟨b9, off9, none⟩) Q cap9) ∧ U.cell? ⟨b9, off9, none⟩ = some (.slice B9 n cp9) ∧ U.cell? ⟨d1, off2, none⟩ = some (.slice (some ⟨b8, off8, none⟩) Q cap8) ∧ U.cell? ⟨b8, off8, none⟩ = some (.slice B8 n cp8))) (by kernel_rfl) ?_) NoPanic.imp)
  refine anyHF_take (i := 0) (d := 15) (v := .slice (some ⟨b1, off1, none⟩) na cap) (by kernel_rfl) rfl (by kernel_rfl) (by kernel_rfl) (by kernel_rfl) rfl (fun _ _ _ h => h) ⟨Or.inl ⟨by rfl, fun w hS => by obtain ⟨h0, h1, h2, h3, h4, h5⟩ := hS; go_simp⟩, fun _ => rfl⟩ hS ?_
  simp only [List.setIfInBounds_toArray, List.set_cons_zero, List.set_cons_succ]
  refine anyHF_one (i := 1) (by kernel_rfl) rfl (by kernel_rfl) (by rfl) ?_
  gi_wp2_with fail
  refine ⟨trivial, (callsIn_wide.2 (HF0.out _ hB)).mono ?_⟩
  rintro e wn ⟨rfl, rfl⟩
  gi_wp2
  try (refine ⟨hS, ?_⟩)
  refine anyHF_take (i := 2) (d := 17) (v := .bool false) (by kernel_rfl) rfl (by kernel_rfl) (by kernel_rfl) (by kernel_rfl) rfl (fun _ _ _ h => h) ⟨Or.inl ⟨by rfl, fun w hS => by obtain ⟨h0, h1, h2, h3, h4, h5⟩ := hS; go_simp⟩, fun _ => rfl⟩ hS ?_
  simp only [List.setIfInBounds_toArray, List.set_cons_zero, List.set_cons_succ]
  refine anyHF_take (i := 3) (d := 18) (v := .bool false) (by kernel_rfl) rfl (by kernel_rfl) (by kernel_rfl) (by kernel_rfl) rfl (fun _ _ _ h => h) ⟨Or.inl ⟨by rfl, fun w hS => by obtain ⟨h0, h1, h2, h3, h4, h5⟩ := hS; go_simp⟩, fun _ => rfl⟩ hS ?_
  simp only [List.setIfInBounds_toArray, List.set_cons_zero, List.set_cons_succ]
  refine anyHF_take (i := 4) (d := 19) (v := .slice (some ⟨d1, off2, none⟩) nb cap') (by kernel_rfl) rfl (by kernel_rfl) (by kernel_rfl) (by kernel_rfl) rfl (fun _ _ _ h => h) ⟨Or.inl ⟨by rfl, fun w hS => by obtain ⟨h0, h1, h2, h3, h4, h5⟩ := hS; go_simp⟩, fun _ => rfl⟩ hS ?_
  simp only [List.setIfInBounds_toArray, List.set_cons_zero, List.set_cons_succ]
  refine anyHF_one (i := 5) (by kernel_rfl) rfl (by kernel_rfl) (by rfl) ?_
  gi_wp2_with fail
  refine ⟨trivial, (callsIn_wide.2 (HF1.out _ hB)).mono ?_⟩
  rintro e wn ⟨rfl, rfl⟩
  gi_wp2
  try (refine ⟨hS, ?_⟩)
  refine anyHF_take (i := 6) (d := 21) (v := .bool false) (by kernel_rfl) rfl (by kernel_rfl) (by kernel_rfl) (by kernel_rfl) rfl (fun _ _ _ h => h) ⟨Or.inl ⟨by rfl, fun w hS => by obtain ⟨h0, h1, h2, h3, h4, h5⟩ := hS; go_simp⟩, fun _ => rfl⟩ hS ?_
  simp only [List.setIfInBounds_toArray, List.set_cons_zero, List.set_cons_succ]
  refine anyHF_take (i := 7) (d := 22) (v := .bool false) (by kernel_rfl) rfl (by kernel_rfl) (by kernel_rfl) (by kernel_rfl) rfl (fun _ _ _ h => h) ⟨Or.inl ⟨by rfl, fun w hS => by obtain ⟨h0, h1, h2, h3, h4, h5⟩ := hS; go_simp⟩, fun _ => rfl⟩ hS ?_
  simp only [List.setIfInBounds_toArray, List.set_cons_zero, List.set_cons_succ]
  refine anyHF_take (i := 8) (d := 23) (v := .bool false) (by kernel_rfl) rfl (by kernel_rfl) (by kernel_rfl) (by kernel_rfl) rfl (fun _ _ _ h => h) ⟨Or.inl ⟨by rfl, fun w hS => by obtain ⟨h0, h1, h2, h3, h4, h5⟩ := hS; go_simp⟩, fun _ => rfl⟩ hS ?_
  simp only [List.setIfInBounds_toArray, List.set_cons_zero, List.set_cons_succ]
  refine anyHF_take (i := 9) (d := 24) (v := .int .i64 (P : Int)) (by kernel_rfl) rfl (by kernel_rfl) (by kernel_rfl) (by kernel_rfl) rfl (fun _ _ _ h => h) ⟨Or.inl ⟨by rfl, fun w hS => by obtain ⟨h0, h1, h2, h3, h4, h5⟩ := hS; go_simp⟩, fun _ => rfl⟩ hS ?_
  simp only [List.setIfInBounds_toArray, List.set_cons_zero, List.set_cons_succ]
  refine anyHF_take (i := 10) (d := 25) (v := .slice (some ⟨b1, off1, none⟩) na cap) (by kernel_rfl) rfl (by kernel_rfl) (by kernel_rfl) (by kernel_rfl) rfl (fun _ _ _ h => h) ⟨Or.inl ⟨by rfl, fun w hS => by obtain ⟨h0, h1, h2, h3, h4, h5⟩ := hS; go_simp⟩, fun _ => rfl⟩ hS ?_
  simp only [List.setIfInBounds_toArray, List.set_cons_zero, List.set_cons_succ]
  refine anyHF_one (i := 11) (by kernel_rfl) rfl (by kernel_rfl) (by rfl) ?_
  gi_wp2_with fail
  refine ⟨trivial, (callsIn_wide.2 (HR0.out _ hB)).mono ?_⟩
  rintro e wn ⟨rfl, hBn⟩
  replace hB := below_in hB hBn
  clear hBn
  clear hS
  have hS : (fun U : World => U.cell? ⟨g0, 0, none⟩ = some (.int .i64 x0) ∧ U.cell? ⟨g0, 1, none⟩ = some (.int .i64 x1) ∧ U.cell? ⟨b1, off1, none⟩ = some (.slice (some ⟨b9, off9, none⟩) Q cap9) ∧ U.cell? ⟨b9, off9, none⟩ = some (.slice B9 n cp9) ∧ U.cell? ⟨d1, off2, none⟩ = some (.slice (some ⟨b8, off8, none⟩) Q cap8) ∧ U.cell? ⟨b8, off8, none⟩ = some (.slice B8 n cp8)) wn := HSS.out _ hB
  gi_wp2
  try (refine ⟨hS, ?_⟩)
  refine anyHF_take (i := 12) (d := 27) (v := .bool false) (by kernel_rfl) rfl (by kernel_rfl) (by kernel_rfl) (by kernel_rfl) rfl (fun _ _ _ h => h) ⟨Or.inl ⟨by rfl, fun w hS => by obtain ⟨h0, h1, h2, h3, h4, h5⟩ := hS; go_simp⟩, fun _ => rfl⟩ hS ?_
  simp only [List.setIfInBounds_toArray, List.set_cons_zero, List.set_cons_succ]
  refine anyHF_take (i := 13) (d := 28) (v := .bool false) (by kernel_rfl) rfl (by kernel_rfl) (by kernel_rfl) (by kernel_rfl) rfl (fun _ _ _ h => h) ⟨Or.inl ⟨by rfl, fun w hS => by obtain ⟨h0, h1, h2, h3, h4, h5⟩ := hS; go_simp⟩, fun _ => rfl⟩ hS ?_
  simp only [List.setIfInBounds_toArray, List.set_cons_zero, List.set_cons_succ]
  refine anyHF_take (i := 14) (d := 29) (v := .bool false) (by kernel_rfl) rfl (by kernel_rfl) (by kernel_rfl) (by kernel_rfl) rfl (fun _ _ _ h => h) ⟨Or.inl ⟨by rfl, fun w hS => by obtain ⟨h0, h1, h2, h3, h4, h5⟩ := hS; go_simp⟩, fun _ => rfl⟩ hS ?_
  simp only [List.setIfInBounds_toArray, List.set_cons_zero, List.set_cons_succ]
  refine anyHF_take (i := 15) (d := 30) (v := .int .i64 (P : Int)) (by kernel_rfl) rfl (by kernel_rfl) (by kernel_rfl) (by kernel_rfl) rfl (fun _ _ _ h => h) ⟨Or.inl ⟨by rfl, fun w hS => by obtain ⟨h0, h1, h2, h3, h4, h5⟩ := hS; go_simp⟩, fun _ => rfl⟩ hS ?_
  simp only [List.setIfInBounds_toArray, List.set_cons_zero, List.set_cons_succ]
  refine anyHF_take (i := 16) (d := 31) (v := .slice (some ⟨d1, off2, none⟩) nb cap') (by kernel_rfl) rfl (by kernel_rfl) (by kernel_rfl) (by kernel_rfl) rfl (fun _ _ _ h => h) ⟨Or.inl ⟨by rfl, fun w hS => by obtain ⟨h0, h1, h2, h3, h4, h5⟩ := hS; go_simp⟩, fun _ => rfl⟩ hS ?_
  simp only [List.setIfInBounds_toArray, List.set_cons_zero, List.set_cons_succ]
  refine anyHF_one (i := 17) (by kernel_rfl) rfl (by kernel_rfl) (by rfl) ?_
  gi_wp2_with fail
  refine ⟨trivial, (callsIn_wide.2 (HR1.out _ hB)).mono ?_⟩
  rintro e wn ⟨rfl, hBn⟩
  replace hB := below_in hB hBn
  clear hBn
  clear hS
  have hS : (fun U : World => U.cell? ⟨g0, 0, none⟩ = some (.int .i64 x0) ∧ U.cell? ⟨g0, 1, none⟩ = some (.int .i64 x1) ∧ U.cell? ⟨b1, off1, none⟩ = some (.slice (some ⟨b9, off9, none⟩) Q cap9) ∧ U.cell? ⟨b9, off9, none⟩ = some (.slice B9 n cp9) ∧ U.cell? ⟨d1, off2, none⟩ = some (.slice (some ⟨b8, off8, none⟩) Q cap8) ∧ U.cell? ⟨b8, off8, none⟩ = some (.slice B8 n cp8)) wn := HSS.out _ hB
  gi_wp2
  try (refine ⟨hS, ?_⟩)
  refine anyHF_take (i := 18) (d := 33) (v := .bool false) (by kernel_rfl) rfl (by kernel_rfl) (by kernel_rfl) (by kernel_rfl) rfl (fun _ _ _ h => h) ⟨Or.inl ⟨by rfl, fun w hS => by obtain ⟨h0, h1, h2, h3, h4, h5⟩ := hS; go_simp⟩, fun _ => rfl⟩ hS ?_
  simp only [List.setIfInBounds_toArray, List.set_cons_zero, List.set_cons_succ]
  refine anyHF_take (i := 19) (d := 34) (v := .bool false) (by kernel_rfl) rfl (by kernel_rfl) (by kernel_rfl) (by kernel_rfl) rfl (fun _ _ _ h => h) ⟨Or.inl ⟨by rfl, fun w hS => by obtain ⟨h0, h1, h2, h3, h4, h5⟩ := hS; go_simp⟩, fun _ => rfl⟩ hS ?_
  simp only [List.setIfInBounds_toArray, List.set_cons_zero, List.set_cons_succ]
  refine anyHF_take (i := 20) (d := 35) (v := .bool false) (by kernel_rfl) rfl (by kernel_rfl) (by kernel_rfl) (by kernel_rfl) rfl (fun _ _ _ h => h) ⟨Or.inl ⟨by rfl, fun w hS => by obtain ⟨h0, h1, h2, h3, h4, h5⟩ := hS; go_simp⟩, fun _ => rfl⟩ hS ?_
  simp only [List.setIfInBounds_toArray, List.set_cons_zero, List.set_cons_succ]
  refine anyHF_take (i := 21) (d := 36) (v := .slice (some ⟨b1, off1, none⟩) na cap) (by kernel_rfl) rfl (by kernel_rfl) (by kernel_rfl) (by kernel_rfl) rfl (fun _ _ _ h => h) ⟨Or.inl ⟨by rfl, fun w hS => by obtain ⟨h0, h1, h2, h3, h4, h5⟩ := hS; go_simp⟩, fun _ => rfl⟩ hS ?_
  simp only [List.setIfInBounds_toArray, List.set_cons_zero, List.set_cons_succ]
  refine anyHF_take (i := 22) (d := 37) (v := .int .i64 (na : Int)) (by kernel_rfl) rfl (by kernel_rfl) (by kernel_rfl) (by kernel_rfl) rfl (fun _ _ _ h => h) ⟨Or.inl ⟨by rfl, fun w hS => by obtain ⟨h0, h1, h2, h3, h4, h5⟩ := hS; go_simp⟩, fun _ => rfl⟩ hS ?_
  simp only [List.setIfInBounds_toArray, List.set_cons_zero, List.set_cons_succ]
  refine anyHF_take (i := 23) (d := 38) (v := .int .i64 (P : Int)) (by kernel_rfl) rfl (by kernel_rfl) (by kernel_rfl) (by kernel_rfl) rfl (fun _ _ _ h => h) ⟨Or.inl ⟨by rfl, fun w hS => by obtain ⟨h0, h1, h2, h3, h4, h5⟩ := hS; go_simp⟩, fun _ => rfl⟩ hS ?_
  simp only [List.setIfInBounds_toArray, List.set_cons_zero, List.set_cons_succ]
  refine anyHF_take (i := 24) (d := 39) (v := .int .i64 ((P : Int) + 1)) (by kernel_rfl) rfl (by kernel_rfl) (by kernel_rfl) (by kernel_rfl) rfl (fun _ _ _ h => h) ⟨Or.inl ⟨by rfl, fun w hS => by obtain ⟨h0, h1, h2, h3, h4, h5⟩ := hS; go_simp⟩, fun _ => rfl⟩ hS ?_
  simp only [List.setIfInBounds_toArray, List.set_cons_zero, List.set_cons_succ]
  refine anyHF_take (i := 25) (d := 40) (v := .bool false) (by kernel_rfl) rfl (by kernel_rfl) (by kernel_rfl) (by kernel_rfl) rfl (fun _ _ _ h => h) ⟨Or.inl ⟨by rfl, fun w hS => by obtain ⟨h0, h1, h2, h3, h4, h5⟩ := hS; go_simp⟩, fun _ => rfl⟩ hS ?_
  simp only [List.setIfInBounds_toArray, List.set_cons_zero, List.set_cons_succ]
  refine anyHF_take (i := 26) (d := 41) (v := .bool false) (by kernel_rfl) rfl (by kernel_rfl) (by kernel_rfl) (by kernel_rfl) rfl (fun _ _ _ h => h) ⟨Or.inl ⟨by rfl, fun w hS => by obtain ⟨h0, h1, h2, h3, h4, h5⟩ := hS; go_simp⟩, fun _ => rfl⟩ hS ?_
  simp only [List.setIfInBounds_toArray, List.set_cons_zero, List.set_cons_succ]
  refine anyHF_take (i := 27) (d := 42) (v := .bool false) (by kernel_rfl) rfl (by kernel_rfl) (by kernel_rfl) (by kernel_rfl) rfl (fun _ _ _ h => h) ⟨Or.inl ⟨by rfl, fun w hS => by obtain ⟨h0, h1, h2, h3, h4, h5⟩ := hS; go_simp⟩, fun _ => rfl⟩ hS ?_
  simp only [List.setIfInBounds_toArray, List.set_cons_zero, List.set_cons_succ]
  refine anyHF_take (i := 28) (d := 43) (v := .slice (some ⟨d1, off2, none⟩) nb cap') (by kernel_rfl) rfl (by kernel_rfl) (by kernel_rfl) (by kernel_rfl) rfl (fun _ _ _ h => h) ⟨Or.inl ⟨by rfl, fun w hS => by obtain ⟨h0, h1, h2, h3, h4, h5⟩ := hS; go_simp⟩, fun _ => rfl⟩ hS ?_
  simp only [List.setIfInBounds_toArray, List.set_cons_zero, List.set_cons_succ]
  refine anyHF_take (i := 29) (d := 44) (v := .int .i64 (nb : Int)) (by kernel_rfl) rfl (by kernel_rfl) (by kernel_rfl) (by kernel_rfl) rfl (fun _ _ _ h => h) ⟨Or.inl ⟨by rfl, fun w hS => by obtain ⟨h0, h1, h2, h3, h4, h5⟩ := hS; go_simp⟩, fun _ => rfl⟩ hS ?_
  simp only [List.setIfInBounds_toArray, List.set_cons_zero, List.set_cons_succ]
  refine anyHF_take (i := 30) (d := 45) (v := .int .i64 (P : Int)) (by kernel_rfl) rfl (by kernel_rfl) (by kernel_rfl) (by kernel_rfl) rfl (fun _ _ _ h => h) ⟨Or.inl ⟨by rfl, fun w hS => by obtain ⟨h0, h1, h2, h3, h4, h5⟩ := hS; go_simp⟩, fun _ => rfl⟩ hS ?_
  simp only [List.setIfInBounds_toArray, List.set_cons_zero, List.set_cons_succ]
  refine anyHF_take (i := 31) (d := 46) (v := .int .i64 ((P : Int) + 1)) (by kernel_rfl) rfl (by kernel_rfl) (by kernel_rfl) (by kernel_rfl) rfl (fun _ _ _ h => h) ⟨Or.inl ⟨by rfl, fun w hS => by obtain ⟨h0, h1, h2, h3, h4, h5⟩ := hS; go_simp⟩, fun _ => rfl⟩ hS ?_
  simp only [List.setIfInBounds_toArray, List.set_cons_zero, List.set_cons_succ]
  refine anyHF_take (i := 32) (d := 47) (v := .bool false) (by kernel_rfl) rfl (by kernel_rfl) (by kernel_rfl) (by kernel_rfl) rfl (fun _ _ _ h => h) ⟨Or.inl ⟨by rfl, fun w hS => by obtain ⟨h0, h1, h2, h3, h4, h5⟩ := hS; go_simp⟩, fun _ => rfl⟩ hS ?_
  simp only [List.setIfInBounds_toArray, List.set_cons_zero, List.set_cons_succ]
  refine anyHF_take (i := 33) (d := 48) (v := .bool false) (by kernel_rfl) rfl (by kernel_rfl) (by kernel_rfl) (by kernel_rfl) rfl (fun _ _ _ h => h) ⟨Or.inl ⟨by rfl, fun w hS => by obtain ⟨h0, h1, h2, h3, h4, h5⟩ := hS; go_simp⟩, fun _ => rfl⟩ hS ?_
  simp only [List.setIfInBounds_toArray, List.set_cons_zero, List.set_cons_succ]
  refine anyHF_take (i := 34) (d := 49) (v := .bool false) (by kernel_rfl) rfl (by kernel_rfl) (by kernel_rfl) (by kernel_rfl) rfl (fun _ _ _ h => h) ⟨Or.inl ⟨by rfl, fun w hS => by obtain ⟨h0, h1, h2, h3, h4, h5⟩ := hS; go_simp⟩, fun _ => rfl⟩ hS ?_
  simp only [List.setIfInBounds_toArray, List.set_cons_zero, List.set_cons_succ]
  refine anyHF_take (i := 35) (d := 50) (v := .slice (some ⟨b1, off1, none⟩) na cap) (by kernel_rfl) rfl (by kernel_rfl) (by kernel_rfl) (by kernel_rfl) rfl (fun _ _ _ h => h) ⟨Or.inl ⟨by rfl, fun w hS => by obtain ⟨h0, h1, h2, h3, h4, h5⟩ := hS; go_simp⟩, fun _ => rfl⟩ hS ?_
  simp only [List.setIfInBounds_toArray, List.set_cons_zero, List.set_cons_succ]
  refine anyHF_take (i := 36) (d := 51) (v := .pointer (some ⟨b1, off1, none⟩)) (by kernel_rfl) rfl (by kernel_rfl) (by kernel_rfl) (by kernel_rfl) rfl (fun _ _ _ h => h) ⟨Or.inl ⟨by rfl, fun w hS => by obtain ⟨h0, h1, h2, h3, h4, h5⟩ := hS; go_simp⟩, fun _ => rfl⟩ hS ?_
  simp only [List.setIfInBounds_toArray, List.set_cons_zero, List.set_cons_succ]
  refine anyHF_take (i := 37) (d := 52) (v := .slice (some ⟨b9, off9, none⟩) Q cap9) (by kernel_rfl) rfl (by kernel_rfl) (by kernel_rfl) (by kernel_rfl) rfl (fun _ _ _ h => h) ⟨Or.inl ⟨by rfl, fun w hS => by obtain ⟨h0, h1, h2, h3, h4, h5⟩ := hS; go_simp⟩, fun _ => rfl⟩ hS ?_
  simp only [List.setIfInBounds_toArray, List.set_cons_zero, List.set_cons_succ]
  refine anyHF_take (i := 38) (d := 53) (v := .pointer (some ⟨b9, off9, none⟩)) (by kernel_rfl) rfl (by kernel_rfl) (by kernel_rfl) (by kernel_rfl) rfl (fun _ _ _ h => h) ⟨Or.inl ⟨by rfl, fun w hS => by obtain ⟨h0, h1, h2, h3, h4, h5⟩ := hS; go_simp⟩, fun _ => rfl⟩ hS ?_
  simp only [List.setIfInBounds_toArray, List.set_cons_zero, List.set_cons_succ]
  refine anyHF_take (i := 39) (d := 54) (v := .slice B9 n cp9) (by kernel_rfl) rfl (by kernel_rfl) (by kernel_rfl) (by kernel_rfl) rfl (fun _ _ _ h => h) ⟨Or.inl ⟨by rfl, fun w hS => by obtain ⟨h0, h1, h2, h3, h4, h5⟩ := hS; go_simp⟩, fun _ => rfl⟩ hS ?_
  simp only [List.setIfInBounds_toArray, List.set_cons_zero, List.set_cons_succ]
  refine anyHF_take (i := 40) (d := 55) (v := .int .i64 (n : Int)) (by kernel_rfl) rfl (by kernel_rfl) (by kernel_rfl) (by kernel_rfl) rfl (fun _ _ _ h => h) ⟨Or.inl ⟨by rfl, fun w hS => by obtain ⟨h0, h1, h2, h3, h4, h5⟩ := hS; go_simp⟩, fun _ => rfl⟩ hS ?_
  simp only [List.setIfInBounds_toArray, List.set_cons_zero, List.set_cons_succ]
  refine anyHF_take (i := 41) (d := 56) (v := .slice (some ⟨d1, off2, none⟩) nb cap') (by kernel_rfl) rfl (by kernel_rfl) (by kernel_rfl) (by kernel_rfl) rfl (fun _ _ _ h => h) ⟨Or.inl ⟨by rfl, fun w hS => by obtain ⟨h0, h1, h2, h3, h4, h5⟩ := hS; go_simp⟩, fun _ => rfl⟩ hS ?_
  simp only [List.setIfInBounds_toArray, List.set_cons_zero, List.set_cons_succ]
  refine anyHF_take (i := 42) (d := 57) (v := .pointer (some ⟨d1, off2, none⟩)) (by kernel_rfl) rfl (by kernel_rfl) (by kernel_rfl) (by kernel_rfl) rfl (fun _ _ _ h => h) ⟨Or.inl ⟨by rfl, fun w hS => by obtain ⟨h0, h1, h2, h3, h4, h5⟩ := hS; go_simp⟩, fun _ => rfl⟩ hS ?_
  simp only [List.setIfInBounds_toArray, List.set_cons_zero, List.set_cons_succ]
  refine anyHF_take (i := 43) (d := 58) (v := .slice (some ⟨b8, off8, none⟩) Q cap8) (by kernel_rfl) rfl (by kernel_rfl) (by kernel_rfl) (by kernel_rfl) rfl (fun _ _ _ h => h) ⟨Or.inl ⟨by rfl, fun w hS => by obtain ⟨h0, h1, h2, h3, h4, h5⟩ := hS; go_simp⟩, fun _ => rfl⟩ hS ?_
  simp only [List.setIfInBounds_toArray, List.set_cons_zero, List.set_cons_succ]
  refine anyHF_take (i := 44) (d := 59) (v := .pointer (some ⟨b8, off8, none⟩)) (by kernel_rfl) rfl (by kernel_rfl) (by kernel_rfl) (by kernel_rfl) rfl (fun _ _ _ h => h) ⟨Or.inl ⟨by rfl, fun w hS => by obtain ⟨h0, h1, h2, h3, h4, h5⟩ := hS; go_simp⟩, fun _ => rfl⟩ hS ?_
  simp only [List.setIfInBounds_toArray, List.set_cons_zero, List.set_cons_succ]
  refine anyHF_take (i := 45) (d := 60) (v := .slice B8 n cp8) (by kernel_rfl) rfl (by kernel_rfl) (by kernel_rfl) (by kernel_rfl) rfl (fun _ _ _ h => h) ⟨Or.inl ⟨by rfl, fun w hS => by obtain ⟨h0, h1, h2, h3, h4, h5⟩ := hS; go_simp⟩, fun _ => rfl⟩ hS ?_
  simp only [List.setIfInBounds_toArray, List.set_cons_zero, List.set_cons_succ]
  refine anyHF_take (i := 46) (d := 61) (v := .int .i64 (n : Int)) (by kernel_rfl) rfl (by kernel_rfl) (by kernel_rfl) (by kernel_rfl) rfl (fun _ _ _ h => h) ⟨Or.inl ⟨by rfl, fun w hS => by obtain ⟨h0, h1, h2, h3, h4, h5⟩ := hS; go_simp⟩, fun _ => rfl⟩ hS ?_
  simp only [List.setIfInBounds_toArray, List.set_cons_zero, List.set_cons_succ]
  refine anyHF_take (i := 47) (d := 62) (v := .bool false) (by kernel_rfl) rfl (by kernel_rfl) (by kernel_rfl) (by kernel_rfl) rfl (fun _ _ _ h => h) ⟨Or.inl ⟨by rfl, fun w hS => by obtain ⟨h0, h1, h2, h3, h4, h5⟩ := hS; go_simp⟩, fun _ => rfl⟩ hS ?_
  simp only [List.setIfInBounds_toArray, List.set_cons_zero, List.set_cons_succ]
  refine anyHF_take (i := 48) (d := 63) (v := .bool false) (by kernel_rfl) rfl (by kernel_rfl) (by kernel_rfl) (by kernel_rfl) rfl (fun _ _ _ h => h) ⟨Or.inl ⟨by rfl, fun w hS => by obtain ⟨h0, h1, h2, h3, h4, h5⟩ := hS; go_simp⟩, fun _ => rfl⟩ hS ?_
  simp only [List.setIfInBounds_toArray, List.set_cons_zero, List.set_cons_succ]
  refine anyHF_take (i := 49) (d := 64) (v := .bool false) (by kernel_rfl) rfl (by kernel_rfl) (by kernel_rfl) (by kernel_rfl) rfl (fun _ _ _ h => h) ⟨Or.inl ⟨by rfl, fun w hS => by obtain ⟨h0, h1, h2, h3, h4, h5⟩ := hS; go_simp⟩, fun _ => rfl⟩ hS ?_
  simp only [List.setIfInBounds_toArray, List.set_cons_zero, List.set_cons_succ]
  refine anyHF_take (i := 50) (d := 65) (v := .int .i64 (P : Int)) (by kernel_rfl) rfl (by kernel_rfl) (by kernel_rfl) (by kernel_rfl) rfl (fun _ _ _ h => h) ⟨Or.inl ⟨by rfl, fun w hS => by obtain ⟨h0, h1, h2, h3, h4, h5⟩ := hS; go_simp⟩, fun _ => rfl⟩ hS ?_
  simp only [List.setIfInBounds_toArray, List.set_cons_zero, List.set_cons_succ]
  refine anyHF_take (i := 51) (d := 66) (v := .pointer (some ⟨g0, 0, none⟩)) (by kernel_rfl) rfl (by kernel_rfl) (by kernel_rfl) (by kernel_rfl) rfl (fun _ _ _ h => h) ⟨Or.inl ⟨by rfl, fun w hS => by obtain ⟨h0, h1, h2, h3, h4, h5⟩ := hS; go_simp⟩, fun _ => rfl⟩ hS ?_
  simp only [List.setIfInBounds_toArray, List.set_cons_zero, List.set_cons_succ]
  refine anyHF_take (i := 52) (d := 67) (v := .int .i64 x0) (by kernel_rfl) rfl (by kernel_rfl) (by kernel_rfl) (by kernel_rfl) rfl (fun _ _ _ h => h) ⟨Or.inl ⟨by rfl, fun w hS => by obtain ⟨h0, h1, h2, h3, h4, h5⟩ := hS; go_simp⟩, fun _ => rfl⟩ hS ?_
  simp only [List.setIfInBounds_toArray, List.set_cons_zero, List.set_cons_succ]
  refine anyHF_take (i := 53) (d := 68) (v := .pointer (some ⟨g0, 1, none⟩)) (by kernel_rfl) rfl (by kernel_rfl) (by kernel_rfl) (by kernel_rfl) rfl (fun _ _ _ h => h) ⟨Or.inl ⟨by rfl, fun w hS => by obtain ⟨h0, h1, h2, h3, h4, h5⟩ := hS; go_simp⟩, fun _ => rfl⟩ hS ?_
  simp only [List.setIfInBounds_toArray, List.set_cons_zero, List.set_cons_succ]
  refine anyHF_take (i := 54) (d := 69) (v := .int .i64 x1) (by kernel_rfl) rfl (by kernel_rfl) (by kernel_rfl) (by kernel_rfl) rfl (fun _ _ _ h => h) ⟨Or.inl ⟨by rfl, fun w hS => by obtain ⟨h0, h1, h2, h3, h4, h5⟩ := hS; go_simp⟩, fun _ => rfl⟩ hS ?_
  simp only [List.setIfInBounds_toArray, List.set_cons_zero, List.set_cons_succ]
  refine anyHF_one (i := 55) (by kernel_rfl) rfl (by kernel_rfl) (by rfl) ?_
  gi_wp2_with fail
  refine ⟨trivial, (callsIn_wide.2 (HTH.out _)).mono ?_⟩
  rintro e wn ⟨rfl, rfl⟩
  gi_wp2
  try (refine ⟨hS, ?_⟩)
  refine anyHF_take (i := 56) (d := 71) (v := .bool true) (by kernel_rfl) rfl (by kernel_rfl) (by kernel_rfl) (by kernel_rfl) rfl (fun _ _ _ h => h) ⟨Or.inl ⟨by rfl, fun w hS => by obtain ⟨h0, h1, h2, h3, h4, h5⟩ := hS; go_simp⟩, fun _ => rfl⟩ hS ?_
  simp only [List.setIfInBounds_toArray, List.set_cons_zero, List.set_cons_succ]
  refine anyHF_take (i := 57) (d := 72) (v := .bool true) (by kernel_rfl) rfl (by kernel_rfl) (by kernel_rfl) (by kernel_rfl) rfl (fun _ _ _ h => h) ⟨Or.inl ⟨by rfl, fun w hS => by obtain ⟨h0, h1, h2, h3, h4, h5⟩ := hS; go_simp⟩, fun _ => rfl⟩ hS ?_
  simp only [List.setIfInBounds_toArray, List.set_cons_zero, List.set_cons_succ]
  refine anyHF_done (by kernel_rfl) ?_ _
  refine NoPanic.normal ?_
  clear hS
  go_wp2_with fail
  refine (works12_any _ (HLW.out _ (below_in hB0 hB))).mono ?_
  rintro e w1 ⟨rfl, hB1⟩
  go_wp2
  go_ret
  exact ⟨rfl, below_in (below_in hB0 hB) hB1⟩

open Go.Proofs.YtcchjofjpflbhaaGreatDoor.E Go.Proofs.YtcchjofjpflbhaaGreatDoor.C Go.Proofs.YtcchjofjpflbhaaGreatDoor.T Go.Proofs.YtcchjofjpflbhaaGreatDoor.Ch in
set_option maxRecDepth 100000 in
set_option maxHeartbeats 4000000 in
theorem yes (p : Int) (v : Value) (a : List (List (List UInt8))) (v2 : Value) (b : List (List (List UInt8))) (x0 x1 : Int) (w : World) (hL : Laid w) (wp : -9223372036854775808 ≤ p ∧ p ≤ 9223372036854775807) (hC : Cols w.heap.size w v a) (hD : Cols w.heap.size w v2 b) (wx : -9223372036854775808 ≤ x0 ∧ x0 ≤ 9223372036854775807) (wy : -9223372036854775808 ≤ x1 ∧ x1 ≤ 9223372036854775807) (hf0 : Few6 a) (hf1 : Few6 b) (hr0 : RightD p a) (hr1 : RightD p b) (hna : (a.length : Int) = p + 1) (hnb : (b.length : Int) = p + 1) (hl : (firstC a).length = (firstC b).length) (hth : 0 ≤ x0 ∧ x0 < x1 ∧ x1 < p) :
    Calls Tryz.prog 8 #[.int .i64 p, v, v2, .agg #[.int .i64 x0, .int .i64 x1]] w fun e w' => e = .returned (.bool true) ∧ Below w.heap.size w w' := by
  obtain ⟨A, cap, rfl, _, _⟩ := id hC
  obtain ⟨A', cap', rfl, _, _⟩ := id hD
  obtain ⟨w0, hw0⟩ : ∃ x, w.alloc (.cells #[.int .i64 x0, .int .i64 x1] 22) = x := ⟨_, rfl⟩
  obtain ⟨g0, hg0⟩ : ∃ g, w.heap.size = g := ⟨_, rfl⟩
  have b0 : Blk w0 g0 22 #[.int .i64 x0, .int .i64 x1] := by rw [← hw0, ← hg0]; exact Blk.new w _ _
  have hB0 : Below w.heap.size w w0 := by rw [← hw0]; exact below_one w _
  have HW0 := Lib.hid hw0
  have HG0 := Lib.hid hg0
  have HLW := Lib.hid (fun (U : World) (hU : Below w.heap.size w U) => hL.next hU)
  have HF0 := Lib.hid (fun (U : World) (hU : Below w0.heap.size w0 U) => few6_any _ a U (hC.below (below_in hB0 hU)) true (by simp [hf0]))
  have HF1 := Lib.hid (fun (U : World) (hU : Below w0.heap.size w0 U) => few6_any _ b U (hD.below (below_in hB0 hU)) true (by simp [hf1]))
  have HR0 := Lib.hid (fun (U : World) (hU : Below w0.heap.size w0 U) => right6_any p _ a U (below_in hB0 hU).size (hC.below (below_in hB0 hU)) (by have := hf0.1; omega) true (by simp [hr0]))
  have HR1 := Lib.hid (fun (U : World) (hU : Below w0.heap.size w0 U) => right6_any p _ b U (below_in hB0 hU).size (hD.below (below_in hB0 hU)) (by have := hf1.1; omega) true (by simp [hr1]))
  have h0a := hr0.2.1
  have h0b := hr1.2.1
  obtain ⟨P, Q, n, rfl, hQ, hp, h1, h64, hn1, ga⟩ := Go.Proofs.YtcchjofjpflbhaaGreatDoor.Rg.right_yes hr0 h0a
  obtain ⟨P', Q', n2, hPP, hQ', _, h1', h64', hn2, gb⟩ := Go.Proofs.YtcchjofjpflbhaaGreatDoor.Rg.right_yes hr1 h0b
  obtain rfl : P = P' := Int.ofNat_inj.1 hPP
  obtain rfl : Q = Q' := Nat.succ.inj (hQ.symm.trans hQ')
  have hpb := prm_bounds hp
  have hQ0 := q_pos hpb.1 hQ
  obtain ⟨b1, off1, cq, e1, _, hb1, hrow⟩ := hC.at_ h0a
  injection e1 with e1 _ e1c
  subst e1
  subst e1c
  obtain ⟨d1, off2, cq, e1, _, hd1, hrowd⟩ := hD.at_ h0b
  injection e1 with e1 _ e1c
  subst e1
  subst e1c
  obtain ⟨u9, hu9, hm9⟩ := hrow 0 h0a
  obtain ⟨u8, hu8, hm8⟩ := hrowd 0 h0b
  have g9 := ga 0 h0a
  have g8 := gb 0 h0b
  obtain ⟨A9, cap9, rfl, _, _⟩ := id hm9
  obtain ⟨A8, cap8, rfl, _, _⟩ := id hm8
  obtain ⟨b9, off9, rfl, hb9, hrow9⟩ := many_at hm9 (by rw [g9.1]; exact hQ0)
  obtain ⟨b8, off8, rfl, hb8, hrow8⟩ := many_at hm8 (by rw [g8.1]; exact hQ0)
  obtain ⟨B9, cp9, hx9, hby9⟩ := hrow9 0 (by rw [g9.1]; exact hQ0)
  obtain ⟨B8, cp8, hx8, hby8⟩ := hrow8 0 (by rw [g8.1]; exact hQ0)
  rw [Nat.add_zero] at hu9 hu8 hx9 hx8
  rw [g9.1] at hu9 hm9
  rw [g8.1] at hu8
  rw [(g9.2 0 hQ0).2] at hx9
  rw [(g8.2 0 hQ0).2] at hx8
  obtain rfl : n = n2 := by rw [← hn1, ← hn2]; exact hl
  have hne : ((a.length : Int) != (P : Int) + 1) = false := by rw [hna]; simp
  have hne2 : ((b.length : Int) != (P : Int) + 1) = false := by rw [hnb]; simp
  have hw2 : IntKind.i64.wrap ((P : Int) + 1) = (P : Int) + 1 := IntWalk.i64_in _ (by omega)
  have z1 : (0 : Int) < (a.length : Int) := Int.ofNat_lt.2 h0a
  have z6 : ¬ a.length = 0 := fun h => by rw [h] at h0a; exact Nat.lt_irrefl _ h0a
  have z7 : ¬ b.length = 0 := fun h => by rw [h] at h0b; exact Nat.lt_irrefl _ h0b
  have z2 : (0 : Int) < (b.length : Int) := Int.ofNat_lt.2 h0b
  have z3 : (0 : Int) < (Q : Int) := Int.ofNat_lt.2 hQ0
  have z5 : ¬ Q = 0 := fun h => by rw [h] at hQ0; exact Nat.lt_irrefl _ hQ0
  clear hQ0
  have d : Go.Proofs.YtcchjofjpflbhaaGreatDoor.Rg.Dims P Q n := ⟨hQ, hp, h1, h64⟩
  have hNA : a.length = P + 1 := by omega
  have hNB : b.length = P + 1 := by omega
  have hgA : ∀ i, i < a.length → (i : Int) ∉ [x0, x1] → GoodC Q n (a[i]?.getD []) := fun i hi _ => ga i hi
  have hgB : ∀ i, i < b.length → (i : Int) ∉ [x0, x1] → GoodC Q n (b[i]?.getD []) := fun i hi _ => gb i hi
  have gp := put_goods (y := b) d ga
  have hNP : (putOf a b).length = P + 1 := putOf_len.trans hNA
  have hP : ((P : Nat) : Int) ∉ [x0, x1] := by simp; omega
  obtain ⟨A1, B1, hsA⟩ := solvesP_two d hth.1 hth.2.1 hth.2.2 hNA ga
  obtain ⟨A2, B2, hsB⟩ := solvesP_two d hth.1 hth.2.1 hth.2.2 hNB gb
  have hsC := solvesP_add d hsA hsB (rsP_add d hNA hNB ga gb) (dsP_add d hNA hNB ga gb hP)
  have HRA := Lib.hid (fun (U : World) (hU : Below w.heap.size w U) => pRecover_yes (B := w.heap.size) d x0 x1 hth.1 hth.2.1 hth.2.2 a a.length rfl hNA hgA (some ⟨b1, off1, none⟩) cap _ _ hsA U (hL.next hU) hU.size (hC.below hU))
  have HRB := Lib.hid (fun (U : World) (hU : Below w.heap.size w U) => pRecover_yes (B := w.heap.size) d x0 x1 hth.1 hth.2.1 hth.2.2 b b.length rfl hNB hgB (some ⟨d1, off2, none⟩) cap' _ _ hsB U (hL.next hU) hU.size (hD.below hU))
  have HRC := Lib.hid (fun (U : World) (Az : Option Addr) (cz : Nat) (hU : Laid U) (hCU : Cols U.heap.size U (.slice Az a.length cz) (putOf a b)) => pRecover_yes d x0 x1 hth.1 hth.2.1 hth.2.2 (putOf a b) a.length putOf_len (hNA) (fun i hi _ => gp i hi) Az cz _ _ hsC U hU (Nat.le_refl _) hCU)
  have HPUT := Lib.hid (fun (U : World) (hU : Below w.heap.size w U) => putsY d (by omega) (by omega) ga gb _ _ U hU.size (hC.below hU) (hD.below hU))
  have HPL : Hid ((putOf a b).length = a.length) := putOf_len
  have HXY := Lib.hid (fun (U : World) (x y : Value) (hX : Cols U.heap.size U x [A1, B1]) (hY : Cols U.heap.size U y [A2, B2]) => putsY (a := [A1, B1]) (b := [A2, B2]) d (by simp) (by simp) (two_goods hsA.gA hsA.gB) (two_goods hsB.gA hsB.gB) x y U (Nat.le_refl _) hX hY)
  rw [show putOf [A1, B1] [A2, B2] = [Go.Proofs.YtcchjofjpflbhaaGreatDoor.Rg.putC A1 A2, Go.Proofs.YtcchjofjpflbhaaGreatDoor.Rg.putC B1 B2] from rfl] at HXY
  have HSM := Lib.hid (fun (u v : Value) (V : World) (h1 : Cols V.heap.size V u [Go.Proofs.YtcchjofjpflbhaaGreatDoor.Rg.putC A1 A2, Go.Proofs.YtcchjofjpflbhaaGreatDoor.Rg.putC B1 B2]) (h2 : Cols V.heap.size V v [Go.Proofs.YtcchjofjpflbhaaGreatDoor.Rg.putC A1 A2, Go.Proofs.YtcchjofjpflbhaaGreatDoor.Rg.putC B1 B2]) => same_two (Q := Q) (n := n) (by omega) (Go.Proofs.YtcchjofjpflbhaaGreatDoor.Rg.put_good d.h1 d.h64 hsA.gA) (Go.Proofs.YtcchjofjpflbhaaGreatDoor.Rg.put_good d.h1 d.h64 hsA.gB) u v V h1 h2)
  have hRW : RightD (P : Int) ([a[0]?.getD []] ++ [A1, B1] ++ [A2, B2]) := (Go.Proofs.YtcchjofjpflbhaaGreatDoor.Rg.right_of_good hQ hp (by simp) (five_goods g9 hsA.gA hsA.gB hsB.gA hsB.gB)).1
  have HRX := Lib.hid (fun (U : World) (x : Value) (hCU : Cols U.heap.size U x ([a[0]?.getD []] ++ [A1, B1] ++ [A2, B2])) => right6_any (P : Int) x _ U (Nat.le_refl _) hCU (by simp) true (by simp only [true_iff]; exact hRW))
  have HM9 : Hid (∀ U : World, Below w.heap.size w U → Many w.heap.size U (.slice (some ⟨b9, off9, none⟩) Q cap9) (a[0]?.getD [])) := fun U hU => hm9.below hU
  have HTH := Lib.hid (fun W => there12_any (P : Int) x0 x1 W)
  rw [decide_eq_true hth] at HTH
  have HSS : Hid (∀ U, Below w0.heap.size w0 U → (fun U : World => U.cell? ⟨g0, 0, none⟩ = some (.int .i64 x0) ∧ U.cell? ⟨g0, 1, none⟩ = some (.int .i64 x1) ∧ U.cell? ⟨b1, off1, none⟩ = some (.slice (some ⟨b9, off9, none⟩) Q cap9) ∧ U.cell? ⟨b9, off9, none⟩ = some (.slice B9 n cp9) ∧ U.cell? ⟨d1, off2, none⟩ = some (.slice (some ⟨b8, off8, none⟩) Q cap8) ∧ U.cell? ⟨b8, off8, none⟩ = some (.slice B8 n cp8)) U) := fun U hU => by
      have h0 := b0.below hU b0.lt
      have hx := below_in hB0 hU
      exact ⟨h0.cell 0, h0.cell 1, (hx.cell (p := ⟨b1, off1, none⟩) hb1).trans hu9, (hx.cell (p := ⟨b9, off9, none⟩) hb9).trans hx9, (hx.cell (p := ⟨d1, off2, none⟩) hd1).trans hu8, (hx.cell (p := ⟨b8, off8, none⟩) hb8).trans hx8⟩
  have HSB : Hid (∀ U, Below w0.heap.size w0 U → (fun U : World => U.cell? ⟨g0, 0, none⟩ = some (.int .i64 x0) ∧ U.cell? ⟨g0, 1, none⟩ = some (.int .i64 x1)) U) := fun U hU => ⟨(HSS.out U hU).1, (HSS.out U hU).2.1⟩
  clear hf0 hf1 hr0 hr1 hC hD b0 hl hrow hrowd hrow9 hrow8 hby9 hby8 hm9 hm8 g9 g8 ga gb hn1 hn2 hQ hQ' hna hnb hu9 hu8 hx9 hx8 hPP h0a h0b h1 h64 h1' h64' hth hgA hgB gp hNP hsA hsB hsC hRW hp d
  generalize a[0]?.getD [] = cs0 at *
  generalize putOf a b = pab at *
  generalize Go.Proofs.YtcchjofjpflbhaaGreatDoor.Rg.putC A1 A2 = A3 at *
  generalize Go.Proofs.YtcchjofjpflbhaaGreatDoor.Rg.putC B1 B2 = B3 at *
  clear hw0 hg0
  have HNAB : Hid (a.length = P + 1 ∧ b.length = P + 1) := ⟨hNA, hNB⟩
  clear hNA hNB
  generalize a.length = na at *
  generalize b.length = nb at *
  try clear gRA gDA gRB gDB
  try clear hP
  try clear hP1
  try clear hba
  go_enter Tryz.func8, Tryz.ntmps8
  go_wp2_with fail
  rw [HW0.out]
  (try rw [HG0.out])
  have hB : Below w0.heap.size w0 w0.drew := (Below.refl _ _).drew
  have hS : (fun U : World => U.cell? ⟨g0, 0, none⟩ = some (.int .i64 x0) ∧ U.cell? ⟨g0, 1, none⟩ = some (.int .i64 x1) ∧ U.cell? ⟨b1, off1, none⟩ = some (.slice (some ⟨b9, off9, none⟩) Q cap9) ∧ U.cell? ⟨b9, off9, none⟩ = some (.slice B9 n cp9) ∧ U.cell? ⟨d1, off2, none⟩ = some (.slice (some ⟨b8, off8, none⟩) Q cap8) ∧ U.cell? ⟨b8, off8, none⟩ = some (.slice B8 n cp8)) w0.drew := HSS.out _ hB
  refine (wpIn_wide (n := 12)).1 (wpIn_mono (region_HF (Q := NoPanic _) (S := (fun U : World => U.cell? ⟨g0, 0, none⟩ = some (.int .i64 x0) ∧ U.cell? ⟨g0, 1, none⟩ = some (.int .i64 x1) ∧ U.cell? ⟨b1, off1, none⟩ = some (.slice (some ⟨b9, off9, none⟩) Q cap9) ∧ U.cell? ⟨b9, off9, none⟩ = some (.slice B9 n cp9) ∧ U.cell? ⟨d1, off2, none⟩ = some (.slice (some ⟨b8, off8, none⟩) Q cap8) ∧ U.cell? ⟨b8, off8, none⟩ = some (.slice B8 n cp8))) (by kernel_rfl) ?_) NoPanic.imp)
  refine anyHF_take (i := 0) (d := 15) (v := .slice (some ⟨b1, off1, none⟩) na cap) (by kernel_rfl) rfl (by kernel_rfl) (by kernel_rfl) (by kernel_rfl) rfl (fun _ _ _ h => h) ⟨Or.inl ⟨by rfl, fun w hS => by obtain ⟨h0, h1, h2, h3, h4, h5⟩ := hS; go_simp⟩, fun _ => rfl⟩ hS ?_
  simp only [List.setIfInBounds_toArray, List.set_cons_zero, List.set_cons_succ]
  refine anyHF_one (i := 1) (by kernel_rfl) rfl (by kernel_rfl) (by rfl) ?_
  gi_wp2_with fail
  refine ⟨trivial, (callsIn_wide.2 (HF0.out _ hB)).mono ?_⟩
  rintro e wn ⟨rfl, rfl⟩
  gi_wp2
  try (refine ⟨hS, ?_⟩)
  refine anyHF_take (i := 2) (d := 17) (v := .bool false) (by kernel_rfl) rfl (by kernel_rfl) (by kernel_rfl) (by kernel_rfl) rfl (fun _ _ _ h => h) ⟨Or.inl ⟨by rfl, fun w hS => by obtain ⟨h0, h1, h2, h3, h4, h5⟩ := hS; go_simp⟩, fun _ => rfl⟩ hS ?_
  simp only [List.setIfInBounds_toArray, List.set_cons_zero, List.set_cons_succ]
  refine anyHF_take (i := 3) (d := 18) (v := .bool false) (by kernel_rfl) rfl (by kernel_rfl) (by kernel_rfl) (by kernel_rfl) rfl (fun _ _ _ h => h) ⟨Or.inl ⟨by rfl, fun w hS => by obtain ⟨h0, h1, h2, h3, h4, h5⟩ := hS; go_simp⟩, fun _ => rfl⟩ hS ?_
  simp only [List.setIfInBounds_toArray, List.set_cons_zero, List.set_cons_succ]
  refine anyHF_take (i := 4) (d := 19) (v := .slice (some ⟨d1, off2, none⟩) nb cap') (by kernel_rfl) rfl (by kernel_rfl) (by kernel_rfl) (by kernel_rfl) rfl (fun _ _ _ h => h) ⟨Or.inl ⟨by rfl, fun w hS => by obtain ⟨h0, h1, h2, h3, h4, h5⟩ := hS; go_simp⟩, fun _ => rfl⟩ hS ?_
  simp only [List.setIfInBounds_toArray, List.set_cons_zero, List.set_cons_succ]
  refine anyHF_one (i := 5) (by kernel_rfl) rfl (by kernel_rfl) (by rfl) ?_
  gi_wp2_with fail
  refine ⟨trivial, (callsIn_wide.2 (HF1.out _ hB)).mono ?_⟩
  rintro e wn ⟨rfl, rfl⟩
  gi_wp2
  try (refine ⟨hS, ?_⟩)
  refine anyHF_take (i := 6) (d := 21) (v := .bool false) (by kernel_rfl) rfl (by kernel_rfl) (by kernel_rfl) (by kernel_rfl) rfl (fun _ _ _ h => h) ⟨Or.inl ⟨by rfl, fun w hS => by obtain ⟨h0, h1, h2, h3, h4, h5⟩ := hS; go_simp⟩, fun _ => rfl⟩ hS ?_
  simp only [List.setIfInBounds_toArray, List.set_cons_zero, List.set_cons_succ]
  refine anyHF_take (i := 7) (d := 22) (v := .bool false) (by kernel_rfl) rfl (by kernel_rfl) (by kernel_rfl) (by kernel_rfl) rfl (fun _ _ _ h => h) ⟨Or.inl ⟨by rfl, fun w hS => by obtain ⟨h0, h1, h2, h3, h4, h5⟩ := hS; go_simp⟩, fun _ => rfl⟩ hS ?_
  simp only [List.setIfInBounds_toArray, List.set_cons_zero, List.set_cons_succ]
  refine anyHF_take (i := 8) (d := 23) (v := .bool false) (by kernel_rfl) rfl (by kernel_rfl) (by kernel_rfl) (by kernel_rfl) rfl (fun _ _ _ h => h) ⟨Or.inl ⟨by rfl, fun w hS => by obtain ⟨h0, h1, h2, h3, h4, h5⟩ := hS; go_simp⟩, fun _ => rfl⟩ hS ?_
  simp only [List.setIfInBounds_toArray, List.set_cons_zero, List.set_cons_succ]
  refine anyHF_take (i := 9) (d := 24) (v := .int .i64 (P : Int)) (by kernel_rfl) rfl (by kernel_rfl) (by kernel_rfl) (by kernel_rfl) rfl (fun _ _ _ h => h) ⟨Or.inl ⟨by rfl, fun w hS => by obtain ⟨h0, h1, h2, h3, h4, h5⟩ := hS; go_simp⟩, fun _ => rfl⟩ hS ?_
  simp only [List.setIfInBounds_toArray, List.set_cons_zero, List.set_cons_succ]
  refine anyHF_take (i := 10) (d := 25) (v := .slice (some ⟨b1, off1, none⟩) na cap) (by kernel_rfl) rfl (by kernel_rfl) (by kernel_rfl) (by kernel_rfl) rfl (fun _ _ _ h => h) ⟨Or.inl ⟨by rfl, fun w hS => by obtain ⟨h0, h1, h2, h3, h4, h5⟩ := hS; go_simp⟩, fun _ => rfl⟩ hS ?_
  simp only [List.setIfInBounds_toArray, List.set_cons_zero, List.set_cons_succ]
  refine anyHF_one (i := 11) (by kernel_rfl) rfl (by kernel_rfl) (by rfl) ?_
  gi_wp2_with fail
  refine ⟨trivial, (callsIn_wide.2 (HR0.out _ hB)).mono ?_⟩
  rintro e wn ⟨rfl, hBn⟩
  replace hB := below_in hB hBn
  clear hBn
  clear hS
  have hS : (fun U : World => U.cell? ⟨g0, 0, none⟩ = some (.int .i64 x0) ∧ U.cell? ⟨g0, 1, none⟩ = some (.int .i64 x1) ∧ U.cell? ⟨b1, off1, none⟩ = some (.slice (some ⟨b9, off9, none⟩) Q cap9) ∧ U.cell? ⟨b9, off9, none⟩ = some (.slice B9 n cp9) ∧ U.cell? ⟨d1, off2, none⟩ = some (.slice (some ⟨b8, off8, none⟩) Q cap8) ∧ U.cell? ⟨b8, off8, none⟩ = some (.slice B8 n cp8)) wn := HSS.out _ hB
  gi_wp2
  try (refine ⟨hS, ?_⟩)
  refine anyHF_take (i := 12) (d := 27) (v := .bool false) (by kernel_rfl) rfl (by kernel_rfl) (by kernel_rfl) (by kernel_rfl) rfl (fun _ _ _ h => h) ⟨Or.inl ⟨by rfl, fun w hS => by obtain ⟨h0, h1, h2, h3, h4, h5⟩ := hS; go_simp⟩, fun _ => rfl⟩ hS ?_
  simp only [List.setIfInBounds_toArray, List.set_cons_zero, List.set_cons_succ]
  refine anyHF_take (i := 13) (d := 28) (v := .bool false) (by kernel_rfl) rfl (by kernel_rfl) (by kernel_rfl) (by kernel_rfl) rfl (fun _ _ _ h => h) ⟨Or.inl ⟨by rfl, fun w hS => by obtain ⟨h0, h1, h2, h3, h4, h5⟩ := hS; go_simp⟩, fun _ => rfl⟩ hS ?_
  simp only [List.setIfInBounds_toArray, List.set_cons_zero, List.set_cons_succ]
  refine anyHF_take (i := 14) (d := 29) (v := .bool false) (by kernel_rfl) rfl (by kernel_rfl) (by kernel_rfl) (by kernel_rfl) rfl (fun _ _ _ h => h) ⟨Or.inl ⟨by rfl, fun w hS => by obtain ⟨h0, h1, h2, h3, h4, h5⟩ := hS; go_simp⟩, fun _ => rfl⟩ hS ?_
  simp only [List.setIfInBounds_toArray, List.set_cons_zero, List.set_cons_succ]
  refine anyHF_take (i := 15) (d := 30) (v := .int .i64 (P : Int)) (by kernel_rfl) rfl (by kernel_rfl) (by kernel_rfl) (by kernel_rfl) rfl (fun _ _ _ h => h) ⟨Or.inl ⟨by rfl, fun w hS => by obtain ⟨h0, h1, h2, h3, h4, h5⟩ := hS; go_simp⟩, fun _ => rfl⟩ hS ?_
  simp only [List.setIfInBounds_toArray, List.set_cons_zero, List.set_cons_succ]
  refine anyHF_take (i := 16) (d := 31) (v := .slice (some ⟨d1, off2, none⟩) nb cap') (by kernel_rfl) rfl (by kernel_rfl) (by kernel_rfl) (by kernel_rfl) rfl (fun _ _ _ h => h) ⟨Or.inl ⟨by rfl, fun w hS => by obtain ⟨h0, h1, h2, h3, h4, h5⟩ := hS; go_simp⟩, fun _ => rfl⟩ hS ?_
  simp only [List.setIfInBounds_toArray, List.set_cons_zero, List.set_cons_succ]
  refine anyHF_one (i := 17) (by kernel_rfl) rfl (by kernel_rfl) (by rfl) ?_
  gi_wp2_with fail
  refine ⟨trivial, (callsIn_wide.2 (HR1.out _ hB)).mono ?_⟩
  rintro e wn ⟨rfl, hBn⟩
  replace hB := below_in hB hBn
  clear hBn
  clear hS
  have hS : (fun U : World => U.cell? ⟨g0, 0, none⟩ = some (.int .i64 x0) ∧ U.cell? ⟨g0, 1, none⟩ = some (.int .i64 x1) ∧ U.cell? ⟨b1, off1, none⟩ = some (.slice (some ⟨b9, off9, none⟩) Q cap9) ∧ U.cell? ⟨b9, off9, none⟩ = some (.slice B9 n cp9) ∧ U.cell? ⟨d1, off2, none⟩ = some (.slice (some ⟨b8, off8, none⟩) Q cap8) ∧ U.cell? ⟨b8, off8, none⟩ = some (.slice B8 n cp8)) wn := HSS.out _ hB
  gi_wp2
  try (refine ⟨hS, ?_⟩)
  refine anyHF_take (i := 18) (d := 33) (v := .bool false) (by kernel_rfl) rfl (by kernel_rfl) (by kernel_rfl) (by kernel_rfl) rfl (fun _ _ _ h => h) ⟨Or.inl ⟨by rfl, fun w hS => by obtain ⟨h0, h1, h2, h3, h4, h5⟩ := hS; go_simp⟩, fun _ => rfl⟩ hS ?_
  simp only [List.setIfInBounds_toArray, List.set_cons_zero, List.set_cons_succ]
  refine anyHF_take (i := 19) (d := 34) (v := .bool false) (by kernel_rfl) rfl (by kernel_rfl) (by kernel_rfl) (by kernel_rfl) rfl (fun _ _ _ h => h) ⟨Or.inl ⟨by rfl, fun w hS => by obtain ⟨h0, h1, h2, h3, h4, h5⟩ := hS; go_simp⟩, fun _ => rfl⟩ hS ?_
  simp only [List.setIfInBounds_toArray, List.set_cons_zero, List.set_cons_succ]
  refine anyHF_take (i := 20) (d := 35) (v := .bool false) (by kernel_rfl) rfl (by kernel_rfl) (by kernel_rfl) (by kernel_rfl) rfl (fun _ _ _ h => h) ⟨Or.inl ⟨by rfl, fun w hS => by obtain ⟨h0, h1, h2, h3, h4, h5⟩ := hS; go_simp⟩, fun _ => rfl⟩ hS ?_
  simp only [List.setIfInBounds_toArray, List.set_cons_zero, List.set_cons_succ]
  refine anyHF_take (i := 21) (d := 36) (v := .slice (some ⟨b1, off1, none⟩) na cap) (by kernel_rfl) rfl (by kernel_rfl) (by kernel_rfl) (by kernel_rfl) rfl (fun _ _ _ h => h) ⟨Or.inl ⟨by rfl, fun w hS => by obtain ⟨h0, h1, h2, h3, h4, h5⟩ := hS; go_simp⟩, fun _ => rfl⟩ hS ?_
  simp only [List.setIfInBounds_toArray, List.set_cons_zero, List.set_cons_succ]
  refine anyHF_take (i := 22) (d := 37) (v := .int .i64 (na : Int)) (by kernel_rfl) rfl (by kernel_rfl) (by kernel_rfl) (by kernel_rfl) rfl (fun _ _ _ h => h) ⟨Or.inl ⟨by rfl, fun w hS => by obtain ⟨h0, h1, h2, h3, h4, h5⟩ := hS; go_simp⟩, fun _ => rfl⟩ hS ?_
  simp only [List.setIfInBounds_toArray, List.set_cons_zero, List.set_cons_succ]
  refine anyHF_take (i := 23) (d := 38) (v := .int .i64 (P : Int)) (by kernel_rfl) rfl (by kernel_rfl) (by kernel_rfl) (by kernel_rfl) rfl (fun _ _ _ h => h) ⟨Or.inl ⟨by rfl, fun w hS => by obtain ⟨h0, h1, h2, h3, h4, h5⟩ := hS; go_simp⟩, fun _ => rfl⟩ hS ?_
  simp only [List.setIfInBounds_toArray, List.set_cons_zero, List.set_cons_succ]
  refine anyHF_take (i := 24) (d := 39) (v := .int .i64 ((P : Int) + 1)) (by kernel_rfl) rfl (by kernel_rfl) (by kernel_rfl) (by kernel_rfl) rfl (fun _ _ _ h => h) ⟨Or.inl ⟨by rfl, fun w hS => by obtain ⟨h0, h1, h2, h3, h4, h5⟩ := hS; go_simp⟩, fun _ => rfl⟩ hS ?_
  simp only [List.setIfInBounds_toArray, List.set_cons_zero, List.set_cons_succ]
  refine anyHF_take (i := 25) (d := 40) (v := .bool false) (by kernel_rfl) rfl (by kernel_rfl) (by kernel_rfl) (by kernel_rfl) rfl (fun _ _ _ h => h) ⟨Or.inl ⟨by rfl, fun w hS => by obtain ⟨h0, h1, h2, h3, h4, h5⟩ := hS; go_simp⟩, fun _ => rfl⟩ hS ?_
  simp only [List.setIfInBounds_toArray, List.set_cons_zero, List.set_cons_succ]
  refine anyHF_take (i := 26) (d := 41) (v := .bool false) (by kernel_rfl) rfl (by kernel_rfl) (by kernel_rfl) (by kernel_rfl) rfl (fun _ _ _ h => h) ⟨Or.inl ⟨by rfl, fun w hS => by obtain ⟨h0, h1, h2, h3, h4, h5⟩ := hS; go_simp⟩, fun _ => rfl⟩ hS ?_
  simp only [List.setIfInBounds_toArray, List.set_cons_zero, List.set_cons_succ]
  refine anyHF_take (i := 27) (d := 42) (v := .bool false) (by kernel_rfl) rfl (by kernel_rfl) (by kernel_rfl) (by kernel_rfl) rfl (fun _ _ _ h => h) ⟨Or.inl ⟨by rfl, fun w hS => by obtain ⟨h0, h1, h2, h3, h4, h5⟩ := hS; go_simp⟩, fun _ => rfl⟩ hS ?_
  simp only [List.setIfInBounds_toArray, List.set_cons_zero, List.set_cons_succ]
  refine anyHF_take (i := 28) (d := 43) (v := .slice (some ⟨d1, off2, none⟩) nb cap') (by kernel_rfl) rfl (by kernel_rfl) (by kernel_rfl) (by kernel_rfl) rfl (fun _ _ _ h => h) ⟨Or.inl ⟨by rfl, fun w hS => by obtain ⟨h0, h1, h2, h3, h4, h5⟩ := hS; go_simp⟩, fun _ => rfl⟩ hS ?_
  simp only [List.setIfInBounds_toArray, List.set_cons_zero, List.set_cons_succ]
  refine anyHF_take (i := 29) (d := 44) (v := .int .i64 (nb : Int)) (by kernel_rfl) rfl (by kernel_rfl) (by kernel_rfl) (by kernel_rfl) rfl (fun _ _ _ h => h) ⟨Or.inl ⟨by rfl, fun w hS => by obtain ⟨h0, h1, h2, h3, h4, h5⟩ := hS; go_simp⟩, fun _ => rfl⟩ hS ?_
  simp only [List.setIfInBounds_toArray, List.set_cons_zero, List.set_cons_succ]
  refine anyHF_take (i := 30) (d := 45) (v := .int .i64 (P : Int)) (by kernel_rfl) rfl (by kernel_rfl) (by kernel_rfl) (by kernel_rfl) rfl (fun _ _ _ h => h) ⟨Or.inl ⟨by rfl, fun w hS => by obtain ⟨h0, h1, h2, h3, h4, h5⟩ := hS; go_simp⟩, fun _ => rfl⟩ hS ?_
  simp only [List.setIfInBounds_toArray, List.set_cons_zero, List.set_cons_succ]
  refine anyHF_take (i := 31) (d := 46) (v := .int .i64 ((P : Int) + 1)) (by kernel_rfl) rfl (by kernel_rfl) (by kernel_rfl) (by kernel_rfl) rfl (fun _ _ _ h => h) ⟨Or.inl ⟨by rfl, fun w hS => by obtain ⟨h0, h1, h2, h3, h4, h5⟩ := hS; go_simp⟩, fun _ => rfl⟩ hS ?_
  simp only [List.setIfInBounds_toArray, List.set_cons_zero, List.set_cons_succ]
  refine anyHF_take (i := 32) (d := 47) (v := .bool false) (by kernel_rfl) rfl (by kernel_rfl) (by kernel_rfl) (by kernel_rfl) rfl (fun _ _ _ h => h) ⟨Or.inl ⟨by rfl, fun w hS => by obtain ⟨h0, h1, h2, h3, h4, h5⟩ := hS; go_simp⟩, fun _ => rfl⟩ hS ?_
  simp only [List.setIfInBounds_toArray, List.set_cons_zero, List.set_cons_succ]
  refine anyHF_take (i := 33) (d := 48) (v := .bool false) (by kernel_rfl) rfl (by kernel_rfl) (by kernel_rfl) (by kernel_rfl) rfl (fun _ _ _ h => h) ⟨Or.inl ⟨by rfl, fun w hS => by obtain ⟨h0, h1, h2, h3, h4, h5⟩ := hS; go_simp⟩, fun _ => rfl⟩ hS ?_
  simp only [List.setIfInBounds_toArray, List.set_cons_zero, List.set_cons_succ]
  refine anyHF_take (i := 34) (d := 49) (v := .bool false) (by kernel_rfl) rfl (by kernel_rfl) (by kernel_rfl) (by kernel_rfl) rfl (fun _ _ _ h => h) ⟨Or.inl ⟨by rfl, fun w hS => by obtain ⟨h0, h1, h2, h3, h4, h5⟩ := hS; go_simp⟩, fun _ => rfl⟩ hS ?_
  simp only [List.setIfInBounds_toArray, List.set_cons_zero, List.set_cons_succ]
  refine anyHF_take (i := 35) (d := 50) (v := .slice (some ⟨b1, off1, none⟩) na cap) (by kernel_rfl) rfl (by kernel_rfl) (by kernel_rfl) (by kernel_rfl) rfl (fun _ _ _ h => h) ⟨Or.inl ⟨by rfl, fun w hS => by obtain ⟨h0, h1, h2, h3, h4, h5⟩ := hS; go_simp⟩, fun _ => rfl⟩ hS ?_
  simp only [List.setIfInBounds_toArray, List.set_cons_zero, List.set_cons_succ]
  refine anyHF_take (i := 36) (d := 51) (v := .pointer (some ⟨b1, off1, none⟩)) (by kernel_rfl) rfl (by kernel_rfl) (by kernel_rfl) (by kernel_rfl) rfl (fun _ _ _ h => h) ⟨Or.inl ⟨by rfl, fun w hS => by obtain ⟨h0, h1, h2, h3, h4, h5⟩ := hS; go_simp⟩, fun _ => rfl⟩ hS ?_
  simp only [List.setIfInBounds_toArray, List.set_cons_zero, List.set_cons_succ]
  refine anyHF_take (i := 37) (d := 52) (v := .slice (some ⟨b9, off9, none⟩) Q cap9) (by kernel_rfl) rfl (by kernel_rfl) (by kernel_rfl) (by kernel_rfl) rfl (fun _ _ _ h => h) ⟨Or.inl ⟨by rfl, fun w hS => by obtain ⟨h0, h1, h2, h3, h4, h5⟩ := hS; go_simp⟩, fun _ => rfl⟩ hS ?_
  simp only [List.setIfInBounds_toArray, List.set_cons_zero, List.set_cons_succ]
  refine anyHF_take (i := 38) (d := 53) (v := .pointer (some ⟨b9, off9, none⟩)) (by kernel_rfl) rfl (by kernel_rfl) (by kernel_rfl) (by kernel_rfl) rfl (fun _ _ _ h => h) ⟨Or.inl ⟨by rfl, fun w hS => by obtain ⟨h0, h1, h2, h3, h4, h5⟩ := hS; go_simp⟩, fun _ => rfl⟩ hS ?_
  simp only [List.setIfInBounds_toArray, List.set_cons_zero, List.set_cons_succ]
  refine anyHF_take (i := 39) (d := 54) (v := .slice B9 n cp9) (by kernel_rfl) rfl (by kernel_rfl) (by kernel_rfl) (by kernel_rfl) rfl (fun _ _ _ h => h) ⟨Or.inl ⟨by rfl, fun w hS => by obtain ⟨h0, h1, h2, h3, h4, h5⟩ := hS; go_simp⟩, fun _ => rfl⟩ hS ?_
  simp only [List.setIfInBounds_toArray, List.set_cons_zero, List.set_cons_succ]
  refine anyHF_take (i := 40) (d := 55) (v := .int .i64 (n : Int)) (by kernel_rfl) rfl (by kernel_rfl) (by kernel_rfl) (by kernel_rfl) rfl (fun _ _ _ h => h) ⟨Or.inl ⟨by rfl, fun w hS => by obtain ⟨h0, h1, h2, h3, h4, h5⟩ := hS; go_simp⟩, fun _ => rfl⟩ hS ?_
  simp only [List.setIfInBounds_toArray, List.set_cons_zero, List.set_cons_succ]
  refine anyHF_take (i := 41) (d := 56) (v := .slice (some ⟨d1, off2, none⟩) nb cap') (by kernel_rfl) rfl (by kernel_rfl) (by kernel_rfl) (by kernel_rfl) rfl (fun _ _ _ h => h) ⟨Or.inl ⟨by rfl, fun w hS => by obtain ⟨h0, h1, h2, h3, h4, h5⟩ := hS; go_simp⟩, fun _ => rfl⟩ hS ?_
  simp only [List.setIfInBounds_toArray, List.set_cons_zero, List.set_cons_succ]
  refine anyHF_take (i := 42) (d := 57) (v := .pointer (some ⟨d1, off2, none⟩)) (by kernel_rfl) rfl (by kernel_rfl) (by kernel_rfl) (by kernel_rfl) rfl (fun _ _ _ h => h) ⟨Or.inl ⟨by rfl, fun w hS => by obtain ⟨h0, h1, h2, h3, h4, h5⟩ := hS; go_simp⟩, fun _ => rfl⟩ hS ?_
  simp only [List.setIfInBounds_toArray, List.set_cons_zero, List.set_cons_succ]
  refine anyHF_take (i := 43) (d := 58) (v := .slice (some ⟨b8, off8, none⟩) Q cap8) (by kernel_rfl) rfl (by kernel_rfl) (by kernel_rfl) (by kernel_rfl) rfl (fun _ _ _ h => h) ⟨Or.inl ⟨by rfl, fun w hS => by obtain ⟨h0, h1, h2, h3, h4, h5⟩ := hS; go_simp⟩, fun _ => rfl⟩ hS ?_
  simp only [List.setIfInBounds_toArray, List.set_cons_zero, List.set_cons_succ]
  refine anyHF_take (i := 44) (d := 59) (v := .pointer (some ⟨b8, off8, none⟩)) (by kernel_rfl) rfl (by kernel_rfl) (by kernel_rfl) (by kernel_rfl) rfl (fun _ _ _ h => h) ⟨Or.inl ⟨by rfl, fun w hS => by obtain ⟨h0, h1, h2, h3, h4, h5⟩ := hS; go_simp⟩, fun _ => rfl⟩ hS ?_
  simp only [List.setIfInBounds_toArray, List.set_cons_zero, List.set_cons_succ]
  refine anyHF_take (i := 45) (d := 60) (v := .slice B8 n cp8) (by kernel_rfl) rfl (by kernel_rfl) (by kernel_rfl) (by kernel_rfl) rfl (fun _ _ _ h => h) ⟨Or.inl ⟨by rfl, fun w hS => by obtain ⟨h0, h1, h2, h3, h4, h5⟩ := hS; go_simp⟩, fun _ => rfl⟩ hS ?_
  simp only [List.setIfInBounds_toArray, List.set_cons_zero, List.set_cons_succ]
  refine anyHF_take (i := 46) (d := 61) (v := .int .i64 (n : Int)) (by kernel_rfl) rfl (by kernel_rfl) (by kernel_rfl) (by kernel_rfl) rfl (fun _ _ _ h => h) ⟨Or.inl ⟨by rfl, fun w hS => by obtain ⟨h0, h1, h2, h3, h4, h5⟩ := hS; go_simp⟩, fun _ => rfl⟩ hS ?_
  simp only [List.setIfInBounds_toArray, List.set_cons_zero, List.set_cons_succ]
  refine anyHF_take (i := 47) (d := 62) (v := .bool false) (by kernel_rfl) rfl (by kernel_rfl) (by kernel_rfl) (by kernel_rfl) rfl (fun _ _ _ h => h) ⟨Or.inl ⟨by rfl, fun w hS => by obtain ⟨h0, h1, h2, h3, h4, h5⟩ := hS; go_simp⟩, fun _ => rfl⟩ hS ?_
  simp only [List.setIfInBounds_toArray, List.set_cons_zero, List.set_cons_succ]
  refine anyHF_take (i := 48) (d := 63) (v := .bool false) (by kernel_rfl) rfl (by kernel_rfl) (by kernel_rfl) (by kernel_rfl) rfl (fun _ _ _ h => h) ⟨Or.inl ⟨by rfl, fun w hS => by obtain ⟨h0, h1, h2, h3, h4, h5⟩ := hS; go_simp⟩, fun _ => rfl⟩ hS ?_
  simp only [List.setIfInBounds_toArray, List.set_cons_zero, List.set_cons_succ]
  refine anyHF_take (i := 49) (d := 64) (v := .bool false) (by kernel_rfl) rfl (by kernel_rfl) (by kernel_rfl) (by kernel_rfl) rfl (fun _ _ _ h => h) ⟨Or.inl ⟨by rfl, fun w hS => by obtain ⟨h0, h1, h2, h3, h4, h5⟩ := hS; go_simp⟩, fun _ => rfl⟩ hS ?_
  simp only [List.setIfInBounds_toArray, List.set_cons_zero, List.set_cons_succ]
  refine anyHF_take (i := 50) (d := 65) (v := .int .i64 (P : Int)) (by kernel_rfl) rfl (by kernel_rfl) (by kernel_rfl) (by kernel_rfl) rfl (fun _ _ _ h => h) ⟨Or.inl ⟨by rfl, fun w hS => by obtain ⟨h0, h1, h2, h3, h4, h5⟩ := hS; go_simp⟩, fun _ => rfl⟩ hS ?_
  simp only [List.setIfInBounds_toArray, List.set_cons_zero, List.set_cons_succ]
  refine anyHF_take (i := 51) (d := 66) (v := .pointer (some ⟨g0, 0, none⟩)) (by kernel_rfl) rfl (by kernel_rfl) (by kernel_rfl) (by kernel_rfl) rfl (fun _ _ _ h => h) ⟨Or.inl ⟨by rfl, fun w hS => by obtain ⟨h0, h1, h2, h3, h4, h5⟩ := hS; go_simp⟩, fun _ => rfl⟩ hS ?_
  simp only [List.setIfInBounds_toArray, List.set_cons_zero, List.set_cons_succ]
  refine anyHF_take (i := 52) (d := 67) (v := .int .i64 x0) (by kernel_rfl) rfl (by kernel_rfl) (by kernel_rfl) (by kernel_rfl) rfl (fun _ _ _ h => h) ⟨Or.inl ⟨by rfl, fun w hS => by obtain ⟨h0, h1, h2, h3, h4, h5⟩ := hS; go_simp⟩, fun _ => rfl⟩ hS ?_
  simp only [List.setIfInBounds_toArray, List.set_cons_zero, List.set_cons_succ]
  refine anyHF_take (i := 53) (d := 68) (v := .pointer (some ⟨g0, 1, none⟩)) (by kernel_rfl) rfl (by kernel_rfl) (by kernel_rfl) (by kernel_rfl) rfl (fun _ _ _ h => h) ⟨Or.inl ⟨by rfl, fun w hS => by obtain ⟨h0, h1, h2, h3, h4, h5⟩ := hS; go_simp⟩, fun _ => rfl⟩ hS ?_
  simp only [List.setIfInBounds_toArray, List.set_cons_zero, List.set_cons_succ]
  refine anyHF_take (i := 54) (d := 69) (v := .int .i64 x1) (by kernel_rfl) rfl (by kernel_rfl) (by kernel_rfl) (by kernel_rfl) rfl (fun _ _ _ h => h) ⟨Or.inl ⟨by rfl, fun w hS => by obtain ⟨h0, h1, h2, h3, h4, h5⟩ := hS; go_simp⟩, fun _ => rfl⟩ hS ?_
  simp only [List.setIfInBounds_toArray, List.set_cons_zero, List.set_cons_succ]
  refine anyHF_one (i := 55) (by kernel_rfl) rfl (by kernel_rfl) (by rfl) ?_
  gi_wp2_with fail
  refine ⟨trivial, (callsIn_wide.2 (HTH.out _)).mono ?_⟩
  rintro e wn ⟨rfl, rfl⟩
  gi_wp2
  try (refine ⟨hS, ?_⟩)
  refine anyHF_take (i := 56) (d := 71) (v := .bool false) (by kernel_rfl) rfl (by kernel_rfl) (by kernel_rfl) (by kernel_rfl) rfl (fun _ _ _ h => h) ⟨Or.inl ⟨by rfl, fun w hS => by obtain ⟨h0, h1, h2, h3, h4, h5⟩ := hS; go_simp⟩, fun _ => rfl⟩ hS ?_
  simp only [List.setIfInBounds_toArray, List.set_cons_zero, List.set_cons_succ]
  refine anyHF_take (i := 57) (d := 72) (v := .bool false) (by kernel_rfl) rfl (by kernel_rfl) (by kernel_rfl) (by kernel_rfl) rfl (fun _ _ _ h => h) ⟨Or.inl ⟨by rfl, fun w hS => by obtain ⟨h0, h1, h2, h3, h4, h5⟩ := hS; go_simp⟩, fun _ => rfl⟩ hS ?_
  simp only [List.setIfInBounds_toArray, List.set_cons_zero, List.set_cons_succ]
  refine anyHF_done (by kernel_rfl) ?_ _
  refine NoPanic.normal ?_
  clear hS
  have kk := HSB.out _ hB
  have k0 := kk.1
  have k1 := kk.2
  clear kk
  go_wp2_with fail
  refine (HRA.out _ (below_in hB0 hB)).mono ?_
  rintro e w3 ⟨x, rfl, hx, hBn⟩
  obtain ⟨Ax, kx, ex, _⟩ := id hx
  have ex' : x = .slice Ax 2 kx := ex
  subst ex'
  clear ex
  clear k0 k1
  replace hB := below_in hB hBn
  clear hBn
  have kk := HSB.out _ hB
  have k0 := kk.1
  have k1 := kk.2
  clear kk
  go_wp2_with fail
  refine (HRB.out _ (below_in hB0 hB)).mono ?_
  rintro e w4 ⟨y, rfl, hy, hBn⟩
  obtain ⟨Ay, ky, ey, _⟩ := id hy
  have ey' : y = .slice Ay 2 ky := ey
  subst ey'
  clear ey
  clear k0 k1
  replace hB := below_in hB hBn
  replace hx := (hx.below hBn).more hBn.size
  clear hBn
  go_wp2_with fail
  have hS : (fun U : World => U.cell? ⟨g0, 0, none⟩ = some (.int .i64 x0) ∧ U.cell? ⟨g0, 1, none⟩ = some (.int .i64 x1)) w4.drew := HSB.out _ hB.drew
  replace hx : Cols w4.drew.heap.size w4.drew _ _ := hx
  replace hy : Cols w4.drew.heap.size w4.drew _ _ := hy
  replace hB := hB.drew
  refine (wpIn_wide (n := 12)).1 (wpIn_mono (region_HF (Q := NoPanic _) (S := (fun U : World => U.cell? ⟨g0, 0, none⟩ = some (.int .i64 x0) ∧ U.cell? ⟨g0, 1, none⟩ = some (.int .i64 x1))) (by kernel_rfl) ?_) NoPanic.imp)
  refine anyHF_take (i := 0) (d := 95) (v := .int .i64 (P : Int)) (by kernel_rfl) rfl (by kernel_rfl) (by kernel_rfl) (by kernel_rfl) rfl (fun _ _ _ h => h) ⟨Or.inl ⟨by rfl, fun w hS => by obtain ⟨h0, h1⟩ := hS; go_simp⟩, fun _ => rfl⟩ hS ?_
  simp only [List.setIfInBounds_toArray, List.set_cons_zero, List.set_cons_succ]
  refine anyHF_take (i := 1) (d := 96) (v := .slice (some ⟨b1, off1, none⟩) na cap) (by kernel_rfl) rfl (by kernel_rfl) (by kernel_rfl) (by kernel_rfl) rfl (fun _ _ _ h => h) ⟨Or.inl ⟨by rfl, fun w hS => by obtain ⟨h0, h1⟩ := hS; go_simp⟩, fun _ => rfl⟩ hS ?_
  simp only [List.setIfInBounds_toArray, List.set_cons_zero, List.set_cons_succ]
  refine anyHF_take (i := 2) (d := 97) (v := .slice (some ⟨d1, off2, none⟩) nb cap') (by kernel_rfl) rfl (by kernel_rfl) (by kernel_rfl) (by kernel_rfl) rfl (fun _ _ _ h => h) ⟨Or.inl ⟨by rfl, fun w hS => by obtain ⟨h0, h1⟩ := hS; go_simp⟩, fun _ => rfl⟩ hS ?_
  simp only [List.setIfInBounds_toArray, List.set_cons_zero, List.set_cons_succ]
  refine anyHF_take (i := 4) (d := 99) (v := .pointer (some ⟨g0, 0, none⟩)) (by kernel_rfl) rfl (by kernel_rfl) (by kernel_rfl) (by kernel_rfl) rfl (fun _ _ _ h => h) ⟨Or.inl ⟨by rfl, fun w hS => by obtain ⟨h0, h1⟩ := hS; go_simp⟩, fun _ => rfl⟩ hS ?_
  simp only [List.setIfInBounds_toArray, List.set_cons_zero, List.set_cons_succ]
  refine anyHF_take (i := 5) (d := 100) (v := .int .i64 x0) (by kernel_rfl) rfl (by kernel_rfl) (by kernel_rfl) (by kernel_rfl) rfl (fun _ _ _ h => h) ⟨Or.inl ⟨by rfl, fun w hS => by obtain ⟨h0, h1⟩ := hS; go_simp⟩, fun _ => rfl⟩ hS ?_
  simp only [List.setIfInBounds_toArray, List.set_cons_zero, List.set_cons_succ]
  refine anyHF_take (i := 6) (d := 101) (v := .pointer (some ⟨g0, 1, none⟩)) (by kernel_rfl) rfl (by kernel_rfl) (by kernel_rfl) (by kernel_rfl) rfl (fun _ _ _ h => h) ⟨Or.inl ⟨by rfl, fun w hS => by obtain ⟨h0, h1⟩ := hS; go_simp⟩, fun _ => rfl⟩ hS ?_
  simp only [List.setIfInBounds_toArray, List.set_cons_zero, List.set_cons_succ]
  refine anyHF_take (i := 7) (d := 102) (v := .int .i64 x1) (by kernel_rfl) rfl (by kernel_rfl) (by kernel_rfl) (by kernel_rfl) rfl (fun _ _ _ h => h) ⟨Or.inl ⟨by rfl, fun w hS => by obtain ⟨h0, h1⟩ := hS; go_simp⟩, fun _ => rfl⟩ hS ?_
  simp only [List.setIfInBounds_toArray, List.set_cons_zero, List.set_cons_succ]
  refine anyHF_one (i := 3) (by kernel_rfl) rfl (by kernel_rfl) (by rfl) ?_
  gi_wp2_with fail
  refine ⟨trivial, (callsIn_wide.2 (HPUT.out _ (below_in hB0 hB))).mono ?_⟩
  rintro e wn ⟨z, rfl, hz, hBn⟩
  obtain ⟨Az, cz, hze, _, _⟩ := id hz
  rw [HPL.out] at hze
  subst hze
  replace hB := below_in hB hBn
  replace hx := (hx.below hBn).more hBn.size
  replace hy := (hy.below hBn).more hBn.size
  clear hBn
  clear hS
  have hS : (fun U : World => U.cell? ⟨g0, 0, none⟩ = some (.int .i64 x0) ∧ U.cell? ⟨g0, 1, none⟩ = some (.int .i64 x1)) wn := HSB.out _ hB
  gi_wp2
  try (refine ⟨hS, ?_⟩)
  refine anyHF_one (i := 8) (by kernel_rfl) rfl (by kernel_rfl) (by rfl) ?_
  gi_wp2_with fail
  refine ⟨trivial, (callsIn_wide.2 (HRC.out _ _ _ (HLW.out _ (below_in hB0 hB)) hz)).mono ?_⟩
  rintro e wm ⟨zu, rfl, hzz, hBn⟩
  obtain ⟨Ar, kr, er, _⟩ := id hzz
  have er' : zu = .slice Ar 2 kr := er
  subst er'
  clear er
  replace hB := below_in hB hBn
  replace hx := (hx.below hBn).more hBn.size
  replace hy := (hy.below hBn).more hBn.size
  clear hBn hz
  clear hS
  have hS : (fun U : World => U.cell? ⟨g0, 0, none⟩ = some (.int .i64 x0) ∧ U.cell? ⟨g0, 1, none⟩ = some (.int .i64 x1)) wm := HSB.out _ hB
  gi_wp2
  try (refine ⟨hS, ?_⟩)
  refine anyHF_take (i := 9) (d := 94) (v := .tuple #[.slice Ar 2 kr, .int .i64 0]) (by kernel_rfl) rfl (by kernel_rfl) (by kernel_rfl) (by kernel_rfl) rfl (fun _ _ _ h => h) ⟨Or.inl ⟨by rfl, fun w hS => by obtain ⟨h0, h1⟩ := hS; go_simp⟩, fun _ => rfl⟩ hS ?_
  simp only [List.setIfInBounds_toArray, List.set_cons_zero, List.set_cons_succ]
  refine anyHF_take (i := 10) (d := 104) (v := .slice Ar 2 kr) (by kernel_rfl) rfl (by kernel_rfl) (by kernel_rfl) (by kernel_rfl) rfl (fun _ _ _ h => h) ⟨Or.inl ⟨by rfl, fun w hS => by obtain ⟨h0, h1⟩ := hS; go_simp⟩, fun _ => rfl⟩ hS ?_
  simp only [List.setIfInBounds_toArray, List.set_cons_zero, List.set_cons_succ]
  refine anyHF_take (i := 11) (d := 105) (v := .int .i64 0) (by kernel_rfl) rfl (by kernel_rfl) (by kernel_rfl) (by kernel_rfl) rfl (fun _ _ _ h => h) ⟨Or.inl ⟨by rfl, fun w hS => by obtain ⟨h0, h1⟩ := hS; go_simp⟩, fun _ => rfl⟩ hS ?_
  simp only [List.setIfInBounds_toArray, List.set_cons_zero, List.set_cons_succ]
  refine anyHF_one (i := 12) (by kernel_rfl) rfl (by kernel_rfl) (by rfl) ?_
  gi_wp2
  refine anyHF_one (i := 13) (by kernel_rfl) rfl (by kernel_rfl) (by rfl) ?_
  gi_wp2
  refine anyHF_done (by kernel_rfl) ?_ _
  refine NoPanic.normal ?_
  clear hS
  have hBw := below_in hB0 hB
  have c9 := (HSS.out _ hB).2.2.1
  have hm9 := (HM9.out wm hBw).more hBw.size
  have HXC := Lib.hid (fun (U : World) (hU : Below wm.heap.size wm U) => hx.below hU)
  have HYC := Lib.hid (fun (U : World) (hU : Below wm.heap.size wm U) => hy.below hU)
  have HZC := Lib.hid (fun (U : World) (hU : Below wm.heap.size wm U) => hzz.below hU)
  have HLV := Lib.hid (fun (U : World) (hU : Below wm.heap.size wm U) => HLW.out _ (below_in hBw hU))
  have HBW := Lib.hid hBw
  clear hx hy hzz hBw HPUT HM9 HSS HSB HRA HRB HRC hB
  obtain ⟨w7, hw7⟩ : ∃ w7, wm.alloc (.cells #[.slice (some ⟨b9, off9, none⟩) Q cap9] 50) = w7 := ⟨_, rfl⟩
  have b7 : Blk w7 wm.heap.size 50 #[.slice (some ⟨b9, off9, none⟩) Q cap9] := by rw [← hw7]; exact Blk.new wm _ _
  have hB7 : Below wm.heap.size wm w7 := by rw [← hw7]; exact below_one wm _
  have HROW : Hid (RowC (fun _ => True) w7 wm.heap.size (.slice (some ⟨wm.heap.size, 0, none⟩) 1 1) [cs0]) :=
    RowG.one b7 (Nat.le_refl _) (manyR.imp (manyR_iff.2 (hm9.below hB7)) fun b hb => by
      have h1 : b < wm.heap.size := hb
      have h2 := hB7.size
      exact ⟨by omega, fun e => by injection e with e; have e2 : b = wm.heap.size := e; omega, trivial⟩)
  have HX7 := Lib.hid (app_far hB7 (Nat.le_refl _) HROW.out (HXC.out _ hB7))
  have HS7 := Lib.hid hB7.size
  clear hm9 b7
  go_wp2_with (first
    | (go_at_call 20; refine (num12_any _ _).mono ?_; rintro e w' ⟨rfl, rfl⟩)
    | (at_builtin; refine wpList_appCw (T := 40) _ rfl _ _ rfl Tryz.underlying40 [cs0] [A1, B1] rfl HROW.out rfl HX7.out (by simp) (by simp) (by simp) HS7.out ?_; intro v1 w8 hrow8 hgrow8 _; have hB8 := below_grown hB7 hgrow8 hB7.size (fun g e => RowG.own_le HROW.out g e); have HR8 := Lib.hid hrow8; have HS8 := Lib.hid hB8.size; have HX8 := Lib.hid (app_far hB8 (Nat.le_refl _) HR8.out (HYC.out _ hB8)); clear hrow8 hgrow8)
    | (at_builtin; refine wpList_appCw (T := 40) _ rfl _ _ rfl Tryz.underlying40 ([cs0] ++ [A1, B1]) [A2, B2] rfl HR8.out rfl HX8.out (by simp) (by simp) (by simp) HS8.out ?_; intro v2 w9 hrow9 hgrow9 _; have hB9 := below_grown hB8 hgrow9 hB8.size (fun g e => RowG.own_le HR8.out g e); have hcol9 := RowC.cols hrow9; clear hrow9 hgrow9)
    | (go_at_call 32; refine (HRX.out _ _ hcol9).mono ?_; rintro e w10 ⟨rfl, hBn⟩; have hBU := below_in hB9 hBn; clear hBn)
    | (go_at_call 35; refine (HXY.out _ _ _ ((HXC.out _ hBU).more hBU.size) ((HYC.out _ hBU).more hBU.size)).mono ?_; rintro e wp2 ⟨up, rfl, hup, hBn⟩; have hBV := below_in hBU hBn; have hupc := hup)
    | (go_at_call 27; refine (HSM.out _ _ _ ((HZC.out _ hBV).more hBV.size) hupc).mono ?_; rintro e wq ⟨rfl, hBn2⟩; have hBf := below_in hBV hBn2)
    | (go_at_call 18; refine (works12_any _ (HLV.out _ hBf)).mono ?_; rintro e wz ⟨rfl, hBz⟩))
  go_ret
  exact ⟨rfl, below_in HBW.out (below_in hBf hBz)⟩

open Go.Proofs.YtcchjofjpflbhaaGreatDoor.E Go.Proofs.YtcchjofjpflbhaaGreatDoor.C Go.Proofs.YtcchjofjpflbhaaGreatDoor.T Go.Proofs.YtcchjofjpflbhaaGreatDoor.Ch in
set_option maxRecDepth 100000 in
set_option maxHeartbeats 4000000 in
theorem walk (p : Int) (v : Value) (a : List (List (List UInt8))) (v2 : Value) (b : List (List (List UInt8))) (x0 x1 : Int) (w : World) (hL : Laid w) (wp : -9223372036854775808 ≤ p ∧ p ≤ 9223372036854775807) (hC : Cols w.heap.size w v a) (hD : Cols w.heap.size w v2 b) (wx : -9223372036854775808 ≤ x0 ∧ x0 ≤ 9223372036854775807) (wy : -9223372036854775808 ≤ x1 ∧ x1 ≤ 9223372036854775807) :
    Calls Tryz.prog 8 #[.int .i64 p, v, v2, .agg #[.int .i64 x0, .int .i64 x1]] w fun e w' => e = .returned (.bool true) ∧ Below w.heap.size w w' := by
  by_cases hf0 : Few6 a
  case neg => exact n1 p v a v2 b x0 x1 w hL wp hC hD wx wy hf0
  by_cases hf1 : Few6 b
  case neg => exact n2 p v a v2 b x0 x1 w hL wp hC hD wx wy hf0 hf1
  by_cases hr0 : RightD p a
  case neg => exact n3 p v a v2 b x0 x1 w hL wp hC hD wx wy hf0 hf1 hr0
  by_cases hr1 : RightD p b
  case neg => exact n4 p v a v2 b x0 x1 w hL wp hC hD wx wy hf0 hf1 hr0 hr1
  by_cases hna : (a.length : Int) = p + 1
  case neg => exact n5 p v a v2 b x0 x1 w hL wp hC hD wx wy hf0 hf1 hr0 hr1 hna
  by_cases hnb : (b.length : Int) = p + 1
  case neg => exact n6 p v a v2 b x0 x1 w hL wp hC hD wx wy hf0 hf1 hr0 hr1 hna hnb
  by_cases hl : (firstC a).length = (firstC b).length
  case neg => exact n7 p v a v2 b x0 x1 w hL wp hC hD wx wy hf0 hf1 hr0 hr1 hna hnb hl
  by_cases hth : 0 ≤ x0 ∧ x0 < x1 ∧ x1 < p
  case neg => exact n8 p v a v2 b x0 x1 w hL wp hC hD wx wy hf0 hf1 hr0 hr1 hna hnb hl hth
  exact yes p v a v2 b x0 x1 w hL wp hC hD wx wy hf0 hf1 hr0 hr1 hna hnb hl hth

end Go.Proofs.YtcchjofjpflbhaaGreatDoor.pairAdds

namespace Go.Proofs.YtcchjofjpflbhaaGreatDoor.pairAdds
open Go.ChangeShapes Go.WideShapes Go.ChangeAt Go.RowKit Go.Shelf
set_option linter.unusedVariables false
set_option linter.unusedSimpArgs false
attribute [local go_sem] Oper.semAt_some

set_option maxRecDepth 100000 in
theorem lifted (os : Os) (started : os.Started) (H : Type) (enc : TypeId × Value → H) :
    ReturnsInHanded {} Tryz.checked os 8 .any (fun w args => (Rows.pairAddsSpec.pre enc Tryz.prog Tryz.f8 [] false w args ∧ laidMetH Tryz.prog laidL w) ∧ sizedMet enc Tryz.prog Tryz.f8 (OpenSpec.ofChange Rows.pairAddsSpec) false w args)
      (Rows.pairAddsSpec.post enc Tryz.prog Tryz.f8 false true false false) := by
  refine returnsInHanded_of_change_and (C := Tryz.checked) (X := fun w _ => laidMetH Tryz.prog laidL w) (fun _ _ _ hh h => h.of_heap hh) own started (by kernel_rfl) Tryz.func8
    (ChangeSpec.witness_shaped (enc := enc) (C := Tryz.checked) (os := os) (X := fun w _ => laidMetH Tryz.prog laidL w) false (World.doorLaid Tryz.prog 200 os) #[.int .i64 0, .slice none 0 0, .slice none 0 0, .agg #[.int .i64 0, .int .i64 0]] 8 rfl (World.shaped_of_RefB (by kernel_rfl) (by kernel_rfl)) (by kernel_rfl) (by kernel_rfl) (by kernel_rfl) (door_met os _)) ?_
  intro W base args ds gs before hval0 hW _ _ hL0 _
  have hL := laid_of hL0
  have hval : ∀ (j : Nat) t v, Tryz.f8.params[j]? = some t → args[j]? = some v → Value.okWide Tryz.prog W .any base t v := hval0
  have hW' := hW
  obtain ⟨p, q, hA0, hV, rfl, hfz, hnd⟩ := hW
  have hA : DataW.TrodAll enc Tryz.prog W 0 (fun _ => true) true Tryz.f8.params.toList args.toList ds p := hA0
  rw [Tryz.params8] at hA hval
  obtain ⟨v0, vs0, d0, ds0, p0, q0, hargs, rfl, rfl, h0, r0⟩ := trodAll_cons hA
  obtain ⟨v1, vs1, d1, ds1, p1, q1, rfl, rfl, rfl, h1, r1⟩ := trodAll_cons r0
  obtain ⟨v2, vs2, d2, ds2, p2, q2, rfl, rfl, rfl, h2, r2⟩ := trodAll_cons r1
  obtain ⟨v3, vs3, d3, ds3, p3, q3, rfl, rfl, rfl, h3, r3⟩ := trodAll_cons r2
  obtain ⟨rfl, rfl, rfl⟩ := trodAll_nil r3
  obtain rfl : args = #[v0, v1, v2, v3] := by cases args; simp_all
  obtain ⟨rfl, rfl⟩ := trodVars_none hV
  obtain ⟨a0, rfl, rfl, rfl, w0⟩ := open_int Tryz.underlying3 (hval 0 3 v0 rfl rfl) h0
  have k1 := h1
  have lt1 : ∀ x ∈ p1, x.block < W.heap.size := by obtain ⟨m, hm⟩ := k1; exact DataW.trod_lt m _ _ _ hm
  obtain ⟨a1, len1, cap1, rfl⟩ := okWide_slice Tryz.underlying40 (hval 1 40 v1 rfl rfl)
  obtain ⟨l1, w1⟩ : ∃ css, E.Cols W.heap.size W (.slice a1 len1 cap1) css := by obtain ⟨fuel, hf⟩ := h1; exact E.open_cols hf
  have k2 := h2
  have lt2 : ∀ x ∈ p2, x.block < W.heap.size := by obtain ⟨m, hm⟩ := k2; exact DataW.trod_lt m _ _ _ hm
  obtain ⟨a2, len2, cap2, rfl⟩ := okWide_slice Tryz.underlying40 (hval 2 40 v2 rfl rfl)
  obtain ⟨l2, w2⟩ : ∃ css, E.Cols W.heap.size W (.slice a2 len2 cap2) css := by obtain ⟨fuel, hf⟩ := h2; exact E.open_cols hf
  have k3 := h3
  have lt3 : ∀ x ∈ p3, x.block < W.heap.size := by obtain ⟨m, hm⟩ := k3; exact DataW.trod_lt m _ _ _ hm
  obtain ⟨x3, y3, rfl, w3⟩ := Cd.open_two (hval 3 22 v3 rfl rfl) h3
  clear hA0 hval0
  simp only [List.append_nil] at hW'
  refine (walk a0 _ l1 _ l2 x3 y3 W hL (E.wf_i64 w0) w1 w2 (E.wf_i64 w3.1) (E.wf_i64 w3.2)).mono fun e W' ⟨he, bel⟩ => ?_
  subst he
  exact ⟨_, rfl, _, _, _, [], _, [], hW', trodAll_mk1 (shut_bool Tryz.underlying4 _), (trodAll_cons_mk (shut_int Tryz.underlying3 w0) (trodAll_cons_mk (Below.trod laidOut (by kernel_rfl) (of_decide_eq_true (by kernel_rfl)) k1 bel lt1) (trodAll_cons_mk (Below.trod laidOut (by kernel_rfl) (of_decide_eq_true (by kernel_rfl)) k2 bel lt2) (trodAll_cons_mk (Below.trod laidOut (by kernel_rfl) (of_decide_eq_true (by kernel_rfl)) k3 bel lt3) trodAll_mk0)))), rfl, bel.frame _, fun h => by cases h⟩

end Go.Proofs.YtcchjofjpflbhaaGreatDoor.pairAdds

