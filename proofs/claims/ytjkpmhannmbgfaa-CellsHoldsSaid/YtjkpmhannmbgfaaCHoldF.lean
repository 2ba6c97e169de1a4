/- CellsHolds where there is nothing to hold. -/
import Derived.Test.YtjkpmhannmbgfaaCLawKit
import Derived.Test.YtjkpmhannmbgfaaCHoldsMath
namespace Go.Proofs.Ytjkpmhannmbgfaa.cellsHolds
open Go.ChangeShapes Go.WideShapes Go.ChangeAt Go.RowKit Go.Shelf
set_option linter.unusedVariables false

attribute [local go_sem] Oper.semAt_some
set_option maxRecDepth 100000 in
set_option maxHeartbeats 1000000 in
theorem holdsF (v : Value) (ls : List (List UInt8)) (k bt : Int) (w : World) (hM : Many w.heap.size w v ls) (hf : ¬ Few ls) (wk1 : -9223372036854775808 ≤ k) (wk2 : k ≤ 9223372036854775807) (wb1 : -9223372036854775808 ≤ bt) (wb2 : bt ≤ 9223372036854775807) :
    Calls Try.prog 7 #[v, .int .i64 k, .int .i64 bt] w fun e w' => e = .returned (.bool true) ∧ Below w.heap.size w w' := by
  refine (callsIn_wide (n := 5)).1 ?_
  refine callsIn_of_wp_marks Try.func7 rfl trivial ?_ rfl
  simp only [Try.ntmps7, List.size_toArray, List.length_cons, List.length_nil, Nat.reduceAdd, Nat.reduceSub, Array.replicate_succ, Array.replicate_zero, List.push_toArray, List.append_toArray, List.nil_append, List.cons_append]
  obtain ⟨W0, hW0⟩ : ∃ W0, w.alloc (.cells #[.int .i64 bt] 3) = W0 := ⟨_, rfl⟩
  have b0 : Blk W0 w.heap.size 3 #[.int .i64 bt] := by rw [← hW0]; exact Blk.new w _ _
  have hB0 : Below w.heap.size w W0 := by rw [← hW0]; exact (Below.refl _ w).alloc (Nat.le_refl _) _
  have hs0 : W0.heap.size = w.heap.size + 1 := by rw [← hW0]; simp
  have cb0 := b0.one
  have HF := Lib.hid (few_any v ls W0 (hM.below hB0) false ⟨fun h => (by cases h), fun h => absurd h hf⟩)
  obtain ⟨A, cap, rfl, _⟩ := id hM
  clear hM
  gi_wp2_with fail
  try rw [hW0]
  clear hW0
  gi_wp2_with (refine ⟨trivial, ?_⟩; first
    | (gi_at_call 10; refine (callsIn_wide.2 HF.out).mono ?_; rintro e w' ⟨rfl, rfl⟩)
    | (gi_at_call 14; refine (callsIn_wide.2 (num_any _ _)).mono ?_; rintro e w' ⟨rfl, rfl⟩)
    | (gi_at_call 12; refine (callsIn_wide.2 HX.out).mono ?_; rintro e w1 ⟨rfl, hB1⟩; have hB0 := Below.next hB0 hB1)
    | (gi_at_call 11; refine (callsIn_wide.2 (works_in _ hB0)).mono ?_; rintro e wf ⟨rfl, hBf⟩))
  first
    | exact ⟨_, results_tmp rfl _ _ _, rfl, hBf⟩
    | exact ⟨_, rfl, rfl, hBf⟩
set_option maxRecDepth 100000 in
set_option maxHeartbeats 1000000 in
theorem holdsK1 (v : Value) (ls : List (List UInt8)) (k bt : Int) (w : World) (hM : Many w.heap.size w v ls) (hf : Few ls) (h1 : k < 0) (wk1 : -9223372036854775808 ≤ k) (wk2 : k ≤ 9223372036854775807) (wb1 : -9223372036854775808 ≤ bt) (wb2 : bt ≤ 9223372036854775807) :
    Calls Try.prog 7 #[v, .int .i64 k, .int .i64 bt] w fun e w' => e = .returned (.bool true) ∧ Below w.heap.size w w' := by
  refine (callsIn_wide (n := 5)).1 ?_
  refine callsIn_of_wp_marks Try.func7 rfl trivial ?_ rfl
  simp only [Try.ntmps7, List.size_toArray, List.length_cons, List.length_nil, Nat.reduceAdd, Nat.reduceSub, Array.replicate_succ, Array.replicate_zero, List.push_toArray, List.append_toArray, List.nil_append, List.cons_append]
  obtain ⟨W0, hW0⟩ : ∃ W0, w.alloc (.cells #[.int .i64 bt] 3) = W0 := ⟨_, rfl⟩
  have b0 : Blk W0 w.heap.size 3 #[.int .i64 bt] := by rw [← hW0]; exact Blk.new w _ _
  have hB0 : Below w.heap.size w W0 := by rw [← hW0]; exact (Below.refl _ w).alloc (Nat.le_refl _) _
  have hs0 : W0.heap.size = w.heap.size + 1 := by rw [← hW0]; simp
  have cb0 := b0.one
  have HF := Lib.hid (few_any v ls W0 (hM.below hB0) true ⟨fun _ => hf, fun _ => rfl⟩)
  have d1 : decide (k < 0) = true := decide_eq_true (by omega)
  obtain ⟨A, cap, rfl, _⟩ := id hM
  clear hM
  gi_wp2_with fail
  try rw [hW0]
  clear hW0
  gi_wp2_with (refine ⟨trivial, ?_⟩; first
    | (gi_at_call 10; refine (callsIn_wide.2 HF.out).mono ?_; rintro e w' ⟨rfl, rfl⟩)
    | (gi_at_call 14; refine (callsIn_wide.2 (num_any _ _)).mono ?_; rintro e w' ⟨rfl, rfl⟩)
    | (gi_at_call 12; refine (callsIn_wide.2 HX.out).mono ?_; rintro e w1 ⟨rfl, hB1⟩; have hB0 := Below.next hB0 hB1)
    | (gi_at_call 11; refine (callsIn_wide.2 (works_in _ hB0)).mono ?_; rintro e wf ⟨rfl, hBf⟩))
  first
    | exact ⟨_, results_tmp rfl _ _ _, rfl, hBf⟩
    | exact ⟨_, rfl, rfl, hBf⟩
set_option maxRecDepth 100000 in
set_option maxHeartbeats 1000000 in
theorem holdsK2 (v : Value) (ls : List (List UInt8)) (k bt : Int) (w : World) (hM : Many w.heap.size w v ls) (hf : Few ls) (h1 : 0 ≤ k) (h2 : (ls.length : Int) ≤ k) (wk1 : -9223372036854775808 ≤ k) (wk2 : k ≤ 9223372036854775807) (wb1 : -9223372036854775808 ≤ bt) (wb2 : bt ≤ 9223372036854775807) :
    Calls Try.prog 7 #[v, .int .i64 k, .int .i64 bt] w fun e w' => e = .returned (.bool true) ∧ Below w.heap.size w w' := by
  refine (callsIn_wide (n := 5)).1 ?_
  refine callsIn_of_wp_marks Try.func7 rfl trivial ?_ rfl
  simp only [Try.ntmps7, List.size_toArray, List.length_cons, List.length_nil, Nat.reduceAdd, Nat.reduceSub, Array.replicate_succ, Array.replicate_zero, List.push_toArray, List.append_toArray, List.nil_append, List.cons_append]
  obtain ⟨W0, hW0⟩ : ∃ W0, w.alloc (.cells #[.int .i64 bt] 3) = W0 := ⟨_, rfl⟩
  have b0 : Blk W0 w.heap.size 3 #[.int .i64 bt] := by rw [← hW0]; exact Blk.new w _ _
  have hB0 : Below w.heap.size w W0 := by rw [← hW0]; exact (Below.refl _ w).alloc (Nat.le_refl _) _
  have hs0 : W0.heap.size = w.heap.size + 1 := by rw [← hW0]; simp
  have cb0 := b0.one
  have HF := Lib.hid (few_any v ls W0 (hM.below hB0) true ⟨fun _ => hf, fun _ => rfl⟩)
  have d1 : decide (k < 0) = false := decide_eq_false (by omega)
  have d2 : decide ((ls.length : Int) ≤ k) = true := decide_eq_true (by omega)
  obtain ⟨A, cap, rfl, _⟩ := id hM
  clear hM
  gi_wp2_with fail
  try rw [hW0]
  clear hW0
  gi_wp2_with (refine ⟨trivial, ?_⟩; first
    | (gi_at_call 10; refine (callsIn_wide.2 HF.out).mono ?_; rintro e w' ⟨rfl, rfl⟩)
    | (gi_at_call 14; refine (callsIn_wide.2 (num_any _ _)).mono ?_; rintro e w' ⟨rfl, rfl⟩)
    | (gi_at_call 12; refine (callsIn_wide.2 HX.out).mono ?_; rintro e w1 ⟨rfl, hB1⟩; have hB0 := Below.next hB0 hB1)
    | (gi_at_call 11; refine (callsIn_wide.2 (works_in _ hB0)).mono ?_; rintro e wf ⟨rfl, hBf⟩))
  first
    | exact ⟨_, results_tmp rfl _ _ _, rfl, hBf⟩
    | exact ⟨_, rfl, rfl, hBf⟩
set_option maxRecDepth 100000 in
set_option maxHeartbeats 1000000 in
theorem holdsB1 (v : Value) (ls : List (List UInt8)) (k bt : Int) (w : World) (hM : Many w.heap.size w v ls) (hf : Few ls) (h1 : 0 ≤ k) (h2 : k < (ls.length : Int)) (h3 : bt < 0) (wk1 : -9223372036854775808 ≤ k) (wk2 : k ≤ 9223372036854775807) (wb1 : -9223372036854775808 ≤ bt) (wb2 : bt ≤ 9223372036854775807) :
    Calls Try.prog 7 #[v, .int .i64 k, .int .i64 bt] w fun e w' => e = .returned (.bool true) ∧ Below w.heap.size w w' := by
  refine (callsIn_wide (n := 5)).1 ?_
  refine callsIn_of_wp_marks Try.func7 rfl trivial ?_ rfl
  simp only [Try.ntmps7, List.size_toArray, List.length_cons, List.length_nil, Nat.reduceAdd, Nat.reduceSub, Array.replicate_succ, Array.replicate_zero, List.push_toArray, List.append_toArray, List.nil_append, List.cons_append]
  obtain ⟨W0, hW0⟩ : ∃ W0, w.alloc (.cells #[.int .i64 bt] 3) = W0 := ⟨_, rfl⟩
  have b0 : Blk W0 w.heap.size 3 #[.int .i64 bt] := by rw [← hW0]; exact Blk.new w _ _
  have hB0 : Below w.heap.size w W0 := by rw [← hW0]; exact (Below.refl _ w).alloc (Nat.le_refl _) _
  have hs0 : W0.heap.size = w.heap.size + 1 := by rw [← hW0]; simp
  have cb0 := b0.one
  have HF := Lib.hid (few_any v ls W0 (hM.below hB0) true ⟨fun _ => hf, fun _ => rfl⟩)
  have d1 : decide (k < 0) = false := decide_eq_false (by omega)
  have d2 : decide ((ls.length : Int) ≤ k) = false := decide_eq_false (by omega)
  have d3 : decide (bt < 0) = true := decide_eq_true (by omega)
  obtain ⟨A, cap, rfl, _⟩ := id hM
  clear hM
  gi_wp2_with fail
  try rw [hW0]
  clear hW0
  gi_wp2_with (refine ⟨trivial, ?_⟩; first
    | (gi_at_call 10; refine (callsIn_wide.2 HF.out).mono ?_; rintro e w' ⟨rfl, rfl⟩)
    | (gi_at_call 14; refine (callsIn_wide.2 (num_any _ _)).mono ?_; rintro e w' ⟨rfl, rfl⟩)
    | (gi_at_call 12; refine (callsIn_wide.2 HX.out).mono ?_; rintro e w1 ⟨rfl, hB1⟩; have hB0 := Below.next hB0 hB1)
    | (gi_at_call 11; refine (callsIn_wide.2 (works_in _ hB0)).mono ?_; rintro e wf ⟨rfl, hBf⟩))
  first
    | exact ⟨_, results_tmp rfl _ _ _, rfl, hBf⟩
    | exact ⟨_, rfl, rfl, hBf⟩
set_option maxRecDepth 100000 in
set_option maxHeartbeats 1000000 in
theorem holdsB2 (v : Value) (ls : List (List UInt8)) (k bt : Int) (w : World) (hM : Many w.heap.size w v ls) (hf : Few ls) (h1 : 0 ≤ k) (h2 : k < (ls.length : Int)) (h3 : 0 ≤ bt) (h4 : 512 ≤ bt) (wk1 : -9223372036854775808 ≤ k) (wk2 : k ≤ 9223372036854775807) (wb1 : -9223372036854775808 ≤ bt) (wb2 : bt ≤ 9223372036854775807) :
    Calls Try.prog 7 #[v, .int .i64 k, .int .i64 bt] w fun e w' => e = .returned (.bool true) ∧ Below w.heap.size w w' := by
  refine (callsIn_wide (n := 5)).1 ?_
  refine callsIn_of_wp_marks Try.func7 rfl trivial ?_ rfl
  simp only [Try.ntmps7, List.size_toArray, List.length_cons, List.length_nil, Nat.reduceAdd, Nat.reduceSub, Array.replicate_succ, Array.replicate_zero, List.push_toArray, List.append_toArray, List.nil_append, List.cons_append]
  obtain ⟨W0, hW0⟩ : ∃ W0, w.alloc (.cells #[.int .i64 bt] 3) = W0 := ⟨_, rfl⟩
  have b0 : Blk W0 w.heap.size 3 #[.int .i64 bt] := by rw [← hW0]; exact Blk.new w _ _
  have hB0 : Below w.heap.size w W0 := by rw [← hW0]; exact (Below.refl _ w).alloc (Nat.le_refl _) _
  have hs0 : W0.heap.size = w.heap.size + 1 := by rw [← hW0]; simp
  have cb0 := b0.one
  have HF := Lib.hid (few_any v ls W0 (hM.below hB0) true ⟨fun _ => hf, fun _ => rfl⟩)
  have d1 : decide (k < 0) = false := decide_eq_false (by omega)
  have d2 : decide ((ls.length : Int) ≤ k) = false := decide_eq_false (by omega)
  have d3 : decide (bt < 0) = false := decide_eq_false (by omega)
  have d4 : decide (512 ≤ bt) = true := decide_eq_true (by omega)
  obtain ⟨A, cap, rfl, _⟩ := id hM
  clear hM
  gi_wp2_with fail
  try rw [hW0]
  clear hW0
  gi_wp2_with (refine ⟨trivial, ?_⟩; first
    | (gi_at_call 10; refine (callsIn_wide.2 HF.out).mono ?_; rintro e w' ⟨rfl, rfl⟩)
    | (gi_at_call 14; refine (callsIn_wide.2 (num_any _ _)).mono ?_; rintro e w' ⟨rfl, rfl⟩)
    | (gi_at_call 12; refine (callsIn_wide.2 HX.out).mono ?_; rintro e w1 ⟨rfl, hB1⟩; have hB0 := Below.next hB0 hB1)
    | (gi_at_call 11; refine (callsIn_wide.2 (works_in _ hB0)).mono ?_; rintro e wf ⟨rfl, hBf⟩))
  first
    | exact ⟨_, results_tmp rfl _ _ _, rfl, hBf⟩
    | exact ⟨_, rfl, rfl, hBf⟩
set_option maxRecDepth 100000 in
set_option maxHeartbeats 1000000 in
theorem holdsX (v : Value) (ls : List (List UInt8)) (k bt : Int) (w : World) (hM : Many w.heap.size w v ls) (hf : Few ls) (h1 : 0 ≤ k) (h2 : k < (ls.length : Int)) (h3 : 0 ≤ bt) (h4 : bt < 512) (hx : ¬ XorOk ls) (wk1 : -9223372036854775808 ≤ k) (wk2 : k ≤ 9223372036854775807) (wb1 : -9223372036854775808 ≤ bt) (wb2 : bt ≤ 9223372036854775807) :
    Calls Try.prog 7 #[v, .int .i64 k, .int .i64 bt] w fun e w' => e = .returned (.bool true) ∧ Below w.heap.size w w' := by
  refine (callsIn_wide (n := 5)).1 ?_
  refine callsIn_of_wp_marks Try.func7 rfl trivial ?_ rfl
  simp only [Try.ntmps7, List.size_toArray, List.length_cons, List.length_nil, Nat.reduceAdd, Nat.reduceSub, Array.replicate_succ, Array.replicate_zero, List.push_toArray, List.append_toArray, List.nil_append, List.cons_append]
  obtain ⟨W0, hW0⟩ : ∃ W0, w.alloc (.cells #[.int .i64 bt] 3) = W0 := ⟨_, rfl⟩
  have b0 : Blk W0 w.heap.size 3 #[.int .i64 bt] := by rw [← hW0]; exact Blk.new w _ _
  have hB0 : Below w.heap.size w W0 := by rw [← hW0]; exact (Below.refl _ w).alloc (Nat.le_refl _) _
  have hs0 : W0.heap.size = w.heap.size + 1 := by rw [← hW0]; simp
  have cb0 := b0.one
  have HF := Lib.hid (few_any v ls W0 (hM.below hB0) true ⟨fun _ => hf, fun _ => rfl⟩)
  have d1 : decide (k < 0) = false := decide_eq_false (by omega)
  have d2 : decide ((ls.length : Int) ≤ k) = false := decide_eq_false (by omega)
  have d3 : decide (bt < 0) = false := decide_eq_false (by omega)
  have d4 : decide (512 ≤ bt) = false := decide_eq_false (by omega)
  have HX := Lib.hid (xor_no ls v W0 hB0.size (hM.below hB0) (by have := hf.1; omega) hx)
  obtain ⟨A, cap, rfl, _⟩ := id hM
  clear hM
  gi_wp2_with fail
  try rw [hW0]
  clear hW0
  gi_wp2_with (refine ⟨trivial, ?_⟩; first
    | (gi_at_call 10; refine (callsIn_wide.2 HF.out).mono ?_; rintro e w' ⟨rfl, rfl⟩)
    | (gi_at_call 14; refine (callsIn_wide.2 (num_any _ _)).mono ?_; rintro e w' ⟨rfl, rfl⟩)
    | (gi_at_call 12; refine (callsIn_wide.2 HX.out).mono ?_; rintro e w1 ⟨rfl, hB1⟩; have hB0 := Below.next hB0 hB1)
    | (gi_at_call 11; refine (callsIn_wide.2 (works_in _ hB0)).mono ?_; rintro e wf ⟨rfl, hBf⟩))
  first
    | exact ⟨_, results_tmp rfl _ _ _, rfl, hBf⟩
    | exact ⟨_, rfl, rfl, hBf⟩
end Go.Proofs.Ytjkpmhannmbgfaa.cellsHolds
