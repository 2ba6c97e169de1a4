/- The law EvenoddHolds answers true for every input and leaves its arguments as they were. -/
import Derived.Test.YtggdlklkjnbbjaaGreatDoorSLawKit
import Derived.Test.YtggdlklkjnbbjaaGreatDoorCards
import Derived.Test.YtggdlklkjnbbjaaGreatDoorTie
import Derived.SevenTiedAt
import Derived.Test.YtggdlklkjnbbjaaGreatDoorEG6
namespace Go.Proofs.YtggdlklkjnbbjaaGreatDoor.evenoddHolds
open Go.ChangeShapes Go.WideShapes Go.ChangeAt Go.RowKit Go.Shelf
set_option linter.unusedVariables false
set_option linter.unusedSimpArgs false
attribute [local go_sem] Oper.semAt_some

open Go.Proofs.YtggdlklkjnbbjaaGreatDoor.E Go.Proofs.YtggdlklkjnbbjaaGreatDoor.C in
set_option maxRecDepth 100000 in
set_option maxHeartbeats 4000000 in
theorem n1 (p : Int) (v : Value) (a : List (List (List UInt8))) (v2 : Value) (b : List (List (List UInt8))) (w : World) (hL : Laid w) (wp : -9223372036854775808 ≤ p ∧ p ≤ 9223372036854775807) (hC : Cols w.heap.size w v a) (hD : Cols w.heap.size w v2 b) (hf0 : ¬ Few6 a) :
    Calls Tryz.prog 5 #[.int .i64 p, v, v2] w fun e w' => e = .returned (.bool true) ∧ Below w.heap.size w w' := by
  obtain ⟨A, cap, rfl, _, _⟩ := id hC
  obtain ⟨A', cap', rfl, _, _⟩ := id hD
  have HF0 := Lib.hid (fun (U : World) (hU : Below w.heap.size w U) => few6_any _ a U (hC.below hU) false (by simp [hf0]))
  clear hf0 hC hD
  generalize a.length = na at *
  generalize b.length = nb at *
  have HSS := Lib.hid (fun (U : World) (_ : Below w.heap.size w U) => (trivial : (fun _ : World => True) U))
  go_enter Tryz.func5, Tryz.ntmps5
  go_wp2_with fail
  have hB : Below w.heap.size w w.drew := (Below.refl _ _).drew
  have hS : (fun _ : World => True) w.drew := HSS.out _ hB
  refine (wpIn_wide (n := 12)).1 (wpIn_mono (region_HF (Q := NoPanic _) (S := (fun _ : World => True)) (by kernel_rfl) ?_) NoPanic.imp)
  refine anyHF_take (i := 0) (d := 20) (v := .slice A na cap) (by kernel_rfl) rfl (by kernel_rfl) (by kernel_rfl) (by kernel_rfl) rfl (fun _ _ _ h => h) ⟨Or.inl ⟨by rfl, fun w hS => by have h0 := hS; go_simp⟩, fun _ => rfl⟩ hS ?_
  simp only [List.setIfInBounds_toArray, List.set_cons_zero, List.set_cons_succ]
  refine anyHF_one (i := 1) (by kernel_rfl) rfl (by kernel_rfl) (by rfl) ?_
  gi_wp2_with fail
  refine ⟨trivial, (callsIn_wide.2 (HF0.out _ hB)).mono ?_⟩
  rintro e wn ⟨rfl, rfl⟩
  gi_wp2
  try (refine ⟨hS, ?_⟩)
  refine anyHF_take (i := 2) (d := 22) (v := .bool true) (by kernel_rfl) rfl (by kernel_rfl) (by kernel_rfl) (by kernel_rfl) rfl (fun _ _ _ h => h) ⟨Or.inl ⟨by rfl, fun w hS => by have h0 := hS; go_simp⟩, fun _ => rfl⟩ hS ?_
  simp only [List.setIfInBounds_toArray, List.set_cons_zero, List.set_cons_succ]
  refine anyHF_take (i := 3) (d := 23) (v := .bool true) (by kernel_rfl) rfl (by kernel_rfl) (by kernel_rfl) (by kernel_rfl) rfl (fun _ _ _ h => h) ⟨Or.inl ⟨by rfl, fun w hS => by have h0 := hS; go_simp⟩, fun _ => rfl⟩ hS ?_
  simp only [List.setIfInBounds_toArray, List.set_cons_zero, List.set_cons_succ]
  refine anyHF_take (i := 4) (d := 24) (v := undef) (by kernel_rfl) rfl (by kernel_rfl) (by kernel_rfl) (by kernel_rfl) rfl (fun _ _ _ h => h) ⟨Or.inr ⟨by rfl, rfl⟩, fun _ => rfl⟩ hS ?_
  simp only [List.setIfInBounds_toArray, List.set_cons_zero, List.set_cons_succ]
  refine anyHF_skip (i := 5) (d := 25) (by kernel_rfl) rfl (by rfl) rfl wide_fn hS ?_
  simp only [List.setIfInBounds_toArray, List.set_cons_zero, List.set_cons_succ]
  refine anyHF_take (i := 6) (d := 26) (v := undef) (by kernel_rfl) rfl (by kernel_rfl) (by kernel_rfl) (by kernel_rfl) rfl (fun _ _ _ h => h) ⟨Or.inr ⟨by rfl, rfl⟩, fun _ => rfl⟩ hS ?_
  simp only [List.setIfInBounds_toArray, List.set_cons_zero, List.set_cons_succ]
  refine anyHF_take (i := 7) (d := 27) (v := .bool true) (by kernel_rfl) rfl (by kernel_rfl) (by kernel_rfl) (by kernel_rfl) rfl (fun _ _ _ h => h) ⟨Or.inl ⟨by rfl, fun w hS => by have h0 := hS; go_simp⟩, fun _ => rfl⟩ hS ?_
  simp only [List.setIfInBounds_toArray, List.set_cons_zero, List.set_cons_succ]
  refine anyHF_take (i := 8) (d := 28) (v := .bool true) (by kernel_rfl) rfl (by kernel_rfl) (by kernel_rfl) (by kernel_rfl) rfl (fun _ _ _ h => h) ⟨Or.inl ⟨by rfl, fun w hS => by have h0 := hS; go_simp⟩, fun _ => rfl⟩ hS ?_
  simp only [List.setIfInBounds_toArray, List.set_cons_zero, List.set_cons_succ]
  refine anyHF_take (i := 9) (d := 29) (v := undef) (by kernel_rfl) rfl (by kernel_rfl) (by kernel_rfl) (by kernel_rfl) rfl (fun _ _ _ h => h) ⟨Or.inr ⟨by rfl, rfl⟩, fun _ => rfl⟩ hS ?_
  simp only [List.setIfInBounds_toArray, List.set_cons_zero, List.set_cons_succ]
  refine anyHF_take (i := 10) (d := 30) (v := undef) (by kernel_rfl) rfl (by kernel_rfl) (by kernel_rfl) (by kernel_rfl) rfl (fun _ _ _ h => h) ⟨Or.inr ⟨by rfl, rfl⟩, fun _ => rfl⟩ hS ?_
  simp only [List.setIfInBounds_toArray, List.set_cons_zero, List.set_cons_succ]
  refine anyHF_skip (i := 11) (d := 31) (by kernel_rfl) rfl (by rfl) rfl wide_fn hS ?_
  simp only [List.setIfInBounds_toArray, List.set_cons_zero, List.set_cons_succ]
  refine anyHF_take (i := 12) (d := 32) (v := undef) (by kernel_rfl) rfl (by kernel_rfl) (by kernel_rfl) (by kernel_rfl) rfl (fun _ _ _ h => h) ⟨Or.inr ⟨by rfl, rfl⟩, fun _ => rfl⟩ hS ?_
  simp only [List.setIfInBounds_toArray, List.set_cons_zero, List.set_cons_succ]
  refine anyHF_take (i := 13) (d := 33) (v := .bool true) (by kernel_rfl) rfl (by kernel_rfl) (by kernel_rfl) (by kernel_rfl) rfl (fun _ _ _ h => h) ⟨Or.inl ⟨by rfl, fun w hS => by have h0 := hS; go_simp⟩, fun _ => rfl⟩ hS ?_
  simp only [List.setIfInBounds_toArray, List.set_cons_zero, List.set_cons_succ]
  refine anyHF_take (i := 14) (d := 34) (v := .bool true) (by kernel_rfl) rfl (by kernel_rfl) (by kernel_rfl) (by kernel_rfl) rfl (fun _ _ _ h => h) ⟨Or.inl ⟨by rfl, fun w hS => by have h0 := hS; go_simp⟩, fun _ => rfl⟩ hS ?_
  simp only [List.setIfInBounds_toArray, List.set_cons_zero, List.set_cons_succ]
  refine anyHF_take (i := 15) (d := 35) (v := undef) (by kernel_rfl) rfl (by kernel_rfl) (by kernel_rfl) (by kernel_rfl) rfl (fun _ _ _ h => h) ⟨Or.inr ⟨by rfl, rfl⟩, fun _ => rfl⟩ hS ?_
  simp only [List.setIfInBounds_toArray, List.set_cons_zero, List.set_cons_succ]
  refine anyHF_take (i := 16) (d := 36) (v := undef) (by kernel_rfl) rfl (by kernel_rfl) (by kernel_rfl) (by kernel_rfl) rfl (fun _ _ _ h => h) ⟨Or.inr ⟨by rfl, rfl⟩, fun _ => rfl⟩ hS ?_
  simp only [List.setIfInBounds_toArray, List.set_cons_zero, List.set_cons_succ]
  refine anyHF_skip (i := 17) (d := 37) (by kernel_rfl) rfl (by rfl) rfl wide_fn hS ?_
  simp only [List.setIfInBounds_toArray, List.set_cons_zero, List.set_cons_succ]
  refine anyHF_take (i := 18) (d := 38) (v := undef) (by kernel_rfl) rfl (by kernel_rfl) (by kernel_rfl) (by kernel_rfl) rfl (fun _ _ _ h => h) ⟨Or.inr ⟨by rfl, rfl⟩, fun _ => rfl⟩ hS ?_
  simp only [List.setIfInBounds_toArray, List.set_cons_zero, List.set_cons_succ]
  refine anyHF_take (i := 19) (d := 39) (v := .bool true) (by kernel_rfl) rfl (by kernel_rfl) (by kernel_rfl) (by kernel_rfl) rfl (fun _ _ _ h => h) ⟨Or.inl ⟨by rfl, fun w hS => by have h0 := hS; go_simp⟩, fun _ => rfl⟩ hS ?_
  simp only [List.setIfInBounds_toArray, List.set_cons_zero, List.set_cons_succ]
  refine anyHF_take (i := 20) (d := 40) (v := .bool true) (by kernel_rfl) rfl (by kernel_rfl) (by kernel_rfl) (by kernel_rfl) rfl (fun _ _ _ h => h) ⟨Or.inl ⟨by rfl, fun w hS => by have h0 := hS; go_simp⟩, fun _ => rfl⟩ hS ?_
  simp only [List.setIfInBounds_toArray, List.set_cons_zero, List.set_cons_succ]
  refine anyHF_take (i := 21) (d := 41) (v := undef) (by kernel_rfl) rfl (by kernel_rfl) (by kernel_rfl) (by kernel_rfl) rfl (fun _ _ _ h => h) ⟨Or.inr ⟨by rfl, rfl⟩, fun _ => rfl⟩ hS ?_
  simp only [List.setIfInBounds_toArray, List.set_cons_zero, List.set_cons_succ]
  refine anyHF_take (i := 22) (d := 42) (v := undef) (by kernel_rfl) rfl (by kernel_rfl) (by kernel_rfl) (by kernel_rfl) rfl (fun _ _ _ h => h) ⟨Or.inr ⟨by rfl, rfl⟩, fun _ => rfl⟩ hS ?_
  simp only [List.setIfInBounds_toArray, List.set_cons_zero, List.set_cons_succ]
  refine anyHF_take (i := 23) (d := 43) (v := undef) (by kernel_rfl) rfl (by kernel_rfl) (by kernel_rfl) (by kernel_rfl) rfl (fun _ _ _ h => h) ⟨Or.inr ⟨by rfl, rfl⟩, fun _ => rfl⟩ hS ?_
  simp only [List.setIfInBounds_toArray, List.set_cons_zero, List.set_cons_succ]
  refine anyHF_take (i := 24) (d := 44) (v := undef) (by kernel_rfl) rfl (by kernel_rfl) (by kernel_rfl) (by kernel_rfl) rfl (fun _ _ _ h => h) ⟨Or.inr ⟨by rfl, rfl⟩, fun _ => rfl⟩ hS ?_
  simp only [List.setIfInBounds_toArray, List.set_cons_zero, List.set_cons_succ]
  refine anyHF_take (i := 25) (d := 45) (v := undef) (by kernel_rfl) rfl (by kernel_rfl) (by kernel_rfl) (by kernel_rfl) rfl (fun _ _ _ h => h) ⟨Or.inr ⟨by rfl, rfl⟩, fun _ => rfl⟩ hS ?_
  simp only [List.setIfInBounds_toArray, List.set_cons_zero, List.set_cons_succ]
  refine anyHF_take (i := 26) (d := 46) (v := undef) (by kernel_rfl) rfl (by kernel_rfl) (by kernel_rfl) (by kernel_rfl) rfl (fun _ _ _ h => h) ⟨Or.inr ⟨by rfl, rfl⟩, fun _ => rfl⟩ hS ?_
  simp only [List.setIfInBounds_toArray, List.set_cons_zero, List.set_cons_succ]
  refine anyHF_take (i := 27) (d := 47) (v := undef) (by kernel_rfl) rfl (by kernel_rfl) (by kernel_rfl) (by kernel_rfl) rfl (fun _ _ _ h => h) ⟨Or.inr ⟨by rfl, rfl⟩, fun _ => rfl⟩ hS ?_
  simp only [List.setIfInBounds_toArray, List.set_cons_zero, List.set_cons_succ]
  refine anyHF_take (i := 28) (d := 48) (v := undef) (by kernel_rfl) rfl (by kernel_rfl) (by kernel_rfl) (by kernel_rfl) rfl (fun _ _ _ h => h) ⟨Or.inr ⟨by rfl, rfl⟩, fun _ => rfl⟩ hS ?_
  simp only [List.setIfInBounds_toArray, List.set_cons_zero, List.set_cons_succ]
  refine anyHF_take (i := 29) (d := 49) (v := undef) (by kernel_rfl) rfl (by kernel_rfl) (by kernel_rfl) (by kernel_rfl) rfl (fun _ _ _ h => h) ⟨Or.inr ⟨by rfl, rfl⟩, fun _ => rfl⟩ hS ?_
  simp only [List.setIfInBounds_toArray, List.set_cons_zero, List.set_cons_succ]
  refine anyHF_take (i := 30) (d := 50) (v := undef) (by kernel_rfl) rfl (by kernel_rfl) (by kernel_rfl) (by kernel_rfl) rfl (fun _ _ _ h => h) ⟨Or.inr ⟨by rfl, rfl⟩, fun _ => rfl⟩ hS ?_
  simp only [List.setIfInBounds_toArray, List.set_cons_zero, List.set_cons_succ]
  refine anyHF_take (i := 31) (d := 51) (v := undef) (by kernel_rfl) rfl (by kernel_rfl) (by kernel_rfl) (by kernel_rfl) rfl (fun _ _ _ h => h) ⟨Or.inr ⟨by rfl, rfl⟩, fun _ => rfl⟩ hS ?_
  simp only [List.setIfInBounds_toArray, List.set_cons_zero, List.set_cons_succ]
  refine anyHF_take (i := 32) (d := 52) (v := undef) (by kernel_rfl) rfl (by kernel_rfl) (by kernel_rfl) (by kernel_rfl) rfl (fun _ _ _ h => h) ⟨Or.inr ⟨by rfl, rfl⟩, fun _ => rfl⟩ hS ?_
  simp only [List.setIfInBounds_toArray, List.set_cons_zero, List.set_cons_succ]
  refine anyHF_take (i := 33) (d := 53) (v := undef) (by kernel_rfl) rfl (by kernel_rfl) (by kernel_rfl) (by kernel_rfl) rfl (fun _ _ _ h => h) ⟨Or.inr ⟨by rfl, rfl⟩, fun _ => rfl⟩ hS ?_
  simp only [List.setIfInBounds_toArray, List.set_cons_zero, List.set_cons_succ]
  refine anyHF_take (i := 34) (d := 54) (v := .bool true) (by kernel_rfl) rfl (by kernel_rfl) (by kernel_rfl) (by kernel_rfl) rfl (fun _ _ _ h => h) ⟨Or.inl ⟨by rfl, fun w hS => by have h0 := hS; go_simp⟩, fun _ => rfl⟩ hS ?_
  simp only [List.setIfInBounds_toArray, List.set_cons_zero, List.set_cons_succ]
  refine anyHF_done (by kernel_rfl) ?_ _
  refine NoPanic.normal ?_
  clear hS
  go_wp2_with (go_at_call 11; refine (E.works_any _ (hL.next hB)).mono ?_; rintro e w1 ⟨rfl, hB1⟩)
  go_ret
  exact ⟨rfl, below_in hB hB1⟩

open Go.Proofs.YtggdlklkjnbbjaaGreatDoor.E Go.Proofs.YtggdlklkjnbbjaaGreatDoor.C in
set_option maxRecDepth 100000 in
set_option maxHeartbeats 4000000 in
theorem n2 (p : Int) (v : Value) (a : List (List (List UInt8))) (v2 : Value) (b : List (List (List UInt8))) (w : World) (hL : Laid w) (wp : -9223372036854775808 ≤ p ∧ p ≤ 9223372036854775807) (hC : Cols w.heap.size w v a) (hD : Cols w.heap.size w v2 b) (hf0 : Few6 a) (hf1 : ¬ Few6 b) :
    Calls Tryz.prog 5 #[.int .i64 p, v, v2] w fun e w' => e = .returned (.bool true) ∧ Below w.heap.size w w' := by
  obtain ⟨A, cap, rfl, _, _⟩ := id hC
  obtain ⟨A', cap', rfl, _, _⟩ := id hD
  have HF0 := Lib.hid (fun (U : World) (hU : Below w.heap.size w U) => few6_any _ a U (hC.below hU) true (by simp [hf0]))
  have HF1 := Lib.hid (fun (U : World) (hU : Below w.heap.size w U) => few6_any _ b U (hD.below hU) false (by simp [hf1]))
  clear hf0 hf1 hC hD
  generalize a.length = na at *
  generalize b.length = nb at *
  have HSS := Lib.hid (fun (U : World) (_ : Below w.heap.size w U) => (trivial : (fun _ : World => True) U))
  go_enter Tryz.func5, Tryz.ntmps5
  go_wp2_with fail
  have hB : Below w.heap.size w w.drew := (Below.refl _ _).drew
  have hS : (fun _ : World => True) w.drew := HSS.out _ hB
  refine (wpIn_wide (n := 12)).1 (wpIn_mono (region_HF (Q := NoPanic _) (S := (fun _ : World => True)) (by kernel_rfl) ?_) NoPanic.imp)
  refine anyHF_take (i := 0) (d := 20) (v := .slice A na cap) (by kernel_rfl) rfl (by kernel_rfl) (by kernel_rfl) (by kernel_rfl) rfl (fun _ _ _ h => h) ⟨Or.inl ⟨by rfl, fun w hS => by have h0 := hS; go_simp⟩, fun _ => rfl⟩ hS ?_
  simp only [List.setIfInBounds_toArray, List.set_cons_zero, List.set_cons_succ]
  refine anyHF_one (i := 1) (by kernel_rfl) rfl (by kernel_rfl) (by rfl) ?_
  gi_wp2_with fail
  refine ⟨trivial, (callsIn_wide.2 (HF0.out _ hB)).mono ?_⟩
  rintro e wn ⟨rfl, rfl⟩
  gi_wp2
  try (refine ⟨hS, ?_⟩)
  refine anyHF_take (i := 2) (d := 22) (v := .bool false) (by kernel_rfl) rfl (by kernel_rfl) (by kernel_rfl) (by kernel_rfl) rfl (fun _ _ _ h => h) ⟨Or.inl ⟨by rfl, fun w hS => by have h0 := hS; go_simp⟩, fun _ => rfl⟩ hS ?_
  simp only [List.setIfInBounds_toArray, List.set_cons_zero, List.set_cons_succ]
  refine anyHF_take (i := 3) (d := 23) (v := .bool false) (by kernel_rfl) rfl (by kernel_rfl) (by kernel_rfl) (by kernel_rfl) rfl (fun _ _ _ h => h) ⟨Or.inl ⟨by rfl, fun w hS => by have h0 := hS; go_simp⟩, fun _ => rfl⟩ hS ?_
  simp only [List.setIfInBounds_toArray, List.set_cons_zero, List.set_cons_succ]
  refine anyHF_take (i := 4) (d := 24) (v := .slice A' nb cap') (by kernel_rfl) rfl (by kernel_rfl) (by kernel_rfl) (by kernel_rfl) rfl (fun _ _ _ h => h) ⟨Or.inl ⟨by rfl, fun w hS => by have h0 := hS; go_simp⟩, fun _ => rfl⟩ hS ?_
  simp only [List.setIfInBounds_toArray, List.set_cons_zero, List.set_cons_succ]
  refine anyHF_one (i := 5) (by kernel_rfl) rfl (by kernel_rfl) (by rfl) ?_
  gi_wp2_with fail
  refine ⟨trivial, (callsIn_wide.2 (HF1.out _ hB)).mono ?_⟩
  rintro e wn ⟨rfl, rfl⟩
  gi_wp2
  try (refine ⟨hS, ?_⟩)
  refine anyHF_take (i := 6) (d := 26) (v := .bool true) (by kernel_rfl) rfl (by kernel_rfl) (by kernel_rfl) (by kernel_rfl) rfl (fun _ _ _ h => h) ⟨Or.inl ⟨by rfl, fun w hS => by have h0 := hS; go_simp⟩, fun _ => rfl⟩ hS ?_
  simp only [List.setIfInBounds_toArray, List.set_cons_zero, List.set_cons_succ]
  refine anyHF_take (i := 7) (d := 27) (v := .bool true) (by kernel_rfl) rfl (by kernel_rfl) (by kernel_rfl) (by kernel_rfl) rfl (fun _ _ _ h => h) ⟨Or.inl ⟨by rfl, fun w hS => by have h0 := hS; go_simp⟩, fun _ => rfl⟩ hS ?_
  simp only [List.setIfInBounds_toArray, List.set_cons_zero, List.set_cons_succ]
  refine anyHF_take (i := 8) (d := 28) (v := .bool true) (by kernel_rfl) rfl (by kernel_rfl) (by kernel_rfl) (by kernel_rfl) rfl (fun _ _ _ h => h) ⟨Or.inl ⟨by rfl, fun w hS => by have h0 := hS; go_simp⟩, fun _ => rfl⟩ hS ?_
  simp only [List.setIfInBounds_toArray, List.set_cons_zero, List.set_cons_succ]
  refine anyHF_take (i := 9) (d := 29) (v := undef) (by kernel_rfl) rfl (by kernel_rfl) (by kernel_rfl) (by kernel_rfl) rfl (fun _ _ _ h => h) ⟨Or.inr ⟨by rfl, rfl⟩, fun _ => rfl⟩ hS ?_
  simp only [List.setIfInBounds_toArray, List.set_cons_zero, List.set_cons_succ]
  refine anyHF_take (i := 10) (d := 30) (v := undef) (by kernel_rfl) rfl (by kernel_rfl) (by kernel_rfl) (by kernel_rfl) rfl (fun _ _ _ h => h) ⟨Or.inr ⟨by rfl, rfl⟩, fun _ => rfl⟩ hS ?_
  simp only [List.setIfInBounds_toArray, List.set_cons_zero, List.set_cons_succ]
  refine anyHF_skip (i := 11) (d := 31) (by kernel_rfl) rfl (by rfl) rfl wide_fn hS ?_
  simp only [List.setIfInBounds_toArray, List.set_cons_zero, List.set_cons_succ]
  refine anyHF_take (i := 12) (d := 32) (v := undef) (by kernel_rfl) rfl (by kernel_rfl) (by kernel_rfl) (by kernel_rfl) rfl (fun _ _ _ h => h) ⟨Or.inr ⟨by rfl, rfl⟩, fun _ => rfl⟩ hS ?_
  simp only [List.setIfInBounds_toArray, List.set_cons_zero, List.set_cons_succ]
  refine anyHF_take (i := 13) (d := 33) (v := .bool true) (by kernel_rfl) rfl (by kernel_rfl) (by kernel_rfl) (by kernel_rfl) rfl (fun _ _ _ h => h) ⟨Or.inl ⟨by rfl, fun w hS => by have h0 := hS; go_simp⟩, fun _ => rfl⟩ hS ?_
  simp only [List.setIfInBounds_toArray, List.set_cons_zero, List.set_cons_succ]
  refine anyHF_take (i := 14) (d := 34) (v := .bool true) (by kernel_rfl) rfl (by kernel_rfl) (by kernel_rfl) (by kernel_rfl) rfl (fun _ _ _ h => h) ⟨Or.inl ⟨by rfl, fun w hS => by have h0 := hS; go_simp⟩, fun _ => rfl⟩ hS ?_
  simp only [List.setIfInBounds_toArray, List.set_cons_zero, List.set_cons_succ]
  refine anyHF_take (i := 15) (d := 35) (v := undef) (by kernel_rfl) rfl (by kernel_rfl) (by kernel_rfl) (by kernel_rfl) rfl (fun _ _ _ h => h) ⟨Or.inr ⟨by rfl, rfl⟩, fun _ => rfl⟩ hS ?_
  simp only [List.setIfInBounds_toArray, List.set_cons_zero, List.set_cons_succ]
  refine anyHF_take (i := 16) (d := 36) (v := undef) (by kernel_rfl) rfl (by kernel_rfl) (by kernel_rfl) (by kernel_rfl) rfl (fun _ _ _ h => h) ⟨Or.inr ⟨by rfl, rfl⟩, fun _ => rfl⟩ hS ?_
  simp only [List.setIfInBounds_toArray, List.set_cons_zero, List.set_cons_succ]
  refine anyHF_skip (i := 17) (d := 37) (by kernel_rfl) rfl (by rfl) rfl wide_fn hS ?_
  simp only [List.setIfInBounds_toArray, List.set_cons_zero, List.set_cons_succ]
  refine anyHF_take (i := 18) (d := 38) (v := undef) (by kernel_rfl) rfl (by kernel_rfl) (by kernel_rfl) (by kernel_rfl) rfl (fun _ _ _ h => h) ⟨Or.inr ⟨by rfl, rfl⟩, fun _ => rfl⟩ hS ?_
  simp only [List.setIfInBounds_toArray, List.set_cons_zero, List.set_cons_succ]
  refine anyHF_take (i := 19) (d := 39) (v := .bool true) (by kernel_rfl) rfl (by kernel_rfl) (by kernel_rfl) (by kernel_rfl) rfl (fun _ _ _ h => h) ⟨Or.inl ⟨by rfl, fun w hS => by have h0 := hS; go_simp⟩, fun _ => rfl⟩ hS ?_
  simp only [List.setIfInBounds_toArray, List.set_cons_zero, List.set_cons_succ]
  refine anyHF_take (i := 20) (d := 40) (v := .bool true) (by kernel_rfl) rfl (by kernel_rfl) (by kernel_rfl) (by kernel_rfl) rfl (fun _ _ _ h => h) ⟨Or.inl ⟨by rfl, fun w hS => by have h0 := hS; go_simp⟩, fun _ => rfl⟩ hS ?_
  simp only [List.setIfInBounds_toArray, List.set_cons_zero, List.set_cons_succ]
  refine anyHF_take (i := 21) (d := 41) (v := undef) (by kernel_rfl) rfl (by kernel_rfl) (by kernel_rfl) (by kernel_rfl) rfl (fun _ _ _ h => h) ⟨Or.inr ⟨by rfl, rfl⟩, fun _ => rfl⟩ hS ?_
  simp only [List.setIfInBounds_toArray, List.set_cons_zero, List.set_cons_succ]
  refine anyHF_take (i := 22) (d := 42) (v := undef) (by kernel_rfl) rfl (by kernel_rfl) (by kernel_rfl) (by kernel_rfl) rfl (fun _ _ _ h => h) ⟨Or.inr ⟨by rfl, rfl⟩, fun _ => rfl⟩ hS ?_
  simp only [List.setIfInBounds_toArray, List.set_cons_zero, List.set_cons_succ]
  refine anyHF_take (i := 23) (d := 43) (v := undef) (by kernel_rfl) rfl (by kernel_rfl) (by kernel_rfl) (by kernel_rfl) rfl (fun _ _ _ h => h) ⟨Or.inr ⟨by rfl, rfl⟩, fun _ => rfl⟩ hS ?_
  simp only [List.setIfInBounds_toArray, List.set_cons_zero, List.set_cons_succ]
  refine anyHF_take (i := 24) (d := 44) (v := undef) (by kernel_rfl) rfl (by kernel_rfl) (by kernel_rfl) (by kernel_rfl) rfl (fun _ _ _ h => h) ⟨Or.inr ⟨by rfl, rfl⟩, fun _ => rfl⟩ hS ?_
  simp only [List.setIfInBounds_toArray, List.set_cons_zero, List.set_cons_succ]
  refine anyHF_take (i := 25) (d := 45) (v := undef) (by kernel_rfl) rfl (by kernel_rfl) (by kernel_rfl) (by kernel_rfl) rfl (fun _ _ _ h => h) ⟨Or.inr ⟨by rfl, rfl⟩, fun _ => rfl⟩ hS ?_
  simp only [List.setIfInBounds_toArray, List.set_cons_zero, List.set_cons_succ]
  refine anyHF_take (i := 26) (d := 46) (v := undef) (by kernel_rfl) rfl (by kernel_rfl) (by kernel_rfl) (by kernel_rfl) rfl (fun _ _ _ h => h) ⟨Or.inr ⟨by rfl, rfl⟩, fun _ => rfl⟩ hS ?_
  simp only [List.setIfInBounds_toArray, List.set_cons_zero, List.set_cons_succ]
  refine anyHF_take (i := 27) (d := 47) (v := undef) (by kernel_rfl) rfl (by kernel_rfl) (by kernel_rfl) (by kernel_rfl) rfl (fun _ _ _ h => h) ⟨Or.inr ⟨by rfl, rfl⟩, fun _ => rfl⟩ hS ?_
  simp only [List.setIfInBounds_toArray, List.set_cons_zero, List.set_cons_succ]
  refine anyHF_take (i := 28) (d := 48) (v := undef) (by kernel_rfl) rfl (by kernel_rfl) (by kernel_rfl) (by kernel_rfl) rfl (fun _ _ _ h => h) ⟨Or.inr ⟨by rfl, rfl⟩, fun _ => rfl⟩ hS ?_
  simp only [List.setIfInBounds_toArray, List.set_cons_zero, List.set_cons_succ]
  refine anyHF_take (i := 29) (d := 49) (v := undef) (by kernel_rfl) rfl (by kernel_rfl) (by kernel_rfl) (by kernel_rfl) rfl (fun _ _ _ h => h) ⟨Or.inr ⟨by rfl, rfl⟩, fun _ => rfl⟩ hS ?_
  simp only [List.setIfInBounds_toArray, List.set_cons_zero, List.set_cons_succ]
  refine anyHF_take (i := 30) (d := 50) (v := undef) (by kernel_rfl) rfl (by kernel_rfl) (by kernel_rfl) (by kernel_rfl) rfl (fun _ _ _ h => h) ⟨Or.inr ⟨by rfl, rfl⟩, fun _ => rfl⟩ hS ?_
  simp only [List.setIfInBounds_toArray, List.set_cons_zero, List.set_cons_succ]
  refine anyHF_take (i := 31) (d := 51) (v := undef) (by kernel_rfl) rfl (by kernel_rfl) (by kernel_rfl) (by kernel_rfl) rfl (fun _ _ _ h => h) ⟨Or.inr ⟨by rfl, rfl⟩, fun _ => rfl⟩ hS ?_
  simp only [List.setIfInBounds_toArray, List.set_cons_zero, List.set_cons_succ]
  refine anyHF_take (i := 32) (d := 52) (v := undef) (by kernel_rfl) rfl (by kernel_rfl) (by kernel_rfl) (by kernel_rfl) rfl (fun _ _ _ h => h) ⟨Or.inr ⟨by rfl, rfl⟩, fun _ => rfl⟩ hS ?_
  simp only [List.setIfInBounds_toArray, List.set_cons_zero, List.set_cons_succ]
  refine anyHF_take (i := 33) (d := 53) (v := undef) (by kernel_rfl) rfl (by kernel_rfl) (by kernel_rfl) (by kernel_rfl) rfl (fun _ _ _ h => h) ⟨Or.inr ⟨by rfl, rfl⟩, fun _ => rfl⟩ hS ?_
  simp only [List.setIfInBounds_toArray, List.set_cons_zero, List.set_cons_succ]
  refine anyHF_take (i := 34) (d := 54) (v := .bool true) (by kernel_rfl) rfl (by kernel_rfl) (by kernel_rfl) (by kernel_rfl) rfl (fun _ _ _ h => h) ⟨Or.inl ⟨by rfl, fun w hS => by have h0 := hS; go_simp⟩, fun _ => rfl⟩ hS ?_
  simp only [List.setIfInBounds_toArray, List.set_cons_zero, List.set_cons_succ]
  refine anyHF_done (by kernel_rfl) ?_ _
  refine NoPanic.normal ?_
  clear hS
  go_wp2_with (go_at_call 11; refine (E.works_any _ (hL.next hB)).mono ?_; rintro e w1 ⟨rfl, hB1⟩)
  go_ret
  exact ⟨rfl, below_in hB hB1⟩

open Go.Proofs.YtggdlklkjnbbjaaGreatDoor.E Go.Proofs.YtggdlklkjnbbjaaGreatDoor.C in
set_option maxRecDepth 100000 in
set_option maxHeartbeats 4000000 in
theorem n3 (p : Int) (v : Value) (a : List (List (List UInt8))) (v2 : Value) (b : List (List (List UInt8))) (w : World) (hL : Laid w) (wp : -9223372036854775808 ≤ p ∧ p ≤ 9223372036854775807) (hC : Cols w.heap.size w v a) (hD : Cols w.heap.size w v2 b) (hf0 : Few6 a) (hf1 : Few6 b) (hr0 : ¬ DataOk p a) :
    Calls Tryz.prog 5 #[.int .i64 p, v, v2] w fun e w' => e = .returned (.bool true) ∧ Below w.heap.size w w' := by
  obtain ⟨A, cap, rfl, _, _⟩ := id hC
  obtain ⟨A', cap', rfl, _, _⟩ := id hD
  have HF0 := Lib.hid (fun (U : World) (hU : Below w.heap.size w U) => few6_any _ a U (hC.below hU) true (by simp [hf0]))
  have HF1 := Lib.hid (fun (U : World) (hU : Below w.heap.size w U) => few6_any _ b U (hD.below hU) true (by simp [hf1]))
  have HR0 := Lib.hid (fun (U : World) (hU : Below w.heap.size w U) => lright_any p _ a U hU.size (hC.below hU) (by have := hf0.1; omega) false (by simp [hr0]))
  clear hf0 hf1 hr0 hC hD
  generalize a.length = na at *
  generalize b.length = nb at *
  have HSS := Lib.hid (fun (U : World) (_ : Below w.heap.size w U) => (trivial : (fun _ : World => True) U))
  go_enter Tryz.func5, Tryz.ntmps5
  go_wp2_with fail
  have hB : Below w.heap.size w w.drew := (Below.refl _ _).drew
  have hS : (fun _ : World => True) w.drew := HSS.out _ hB
  refine (wpIn_wide (n := 12)).1 (wpIn_mono (region_HF (Q := NoPanic _) (S := (fun _ : World => True)) (by kernel_rfl) ?_) NoPanic.imp)
  refine anyHF_take (i := 0) (d := 20) (v := .slice A na cap) (by kernel_rfl) rfl (by kernel_rfl) (by kernel_rfl) (by kernel_rfl) rfl (fun _ _ _ h => h) ⟨Or.inl ⟨by rfl, fun w hS => by have h0 := hS; go_simp⟩, fun _ => rfl⟩ hS ?_
  simp only [List.setIfInBounds_toArray, List.set_cons_zero, List.set_cons_succ]
  refine anyHF_one (i := 1) (by kernel_rfl) rfl (by kernel_rfl) (by rfl) ?_
  gi_wp2_with fail
  refine ⟨trivial, (callsIn_wide.2 (HF0.out _ hB)).mono ?_⟩
  rintro e wn ⟨rfl, rfl⟩
  gi_wp2
  try (refine ⟨hS, ?_⟩)
  refine anyHF_take (i := 2) (d := 22) (v := .bool false) (by kernel_rfl) rfl (by kernel_rfl) (by kernel_rfl) (by kernel_rfl) rfl (fun _ _ _ h => h) ⟨Or.inl ⟨by rfl, fun w hS => by have h0 := hS; go_simp⟩, fun _ => rfl⟩ hS ?_
  simp only [List.setIfInBounds_toArray, List.set_cons_zero, List.set_cons_succ]
  refine anyHF_take (i := 3) (d := 23) (v := .bool false) (by kernel_rfl) rfl (by kernel_rfl) (by kernel_rfl) (by kernel_rfl) rfl (fun _ _ _ h => h) ⟨Or.inl ⟨by rfl, fun w hS => by have h0 := hS; go_simp⟩, fun _ => rfl⟩ hS ?_
  simp only [List.setIfInBounds_toArray, List.set_cons_zero, List.set_cons_succ]
  refine anyHF_take (i := 4) (d := 24) (v := .slice A' nb cap') (by kernel_rfl) rfl (by kernel_rfl) (by kernel_rfl) (by kernel_rfl) rfl (fun _ _ _ h => h) ⟨Or.inl ⟨by rfl, fun w hS => by have h0 := hS; go_simp⟩, fun _ => rfl⟩ hS ?_
  simp only [List.setIfInBounds_toArray, List.set_cons_zero, List.set_cons_succ]
  refine anyHF_one (i := 5) (by kernel_rfl) rfl (by kernel_rfl) (by rfl) ?_
  gi_wp2_with fail
  refine ⟨trivial, (callsIn_wide.2 (HF1.out _ hB)).mono ?_⟩
  rintro e wn ⟨rfl, rfl⟩
  gi_wp2
  try (refine ⟨hS, ?_⟩)
  refine anyHF_take (i := 6) (d := 26) (v := .bool false) (by kernel_rfl) rfl (by kernel_rfl) (by kernel_rfl) (by kernel_rfl) rfl (fun _ _ _ h => h) ⟨Or.inl ⟨by rfl, fun w hS => by have h0 := hS; go_simp⟩, fun _ => rfl⟩ hS ?_
  simp only [List.setIfInBounds_toArray, List.set_cons_zero, List.set_cons_succ]
  refine anyHF_take (i := 7) (d := 27) (v := .bool false) (by kernel_rfl) rfl (by kernel_rfl) (by kernel_rfl) (by kernel_rfl) rfl (fun _ _ _ h => h) ⟨Or.inl ⟨by rfl, fun w hS => by have h0 := hS; go_simp⟩, fun _ => rfl⟩ hS ?_
  simp only [List.setIfInBounds_toArray, List.set_cons_zero, List.set_cons_succ]
  refine anyHF_take (i := 8) (d := 28) (v := .bool false) (by kernel_rfl) rfl (by kernel_rfl) (by kernel_rfl) (by kernel_rfl) rfl (fun _ _ _ h => h) ⟨Or.inl ⟨by rfl, fun w hS => by have h0 := hS; go_simp⟩, fun _ => rfl⟩ hS ?_
  simp only [List.setIfInBounds_toArray, List.set_cons_zero, List.set_cons_succ]
  refine anyHF_take (i := 9) (d := 29) (v := .int .i64 p) (by kernel_rfl) rfl (by kernel_rfl) (by kernel_rfl) (by kernel_rfl) rfl (fun _ _ _ h => h) ⟨Or.inl ⟨by rfl, fun w hS => by have h0 := hS; go_simp⟩, fun _ => rfl⟩ hS ?_
  simp only [List.setIfInBounds_toArray, List.set_cons_zero, List.set_cons_succ]
  refine anyHF_take (i := 10) (d := 30) (v := .slice A na cap) (by kernel_rfl) rfl (by kernel_rfl) (by kernel_rfl) (by kernel_rfl) rfl (fun _ _ _ h => h) ⟨Or.inl ⟨by rfl, fun w hS => by have h0 := hS; go_simp⟩, fun _ => rfl⟩ hS ?_
  simp only [List.setIfInBounds_toArray, List.set_cons_zero, List.set_cons_succ]
  refine anyHF_one (i := 11) (by kernel_rfl) rfl (by kernel_rfl) (by rfl) ?_
  gi_wp2_with fail
  refine ⟨trivial, (callsIn_wide.2 (HR0.out _ hB)).mono ?_⟩
  rintro e wn ⟨rfl, hBn⟩
  replace hB := below_in hB hBn
  clear hBn
  clear hS
  have hS : (fun _ : World => True) wn := HSS.out _ hB
  gi_wp2
  try (refine ⟨hS, ?_⟩)
  refine anyHF_take (i := 12) (d := 32) (v := .bool true) (by kernel_rfl) rfl (by kernel_rfl) (by kernel_rfl) (by kernel_rfl) rfl (fun _ _ _ h => h) ⟨Or.inl ⟨by rfl, fun w hS => by have h0 := hS; go_simp⟩, fun _ => rfl⟩ hS ?_
  simp only [List.setIfInBounds_toArray, List.set_cons_zero, List.set_cons_succ]
  refine anyHF_take (i := 13) (d := 33) (v := .bool true) (by kernel_rfl) rfl (by kernel_rfl) (by kernel_rfl) (by kernel_rfl) rfl (fun _ _ _ h => h) ⟨Or.inl ⟨by rfl, fun w hS => by have h0 := hS; go_simp⟩, fun _ => rfl⟩ hS ?_
  simp only [List.setIfInBounds_toArray, List.set_cons_zero, List.set_cons_succ]
  refine anyHF_take (i := 14) (d := 34) (v := .bool true) (by kernel_rfl) rfl (by kernel_rfl) (by kernel_rfl) (by kernel_rfl) rfl (fun _ _ _ h => h) ⟨Or.inl ⟨by rfl, fun w hS => by have h0 := hS; go_simp⟩, fun _ => rfl⟩ hS ?_
  simp only [List.setIfInBounds_toArray, List.set_cons_zero, List.set_cons_succ]
  refine anyHF_take (i := 15) (d := 35) (v := undef) (by kernel_rfl) rfl (by kernel_rfl) (by kernel_rfl) (by kernel_rfl) rfl (fun _ _ _ h => h) ⟨Or.inr ⟨by rfl, rfl⟩, fun _ => rfl⟩ hS ?_
  simp only [List.setIfInBounds_toArray, List.set_cons_zero, List.set_cons_succ]
  refine anyHF_take (i := 16) (d := 36) (v := undef) (by kernel_rfl) rfl (by kernel_rfl) (by kernel_rfl) (by kernel_rfl) rfl (fun _ _ _ h => h) ⟨Or.inr ⟨by rfl, rfl⟩, fun _ => rfl⟩ hS ?_
  simp only [List.setIfInBounds_toArray, List.set_cons_zero, List.set_cons_succ]
  refine anyHF_skip (i := 17) (d := 37) (by kernel_rfl) rfl (by rfl) rfl wide_fn hS ?_
  simp only [List.setIfInBounds_toArray, List.set_cons_zero, List.set_cons_succ]
  refine anyHF_take (i := 18) (d := 38) (v := undef) (by kernel_rfl) rfl (by kernel_rfl) (by kernel_rfl) (by kernel_rfl) rfl (fun _ _ _ h => h) ⟨Or.inr ⟨by rfl, rfl⟩, fun _ => rfl⟩ hS ?_
  simp only [List.setIfInBounds_toArray, List.set_cons_zero, List.set_cons_succ]
  refine anyHF_take (i := 19) (d := 39) (v := .bool true) (by kernel_rfl) rfl (by kernel_rfl) (by kernel_rfl) (by kernel_rfl) rfl (fun _ _ _ h => h) ⟨Or.inl ⟨by rfl, fun w hS => by have h0 := hS; go_simp⟩, fun _ => rfl⟩ hS ?_
  simp only [List.setIfInBounds_toArray, List.set_cons_zero, List.set_cons_succ]
  refine anyHF_take (i := 20) (d := 40) (v := .bool true) (by kernel_rfl) rfl (by kernel_rfl) (by kernel_rfl) (by kernel_rfl) rfl (fun _ _ _ h => h) ⟨Or.inl ⟨by rfl, fun w hS => by have h0 := hS; go_simp⟩, fun _ => rfl⟩ hS ?_
  simp only [List.setIfInBounds_toArray, List.set_cons_zero, List.set_cons_succ]
  refine anyHF_take (i := 21) (d := 41) (v := undef) (by kernel_rfl) rfl (by kernel_rfl) (by kernel_rfl) (by kernel_rfl) rfl (fun _ _ _ h => h) ⟨Or.inr ⟨by rfl, rfl⟩, fun _ => rfl⟩ hS ?_
  simp only [List.setIfInBounds_toArray, List.set_cons_zero, List.set_cons_succ]
  refine anyHF_take (i := 22) (d := 42) (v := undef) (by kernel_rfl) rfl (by kernel_rfl) (by kernel_rfl) (by kernel_rfl) rfl (fun _ _ _ h => h) ⟨Or.inr ⟨by rfl, rfl⟩, fun _ => rfl⟩ hS ?_
  simp only [List.setIfInBounds_toArray, List.set_cons_zero, List.set_cons_succ]
  refine anyHF_take (i := 23) (d := 43) (v := undef) (by kernel_rfl) rfl (by kernel_rfl) (by kernel_rfl) (by kernel_rfl) rfl (fun _ _ _ h => h) ⟨Or.inr ⟨by rfl, rfl⟩, fun _ => rfl⟩ hS ?_
  simp only [List.setIfInBounds_toArray, List.set_cons_zero, List.set_cons_succ]
  refine anyHF_take (i := 24) (d := 44) (v := undef) (by kernel_rfl) rfl (by kernel_rfl) (by kernel_rfl) (by kernel_rfl) rfl (fun _ _ _ h => h) ⟨Or.inr ⟨by rfl, rfl⟩, fun _ => rfl⟩ hS ?_
  simp only [List.setIfInBounds_toArray, List.set_cons_zero, List.set_cons_succ]
  refine anyHF_take (i := 25) (d := 45) (v := undef) (by kernel_rfl) rfl (by kernel_rfl) (by kernel_rfl) (by kernel_rfl) rfl (fun _ _ _ h => h) ⟨Or.inr ⟨by rfl, rfl⟩, fun _ => rfl⟩ hS ?_
  simp only [List.setIfInBounds_toArray, List.set_cons_zero, List.set_cons_succ]
  refine anyHF_take (i := 26) (d := 46) (v := undef) (by kernel_rfl) rfl (by kernel_rfl) (by kernel_rfl) (by kernel_rfl) rfl (fun _ _ _ h => h) ⟨Or.inr ⟨by rfl, rfl⟩, fun _ => rfl⟩ hS ?_
  simp only [List.setIfInBounds_toArray, List.set_cons_zero, List.set_cons_succ]
  refine anyHF_take (i := 27) (d := 47) (v := undef) (by kernel_rfl) rfl (by kernel_rfl) (by kernel_rfl) (by kernel_rfl) rfl (fun _ _ _ h => h) ⟨Or.inr ⟨by rfl, rfl⟩, fun _ => rfl⟩ hS ?_
  simp only [List.setIfInBounds_toArray, List.set_cons_zero, List.set_cons_succ]
  refine anyHF_take (i := 28) (d := 48) (v := undef) (by kernel_rfl) rfl (by kernel_rfl) (by kernel_rfl) (by kernel_rfl) rfl (fun _ _ _ h => h) ⟨Or.inr ⟨by rfl, rfl⟩, fun _ => rfl⟩ hS ?_
  simp only [List.setIfInBounds_toArray, List.set_cons_zero, List.set_cons_succ]
  refine anyHF_take (i := 29) (d := 49) (v := undef) (by kernel_rfl) rfl (by kernel_rfl) (by kernel_rfl) (by kernel_rfl) rfl (fun _ _ _ h => h) ⟨Or.inr ⟨by rfl, rfl⟩, fun _ => rfl⟩ hS ?_
  simp only [List.setIfInBounds_toArray, List.set_cons_zero, List.set_cons_succ]
  refine anyHF_take (i := 30) (d := 50) (v := undef) (by kernel_rfl) rfl (by kernel_rfl) (by kernel_rfl) (by kernel_rfl) rfl (fun _ _ _ h => h) ⟨Or.inr ⟨by rfl, rfl⟩, fun _ => rfl⟩ hS ?_
  simp only [List.setIfInBounds_toArray, List.set_cons_zero, List.set_cons_succ]
  refine anyHF_take (i := 31) (d := 51) (v := undef) (by kernel_rfl) rfl (by kernel_rfl) (by kernel_rfl) (by kernel_rfl) rfl (fun _ _ _ h => h) ⟨Or.inr ⟨by rfl, rfl⟩, fun _ => rfl⟩ hS ?_
  simp only [List.setIfInBounds_toArray, List.set_cons_zero, List.set_cons_succ]
  refine anyHF_take (i := 32) (d := 52) (v := undef) (by kernel_rfl) rfl (by kernel_rfl) (by kernel_rfl) (by kernel_rfl) rfl (fun _ _ _ h => h) ⟨Or.inr ⟨by rfl, rfl⟩, fun _ => rfl⟩ hS ?_
  simp only [List.setIfInBounds_toArray, List.set_cons_zero, List.set_cons_succ]
  refine anyHF_take (i := 33) (d := 53) (v := undef) (by kernel_rfl) rfl (by kernel_rfl) (by kernel_rfl) (by kernel_rfl) rfl (fun _ _ _ h => h) ⟨Or.inr ⟨by rfl, rfl⟩, fun _ => rfl⟩ hS ?_
  simp only [List.setIfInBounds_toArray, List.set_cons_zero, List.set_cons_succ]
  refine anyHF_take (i := 34) (d := 54) (v := .bool true) (by kernel_rfl) rfl (by kernel_rfl) (by kernel_rfl) (by kernel_rfl) rfl (fun _ _ _ h => h) ⟨Or.inl ⟨by rfl, fun w hS => by have h0 := hS; go_simp⟩, fun _ => rfl⟩ hS ?_
  simp only [List.setIfInBounds_toArray, List.set_cons_zero, List.set_cons_succ]
  refine anyHF_done (by kernel_rfl) ?_ _
  refine NoPanic.normal ?_
  clear hS
  go_wp2_with (go_at_call 11; refine (E.works_any _ (hL.next hB)).mono ?_; rintro e w1 ⟨rfl, hB1⟩)
  go_ret
  exact ⟨rfl, below_in hB hB1⟩

open Go.Proofs.YtggdlklkjnbbjaaGreatDoor.E Go.Proofs.YtggdlklkjnbbjaaGreatDoor.C in
set_option maxRecDepth 100000 in
set_option maxHeartbeats 4000000 in
theorem n4 (p : Int) (v : Value) (a : List (List (List UInt8))) (v2 : Value) (b : List (List (List UInt8))) (w : World) (hL : Laid w) (wp : -9223372036854775808 ≤ p ∧ p ≤ 9223372036854775807) (hC : Cols w.heap.size w v a) (hD : Cols w.heap.size w v2 b) (hf0 : Few6 a) (hf1 : Few6 b) (hr0 : DataOk p a) (hr1 : ¬ DataOk p b) :
    Calls Tryz.prog 5 #[.int .i64 p, v, v2] w fun e w' => e = .returned (.bool true) ∧ Below w.heap.size w w' := by
  obtain ⟨A, cap, rfl, _, _⟩ := id hC
  obtain ⟨A', cap', rfl, _, _⟩ := id hD
  have HF0 := Lib.hid (fun (U : World) (hU : Below w.heap.size w U) => few6_any _ a U (hC.below hU) true (by simp [hf0]))
  have HF1 := Lib.hid (fun (U : World) (hU : Below w.heap.size w U) => few6_any _ b U (hD.below hU) true (by simp [hf1]))
  have HR0 := Lib.hid (fun (U : World) (hU : Below w.heap.size w U) => lright_any p _ a U hU.size (hC.below hU) (by have := hf0.1; omega) true (by simp [hr0]))
  have HR1 := Lib.hid (fun (U : World) (hU : Below w.heap.size w U) => lright_any p _ b U hU.size (hD.below hU) (by have := hf1.1; omega) false (by simp [hr1]))
  clear hf0 hf1 hr0 hr1 hC hD
  generalize a.length = na at *
  generalize b.length = nb at *
  have HSS := Lib.hid (fun (U : World) (_ : Below w.heap.size w U) => (trivial : (fun _ : World => True) U))
  go_enter Tryz.func5, Tryz.ntmps5
  go_wp2_with fail
  have hB : Below w.heap.size w w.drew := (Below.refl _ _).drew
  have hS : (fun _ : World => True) w.drew := HSS.out _ hB
  refine (wpIn_wide (n := 12)).1 (wpIn_mono (region_HF (Q := NoPanic _) (S := (fun _ : World => True)) (by kernel_rfl) ?_) NoPanic.imp)
  refine anyHF_take (i := 0) (d := 20) (v := .slice A na cap) (by kernel_rfl) rfl (by kernel_rfl) (by kernel_rfl) (by kernel_rfl) rfl (fun _ _ _ h => h) ⟨Or.inl ⟨by rfl, fun w hS => by have h0 := hS; go_simp⟩, fun _ => rfl⟩ hS ?_
  simp only [List.setIfInBounds_toArray, List.set_cons_zero, List.set_cons_succ]
  refine anyHF_one (i := 1) (by kernel_rfl) rfl (by kernel_rfl) (by rfl) ?_
  gi_wp2_with fail
  refine ⟨trivial, (callsIn_wide.2 (HF0.out _ hB)).mono ?_⟩
  rintro e wn ⟨rfl, rfl⟩
  gi_wp2
  try (refine ⟨hS, ?_⟩)
  refine anyHF_take (i := 2) (d := 22) (v := .bool false) (by kernel_rfl) rfl (by kernel_rfl) (by kernel_rfl) (by kernel_rfl) rfl (fun _ _ _ h => h) ⟨Or.inl ⟨by rfl, fun w hS => by have h0 := hS; go_simp⟩, fun _ => rfl⟩ hS ?_
  simp only [List.setIfInBounds_toArray, List.set_cons_zero, List.set_cons_succ]
  refine anyHF_take (i := 3) (d := 23) (v := .bool false) (by kernel_rfl) rfl (by kernel_rfl) (by kernel_rfl) (by kernel_rfl) rfl (fun _ _ _ h => h) ⟨Or.inl ⟨by rfl, fun w hS => by have h0 := hS; go_simp⟩, fun _ => rfl⟩ hS ?_
  simp only [List.setIfInBounds_toArray, List.set_cons_zero, List.set_cons_succ]
  refine anyHF_take (i := 4) (d := 24) (v := .slice A' nb cap') (by kernel_rfl) rfl (by kernel_rfl) (by kernel_rfl) (by kernel_rfl) rfl (fun _ _ _ h => h) ⟨Or.inl ⟨by rfl, fun w hS => by have h0 := hS; go_simp⟩, fun _ => rfl⟩ hS ?_
  simp only [List.setIfInBounds_toArray, List.set_cons_zero, List.set_cons_succ]
  refine anyHF_one (i := 5) (by kernel_rfl) rfl (by kernel_rfl) (by rfl) ?_
  gi_wp2_with fail
  refine ⟨trivial, (callsIn_wide.2 (HF1.out _ hB)).mono ?_⟩
  rintro e wn ⟨rfl, rfl⟩
  gi_wp2
  try (refine ⟨hS, ?_⟩)
  refine anyHF_take (i := 6) (d := 26) (v := .bool false) (by kernel_rfl) rfl (by kernel_rfl) (by kernel_rfl) (by kernel_rfl) rfl (fun _ _ _ h => h) ⟨Or.inl ⟨by rfl, fun w hS => by have h0 := hS; go_simp⟩, fun _ => rfl⟩ hS ?_
  simp only [List.setIfInBounds_toArray, List.set_cons_zero, List.set_cons_succ]
  refine anyHF_take (i := 7) (d := 27) (v := .bool false) (by kernel_rfl) rfl (by kernel_rfl) (by kernel_rfl) (by kernel_rfl) rfl (fun _ _ _ h => h) ⟨Or.inl ⟨by rfl, fun w hS => by have h0 := hS; go_simp⟩, fun _ => rfl⟩ hS ?_
  simp only [List.setIfInBounds_toArray, List.set_cons_zero, List.set_cons_succ]
  refine anyHF_take (i := 8) (d := 28) (v := .bool false) (by kernel_rfl) rfl (by kernel_rfl) (by kernel_rfl) (by kernel_rfl) rfl (fun _ _ _ h => h) ⟨Or.inl ⟨by rfl, fun w hS => by have h0 := hS; go_simp⟩, fun _ => rfl⟩ hS ?_
  simp only [List.setIfInBounds_toArray, List.set_cons_zero, List.set_cons_succ]
  refine anyHF_take (i := 9) (d := 29) (v := .int .i64 p) (by kernel_rfl) rfl (by kernel_rfl) (by kernel_rfl) (by kernel_rfl) rfl (fun _ _ _ h => h) ⟨Or.inl ⟨by rfl, fun w hS => by have h0 := hS; go_simp⟩, fun _ => rfl⟩ hS ?_
  simp only [List.setIfInBounds_toArray, List.set_cons_zero, List.set_cons_succ]
  refine anyHF_take (i := 10) (d := 30) (v := .slice A na cap) (by kernel_rfl) rfl (by kernel_rfl) (by kernel_rfl) (by kernel_rfl) rfl (fun _ _ _ h => h) ⟨Or.inl ⟨by rfl, fun w hS => by have h0 := hS; go_simp⟩, fun _ => rfl⟩ hS ?_
  simp only [List.setIfInBounds_toArray, List.set_cons_zero, List.set_cons_succ]
  refine anyHF_one (i := 11) (by kernel_rfl) rfl (by kernel_rfl) (by rfl) ?_
  gi_wp2_with fail
  refine ⟨trivial, (callsIn_wide.2 (HR0.out _ hB)).mono ?_⟩
  rintro e wn ⟨rfl, hBn⟩
  replace hB := below_in hB hBn
  clear hBn
  clear hS
  have hS : (fun _ : World => True) wn := HSS.out _ hB
  gi_wp2
  try (refine ⟨hS, ?_⟩)
  refine anyHF_take (i := 12) (d := 32) (v := .bool false) (by kernel_rfl) rfl (by kernel_rfl) (by kernel_rfl) (by kernel_rfl) rfl (fun _ _ _ h => h) ⟨Or.inl ⟨by rfl, fun w hS => by have h0 := hS; go_simp⟩, fun _ => rfl⟩ hS ?_
  simp only [List.setIfInBounds_toArray, List.set_cons_zero, List.set_cons_succ]
  refine anyHF_take (i := 13) (d := 33) (v := .bool false) (by kernel_rfl) rfl (by kernel_rfl) (by kernel_rfl) (by kernel_rfl) rfl (fun _ _ _ h => h) ⟨Or.inl ⟨by rfl, fun w hS => by have h0 := hS; go_simp⟩, fun _ => rfl⟩ hS ?_
  simp only [List.setIfInBounds_toArray, List.set_cons_zero, List.set_cons_succ]
  refine anyHF_take (i := 14) (d := 34) (v := .bool false) (by kernel_rfl) rfl (by kernel_rfl) (by kernel_rfl) (by kernel_rfl) rfl (fun _ _ _ h => h) ⟨Or.inl ⟨by rfl, fun w hS => by have h0 := hS; go_simp⟩, fun _ => rfl⟩ hS ?_
  simp only [List.setIfInBounds_toArray, List.set_cons_zero, List.set_cons_succ]
  refine anyHF_take (i := 15) (d := 35) (v := .int .i64 p) (by kernel_rfl) rfl (by kernel_rfl) (by kernel_rfl) (by kernel_rfl) rfl (fun _ _ _ h => h) ⟨Or.inl ⟨by rfl, fun w hS => by have h0 := hS; go_simp⟩, fun _ => rfl⟩ hS ?_
  simp only [List.setIfInBounds_toArray, List.set_cons_zero, List.set_cons_succ]
  refine anyHF_take (i := 16) (d := 36) (v := .slice A' nb cap') (by kernel_rfl) rfl (by kernel_rfl) (by kernel_rfl) (by kernel_rfl) rfl (fun _ _ _ h => h) ⟨Or.inl ⟨by rfl, fun w hS => by have h0 := hS; go_simp⟩, fun _ => rfl⟩ hS ?_
  simp only [List.setIfInBounds_toArray, List.set_cons_zero, List.set_cons_succ]
  refine anyHF_one (i := 17) (by kernel_rfl) rfl (by kernel_rfl) (by rfl) ?_
  gi_wp2_with fail
  refine ⟨trivial, (callsIn_wide.2 (HR1.out _ hB)).mono ?_⟩
  rintro e wn ⟨rfl, hBn⟩
  replace hB := below_in hB hBn
  clear hBn
  clear hS
  have hS : (fun _ : World => True) wn := HSS.out _ hB
  gi_wp2
  try (refine ⟨hS, ?_⟩)
  refine anyHF_take (i := 18) (d := 38) (v := .bool true) (by kernel_rfl) rfl (by kernel_rfl) (by kernel_rfl) (by kernel_rfl) rfl (fun _ _ _ h => h) ⟨Or.inl ⟨by rfl, fun w hS => by have h0 := hS; go_simp⟩, fun _ => rfl⟩ hS ?_
  simp only [List.setIfInBounds_toArray, List.set_cons_zero, List.set_cons_succ]
  refine anyHF_take (i := 19) (d := 39) (v := .bool true) (by kernel_rfl) rfl (by kernel_rfl) (by kernel_rfl) (by kernel_rfl) rfl (fun _ _ _ h => h) ⟨Or.inl ⟨by rfl, fun w hS => by have h0 := hS; go_simp⟩, fun _ => rfl⟩ hS ?_
  simp only [List.setIfInBounds_toArray, List.set_cons_zero, List.set_cons_succ]
  refine anyHF_take (i := 20) (d := 40) (v := .bool true) (by kernel_rfl) rfl (by kernel_rfl) (by kernel_rfl) (by kernel_rfl) rfl (fun _ _ _ h => h) ⟨Or.inl ⟨by rfl, fun w hS => by have h0 := hS; go_simp⟩, fun _ => rfl⟩ hS ?_
  simp only [List.setIfInBounds_toArray, List.set_cons_zero, List.set_cons_succ]
  refine anyHF_take (i := 21) (d := 41) (v := undef) (by kernel_rfl) rfl (by kernel_rfl) (by kernel_rfl) (by kernel_rfl) rfl (fun _ _ _ h => h) ⟨Or.inr ⟨by rfl, rfl⟩, fun _ => rfl⟩ hS ?_
  simp only [List.setIfInBounds_toArray, List.set_cons_zero, List.set_cons_succ]
  refine anyHF_take (i := 22) (d := 42) (v := undef) (by kernel_rfl) rfl (by kernel_rfl) (by kernel_rfl) (by kernel_rfl) rfl (fun _ _ _ h => h) ⟨Or.inr ⟨by rfl, rfl⟩, fun _ => rfl⟩ hS ?_
  simp only [List.setIfInBounds_toArray, List.set_cons_zero, List.set_cons_succ]
  refine anyHF_take (i := 23) (d := 43) (v := undef) (by kernel_rfl) rfl (by kernel_rfl) (by kernel_rfl) (by kernel_rfl) rfl (fun _ _ _ h => h) ⟨Or.inr ⟨by rfl, rfl⟩, fun _ => rfl⟩ hS ?_
  simp only [List.setIfInBounds_toArray, List.set_cons_zero, List.set_cons_succ]
  refine anyHF_take (i := 24) (d := 44) (v := undef) (by kernel_rfl) rfl (by kernel_rfl) (by kernel_rfl) (by kernel_rfl) rfl (fun _ _ _ h => h) ⟨Or.inr ⟨by rfl, rfl⟩, fun _ => rfl⟩ hS ?_
  simp only [List.setIfInBounds_toArray, List.set_cons_zero, List.set_cons_succ]
  refine anyHF_take (i := 25) (d := 45) (v := undef) (by kernel_rfl) rfl (by kernel_rfl) (by kernel_rfl) (by kernel_rfl) rfl (fun _ _ _ h => h) ⟨Or.inr ⟨by rfl, rfl⟩, fun _ => rfl⟩ hS ?_
  simp only [List.setIfInBounds_toArray, List.set_cons_zero, List.set_cons_succ]
  refine anyHF_take (i := 26) (d := 46) (v := undef) (by kernel_rfl) rfl (by kernel_rfl) (by kernel_rfl) (by kernel_rfl) rfl (fun _ _ _ h => h) ⟨Or.inr ⟨by rfl, rfl⟩, fun _ => rfl⟩ hS ?_
  simp only [List.setIfInBounds_toArray, List.set_cons_zero, List.set_cons_succ]
  refine anyHF_take (i := 27) (d := 47) (v := undef) (by kernel_rfl) rfl (by kernel_rfl) (by kernel_rfl) (by kernel_rfl) rfl (fun _ _ _ h => h) ⟨Or.inr ⟨by rfl, rfl⟩, fun _ => rfl⟩ hS ?_
  simp only [List.setIfInBounds_toArray, List.set_cons_zero, List.set_cons_succ]
  refine anyHF_take (i := 28) (d := 48) (v := undef) (by kernel_rfl) rfl (by kernel_rfl) (by kernel_rfl) (by kernel_rfl) rfl (fun _ _ _ h => h) ⟨Or.inr ⟨by rfl, rfl⟩, fun _ => rfl⟩ hS ?_
  simp only [List.setIfInBounds_toArray, List.set_cons_zero, List.set_cons_succ]
  refine anyHF_take (i := 29) (d := 49) (v := undef) (by kernel_rfl) rfl (by kernel_rfl) (by kernel_rfl) (by kernel_rfl) rfl (fun _ _ _ h => h) ⟨Or.inr ⟨by rfl, rfl⟩, fun _ => rfl⟩ hS ?_
  simp only [List.setIfInBounds_toArray, List.set_cons_zero, List.set_cons_succ]
  refine anyHF_take (i := 30) (d := 50) (v := undef) (by kernel_rfl) rfl (by kernel_rfl) (by kernel_rfl) (by kernel_rfl) rfl (fun _ _ _ h => h) ⟨Or.inr ⟨by rfl, rfl⟩, fun _ => rfl⟩ hS ?_
  simp only [List.setIfInBounds_toArray, List.set_cons_zero, List.set_cons_succ]
  refine anyHF_take (i := 31) (d := 51) (v := undef) (by kernel_rfl) rfl (by kernel_rfl) (by kernel_rfl) (by kernel_rfl) rfl (fun _ _ _ h => h) ⟨Or.inr ⟨by rfl, rfl⟩, fun _ => rfl⟩ hS ?_
  simp only [List.setIfInBounds_toArray, List.set_cons_zero, List.set_cons_succ]
  refine anyHF_take (i := 32) (d := 52) (v := undef) (by kernel_rfl) rfl (by kernel_rfl) (by kernel_rfl) (by kernel_rfl) rfl (fun _ _ _ h => h) ⟨Or.inr ⟨by rfl, rfl⟩, fun _ => rfl⟩ hS ?_
  simp only [List.setIfInBounds_toArray, List.set_cons_zero, List.set_cons_succ]
  refine anyHF_take (i := 33) (d := 53) (v := undef) (by kernel_rfl) rfl (by kernel_rfl) (by kernel_rfl) (by kernel_rfl) rfl (fun _ _ _ h => h) ⟨Or.inr ⟨by rfl, rfl⟩, fun _ => rfl⟩ hS ?_
  simp only [List.setIfInBounds_toArray, List.set_cons_zero, List.set_cons_succ]
  refine anyHF_take (i := 34) (d := 54) (v := .bool true) (by kernel_rfl) rfl (by kernel_rfl) (by kernel_rfl) (by kernel_rfl) rfl (fun _ _ _ h => h) ⟨Or.inl ⟨by rfl, fun w hS => by have h0 := hS; go_simp⟩, fun _ => rfl⟩ hS ?_
  simp only [List.setIfInBounds_toArray, List.set_cons_zero, List.set_cons_succ]
  refine anyHF_done (by kernel_rfl) ?_ _
  refine NoPanic.normal ?_
  clear hS
  go_wp2_with (go_at_call 11; refine (E.works_any _ (hL.next hB)).mono ?_; rintro e w1 ⟨rfl, hB1⟩)
  go_ret
  exact ⟨rfl, below_in hB hB1⟩

open Go.Proofs.YtggdlklkjnbbjaaGreatDoor.E Go.Proofs.YtggdlklkjnbbjaaGreatDoor.C in
set_option maxRecDepth 100000 in
set_option maxHeartbeats 4000000 in
theorem n5 (p : Int) (v : Value) (a : List (List (List UInt8))) (v2 : Value) (b : List (List (List UInt8))) (w : World) (hL : Laid w) (wp : -9223372036854775808 ≤ p ∧ p ≤ 9223372036854775807) (hC : Cols w.heap.size w v a) (hD : Cols w.heap.size w v2 b) (hf0 : Few6 a) (hf1 : Few6 b) (hr0 : DataOk p a) (hr1 : DataOk p b) (hl : ¬ (firstC a).length = (firstC b).length) :
    Calls Tryz.prog 5 #[.int .i64 p, v, v2] w fun e w' => e = .returned (.bool true) ∧ Below w.heap.size w w' := by
  obtain ⟨A, cap, rfl, _, _⟩ := id hC
  obtain ⟨A', cap', rfl, _, _⟩ := id hD
  have HF0 := Lib.hid (fun (U : World) (hU : Below w.heap.size w U) => few6_any _ a U (hC.below hU) true (by simp [hf0]))
  have HF1 := Lib.hid (fun (U : World) (hU : Below w.heap.size w U) => few6_any _ b U (hD.below hU) true (by simp [hf1]))
  have HR0 := Lib.hid (fun (U : World) (hU : Below w.heap.size w U) => lright_any p _ a U hU.size (hC.below hU) (by have := hf0.1; omega) true (by simp [hr0]))
  have HR1 := Lib.hid (fun (U : World) (hU : Below w.heap.size w U) => lright_any p _ b U hU.size (hD.below hU) (by have := hf1.1; omega) true (by simp [hr1]))
  have hd := dataOk_n hr0
  have hde := dataOk_n hr1
  have hR2 : 2 ≤ (p - 1).toNat := by omega
  obtain ⟨b1, off1, cq, e1, _, hb1, hrow⟩ := hC.at_ hr0.2.2.1
  injection e1 with e1 _ e1c
  subst e1
  subst e1c
  obtain ⟨d1, off2, cq, e1, _, hd1, hrowd⟩ := hD.at_ hr1.2.2.1
  injection e1 with e1 _ e1c
  subst e1
  subst e1c
  obtain ⟨u9, hu9, hm9⟩ := hrow 0 hr0.2.2.1
  obtain ⟨u8, hu8, hm8⟩ := hrowd 0 hr1.2.2.1
  obtain ⟨A9, cap9, rfl, _, _⟩ := id hm9
  obtain ⟨A8, cap8, rfl, _, _⟩ := id hm8
  have hc0 := (hr0.2.2.2 0 hr0.2.2.1).1
  have hc1 := (hr1.2.2.2 0 hr1.2.2.1).1
  obtain ⟨b9, off9, rfl, hb9, hrow9⟩ := many_at hm9 (by omega)
  obtain ⟨b8, off8, rfl, hb8, hrow8⟩ := many_at hm8 (by omega)
  obtain ⟨B9, cp9, hx9, hby9⟩ := hrow9 0 (by omega)
  obtain ⟨B8, cp8, hx8, hby8⟩ := hrow8 0 (by omega)
  rw [Nat.add_zero] at hu9 hu8 hx9 hx8
  rw [hc0] at hu9
  rw [hc1] at hu8
  have hx9 : w.cell? ⟨b9, off9, none⟩ = some (.slice B9 (firstC a).length cp9) := hx9
  have hx8 : w.cell? ⟨b8, off8, none⟩ = some (.slice B8 (firstC b).length cp8) := hx8
  have HSS := Lib.hid (fun (U : World) (hU : Below w.heap.size w U) => (⟨(hU.cell (p := ⟨b1, off1, none⟩) hb1).trans hu9, (hU.cell (p := ⟨b9, off9, none⟩) hb9).trans hx9, (hU.cell (p := ⟨d1, off2, none⟩) hd1).trans hu8, (hU.cell (p := ⟨b8, off8, none⟩) hb8).trans hx8⟩ : (fun V : World => V.cell? ⟨b1, off1, none⟩ = some (.slice (some ⟨b9, off9, none⟩) (p - 1).toNat cap9) ∧ V.cell? ⟨b9, off9, none⟩ = some (.slice B9 (firstC a).length cp9) ∧ V.cell? ⟨d1, off2, none⟩ = some (.slice (some ⟨b8, off8, none⟩) (p - 1).toNat cap8) ∧ V.cell? ⟨b8, off8, none⟩ = some (.slice B8 (firstC b).length cp8)) U))
  have hna : 0 < a.length := hr0.2.2.1
  have hnb : 0 < b.length := hr1.2.2.1
  clear hrow hrowd hrow9 hrow8 hby9 hby8 hu9 hu8 hx9 hx8 hm9 hm8 hc0 hc1
  clear hf0 hf1 hr0 hr1 hC hD hd hde
  generalize (p - 1).toNat = R at *
  generalize (firstC a).length = l9 at *
  generalize (firstC b).length = l8 at *
  generalize a.length = na at *
  generalize b.length = nb at *
  have z1 : (0 : Int) < (na : Int) := by omega
  have z2 : (0 : Int) < (nb : Int) := by omega
  have z3 : (0 : Int) < (R : Int) := by omega
  have z5 : ¬ R = 0 := by omega
  have z4 : ¬ (l9 : Int) = (l8 : Int) := by omega
  clear hl
  go_enter Tryz.func5, Tryz.ntmps5
  go_wp2_with fail
  have hB : Below w.heap.size w w.drew := (Below.refl _ _).drew
  have hS : (fun V : World => V.cell? ⟨b1, off1, none⟩ = some (.slice (some ⟨b9, off9, none⟩) R cap9) ∧ V.cell? ⟨b9, off9, none⟩ = some (.slice B9 l9 cp9) ∧ V.cell? ⟨d1, off2, none⟩ = some (.slice (some ⟨b8, off8, none⟩) R cap8) ∧ V.cell? ⟨b8, off8, none⟩ = some (.slice B8 l8 cp8)) w.drew := HSS.out _ hB
  refine (wpIn_wide (n := 12)).1 (wpIn_mono (region_HF (Q := NoPanic _) (S := (fun V : World => V.cell? ⟨b1, off1, none⟩ = some (.slice (some ⟨b9, off9, none⟩) R cap9) ∧ V.cell? ⟨b9, off9, none⟩ = some (.slice B9 l9 cp9) ∧ V.cell? ⟨d1, off2, none⟩ = some (.slice (some ⟨b8, off8, none⟩) R cap8) ∧ V.cell? ⟨b8, off8, none⟩ = some (.slice B8 l8 cp8))) (by kernel_rfl) ?_) NoPanic.imp)
  refine anyHF_take (i := 0) (d := 20) (v := .slice (some ⟨b1, off1, none⟩) na cap) (by kernel_rfl) rfl (by kernel_rfl) (by kernel_rfl) (by kernel_rfl) rfl (fun _ _ _ h => h) ⟨Or.inl ⟨by rfl, fun w hS => by obtain ⟨h0, h1, h2, h3⟩ := hS; go_simp⟩, fun _ => rfl⟩ hS ?_
  simp only [List.setIfInBounds_toArray, List.set_cons_zero, List.set_cons_succ]
  refine anyHF_one (i := 1) (by kernel_rfl) rfl (by kernel_rfl) (by rfl) ?_
  gi_wp2_with fail
  refine ⟨trivial, (callsIn_wide.2 (HF0.out _ hB)).mono ?_⟩
  rintro e wn ⟨rfl, rfl⟩
  gi_wp2
  try (refine ⟨hS, ?_⟩)
  refine anyHF_take (i := 2) (d := 22) (v := .bool false) (by kernel_rfl) rfl (by kernel_rfl) (by kernel_rfl) (by kernel_rfl) rfl (fun _ _ _ h => h) ⟨Or.inl ⟨by rfl, fun w hS => by obtain ⟨h0, h1, h2, h3⟩ := hS; go_simp⟩, fun _ => rfl⟩ hS ?_
  simp only [List.setIfInBounds_toArray, List.set_cons_zero, List.set_cons_succ]
  refine anyHF_take (i := 3) (d := 23) (v := .bool false) (by kernel_rfl) rfl (by kernel_rfl) (by kernel_rfl) (by kernel_rfl) rfl (fun _ _ _ h => h) ⟨Or.inl ⟨by rfl, fun w hS => by obtain ⟨h0, h1, h2, h3⟩ := hS; go_simp⟩, fun _ => rfl⟩ hS ?_
  simp only [List.setIfInBounds_toArray, List.set_cons_zero, List.set_cons_succ]
  refine anyHF_take (i := 4) (d := 24) (v := .slice (some ⟨d1, off2, none⟩) nb cap') (by kernel_rfl) rfl (by kernel_rfl) (by kernel_rfl) (by kernel_rfl) rfl (fun _ _ _ h => h) ⟨Or.inl ⟨by rfl, fun w hS => by obtain ⟨h0, h1, h2, h3⟩ := hS; go_simp⟩, fun _ => rfl⟩ hS ?_
  simp only [List.setIfInBounds_toArray, List.set_cons_zero, List.set_cons_succ]
  refine anyHF_one (i := 5) (by kernel_rfl) rfl (by kernel_rfl) (by rfl) ?_
  gi_wp2_with fail
  refine ⟨trivial, (callsIn_wide.2 (HF1.out _ hB)).mono ?_⟩
  rintro e wn ⟨rfl, rfl⟩
  gi_wp2
  try (refine ⟨hS, ?_⟩)
  refine anyHF_take (i := 6) (d := 26) (v := .bool false) (by kernel_rfl) rfl (by kernel_rfl) (by kernel_rfl) (by kernel_rfl) rfl (fun _ _ _ h => h) ⟨Or.inl ⟨by rfl, fun w hS => by obtain ⟨h0, h1, h2, h3⟩ := hS; go_simp⟩, fun _ => rfl⟩ hS ?_
  simp only [List.setIfInBounds_toArray, List.set_cons_zero, List.set_cons_succ]
  refine anyHF_take (i := 7) (d := 27) (v := .bool false) (by kernel_rfl) rfl (by kernel_rfl) (by kernel_rfl) (by kernel_rfl) rfl (fun _ _ _ h => h) ⟨Or.inl ⟨by rfl, fun w hS => by obtain ⟨h0, h1, h2, h3⟩ := hS; go_simp⟩, fun _ => rfl⟩ hS ?_
  simp only [List.setIfInBounds_toArray, List.set_cons_zero, List.set_cons_succ]
  refine anyHF_take (i := 8) (d := 28) (v := .bool false) (by kernel_rfl) rfl (by kernel_rfl) (by kernel_rfl) (by kernel_rfl) rfl (fun _ _ _ h => h) ⟨Or.inl ⟨by rfl, fun w hS => by obtain ⟨h0, h1, h2, h3⟩ := hS; go_simp⟩, fun _ => rfl⟩ hS ?_
  simp only [List.setIfInBounds_toArray, List.set_cons_zero, List.set_cons_succ]
  refine anyHF_take (i := 9) (d := 29) (v := .int .i64 p) (by kernel_rfl) rfl (by kernel_rfl) (by kernel_rfl) (by kernel_rfl) rfl (fun _ _ _ h => h) ⟨Or.inl ⟨by rfl, fun w hS => by obtain ⟨h0, h1, h2, h3⟩ := hS; go_simp⟩, fun _ => rfl⟩ hS ?_
  simp only [List.setIfInBounds_toArray, List.set_cons_zero, List.set_cons_succ]
  refine anyHF_take (i := 10) (d := 30) (v := .slice (some ⟨b1, off1, none⟩) na cap) (by kernel_rfl) rfl (by kernel_rfl) (by kernel_rfl) (by kernel_rfl) rfl (fun _ _ _ h => h) ⟨Or.inl ⟨by rfl, fun w hS => by obtain ⟨h0, h1, h2, h3⟩ := hS; go_simp⟩, fun _ => rfl⟩ hS ?_
  simp only [List.setIfInBounds_toArray, List.set_cons_zero, List.set_cons_succ]
  refine anyHF_one (i := 11) (by kernel_rfl) rfl (by kernel_rfl) (by rfl) ?_
  gi_wp2_with fail
  refine ⟨trivial, (callsIn_wide.2 (HR0.out _ hB)).mono ?_⟩
  rintro e wn ⟨rfl, hBn⟩
  replace hB := below_in hB hBn
  clear hBn
  clear hS
  have hS : (fun V : World => V.cell? ⟨b1, off1, none⟩ = some (.slice (some ⟨b9, off9, none⟩) R cap9) ∧ V.cell? ⟨b9, off9, none⟩ = some (.slice B9 l9 cp9) ∧ V.cell? ⟨d1, off2, none⟩ = some (.slice (some ⟨b8, off8, none⟩) R cap8) ∧ V.cell? ⟨b8, off8, none⟩ = some (.slice B8 l8 cp8)) wn := HSS.out _ hB
  gi_wp2
  try (refine ⟨hS, ?_⟩)
  refine anyHF_take (i := 12) (d := 32) (v := .bool false) (by kernel_rfl) rfl (by kernel_rfl) (by kernel_rfl) (by kernel_rfl) rfl (fun _ _ _ h => h) ⟨Or.inl ⟨by rfl, fun w hS => by obtain ⟨h0, h1, h2, h3⟩ := hS; go_simp⟩, fun _ => rfl⟩ hS ?_
  simp only [List.setIfInBounds_toArray, List.set_cons_zero, List.set_cons_succ]
  refine anyHF_take (i := 13) (d := 33) (v := .bool false) (by kernel_rfl) rfl (by kernel_rfl) (by kernel_rfl) (by kernel_rfl) rfl (fun _ _ _ h => h) ⟨Or.inl ⟨by rfl, fun w hS => by obtain ⟨h0, h1, h2, h3⟩ := hS; go_simp⟩, fun _ => rfl⟩ hS ?_
  simp only [List.setIfInBounds_toArray, List.set_cons_zero, List.set_cons_succ]
  refine anyHF_take (i := 14) (d := 34) (v := .bool false) (by kernel_rfl) rfl (by kernel_rfl) (by kernel_rfl) (by kernel_rfl) rfl (fun _ _ _ h => h) ⟨Or.inl ⟨by rfl, fun w hS => by obtain ⟨h0, h1, h2, h3⟩ := hS; go_simp⟩, fun _ => rfl⟩ hS ?_
  simp only [List.setIfInBounds_toArray, List.set_cons_zero, List.set_cons_succ]
  refine anyHF_take (i := 15) (d := 35) (v := .int .i64 p) (by kernel_rfl) rfl (by kernel_rfl) (by kernel_rfl) (by kernel_rfl) rfl (fun _ _ _ h => h) ⟨Or.inl ⟨by rfl, fun w hS => by obtain ⟨h0, h1, h2, h3⟩ := hS; go_simp⟩, fun _ => rfl⟩ hS ?_
  simp only [List.setIfInBounds_toArray, List.set_cons_zero, List.set_cons_succ]
  refine anyHF_take (i := 16) (d := 36) (v := .slice (some ⟨d1, off2, none⟩) nb cap') (by kernel_rfl) rfl (by kernel_rfl) (by kernel_rfl) (by kernel_rfl) rfl (fun _ _ _ h => h) ⟨Or.inl ⟨by rfl, fun w hS => by obtain ⟨h0, h1, h2, h3⟩ := hS; go_simp⟩, fun _ => rfl⟩ hS ?_
  simp only [List.setIfInBounds_toArray, List.set_cons_zero, List.set_cons_succ]
  refine anyHF_one (i := 17) (by kernel_rfl) rfl (by kernel_rfl) (by rfl) ?_
  gi_wp2_with fail
  refine ⟨trivial, (callsIn_wide.2 (HR1.out _ hB)).mono ?_⟩
  rintro e wn ⟨rfl, hBn⟩
  replace hB := below_in hB hBn
  clear hBn
  clear hS
  have hS : (fun V : World => V.cell? ⟨b1, off1, none⟩ = some (.slice (some ⟨b9, off9, none⟩) R cap9) ∧ V.cell? ⟨b9, off9, none⟩ = some (.slice B9 l9 cp9) ∧ V.cell? ⟨d1, off2, none⟩ = some (.slice (some ⟨b8, off8, none⟩) R cap8) ∧ V.cell? ⟨b8, off8, none⟩ = some (.slice B8 l8 cp8)) wn := HSS.out _ hB
  gi_wp2
  try (refine ⟨hS, ?_⟩)
  refine anyHF_take (i := 18) (d := 38) (v := .bool false) (by kernel_rfl) rfl (by kernel_rfl) (by kernel_rfl) (by kernel_rfl) rfl (fun _ _ _ h => h) ⟨Or.inl ⟨by rfl, fun w hS => by obtain ⟨h0, h1, h2, h3⟩ := hS; go_simp⟩, fun _ => rfl⟩ hS ?_
  simp only [List.setIfInBounds_toArray, List.set_cons_zero, List.set_cons_succ]
  refine anyHF_take (i := 19) (d := 39) (v := .bool false) (by kernel_rfl) rfl (by kernel_rfl) (by kernel_rfl) (by kernel_rfl) rfl (fun _ _ _ h => h) ⟨Or.inl ⟨by rfl, fun w hS => by obtain ⟨h0, h1, h2, h3⟩ := hS; go_simp⟩, fun _ => rfl⟩ hS ?_
  simp only [List.setIfInBounds_toArray, List.set_cons_zero, List.set_cons_succ]
  refine anyHF_take (i := 20) (d := 40) (v := .bool false) (by kernel_rfl) rfl (by kernel_rfl) (by kernel_rfl) (by kernel_rfl) rfl (fun _ _ _ h => h) ⟨Or.inl ⟨by rfl, fun w hS => by obtain ⟨h0, h1, h2, h3⟩ := hS; go_simp⟩, fun _ => rfl⟩ hS ?_
  simp only [List.setIfInBounds_toArray, List.set_cons_zero, List.set_cons_succ]
  refine anyHF_take (i := 21) (d := 41) (v := .slice (some ⟨b1, off1, none⟩) na cap) (by kernel_rfl) rfl (by kernel_rfl) (by kernel_rfl) (by kernel_rfl) rfl (fun _ _ _ h => h) ⟨Or.inl ⟨by rfl, fun w hS => by obtain ⟨h0, h1, h2, h3⟩ := hS; go_simp⟩, fun _ => rfl⟩ hS ?_
  simp only [List.setIfInBounds_toArray, List.set_cons_zero, List.set_cons_succ]
  refine anyHF_take (i := 22) (d := 42) (v := .pointer (some ⟨b1, off1, none⟩)) (by kernel_rfl) rfl (by kernel_rfl) (by kernel_rfl) (by kernel_rfl) rfl (fun _ _ _ h => h) ⟨Or.inl ⟨by rfl, fun w hS => by obtain ⟨h0, h1, h2, h3⟩ := hS; go_simp⟩, fun _ => rfl⟩ hS ?_
  simp only [List.setIfInBounds_toArray, List.set_cons_zero, List.set_cons_succ]
  refine anyHF_take (i := 23) (d := 43) (v := .slice (some ⟨b9, off9, none⟩) R cap9) (by kernel_rfl) rfl (by kernel_rfl) (by kernel_rfl) (by kernel_rfl) rfl (fun _ _ _ h => h) ⟨Or.inl ⟨by rfl, fun w hS => by obtain ⟨h0, h1, h2, h3⟩ := hS; go_simp⟩, fun _ => rfl⟩ hS ?_
  simp only [List.setIfInBounds_toArray, List.set_cons_zero, List.set_cons_succ]
  refine anyHF_take (i := 24) (d := 44) (v := .pointer (some ⟨b9, off9, none⟩)) (by kernel_rfl) rfl (by kernel_rfl) (by kernel_rfl) (by kernel_rfl) rfl (fun _ _ _ h => h) ⟨Or.inl ⟨by rfl, fun w hS => by obtain ⟨h0, h1, h2, h3⟩ := hS; go_simp⟩, fun _ => rfl⟩ hS ?_
  simp only [List.setIfInBounds_toArray, List.set_cons_zero, List.set_cons_succ]
  refine anyHF_take (i := 25) (d := 45) (v := .slice B9 l9 cp9) (by kernel_rfl) rfl (by kernel_rfl) (by kernel_rfl) (by kernel_rfl) rfl (fun _ _ _ h => h) ⟨Or.inl ⟨by rfl, fun w hS => by obtain ⟨h0, h1, h2, h3⟩ := hS; go_simp⟩, fun _ => rfl⟩ hS ?_
  simp only [List.setIfInBounds_toArray, List.set_cons_zero, List.set_cons_succ]
  refine anyHF_take (i := 26) (d := 46) (v := .int .i64 (l9 : Int)) (by kernel_rfl) rfl (by kernel_rfl) (by kernel_rfl) (by kernel_rfl) rfl (fun _ _ _ h => h) ⟨Or.inl ⟨by rfl, fun w hS => by obtain ⟨h0, h1, h2, h3⟩ := hS; go_simp⟩, fun _ => rfl⟩ hS ?_
  simp only [List.setIfInBounds_toArray, List.set_cons_zero, List.set_cons_succ]
  refine anyHF_take (i := 27) (d := 47) (v := .slice (some ⟨d1, off2, none⟩) nb cap') (by kernel_rfl) rfl (by kernel_rfl) (by kernel_rfl) (by kernel_rfl) rfl (fun _ _ _ h => h) ⟨Or.inl ⟨by rfl, fun w hS => by obtain ⟨h0, h1, h2, h3⟩ := hS; go_simp⟩, fun _ => rfl⟩ hS ?_
  simp only [List.setIfInBounds_toArray, List.set_cons_zero, List.set_cons_succ]
  refine anyHF_take (i := 28) (d := 48) (v := .pointer (some ⟨d1, off2, none⟩)) (by kernel_rfl) rfl (by kernel_rfl) (by kernel_rfl) (by kernel_rfl) rfl (fun _ _ _ h => h) ⟨Or.inl ⟨by rfl, fun w hS => by obtain ⟨h0, h1, h2, h3⟩ := hS; go_simp⟩, fun _ => rfl⟩ hS ?_
  simp only [List.setIfInBounds_toArray, List.set_cons_zero, List.set_cons_succ]
  refine anyHF_take (i := 29) (d := 49) (v := .slice (some ⟨b8, off8, none⟩) R cap8) (by kernel_rfl) rfl (by kernel_rfl) (by kernel_rfl) (by kernel_rfl) rfl (fun _ _ _ h => h) ⟨Or.inl ⟨by rfl, fun w hS => by obtain ⟨h0, h1, h2, h3⟩ := hS; go_simp⟩, fun _ => rfl⟩ hS ?_
  simp only [List.setIfInBounds_toArray, List.set_cons_zero, List.set_cons_succ]
  refine anyHF_take (i := 30) (d := 50) (v := .pointer (some ⟨b8, off8, none⟩)) (by kernel_rfl) rfl (by kernel_rfl) (by kernel_rfl) (by kernel_rfl) rfl (fun _ _ _ h => h) ⟨Or.inl ⟨by rfl, fun w hS => by obtain ⟨h0, h1, h2, h3⟩ := hS; go_simp⟩, fun _ => rfl⟩ hS ?_
  simp only [List.setIfInBounds_toArray, List.set_cons_zero, List.set_cons_succ]
  refine anyHF_take (i := 31) (d := 51) (v := .slice B8 l8 cp8) (by kernel_rfl) rfl (by kernel_rfl) (by kernel_rfl) (by kernel_rfl) rfl (fun _ _ _ h => h) ⟨Or.inl ⟨by rfl, fun w hS => by obtain ⟨h0, h1, h2, h3⟩ := hS; go_simp⟩, fun _ => rfl⟩ hS ?_
  simp only [List.setIfInBounds_toArray, List.set_cons_zero, List.set_cons_succ]
  refine anyHF_take (i := 32) (d := 52) (v := .int .i64 (l8 : Int)) (by kernel_rfl) rfl (by kernel_rfl) (by kernel_rfl) (by kernel_rfl) rfl (fun _ _ _ h => h) ⟨Or.inl ⟨by rfl, fun w hS => by obtain ⟨h0, h1, h2, h3⟩ := hS; go_simp⟩, fun _ => rfl⟩ hS ?_
  simp only [List.setIfInBounds_toArray, List.set_cons_zero, List.set_cons_succ]
  refine anyHF_take (i := 33) (d := 53) (v := .bool true) (by kernel_rfl) rfl (by kernel_rfl) (by kernel_rfl) (by kernel_rfl) rfl (fun _ _ _ h => h) ⟨Or.inl ⟨by rfl, fun w hS => by obtain ⟨h0, h1, h2, h3⟩ := hS; go_simp⟩, fun _ => rfl⟩ hS ?_
  simp only [List.setIfInBounds_toArray, List.set_cons_zero, List.set_cons_succ]
  refine anyHF_take (i := 34) (d := 54) (v := .bool true) (by kernel_rfl) rfl (by kernel_rfl) (by kernel_rfl) (by kernel_rfl) rfl (fun _ _ _ h => h) ⟨Or.inl ⟨by rfl, fun w hS => by obtain ⟨h0, h1, h2, h3⟩ := hS; go_simp⟩, fun _ => rfl⟩ hS ?_
  simp only [List.setIfInBounds_toArray, List.set_cons_zero, List.set_cons_succ]
  refine anyHF_done (by kernel_rfl) ?_ _
  refine NoPanic.normal ?_
  clear hS
  go_wp2_with (go_at_call 11; refine (E.works_any _ (hL.next hB)).mono ?_; rintro e w1 ⟨rfl, hB1⟩)
  go_ret
  exact ⟨rfl, below_in hB hB1⟩

open Go.Proofs.YtggdlklkjnbbjaaGreatDoor.E Go.Proofs.YtggdlklkjnbbjaaGreatDoor.C in
set_option maxRecDepth 100000 in
set_option maxHeartbeats 4000000 in
theorem yes (p : Int) (v : Value) (a : List (List (List UInt8))) (v2 : Value) (b : List (List (List UInt8))) (w : World) (hL : Laid w) (wp : -9223372036854775808 ≤ p ∧ p ≤ 9223372036854775807) (hC : Cols w.heap.size w v a) (hD : Cols w.heap.size w v2 b) (hf0 : Few6 a) (hf1 : Few6 b) (hr0 : DataOk p a) (hr1 : DataOk p b) (hl : (firstC a).length = (firstC b).length) :
    Calls Tryz.prog 5 #[.int .i64 p, v, v2] w fun e w' => e = .returned (.bool true) ∧ Below w.heap.size w w' := by
  obtain ⟨A, cap, rfl, _, _⟩ := id hC
  obtain ⟨A', cap', rfl, _, _⟩ := id hD
  have HF0 := Lib.hid (fun (U : World) (hU : Below w.heap.size w U) => few6_any _ a U (hC.below hU) true (by simp [hf0]))
  have HF1 := Lib.hid (fun (U : World) (hU : Below w.heap.size w U) => few6_any _ b U (hD.below hU) true (by simp [hf1]))
  have HR0 := Lib.hid (fun (U : World) (hU : Below w.heap.size w U) => lright_any p _ a U hU.size (hC.below hU) (by have := hf0.1; omega) true (by simp [hr0]))
  have HR1 := Lib.hid (fun (U : World) (hU : Below w.heap.size w U) => lright_any p _ b U hU.size (hD.below hU) (by have := hf1.1; omega) true (by simp [hr1]))
  have hd := dataOk_n hr0
  have hde := dataOk_n hr1
  have hR2 : 2 ≤ (p - 1).toNat := by omega
  obtain ⟨b1, off1, cq, e1, _, hb1, hrow⟩ := hC.at_ hr0.2.2.1
  injection e1 with e1 _ e1c
  subst e1
  subst e1c
  obtain ⟨d1, off2, cq, e1, _, hd1, hrowd⟩ := hD.at_ hr1.2.2.1
  injection e1 with e1 _ e1c
  subst e1
  subst e1c
  obtain ⟨u9, hu9, hm9⟩ := hrow 0 hr0.2.2.1
  obtain ⟨u8, hu8, hm8⟩ := hrowd 0 hr1.2.2.1
  obtain ⟨A9, cap9, rfl, _, _⟩ := id hm9
  obtain ⟨A8, cap8, rfl, _, _⟩ := id hm8
  have hc0 := (hr0.2.2.2 0 hr0.2.2.1).1
  have hc1 := (hr1.2.2.2 0 hr1.2.2.1).1
  obtain ⟨b9, off9, rfl, hb9, hrow9⟩ := many_at hm9 (by omega)
  obtain ⟨b8, off8, rfl, hb8, hrow8⟩ := many_at hm8 (by omega)
  obtain ⟨B9, cp9, hx9, hby9⟩ := hrow9 0 (by omega)
  obtain ⟨B8, cp8, hx8, hby8⟩ := hrow8 0 (by omega)
  rw [Nat.add_zero] at hu9 hu8 hx9 hx8
  rw [hc0] at hu9
  rw [hc1] at hu8
  have hx9 : w.cell? ⟨b9, off9, none⟩ = some (.slice B9 (firstC a).length cp9) := hx9
  have hx8 : w.cell? ⟨b8, off8, none⟩ = some (.slice B8 (firstC b).length cp8) := hx8
  have HSS := Lib.hid (fun (U : World) (hU : Below w.heap.size w U) => (⟨(hU.cell (p := ⟨b1, off1, none⟩) hb1).trans hu9, (hU.cell (p := ⟨b9, off9, none⟩) hb9).trans hx9, (hU.cell (p := ⟨d1, off2, none⟩) hd1).trans hu8, (hU.cell (p := ⟨b8, off8, none⟩) hb8).trans hx8⟩ : (fun V : World => V.cell? ⟨b1, off1, none⟩ = some (.slice (some ⟨b9, off9, none⟩) (p - 1).toNat cap9) ∧ V.cell? ⟨b9, off9, none⟩ = some (.slice B9 (firstC a).length cp9) ∧ V.cell? ⟨d1, off2, none⟩ = some (.slice (some ⟨b8, off8, none⟩) (p - 1).toNat cap8) ∧ V.cell? ⟨b8, off8, none⟩ = some (.slice B8 (firstC b).length cp8)) U))
  have hna : 0 < a.length := hr0.2.2.1
  have hnb : 0 < b.length := hr1.2.2.1
  clear hrow hrowd hrow9 hrow8 hby9 hby8 hu9 hu8 hx9 hx8 hm9 hm8 hc0 hc1
  have hpp := prm_bounds hr0.1.2
  have hal := adjOf_len hr0
  have hf1' := togOk_first hr0.2.2
  have hpk := put_ok (b := b) hr0
  have hea := enc_cells hr0
  have heb := enc_cells hr1
  have HE1 := Lib.hid (fun (U : World) (hU : Below w.heap.size w U) => adjuster_yes (B := w.heap.size) p _ a hr0 U (hL.next hU) hU.size (hC.below hU))
  have HE2 := Lib.hid (fun (U : World) (hU : Below w.heap.size w U) => encode_yes (B := w.heap.size) p _ a hr0 U (hL.next hU) hU.size (hC.below hU))
  have HE3 := Lib.hid (fun (U : World) (hU : Below w.heap.size w U) => encode_yes (B := w.heap.size) p _ b hr1 U (hL.next hU) hU.size (hD.below hU))
  have HPUT := Lib.hid (fun (U : World) (hU : Below w.heap.size w U) => put_data hr0 hr1 hl _ _ U hU.size (hC.below hU) (hD.below hU))
  have HE4 := Lib.hid (fun (U : World) (u : Value) (hU : Laid U) (hCU : Cols U.heap.size U u (putOf a b)) => encode_yes p u _ hpk.1 U hU (Nat.le_refl _) hCU)
  rw [enc_put hr0 hr1 hl] at HE4
  have HRX := Lib.hid (fun (U : World) (x : Value) (hCU : Cols U.heap.size U x (encOf p a)) => right_enc hr0 x U (Nat.le_refl _) hCU)
  have HRY := Lib.hid (fun (U : World) (x : Value) (hCU : Cols U.heap.size U x (encOf p b)) => right_enc hr1 x U (Nat.le_refl _) hCU)
  have HXY := Lib.hid (fun (U : World) (x y : Value) (hX : Cols U.heap.size U x (encOf p a)) (hY : Cols U.heap.size U y (encOf p b)) => put_enc hr0 hr1 hl x y U (Nat.le_refl _) hX hY)
  have HSM := Lib.hid (fun (U : World) (x y : Value) (hX : Cols U.heap.size U x (putOf (encOf p a) (encOf p b))) (hY : Cols U.heap.size U y (putOf (encOf p a) (encOf p b))) => same_put hr0 x y U (Nat.le_refl _) (Nat.le_refl _) hX hY)
  have HCK := Lib.hid (fun (U : World) (x : Value) (hU : Laid U) (hX : Cols U.heap.size U x (a ++ encOf p a)) => check_all hr0 x U hU hX)
  have hlf : (firstC a).length ≤ 1000 := by have := hf1'.2; omega
  have HNO := Lib.hid (fun (U : World) => nought6_any (firstC a).length hlf U)
  have HAM := Lib.hid (all_made hr0)
  have HXC := Lib.hid (hea.2)
  have HYC := Lib.hid (heb.2)
  have HCA := Lib.hid (fun (U : World) (hU : Below w.heap.size w U) => hC.below hU)
  obtain ⟨hpw, hRR⟩ := wrap_p hr0
  have HAL := Lib.hid hal
  have h9 := hlf
  have hal24 := hf0.1
  have HNA := Lib.hid hal24
  rw [← hl] at HSS HYC
  have HEA : Hid (encOf p a = [rowsMade (p - 1).toNat a, diagsMade p (p - 1).toNat a]) := rfl
  have HEB : Hid (encOf p b = [rowsMade (p - 1).toNat b, diagsMade p (p - 1).toNat b]) := rfl
  clear hf0 hf1 hr0 hr1 hC hD hd hde hpk hea heb hal hl hal24 hlf hf1'
  rw [HEA.out] at HE2 HRX HXY HSM HCK HXC HE4
  rw [HEB.out] at HE3 HRY HXY HSM HYC HE4
  clear HEA HEB
  generalize adjOf p a = adj at *
  generalize diagsMade p (p - 1).toNat a = da at *
  generalize diagsMade p (p - 1).toNat b = db at *
  generalize rowsMade (p - 1).toNat a = ra at *
  generalize rowsMade (p - 1).toNat b = rb at *
  generalize (p - 1).toNat = R at *
  generalize (firstC a).length = l9 at *
  generalize putOf a b = pab at *
  generalize putOf [ra, da] [rb, db] = pxy at *
  generalize hgna : a.length = na at *
  have HNE := Lib.hid hgna
  clear hgna
  generalize b.length = nb at *
  have z1 : (0 : Int) < (na : Int) := by omega
  have z2 : (0 : Int) < (nb : Int) := by omega
  have z3 : (0 : Int) < (R : Int) := by omega
  have z5 : ¬ R = 0 := by omega
  go_enter Tryz.func5, Tryz.ntmps5
  go_wp2_with fail
  have hB : Below w.heap.size w w.drew := (Below.refl _ _).drew
  have hS : (fun V : World => V.cell? ⟨b1, off1, none⟩ = some (.slice (some ⟨b9, off9, none⟩) R cap9) ∧ V.cell? ⟨b9, off9, none⟩ = some (.slice B9 l9 cp9) ∧ V.cell? ⟨d1, off2, none⟩ = some (.slice (some ⟨b8, off8, none⟩) R cap8) ∧ V.cell? ⟨b8, off8, none⟩ = some (.slice B8 l9 cp8)) w.drew := HSS.out _ hB
  refine (wpIn_wide (n := 12)).1 (wpIn_mono (region_HF (Q := NoPanic _) (S := (fun V : World => V.cell? ⟨b1, off1, none⟩ = some (.slice (some ⟨b9, off9, none⟩) R cap9) ∧ V.cell? ⟨b9, off9, none⟩ = some (.slice B9 l9 cp9) ∧ V.cell? ⟨d1, off2, none⟩ = some (.slice (some ⟨b8, off8, none⟩) R cap8) ∧ V.cell? ⟨b8, off8, none⟩ = some (.slice B8 l9 cp8))) (by kernel_rfl) ?_) NoPanic.imp)
  refine anyHF_take (i := 0) (d := 20) (v := .slice (some ⟨b1, off1, none⟩) na cap) (by kernel_rfl) rfl (by kernel_rfl) (by kernel_rfl) (by kernel_rfl) rfl (fun _ _ _ h => h) ⟨Or.inl ⟨by rfl, fun w hS => by obtain ⟨h0, h1, h2, h3⟩ := hS; go_simp⟩, fun _ => rfl⟩ hS ?_
  simp only [List.setIfInBounds_toArray, List.set_cons_zero, List.set_cons_succ]
  refine anyHF_one (i := 1) (by kernel_rfl) rfl (by kernel_rfl) (by rfl) ?_
  gi_wp2_with fail
  refine ⟨trivial, (callsIn_wide.2 (HF0.out _ hB)).mono ?_⟩
  rintro e wn ⟨rfl, rfl⟩
  gi_wp2
  try (refine ⟨hS, ?_⟩)
  refine anyHF_take (i := 2) (d := 22) (v := .bool false) (by kernel_rfl) rfl (by kernel_rfl) (by kernel_rfl) (by kernel_rfl) rfl (fun _ _ _ h => h) ⟨Or.inl ⟨by rfl, fun w hS => by obtain ⟨h0, h1, h2, h3⟩ := hS; go_simp⟩, fun _ => rfl⟩ hS ?_
  simp only [List.setIfInBounds_toArray, List.set_cons_zero, List.set_cons_succ]
  refine anyHF_take (i := 3) (d := 23) (v := .bool false) (by kernel_rfl) rfl (by kernel_rfl) (by kernel_rfl) (by kernel_rfl) rfl (fun _ _ _ h => h) ⟨Or.inl ⟨by rfl, fun w hS => by obtain ⟨h0, h1, h2, h3⟩ := hS; go_simp⟩, fun _ => rfl⟩ hS ?_
  simp only [List.setIfInBounds_toArray, List.set_cons_zero, List.set_cons_succ]
  refine anyHF_take (i := 4) (d := 24) (v := .slice (some ⟨d1, off2, none⟩) nb cap') (by kernel_rfl) rfl (by kernel_rfl) (by kernel_rfl) (by kernel_rfl) rfl (fun _ _ _ h => h) ⟨Or.inl ⟨by rfl, fun w hS => by obtain ⟨h0, h1, h2, h3⟩ := hS; go_simp⟩, fun _ => rfl⟩ hS ?_
  simp only [List.setIfInBounds_toArray, List.set_cons_zero, List.set_cons_succ]
  refine anyHF_one (i := 5) (by kernel_rfl) rfl (by kernel_rfl) (by rfl) ?_
  gi_wp2_with fail
  refine ⟨trivial, (callsIn_wide.2 (HF1.out _ hB)).mono ?_⟩
  rintro e wn ⟨rfl, rfl⟩
  gi_wp2
  try (refine ⟨hS, ?_⟩)
  refine anyHF_take (i := 6) (d := 26) (v := .bool false) (by kernel_rfl) rfl (by kernel_rfl) (by kernel_rfl) (by kernel_rfl) rfl (fun _ _ _ h => h) ⟨Or.inl ⟨by rfl, fun w hS => by obtain ⟨h0, h1, h2, h3⟩ := hS; go_simp⟩, fun _ => rfl⟩ hS ?_
  simp only [List.setIfInBounds_toArray, List.set_cons_zero, List.set_cons_succ]
  refine anyHF_take (i := 7) (d := 27) (v := .bool false) (by kernel_rfl) rfl (by kernel_rfl) (by kernel_rfl) (by kernel_rfl) rfl (fun _ _ _ h => h) ⟨Or.inl ⟨by rfl, fun w hS => by obtain ⟨h0, h1, h2, h3⟩ := hS; go_simp⟩, fun _ => rfl⟩ hS ?_
  simp only [List.setIfInBounds_toArray, List.set_cons_zero, List.set_cons_succ]
  refine anyHF_take (i := 8) (d := 28) (v := .bool false) (by kernel_rfl) rfl (by kernel_rfl) (by kernel_rfl) (by kernel_rfl) rfl (fun _ _ _ h => h) ⟨Or.inl ⟨by rfl, fun w hS => by obtain ⟨h0, h1, h2, h3⟩ := hS; go_simp⟩, fun _ => rfl⟩ hS ?_
  simp only [List.setIfInBounds_toArray, List.set_cons_zero, List.set_cons_succ]
  refine anyHF_take (i := 9) (d := 29) (v := .int .i64 p) (by kernel_rfl) rfl (by kernel_rfl) (by kernel_rfl) (by kernel_rfl) rfl (fun _ _ _ h => h) ⟨Or.inl ⟨by rfl, fun w hS => by obtain ⟨h0, h1, h2, h3⟩ := hS; go_simp⟩, fun _ => rfl⟩ hS ?_
  simp only [List.setIfInBounds_toArray, List.set_cons_zero, List.set_cons_succ]
  refine anyHF_take (i := 10) (d := 30) (v := .slice (some ⟨b1, off1, none⟩) na cap) (by kernel_rfl) rfl (by kernel_rfl) (by kernel_rfl) (by kernel_rfl) rfl (fun _ _ _ h => h) ⟨Or.inl ⟨by rfl, fun w hS => by obtain ⟨h0, h1, h2, h3⟩ := hS; go_simp⟩, fun _ => rfl⟩ hS ?_
  simp only [List.setIfInBounds_toArray, List.set_cons_zero, List.set_cons_succ]
  refine anyHF_one (i := 11) (by kernel_rfl) rfl (by kernel_rfl) (by rfl) ?_
  gi_wp2_with fail
  refine ⟨trivial, (callsIn_wide.2 (HR0.out _ hB)).mono ?_⟩
  rintro e wn ⟨rfl, hBn⟩
  replace hB := below_in hB hBn
  clear hBn
  clear hS
  have hS : (fun V : World => V.cell? ⟨b1, off1, none⟩ = some (.slice (some ⟨b9, off9, none⟩) R cap9) ∧ V.cell? ⟨b9, off9, none⟩ = some (.slice B9 l9 cp9) ∧ V.cell? ⟨d1, off2, none⟩ = some (.slice (some ⟨b8, off8, none⟩) R cap8) ∧ V.cell? ⟨b8, off8, none⟩ = some (.slice B8 l9 cp8)) wn := HSS.out _ hB
  gi_wp2
  try (refine ⟨hS, ?_⟩)
  refine anyHF_take (i := 12) (d := 32) (v := .bool false) (by kernel_rfl) rfl (by kernel_rfl) (by kernel_rfl) (by kernel_rfl) rfl (fun _ _ _ h => h) ⟨Or.inl ⟨by rfl, fun w hS => by obtain ⟨h0, h1, h2, h3⟩ := hS; go_simp⟩, fun _ => rfl⟩ hS ?_
  simp only [List.setIfInBounds_toArray, List.set_cons_zero, List.set_cons_succ]
  refine anyHF_take (i := 13) (d := 33) (v := .bool false) (by kernel_rfl) rfl (by kernel_rfl) (by kernel_rfl) (by kernel_rfl) rfl (fun _ _ _ h => h) ⟨Or.inl ⟨by rfl, fun w hS => by obtain ⟨h0, h1, h2, h3⟩ := hS; go_simp⟩, fun _ => rfl⟩ hS ?_
  simp only [List.setIfInBounds_toArray, List.set_cons_zero, List.set_cons_succ]
  refine anyHF_take (i := 14) (d := 34) (v := .bool false) (by kernel_rfl) rfl (by kernel_rfl) (by kernel_rfl) (by kernel_rfl) rfl (fun _ _ _ h => h) ⟨Or.inl ⟨by rfl, fun w hS => by obtain ⟨h0, h1, h2, h3⟩ := hS; go_simp⟩, fun _ => rfl⟩ hS ?_
  simp only [List.setIfInBounds_toArray, List.set_cons_zero, List.set_cons_succ]
  refine anyHF_take (i := 15) (d := 35) (v := .int .i64 p) (by kernel_rfl) rfl (by kernel_rfl) (by kernel_rfl) (by kernel_rfl) rfl (fun _ _ _ h => h) ⟨Or.inl ⟨by rfl, fun w hS => by obtain ⟨h0, h1, h2, h3⟩ := hS; go_simp⟩, fun _ => rfl⟩ hS ?_
  simp only [List.setIfInBounds_toArray, List.set_cons_zero, List.set_cons_succ]
  refine anyHF_take (i := 16) (d := 36) (v := .slice (some ⟨d1, off2, none⟩) nb cap') (by kernel_rfl) rfl (by kernel_rfl) (by kernel_rfl) (by kernel_rfl) rfl (fun _ _ _ h => h) ⟨Or.inl ⟨by rfl, fun w hS => by obtain ⟨h0, h1, h2, h3⟩ := hS; go_simp⟩, fun _ => rfl⟩ hS ?_
  simp only [List.setIfInBounds_toArray, List.set_cons_zero, List.set_cons_succ]
  refine anyHF_one (i := 17) (by kernel_rfl) rfl (by kernel_rfl) (by rfl) ?_
  gi_wp2_with fail
  refine ⟨trivial, (callsIn_wide.2 (HR1.out _ hB)).mono ?_⟩
  rintro e wn ⟨rfl, hBn⟩
  replace hB := below_in hB hBn
  clear hBn
  clear hS
  have hS : (fun V : World => V.cell? ⟨b1, off1, none⟩ = some (.slice (some ⟨b9, off9, none⟩) R cap9) ∧ V.cell? ⟨b9, off9, none⟩ = some (.slice B9 l9 cp9) ∧ V.cell? ⟨d1, off2, none⟩ = some (.slice (some ⟨b8, off8, none⟩) R cap8) ∧ V.cell? ⟨b8, off8, none⟩ = some (.slice B8 l9 cp8)) wn := HSS.out _ hB
  gi_wp2
  try (refine ⟨hS, ?_⟩)
  refine anyHF_take (i := 18) (d := 38) (v := .bool false) (by kernel_rfl) rfl (by kernel_rfl) (by kernel_rfl) (by kernel_rfl) rfl (fun _ _ _ h => h) ⟨Or.inl ⟨by rfl, fun w hS => by obtain ⟨h0, h1, h2, h3⟩ := hS; go_simp⟩, fun _ => rfl⟩ hS ?_
  simp only [List.setIfInBounds_toArray, List.set_cons_zero, List.set_cons_succ]
  refine anyHF_take (i := 19) (d := 39) (v := .bool false) (by kernel_rfl) rfl (by kernel_rfl) (by kernel_rfl) (by kernel_rfl) rfl (fun _ _ _ h => h) ⟨Or.inl ⟨by rfl, fun w hS => by obtain ⟨h0, h1, h2, h3⟩ := hS; go_simp⟩, fun _ => rfl⟩ hS ?_
  simp only [List.setIfInBounds_toArray, List.set_cons_zero, List.set_cons_succ]
  refine anyHF_take (i := 20) (d := 40) (v := .bool false) (by kernel_rfl) rfl (by kernel_rfl) (by kernel_rfl) (by kernel_rfl) rfl (fun _ _ _ h => h) ⟨Or.inl ⟨by rfl, fun w hS => by obtain ⟨h0, h1, h2, h3⟩ := hS; go_simp⟩, fun _ => rfl⟩ hS ?_
  simp only [List.setIfInBounds_toArray, List.set_cons_zero, List.set_cons_succ]
  refine anyHF_take (i := 21) (d := 41) (v := .slice (some ⟨b1, off1, none⟩) na cap) (by kernel_rfl) rfl (by kernel_rfl) (by kernel_rfl) (by kernel_rfl) rfl (fun _ _ _ h => h) ⟨Or.inl ⟨by rfl, fun w hS => by obtain ⟨h0, h1, h2, h3⟩ := hS; go_simp⟩, fun _ => rfl⟩ hS ?_
  simp only [List.setIfInBounds_toArray, List.set_cons_zero, List.set_cons_succ]
  refine anyHF_take (i := 22) (d := 42) (v := .pointer (some ⟨b1, off1, none⟩)) (by kernel_rfl) rfl (by kernel_rfl) (by kernel_rfl) (by kernel_rfl) rfl (fun _ _ _ h => h) ⟨Or.inl ⟨by rfl, fun w hS => by obtain ⟨h0, h1, h2, h3⟩ := hS; go_simp⟩, fun _ => rfl⟩ hS ?_
  simp only [List.setIfInBounds_toArray, List.set_cons_zero, List.set_cons_succ]
  refine anyHF_take (i := 23) (d := 43) (v := .slice (some ⟨b9, off9, none⟩) R cap9) (by kernel_rfl) rfl (by kernel_rfl) (by kernel_rfl) (by kernel_rfl) rfl (fun _ _ _ h => h) ⟨Or.inl ⟨by rfl, fun w hS => by obtain ⟨h0, h1, h2, h3⟩ := hS; go_simp⟩, fun _ => rfl⟩ hS ?_
  simp only [List.setIfInBounds_toArray, List.set_cons_zero, List.set_cons_succ]
  refine anyHF_take (i := 24) (d := 44) (v := .pointer (some ⟨b9, off9, none⟩)) (by kernel_rfl) rfl (by kernel_rfl) (by kernel_rfl) (by kernel_rfl) rfl (fun _ _ _ h => h) ⟨Or.inl ⟨by rfl, fun w hS => by obtain ⟨h0, h1, h2, h3⟩ := hS; go_simp⟩, fun _ => rfl⟩ hS ?_
  simp only [List.setIfInBounds_toArray, List.set_cons_zero, List.set_cons_succ]
  refine anyHF_take (i := 25) (d := 45) (v := .slice B9 l9 cp9) (by kernel_rfl) rfl (by kernel_rfl) (by kernel_rfl) (by kernel_rfl) rfl (fun _ _ _ h => h) ⟨Or.inl ⟨by rfl, fun w hS => by obtain ⟨h0, h1, h2, h3⟩ := hS; go_simp⟩, fun _ => rfl⟩ hS ?_
  simp only [List.setIfInBounds_toArray, List.set_cons_zero, List.set_cons_succ]
  refine anyHF_take (i := 26) (d := 46) (v := .int .i64 (l9 : Int)) (by kernel_rfl) rfl (by kernel_rfl) (by kernel_rfl) (by kernel_rfl) rfl (fun _ _ _ h => h) ⟨Or.inl ⟨by rfl, fun w hS => by obtain ⟨h0, h1, h2, h3⟩ := hS; go_simp⟩, fun _ => rfl⟩ hS ?_
  simp only [List.setIfInBounds_toArray, List.set_cons_zero, List.set_cons_succ]
  refine anyHF_take (i := 27) (d := 47) (v := .slice (some ⟨d1, off2, none⟩) nb cap') (by kernel_rfl) rfl (by kernel_rfl) (by kernel_rfl) (by kernel_rfl) rfl (fun _ _ _ h => h) ⟨Or.inl ⟨by rfl, fun w hS => by obtain ⟨h0, h1, h2, h3⟩ := hS; go_simp⟩, fun _ => rfl⟩ hS ?_
  simp only [List.setIfInBounds_toArray, List.set_cons_zero, List.set_cons_succ]
  refine anyHF_take (i := 28) (d := 48) (v := .pointer (some ⟨d1, off2, none⟩)) (by kernel_rfl) rfl (by kernel_rfl) (by kernel_rfl) (by kernel_rfl) rfl (fun _ _ _ h => h) ⟨Or.inl ⟨by rfl, fun w hS => by obtain ⟨h0, h1, h2, h3⟩ := hS; go_simp⟩, fun _ => rfl⟩ hS ?_
  simp only [List.setIfInBounds_toArray, List.set_cons_zero, List.set_cons_succ]
  refine anyHF_take (i := 29) (d := 49) (v := .slice (some ⟨b8, off8, none⟩) R cap8) (by kernel_rfl) rfl (by kernel_rfl) (by kernel_rfl) (by kernel_rfl) rfl (fun _ _ _ h => h) ⟨Or.inl ⟨by rfl, fun w hS => by obtain ⟨h0, h1, h2, h3⟩ := hS; go_simp⟩, fun _ => rfl⟩ hS ?_
  simp only [List.setIfInBounds_toArray, List.set_cons_zero, List.set_cons_succ]
  refine anyHF_take (i := 30) (d := 50) (v := .pointer (some ⟨b8, off8, none⟩)) (by kernel_rfl) rfl (by kernel_rfl) (by kernel_rfl) (by kernel_rfl) rfl (fun _ _ _ h => h) ⟨Or.inl ⟨by rfl, fun w hS => by obtain ⟨h0, h1, h2, h3⟩ := hS; go_simp⟩, fun _ => rfl⟩ hS ?_
  simp only [List.setIfInBounds_toArray, List.set_cons_zero, List.set_cons_succ]
  refine anyHF_take (i := 31) (d := 51) (v := .slice B8 l9 cp8) (by kernel_rfl) rfl (by kernel_rfl) (by kernel_rfl) (by kernel_rfl) rfl (fun _ _ _ h => h) ⟨Or.inl ⟨by rfl, fun w hS => by obtain ⟨h0, h1, h2, h3⟩ := hS; go_simp⟩, fun _ => rfl⟩ hS ?_
  simp only [List.setIfInBounds_toArray, List.set_cons_zero, List.set_cons_succ]
  refine anyHF_take (i := 32) (d := 52) (v := .int .i64 (l9 : Int)) (by kernel_rfl) rfl (by kernel_rfl) (by kernel_rfl) (by kernel_rfl) rfl (fun _ _ _ h => h) ⟨Or.inl ⟨by rfl, fun w hS => by obtain ⟨h0, h1, h2, h3⟩ := hS; go_simp⟩, fun _ => rfl⟩ hS ?_
  simp only [List.setIfInBounds_toArray, List.set_cons_zero, List.set_cons_succ]
  refine anyHF_take (i := 33) (d := 53) (v := .bool false) (by kernel_rfl) rfl (by kernel_rfl) (by kernel_rfl) (by kernel_rfl) rfl (fun _ _ _ h => h) ⟨Or.inl ⟨by rfl, fun w hS => by obtain ⟨h0, h1, h2, h3⟩ := hS; go_simp⟩, fun _ => rfl⟩ hS ?_
  simp only [List.setIfInBounds_toArray, List.set_cons_zero, List.set_cons_succ]
  refine anyHF_take (i := 34) (d := 54) (v := .bool false) (by kernel_rfl) rfl (by kernel_rfl) (by kernel_rfl) (by kernel_rfl) rfl (fun _ _ _ h => h) ⟨Or.inl ⟨by rfl, fun w hS => by obtain ⟨h0, h1, h2, h3⟩ := hS; go_simp⟩, fun _ => rfl⟩ hS ?_
  simp only [List.setIfInBounds_toArray, List.set_cons_zero, List.set_cons_succ]
  refine anyHF_done (by kernel_rfl) ?_ _
  refine NoPanic.normal ?_
  clear hS
  clear HF0 HF1 HR0 HR1 HSS
  go_wp2_with fail
  refine (HE1.out _ hB).mono ?_
  rintro e w2 ⟨s, rfl, hs, hBn⟩
  replace hB := below_in hB hBn
  have h2 := Below.refl w2.heap.size w2
  clear hBn
  obtain ⟨As, cs, hse, _, _⟩ := id hs
  rw [HAL.out] at hse
  subst hse
  go_wp2_with fail
  refine (HE2.out _ hB).mono ?_
  rintro e w3 ⟨x, rfl, hx, hBn⟩
  replace hB := below_in hB hBn
  replace h2 := below_in h2 hBn
  have h3 := Below.refl w3.heap.size w3
  clear hBn
  obtain ⟨bx, ox, cx, hx2, _, hbx, hxr⟩ := hx.at_ (by simp)
  have hx3 : x = .slice (some ⟨bx, ox, none⟩) 2 cx := hx2
  subst hx3
  clear hx2
  have HXR := Lib.hid hxr
  go_wp2_with fail
  refine (HE3.out _ hB).mono ?_
  rintro e w4 ⟨y, rfl, hy, hBn⟩
  replace hB := below_in hB hBn
  replace h2 := below_in h2 hBn
  replace h3 := below_in h3 hBn
  have h4 := Below.refl w4.heap.size w4
  clear hBn
  obtain ⟨by_, oy, cy, hy2, _, hby, hyr⟩ := hy.at_ (by simp)
  have hy3 : y = .slice (some ⟨by_, oy, none⟩) 2 cy := hy2
  subst hy3
  clear hy2
  go_wp2_with fail
  refine (HPUT.out _ hB).mono ?_
  rintro e wn ⟨u, rfl, hu, hBn⟩
  replace hB := below_in hB hBn
  replace h2 := below_in h2 hBn
  replace h3 := below_in h3 hBn
  replace h4 := below_in h4 hBn
  clear hBn
  obtain ⟨Au, cu, hue, _, _⟩ := id hu
  obtain ⟨nu, hnu⟩ : ∃ n, pab.length = n := ⟨_, rfl⟩
  rw [hnu] at hue
  subst hue
  clear hnu
  go_wp2_with fail
  refine (HE4.out _ _ (hL.next hB) hu).mono ?_
  rintro e w6 ⟨z, rfl, hz, hBn⟩
  replace hB := below_in hB hBn
  replace h2 := below_in h2 hBn
  replace h3 := below_in h3 hBn
  replace h4 := below_in h4 hBn
  have h6 := Below.refl w6.heap.size w6
  clear hBn
  obtain ⟨Az, cz, hze, _, _⟩ := id hz
  obtain ⟨nz, hnz⟩ : ∃ n, pxy.length = n := ⟨_, rfl⟩
  rw [hnz] at hze
  subst hze
  clear hnz hu
  go_wp2_with fail
  refine (E.num_any _ _).mono ?_
  rintro e wn ⟨rfl, rfl⟩
  go_wp2_with fail
  refine (E.num_any _ _).mono ?_
  rintro e wn ⟨rfl, rfl⟩
  go_wp2_with fail
  refine (E.num_any _ _).mono ?_
  rintro e wn ⟨rfl, rfl⟩
  go_wp2_with fail
  refine (E.num_any _ _).mono ?_
  rintro e wn ⟨rfl, rfl⟩
  go_wp2_with fail
  refine (HRX.out _ _ (Cols.more (hx.below h3) h3.size)).mono ?_
  rintro e w7 ⟨rfl, hBn⟩
  replace hB := below_in hB hBn
  replace h2 := below_in h2 hBn
  replace h3 := below_in h3 hBn
  replace h4 := below_in h4 hBn
  replace h6 := below_in h6 hBn
  have h7 := Below.refl w7.heap.size w7
  clear hBn
  go_wp2_with fail
  refine (HRY.out _ _ (Cols.more (hy.below h4) h4.size)).mono ?_
  rintro e w8 ⟨rfl, hBn⟩
  replace hB := below_in hB hBn
  replace h2 := below_in h2 hBn
  replace h3 := below_in h3 hBn
  replace h4 := below_in h4 hBn
  replace h6 := below_in h6 hBn
  replace h7 := below_in h7 hBn
  have h8 := Below.refl w8.heap.size w8
  clear hBn
  obtain ⟨ux0, hx0, hxm0⟩ := hxr 0 (by simp)
  obtain ⟨ux1, hx1, hxm1⟩ := hxr 1 (by simp)
  obtain ⟨uy0, hy0, hym0⟩ := hyr 0 (by simp)
  rw [Nat.add_zero] at hx0 hy0
  replace hxm0 : Many w3.heap.size w3 ux0 ra := hxm0
  replace hxm1 : Many w3.heap.size w3 ux1 da := hxm1
  replace hym0 : Many w4.heap.size w4 uy0 rb := hym0
  have hra : ra.length = R := (HXC.out 0 (by omega)).1
  have hda : da.length = R := (HXC.out 1 (by omega)).1
  have hrb : rb.length = R := (HYC.out 0 (by omega)).1
  have HRA : Hid (∀ i, i < R → (ra[i]?.getD []).length = l9) := (HXC.out 0 (by omega)).2
  have HDA : Hid (∀ i, i < R → (da[i]?.getD []).length = l9) := (HXC.out 1 (by omega)).2
  have HRB : Hid (∀ i, i < R → (rb[i]?.getD []).length = l9) := (HYC.out 0 (by omega)).2
  obtain ⟨Ax, cx0, rfl, _, _⟩ := id hxm0
  obtain ⟨Ad, cx1, rfl, _, _⟩ := id hxm1
  obtain ⟨Ay, cy0, rfl, _, _⟩ := id hym0
  obtain ⟨bx0, ox0, rfl, hbx0, hxq0⟩ := many_at hxm0 (by omega)
  obtain ⟨bx1, ox1, rfl, hbx1, hxq1⟩ := many_at hxm1 (by omega)
  obtain ⟨by0, oy0, rfl, hby0, hyq0⟩ := many_at hym0 (by omega)
  obtain ⟨X0, kx0, hX0, _⟩ := hxq0 0 (by omega)
  obtain ⟨Y0, ky0, hY0, _⟩ := hyq0 0 (by omega)
  rw [Nat.add_zero, HRA.out 0 (by omega)] at hX0
  rw [Nat.add_zero, HRB.out 0 (by omega)] at hY0
  rw [hra] at hx0
  rw [hda] at hx1
  rw [hrb] at hy0
  have a1 := (h3.cell (p := ⟨bx, ox, none⟩) hbx).trans hx0
  have a2 := (h3.cell (p := ⟨bx0, ox0, none⟩) hbx0).trans hX0
  have a3 := (h4.cell (p := ⟨by_, oy, none⟩) hby).trans hy0
  have a4 := (h4.cell (p := ⟨by0, oy0, none⟩) hby0).trans hY0
  have HRAL := Lib.hid hra
  have HDAL := Lib.hid hda
  have HRBL := Lib.hid hrb
  clear hra hda hrb hY0 hy0 hym0 hyq0 hyr hxr
  go_wp2_with fail
  refine (HNO.out _).mono ?_
  rintro e w9 ⟨acc, rfl, hacc, hBn⟩
  replace hB := below_in hB hBn
  replace h2 := below_in h2 hBn
  replace h3 := below_in h3 hBn
  replace h4 := below_in h4 hBn
  replace h6 := below_in h6 hBn
  replace h7 := below_in h7 hBn
  replace h8 := below_in h8 hBn
  have h9 := Below.refl w9.heap.size w9
  clear hBn
  obtain ⟨Aa, ca, hae, _, _⟩ := id hacc
  rw [List.length_replicate] at hae
  subst hae
  clear a1 a2 a3 a4
  have HZL : Hid (∀ k, (xors (List.replicate l9 (0 : UInt8)) ((ra ++ da).take k)).length = l9) := fun k => by rw [xors_len, List.length_replicate]
  have HX2 : Hid (∀ (t r : Nat), t < 2 → r < R → xors (List.replicate l9 (0 : UInt8)) ((ra ++ da).take (t * R + (r + 1))) = xorB (xors (List.replicate l9 0) ((ra ++ da).take (t * R + r))) (([ra, da][t]?.getD [])[r]?.getD [])) := fun t r ht hr => xors_two _ HRAL.out HDAL.out ht hr
  have HXE : Hid (xors (List.replicate l9 (0 : UInt8)) ((ra ++ da).take (2 * R)) = adj) := by
    have h1 := HRAL.out
    have h2 := HDAL.out
    unfold Hid
    rw [List.take_of_length_le (by rw [List.length_append]; omega), ← HAL.out]
    exact HAM.out
  have h39 : Below w3.heap.size w3 w9 := h3
  go_wp2_with fail
  go_loopw [15, 16] (fun v i wr => ∃ t : Nat, t ≤ 2 ∧ i = .int .i64 t ∧ Bytes wr.heap.size wr v (xors (List.replicate l9 0) ((ra ++ da).take (t * R))) ∧ Below w9.heap.size w9 wr) (fun _ i _ => 2 - (intOf i).toNat)
  case atStart => exact ⟨0, by omega, rfl, by rw [Nat.zero_mul]; exact hacc, Below.refl _ _⟩
  case round =>
    clear hacc
    obtain ⟨t, ht, rfl, hacc, hBr⟩ := hrel
    by_cases hlt : t < 2
    · have hdec : decide ((t : Int) < 2) = true := by simp; omega
      obtain ⟨ux, hux, hmx⟩ := HXR.out t (by simp; omega)
      obtain ⟨hlx, hcx⟩ := HXC.out t hlt
      have HXN := Lib.hid (fun r hr => HX2.out t r hlt hr)
      have HTR : Hid (t * R + 0 = t * R) := rfl
      generalize [ra, da][t]?.getD [] = col at *
      obtain ⟨Ax, cpx, rfl, _, _⟩ := id hmx
      obtain ⟨bX, oX, rfl, hbX, hrX⟩ := many_at hmx (by omega)
      rw [hlx] at hux
      have hux9 := (h39.cell (p := ⟨bx, ox + t, none⟩) hbx).trans hux
      have HCX := Lib.hid hcx
      have HRX := Lib.hid hrX
      have HLX := Lib.hid hlx
      have hs39 := h39.size
      have i1 : (0 : Int) ≤ (t : Int) := by omega
      have i2 : (t : Int) < 2 := by omega
      rw [← HTR.out] at hacc
      clear hux hmx hcx hrX hlx
      go_wp2
      go_loopw [15, 17] (fun v i wz => ∃ r : Nat, r ≤ R ∧ i = .int .i64 r ∧ Bytes wz.heap.size wz v (xors (List.replicate l9 0) ((ra ++ da).take (t * R + r))) ∧ Below w9.heap.size w9 wz) (fun _ i _ => R - (intOf i).toNat)
      case atStart => exact ⟨0, by omega, rfl, hacc, hBr⟩
      case round =>
        clear hacc hBr
        obtain ⟨r, hr, rfl, hacc, hBr⟩ := hrel
        by_cases hltr : r < R
        · have hdec2 : decide ((r : Int) < (R : Int)) = true := by simp; omega
          obtain ⟨Ac, cc, hcc, hby⟩ := HRX.out r (by rw [HLX.out]; exact hltr)
          have hlc := HCX.out r hltr
          have HNX := Lib.hid (HXN.out r hltr)
          have HZ := Lib.hid (HZL.out (t * R + r))
          rw [hlc] at hcc hby
          have hs9 := hBr.size
          have q1 := (hBr.cell (p := ⟨bx, ox + t, none⟩) (Nat.lt_of_lt_of_le hbx hs39)).trans hux9
          have q2 := (hBr.cell (p := ⟨bX, oX + r, none⟩) (Nat.lt_of_lt_of_le hbX hs39)).trans ((h39.cell (p := ⟨bX, oX + r, none⟩) hbX).trans hcc)
          have hbyr := (hby.below (below_in h39 hBr)).more (Nat.le_trans hs39 hs9)
          clear hcc hby
          generalize xors (List.replicate l9 (0 : UInt8)) ((ra ++ da).take (t * R + r)) = cur at *
          generalize col[r]?.getD [] = xc at *
          have HP := Lib.hid (rput_any _ _ cur xc _ hacc hbyr (by rw [HZ.out, hlc]; exact Nat.le_refl _) (by rw [HZ.out]; omega))
          have j1 : (0 : Int) ≤ (r : Int) := by omega
          have j2 : (r : Int) < (R : Int) := by omega
          clear hlc hbyr
          go_wp2_with (go_at_call 25; refine HP.out.mono ?_; rintro e wq ⟨vq, rfl, hvq, hBq⟩)
          go_roundw
          case rel => exact ⟨r + 1, by omega, by go_num, by rw [HNX.out]; exact hvq.bytes, below_in hBr hBq⟩
          case measure => simp [intOf]; omega
        · obtain rfl : r = R := by omega
          have e1 : decide ((r : Int) < (r : Int)) = false := by simp
          have HTE : Hid (t * r + r = (t + 1) * r) := by unfold Hid; rw [Nat.add_mul, Nat.one_mul]
          rw [HTE.out] at hacc
          go_wp2
          go_roundw
          case rel => exact ⟨t + 1, by omega, by go_num, hacc, hBr⟩
          case measure => simp [intOf]; omega
    · obtain rfl : t = 2 := by omega
      rw [HXE.out] at hacc
      have e1 : decide (((2 : Nat) : Int) < 2) = false := by decide
      have hsz := hBr.size
      have hBw := below_in hB hBr
      have h2r := below_in h2 hBr
      have h3r := below_in h3 hBr
      have h4r := below_in h4 hBr
      have h6r := below_in h6 hBr
      have hV1 := below_one wr (.cells #[] 44)
      have hn1 : (wr.alloc (.cells #[] 44)).heap.size = wr.heap.size + 1 := by simp
      have HROW0 := Lib.hid (RowG.empty manyR 44 [] (fun _ => True) (Blk.new wr 44 #[]) (Nat.le_refl wr.heap.size))
      have HXA : Hid (colsR.R (fun b => b < (wr.alloc (.cells #[] 44)).heap.size ∧ some b ≠ (Value.slice (some ⟨wr.heap.size, 0, none⟩) 0 0).ownBlock ∧ True) (wr.alloc (.cells #[] 44)) (.slice (some ⟨b1, off1, none⟩) na cap) a) :=
        colsR.imp (colsR_iff.2 (HCA.out _ (below_in hBw hV1))) fun b hb => by
          have h1 : b < w.heap.size := hb
          have h2 := hBw.size
          exact ⟨by omega, fun e => by injection e with e; have e2 : b = wr.heap.size := e; omega, trivial⟩
      have HXC2 := Lib.hid (fun (U : World) (hU : Below wr.heap.size wr U) => hx.below (below_in h3r hU))
      have HYC2 := Lib.hid (fun (U : World) (hU : Below wr.heap.size wr U) => hy.below (below_in h4r hU))
      have HZC2 := Lib.hid (fun (U : World) (hU : Below wr.heap.size wr U) => hz.below (below_in h6r hU))
      have HSC2 := Lib.hid (fun (U : World) (hU : Below wr.heap.size wr U) => hs.below (below_in h2r hU))
      have HAC2 := Lib.hid (fun (U : World) (hU : Below wr.heap.size wr U) => hacc.below hU)
      have HLW := Lib.hid (fun (U : World) (hU : Below wr.heap.size wr U) => hL.next (below_in hBw hU))
      have h3s := h3r.size
      have h4s := h4r.size
      have h6s := h6r.size
      have HBW := Lib.hid hBw
      clear hx hy hz hs hacc h2 h3 h4 h6 h2r h3r h4r h6r hB hBr hBw
      go_wp2_with (first
        | (at_builtin; refine wpList_appC (T := 22) _ rfl _ _ rfl Tryz.underlying22 [] a rfl HROW0.out rfl HXA.out (by have := HNE.out; omega) (by simp) (by have := HNE.out; have := HNA.out; omega) (by omega) ?_; intro v1 wa hrow1 hgrow1 hown1; have hBa : Below wr.heap.size wr wa := below_grown hV1 hgrow1 (by omega) (fun g e => by injection e with e; have e2 : wr.heap.size = g := e; omega); have HROW1 := Lib.hid hrow1; have HXX : Hid (colsR.R (fun b => b < wa.heap.size ∧ some b ≠ v1.ownBlock ∧ True) wa (.slice (some ⟨bx, ox, none⟩) 2 cx) [ra, da]) := (colsR.imp (colsR_iff.2 (HXC2.out _ hBa)) fun b hb => by (have h1 : b < w3.heap.size := hb; have h2 := hBa.size; exact ⟨by omega, fun e => by (have e2 := RowG.own_le HROW1.out b e.symm; omega), trivial⟩)); have hsa := hBa.size; clear hrow1)
        | (at_builtin; refine wpList_appC (T := 22) _ rfl _ _ rfl Tryz.underlying22 ([] ++ a) [ra, da] rfl HROW1.out rfl HXX.out (by simp) (by have := HNE.out; have := HNA.out; simp; omega) (by simp) (by omega) ?_; intro v2 wb hrow2 hgrow2 hown2; have hBb : Below wr.heap.size wr wb := below_grown hBa hgrow2 (by omega) (fun g e => RowG.own_le HROW1.out g e))
        | (go_at_call 22; refine (HCK.out _ _ (HLW.out _ hBb) (by have := RowC.cols hrow2; rwa [List.nil_append] at this)).mono ?_; rintro e wc ⟨rfl, hBc⟩; have hBd := below_in hBb hBc; have t1 := run_txt wc (HAC2.out _ hBd); have t2 := run_txt wc (HSC2.out _ hBd))
        | (go_at_call 23; refine (HXY.out _ _ _ (Cols.more (HXC2.out _ hBd) (Nat.le_trans h3s hBd.size)) (Cols.more (HYC2.out _ hBd) (Nat.le_trans h4s hBd.size))).mono ?_; rintro e wp ⟨up, rfl, hup, hBp⟩; have hBe := below_in hBd hBp)
        | (go_at_call 21; refine (HSM.out _ _ _ (Cols.more (HZC2.out _ hBe) (Nat.le_trans h6s hBe.size)) hup).mono ?_; rintro e wq ⟨rfl, hBq⟩; have hBf := below_in hBe hBq)
        | (go_at_call 17; refine (E.num_any _ _).mono ?_; rintro e w' ⟨rfl, rfl⟩)
        | (go_at_call 11; refine (E.works_any _ (HLW.out _ hBf)).mono ?_; rintro e wz ⟨rfl, hBz⟩))
      go_ret
      exact ⟨rfl, below_in HBW.out (below_in hBf hBz)⟩

open Go.Proofs.YtggdlklkjnbbjaaGreatDoor.E Go.Proofs.YtggdlklkjnbbjaaGreatDoor.C in
set_option maxRecDepth 100000 in
set_option maxHeartbeats 4000000 in
theorem walk (p : Int) (v : Value) (a : List (List (List UInt8))) (v2 : Value) (b : List (List (List UInt8))) (w : World) (hL : Laid w) (wp : -9223372036854775808 ≤ p ∧ p ≤ 9223372036854775807) (hC : Cols w.heap.size w v a) (hD : Cols w.heap.size w v2 b) :
    Calls Tryz.prog 5 #[.int .i64 p, v, v2] w fun e w' => e = .returned (.bool true) ∧ Below w.heap.size w w' := by
  by_cases hf0 : Few6 a
  case neg => exact n1 p v a v2 b w hL wp hC hD hf0
  by_cases hf1 : Few6 b
  case neg => exact n2 p v a v2 b w hL wp hC hD hf0 hf1
  by_cases hr0 : DataOk p a
  case neg => exact n3 p v a v2 b w hL wp hC hD hf0 hf1 hr0
  by_cases hr1 : DataOk p b
  case neg => exact n4 p v a v2 b w hL wp hC hD hf0 hf1 hr0 hr1
  by_cases hl : (firstC a).length = (firstC b).length
  case neg => exact n5 p v a v2 b w hL wp hC hD hf0 hf1 hr0 hr1 hl
  exact yes p v a v2 b w hL wp hC hD hf0 hf1 hr0 hr1 hl

set_option maxRecDepth 100000 in
theorem lifted (os : Os) (started : os.Started) (H : Type) (enc : TypeId × Value → H) :
    ReturnsInHanded {} Tryz.checked os 5 .any (fun w args => (Rows.evenoddHoldsSpec.pre enc Tryz.prog Tryz.f5 [] false w args ∧ laidMetH Tryz.prog laidL w) ∧ sizedMet enc Tryz.prog Tryz.f5 (OpenSpec.ofChange Rows.evenoddHoldsSpec) false w args)
      (Rows.evenoddHoldsSpec.post enc Tryz.prog Tryz.f5 false true false false) := by
  refine returnsInHanded_of_change_and (C := Tryz.checked) (X := fun w _ => laidMetH Tryz.prog laidL w) (fun _ _ _ hh h => h.of_heap hh) own started (by kernel_rfl) Tryz.func5
    (ChangeSpec.witness_shaped (enc := enc) (C := Tryz.checked) (os := os) (X := fun w _ => laidMetH Tryz.prog laidL w) false (World.doorLaid Tryz.prog 200 os) #[.int .i64 0, .slice none 0 0, .slice none 0 0] 8 rfl (World.shaped_of_RefB (by kernel_rfl) (by kernel_rfl)) (by kernel_rfl) (by kernel_rfl) (by kernel_rfl) (door_met os _)) ?_
  intro W base args ds gs before hval0 hW _ _ hL0 _
  have hL := laid_of hL0
  have hval : ∀ (j : Nat) t v, Tryz.f5.params[j]? = some t → args[j]? = some v → Value.okWide Tryz.prog W .any base t v := hval0
  have hW' := hW
  obtain ⟨p, q, hA0, hV, rfl, hfz, hnd⟩ := hW
  have hA : DataW.TrodAll enc Tryz.prog W 0 (fun _ => true) true Tryz.f5.params.toList args.toList ds p := hA0
  rw [Tryz.params5] at hA hval
  obtain ⟨v0, vs0, d0, ds0, p0, q0, hargs, rfl, rfl, h0, r0⟩ := trodAll_cons hA
  obtain ⟨v1, vs1, d1, ds1, p1, q1, rfl, rfl, rfl, h1, r1⟩ := trodAll_cons r0
  obtain ⟨v2, vs2, d2, ds2, p2, q2, rfl, rfl, rfl, h2, r2⟩ := trodAll_cons r1
  obtain ⟨rfl, rfl, rfl⟩ := trodAll_nil r2
  obtain rfl : args = #[v0, v1, v2] := by cases args; simp_all
  obtain ⟨rfl, rfl⟩ := trodVars_none hV
  obtain ⟨a0, rfl, rfl, rfl, w0⟩ := open_int Tryz.underlying3 (hval 0 3 v0 rfl rfl) h0
  have k1 := h1
  have lt1 : ∀ x ∈ p1, x.block < W.heap.size := by obtain ⟨m, hm⟩ := k1; exact DataW.trod_lt m _ _ _ hm
  obtain ⟨a1, len1, cap1, rfl⟩ := okWide_slice Tryz.underlying22 (hval 1 22 v1 rfl rfl)
  obtain ⟨l1, w1⟩ : ∃ css, E.Cols W.heap.size W (.slice a1 len1 cap1) css := by obtain ⟨fuel, hf⟩ := h1; exact E.open_cols hf
  have k2 := h2
  have lt2 : ∀ x ∈ p2, x.block < W.heap.size := by obtain ⟨m, hm⟩ := k2; exact DataW.trod_lt m _ _ _ hm
  obtain ⟨a2, len2, cap2, rfl⟩ := okWide_slice Tryz.underlying22 (hval 2 22 v2 rfl rfl)
  obtain ⟨l2, w2⟩ : ∃ css, E.Cols W.heap.size W (.slice a2 len2 cap2) css := by obtain ⟨fuel, hf⟩ := h2; exact E.open_cols hf
  clear hA0 hval0
  simp only [List.append_nil] at hW'
  refine (walk a0 _ l1 _ l2 W hL (E.wf_i64 w0) w1 w2).mono fun e W' ⟨he, bel⟩ => ?_
  subst he
  exact ⟨_, rfl, _, _, _, [], _, [], hW', trodAll_mk1 (shut_bool Tryz.underlying4 _), (trodAll_cons_mk (shut_int Tryz.underlying3 w0) (trodAll_cons_mk (Below.trod laidOut (by kernel_rfl) (of_decide_eq_true (by kernel_rfl)) k1 bel lt1) (trodAll_cons_mk (Below.trod laidOut (by kernel_rfl) (of_decide_eq_true (by kernel_rfl)) k2 bel lt2) trodAll_mk0))), rfl, bel.frame _, fun h => by cases h⟩

theorem over : Rows.evenoddHoldsRow.holds Tryz.pinned (OpenSpec.ofChange Rows.evenoddHoldsSpec) :=
  OpenClaim.holds_of_wide 5 Tryz.f5 rfl rfl rfl rfl rfl rfl rfl ⟨rfl, rfl, rfl, rfl, rfl⟩ rfl rfl rfl rfl rfl (by kernel_rfl) Tryz.func5 (by kernel_rfl)
    (of_decide_eq_true (by kernel_rfl)) (by unfold Func.isWrapper; first | (rw [if_pos (by decide +kernel)]; kernel_rfl) | (rw [if_neg (by decide +kernel)]; exact ⟨rfl, rfl⟩))
    (fun os started H enc _ => lifted os started H enc)

/-- The tied card: the row, and the tie that is given. -/
theorem evenoddHolds_holds : Rows.EvenoddHoldsCardSaid :=
  Claim7.holds_tied_plain_at .later [] [.data, .data] true (true, "57ec92c1cad9246a878d60c07de9d5f93b7ace9698c7d1eeaf89e47cae761c73") true over (fun _ h => by cases h) (by kernel_rfl) (fun _ h => by cases h) evenoddHolds_row_tie rfl ⟨rfl, rfl⟩ (by kernel_rfl) rfl
    (fun f fn hf hfn => by
      obtain rfl : f = 5 := Option.some.inj ((show Tryz.prog.funcNamed "palisade/palisadelaw06.EvenoddHolds" = some 5 by kernel_rfl).symm.trans hf) |>.symm
      obtain rfl : fn = Tryz.f5 := (Option.some.inj (Tryz.func5.symm.trans hfn)).symm
      exact ⟨by kernel_rfl, fun j t ht => by
        rw [Tryz.params5] at ht
        have hm : t ∈ [3, 22, 22] := by simpa using Array.mem_of_getElem? ht
        have hall : ([3, 22, 22].all fun u => !Tryz.prog.wantsStandIn u) = true := by kernel_rfl
        exact (show Tryz.prog.wantsStandIn t = false by simpa using List.all_eq_true.1 hall t hm)⟩)
    (by kernel_rfl)
end Go.Proofs.YtggdlklkjnbbjaaGreatDoor.evenoddHolds
