/- The law RdpAdds answers true for every input and leaves its arguments as they were. -/
import Derived.Test.YtggdlklkjnbbjaaGreatDoorSLawKit
import Derived.Test.YtggdlklkjnbbjaaGreatDoorCards
import Derived.Test.YtggdlklkjnbbjaaGreatDoorTie
import Derived.SevenTiedAt
import Derived.Test.YtggdlklkjnbbjaaGreatDoorRG2
namespace Go.Proofs.YtggdlklkjnbbjaaGreatDoor.rdpAdds
open Go.ChangeShapes Go.WideShapes Go.ChangeAt Go.RowKit Go.Shelf
set_option linter.unusedVariables false
set_option linter.unusedSimpArgs false
attribute [local go_sem] Oper.semAt_some

theorem upd {α : Type} : (∀ (l : List α) (i : Nat) (a : α), l.toArray.setIfInBounds i a = (l.set i a).toArray) ∧ (∀ (x : α) (xs : List α) (a : α), (x :: xs).set 0 a = a :: xs) ∧ (∀ (x : α) (xs : List α) (i : Nat) (a : α), (x :: xs).set (i + 1) a = x :: xs.set i a) :=
  ⟨fun l i a => List.setIfInBounds_toArray l i a, fun _ _ _ => rfl, fun _ _ _ _ => rfl⟩
open Go.Proofs.YtggdlklkjnbbjaaGreatDoor.E Go.Proofs.YtggdlklkjnbbjaaGreatDoor.C Go.Proofs.YtggdlklkjnbbjaaGreatDoor.R in
set_option maxRecDepth 100000 in
set_option maxHeartbeats 4000000 in
theorem n1 (p : Int) (v : Value) (a : List (List (List UInt8))) (v2 : Value) (b : List (List (List UInt8))) (w : World) (hL : Laid w) (wp : -9223372036854775808 ≤ p ∧ p ≤ 9223372036854775807) (hC : Cols w.heap.size w v a) (hD : Cols w.heap.size w v2 b) (hf0 : ¬ Few6 a) :
    Calls Tryz.prog 9 #[.int .i64 p, v, v2] w fun e w' => e = .returned (.bool true) ∧ Below w.heap.size w w' := by
  obtain ⟨A, cap, rfl, _, _⟩ := id hC
  obtain ⟨A', cap', rfl, _, _⟩ := id hD
  have HF0 := Lib.hid (fun (U : World) (hU : Below w.heap.size w U) => few6_any _ a U (hC.below hU) false (by simp [hf0]))
  clear hf0 hC hD
  generalize a.length = na at *
  generalize b.length = nb at *
  have HSS := Lib.hid (fun (U : World) (_ : Below w.heap.size w U) => (trivial : (fun _ : World => True) U))
  go_enter Tryz.func9, Tryz.ntmps9
  go_wp2_with fail
  have hB : Below w.heap.size w w.drew := (Below.refl _ _).drew
  have hS : (fun _ : World => True) w.drew := HSS.out _ hB
  refine (wpIn_wide (n := 12)).1 (wpIn_mono (region_HF (Q := NoPanic _) (S := (fun _ : World => True)) (by kernel_rfl) ?_) NoPanic.imp)
  refine anyHF_take (i := 0) (d := 20) (v := .slice A na cap) (by kernel_rfl) rfl (by kernel_rfl) (by kernel_rfl) (by kernel_rfl) rfl (fun _ _ _ h => h) ⟨Or.inl ⟨by rfl, fun w hS => by have h0 := hS; go_simp⟩, fun _ => rfl⟩ hS ?_
  simp only [upd]
  refine anyHF_one (i := 1) (by kernel_rfl) rfl (by kernel_rfl) (by rfl) ?_
  gi_wp2_with fail
  refine ⟨trivial, (callsIn_wide.2 (HF0.out _ hB)).mono ?_⟩
  rintro e wn ⟨rfl, rfl⟩
  gi_wp2
  try (refine ⟨hS, ?_⟩)
  refine anyHF_take (i := 2) (d := 22) (v := .bool true) (by kernel_rfl) rfl (by kernel_rfl) (by kernel_rfl) (by kernel_rfl) rfl (fun _ _ _ h => h) ⟨Or.inl ⟨by rfl, fun w hS => by have h0 := hS; go_simp⟩, fun _ => rfl⟩ hS ?_
  simp only [upd]
  refine anyHF_take (i := 3) (d := 23) (v := .bool true) (by kernel_rfl) rfl (by kernel_rfl) (by kernel_rfl) (by kernel_rfl) rfl (fun _ _ _ h => h) ⟨Or.inl ⟨by rfl, fun w hS => by have h0 := hS; go_simp⟩, fun _ => rfl⟩ hS ?_
  simp only [upd]
  refine anyHF_take (i := 4) (d := 24) (v := undef) (by kernel_rfl) rfl (by kernel_rfl) (by kernel_rfl) (by kernel_rfl) rfl (fun _ _ _ h => h) ⟨Or.inr ⟨by rfl, rfl⟩, fun _ => rfl⟩ hS ?_
  simp only [upd]
  refine anyHF_skip (i := 5) (d := 25) (by kernel_rfl) rfl (by rfl) rfl wide_fn hS ?_
  simp only [upd]
  refine anyHF_take (i := 6) (d := 26) (v := undef) (by kernel_rfl) rfl (by kernel_rfl) (by kernel_rfl) (by kernel_rfl) rfl (fun _ _ _ h => h) ⟨Or.inr ⟨by rfl, rfl⟩, fun _ => rfl⟩ hS ?_
  simp only [upd]
  refine anyHF_take (i := 7) (d := 27) (v := .bool true) (by kernel_rfl) rfl (by kernel_rfl) (by kernel_rfl) (by kernel_rfl) rfl (fun _ _ _ h => h) ⟨Or.inl ⟨by rfl, fun w hS => by have h0 := hS; go_simp⟩, fun _ => rfl⟩ hS ?_
  simp only [upd]
  refine anyHF_take (i := 8) (d := 28) (v := .bool true) (by kernel_rfl) rfl (by kernel_rfl) (by kernel_rfl) (by kernel_rfl) rfl (fun _ _ _ h => h) ⟨Or.inl ⟨by rfl, fun w hS => by have h0 := hS; go_simp⟩, fun _ => rfl⟩ hS ?_
  simp only [upd]
  refine anyHF_take (i := 9) (d := 29) (v := undef) (by kernel_rfl) rfl (by kernel_rfl) (by kernel_rfl) (by kernel_rfl) rfl (fun _ _ _ h => h) ⟨Or.inr ⟨by rfl, rfl⟩, fun _ => rfl⟩ hS ?_
  simp only [upd]
  refine anyHF_take (i := 10) (d := 30) (v := undef) (by kernel_rfl) rfl (by kernel_rfl) (by kernel_rfl) (by kernel_rfl) rfl (fun _ _ _ h => h) ⟨Or.inr ⟨by rfl, rfl⟩, fun _ => rfl⟩ hS ?_
  simp only [upd]
  refine anyHF_skip (i := 11) (d := 31) (by kernel_rfl) rfl (by rfl) rfl wide_fn hS ?_
  simp only [upd]
  refine anyHF_take (i := 12) (d := 32) (v := undef) (by kernel_rfl) rfl (by kernel_rfl) (by kernel_rfl) (by kernel_rfl) rfl (fun _ _ _ h => h) ⟨Or.inr ⟨by rfl, rfl⟩, fun _ => rfl⟩ hS ?_
  simp only [upd]
  refine anyHF_take (i := 13) (d := 33) (v := .bool true) (by kernel_rfl) rfl (by kernel_rfl) (by kernel_rfl) (by kernel_rfl) rfl (fun _ _ _ h => h) ⟨Or.inl ⟨by rfl, fun w hS => by have h0 := hS; go_simp⟩, fun _ => rfl⟩ hS ?_
  simp only [upd]
  refine anyHF_take (i := 14) (d := 34) (v := .bool true) (by kernel_rfl) rfl (by kernel_rfl) (by kernel_rfl) (by kernel_rfl) rfl (fun _ _ _ h => h) ⟨Or.inl ⟨by rfl, fun w hS => by have h0 := hS; go_simp⟩, fun _ => rfl⟩ hS ?_
  simp only [upd]
  refine anyHF_take (i := 15) (d := 35) (v := undef) (by kernel_rfl) rfl (by kernel_rfl) (by kernel_rfl) (by kernel_rfl) rfl (fun _ _ _ h => h) ⟨Or.inr ⟨by rfl, rfl⟩, fun _ => rfl⟩ hS ?_
  simp only [upd]
  refine anyHF_take (i := 16) (d := 36) (v := undef) (by kernel_rfl) rfl (by kernel_rfl) (by kernel_rfl) (by kernel_rfl) rfl (fun _ _ _ h => h) ⟨Or.inr ⟨by rfl, rfl⟩, fun _ => rfl⟩ hS ?_
  simp only [upd]
  refine anyHF_skip (i := 17) (d := 37) (by kernel_rfl) rfl (by rfl) rfl wide_fn hS ?_
  simp only [upd]
  refine anyHF_take (i := 18) (d := 38) (v := undef) (by kernel_rfl) rfl (by kernel_rfl) (by kernel_rfl) (by kernel_rfl) rfl (fun _ _ _ h => h) ⟨Or.inr ⟨by rfl, rfl⟩, fun _ => rfl⟩ hS ?_
  simp only [upd]
  refine anyHF_take (i := 19) (d := 39) (v := .bool true) (by kernel_rfl) rfl (by kernel_rfl) (by kernel_rfl) (by kernel_rfl) rfl (fun _ _ _ h => h) ⟨Or.inl ⟨by rfl, fun w hS => by have h0 := hS; go_simp⟩, fun _ => rfl⟩ hS ?_
  simp only [upd]
  refine anyHF_take (i := 20) (d := 40) (v := .bool true) (by kernel_rfl) rfl (by kernel_rfl) (by kernel_rfl) (by kernel_rfl) rfl (fun _ _ _ h => h) ⟨Or.inl ⟨by rfl, fun w hS => by have h0 := hS; go_simp⟩, fun _ => rfl⟩ hS ?_
  simp only [upd]
  refine anyHF_take (i := 21) (d := 41) (v := undef) (by kernel_rfl) rfl (by kernel_rfl) (by kernel_rfl) (by kernel_rfl) rfl (fun _ _ _ h => h) ⟨Or.inr ⟨by rfl, rfl⟩, fun _ => rfl⟩ hS ?_
  simp only [upd]
  refine anyHF_take (i := 22) (d := 42) (v := undef) (by kernel_rfl) rfl (by kernel_rfl) (by kernel_rfl) (by kernel_rfl) rfl (fun _ _ _ h => h) ⟨Or.inr ⟨by rfl, rfl⟩, fun _ => rfl⟩ hS ?_
  simp only [upd]
  refine anyHF_take (i := 23) (d := 43) (v := undef) (by kernel_rfl) rfl (by kernel_rfl) (by kernel_rfl) (by kernel_rfl) rfl (fun _ _ _ h => h) ⟨Or.inr ⟨by rfl, rfl⟩, fun _ => rfl⟩ hS ?_
  simp only [upd]
  refine anyHF_take (i := 24) (d := 44) (v := undef) (by kernel_rfl) rfl (by kernel_rfl) (by kernel_rfl) (by kernel_rfl) rfl (fun _ _ _ h => h) ⟨Or.inr ⟨by rfl, rfl⟩, fun _ => rfl⟩ hS ?_
  simp only [upd]
  refine anyHF_take (i := 25) (d := 45) (v := undef) (by kernel_rfl) rfl (by kernel_rfl) (by kernel_rfl) (by kernel_rfl) rfl (fun _ _ _ h => h) ⟨Or.inr ⟨by rfl, rfl⟩, fun _ => rfl⟩ hS ?_
  simp only [upd]
  refine anyHF_take (i := 26) (d := 46) (v := undef) (by kernel_rfl) rfl (by kernel_rfl) (by kernel_rfl) (by kernel_rfl) rfl (fun _ _ _ h => h) ⟨Or.inr ⟨by rfl, rfl⟩, fun _ => rfl⟩ hS ?_
  simp only [upd]
  refine anyHF_take (i := 27) (d := 47) (v := undef) (by kernel_rfl) rfl (by kernel_rfl) (by kernel_rfl) (by kernel_rfl) rfl (fun _ _ _ h => h) ⟨Or.inr ⟨by rfl, rfl⟩, fun _ => rfl⟩ hS ?_
  simp only [upd]
  refine anyHF_take (i := 28) (d := 48) (v := undef) (by kernel_rfl) rfl (by kernel_rfl) (by kernel_rfl) (by kernel_rfl) rfl (fun _ _ _ h => h) ⟨Or.inr ⟨by rfl, rfl⟩, fun _ => rfl⟩ hS ?_
  simp only [upd]
  refine anyHF_take (i := 29) (d := 49) (v := undef) (by kernel_rfl) rfl (by kernel_rfl) (by kernel_rfl) (by kernel_rfl) rfl (fun _ _ _ h => h) ⟨Or.inr ⟨by rfl, rfl⟩, fun _ => rfl⟩ hS ?_
  simp only [upd]
  refine anyHF_take (i := 30) (d := 50) (v := undef) (by kernel_rfl) rfl (by kernel_rfl) (by kernel_rfl) (by kernel_rfl) rfl (fun _ _ _ h => h) ⟨Or.inr ⟨by rfl, rfl⟩, fun _ => rfl⟩ hS ?_
  simp only [upd]
  refine anyHF_take (i := 31) (d := 51) (v := undef) (by kernel_rfl) rfl (by kernel_rfl) (by kernel_rfl) (by kernel_rfl) rfl (fun _ _ _ h => h) ⟨Or.inr ⟨by rfl, rfl⟩, fun _ => rfl⟩ hS ?_
  simp only [upd]
  refine anyHF_take (i := 32) (d := 52) (v := undef) (by kernel_rfl) rfl (by kernel_rfl) (by kernel_rfl) (by kernel_rfl) rfl (fun _ _ _ h => h) ⟨Or.inr ⟨by rfl, rfl⟩, fun _ => rfl⟩ hS ?_
  simp only [upd]
  refine anyHF_take (i := 33) (d := 53) (v := undef) (by kernel_rfl) rfl (by kernel_rfl) (by kernel_rfl) (by kernel_rfl) rfl (fun _ _ _ h => h) ⟨Or.inr ⟨by rfl, rfl⟩, fun _ => rfl⟩ hS ?_
  simp only [upd]
  refine anyHF_take (i := 34) (d := 54) (v := .bool true) (by kernel_rfl) rfl (by kernel_rfl) (by kernel_rfl) (by kernel_rfl) rfl (fun _ _ _ h => h) ⟨Or.inl ⟨by rfl, fun w hS => by have h0 := hS; go_simp⟩, fun _ => rfl⟩ hS ?_
  simp only [upd]
  refine anyHF_done (by kernel_rfl) ?_ _
  refine NoPanic.normal ?_
  clear hS
  go_wp2_with (go_at_call 26; refine (Go.Proofs.YtggdlklkjnbbjaaGreatDoor.R.works_any _ (hL.next hB)).mono ?_; rintro e w1 ⟨rfl, hB1⟩)
  go_ret
  exact ⟨rfl, below_in hB hB1⟩

open Go.Proofs.YtggdlklkjnbbjaaGreatDoor.E Go.Proofs.YtggdlklkjnbbjaaGreatDoor.C Go.Proofs.YtggdlklkjnbbjaaGreatDoor.R in
set_option maxRecDepth 100000 in
set_option maxHeartbeats 4000000 in
theorem n2 (p : Int) (v : Value) (a : List (List (List UInt8))) (v2 : Value) (b : List (List (List UInt8))) (w : World) (hL : Laid w) (wp : -9223372036854775808 ≤ p ∧ p ≤ 9223372036854775807) (hC : Cols w.heap.size w v a) (hD : Cols w.heap.size w v2 b) (hf0 : Few6 a) (hf1 : ¬ Few6 b) :
    Calls Tryz.prog 9 #[.int .i64 p, v, v2] w fun e w' => e = .returned (.bool true) ∧ Below w.heap.size w w' := by
  obtain ⟨A, cap, rfl, _, _⟩ := id hC
  obtain ⟨A', cap', rfl, _, _⟩ := id hD
  have HF0 := Lib.hid (fun (U : World) (hU : Below w.heap.size w U) => few6_any _ a U (hC.below hU) true (by simp [hf0]))
  have HF1 := Lib.hid (fun (U : World) (hU : Below w.heap.size w U) => few6_any _ b U (hD.below hU) false (by simp [hf1]))
  clear hf0 hf1 hC hD
  generalize a.length = na at *
  generalize b.length = nb at *
  have HSS := Lib.hid (fun (U : World) (_ : Below w.heap.size w U) => (trivial : (fun _ : World => True) U))
  go_enter Tryz.func9, Tryz.ntmps9
  go_wp2_with fail
  have hB : Below w.heap.size w w.drew := (Below.refl _ _).drew
  have hS : (fun _ : World => True) w.drew := HSS.out _ hB
  refine (wpIn_wide (n := 12)).1 (wpIn_mono (region_HF (Q := NoPanic _) (S := (fun _ : World => True)) (by kernel_rfl) ?_) NoPanic.imp)
  refine anyHF_take (i := 0) (d := 20) (v := .slice A na cap) (by kernel_rfl) rfl (by kernel_rfl) (by kernel_rfl) (by kernel_rfl) rfl (fun _ _ _ h => h) ⟨Or.inl ⟨by rfl, fun w hS => by have h0 := hS; go_simp⟩, fun _ => rfl⟩ hS ?_
  simp only [upd]
  refine anyHF_one (i := 1) (by kernel_rfl) rfl (by kernel_rfl) (by rfl) ?_
  gi_wp2_with fail
  refine ⟨trivial, (callsIn_wide.2 (HF0.out _ hB)).mono ?_⟩
  rintro e wn ⟨rfl, rfl⟩
  gi_wp2
  try (refine ⟨hS, ?_⟩)
  refine anyHF_take (i := 2) (d := 22) (v := .bool false) (by kernel_rfl) rfl (by kernel_rfl) (by kernel_rfl) (by kernel_rfl) rfl (fun _ _ _ h => h) ⟨Or.inl ⟨by rfl, fun w hS => by have h0 := hS; go_simp⟩, fun _ => rfl⟩ hS ?_
  simp only [upd]
  refine anyHF_take (i := 3) (d := 23) (v := .bool false) (by kernel_rfl) rfl (by kernel_rfl) (by kernel_rfl) (by kernel_rfl) rfl (fun _ _ _ h => h) ⟨Or.inl ⟨by rfl, fun w hS => by have h0 := hS; go_simp⟩, fun _ => rfl⟩ hS ?_
  simp only [upd]
  refine anyHF_take (i := 4) (d := 24) (v := .slice A' nb cap') (by kernel_rfl) rfl (by kernel_rfl) (by kernel_rfl) (by kernel_rfl) rfl (fun _ _ _ h => h) ⟨Or.inl ⟨by rfl, fun w hS => by have h0 := hS; go_simp⟩, fun _ => rfl⟩ hS ?_
  simp only [upd]
  refine anyHF_one (i := 5) (by kernel_rfl) rfl (by kernel_rfl) (by rfl) ?_
  gi_wp2_with fail
  refine ⟨trivial, (callsIn_wide.2 (HF1.out _ hB)).mono ?_⟩
  rintro e wn ⟨rfl, rfl⟩
  gi_wp2
  try (refine ⟨hS, ?_⟩)
  refine anyHF_take (i := 6) (d := 26) (v := .bool true) (by kernel_rfl) rfl (by kernel_rfl) (by kernel_rfl) (by kernel_rfl) rfl (fun _ _ _ h => h) ⟨Or.inl ⟨by rfl, fun w hS => by have h0 := hS; go_simp⟩, fun _ => rfl⟩ hS ?_
  simp only [upd]
  refine anyHF_take (i := 7) (d := 27) (v := .bool true) (by kernel_rfl) rfl (by kernel_rfl) (by kernel_rfl) (by kernel_rfl) rfl (fun _ _ _ h => h) ⟨Or.inl ⟨by rfl, fun w hS => by have h0 := hS; go_simp⟩, fun _ => rfl⟩ hS ?_
  simp only [upd]
  refine anyHF_take (i := 8) (d := 28) (v := .bool true) (by kernel_rfl) rfl (by kernel_rfl) (by kernel_rfl) (by kernel_rfl) rfl (fun _ _ _ h => h) ⟨Or.inl ⟨by rfl, fun w hS => by have h0 := hS; go_simp⟩, fun _ => rfl⟩ hS ?_
  simp only [upd]
  refine anyHF_take (i := 9) (d := 29) (v := undef) (by kernel_rfl) rfl (by kernel_rfl) (by kernel_rfl) (by kernel_rfl) rfl (fun _ _ _ h => h) ⟨Or.inr ⟨by rfl, rfl⟩, fun _ => rfl⟩ hS ?_
  simp only [upd]
  refine anyHF_take (i := 10) (d := 30) (v := undef) (by kernel_rfl) rfl (by kernel_rfl) (by kernel_rfl) (by kernel_rfl) rfl (fun _ _ _ h => h) ⟨Or.inr ⟨by rfl, rfl⟩, fun _ => rfl⟩ hS ?_
  simp only [upd]
  refine anyHF_skip (i := 11) (d := 31) (by kernel_rfl) rfl (by rfl) rfl wide_fn hS ?_
  simp only [upd]
  refine anyHF_take (i := 12) (d := 32) (v := undef) (by kernel_rfl) rfl (by kernel_rfl) (by kernel_rfl) (by kernel_rfl) rfl (fun _ _ _ h => h) ⟨Or.inr ⟨by rfl, rfl⟩, fun _ => rfl⟩ hS ?_
  simp only [upd]
  refine anyHF_take (i := 13) (d := 33) (v := .bool true) (by kernel_rfl) rfl (by kernel_rfl) (by kernel_rfl) (by kernel_rfl) rfl (fun _ _ _ h => h) ⟨Or.inl ⟨by rfl, fun w hS => by have h0 := hS; go_simp⟩, fun _ => rfl⟩ hS ?_
  simp only [upd]
  refine anyHF_take (i := 14) (d := 34) (v := .bool true) (by kernel_rfl) rfl (by kernel_rfl) (by kernel_rfl) (by kernel_rfl) rfl (fun _ _ _ h => h) ⟨Or.inl ⟨by rfl, fun w hS => by have h0 := hS; go_simp⟩, fun _ => rfl⟩ hS ?_
  simp only [upd]
  refine anyHF_take (i := 15) (d := 35) (v := undef) (by kernel_rfl) rfl (by kernel_rfl) (by kernel_rfl) (by kernel_rfl) rfl (fun _ _ _ h => h) ⟨Or.inr ⟨by rfl, rfl⟩, fun _ => rfl⟩ hS ?_
  simp only [upd]
  refine anyHF_take (i := 16) (d := 36) (v := undef) (by kernel_rfl) rfl (by kernel_rfl) (by kernel_rfl) (by kernel_rfl) rfl (fun _ _ _ h => h) ⟨Or.inr ⟨by rfl, rfl⟩, fun _ => rfl⟩ hS ?_
  simp only [upd]
  refine anyHF_skip (i := 17) (d := 37) (by kernel_rfl) rfl (by rfl) rfl wide_fn hS ?_
  simp only [upd]
  refine anyHF_take (i := 18) (d := 38) (v := undef) (by kernel_rfl) rfl (by kernel_rfl) (by kernel_rfl) (by kernel_rfl) rfl (fun _ _ _ h => h) ⟨Or.inr ⟨by rfl, rfl⟩, fun _ => rfl⟩ hS ?_
  simp only [upd]
  refine anyHF_take (i := 19) (d := 39) (v := .bool true) (by kernel_rfl) rfl (by kernel_rfl) (by kernel_rfl) (by kernel_rfl) rfl (fun _ _ _ h => h) ⟨Or.inl ⟨by rfl, fun w hS => by have h0 := hS; go_simp⟩, fun _ => rfl⟩ hS ?_
  simp only [upd]
  refine anyHF_take (i := 20) (d := 40) (v := .bool true) (by kernel_rfl) rfl (by kernel_rfl) (by kernel_rfl) (by kernel_rfl) rfl (fun _ _ _ h => h) ⟨Or.inl ⟨by rfl, fun w hS => by have h0 := hS; go_simp⟩, fun _ => rfl⟩ hS ?_
  simp only [upd]
  refine anyHF_take (i := 21) (d := 41) (v := undef) (by kernel_rfl) rfl (by kernel_rfl) (by kernel_rfl) (by kernel_rfl) rfl (fun _ _ _ h => h) ⟨Or.inr ⟨by rfl, rfl⟩, fun _ => rfl⟩ hS ?_
  simp only [upd]
  refine anyHF_take (i := 22) (d := 42) (v := undef) (by kernel_rfl) rfl (by kernel_rfl) (by kernel_rfl) (by kernel_rfl) rfl (fun _ _ _ h => h) ⟨Or.inr ⟨by rfl, rfl⟩, fun _ => rfl⟩ hS ?_
  simp only [upd]
  refine anyHF_take (i := 23) (d := 43) (v := undef) (by kernel_rfl) rfl (by kernel_rfl) (by kernel_rfl) (by kernel_rfl) rfl (fun _ _ _ h => h) ⟨Or.inr ⟨by rfl, rfl⟩, fun _ => rfl⟩ hS ?_
  simp only [upd]
  refine anyHF_take (i := 24) (d := 44) (v := undef) (by kernel_rfl) rfl (by kernel_rfl) (by kernel_rfl) (by kernel_rfl) rfl (fun _ _ _ h => h) ⟨Or.inr ⟨by rfl, rfl⟩, fun _ => rfl⟩ hS ?_
  simp only [upd]
  refine anyHF_take (i := 25) (d := 45) (v := undef) (by kernel_rfl) rfl (by kernel_rfl) (by kernel_rfl) (by kernel_rfl) rfl (fun _ _ _ h => h) ⟨Or.inr ⟨by rfl, rfl⟩, fun _ => rfl⟩ hS ?_
  simp only [upd]
  refine anyHF_take (i := 26) (d := 46) (v := undef) (by kernel_rfl) rfl (by kernel_rfl) (by kernel_rfl) (by kernel_rfl) rfl (fun _ _ _ h => h) ⟨Or.inr ⟨by rfl, rfl⟩, fun _ => rfl⟩ hS ?_
  simp only [upd]
  refine anyHF_take (i := 27) (d := 47) (v := undef) (by kernel_rfl) rfl (by kernel_rfl) (by kernel_rfl) (by kernel_rfl) rfl (fun _ _ _ h => h) ⟨Or.inr ⟨by rfl, rfl⟩, fun _ => rfl⟩ hS ?_
  simp only [upd]
  refine anyHF_take (i := 28) (d := 48) (v := undef) (by kernel_rfl) rfl (by kernel_rfl) (by kernel_rfl) (by kernel_rfl) rfl (fun _ _ _ h => h) ⟨Or.inr ⟨by rfl, rfl⟩, fun _ => rfl⟩ hS ?_
  simp only [upd]
  refine anyHF_take (i := 29) (d := 49) (v := undef) (by kernel_rfl) rfl (by kernel_rfl) (by kernel_rfl) (by kernel_rfl) rfl (fun _ _ _ h => h) ⟨Or.inr ⟨by rfl, rfl⟩, fun _ => rfl⟩ hS ?_
  simp only [upd]
  refine anyHF_take (i := 30) (d := 50) (v := undef) (by kernel_rfl) rfl (by kernel_rfl) (by kernel_rfl) (by kernel_rfl) rfl (fun _ _ _ h => h) ⟨Or.inr ⟨by rfl, rfl⟩, fun _ => rfl⟩ hS ?_
  simp only [upd]
  refine anyHF_take (i := 31) (d := 51) (v := undef) (by kernel_rfl) rfl (by kernel_rfl) (by kernel_rfl) (by kernel_rfl) rfl (fun _ _ _ h => h) ⟨Or.inr ⟨by rfl, rfl⟩, fun _ => rfl⟩ hS ?_
  simp only [upd]
  refine anyHF_take (i := 32) (d := 52) (v := undef) (by kernel_rfl) rfl (by kernel_rfl) (by kernel_rfl) (by kernel_rfl) rfl (fun _ _ _ h => h) ⟨Or.inr ⟨by rfl, rfl⟩, fun _ => rfl⟩ hS ?_
  simp only [upd]
  refine anyHF_take (i := 33) (d := 53) (v := undef) (by kernel_rfl) rfl (by kernel_rfl) (by kernel_rfl) (by kernel_rfl) rfl (fun _ _ _ h => h) ⟨Or.inr ⟨by rfl, rfl⟩, fun _ => rfl⟩ hS ?_
  simp only [upd]
  refine anyHF_take (i := 34) (d := 54) (v := .bool true) (by kernel_rfl) rfl (by kernel_rfl) (by kernel_rfl) (by kernel_rfl) rfl (fun _ _ _ h => h) ⟨Or.inl ⟨by rfl, fun w hS => by have h0 := hS; go_simp⟩, fun _ => rfl⟩ hS ?_
  simp only [upd]
  refine anyHF_done (by kernel_rfl) ?_ _
  refine NoPanic.normal ?_
  clear hS
  go_wp2_with (go_at_call 26; refine (Go.Proofs.YtggdlklkjnbbjaaGreatDoor.R.works_any _ (hL.next hB)).mono ?_; rintro e w1 ⟨rfl, hB1⟩)
  go_ret
  exact ⟨rfl, below_in hB hB1⟩

open Go.Proofs.YtggdlklkjnbbjaaGreatDoor.E Go.Proofs.YtggdlklkjnbbjaaGreatDoor.C Go.Proofs.YtggdlklkjnbbjaaGreatDoor.R in
set_option maxRecDepth 100000 in
set_option maxHeartbeats 4000000 in
theorem n3 (p : Int) (v : Value) (a : List (List (List UInt8))) (v2 : Value) (b : List (List (List UInt8))) (w : World) (hL : Laid w) (wp : -9223372036854775808 ≤ p ∧ p ≤ 9223372036854775807) (hC : Cols w.heap.size w v a) (hD : Cols w.heap.size w v2 b) (hf0 : Few6 a) (hf1 : Few6 b) (hr0 : ¬ DataR p a) :
    Calls Tryz.prog 9 #[.int .i64 p, v, v2] w fun e w' => e = .returned (.bool true) ∧ Below w.heap.size w w' := by
  obtain ⟨A, cap, rfl, _, _⟩ := id hC
  obtain ⟨A', cap', rfl, _, _⟩ := id hD
  have HF0 := Lib.hid (fun (U : World) (hU : Below w.heap.size w U) => few6_any _ a U (hC.below hU) true (by simp [hf0]))
  have HF1 := Lib.hid (fun (U : World) (hU : Below w.heap.size w U) => few6_any _ b U (hD.below hU) true (by simp [hf1]))
  have HR0 := Lib.hid (fun (U : World) (hU : Below w.heap.size w U) => Go.Proofs.YtggdlklkjnbbjaaGreatDoor.R.lright_any p _ a U hU.size (hC.below hU) (by have := hf0.1; omega) false (by simp [hr0]))
  clear hf0 hf1 hr0 hC hD
  generalize a.length = na at *
  generalize b.length = nb at *
  have HSS := Lib.hid (fun (U : World) (_ : Below w.heap.size w U) => (trivial : (fun _ : World => True) U))
  go_enter Tryz.func9, Tryz.ntmps9
  go_wp2_with fail
  have hB : Below w.heap.size w w.drew := (Below.refl _ _).drew
  have hS : (fun _ : World => True) w.drew := HSS.out _ hB
  refine (wpIn_wide (n := 12)).1 (wpIn_mono (region_HF (Q := NoPanic _) (S := (fun _ : World => True)) (by kernel_rfl) ?_) NoPanic.imp)
  refine anyHF_take (i := 0) (d := 20) (v := .slice A na cap) (by kernel_rfl) rfl (by kernel_rfl) (by kernel_rfl) (by kernel_rfl) rfl (fun _ _ _ h => h) ⟨Or.inl ⟨by rfl, fun w hS => by have h0 := hS; go_simp⟩, fun _ => rfl⟩ hS ?_
  simp only [upd]
  refine anyHF_one (i := 1) (by kernel_rfl) rfl (by kernel_rfl) (by rfl) ?_
  gi_wp2_with fail
  refine ⟨trivial, (callsIn_wide.2 (HF0.out _ hB)).mono ?_⟩
  rintro e wn ⟨rfl, rfl⟩
  gi_wp2
  try (refine ⟨hS, ?_⟩)
  refine anyHF_take (i := 2) (d := 22) (v := .bool false) (by kernel_rfl) rfl (by kernel_rfl) (by kernel_rfl) (by kernel_rfl) rfl (fun _ _ _ h => h) ⟨Or.inl ⟨by rfl, fun w hS => by have h0 := hS; go_simp⟩, fun _ => rfl⟩ hS ?_
  simp only [upd]
  refine anyHF_take (i := 3) (d := 23) (v := .bool false) (by kernel_rfl) rfl (by kernel_rfl) (by kernel_rfl) (by kernel_rfl) rfl (fun _ _ _ h => h) ⟨Or.inl ⟨by rfl, fun w hS => by have h0 := hS; go_simp⟩, fun _ => rfl⟩ hS ?_
  simp only [upd]
  refine anyHF_take (i := 4) (d := 24) (v := .slice A' nb cap') (by kernel_rfl) rfl (by kernel_rfl) (by kernel_rfl) (by kernel_rfl) rfl (fun _ _ _ h => h) ⟨Or.inl ⟨by rfl, fun w hS => by have h0 := hS; go_simp⟩, fun _ => rfl⟩ hS ?_
  simp only [upd]
  refine anyHF_one (i := 5) (by kernel_rfl) rfl (by kernel_rfl) (by rfl) ?_
  gi_wp2_with fail
  refine ⟨trivial, (callsIn_wide.2 (HF1.out _ hB)).mono ?_⟩
  rintro e wn ⟨rfl, rfl⟩
  gi_wp2
  try (refine ⟨hS, ?_⟩)
  refine anyHF_take (i := 6) (d := 26) (v := .bool false) (by kernel_rfl) rfl (by kernel_rfl) (by kernel_rfl) (by kernel_rfl) rfl (fun _ _ _ h => h) ⟨Or.inl ⟨by rfl, fun w hS => by have h0 := hS; go_simp⟩, fun _ => rfl⟩ hS ?_
  simp only [upd]
  refine anyHF_take (i := 7) (d := 27) (v := .bool false) (by kernel_rfl) rfl (by kernel_rfl) (by kernel_rfl) (by kernel_rfl) rfl (fun _ _ _ h => h) ⟨Or.inl ⟨by rfl, fun w hS => by have h0 := hS; go_simp⟩, fun _ => rfl⟩ hS ?_
  simp only [upd]
  refine anyHF_take (i := 8) (d := 28) (v := .bool false) (by kernel_rfl) rfl (by kernel_rfl) (by kernel_rfl) (by kernel_rfl) rfl (fun _ _ _ h => h) ⟨Or.inl ⟨by rfl, fun w hS => by have h0 := hS; go_simp⟩, fun _ => rfl⟩ hS ?_
  simp only [upd]
  refine anyHF_take (i := 9) (d := 29) (v := .int .i64 p) (by kernel_rfl) rfl (by kernel_rfl) (by kernel_rfl) (by kernel_rfl) rfl (fun _ _ _ h => h) ⟨Or.inl ⟨by rfl, fun w hS => by have h0 := hS; go_simp⟩, fun _ => rfl⟩ hS ?_
  simp only [upd]
  refine anyHF_take (i := 10) (d := 30) (v := .slice A na cap) (by kernel_rfl) rfl (by kernel_rfl) (by kernel_rfl) (by kernel_rfl) rfl (fun _ _ _ h => h) ⟨Or.inl ⟨by rfl, fun w hS => by have h0 := hS; go_simp⟩, fun _ => rfl⟩ hS ?_
  simp only [upd]
  refine anyHF_one (i := 11) (by kernel_rfl) rfl (by kernel_rfl) (by rfl) ?_
  gi_wp2_with fail
  refine ⟨trivial, (callsIn_wide.2 (HR0.out _ hB)).mono ?_⟩
  rintro e wn ⟨rfl, hBn⟩
  replace hB := below_in hB hBn
  clear hBn
  clear hS
  have hS : (fun _ : World => True) wn := HSS.out _ hB
  gi_wp2
  try (refine ⟨hS, ?_⟩)
  refine anyHF_take (i := 12) (d := 32) (v := .bool true) (by kernel_rfl) rfl (by kernel_rfl) (by kernel_rfl) (by kernel_rfl) rfl (fun _ _ _ h => h) ⟨Or.inl ⟨by rfl, fun w hS => by have h0 := hS; go_simp⟩, fun _ => rfl⟩ hS ?_
  simp only [upd]
  refine anyHF_take (i := 13) (d := 33) (v := .bool true) (by kernel_rfl) rfl (by kernel_rfl) (by kernel_rfl) (by kernel_rfl) rfl (fun _ _ _ h => h) ⟨Or.inl ⟨by rfl, fun w hS => by have h0 := hS; go_simp⟩, fun _ => rfl⟩ hS ?_
  simp only [upd]
  refine anyHF_take (i := 14) (d := 34) (v := .bool true) (by kernel_rfl) rfl (by kernel_rfl) (by kernel_rfl) (by kernel_rfl) rfl (fun _ _ _ h => h) ⟨Or.inl ⟨by rfl, fun w hS => by have h0 := hS; go_simp⟩, fun _ => rfl⟩ hS ?_
  simp only [upd]
  refine anyHF_take (i := 15) (d := 35) (v := undef) (by kernel_rfl) rfl (by kernel_rfl) (by kernel_rfl) (by kernel_rfl) rfl (fun _ _ _ h => h) ⟨Or.inr ⟨by rfl, rfl⟩, fun _ => rfl⟩ hS ?_
  simp only [upd]
  refine anyHF_take (i := 16) (d := 36) (v := undef) (by kernel_rfl) rfl (by kernel_rfl) (by kernel_rfl) (by kernel_rfl) rfl (fun _ _ _ h => h) ⟨Or.inr ⟨by rfl, rfl⟩, fun _ => rfl⟩ hS ?_
  simp only [upd]
  refine anyHF_skip (i := 17) (d := 37) (by kernel_rfl) rfl (by rfl) rfl wide_fn hS ?_
  simp only [upd]
  refine anyHF_take (i := 18) (d := 38) (v := undef) (by kernel_rfl) rfl (by kernel_rfl) (by kernel_rfl) (by kernel_rfl) rfl (fun _ _ _ h => h) ⟨Or.inr ⟨by rfl, rfl⟩, fun _ => rfl⟩ hS ?_
  simp only [upd]
  refine anyHF_take (i := 19) (d := 39) (v := .bool true) (by kernel_rfl) rfl (by kernel_rfl) (by kernel_rfl) (by kernel_rfl) rfl (fun _ _ _ h => h) ⟨Or.inl ⟨by rfl, fun w hS => by have h0 := hS; go_simp⟩, fun _ => rfl⟩ hS ?_
  simp only [upd]
  refine anyHF_take (i := 20) (d := 40) (v := .bool true) (by kernel_rfl) rfl (by kernel_rfl) (by kernel_rfl) (by kernel_rfl) rfl (fun _ _ _ h => h) ⟨Or.inl ⟨by rfl, fun w hS => by have h0 := hS; go_simp⟩, fun _ => rfl⟩ hS ?_
  simp only [upd]
  refine anyHF_take (i := 21) (d := 41) (v := undef) (by kernel_rfl) rfl (by kernel_rfl) (by kernel_rfl) (by kernel_rfl) rfl (fun _ _ _ h => h) ⟨Or.inr ⟨by rfl, rfl⟩, fun _ => rfl⟩ hS ?_
  simp only [upd]
  refine anyHF_take (i := 22) (d := 42) (v := undef) (by kernel_rfl) rfl (by kernel_rfl) (by kernel_rfl) (by kernel_rfl) rfl (fun _ _ _ h => h) ⟨Or.inr ⟨by rfl, rfl⟩, fun _ => rfl⟩ hS ?_
  simp only [upd]
  refine anyHF_take (i := 23) (d := 43) (v := undef) (by kernel_rfl) rfl (by kernel_rfl) (by kernel_rfl) (by kernel_rfl) rfl (fun _ _ _ h => h) ⟨Or.inr ⟨by rfl, rfl⟩, fun _ => rfl⟩ hS ?_
  simp only [upd]
  refine anyHF_take (i := 24) (d := 44) (v := undef) (by kernel_rfl) rfl (by kernel_rfl) (by kernel_rfl) (by kernel_rfl) rfl (fun _ _ _ h => h) ⟨Or.inr ⟨by rfl, rfl⟩, fun _ => rfl⟩ hS ?_
  simp only [upd]
  refine anyHF_take (i := 25) (d := 45) (v := undef) (by kernel_rfl) rfl (by kernel_rfl) (by kernel_rfl) (by kernel_rfl) rfl (fun _ _ _ h => h) ⟨Or.inr ⟨by rfl, rfl⟩, fun _ => rfl⟩ hS ?_
  simp only [upd]
  refine anyHF_take (i := 26) (d := 46) (v := undef) (by kernel_rfl) rfl (by kernel_rfl) (by kernel_rfl) (by kernel_rfl) rfl (fun _ _ _ h => h) ⟨Or.inr ⟨by rfl, rfl⟩, fun _ => rfl⟩ hS ?_
  simp only [upd]
  refine anyHF_take (i := 27) (d := 47) (v := undef) (by kernel_rfl) rfl (by kernel_rfl) (by kernel_rfl) (by kernel_rfl) rfl (fun _ _ _ h => h) ⟨Or.inr ⟨by rfl, rfl⟩, fun _ => rfl⟩ hS ?_
  simp only [upd]
  refine anyHF_take (i := 28) (d := 48) (v := undef) (by kernel_rfl) rfl (by kernel_rfl) (by kernel_rfl) (by kernel_rfl) rfl (fun _ _ _ h => h) ⟨Or.inr ⟨by rfl, rfl⟩, fun _ => rfl⟩ hS ?_
  simp only [upd]
  refine anyHF_take (i := 29) (d := 49) (v := undef) (by kernel_rfl) rfl (by kernel_rfl) (by kernel_rfl) (by kernel_rfl) rfl (fun _ _ _ h => h) ⟨Or.inr ⟨by rfl, rfl⟩, fun _ => rfl⟩ hS ?_
  simp only [upd]
  refine anyHF_take (i := 30) (d := 50) (v := undef) (by kernel_rfl) rfl (by kernel_rfl) (by kernel_rfl) (by kernel_rfl) rfl (fun _ _ _ h => h) ⟨Or.inr ⟨by rfl, rfl⟩, fun _ => rfl⟩ hS ?_
  simp only [upd]
  refine anyHF_take (i := 31) (d := 51) (v := undef) (by kernel_rfl) rfl (by kernel_rfl) (by kernel_rfl) (by kernel_rfl) rfl (fun _ _ _ h => h) ⟨Or.inr ⟨by rfl, rfl⟩, fun _ => rfl⟩ hS ?_
  simp only [upd]
  refine anyHF_take (i := 32) (d := 52) (v := undef) (by kernel_rfl) rfl (by kernel_rfl) (by kernel_rfl) (by kernel_rfl) rfl (fun _ _ _ h => h) ⟨Or.inr ⟨by rfl, rfl⟩, fun _ => rfl⟩ hS ?_
  simp only [upd]
  refine anyHF_take (i := 33) (d := 53) (v := undef) (by kernel_rfl) rfl (by kernel_rfl) (by kernel_rfl) (by kernel_rfl) rfl (fun _ _ _ h => h) ⟨Or.inr ⟨by rfl, rfl⟩, fun _ => rfl⟩ hS ?_
  simp only [upd]
  refine anyHF_take (i := 34) (d := 54) (v := .bool true) (by kernel_rfl) rfl (by kernel_rfl) (by kernel_rfl) (by kernel_rfl) rfl (fun _ _ _ h => h) ⟨Or.inl ⟨by rfl, fun w hS => by have h0 := hS; go_simp⟩, fun _ => rfl⟩ hS ?_
  simp only [upd]
  refine anyHF_done (by kernel_rfl) ?_ _
  refine NoPanic.normal ?_
  clear hS
  go_wp2_with (go_at_call 26; refine (Go.Proofs.YtggdlklkjnbbjaaGreatDoor.R.works_any _ (hL.next hB)).mono ?_; rintro e w1 ⟨rfl, hB1⟩)
  go_ret
  exact ⟨rfl, below_in hB hB1⟩

open Go.Proofs.YtggdlklkjnbbjaaGreatDoor.E Go.Proofs.YtggdlklkjnbbjaaGreatDoor.C Go.Proofs.YtggdlklkjnbbjaaGreatDoor.R in
set_option maxRecDepth 100000 in
set_option maxHeartbeats 4000000 in
theorem n4 (p : Int) (v : Value) (a : List (List (List UInt8))) (v2 : Value) (b : List (List (List UInt8))) (w : World) (hL : Laid w) (wp : -9223372036854775808 ≤ p ∧ p ≤ 9223372036854775807) (hC : Cols w.heap.size w v a) (hD : Cols w.heap.size w v2 b) (hf0 : Few6 a) (hf1 : Few6 b) (hr0 : DataR p a) (hr1 : ¬ DataR p b) :
    Calls Tryz.prog 9 #[.int .i64 p, v, v2] w fun e w' => e = .returned (.bool true) ∧ Below w.heap.size w w' := by
  obtain ⟨A, cap, rfl, _, _⟩ := id hC
  obtain ⟨A', cap', rfl, _, _⟩ := id hD
  have HF0 := Lib.hid (fun (U : World) (hU : Below w.heap.size w U) => few6_any _ a U (hC.below hU) true (by simp [hf0]))
  have HF1 := Lib.hid (fun (U : World) (hU : Below w.heap.size w U) => few6_any _ b U (hD.below hU) true (by simp [hf1]))
  have HR0 := Lib.hid (fun (U : World) (hU : Below w.heap.size w U) => Go.Proofs.YtggdlklkjnbbjaaGreatDoor.R.lright_any p _ a U hU.size (hC.below hU) (by have := hf0.1; omega) true (by simp [hr0]))
  have HR1 := Lib.hid (fun (U : World) (hU : Below w.heap.size w U) => Go.Proofs.YtggdlklkjnbbjaaGreatDoor.R.lright_any p _ b U hU.size (hD.below hU) (by have := hf1.1; omega) false (by simp [hr1]))
  clear hf0 hf1 hr0 hr1 hC hD
  generalize a.length = na at *
  generalize b.length = nb at *
  have HSS := Lib.hid (fun (U : World) (_ : Below w.heap.size w U) => (trivial : (fun _ : World => True) U))
  go_enter Tryz.func9, Tryz.ntmps9
  go_wp2_with fail
  have hB : Below w.heap.size w w.drew := (Below.refl _ _).drew
  have hS : (fun _ : World => True) w.drew := HSS.out _ hB
  refine (wpIn_wide (n := 12)).1 (wpIn_mono (region_HF (Q := NoPanic _) (S := (fun _ : World => True)) (by kernel_rfl) ?_) NoPanic.imp)
  refine anyHF_take (i := 0) (d := 20) (v := .slice A na cap) (by kernel_rfl) rfl (by kernel_rfl) (by kernel_rfl) (by kernel_rfl) rfl (fun _ _ _ h => h) ⟨Or.inl ⟨by rfl, fun w hS => by have h0 := hS; go_simp⟩, fun _ => rfl⟩ hS ?_
  simp only [upd]
  refine anyHF_one (i := 1) (by kernel_rfl) rfl (by kernel_rfl) (by rfl) ?_
  gi_wp2_with fail
  refine ⟨trivial, (callsIn_wide.2 (HF0.out _ hB)).mono ?_⟩
  rintro e wn ⟨rfl, rfl⟩
  gi_wp2
  try (refine ⟨hS, ?_⟩)
  refine anyHF_take (i := 2) (d := 22) (v := .bool false) (by kernel_rfl) rfl (by kernel_rfl) (by kernel_rfl) (by kernel_rfl) rfl (fun _ _ _ h => h) ⟨Or.inl ⟨by rfl, fun w hS => by have h0 := hS; go_simp⟩, fun _ => rfl⟩ hS ?_
  simp only [upd]
  refine anyHF_take (i := 3) (d := 23) (v := .bool false) (by kernel_rfl) rfl (by kernel_rfl) (by kernel_rfl) (by kernel_rfl) rfl (fun _ _ _ h => h) ⟨Or.inl ⟨by rfl, fun w hS => by have h0 := hS; go_simp⟩, fun _ => rfl⟩ hS ?_
  simp only [upd]
  refine anyHF_take (i := 4) (d := 24) (v := .slice A' nb cap') (by kernel_rfl) rfl (by kernel_rfl) (by kernel_rfl) (by kernel_rfl) rfl (fun _ _ _ h => h) ⟨Or.inl ⟨by rfl, fun w hS => by have h0 := hS; go_simp⟩, fun _ => rfl⟩ hS ?_
  simp only [upd]
  refine anyHF_one (i := 5) (by kernel_rfl) rfl (by kernel_rfl) (by rfl) ?_
  gi_wp2_with fail
  refine ⟨trivial, (callsIn_wide.2 (HF1.out _ hB)).mono ?_⟩
  rintro e wn ⟨rfl, rfl⟩
  gi_wp2
  try (refine ⟨hS, ?_⟩)
  refine anyHF_take (i := 6) (d := 26) (v := .bool false) (by kernel_rfl) rfl (by kernel_rfl) (by kernel_rfl) (by kernel_rfl) rfl (fun _ _ _ h => h) ⟨Or.inl ⟨by rfl, fun w hS => by have h0 := hS; go_simp⟩, fun _ => rfl⟩ hS ?_
  simp only [upd]
  refine anyHF_take (i := 7) (d := 27) (v := .bool false) (by kernel_rfl) rfl (by kernel_rfl) (by kernel_rfl) (by kernel_rfl) rfl (fun _ _ _ h => h) ⟨Or.inl ⟨by rfl, fun w hS => by have h0 := hS; go_simp⟩, fun _ => rfl⟩ hS ?_
  simp only [upd]
  refine anyHF_take (i := 8) (d := 28) (v := .bool false) (by kernel_rfl) rfl (by kernel_rfl) (by kernel_rfl) (by kernel_rfl) rfl (fun _ _ _ h => h) ⟨Or.inl ⟨by rfl, fun w hS => by have h0 := hS; go_simp⟩, fun _ => rfl⟩ hS ?_
  simp only [upd]
  refine anyHF_take (i := 9) (d := 29) (v := .int .i64 p) (by kernel_rfl) rfl (by kernel_rfl) (by kernel_rfl) (by kernel_rfl) rfl (fun _ _ _ h => h) ⟨Or.inl ⟨by rfl, fun w hS => by have h0 := hS; go_simp⟩, fun _ => rfl⟩ hS ?_
  simp only [upd]
  refine anyHF_take (i := 10) (d := 30) (v := .slice A na cap) (by kernel_rfl) rfl (by kernel_rfl) (by kernel_rfl) (by kernel_rfl) rfl (fun _ _ _ h => h) ⟨Or.inl ⟨by rfl, fun w hS => by have h0 := hS; go_simp⟩, fun _ => rfl⟩ hS ?_
  simp only [upd]
  refine anyHF_one (i := 11) (by kernel_rfl) rfl (by kernel_rfl) (by rfl) ?_
  gi_wp2_with fail
  refine ⟨trivial, (callsIn_wide.2 (HR0.out _ hB)).mono ?_⟩
  rintro e wn ⟨rfl, hBn⟩
  replace hB := below_in hB hBn
  clear hBn
  clear hS
  have hS : (fun _ : World => True) wn := HSS.out _ hB
  gi_wp2
  try (refine ⟨hS, ?_⟩)
  refine anyHF_take (i := 12) (d := 32) (v := .bool false) (by kernel_rfl) rfl (by kernel_rfl) (by kernel_rfl) (by kernel_rfl) rfl (fun _ _ _ h => h) ⟨Or.inl ⟨by rfl, fun w hS => by have h0 := hS; go_simp⟩, fun _ => rfl⟩ hS ?_
  simp only [upd]
  refine anyHF_take (i := 13) (d := 33) (v := .bool false) (by kernel_rfl) rfl (by kernel_rfl) (by kernel_rfl) (by kernel_rfl) rfl (fun _ _ _ h => h) ⟨Or.inl ⟨by rfl, fun w hS => by have h0 := hS; go_simp⟩, fun _ => rfl⟩ hS ?_
  simp only [upd]
  refine anyHF_take (i := 14) (d := 34) (v := .bool false) (by kernel_rfl) rfl (by kernel_rfl) (by kernel_rfl) (by kernel_rfl) rfl (fun _ _ _ h => h) ⟨Or.inl ⟨by rfl, fun w hS => by have h0 := hS; go_simp⟩, fun _ => rfl⟩ hS ?_
  simp only [upd]
  refine anyHF_take (i := 15) (d := 35) (v := .int .i64 p) (by kernel_rfl) rfl (by kernel_rfl) (by kernel_rfl) (by kernel_rfl) rfl (fun _ _ _ h => h) ⟨Or.inl ⟨by rfl, fun w hS => by have h0 := hS; go_simp⟩, fun _ => rfl⟩ hS ?_
  simp only [upd]
  refine anyHF_take (i := 16) (d := 36) (v := .slice A' nb cap') (by kernel_rfl) rfl (by kernel_rfl) (by kernel_rfl) (by kernel_rfl) rfl (fun _ _ _ h => h) ⟨Or.inl ⟨by rfl, fun w hS => by have h0 := hS; go_simp⟩, fun _ => rfl⟩ hS ?_
  simp only [upd]
  refine anyHF_one (i := 17) (by kernel_rfl) rfl (by kernel_rfl) (by rfl) ?_
  gi_wp2_with fail
  refine ⟨trivial, (callsIn_wide.2 (HR1.out _ hB)).mono ?_⟩
  rintro e wn ⟨rfl, hBn⟩
  replace hB := below_in hB hBn
  clear hBn
  clear hS
  have hS : (fun _ : World => True) wn := HSS.out _ hB
  gi_wp2
  try (refine ⟨hS, ?_⟩)
  refine anyHF_take (i := 18) (d := 38) (v := .bool true) (by kernel_rfl) rfl (by kernel_rfl) (by kernel_rfl) (by kernel_rfl) rfl (fun _ _ _ h => h) ⟨Or.inl ⟨by rfl, fun w hS => by have h0 := hS; go_simp⟩, fun _ => rfl⟩ hS ?_
  simp only [upd]
  refine anyHF_take (i := 19) (d := 39) (v := .bool true) (by kernel_rfl) rfl (by kernel_rfl) (by kernel_rfl) (by kernel_rfl) rfl (fun _ _ _ h => h) ⟨Or.inl ⟨by rfl, fun w hS => by have h0 := hS; go_simp⟩, fun _ => rfl⟩ hS ?_
  simp only [upd]
  refine anyHF_take (i := 20) (d := 40) (v := .bool true) (by kernel_rfl) rfl (by kernel_rfl) (by kernel_rfl) (by kernel_rfl) rfl (fun _ _ _ h => h) ⟨Or.inl ⟨by rfl, fun w hS => by have h0 := hS; go_simp⟩, fun _ => rfl⟩ hS ?_
  simp only [upd]
  refine anyHF_take (i := 21) (d := 41) (v := undef) (by kernel_rfl) rfl (by kernel_rfl) (by kernel_rfl) (by kernel_rfl) rfl (fun _ _ _ h => h) ⟨Or.inr ⟨by rfl, rfl⟩, fun _ => rfl⟩ hS ?_
  simp only [upd]
  refine anyHF_take (i := 22) (d := 42) (v := undef) (by kernel_rfl) rfl (by kernel_rfl) (by kernel_rfl) (by kernel_rfl) rfl (fun _ _ _ h => h) ⟨Or.inr ⟨by rfl, rfl⟩, fun _ => rfl⟩ hS ?_
  simp only [upd]
  refine anyHF_take (i := 23) (d := 43) (v := undef) (by kernel_rfl) rfl (by kernel_rfl) (by kernel_rfl) (by kernel_rfl) rfl (fun _ _ _ h => h) ⟨Or.inr ⟨by rfl, rfl⟩, fun _ => rfl⟩ hS ?_
  simp only [upd]
  refine anyHF_take (i := 24) (d := 44) (v := undef) (by kernel_rfl) rfl (by kernel_rfl) (by kernel_rfl) (by kernel_rfl) rfl (fun _ _ _ h => h) ⟨Or.inr ⟨by rfl, rfl⟩, fun _ => rfl⟩ hS ?_
  simp only [upd]
  refine anyHF_take (i := 25) (d := 45) (v := undef) (by kernel_rfl) rfl (by kernel_rfl) (by kernel_rfl) (by kernel_rfl) rfl (fun _ _ _ h => h) ⟨Or.inr ⟨by rfl, rfl⟩, fun _ => rfl⟩ hS ?_
  simp only [upd]
  refine anyHF_take (i := 26) (d := 46) (v := undef) (by kernel_rfl) rfl (by kernel_rfl) (by kernel_rfl) (by kernel_rfl) rfl (fun _ _ _ h => h) ⟨Or.inr ⟨by rfl, rfl⟩, fun _ => rfl⟩ hS ?_
  simp only [upd]
  refine anyHF_take (i := 27) (d := 47) (v := undef) (by kernel_rfl) rfl (by kernel_rfl) (by kernel_rfl) (by kernel_rfl) rfl (fun _ _ _ h => h) ⟨Or.inr ⟨by rfl, rfl⟩, fun _ => rfl⟩ hS ?_
  simp only [upd]
  refine anyHF_take (i := 28) (d := 48) (v := undef) (by kernel_rfl) rfl (by kernel_rfl) (by kernel_rfl) (by kernel_rfl) rfl (fun _ _ _ h => h) ⟨Or.inr ⟨by rfl, rfl⟩, fun _ => rfl⟩ hS ?_
  simp only [upd]
  refine anyHF_take (i := 29) (d := 49) (v := undef) (by kernel_rfl) rfl (by kernel_rfl) (by kernel_rfl) (by kernel_rfl) rfl (fun _ _ _ h => h) ⟨Or.inr ⟨by rfl, rfl⟩, fun _ => rfl⟩ hS ?_
  simp only [upd]
  refine anyHF_take (i := 30) (d := 50) (v := undef) (by kernel_rfl) rfl (by kernel_rfl) (by kernel_rfl) (by kernel_rfl) rfl (fun _ _ _ h => h) ⟨Or.inr ⟨by rfl, rfl⟩, fun _ => rfl⟩ hS ?_
  simp only [upd]
  refine anyHF_take (i := 31) (d := 51) (v := undef) (by kernel_rfl) rfl (by kernel_rfl) (by kernel_rfl) (by kernel_rfl) rfl (fun _ _ _ h => h) ⟨Or.inr ⟨by rfl, rfl⟩, fun _ => rfl⟩ hS ?_
  simp only [upd]
  refine anyHF_take (i := 32) (d := 52) (v := undef) (by kernel_rfl) rfl (by kernel_rfl) (by kernel_rfl) (by kernel_rfl) rfl (fun _ _ _ h => h) ⟨Or.inr ⟨by rfl, rfl⟩, fun _ => rfl⟩ hS ?_
  simp only [upd]
  refine anyHF_take (i := 33) (d := 53) (v := undef) (by kernel_rfl) rfl (by kernel_rfl) (by kernel_rfl) (by kernel_rfl) rfl (fun _ _ _ h => h) ⟨Or.inr ⟨by rfl, rfl⟩, fun _ => rfl⟩ hS ?_
  simp only [upd]
  refine anyHF_take (i := 34) (d := 54) (v := .bool true) (by kernel_rfl) rfl (by kernel_rfl) (by kernel_rfl) (by kernel_rfl) rfl (fun _ _ _ h => h) ⟨Or.inl ⟨by rfl, fun w hS => by have h0 := hS; go_simp⟩, fun _ => rfl⟩ hS ?_
  simp only [upd]
  refine anyHF_done (by kernel_rfl) ?_ _
  refine NoPanic.normal ?_
  clear hS
  go_wp2_with (go_at_call 26; refine (Go.Proofs.YtggdlklkjnbbjaaGreatDoor.R.works_any _ (hL.next hB)).mono ?_; rintro e w1 ⟨rfl, hB1⟩)
  go_ret
  exact ⟨rfl, below_in hB hB1⟩

open Go.Proofs.YtggdlklkjnbbjaaGreatDoor.E Go.Proofs.YtggdlklkjnbbjaaGreatDoor.C Go.Proofs.YtggdlklkjnbbjaaGreatDoor.R in
set_option maxRecDepth 100000 in
set_option maxHeartbeats 4000000 in
theorem n5 (p : Int) (v : Value) (a : List (List (List UInt8))) (v2 : Value) (b : List (List (List UInt8))) (w : World) (hL : Laid w) (wp : -9223372036854775808 ≤ p ∧ p ≤ 9223372036854775807) (hC : Cols w.heap.size w v a) (hD : Cols w.heap.size w v2 b) (hf0 : Few6 a) (hf1 : Few6 b) (hr0 : DataR p a) (hr1 : DataR p b) (hl : ¬ (firstC a).length = (firstC b).length) :
    Calls Tryz.prog 9 #[.int .i64 p, v, v2] w fun e w' => e = .returned (.bool true) ∧ Below w.heap.size w w' := by
  obtain ⟨A, cap, rfl, _, _⟩ := id hC
  obtain ⟨A', cap', rfl, _, _⟩ := id hD
  have HF0 := Lib.hid (fun (U : World) (hU : Below w.heap.size w U) => few6_any _ a U (hC.below hU) true (by simp [hf0]))
  have HF1 := Lib.hid (fun (U : World) (hU : Below w.heap.size w U) => few6_any _ b U (hD.below hU) true (by simp [hf1]))
  have HR0 := Lib.hid (fun (U : World) (hU : Below w.heap.size w U) => Go.Proofs.YtggdlklkjnbbjaaGreatDoor.R.lright_any p _ a U hU.size (hC.below hU) (by have := hf0.1; omega) true (by simp [hr0]))
  have HR1 := Lib.hid (fun (U : World) (hU : Below w.heap.size w U) => Go.Proofs.YtggdlklkjnbbjaaGreatDoor.R.lright_any p _ b U hU.size (hD.below hU) (by have := hf1.1; omega) true (by simp [hr1]))
  obtain ⟨n1, n2, n3, n4, n5, n6⟩ := dataR_n hr0
  obtain ⟨m1, _⟩ := dataR_n hr1
  have hR2 : 2 ≤ (p - 1).toNat := by omega
  obtain ⟨b1, off1, cq, e1, _, hb1, hrow⟩ := hC.at_ hr0.1.2.1
  injection e1 with e1 _ e1c
  subst e1
  subst e1c
  obtain ⟨d1, off2, cq, e1, _, hd1, hrowd⟩ := hD.at_ hr1.1.2.1
  injection e1 with e1 _ e1c
  subst e1
  subst e1c
  obtain ⟨u9, hu9, hm9⟩ := hrow 0 hr0.1.2.1
  obtain ⟨u8, hu8, hm8⟩ := hrowd 0 hr1.1.2.1
  obtain ⟨A9, cap9, rfl, _, _⟩ := id hm9
  obtain ⟨A8, cap8, rfl, _, _⟩ := id hm8
  have hc0 := (hr0.1.2.2 0 hr0.1.2.1).1
  have hc1 := (hr1.1.2.2 0 hr1.1.2.1).1
  obtain ⟨b9, off9, rfl, hb9, hrow9⟩ := many_at hm9 (by omega)
  obtain ⟨b8, off8, rfl, hb8, hrow8⟩ := many_at hm8 (by omega)
  obtain ⟨B9, cp9, hx9, hby9⟩ := hrow9 0 (by omega)
  obtain ⟨B8, cp8, hx8, hby8⟩ := hrow8 0 (by omega)
  rw [Nat.add_zero] at hu9 hu8 hx9 hx8
  rw [hc0] at hu9
  rw [hc1] at hu8
  have hx9 : w.cell? ⟨b9, off9, none⟩ = some (.slice B9 (firstC a).length cp9) := hx9
  have hx8 : w.cell? ⟨b8, off8, none⟩ = some (.slice B8 (firstC b).length cp8) := hx8
  have HSS := Lib.hid (fun (U : World) (hU : Below w.heap.size w U) => (⟨(hU.cell (p := ⟨b1, off1, none⟩) hb1).trans hu9, (hU.cell (p := ⟨b9, off9, none⟩) hb9).trans hx9, (hU.cell (p := ⟨d1, off2, none⟩) hd1).trans hu8, (hU.cell (p := ⟨b8, off8, none⟩) hb8).trans hx8⟩ : (fun V : World => V.cell? ⟨b1, off1, none⟩ = some (.slice (some ⟨b9, off9, none⟩) (p - 1).toNat cap9) ∧ V.cell? ⟨b9, off9, none⟩ = some (.slice B9 (firstC a).length cp9) ∧ V.cell? ⟨d1, off2, none⟩ = some (.slice (some ⟨b8, off8, none⟩) (p - 1).toNat cap8) ∧ V.cell? ⟨b8, off8, none⟩ = some (.slice B8 (firstC b).length cp8)) U))
  have hna : 0 < a.length := hr0.1.2.1
  have hnb : 0 < b.length := hr1.1.2.1
  clear hrow hrowd hrow9 hrow8 hby9 hby8 hu9 hu8 hx9 hx8 hm9 hm8 hc0 hc1
  clear hf0 hf1 hr0 hr1 hC hD n1 n2 n3 n4 n5 n6 m1
  generalize (p - 1).toNat = R at *
  generalize (firstC a).length = l9 at *
  generalize (firstC b).length = l8 at *
  generalize a.length = na at *
  generalize b.length = nb at *
  have z1 : (0 : Int) < (na : Int) := by omega
  have z2 : (0 : Int) < (nb : Int) := by omega
  have z3 : (0 : Int) < (R : Int) := by omega
  have z5 : ¬ R = 0 := by omega
  have z4 : ¬ (l9 : Int) = (l8 : Int) := by omega
  clear hl
  go_enter Tryz.func9, Tryz.ntmps9
  go_wp2_with fail
  have hB : Below w.heap.size w w.drew := (Below.refl _ _).drew
  have hS : (fun V : World => V.cell? ⟨b1, off1, none⟩ = some (.slice (some ⟨b9, off9, none⟩) R cap9) ∧ V.cell? ⟨b9, off9, none⟩ = some (.slice B9 l9 cp9) ∧ V.cell? ⟨d1, off2, none⟩ = some (.slice (some ⟨b8, off8, none⟩) R cap8) ∧ V.cell? ⟨b8, off8, none⟩ = some (.slice B8 l8 cp8)) w.drew := HSS.out _ hB
  refine (wpIn_wide (n := 12)).1 (wpIn_mono (region_HF (Q := NoPanic _) (S := (fun V : World => V.cell? ⟨b1, off1, none⟩ = some (.slice (some ⟨b9, off9, none⟩) R cap9) ∧ V.cell? ⟨b9, off9, none⟩ = some (.slice B9 l9 cp9) ∧ V.cell? ⟨d1, off2, none⟩ = some (.slice (some ⟨b8, off8, none⟩) R cap8) ∧ V.cell? ⟨b8, off8, none⟩ = some (.slice B8 l8 cp8))) (by kernel_rfl) ?_) NoPanic.imp)
  refine anyHF_take (i := 0) (d := 20) (v := .slice (some ⟨b1, off1, none⟩) na cap) (by kernel_rfl) rfl (by kernel_rfl) (by kernel_rfl) (by kernel_rfl) rfl (fun _ _ _ h => h) ⟨Or.inl ⟨by rfl, fun w hS => by obtain ⟨h0, h1, h2, h3⟩ := hS; go_simp⟩, fun _ => rfl⟩ hS ?_
  simp only [upd]
  refine anyHF_one (i := 1) (by kernel_rfl) rfl (by kernel_rfl) (by rfl) ?_
  gi_wp2_with fail
  refine ⟨trivial, (callsIn_wide.2 (HF0.out _ hB)).mono ?_⟩
  rintro e wn ⟨rfl, rfl⟩
  gi_wp2
  try (refine ⟨hS, ?_⟩)
  refine anyHF_take (i := 2) (d := 22) (v := .bool false) (by kernel_rfl) rfl (by kernel_rfl) (by kernel_rfl) (by kernel_rfl) rfl (fun _ _ _ h => h) ⟨Or.inl ⟨by rfl, fun w hS => by obtain ⟨h0, h1, h2, h3⟩ := hS; go_simp⟩, fun _ => rfl⟩ hS ?_
  simp only [upd]
  refine anyHF_take (i := 3) (d := 23) (v := .bool false) (by kernel_rfl) rfl (by kernel_rfl) (by kernel_rfl) (by kernel_rfl) rfl (fun _ _ _ h => h) ⟨Or.inl ⟨by rfl, fun w hS => by obtain ⟨h0, h1, h2, h3⟩ := hS; go_simp⟩, fun _ => rfl⟩ hS ?_
  simp only [upd]
  refine anyHF_take (i := 4) (d := 24) (v := .slice (some ⟨d1, off2, none⟩) nb cap') (by kernel_rfl) rfl (by kernel_rfl) (by kernel_rfl) (by kernel_rfl) rfl (fun _ _ _ h => h) ⟨Or.inl ⟨by rfl, fun w hS => by obtain ⟨h0, h1, h2, h3⟩ := hS; go_simp⟩, fun _ => rfl⟩ hS ?_
  simp only [upd]
  refine anyHF_one (i := 5) (by kernel_rfl) rfl (by kernel_rfl) (by rfl) ?_
  gi_wp2_with fail
  refine ⟨trivial, (callsIn_wide.2 (HF1.out _ hB)).mono ?_⟩
  rintro e wn ⟨rfl, rfl⟩
  gi_wp2
  try (refine ⟨hS, ?_⟩)
  refine anyHF_take (i := 6) (d := 26) (v := .bool false) (by kernel_rfl) rfl (by kernel_rfl) (by kernel_rfl) (by kernel_rfl) rfl (fun _ _ _ h => h) ⟨Or.inl ⟨by rfl, fun w hS => by obtain ⟨h0, h1, h2, h3⟩ := hS; go_simp⟩, fun _ => rfl⟩ hS ?_
  simp only [upd]
  refine anyHF_take (i := 7) (d := 27) (v := .bool false) (by kernel_rfl) rfl (by kernel_rfl) (by kernel_rfl) (by kernel_rfl) rfl (fun _ _ _ h => h) ⟨Or.inl ⟨by rfl, fun w hS => by obtain ⟨h0, h1, h2, h3⟩ := hS; go_simp⟩, fun _ => rfl⟩ hS ?_
  simp only [upd]
  refine anyHF_take (i := 8) (d := 28) (v := .bool false) (by kernel_rfl) rfl (by kernel_rfl) (by kernel_rfl) (by kernel_rfl) rfl (fun _ _ _ h => h) ⟨Or.inl ⟨by rfl, fun w hS => by obtain ⟨h0, h1, h2, h3⟩ := hS; go_simp⟩, fun _ => rfl⟩ hS ?_
  simp only [upd]
  refine anyHF_take (i := 9) (d := 29) (v := .int .i64 p) (by kernel_rfl) rfl (by kernel_rfl) (by kernel_rfl) (by kernel_rfl) rfl (fun _ _ _ h => h) ⟨Or.inl ⟨by rfl, fun w hS => by obtain ⟨h0, h1, h2, h3⟩ := hS; go_simp⟩, fun _ => rfl⟩ hS ?_
  simp only [upd]
  refine anyHF_take (i := 10) (d := 30) (v := .slice (some ⟨b1, off1, none⟩) na cap) (by kernel_rfl) rfl (by kernel_rfl) (by kernel_rfl) (by kernel_rfl) rfl (fun _ _ _ h => h) ⟨Or.inl ⟨by rfl, fun w hS => by obtain ⟨h0, h1, h2, h3⟩ := hS; go_simp⟩, fun _ => rfl⟩ hS ?_
  simp only [upd]
  refine anyHF_one (i := 11) (by kernel_rfl) rfl (by kernel_rfl) (by rfl) ?_
  gi_wp2_with fail
  refine ⟨trivial, (callsIn_wide.2 (HR0.out _ hB)).mono ?_⟩
  rintro e wn ⟨rfl, hBn⟩
  replace hB := below_in hB hBn
  clear hBn
  clear hS
  have hS : (fun V : World => V.cell? ⟨b1, off1, none⟩ = some (.slice (some ⟨b9, off9, none⟩) R cap9) ∧ V.cell? ⟨b9, off9, none⟩ = some (.slice B9 l9 cp9) ∧ V.cell? ⟨d1, off2, none⟩ = some (.slice (some ⟨b8, off8, none⟩) R cap8) ∧ V.cell? ⟨b8, off8, none⟩ = some (.slice B8 l8 cp8)) wn := HSS.out _ hB
  gi_wp2
  try (refine ⟨hS, ?_⟩)
  refine anyHF_take (i := 12) (d := 32) (v := .bool false) (by kernel_rfl) rfl (by kernel_rfl) (by kernel_rfl) (by kernel_rfl) rfl (fun _ _ _ h => h) ⟨Or.inl ⟨by rfl, fun w hS => by obtain ⟨h0, h1, h2, h3⟩ := hS; go_simp⟩, fun _ => rfl⟩ hS ?_
  simp only [upd]
  refine anyHF_take (i := 13) (d := 33) (v := .bool false) (by kernel_rfl) rfl (by kernel_rfl) (by kernel_rfl) (by kernel_rfl) rfl (fun _ _ _ h => h) ⟨Or.inl ⟨by rfl, fun w hS => by obtain ⟨h0, h1, h2, h3⟩ := hS; go_simp⟩, fun _ => rfl⟩ hS ?_
  simp only [upd]
  refine anyHF_take (i := 14) (d := 34) (v := .bool false) (by kernel_rfl) rfl (by kernel_rfl) (by kernel_rfl) (by kernel_rfl) rfl (fun _ _ _ h => h) ⟨Or.inl ⟨by rfl, fun w hS => by obtain ⟨h0, h1, h2, h3⟩ := hS; go_simp⟩, fun _ => rfl⟩ hS ?_
  simp only [upd]
  refine anyHF_take (i := 15) (d := 35) (v := .int .i64 p) (by kernel_rfl) rfl (by kernel_rfl) (by kernel_rfl) (by kernel_rfl) rfl (fun _ _ _ h => h) ⟨Or.inl ⟨by rfl, fun w hS => by obtain ⟨h0, h1, h2, h3⟩ := hS; go_simp⟩, fun _ => rfl⟩ hS ?_
  simp only [upd]
  refine anyHF_take (i := 16) (d := 36) (v := .slice (some ⟨d1, off2, none⟩) nb cap') (by kernel_rfl) rfl (by kernel_rfl) (by kernel_rfl) (by kernel_rfl) rfl (fun _ _ _ h => h) ⟨Or.inl ⟨by rfl, fun w hS => by obtain ⟨h0, h1, h2, h3⟩ := hS; go_simp⟩, fun _ => rfl⟩ hS ?_
  simp only [upd]
  refine anyHF_one (i := 17) (by kernel_rfl) rfl (by kernel_rfl) (by rfl) ?_
  gi_wp2_with fail
  refine ⟨trivial, (callsIn_wide.2 (HR1.out _ hB)).mono ?_⟩
  rintro e wn ⟨rfl, hBn⟩
  replace hB := below_in hB hBn
  clear hBn
  clear hS
  have hS : (fun V : World => V.cell? ⟨b1, off1, none⟩ = some (.slice (some ⟨b9, off9, none⟩) R cap9) ∧ V.cell? ⟨b9, off9, none⟩ = some (.slice B9 l9 cp9) ∧ V.cell? ⟨d1, off2, none⟩ = some (.slice (some ⟨b8, off8, none⟩) R cap8) ∧ V.cell? ⟨b8, off8, none⟩ = some (.slice B8 l8 cp8)) wn := HSS.out _ hB
  gi_wp2
  try (refine ⟨hS, ?_⟩)
  refine anyHF_take (i := 18) (d := 38) (v := .bool false) (by kernel_rfl) rfl (by kernel_rfl) (by kernel_rfl) (by kernel_rfl) rfl (fun _ _ _ h => h) ⟨Or.inl ⟨by rfl, fun w hS => by obtain ⟨h0, h1, h2, h3⟩ := hS; go_simp⟩, fun _ => rfl⟩ hS ?_
  simp only [upd]
  refine anyHF_take (i := 19) (d := 39) (v := .bool false) (by kernel_rfl) rfl (by kernel_rfl) (by kernel_rfl) (by kernel_rfl) rfl (fun _ _ _ h => h) ⟨Or.inl ⟨by rfl, fun w hS => by obtain ⟨h0, h1, h2, h3⟩ := hS; go_simp⟩, fun _ => rfl⟩ hS ?_
  simp only [upd]
  refine anyHF_take (i := 20) (d := 40) (v := .bool false) (by kernel_rfl) rfl (by kernel_rfl) (by kernel_rfl) (by kernel_rfl) rfl (fun _ _ _ h => h) ⟨Or.inl ⟨by rfl, fun w hS => by obtain ⟨h0, h1, h2, h3⟩ := hS; go_simp⟩, fun _ => rfl⟩ hS ?_
  simp only [upd]
  refine anyHF_take (i := 21) (d := 41) (v := .slice (some ⟨b1, off1, none⟩) na cap) (by kernel_rfl) rfl (by kernel_rfl) (by kernel_rfl) (by kernel_rfl) rfl (fun _ _ _ h => h) ⟨Or.inl ⟨by rfl, fun w hS => by obtain ⟨h0, h1, h2, h3⟩ := hS; go_simp⟩, fun _ => rfl⟩ hS ?_
  simp only [upd]
  refine anyHF_take (i := 22) (d := 42) (v := .pointer (some ⟨b1, off1, none⟩)) (by kernel_rfl) rfl (by kernel_rfl) (by kernel_rfl) (by kernel_rfl) rfl (fun _ _ _ h => h) ⟨Or.inl ⟨by rfl, fun w hS => by obtain ⟨h0, h1, h2, h3⟩ := hS; go_simp⟩, fun _ => rfl⟩ hS ?_
  simp only [upd]
  refine anyHF_take (i := 23) (d := 43) (v := .slice (some ⟨b9, off9, none⟩) R cap9) (by kernel_rfl) rfl (by kernel_rfl) (by kernel_rfl) (by kernel_rfl) rfl (fun _ _ _ h => h) ⟨Or.inl ⟨by rfl, fun w hS => by obtain ⟨h0, h1, h2, h3⟩ := hS; go_simp⟩, fun _ => rfl⟩ hS ?_
  simp only [upd]
  refine anyHF_take (i := 24) (d := 44) (v := .pointer (some ⟨b9, off9, none⟩)) (by kernel_rfl) rfl (by kernel_rfl) (by kernel_rfl) (by kernel_rfl) rfl (fun _ _ _ h => h) ⟨Or.inl ⟨by rfl, fun w hS => by obtain ⟨h0, h1, h2, h3⟩ := hS; go_simp⟩, fun _ => rfl⟩ hS ?_
  simp only [upd]
  refine anyHF_take (i := 25) (d := 45) (v := .slice B9 l9 cp9) (by kernel_rfl) rfl (by kernel_rfl) (by kernel_rfl) (by kernel_rfl) rfl (fun _ _ _ h => h) ⟨Or.inl ⟨by rfl, fun w hS => by obtain ⟨h0, h1, h2, h3⟩ := hS; go_simp⟩, fun _ => rfl⟩ hS ?_
  simp only [upd]
  refine anyHF_take (i := 26) (d := 46) (v := .int .i64 (l9 : Int)) (by kernel_rfl) rfl (by kernel_rfl) (by kernel_rfl) (by kernel_rfl) rfl (fun _ _ _ h => h) ⟨Or.inl ⟨by rfl, fun w hS => by obtain ⟨h0, h1, h2, h3⟩ := hS; go_simp⟩, fun _ => rfl⟩ hS ?_
  simp only [upd]
  refine anyHF_take (i := 27) (d := 47) (v := .slice (some ⟨d1, off2, none⟩) nb cap') (by kernel_rfl) rfl (by kernel_rfl) (by kernel_rfl) (by kernel_rfl) rfl (fun _ _ _ h => h) ⟨Or.inl ⟨by rfl, fun w hS => by obtain ⟨h0, h1, h2, h3⟩ := hS; go_simp⟩, fun _ => rfl⟩ hS ?_
  simp only [upd]
  refine anyHF_take (i := 28) (d := 48) (v := .pointer (some ⟨d1, off2, none⟩)) (by kernel_rfl) rfl (by kernel_rfl) (by kernel_rfl) (by kernel_rfl) rfl (fun _ _ _ h => h) ⟨Or.inl ⟨by rfl, fun w hS => by obtain ⟨h0, h1, h2, h3⟩ := hS; go_simp⟩, fun _ => rfl⟩ hS ?_
  simp only [upd]
  refine anyHF_take (i := 29) (d := 49) (v := .slice (some ⟨b8, off8, none⟩) R cap8) (by kernel_rfl) rfl (by kernel_rfl) (by kernel_rfl) (by kernel_rfl) rfl (fun _ _ _ h => h) ⟨Or.inl ⟨by rfl, fun w hS => by obtain ⟨h0, h1, h2, h3⟩ := hS; go_simp⟩, fun _ => rfl⟩ hS ?_
  simp only [upd]
  refine anyHF_take (i := 30) (d := 50) (v := .pointer (some ⟨b8, off8, none⟩)) (by kernel_rfl) rfl (by kernel_rfl) (by kernel_rfl) (by kernel_rfl) rfl (fun _ _ _ h => h) ⟨Or.inl ⟨by rfl, fun w hS => by obtain ⟨h0, h1, h2, h3⟩ := hS; go_simp⟩, fun _ => rfl⟩ hS ?_
  simp only [upd]
  refine anyHF_take (i := 31) (d := 51) (v := .slice B8 l8 cp8) (by kernel_rfl) rfl (by kernel_rfl) (by kernel_rfl) (by kernel_rfl) rfl (fun _ _ _ h => h) ⟨Or.inl ⟨by rfl, fun w hS => by obtain ⟨h0, h1, h2, h3⟩ := hS; go_simp⟩, fun _ => rfl⟩ hS ?_
  simp only [upd]
  refine anyHF_take (i := 32) (d := 52) (v := .int .i64 (l8 : Int)) (by kernel_rfl) rfl (by kernel_rfl) (by kernel_rfl) (by kernel_rfl) rfl (fun _ _ _ h => h) ⟨Or.inl ⟨by rfl, fun w hS => by obtain ⟨h0, h1, h2, h3⟩ := hS; go_simp⟩, fun _ => rfl⟩ hS ?_
  simp only [upd]
  refine anyHF_take (i := 33) (d := 53) (v := .bool true) (by kernel_rfl) rfl (by kernel_rfl) (by kernel_rfl) (by kernel_rfl) rfl (fun _ _ _ h => h) ⟨Or.inl ⟨by rfl, fun w hS => by obtain ⟨h0, h1, h2, h3⟩ := hS; go_simp⟩, fun _ => rfl⟩ hS ?_
  simp only [upd]
  refine anyHF_take (i := 34) (d := 54) (v := .bool true) (by kernel_rfl) rfl (by kernel_rfl) (by kernel_rfl) (by kernel_rfl) rfl (fun _ _ _ h => h) ⟨Or.inl ⟨by rfl, fun w hS => by obtain ⟨h0, h1, h2, h3⟩ := hS; go_simp⟩, fun _ => rfl⟩ hS ?_
  simp only [upd]
  refine anyHF_done (by kernel_rfl) ?_ _
  refine NoPanic.normal ?_
  clear hS
  go_wp2_with (go_at_call 26; refine (Go.Proofs.YtggdlklkjnbbjaaGreatDoor.R.works_any _ (hL.next hB)).mono ?_; rintro e w1 ⟨rfl, hB1⟩)
  go_ret
  exact ⟨rfl, below_in hB hB1⟩

open Go.Proofs.YtggdlklkjnbbjaaGreatDoor.E Go.Proofs.YtggdlklkjnbbjaaGreatDoor.C Go.Proofs.YtggdlklkjnbbjaaGreatDoor.R in
set_option maxRecDepth 100000 in
set_option maxHeartbeats 4000000 in
theorem yes (p : Int) (v : Value) (a : List (List (List UInt8))) (v2 : Value) (b : List (List (List UInt8))) (w : World) (hL : Laid w) (wp : -9223372036854775808 ≤ p ∧ p ≤ 9223372036854775807) (hC : Cols w.heap.size w v a) (hD : Cols w.heap.size w v2 b) (hf0 : Few6 a) (hf1 : Few6 b) (hr0 : DataR p a) (hr1 : DataR p b) (hl : (firstC a).length = (firstC b).length) :
    Calls Tryz.prog 9 #[.int .i64 p, v, v2] w fun e w' => e = .returned (.bool true) ∧ Below w.heap.size w w' := by
  obtain ⟨A, cap, rfl, _, _⟩ := id hC
  obtain ⟨A', cap', rfl, _, _⟩ := id hD
  have HF0 := Lib.hid (fun (U : World) (hU : Below w.heap.size w U) => few6_any _ a U (hC.below hU) true (by simp [hf0]))
  have HF1 := Lib.hid (fun (U : World) (hU : Below w.heap.size w U) => few6_any _ b U (hD.below hU) true (by simp [hf1]))
  have HR0 := Lib.hid (fun (U : World) (hU : Below w.heap.size w U) => Go.Proofs.YtggdlklkjnbbjaaGreatDoor.R.lright_any p _ a U hU.size (hC.below hU) (by have := hf0.1; omega) true (by simp [hr0]))
  have HR1 := Lib.hid (fun (U : World) (hU : Below w.heap.size w U) => Go.Proofs.YtggdlklkjnbbjaaGreatDoor.R.lright_any p _ b U hU.size (hD.below hU) (by have := hf1.1; omega) true (by simp [hr1]))
  obtain ⟨n1, n2, n3, n4, n5, n6⟩ := dataR_n hr0
  obtain ⟨m1, _⟩ := dataR_n hr1
  have hR2 : 2 ≤ (p - 1).toNat := by omega
  obtain ⟨b1, off1, cq, e1, _, hb1, hrow⟩ := hC.at_ hr0.1.2.1
  injection e1 with e1 _ e1c
  subst e1
  subst e1c
  obtain ⟨d1, off2, cq, e1, _, hd1, hrowd⟩ := hD.at_ hr1.1.2.1
  injection e1 with e1 _ e1c
  subst e1
  subst e1c
  obtain ⟨u9, hu9, hm9⟩ := hrow 0 hr0.1.2.1
  obtain ⟨u8, hu8, hm8⟩ := hrowd 0 hr1.1.2.1
  obtain ⟨A9, cap9, rfl, _, _⟩ := id hm9
  obtain ⟨A8, cap8, rfl, _, _⟩ := id hm8
  have hc0 := (hr0.1.2.2 0 hr0.1.2.1).1
  have hc1 := (hr1.1.2.2 0 hr1.1.2.1).1
  obtain ⟨b9, off9, rfl, hb9, hrow9⟩ := many_at hm9 (by omega)
  obtain ⟨b8, off8, rfl, hb8, hrow8⟩ := many_at hm8 (by omega)
  obtain ⟨B9, cp9, hx9, hby9⟩ := hrow9 0 (by omega)
  obtain ⟨B8, cp8, hx8, hby8⟩ := hrow8 0 (by omega)
  rw [Nat.add_zero] at hu9 hu8 hx9 hx8
  rw [hc0] at hu9
  rw [hc1] at hu8
  have hx9 : w.cell? ⟨b9, off9, none⟩ = some (.slice B9 (firstC a).length cp9) := hx9
  have hx8 : w.cell? ⟨b8, off8, none⟩ = some (.slice B8 (firstC b).length cp8) := hx8
  have HSS := Lib.hid (fun (U : World) (hU : Below w.heap.size w U) => (⟨(hU.cell (p := ⟨b1, off1, none⟩) hb1).trans hu9, (hU.cell (p := ⟨b9, off9, none⟩) hb9).trans hx9, (hU.cell (p := ⟨d1, off2, none⟩) hd1).trans hu8, (hU.cell (p := ⟨b8, off8, none⟩) hb8).trans hx8⟩ : (fun V : World => V.cell? ⟨b1, off1, none⟩ = some (.slice (some ⟨b9, off9, none⟩) (p - 1).toNat cap9) ∧ V.cell? ⟨b9, off9, none⟩ = some (.slice B9 (firstC a).length cp9) ∧ V.cell? ⟨d1, off2, none⟩ = some (.slice (some ⟨b8, off8, none⟩) (p - 1).toNat cap8) ∧ V.cell? ⟨b8, off8, none⟩ = some (.slice B8 (firstC b).length cp8)) U))
  have hna : 0 < a.length := hr0.1.2.1
  have hnb : 0 < b.length := hr1.1.2.1
  have HM9 : Hid (∀ U : World, Below w.heap.size w U → Many w.heap.size U (.slice (some ⟨b9, off9, none⟩) (p - 1).toNat cap9) (a[0]?.getD [])) := fun U hU => by
    have h := hm9.below hU
    rw [hc0] at h
    exact h
  clear hrow hrowd hrow9 hrow8 hby9 hby8 hu9 hu8 hx9 hx8 hm9 hm8 hc0 hc1
  obtain ⟨hpd, hpf, hpr⟩ := rdp_put hr0 hr1 hl
  have hab : a.length = b.length := by omega
  have hGA := togOk_grid hr0.1.2
  have hGB := togOk_grid hr1.1.2
  rw [← hl] at hGB
  have hR16 : (p - 1).toNat ≤ 1000 := by omega
  have hn9 : (firstC a).length ≤ 1000 := by omega
  have hGX : Grid (p - 1).toNat (firstC a).length (rdpOf p a) := Grid.rdp rfl rfl
  have hGY : Grid (p - 1).toNat (firstC a).length (rdpOf p b) := Grid.rdp rfl hl.symm
  have HE2 := Lib.hid (fun (U : World) (hU : Below w.heap.size w U) => Go.Proofs.YtggdlklkjnbbjaaGreatDoor.R.encode_yes (B := w.heap.size) p _ a hr0 U (hL.next hU) hU.size (hC.below hU))
  have HE3 := Lib.hid (fun (U : World) (hU : Below w.heap.size w U) => Go.Proofs.YtggdlklkjnbbjaaGreatDoor.R.encode_yes (B := w.heap.size) p _ b hr1 U (hL.next hU) hU.size (hD.below hU))
  have HPUT := Lib.hid (fun (U : World) (hU : Below w.heap.size w U) => put_row hGA hGB hab (by omega) hR16 hn9 _ _ U hU.size (hC.below hU) (hD.below hU))
  have HE4 := Lib.hid (fun (U : World) (u : Value) (hU : Laid U) (hCU : Cols U.heap.size U u (putOf a b)) => Go.Proofs.YtggdlklkjnbbjaaGreatDoor.R.encode_yes p u _ hpd U hU (Nat.le_refl _) hCU)
  rw [hpr] at HE4
  have HRX := Lib.hid (fun (U : World) (x : Value) (hCU : Cols U.heap.size U x ([a[0]?.getD []] ++ rdpOf p a ++ rdpOf p b)) => right6_any p x _ U (Nat.le_refl _) hCU (by simp [rdpOf]) true (by simp only [true_iff]; exact rightR hr0 hr1 hl))
  have HLA := Lib.hid (fun (U : World) (x : Value) (hU : Laid U) (hX : Cols U.heap.size U x ([] ++ a ++ rdpOf p a)) => Go.Proofs.YtggdlklkjnbbjaaGreatDoor.R.left_yes p x _ (allR_of hr0).1 U hU (Nat.le_refl _) hX)
  rw [← show restOf p a = adjOf p ((a ++ rdpOf p a).take p.toNat) from rfl] at HLA
  have HLB := Lib.hid (fun (U : World) (x : Value) (hU : Laid U) (hX : Cols U.heap.size U x ([] ++ b ++ rdpOf p b)) => Go.Proofs.YtggdlklkjnbbjaaGreatDoor.R.left_yes p x _ (allR_of hr1).1 U hU (Nat.le_refl _) hX)
  rw [← show restOf p b = adjOf p ((b ++ rdpOf p b).take p.toNat) from rfl] at HLB
  have HLU := Lib.hid (fun (U : World) (x : Value) (hU : Laid U) (hX : Cols U.heap.size U x (putOf a b ++ rdpOf p (putOf a b))) => Go.Proofs.YtggdlklkjnbbjaaGreatDoor.R.left_yes p x _ (allR_of hpd).1 U hU (Nat.le_refl _) hX)
  rw [← show restOf p (putOf a b) = adjOf p ((putOf a b ++ rdpOf p (putOf a b)).take p.toNat) from rfl, hpr] at HLU
  have HXY := Lib.hid (fun (U : World) (x y : Value) (hX : Cols U.heap.size U x (rdpOf p a)) (hY : Cols U.heap.size U y (rdpOf p b)) => put_row hGX hGY rfl (by show (2 : Nat) ≤ 1000; omega) hR16 hn9 x y U (Nat.le_refl _) hX hY)
  have HSM := Lib.hid (fun (U : World) (x y : Value) (hX : Cols U.heap.size U x (putOf (rdpOf p a) (rdpOf p b))) (hY : Cols U.heap.size U y (putOf (rdpOf p a) (rdpOf p b))) => same_grid (Grid.put hGX) (by rw [putOf_len]; show (2 : Nat) ≤ 1000; omega) hR16 x y U (Nat.le_refl _) (Nat.le_refl _) hX hY)
  have HLN : Hid ((restOf p a).length = (firstC a).length) := restOf_len hr0
  have HLN2 : Hid ((restOf p b).length = (firstC a).length) := (restOf_len hr1).trans hl.symm
  have HLN3 : Hid ((restOf p (putOf a b)).length = (firstC a).length) := (restOf_len hpd).trans hpf
  have HXOR := Lib.hid (left_put hr0 hr1 hl)
  have HCA := Lib.hid (fun (U : World) (hU : Below w.heap.size w U) => hC.below hU)
  have HDA := Lib.hid (fun (U : World) (hU : Below w.heap.size w U) => hD.below hU)
  have HN5 := Lib.hid (n5)
  have HN6 := Lib.hid (n6)
  have HPL : Hid ((putOf a b).length = a.length) := putOf_len
  have HXL : Hid ((rdpOf p a).length = 2) := rfl
  have HYL : Hid ((rdpOf p b).length = 2) := rfl
  have HPXL : Hid ((putOf (rdpOf p a) (rdpOf p b)).length = 2) := putOf_len
  have hal24 := hf0.1
  have HAB := Lib.hid hab
  have HNA := Lib.hid hal24
  rw [← hl] at HSS
  clear hf0 hf1 hr0 hr1 hC hD hpd hpf hpr hGA hGB hGX hGY hl hn9 hR16 n1 n2 n3 n4 n5 n6 m1 hal24
  generalize hcs0 : a[0]?.getD [] = cs0 at *
  clear hcs0
  generalize restOf p (putOf a b) = lu at *
  generalize restOf p a = la at *
  generalize restOf p b = lb at *
  generalize putOf (rdpOf p a) (rdpOf p b) = pxy at *
  generalize rdpOf p a = ra at *
  generalize rdpOf p b = rb at *
  generalize (p - 1).toNat = R at *
  generalize (firstC a).length = l9 at *
  generalize putOf a b = pab at *
  generalize hgna : a.length = na at *
  have HNE := Lib.hid hgna
  clear hgna
  generalize hgnb : b.length = nb at *
  have HNF := Lib.hid hgnb
  clear hgnb hab
  have z1 : (0 : Int) < (na : Int) := by omega
  have z2 : (0 : Int) < (nb : Int) := by omega
  have z3 : (0 : Int) < (R : Int) := by omega
  have z5 : ¬ R = 0 := by omega
  go_enter Tryz.func9, Tryz.ntmps9
  go_wp2_with fail
  have hB : Below w.heap.size w w.drew := (Below.refl _ _).drew
  have hS : (fun V : World => V.cell? ⟨b1, off1, none⟩ = some (.slice (some ⟨b9, off9, none⟩) R cap9) ∧ V.cell? ⟨b9, off9, none⟩ = some (.slice B9 l9 cp9) ∧ V.cell? ⟨d1, off2, none⟩ = some (.slice (some ⟨b8, off8, none⟩) R cap8) ∧ V.cell? ⟨b8, off8, none⟩ = some (.slice B8 l9 cp8)) w.drew := HSS.out _ hB
  refine (wpIn_wide (n := 12)).1 (wpIn_mono (region_HF (Q := NoPanic _) (S := (fun V : World => V.cell? ⟨b1, off1, none⟩ = some (.slice (some ⟨b9, off9, none⟩) R cap9) ∧ V.cell? ⟨b9, off9, none⟩ = some (.slice B9 l9 cp9) ∧ V.cell? ⟨d1, off2, none⟩ = some (.slice (some ⟨b8, off8, none⟩) R cap8) ∧ V.cell? ⟨b8, off8, none⟩ = some (.slice B8 l9 cp8))) (by kernel_rfl) ?_) NoPanic.imp)
  refine anyHF_take (i := 0) (d := 20) (v := .slice (some ⟨b1, off1, none⟩) na cap) (by kernel_rfl) rfl (by kernel_rfl) (by kernel_rfl) (by kernel_rfl) rfl (fun _ _ _ h => h) ⟨Or.inl ⟨by rfl, fun w hS => by obtain ⟨h0, h1, h2, h3⟩ := hS; go_simp⟩, fun _ => rfl⟩ hS ?_
  simp only [upd]
  refine anyHF_one (i := 1) (by kernel_rfl) rfl (by kernel_rfl) (by rfl) ?_
  gi_wp2_with fail
  refine ⟨trivial, (callsIn_wide.2 (HF0.out _ hB)).mono ?_⟩
  rintro e wn ⟨rfl, rfl⟩
  gi_wp2
  try (refine ⟨hS, ?_⟩)
  refine anyHF_take (i := 2) (d := 22) (v := .bool false) (by kernel_rfl) rfl (by kernel_rfl) (by kernel_rfl) (by kernel_rfl) rfl (fun _ _ _ h => h) ⟨Or.inl ⟨by rfl, fun w hS => by obtain ⟨h0, h1, h2, h3⟩ := hS; go_simp⟩, fun _ => rfl⟩ hS ?_
  simp only [upd]
  refine anyHF_take (i := 3) (d := 23) (v := .bool false) (by kernel_rfl) rfl (by kernel_rfl) (by kernel_rfl) (by kernel_rfl) rfl (fun _ _ _ h => h) ⟨Or.inl ⟨by rfl, fun w hS => by obtain ⟨h0, h1, h2, h3⟩ := hS; go_simp⟩, fun _ => rfl⟩ hS ?_
  simp only [upd]
  refine anyHF_take (i := 4) (d := 24) (v := .slice (some ⟨d1, off2, none⟩) nb cap') (by kernel_rfl) rfl (by kernel_rfl) (by kernel_rfl) (by kernel_rfl) rfl (fun _ _ _ h => h) ⟨Or.inl ⟨by rfl, fun w hS => by obtain ⟨h0, h1, h2, h3⟩ := hS; go_simp⟩, fun _ => rfl⟩ hS ?_
  simp only [upd]
  refine anyHF_one (i := 5) (by kernel_rfl) rfl (by kernel_rfl) (by rfl) ?_
  gi_wp2_with fail
  refine ⟨trivial, (callsIn_wide.2 (HF1.out _ hB)).mono ?_⟩
  rintro e wn ⟨rfl, rfl⟩
  gi_wp2
  try (refine ⟨hS, ?_⟩)
  refine anyHF_take (i := 6) (d := 26) (v := .bool false) (by kernel_rfl) rfl (by kernel_rfl) (by kernel_rfl) (by kernel_rfl) rfl (fun _ _ _ h => h) ⟨Or.inl ⟨by rfl, fun w hS => by obtain ⟨h0, h1, h2, h3⟩ := hS; go_simp⟩, fun _ => rfl⟩ hS ?_
  simp only [upd]
  refine anyHF_take (i := 7) (d := 27) (v := .bool false) (by kernel_rfl) rfl (by kernel_rfl) (by kernel_rfl) (by kernel_rfl) rfl (fun _ _ _ h => h) ⟨Or.inl ⟨by rfl, fun w hS => by obtain ⟨h0, h1, h2, h3⟩ := hS; go_simp⟩, fun _ => rfl⟩ hS ?_
  simp only [upd]
  refine anyHF_take (i := 8) (d := 28) (v := .bool false) (by kernel_rfl) rfl (by kernel_rfl) (by kernel_rfl) (by kernel_rfl) rfl (fun _ _ _ h => h) ⟨Or.inl ⟨by rfl, fun w hS => by obtain ⟨h0, h1, h2, h3⟩ := hS; go_simp⟩, fun _ => rfl⟩ hS ?_
  simp only [upd]
  refine anyHF_take (i := 9) (d := 29) (v := .int .i64 p) (by kernel_rfl) rfl (by kernel_rfl) (by kernel_rfl) (by kernel_rfl) rfl (fun _ _ _ h => h) ⟨Or.inl ⟨by rfl, fun w hS => by obtain ⟨h0, h1, h2, h3⟩ := hS; go_simp⟩, fun _ => rfl⟩ hS ?_
  simp only [upd]
  refine anyHF_take (i := 10) (d := 30) (v := .slice (some ⟨b1, off1, none⟩) na cap) (by kernel_rfl) rfl (by kernel_rfl) (by kernel_rfl) (by kernel_rfl) rfl (fun _ _ _ h => h) ⟨Or.inl ⟨by rfl, fun w hS => by obtain ⟨h0, h1, h2, h3⟩ := hS; go_simp⟩, fun _ => rfl⟩ hS ?_
  simp only [upd]
  refine anyHF_one (i := 11) (by kernel_rfl) rfl (by kernel_rfl) (by rfl) ?_
  gi_wp2_with fail
  refine ⟨trivial, (callsIn_wide.2 (HR0.out _ hB)).mono ?_⟩
  rintro e wn ⟨rfl, hBn⟩
  replace hB := below_in hB hBn
  clear hBn
  clear hS
  have hS : (fun V : World => V.cell? ⟨b1, off1, none⟩ = some (.slice (some ⟨b9, off9, none⟩) R cap9) ∧ V.cell? ⟨b9, off9, none⟩ = some (.slice B9 l9 cp9) ∧ V.cell? ⟨d1, off2, none⟩ = some (.slice (some ⟨b8, off8, none⟩) R cap8) ∧ V.cell? ⟨b8, off8, none⟩ = some (.slice B8 l9 cp8)) wn := HSS.out _ hB
  gi_wp2
  try (refine ⟨hS, ?_⟩)
  refine anyHF_take (i := 12) (d := 32) (v := .bool false) (by kernel_rfl) rfl (by kernel_rfl) (by kernel_rfl) (by kernel_rfl) rfl (fun _ _ _ h => h) ⟨Or.inl ⟨by rfl, fun w hS => by obtain ⟨h0, h1, h2, h3⟩ := hS; go_simp⟩, fun _ => rfl⟩ hS ?_
  simp only [upd]
  refine anyHF_take (i := 13) (d := 33) (v := .bool false) (by kernel_rfl) rfl (by kernel_rfl) (by kernel_rfl) (by kernel_rfl) rfl (fun _ _ _ h => h) ⟨Or.inl ⟨by rfl, fun w hS => by obtain ⟨h0, h1, h2, h3⟩ := hS; go_simp⟩, fun _ => rfl⟩ hS ?_
  simp only [upd]
  refine anyHF_take (i := 14) (d := 34) (v := .bool false) (by kernel_rfl) rfl (by kernel_rfl) (by kernel_rfl) (by kernel_rfl) rfl (fun _ _ _ h => h) ⟨Or.inl ⟨by rfl, fun w hS => by obtain ⟨h0, h1, h2, h3⟩ := hS; go_simp⟩, fun _ => rfl⟩ hS ?_
  simp only [upd]
  refine anyHF_take (i := 15) (d := 35) (v := .int .i64 p) (by kernel_rfl) rfl (by kernel_rfl) (by kernel_rfl) (by kernel_rfl) rfl (fun _ _ _ h => h) ⟨Or.inl ⟨by rfl, fun w hS => by obtain ⟨h0, h1, h2, h3⟩ := hS; go_simp⟩, fun _ => rfl⟩ hS ?_
  simp only [upd]
  refine anyHF_take (i := 16) (d := 36) (v := .slice (some ⟨d1, off2, none⟩) nb cap') (by kernel_rfl) rfl (by kernel_rfl) (by kernel_rfl) (by kernel_rfl) rfl (fun _ _ _ h => h) ⟨Or.inl ⟨by rfl, fun w hS => by obtain ⟨h0, h1, h2, h3⟩ := hS; go_simp⟩, fun _ => rfl⟩ hS ?_
  simp only [upd]
  refine anyHF_one (i := 17) (by kernel_rfl) rfl (by kernel_rfl) (by rfl) ?_
  gi_wp2_with fail
  refine ⟨trivial, (callsIn_wide.2 (HR1.out _ hB)).mono ?_⟩
  rintro e wn ⟨rfl, hBn⟩
  replace hB := below_in hB hBn
  clear hBn
  clear hS
  have hS : (fun V : World => V.cell? ⟨b1, off1, none⟩ = some (.slice (some ⟨b9, off9, none⟩) R cap9) ∧ V.cell? ⟨b9, off9, none⟩ = some (.slice B9 l9 cp9) ∧ V.cell? ⟨d1, off2, none⟩ = some (.slice (some ⟨b8, off8, none⟩) R cap8) ∧ V.cell? ⟨b8, off8, none⟩ = some (.slice B8 l9 cp8)) wn := HSS.out _ hB
  gi_wp2
  try (refine ⟨hS, ?_⟩)
  refine anyHF_take (i := 18) (d := 38) (v := .bool false) (by kernel_rfl) rfl (by kernel_rfl) (by kernel_rfl) (by kernel_rfl) rfl (fun _ _ _ h => h) ⟨Or.inl ⟨by rfl, fun w hS => by obtain ⟨h0, h1, h2, h3⟩ := hS; go_simp⟩, fun _ => rfl⟩ hS ?_
  simp only [upd]
  refine anyHF_take (i := 19) (d := 39) (v := .bool false) (by kernel_rfl) rfl (by kernel_rfl) (by kernel_rfl) (by kernel_rfl) rfl (fun _ _ _ h => h) ⟨Or.inl ⟨by rfl, fun w hS => by obtain ⟨h0, h1, h2, h3⟩ := hS; go_simp⟩, fun _ => rfl⟩ hS ?_
  simp only [upd]
  refine anyHF_take (i := 20) (d := 40) (v := .bool false) (by kernel_rfl) rfl (by kernel_rfl) (by kernel_rfl) (by kernel_rfl) rfl (fun _ _ _ h => h) ⟨Or.inl ⟨by rfl, fun w hS => by obtain ⟨h0, h1, h2, h3⟩ := hS; go_simp⟩, fun _ => rfl⟩ hS ?_
  simp only [upd]
  refine anyHF_take (i := 21) (d := 41) (v := .slice (some ⟨b1, off1, none⟩) na cap) (by kernel_rfl) rfl (by kernel_rfl) (by kernel_rfl) (by kernel_rfl) rfl (fun _ _ _ h => h) ⟨Or.inl ⟨by rfl, fun w hS => by obtain ⟨h0, h1, h2, h3⟩ := hS; go_simp⟩, fun _ => rfl⟩ hS ?_
  simp only [upd]
  refine anyHF_take (i := 22) (d := 42) (v := .pointer (some ⟨b1, off1, none⟩)) (by kernel_rfl) rfl (by kernel_rfl) (by kernel_rfl) (by kernel_rfl) rfl (fun _ _ _ h => h) ⟨Or.inl ⟨by rfl, fun w hS => by obtain ⟨h0, h1, h2, h3⟩ := hS; go_simp⟩, fun _ => rfl⟩ hS ?_
  simp only [upd]
  refine anyHF_take (i := 23) (d := 43) (v := .slice (some ⟨b9, off9, none⟩) R cap9) (by kernel_rfl) rfl (by kernel_rfl) (by kernel_rfl) (by kernel_rfl) rfl (fun _ _ _ h => h) ⟨Or.inl ⟨by rfl, fun w hS => by obtain ⟨h0, h1, h2, h3⟩ := hS; go_simp⟩, fun _ => rfl⟩ hS ?_
  simp only [upd]
  refine anyHF_take (i := 24) (d := 44) (v := .pointer (some ⟨b9, off9, none⟩)) (by kernel_rfl) rfl (by kernel_rfl) (by kernel_rfl) (by kernel_rfl) rfl (fun _ _ _ h => h) ⟨Or.inl ⟨by rfl, fun w hS => by obtain ⟨h0, h1, h2, h3⟩ := hS; go_simp⟩, fun _ => rfl⟩ hS ?_
  simp only [upd]
  refine anyHF_take (i := 25) (d := 45) (v := .slice B9 l9 cp9) (by kernel_rfl) rfl (by kernel_rfl) (by kernel_rfl) (by kernel_rfl) rfl (fun _ _ _ h => h) ⟨Or.inl ⟨by rfl, fun w hS => by obtain ⟨h0, h1, h2, h3⟩ := hS; go_simp⟩, fun _ => rfl⟩ hS ?_
  simp only [upd]
  refine anyHF_take (i := 26) (d := 46) (v := .int .i64 (l9 : Int)) (by kernel_rfl) rfl (by kernel_rfl) (by kernel_rfl) (by kernel_rfl) rfl (fun _ _ _ h => h) ⟨Or.inl ⟨by rfl, fun w hS => by obtain ⟨h0, h1, h2, h3⟩ := hS; go_simp⟩, fun _ => rfl⟩ hS ?_
  simp only [upd]
  refine anyHF_take (i := 27) (d := 47) (v := .slice (some ⟨d1, off2, none⟩) nb cap') (by kernel_rfl) rfl (by kernel_rfl) (by kernel_rfl) (by kernel_rfl) rfl (fun _ _ _ h => h) ⟨Or.inl ⟨by rfl, fun w hS => by obtain ⟨h0, h1, h2, h3⟩ := hS; go_simp⟩, fun _ => rfl⟩ hS ?_
  simp only [upd]
  refine anyHF_take (i := 28) (d := 48) (v := .pointer (some ⟨d1, off2, none⟩)) (by kernel_rfl) rfl (by kernel_rfl) (by kernel_rfl) (by kernel_rfl) rfl (fun _ _ _ h => h) ⟨Or.inl ⟨by rfl, fun w hS => by obtain ⟨h0, h1, h2, h3⟩ := hS; go_simp⟩, fun _ => rfl⟩ hS ?_
  simp only [upd]
  refine anyHF_take (i := 29) (d := 49) (v := .slice (some ⟨b8, off8, none⟩) R cap8) (by kernel_rfl) rfl (by kernel_rfl) (by kernel_rfl) (by kernel_rfl) rfl (fun _ _ _ h => h) ⟨Or.inl ⟨by rfl, fun w hS => by obtain ⟨h0, h1, h2, h3⟩ := hS; go_simp⟩, fun _ => rfl⟩ hS ?_
  simp only [upd]
  refine anyHF_take (i := 30) (d := 50) (v := .pointer (some ⟨b8, off8, none⟩)) (by kernel_rfl) rfl (by kernel_rfl) (by kernel_rfl) (by kernel_rfl) rfl (fun _ _ _ h => h) ⟨Or.inl ⟨by rfl, fun w hS => by obtain ⟨h0, h1, h2, h3⟩ := hS; go_simp⟩, fun _ => rfl⟩ hS ?_
  simp only [upd]
  refine anyHF_take (i := 31) (d := 51) (v := .slice B8 l9 cp8) (by kernel_rfl) rfl (by kernel_rfl) (by kernel_rfl) (by kernel_rfl) rfl (fun _ _ _ h => h) ⟨Or.inl ⟨by rfl, fun w hS => by obtain ⟨h0, h1, h2, h3⟩ := hS; go_simp⟩, fun _ => rfl⟩ hS ?_
  simp only [upd]
  refine anyHF_take (i := 32) (d := 52) (v := .int .i64 (l9 : Int)) (by kernel_rfl) rfl (by kernel_rfl) (by kernel_rfl) (by kernel_rfl) rfl (fun _ _ _ h => h) ⟨Or.inl ⟨by rfl, fun w hS => by obtain ⟨h0, h1, h2, h3⟩ := hS; go_simp⟩, fun _ => rfl⟩ hS ?_
  simp only [upd]
  refine anyHF_take (i := 33) (d := 53) (v := .bool false) (by kernel_rfl) rfl (by kernel_rfl) (by kernel_rfl) (by kernel_rfl) rfl (fun _ _ _ h => h) ⟨Or.inl ⟨by rfl, fun w hS => by obtain ⟨h0, h1, h2, h3⟩ := hS; go_simp⟩, fun _ => rfl⟩ hS ?_
  simp only [upd]
  refine anyHF_take (i := 34) (d := 54) (v := .bool false) (by kernel_rfl) rfl (by kernel_rfl) (by kernel_rfl) (by kernel_rfl) rfl (fun _ _ _ h => h) ⟨Or.inl ⟨by rfl, fun w hS => by obtain ⟨h0, h1, h2, h3⟩ := hS; go_simp⟩, fun _ => rfl⟩ hS ?_
  simp only [upd]
  refine anyHF_done (by kernel_rfl) ?_ _
  refine NoPanic.normal ?_
  clear hS
  clear HF0 HF1 HR0 HR1
  have hBw := hB
  clear hB
  go_wp2_with fail
  refine (HE2.out _ hBw).mono ?_
  rintro e w3 ⟨x, rfl, hx, hBn⟩
  replace hBw := below_in hBw hBn
  obtain ⟨Ax, cx, hxe, _, _⟩ := id hx
  rw [HXL.out] at hxe
  subst hxe
  clear hBn
  go_wp2_with fail
  refine (HE3.out _ hBw).mono ?_
  rintro e w4 ⟨y, rfl, hy, hBn⟩
  replace hBw := below_in hBw hBn
  replace hx := (hx.below hBn).more hBn.size
  obtain ⟨Ay, cy, hye, _, _⟩ := id hy
  rw [HYL.out] at hye
  subst hye
  clear hBn
  go_wp2_with fail
  refine (HPUT.out _ hBw).mono ?_
  rintro e w5 ⟨u, rfl, hu, hBn⟩
  replace hBw := below_in hBw hBn
  replace hx := (hx.below hBn).more hBn.size
  replace hy := (hy.below hBn).more hBn.size
  replace hu := RowC.cols hu
  obtain ⟨Au, cu, hue, _, _⟩ := id hu
  rw [HPL.out] at hue
  subst hue
  clear hBn
  go_wp2_with fail
  refine (HE4.out _ _ (hL.next hBw) hu).mono ?_
  rintro e w6 ⟨z, rfl, hz, hBn⟩
  replace hBw := below_in hBw hBn
  replace hx := (hx.below hBn).more hBn.size
  replace hy := (hy.below hBn).more hBn.size
  obtain ⟨Az, cz, hze, _, _⟩ := id hz
  rw [HPXL.out] at hze
  subst hze
  clear hBn hu HE2 HE3 HE4
  have HXC := Lib.hid (fun (U : World) (hU : Below w6.heap.size w6 U) => hx.below hU)
  have HYC := Lib.hid (fun (U : World) (hU : Below w6.heap.size w6 U) => hy.below hU)
  have HZC := Lib.hid (fun (U : World) (hU : Below w6.heap.size w6 U) => hz.below hU)
  have HAC := Lib.hid (fun (U : World) (hU : Below w6.heap.size w6 U) => (HCA.out U (below_in hBw hU)).more hBw.size)
  have HBC := Lib.hid (fun (U : World) (hU : Below w6.heap.size w6 U) => (HDA.out U (below_in hBw hU)).more hBw.size)
  have HLW := Lib.hid (fun (U : World) (hU : Below w6.heap.size w6 U) => hL.next (below_in hBw hU))
  have HPW := Lib.hid (fun (U : World) (hU : Below w6.heap.size w6 U) => HPUT.out U (below_in hBw hU))
  have HBW := Lib.hid hBw
  have c9 := (HSS.out _ hBw).1
  have hm9 := (HM9.out w6 hBw).more hBw.size
  clear hx hy hz hBw HPUT HCA HDA HM9 HSS
  obtain ⟨w7, hw7⟩ : ∃ w7, w6.alloc (.cells #[.slice (some ⟨b9, off9, none⟩) R cap9] 44) = w7 := ⟨_, rfl⟩
  have b7 : Blk w7 w6.heap.size 44 #[.slice (some ⟨b9, off9, none⟩) R cap9] := by rw [← hw7]; exact Blk.new w6 _ _
  have hB7 : Below w6.heap.size w6 w7 := by rw [← hw7]; exact below_one w6 _
  have HROW : Hid (RowC (fun _ => True) w7 w6.heap.size (.slice (some ⟨w6.heap.size, 0, none⟩) 1 1) [cs0]) :=
    RowG.one b7 (Nat.le_refl _) (manyR.imp (manyR_iff.2 (hm9.below hB7)) fun b hb => by
      have h1 : b < w6.heap.size := hb
      have h2 := hB7.size
      exact ⟨by omega, fun e => by injection e with e; have e2 : b = w6.heap.size := e; omega, trivial⟩)
  have HX7 := Lib.hid (app_far hB7 (Nat.le_refl _) HROW.out (HXC.out _ hB7))
  have HS7 := Lib.hid hB7.size
  clear hm9 b7
  go_wp2_with (first
    | (go_at_call 29; refine (Go.Proofs.YtggdlklkjnbbjaaGreatDoor.R.num_any _ _).mono ?_; rintro e w' ⟨rfl, rfl⟩)
    | (at_builtin; refine wpList_appCw (T := 22) _ rfl _ _ rfl Tryz.underlying22 [cs0] ra rfl HROW.out rfl HX7.out (by have := HXL.out; omega) (by simp) (by have := HXL.out; omega) HS7.out ?_; intro v1 w8 hrow8 hgrow8 _; have hB8 := below_grown hB7 hgrow8 hB7.size (fun g e => RowG.own_le HROW.out g e); have HR8 := Lib.hid hrow8; have HS8 := Lib.hid hB8.size; have HX8 := Lib.hid (app_far hB8 (Nat.le_refl _) HR8.out (HYC.out _ hB8)); clear hrow8 hgrow8)
    | (at_builtin; refine wpList_appCw (T := 22) _ rfl _ _ rfl Tryz.underlying22 ([cs0] ++ ra) rb rfl HR8.out rfl HX8.out (by have := HYL.out; omega) (by have := HXL.out; simp; omega) (by have := HYL.out; omega) HS8.out ?_; intro v2 w9 hrow9 hgrow9 _; have hB9 := below_grown hB8 hgrow9 hB8.size (fun g e => RowG.own_le HR8.out g e); have hcol9 := RowC.cols hrow9; clear hrow9 hgrow9)
    | (go_at_call 15; refine (HRX.out _ _ hcol9).mono ?_; rintro e w10 ⟨rfl, hBn⟩; have hB := below_in hB9 hBn; clear hBn; have hV1 := below_one w10 (.cells #[] 44); have hBV1 := below_in hB hV1; have HRE1 := Lib.hid (RowG.empty manyR 44 [] (fun _ => True) (Blk.new w10 44 #[]) (Nat.le_refl w10.heap.size)); have HAE1 := Lib.hid (app_far hBV1 hB.size HRE1.out (HAC.out _ hBV1)); have HSE1 := Lib.hid hV1.size)
    | (at_builtin; refine wpList_appC (T := 22) _ rfl _ _ rfl Tryz.underlying22 [] a rfl HRE1.out rfl HAE1.out (by have := HNE.out; omega) (by simp) (by have := HNE.out; have := HNA.out; have := HNF.out; have := HAB.out; omega) HSE1.out ?_; intro va1 wa1 hrow hgrow _; have hDa1 := below_grown hV1 hgrow hV1.size (fun g e => RowG.own_le HRE1.out g e); have hBa1 := below_in hB hDa1; have HRF1 := Lib.hid hrow; have HSF1 := Lib.hid hDa1.size; have HXF1 := Lib.hid (app_far hBa1 hB.size HRF1.out (HXC.out _ hBa1)); clear hrow hgrow)
    | (at_builtin; refine wpList_appC (T := 22) _ rfl _ _ rfl Tryz.underlying22 ([] ++ a) ra rfl HRF1.out rfl HXF1.out (by have := HXL.out; omega) (by have := HNE.out; have := HNA.out; have := HNF.out; have := HAB.out; simp; omega) (by have := HXL.out; omega) HSF1.out ?_; intro vb1 wb1 hrow hgrow _; have hDb1 := below_grown hDa1 hgrow hDa1.size (fun g e => RowG.own_le HRF1.out g e); have hBb1 := below_in hB hDb1; have hcol1 := RowC.cols hrow; clear hrow hgrow)
    | (go_at_call 32; refine (HLA.out _ _ (HLW.out _ hBb1) hcol1).mono ?_; rintro e wl1 ⟨s1, rfl, hs1, hBn⟩; have hDl1 := below_in hDb1 hBn; have hBl1 := below_in hB hDl1; obtain ⟨As1, cs1, hse, _, _⟩ := id hs1; rw [HLN.out] at hse; subst hse; clear hBn; have hV2 := below_one wl1 (.cells #[] 44); have hBV2 := below_in hBl1 hV2; have HRE2 := Lib.hid (RowG.empty manyR 44 [] (fun _ => True) (Blk.new wl1 44 #[]) (Nat.le_refl wl1.heap.size)); have HAE2 := Lib.hid (app_far hBV2 hBl1.size HRE2.out (HBC.out _ hBV2)); have HSE2 := Lib.hid hV2.size)
    | (at_builtin; refine wpList_appC (T := 22) _ rfl _ _ rfl Tryz.underlying22 [] b rfl HRE2.out rfl HAE2.out (by have := HNF.out; omega) (by simp) (by have := HNE.out; have := HNA.out; have := HNF.out; have := HAB.out; omega) HSE2.out ?_; intro va2 wa2 hrow hgrow _; have hDa2 := below_grown hV2 hgrow hV2.size (fun g e => RowG.own_le HRE2.out g e); have hBa2 := below_in hBl1 hDa2; have HRF2 := Lib.hid hrow; have HSF2 := Lib.hid hDa2.size; have HXF2 := Lib.hid (app_far hBa2 hBl1.size HRF2.out (HYC.out _ hBa2)); clear hrow hgrow)
    | (at_builtin; refine wpList_appC (T := 22) _ rfl _ _ rfl Tryz.underlying22 ([] ++ b) rb rfl HRF2.out rfl HXF2.out (by have := HYL.out; omega) (by have := HNE.out; have := HNA.out; have := HNF.out; have := HAB.out; simp; omega) (by have := HYL.out; omega) HSF2.out ?_; intro vb2 wb2 hrow hgrow _; have hDb2 := below_grown hDa2 hgrow hDa2.size (fun g e => RowG.own_le HRF2.out g e); have hBb2 := below_in hBl1 hDb2; have hcol2 := RowC.cols hrow; clear hrow hgrow)
    | (go_at_call 32; refine (HLB.out _ _ (HLW.out _ hBb2) hcol2).mono ?_; rintro e wl2 ⟨s2, rfl, hs2, hBn⟩; have hDl2 := below_in hDb2 hBn; have hBl2 := below_in hBl1 hDl2; obtain ⟨As2, cs2, hse, _, _⟩ := id hs2; rw [HLN2.out] at hse; subst hse; clear hBn)
    | (go_at_call 23; refine (HPW.out _ hBl2).mono ?_; rintro e wp ⟨u, rfl, hu, hDp⟩; have hBp := below_in hBl2 hDp; have HRU := Lib.hid hu; have HXU := Lib.hid (app_far hBp hBl2.size HRU.out (HZC.out _ hBp)); have HSP := Lib.hid hDp.size; clear hu)
    | (at_builtin; refine wpList_appC (T := 22) _ rfl _ _ rfl Tryz.underlying22 pab pxy rfl HRU.out rfl HXU.out (by have := HPXL.out; omega) (by have := HPL.out; have := HNA.out; omega) (by have := HPXL.out; omega) HSP.out ?_; intro vb3 wb3 hrow hgrow _; have hDb3 := below_grown hDp hgrow hDp.size (fun g e => RowG.own_le HRU.out g e); have hBb3 := below_in hBl2 hDb3; have hcol3 := RowC.cols hrow; clear hrow hgrow)
    | (go_at_call 32; refine (HLU.out _ _ (HLW.out _ hBb3) hcol3).mono ?_; rintro e wl3 ⟨s3, rfl, hs3, hBn⟩; have hDl3 := below_in hDb3 hBn; have hBl3 := below_in hBl2 hDl3; have H13 := below_in hDl2 hDl3; replace hs1 := (hs1.below H13).more H13.size; replace hs2 := (hs2.below hDl3).more hDl3.size; obtain ⟨As3, cs3, hse, _, _⟩ := id hs3; rw [HLN3.out] at hse; subst hse; clear hBn))
  clear HLA HLB HLU HRX HPW
  obtain ⟨A0_, c0_, e1, _, h1⟩ := hs1
  injection e1 with e1 _ e1c
  subst e1 e1c
  obtain ⟨b1s, o1s, rfl, hb1s, hc1⟩ := h1 (by rw [HLN.out]; have := HN5.out; omega)
  rw [HLN.out] at hc1
  have HC1 := Lib.hid hc1
  clear hc1 h1
  obtain ⟨A0_, c0_, e1, _, h1⟩ := hs2
  injection e1 with e1 _ e1c
  subst e1 e1c
  obtain ⟨b2s, o2s, rfl, hb2s, hc2⟩ := h1 (by rw [HLN2.out]; have := HN5.out; omega)
  rw [HLN2.out] at hc2
  have HC2 := Lib.hid hc2
  clear hc2 h1
  obtain ⟨A0_, c0_, e1, _, h1⟩ := hs3
  injection e1 with e1 _ e1c
  subst e1 e1c
  obtain ⟨b3s, o3s, rfl, hb3s, hc3⟩ := h1 (by rw [HLN3.out]; have := HN5.out; omega)
  rw [HLN3.out] at hc3
  have HC3 := Lib.hid hc3
  clear hc3 h1
  have HS3 := Lib.hid hBl3
  clear hBl3
  have hl64 := HN6.out
  go_loopw [19] (fun i wr => ∃ k : Nat, k ≤ l9 ∧ i = .int .i64 k ∧ Below wl3.heap.size wl3 wr) (fun i _ => l9 - (intOf i).toNat)
  case atStart => exact ⟨0, Nat.zero_le _, rfl, Below.refl _ _⟩
  case round =>
    obtain ⟨k, hk, rfl, hBr⟩ := hrel
    by_cases hlt : k < l9
    · have hdec : decide ((k : Int) < (l9 : Int)) = true := by simp; omega
      have i1 : (0 : Int) ≤ (k : Int) := by omega
      have i2 : (k : Int) < (l9 : Int) := by omega
      have hxb : bits .xor .u8 ((at_ la k).toNat : Int) ((at_ lb k).toNat : Int) = ((at_ lu k).toNat : Int) := by rw [bits_u8, HXOR.out k]
      have q1 : wr.cell? ⟨b1s, o1s + k, none⟩ = some (.int .u8 ((at_ la k).toNat : Int)) := (hBr.cell (p := ⟨b1s, o1s + k, none⟩) hb1s).trans (HC1.out k hlt)
      have q2 : wr.cell? ⟨b2s, o2s + k, none⟩ = some (.int .u8 ((at_ lb k).toNat : Int)) := (hBr.cell (p := ⟨b2s, o2s + k, none⟩) hb2s).trans (HC2.out k hlt)
      have q3 : wr.cell? ⟨b3s, o3s + k, none⟩ = some (.int .u8 ((at_ lu k).toNat : Int)) := (hBr.cell (p := ⟨b3s, o3s + k, none⟩) hb3s).trans (HC3.out k hlt)
      generalize at_ la k = ca at *
      generalize at_ lb k = cb at *
      generalize at_ lu k = cu at *
      go_wp2
      have hB := hBr.drew
      have hS : (fun V : World => V.cell? ⟨b1s, o1s + k, none⟩ = some (.int .u8 (ca.toNat : Int)) ∧ V.cell? ⟨b2s, o2s + k, none⟩ = some (.int .u8 (cb.toNat : Int)) ∧ V.cell? ⟨b3s, o3s + k, none⟩ = some (.int .u8 (cu.toNat : Int))) wr.drew := ⟨q1, q2, q3⟩
      clear q1 q2 q3
      refine (wpIn_wide (n := 12)).1 (wpIn_mono (region_HF (Q := NoPanic _) (S := (fun V : World => V.cell? ⟨b1s, o1s + k, none⟩ = some (.int .u8 (ca.toNat : Int)) ∧ V.cell? ⟨b2s, o2s + k, none⟩ = some (.int .u8 (cb.toNat : Int)) ∧ V.cell? ⟨b3s, o3s + k, none⟩ = some (.int .u8 (cu.toNat : Int)))) (by kernel_rfl) ?_) NoPanic.imp)
      refine anyHF_take (i := 0) (d := 167) (v := .slice (some ⟨b1s, o1s, none⟩) l9 cs1) (by kernel_rfl) rfl (by kernel_rfl) (by kernel_rfl) (by kernel_rfl) rfl (fun _ _ _ h => h) ⟨Or.inl ⟨by rfl, fun w hS => by obtain ⟨h0, h1, h2⟩ := hS; go_simp⟩, fun _ => rfl⟩ hS ?_
      simp only [upd]
      refine anyHF_take (i := 1) (d := 168) (v := .int .i64 (k : Int)) (by kernel_rfl) rfl (by kernel_rfl) (by kernel_rfl) (by kernel_rfl) rfl (fun _ _ _ h => h) ⟨Or.inl ⟨by rfl, fun w hS => by obtain ⟨h0, h1, h2⟩ := hS; go_simp⟩, fun _ => rfl⟩ hS ?_
      simp only [upd]
      refine anyHF_take (i := 2) (d := 169) (v := .pointer (some ⟨b1s, o1s + k, none⟩)) (by kernel_rfl) rfl (by kernel_rfl) (by kernel_rfl) (by kernel_rfl) rfl (fun _ _ _ h => h) ⟨Or.inl ⟨by rfl, fun w hS => by obtain ⟨h0, h1, h2⟩ := hS; go_simp⟩, fun _ => rfl⟩ hS ?_
      simp only [upd]
      refine anyHF_take (i := 3) (d := 170) (v := .int .u8 (ca.toNat : Int)) (by kernel_rfl) rfl (by kernel_rfl) (by kernel_rfl) (by kernel_rfl) rfl (fun _ _ _ h => h) ⟨Or.inl ⟨by rfl, fun w hS => by obtain ⟨h0, h1, h2⟩ := hS; go_simp⟩, fun _ => rfl⟩ hS ?_
      simp only [upd]
      refine anyHF_take (i := 4) (d := 171) (v := .slice (some ⟨b2s, o2s, none⟩) l9 cs2) (by kernel_rfl) rfl (by kernel_rfl) (by kernel_rfl) (by kernel_rfl) rfl (fun _ _ _ h => h) ⟨Or.inl ⟨by rfl, fun w hS => by obtain ⟨h0, h1, h2⟩ := hS; go_simp⟩, fun _ => rfl⟩ hS ?_
      simp only [upd]
      refine anyHF_take (i := 5) (d := 172) (v := .int .i64 (k : Int)) (by kernel_rfl) rfl (by kernel_rfl) (by kernel_rfl) (by kernel_rfl) rfl (fun _ _ _ h => h) ⟨Or.inl ⟨by rfl, fun w hS => by obtain ⟨h0, h1, h2⟩ := hS; go_simp⟩, fun _ => rfl⟩ hS ?_
      simp only [upd]
      refine anyHF_take (i := 6) (d := 173) (v := .pointer (some ⟨b2s, o2s + k, none⟩)) (by kernel_rfl) rfl (by kernel_rfl) (by kernel_rfl) (by kernel_rfl) rfl (fun _ _ _ h => h) ⟨Or.inl ⟨by rfl, fun w hS => by obtain ⟨h0, h1, h2⟩ := hS; go_simp⟩, fun _ => rfl⟩ hS ?_
      simp only [upd]
      refine anyHF_take (i := 7) (d := 174) (v := .int .u8 (cb.toNat : Int)) (by kernel_rfl) rfl (by kernel_rfl) (by kernel_rfl) (by kernel_rfl) rfl (fun _ _ _ h => h) ⟨Or.inl ⟨by rfl, fun w hS => by obtain ⟨h0, h1, h2⟩ := hS; go_simp⟩, fun _ => rfl⟩ hS ?_
      simp only [upd]
      refine anyHF_take (i := 8) (d := 175) (v := .int .u8 (cu.toNat : Int)) (by kernel_rfl) rfl (by kernel_rfl) (by kernel_rfl) (by kernel_rfl) rfl (fun _ _ _ h => h) ⟨Or.inl ⟨by rfl, fun w hS => by obtain ⟨h0, h1, h2⟩ := hS; go_simp⟩, fun _ => rfl⟩ hS ?_
      simp only [upd]
      refine anyHF_take (i := 9) (d := 176) (v := .slice (some ⟨b3s, o3s, none⟩) l9 cs3) (by kernel_rfl) rfl (by kernel_rfl) (by kernel_rfl) (by kernel_rfl) rfl (fun _ _ _ h => h) ⟨Or.inl ⟨by rfl, fun w hS => by obtain ⟨h0, h1, h2⟩ := hS; go_simp⟩, fun _ => rfl⟩ hS ?_
      simp only [upd]
      refine anyHF_take (i := 10) (d := 177) (v := .int .i64 (k : Int)) (by kernel_rfl) rfl (by kernel_rfl) (by kernel_rfl) (by kernel_rfl) rfl (fun _ _ _ h => h) ⟨Or.inl ⟨by rfl, fun w hS => by obtain ⟨h0, h1, h2⟩ := hS; go_simp⟩, fun _ => rfl⟩ hS ?_
      simp only [upd]
      refine anyHF_take (i := 11) (d := 178) (v := .pointer (some ⟨b3s, o3s + k, none⟩)) (by kernel_rfl) rfl (by kernel_rfl) (by kernel_rfl) (by kernel_rfl) rfl (fun _ _ _ h => h) ⟨Or.inl ⟨by rfl, fun w hS => by obtain ⟨h0, h1, h2⟩ := hS; go_simp⟩, fun _ => rfl⟩ hS ?_
      simp only [upd]
      refine anyHF_take (i := 12) (d := 179) (v := .int .u8 (cu.toNat : Int)) (by kernel_rfl) rfl (by kernel_rfl) (by kernel_rfl) (by kernel_rfl) rfl (fun _ _ _ h => h) ⟨Or.inl ⟨by rfl, fun w hS => by obtain ⟨h0, h1, h2⟩ := hS; go_simp⟩, fun _ => rfl⟩ hS ?_
      simp only [upd]
      refine anyHF_take (i := 13) (d := 180) (v := .bool false) (by kernel_rfl) rfl (by kernel_rfl) (by kernel_rfl) (by kernel_rfl) rfl (fun _ _ _ h => h) ⟨Or.inl ⟨by rfl, fun w hS => by obtain ⟨h0, h1, h2⟩ := hS; go_simp⟩, fun _ => rfl⟩ hS ?_
      simp only [upd]
      refine anyHF_done (by kernel_rfl) ?_ _
      refine NoPanic.normal ?_
      clear hS
      go_wp2
      go_roundw
      case rel => exact ⟨k + 1, by omega, by go_num, hB⟩
      case measure => simp [intOf]; omega
    · obtain rfl : k = l9 := by omega
      have e1 : decide ((k : Int) < (k : Int)) = false := by simp
      have hBU := below_in HS3.out hBr
      go_wp2_with (first
        | (go_at_call 23; refine (HXY.out _ _ _ ((HXC.out _ hBU).more hBU.size) ((HYC.out _ hBU).more hBU.size)).mono ?_; rintro e wp2 ⟨up, rfl, hup, hBn⟩; have hBV := below_in hBU hBn; have hupc := RowC.cols hup)
        | (go_at_call 21; refine (HSM.out _ _ _ ((HZC.out _ hBV).more hBV.size) hupc).mono ?_; rintro e wq ⟨rfl, hBn2⟩; have hBf := below_in hBV hBn2)
        | (go_at_call 26; refine (Go.Proofs.YtggdlklkjnbbjaaGreatDoor.R.works_any _ (HLW.out _ hBf)).mono ?_; rintro e wz ⟨rfl, hBz⟩))
      go_ret
      exact ⟨rfl, below_in HBW.out (below_in hBf hBz)⟩

open Go.Proofs.YtggdlklkjnbbjaaGreatDoor.E Go.Proofs.YtggdlklkjnbbjaaGreatDoor.C Go.Proofs.YtggdlklkjnbbjaaGreatDoor.R in
set_option maxRecDepth 100000 in
set_option maxHeartbeats 4000000 in
theorem walk (p : Int) (v : Value) (a : List (List (List UInt8))) (v2 : Value) (b : List (List (List UInt8))) (w : World) (hL : Laid w) (wp : -9223372036854775808 ≤ p ∧ p ≤ 9223372036854775807) (hC : Cols w.heap.size w v a) (hD : Cols w.heap.size w v2 b) :
    Calls Tryz.prog 9 #[.int .i64 p, v, v2] w fun e w' => e = .returned (.bool true) ∧ Below w.heap.size w w' := by
  by_cases hf0 : Few6 a
  case neg => exact n1 p v a v2 b w hL wp hC hD hf0
  by_cases hf1 : Few6 b
  case neg => exact n2 p v a v2 b w hL wp hC hD hf0 hf1
  by_cases hr0 : DataR p a
  case neg => exact n3 p v a v2 b w hL wp hC hD hf0 hf1 hr0
  by_cases hr1 : DataR p b
  case neg => exact n4 p v a v2 b w hL wp hC hD hf0 hf1 hr0 hr1
  by_cases hl : (firstC a).length = (firstC b).length
  case neg => exact n5 p v a v2 b w hL wp hC hD hf0 hf1 hr0 hr1 hl
  exact yes p v a v2 b w hL wp hC hD hf0 hf1 hr0 hr1 hl

set_option maxRecDepth 100000 in
theorem lifted (os : Os) (started : os.Started) (H : Type) (enc : TypeId × Value → H) :
    ReturnsInHanded {} Tryz.checked os 9 .any (fun w args => (Rows.rdpAddsSpec.pre enc Tryz.prog Tryz.f9 [] false w args ∧ laidMetH Tryz.prog laidL w) ∧ sizedMet enc Tryz.prog Tryz.f9 (OpenSpec.ofChange Rows.rdpAddsSpec) false w args)
      (Rows.rdpAddsSpec.post enc Tryz.prog Tryz.f9 false true false false) := by
  refine returnsInHanded_of_change_and (C := Tryz.checked) (X := fun w _ => laidMetH Tryz.prog laidL w) (fun _ _ _ hh h => h.of_heap hh) own started (by kernel_rfl) Tryz.func9
    (ChangeSpec.witness_shaped (enc := enc) (C := Tryz.checked) (os := os) (X := fun w _ => laidMetH Tryz.prog laidL w) false (World.doorLaid Tryz.prog 200 os) #[.int .i64 0, .slice none 0 0, .slice none 0 0] 8 rfl (World.shaped_of_RefB (by kernel_rfl) (by kernel_rfl)) (by kernel_rfl) (by kernel_rfl) (by kernel_rfl) (door_met os _)) ?_
  intro W base args ds gs before hval0 hW _ _ hL0 _
  have hL := laid_of hL0
  have hval : ∀ (j : Nat) t v, Tryz.f9.params[j]? = some t → args[j]? = some v → Value.okWide Tryz.prog W .any base t v := hval0
  have hW' := hW
  obtain ⟨p, q, hA0, hV, rfl, hfz, hnd⟩ := hW
  have hA : DataW.TrodAll enc Tryz.prog W 0 (fun _ => true) true Tryz.f9.params.toList args.toList ds p := hA0
  rw [Tryz.params9] at hA hval
  obtain ⟨v0, vs0, d0, ds0, p0, q0, hargs, rfl, rfl, h0, r0⟩ := trodAll_cons hA
  obtain ⟨v1, vs1, d1, ds1, p1, q1, rfl, rfl, rfl, h1, r1⟩ := trodAll_cons r0
  obtain ⟨v2, vs2, d2, ds2, p2, q2, rfl, rfl, rfl, h2, r2⟩ := trodAll_cons r1
  obtain ⟨rfl, rfl, rfl⟩ := trodAll_nil r2
  obtain rfl : args = #[v0, v1, v2] := by cases args; simp_all
  obtain ⟨rfl, rfl⟩ := trodVars_none hV
  obtain ⟨a0, rfl, rfl, rfl, w0⟩ := open_int Tryz.underlying3 (hval 0 3 v0 rfl rfl) h0
  have k1 := h1
  have lt1 : ∀ x ∈ p1, x.block < W.heap.size := by obtain ⟨m, hm⟩ := k1; exact DataW.trod_lt m _ _ _ hm
  obtain ⟨a1, len1, cap1, rfl⟩ := okWide_slice Tryz.underlying22 (hval 1 22 v1 rfl rfl)
  obtain ⟨l1, w1⟩ : ∃ css, E.Cols W.heap.size W (.slice a1 len1 cap1) css := by obtain ⟨fuel, hf⟩ := h1; exact E.open_cols hf
  have k2 := h2
  have lt2 : ∀ x ∈ p2, x.block < W.heap.size := by obtain ⟨m, hm⟩ := k2; exact DataW.trod_lt m _ _ _ hm
  obtain ⟨a2, len2, cap2, rfl⟩ := okWide_slice Tryz.underlying22 (hval 2 22 v2 rfl rfl)
  obtain ⟨l2, w2⟩ : ∃ css, E.Cols W.heap.size W (.slice a2 len2 cap2) css := by obtain ⟨fuel, hf⟩ := h2; exact E.open_cols hf
  clear hA0 hval0
  simp only [List.append_nil] at hW'
  refine (walk a0 _ l1 _ l2 W hL (E.wf_i64 w0) w1 w2).mono fun e W' ⟨he, bel⟩ => ?_
  subst he
  exact ⟨_, rfl, _, _, _, [], _, [], hW', trodAll_mk1 (shut_bool Tryz.underlying4 _), (trodAll_cons_mk (shut_int Tryz.underlying3 w0) (trodAll_cons_mk (Below.trod laidOut (by kernel_rfl) (of_decide_eq_true (by kernel_rfl)) k1 bel lt1) (trodAll_cons_mk (Below.trod laidOut (by kernel_rfl) (of_decide_eq_true (by kernel_rfl)) k2 bel lt2) trodAll_mk0))), rfl, bel.frame _, fun h => by cases h⟩

theorem over : Rows.rdpAddsRow.holds Tryz.pinned (OpenSpec.ofChange Rows.rdpAddsSpec) :=
  OpenClaim.holds_of_wide 9 Tryz.f9 rfl rfl rfl rfl rfl rfl rfl ⟨rfl, rfl, rfl, rfl, rfl⟩ rfl rfl rfl rfl rfl (by kernel_rfl) Tryz.func9 (by kernel_rfl)
    (of_decide_eq_true (by kernel_rfl)) (by unfold Func.isWrapper; first | (rw [if_pos (by decide +kernel)]; kernel_rfl) | (rw [if_neg (by decide +kernel)]; exact ⟨rfl, rfl⟩))
    (fun os started H enc _ => lifted os started H enc)

/-- The tied card: the row, and the tie that is given. -/
theorem rdpAdds_holds : Rows.RdpAddsCardSaid :=
  Claim7.holds_tied_plain_at .later [] [.data, .data] true (true, "57ec92c1cad9246a878d60c07de9d5f93b7ace9698c7d1eeaf89e47cae761c73") true over (fun _ h => by cases h) (by kernel_rfl) (fun _ h => by cases h) rdpAdds_row_tie rfl ⟨rfl, rfl⟩ (by kernel_rfl) rfl
    (fun f fn hf hfn => by
      obtain rfl : f = 9 := Option.some.inj ((show Tryz.prog.funcNamed "palisade/palisadelaw07.RdpAdds" = some 9 by kernel_rfl).symm.trans hf) |>.symm
      obtain rfl : fn = Tryz.f9 := (Option.some.inj (Tryz.func9.symm.trans hfn)).symm
      exact ⟨by kernel_rfl, fun j t ht => by
        rw [Tryz.params9] at ht
        have hm : t ∈ [3, 22, 22] := by simpa using Array.mem_of_getElem? ht
        have hall : ([3, 22, 22].all fun u => !Tryz.prog.wantsStandIn u) = true := by kernel_rfl
        exact (show Tryz.prog.wantsStandIn t = false by simpa using List.all_eq_true.1 hall t hm)⟩)
    (by kernel_rfl)
end Go.Proofs.YtggdlklkjnbbjaaGreatDoor.rdpAdds
