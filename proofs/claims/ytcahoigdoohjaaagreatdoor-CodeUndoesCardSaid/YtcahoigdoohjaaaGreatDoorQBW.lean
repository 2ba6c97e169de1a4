/- -/
import Derived.Test.YtcahoigdoohjaaaGreatDoorQBSA
import Derived.Test.YtcahoigdoohjaaaGreatDoorCards
import Derived.Test.YtcahoigdoohjaaaGreatDoorTie
import Derived.SevenTiedAt
import Derived.Test.YtcahoigdoohjaaaGreatDoorQBG1
import Derived.Test.YtcahoigdoohjaaaGreatDoorQBG23
set_option linter.unusedVariables false
set_option linter.unusedSimpArgs false
set_option maxRecDepth 100000
set_option maxHeartbeats 20000000
namespace Go.Proofs.YtcahoigdoohjaaaGreatDoor.codeUndoes
open Go.ChangeShapes Go.WideShapes Go.ChangeAt Go.RowKit Go.Shelf
attribute [local go_sem] Oper.semAt_some

open Go.Proofs.YtcahoigdoohjaaaGreatDoor.E Go.Proofs.YtcahoigdoohjaaaGreatDoor.C Go.Proofs.YtcahoigdoohjaaaGreatDoor.Q Go.Proofs.YtcahoigdoohjaaaGreatDoor.Cd in
theorem walk (k p : Int) (v : Value) (css : List (List (List UInt8))) (x0 x1 : Int) (v0 : Value) (t0 : List UInt8) (v1 : Value) (t1 : List UInt8) (w : World) (hL : Laid w) (wk : -9223372036854775808 ≤ k ∧ k ≤ 9223372036854775807) (wp : -9223372036854775808 ≤ p ∧ p ≤ 9223372036854775807) (hC : Cols w.heap.size w v css) (wx0 : -9223372036854775808 ≤ x0 ∧ x0 ≤ 9223372036854775807) (wx1 : -9223372036854775808 ≤ x1 ∧ x1 ≤ 9223372036854775807) (hT0 : Bytes w.heap.size w v0 t0) (hT1 : Bytes w.heap.size w v1 t1) :
  Calls Tryz.prog 9 #[.agg #[.int .i64 k, .int .i64 p], v, .agg #[.int .i64 x0, .int .i64 x1], .agg #[v0, v1]] w fun e w' => e = .returned (.bool true) ∧ Below w.heap.size w w' := by
 obtain ⟨A, cap, rfl, _, _⟩ := id hC
 obtain ⟨A0, k0, rfl, _, _⟩ := id hT0
 obtain ⟨A1, k1, rfl, _, _⟩ := id hT1
 obtain ⟨g6, hg6⟩ : ∃ g, w.heap.size + 1 = g := ⟨_, rfl⟩
 obtain ⟨g7, hg7⟩ : ∃ g, g6 + 1 = g := ⟨_, rfl⟩
 obtain ⟨wb, hwb⟩ : ∃ wb, ((w.alloc (.cells #[.int .i64 k, .int .i64 p] 24)).alloc (.cells #[.int .i64 x0, .int .i64 x1] 76)).alloc (.cells #[.slice A0 t0.length k0, .slice A1 t1.length k1] 71) = wb := ⟨_, rfl⟩
 have hBz : Below w.heap.size w wb := by rw [← hwb]; exact below_in (below_two w _ _) (below_one _ _)
 have bk : Blk wb w.heap.size 24 #[.int .i64 k, .int .i64 p] := by rw [← hwb]; exact ((Blk.new w _ _).alloc _).alloc _
 have bx : Blk wb g6 76 #[.int .i64 x0, .int .i64 x1] := by rw [← hwb, ← hg6]; exact (Blk.at_size (Blk.new _ _ _) (by simp)).alloc _
 have bt : Blk wb g7 71 #[.slice A0 t0.length k0, .slice A1 t1.length k1] := by rw [← hwb, ← hg7, ← hg6]; exact Blk.at_size (Blk.new _ _ _) (by simp)
 have hsz : wb.heap.size = g7 + 1 := by rw [← hwb, ← hg7, ← hg6]; simp
 have hCU : ∀ U, Below w.heap.size w U → Cols w.heap.size U (.slice A css.length cap) css := fun U hU => hC.below hU
 have HT0 := Lib.hid hT0
 have HT1 := Lib.hid hT1
 obtain ⟨n0, hn0⟩ : ∃ n0, t0.length = n0 := ⟨_, rfl⟩
 obtain ⟨n1, hn1⟩ : ∃ n1, t1.length = n1 := ⟨_, rfl⟩
 rw [hn0] at HT0 bt hwb ⊢
 rw [hn1] at HT1 bt hwb ⊢
 clear hT0 hT1
 have HSS : Hid (∀ U, Below wb.heap.size wb U → (fun U : World => U.cell? ⟨w.heap.size, 0, none⟩ = some (.int .i64 k) ∧ U.cell? ⟨w.heap.size, 1, none⟩ = some (.int .i64 p) ∧ U.cell? ⟨g6, 0, none⟩ = some (.int .i64 x0) ∧ U.cell? ⟨g6, 1, none⟩ = some (.int .i64 x1) ∧ U.cell? ⟨g7, 0, none⟩ = some (.slice A0 n0 k0) ∧ U.cell? ⟨g7, 1, none⟩ = some (.slice A1 n1 k1)) U) := fun U hU => ⟨(bk.below hU bk.lt).cell 0, (bk.below hU bk.lt).cell 1, (bx.below hU bx.lt).cell 0, (bx.below hU bx.lt).cell 1, (bt.below hU bt.lt).cell 0, (bt.below hU bt.lt).cell 1⟩
 by_cases hf : Few6 css
 case neg =>
  have HF := Lib.hid (few6_any _ css wb.drew (hCU _ hBz.drew) false (by simp [hf]))
  clear hf hC hCU bk bx bt hn0 hn1 hsz
  generalize css.length = N at *
  go_enter Tryz.func9, Tryz.ntmps9
  go_wp2_with fail
  try rw [hwb]
  try simp only [hg6]
  try simp only [hg7]
  have hBx : Below wb.heap.size wb wb.drew := (Below.refl _ _).drew
  have hS : (fun U : World => U.cell? ⟨w.heap.size, 0, none⟩ = some (.int .i64 k) ∧ U.cell? ⟨w.heap.size, 1, none⟩ = some (.int .i64 p) ∧ U.cell? ⟨g6, 0, none⟩ = some (.int .i64 x0) ∧ U.cell? ⟨g6, 1, none⟩ = some (.int .i64 x1) ∧ U.cell? ⟨g7, 0, none⟩ = some (.slice A0 n0 k0) ∧ U.cell? ⟨g7, 1, none⟩ = some (.slice A1 n1 k1)) wb.drew := HSS.out _ hBx
  refine (wpIn_wide (n := 12)).1 (wpIn_mono (region_HF (Q := NoPanic _) (S := (fun U : World => U.cell? ⟨w.heap.size, 0, none⟩ = some (.int .i64 k) ∧ U.cell? ⟨w.heap.size, 1, none⟩ = some (.int .i64 p) ∧ U.cell? ⟨g6, 0, none⟩ = some (.int .i64 x0) ∧ U.cell? ⟨g6, 1, none⟩ = some (.int .i64 x1) ∧ U.cell? ⟨g7, 0, none⟩ = some (.slice A0 n0 k0) ∧ U.cell? ⟨g7, 1, none⟩ = some (.slice A1 n1 k1))) (by kernel_rfl) ?_) NoPanic.imp)
  refine tkF (i := 0) (d := 26) (v := .slice A N cap) (s := hS) (c := ?_)
  simp only [ud9]
  refine oneF (i := 1) (c := ?_)
  gi_wp2_with fail
  refine ⟨trivial, (callsIn_wide.2 (HF.out)).mono ?_⟩
  rintro e wz ⟨rfl, hwe⟩
  subst hwe
  gi_wp2
  try (refine ⟨hS, ?_⟩)
  refine tkF (i := 2) (d := 28) (v := .bool true) (s := hS) (c := ?_)
  simp only [ud9]
  refine tkF (i := 3) (d := 29) (v := .bool true) (s := hS) (c := ?_)
  simp only [ud9]
  refine tkF (i := 4) (d := 30) (v := undef) (q8 := ⟨Or.inr ⟨by rfl, rfl⟩, fun _ => rfl⟩) (s := hS) (c := ?_)
  simp only [ud9]
  refine tkF (i := 5) (d := 31) (v := undef) (q8 := ⟨Or.inr ⟨by rfl, rfl⟩, fun _ => rfl⟩) (s := hS) (c := ?_)
  simp only [ud9]
  refine tkF (i := 6) (d := 32) (v := undef) (q8 := ⟨Or.inr ⟨by rfl, rfl⟩, fun _ => rfl⟩) (s := hS) (c := ?_)
  simp only [ud9]
  refine tkF (i := 7) (d := 33) (v := .bool true) (s := hS) (c := ?_)
  simp only [ud9]
  refine tkF (i := 8) (d := 34) (v := .bool true) (s := hS) (c := ?_)
  simp only [ud9]
  refine tkF (i := 9) (d := 35) (v := undef) (q8 := ⟨Or.inr ⟨by rfl, rfl⟩, fun _ => rfl⟩) (s := hS) (c := ?_)
  simp only [ud9]
  refine tkF (i := 10) (d := 36) (v := undef) (q8 := ⟨Or.inr ⟨by rfl, rfl⟩, fun _ => rfl⟩) (s := hS) (c := ?_)
  simp only [ud9]
  refine anyHF_skip (i := 11) (d := 37) (by kernel_rfl) rfl (by rfl) rfl wide_fn hS ?_
  simp only [ud9]
  refine tkF (i := 12) (d := 38) (v := undef) (q8 := ⟨Or.inr ⟨by rfl, rfl⟩, fun _ => rfl⟩) (s := hS) (c := ?_)
  simp only [ud9]
  refine tkF (i := 13) (d := 39) (v := .bool true) (s := hS) (c := ?_)
  simp only [ud9]
  refine tkF (i := 14) (d := 40) (v := .bool true) (s := hS) (c := ?_)
  simp only [ud9]
  refine tkF (i := 15) (d := 41) (v := undef) (q8 := ⟨Or.inr ⟨by rfl, rfl⟩, fun _ => rfl⟩) (s := hS) (c := ?_)
  simp only [ud9]
  refine tkF (i := 16) (d := 42) (v := undef) (q8 := ⟨Or.inr ⟨by rfl, rfl⟩, fun _ => rfl⟩) (s := hS) (c := ?_)
  simp only [ud9]
  refine tkF (i := 17) (d := 43) (v := undef) (q8 := ⟨Or.inr ⟨by rfl, rfl⟩, fun _ => rfl⟩) (s := hS) (c := ?_)
  simp only [ud9]
  refine tkF (i := 18) (d := 44) (v := undef) (q8 := ⟨Or.inr ⟨by rfl, rfl⟩, fun _ => rfl⟩) (s := hS) (c := ?_)
  simp only [ud9]
  refine tkF (i := 19) (d := 45) (v := undef) (q8 := ⟨Or.inr ⟨by rfl, rfl⟩, fun _ => rfl⟩) (s := hS) (c := ?_)
  simp only [ud9]
  refine tkF (i := 20) (d := 46) (v := undef) (q8 := ⟨Or.inr ⟨by rfl, rfl⟩, fun _ => rfl⟩) (s := hS) (c := ?_)
  simp only [ud9]
  refine tkF (i := 21) (d := 47) (v := undef) (q8 := ⟨Or.inr ⟨by rfl, rfl⟩, fun _ => rfl⟩) (s := hS) (c := ?_)
  simp only [ud9]
  refine tkF (i := 22) (d := 48) (v := undef) (q8 := ⟨Or.inr ⟨by rfl, rfl⟩, fun _ => rfl⟩) (s := hS) (c := ?_)
  simp only [ud9]
  refine tkF (i := 23) (d := 49) (v := undef) (q8 := ⟨Or.inr ⟨by rfl, rfl⟩, fun _ => rfl⟩) (s := hS) (c := ?_)
  simp only [ud9]
  refine tkF (i := 24) (d := 50) (v := undef) (q8 := ⟨Or.inr ⟨by rfl, rfl⟩, fun _ => rfl⟩) (s := hS) (c := ?_)
  simp only [ud9]
  refine tkF (i := 25) (d := 51) (v := .bool true) (s := hS) (c := ?_)
  simp only [ud9]
  refine tkF (i := 26) (d := 52) (v := .bool true) (s := hS) (c := ?_)
  simp only [ud9]
  refine tkF (i := 27) (d := 53) (v := undef) (q8 := ⟨Or.inr ⟨by rfl, rfl⟩, fun _ => rfl⟩) (s := hS) (c := ?_)
  simp only [ud9]
  refine tkF (i := 28) (d := 54) (v := undef) (q8 := ⟨Or.inr ⟨by rfl, rfl⟩, fun _ => rfl⟩) (s := hS) (c := ?_)
  simp only [ud9]
  refine tkF (i := 29) (d := 55) (v := undef) (q8 := ⟨Or.inr ⟨by rfl, rfl⟩, fun _ => rfl⟩) (s := hS) (c := ?_)
  simp only [ud9]
  refine tkF (i := 30) (d := 56) (v := undef) (q8 := ⟨Or.inr ⟨by rfl, rfl⟩, fun _ => rfl⟩) (s := hS) (c := ?_)
  simp only [ud9]
  refine tkF (i := 31) (d := 57) (v := undef) (q8 := ⟨Or.inr ⟨by rfl, rfl⟩, fun _ => rfl⟩) (s := hS) (c := ?_)
  simp only [ud9]
  refine tkF (i := 32) (d := 58) (v := undef) (q8 := ⟨Or.inr ⟨by rfl, rfl⟩, fun _ => rfl⟩) (s := hS) (c := ?_)
  simp only [ud9]
  refine tkF (i := 33) (d := 59) (v := undef) (q8 := ⟨Or.inr ⟨by rfl, rfl⟩, fun _ => rfl⟩) (s := hS) (c := ?_)
  simp only [ud9]
  refine tkF (i := 34) (d := 60) (v := .bool true) (s := hS) (c := ?_)
  simp only [ud9]
  refine anyHF_done (by kernel_rfl) ?_ _
  refine NoPanic.normal ?_
  clear hS
  go_wp2_with (first
   | (go_at_call 12; refine (works_any _ (hL.next (below_in hBz hBx))).mono ?_; rintro e w9 ⟨rfl, hB9⟩))
  go_ret
  exact ⟨rfl, below_in (below_in hBz hBx) hB9⟩
 have HF := Lib.hid (few6_any _ css wb.drew (hCU _ hBz.drew) true (by simp [hf]))
 obtain ⟨hl1000, hjj⟩ := few_len hf
 by_cases hp11 : 11 < p
 case pos =>
  have dp : decide (11 < p) = true := decide_eq_true hp11
  clear hf hC hCU bk bx bt hn0 hn1 hsz hjj hl1000
  generalize css.length = N at *
  go_enter Tryz.func9, Tryz.ntmps9
  go_wp2_with fail
  try rw [hwb]
  try simp only [hg6]
  try simp only [hg7]
  have hBx : Below wb.heap.size wb wb.drew := (Below.refl _ _).drew
  have hS : (fun U : World => U.cell? ⟨w.heap.size, 0, none⟩ = some (.int .i64 k) ∧ U.cell? ⟨w.heap.size, 1, none⟩ = some (.int .i64 p) ∧ U.cell? ⟨g6, 0, none⟩ = some (.int .i64 x0) ∧ U.cell? ⟨g6, 1, none⟩ = some (.int .i64 x1) ∧ U.cell? ⟨g7, 0, none⟩ = some (.slice A0 n0 k0) ∧ U.cell? ⟨g7, 1, none⟩ = some (.slice A1 n1 k1)) wb.drew := HSS.out _ hBx
  refine (wpIn_wide (n := 12)).1 (wpIn_mono (region_HF (Q := NoPanic _) (S := (fun U : World => U.cell? ⟨w.heap.size, 0, none⟩ = some (.int .i64 k) ∧ U.cell? ⟨w.heap.size, 1, none⟩ = some (.int .i64 p) ∧ U.cell? ⟨g6, 0, none⟩ = some (.int .i64 x0) ∧ U.cell? ⟨g6, 1, none⟩ = some (.int .i64 x1) ∧ U.cell? ⟨g7, 0, none⟩ = some (.slice A0 n0 k0) ∧ U.cell? ⟨g7, 1, none⟩ = some (.slice A1 n1 k1))) (by kernel_rfl) ?_) NoPanic.imp)
  refine tkF (i := 0) (d := 26) (v := .slice A N cap) (s := hS) (c := ?_)
  simp only [ud9]
  refine oneF (i := 1) (c := ?_)
  gi_wp2_with fail
  refine ⟨trivial, (callsIn_wide.2 (HF.out)).mono ?_⟩
  rintro e wz ⟨rfl, hwe⟩
  subst hwe
  gi_wp2
  try (refine ⟨hS, ?_⟩)
  refine tkF (i := 2) (d := 28) (v := .bool false) (s := hS) (c := ?_)
  simp only [ud9]
  refine tkF (i := 3) (d := 29) (v := .bool false) (s := hS) (c := ?_)
  simp only [ud9]
  refine tkF (i := 4) (d := 30) (v := .pointer (some ⟨w.heap.size, 1, none⟩)) (s := hS) (c := ?_)
  simp only [ud9]
  refine tkF (i := 5) (d := 31) (v := .int .i64 p) (s := hS) (c := ?_)
  simp only [ud9]
  refine tkF (i := 6) (d := 32) (v := .bool true) (s := hS) (c := ?_)
  simp only [ud9]
  refine tkF (i := 7) (d := 33) (v := .bool true) (s := hS) (c := ?_)
  simp only [ud9]
  refine tkF (i := 8) (d := 34) (v := .bool true) (s := hS) (c := ?_)
  simp only [ud9]
  refine tkF (i := 9) (d := 35) (v := undef) (q8 := ⟨Or.inr ⟨by rfl, rfl⟩, fun _ => rfl⟩) (s := hS) (c := ?_)
  simp only [ud9]
  refine tkF (i := 10) (d := 36) (v := undef) (q8 := ⟨Or.inr ⟨by rfl, rfl⟩, fun _ => rfl⟩) (s := hS) (c := ?_)
  simp only [ud9]
  refine anyHF_skip (i := 11) (d := 37) (by kernel_rfl) rfl (by rfl) rfl wide_fn hS ?_
  simp only [ud9]
  refine tkF (i := 12) (d := 38) (v := undef) (q8 := ⟨Or.inr ⟨by rfl, rfl⟩, fun _ => rfl⟩) (s := hS) (c := ?_)
  simp only [ud9]
  refine tkF (i := 13) (d := 39) (v := .bool true) (s := hS) (c := ?_)
  simp only [ud9]
  refine tkF (i := 14) (d := 40) (v := .bool true) (s := hS) (c := ?_)
  simp only [ud9]
  refine tkF (i := 15) (d := 41) (v := undef) (q8 := ⟨Or.inr ⟨by rfl, rfl⟩, fun _ => rfl⟩) (s := hS) (c := ?_)
  simp only [ud9]
  refine tkF (i := 16) (d := 42) (v := undef) (q8 := ⟨Or.inr ⟨by rfl, rfl⟩, fun _ => rfl⟩) (s := hS) (c := ?_)
  simp only [ud9]
  refine tkF (i := 17) (d := 43) (v := undef) (q8 := ⟨Or.inr ⟨by rfl, rfl⟩, fun _ => rfl⟩) (s := hS) (c := ?_)
  simp only [ud9]
  refine tkF (i := 18) (d := 44) (v := undef) (q8 := ⟨Or.inr ⟨by rfl, rfl⟩, fun _ => rfl⟩) (s := hS) (c := ?_)
  simp only [ud9]
  refine tkF (i := 19) (d := 45) (v := undef) (q8 := ⟨Or.inr ⟨by rfl, rfl⟩, fun _ => rfl⟩) (s := hS) (c := ?_)
  simp only [ud9]
  refine tkF (i := 20) (d := 46) (v := undef) (q8 := ⟨Or.inr ⟨by rfl, rfl⟩, fun _ => rfl⟩) (s := hS) (c := ?_)
  simp only [ud9]
  refine tkF (i := 21) (d := 47) (v := undef) (q8 := ⟨Or.inr ⟨by rfl, rfl⟩, fun _ => rfl⟩) (s := hS) (c := ?_)
  simp only [ud9]
  refine tkF (i := 22) (d := 48) (v := undef) (q8 := ⟨Or.inr ⟨by rfl, rfl⟩, fun _ => rfl⟩) (s := hS) (c := ?_)
  simp only [ud9]
  refine tkF (i := 23) (d := 49) (v := undef) (q8 := ⟨Or.inr ⟨by rfl, rfl⟩, fun _ => rfl⟩) (s := hS) (c := ?_)
  simp only [ud9]
  refine tkF (i := 24) (d := 50) (v := undef) (q8 := ⟨Or.inr ⟨by rfl, rfl⟩, fun _ => rfl⟩) (s := hS) (c := ?_)
  simp only [ud9]
  refine tkF (i := 25) (d := 51) (v := .bool true) (s := hS) (c := ?_)
  simp only [ud9]
  refine tkF (i := 26) (d := 52) (v := .bool true) (s := hS) (c := ?_)
  simp only [ud9]
  refine tkF (i := 27) (d := 53) (v := undef) (q8 := ⟨Or.inr ⟨by rfl, rfl⟩, fun _ => rfl⟩) (s := hS) (c := ?_)
  simp only [ud9]
  refine tkF (i := 28) (d := 54) (v := undef) (q8 := ⟨Or.inr ⟨by rfl, rfl⟩, fun _ => rfl⟩) (s := hS) (c := ?_)
  simp only [ud9]
  refine tkF (i := 29) (d := 55) (v := undef) (q8 := ⟨Or.inr ⟨by rfl, rfl⟩, fun _ => rfl⟩) (s := hS) (c := ?_)
  simp only [ud9]
  refine tkF (i := 30) (d := 56) (v := undef) (q8 := ⟨Or.inr ⟨by rfl, rfl⟩, fun _ => rfl⟩) (s := hS) (c := ?_)
  simp only [ud9]
  refine tkF (i := 31) (d := 57) (v := undef) (q8 := ⟨Or.inr ⟨by rfl, rfl⟩, fun _ => rfl⟩) (s := hS) (c := ?_)
  simp only [ud9]
  refine tkF (i := 32) (d := 58) (v := undef) (q8 := ⟨Or.inr ⟨by rfl, rfl⟩, fun _ => rfl⟩) (s := hS) (c := ?_)
  simp only [ud9]
  refine tkF (i := 33) (d := 59) (v := undef) (q8 := ⟨Or.inr ⟨by rfl, rfl⟩, fun _ => rfl⟩) (s := hS) (c := ?_)
  simp only [ud9]
  refine tkF (i := 34) (d := 60) (v := .bool true) (s := hS) (c := ?_)
  simp only [ud9]
  refine anyHF_done (by kernel_rfl) ?_ _
  refine NoPanic.normal ?_
  clear hS
  go_wp2_with (first
   | (go_at_call 12; refine (works_any _ (hL.next (below_in hBz hBx))).mono ?_; rintro e w9 ⟨rfl, hB9⟩))
  go_ret
  exact ⟨rfl, below_in (below_in hBz hBx) hB9⟩
 have dp : decide (11 < p) = false := decide_eq_false hp11
 by_cases hok : AllK k p css
 case neg =>
  have HR9 := Lib.hid (fun U (hU : Below wb.heap.size wb U) => ref9Right_any (B := w.heap.size) k p _ css U (below_in hBz hU).size (hCU U (below_in hBz hU)) hl1000 false (by simp [hok]))
  clear hf hC hCU bk bx bt hn0 hn1 hsz hjj hl1000 hok
  generalize css.length = N at *
  go_enter Tryz.func9, Tryz.ntmps9
  go_wp2_with fail
  try rw [hwb]
  try simp only [hg6]
  try simp only [hg7]
  have hBx : Below wb.heap.size wb wb.drew := (Below.refl _ _).drew
  have hS : (fun U : World => U.cell? ⟨w.heap.size, 0, none⟩ = some (.int .i64 k) ∧ U.cell? ⟨w.heap.size, 1, none⟩ = some (.int .i64 p) ∧ U.cell? ⟨g6, 0, none⟩ = some (.int .i64 x0) ∧ U.cell? ⟨g6, 1, none⟩ = some (.int .i64 x1) ∧ U.cell? ⟨g7, 0, none⟩ = some (.slice A0 n0 k0) ∧ U.cell? ⟨g7, 1, none⟩ = some (.slice A1 n1 k1)) wb.drew := HSS.out _ hBx
  refine (wpIn_wide (n := 12)).1 (wpIn_mono (region_HF (Q := NoPanic _) (S := (fun U : World => U.cell? ⟨w.heap.size, 0, none⟩ = some (.int .i64 k) ∧ U.cell? ⟨w.heap.size, 1, none⟩ = some (.int .i64 p) ∧ U.cell? ⟨g6, 0, none⟩ = some (.int .i64 x0) ∧ U.cell? ⟨g6, 1, none⟩ = some (.int .i64 x1) ∧ U.cell? ⟨g7, 0, none⟩ = some (.slice A0 n0 k0) ∧ U.cell? ⟨g7, 1, none⟩ = some (.slice A1 n1 k1))) (by kernel_rfl) ?_) NoPanic.imp)
  refine tkF (i := 0) (d := 26) (v := .slice A N cap) (s := hS) (c := ?_)
  simp only [ud9]
  refine oneF (i := 1) (c := ?_)
  gi_wp2_with fail
  refine ⟨trivial, (callsIn_wide.2 (HF.out)).mono ?_⟩
  rintro e wz ⟨rfl, hwe⟩
  subst hwe
  gi_wp2
  try (refine ⟨hS, ?_⟩)
  refine tkF (i := 2) (d := 28) (v := .bool false) (s := hS) (c := ?_)
  simp only [ud9]
  refine tkF (i := 3) (d := 29) (v := .bool false) (s := hS) (c := ?_)
  simp only [ud9]
  refine tkF (i := 4) (d := 30) (v := .pointer (some ⟨w.heap.size, 1, none⟩)) (s := hS) (c := ?_)
  simp only [ud9]
  refine tkF (i := 5) (d := 31) (v := .int .i64 p) (s := hS) (c := ?_)
  simp only [ud9]
  refine tkF (i := 6) (d := 32) (v := .bool false) (s := hS) (c := ?_)
  simp only [ud9]
  refine tkF (i := 7) (d := 33) (v := .bool false) (s := hS) (c := ?_)
  simp only [ud9]
  refine tkF (i := 8) (d := 34) (v := .bool false) (s := hS) (c := ?_)
  simp only [ud9]
  refine tkF (i := 9) (d := 35) (v := .agg #[.int .i64 k, .int .i64 p]) (s := hS) (c := ?_)
  simp only [ud9]
  refine tkF (i := 10) (d := 36) (v := .slice A N cap) (s := hS) (c := ?_)
  simp only [ud9]
  refine oneF (i := 11) (c := ?_)
  gi_wp2_with fail
  refine ⟨trivial, (callsIn_wide.2 (HR9.out _ hBx)).mono ?_⟩
  rintro e wn ⟨rfl, hB9⟩
  replace hBx := below_in hBx hB9
  clear hS
  have hS : (fun U : World => U.cell? ⟨w.heap.size, 0, none⟩ = some (.int .i64 k) ∧ U.cell? ⟨w.heap.size, 1, none⟩ = some (.int .i64 p) ∧ U.cell? ⟨g6, 0, none⟩ = some (.int .i64 x0) ∧ U.cell? ⟨g6, 1, none⟩ = some (.int .i64 x1) ∧ U.cell? ⟨g7, 0, none⟩ = some (.slice A0 n0 k0) ∧ U.cell? ⟨g7, 1, none⟩ = some (.slice A1 n1 k1)) wn := HSS.out _ hBx
  gi_wp2
  try (refine ⟨hS, ?_⟩)
  refine tkF (i := 12) (d := 38) (v := .bool true) (s := hS) (c := ?_)
  simp only [ud9]
  refine tkF (i := 13) (d := 39) (v := .bool true) (s := hS) (c := ?_)
  simp only [ud9]
  refine tkF (i := 14) (d := 40) (v := .bool true) (s := hS) (c := ?_)
  simp only [ud9]
  refine tkF (i := 15) (d := 41) (v := undef) (q8 := ⟨Or.inr ⟨by rfl, rfl⟩, fun _ => rfl⟩) (s := hS) (c := ?_)
  simp only [ud9]
  refine tkF (i := 16) (d := 42) (v := undef) (q8 := ⟨Or.inr ⟨by rfl, rfl⟩, fun _ => rfl⟩) (s := hS) (c := ?_)
  simp only [ud9]
  refine tkF (i := 17) (d := 43) (v := undef) (q8 := ⟨Or.inr ⟨by rfl, rfl⟩, fun _ => rfl⟩) (s := hS) (c := ?_)
  simp only [ud9]
  refine tkF (i := 18) (d := 44) (v := undef) (q8 := ⟨Or.inr ⟨by rfl, rfl⟩, fun _ => rfl⟩) (s := hS) (c := ?_)
  simp only [ud9]
  refine tkF (i := 19) (d := 45) (v := undef) (q8 := ⟨Or.inr ⟨by rfl, rfl⟩, fun _ => rfl⟩) (s := hS) (c := ?_)
  simp only [ud9]
  refine tkF (i := 20) (d := 46) (v := undef) (q8 := ⟨Or.inr ⟨by rfl, rfl⟩, fun _ => rfl⟩) (s := hS) (c := ?_)
  simp only [ud9]
  refine tkF (i := 21) (d := 47) (v := undef) (q8 := ⟨Or.inr ⟨by rfl, rfl⟩, fun _ => rfl⟩) (s := hS) (c := ?_)
  simp only [ud9]
  refine tkF (i := 22) (d := 48) (v := undef) (q8 := ⟨Or.inr ⟨by rfl, rfl⟩, fun _ => rfl⟩) (s := hS) (c := ?_)
  simp only [ud9]
  refine tkF (i := 23) (d := 49) (v := undef) (q8 := ⟨Or.inr ⟨by rfl, rfl⟩, fun _ => rfl⟩) (s := hS) (c := ?_)
  simp only [ud9]
  refine tkF (i := 24) (d := 50) (v := undef) (q8 := ⟨Or.inr ⟨by rfl, rfl⟩, fun _ => rfl⟩) (s := hS) (c := ?_)
  simp only [ud9]
  refine tkF (i := 25) (d := 51) (v := .bool true) (s := hS) (c := ?_)
  simp only [ud9]
  refine tkF (i := 26) (d := 52) (v := .bool true) (s := hS) (c := ?_)
  simp only [ud9]
  refine tkF (i := 27) (d := 53) (v := undef) (q8 := ⟨Or.inr ⟨by rfl, rfl⟩, fun _ => rfl⟩) (s := hS) (c := ?_)
  simp only [ud9]
  refine tkF (i := 28) (d := 54) (v := undef) (q8 := ⟨Or.inr ⟨by rfl, rfl⟩, fun _ => rfl⟩) (s := hS) (c := ?_)
  simp only [ud9]
  refine tkF (i := 29) (d := 55) (v := undef) (q8 := ⟨Or.inr ⟨by rfl, rfl⟩, fun _ => rfl⟩) (s := hS) (c := ?_)
  simp only [ud9]
  refine tkF (i := 30) (d := 56) (v := undef) (q8 := ⟨Or.inr ⟨by rfl, rfl⟩, fun _ => rfl⟩) (s := hS) (c := ?_)
  simp only [ud9]
  refine tkF (i := 31) (d := 57) (v := undef) (q8 := ⟨Or.inr ⟨by rfl, rfl⟩, fun _ => rfl⟩) (s := hS) (c := ?_)
  simp only [ud9]
  refine tkF (i := 32) (d := 58) (v := undef) (q8 := ⟨Or.inr ⟨by rfl, rfl⟩, fun _ => rfl⟩) (s := hS) (c := ?_)
  simp only [ud9]
  refine tkF (i := 33) (d := 59) (v := undef) (q8 := ⟨Or.inr ⟨by rfl, rfl⟩, fun _ => rfl⟩) (s := hS) (c := ?_)
  simp only [ud9]
  refine tkF (i := 34) (d := 60) (v := .bool true) (s := hS) (c := ?_)
  simp only [ud9]
  refine anyHF_done (by kernel_rfl) ?_ _
  refine NoPanic.normal ?_
  clear hS
  go_wp2_with (first
   | (go_at_call 12; refine (works_any _ (hL.next (below_in hBz hBx))).mono ?_; rintro e w9 ⟨rfl, hB9⟩))
  go_ret
  exact ⟨rfl, below_in (below_in hBz hBx) hB9⟩
 have HR9 := Lib.hid (fun U (hU : Below wb.heap.size wb U) => ref9Right_any (B := w.heap.size) k p _ css U (below_in hBz hU).size (hCU U (below_in hBz hU)) hl1000 true (by simp [hok]))
 have hR := hok.1.1
 have hpp := prm_bounds hR.2
 have hdn := datN_eq hR
 have hal := all_len hok
 have hrn := right_n hok.2
 have hgr := right_grid hok.2
 have hst := all_stripe hok
 obtain ⟨b1, off1, cq, e1, _, hb1, hrow⟩ := hC.at_ (by omega)
 injection e1 with e1 _ e1c
 subst e1
 subst e1c
 have HROW := Lib.hid hrow
 obtain ⟨u9, hu9, hm9⟩ := hrow 0 (by omega)
 have hcl0 : (css[0]?.getD []).length = (p - 1).toNat := (hgr 0 (by omega)).1
 obtain ⟨A9, cap9, rfl, _, _⟩ := id hm9
 have hR0 : 0 < (css[0]?.getD []).length := by rw [hcl0]; omega
 obtain ⟨b9, off9, rfl, hb9, hrow9⟩ := many_at hm9 hR0
 obtain ⟨D0, cd0, hc9, hby9⟩ := hrow9 0 hR0
 rw [Nat.add_zero] at hu9 hc9
 have hC9 : w.cell? ⟨b9, off9, none⟩ = some (.slice D0 (firstC css).length cd0) := hc9
 have hR02 : (0 : Int) < ((css[0]?.getD []).length : Int) := by omega
 have hN02 : (0 : Int) < (css.length : Int) := by omega
 have q6 : ¬ css.length = 0 := by omega
 have q7 : ¬ (css[0]?.getD []).length = 0 := by omega
 have HS2 : Hid (∀ U, Below wb.heap.size wb U → (fun U : World => U.cell? ⟨w.heap.size, 0, none⟩ = some (.int .i64 k) ∧ U.cell? ⟨w.heap.size, 1, none⟩ = some (.int .i64 p) ∧ U.cell? ⟨g6, 0, none⟩ = some (.int .i64 x0) ∧ U.cell? ⟨g6, 1, none⟩ = some (.int .i64 x1) ∧ U.cell? ⟨g7, 0, none⟩ = some (.slice A0 n0 k0) ∧ U.cell? ⟨g7, 1, none⟩ = some (.slice A1 n1 k1) ∧ U.cell? ⟨b1, off1, none⟩ = some (.slice (some ⟨b9, off9, none⟩) (css[0]?.getD []).length cap9) ∧ U.cell? ⟨b9, off9, none⟩ = some (.slice D0 (firstC css).length cd0)) U) := fun U hU => ⟨(bk.below hU bk.lt).cell 0, (bk.below hU bk.lt).cell 1, (bx.below hU bx.lt).cell 0, (bx.below hU bx.lt).cell 1, (bt.below hU bt.lt).cell 0, (bt.below hU bt.lt).cell 1, ((below_in hBz hU).cell (p := ⟨b1, off1, none⟩) hb1).trans hu9, ((below_in hBz hU).cell (p := ⟨b9, off9, none⟩) hb9).trans hC9⟩
 clear hrow hrow9 hu9 hc9 hby9 hm9 hcl0 hC9
 obtain ⟨R9, hR9⟩ : ∃ R9, (css[0]?.getD []).length = R9 := ⟨_, rfl⟩
 rw [hR9] at HS2 hR02 q7 hR0
 clear hR9
 obtain ⟨n, hn⟩ : ∃ n, (firstC css).length = n := ⟨_, rfl⟩
 rw [hn] at HS2 hrn hgr hst
 by_cases hne0 : n0 = n
 case neg =>
  have e0 : ((n0 : Int) != (n : Int)) = true := bne_iff_ne.2 (by omega)
  clear hf hC hCU bk bx bt hn0 hn1 hsz hjj hl1000 hok HROW hgr hst
  generalize css.length = N at *
  go_enter Tryz.func9, Tryz.ntmps9
  go_wp2_with fail
  try rw [hwb]
  try simp only [hg6]
  try simp only [hg7]
  have HSS := HS2
  have hBx : Below wb.heap.size wb wb.drew := (Below.refl _ _).drew
  have hS : (fun U : World => U.cell? ⟨w.heap.size, 0, none⟩ = some (.int .i64 k) ∧ U.cell? ⟨w.heap.size, 1, none⟩ = some (.int .i64 p) ∧ U.cell? ⟨g6, 0, none⟩ = some (.int .i64 x0) ∧ U.cell? ⟨g6, 1, none⟩ = some (.int .i64 x1) ∧ U.cell? ⟨g7, 0, none⟩ = some (.slice A0 n0 k0) ∧ U.cell? ⟨g7, 1, none⟩ = some (.slice A1 n1 k1) ∧ U.cell? ⟨b1, off1, none⟩ = some (.slice (some ⟨b9, off9, none⟩) R9 cap9) ∧ U.cell? ⟨b9, off9, none⟩ = some (.slice D0 n cd0)) wb.drew := HSS.out _ hBx
  refine (wpIn_wide (n := 12)).1 (wpIn_mono (region_HF (Q := NoPanic _) (S := (fun U : World => U.cell? ⟨w.heap.size, 0, none⟩ = some (.int .i64 k) ∧ U.cell? ⟨w.heap.size, 1, none⟩ = some (.int .i64 p) ∧ U.cell? ⟨g6, 0, none⟩ = some (.int .i64 x0) ∧ U.cell? ⟨g6, 1, none⟩ = some (.int .i64 x1) ∧ U.cell? ⟨g7, 0, none⟩ = some (.slice A0 n0 k0) ∧ U.cell? ⟨g7, 1, none⟩ = some (.slice A1 n1 k1) ∧ U.cell? ⟨b1, off1, none⟩ = some (.slice (some ⟨b9, off9, none⟩) R9 cap9) ∧ U.cell? ⟨b9, off9, none⟩ = some (.slice D0 n cd0))) (by kernel_rfl) ?_) NoPanic.imp)
  refine tkF (i := 0) (d := 26) (v := .slice (some ⟨b1, off1, none⟩) N cap) (s := hS) (c := ?_)
  simp only [ud9]
  refine oneF (i := 1) (c := ?_)
  gi_wp2_with fail
  refine ⟨trivial, (callsIn_wide.2 (HF.out)).mono ?_⟩
  rintro e wz ⟨rfl, hwe⟩
  subst hwe
  gi_wp2
  try (refine ⟨hS, ?_⟩)
  refine tkF (i := 2) (d := 28) (v := .bool false) (s := hS) (c := ?_)
  simp only [ud9]
  refine tkF (i := 3) (d := 29) (v := .bool false) (s := hS) (c := ?_)
  simp only [ud9]
  refine tkF (i := 4) (d := 30) (v := .pointer (some ⟨w.heap.size, 1, none⟩)) (s := hS) (c := ?_)
  simp only [ud9]
  refine tkF (i := 5) (d := 31) (v := .int .i64 p) (s := hS) (c := ?_)
  simp only [ud9]
  refine tkF (i := 6) (d := 32) (v := .bool false) (s := hS) (c := ?_)
  simp only [ud9]
  refine tkF (i := 7) (d := 33) (v := .bool false) (s := hS) (c := ?_)
  simp only [ud9]
  refine tkF (i := 8) (d := 34) (v := .bool false) (s := hS) (c := ?_)
  simp only [ud9]
  refine tkF (i := 9) (d := 35) (v := .agg #[.int .i64 k, .int .i64 p]) (s := hS) (c := ?_)
  simp only [ud9]
  refine tkF (i := 10) (d := 36) (v := .slice (some ⟨b1, off1, none⟩) N cap) (s := hS) (c := ?_)
  simp only [ud9]
  refine oneF (i := 11) (c := ?_)
  gi_wp2_with fail
  refine ⟨trivial, (callsIn_wide.2 (HR9.out _ hBx)).mono ?_⟩
  rintro e wn ⟨rfl, hB9⟩
  replace hBx := below_in hBx hB9
  clear hS
  have hS : (fun U : World => U.cell? ⟨w.heap.size, 0, none⟩ = some (.int .i64 k) ∧ U.cell? ⟨w.heap.size, 1, none⟩ = some (.int .i64 p) ∧ U.cell? ⟨g6, 0, none⟩ = some (.int .i64 x0) ∧ U.cell? ⟨g6, 1, none⟩ = some (.int .i64 x1) ∧ U.cell? ⟨g7, 0, none⟩ = some (.slice A0 n0 k0) ∧ U.cell? ⟨g7, 1, none⟩ = some (.slice A1 n1 k1) ∧ U.cell? ⟨b1, off1, none⟩ = some (.slice (some ⟨b9, off9, none⟩) R9 cap9) ∧ U.cell? ⟨b9, off9, none⟩ = some (.slice D0 n cd0)) wn := HSS.out _ hBx
  gi_wp2
  try (refine ⟨hS, ?_⟩)
  refine tkF (i := 12) (d := 38) (v := .bool false) (s := hS) (c := ?_)
  simp only [ud9]
  refine tkF (i := 13) (d := 39) (v := .bool false) (s := hS) (c := ?_)
  simp only [ud9]
  refine tkF (i := 14) (d := 40) (v := .bool false) (s := hS) (c := ?_)
  simp only [ud9]
  refine tkF (i := 15) (d := 41) (v := .pointer (some ⟨g7, 0, none⟩)) (s := hS) (c := ?_)
  simp only [ud9]
  refine tkF (i := 16) (d := 42) (v := .slice A0 n0 k0) (s := hS) (c := ?_)
  simp only [ud9]
  refine tkF (i := 17) (d := 43) (v := .int .i64 (n0 : Int)) (s := hS) (c := ?_)
  simp only [ud9]
  refine tkF (i := 18) (d := 44) (v := .slice (some ⟨b1, off1, none⟩) N cap) (s := hS) (c := ?_)
  simp only [ud9]
  refine tkF (i := 19) (d := 45) (v := .pointer (some ⟨b1, off1, none⟩)) (s := hS) (c := ?_)
  simp only [ud9]
  refine tkF (i := 20) (d := 46) (v := .slice (some ⟨b9, off9, none⟩) R9 cap9) (s := hS) (c := ?_)
  simp only [ud9]
  refine tkF (i := 21) (d := 47) (v := .pointer (some ⟨b9, off9, none⟩)) (s := hS) (c := ?_)
  simp only [ud9]
  refine tkF (i := 22) (d := 48) (v := .slice D0 n cd0) (s := hS) (c := ?_)
  simp only [ud9]
  refine tkF (i := 23) (d := 49) (v := .int .i64 (n : Int)) (s := hS) (c := ?_)
  simp only [ud9]
  refine tkF (i := 24) (d := 50) (v := .bool true) (s := hS) (c := ?_)
  simp only [ud9]
  refine tkF (i := 25) (d := 51) (v := .bool true) (s := hS) (c := ?_)
  simp only [ud9]
  refine tkF (i := 26) (d := 52) (v := .bool true) (s := hS) (c := ?_)
  simp only [ud9]
  refine tkF (i := 27) (d := 53) (v := undef) (q8 := ⟨Or.inr ⟨by rfl, rfl⟩, fun _ => rfl⟩) (s := hS) (c := ?_)
  simp only [ud9]
  refine tkF (i := 28) (d := 54) (v := undef) (q8 := ⟨Or.inr ⟨by rfl, rfl⟩, fun _ => rfl⟩) (s := hS) (c := ?_)
  simp only [ud9]
  refine tkF (i := 29) (d := 55) (v := undef) (q8 := ⟨Or.inr ⟨by rfl, rfl⟩, fun _ => rfl⟩) (s := hS) (c := ?_)
  simp only [ud9]
  refine tkF (i := 30) (d := 56) (v := undef) (q8 := ⟨Or.inr ⟨by rfl, rfl⟩, fun _ => rfl⟩) (s := hS) (c := ?_)
  simp only [ud9]
  refine tkF (i := 31) (d := 57) (v := undef) (q8 := ⟨Or.inr ⟨by rfl, rfl⟩, fun _ => rfl⟩) (s := hS) (c := ?_)
  simp only [ud9]
  refine tkF (i := 32) (d := 58) (v := undef) (q8 := ⟨Or.inr ⟨by rfl, rfl⟩, fun _ => rfl⟩) (s := hS) (c := ?_)
  simp only [ud9]
  refine tkF (i := 33) (d := 59) (v := undef) (q8 := ⟨Or.inr ⟨by rfl, rfl⟩, fun _ => rfl⟩) (s := hS) (c := ?_)
  simp only [ud9]
  refine tkF (i := 34) (d := 60) (v := .bool true) (s := hS) (c := ?_)
  simp only [ud9]
  refine anyHF_done (by kernel_rfl) ?_ _
  refine NoPanic.normal ?_
  clear hS
  go_wp2_with (first
   | (go_at_call 12; refine (works_any _ (hL.next (below_in hBz hBx))).mono ?_; rintro e w9 ⟨rfl, hB9⟩))
  go_ret
  exact ⟨rfl, below_in (below_in hBz hBx) hB9⟩
 subst hne0
 have e0 : ((n0 : Int) != (n0 : Int)) = false := by simp
 by_cases hne1 : n1 = n0
 case neg =>
  have e1 : ((n1 : Int) != (n0 : Int)) = true := bne_iff_ne.2 (by omega)
  clear hf hC hCU bk bx bt hn0 hn1 hsz hjj hl1000 hok HROW hgr hst
  generalize css.length = N at *
  go_enter Tryz.func9, Tryz.ntmps9
  go_wp2_with fail
  try rw [hwb]
  try simp only [hg6]
  try simp only [hg7]
  have HSS := HS2
  have hBx : Below wb.heap.size wb wb.drew := (Below.refl _ _).drew
  have hS : (fun U : World => U.cell? ⟨w.heap.size, 0, none⟩ = some (.int .i64 k) ∧ U.cell? ⟨w.heap.size, 1, none⟩ = some (.int .i64 p) ∧ U.cell? ⟨g6, 0, none⟩ = some (.int .i64 x0) ∧ U.cell? ⟨g6, 1, none⟩ = some (.int .i64 x1) ∧ U.cell? ⟨g7, 0, none⟩ = some (.slice A0 n0 k0) ∧ U.cell? ⟨g7, 1, none⟩ = some (.slice A1 n1 k1) ∧ U.cell? ⟨b1, off1, none⟩ = some (.slice (some ⟨b9, off9, none⟩) R9 cap9) ∧ U.cell? ⟨b9, off9, none⟩ = some (.slice D0 n0 cd0)) wb.drew := HSS.out _ hBx
  refine (wpIn_wide (n := 12)).1 (wpIn_mono (region_HF (Q := NoPanic _) (S := (fun U : World => U.cell? ⟨w.heap.size, 0, none⟩ = some (.int .i64 k) ∧ U.cell? ⟨w.heap.size, 1, none⟩ = some (.int .i64 p) ∧ U.cell? ⟨g6, 0, none⟩ = some (.int .i64 x0) ∧ U.cell? ⟨g6, 1, none⟩ = some (.int .i64 x1) ∧ U.cell? ⟨g7, 0, none⟩ = some (.slice A0 n0 k0) ∧ U.cell? ⟨g7, 1, none⟩ = some (.slice A1 n1 k1) ∧ U.cell? ⟨b1, off1, none⟩ = some (.slice (some ⟨b9, off9, none⟩) R9 cap9) ∧ U.cell? ⟨b9, off9, none⟩ = some (.slice D0 n0 cd0))) (by kernel_rfl) ?_) NoPanic.imp)
  refine tkF (i := 0) (d := 26) (v := .slice (some ⟨b1, off1, none⟩) N cap) (s := hS) (c := ?_)
  simp only [ud9]
  refine oneF (i := 1) (c := ?_)
  gi_wp2_with fail
  refine ⟨trivial, (callsIn_wide.2 (HF.out)).mono ?_⟩
  rintro e wz ⟨rfl, hwe⟩
  subst hwe
  gi_wp2
  try (refine ⟨hS, ?_⟩)
  refine tkF (i := 2) (d := 28) (v := .bool false) (s := hS) (c := ?_)
  simp only [ud9]
  refine tkF (i := 3) (d := 29) (v := .bool false) (s := hS) (c := ?_)
  simp only [ud9]
  refine tkF (i := 4) (d := 30) (v := .pointer (some ⟨w.heap.size, 1, none⟩)) (s := hS) (c := ?_)
  simp only [ud9]
  refine tkF (i := 5) (d := 31) (v := .int .i64 p) (s := hS) (c := ?_)
  simp only [ud9]
  refine tkF (i := 6) (d := 32) (v := .bool false) (s := hS) (c := ?_)
  simp only [ud9]
  refine tkF (i := 7) (d := 33) (v := .bool false) (s := hS) (c := ?_)
  simp only [ud9]
  refine tkF (i := 8) (d := 34) (v := .bool false) (s := hS) (c := ?_)
  simp only [ud9]
  refine tkF (i := 9) (d := 35) (v := .agg #[.int .i64 k, .int .i64 p]) (s := hS) (c := ?_)
  simp only [ud9]
  refine tkF (i := 10) (d := 36) (v := .slice (some ⟨b1, off1, none⟩) N cap) (s := hS) (c := ?_)
  simp only [ud9]
  refine oneF (i := 11) (c := ?_)
  gi_wp2_with fail
  refine ⟨trivial, (callsIn_wide.2 (HR9.out _ hBx)).mono ?_⟩
  rintro e wn ⟨rfl, hB9⟩
  replace hBx := below_in hBx hB9
  clear hS
  have hS : (fun U : World => U.cell? ⟨w.heap.size, 0, none⟩ = some (.int .i64 k) ∧ U.cell? ⟨w.heap.size, 1, none⟩ = some (.int .i64 p) ∧ U.cell? ⟨g6, 0, none⟩ = some (.int .i64 x0) ∧ U.cell? ⟨g6, 1, none⟩ = some (.int .i64 x1) ∧ U.cell? ⟨g7, 0, none⟩ = some (.slice A0 n0 k0) ∧ U.cell? ⟨g7, 1, none⟩ = some (.slice A1 n1 k1) ∧ U.cell? ⟨b1, off1, none⟩ = some (.slice (some ⟨b9, off9, none⟩) R9 cap9) ∧ U.cell? ⟨b9, off9, none⟩ = some (.slice D0 n0 cd0)) wn := HSS.out _ hBx
  gi_wp2
  try (refine ⟨hS, ?_⟩)
  refine tkF (i := 12) (d := 38) (v := .bool false) (s := hS) (c := ?_)
  simp only [ud9]
  refine tkF (i := 13) (d := 39) (v := .bool false) (s := hS) (c := ?_)
  simp only [ud9]
  refine tkF (i := 14) (d := 40) (v := .bool false) (s := hS) (c := ?_)
  simp only [ud9]
  refine tkF (i := 15) (d := 41) (v := .pointer (some ⟨g7, 0, none⟩)) (s := hS) (c := ?_)
  simp only [ud9]
  refine tkF (i := 16) (d := 42) (v := .slice A0 n0 k0) (s := hS) (c := ?_)
  simp only [ud9]
  refine tkF (i := 17) (d := 43) (v := .int .i64 (n0 : Int)) (s := hS) (c := ?_)
  simp only [ud9]
  refine tkF (i := 18) (d := 44) (v := .slice (some ⟨b1, off1, none⟩) N cap) (s := hS) (c := ?_)
  simp only [ud9]
  refine tkF (i := 19) (d := 45) (v := .pointer (some ⟨b1, off1, none⟩)) (s := hS) (c := ?_)
  simp only [ud9]
  refine tkF (i := 20) (d := 46) (v := .slice (some ⟨b9, off9, none⟩) R9 cap9) (s := hS) (c := ?_)
  simp only [ud9]
  refine tkF (i := 21) (d := 47) (v := .pointer (some ⟨b9, off9, none⟩)) (s := hS) (c := ?_)
  simp only [ud9]
  refine tkF (i := 22) (d := 48) (v := .slice D0 n0 cd0) (s := hS) (c := ?_)
  simp only [ud9]
  refine tkF (i := 23) (d := 49) (v := .int .i64 (n0 : Int)) (s := hS) (c := ?_)
  simp only [ud9]
  refine tkF (i := 24) (d := 50) (v := .bool false) (s := hS) (c := ?_)
  simp only [ud9]
  refine tkF (i := 25) (d := 51) (v := .bool false) (s := hS) (c := ?_)
  simp only [ud9]
  refine tkF (i := 26) (d := 52) (v := .bool false) (s := hS) (c := ?_)
  simp only [ud9]
  refine tkF (i := 27) (d := 53) (v := .pointer (some ⟨g7, 1, none⟩)) (s := hS) (c := ?_)
  simp only [ud9]
  refine tkF (i := 28) (d := 54) (v := .slice A1 n1 k1) (s := hS) (c := ?_)
  simp only [ud9]
  refine tkF (i := 29) (d := 55) (v := .int .i64 (n1 : Int)) (s := hS) (c := ?_)
  simp only [ud9]
  refine tkF (i := 30) (d := 56) (v := .pointer (some ⟨g7, 0, none⟩)) (s := hS) (c := ?_)
  simp only [ud9]
  refine tkF (i := 31) (d := 57) (v := .slice A0 n0 k0) (s := hS) (c := ?_)
  simp only [ud9]
  refine tkF (i := 32) (d := 58) (v := .int .i64 (n0 : Int)) (s := hS) (c := ?_)
  simp only [ud9]
  refine tkF (i := 33) (d := 59) (v := .bool true) (s := hS) (c := ?_)
  simp only [ud9]
  refine tkF (i := 34) (d := 60) (v := .bool true) (s := hS) (c := ?_)
  simp only [ud9]
  refine anyHF_done (by kernel_rfl) ?_ _
  refine NoPanic.normal ?_
  clear hS
  go_wp2_with (first
   | (go_at_call 12; refine (works_any _ (hL.next (below_in hBz hBx))).mono ?_; rintro e w9 ⟨rfl, hB9⟩))
  go_ret
  exact ⟨rfl, below_in (below_in hBz hBx) hB9⟩
 subst hne1
 have e0 : ((n1 : Int) != (n1 : Int)) = false := by simp
 have HDA := Lib.hid (fun (U : World) => refData_any k p hR U)
 have HRO := Lib.hid (fun (U : World) => refRows_any k p hR U)
 have HPLQ := Lib.hid (fun (m : Nat) (hm : m < 1000) (U : World) => refPlace_any k p (m : Int) hR (by omega) (by omega) U)
 have hmn := many_nat hR
 have hcx : ∀ X Y : Nat, X < datN k p → Y < (p - 1).toNat → (0 ≤ (X : Int) ∧ (X : Int) < p - shortN k) ∧ (0 ≤ (Y : Int) ∧ (Y : Int) < p - 1) := fun X Y h1 h2 => by have := hdn.1; omega
 have hbytes : ∀ X Y : Nat, X < datN k p → Y < (p - 1).toNat → (cellI css ((X : Int), (Y : Int))).length = n1 := fun X Y h1 h2 => (hgr X (by omega)).2 Y h2
 have HCH := Lib.hid (fun (s : List (List (List UInt8))) (hs : StripeK k p n1 s) (X Y : Nat) (hX : X < datN k p) (hY : Y < (p - 1).toNat) (c : List UInt8) (hc : c.length = n1) (vs vc : Value) (B : Nat) (U : World) (hLU : Laid U) (hBU : B ≤ U.heap.size) (hCs : Cols B U vs s) (hb : Bytes B U vc c) =>
  change_yes (B := B) k p vs s (X : Int) (Y : Int) c vc (stripe_all hs).1 (by rw [(stripe_all hs).2]; exact hc) (hcx X Y hX hY).1 (hcx X Y hX hY).2 U hLU hBU hCs hb)
 have HOKS := Lib.hid (fun (s : List (List (List UInt8))) (hs : StripeK k p n1 s) (X Y : Nat) (hX : X < datN k p) (hY : Y < (p - 1).toNat) (c : List UInt8) (hc : c.length = n1) => (chgK_ok (x := (X : Int)) (y := (Y : Int)) (c := c) hs (hcx X Y hX hY).1 (hcx X Y hX hY).2 hc))
 have HBACK := Lib.hid (fun (X Y : Nat) (hX : X < datN k p) (hY : Y < (p - 1).toNat) (c : List UInt8) (hc : c.length = n1) => chg_back (x := (X : Int)) (y := (Y : Int)) (c := c) hst (hcx X Y hX hY).1 (hcx X Y hX hY).2 hc)
 have HSWAP := Lib.hid (fun (X Y X' Y' : Nat) (hX : X < datN k p) (hY : Y < (p - 1).toNat) (hX' : X' < datN k p) (hY' : Y' < (p - 1).toNat) (c c' : List UInt8) (hc : c.length = n1) (hc' : c'.length = n1) (hne : ((X' : Int), (Y' : Int)) ≠ ((X : Int), (Y : Int))) => chg_swap (x := (X : Int)) (y := (Y : Int)) (c := c) (x' := (X' : Int)) (y' := (Y' : Int)) (c' := c') hst (hcx X Y hX hY).1 (hcx X Y hX hY).2 hc (hcx X' Y' hX' hY').1 (hcx X' Y' hX' hY').2 hc' hne)
 have HSMALL := Lib.hid (fun (s : List (List (List UInt8))) (hs : StripeK k p n1 s) => (⟨by have := all_len (stripe_all hs).1; omega, fun j => (small_right (stripe_all hs).1.2 j 0).1⟩ : s.length ≤ 1000 ∧ ∀ j : Nat, (s[j]?.getD []).length ≤ 1000))
 have HST := Lib.hid hst
 have HBYT := Lib.hid hbytes
 have HCEL := Lib.hid (fun (X Y : Nat) (hX : X < datN k p) (hY : Y < (p - 1).toNat) => by
  obtain ⟨u1, hc1, hm1⟩ := HROW.out X (by omega)
  obtain ⟨hcr, hce⟩ := hgr X (by omega)
  obtain ⟨A3, cap3, rfl, _, _⟩ := id hm1
  obtain ⟨b2, off3, rfl, hb2, hrow3⟩ := many_at hm1 (by omega)
  obtain ⟨A4, c4, hc3, hby⟩ := hrow3 Y (by omega)
  rw [hcr] at hc1
  rw [hce Y hY] at hc3 hby
  exact (⟨b2, off3, cap3, A4, c4, hc1, hb2, hc3, hby⟩ : ∃ (b2 off2 c2 : Nat) (D1 : Option Addr) (e1 : Nat), w.cell? ⟨b1, off1 + X, none⟩ = some (.slice (some ⟨b2, off2, none⟩) (p - 1).toNat c2) ∧ b2 < w.heap.size ∧ w.cell? ⟨b2, off2 + Y, none⟩ = some (.slice D1 n1 e1) ∧ Bytes w.heap.size w (.slice D1 n1 e1) (cellI css ((X : Int), (Y : Int)))))
 have hds : datN k p ≤ css.length := by omega
 obtain ⟨R, hRR⟩ : ∃ R : Nat, p - 1 = (R : Int) := ⟨(p - 1).toNat, by omega⟩
 have hRt : (p - 1).toNat = R := by omega
 rw [hRt] at hmn HCH HOKS HBACK HSWAP HBYT HCEL
 rw [hdn.1] at HDA HPLQ
 rw [hRR] at HRO
 have hdb := hdn.2
 generalize datN k p = d at *
 obtain ⟨NN, hNN⟩ : ∃ NN, d * R = NN := ⟨_, rfl⟩
 rw [hNN] at hmn
 have hmul : IntKind.i64.wrap ((d : Int) * (R : Int)) = (NN : Int) := by rw [show (d : Int) * (R : Int) = (NN : Int) by rw [← hNN]; push_cast; rfl]; exact IntWalk.i64_in _ (by omega)
 have HXY := Lib.hid (fun (m : Nat) (hm : m < NN) => (⟨Nat.mod_lt _ (by omega), Nat.div_lt_of_lt_mul (by rw [hNN]; exact hm)⟩ : m % d < d ∧ m / d < R))
 have HDM := Lib.hid (fun (a b : Nat) (h1 : a % d = b % d) (h2 : a / d = b / d) => (by rw [← Nat.div_add_mod a d, ← Nat.div_add_mod b d, h1, h2] : a = b))
 obtain ⟨X0, hX0⟩ : ∃ X, x0.toNat % d = X := ⟨_, rfl⟩
 obtain ⟨Y0, hY0⟩ : ∃ X, x0.toNat / d = X := ⟨_, rfl⟩
 obtain ⟨X1, hX1⟩ : ∃ X, x1.toNat % d = X := ⟨_, rfl⟩
 obtain ⟨Y1, hY1⟩ : ∃ X, x1.toNat / d = X := ⟨_, rfl⟩
 have hpl : ∀ (x : Int) (X Y : Nat), x.toNat % d = X → x.toNat / d = Y → 0 ≤ x → x < (NN : Int) → x % (d : Int) = (X : Int) ∧ x / (d : Int) = (Y : Int) ∧ X < d ∧ Y < R := fun x X Y h1 h2 h3 h4 => by
  obtain ⟨m, rfl⟩ : ∃ m : Nat, x = (m : Int) := ⟨x.toNat, by omega⟩
  rw [Int.toNat_natCast] at h1 h2
  have h5 := HXY.out m (by omega)
  refine ⟨by rw [← h1]; push_cast; rfl, by rw [← h2]; push_cast; rfl, by omega, by omega⟩
 have HPLC := Lib.hid (fun (x : Int) (X Y : Nat) (h1 : x.toNat % d = X) (h2 : x.toNat / d = Y) (h3 : 0 ≤ x) (h4 : x < (NN : Int)) (U : World) => show Calls Tryz.prog 37 #[.agg #[.int .i64 k, .int .i64 p], .int .i64 x] U (fun e w' => e = .returned (.agg #[.int .i64 (X : Int), .int .i64 (Y : Int)]) ∧ Below U.heap.size U w') by
  obtain ⟨q1, q2, _, _⟩ := hpl x X Y h1 h2 h3 h4
  obtain ⟨m, rfl⟩ : ∃ m : Nat, x = (m : Int) := ⟨x.toNat, by omega⟩
  have h := HPLQ.out m (by omega) U
  rw [q1, q2] at h
  exact (h : Calls Tryz.prog 37 #[.agg #[.int .i64 k, .int .i64 p], .int .i64 (m : Int)] U fun e w' => e = .returned (.agg #[.int .i64 (X : Int), .int .i64 (Y : Int)]) ∧ Below U.heap.size U w'))
 have HPL := Lib.hid hpl
 have HCUU := Lib.hid hCU
 have hgz := bk.lt
 clear hf hC hCU hn hjj hl1000 hok HROW hgr hst hR hal hcx hbytes hNN hRR hRt hdn hpl
 obtain ⟨N, hN⟩ : ∃ N, css.length = N := ⟨_, rfl⟩
 have HN := Lib.hid hN
 rw [hN] at hN02 q6 HCUU HF HR9 hds ⊢
 clear hN
 go_enter Tryz.func9, Tryz.ntmps9
 go_wp2_with fail
 try rw [hwb]
 try simp only [hg6]
 try simp only [hg7]
 have HSS := HS2
 have hBx : Below wb.heap.size wb wb.drew := (Below.refl _ _).drew
 have hS : (fun U : World => U.cell? ⟨w.heap.size, 0, none⟩ = some (.int .i64 k) ∧ U.cell? ⟨w.heap.size, 1, none⟩ = some (.int .i64 p) ∧ U.cell? ⟨g6, 0, none⟩ = some (.int .i64 x0) ∧ U.cell? ⟨g6, 1, none⟩ = some (.int .i64 x1) ∧ U.cell? ⟨g7, 0, none⟩ = some (.slice A0 n1 k0) ∧ U.cell? ⟨g7, 1, none⟩ = some (.slice A1 n1 k1) ∧ U.cell? ⟨b1, off1, none⟩ = some (.slice (some ⟨b9, off9, none⟩) R9 cap9) ∧ U.cell? ⟨b9, off9, none⟩ = some (.slice D0 n1 cd0)) wb.drew := HSS.out _ hBx
 refine (wpIn_wide (n := 12)).1 (wpIn_mono (region_HF (Q := NoPanic _) (S := (fun U : World => U.cell? ⟨w.heap.size, 0, none⟩ = some (.int .i64 k) ∧ U.cell? ⟨w.heap.size, 1, none⟩ = some (.int .i64 p) ∧ U.cell? ⟨g6, 0, none⟩ = some (.int .i64 x0) ∧ U.cell? ⟨g6, 1, none⟩ = some (.int .i64 x1) ∧ U.cell? ⟨g7, 0, none⟩ = some (.slice A0 n1 k0) ∧ U.cell? ⟨g7, 1, none⟩ = some (.slice A1 n1 k1) ∧ U.cell? ⟨b1, off1, none⟩ = some (.slice (some ⟨b9, off9, none⟩) R9 cap9) ∧ U.cell? ⟨b9, off9, none⟩ = some (.slice D0 n1 cd0))) (by kernel_rfl) ?_) NoPanic.imp)
 refine tkF (i := 0) (d := 26) (v := .slice (some ⟨b1, off1, none⟩) N cap) (s := hS) (c := ?_)
 simp only [ud9]
 refine oneF (i := 1) (c := ?_)
 gi_wp2_with fail
 refine ⟨trivial, (callsIn_wide.2 (HF.out)).mono ?_⟩
 rintro e wz ⟨rfl, hwe⟩
 subst hwe
 gi_wp2
 try (refine ⟨hS, ?_⟩)
 refine tkF (i := 2) (d := 28) (v := .bool false) (s := hS) (c := ?_)
 simp only [ud9]
 refine tkF (i := 3) (d := 29) (v := .bool false) (s := hS) (c := ?_)
 simp only [ud9]
 refine tkF (i := 4) (d := 30) (v := .pointer (some ⟨w.heap.size, 1, none⟩)) (s := hS) (c := ?_)
 simp only [ud9]
 refine tkF (i := 5) (d := 31) (v := .int .i64 p) (s := hS) (c := ?_)
 simp only [ud9]
 refine tkF (i := 6) (d := 32) (v := .bool false) (s := hS) (c := ?_)
 simp only [ud9]
 refine tkF (i := 7) (d := 33) (v := .bool false) (s := hS) (c := ?_)
 simp only [ud9]
 refine tkF (i := 8) (d := 34) (v := .bool false) (s := hS) (c := ?_)
 simp only [ud9]
 refine tkF (i := 9) (d := 35) (v := .agg #[.int .i64 k, .int .i64 p]) (s := hS) (c := ?_)
 simp only [ud9]
 refine tkF (i := 10) (d := 36) (v := .slice (some ⟨b1, off1, none⟩) N cap) (s := hS) (c := ?_)
 simp only [ud9]
 refine oneF (i := 11) (c := ?_)
 gi_wp2_with fail
 refine ⟨trivial, (callsIn_wide.2 (HR9.out _ hBx)).mono ?_⟩
 rintro e wn ⟨rfl, hB9⟩
 replace hBx := below_in hBx hB9
 clear hS
 have hS : (fun U : World => U.cell? ⟨w.heap.size, 0, none⟩ = some (.int .i64 k) ∧ U.cell? ⟨w.heap.size, 1, none⟩ = some (.int .i64 p) ∧ U.cell? ⟨g6, 0, none⟩ = some (.int .i64 x0) ∧ U.cell? ⟨g6, 1, none⟩ = some (.int .i64 x1) ∧ U.cell? ⟨g7, 0, none⟩ = some (.slice A0 n1 k0) ∧ U.cell? ⟨g7, 1, none⟩ = some (.slice A1 n1 k1) ∧ U.cell? ⟨b1, off1, none⟩ = some (.slice (some ⟨b9, off9, none⟩) R9 cap9) ∧ U.cell? ⟨b9, off9, none⟩ = some (.slice D0 n1 cd0)) wn := HSS.out _ hBx
 gi_wp2
 try (refine ⟨hS, ?_⟩)
 refine tkF (i := 12) (d := 38) (v := .bool false) (s := hS) (c := ?_)
 simp only [ud9]
 refine tkF (i := 13) (d := 39) (v := .bool false) (s := hS) (c := ?_)
 simp only [ud9]
 refine tkF (i := 14) (d := 40) (v := .bool false) (s := hS) (c := ?_)
 simp only [ud9]
 refine tkF (i := 15) (d := 41) (v := .pointer (some ⟨g7, 0, none⟩)) (s := hS) (c := ?_)
 simp only [ud9]
 refine tkF (i := 16) (d := 42) (v := .slice A0 n1 k0) (s := hS) (c := ?_)
 simp only [ud9]
 refine tkF (i := 17) (d := 43) (v := .int .i64 (n1 : Int)) (s := hS) (c := ?_)
 simp only [ud9]
 refine tkF (i := 18) (d := 44) (v := .slice (some ⟨b1, off1, none⟩) N cap) (s := hS) (c := ?_)
 simp only [ud9]
 refine tkF (i := 19) (d := 45) (v := .pointer (some ⟨b1, off1, none⟩)) (s := hS) (c := ?_)
 simp only [ud9]
 refine tkF (i := 20) (d := 46) (v := .slice (some ⟨b9, off9, none⟩) R9 cap9) (s := hS) (c := ?_)
 simp only [ud9]
 refine tkF (i := 21) (d := 47) (v := .pointer (some ⟨b9, off9, none⟩)) (s := hS) (c := ?_)
 simp only [ud9]
 refine tkF (i := 22) (d := 48) (v := .slice D0 n1 cd0) (s := hS) (c := ?_)
 simp only [ud9]
 refine tkF (i := 23) (d := 49) (v := .int .i64 (n1 : Int)) (s := hS) (c := ?_)
 simp only [ud9]
 refine tkF (i := 24) (d := 50) (v := .bool false) (s := hS) (c := ?_)
 simp only [ud9]
 refine tkF (i := 25) (d := 51) (v := .bool false) (s := hS) (c := ?_)
 simp only [ud9]
 refine tkF (i := 26) (d := 52) (v := .bool false) (s := hS) (c := ?_)
 simp only [ud9]
 refine tkF (i := 27) (d := 53) (v := .pointer (some ⟨g7, 1, none⟩)) (s := hS) (c := ?_)
 simp only [ud9]
 refine tkF (i := 28) (d := 54) (v := .slice A1 n1 k1) (s := hS) (c := ?_)
 simp only [ud9]
 refine tkF (i := 29) (d := 55) (v := .int .i64 (n1 : Int)) (s := hS) (c := ?_)
 simp only [ud9]
 refine tkF (i := 30) (d := 56) (v := .pointer (some ⟨g7, 0, none⟩)) (s := hS) (c := ?_)
 simp only [ud9]
 refine tkF (i := 31) (d := 57) (v := .slice A0 n1 k0) (s := hS) (c := ?_)
 simp only [ud9]
 refine tkF (i := 32) (d := 58) (v := .int .i64 (n1 : Int)) (s := hS) (c := ?_)
 simp only [ud9]
 refine tkF (i := 33) (d := 59) (v := .bool false) (s := hS) (c := ?_)
 simp only [ud9]
 refine tkF (i := 34) (d := 60) (v := .bool false) (s := hS) (c := ?_)
 simp only [ud9]
 refine anyHF_done (by kernel_rfl) ?_ _
 refine NoPanic.normal ?_
 clear hS
 have hBz2 := below_in hBz hBx
 have bk2 := bk.below hBx bk.lt
 have bx2 := bx.below hBx bx.lt
 have bt2 := bt.below hBx bt.lt
 obtain ⟨w3, hw3⟩ : ∃ W, wn = W := ⟨_, rfl⟩
 rw [hw3] at hBx hBz2 bk2 bx2 bt2 ⊢
 clear hw3
 obtain ⟨ga, hga⟩ : ∃ g, w3.heap.size = g := ⟨_, rfl⟩
 obtain ⟨w4, hw4⟩ : ∃ W, w3.alloc (.cells #[.int .i64 0, .int .i64 0, .int .i64 0, .int .i64 0] 77) = W := ⟨_, rfl⟩
 have hB34 : Below w3.heap.size w3 w4 := by rw [← hw4]; exact below_one w3 _
 have ba4 : Blk w4 ga 77 #[.int .i64 0, .int .i64 0, .int .i64 0, .int .i64 0] := by rw [← hw4, ← hga]; exact Blk.new w3 _ _
 rw [hga] at hB34
 have hs34 : w4.heap.size = ga + 1 := by rw [← hw4, ← hga]; simp
 have hsb3 := hBx.size
 have hneA : w.heap.size ≠ ga := by omega
 have hneB : g6 ≠ ga := by have := bx.lt; omega
 have hneC : g7 ≠ ga := by have := bt.lt; omega
 have HSV := Lib.hid (fun (U : World) (o o2 : Nat) (a b : Value) (hS : (fun U : World => U.cell? ⟨w.heap.size, 0, none⟩ = some (.int .i64 k) ∧ U.cell? ⟨w.heap.size, 1, none⟩ = some (.int .i64 p) ∧ U.cell? ⟨g6, 0, none⟩ = some (.int .i64 x0) ∧ U.cell? ⟨g6, 1, none⟩ = some (.int .i64 x1) ∧ U.cell? ⟨g7, 0, none⟩ = some (.slice A0 n1 k0) ∧ U.cell? ⟨g7, 1, none⟩ = some (.slice A1 n1 k1)) U) => (by
  obtain ⟨s1, s2, s3, s4, s5, s6⟩ := hS
  exact ⟨(setCell_far hneA).trans ((setCell_far hneA).trans s1), (setCell_far hneA).trans ((setCell_far hneA).trans s2), (setCell_far hneB).trans ((setCell_far hneB).trans s3), (setCell_far hneB).trans ((setCell_far hneB).trans s4), (setCell_far hneC).trans ((setCell_far hneC).trans s5), (setCell_far hneC).trans ((setCell_far hneC).trans s6)⟩ : (fun U : World => U.cell? ⟨w.heap.size, 0, none⟩ = some (.int .i64 k) ∧ U.cell? ⟨w.heap.size, 1, none⟩ = some (.int .i64 p) ∧ U.cell? ⟨g6, 0, none⟩ = some (.int .i64 x0) ∧ U.cell? ⟨g6, 1, none⟩ = some (.int .i64 x1) ∧ U.cell? ⟨g7, 0, none⟩ = some (.slice A0 n1 k0) ∧ U.cell? ⟨g7, 1, none⟩ = some (.slice A1 n1 k1)) ((U.setCell ⟨ga, o, none⟩ a).setCell ⟨ga, o2, none⟩ b)))
 have HSW : Hid (∀ U, Below w3.heap.size w3 U → (fun U : World => U.cell? ⟨w.heap.size, 0, none⟩ = some (.int .i64 k) ∧ U.cell? ⟨w.heap.size, 1, none⟩ = some (.int .i64 p) ∧ U.cell? ⟨g6, 0, none⟩ = some (.int .i64 x0) ∧ U.cell? ⟨g6, 1, none⟩ = some (.int .i64 x1) ∧ U.cell? ⟨g7, 0, none⟩ = some (.slice A0 n1 k0) ∧ U.cell? ⟨g7, 1, none⟩ = some (.slice A1 n1 k1)) U) := fun U hU => ⟨(bk2.below hU bk2.lt).cell 0, (bk2.below hU bk2.lt).cell 1, (bx2.below hU bx2.lt).cell 0, (bx2.below hU bx2.lt).cell 1, (bt2.below hU bt2.lt).cell 0, (bt2.below hU bt2.lt).cell 1⟩
 have HB3W : Hid (∀ U, Below ga w3 U → Below w3.heap.size w3 U) := fun U hU => by rw [hga]; exact hU
 clear bk bx bt hBx hBz hsb3 hneA hneB hneC
 go_wp2_with fail
 try simp only [hga]
 try simp only [hw4]
 clear hga hw4
 go_loopw [10] (fun i wr => (i = .int .i64 0 ∧ Blk wr ga 77 #[.int .i64 0, .int .i64 0, .int .i64 0, .int .i64 0] ∨ i = .int .i64 1 ∧ (0 ≤ x0 ∧ x0 < (NN : Int)) ∧ Blk wr ga 77 #[.int .i64 (X0 : Int), .int .i64 (Y0 : Int), .int .i64 0, .int .i64 0] ∨ i = .int .i64 2 ∧ (0 ≤ x0 ∧ x0 < (NN : Int)) ∧ (0 ≤ x1 ∧ x1 < (NN : Int)) ∧ Blk wr ga 77 #[.int .i64 (X0 : Int), .int .i64 (Y0 : Int), .int .i64 (X1 : Int), .int .i64 (Y1 : Int)]) ∧ Below ga w3 wr ∧ ga + 1 ≤ wr.heap.size) (fun i _ => 2 - (intOf i).toNat)
 case atStart => exact ⟨.inl ⟨rfl, ba4⟩, hB34, by omega⟩
 case round =>
  clear hB34 ba4 hs34
  obtain ⟨⟨rfl, hba⟩ | ⟨rfl, hx0, hba⟩ | ⟨rfl, hx0, hx1, hba⟩, hBr, hsr⟩ := hrel
  case inl =>
   have ba : Blk wr ga 77 #[.int .i64 0, .int .i64 0, .int .i64 0, .int .i64 0] := hba
   have hWr := below_in hBz2 (HB3W.out _ hBr)
   have hdec : decide ((0 : Int) < 2) = true := by decide
   have HSR := Lib.hid (fun (U : World) (hU : Below wr.heap.size wr U) => HSW.out U (below_in (HB3W.out _ hBr) hU))
   by_cases hn0 : x0 < 0
   case pos =>
    have dn0 : decide (x0 < 0) = true := decide_eq_true hn0
    clear hba
    go_wp2_with fail
    have hBx : Below wr.heap.size wr wr.drew := (Below.refl _ _).drew
    have HSS := HSR
    have hS : (fun U : World => U.cell? ⟨w.heap.size, 0, none⟩ = some (.int .i64 k) ∧ U.cell? ⟨w.heap.size, 1, none⟩ = some (.int .i64 p) ∧ U.cell? ⟨g6, 0, none⟩ = some (.int .i64 x0) ∧ U.cell? ⟨g6, 1, none⟩ = some (.int .i64 x1) ∧ U.cell? ⟨g7, 0, none⟩ = some (.slice A0 n1 k0) ∧ U.cell? ⟨g7, 1, none⟩ = some (.slice A1 n1 k1)) wr.drew := HSR.out _ hBx
    refine (wpIn_wide (n := 12)).1 (wpIn_mono (region_HF (Q := NoPanic _) (S := (fun U : World => U.cell? ⟨w.heap.size, 0, none⟩ = some (.int .i64 k) ∧ U.cell? ⟨w.heap.size, 1, none⟩ = some (.int .i64 p) ∧ U.cell? ⟨g6, 0, none⟩ = some (.int .i64 x0) ∧ U.cell? ⟨g6, 1, none⟩ = some (.int .i64 x1) ∧ U.cell? ⟨g7, 0, none⟩ = some (.slice A0 n1 k0) ∧ U.cell? ⟨g7, 1, none⟩ = some (.slice A1 n1 k1))) (by kernel_rfl) ?_) NoPanic.imp)
    refine tkF (i := 0) (d := 66) (v := .int .i64 0) (s := hS) (c := ?_)
    simp only [ud9]
    refine tkF (i := 1) (d := 67) (v := .pointer (some ⟨g6, 0, none⟩)) (s := hS) (c := ?_)
    simp only [ud9]
    refine tkF (i := 2) (d := 68) (v := .int .i64 x0) (s := hS) (c := ?_)
    simp only [ud9]
    refine tkF (i := 3) (d := 69) (v := .bool true) (s := hS) (c := ?_)
    simp only [ud9]
    refine tkF (i := 4) (d := 70) (v := .bool true) (s := hS) (c := ?_)
    simp only [ud9]
    refine tkF (i := 5) (d := 71) (v := undef) (q8 := ⟨Or.inr ⟨by rfl, rfl⟩, fun _ => rfl⟩) (s := hS) (c := ?_)
    simp only [ud9]
    refine tkF (i := 6) (d := 72) (v := undef) (q8 := ⟨Or.inr ⟨by rfl, rfl⟩, fun _ => rfl⟩) (s := hS) (c := ?_)
    simp only [ud9]
    refine tkF (i := 7) (d := 73) (v := undef) (q8 := ⟨Or.inr ⟨by rfl, rfl⟩, fun _ => rfl⟩) (s := hS) (c := ?_)
    simp only [ud9]
    refine tkF (i := 8) (d := 74) (v := undef) (q8 := ⟨Or.inr ⟨by rfl, rfl⟩, fun _ => rfl⟩) (s := hS) (c := ?_)
    simp only [ud9]
    refine tkF (i := 10) (d := 76) (v := undef) (q8 := ⟨Or.inr ⟨by rfl, rfl⟩, fun _ => rfl⟩) (s := hS) (c := ?_)
    simp only [ud9]
    refine anyHF_skip (i := 9) (d := 75) (by kernel_rfl) rfl (by rfl) rfl wide_fn hS ?_
    simp only [ud9]
    refine anyHF_skip (i := 11) (d := 77) (by kernel_rfl) rfl (by rfl) rfl wide_fn hS ?_
    simp only [ud9]
    refine tkF (i := 12) (d := 78) (v := undef) (q8 := ⟨Or.inr ⟨by rfl, rfl⟩, fun _ => rfl⟩) (s := hS) (c := ?_)
    simp only [ud9]
    refine tkF (i := 13) (d := 79) (v := undef) (q8 := ⟨Or.inr ⟨by rfl, rfl⟩, fun _ => rfl⟩) (s := hS) (c := ?_)
    simp only [ud9]
    refine tkF (i := 14) (d := 80) (v := .bool true) (s := hS) (c := ?_)
    simp only [ud9]
    refine anyHF_done (by kernel_rfl) ?_ _
    refine NoPanic.normal ?_
    go_wp2_with (first
     | (go_at_call 12; refine (works_any _ (hL.next (below_in hWr hBx))).mono ?_; rintro e w9 ⟨rfl, hB9⟩))
    go_ret
    exact ⟨rfl, below_in (below_in hWr hBx) hB9⟩
   have dn0 : decide (x0 < 0) = false := decide_eq_false hn0
   by_cases hb0 : (NN : Int) ≤ x0
   case pos =>
    have db0 : decide ((NN : Int) ≤ x0) = true := decide_eq_true hb0
    clear hba
    go_wp2_with fail
    have hBx : Below wr.heap.size wr wr.drew := (Below.refl _ _).drew
    have HSS := HSR
    have hS : (fun U : World => U.cell? ⟨w.heap.size, 0, none⟩ = some (.int .i64 k) ∧ U.cell? ⟨w.heap.size, 1, none⟩ = some (.int .i64 p) ∧ U.cell? ⟨g6, 0, none⟩ = some (.int .i64 x0) ∧ U.cell? ⟨g6, 1, none⟩ = some (.int .i64 x1) ∧ U.cell? ⟨g7, 0, none⟩ = some (.slice A0 n1 k0) ∧ U.cell? ⟨g7, 1, none⟩ = some (.slice A1 n1 k1)) wr.drew := HSR.out _ hBx
    refine (wpIn_wide (n := 12)).1 (wpIn_mono (region_HF (Q := NoPanic _) (S := (fun U : World => U.cell? ⟨w.heap.size, 0, none⟩ = some (.int .i64 k) ∧ U.cell? ⟨w.heap.size, 1, none⟩ = some (.int .i64 p) ∧ U.cell? ⟨g6, 0, none⟩ = some (.int .i64 x0) ∧ U.cell? ⟨g6, 1, none⟩ = some (.int .i64 x1) ∧ U.cell? ⟨g7, 0, none⟩ = some (.slice A0 n1 k0) ∧ U.cell? ⟨g7, 1, none⟩ = some (.slice A1 n1 k1))) (by kernel_rfl) ?_) NoPanic.imp)
    refine tkF (i := 0) (d := 66) (v := .int .i64 0) (s := hS) (c := ?_)
    simp only [ud9]
    refine tkF (i := 1) (d := 67) (v := .pointer (some ⟨g6, 0, none⟩)) (s := hS) (c := ?_)
    simp only [ud9]
    refine tkF (i := 2) (d := 68) (v := .int .i64 x0) (s := hS) (c := ?_)
    simp only [ud9]
    refine tkF (i := 3) (d := 69) (v := .bool false) (s := hS) (c := ?_)
    simp only [ud9]
    refine tkF (i := 4) (d := 70) (v := .bool false) (s := hS) (c := ?_)
    simp only [ud9]
    refine tkF (i := 5) (d := 71) (v := .int .i64 0) (s := hS) (c := ?_)
    simp only [ud9]
    refine tkF (i := 6) (d := 72) (v := .pointer (some ⟨g6, 0, none⟩)) (s := hS) (c := ?_)
    simp only [ud9]
    refine tkF (i := 7) (d := 73) (v := .int .i64 x0) (s := hS) (c := ?_)
    simp only [ud9]
    refine tkF (i := 8) (d := 74) (v := .agg #[.int .i64 k, .int .i64 p]) (s := hS) (c := ?_)
    simp only [ud9]
    refine tkF (i := 10) (d := 76) (v := .agg #[.int .i64 k, .int .i64 p]) (s := hS) (c := ?_)
    simp only [ud9]
    refine oneF (i := 9) (c := ?_)
    gi_wp2_with fail
    refine ⟨trivial, (callsIn_wide.2 (HDA.out _)).mono ?_⟩
    rintro e wn ⟨rfl, hB1⟩
    replace hBx := below_in hBx hB1
    clear hS
    have hS : (fun U : World => U.cell? ⟨w.heap.size, 0, none⟩ = some (.int .i64 k) ∧ U.cell? ⟨w.heap.size, 1, none⟩ = some (.int .i64 p) ∧ U.cell? ⟨g6, 0, none⟩ = some (.int .i64 x0) ∧ U.cell? ⟨g6, 1, none⟩ = some (.int .i64 x1) ∧ U.cell? ⟨g7, 0, none⟩ = some (.slice A0 n1 k0) ∧ U.cell? ⟨g7, 1, none⟩ = some (.slice A1 n1 k1)) wn := HSS.out _ hBx
    gi_wp2
    try (refine ⟨hS, ?_⟩)
    refine oneF (i := 11) (c := ?_)
    gi_wp2_with fail
    refine ⟨trivial, (callsIn_wide.2 (HRO.out _)).mono ?_⟩
    rintro e wm ⟨rfl, hB1⟩
    replace hBx := below_in hBx hB1
    clear hS
    have hS : (fun U : World => U.cell? ⟨w.heap.size, 0, none⟩ = some (.int .i64 k) ∧ U.cell? ⟨w.heap.size, 1, none⟩ = some (.int .i64 p) ∧ U.cell? ⟨g6, 0, none⟩ = some (.int .i64 x0) ∧ U.cell? ⟨g6, 1, none⟩ = some (.int .i64 x1) ∧ U.cell? ⟨g7, 0, none⟩ = some (.slice A0 n1 k0) ∧ U.cell? ⟨g7, 1, none⟩ = some (.slice A1 n1 k1)) wm := HSS.out _ hBx
    gi_wp2
    try (refine ⟨hS, ?_⟩)
    refine tkF (i := 12) (d := 78) (v := .int .i64 (NN : Int)) (s := hS) (c := ?_)
    simp only [ud9]
    refine tkF (i := 13) (d := 79) (v := .bool true) (s := hS) (c := ?_)
    simp only [ud9]
    refine tkF (i := 14) (d := 80) (v := .bool true) (s := hS) (c := ?_)
    simp only [ud9]
    refine anyHF_done (by kernel_rfl) ?_ _
    refine NoPanic.normal ?_
    go_wp2_with (first
     | (go_at_call 12; refine (works_any _ (hL.next (below_in hWr hBx))).mono ?_; rintro e w9 ⟨rfl, hB9⟩))
    go_ret
    exact ⟨rfl, below_in (below_in hWr hBx) hB9⟩
   have db0 : decide ((NN : Int) ≤ x0) = false := decide_eq_false hb0
   have HPL0 := Lib.hid (fun (U : World) => HPLC.out x0 X0 Y0 hX0 hY0 (by omega) (by omega) U)
   clear hba
   go_wp2_with fail
   have hBx : Below wr.heap.size wr wr.drew := (Below.refl _ _).drew
   have HSS := HSR
   have hS : (fun U : World => U.cell? ⟨w.heap.size, 0, none⟩ = some (.int .i64 k) ∧ U.cell? ⟨w.heap.size, 1, none⟩ = some (.int .i64 p) ∧ U.cell? ⟨g6, 0, none⟩ = some (.int .i64 x0) ∧ U.cell? ⟨g6, 1, none⟩ = some (.int .i64 x1) ∧ U.cell? ⟨g7, 0, none⟩ = some (.slice A0 n1 k0) ∧ U.cell? ⟨g7, 1, none⟩ = some (.slice A1 n1 k1)) wr.drew := HSR.out _ hBx
   refine (wpIn_wide (n := 12)).1 (wpIn_mono (region_HF (Q := NoPanic _) (S := (fun U : World => U.cell? ⟨w.heap.size, 0, none⟩ = some (.int .i64 k) ∧ U.cell? ⟨w.heap.size, 1, none⟩ = some (.int .i64 p) ∧ U.cell? ⟨g6, 0, none⟩ = some (.int .i64 x0) ∧ U.cell? ⟨g6, 1, none⟩ = some (.int .i64 x1) ∧ U.cell? ⟨g7, 0, none⟩ = some (.slice A0 n1 k0) ∧ U.cell? ⟨g7, 1, none⟩ = some (.slice A1 n1 k1))) (by kernel_rfl) ?_) NoPanic.imp)
   refine tkF (i := 0) (d := 66) (v := .int .i64 0) (s := hS) (c := ?_)
   simp only [ud9]
   refine tkF (i := 1) (d := 67) (v := .pointer (some ⟨g6, 0, none⟩)) (s := hS) (c := ?_)
   simp only [ud9]
   refine tkF (i := 2) (d := 68) (v := .int .i64 x0) (s := hS) (c := ?_)
   simp only [ud9]
   refine tkF (i := 3) (d := 69) (v := .bool false) (s := hS) (c := ?_)
   simp only [ud9]
   refine tkF (i := 4) (d := 70) (v := .bool false) (s := hS) (c := ?_)
   simp only [ud9]
   refine tkF (i := 5) (d := 71) (v := .int .i64 0) (s := hS) (c := ?_)
   simp only [ud9]
   refine tkF (i := 6) (d := 72) (v := .pointer (some ⟨g6, 0, none⟩)) (s := hS) (c := ?_)
   simp only [ud9]
   refine tkF (i := 7) (d := 73) (v := .int .i64 x0) (s := hS) (c := ?_)
   simp only [ud9]
   refine tkF (i := 8) (d := 74) (v := .agg #[.int .i64 k, .int .i64 p]) (s := hS) (c := ?_)
   simp only [ud9]
   refine tkF (i := 10) (d := 76) (v := .agg #[.int .i64 k, .int .i64 p]) (s := hS) (c := ?_)
   simp only [ud9]
   refine oneF (i := 9) (c := ?_)
   gi_wp2_with fail
   refine ⟨trivial, (callsIn_wide.2 (HDA.out _)).mono ?_⟩
   rintro e wn ⟨rfl, hB1⟩
   replace hBx := below_in hBx hB1
   clear hS
   have hS : (fun U : World => U.cell? ⟨w.heap.size, 0, none⟩ = some (.int .i64 k) ∧ U.cell? ⟨w.heap.size, 1, none⟩ = some (.int .i64 p) ∧ U.cell? ⟨g6, 0, none⟩ = some (.int .i64 x0) ∧ U.cell? ⟨g6, 1, none⟩ = some (.int .i64 x1) ∧ U.cell? ⟨g7, 0, none⟩ = some (.slice A0 n1 k0) ∧ U.cell? ⟨g7, 1, none⟩ = some (.slice A1 n1 k1)) wn := HSS.out _ hBx
   gi_wp2
   try (refine ⟨hS, ?_⟩)
   refine oneF (i := 11) (c := ?_)
   gi_wp2_with fail
   refine ⟨trivial, (callsIn_wide.2 (HRO.out _)).mono ?_⟩
   rintro e wm ⟨rfl, hB1⟩
   replace hBx := below_in hBx hB1
   clear hS
   have hS : (fun U : World => U.cell? ⟨w.heap.size, 0, none⟩ = some (.int .i64 k) ∧ U.cell? ⟨w.heap.size, 1, none⟩ = some (.int .i64 p) ∧ U.cell? ⟨g6, 0, none⟩ = some (.int .i64 x0) ∧ U.cell? ⟨g6, 1, none⟩ = some (.int .i64 x1) ∧ U.cell? ⟨g7, 0, none⟩ = some (.slice A0 n1 k0) ∧ U.cell? ⟨g7, 1, none⟩ = some (.slice A1 n1 k1)) wm := HSS.out _ hBx
   gi_wp2
   try (refine ⟨hS, ?_⟩)
   refine tkF (i := 12) (d := 78) (v := .int .i64 (NN : Int)) (s := hS) (c := ?_)
   simp only [ud9]
   refine tkF (i := 13) (d := 79) (v := .bool false) (s := hS) (c := ?_)
   simp only [ud9]
   refine tkF (i := 14) (d := 80) (v := .bool false) (s := hS) (c := ?_)
   simp only [ud9]
   refine anyHF_done (by kernel_rfl) ?_ _
   refine NoPanic.normal ?_
   go_wp2_with fail
   replace hBx := hBx.drew
   clear hS
   have HSS := HSR
   have hS : (fun U : World => U.cell? ⟨w.heap.size, 0, none⟩ = some (.int .i64 k) ∧ U.cell? ⟨w.heap.size, 1, none⟩ = some (.int .i64 p) ∧ U.cell? ⟨g6, 0, none⟩ = some (.int .i64 x0) ∧ U.cell? ⟨g6, 1, none⟩ = some (.int .i64 x1) ∧ U.cell? ⟨g7, 0, none⟩ = some (.slice A0 n1 k0) ∧ U.cell? ⟨g7, 1, none⟩ = some (.slice A1 n1 k1)) wm.drew := HSR.out _ hBx
   refine (wpIn_wide (n := 12)).1 (wpIn_mono (region_HF (Q := NoPanic _) (S := (fun U : World => U.cell? ⟨w.heap.size, 0, none⟩ = some (.int .i64 k) ∧ U.cell? ⟨w.heap.size, 1, none⟩ = some (.int .i64 p) ∧ U.cell? ⟨g6, 0, none⟩ = some (.int .i64 x0) ∧ U.cell? ⟨g6, 1, none⟩ = some (.int .i64 x1) ∧ U.cell? ⟨g7, 0, none⟩ = some (.slice A0 n1 k0) ∧ U.cell? ⟨g7, 1, none⟩ = some (.slice A1 n1 k1))) (by kernel_rfl) ?_) NoPanic.imp)
   refine tkF (i := 0) (d := 82) (v := .int .i64 0) (s := hS) (c := ?_)
   simp only [ud9]
   refine tkF (i := 1) (d := 83) (v := .agg #[.int .i64 k, .int .i64 p]) (s := hS) (c := ?_)
   simp only [ud9]
   refine tkF (i := 2) (d := 84) (v := .int .i64 0) (s := hS) (c := ?_)
   simp only [ud9]
   refine tkF (i := 3) (d := 85) (v := .pointer (some ⟨g6, 0, none⟩)) (s := hS) (c := ?_)
   simp only [ud9]
   refine tkF (i := 4) (d := 86) (v := .int .i64 x0) (s := hS) (c := ?_)
   simp only [ud9]
   refine oneF (i := 5) (c := ?_)
   gi_wp2_with fail
   refine ⟨trivial, (callsIn_wide.2 (HPL0.out _)).mono ?_⟩
   rintro e wn ⟨rfl, hB1⟩
   replace hBx := below_in hBx hB1
   clear hS
   have hS : (fun U : World => U.cell? ⟨w.heap.size, 0, none⟩ = some (.int .i64 k) ∧ U.cell? ⟨w.heap.size, 1, none⟩ = some (.int .i64 p) ∧ U.cell? ⟨g6, 0, none⟩ = some (.int .i64 x0) ∧ U.cell? ⟨g6, 1, none⟩ = some (.int .i64 x1) ∧ U.cell? ⟨g7, 0, none⟩ = some (.slice A0 n1 k0) ∧ U.cell? ⟨g7, 1, none⟩ = some (.slice A1 n1 k1)) wn := HSS.out _ hBx
   gi_wp2
   try (refine ⟨hS, ?_⟩)
   refine tkF (i := 6) (d := 88) (v := .pointer (some ⟨ga, 0, none⟩)) (s := hS) (c := ?_)
   simp only [ud9]
   refine oneF (i := 7) (c := ?_)
   have baq := ba.below hBx ba.lt
   have h0f := baq.frozen 0
   have h1f := baq.frozen 1
   have hg0 := baq.cell 0
   have hg1 := baq.cell 1
   simp only [gz9] at hg0 hg1
   have hSV : (fun U : World => U.cell? ⟨w.heap.size, 0, none⟩ = some (.int .i64 k) ∧ U.cell? ⟨w.heap.size, 1, none⟩ = some (.int .i64 p) ∧ U.cell? ⟨g6, 0, none⟩ = some (.int .i64 x0) ∧ U.cell? ⟨g6, 1, none⟩ = some (.int .i64 x1) ∧ U.cell? ⟨g7, 0, none⟩ = some (.slice A0 n1 k0) ∧ U.cell? ⟨g7, 1, none⟩ = some (.slice A1 n1 k1)) ((wn.setCell ⟨ga, 0, none⟩ (.int .i64 (X0 : Int))).setCell ⟨ga, 1, none⟩ (.int .i64 (Y0 : Int))) := HSV.out _ _ _ _ _ hS
   gi_wp2_with fail
   try (refine ⟨hSV, ?_⟩)
   refine anyHF_done (by kernel_rfl) ?_ _
   refine NoPanic.normal ?_
   have baq2 := ba.below hBx ba.lt
   have hb4 := (baq2.set_ 0 (.int .i64 (X0 : Int))).set_ 1 (.int .i64 (Y0 : Int))
   simp only [ud9] at hb4
   have hlga : ga ≤ ga := Nat.le_refl _
   have hbr4 : Below ga w3 ((wn.setCell ⟨ga, 0, none⟩ (.int .i64 (X0 : Int))).setCell ⟨ga, 1, none⟩ (.int .i64 (Y0 : Int))) := ((hBr.trans (hBx.mono (by omega))).setCell hlga _).setCell hlga _
   clear hS HSR HSV
   go_wp2
   go_roundw
   case rel => exact ⟨.inr (.inl ⟨by go_num, by omega, hb4⟩), hbr4, by simpa using Nat.le_trans hsr hBx.size⟩
   case measure => simp [intOf]
  case inr.inl =>
   have ba : Blk wr ga 77 #[.int .i64 (X0 : Int), .int .i64 (Y0 : Int), .int .i64 0, .int .i64 0] := hba
   have hWr := below_in hBz2 (HB3W.out _ hBr)
   have hdec : decide ((1 : Int) < 2) = true := by decide
   have HSR := Lib.hid (fun (U : World) (hU : Below wr.heap.size wr U) => HSW.out U (below_in (HB3W.out _ hBr) hU))
   by_cases hn1 : x1 < 0
   case pos =>
    have dn1 : decide (x1 < 0) = true := decide_eq_true hn1
    clear hba
    go_wp2_with fail
    have hBx : Below wr.heap.size wr wr.drew := (Below.refl _ _).drew
    have HSS := HSR
    have hS : (fun U : World => U.cell? ⟨w.heap.size, 0, none⟩ = some (.int .i64 k) ∧ U.cell? ⟨w.heap.size, 1, none⟩ = some (.int .i64 p) ∧ U.cell? ⟨g6, 0, none⟩ = some (.int .i64 x0) ∧ U.cell? ⟨g6, 1, none⟩ = some (.int .i64 x1) ∧ U.cell? ⟨g7, 0, none⟩ = some (.slice A0 n1 k0) ∧ U.cell? ⟨g7, 1, none⟩ = some (.slice A1 n1 k1)) wr.drew := HSR.out _ hBx
    refine (wpIn_wide (n := 12)).1 (wpIn_mono (region_HF (Q := NoPanic _) (S := (fun U : World => U.cell? ⟨w.heap.size, 0, none⟩ = some (.int .i64 k) ∧ U.cell? ⟨w.heap.size, 1, none⟩ = some (.int .i64 p) ∧ U.cell? ⟨g6, 0, none⟩ = some (.int .i64 x0) ∧ U.cell? ⟨g6, 1, none⟩ = some (.int .i64 x1) ∧ U.cell? ⟨g7, 0, none⟩ = some (.slice A0 n1 k0) ∧ U.cell? ⟨g7, 1, none⟩ = some (.slice A1 n1 k1))) (by kernel_rfl) ?_) NoPanic.imp)
    refine tkF (i := 0) (d := 66) (v := .int .i64 1) (s := hS) (c := ?_)
    simp only [ud9]
    refine tkF (i := 1) (d := 67) (v := .pointer (some ⟨g6, 1, none⟩)) (s := hS) (c := ?_)
    simp only [ud9]
    refine tkF (i := 2) (d := 68) (v := .int .i64 x1) (s := hS) (c := ?_)
    simp only [ud9]
    refine tkF (i := 3) (d := 69) (v := .bool true) (s := hS) (c := ?_)
    simp only [ud9]
    refine tkF (i := 4) (d := 70) (v := .bool true) (s := hS) (c := ?_)
    simp only [ud9]
    refine tkF (i := 5) (d := 71) (v := undef) (q8 := ⟨Or.inr ⟨by rfl, rfl⟩, fun _ => rfl⟩) (s := hS) (c := ?_)
    simp only [ud9]
    refine tkF (i := 6) (d := 72) (v := undef) (q8 := ⟨Or.inr ⟨by rfl, rfl⟩, fun _ => rfl⟩) (s := hS) (c := ?_)
    simp only [ud9]
    refine tkF (i := 7) (d := 73) (v := undef) (q8 := ⟨Or.inr ⟨by rfl, rfl⟩, fun _ => rfl⟩) (s := hS) (c := ?_)
    simp only [ud9]
    refine tkF (i := 8) (d := 74) (v := undef) (q8 := ⟨Or.inr ⟨by rfl, rfl⟩, fun _ => rfl⟩) (s := hS) (c := ?_)
    simp only [ud9]
    refine tkF (i := 10) (d := 76) (v := undef) (q8 := ⟨Or.inr ⟨by rfl, rfl⟩, fun _ => rfl⟩) (s := hS) (c := ?_)
    simp only [ud9]
    refine anyHF_skip (i := 9) (d := 75) (by kernel_rfl) rfl (by rfl) rfl wide_fn hS ?_
    simp only [ud9]
    refine anyHF_skip (i := 11) (d := 77) (by kernel_rfl) rfl (by rfl) rfl wide_fn hS ?_
    simp only [ud9]
    refine tkF (i := 12) (d := 78) (v := undef) (q8 := ⟨Or.inr ⟨by rfl, rfl⟩, fun _ => rfl⟩) (s := hS) (c := ?_)
    simp only [ud9]
    refine tkF (i := 13) (d := 79) (v := undef) (q8 := ⟨Or.inr ⟨by rfl, rfl⟩, fun _ => rfl⟩) (s := hS) (c := ?_)
    simp only [ud9]
    refine tkF (i := 14) (d := 80) (v := .bool true) (s := hS) (c := ?_)
    simp only [ud9]
    refine anyHF_done (by kernel_rfl) ?_ _
    refine NoPanic.normal ?_
    go_wp2_with (first
     | (go_at_call 12; refine (works_any _ (hL.next (below_in hWr hBx))).mono ?_; rintro e w9 ⟨rfl, hB9⟩))
    go_ret
    exact ⟨rfl, below_in (below_in hWr hBx) hB9⟩
   have dn1 : decide (x1 < 0) = false := decide_eq_false hn1
   by_cases hb1 : (NN : Int) ≤ x1
   case pos =>
    have db1 : decide ((NN : Int) ≤ x1) = true := decide_eq_true hb1
    clear hba
    go_wp2_with fail
    have hBx : Below wr.heap.size wr wr.drew := (Below.refl _ _).drew
    have HSS := HSR
    have hS : (fun U : World => U.cell? ⟨w.heap.size, 0, none⟩ = some (.int .i64 k) ∧ U.cell? ⟨w.heap.size, 1, none⟩ = some (.int .i64 p) ∧ U.cell? ⟨g6, 0, none⟩ = some (.int .i64 x0) ∧ U.cell? ⟨g6, 1, none⟩ = some (.int .i64 x1) ∧ U.cell? ⟨g7, 0, none⟩ = some (.slice A0 n1 k0) ∧ U.cell? ⟨g7, 1, none⟩ = some (.slice A1 n1 k1)) wr.drew := HSR.out _ hBx
    refine (wpIn_wide (n := 12)).1 (wpIn_mono (region_HF (Q := NoPanic _) (S := (fun U : World => U.cell? ⟨w.heap.size, 0, none⟩ = some (.int .i64 k) ∧ U.cell? ⟨w.heap.size, 1, none⟩ = some (.int .i64 p) ∧ U.cell? ⟨g6, 0, none⟩ = some (.int .i64 x0) ∧ U.cell? ⟨g6, 1, none⟩ = some (.int .i64 x1) ∧ U.cell? ⟨g7, 0, none⟩ = some (.slice A0 n1 k0) ∧ U.cell? ⟨g7, 1, none⟩ = some (.slice A1 n1 k1))) (by kernel_rfl) ?_) NoPanic.imp)
    refine tkF (i := 0) (d := 66) (v := .int .i64 1) (s := hS) (c := ?_)
    simp only [ud9]
    refine tkF (i := 1) (d := 67) (v := .pointer (some ⟨g6, 1, none⟩)) (s := hS) (c := ?_)
    simp only [ud9]
    refine tkF (i := 2) (d := 68) (v := .int .i64 x1) (s := hS) (c := ?_)
    simp only [ud9]
    refine tkF (i := 3) (d := 69) (v := .bool false) (s := hS) (c := ?_)
    simp only [ud9]
    refine tkF (i := 4) (d := 70) (v := .bool false) (s := hS) (c := ?_)
    simp only [ud9]
    refine tkF (i := 5) (d := 71) (v := .int .i64 1) (s := hS) (c := ?_)
    simp only [ud9]
    refine tkF (i := 6) (d := 72) (v := .pointer (some ⟨g6, 1, none⟩)) (s := hS) (c := ?_)
    simp only [ud9]
    refine tkF (i := 7) (d := 73) (v := .int .i64 x1) (s := hS) (c := ?_)
    simp only [ud9]
    refine tkF (i := 8) (d := 74) (v := .agg #[.int .i64 k, .int .i64 p]) (s := hS) (c := ?_)
    simp only [ud9]
    refine tkF (i := 10) (d := 76) (v := .agg #[.int .i64 k, .int .i64 p]) (s := hS) (c := ?_)
    simp only [ud9]
    refine oneF (i := 9) (c := ?_)
    gi_wp2_with fail
    refine ⟨trivial, (callsIn_wide.2 (HDA.out _)).mono ?_⟩
    rintro e wn ⟨rfl, hB1⟩
    replace hBx := below_in hBx hB1
    clear hS
    have hS : (fun U : World => U.cell? ⟨w.heap.size, 0, none⟩ = some (.int .i64 k) ∧ U.cell? ⟨w.heap.size, 1, none⟩ = some (.int .i64 p) ∧ U.cell? ⟨g6, 0, none⟩ = some (.int .i64 x0) ∧ U.cell? ⟨g6, 1, none⟩ = some (.int .i64 x1) ∧ U.cell? ⟨g7, 0, none⟩ = some (.slice A0 n1 k0) ∧ U.cell? ⟨g7, 1, none⟩ = some (.slice A1 n1 k1)) wn := HSS.out _ hBx
    gi_wp2
    try (refine ⟨hS, ?_⟩)
    refine oneF (i := 11) (c := ?_)
    gi_wp2_with fail
    refine ⟨trivial, (callsIn_wide.2 (HRO.out _)).mono ?_⟩
    rintro e wm ⟨rfl, hB1⟩
    replace hBx := below_in hBx hB1
    clear hS
    have hS : (fun U : World => U.cell? ⟨w.heap.size, 0, none⟩ = some (.int .i64 k) ∧ U.cell? ⟨w.heap.size, 1, none⟩ = some (.int .i64 p) ∧ U.cell? ⟨g6, 0, none⟩ = some (.int .i64 x0) ∧ U.cell? ⟨g6, 1, none⟩ = some (.int .i64 x1) ∧ U.cell? ⟨g7, 0, none⟩ = some (.slice A0 n1 k0) ∧ U.cell? ⟨g7, 1, none⟩ = some (.slice A1 n1 k1)) wm := HSS.out _ hBx
    gi_wp2
    try (refine ⟨hS, ?_⟩)
    refine tkF (i := 12) (d := 78) (v := .int .i64 (NN : Int)) (s := hS) (c := ?_)
    simp only [ud9]
    refine tkF (i := 13) (d := 79) (v := .bool true) (s := hS) (c := ?_)
    simp only [ud9]
    refine tkF (i := 14) (d := 80) (v := .bool true) (s := hS) (c := ?_)
    simp only [ud9]
    refine anyHF_done (by kernel_rfl) ?_ _
    refine NoPanic.normal ?_
    go_wp2_with (first
     | (go_at_call 12; refine (works_any _ (hL.next (below_in hWr hBx))).mono ?_; rintro e w9 ⟨rfl, hB9⟩))
    go_ret
    exact ⟨rfl, below_in (below_in hWr hBx) hB9⟩
   have db1 : decide ((NN : Int) ≤ x1) = false := decide_eq_false hb1
   have HPL1 := Lib.hid (fun (U : World) => HPLC.out x1 X1 Y1 hX1 hY1 (by omega) (by omega) U)
   clear hba
   go_wp2_with fail
   have hBx : Below wr.heap.size wr wr.drew := (Below.refl _ _).drew
   have HSS := HSR
   have hS : (fun U : World => U.cell? ⟨w.heap.size, 0, none⟩ = some (.int .i64 k) ∧ U.cell? ⟨w.heap.size, 1, none⟩ = some (.int .i64 p) ∧ U.cell? ⟨g6, 0, none⟩ = some (.int .i64 x0) ∧ U.cell? ⟨g6, 1, none⟩ = some (.int .i64 x1) ∧ U.cell? ⟨g7, 0, none⟩ = some (.slice A0 n1 k0) ∧ U.cell? ⟨g7, 1, none⟩ = some (.slice A1 n1 k1)) wr.drew := HSR.out _ hBx
   refine (wpIn_wide (n := 12)).1 (wpIn_mono (region_HF (Q := NoPanic _) (S := (fun U : World => U.cell? ⟨w.heap.size, 0, none⟩ = some (.int .i64 k) ∧ U.cell? ⟨w.heap.size, 1, none⟩ = some (.int .i64 p) ∧ U.cell? ⟨g6, 0, none⟩ = some (.int .i64 x0) ∧ U.cell? ⟨g6, 1, none⟩ = some (.int .i64 x1) ∧ U.cell? ⟨g7, 0, none⟩ = some (.slice A0 n1 k0) ∧ U.cell? ⟨g7, 1, none⟩ = some (.slice A1 n1 k1))) (by kernel_rfl) ?_) NoPanic.imp)
   refine tkF (i := 0) (d := 66) (v := .int .i64 1) (s := hS) (c := ?_)
   simp only [ud9]
   refine tkF (i := 1) (d := 67) (v := .pointer (some ⟨g6, 1, none⟩)) (s := hS) (c := ?_)
   simp only [ud9]
   refine tkF (i := 2) (d := 68) (v := .int .i64 x1) (s := hS) (c := ?_)
   simp only [ud9]
   refine tkF (i := 3) (d := 69) (v := .bool false) (s := hS) (c := ?_)
   simp only [ud9]
   refine tkF (i := 4) (d := 70) (v := .bool false) (s := hS) (c := ?_)
   simp only [ud9]
   refine tkF (i := 5) (d := 71) (v := .int .i64 1) (s := hS) (c := ?_)
   simp only [ud9]
   refine tkF (i := 6) (d := 72) (v := .pointer (some ⟨g6, 1, none⟩)) (s := hS) (c := ?_)
   simp only [ud9]
   refine tkF (i := 7) (d := 73) (v := .int .i64 x1) (s := hS) (c := ?_)
   simp only [ud9]
   refine tkF (i := 8) (d := 74) (v := .agg #[.int .i64 k, .int .i64 p]) (s := hS) (c := ?_)
   simp only [ud9]
   refine tkF (i := 10) (d := 76) (v := .agg #[.int .i64 k, .int .i64 p]) (s := hS) (c := ?_)
   simp only [ud9]
   refine oneF (i := 9) (c := ?_)
   gi_wp2_with fail
   refine ⟨trivial, (callsIn_wide.2 (HDA.out _)).mono ?_⟩
   rintro e wn ⟨rfl, hB1⟩
   replace hBx := below_in hBx hB1
   clear hS
   have hS : (fun U : World => U.cell? ⟨w.heap.size, 0, none⟩ = some (.int .i64 k) ∧ U.cell? ⟨w.heap.size, 1, none⟩ = some (.int .i64 p) ∧ U.cell? ⟨g6, 0, none⟩ = some (.int .i64 x0) ∧ U.cell? ⟨g6, 1, none⟩ = some (.int .i64 x1) ∧ U.cell? ⟨g7, 0, none⟩ = some (.slice A0 n1 k0) ∧ U.cell? ⟨g7, 1, none⟩ = some (.slice A1 n1 k1)) wn := HSS.out _ hBx
   gi_wp2
   try (refine ⟨hS, ?_⟩)
   refine oneF (i := 11) (c := ?_)
   gi_wp2_with fail
   refine ⟨trivial, (callsIn_wide.2 (HRO.out _)).mono ?_⟩
   rintro e wm ⟨rfl, hB1⟩
   replace hBx := below_in hBx hB1
   clear hS
   have hS : (fun U : World => U.cell? ⟨w.heap.size, 0, none⟩ = some (.int .i64 k) ∧ U.cell? ⟨w.heap.size, 1, none⟩ = some (.int .i64 p) ∧ U.cell? ⟨g6, 0, none⟩ = some (.int .i64 x0) ∧ U.cell? ⟨g6, 1, none⟩ = some (.int .i64 x1) ∧ U.cell? ⟨g7, 0, none⟩ = some (.slice A0 n1 k0) ∧ U.cell? ⟨g7, 1, none⟩ = some (.slice A1 n1 k1)) wm := HSS.out _ hBx
   gi_wp2
   try (refine ⟨hS, ?_⟩)
   refine tkF (i := 12) (d := 78) (v := .int .i64 (NN : Int)) (s := hS) (c := ?_)
   simp only [ud9]
   refine tkF (i := 13) (d := 79) (v := .bool false) (s := hS) (c := ?_)
   simp only [ud9]
   refine tkF (i := 14) (d := 80) (v := .bool false) (s := hS) (c := ?_)
   simp only [ud9]
   refine anyHF_done (by kernel_rfl) ?_ _
   refine NoPanic.normal ?_
   go_wp2_with fail
   replace hBx := hBx.drew
   clear hS
   have HSS := HSR
   have hS : (fun U : World => U.cell? ⟨w.heap.size, 0, none⟩ = some (.int .i64 k) ∧ U.cell? ⟨w.heap.size, 1, none⟩ = some (.int .i64 p) ∧ U.cell? ⟨g6, 0, none⟩ = some (.int .i64 x0) ∧ U.cell? ⟨g6, 1, none⟩ = some (.int .i64 x1) ∧ U.cell? ⟨g7, 0, none⟩ = some (.slice A0 n1 k0) ∧ U.cell? ⟨g7, 1, none⟩ = some (.slice A1 n1 k1)) wm.drew := HSR.out _ hBx
   refine (wpIn_wide (n := 12)).1 (wpIn_mono (region_HF (Q := NoPanic _) (S := (fun U : World => U.cell? ⟨w.heap.size, 0, none⟩ = some (.int .i64 k) ∧ U.cell? ⟨w.heap.size, 1, none⟩ = some (.int .i64 p) ∧ U.cell? ⟨g6, 0, none⟩ = some (.int .i64 x0) ∧ U.cell? ⟨g6, 1, none⟩ = some (.int .i64 x1) ∧ U.cell? ⟨g7, 0, none⟩ = some (.slice A0 n1 k0) ∧ U.cell? ⟨g7, 1, none⟩ = some (.slice A1 n1 k1))) (by kernel_rfl) ?_) NoPanic.imp)
   refine tkF (i := 0) (d := 82) (v := .int .i64 1) (s := hS) (c := ?_)
   simp only [ud9]
   refine tkF (i := 1) (d := 83) (v := .agg #[.int .i64 k, .int .i64 p]) (s := hS) (c := ?_)
   simp only [ud9]
   refine tkF (i := 2) (d := 84) (v := .int .i64 1) (s := hS) (c := ?_)
   simp only [ud9]
   refine tkF (i := 3) (d := 85) (v := .pointer (some ⟨g6, 1, none⟩)) (s := hS) (c := ?_)
   simp only [ud9]
   refine tkF (i := 4) (d := 86) (v := .int .i64 x1) (s := hS) (c := ?_)
   simp only [ud9]
   refine oneF (i := 5) (c := ?_)
   gi_wp2_with fail
   refine ⟨trivial, (callsIn_wide.2 (HPL1.out _)).mono ?_⟩
   rintro e wn ⟨rfl, hB1⟩
   replace hBx := below_in hBx hB1
   clear hS
   have hS : (fun U : World => U.cell? ⟨w.heap.size, 0, none⟩ = some (.int .i64 k) ∧ U.cell? ⟨w.heap.size, 1, none⟩ = some (.int .i64 p) ∧ U.cell? ⟨g6, 0, none⟩ = some (.int .i64 x0) ∧ U.cell? ⟨g6, 1, none⟩ = some (.int .i64 x1) ∧ U.cell? ⟨g7, 0, none⟩ = some (.slice A0 n1 k0) ∧ U.cell? ⟨g7, 1, none⟩ = some (.slice A1 n1 k1)) wn := HSS.out _ hBx
   gi_wp2
   try (refine ⟨hS, ?_⟩)
   refine tkF (i := 6) (d := 88) (v := .pointer (some ⟨ga, 2, none⟩)) (s := hS) (c := ?_)
   simp only [ud9]
   refine oneF (i := 7) (c := ?_)
   have baq := ba.below hBx ba.lt
   have h0f := baq.frozen 2
   have h1f := baq.frozen 3
   have hg0 := baq.cell 2
   have hg1 := baq.cell 3
   simp only [gz9] at hg0 hg1
   have hSV : (fun U : World => U.cell? ⟨w.heap.size, 0, none⟩ = some (.int .i64 k) ∧ U.cell? ⟨w.heap.size, 1, none⟩ = some (.int .i64 p) ∧ U.cell? ⟨g6, 0, none⟩ = some (.int .i64 x0) ∧ U.cell? ⟨g6, 1, none⟩ = some (.int .i64 x1) ∧ U.cell? ⟨g7, 0, none⟩ = some (.slice A0 n1 k0) ∧ U.cell? ⟨g7, 1, none⟩ = some (.slice A1 n1 k1)) ((wn.setCell ⟨ga, 2, none⟩ (.int .i64 (X1 : Int))).setCell ⟨ga, 3, none⟩ (.int .i64 (Y1 : Int))) := HSV.out _ _ _ _ _ hS
   gi_wp2_with fail
   try (refine ⟨hSV, ?_⟩)
   refine anyHF_done (by kernel_rfl) ?_ _
   refine NoPanic.normal ?_
   have baq2 := ba.below hBx ba.lt
   have hb4 := (baq2.set_ 2 (.int .i64 (X1 : Int))).set_ 3 (.int .i64 (Y1 : Int))
   simp only [ud9] at hb4
   have hlga : ga ≤ ga := Nat.le_refl _
   have hbr4 : Below ga w3 ((wn.setCell ⟨ga, 2, none⟩ (.int .i64 (X1 : Int))).setCell ⟨ga, 3, none⟩ (.int .i64 (Y1 : Int))) := ((hBr.trans (hBx.mono (by omega))).setCell hlga _).setCell hlga _
   clear hS HSR HSV
   go_wp2
   go_roundw
   case rel => exact ⟨.inr (.inr ⟨by go_num, hx0, by omega, hb4⟩), hbr4, by simpa using Nat.le_trans hsr hBx.size⟩
   case measure => simp [intOf]
  case inr.inr =>
   have ba : Blk wr ga 77 #[.int .i64 (X0 : Int), .int .i64 (Y0 : Int), .int .i64 (X1 : Int), .int .i64 (Y1 : Int)] := hba
   have hdec : decide ((2 : Int) < 2) = false := by decide
   have hWr := below_in hBz2 (HB3W.out _ hBr)
   obtain ⟨_, _, hX0d, hY0R⟩ := HPL.out x0 X0 Y0 hX0 hY0 hx0.1 hx0.2
   obtain ⟨_, _, hX1d, hY1R⟩ := HPL.out x1 X1 Y1 hX1 hY1 hx1.1 hx1.2
   obtain ⟨b2, off2, cx2, D1, e1, hz1, hb2, hz2, hcb⟩ := HCEL.out X0 Y0 hX0d hY0R
   have hbr3 := HB3W.out _ hBr
   have bk := bk2.below hbr3 bk2.lt
   have bx := bx2.below hbr3 bx2.lt
   have bt := bt2.below hbr3 bt2.lt
   have c0 := bk.cell 0; have c1 := bk.cell 1; have c2 := bx.cell 0; have c3 := bx.cell 1; have c4 := bt.cell 0; have c5 := bt.cell 1; have c6 := ba.cell 0; have c7 := ba.cell 1; have c8 := ba.cell 2; have c9 := ba.cell 3; simp only [gz9] at c0 c1 c2 c3 c4 c5 c6 c7 c8 c9
   obtain ⟨sa, hsa⟩ : ∃ s, chgK k p css (X0 : Int) (Y0 : Int) t0 = s := ⟨_, rfl⟩
   have hka := HOKS.out css HST.out X0 Y0 hX0d hY0R t0 hn0
   rw [hsa] at hka
   obtain ⟨sp, hsp⟩ : ∃ s, chgK k p css (X1 : Int) (Y1 : Int) t1 = s := ⟨_, rfl⟩
   have hkp := HOKS.out css HST.out X1 Y1 hX1d hY1R t1 hn1
   rw [hsp] at hkp
   obtain ⟨so, hso⟩ : ∃ s, chgK k p sa (X1 : Int) (Y1 : Int) t1 = s := ⟨_, rfl⟩
   have hko := HOKS.out sa hka X1 Y1 hX1d hY1R t1 hn1
   rw [hso] at hko
   have hback := HBACK.out X0 Y0 hX0d hY0R t0 hn0
   rw [hsa] at hback
   have HCA := Lib.hid (fun (U : World) (hU : Below w.heap.size w U) => by
    have h := HCH.out css HST.out X0 Y0 hX0d hY0R t0 hn0 _ _ w.heap.size U (hL.next hU) hU.size (HCUU.out U hU) (HT0.out.below hU)
    rw [hsa] at h
    exact h)
   have HCP := Lib.hid (fun (U : World) (hU : Below w.heap.size w U) => by
    have h := HCH.out css HST.out X1 Y1 hX1d hY1R t1 hn1 _ _ w.heap.size U (hL.next hU) hU.size (HCUU.out U hU) (HT1.out.below hU)
    rw [hsp] at h
    exact h)
   have HCB := Lib.hid (fun (U : World) (hU : Below w.heap.size w U) (x : Value) (hx : Cols U.heap.size U x sa) => by
    have h := HCH.out sa hka X0 Y0 hX0d hY0R (cellI css ((X0 : Int), (Y0 : Int))) (HBYT.out X0 Y0 hX0d hY0R) x (.slice D1 n1 e1) U.heap.size U (hL.next hU) (Nat.le_refl _) hx ((hcb.below hU).more hU.size)
    rw [hback] at h
    exact h)
   have HCO := Lib.hid (fun (U : World) (hU : Below w.heap.size w U) (x : Value) (hx : Cols U.heap.size U x sa) => by
    have h := HCH.out sa hka X1 Y1 hX1d hY1R t1 hn1 x _ U.heap.size U (hL.next hU) (Nat.le_refl _) hx ((HT1.out.below hU).more hU.size)
    rw [hso] at h
    exact h)
   have HCQ := Lib.hid (fun (U : World) (hU : Below w.heap.size w U) (x : Value) (hx : Cols U.heap.size U x sp) => HCH.out sp hkp X0 Y0 hX0d hY0R t0 hn0 x _ U.heap.size U (hL.next hU) (Nat.le_refl _) hx ((HT0.out.below hU).more hU.size))
   have hsw : x0 ≠ x1 → chgK k p sp (X0 : Int) (Y0 : Int) t0 = so := fun hne => by
    rw [← hso, ← hsp, ← hsa]
    refine (HSWAP.out X0 Y0 X1 Y1 hX0d hY0R hX1d hY1R t0 t1 hn0 hn1 (fun e => hne ?_)).symm
    injection e with e1 e2
    have h5 := HDM.out x1.toNat x0.toNat (by omega) (by omega)
    omega
   have HSM1 := Lib.hid (fun (U : World) (x : Value) (hx : Cols U.heap.size U x css) (hU : Below w.heap.size w U) => same_any x _ css css U hx (HCUU.out U hU) (HSMALL.out css HST.out).1 (HSMALL.out css HST.out).1 (HSMALL.out css HST.out).2 (HSMALL.out css HST.out).2)
   have HSM2 := Lib.hid (fun (U : World) (x y : Value) (hx : Cols U.heap.size U x so) (hy : Cols U.heap.size U y so) => same_any x y so so U hx hy (HSMALL.out so hko).1 (HSMALL.out so hko).1 (HSMALL.out so hko).2 (HSMALL.out so hko).2)
   simp only [decide_true] at HSM1 HSM2
   have i1 : (0 : Int) ≤ (X0 : Int) := by omega
   have i2 : (X0 : Int) < (N : Int) := by omega
   have i3 : (0 : Int) ≤ (Y0 : Int) := by omega
   have i4 : (Y0 : Int) < (R : Int) := by omega
   have HZ : Hid (∀ U, Below w.heap.size w U → U.cell? ⟨b1, off1 + X0, none⟩ = some (.slice (some ⟨b2, off2, none⟩) R cx2) ∧ U.cell? ⟨b2, off2 + Y0, none⟩ = some (.slice D1 n1 e1)) := fun U hU => ⟨(hU.cell (p := ⟨b1, off1 + X0, none⟩) hb1).trans hz1, (hU.cell (p := ⟨b2, off2 + Y0, none⟩) hb2).trans hz2⟩
   clear hba HPL HPLC HCEL HCH HOKS HBACK HSWAP HSMALL HBYT hz1 hz2 hcb hka hkp hko hback hsa hsp hso HST HPLQ HXY HDM HS2 HSS HSW HSV HR9 HF HDA HRO hmul hX0 hY0 hX1 hY1 hbr3 hBr HB3W bk2 bx2 bt2
   go_wp2_with (first
    | (go_at_call 29; refine (HCA.out _ hWr).mono ?_; rintro e w5 ⟨aA, an, ac, aA2, an2, ac2, rfl, hsa, hra, hB5⟩; have hW5 := below_in hWr hB5; have hca : Cols w5.heap.size w5 (.slice aA an ac) sa := colsR_iff.1 (colsR.imp (sepC_cols hsa) fun q hq => hq.2); clear hsa hra; replace bk := bk.below hB5 bk.lt; replace bx := bx.below hB5 bx.lt; replace bt := bt.below hB5 bt.lt; replace ba := ba.below hB5 ba.lt; clear c0 c1 c2 c3 c4 c5 c6 c7 c8 c9; have c0 := bk.cell 0; have c1 := bk.cell 1; have c2 := bx.cell 0; have c3 := bx.cell 1; have c4 := bt.cell 0; have c5 := bt.cell 1; have c6 := ba.cell 0; have c7 := ba.cell 1; have c8 := ba.cell 2; have c9 := ba.cell 3; simp only [gz9] at c0 c1 c2 c3 c4 c5 c6 c7 c8 c9))
   have HS11 : Hid (∀ U, Below w5.heap.size w5 U → (fun U : World => U.cell? ⟨w.heap.size, 0, none⟩ = some (.int .i64 k) ∧ U.cell? ⟨w.heap.size, 1, none⟩ = some (.int .i64 p) ∧ U.cell? ⟨ga, 0, none⟩ = some (.int .i64 (X0 : Int)) ∧ U.cell? ⟨ga, 1, none⟩ = some (.int .i64 (Y0 : Int)) ∧ U.cell? ⟨b1, off1 + X0, none⟩ = some (.slice (some ⟨b2, off2, none⟩) R cx2) ∧ U.cell? ⟨b2, off2 + Y0, none⟩ = some (.slice D1 n1 e1)) U) := fun U hU => ⟨(bk.below hU bk.lt).cell 0, (bk.below hU bk.lt).cell 1, (ba.below hU ba.lt).cell 0, (ba.below hU ba.lt).cell 1, (HZ.out U (below_in hW5 hU)).1, (HZ.out U (below_in hW5 hU)).2⟩
   have HB := Lib.hid (fun (U : World) (hU : Below w5.heap.size w5 U) => HCB.out U (below_in hW5 hU) (.slice aA an ac) (Cols.more (hca.below hU) hU.size))
   have HSS := HS11
   have hBx : Below w5.heap.size w5 w5.drew := (Below.refl _ _).drew
   have hS : (fun U : World => U.cell? ⟨w.heap.size, 0, none⟩ = some (.int .i64 k) ∧ U.cell? ⟨w.heap.size, 1, none⟩ = some (.int .i64 p) ∧ U.cell? ⟨ga, 0, none⟩ = some (.int .i64 (X0 : Int)) ∧ U.cell? ⟨ga, 1, none⟩ = some (.int .i64 (Y0 : Int)) ∧ U.cell? ⟨b1, off1 + X0, none⟩ = some (.slice (some ⟨b2, off2, none⟩) R cx2) ∧ U.cell? ⟨b2, off2 + Y0, none⟩ = some (.slice D1 n1 e1)) w5.drew := HS11.out _ hBx
   refine (wpIn_wide (n := 12)).1 (wpIn_mono (region_HF (Q := NoPanic _) (S := (fun U : World => U.cell? ⟨w.heap.size, 0, none⟩ = some (.int .i64 k) ∧ U.cell? ⟨w.heap.size, 1, none⟩ = some (.int .i64 p) ∧ U.cell? ⟨ga, 0, none⟩ = some (.int .i64 (X0 : Int)) ∧ U.cell? ⟨ga, 1, none⟩ = some (.int .i64 (Y0 : Int)) ∧ U.cell? ⟨b1, off1 + X0, none⟩ = some (.slice (some ⟨b2, off2, none⟩) R cx2) ∧ U.cell? ⟨b2, off2 + Y0, none⟩ = some (.slice D1 n1 e1))) (by kernel_rfl) ?_) NoPanic.imp)
   refine tkF (i := 0) (d := 101) (v := .agg #[.int .i64 k, .int .i64 p]) (s := hS) (c := ?_)
   simp only [ud9]
   refine tkF (i := 1) (d := 102) (v := .slice aA an ac) (s := hS) (c := ?_)
   simp only [ud9]
   refine tkF (i := 2) (d := 103) (v := .pointer (some ⟨ga, 0, none⟩)) (s := hS) (c := ?_)
   simp only [ud9]
   refine tkF (i := 3) (d := 104) (v := .agg #[.int .i64 (X0 : Int), .int .i64 (Y0 : Int)]) (s := hS) (c := ?_)
   simp only [ud9]
   refine tkF (i := 4) (d := 105) (v := .slice (some ⟨b1, off1, none⟩) N cap) (s := hS) (c := ?_)
   simp only [ud9]
   refine tkF (i := 5) (d := 106) (v := .pointer (some ⟨ga, 0, none⟩)) (s := hS) (c := ?_)
   simp only [ud9]
   refine tkF (i := 6) (d := 107) (v := .pointer (some ⟨ga, 0, none⟩)) (s := hS) (c := ?_)
   simp only [ud9]
   refine tkF (i := 7) (d := 108) (v := .int .i64 (X0 : Int)) (s := hS) (c := ?_)
   simp only [ud9]
   refine tkF (i := 8) (d := 109) (v := .pointer (some ⟨b1, off1 + X0, none⟩)) (s := hS) (c := ?_)
   simp only [ud9]
   refine tkF (i := 9) (d := 110) (v := .slice (some ⟨b2, off2, none⟩) R cx2) (s := hS) (c := ?_)
   simp only [ud9]
   refine tkF (i := 10) (d := 111) (v := .pointer (some ⟨ga, 0, none⟩)) (s := hS) (c := ?_)
   simp only [ud9]
   refine tkF (i := 11) (d := 112) (v := .pointer (some ⟨ga, 1, none⟩)) (s := hS) (c := ?_)
   simp only [ud9]
   refine tkF (i := 12) (d := 113) (v := .int .i64 (Y0 : Int)) (s := hS) (c := ?_)
   simp only [ud9]
   refine tkF (i := 13) (d := 114) (v := .pointer (some ⟨b2, off2 + Y0, none⟩)) (s := hS) (c := ?_)
   simp only [ud9]
   refine tkF (i := 14) (d := 115) (v := .slice D1 n1 e1) (s := hS) (c := ?_)
   simp only [ud9]
   refine oneF (i := 15) (c := ?_)
   gi_wp2_with fail
   refine ⟨trivial, (callsIn_wide.2 (HB.out _ hBx)).mono ?_⟩
   rintro e wn ⟨bA, bn, bc, bA2, bn2, bc2, rfl, hsb, hrb, hB1⟩
   replace hBx := below_in hBx hB1
   clear hS
   have hS : (fun U : World => U.cell? ⟨w.heap.size, 0, none⟩ = some (.int .i64 k) ∧ U.cell? ⟨w.heap.size, 1, none⟩ = some (.int .i64 p) ∧ U.cell? ⟨ga, 0, none⟩ = some (.int .i64 (X0 : Int)) ∧ U.cell? ⟨ga, 1, none⟩ = some (.int .i64 (Y0 : Int)) ∧ U.cell? ⟨b1, off1 + X0, none⟩ = some (.slice (some ⟨b2, off2, none⟩) R cx2) ∧ U.cell? ⟨b2, off2 + Y0, none⟩ = some (.slice D1 n1 e1)) wn := HSS.out _ hBx
   gi_wp2
   try (refine ⟨hS, ?_⟩)
   refine tkF (i := 16) (d := 100) (v := .tuple #[.slice bA bn bc, .slice bA2 bn2 bc2, .int .i64 0]) (s := hS) (c := ?_)
   simp only [ud9]
   refine tkF (i := 17) (d := 117) (v := .slice bA bn bc) (s := hS) (c := ?_)
   simp only [ud9]
   refine tkF (i := 18) (d := 118) (v := .slice bA2 bn2 bc2) (s := hS) (c := ?_)
   simp only [ud9]
   refine tkF (i := 19) (d := 119) (v := .int .i64 0) (s := hS) (c := ?_)
   simp only [ud9]
   refine oneF (i := 20) (c := ?_)
   gi_wp2
   refine oneF (i := 21) (c := ?_)
   gi_wp2
   refine oneF (i := 22) (c := ?_)
   gi_wp2
   refine anyHF_done (by kernel_rfl) ?_ _
   refine NoPanic.normal ?_
   have hW6 := below_in hW5 hBx
   have hcb6 : Cols wn.heap.size wn (.slice bA bn bc) css := colsR_iff.1 (colsR.imp (sepC_cols hsb) fun q hq => hq.2)
   have hca6 := Cols.more (hca.below hBx) hBx.size
   clear hS HS11 HB hsb hrb HCB
   replace bk := bk.below hBx bk.lt; replace bx := bx.below hBx bx.lt; replace bt := bt.below hBx bt.lt; replace ba := ba.below hBx ba.lt; clear c0 c1 c2 c3 c4 c5 c6 c7 c8 c9; have c0 := bk.cell 0; have c1 := bk.cell 1; have c2 := bx.cell 0; have c3 := bx.cell 1; have c4 := bt.cell 0; have c5 := bt.cell 1; have c6 := ba.cell 0; have c7 := ba.cell 1; have c8 := ba.cell 2; have c9 := ba.cell 3; simp only [gz9] at c0 c1 c2 c3 c4 c5 c6 c7 c8 c9
   by_cases hxe : x0 = x1
   case pos =>
    have dxe : (x0 == x1) = true := by simp [hxe]
    go_wp2_with (first
     | (go_at_call 15; refine (num_any _ _).mono ?_; rintro e w' ⟨rfl, rfl⟩)
     | (go_at_call 34; refine (HSM1.out _ _ hcb6 hW6).mono ?_; rintro e w' ⟨rfl, rfl⟩)
     | (go_at_call 12; refine (works_any _ (hL.next hW6)).mono ?_; rintro e w9 ⟨rfl, hB9⟩))
    go_ret
    exact ⟨rfl, below_in hW6 hB9⟩
   have dxe : (x0 == x1) = false := by simp [hxe]
   replace hsw := hsw hxe
   go_wp2_with (first
    | (go_at_call 15; refine (num_any _ _).mono ?_; rintro e w' ⟨rfl, rfl⟩)
    | (go_at_call 34; refine (HSM1.out _ _ hcb6 hW6).mono ?_; rintro e w' ⟨rfl, rfl⟩; clear HSM1)
    | (go_at_call 29; refine (HCO.out _ hW6 _ hca6).mono ?_; rintro e w7 ⟨oA, on, oc, oA2, on2, oc2, rfl, hso, hro, hB7⟩; have hW7 := below_in hW6 hB7; have hco : Cols w7.heap.size w7 (.slice oA on oc) so := colsR_iff.1 (colsR.imp (sepC_cols hso) fun q hq => hq.2); clear hso hro; replace bk := bk.below hB7 bk.lt; replace bx := bx.below hB7 bx.lt; replace bt := bt.below hB7 bt.lt; replace ba := ba.below hB7 ba.lt; clear c0 c1 c2 c3 c4 c5 c6 c7 c8 c9; have c0 := bk.cell 0; have c1 := bk.cell 1; have c2 := bx.cell 0; have c3 := bx.cell 1; have c4 := bt.cell 0; have c5 := bt.cell 1; have c6 := ba.cell 0; have c7 := ba.cell 1; have c8 := ba.cell 2; have c9 := ba.cell 3; simp only [gz9] at c0 c1 c2 c3 c4 c5 c6 c7 c8 c9 ; clear HCO)
    | (go_at_call 29; refine (HCP.out _ hW7).mono ?_; rintro e w8 ⟨pA, pn, pc, pA2, pn2, pc2, rfl, hsp, hrp, hB8⟩; have hW8 := below_in hW7 hB8; have hcp : Cols w8.heap.size w8 (.slice pA pn pc) sp := colsR_iff.1 (colsR.imp (sepC_cols hsp) fun q hq => hq.2); clear hsp hrp; replace bk := bk.below hB8 bk.lt; replace bx := bx.below hB8 bx.lt; replace bt := bt.below hB8 bt.lt; replace ba := ba.below hB8 ba.lt; clear c0 c1 c2 c3 c4 c5 c6 c7 c8 c9; have c0 := bk.cell 0; have c1 := bk.cell 1; have c2 := bx.cell 0; have c3 := bx.cell 1; have c4 := bt.cell 0; have c5 := bt.cell 1; have c6 := ba.cell 0; have c7 := ba.cell 1; have c8 := ba.cell 2; have c9 := ba.cell 3; simp only [gz9] at c0 c1 c2 c3 c4 c5 c6 c7 c8 c9; have hco8 := Cols.more (hco.below hB8) hB8.size; have HCQ8 := Lib.hid (HCQ.out _ hW8 _ hcp); rw [hsw] at HCQ8; clear HCP HCQ hsw)
    | (go_at_call 29; refine HCQ8.out.mono ?_; rintro e w10 ⟨qA, qn, qc, qA2, qn2, qc2, rfl, hsq, hrq, hB10⟩; have hW10 := below_in hW8 hB10; have hcq : Cols w10.heap.size w10 (.slice qA qn qc) so := colsR_iff.1 (colsR.imp (sepC_cols hsq) fun q hq => hq.2); have hco10 := Cols.more (hco8.below hB10) hB10.size; clear HCQ8)
    | (go_at_call 34; refine (HSM2.out _ _ _ hco10 hcq).mono ?_; rintro e w' ⟨rfl, rfl⟩)
    | (go_at_call 12; refine (works_any _ (hL.next hW10)).mono ?_; rintro e w9 ⟨rfl, hB9⟩))
   go_ret
   exact ⟨rfl, below_in hW10 hB9⟩

end Go.Proofs.YtcahoigdoohjaaaGreatDoor.codeUndoes
