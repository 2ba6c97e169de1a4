/- The law StarChecks answers true for every input and leaves its arguments as they were. -/
import Derived.Test.YtcgnhfiadeceiaaGreatDoorJSA
import Derived.Test.YtcgnhfiadeceiaaGreatDoorJG6x1
import Derived.Test.YtcgnhfiadeceiaaGreatDoorJG15x1
import Derived.Test.YtcgnhfiadeceiaaGreatDoorCards
import Derived.Test.YtcgnhfiadeceiaaGreatDoorTie
import Derived.SevenTiedAt
import Derived.Test.YtcgnhfiadeceiaaGreatDoorJG16
import Derived.Test.YtcgnhfiadeceiaaGreatDoorJG12
namespace Go.Proofs.YtcgnhfiadeceiaaGreatDoor.starChecks
open Go.ChangeShapes Go.WideShapes Go.ChangeAt Go.RowKit Go.Shelf
set_option linter.unusedVariables false
set_option linter.unusedSimpArgs false
attribute [local go_sem] Oper.semAt_some

open Go.Proofs.YtcgnhfiadeceiaaGreatDoor.E Go.Proofs.YtcgnhfiadeceiaaGreatDoor.C Go.Proofs.YtcgnhfiadeceiaaGreatDoor.T in
theorem same_d {p : Int} {all : List (List (List UInt8))} : decide (all = all.take p.toNat ++ starOf p (all.take p.toNat)) = decide (starOf p (all.take p.toNat) = all.drop p.toNat) := by
  congr 1
  apply propext
  refine ⟨fun h1 => ?_, fun h1 => ?_⟩
  · have h2 : all.take p.toNat ++ all.drop p.toNat = all.take p.toNat ++ starOf p (all.take p.toNat) := by rw [List.take_append_drop]; exact h1
    exact (List.append_cancel_left h2).symm
  · rw [h1, List.take_append_drop]
open Go.Proofs.YtcgnhfiadeceiaaGreatDoor.E Go.Proofs.YtcgnhfiadeceiaaGreatDoor.C Go.Proofs.YtcgnhfiadeceiaaGreatDoor.T in
set_option maxRecDepth 100000 in
set_option maxHeartbeats 4000000 in
theorem n1 (p : Int) (v : Value) (all : List (List (List UInt8))) (w : World) (hL : Laid w) (wp : -9223372036854775808 ≤ p ∧ p ≤ 9223372036854775807) (hC : Cols w.heap.size w v all) (hf0 : ¬ Few6 all) :
    Calls Tryz.prog 4 #[.int .i64 p, v] w fun e w' => e = .returned (.bool true) ∧ Below w.heap.size w w' := by
  obtain ⟨A, cap, rfl, _, _⟩ := id hC
  have HF0 := Lib.hid (few6_any (.slice A all.length cap) all w hC false (by simp [hf0]))
  clear hf0 hC
  generalize all.length = na at *
  go_enter Tryz.func4, Tryz.ntmps4
  go_wp2_with (first
    | (go_at_call 9; refine HF0.out.mono ?_; rintro e w' ⟨rfl, rfl⟩)
    | (go_at_call 10; refine (T.works_any _ (hL.next (Below.refl _ _))).mono ?_; rintro e wz ⟨rfl, hBz⟩))
  go_ret
  exact ⟨rfl, hBz⟩

open Go.Proofs.YtcgnhfiadeceiaaGreatDoor.E Go.Proofs.YtcgnhfiadeceiaaGreatDoor.C Go.Proofs.YtcgnhfiadeceiaaGreatDoor.T in
set_option maxRecDepth 100000 in
set_option maxHeartbeats 4000000 in
theorem n2 (p : Int) (v : Value) (all : List (List (List UInt8))) (w : World) (hL : Laid w) (wp : -9223372036854775808 ≤ p ∧ p ≤ 9223372036854775807) (hC : Cols w.heap.size w v all) (hf0 : Few6 all) (hr0 : ¬ RightD p all) :
    Calls Tryz.prog 4 #[.int .i64 p, v] w fun e w' => e = .returned (.bool true) ∧ Below w.heap.size w w' := by
  obtain ⟨A, cap, rfl, _, _⟩ := id hC
  have hlen : all.length ≤ 1000 := by have := hf0.1; omega
  have hcl : ∀ j, j < all.length → (all[j]?.getD []).length ≤ 1000 := fun j hj => by have := (hf0.2 j hj).1; omega
  have hno : ¬ AllS p all := fun h => hr0 h.1
  have HF0 := Lib.hid (few6_any (.slice A all.length cap) all w hC true (by simp [hf0]))
  have HNO := Lib.hid (T.check_no (B := w.heap.size) p (.slice A all.length cap) all w hL (Nat.le_refl _) hC hlen hcl hno)
  have HRT := Lib.hid (fun (U : World) (hU : Below w.heap.size w U) => right6_any (B := w.heap.size) p (.slice A all.length cap) all U hU.size (hC.below hU) hlen false (by simp [hr0]))
  clear hf0 hC hno hr0 hlen hcl
  generalize all.length = na at *
  go_enter Tryz.func4, Tryz.ntmps4
  go_wp2_with (first
    | (go_at_call 9; refine HF0.out.mono ?_; rintro e w' ⟨rfl, rfl⟩)
    | (go_at_call 21; refine HNO.out.mono ?_; rintro e w1 ⟨rfl, hB1⟩)
    | (go_at_call 22; refine (HRT.out _ hB1).mono ?_; rintro e w2 ⟨rfl, hB2⟩; have hB := below_in hB1 hB2)
    | (go_at_call 15; refine (T.num_any _ _).mono ?_; rintro e w' ⟨rfl, rfl⟩)
    | (go_at_call 10; refine (T.works_any _ (hL.next hB)).mono ?_; rintro e wz ⟨rfl, hBz⟩))
  go_ret
  exact ⟨rfl, below_in hB hBz⟩

open Go.Proofs.YtcgnhfiadeceiaaGreatDoor.E Go.Proofs.YtcgnhfiadeceiaaGreatDoor.C Go.Proofs.YtcgnhfiadeceiaaGreatDoor.T in
set_option maxRecDepth 100000 in
set_option maxHeartbeats 4000000 in
theorem n3 (p : Int) (v : Value) (all : List (List (List UInt8))) (w : World) (hL : Laid w) (wp : -9223372036854775808 ≤ p ∧ p ≤ 9223372036854775807) (hC : Cols w.heap.size w v all) (hf0 : Few6 all) (hr0 : RightD p all) (hl : ¬ (all.length : Int) = p + 3) :
    Calls Tryz.prog 4 #[.int .i64 p, v] w fun e w' => e = .returned (.bool true) ∧ Below w.heap.size w w' := by
  obtain ⟨A, cap, rfl, _, _⟩ := id hC
  have hlen : all.length ≤ 1000 := by have := hf0.1; omega
  have hcl : ∀ j, j < all.length → (all[j]?.getD []).length ≤ 1000 := fun j hj => by have := (hf0.2 j hj).1; omega
  have hno : ¬ AllS p all := fun h => hl h.2
  have hpp := prm_bounds hr0.1
  have HF0 := Lib.hid (few6_any (.slice A all.length cap) all w hC true (by simp [hf0]))
  have HNO := Lib.hid (T.check_no (B := w.heap.size) p (.slice A all.length cap) all w hL (Nat.le_refl _) hC hlen hcl hno)
  have HRT := Lib.hid (fun (U : World) (hU : Below w.heap.size w U) => right6_any (B := w.heap.size) p (.slice A all.length cap) all U hU.size (hC.below hU) hlen true (by simp [hr0]))
  clear hf0 hC hno hr0 hlen hcl
  generalize all.length = na at *
  go_enter Tryz.func4, Tryz.ntmps4
  go_wp2_with (first
    | (go_at_call 9; refine HF0.out.mono ?_; rintro e w' ⟨rfl, rfl⟩)
    | (go_at_call 21; refine HNO.out.mono ?_; rintro e w1 ⟨rfl, hB1⟩)
    | (go_at_call 22; refine (HRT.out _ hB1).mono ?_; rintro e w2 ⟨rfl, hB2⟩; have hB := below_in hB1 hB2)
    | (go_at_call 15; refine (T.num_any _ _).mono ?_; rintro e w' ⟨rfl, rfl⟩)
    | (go_at_call 10; refine (T.works_any _ (hL.next hB)).mono ?_; rintro e wz ⟨rfl, hBz⟩))
  go_ret
  exact ⟨rfl, below_in hB hBz⟩

open Go.Proofs.YtcgnhfiadeceiaaGreatDoor.E Go.Proofs.YtcgnhfiadeceiaaGreatDoor.C Go.Proofs.YtcgnhfiadeceiaaGreatDoor.T in
set_option maxRecDepth 100000 in
set_option maxHeartbeats 4000000 in
theorem yes (p : Int) (v : Value) (all : List (List (List UInt8))) (w : World) (hL : Laid w) (wp : -9223372036854775808 ≤ p ∧ p ≤ 9223372036854775807) (hC : Cols w.heap.size w v all) (hf0 : Few6 all) (hok : AllS p all) :
    Calls Tryz.prog 4 #[.int .i64 p, v] w fun e w' => e = .returned (.bool true) ∧ Below w.heap.size w w' := by
  have hpp := prm_bounds hok.1.1
  obtain ⟨P, rfl⟩ : ∃ P : Nat, p = (P : Int) := ⟨p.toNat, by omega⟩
  have hsd := same_d (p := (P : Int)) (all := all)
  have hdo := allS_data hok
  have hst := steps3 hdo
  have hgr := togOk_grid hdo.2.2
  have hf1 := togOk_first hdo.2.2
  have hdl := (dataOk_n hdo).1
  rw [Int.toNat_natCast] at hsd hdo hst hgr hf1 hdl
  obtain ⟨b1, off1, cap, rfl, hcap, hb1, _⟩ := hC.at_ hok.1.2.1
  have hlen : all.length ≤ 1000 := by have := hf0.1; omega
  have hcl : ∀ j, j < all.length → (all[j]?.getD []).length ≤ 1000 := fun j hj => by have := (hf0.2 j hj).1; omega
  have hn : all.length = P + 3 := by have := hok.2; omega
  have HF0 := Lib.hid (few6_any (.slice (some ⟨b1, off1, none⟩) all.length cap) all w hC true (by simp [hf0]))
  have HNO := Lib.hid (T.check_yes (B := w.heap.size) (P : Int) (.slice (some ⟨b1, off1, none⟩) all.length cap) all hok w hL (Nat.le_refl _) hC)
  have HRT := Lib.hid (fun (U : World) (hU : Below w.heap.size w U) => right6_any (B := w.heap.size) (P : Int) (.slice (some ⟨b1, off1, none⟩) all.length cap) all U hU.size (hC.below hU) hlen true (by simp [hok.1]))
  have HEN := Lib.hid (fun (U : World) (hU : Below w.heap.size w U) => encode6_any (B := w.heap.size) 3 (P : Int) ⟨by omega, hok.1.1⟩ (.slice (some ⟨b1, off1, none⟩) P cap) (all.take P) (firstC (all.take P)).length U hU.size (Cols.take_ (hC.below hU) (m := P) (by omega)) (by rw [hdl]; show (P : Int) = P - 0; omega) hgr (by omega))
  rw [show (madeN 3).toNat = 3 from rfl, hst] at HEN
  have hc2 : ∀ j : Nat, ((all.take P ++ starOf (P : Int) (all.take P))[j]?.getD []).length ≤ 1000 := fun j => by
    have hec := star_cells hdo
    rcases Nat.lt_or_ge j P with h | h
    · rw [List.getElem?_append_left (by omega), List.getElem?_take_of_lt h]; exact hcl j (by omega)
    · rw [List.getElem?_append_right (by omega)]
      rcases Nat.lt_or_ge (j - (all.take P).length) 3 with h2 | h2
      · rw [(hec.2 _ h2).1]; omega
      · rw [List.getElem?_eq_none (by rw [hec.1]; exact h2)]; simp
  have hc1 : ∀ j : Nat, (all[j]?.getD []).length ≤ 1000 := fun j => by
    rcases Nat.lt_or_ge j all.length with h | h
    · exact hcl j h
    · rw [List.getElem?_eq_none h]; simp
  have HSM := Lib.hid (fun (U : World) (u : Value) (hU : Below w.heap.size w U) (hu : Cols U.heap.size U u (all.take P ++ starOf (P : Int) (all.take P))) => same6_any (B := w.heap.size) (B' := U.heap.size) (.slice (some ⟨b1, off1, none⟩) all.length cap) u all _ U (hC.below hU) hu hU.size (Nat.le_refl _) hc1 hc2 hlen (by rw [List.length_append, (star_cells hdo).1]; omega))
  rw [hsd] at HSM
  have q1 : (0 : Int) ≤ (P : Int) := by omega
  have q2 : (P : Int) ≤ (cap : Int) := by omega
  have q3 : (P : Int) ≤ (all.length : Int) := by omega
  have q4 : ¬ cap = P := by omega
  have hne : (all.length : Int) = (P : Int) + 3 := by omega
  have HNE := Lib.hid hne
  rw [Int.toNat_natCast] at HNO
  clear hf0 hC hok hlen hcl hc1 hc2 hsd hst hgr hf1 hdl hdo hn hcap hne
  generalize decide (starOf (P : Int) (all.take P) = all.drop P) = d at *
  generalize all.take P ++ starOf (P : Int) (all.take P) = tot at *
  generalize all.length = na at *
  have hne := HNE.out
  have hdd : (d == d) = true := by simp
  go_enter Tryz.func4, Tryz.ntmps4
  go_wp2_with (first
    | (go_at_call 9; refine HF0.out.mono ?_; rintro e w' ⟨rfl, rfl⟩)
    | (go_at_call 21; refine HNO.out.mono ?_; rintro e w1 ⟨rfl, hB1⟩)
    | (go_at_call 22; refine (HRT.out _ hB1).mono ?_; rintro e w2 ⟨rfl, hB2⟩; have hB := below_in hB1 hB2))
  clear hne
  have hS : (fun _ : World => True) w2.drew := trivial
  refine (wpIn_wide (n := 12)).1 (wpIn_mono (region_HF (Q := NoPanic _) (S := (fun _ : World => True)) (by kernel_rfl) ?_) NoPanic.imp)
  refine anyHF_take (i := 0) (d := 38) (v := .bool d) (by kernel_rfl) rfl (by kernel_rfl) (by kernel_rfl) (by kernel_rfl) rfl (fun _ _ _ h => h) ⟨Or.inl ⟨by rfl, fun w hS => by have h0 := hS; go_simp⟩, fun _ => rfl⟩ hS ?_
  simp only [List.setIfInBounds_toArray, List.set_cons_zero, List.set_cons_succ]
  refine anyHF_take (i := 1) (d := 39) (v := .slice (some ⟨b1, off1, none⟩) na cap) (by kernel_rfl) rfl (by kernel_rfl) (by kernel_rfl) (by kernel_rfl) rfl (fun _ _ _ h => h) ⟨Or.inl ⟨by rfl, fun w hS => by have h0 := hS; go_simp⟩, fun _ => rfl⟩ hS ?_
  simp only [List.setIfInBounds_toArray, List.set_cons_zero, List.set_cons_succ]
  refine anyHF_take (i := 2) (d := 40) (v := .int .i64 (P : Int)) (by kernel_rfl) rfl (by kernel_rfl) (by kernel_rfl) (by kernel_rfl) rfl (fun _ _ _ h => h) ⟨Or.inl ⟨by rfl, fun w hS => by have h0 := hS; go_simp⟩, fun _ => rfl⟩ hS ?_
  simp only [List.setIfInBounds_toArray, List.set_cons_zero, List.set_cons_succ]
  refine anyHF_take (i := 4) (d := 42) (v := .slice (some ⟨b1, off1, none⟩) na cap) (by kernel_rfl) rfl (by kernel_rfl) (by kernel_rfl) (by kernel_rfl) rfl (fun _ _ _ h => h) ⟨Or.inl ⟨by rfl, fun w hS => by have h0 := hS; go_simp⟩, fun _ => rfl⟩ hS ?_
  simp only [List.setIfInBounds_toArray, List.set_cons_zero, List.set_cons_succ]
  refine anyHF_take (i := 5) (d := 43) (v := .int .i64 (P : Int)) (by kernel_rfl) rfl (by kernel_rfl) (by kernel_rfl) (by kernel_rfl) rfl (fun _ _ _ h => h) ⟨Or.inl ⟨by rfl, fun w hS => by have h0 := hS; go_simp⟩, fun _ => rfl⟩ hS ?_
  simp only [List.setIfInBounds_toArray, List.set_cons_zero, List.set_cons_succ]
  refine anyHF_take (i := 6) (d := 44) (v := .slice (some ⟨b1, off1, none⟩) P cap) (by kernel_rfl) rfl (by kernel_rfl) (by kernel_rfl) (by kernel_rfl) rfl (fun _ _ _ h => h) ⟨Or.inl ⟨by rfl, fun w hS => by have h0 := hS; go_simp⟩, fun _ => rfl⟩ hS ?_
  simp only [List.setIfInBounds_toArray, List.set_cons_zero, List.set_cons_succ]
  refine anyHF_one (i := 3) (by kernel_rfl) rfl (by kernel_rfl) (by rfl) ?_
  gi_wp2_with fail
  refine ⟨trivial, (callsIn_wide.2 (T.lcode_any _ _)).mono ?_⟩
  rintro e wn ⟨rfl, hBn⟩
  replace hBn := below_undrew hBn
  replace hB := below_in hB hBn
  clear hS
  have hS : (fun _ : World => True) wn := trivial
  gi_wp2
  try (refine ⟨hS, ?_⟩)
  refine anyHF_one (i := 7) (by kernel_rfl) rfl (by kernel_rfl) (by rfl) ?_
  gi_wp2_with fail
  refine ⟨trivial, (callsIn_wide.2 (HEN.out _ hB)).mono ?_⟩
  rintro e wn ⟨u, rfl, hu, hBn⟩
  replace hB := below_in hB hBn
  clear hS
  have hS : (fun _ : World => True) wn := trivial
  gi_wp2
  try (refine ⟨hS, ?_⟩)
  refine anyHF_one (i := 8) (by kernel_rfl) rfl (by kernel_rfl) (by rfl) ?_
  gi_wp2_with fail
  refine ⟨trivial, (callsIn_wide.2 (HSM.out _ u hB hu)).mono ?_⟩
  rintro e wn ⟨rfl, hBn⟩
  replace hB := below_in hB hBn
  clear hS
  have hS : (fun _ : World => True) wn := trivial
  gi_wp2
  try (refine ⟨hS, ?_⟩)
  refine anyHF_take (i := 9) (d := 47) (v := .bool true) (by kernel_rfl) rfl (by kernel_rfl) (by kernel_rfl) (by kernel_rfl) rfl (fun _ _ _ h => h) ⟨Or.inl ⟨by rfl, fun w hS => by have h0 := hS; go_simp⟩, fun _ => rfl⟩ hS ?_
  simp only [List.setIfInBounds_toArray, List.set_cons_zero, List.set_cons_succ]
  refine anyHF_take (i := 10) (d := 48) (v := .bool true) (by kernel_rfl) rfl (by kernel_rfl) (by kernel_rfl) (by kernel_rfl) rfl (fun _ _ _ h => h) ⟨Or.inl ⟨by rfl, fun w hS => by have h0 := hS; go_simp⟩, fun _ => rfl⟩ hS ?_
  simp only [List.setIfInBounds_toArray, List.set_cons_zero, List.set_cons_succ]
  refine anyHF_take (i := 11) (d := 49) (v := .int .i64 0) (by kernel_rfl) rfl (by kernel_rfl) (by kernel_rfl) (by kernel_rfl) rfl (fun _ _ _ h => h) ⟨Or.inl ⟨by rfl, fun w hS => by have h0 := hS; go_simp⟩, fun _ => rfl⟩ hS ?_
  simp only [List.setIfInBounds_toArray, List.set_cons_zero, List.set_cons_succ]
  refine anyHF_one (i := 12) (by kernel_rfl) rfl (by kernel_rfl) (by rfl) ?_
  gi_wp2_with fail
  refine ⟨trivial, (callsIn_wide.2 (T.num_any _ _)).mono ?_⟩
  rintro e wn ⟨rfl, rfl⟩
  gi_wp2
  try (refine ⟨hS, ?_⟩)
  refine anyHF_take (i := 13) (d := 51) (v := .bool true) (by kernel_rfl) rfl (by kernel_rfl) (by kernel_rfl) (by kernel_rfl) rfl (fun _ _ _ h => h) ⟨Or.inl ⟨by rfl, fun w hS => by have h0 := hS; go_simp⟩, fun _ => rfl⟩ hS ?_
  simp only [List.setIfInBounds_toArray, List.set_cons_zero, List.set_cons_succ]
  refine anyHF_take (i := 14) (d := 52) (v := .bool true) (by kernel_rfl) rfl (by kernel_rfl) (by kernel_rfl) (by kernel_rfl) rfl (fun _ _ _ h => h) ⟨Or.inl ⟨by rfl, fun w hS => by have h0 := hS; go_simp⟩, fun _ => rfl⟩ hS ?_
  simp only [List.setIfInBounds_toArray, List.set_cons_zero, List.set_cons_succ]
  refine anyHF_take (i := 15) (d := 53) (v := .bool true) (by kernel_rfl) rfl (by kernel_rfl) (by kernel_rfl) (by kernel_rfl) rfl (fun _ _ _ h => h) ⟨Or.inl ⟨by rfl, fun w hS => by have h0 := hS; go_simp⟩, fun _ => rfl⟩ hS ?_
  simp only [List.setIfInBounds_toArray, List.set_cons_zero, List.set_cons_succ]
  refine anyHF_one (i := 16) (by kernel_rfl) rfl (by kernel_rfl) (by rfl) ?_
  gi_wp2_with fail
  refine ⟨trivial, (callsIn_wide.2 (T.works_any _ (hL.next hB))).mono ?_⟩
  rintro e wn ⟨rfl, hBn⟩
  replace hB := below_in hB hBn
  clear hS
  have hS : (fun _ : World => True) wn := trivial
  gi_wp2
  try (refine ⟨hS, ?_⟩)
  refine anyHF_take (i := 17) (d := 55) (v := .bool true) (by kernel_rfl) rfl (by kernel_rfl) (by kernel_rfl) (by kernel_rfl) rfl (fun _ _ _ h => h) ⟨Or.inl ⟨by rfl, fun w hS => by have h0 := hS; go_simp⟩, fun _ => rfl⟩ hS ?_
  simp only [List.setIfInBounds_toArray, List.set_cons_zero, List.set_cons_succ]
  refine anyHF_one (i := 18) (by kernel_rfl) rfl (by kernel_rfl) (by rfl) ?_
  gi_wp2
  refine anyHF_done (by kernel_rfl) ?_ _
  refine NoPanic.normal ?_
  clear hS
  go_wp2
  go_ret
  exact ⟨rfl, hB⟩

open Go.Proofs.YtcgnhfiadeceiaaGreatDoor.E Go.Proofs.YtcgnhfiadeceiaaGreatDoor.C Go.Proofs.YtcgnhfiadeceiaaGreatDoor.T in
set_option maxRecDepth 100000 in
set_option maxHeartbeats 4000000 in
theorem walk (p : Int) (v : Value) (all : List (List (List UInt8))) (w : World) (hL : Laid w) (wp : -9223372036854775808 ≤ p ∧ p ≤ 9223372036854775807) (hC : Cols w.heap.size w v all) :
    Calls Tryz.prog 4 #[.int .i64 p, v] w fun e w' => e = .returned (.bool true) ∧ Below w.heap.size w w' := by
  by_cases hf0 : Few6 all
  case neg => exact n1 p v all w hL wp hC hf0
  by_cases hr0 : RightD p all
  case neg => exact n2 p v all w hL wp hC hf0 hr0
  by_cases hl : (all.length : Int) = p + 3
  case neg => exact n3 p v all w hL wp hC hf0 hr0 hl
  exact yes p v all w hL wp hC hf0 ⟨hr0, hl⟩

set_option maxRecDepth 100000 in
theorem lifted (os : Os) (started : os.Started) (H : Type) (enc : TypeId × Value → H) :
    ReturnsInHanded {} Tryz.checked os 4 .any (fun w args => (Rows.starChecksSpec.pre enc Tryz.prog Tryz.f4 [] false w args ∧ laidMetH Tryz.prog laidL w) ∧ sizedMet enc Tryz.prog Tryz.f4 (OpenSpec.ofChange Rows.starChecksSpec) false w args)
      (Rows.starChecksSpec.post enc Tryz.prog Tryz.f4 false true false false) := by
  refine returnsInHanded_of_change_and (C := Tryz.checked) (X := fun w _ => laidMetH Tryz.prog laidL w) (fun _ _ _ hh h => h.of_heap hh) own started (by kernel_rfl) Tryz.func4
    (ChangeSpec.witness_shaped (enc := enc) (C := Tryz.checked) (os := os) (X := fun w _ => laidMetH Tryz.prog laidL w) false (World.doorLaid Tryz.prog 200 os) #[.int .i64 0, .slice none 0 0] 8 rfl (World.shaped_of_RefB (by kernel_rfl) (by kernel_rfl)) (by kernel_rfl) (by kernel_rfl) (by kernel_rfl) (door_met os _)) ?_
  intro W base args ds gs before hval0 hW _ _ hL0 _
  have hL := laid_of hL0
  have hval : ∀ (j : Nat) t v, Tryz.f4.params[j]? = some t → args[j]? = some v → Value.okWide Tryz.prog W .any base t v := hval0
  have hW' := hW
  obtain ⟨p, q, hA0, hV, rfl, hfz, hnd⟩ := hW
  have hA : DataW.TrodAll enc Tryz.prog W 0 (fun _ => true) true Tryz.f4.params.toList args.toList ds p := hA0
  rw [Tryz.params4] at hA hval
  obtain ⟨v0, vs0, d0, ds0, p0, q0, hargs, rfl, rfl, h0, r0⟩ := trodAll_cons hA
  obtain ⟨v1, vs1, d1, ds1, p1, q1, rfl, rfl, rfl, h1, r1⟩ := trodAll_cons r0
  obtain ⟨rfl, rfl, rfl⟩ := trodAll_nil r1
  obtain rfl : args = #[v0, v1] := by cases args; simp_all
  obtain ⟨rfl, rfl⟩ := trodVars_none hV
  obtain ⟨a0, rfl, rfl, rfl, w0⟩ := open_int Tryz.underlying3 (hval 0 3 v0 rfl rfl) h0
  have k1 := h1
  have lt1 : ∀ x ∈ p1, x.block < W.heap.size := by obtain ⟨m, hm⟩ := k1; exact DataW.trod_lt m _ _ _ hm
  obtain ⟨a1, len1, cap1, rfl⟩ := okWide_slice Tryz.underlying22 (hval 1 22 v1 rfl rfl)
  obtain ⟨l1, w1⟩ : ∃ css, E.Cols W.heap.size W (.slice a1 len1 cap1) css := by obtain ⟨fuel, hf⟩ := h1; exact E.open_cols hf
  clear hA0 hval0
  simp only [List.append_nil] at hW'
  refine (walk a0 _ l1 W hL (E.wf_i64 w0) w1).mono fun e W' ⟨he, bel⟩ => ?_
  subst he
  exact ⟨_, rfl, _, _, _, [], _, [], hW', trodAll_mk1 (shut_bool Tryz.underlying4 _), (trodAll_cons_mk (shut_int Tryz.underlying3 w0) (trodAll_cons_mk (Below.trod laidOut (by kernel_rfl) (of_decide_eq_true (by kernel_rfl)) k1 bel lt1) trodAll_mk0)), rfl, bel.frame _, fun h => by cases h⟩

theorem over : Rows.starChecksRow.holds Tryz.pinned (OpenSpec.ofChange Rows.starChecksSpec) :=
  OpenClaim.holds_of_wide 4 Tryz.f4 rfl rfl rfl rfl rfl rfl rfl ⟨rfl, rfl, rfl, rfl, rfl⟩ rfl rfl rfl rfl rfl (by kernel_rfl) Tryz.func4 (by kernel_rfl)
    (of_decide_eq_true (by kernel_rfl)) (by unfold Func.isWrapper; first | (rw [if_pos (by decide +kernel)]; kernel_rfl) | (rw [if_neg (by decide +kernel)]; exact ⟨rfl, rfl⟩))
    (fun os started H enc _ => lifted os started H enc)

/-- The tied card: the row, and the tie that is given. -/
theorem starChecks_holds : Rows.StarChecksCardSaid :=
  Claim7.holds_tied_plain_at .later [] [.data, .data] true (true, "7e27223e161f1634c86bf5b961aa3e78ae26ed2f90e841ec1f5ff27ba1a55c1c") true over (fun _ h => by cases h) (by kernel_rfl) (fun _ h => by cases h) starChecks_row_tie rfl ⟨rfl, rfl⟩ (by kernel_rfl) rfl
    (fun f fn hf hfn => by
      obtain rfl : f = 4 := Option.some.inj ((show Tryz.prog.funcNamed "palisade/palisadelaw08.StarChecks" = some 4 by kernel_rfl).symm.trans hf) |>.symm
      obtain rfl : fn = Tryz.f4 := (Option.some.inj (Tryz.func4.symm.trans hfn)).symm
      exact ⟨by kernel_rfl, fun j t ht => by
        rw [Tryz.params4] at ht
        have hm : t ∈ [3, 22] := by simpa using Array.mem_of_getElem? ht
        have hall : ([3, 22].all fun u => !Tryz.prog.wantsStandIn u) = true := by kernel_rfl
        exact (show Tryz.prog.wantsStandIn t = false by simpa using List.all_eq_true.1 hall t hm)⟩)
    (by kernel_rfl)
end Go.Proofs.YtcgnhfiadeceiaaGreatDoor.starChecks
