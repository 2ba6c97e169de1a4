/- The law EvenoddEncodes answers true for every input and leaves its arguments as they were. -/
import Derived.Test.YtggdlklkjnbbjaaGreatDoorSLawKit
import Derived.Test.YtggdlklkjnbbjaaGreatDoorCards
import Derived.Test.YtggdlklkjnbbjaaGreatDoorTie
import Derived.SevenTiedAt
import Derived.Test.YtggdlklkjnbbjaaGreatDoorEG7
namespace Go.Proofs.YtggdlklkjnbbjaaGreatDoor.evenoddEncodes
open Go.ChangeShapes Go.WideShapes Go.ChangeAt Go.RowKit Go.Shelf
set_option linter.unusedVariables false
set_option linter.unusedSimpArgs false
attribute [local go_sem] Oper.semAt_some

open Go.Proofs.YtggdlklkjnbbjaaGreatDoor.E Go.Proofs.YtggdlklkjnbbjaaGreatDoor.C in
set_option maxRecDepth 100000 in
set_option maxHeartbeats 4000000 in
theorem n1 (p : Int) (v : Value) (css : List (List (List UInt8))) (w : World) (hL : Laid w) (wp : -9223372036854775808 ≤ p ∧ p ≤ 9223372036854775807) (hC : Cols w.heap.size w v css) (hf0 : ¬ Few6 css) :
    Calls Tryz.prog 3 #[.int .i64 p, v] w fun e w' => e = .returned (.bool true) ∧ Below w.heap.size w w' := by
  obtain ⟨A, cap, rfl, _, _⟩ := id hC
  have HF0 := Lib.hid (few6_any (.slice A css.length cap) css w hC false (by simp [hf0]))
  clear hf0 hC
  generalize css.length = na at *
  go_enter Tryz.func3, Tryz.ntmps3
  go_wp2_with (first
    | (go_at_call 10; refine HF0.out.mono ?_; rintro e w' ⟨rfl, rfl⟩)
    | (go_at_call 11; refine (E.works_any _ (hL.next (Below.refl _ _))).mono ?_; rintro e wz ⟨rfl, hBz⟩))
  go_ret
  exact ⟨rfl, hBz⟩

open Go.Proofs.YtggdlklkjnbbjaaGreatDoor.E Go.Proofs.YtggdlklkjnbbjaaGreatDoor.C in
set_option maxRecDepth 100000 in
set_option maxHeartbeats 4000000 in
theorem n2 (p : Int) (v : Value) (css : List (List (List UInt8))) (w : World) (hL : Laid w) (wp : -9223372036854775808 ≤ p ∧ p ≤ 9223372036854775807) (hC : Cols w.heap.size w v css) (hf0 : Few6 css) (hr0 : ¬ RightD p css) (hno : ¬ DataOk p css) :
    Calls Tryz.prog 3 #[.int .i64 p, v] w fun e w' => e = .returned (.bool true) ∧ Below w.heap.size w w' := by
  obtain ⟨A, cap, rfl, _, _⟩ := id hC
  have hlen : css.length ≤ 1000 := by have := hf0.1; omega
  have hcl : ∀ j, j < css.length → (css[j]?.getD []).length ≤ 1000 := fun j hj => by have := (hf0.2 j hj).1; omega
  have HF0 := Lib.hid (few6_any (.slice A css.length cap) css w hC true (by simp [hf0]))
  have HAD := Lib.hid (adjuster_no (B := w.heap.size) p (.slice A css.length cap) css w hL (Nat.le_refl _) hC hlen hcl hno)
  have HEC := Lib.hid (fun (U : World) (hU : Below w.heap.size w U) => encode_no (B := w.heap.size) p (.slice A css.length cap) css U (hL.next hU) hU.size (hC.below hU) hlen hcl hno)
  have HRI := Lib.hid (fun (U : World) (hU : Below w.heap.size w U) => right_no (B := w.heap.size) p (.slice A css.length cap) css U (hL.next hU) hU.size (hC.below hU) hlen hcl hr0)
  have HRR := Lib.hid (fun (U : World) (hU : Below w.heap.size w U) => right6_any (B := w.heap.size) p (.slice A css.length cap) css U hU.size (hC.below hU) hlen false (by simp [hr0]))
  have HLR := Lib.hid (fun (U : World) (hU : Below w.heap.size w U) => lright_any p (.slice A css.length cap) css U hU.size (hC.below hU) hlen false (by simp [hno]))
  clear hf0 hC hno hr0 hlen hcl
  generalize css.length = na at *
  go_enter Tryz.func3, Tryz.ntmps3
  go_wp2_with (first
    | (go_at_call 10; refine HF0.out.mono ?_; rintro e w' ⟨rfl, rfl⟩)
    | (go_at_call 12; refine HAD.out.mono ?_; rintro e w1 ⟨rfl, hB1⟩)
    | (go_at_call 13; refine (HEC.out _ hB1).mono ?_; rintro e w2 ⟨rfl, hB2⟩; replace hB2 := below_in hB1 hB2)
    | (go_at_call 14; refine (HRI.out _ hB2).mono ?_; rintro e w3 ⟨rfl, hB3⟩; replace hB3 := below_in hB2 hB3)
    | (go_at_call 15; refine (HRR.out _ hB3).mono ?_; rintro e w4 ⟨rfl, hB4⟩; replace hB4 := below_in hB3 hB4)
    | (go_at_call 16; refine (HLR.out _ hB4).mono ?_; rintro e w5 ⟨rfl, hB5⟩; have hB := below_in hB4 hB5)
    | (go_at_call 17; refine (E.num_any _ _).mono ?_; rintro e w' ⟨rfl, rfl⟩)
    | (go_at_call 11; refine (E.works_any _ (hL.next hB)).mono ?_; rintro e wz ⟨rfl, hBz⟩))
  go_ret
  exact ⟨rfl, below_in hB hBz⟩

open Go.Proofs.YtggdlklkjnbbjaaGreatDoor.E Go.Proofs.YtggdlklkjnbbjaaGreatDoor.C in
set_option maxRecDepth 100000 in
set_option maxHeartbeats 4000000 in
theorem n3 (p : Int) (v : Value) (css : List (List (List UInt8))) (w : World) (hL : Laid w) (wp : -9223372036854775808 ≤ p ∧ p ≤ 9223372036854775807) (hC : Cols w.heap.size w v css) (hf0 : Few6 css) (hr0 : RightD p css) (hno : ¬ DataOk p css) :
    Calls Tryz.prog 3 #[.int .i64 p, v] w fun e w' => e = .returned (.bool true) ∧ Below w.heap.size w w' := by
  obtain ⟨A, cap, rfl, _, _⟩ := id hC
  have hlen : css.length ≤ 1000 := by have := hf0.1; omega
  have hcl : ∀ j, j < css.length → (css[j]?.getD []).length ≤ 1000 := fun j hj => by have := (hf0.2 j hj).1; omega
  have HF0 := Lib.hid (few6_any (.slice A css.length cap) css w hC true (by simp [hf0]))
  have HAD := Lib.hid (adjuster_no (B := w.heap.size) p (.slice A css.length cap) css w hL (Nat.le_refl _) hC hlen hcl hno)
  have HEC := Lib.hid (fun (U : World) (hU : Below w.heap.size w U) => encode_no (B := w.heap.size) p (.slice A css.length cap) css U (hL.next hU) hU.size (hC.below hU) hlen hcl hno)
  have HRI := Lib.hid (fun (U : World) (hU : Below w.heap.size w U) => right_yes (B := w.heap.size) p (.slice A css.length cap) css U (hL.next hU) hU.size (hC.below hU) hlen hr0)
  have HRR := Lib.hid (fun (U : World) (hU : Below w.heap.size w U) => right6_any (B := w.heap.size) p (.slice A css.length cap) css U hU.size (hC.below hU) hlen true (by simp [hr0]))
  have HLR := Lib.hid (fun (U : World) (hU : Below w.heap.size w U) => lright_any p (.slice A css.length cap) css U hU.size (hC.below hU) hlen false (by simp [hno]))
  clear hf0 hC hno hr0 hlen hcl
  generalize css.length = na at *
  go_enter Tryz.func3, Tryz.ntmps3
  go_wp2_with (first
    | (go_at_call 10; refine HF0.out.mono ?_; rintro e w' ⟨rfl, rfl⟩)
    | (go_at_call 12; refine HAD.out.mono ?_; rintro e w1 ⟨rfl, hB1⟩)
    | (go_at_call 13; refine (HEC.out _ hB1).mono ?_; rintro e w2 ⟨rfl, hB2⟩; replace hB2 := below_in hB1 hB2)
    | (go_at_call 14; refine (HRI.out _ hB2).mono ?_; rintro e w3 ⟨rfl, hB3⟩; replace hB3 := below_in hB2 hB3)
    | (go_at_call 15; refine (HRR.out _ hB3).mono ?_; rintro e w4 ⟨rfl, hB4⟩; replace hB4 := below_in hB3 hB4)
    | (go_at_call 16; refine (HLR.out _ hB4).mono ?_; rintro e w5 ⟨rfl, hB5⟩; have hB := below_in hB4 hB5)
    | (go_at_call 17; refine (E.num_any _ _).mono ?_; rintro e w' ⟨rfl, rfl⟩)
    | (go_at_call 11; refine (E.works_any _ (hL.next hB)).mono ?_; rintro e wz ⟨rfl, hBz⟩))
  go_ret
  exact ⟨rfl, below_in hB hBz⟩

open Go.Proofs.YtggdlklkjnbbjaaGreatDoor.E Go.Proofs.YtggdlklkjnbbjaaGreatDoor.C in
set_option maxRecDepth 100000 in
set_option maxHeartbeats 4000000 in
theorem yes (p : Int) (v : Value) (css : List (List (List UInt8))) (w : World) (hL : Laid w) (wp : -9223372036854775808 ≤ p ∧ p ≤ 9223372036854775807) (hC : Cols w.heap.size w v css) (hf0 : Few6 css) (hok : DataOk p css) :
    Calls Tryz.prog 3 #[.int .i64 p, v] w fun e w' => e = .returned (.bool true) ∧ Below w.heap.size w w' := by
  have hpp := prm_bounds hok.1.2
  obtain ⟨P, rfl⟩ : ∃ P : Nat, p = (P : Int) := ⟨p.toNat, by omega⟩
  have hr0 : RightD (P : Int) css := ⟨hok.1.2, hok.2.2⟩
  have hno := hok
  have hst := steps1 hok
  have hla := line_adj hok
  have hgr := togOk_grid hok.2.2
  have hf1 := togOk_first hok.2.2
  have hal := adjOf_len hok
  have hec := enc_cells hok
  have hdl := (dataOk_n hok).1
  rw [Int.toNat_natCast] at hdl
  obtain ⟨A, cap, rfl, _, _⟩ := id hC
  have hlen : css.length ≤ 1000 := by have := hf0.1; omega
  have hcl : ∀ j, j < css.length → (css[j]?.getD []).length ≤ 1000 := fun j hj => by have := (hf0.2 j hj).1; omega
  have HF0 := Lib.hid (few6_any (.slice A css.length cap) css w hC true (by simp [hf0]))
  have HAD := Lib.hid (adjuster_yes (B := w.heap.size) (P : Int) (.slice A css.length cap) css hok w hL (Nat.le_refl _) hC)
  have HEC := Lib.hid (fun (U : World) (hU : Below w.heap.size w U) => encode_yes (B := w.heap.size) (P : Int) (.slice A css.length cap) css hok U (hL.next hU) hU.size (hC.below hU))
  have HRI := Lib.hid (fun (U : World) (hU : Below w.heap.size w U) => right_yes (B := w.heap.size) (P : Int) (.slice A css.length cap) css U (hL.next hU) hU.size (hC.below hU) hlen hr0)
  have HRR := Lib.hid (fun (U : World) (hU : Below w.heap.size w U) => right6_any (B := w.heap.size) (P : Int) (.slice A css.length cap) css U hU.size (hC.below hU) hlen true (by simp [hr0]))
  have HLR := Lib.hid (fun (U : World) (hU : Below w.heap.size w U) => lright_any (P : Int) (.slice A css.length cap) css U hU.size (hC.below hU) hlen true (by simp [hno]))
  have HEN := Lib.hid (fun (U : World) (hU : Below w.heap.size w U) => encode6_any (B := w.heap.size) 1 (P : Int) hok.1 (.slice A css.length cap) css (firstC css).length U hU.size (hC.below hU) (by rw [hdl]; show (P : Int) = P - 0; omega) hgr (by omega))
  rw [show (madeN 1).toNat = 2 from rfl, hst] at HEN
  have HLI := Lib.hid (fun (U : World) (hU : Below w.heap.size w U) => line6_any (B := w.heap.size) 1 (P : Int) ((P : Int) - 1) hok.1 (.slice A css.length cap) css (firstC css).length U hU.size (hC.below hU) (by omega) (by omega) hgr (by omega))
  rw [hdl] at HLI
  rw [hla] at HLI
  have hce : ∀ j : Nat, ((encOf (P : Int) css)[j]?.getD []).length ≤ 1000 := fun j => by
    rcases Nat.lt_or_ge j 2 with h2 | h2
    · rw [(hec.2 _ h2).1]; omega
    · rw [List.getElem?_eq_none (by rw [hec.1]; exact h2)]; simp
  have HSAM := Lib.hid (fun (U : World) (x y : Value) (B1 B2 : Nat) (h1 : B1 ≤ U.heap.size) (h2 : B2 ≤ U.heap.size) (hx : Cols B1 U x (encOf (P : Int) css)) (hy : Cols B2 U y (encOf (P : Int) css)) => same6_any (B := B1) (B' := B2) x y _ _ U hx hy h1 h2 hce hce (by rw [hec.1]; omega) (by rw [hec.1]; omega))
  simp only [decide_true] at HSAM
  have HTL : Hid ((css ++ encOf (P : Int) css).length = P + 2) := by unfold Hid; rw [List.length_append, hdl, hec.1]
  have HTD : Hid ((css ++ encOf (P : Int) css).drop P = encOf (P : Int) css) := by unfold Hid; rw [← hdl, List.drop_left]
  have HAL := Lib.hid hal
  have HEL := Lib.hid hec.1
  have hP : 3 ≤ P := by omega
  clear hf0 hC hok hno hr0 hlen hcl hce hst hla hgr hf1 hal hec
  rw [hdl] at HF0 HAD HEC HRI HRR HLR HEN ⊢
  clear hdl
  generalize css ++ encOf (P : Int) css = tot at *
  generalize encOf (P : Int) css = en at *
  generalize adjOf (P : Int) css = adj at *
  generalize (firstC css).length = l9 at *
  have q1 : IntKind.i64.wrap ((P : Int) - 1) = (P : Int) - 1 := by rw [IntWalk.i64_in _ (by omega)]
  have q2 : wrap64 ((P : Int) - 1) = (P : Int) - 1 := IntWalk.wrap64_in _ (by omega)
  go_enter Tryz.func3, Tryz.ntmps3
  go_wp2_with (first
    | (go_at_call 10; refine HF0.out.mono ?_; rintro e w' ⟨rfl, rfl⟩)
    | (go_at_call 12; refine HAD.out.mono ?_; rintro e w1 ⟨s, rfl, hs, hB1⟩; obtain ⟨As, cs, hse, _, _⟩ := id hs; rw [HAL.out] at hse; subst hse)
    | (go_at_call 13; refine (HEC.out _ hB1).mono ?_; rintro e w2 ⟨le, rfl, he, hB2'⟩; have hs2 := hs.below hB2'; have hB2 := below_in hB1 hB2'; obtain ⟨be, oe, ce, hle, _, _, _⟩ := he.at_ (by have := HEL.out; omega); rw [HEL.out] at hle; subst hle)
    | (go_at_call 14; refine (HRI.out _ hB2).mono ?_; rintro e w3 ⟨rfl, hB3'⟩; have hB3 := below_in hB2 hB3')
    | (go_at_call 15; refine (HRR.out _ hB3).mono ?_; rintro e w4 ⟨rfl, hB4'⟩; have hB4 := below_in hB3 hB4')
    | (go_at_call 16; refine (HLR.out _ hB4).mono ?_; rintro e w5 ⟨rfl, hB5'⟩; have hB5 := below_in hB4 hB5')
    | (go_at_call 19; refine (lcode_any _ _).mono ?_; rintro e w6 ⟨rfl, hB6'⟩; have hB6 := below_in hB5 hB6')
    | (go_at_call 18; refine (HEN.out _ hB6).mono ?_; rintro e w7 ⟨u, rfl, ht, hB7'⟩; have hB := below_in hB6 hB7'; obtain ⟨bt, ot, ct, hue, hct, _, _⟩ := ht.at_ (by have := HTL.out; omega)))
  have h27 := below_in hB3' (below_in hB4' (below_in hB5' (below_in hB6' hB7')))
  have h17 := below_in hB2' h27
  have hW := hB
  have HSS := Lib.hid (fun (V : World) (hV : Below w7.heap.size w7 V) => (run_txt V (hs.below (below_in h17 hV)) : (fun V : World => (convert 25 9 (.slice As l9 cs)).run Tryz.prog V = .ok (.string (text adj)) V) V))
  have hT := HTL.out
  have HSM := Lib.hid (fun (V : World) (hV : Below w7.heap.size w7 V) => HSAM.out V (.slice (some ⟨be, oe, none⟩) 2 ce) (.slice (some ⟨bt, ot + P, none⟩) (tot.length - P) (ct - P)) w2.heap.size w7.heap.size (Nat.le_trans h27.size hV.size) hV.size (he.below (below_in h27 hV)) (by have h := Cols.drop_ (hue ▸ ht.below hV) (m := P) (by omega); rwa [HTD.out] at h))
  subst hue
  generalize tot.length = T at *
  have HTT := Lib.hid hT
  have t1 : (0 : Int) ≤ (P : Int) := by omega
  have t3 : (P : Int) ≤ (T : Int) := by omega
  have t4 : (T : Int) ≤ (ct : Int) := by omega
  have t5 : ¬ ct = P := by omega
  have t6 : (P : Int) ≤ (ct : Int) := by omega
  clear hs he ht h17 h27 hT hs2 hB hB1 hB2 hB3 hB4 hB5 hB6
  have hB := Below.refl w7.heap.size w7
  have hS : (fun V : World => (convert 25 9 (.slice As l9 cs)).run Tryz.prog V = .ok (.string (text adj)) V) w7.drew := HSS.out _ hB.drew
  refine (wpIn_wide (n := 12)).1 (wpIn_mono (region_HF (Q := NoPanic _) (S := (fun V : World => (convert 25 9 (.slice As l9 cs)).run Tryz.prog V = .ok (.string (text adj)) V)) (by kernel_rfl) ?_) NoPanic.imp)
  refine anyHF_take (i := 0) (d := 62) (v := .slice As l9 cs) (by kernel_rfl) rfl (by kernel_rfl) (by kernel_rfl) (by kernel_rfl) rfl (fun _ _ _ h => h) ⟨Or.inl ⟨by rfl, fun w hS => by have h0 := hS; go_simp⟩, fun _ => rfl⟩ hS ?_
  simp only [List.setIfInBounds_toArray, List.set_cons_zero, List.set_cons_succ]
  refine anyHF_take (i := 1) (d := 63) (v := .string (text adj)) (by kernel_rfl) rfl (by kernel_rfl) (by kernel_rfl) (by kernel_rfl) rfl (fun _ _ _ h => h) ⟨Or.inl ⟨by rfl, fun w hS => by have h0 := hS; go_simp⟩, fun _ => rfl⟩ hS ?_
  simp only [List.setIfInBounds_toArray, List.set_cons_zero, List.set_cons_succ]
  refine anyHF_take (i := 2) (d := 64) (v := .int .i64 (P : Int)) (by kernel_rfl) rfl (by kernel_rfl) (by kernel_rfl) (by kernel_rfl) rfl (fun _ _ _ h => h) ⟨Or.inl ⟨by rfl, fun w hS => by have h0 := hS; go_simp⟩, fun _ => rfl⟩ hS ?_
  simp only [List.setIfInBounds_toArray, List.set_cons_zero, List.set_cons_succ]
  refine anyHF_take (i := 4) (d := 66) (v := .slice A P cap) (by kernel_rfl) rfl (by kernel_rfl) (by kernel_rfl) (by kernel_rfl) rfl (fun _ _ _ h => h) ⟨Or.inl ⟨by rfl, fun w hS => by have h0 := hS; go_simp⟩, fun _ => rfl⟩ hS ?_
  simp only [List.setIfInBounds_toArray, List.set_cons_zero, List.set_cons_succ]
  refine anyHF_take (i := 5) (d := 67) (v := .int .i64 (P : Int)) (by kernel_rfl) rfl (by kernel_rfl) (by kernel_rfl) (by kernel_rfl) rfl (fun _ _ _ h => h) ⟨Or.inl ⟨by rfl, fun w hS => by have h0 := hS; go_simp⟩, fun _ => rfl⟩ hS ?_
  simp only [List.setIfInBounds_toArray, List.set_cons_zero, List.set_cons_succ]
  refine anyHF_take (i := 6) (d := 68) (v := .int .i64 ((P : Int) - 1)) (by kernel_rfl) rfl (by kernel_rfl) (by kernel_rfl) (by kernel_rfl) rfl (fun _ _ _ h => h) ⟨Or.inl ⟨by rfl, fun w hS => by have h0 := hS; go_simp⟩, fun _ => rfl⟩ hS ?_
  simp only [List.setIfInBounds_toArray, List.set_cons_zero, List.set_cons_succ]
  refine anyHF_one (i := 3) (by kernel_rfl) rfl (by kernel_rfl) (by rfl) ?_
  gi_wp2_with fail
  refine ⟨trivial, (callsIn_wide.2 (lcode_any _ _)).mono ?_⟩
  rintro e wn ⟨rfl, hBn⟩
  replace hBn := below_undrew hBn
  replace hB := below_in hB hBn
  clear hS
  have hS : (fun V : World => (convert 25 9 (.slice As l9 cs)).run Tryz.prog V = .ok (.string (text adj)) V) wn := HSS.out _ hB
  gi_wp2
  try (refine ⟨hS, ?_⟩)
  refine anyHF_one (i := 7) (by kernel_rfl) rfl (by kernel_rfl) (by rfl) ?_
  gi_wp2_with fail
  refine ⟨trivial, (callsIn_wide.2 (HLI.out _ (below_in hW hB))).mono ?_⟩
  rintro e wn ⟨u, rfl, hu, hBn⟩
  replace hB := below_in hB hBn
  have t2 := run_txt wn hu
  clear hS
  have hS : (fun V : World => (convert 25 9 (.slice As l9 cs)).run Tryz.prog V = .ok (.string (text adj)) V) wn := HSS.out _ hB
  gi_wp2
  try (refine ⟨hS, ?_⟩)
  refine anyHF_one (i := 8) (by kernel_rfl) rfl (by kernel_rfl) (by rfl) ?_
  gi_wp2
  try (refine ⟨hS, ?_⟩)
  refine anyHF_take (i := 9) (d := 71) (v := .bool true) (by kernel_rfl) rfl (by kernel_rfl) (by kernel_rfl) (by kernel_rfl) rfl (fun _ _ _ h => h) ⟨Or.inl ⟨by rfl, fun w hS => by have h0 := hS; go_simp⟩, fun _ => rfl⟩ hS ?_
  simp only [List.setIfInBounds_toArray, List.set_cons_zero, List.set_cons_succ]
  refine anyHF_take (i := 10) (d := 72) (v := .bool true) (by kernel_rfl) rfl (by kernel_rfl) (by kernel_rfl) (by kernel_rfl) rfl (fun _ _ _ h => h) ⟨Or.inl ⟨by rfl, fun w hS => by have h0 := hS; go_simp⟩, fun _ => rfl⟩ hS ?_
  simp only [List.setIfInBounds_toArray, List.set_cons_zero, List.set_cons_succ]
  refine anyHF_take (i := 11) (d := 73) (v := .int .i64 0) (by kernel_rfl) rfl (by kernel_rfl) (by kernel_rfl) (by kernel_rfl) rfl (fun _ _ _ h => h) ⟨Or.inl ⟨by rfl, fun w hS => by have h0 := hS; go_simp⟩, fun _ => rfl⟩ hS ?_
  simp only [List.setIfInBounds_toArray, List.set_cons_zero, List.set_cons_succ]
  refine anyHF_one (i := 12) (by kernel_rfl) rfl (by kernel_rfl) (by rfl) ?_
  gi_wp2_with fail
  refine ⟨trivial, (callsIn_wide.2 (E.num_any _ _)).mono ?_⟩
  rintro e wn ⟨rfl, rfl⟩
  gi_wp2
  try (refine ⟨hS, ?_⟩)
  refine anyHF_take (i := 13) (d := 75) (v := .bool true) (by kernel_rfl) rfl (by kernel_rfl) (by kernel_rfl) (by kernel_rfl) rfl (fun _ _ _ h => h) ⟨Or.inl ⟨by rfl, fun w hS => by have h0 := hS; go_simp⟩, fun _ => rfl⟩ hS ?_
  simp only [List.setIfInBounds_toArray, List.set_cons_zero, List.set_cons_succ]
  refine anyHF_take (i := 14) (d := 76) (v := .bool true) (by kernel_rfl) rfl (by kernel_rfl) (by kernel_rfl) (by kernel_rfl) rfl (fun _ _ _ h => h) ⟨Or.inl ⟨by rfl, fun w hS => by have h0 := hS; go_simp⟩, fun _ => rfl⟩ hS ?_
  simp only [List.setIfInBounds_toArray, List.set_cons_zero, List.set_cons_succ]
  refine anyHF_take (i := 15) (d := 77) (v := .bool true) (by kernel_rfl) rfl (by kernel_rfl) (by kernel_rfl) (by kernel_rfl) rfl (fun _ _ _ h => h) ⟨Or.inl ⟨by rfl, fun w hS => by have h0 := hS; go_simp⟩, fun _ => rfl⟩ hS ?_
  simp only [List.setIfInBounds_toArray, List.set_cons_zero, List.set_cons_succ]
  refine anyHF_take (i := 16) (d := 78) (v := .slice (some ⟨be, oe, none⟩) 2 ce) (by kernel_rfl) rfl (by kernel_rfl) (by kernel_rfl) (by kernel_rfl) rfl (fun _ _ _ h => h) ⟨Or.inl ⟨by rfl, fun w hS => by have h0 := hS; go_simp⟩, fun _ => rfl⟩ hS ?_
  simp only [List.setIfInBounds_toArray, List.set_cons_zero, List.set_cons_succ]
  refine anyHF_take (i := 17) (d := 79) (v := .slice (some ⟨bt, ot, none⟩) T ct) (by kernel_rfl) rfl (by kernel_rfl) (by kernel_rfl) (by kernel_rfl) rfl (fun _ _ _ h => h) ⟨Or.inl ⟨by rfl, fun w hS => by have h0 := hS; go_simp⟩, fun _ => rfl⟩ hS ?_
  simp only [List.setIfInBounds_toArray, List.set_cons_zero, List.set_cons_succ]
  refine anyHF_take (i := 18) (d := 80) (v := .int .i64 (P : Int)) (by kernel_rfl) rfl (by kernel_rfl) (by kernel_rfl) (by kernel_rfl) rfl (fun _ _ _ h => h) ⟨Or.inl ⟨by rfl, fun w hS => by have h0 := hS; go_simp⟩, fun _ => rfl⟩ hS ?_
  simp only [List.setIfInBounds_toArray, List.set_cons_zero, List.set_cons_succ]
  refine anyHF_take (i := 19) (d := 81) (v := .slice (some ⟨bt, ot + P, none⟩) (T - P) (ct - P)) (by kernel_rfl) rfl (by kernel_rfl) (by kernel_rfl) (by kernel_rfl) rfl (fun _ _ _ h => h) ⟨Or.inl ⟨by rfl, fun w hS => by have h0 := hS; go_simp⟩, fun _ => rfl⟩ hS ?_
  simp only [List.setIfInBounds_toArray, List.set_cons_zero, List.set_cons_succ]
  refine anyHF_one (i := 20) (by kernel_rfl) rfl (by kernel_rfl) (by rfl) ?_
  gi_wp2_with fail
  refine ⟨trivial, (callsIn_wide.2 (HSM.out _ hB)).mono ?_⟩
  rintro e wn ⟨rfl, hBn⟩
  replace hB := below_in hB hBn
  clear hS
  have hS : (fun V : World => (convert 25 9 (.slice As l9 cs)).run Tryz.prog V = .ok (.string (text adj)) V) wn := HSS.out _ hB
  gi_wp2
  try (refine ⟨hS, ?_⟩)
  refine anyHF_take (i := 21) (d := 83) (v := .bool true) (by kernel_rfl) rfl (by kernel_rfl) (by kernel_rfl) (by kernel_rfl) rfl (fun _ _ _ h => h) ⟨Or.inl ⟨by rfl, fun w hS => by have h0 := hS; go_simp⟩, fun _ => rfl⟩ hS ?_
  simp only [List.setIfInBounds_toArray, List.set_cons_zero, List.set_cons_succ]
  refine anyHF_take (i := 22) (d := 84) (v := .bool true) (by kernel_rfl) rfl (by kernel_rfl) (by kernel_rfl) (by kernel_rfl) rfl (fun _ _ _ h => h) ⟨Or.inl ⟨by rfl, fun w hS => by have h0 := hS; go_simp⟩, fun _ => rfl⟩ hS ?_
  simp only [List.setIfInBounds_toArray, List.set_cons_zero, List.set_cons_succ]
  refine anyHF_take (i := 23) (d := 85) (v := .int .i64 0) (by kernel_rfl) rfl (by kernel_rfl) (by kernel_rfl) (by kernel_rfl) rfl (fun _ _ _ h => h) ⟨Or.inl ⟨by rfl, fun w hS => by have h0 := hS; go_simp⟩, fun _ => rfl⟩ hS ?_
  simp only [List.setIfInBounds_toArray, List.set_cons_zero, List.set_cons_succ]
  refine anyHF_one (i := 24) (by kernel_rfl) rfl (by kernel_rfl) (by rfl) ?_
  gi_wp2_with fail
  refine ⟨trivial, (callsIn_wide.2 (E.num_any _ _)).mono ?_⟩
  rintro e wn ⟨rfl, rfl⟩
  gi_wp2
  try (refine ⟨hS, ?_⟩)
  refine anyHF_take (i := 25) (d := 87) (v := .bool true) (by kernel_rfl) rfl (by kernel_rfl) (by kernel_rfl) (by kernel_rfl) rfl (fun _ _ _ h => h) ⟨Or.inl ⟨by rfl, fun w hS => by have h0 := hS; go_simp⟩, fun _ => rfl⟩ hS ?_
  simp only [List.setIfInBounds_toArray, List.set_cons_zero, List.set_cons_succ]
  refine anyHF_take (i := 26) (d := 88) (v := .bool true) (by kernel_rfl) rfl (by kernel_rfl) (by kernel_rfl) (by kernel_rfl) rfl (fun _ _ _ h => h) ⟨Or.inl ⟨by rfl, fun w hS => by have h0 := hS; go_simp⟩, fun _ => rfl⟩ hS ?_
  simp only [List.setIfInBounds_toArray, List.set_cons_zero, List.set_cons_succ]
  refine anyHF_take (i := 27) (d := 89) (v := .bool true) (by kernel_rfl) rfl (by kernel_rfl) (by kernel_rfl) (by kernel_rfl) rfl (fun _ _ _ h => h) ⟨Or.inl ⟨by rfl, fun w hS => by have h0 := hS; go_simp⟩, fun _ => rfl⟩ hS ?_
  simp only [List.setIfInBounds_toArray, List.set_cons_zero, List.set_cons_succ]
  refine anyHF_one (i := 28) (by kernel_rfl) rfl (by kernel_rfl) (by rfl) ?_
  gi_wp2_with fail
  refine ⟨trivial, (callsIn_wide.2 (E.works_any _ (hL.next (below_in hW hB)))).mono ?_⟩
  rintro e wn ⟨rfl, hBn⟩
  replace hB := below_in hB hBn
  clear hS
  have hS : (fun V : World => (convert 25 9 (.slice As l9 cs)).run Tryz.prog V = .ok (.string (text adj)) V) wn := HSS.out _ hB
  gi_wp2
  try (refine ⟨hS, ?_⟩)
  refine anyHF_take (i := 29) (d := 91) (v := .bool true) (by kernel_rfl) rfl (by kernel_rfl) (by kernel_rfl) (by kernel_rfl) rfl (fun _ _ _ h => h) ⟨Or.inl ⟨by rfl, fun w hS => by have h0 := hS; go_simp⟩, fun _ => rfl⟩ hS ?_
  simp only [List.setIfInBounds_toArray, List.set_cons_zero, List.set_cons_succ]
  refine anyHF_one (i := 30) (by kernel_rfl) rfl (by kernel_rfl) (by rfl) ?_
  gi_wp2
  refine anyHF_done (by kernel_rfl) ?_ _
  refine NoPanic.normal ?_
  clear hS
  go_wp2
  go_ret
  exact ⟨rfl, below_in hW hB⟩

open Go.Proofs.YtggdlklkjnbbjaaGreatDoor.E Go.Proofs.YtggdlklkjnbbjaaGreatDoor.C in
set_option maxRecDepth 100000 in
set_option maxHeartbeats 4000000 in
theorem walk (p : Int) (v : Value) (css : List (List (List UInt8))) (w : World) (hL : Laid w) (wp : -9223372036854775808 ≤ p ∧ p ≤ 9223372036854775807) (hC : Cols w.heap.size w v css) :
    Calls Tryz.prog 3 #[.int .i64 p, v] w fun e w' => e = .returned (.bool true) ∧ Below w.heap.size w w' := by
  by_cases hf0 : Few6 css
  case neg => exact n1 p v css w hL wp hC hf0
  by_cases hok : DataOk p css
  case pos => exact yes p v css w hL wp hC hf0 hok
  by_cases hr0 : RightD p css
  case neg => exact n2 p v css w hL wp hC hf0 hr0 hok
  exact n3 p v css w hL wp hC hf0 hr0 hok

set_option maxRecDepth 100000 in
theorem lifted (os : Os) (started : os.Started) (H : Type) (enc : TypeId × Value → H) :
    ReturnsInHanded {} Tryz.checked os 3 .any (fun w args => (Rows.evenoddEncodesSpec.pre enc Tryz.prog Tryz.f3 [] false w args ∧ laidMetH Tryz.prog laidL w) ∧ sizedMet enc Tryz.prog Tryz.f3 (OpenSpec.ofChange Rows.evenoddEncodesSpec) false w args)
      (Rows.evenoddEncodesSpec.post enc Tryz.prog Tryz.f3 false true false false) := by
  refine returnsInHanded_of_change_and (C := Tryz.checked) (X := fun w _ => laidMetH Tryz.prog laidL w) (fun _ _ _ hh h => h.of_heap hh) own started (by kernel_rfl) Tryz.func3
    (ChangeSpec.witness_shaped (enc := enc) (C := Tryz.checked) (os := os) (X := fun w _ => laidMetH Tryz.prog laidL w) false (World.doorLaid Tryz.prog 200 os) #[.int .i64 0, .slice none 0 0] 8 rfl (World.shaped_of_RefB (by kernel_rfl) (by kernel_rfl)) (by kernel_rfl) (by kernel_rfl) (by kernel_rfl) (door_met os _)) ?_
  intro W base args ds gs before hval0 hW _ _ hL0 _
  have hL := laid_of hL0
  have hval : ∀ (j : Nat) t v, Tryz.f3.params[j]? = some t → args[j]? = some v → Value.okWide Tryz.prog W .any base t v := hval0
  have hW' := hW
  obtain ⟨p, q, hA0, hV, rfl, hfz, hnd⟩ := hW
  have hA : DataW.TrodAll enc Tryz.prog W 0 (fun _ => true) true Tryz.f3.params.toList args.toList ds p := hA0
  rw [Tryz.params3] at hA hval
  obtain ⟨v0, vs0, d0, ds0, p0, q0, hargs, rfl, rfl, h0, r0⟩ := trodAll_cons hA
  obtain ⟨v1, vs1, d1, ds1, p1, q1, rfl, rfl, rfl, h1, r1⟩ := trodAll_cons r0
  obtain ⟨rfl, rfl, rfl⟩ := trodAll_nil r1
  obtain rfl : args = #[v0, v1] := by cases args; simp_all
  obtain ⟨rfl, rfl⟩ := trodVars_none hV
  obtain ⟨a0, rfl, rfl, rfl, w0⟩ := open_int Tryz.underlying3 (hval 0 3 v0 rfl rfl) h0
  have k1 := h1
  have lt1 : ∀ x ∈ p1, x.block < W.heap.size := by obtain ⟨m, hm⟩ := k1; exact DataW.trod_lt m _ _ _ hm
  obtain ⟨a1, len1, cap1, rfl⟩ := okWide_slice Tryz.underlying22 (hval 1 22 v1 rfl rfl)
  obtain ⟨l1, w1⟩ : ∃ css, E.Cols W.heap.size W (.slice a1 len1 cap1) css := by obtain ⟨fuel, hf⟩ := h1; exact E.open_cols hf
  clear hA0 hval0
  simp only [List.append_nil] at hW'
  refine (walk a0 _ l1 W hL (E.wf_i64 w0) w1).mono fun e W' ⟨he, bel⟩ => ?_
  subst he
  exact ⟨_, rfl, _, _, _, [], _, [], hW', trodAll_mk1 (shut_bool Tryz.underlying4 _), (trodAll_cons_mk (shut_int Tryz.underlying3 w0) (trodAll_cons_mk (Below.trod laidOut (by kernel_rfl) (of_decide_eq_true (by kernel_rfl)) k1 bel lt1) trodAll_mk0)), rfl, bel.frame _, fun h => by cases h⟩

theorem over : Rows.evenoddEncodesRow.holds Tryz.pinned (OpenSpec.ofChange Rows.evenoddEncodesSpec) :=
  OpenClaim.holds_of_wide 3 Tryz.f3 rfl rfl rfl rfl rfl rfl rfl ⟨rfl, rfl, rfl, rfl, rfl⟩ rfl rfl rfl rfl rfl (by kernel_rfl) Tryz.func3 (by kernel_rfl)
    (of_decide_eq_true (by kernel_rfl)) (by unfold Func.isWrapper; first | (rw [if_pos (by decide +kernel)]; kernel_rfl) | (rw [if_neg (by decide +kernel)]; exact ⟨rfl, rfl⟩))
    (fun os started H enc _ => lifted os started H enc)

/-- The tied card: the row, and the tie that is given. -/
theorem evenoddEncodes_holds : Rows.EvenoddEncodesCardSaid :=
  Claim7.holds_tied_plain_at .later [] [.data, .data] true (true, "57ec92c1cad9246a878d60c07de9d5f93b7ace9698c7d1eeaf89e47cae761c73") true over (fun _ h => by cases h) (by kernel_rfl) (fun _ h => by cases h) evenoddEncodes_row_tie rfl ⟨rfl, rfl⟩ (by kernel_rfl) rfl
    (fun f fn hf hfn => by
      obtain rfl : f = 3 := Option.some.inj ((show Tryz.prog.funcNamed "palisade/palisadelaw06.EvenoddEncodes" = some 3 by kernel_rfl).symm.trans hf) |>.symm
      obtain rfl : fn = Tryz.f3 := (Option.some.inj (Tryz.func3.symm.trans hfn)).symm
      exact ⟨by kernel_rfl, fun j t ht => by
        rw [Tryz.params3] at ht
        have hm : t ∈ [3, 22] := by simpa using Array.mem_of_getElem? ht
        have hall : ([3, 22].all fun u => !Tryz.prog.wantsStandIn u) = true := by kernel_rfl
        exact (show Tryz.prog.wantsStandIn t = false by simpa using List.all_eq_true.1 hall t hm)⟩)
    (by kernel_rfl)
end Go.Proofs.YtggdlklkjnbbjaaGreatDoor.evenoddEncodes
