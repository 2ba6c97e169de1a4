/- The law StarEncodes answers true for every input and leaves its arguments as they were. -/
import Derived.Test.YtcgnhfiadeceiaaGreatDoorJSA
import Derived.Test.YtcgnhfiadeceiaaGreatDoorCards
import Derived.Test.YtcgnhfiadeceiaaGreatDoorTie
import Derived.SevenTiedAt
import Derived.Test.YtcgnhfiadeceiaaGreatDoorJG16
import Derived.Test.YtcgnhfiadeceiaaGreatDoorJG12
namespace Go.Proofs.YtcgnhfiadeceiaaGreatDoor.starEncodes
open Go.ChangeShapes Go.WideShapes Go.ChangeAt Go.RowKit Go.Shelf
set_option linter.unusedVariables false
set_option linter.unusedSimpArgs false
attribute [local go_sem] Oper.semAt_some

open Go.Proofs.YtcgnhfiadeceiaaGreatDoor.E Go.Proofs.YtcgnhfiadeceiaaGreatDoor.C Go.Proofs.YtcgnhfiadeceiaaGreatDoor.T in
set_option maxRecDepth 100000 in
set_option maxHeartbeats 4000000 in
theorem n1 (p : Int) (v : Value) (css : List (List (List UInt8))) (w : World) (hL : Laid w) (wp : -9223372036854775808 ≤ p ∧ p ≤ 9223372036854775807) (hC : Cols w.heap.size w v css) (hf0 : ¬ Few6 css) :
    Calls Tryz.prog 3 #[.int .i64 p, v] w fun e w' => e = .returned (.bool true) ∧ Below w.heap.size w w' := by
  obtain ⟨A, cap, rfl, _, _⟩ := id hC
  have HF0 := Lib.hid (few6_any (.slice A css.length cap) css w hC false (by simp [hf0]))
  clear hf0 hC
  generalize css.length = na at *
  go_enter Tryz.func3, Tryz.ntmps3
  go_wp2_with (first
    | (go_at_call 9; refine HF0.out.mono ?_; rintro e w' ⟨rfl, rfl⟩)
    | (go_at_call 10; refine (T.works_any _ (hL.next (Below.refl _ _))).mono ?_; rintro e wz ⟨rfl, hBz⟩))
  go_ret
  exact ⟨rfl, hBz⟩

open Go.Proofs.YtcgnhfiadeceiaaGreatDoor.E Go.Proofs.YtcgnhfiadeceiaaGreatDoor.C Go.Proofs.YtcgnhfiadeceiaaGreatDoor.T in
set_option maxRecDepth 100000 in
set_option maxHeartbeats 4000000 in
theorem n2 (p : Int) (v : Value) (css : List (List (List UInt8))) (w : World) (hL : Laid w) (wp : -9223372036854775808 ≤ p ∧ p ≤ 9223372036854775807) (hC : Cols w.heap.size w v css) (hf0 : Few6 css) (hno : ¬ DataOk p css) :
    Calls Tryz.prog 3 #[.int .i64 p, v] w fun e w' => e = .returned (.bool true) ∧ Below w.heap.size w w' := by
  obtain ⟨A, cap, rfl, _, _⟩ := id hC
  have hlen : css.length ≤ 1000 := by have := hf0.1; omega
  have hcl : ∀ j, j < css.length → (css[j]?.getD []).length ≤ 1000 := fun j hj => by have := (hf0.2 j hj).1; omega
  have HF0 := Lib.hid (few6_any (.slice A css.length cap) css w hC true (by simp [hf0]))
  have HEC := Lib.hid (fun (U : World) (hU : Below w.heap.size w U) => T.encode_no (B := w.heap.size) p (.slice A css.length cap) css U (hL.next hU) hU.size (hC.below hU) hlen hcl hno)
  have HAD := Lib.hid (fun (U : World) (hU : Below w.heap.size w U) => T.adjuster_no (B := w.heap.size) p (.slice A css.length cap) css U (hL.next hU) hU.size (hC.below hU) hlen hcl hno)
  have HOV := Lib.hid (fun (U : World) (hU : Below w.heap.size w U) => T.over_no (B := w.heap.size) p (.slice A css.length cap) css U (hL.next hU) hU.size (hC.below hU) hlen hcl hno)
  have HLR := Lib.hid (fun (U : World) (hU : Below w.heap.size w U) => T.lright_any p (.slice A css.length cap) css U hU.size (hC.below hU) hlen false (by simp [hno]))
  clear hf0 hC hno hlen hcl
  generalize css.length = na at *
  go_enter Tryz.func3, Tryz.ntmps3
  go_wp2_with (first
    | (go_at_call 9; refine HF0.out.mono ?_; rintro e w' ⟨rfl, rfl⟩)
    | (go_at_call 11; refine (HEC.out _ (Below.refl _ _)).mono ?_; rintro e w1 ⟨rfl, hB1⟩)
    | (go_at_call 12; refine (HAD.out _ hB1).mono ?_; rintro e w2 ⟨rfl, hB2⟩; replace hB2 := below_in hB1 hB2)
    | (go_at_call 13; refine (HOV.out _ hB2).mono ?_; rintro e w3 ⟨rfl, hB3⟩; replace hB3 := below_in hB2 hB3)
    | (go_at_call 14; refine (HLR.out _ hB3).mono ?_; rintro e w4 ⟨rfl, hB4⟩; have hB := below_in hB3 hB4)
    | (go_at_call 15; refine (T.num_any _ _).mono ?_; rintro e w' ⟨rfl, rfl⟩)
    | (go_at_call 10; refine (T.works_any _ (hL.next hB)).mono ?_; rintro e wz ⟨rfl, hBz⟩))
  go_ret
  exact ⟨rfl, below_in hB hBz⟩

open Go.Proofs.YtcgnhfiadeceiaaGreatDoor.E Go.Proofs.YtcgnhfiadeceiaaGreatDoor.C Go.Proofs.YtcgnhfiadeceiaaGreatDoor.T in
set_option maxRecDepth 100000 in
set_option maxHeartbeats 4000000 in
theorem yes (p : Int) (v : Value) (css : List (List (List UInt8))) (w : World) (hL : Laid w) (wp : -9223372036854775808 ≤ p ∧ p ≤ 9223372036854775807) (hC : Cols w.heap.size w v css) (hf0 : Few6 css) (hok : DataOk p css) :
    Calls Tryz.prog 3 #[.int .i64 p, v] w fun e w' => e = .returned (.bool true) ∧ Below w.heap.size w w' := by
  have hpp := prm_bounds hok.1.2
  obtain ⟨P, rfl⟩ : ∃ P : Nat, p = (P : Int) := ⟨p.toNat, by omega⟩
  have hR3 : RightC 3 (P : Int) := ⟨by omega, hok.1.2⟩
  have hst := steps3 hok
  have hgr := togOk_grid hok.2.2
  have hf1 := togOk_first hok.2.2
  have hal := slOf_len (p := (P : Int)) (css := css) ((P : Int) - 1)
  have hec := star_cells hok
  have hdl := (dataOk_n hok).1
  have hov := over_ok hok
  have hol := overOf_len hok.2.2.1
  rw [Int.toNat_natCast] at hdl
  obtain ⟨A, cap, rfl, _, _⟩ := id hC
  have hlen : css.length ≤ 1000 := by have := hf0.1; omega
  have hcl : ∀ j, j < css.length → (css[j]?.getD []).length ≤ 1000 := fun j hj => by have := (hf0.2 j hj).1; omega
  have HF0 := Lib.hid (few6_any (.slice A css.length cap) css w hC true (by simp [hf0]))
  have HEC := Lib.hid (T.encode_yes (B := w.heap.size) (P : Int) (.slice A css.length cap) css hok w hL (Nat.le_refl _) hC)
  have HAD := Lib.hid (fun (U : World) (hU : Below w.heap.size w U) => T.adjuster_yes (B := w.heap.size) (P : Int) (.slice A css.length cap) css hok U (hL.next hU) hU.size (hC.below hU))
  have HOV := Lib.hid (fun (U : World) (hU : Below w.heap.size w U) => T.over_yes (B := w.heap.size) (P : Int) (.slice A css.length cap) css hok U (hL.next hU) hU.size (hC.below hU))
  have HLR := Lib.hid (fun (U : World) (hU : Below w.heap.size w U) => T.lright_any (P : Int) (.slice A css.length cap) css U hU.size (hC.below hU) hlen true (by simp [hok]))
  have HEN := Lib.hid (fun (U : World) (hU : Below w.heap.size w U) => encode6_any (B := w.heap.size) 3 (P : Int) hR3 (.slice A css.length cap) css (firstC css).length U hU.size (hC.below hU) (by rw [hdl]; show (P : Int) = P - 0; omega) hgr (by omega))
  rw [show (madeN 3).toNat = 3 from rfl, hst] at HEN
  have HLI := Lib.hid (fun (U : World) (hU : Below w.heap.size w U) => slant8_any (B := w.heap.size) (P : Int) ((P : Int) - 1) hR3 (.slice A css.length cap) css (firstC css).length U hU.size (hC.below hU) (by omega) (by omega) hgr (by omega))
  rw [hdl] at HLI
  rw [show uponL (firstC css).length css (lineS (P : Int) (P : Int) ((P : Int) - 1)) = slOf (P : Int) css ((P : Int) - 1) from rfl] at HLI
  have HRO := Lib.hid (fun (U : World) (hU : Below w.heap.size w U) => over8_any (B := w.heap.size) (.slice A css.length cap) css U hU.size (hC.below hU) (by omega) (by omega))
  have hce : ∀ j : Nat, ((starOf (P : Int) css)[j]?.getD []).length ≤ 1000 := fun j => by
    rcases Nat.lt_or_ge j 3 with h2 | h2
    · rw [(hec.2 _ h2).1]; omega
    · rw [List.getElem?_eq_none (by rw [hec.1]; exact h2)]; simp
  have hco : ∀ j : Nat, ((overOf css)[j]?.getD []).length ≤ 1000 := fun j => (data_small hov.1 j 0).1
  have HSAM := Lib.hid (fun (U : World) (x y : Value) (B1 B2 : Nat) (h1 : B1 ≤ U.heap.size) (h2 : B2 ≤ U.heap.size) (hx : Cols B1 U x (starOf (P : Int) css)) (hy : Cols B2 U y (starOf (P : Int) css)) => same6_any (B := B1) (B' := B2) x y _ _ U hx hy h1 h2 hce hce (by rw [hec.1]; omega) (by rw [hec.1]; omega))
  have HSOV := Lib.hid (fun (U : World) (x y : Value) (B1 B2 : Nat) (h1 : B1 ≤ U.heap.size) (h2 : B2 ≤ U.heap.size) (hx : Cols B1 U x (overOf css)) (hy : Cols B2 U y (overOf css)) => same6_any (B := B1) (B' := B2) x y _ _ U hx hy h1 h2 hco hco (by omega) (by omega))
  simp only [decide_true] at HSAM HSOV
  have HTL : Hid ((css ++ starOf (P : Int) css).length = P + 3) := by unfold Hid; rw [List.length_append, hdl, hec.1]
  have HTD : Hid ((css ++ starOf (P : Int) css).drop P = starOf (P : Int) css) := by unfold Hid; rw [← hdl, List.drop_left]
  rw [hdl] at hol
  have HAL := Lib.hid hal
  have HEL := Lib.hid hec.1
  have HOL := Lib.hid hol
  have hP : 3 ≤ P := by omega
  clear hf0 hC hok hlen hcl hce hst hgr hf1 hal hec hov hol hco hR3
  rw [hdl] at HF0 HAD HEC HLR HEN HOV HRO ⊢
  clear hdl
  generalize css ++ starOf (P : Int) css = tot at *
  generalize starOf (P : Int) css = en at *
  generalize overOf css = ov at *
  generalize slOf (P : Int) css ((P : Int) - 1) = adj at *
  generalize (firstC css).length = l9 at *
  have q1 : IntKind.i64.wrap ((P : Int) - 1) = (P : Int) - 1 := by rw [IntWalk.i64_in _ (by omega)]
  have q2 : wrap64 ((P : Int) - 1) = (P : Int) - 1 := IntWalk.wrap64_in _ (by omega)
  go_enter Tryz.func3, Tryz.ntmps3
  go_wp2_with (first
    | (go_at_call 9; refine HF0.out.mono ?_; rintro e w' ⟨rfl, rfl⟩)
    | (go_at_call 11; refine HEC.out.mono ?_; rintro e w1 ⟨le, rfl, he, hB1⟩; obtain ⟨be, oe, ce, hle, _, _, _⟩ := he.at_ (by have := HEL.out; omega); rw [HEL.out] at hle; subst hle)
    | (go_at_call 12; refine (HAD.out _ hB1).mono ?_; rintro e w2 ⟨s, rfl, hs, hB2'⟩; have hB2 := below_in hB1 hB2'; obtain ⟨As, cs, hse, _, _⟩ := id hs; rw [HAL.out] at hse; subst hse)
    | (go_at_call 13; refine (HOV.out _ hB2).mono ?_; rintro e w3 ⟨o, rfl, hco, hB3'⟩; have hB3 := below_in hB2 hB3'; obtain ⟨Ao, co, hoe, _, _⟩ := id hco; rw [HOL.out] at hoe; subst hoe)
    | (go_at_call 14; refine (HLR.out _ hB3).mono ?_; rintro e w4 ⟨rfl, hB4'⟩; have hB4 := below_in hB3 hB4')
    | (go_at_call 17; refine (T.lcode_any _ _).mono ?_; rintro e w5 ⟨rfl, hB5'⟩; have hB5 := below_in hB4 hB5')
    | (go_at_call 16; refine (HEN.out _ hB5).mono ?_; rintro e w7 ⟨u, rfl, ht, hB6'⟩; have hB := below_in hB5 hB6'; obtain ⟨bt, ot, ct, hue, hct, _, _⟩ := ht.at_ (by have := HTL.out; omega)))
  have h37 := below_in hB4' (below_in hB5' hB6')
  have h27 := below_in hB3' h37
  have h17 := below_in hB2' h27
  have hW := hB
  have HSS := Lib.hid (fun (V : World) (hV : Below w7.heap.size w7 V) => (run_txt V (hs.below (below_in h27 hV)) : (fun V : World => (convert 28 9 (.slice As l9 cs)).run Tryz.prog V = .ok (.string (text adj)) V) V))
  have hT := HTL.out
  have HSM := Lib.hid (fun (V : World) (hV : Below w7.heap.size w7 V) => HSAM.out V (.slice (some ⟨be, oe, none⟩) 3 ce) (.slice (some ⟨bt, ot + P, none⟩) (tot.length - P) (ct - P)) w1.heap.size w7.heap.size (Nat.le_trans h17.size hV.size) hV.size (he.below (below_in h17 hV)) (by have h := Cols.drop_ (hue ▸ ht.below hV) (m := P) (by omega); rwa [HTD.out] at h))
  have HSO := Lib.hid (fun (V : World) (y : Value) (hV : Below w7.heap.size w7 V) (hy : Cols V.heap.size V y ov) => HSOV.out V (.slice Ao P co) y w3.heap.size V.heap.size (Nat.le_trans h37.size hV.size) (Nat.le_refl _) (hco.below (below_in h37 hV)) hy)
  subst hue
  generalize tot.length = Tn at *
  have HTT := Lib.hid hT
  have t1 : (0 : Int) ≤ (P : Int) := by omega
  have t3 : (P : Int) ≤ (Tn : Int) := by omega
  have t4 : (Tn : Int) ≤ (ct : Int) := by omega
  have t5 : ¬ ct = P := by omega
  have t6 : (P : Int) ≤ (ct : Int) := by omega
  clear hs he ht hco h17 h27 h37 hT hB hB1 hB2 hB3 hB4 hB5 hB2' hB3' hB4' hB5' hB6'
  have hw0 : IntKind.i64.wrap 0 = 0 := IntWalk.i64_in _ (by omega)
  have hB := Below.refl w7.heap.size w7
  have hS : (fun V : World => (convert 28 9 (.slice As l9 cs)).run Tryz.prog V = .ok (.string (text adj)) V) w7.drew := HSS.out _ hB.drew
  refine (wpIn_wide (n := 12)).1 (wpIn_mono (region_HF (Q := NoPanic _) (S := (fun V : World => (convert 28 9 (.slice As l9 cs)).run Tryz.prog V = .ok (.string (text adj)) V)) (by kernel_rfl) ?_) NoPanic.imp)
  refine anyHF_take (i := 0) (d := 73) (v := .slice (some ⟨be, oe, none⟩) 3 ce) (by kernel_rfl) rfl (by kernel_rfl) (by kernel_rfl) (by kernel_rfl) rfl (fun _ _ _ h => h) ⟨Or.inl ⟨by rfl, fun w hS => by have h0 := hS; go_simp⟩, fun _ => rfl⟩ hS ?_
  simp only [List.setIfInBounds_toArray, List.set_cons_zero, List.set_cons_succ]
  refine anyHF_take (i := 1) (d := 74) (v := .slice (some ⟨bt, ot, none⟩) Tn ct) (by kernel_rfl) rfl (by kernel_rfl) (by kernel_rfl) (by kernel_rfl) rfl (fun _ _ _ h => h) ⟨Or.inl ⟨by rfl, fun w hS => by have h0 := hS; go_simp⟩, fun _ => rfl⟩ hS ?_
  simp only [List.setIfInBounds_toArray, List.set_cons_zero, List.set_cons_succ]
  refine anyHF_take (i := 2) (d := 75) (v := .int .i64 (P : Int)) (by kernel_rfl) rfl (by kernel_rfl) (by kernel_rfl) (by kernel_rfl) rfl (fun _ _ _ h => h) ⟨Or.inl ⟨by rfl, fun w hS => by have h0 := hS; go_simp⟩, fun _ => rfl⟩ hS ?_
  simp only [List.setIfInBounds_toArray, List.set_cons_zero, List.set_cons_succ]
  refine anyHF_take (i := 3) (d := 76) (v := .slice (some ⟨bt, ot + P, none⟩) (Tn - P) (ct - P)) (by kernel_rfl) rfl (by kernel_rfl) (by kernel_rfl) (by kernel_rfl) rfl (fun _ _ _ h => h) ⟨Or.inl ⟨by rfl, fun w hS => by have h0 := hS; go_simp⟩, fun _ => rfl⟩ hS ?_
  simp only [List.setIfInBounds_toArray, List.set_cons_zero, List.set_cons_succ]
  refine anyHF_one (i := 4) (by kernel_rfl) rfl (by kernel_rfl) (by rfl) ?_
  gi_wp2_with fail
  refine ⟨trivial, (callsIn_wide.2 (HSM.out _ hB.drew)).mono ?_⟩
  rintro e wn ⟨rfl, hBn⟩
  replace hBn := below_undrew hBn
  replace hB := below_in hB hBn
  clear hS
  have hS : (fun V : World => (convert 28 9 (.slice As l9 cs)).run Tryz.prog V = .ok (.string (text adj)) V) wn := HSS.out _ hB
  gi_wp2
  try (refine ⟨hS, ?_⟩)
  refine anyHF_take (i := 5) (d := 78) (v := .bool true) (by kernel_rfl) rfl (by kernel_rfl) (by kernel_rfl) (by kernel_rfl) rfl (fun _ _ _ h => h) ⟨Or.inl ⟨by rfl, fun w hS => by have h0 := hS; go_simp⟩, fun _ => rfl⟩ hS ?_
  simp only [List.setIfInBounds_toArray, List.set_cons_zero, List.set_cons_succ]
  refine anyHF_take (i := 6) (d := 79) (v := .slice As l9 cs) (by kernel_rfl) rfl (by kernel_rfl) (by kernel_rfl) (by kernel_rfl) rfl (fun _ _ _ h => h) ⟨Or.inl ⟨by rfl, fun w hS => by have h0 := hS; go_simp⟩, fun _ => rfl⟩ hS ?_
  simp only [List.setIfInBounds_toArray, List.set_cons_zero, List.set_cons_succ]
  refine anyHF_take (i := 7) (d := 80) (v := .string (text adj)) (by kernel_rfl) rfl (by kernel_rfl) (by kernel_rfl) (by kernel_rfl) rfl (fun _ _ _ h => h) ⟨Or.inl ⟨by rfl, fun w hS => by have h0 := hS; go_simp⟩, fun _ => rfl⟩ hS ?_
  simp only [List.setIfInBounds_toArray, List.set_cons_zero, List.set_cons_succ]
  refine anyHF_take (i := 8) (d := 81) (v := .int .i64 (P : Int)) (by kernel_rfl) rfl (by kernel_rfl) (by kernel_rfl) (by kernel_rfl) rfl (fun _ _ _ h => h) ⟨Or.inl ⟨by rfl, fun w hS => by have h0 := hS; go_simp⟩, fun _ => rfl⟩ hS ?_
  simp only [List.setIfInBounds_toArray, List.set_cons_zero, List.set_cons_succ]
  refine anyHF_take (i := 9) (d := 82) (v := .slice A P cap) (by kernel_rfl) rfl (by kernel_rfl) (by kernel_rfl) (by kernel_rfl) rfl (fun _ _ _ h => h) ⟨Or.inl ⟨by rfl, fun w hS => by have h0 := hS; go_simp⟩, fun _ => rfl⟩ hS ?_
  simp only [List.setIfInBounds_toArray, List.set_cons_zero, List.set_cons_succ]
  refine anyHF_take (i := 10) (d := 83) (v := .int .i64 (P : Int)) (by kernel_rfl) rfl (by kernel_rfl) (by kernel_rfl) (by kernel_rfl) rfl (fun _ _ _ h => h) ⟨Or.inl ⟨by rfl, fun w hS => by have h0 := hS; go_simp⟩, fun _ => rfl⟩ hS ?_
  simp only [List.setIfInBounds_toArray, List.set_cons_zero, List.set_cons_succ]
  refine anyHF_take (i := 11) (d := 84) (v := .int .i64 ((P : Int) - 1)) (by kernel_rfl) rfl (by kernel_rfl) (by kernel_rfl) (by kernel_rfl) rfl (fun _ _ _ h => h) ⟨Or.inl ⟨by rfl, fun w hS => by have h0 := hS; go_simp⟩, fun _ => rfl⟩ hS ?_
  simp only [List.setIfInBounds_toArray, List.set_cons_zero, List.set_cons_succ]
  refine anyHF_one (i := 12) (by kernel_rfl) rfl (by kernel_rfl) (by rfl) ?_
  gi_wp2_with fail
  refine ⟨trivial, (callsIn_wide.2 (HLI.out _ (below_in hW hB))).mono ?_⟩
  rintro e wn ⟨u, rfl, hu, hBn⟩
  replace hB := below_in hB hBn
  have t2 := run_txt wn hu
  clear hS
  have hS : (fun V : World => (convert 28 9 (.slice As l9 cs)).run Tryz.prog V = .ok (.string (text adj)) V) wn := HSS.out _ hB
  gi_wp2
  try (refine ⟨hS, ?_⟩)
  refine anyHF_one (i := 13) (by kernel_rfl) rfl (by kernel_rfl) (by rfl) ?_
  gi_wp2
  try (refine ⟨hS, ?_⟩)
  refine anyHF_take (i := 14) (d := 87) (v := .bool true) (by kernel_rfl) rfl (by kernel_rfl) (by kernel_rfl) (by kernel_rfl) rfl (fun _ _ _ h => h) ⟨Or.inl ⟨by rfl, fun w hS => by have h0 := hS; go_simp⟩, fun _ => rfl⟩ hS ?_
  simp only [List.setIfInBounds_toArray, List.set_cons_zero, List.set_cons_succ]
  refine anyHF_take (i := 15) (d := 88) (v := .bool true) (by kernel_rfl) rfl (by kernel_rfl) (by kernel_rfl) (by kernel_rfl) rfl (fun _ _ _ h => h) ⟨Or.inl ⟨by rfl, fun w hS => by have h0 := hS; go_simp⟩, fun _ => rfl⟩ hS ?_
  simp only [List.setIfInBounds_toArray, List.set_cons_zero, List.set_cons_succ]
  refine anyHF_take (i := 16) (d := 89) (v := .bool true) (by kernel_rfl) rfl (by kernel_rfl) (by kernel_rfl) (by kernel_rfl) rfl (fun _ _ _ h => h) ⟨Or.inl ⟨by rfl, fun w hS => by have h0 := hS; go_simp⟩, fun _ => rfl⟩ hS ?_
  simp only [List.setIfInBounds_toArray, List.set_cons_zero, List.set_cons_succ]
  refine anyHF_take (i := 17) (d := 90) (v := .slice Ao P co) (by kernel_rfl) rfl (by kernel_rfl) (by kernel_rfl) (by kernel_rfl) rfl (fun _ _ _ h => h) ⟨Or.inl ⟨by rfl, fun w hS => by have h0 := hS; go_simp⟩, fun _ => rfl⟩ hS ?_
  simp only [List.setIfInBounds_toArray, List.set_cons_zero, List.set_cons_succ]
  refine anyHF_take (i := 18) (d := 91) (v := .slice A P cap) (by kernel_rfl) rfl (by kernel_rfl) (by kernel_rfl) (by kernel_rfl) rfl (fun _ _ _ h => h) ⟨Or.inl ⟨by rfl, fun w hS => by have h0 := hS; go_simp⟩, fun _ => rfl⟩ hS ?_
  simp only [List.setIfInBounds_toArray, List.set_cons_zero, List.set_cons_succ]
  refine anyHF_one (i := 19) (by kernel_rfl) rfl (by kernel_rfl) (by rfl) ?_
  gi_wp2_with fail
  refine ⟨trivial, (callsIn_wide.2 (HRO.out _ (below_in hW hB))).mono ?_⟩
  rintro e wn ⟨uo, rfl, huo, hBn⟩
  replace hB := below_in hB hBn
  clear hS
  have hS : (fun V : World => (convert 28 9 (.slice As l9 cs)).run Tryz.prog V = .ok (.string (text adj)) V) wn := HSS.out _ hB
  gi_wp2
  try (refine ⟨hS, ?_⟩)
  refine anyHF_one (i := 20) (by kernel_rfl) rfl (by kernel_rfl) (by rfl) ?_
  gi_wp2_with fail
  refine ⟨trivial, (callsIn_wide.2 (HSO.out _ _ hB huo)).mono ?_⟩
  rintro e wn ⟨rfl, hBn⟩
  replace hB := below_in hB hBn
  clear huo
  clear hS
  have hS : (fun V : World => (convert 28 9 (.slice As l9 cs)).run Tryz.prog V = .ok (.string (text adj)) V) wn := HSS.out _ hB
  gi_wp2
  try (refine ⟨hS, ?_⟩)
  refine anyHF_take (i := 21) (d := 94) (v := .bool true) (by kernel_rfl) rfl (by kernel_rfl) (by kernel_rfl) (by kernel_rfl) rfl (fun _ _ _ h => h) ⟨Or.inl ⟨by rfl, fun w hS => by have h0 := hS; go_simp⟩, fun _ => rfl⟩ hS ?_
  simp only [List.setIfInBounds_toArray, List.set_cons_zero, List.set_cons_succ]
  refine anyHF_take (i := 22) (d := 95) (v := .bool true) (by kernel_rfl) rfl (by kernel_rfl) (by kernel_rfl) (by kernel_rfl) rfl (fun _ _ _ h => h) ⟨Or.inl ⟨by rfl, fun w hS => by have h0 := hS; go_simp⟩, fun _ => rfl⟩ hS ?_
  simp only [List.setIfInBounds_toArray, List.set_cons_zero, List.set_cons_succ]
  refine anyHF_take (i := 23) (d := 96) (v := .int .i64 0) (by kernel_rfl) rfl (by kernel_rfl) (by kernel_rfl) (by kernel_rfl) rfl (fun _ _ _ h => h) ⟨Or.inl ⟨by rfl, fun w hS => by have h0 := hS; go_simp⟩, fun _ => rfl⟩ hS ?_
  simp only [List.setIfInBounds_toArray, List.set_cons_zero, List.set_cons_succ]
  refine anyHF_take (i := 25) (d := 98) (v := .int .i64 0) (by kernel_rfl) rfl (by kernel_rfl) (by kernel_rfl) (by kernel_rfl) rfl (fun _ _ _ h => h) ⟨Or.inl ⟨by rfl, fun w hS => by have h0 := hS; go_simp⟩, fun _ => rfl⟩ hS ?_
  simp only [List.setIfInBounds_toArray, List.set_cons_zero, List.set_cons_succ]
  refine anyHF_take (i := 28) (d := 101) (v := .int .i64 0) (by kernel_rfl) rfl (by kernel_rfl) (by kernel_rfl) (by kernel_rfl) rfl (fun _ _ _ h => h) ⟨Or.inl ⟨by rfl, fun w hS => by have h0 := hS; go_simp⟩, fun _ => rfl⟩ hS ?_
  simp only [List.setIfInBounds_toArray, List.set_cons_zero, List.set_cons_succ]
  refine anyHF_one (i := 24) (by kernel_rfl) rfl (by kernel_rfl) (by rfl) ?_
  gi_wp2_with fail
  refine ⟨trivial, (callsIn_wide.2 (T.num_any _ _)).mono ?_⟩
  rintro e wn ⟨rfl, rfl⟩
  gi_wp2
  try (refine ⟨hS, ?_⟩)
  refine anyHF_one (i := 26) (by kernel_rfl) rfl (by kernel_rfl) (by rfl) ?_
  gi_wp2_with fail
  refine ⟨trivial, (callsIn_wide.2 (T.num_any _ _)).mono ?_⟩
  rintro e wn ⟨rfl, rfl⟩
  gi_wp2
  try (refine ⟨hS, ?_⟩)
  refine anyHF_take (i := 27) (d := 100) (v := .int .i64 0) (by kernel_rfl) rfl (by kernel_rfl) (by kernel_rfl) (by kernel_rfl) rfl (fun _ _ _ h => h) ⟨Or.inl ⟨by rfl, fun w hS => by have h0 := hS; go_simp⟩, fun _ => rfl⟩ hS ?_
  simp only [List.setIfInBounds_toArray, List.set_cons_zero, List.set_cons_succ]
  refine anyHF_one (i := 29) (by kernel_rfl) rfl (by kernel_rfl) (by rfl) ?_
  gi_wp2_with fail
  refine ⟨trivial, (callsIn_wide.2 (T.num_any _ _)).mono ?_⟩
  rintro e wn ⟨rfl, rfl⟩
  gi_wp2
  try (refine ⟨hS, ?_⟩)
  refine anyHF_take (i := 30) (d := 103) (v := .int .i64 0) (by kernel_rfl) rfl (by kernel_rfl) (by kernel_rfl) (by kernel_rfl) rfl (fun _ _ _ h => h) ⟨Or.inl ⟨by rfl, fun w hS => by have h0 := hS; go_simp⟩, fun _ => rfl⟩ hS ?_
  simp only [List.setIfInBounds_toArray, List.set_cons_zero, List.set_cons_succ]
  refine anyHF_take (i := 31) (d := 104) (v := .bool true) (by kernel_rfl) rfl (by kernel_rfl) (by kernel_rfl) (by kernel_rfl) rfl (fun _ _ _ h => h) ⟨Or.inl ⟨by rfl, fun w hS => by have h0 := hS; go_simp⟩, fun _ => rfl⟩ hS ?_
  simp only [List.setIfInBounds_toArray, List.set_cons_zero, List.set_cons_succ]
  refine anyHF_take (i := 32) (d := 105) (v := .bool true) (by kernel_rfl) rfl (by kernel_rfl) (by kernel_rfl) (by kernel_rfl) rfl (fun _ _ _ h => h) ⟨Or.inl ⟨by rfl, fun w hS => by have h0 := hS; go_simp⟩, fun _ => rfl⟩ hS ?_
  simp only [List.setIfInBounds_toArray, List.set_cons_zero, List.set_cons_succ]
  refine anyHF_take (i := 33) (d := 106) (v := .bool true) (by kernel_rfl) rfl (by kernel_rfl) (by kernel_rfl) (by kernel_rfl) rfl (fun _ _ _ h => h) ⟨Or.inl ⟨by rfl, fun w hS => by have h0 := hS; go_simp⟩, fun _ => rfl⟩ hS ?_
  simp only [List.setIfInBounds_toArray, List.set_cons_zero, List.set_cons_succ]
  refine anyHF_one (i := 34) (by kernel_rfl) rfl (by kernel_rfl) (by rfl) ?_
  gi_wp2_with fail
  refine ⟨trivial, (callsIn_wide.2 (T.works_any _ (hL.next (below_in hW hB)))).mono ?_⟩
  rintro e wn ⟨rfl, hBn⟩
  replace hB := below_in hB hBn
  clear hS
  have hS : (fun V : World => (convert 28 9 (.slice As l9 cs)).run Tryz.prog V = .ok (.string (text adj)) V) wn := HSS.out _ hB
  gi_wp2
  try (refine ⟨hS, ?_⟩)
  refine anyHF_take (i := 35) (d := 108) (v := .bool true) (by kernel_rfl) rfl (by kernel_rfl) (by kernel_rfl) (by kernel_rfl) rfl (fun _ _ _ h => h) ⟨Or.inl ⟨by rfl, fun w hS => by have h0 := hS; go_simp⟩, fun _ => rfl⟩ hS ?_
  simp only [List.setIfInBounds_toArray, List.set_cons_zero, List.set_cons_succ]
  refine anyHF_one (i := 36) (by kernel_rfl) rfl (by kernel_rfl) (by rfl) ?_
  gi_wp2
  refine anyHF_done (by kernel_rfl) ?_ _
  refine NoPanic.normal ?_
  clear hS
  go_wp2
  go_ret
  exact ⟨rfl, below_in hW hB⟩

open Go.Proofs.YtcgnhfiadeceiaaGreatDoor.E Go.Proofs.YtcgnhfiadeceiaaGreatDoor.C Go.Proofs.YtcgnhfiadeceiaaGreatDoor.T in
set_option maxRecDepth 100000 in
set_option maxHeartbeats 4000000 in
theorem walk (p : Int) (v : Value) (css : List (List (List UInt8))) (w : World) (hL : Laid w) (wp : -9223372036854775808 ≤ p ∧ p ≤ 9223372036854775807) (hC : Cols w.heap.size w v css) :
    Calls Tryz.prog 3 #[.int .i64 p, v] w fun e w' => e = .returned (.bool true) ∧ Below w.heap.size w w' := by
  by_cases hf0 : Few6 css
  case neg => exact n1 p v css w hL wp hC hf0
  by_cases hok : DataOk p css
  case pos => exact yes p v css w hL wp hC hf0 hok
  exact n2 p v css w hL wp hC hf0 hok

set_option maxRecDepth 100000 in
theorem lifted (os : Os) (started : os.Started) (H : Type) (enc : TypeId × Value → H) :
    ReturnsInHanded {} Tryz.checked os 3 .any (fun w args => (Rows.starEncodesSpec.pre enc Tryz.prog Tryz.f3 [] false w args ∧ laidMetH Tryz.prog laidL w) ∧ sizedMet enc Tryz.prog Tryz.f3 (OpenSpec.ofChange Rows.starEncodesSpec) false w args)
      (Rows.starEncodesSpec.post enc Tryz.prog Tryz.f3 false true false false) := by
  refine returnsInHanded_of_change_and (C := Tryz.checked) (X := fun w _ => laidMetH Tryz.prog laidL w) (fun _ _ _ hh h => h.of_heap hh) own started (by kernel_rfl) Tryz.func3
    (ChangeSpec.witness_shaped (enc := enc) (C := Tryz.checked) (os := os) (X := fun w _ => laidMetH Tryz.prog laidL w) false (World.doorLaid Tryz.prog 200 os) #[.int .i64 0, .slice none 0 0] 8 rfl (World.shaped_of_RefB (by kernel_rfl) (by kernel_rfl)) (by kernel_rfl) (by kernel_rfl) (by kernel_rfl) (door_met os _)) ?_
  intro W base args ds gs before hval0 hW _ _ hL0 _
  have hL := laid_of hL0
  have hval : ∀ (j : Nat) t v, Tryz.f3.params[j]? = some t → args[j]? = some v → Value.okWide Tryz.prog W .any base t v := hval0
  have hW' := hW
  obtain ⟨p, q, hA0, hV, rfl, hfz, hnd⟩ := hW
  have hA : DataW.TrodAll enc Tryz.prog W 0 (fun _ => true) true Tryz.f3.params.toList args.toList ds p := hA0
  rw [Tryz.params3] at hA hval
  obtain ⟨v0, vs0, d0, ds0, p0, q0, hargs, rfl, rfl, h0, r0⟩ := trodAll_cons hA
  obtain ⟨v1, vs1, d1, ds1, p1, q1, rfl, rfl, rfl, h1, r1⟩ := trodAll_cons r0
  obtain ⟨rfl, rfl, rfl⟩ := trodAll_nil r1
  obtain rfl : args = #[v0, v1] := by cases args; simp_all
  obtain ⟨rfl, rfl⟩ := trodVars_none hV
  obtain ⟨a0, rfl, rfl, rfl, w0⟩ := open_int Tryz.underlying3 (hval 0 3 v0 rfl rfl) h0
  have k1 := h1
  have lt1 : ∀ x ∈ p1, x.block < W.heap.size := by obtain ⟨m, hm⟩ := k1; exact DataW.trod_lt m _ _ _ hm
  obtain ⟨a1, len1, cap1, rfl⟩ := okWide_slice Tryz.underlying22 (hval 1 22 v1 rfl rfl)
  obtain ⟨l1, w1⟩ : ∃ css, E.Cols W.heap.size W (.slice a1 len1 cap1) css := by obtain ⟨fuel, hf⟩ := h1; exact E.open_cols hf
  clear hA0 hval0
  simp only [List.append_nil] at hW'
  refine (walk a0 _ l1 W hL (E.wf_i64 w0) w1).mono fun e W' ⟨he, bel⟩ => ?_
  subst he
  exact ⟨_, rfl, _, _, _, [], _, [], hW', trodAll_mk1 (shut_bool Tryz.underlying4 _), (trodAll_cons_mk (shut_int Tryz.underlying3 w0) (trodAll_cons_mk (Below.trod laidOut (by kernel_rfl) (of_decide_eq_true (by kernel_rfl)) k1 bel lt1) trodAll_mk0)), rfl, bel.frame _, fun h => by cases h⟩

theorem over : Rows.starEncodesRow.holds Tryz.pinned (OpenSpec.ofChange Rows.starEncodesSpec) :=
  OpenClaim.holds_of_wide 3 Tryz.f3 rfl rfl rfl rfl rfl rfl rfl ⟨rfl, rfl, rfl, rfl, rfl⟩ rfl rfl rfl rfl rfl (by kernel_rfl) Tryz.func3 (by kernel_rfl)
    (of_decide_eq_true (by kernel_rfl)) (by unfold Func.isWrapper; first | (rw [if_pos (by decide +kernel)]; kernel_rfl) | (rw [if_neg (by decide +kernel)]; exact ⟨rfl, rfl⟩))
    (fun os started H enc _ => lifted os started H enc)

/-- The tied card: the row, and the tie that is given. -/
theorem starEncodes_holds : Rows.StarEncodesCardSaid :=
  Claim7.holds_tied_plain_at .later [] [.data, .data] true (true, "7e27223e161f1634c86bf5b961aa3e78ae26ed2f90e841ec1f5ff27ba1a55c1c") true over (fun _ h => by cases h) (by kernel_rfl) (fun _ h => by cases h) starEncodes_row_tie rfl ⟨rfl, rfl⟩ (by kernel_rfl) rfl
    (fun f fn hf hfn => by
      obtain rfl : f = 3 := Option.some.inj ((show Tryz.prog.funcNamed "palisade/palisadelaw08.StarEncodes" = some 3 by kernel_rfl).symm.trans hf) |>.symm
      obtain rfl : fn = Tryz.f3 := (Option.some.inj (Tryz.func3.symm.trans hfn)).symm
      exact ⟨by kernel_rfl, fun j t ht => by
        rw [Tryz.params3] at ht
        have hm : t ∈ [3, 22] := by simpa using Array.mem_of_getElem? ht
        have hall : ([3, 22].all fun u => !Tryz.prog.wantsStandIn u) = true := by kernel_rfl
        exact (show Tryz.prog.wantsStandIn t = false by simpa using List.all_eq_true.1 hall t hm)⟩)
    (by kernel_rfl)
end Go.Proofs.YtcgnhfiadeceiaaGreatDoor.starEncodes
