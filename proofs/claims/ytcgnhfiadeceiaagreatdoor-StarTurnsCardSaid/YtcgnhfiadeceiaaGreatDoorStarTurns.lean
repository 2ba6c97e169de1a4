/- The law StarTurns answers true for every input and leaves its arguments as they were. -/
import Derived.Test.YtcgnhfiadeceiaaGreatDoorJSA
import Derived.Test.YtcgnhfiadeceiaaGreatDoorJG6x1
import Derived.Test.YtcgnhfiadeceiaaGreatDoorJG15x1
import Derived.Test.YtcgnhfiadeceiaaGreatDoorJG6x2
import Derived.Test.YtcgnhfiadeceiaaGreatDoorJG8x2
import Derived.Test.YtcgnhfiadeceiaaGreatDoorJG16x2
import Derived.Test.YtcgnhfiadeceiaaGreatDoorCards
import Derived.Test.YtcgnhfiadeceiaaGreatDoorTie
import Derived.SevenTiedAt
import Derived.Test.YtcgnhfiadeceiaaGreatDoorJG16
import Derived.Test.YtcgnhfiadeceiaaGreatDoorJG6
namespace Go.Proofs.YtcgnhfiadeceiaaGreatDoor.starTurns
open Go.ChangeShapes Go.WideShapes Go.ChangeAt Go.RowKit Go.Shelf
set_option linter.unusedVariables false
set_option linter.unusedSimpArgs false
attribute [local go_sem] Oper.semAt_some

open Go.Proofs.YtcgnhfiadeceiaaGreatDoor.E Go.Proofs.YtcgnhfiadeceiaaGreatDoor.C Go.Proofs.YtcgnhfiadeceiaaGreatDoor.T in
set_option maxRecDepth 100000 in
set_option maxHeartbeats 4000000 in
theorem walk (p : Int) (v : Value) (css : List (List (List UInt8))) (w : World) (hL : Laid w) (wp : -9223372036854775808 ≤ p ∧ p ≤ 9223372036854775807) (hC : Cols w.heap.size w v css) :
    Calls Tryz.prog 8 #[.int .i64 p, v] w fun e w' => e = .returned (.bool true) ∧ Below w.heap.size w w' := by
  obtain ⟨A, cap, rfl, _, _⟩ := id hC
  by_cases hf : Few6 css
  case neg =>
    have HF := Lib.hid (few6_any _ css w hC false (by simp [hf]))
    clear hf hC
    go_enter Tryz.func8, Tryz.ntmps8
    go_wp2_with (first
      | (go_at_call 9; refine HF.out.mono ?_; rintro e w' ⟨rfl, rfl⟩)
      | (go_at_call 10; refine (T.works_any _ hL).mono ?_; rintro e w1 ⟨rfl, hB1⟩))
    go_ret
    exact ⟨rfl, hB1⟩
  have HF := Lib.hid (few6_any _ css w hC true (by simp [hf]))
  have hl24 := hf.1
  have hl1000 : css.length ≤ 1000 := by omega
  by_cases hd : DataOk p css
  case neg =>
    have HR := Lib.hid (T.lright_any p _ css w (Nat.le_refl _) hC hl1000 false (by simp [hd]))
    clear hf hC hd
    go_enter Tryz.func8, Tryz.ntmps8
    go_wp2_with (first
      | (go_at_call 9; refine HF.out.mono ?_; rintro e w' ⟨rfl, rfl⟩)
      | (go_at_call 14; refine HR.out.mono ?_; rintro e w1 ⟨rfl, hB1⟩)
      | (go_at_call 10; refine (T.works_any _ (hL.next hB1)).mono ?_; rintro e w2 ⟨rfl, hB2⟩))
    go_ret
    exact ⟨rfl, below_in hB1 hB2⟩
  have HR := Lib.hid (T.lright_any p _ css w (Nat.le_refl _) hC hl1000 true (by simp [hd]))
  have hdn := dataOk_n hd
  have hpp := prm_bounds hd.1.2
  obtain ⟨b1, off1, cq, e1, _, hb1, hrow⟩ := hC.at_ hd.2.2.1
  injection e1 with e1 _ e1c
  subst e1
  subst e1c
  obtain ⟨P1, hP1⟩ : ∃ P1 : Nat, p.toNat = P1 + 1 := ⟨p.toNat - 1, (Nat.succ_pred_eq_of_pos (Nat.lt_of_lt_of_le (by decide) hdn.2.1)).symm⟩
  have hpP : p - 1 = (P1 : Int) := by omega
  have hlP : P1 < css.length := by omega
  have hcol0 := hd.2.2.2 0 hd.2.2.1
  obtain ⟨u9, hu9, hm9⟩ := hrow 0 hd.2.2.1
  obtain ⟨A9, cap9, rfl, _, _⟩ := id hm9
  obtain ⟨u8, hu8, hm8⟩ := hrow P1 hlP
  obtain ⟨A8, cap8, rfl, _, _⟩ := id hm8
  rw [Nat.add_zero] at hu9
  have HU9 := Lib.hid hu9
  have HU8 := Lib.hid hu8
  have HM9 := Lib.hid (fun (U : World) (hU : Below w.heap.size w U) => hm9.below hU)
  have HM8 := Lib.hid (fun (U : World) (hU : Below w.heap.size w U) => hm8.below hU)
  have HCT := Lib.hid (fun (U : World) (hU : Below w.heap.size w U) => Cols.take_ (hC.below hU) (m := P1) (by omega))
  have hro : rightOf css p.toNat = [css[P1]?.getD []] ++ css.take P1 := by unfold rightOf; rw [hP1]; rfl
  have hrok := right_ok hd
  have her := star_right hd
  rw [hro] at hrok her
  have HE := Lib.hid (fun (U : World) (hU : Below w.heap.size w U) => T.encode_yes (B := w.heap.size) p _ css hd U (hL.next hU) hU.size (hC.below hU))
  have HE2 := Lib.hid (fun (U : World) (u : Value) (hU : Laid U) (hCU : Cols U.heap.size U u ([css[P1]?.getD []] ++ css.take P1)) => T.encode_yes p u _ hrok U hU (Nat.le_refl _) hCU)
  rw [her] at HE2
  have hRW : RightD p ([css[0]?.getD []] ++ starOf p css) := star_with hd (fun j hj => by
    cases j with
    | zero => exact togOk_grid hd.2.2 0 hd.2.2.1
    | succ j => exact star_grid hd j (by rw [List.length_append] at hj; simp at hj; omega)) (by simp)
  have HRT := Lib.hid (fun (U : World) (x : Value) (hCU : Cols U.heap.size U x ([css[0]?.getD []] ++ starOf p css)) => right6_any p x _ U (Nat.le_refl _) hCU (by rw [List.length_append, (star_cells hd).1]; simp) true (by simp only [true_iff]; exact hRW))
  have hP2 : (p - 1).toNat = P1 := by rw [hpP, Int.toNat_natCast]
  have hrl := rowsMade_len (css := css) (p - 1).toNat
  have hdl := diagsMade_len (p := p) (css := css) (p - 1).toNat
  have hsl : (slMade p css).length = P1 := (slMade_len (p := p) (css := css)).trans hP2
  have HS1 := Lib.hid (fun (U : World) (x y : Value) (h1 : Many U.heap.size U x (rowsMade (p - 1).toNat css)) (h2 : Many U.heap.size U y (rowsMade (p - 1).toNat css)) => sameCol_any x y _ _ U h1 h2 (by omega) (by omega))
  have hec := (star_cells hd).2 1 (by omega)
  have hec3 := (star_cells hd).2 2 (by omega)
  have HT := Lib.hid (fun (U : World) (x : Value) (h1 : Many U.heap.size U x (diagsMade p (p - 1).toNat css)) => turned8_any p 1 P1 (by omega) (by omega) hpP x (diagsMade p (p - 1).toNat css) (firstC css).length (by have := togOk_first hd.2.2; omega) U (Nat.le_refl _) h1 (by omega) (fun i hi => hec.2 i (by omega)))
  have HT3 := Lib.hid (fun (U : World) (x : Value) (h1 : Many U.heap.size U x (slMade p css)) => turned8_any p (-1) P1 (by omega) (by omega) hpP x (slMade p css) (firstC css).length (by have := togOk_first hd.2.2; omega) U (Nat.le_refl _) h1 hsl (fun i hi => hec3.2 i (by omega)))
  have htl3 : (turnedOf p (-1) (slMade p css)).length ≤ 100000 := by unfold turnedOf; rw [List.length_map, List.length_range]; omega
  have HS3 := Lib.hid (fun (U : World) (x y : Value) (h1 : Many U.heap.size U x (turnedOf p (-1) (slMade p css))) (h2 : Many U.heap.size U y (turnedOf p (-1) (slMade p css))) => sameCol_any x y _ _ U h1 h2 htl3 htl3)
  have HTL3 := Lib.hid (by unfold turnedOf; rw [List.length_map, List.length_range, hP2] : (turnedOf p (-1) (slMade p css)).length = P1)
  have htl : (turnedOf p 1 (diagsMade p (p - 1).toNat css)).length ≤ 100000 := by unfold turnedOf; rw [List.length_map, List.length_range]; omega
  have HS2 := Lib.hid (fun (U : World) (x y : Value) (h1 : Many U.heap.size U x (turnedOf p 1 (diagsMade p (p - 1).toNat css))) (h2 : Many U.heap.size U y (turnedOf p 1 (diagsMade p (p - 1).toNat css))) => sameCol_any x y _ _ U h1 h2 htl htl)
  have HTL := Lib.hid (by unfold turnedOf; rw [List.length_map, List.length_range, hP2] : (turnedOf p 1 (diagsMade p (p - 1).toNat css)).length = P1)
  have HEN : Hid (starOf p css = [rowsMade (p - 1).toNat css, diagsMade p (p - 1).toNat css, slMade p css]) := rfl
  rw [HEN.out] at HE HRT
  simp only [decide_true] at HS1 HS2 HS3
  rw [hP2] at HE HE2 HRT HS1 HS2 HT HTL hrl hdl
  have HRL := Lib.hid hrl
  have HDL := Lib.hid hdl
  have HSL := Lib.hid hsl
  have HTKL : Hid ((css.take P1).length = P1) := by unfold Hid; rw [List.length_take]; omega
  have hl0 : 0 < css.length := hd.2.2.1
  have HCL : Hid (css.length = P1 + 1) := hdn.1.trans hP1
  have hP3 : 2 ≤ P1 := by omega
  clear hf hC hrow hu9 hu8 hm9 hm8 hdn hcol0 hro hrok her hec htl hrl hdl hP2 hd hP1 HEN hec3 htl3 hsl hRW
  generalize rowsMade P1 css = rm at *
  generalize turnedOf p 1 (diagsMade p P1 css) = tu at *
  generalize diagsMade p P1 css = dm at *
  generalize turnedOf p (-1) (slMade p css) = ts at *
  generalize slMade p css = sm at *
  generalize css.take P1 = ct at *
  generalize css[P1]?.getD [] = c8 at *
  generalize css[0]?.getD [] = c9 at *
  generalize css.length = N at *
  have hpw : IntKind.i64.wrap (p - 1) = (P1 : Int) := by rw [← hpP]; exact IntWalk.i64_in _ (by omega)
  go_enter Tryz.func8, Tryz.ntmps8
  go_wp2_with (first
    | (go_at_call 9; refine HF.out.mono ?_; rintro e w' ⟨rfl, rfl⟩)
    | (go_at_call 14; refine HR.out.mono ?_; rintro e w1 ⟨rfl, hBw⟩))
  clear HF HR
  refine (HE.out _ hBw).mono ?_
  rintro e w2 ⟨x, rfl, hx, hB⟩
  replace hBw := below_in hBw hB
  obtain ⟨Ax, cx, hxe, _, _⟩ := id hx
  obtain ⟨bx, ox, cx2, hx2, _, hbx, hxr⟩ := hx.at_ (by simp)
  have hx3 : x = .slice (some ⟨bx, ox, none⟩) 3 cx2 := hx2
  subst hx3
  clear hB HE hxe hx2
  go_wp2_with fail
  have i8 := (hBw.cell (p := ⟨b1, off1 + P1, none⟩) hb1).trans HU8.out
  have q1 : (0 : Int) ≤ (P1 : Int) := by omega
  have hpw2 : IntKind.i64.wrap (P1 : Int) = (P1 : Int) := IntWalk.i64_in _ (by omega)
  have q2 : (P1 : Int) < (N : Int) := by have := HCL.out; omega
  have q3 : (P1 : Int) ≤ (cap : Int) := by have := HCL.out; omega
  have hS : (fun V : World => V.cell? ⟨b1, off1 + P1, none⟩ = some (.slice A8 c8.length cap8)) w2.drew := i8
  refine (wpIn_wide (n := 12)).1 (wpIn_mono (region_HF (Q := NoPanic _) (S := (fun V : World => V.cell? ⟨b1, off1 + P1, none⟩ = some (.slice A8 c8.length cap8))) (by kernel_rfl) ?_) NoPanic.imp)
  refine anyHF_take (i := 0) (d := 26) (v := .int .i64 p) (by kernel_rfl) rfl (by kernel_rfl) (by kernel_rfl) (by kernel_rfl) rfl (fun _ _ _ h => h) ⟨Or.inl ⟨by rfl, fun w hS => by have h0 := hS; go_simp⟩, fun _ => rfl⟩ hS ?_
  simp only [List.setIfInBounds_toArray, List.set_cons_zero, List.set_cons_succ]
  refine anyHF_take (i := 1) (d := 27) (v := .slice (some ⟨b1, off1, none⟩) N cap) (by kernel_rfl) rfl (by kernel_rfl) (by kernel_rfl) (by kernel_rfl) rfl (fun _ _ _ h => h) ⟨Or.inl ⟨by rfl, fun w hS => by have h0 := hS; go_simp⟩, fun _ => rfl⟩ hS ?_
  simp only [List.setIfInBounds_toArray, List.set_cons_zero, List.set_cons_succ]
  refine anyHF_take (i := 2) (d := 28) (v := .int .i64 p) (by kernel_rfl) rfl (by kernel_rfl) (by kernel_rfl) (by kernel_rfl) rfl (fun _ _ _ h => h) ⟨Or.inl ⟨by rfl, fun w hS => by have h0 := hS; go_simp⟩, fun _ => rfl⟩ hS ?_
  simp only [List.setIfInBounds_toArray, List.set_cons_zero, List.set_cons_succ]
  refine anyHF_take (i := 3) (d := 29) (v := .int .i64 (P1 : Int)) (by kernel_rfl) rfl (by kernel_rfl) (by kernel_rfl) (by kernel_rfl) rfl (fun _ _ _ h => h) ⟨Or.inl ⟨by rfl, fun w hS => by have h0 := hS; go_simp⟩, fun _ => rfl⟩ hS ?_
  simp only [List.setIfInBounds_toArray, List.set_cons_zero, List.set_cons_succ]
  refine anyHF_take (i := 4) (d := 30) (v := .pointer (some ⟨b1, off1 + P1, none⟩)) (by kernel_rfl) rfl (by kernel_rfl) (by kernel_rfl) (by kernel_rfl) rfl (fun _ _ _ h => h) ⟨Or.inl ⟨by rfl, fun w hS => by have h0 := hS; go_simp⟩, fun _ => rfl⟩ hS ?_
  simp only [List.setIfInBounds_toArray, List.set_cons_zero, List.set_cons_succ]
  refine anyHF_take (i := 5) (d := 31) (v := .slice A8 c8.length cap8) (by kernel_rfl) rfl (by kernel_rfl) (by kernel_rfl) (by kernel_rfl) rfl (fun _ _ _ h => h) ⟨Or.inl ⟨by rfl, fun w hS => by have h0 := hS; go_simp⟩, fun _ => rfl⟩ hS ?_
  simp only [List.setIfInBounds_toArray, List.set_cons_zero, List.set_cons_succ]
  refine anyHF_take (i := 7) (d := 33) (v := .slice (some ⟨b1, off1, none⟩) N cap) (by kernel_rfl) rfl (by kernel_rfl) (by kernel_rfl) (by kernel_rfl) rfl (fun _ _ _ h => h) ⟨Or.inl ⟨by rfl, fun w hS => by have h0 := hS; go_simp⟩, fun _ => rfl⟩ hS ?_
  simp only [List.setIfInBounds_toArray, List.set_cons_zero, List.set_cons_succ]
  refine anyHF_take (i := 8) (d := 34) (v := .int .i64 p) (by kernel_rfl) rfl (by kernel_rfl) (by kernel_rfl) (by kernel_rfl) rfl (fun _ _ _ h => h) ⟨Or.inl ⟨by rfl, fun w hS => by have h0 := hS; go_simp⟩, fun _ => rfl⟩ hS ?_
  simp only [List.setIfInBounds_toArray, List.set_cons_zero, List.set_cons_succ]
  refine anyHF_take (i := 9) (d := 35) (v := .int .i64 (P1 : Int)) (by kernel_rfl) rfl (by kernel_rfl) (by kernel_rfl) (by kernel_rfl) rfl (fun _ _ _ h => h) ⟨Or.inl ⟨by rfl, fun w hS => by have h0 := hS; go_simp⟩, fun _ => rfl⟩ hS ?_
  simp only [List.setIfInBounds_toArray, List.set_cons_zero, List.set_cons_succ]
  refine anyHF_take (i := 10) (d := 36) (v := .slice (some ⟨b1, off1, none⟩) P1 cap) (by kernel_rfl) rfl (by kernel_rfl) (by kernel_rfl) (by kernel_rfl) rfl (fun _ _ _ h => h) ⟨Or.inl ⟨by rfl, fun w hS => by have h0 := hS; go_simp⟩, fun _ => rfl⟩ hS ?_
  simp only [List.setIfInBounds_toArray, List.set_cons_zero, List.set_cons_succ]
  refine anyHF_one (i := 6) (by kernel_rfl) rfl (by kernel_rfl) (by rfl) ?_
  have hB23 : Below w2.heap.size w2 ((w2.alloc (.cells #[.slice A8 c8.length cap8] 50)).drew) := (below_one w2 _).drew
  have b3 : Blk ((w2.alloc (.cells #[.slice A8 c8.length cap8] 50)).drew) w2.heap.size 50 #[.slice A8 c8.length cap8] := Blk.new w2 _ _
  clear hS
  have hS : (fun V : World => V.cell? ⟨b1, off1 + P1, none⟩ = some (.slice A8 c8.length cap8)) ((w2.alloc (.cells #[.slice A8 c8.length cap8] 50)).drew) := (hB23.cell (p := ⟨b1, off1 + P1, none⟩) (Nat.lt_of_lt_of_le hb1 hBw.size)).trans i8
  have hs3 : ((w2.alloc (.cells #[.slice A8 c8.length cap8] 50)).drew).heap.size = w2.heap.size + 1 := by simp
  gi_wp2
  try (refine ⟨hS, ?_⟩)
  generalize ((w2.alloc (.cells #[.slice A8 c8.length cap8] 50)).drew) = w3 at *
  refine anyHF_one (i := 11) (by kernel_rfl) rfl (by kernel_rfl) (by rfl) ?_
  have hBw3 := below_in hBw hB23
  have HROW : Hid (RowC (fun _ => True) w3 w2.heap.size (.slice (some ⟨w2.heap.size, 0, none⟩) 1 1) [c8]) := RowG.one b3 (Nat.le_refl _) (manyR.imp (manyR_iff.2 (HM8.out w3 hBw3)) fun b hb => by have h1 : b < w.heap.size := hb; have h2 := hBw.size; exact ⟨by omega, fun e => by injection e with e; have e2 : b = w2.heap.size := e; omega, trivial⟩)
  have HCX : Hid (colsR.R (fun b => b < w3.heap.size ∧ some b ≠ (Value.slice (some ⟨w2.heap.size, 0, none⟩) 1 1).ownBlock ∧ True) w3 (.slice (some ⟨b1, off1, none⟩) P1 cap) ct) := colsR.imp (colsR_iff.2 (HCT.out w3 hBw3)) fun b hb => by have h1 : b < w.heap.size := hb; have h2 := hBw.size; exact ⟨by omega, fun e => by injection e with e; have e2 : b = w2.heap.size := e; omega, trivial⟩
  refine opIn_appC (T := 22) (v := .slice (some ⟨w2.heap.size, 0, none⟩) 1 1) (v2 := .slice (some ⟨b1, off1, none⟩) P1 cap) _ (.tmp 32) (.tmp 36) rfl Tryz.underlying22 [c8] ct rfl HROW.out rfl HCX.out (by have := HTKL.out; omega) (by simp) (by have := HTKL.out; omega) (by omega) ?_
  intro v' w4 hrow4 hgrow4
  have hB24 : Below w2.heap.size w2 w4 := below_grown hB23 hgrow4 (by omega) (fun g e => by injection e with e; have e2 : w2.heap.size = g := e; omega)
  have hc4 := RowC.cols hrow4
  have hBw4 := below_in hBw hB24
  clear hS
  have hS : (fun V : World => V.cell? ⟨b1, off1 + P1, none⟩ = some (.slice A8 c8.length cap8)) w4 := (hBw4.cell (p := ⟨b1, off1 + P1, none⟩) hb1).trans HU8.out
  obtain ⟨A4, cp4, hv4, _, _⟩ := id hc4
  have HL4 : Hid (([c8] ++ ct).length = P1 + 1) := by unfold Hid; rw [List.length_append, HTKL.out]; simp; omega
  rw [HL4.out] at hv4
  subst hv4
  clear hrow4 HROW HCX hgrow4 b3
  gi_wp2_with fail
  refine anyHF_one (i := 12) (by kernel_rfl) rfl (by kernel_rfl) (by rfl) ?_
  gi_wp2_with fail
  refine ⟨trivial, (callsIn_wide.2 (HE2.out _ _ (hL.next hBw4) hc4)).mono ?_⟩
  rintro e w5 ⟨y, rfl, hy, hB45⟩
  obtain ⟨by_, oy, cy2, hy2, _, hby, hyr⟩ := hy.at_ (by simp)
  have hy3 : y = .slice (some ⟨by_, oy, none⟩) 3 cy2 := hy2
  subst hy3
  have hB25 := below_in hB24 hB45
  have hBw5 := below_in hBw hB25
  clear hS
  have hS : (fun V : World => V.cell? ⟨b1, off1 + P1, none⟩ = some (.slice A8 c8.length cap8)) w5 := (hBw5.cell (p := ⟨b1, off1 + P1, none⟩) hb1).trans HU8.out
  clear hc4 hB45 hB24 hBw4
  gi_wp2
  refine anyHF_take (i := 13) (d := 25) (v := .tuple #[.slice (some ⟨by_, oy, none⟩) 3 cy2, .int .i64 0]) (by kernel_rfl) rfl (by kernel_rfl) (by kernel_rfl) (by kernel_rfl) rfl (fun _ _ _ h => h) ⟨Or.inl ⟨by rfl, fun w hS => by have h0 := hS; go_simp⟩, fun _ => rfl⟩ hS ?_
  simp only [List.setIfInBounds_toArray, List.set_cons_zero, List.set_cons_succ]
  refine anyHF_take (i := 14) (d := 39) (v := .slice (some ⟨by_, oy, none⟩) 3 cy2) (by kernel_rfl) rfl (by kernel_rfl) (by kernel_rfl) (by kernel_rfl) rfl (fun _ _ _ h => h) ⟨Or.inl ⟨by rfl, fun w hS => by have h0 := hS; go_simp⟩, fun _ => rfl⟩ hS ?_
  simp only [List.setIfInBounds_toArray, List.set_cons_zero, List.set_cons_succ]
  refine anyHF_take (i := 15) (d := 40) (v := .int .i64 0) (by kernel_rfl) rfl (by kernel_rfl) (by kernel_rfl) (by kernel_rfl) rfl (fun _ _ _ h => h) ⟨Or.inl ⟨by rfl, fun w hS => by have h0 := hS; go_simp⟩, fun _ => rfl⟩ hS ?_
  simp only [List.setIfInBounds_toArray, List.set_cons_zero, List.set_cons_succ]
  refine anyHF_one (i := 16) (by kernel_rfl) rfl (by kernel_rfl) (by rfl) ?_
  gi_wp2
  refine anyHF_one (i := 17) (by kernel_rfl) rfl (by kernel_rfl) (by rfl) ?_
  gi_wp2
  refine anyHF_done (by kernel_rfl) ?_ _
  refine NoPanic.normal ?_
  clear hS
  go_wp2_with fail
  obtain ⟨ux0, hx0, hxm0⟩ := hxr 0 (by simp)
  obtain ⟨ux1, hx1, hxm1⟩ := hxr 1 (by simp)
  obtain ⟨uy0, hy0, hym0⟩ := hyr 0 (by simp)
  obtain ⟨uy1, hy1, hym1⟩ := hyr 1 (by simp)
  obtain ⟨ux2, hx2, hxm2⟩ := hxr 2 (by simp)
  obtain ⟨uy2, hy2, hym2⟩ := hyr 2 (by simp)
  rw [Nat.add_zero] at hx0 hy0
  replace hxm0 : Many w2.heap.size w2 ux0 rm := hxm0
  replace hxm1 : Many w2.heap.size w2 ux1 dm := hxm1
  replace hym0 : Many w5.heap.size w5 uy0 rm := hym0
  replace hym1 : Many w5.heap.size w5 uy1 tu := hym1
  replace hxm2 : Many w2.heap.size w2 ux2 sm := hxm2
  replace hym2 : Many w5.heap.size w5 uy2 ts := hym2
  obtain ⟨Ar, cr, rfl, _, _⟩ := id hxm0
  obtain ⟨Ad, cd, rfl, _, _⟩ := id hxm1
  obtain ⟨Ay, cy, rfl, _, _⟩ := id hym0
  obtain ⟨At, ct2, rfl, _, _⟩ := id hym1
  obtain ⟨Ag, cg, rfl, _, _⟩ := id hxm2
  obtain ⟨Aq, cq3, rfl, _, _⟩ := id hym2
  have hw25 := hB25.size
  have HSS := Lib.hid (fun (V : World) (hV : Below w5.heap.size w5 V) => (⟨((below_in hBw5 hV).cell (p := ⟨b1, off1, none⟩) hb1).trans HU9.out, ((below_in hB25 hV).cell (p := ⟨bx, ox, none⟩) hbx).trans hx0, ((below_in hB25 hV).cell (p := ⟨bx, ox + 1, none⟩) hbx).trans hx1, (hV.cell (p := ⟨by_, oy, none⟩) hby).trans hy0, (hV.cell (p := ⟨by_, oy + 1, none⟩) hby).trans hy1, ((below_in hB25 hV).cell (p := ⟨bx, ox + 2, none⟩) hbx).trans hx2, (hV.cell (p := ⟨by_, oy + 2, none⟩) hby).trans hy2⟩ : (fun V : World => V.cell? ⟨b1, off1, none⟩ = some (.slice A9 c9.length cap9) ∧ V.cell? ⟨bx, ox, none⟩ = some (.slice Ar rm.length cr) ∧ V.cell? ⟨bx, ox + 1, none⟩ = some (.slice Ad dm.length cd) ∧ V.cell? ⟨by_, oy, none⟩ = some (.slice Ay rm.length cy) ∧ V.cell? ⟨by_, oy + 1, none⟩ = some (.slice At tu.length ct2) ∧ V.cell? ⟨bx, ox + 2, none⟩ = some (.slice Ag sm.length cg) ∧ V.cell? ⟨by_, oy + 2, none⟩ = some (.slice Aq ts.length cq3)) V))
  have HX0 := Lib.hid (fun (V : World) (hV : Below w5.heap.size w5 V) => (hxm0.below (below_in hB25 hV)).more (Nat.le_trans hw25 hV.size))
  have HX1 := Lib.hid (fun (V : World) (hV : Below w5.heap.size w5 V) => (hxm1.below (below_in hB25 hV)).more (Nat.le_trans hw25 hV.size))
  have HY0 := Lib.hid (fun (V : World) (hV : Below w5.heap.size w5 V) => (hym0.below hV).more hV.size)
  have HY1 := Lib.hid (fun (V : World) (hV : Below w5.heap.size w5 V) => (hym1.below hV).more hV.size)
  have HX2 := Lib.hid (fun (V : World) (hV : Below w5.heap.size w5 V) => (hxm2.below (below_in hB25 hV)).more (Nat.le_trans hw25 hV.size))
  have HY2 := Lib.hid (fun (V : World) (hV : Below w5.heap.size w5 V) => (hym2.below hV).more hV.size)
  clear hxr hyr hx0 hx1 hy0 hy1 hxm0 hxm1 hym0 hym1 hy i8 hx2 hy2 hxm2 hym2
  have q0 : (0 : Int) < (N : Int) := by omega
  have hw0 : IntKind.i64.wrap 0 = 0 := IntWalk.i64_in _ (by omega)
  have hS : (fun V : World => V.cell? ⟨b1, off1, none⟩ = some (.slice A9 c9.length cap9) ∧ V.cell? ⟨bx, ox, none⟩ = some (.slice Ar rm.length cr) ∧ V.cell? ⟨bx, ox + 1, none⟩ = some (.slice Ad dm.length cd) ∧ V.cell? ⟨by_, oy, none⟩ = some (.slice Ay rm.length cy) ∧ V.cell? ⟨by_, oy + 1, none⟩ = some (.slice At tu.length ct2) ∧ V.cell? ⟨bx, ox + 2, none⟩ = some (.slice Ag sm.length cg) ∧ V.cell? ⟨by_, oy + 2, none⟩ = some (.slice Aq ts.length cq3)) w5.drew := HSS.out _ (Below.refl _ _).drew
  refine (wpIn_wide (n := 12)).1 (wpIn_mono (region_HF (Q := NoPanic _) (S := (fun V : World => V.cell? ⟨b1, off1, none⟩ = some (.slice A9 c9.length cap9) ∧ V.cell? ⟨bx, ox, none⟩ = some (.slice Ar rm.length cr) ∧ V.cell? ⟨bx, ox + 1, none⟩ = some (.slice Ad dm.length cd) ∧ V.cell? ⟨by_, oy, none⟩ = some (.slice Ay rm.length cy) ∧ V.cell? ⟨by_, oy + 1, none⟩ = some (.slice At tu.length ct2) ∧ V.cell? ⟨bx, ox + 2, none⟩ = some (.slice Ag sm.length cg) ∧ V.cell? ⟨by_, oy + 2, none⟩ = some (.slice Aq ts.length cq3))) (by kernel_rfl) ?_) NoPanic.imp)
  refine anyHF_take (i := 0) (d := 41) (v := .int .i64 0) (by kernel_rfl) rfl (by kernel_rfl) (by kernel_rfl) (by kernel_rfl) rfl (fun _ _ _ h => h) ⟨Or.inl ⟨by rfl, fun w hS => by obtain ⟨h0, h1, h2, h3, h4⟩ := hS; go_simp⟩, fun _ => rfl⟩ hS ?_
  simp only [List.setIfInBounds_toArray, List.set_cons_zero, List.set_cons_succ]
  refine anyHF_take (i := 2) (d := 43) (v := .int .i64 0) (by kernel_rfl) rfl (by kernel_rfl) (by kernel_rfl) (by kernel_rfl) rfl (fun _ _ _ h => h) ⟨Or.inl ⟨by rfl, fun w hS => by obtain ⟨h0, h1, h2, h3, h4⟩ := hS; go_simp⟩, fun _ => rfl⟩ hS ?_
  simp only [List.setIfInBounds_toArray, List.set_cons_zero, List.set_cons_succ]
  refine anyHF_one (i := 1) (by kernel_rfl) rfl (by kernel_rfl) (by rfl) ?_
  gi_wp2_with fail
  refine ⟨trivial, (callsIn_wide.2 (T.num_any _ _)).mono ?_⟩
  rintro e w9 ⟨rfl, rfl⟩
  gi_wp2
  try (refine ⟨hS, ?_⟩)
  refine anyHF_one (i := 3) (by kernel_rfl) rfl (by kernel_rfl) (by rfl) ?_
  gi_wp2_with fail
  refine ⟨trivial, (callsIn_wide.2 (T.num_any _ _)).mono ?_⟩
  rintro e w9 ⟨rfl, rfl⟩
  gi_wp2
  try (refine ⟨hS, ?_⟩)
  refine anyHF_take (i := 4) (d := 45) (v := .int .i64 0) (by kernel_rfl) rfl (by kernel_rfl) (by kernel_rfl) (by kernel_rfl) rfl (fun _ _ _ h => h) ⟨Or.inl ⟨by rfl, fun w hS => by obtain ⟨h0, h1, h2, h3, h4⟩ := hS; go_simp⟩, fun _ => rfl⟩ hS ?_
  simp only [List.setIfInBounds_toArray, List.set_cons_zero, List.set_cons_succ]
  refine anyHF_take (i := 5) (d := 46) (v := .bool true) (by kernel_rfl) rfl (by kernel_rfl) (by kernel_rfl) (by kernel_rfl) rfl (fun _ _ _ h => h) ⟨Or.inl ⟨by rfl, fun w hS => by obtain ⟨h0, h1, h2, h3, h4⟩ := hS; go_simp⟩, fun _ => rfl⟩ hS ?_
  simp only [List.setIfInBounds_toArray, List.set_cons_zero, List.set_cons_succ]
  refine anyHF_take (i := 6) (d := 47) (v := .bool true) (by kernel_rfl) rfl (by kernel_rfl) (by kernel_rfl) (by kernel_rfl) rfl (fun _ _ _ h => h) ⟨Or.inl ⟨by rfl, fun w hS => by obtain ⟨h0, h1, h2, h3, h4⟩ := hS; go_simp⟩, fun _ => rfl⟩ hS ?_
  simp only [List.setIfInBounds_toArray, List.set_cons_zero, List.set_cons_succ]
  refine anyHF_take (i := 7) (d := 48) (v := .slice (some ⟨bx, ox, none⟩) 3 cx2) (by kernel_rfl) rfl (by kernel_rfl) (by kernel_rfl) (by kernel_rfl) rfl (fun _ _ _ h => h) ⟨Or.inl ⟨by rfl, fun w hS => by obtain ⟨h0, h1, h2, h3, h4⟩ := hS; go_simp⟩, fun _ => rfl⟩ hS ?_
  simp only [List.setIfInBounds_toArray, List.set_cons_zero, List.set_cons_succ]
  refine anyHF_take (i := 8) (d := 49) (v := .int .i64 3) (by kernel_rfl) rfl (by kernel_rfl) (by kernel_rfl) (by kernel_rfl) rfl (fun _ _ _ h => h) ⟨Or.inl ⟨by rfl, fun w hS => by obtain ⟨h0, h1, h2, h3, h4⟩ := hS; go_simp⟩, fun _ => rfl⟩ hS ?_
  simp only [List.setIfInBounds_toArray, List.set_cons_zero, List.set_cons_succ]
  refine anyHF_take (i := 9) (d := 50) (v := .bool true) (by kernel_rfl) rfl (by kernel_rfl) (by kernel_rfl) (by kernel_rfl) rfl (fun _ _ _ h => h) ⟨Or.inl ⟨by rfl, fun w hS => by obtain ⟨h0, h1, h2, h3, h4⟩ := hS; go_simp⟩, fun _ => rfl⟩ hS ?_
  simp only [List.setIfInBounds_toArray, List.set_cons_zero, List.set_cons_succ]
  refine anyHF_take (i := 10) (d := 51) (v := .bool true) (by kernel_rfl) rfl (by kernel_rfl) (by kernel_rfl) (by kernel_rfl) rfl (fun _ _ _ h => h) ⟨Or.inl ⟨by rfl, fun w hS => by obtain ⟨h0, h1, h2, h3, h4⟩ := hS; go_simp⟩, fun _ => rfl⟩ hS ?_
  simp only [List.setIfInBounds_toArray, List.set_cons_zero, List.set_cons_succ]
  refine anyHF_take (i := 11) (d := 52) (v := .bool true) (by kernel_rfl) rfl (by kernel_rfl) (by kernel_rfl) (by kernel_rfl) rfl (fun _ _ _ h => h) ⟨Or.inl ⟨by rfl, fun w hS => by obtain ⟨h0, h1, h2, h3, h4⟩ := hS; go_simp⟩, fun _ => rfl⟩ hS ?_
  simp only [List.setIfInBounds_toArray, List.set_cons_zero, List.set_cons_succ]
  refine anyHF_take (i := 12) (d := 53) (v := .slice (some ⟨by_, oy, none⟩) 3 cy2) (by kernel_rfl) rfl (by kernel_rfl) (by kernel_rfl) (by kernel_rfl) rfl (fun _ _ _ h => h) ⟨Or.inl ⟨by rfl, fun w hS => by obtain ⟨h0, h1, h2, h3, h4⟩ := hS; go_simp⟩, fun _ => rfl⟩ hS ?_
  simp only [List.setIfInBounds_toArray, List.set_cons_zero, List.set_cons_succ]
  refine anyHF_take (i := 13) (d := 54) (v := .int .i64 3) (by kernel_rfl) rfl (by kernel_rfl) (by kernel_rfl) (by kernel_rfl) rfl (fun _ _ _ h => h) ⟨Or.inl ⟨by rfl, fun w hS => by obtain ⟨h0, h1, h2, h3, h4⟩ := hS; go_simp⟩, fun _ => rfl⟩ hS ?_
  simp only [List.setIfInBounds_toArray, List.set_cons_zero, List.set_cons_succ]
  refine anyHF_take (i := 14) (d := 55) (v := .bool true) (by kernel_rfl) rfl (by kernel_rfl) (by kernel_rfl) (by kernel_rfl) rfl (fun _ _ _ h => h) ⟨Or.inl ⟨by rfl, fun w hS => by obtain ⟨h0, h1, h2, h3, h4⟩ := hS; go_simp⟩, fun _ => rfl⟩ hS ?_
  simp only [List.setIfInBounds_toArray, List.set_cons_zero, List.set_cons_succ]
  refine anyHF_take (i := 15) (d := 56) (v := .bool true) (by kernel_rfl) rfl (by kernel_rfl) (by kernel_rfl) (by kernel_rfl) rfl (fun _ _ _ h => h) ⟨Or.inl ⟨by rfl, fun w hS => by obtain ⟨h0, h1, h2, h3, h4⟩ := hS; go_simp⟩, fun _ => rfl⟩ hS ?_
  simp only [List.setIfInBounds_toArray, List.set_cons_zero, List.set_cons_succ]
  refine anyHF_take (i := 16) (d := 57) (v := .bool true) (by kernel_rfl) rfl (by kernel_rfl) (by kernel_rfl) (by kernel_rfl) rfl (fun _ _ _ h => h) ⟨Or.inl ⟨by rfl, fun w hS => by obtain ⟨h0, h1, h2, h3, h4⟩ := hS; go_simp⟩, fun _ => rfl⟩ hS ?_
  simp only [List.setIfInBounds_toArray, List.set_cons_zero, List.set_cons_succ]
  refine anyHF_take (i := 17) (d := 58) (v := .int .i64 p) (by kernel_rfl) rfl (by kernel_rfl) (by kernel_rfl) (by kernel_rfl) rfl (fun _ _ _ h => h) ⟨Or.inl ⟨by rfl, fun w hS => by obtain ⟨h0, h1, h2, h3, h4⟩ := hS; go_simp⟩, fun _ => rfl⟩ hS ?_
  simp only [List.setIfInBounds_toArray, List.set_cons_zero, List.set_cons_succ]
  refine anyHF_take (i := 18) (d := 59) (v := .slice (some ⟨b1, off1, none⟩) N cap) (by kernel_rfl) rfl (by kernel_rfl) (by kernel_rfl) (by kernel_rfl) rfl (fun _ _ _ h => h) ⟨Or.inl ⟨by rfl, fun w hS => by obtain ⟨h0, h1, h2, h3, h4⟩ := hS; go_simp⟩, fun _ => rfl⟩ hS ?_
  simp only [List.setIfInBounds_toArray, List.set_cons_zero, List.set_cons_succ]
  refine anyHF_take (i := 19) (d := 60) (v := .pointer (some ⟨b1, off1, none⟩)) (by kernel_rfl) rfl (by kernel_rfl) (by kernel_rfl) (by kernel_rfl) rfl (fun _ _ _ h => h) ⟨Or.inl ⟨by rfl, fun w hS => by obtain ⟨h0, h1, h2, h3, h4⟩ := hS; go_simp⟩, fun _ => rfl⟩ hS ?_
  simp only [List.setIfInBounds_toArray, List.set_cons_zero, List.set_cons_succ]
  refine anyHF_take (i := 20) (d := 61) (v := .slice A9 c9.length cap9) (by kernel_rfl) rfl (by kernel_rfl) (by kernel_rfl) (by kernel_rfl) rfl (fun _ _ _ h => h) ⟨Or.inl ⟨by rfl, fun w hS => by obtain ⟨h0, h1, h2, h3, h4⟩ := hS; go_simp⟩, fun _ => rfl⟩ hS ?_
  simp only [List.setIfInBounds_toArray, List.set_cons_zero, List.set_cons_succ]
  refine anyHF_take (i := 22) (d := 63) (v := .slice (some ⟨bx, ox, none⟩) 3 cx2) (by kernel_rfl) rfl (by kernel_rfl) (by kernel_rfl) (by kernel_rfl) rfl (fun _ _ _ h => h) ⟨Or.inl ⟨by rfl, fun w hS => by obtain ⟨h0, h1, h2, h3, h4⟩ := hS; go_simp⟩, fun _ => rfl⟩ hS ?_
  simp only [List.setIfInBounds_toArray, List.set_cons_zero, List.set_cons_succ]
  refine anyHF_one (i := 21) (by kernel_rfl) rfl (by kernel_rfl) (by rfl) ?_
  have hB5 : Below w5.heap.size w5 ((w5.alloc (.cells #[.slice A9 c9.length cap9] 50)).drew) := (below_one w5 _).drew
  have b6 : Blk ((w5.alloc (.cells #[.slice A9 c9.length cap9] 50)).drew) w5.heap.size 50 #[.slice A9 c9.length cap9] := Blk.new w5 _ _
  clear hS
  have hS : (fun V : World => V.cell? ⟨b1, off1, none⟩ = some (.slice A9 c9.length cap9) ∧ V.cell? ⟨bx, ox, none⟩ = some (.slice Ar rm.length cr) ∧ V.cell? ⟨bx, ox + 1, none⟩ = some (.slice Ad dm.length cd) ∧ V.cell? ⟨by_, oy, none⟩ = some (.slice Ay rm.length cy) ∧ V.cell? ⟨by_, oy + 1, none⟩ = some (.slice At tu.length ct2) ∧ V.cell? ⟨bx, ox + 2, none⟩ = some (.slice Ag sm.length cg) ∧ V.cell? ⟨by_, oy + 2, none⟩ = some (.slice Aq ts.length cq3)) ((w5.alloc (.cells #[.slice A9 c9.length cap9] 50)).drew) := HSS.out _ hB5
  have hs6 : ((w5.alloc (.cells #[.slice A9 c9.length cap9] 50)).drew).heap.size = w5.heap.size + 1 := by simp
  gi_wp2
  try (refine ⟨hS, ?_⟩)
  generalize ((w5.alloc (.cells #[.slice A9 c9.length cap9] 50)).drew) = w6 at *
  refine anyHF_one (i := 23) (by kernel_rfl) rfl (by kernel_rfl) (by rfl) ?_
  have hBw6 := below_in hBw5 hB5
  have hB26 := below_in hB25 hB5
  have HROW : Hid (RowC (fun _ => True) w6 w5.heap.size (.slice (some ⟨w5.heap.size, 0, none⟩) 1 1) [c9]) := RowG.one b6 (Nat.le_refl _) (manyR.imp (manyR_iff.2 (HM9.out w6 hBw6)) fun b hb => by have h1 : b < w.heap.size := hb; have h2 := hBw5.size; exact ⟨by omega, fun e => by injection e with e; have e2 : b = w5.heap.size := e; omega, trivial⟩)
  have HCX : Hid (colsR.R (fun b => b < w6.heap.size ∧ some b ≠ (Value.slice (some ⟨w5.heap.size, 0, none⟩) 1 1).ownBlock ∧ True) w6 (.slice (some ⟨bx, ox, none⟩) 3 cx2) [rm, dm, sm]) := colsR.imp (colsR_iff.2 (hx.below hB26)) fun b hb => by have h1 : b < w2.heap.size := hb; have h2 := hB25.size; exact ⟨by omega, fun e => by injection e with e; have e2 : b = w5.heap.size := e; omega, trivial⟩
  refine opIn_appC (T := 22) (v := .slice (some ⟨w5.heap.size, 0, none⟩) 1 1) (v2 := .slice (some ⟨bx, ox, none⟩) 3 cx2) _ (.tmp 62) (.tmp 63) rfl Tryz.underlying22 [c9] [rm, dm, sm] rfl HROW.out rfl HCX.out (by simp) (by simp) (by simp) (by omega) ?_
  intro v' w7 hrow7 hgrow7
  replace hB5 : Below w5.heap.size w5 w7 := below_grown hB5 hgrow7 (by omega) (fun g e => by injection e with e; have e2 : w5.heap.size = g := e; omega)
  have hc7 := RowC.cols hrow7
  clear hS
  have hS : (fun V : World => V.cell? ⟨b1, off1, none⟩ = some (.slice A9 c9.length cap9) ∧ V.cell? ⟨bx, ox, none⟩ = some (.slice Ar rm.length cr) ∧ V.cell? ⟨bx, ox + 1, none⟩ = some (.slice Ad dm.length cd) ∧ V.cell? ⟨by_, oy, none⟩ = some (.slice Ay rm.length cy) ∧ V.cell? ⟨by_, oy + 1, none⟩ = some (.slice At tu.length ct2) ∧ V.cell? ⟨bx, ox + 2, none⟩ = some (.slice Ag sm.length cg) ∧ V.cell? ⟨by_, oy + 2, none⟩ = some (.slice Aq ts.length cq3)) w7 := HSS.out _ hB5
  obtain ⟨A7, cp7, hv7, _, _⟩ := id hc7
  have hv8 : v' = .slice A7 4 cp7 := hv7
  subst hv8
  clear hv7 hrow7 HROW HCX hgrow7 b6 hBw6 hB26 hs6
  gi_wp2_with fail
  try (refine ⟨hS, ?_⟩)
  refine anyHF_one (i := 24) (by kernel_rfl) rfl (by kernel_rfl) (by rfl) ?_
  gi_wp2_with fail
  refine ⟨trivial, (callsIn_wide.2 (HRT.out _ _ hc7)).mono ?_⟩
  rintro e wn ⟨rfl, hBn⟩
  replace hB5 := below_in hB5 hBn
  clear hc7
  clear hS hBn
  have hS : (fun V : World => V.cell? ⟨b1, off1, none⟩ = some (.slice A9 c9.length cap9) ∧ V.cell? ⟨bx, ox, none⟩ = some (.slice Ar rm.length cr) ∧ V.cell? ⟨bx, ox + 1, none⟩ = some (.slice Ad dm.length cd) ∧ V.cell? ⟨by_, oy, none⟩ = some (.slice Ay rm.length cy) ∧ V.cell? ⟨by_, oy + 1, none⟩ = some (.slice At tu.length ct2) ∧ V.cell? ⟨bx, ox + 2, none⟩ = some (.slice Ag sm.length cg) ∧ V.cell? ⟨by_, oy + 2, none⟩ = some (.slice Aq ts.length cq3)) wn := HSS.out _ hB5
  gi_wp2
  try (refine ⟨hS, ?_⟩)
  refine anyHF_take (i := 25) (d := 66) (v := .bool true) (by kernel_rfl) rfl (by kernel_rfl) (by kernel_rfl) (by kernel_rfl) rfl (fun _ _ _ h => h) ⟨Or.inl ⟨by rfl, fun w hS => by obtain ⟨h0, h1, h2, h3, h4⟩ := hS; go_simp⟩, fun _ => rfl⟩ hS ?_
  simp only [List.setIfInBounds_toArray, List.set_cons_zero, List.set_cons_succ]
  refine anyHF_take (i := 26) (d := 67) (v := .bool true) (by kernel_rfl) rfl (by kernel_rfl) (by kernel_rfl) (by kernel_rfl) rfl (fun _ _ _ h => h) ⟨Or.inl ⟨by rfl, fun w hS => by obtain ⟨h0, h1, h2, h3, h4⟩ := hS; go_simp⟩, fun _ => rfl⟩ hS ?_
  simp only [List.setIfInBounds_toArray, List.set_cons_zero, List.set_cons_succ]
  refine anyHF_take (i := 27) (d := 68) (v := .slice (some ⟨by_, oy, none⟩) 3 cy2) (by kernel_rfl) rfl (by kernel_rfl) (by kernel_rfl) (by kernel_rfl) rfl (fun _ _ _ h => h) ⟨Or.inl ⟨by rfl, fun w hS => by obtain ⟨h0, h1, h2, h3, h4⟩ := hS; go_simp⟩, fun _ => rfl⟩ hS ?_
  simp only [List.setIfInBounds_toArray, List.set_cons_zero, List.set_cons_succ]
  refine anyHF_take (i := 28) (d := 69) (v := .pointer (some ⟨by_, oy, none⟩)) (by kernel_rfl) rfl (by kernel_rfl) (by kernel_rfl) (by kernel_rfl) rfl (fun _ _ _ h => h) ⟨Or.inl ⟨by rfl, fun w hS => by obtain ⟨h0, h1, h2, h3, h4⟩ := hS; go_simp⟩, fun _ => rfl⟩ hS ?_
  simp only [List.setIfInBounds_toArray, List.set_cons_zero, List.set_cons_succ]
  refine anyHF_take (i := 29) (d := 70) (v := .slice Ay rm.length cy) (by kernel_rfl) rfl (by kernel_rfl) (by kernel_rfl) (by kernel_rfl) rfl (fun _ _ _ h => h) ⟨Or.inl ⟨by rfl, fun w hS => by obtain ⟨h0, h1, h2, h3, h4⟩ := hS; go_simp⟩, fun _ => rfl⟩ hS ?_
  simp only [List.setIfInBounds_toArray, List.set_cons_zero, List.set_cons_succ]
  refine anyHF_take (i := 30) (d := 71) (v := .slice (some ⟨bx, ox, none⟩) 3 cx2) (by kernel_rfl) rfl (by kernel_rfl) (by kernel_rfl) (by kernel_rfl) rfl (fun _ _ _ h => h) ⟨Or.inl ⟨by rfl, fun w hS => by obtain ⟨h0, h1, h2, h3, h4⟩ := hS; go_simp⟩, fun _ => rfl⟩ hS ?_
  simp only [List.setIfInBounds_toArray, List.set_cons_zero, List.set_cons_succ]
  refine anyHF_take (i := 31) (d := 72) (v := .pointer (some ⟨bx, ox, none⟩)) (by kernel_rfl) rfl (by kernel_rfl) (by kernel_rfl) (by kernel_rfl) rfl (fun _ _ _ h => h) ⟨Or.inl ⟨by rfl, fun w hS => by obtain ⟨h0, h1, h2, h3, h4⟩ := hS; go_simp⟩, fun _ => rfl⟩ hS ?_
  simp only [List.setIfInBounds_toArray, List.set_cons_zero, List.set_cons_succ]
  refine anyHF_take (i := 32) (d := 73) (v := .slice Ar rm.length cr) (by kernel_rfl) rfl (by kernel_rfl) (by kernel_rfl) (by kernel_rfl) rfl (fun _ _ _ h => h) ⟨Or.inl ⟨by rfl, fun w hS => by obtain ⟨h0, h1, h2, h3, h4⟩ := hS; go_simp⟩, fun _ => rfl⟩ hS ?_
  simp only [List.setIfInBounds_toArray, List.set_cons_zero, List.set_cons_succ]
  refine anyHF_one (i := 33) (by kernel_rfl) rfl (by kernel_rfl) (by rfl) ?_
  gi_wp2_with fail
  refine ⟨trivial, (callsIn_wide.2 (HS1.out _ _ _ (HY0.out _ hB5) (HX0.out _ hB5))).mono ?_⟩
  rintro e wn ⟨rfl, hBn⟩
  replace hB5 := below_in hB5 hBn
  clear hS hBn
  have hS : (fun V : World => V.cell? ⟨b1, off1, none⟩ = some (.slice A9 c9.length cap9) ∧ V.cell? ⟨bx, ox, none⟩ = some (.slice Ar rm.length cr) ∧ V.cell? ⟨bx, ox + 1, none⟩ = some (.slice Ad dm.length cd) ∧ V.cell? ⟨by_, oy, none⟩ = some (.slice Ay rm.length cy) ∧ V.cell? ⟨by_, oy + 1, none⟩ = some (.slice At tu.length ct2) ∧ V.cell? ⟨bx, ox + 2, none⟩ = some (.slice Ag sm.length cg) ∧ V.cell? ⟨by_, oy + 2, none⟩ = some (.slice Aq ts.length cq3)) wn := HSS.out _ hB5
  gi_wp2
  try (refine ⟨hS, ?_⟩)
  refine anyHF_take (i := 34) (d := 75) (v := .bool true) (by kernel_rfl) rfl (by kernel_rfl) (by kernel_rfl) (by kernel_rfl) rfl (fun _ _ _ h => h) ⟨Or.inl ⟨by rfl, fun w hS => by obtain ⟨h0, h1, h2, h3, h4⟩ := hS; go_simp⟩, fun _ => rfl⟩ hS ?_
  simp only [List.setIfInBounds_toArray, List.set_cons_zero, List.set_cons_succ]
  refine anyHF_take (i := 35) (d := 76) (v := .bool true) (by kernel_rfl) rfl (by kernel_rfl) (by kernel_rfl) (by kernel_rfl) rfl (fun _ _ _ h => h) ⟨Or.inl ⟨by rfl, fun w hS => by obtain ⟨h0, h1, h2, h3, h4⟩ := hS; go_simp⟩, fun _ => rfl⟩ hS ?_
  simp only [List.setIfInBounds_toArray, List.set_cons_zero, List.set_cons_succ]
  refine anyHF_take (i := 36) (d := 77) (v := .slice (some ⟨by_, oy, none⟩) 3 cy2) (by kernel_rfl) rfl (by kernel_rfl) (by kernel_rfl) (by kernel_rfl) rfl (fun _ _ _ h => h) ⟨Or.inl ⟨by rfl, fun w hS => by obtain ⟨h0, h1, h2, h3, h4⟩ := hS; go_simp⟩, fun _ => rfl⟩ hS ?_
  simp only [List.setIfInBounds_toArray, List.set_cons_zero, List.set_cons_succ]
  refine anyHF_take (i := 37) (d := 78) (v := .pointer (some ⟨by_, oy + 1, none⟩)) (by kernel_rfl) rfl (by kernel_rfl) (by kernel_rfl) (by kernel_rfl) rfl (fun _ _ _ h => h) ⟨Or.inl ⟨by rfl, fun w hS => by obtain ⟨h0, h1, h2, h3, h4⟩ := hS; go_simp⟩, fun _ => rfl⟩ hS ?_
  simp only [List.setIfInBounds_toArray, List.set_cons_zero, List.set_cons_succ]
  refine anyHF_take (i := 38) (d := 79) (v := .slice At tu.length ct2) (by kernel_rfl) rfl (by kernel_rfl) (by kernel_rfl) (by kernel_rfl) rfl (fun _ _ _ h => h) ⟨Or.inl ⟨by rfl, fun w hS => by obtain ⟨h0, h1, h2, h3, h4⟩ := hS; go_simp⟩, fun _ => rfl⟩ hS ?_
  simp only [List.setIfInBounds_toArray, List.set_cons_zero, List.set_cons_succ]
  refine anyHF_take (i := 39) (d := 80) (v := .int .i64 p) (by kernel_rfl) rfl (by kernel_rfl) (by kernel_rfl) (by kernel_rfl) rfl (fun _ _ _ h => h) ⟨Or.inl ⟨by rfl, fun w hS => by obtain ⟨h0, h1, h2, h3, h4⟩ := hS; go_simp⟩, fun _ => rfl⟩ hS ?_
  simp only [List.setIfInBounds_toArray, List.set_cons_zero, List.set_cons_succ]
  refine anyHF_take (i := 40) (d := 81) (v := .slice (some ⟨bx, ox, none⟩) 3 cx2) (by kernel_rfl) rfl (by kernel_rfl) (by kernel_rfl) (by kernel_rfl) rfl (fun _ _ _ h => h) ⟨Or.inl ⟨by rfl, fun w hS => by obtain ⟨h0, h1, h2, h3, h4⟩ := hS; go_simp⟩, fun _ => rfl⟩ hS ?_
  simp only [List.setIfInBounds_toArray, List.set_cons_zero, List.set_cons_succ]
  refine anyHF_take (i := 41) (d := 82) (v := .pointer (some ⟨bx, ox + 1, none⟩)) (by kernel_rfl) rfl (by kernel_rfl) (by kernel_rfl) (by kernel_rfl) rfl (fun _ _ _ h => h) ⟨Or.inl ⟨by rfl, fun w hS => by obtain ⟨h0, h1, h2, h3, h4⟩ := hS; go_simp⟩, fun _ => rfl⟩ hS ?_
  simp only [List.setIfInBounds_toArray, List.set_cons_zero, List.set_cons_succ]
  refine anyHF_take (i := 42) (d := 83) (v := .slice Ad dm.length cd) (by kernel_rfl) rfl (by kernel_rfl) (by kernel_rfl) (by kernel_rfl) rfl (fun _ _ _ h => h) ⟨Or.inl ⟨by rfl, fun w hS => by obtain ⟨h0, h1, h2, h3, h4⟩ := hS; go_simp⟩, fun _ => rfl⟩ hS ?_
  simp only [List.setIfInBounds_toArray, List.set_cons_zero, List.set_cons_succ]
  refine anyHF_one (i := 43) (by kernel_rfl) rfl (by kernel_rfl) (by rfl) ?_
  gi_wp2_with fail
  refine ⟨trivial, (callsIn_wide.2 (HT.out _ _ (HX1.out _ hB5))).mono ?_⟩
  rintro e wn ⟨u, rfl, hu, hBn⟩
  replace hB5 := below_in hB5 hBn
  obtain ⟨Au, cu, hue, _, _⟩ := id hu
  subst hue
  clear hS hBn
  have hS : (fun V : World => V.cell? ⟨b1, off1, none⟩ = some (.slice A9 c9.length cap9) ∧ V.cell? ⟨bx, ox, none⟩ = some (.slice Ar rm.length cr) ∧ V.cell? ⟨bx, ox + 1, none⟩ = some (.slice Ad dm.length cd) ∧ V.cell? ⟨by_, oy, none⟩ = some (.slice Ay rm.length cy) ∧ V.cell? ⟨by_, oy + 1, none⟩ = some (.slice At tu.length ct2) ∧ V.cell? ⟨bx, ox + 2, none⟩ = some (.slice Ag sm.length cg) ∧ V.cell? ⟨by_, oy + 2, none⟩ = some (.slice Aq ts.length cq3)) wn := HSS.out _ hB5
  gi_wp2
  try (refine ⟨hS, ?_⟩)
  refine anyHF_one (i := 44) (by kernel_rfl) rfl (by kernel_rfl) (by rfl) ?_
  gi_wp2_with fail
  refine ⟨trivial, (callsIn_wide.2 (HS2.out _ _ _ (HY1.out _ hB5) hu)).mono ?_⟩
  rintro e wn ⟨rfl, hBn⟩
  replace hB5 := below_in hB5 hBn
  clear hu
  clear hS hBn
  have hS : (fun V : World => V.cell? ⟨b1, off1, none⟩ = some (.slice A9 c9.length cap9) ∧ V.cell? ⟨bx, ox, none⟩ = some (.slice Ar rm.length cr) ∧ V.cell? ⟨bx, ox + 1, none⟩ = some (.slice Ad dm.length cd) ∧ V.cell? ⟨by_, oy, none⟩ = some (.slice Ay rm.length cy) ∧ V.cell? ⟨by_, oy + 1, none⟩ = some (.slice At tu.length ct2) ∧ V.cell? ⟨bx, ox + 2, none⟩ = some (.slice Ag sm.length cg) ∧ V.cell? ⟨by_, oy + 2, none⟩ = some (.slice Aq ts.length cq3)) wn := HSS.out _ hB5
  gi_wp2
  try (refine ⟨hS, ?_⟩)
  refine anyHF_take (i := 45) (d := 86) (v := .bool true) (by kernel_rfl) rfl (by kernel_rfl) (by kernel_rfl) (by kernel_rfl) rfl (fun _ _ _ h => h) ⟨Or.inl ⟨by rfl, fun w hS => by obtain ⟨h0, h1, h2, h3, h4⟩ := hS; go_simp⟩, fun _ => rfl⟩ hS ?_
  simp only [List.setIfInBounds_toArray, List.set_cons_zero, List.set_cons_succ]
  refine anyHF_take (i := 46) (d := 87) (v := .bool true) (by kernel_rfl) rfl (by kernel_rfl) (by kernel_rfl) (by kernel_rfl) rfl (fun _ _ _ h => h) ⟨Or.inl ⟨by rfl, fun w hS => by obtain ⟨h0, h1, h2, h3, h4⟩ := hS; go_simp⟩, fun _ => rfl⟩ hS ?_
  simp only [List.setIfInBounds_toArray, List.set_cons_zero, List.set_cons_succ]
  refine anyHF_take (i := 47) (d := 88) (v := .slice (some ⟨by_, oy, none⟩) 3 cy2) (by kernel_rfl) rfl (by kernel_rfl) (by kernel_rfl) (by kernel_rfl) rfl (fun _ _ _ h => h) ⟨Or.inl ⟨by rfl, fun w hS => by obtain ⟨h0, h1, h2, h3, h4⟩ := hS; go_simp⟩, fun _ => rfl⟩ hS ?_
  simp only [List.setIfInBounds_toArray, List.set_cons_zero, List.set_cons_succ]
  refine anyHF_take (i := 48) (d := 89) (v := .pointer (some ⟨by_, oy + 2, none⟩)) (by kernel_rfl) rfl (by kernel_rfl) (by kernel_rfl) (by kernel_rfl) rfl (fun _ _ _ h => h) ⟨Or.inl ⟨by rfl, fun w hS => by obtain ⟨h0, h1, h2, h3, h4⟩ := hS; go_simp⟩, fun _ => rfl⟩ hS ?_
  simp only [List.setIfInBounds_toArray, List.set_cons_zero, List.set_cons_succ]
  refine anyHF_take (i := 49) (d := 90) (v := .slice Aq ts.length cq3) (by kernel_rfl) rfl (by kernel_rfl) (by kernel_rfl) (by kernel_rfl) rfl (fun _ _ _ h => h) ⟨Or.inl ⟨by rfl, fun w hS => by obtain ⟨h0, h1, h2, h3, h4⟩ := hS; go_simp⟩, fun _ => rfl⟩ hS ?_
  simp only [List.setIfInBounds_toArray, List.set_cons_zero, List.set_cons_succ]
  refine anyHF_take (i := 50) (d := 91) (v := .int .i64 p) (by kernel_rfl) rfl (by kernel_rfl) (by kernel_rfl) (by kernel_rfl) rfl (fun _ _ _ h => h) ⟨Or.inl ⟨by rfl, fun w hS => by obtain ⟨h0, h1, h2, h3, h4⟩ := hS; go_simp⟩, fun _ => rfl⟩ hS ?_
  simp only [List.setIfInBounds_toArray, List.set_cons_zero, List.set_cons_succ]
  refine anyHF_take (i := 51) (d := 92) (v := .slice (some ⟨bx, ox, none⟩) 3 cx2) (by kernel_rfl) rfl (by kernel_rfl) (by kernel_rfl) (by kernel_rfl) rfl (fun _ _ _ h => h) ⟨Or.inl ⟨by rfl, fun w hS => by obtain ⟨h0, h1, h2, h3, h4⟩ := hS; go_simp⟩, fun _ => rfl⟩ hS ?_
  simp only [List.setIfInBounds_toArray, List.set_cons_zero, List.set_cons_succ]
  refine anyHF_take (i := 52) (d := 93) (v := .pointer (some ⟨bx, ox + 2, none⟩)) (by kernel_rfl) rfl (by kernel_rfl) (by kernel_rfl) (by kernel_rfl) rfl (fun _ _ _ h => h) ⟨Or.inl ⟨by rfl, fun w hS => by obtain ⟨h0, h1, h2, h3, h4⟩ := hS; go_simp⟩, fun _ => rfl⟩ hS ?_
  simp only [List.setIfInBounds_toArray, List.set_cons_zero, List.set_cons_succ]
  refine anyHF_take (i := 53) (d := 94) (v := .slice Ag sm.length cg) (by kernel_rfl) rfl (by kernel_rfl) (by kernel_rfl) (by kernel_rfl) rfl (fun _ _ _ h => h) ⟨Or.inl ⟨by rfl, fun w hS => by obtain ⟨h0, h1, h2, h3, h4⟩ := hS; go_simp⟩, fun _ => rfl⟩ hS ?_
  simp only [List.setIfInBounds_toArray, List.set_cons_zero, List.set_cons_succ]
  refine anyHF_one (i := 54) (by kernel_rfl) rfl (by kernel_rfl) (by rfl) ?_
  gi_wp2_with fail
  refine ⟨trivial, (callsIn_wide.2 (HT3.out _ _ (HX2.out _ hB5))).mono ?_⟩
  rintro e wn ⟨u3, rfl, hu3, hBn⟩
  replace hB5 := below_in hB5 hBn
  obtain ⟨Au3, cu3, hue3, _, _⟩ := id hu3
  subst hue3
  clear hS hBn
  have hS : (fun V : World => V.cell? ⟨b1, off1, none⟩ = some (.slice A9 c9.length cap9) ∧ V.cell? ⟨bx, ox, none⟩ = some (.slice Ar rm.length cr) ∧ V.cell? ⟨bx, ox + 1, none⟩ = some (.slice Ad dm.length cd) ∧ V.cell? ⟨by_, oy, none⟩ = some (.slice Ay rm.length cy) ∧ V.cell? ⟨by_, oy + 1, none⟩ = some (.slice At tu.length ct2) ∧ V.cell? ⟨bx, ox + 2, none⟩ = some (.slice Ag sm.length cg) ∧ V.cell? ⟨by_, oy + 2, none⟩ = some (.slice Aq ts.length cq3)) wn := HSS.out _ hB5
  gi_wp2
  try (refine ⟨hS, ?_⟩)
  refine anyHF_one (i := 55) (by kernel_rfl) rfl (by kernel_rfl) (by rfl) ?_
  gi_wp2_with fail
  refine ⟨trivial, (callsIn_wide.2 (HS3.out _ _ _ (HY2.out _ hB5) hu3)).mono ?_⟩
  rintro e wn ⟨rfl, hBn⟩
  replace hB5 := below_in hB5 hBn
  clear hu3
  clear hS hBn
  have hS : (fun V : World => V.cell? ⟨b1, off1, none⟩ = some (.slice A9 c9.length cap9) ∧ V.cell? ⟨bx, ox, none⟩ = some (.slice Ar rm.length cr) ∧ V.cell? ⟨bx, ox + 1, none⟩ = some (.slice Ad dm.length cd) ∧ V.cell? ⟨by_, oy, none⟩ = some (.slice Ay rm.length cy) ∧ V.cell? ⟨by_, oy + 1, none⟩ = some (.slice At tu.length ct2) ∧ V.cell? ⟨bx, ox + 2, none⟩ = some (.slice Ag sm.length cg) ∧ V.cell? ⟨by_, oy + 2, none⟩ = some (.slice Aq ts.length cq3)) wn := HSS.out _ hB5
  gi_wp2
  try (refine ⟨hS, ?_⟩)
  refine anyHF_take (i := 56) (d := 97) (v := .bool true) (by kernel_rfl) rfl (by kernel_rfl) (by kernel_rfl) (by kernel_rfl) rfl (fun _ _ _ h => h) ⟨Or.inl ⟨by rfl, fun w hS => by obtain ⟨h0, h1, h2, h3, h4⟩ := hS; go_simp⟩, fun _ => rfl⟩ hS ?_
  simp only [List.setIfInBounds_toArray, List.set_cons_zero, List.set_cons_succ]
  refine anyHF_take (i := 57) (d := 98) (v := .bool true) (by kernel_rfl) rfl (by kernel_rfl) (by kernel_rfl) (by kernel_rfl) rfl (fun _ _ _ h => h) ⟨Or.inl ⟨by rfl, fun w hS => by obtain ⟨h0, h1, h2, h3, h4⟩ := hS; go_simp⟩, fun _ => rfl⟩ hS ?_
  simp only [List.setIfInBounds_toArray, List.set_cons_zero, List.set_cons_succ]
  refine anyHF_one (i := 58) (by kernel_rfl) rfl (by kernel_rfl) (by rfl) ?_
  gi_wp2_with fail
  refine ⟨trivial, (callsIn_wide.2 (T.works_any _ (hL.next (below_in hBw5 hB5)))).mono ?_⟩
  rintro e wn ⟨rfl, hBn⟩
  replace hB5 := below_in hB5 hBn
  clear hS hBn
  have hS : (fun V : World => V.cell? ⟨b1, off1, none⟩ = some (.slice A9 c9.length cap9) ∧ V.cell? ⟨bx, ox, none⟩ = some (.slice Ar rm.length cr) ∧ V.cell? ⟨bx, ox + 1, none⟩ = some (.slice Ad dm.length cd) ∧ V.cell? ⟨by_, oy, none⟩ = some (.slice Ay rm.length cy) ∧ V.cell? ⟨by_, oy + 1, none⟩ = some (.slice At tu.length ct2) ∧ V.cell? ⟨bx, ox + 2, none⟩ = some (.slice Ag sm.length cg) ∧ V.cell? ⟨by_, oy + 2, none⟩ = some (.slice Aq ts.length cq3)) wn := HSS.out _ hB5
  gi_wp2
  try (refine ⟨hS, ?_⟩)
  refine anyHF_take (i := 59) (d := 100) (v := .bool true) (by kernel_rfl) rfl (by kernel_rfl) (by kernel_rfl) (by kernel_rfl) rfl (fun _ _ _ h => h) ⟨Or.inl ⟨by rfl, fun w hS => by obtain ⟨h0, h1, h2, h3, h4⟩ := hS; go_simp⟩, fun _ => rfl⟩ hS ?_
  simp only [List.setIfInBounds_toArray, List.set_cons_zero, List.set_cons_succ]
  refine anyHF_one (i := 60) (by kernel_rfl) rfl (by kernel_rfl) (by rfl) ?_
  gi_wp2
  refine anyHF_done (by kernel_rfl) ?_ _
  refine NoPanic.normal ?_
  clear hS
  go_wp2
  go_ret
  exact ⟨rfl, below_in hBw5 hB5⟩

set_option maxRecDepth 100000 in
theorem lifted (os : Os) (started : os.Started) (H : Type) (enc : TypeId × Value → H) :
    ReturnsInHanded {} Tryz.checked os 8 .any (fun w args => (Rows.starTurnsSpec.pre enc Tryz.prog Tryz.f8 [] false w args ∧ laidMetH Tryz.prog laidL w) ∧ sizedMet enc Tryz.prog Tryz.f8 (OpenSpec.ofChange Rows.starTurnsSpec) false w args)
      (Rows.starTurnsSpec.post enc Tryz.prog Tryz.f8 false true false false) := by
  refine returnsInHanded_of_change_and (C := Tryz.checked) (X := fun w _ => laidMetH Tryz.prog laidL w) (fun _ _ _ hh h => h.of_heap hh) own started (by kernel_rfl) Tryz.func8
    (ChangeSpec.witness_shaped (enc := enc) (C := Tryz.checked) (os := os) (X := fun w _ => laidMetH Tryz.prog laidL w) false (World.doorLaid Tryz.prog 200 os) #[.int .i64 0, .slice none 0 0] 8 rfl (World.shaped_of_RefB (by kernel_rfl) (by kernel_rfl)) (by kernel_rfl) (by kernel_rfl) (by kernel_rfl) (door_met os _)) ?_
  intro W base args ds gs before hval0 hW _ _ hL0 _
  have hL := laid_of hL0
  have hval : ∀ (j : Nat) t v, Tryz.f8.params[j]? = some t → args[j]? = some v → Value.okWide Tryz.prog W .any base t v := hval0
  have hW' := hW
  obtain ⟨p, q, hA0, hV, rfl, hfz, hnd⟩ := hW
  have hA : DataW.TrodAll enc Tryz.prog W 0 (fun _ => true) true Tryz.f8.params.toList args.toList ds p := hA0
  rw [Tryz.params8] at hA hval
  obtain ⟨v0, vs0, d0, ds0, p0, q0, hargs, rfl, rfl, h0, r0⟩ := trodAll_cons hA
  obtain ⟨v1, vs1, d1, ds1, p1, q1, rfl, rfl, rfl, h1, r1⟩ := trodAll_cons r0
  obtain ⟨rfl, rfl, rfl⟩ := trodAll_nil r1
  obtain rfl : args = #[v0, v1] := by cases args; simp_all
  obtain ⟨rfl, rfl⟩ := trodVars_none hV
  obtain ⟨a0, rfl, rfl, rfl, w0⟩ := open_int Tryz.underlying3 (hval 0 3 v0 rfl rfl) h0
  have k1 := h1
  have lt1 : ∀ x ∈ p1, x.block < W.heap.size := by obtain ⟨m, hm⟩ := k1; exact DataW.trod_lt m _ _ _ hm
  obtain ⟨a1, len1, cap1, rfl⟩ := okWide_slice Tryz.underlying22 (hval 1 22 v1 rfl rfl)
  obtain ⟨l1, w1⟩ : ∃ css, E.Cols W.heap.size W (.slice a1 len1 cap1) css := by obtain ⟨fuel, hf⟩ := h1; exact E.open_cols hf
  clear hA0 hval0
  simp only [List.append_nil] at hW'
  refine (walk a0 _ l1 W hL (E.wf_i64 w0) w1).mono fun e W' ⟨he, bel⟩ => ?_
  subst he
  exact ⟨_, rfl, _, _, _, [], _, [], hW', trodAll_mk1 (shut_bool Tryz.underlying4 _), (trodAll_cons_mk (shut_int Tryz.underlying3 w0) (trodAll_cons_mk (Below.trod laidOut (by kernel_rfl) (of_decide_eq_true (by kernel_rfl)) k1 bel lt1) trodAll_mk0)), rfl, bel.frame _, fun h => by cases h⟩

theorem over : Rows.starTurnsRow.holds Tryz.pinned (OpenSpec.ofChange Rows.starTurnsSpec) :=
  OpenClaim.holds_of_wide 8 Tryz.f8 rfl rfl rfl rfl rfl rfl rfl ⟨rfl, rfl, rfl, rfl, rfl⟩ rfl rfl rfl rfl rfl (by kernel_rfl) Tryz.func8 (by kernel_rfl)
    (of_decide_eq_true (by kernel_rfl)) (by unfold Func.isWrapper; first | (rw [if_pos (by decide +kernel)]; kernel_rfl) | (rw [if_neg (by decide +kernel)]; exact ⟨rfl, rfl⟩))
    (fun os started H enc _ => lifted os started H enc)

/-- The tied card: the row, and the tie that is given. -/
theorem starTurns_holds : Rows.StarTurnsCardSaid :=
  Claim7.holds_tied_plain_at .later [] [.data, .data] true (true, "7e27223e161f1634c86bf5b961aa3e78ae26ed2f90e841ec1f5ff27ba1a55c1c") true over (fun _ h => by cases h) (by kernel_rfl) (fun _ h => by cases h) starTurns_row_tie rfl ⟨rfl, rfl⟩ (by kernel_rfl) rfl
    (fun f fn hf hfn => by
      obtain rfl : f = 8 := Option.some.inj ((show Tryz.prog.funcNamed "palisade/palisadelaw08.StarTurns" = some 8 by kernel_rfl).symm.trans hf) |>.symm
      obtain rfl : fn = Tryz.f8 := (Option.some.inj (Tryz.func8.symm.trans hfn)).symm
      exact ⟨by kernel_rfl, fun j t ht => by
        rw [Tryz.params8] at ht
        have hm : t ∈ [3, 22] := by simpa using Array.mem_of_getElem? ht
        have hall : ([3, 22].all fun u => !Tryz.prog.wantsStandIn u) = true := by kernel_rfl
        exact (show Tryz.prog.wantsStandIn t = false by simpa using List.all_eq_true.1 hall t hm)⟩)
    (by kernel_rfl)
end Go.Proofs.YtcgnhfiadeceiaaGreatDoor.starTurns
