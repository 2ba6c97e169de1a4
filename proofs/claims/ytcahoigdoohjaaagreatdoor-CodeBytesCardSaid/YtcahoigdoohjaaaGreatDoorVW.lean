/- - -/
import Derived.Test.YtcahoigdoohjaaaGreatDoorVSA
import Derived.Test.YtcahoigdoohjaaaGreatDoorVG23
namespace Go.Proofs.YtcahoigdoohjaaaGreatDoor.codeBytes
open Go.ChangeShapes Go.WideShapes Go.ChangeAt Go.RowKit Go.Shelf
set_option linter.unusedVariables false
set_option linter.unusedSimpArgs false
attribute [local go_sem] Oper.semAt_some

open Go.Proofs.YtcahoigdoohjaaaGreatDoor.E Go.Proofs.YtcahoigdoohjaaaGreatDoor.C Go.Proofs.YtcahoigdoohjaaaGreatDoor.Q Go.Proofs.YtcahoigdoohjaaaGreatDoor.Cd in
set_option maxRecDepth 100000 in
set_option maxHeartbeats 4000000 in
theorem walk (k p : Int) (v : Value) (css : List (List (List UInt8))) (kk : Int) (w : World) (hL : Laid w) (wk : -9223372036854775808 ≤ k ∧ k ≤ 9223372036854775807) (wp : -9223372036854775808 ≤ p ∧ p ≤ 9223372036854775807) (hC : Cols w.heap.size w v css) (wkk : -9223372036854775808 ≤ kk ∧ kk ≤ 9223372036854775807) :
    Calls Tryz.prog 10 #[.agg #[.int .i64 k, .int .i64 p], v, .int .i64 kk] w fun e w' => e = .returned (.bool true) ∧ Below w.heap.size w w' := by
  obtain ⟨A, cap, rfl, _, _⟩ := id hC
  have hBz := below_one w (.cells #[.int .i64 k, .int .i64 p] 24)
  have bz := Blk.new w 24 #[.int .i64 k, .int .i64 p]
  obtain ⟨wb, hwb⟩ : ∃ wb, w.alloc (.cells #[.int .i64 k, .int .i64 p] 24) = wb := ⟨_, rfl⟩
  rw [hwb] at hBz bz
  have c0 := bz.cell 0
  have c1 := bz.cell 1
  simp only [List.getElem?_toArray, List.getElem?_cons_zero, List.getElem?_cons_succ] at c0 c1
  have hCb := hC.below hBz
  have hLb := hL.next hBz
  by_cases hf : Few6 css
  case neg =>
    have HF := Lib.hid (few6_any _ css wb hCb false (by simp [hf]))
    clear hf hC hCb
    go_enter Tryz.func10, Tryz.ntmps10
    go_wp2_with (first
      | (go_at_call 11; refine HF.out.mono ?_; rintro e w' ⟨rfl, rfl⟩)
      | (go_at_call 12; refine (works_any _ hLb).mono ?_; rintro e w9 ⟨rfl, hB9⟩))
    go_ret
    exact ⟨rfl, below_in hBz hB9⟩
  have HF := Lib.hid (few6_any _ css wb hCb true (by simp [hf]))
  have hl24 := hf.1
  have hl1000 : css.length ≤ 1000 := by omega
  have HRT := Lib.hid (refRight_any k p wb)
  by_cases hR : RightC k p
  case neg =>
    clear hf hC hCb hl24
    go_enter Tryz.func10, Tryz.ntmps10
    go_wp2_with (first
      | (go_at_call 11; refine HF.out.mono ?_; rintro e w' ⟨rfl, rfl⟩)
      | (go_at_call 19; refine HRT.out.mono ?_; rintro e w1 ⟨h1, h2, hB1⟩; obtain rfl := h2 hR; replace bz := bz.below hB1 bz.lt; clear c0 c1; have c0 := bz.cell 0; have c1 := bz.cell 1; simp only [List.getElem?_toArray, List.getElem?_cons_zero, List.getElem?_cons_succ] at c0 c1)
      | (go_at_call 12; refine (works_any _ (hLb.next hB1)).mono ?_; rintro e w9 ⟨rfl, hB9⟩))
    go_ret
    exact ⟨rfl, below_in hBz (below_in hB1 hB9)⟩
  have HDA := Lib.hid (fun (U : World) => refData_any k p hR U)
  by_cases hn : (css.length : Int) = p - shortN k
  case neg =>
    have hnn : ((css.length : Int) != p - shortN k) = true := bne_iff_ne.2 hn
    clear hf hC hCb hn hl24 hl1000
    generalize css.length = N at *
    go_enter Tryz.func10, Tryz.ntmps10
    go_wp2_with (first
      | (go_at_call 11; refine HF.out.mono ?_; rintro e w' ⟨rfl, rfl⟩)
      | (go_at_call 19; refine HRT.out.mono ?_; rintro e w1 ⟨h1, h2, hB1⟩; obtain rfl := h1 hR; replace bz := bz.below hB1 bz.lt; clear c0 c1; have c0 := bz.cell 0; have c1 := bz.cell 1; simp only [List.getElem?_toArray, List.getElem?_cons_zero, List.getElem?_cons_succ] at c0 c1)
      | (go_at_call 20; refine (HDA.out _).mono ?_; rintro e w2 ⟨rfl, hB2⟩; have hB12 := below_in hB1 hB2; replace bz := bz.below hB2 bz.lt; clear c0 c1; have c0 := bz.cell 0; have c1 := bz.cell 1; simp only [List.getElem?_toArray, List.getElem?_cons_zero, List.getElem?_cons_succ] at c0 c1)
      | (go_at_call 12; refine (works_any _ (hLb.next hB12)).mono ?_; rintro e w9 ⟨rfl, hB9⟩))
    go_ret
    exact ⟨rfl, below_in hBz (below_in hB12 hB9)⟩
  have hnn : ((css.length : Int) != p - shortN k) = false := by rw [hn]; exact bne_self_eq_false _
  by_cases hd6 : RightD p css
  case neg =>
    have HR6 := Lib.hid (fun (U : World) (hU : Below wb.heap.size wb U) => right6_any (B := w.heap.size) p (.slice A css.length cap) css U (Nat.le_trans hBz.size hU.size) (hC.below ((below_in hBz hU))) hl1000 false (by simp [hd6]))
    clear hf hC hCb hn hl24 hl1000 hd6
    generalize css.length = N at *
    go_enter Tryz.func10, Tryz.ntmps10
    go_wp2_with (first
      | (go_at_call 11; refine HF.out.mono ?_; rintro e w' ⟨rfl, rfl⟩)
      | (go_at_call 19; refine HRT.out.mono ?_; rintro e w1 ⟨h1, h2, hB1⟩; obtain rfl := h1 hR; replace bz := bz.below hB1 bz.lt; clear c0 c1; have c0 := bz.cell 0; have c1 := bz.cell 1; simp only [List.getElem?_toArray, List.getElem?_cons_zero, List.getElem?_cons_succ] at c0 c1)
      | (go_at_call 20; refine (HDA.out _).mono ?_; rintro e w2 ⟨rfl, hB2⟩; have hB12 := below_in hB1 hB2; replace bz := bz.below hB2 bz.lt; clear c0 c1; have c0 := bz.cell 0; have c1 := bz.cell 1; simp only [List.getElem?_toArray, List.getElem?_cons_zero, List.getElem?_cons_succ] at c0 c1)
      | (go_at_call 21; refine (HR6.out _ hB12).mono ?_; rintro e w3 ⟨rfl, hB3⟩; have hB13 := below_in hB12 hB3; have hW3 := below_in hBz hB13; replace bz := bz.below hB3 bz.lt)
      | (go_at_call 12; refine (works_any _ (hL.next hW3)).mono ?_; rintro e w9 ⟨rfl, hB9⟩))
    go_ret
    exact ⟨rfl, below_in hW3 hB9⟩
  have HR6 := Lib.hid (fun (U : World) (hU : Below wb.heap.size wb U) => right6_any (B := w.heap.size) p (.slice A css.length cap) css U (Nat.le_trans hBz.size hU.size) (hC.below ((below_in hBz hU))) hl1000 true (by simp [hd6]))
  have hd : DataK k p css := ⟨⟨hR, hn⟩, hd6⟩
  by_cases hk0 : kk < 0
  case pos =>
    have d0 : decide (kk < 0) = true := decide_eq_true hk0
    clear hf hC hCb hn hl24 hl1000 hd6 hd hk0
    generalize css.length = N at *
    go_enter Tryz.func10, Tryz.ntmps10
    go_wp2_with (first
      | (go_at_call 11; refine HF.out.mono ?_; rintro e w' ⟨rfl, rfl⟩)
      | (go_at_call 19; refine HRT.out.mono ?_; rintro e w1 ⟨h1, h2, hB1⟩; obtain rfl := h1 hR; replace bz := bz.below hB1 bz.lt; clear c0 c1; have c0 := bz.cell 0; have c1 := bz.cell 1; simp only [List.getElem?_toArray, List.getElem?_cons_zero, List.getElem?_cons_succ] at c0 c1)
      | (go_at_call 20; refine (HDA.out _).mono ?_; rintro e w2 ⟨rfl, hB2⟩; have hB12 := below_in hB1 hB2; replace bz := bz.below hB2 bz.lt; clear c0 c1; have c0 := bz.cell 0; have c1 := bz.cell 1; simp only [List.getElem?_toArray, List.getElem?_cons_zero, List.getElem?_cons_succ] at c0 c1)
      | (go_at_call 21; refine (HR6.out _ hB12).mono ?_; rintro e w3 ⟨rfl, hB3⟩; have hB13 := below_in hB12 hB3; have hW3 := below_in hBz hB13; replace bz := bz.below hB3 bz.lt)
      | (go_at_call 12; refine (works_any _ (hL.next hW3)).mono ?_; rintro e w9 ⟨rfl, hB9⟩))
    go_ret
    exact ⟨rfl, below_in hW3 hB9⟩
  have d0 : decide (kk < 0) = false := decide_eq_false hk0
  obtain ⟨kn, rfl⟩ : ∃ kn : Nat, kk = (kn : Int) := ⟨kk.toNat, by omega⟩
  have hdl := data_len hd
  have hrn := right_n hd6
  have hgr := right_grid hd6
  have hpp := prm_bounds hR.2
  obtain ⟨b1, off1, cq, e1, _, hb1, hrow⟩ := hC.at_ (by omega)
  injection e1 with e1 _ e1c
  subst e1
  subst e1c
  obtain ⟨u9, hu9, hm9⟩ := hrow 0 (by omega)
  have hcl0 : (css[0]?.getD []).length = (p - 1).toNat := (hgr 0 (by omega)).1
  obtain ⟨A9, cap9, rfl, _, _⟩ := id hm9
  have hR0 : 0 < (css[0]?.getD []).length := by rw [hcl0]; omega
  obtain ⟨b9, off9, rfl, hb9, hrow9⟩ := many_at hm9 hR0
  obtain ⟨D0, cd0, hc9, hby9⟩ := hrow9 0 hR0
  rw [Nat.add_zero] at hu9 hc9
  have HU9 := Lib.hid hu9
  have HC9 : Hid (w.cell? ⟨b9, off9, none⟩ = some (.slice D0 (firstC css).length cd0)) := hc9
  clear hrow hrow9 hu9 hc9 hby9 hm9 hcl0
  have hR02 : (0 : Int) < ((css[0]?.getD []).length : Int) := by omega
  have hN02 : (0 : Int) < (css.length : Int) := by omega
  have q6 : ¬ css.length = 0 := by omega
  have q7 : ¬ (css[0]?.getD []).length = 0 := by omega
  by_cases hkn : ((firstC css).length : Int) ≤ (kn : Int)
  case pos =>
    have d1 : decide (((firstC css).length : Int) ≤ (kn : Int)) = true := decide_eq_true hkn
    have d2 : decide ((firstC css).length ≤ kn) = true := decide_eq_true (by omega)
    clear hf hC hCb hn hl24 hl1000 hd6 hd hk0 hdl hrn hgr hR0 hkn
    generalize (firstC css).length = n at *
    generalize (css[0]?.getD []).length = R9 at *
    generalize css.length = N at *
    go_enter Tryz.func10, Tryz.ntmps10
    go_wp2_with (first
      | (go_at_call 11; refine HF.out.mono ?_; rintro e w' ⟨rfl, rfl⟩)
      | (go_at_call 19; refine HRT.out.mono ?_; rintro e w1 ⟨h1, h2, hB1⟩; obtain rfl := h1 hR; replace bz := bz.below hB1 bz.lt; clear c0 c1; have c0 := bz.cell 0; have c1 := bz.cell 1; simp only [List.getElem?_toArray, List.getElem?_cons_zero, List.getElem?_cons_succ] at c0 c1)
      | (go_at_call 20; refine (HDA.out _).mono ?_; rintro e w2 ⟨rfl, hB2⟩; have hB12 := below_in hB1 hB2; replace bz := bz.below hB2 bz.lt; clear c0 c1; have c0 := bz.cell 0; have c1 := bz.cell 1; simp only [List.getElem?_toArray, List.getElem?_cons_zero, List.getElem?_cons_succ] at c0 c1)
      | (go_at_call 21; refine (HR6.out _ hB12).mono ?_; rintro e w3 ⟨rfl, hB3⟩; have hB13 := below_in hB12 hB3; have hW3 := below_in hBz hB13; replace bz := bz.below hB3 bz.lt; have c9 := (hW3.cell (p := ⟨b1, off1, none⟩) hb1).trans HU9.out; have c90 := (hW3.cell (p := ⟨b9, off9, none⟩) hb9).trans HC9.out)
      | (go_at_call 12; refine (works_any _ (hL.next hW3)).mono ?_; rintro e w9 ⟨rfl, hB9⟩))
    go_ret
    exact ⟨rfl, below_in hW3 hB9⟩
  have d1 : decide (((firstC css).length : Int) ≤ (kn : Int)) = false := decide_eq_false hkn
  have d2 : decide ((firstC css).length ≤ kn) = false := decide_eq_false (by omega)
  have hwa := whole_all hd
  have hwl := all_len hwa.1
  have hwg := right_grid hwa.1.2
  rw [hwa.2] at hwg
  have hokd : DataK k p (onlyOf kn css) := by
    refine ⟨⟨hR, by rw [only_len]; exact hn⟩, right_of hR.2 (by rw [only_len]; omega) (only_grid hgr) (by omega)⟩
  have hcells : ∀ (s : List (List (List UInt8))), Grid (p - 1).toNat (firstC css).length s → ∀ j, j < s.length → (s[j]?.getD []).length ≤ 1000 ∧ ∀ i, i < (s[j]?.getD []).length → kn < ((s[j]?.getD [])[i]?.getD []).length := fun s hs j hj => by
    have h1 := hs j hj
    refine ⟨by omega, fun i hi => ?_⟩
    have h2 := h1.2 i (by omega)
    omega
  have honly : wholeL k p (onlyOf kn css) = onlyOf kn (wholeL k p css) := by
    unfold wholeL
    rw [grid_first hR.2 (by rw [only_len]; omega) (only_grid (n := (firstC css).length) hgr)]
    exact only_steps hgr (by omega) _
  have HE := Lib.hid (fun (U : World) (hU : Below w.heap.size w U) => encode_yes (B := w.heap.size) k p (.slice (some ⟨b1, off1, none⟩) css.length cap) css hd U (hL.next hU) hU.size (hC.below hU))
  have HO := Lib.hid (fun (U : World) (hU : Below w.heap.size w U) => only_any (B := w.heap.size) (.slice (some ⟨b1, off1, none⟩) css.length cap) css kn U hU.size (hC.below hU) hl1000 (by omega) (hcells css hgr))
  have HE2 := Lib.hid (fun (U V : World) {A : Option Addr} {c : Nat} (hU : Below w.heap.size w U) (hV : Below U.heap.size U V) (hc : Cols V.heap.size V (.slice A css.length c) (onlyOf kn css)) => by
    have h := encode_yes (B := V.heap.size) k p (.slice A css.length c) (onlyOf kn css) hokd V (hL.next (below_in hU hV)) (Nat.le_refl _) hc
    rw [honly] at h
    exact h)
  have HO2 := Lib.hid (fun (U : World) (x : Value) (hCU : Cols U.heap.size U x (wholeL k p css)) => only_any x (wholeL k p css) kn U (Nat.le_refl _) hCU (by omega) (by omega) (hcells _ hwg))
  have HR9 := Lib.hid (fun (U : World) (x : Value) (hCU : Cols U.heap.size U x (wholeL k p css)) => ref9Right_any k p x (wholeL k p css) U (Nat.le_refl _) hCU (by omega) true (by simp only [true_iff]; exact hwa.1))
  have hlen3 : ∀ j : Nat, ((onlyOf kn (wholeL k p css))[j]?.getD []).length ≤ 1000 := fun j => by
    rcases Nat.lt_or_ge j (wholeL k p css).length with h | h
    · rw [only_at _ _ h, onlyCol_len]
      exact (hcells _ hwg j h).1
    · rw [List.getElem?_eq_none (by rw [only_len]; exact h)]; simp
  have HS := Lib.hid (fun (U : World) (x y : Value) (h1 : Cols U.heap.size U x (onlyOf kn (wholeL k p css))) (h2 : Cols U.heap.size U y (onlyOf kn (wholeL k p css))) => same6_any x y _ _ U h1 h2 (Nat.le_refl _) (Nat.le_refl _) hlen3 hlen3 (by rw [only_len]; omega) (by rw [only_len]; omega))
  simp only [decide_true] at HS
  have hwR : ((wholeL k p css)[0]?.getD []).length = (p - 1).toNat := (hwg 0 (by omega)).1
  have hwR0 : 0 < ((wholeL k p css)[0]?.getD []).length := by rw [hwR]; omega
  have hwf : (firstC (wholeL k p css)).length = (firstC css).length := hwa.2
  have hwl0 : 0 < (wholeL k p css).length := by omega
  have hnk : kn < 65 := by omega
  clear hf hCb hcells hlen3 honly hokd hwg hwa hwl hgr hrn hdl hd6 hd hl24 hl1000 hR0 hwR hkn hk0
  have HOL : Hid ((onlyOf kn css).length = css.length) := only_len kn css
  generalize onlyOf kn (wholeL k p css) = ow at *
  generalize onlyOf kn css = oc at *
  obtain ⟨n, hnE⟩ : ∃ n, (firstC css).length = n := ⟨_, rfl⟩
  rw [hnE] at hwf HC9 d1 d2
  have HWF := Lib.hid hwf
  clear hnE hwf hC
  generalize wholeL k p css = wl at *
  generalize (css[0]?.getD []).length = R9 at *
  obtain ⟨N, hNE⟩ : ∃ N, css.length = N := ⟨_, rfl⟩
  rw [hNE] at HF HR6 HE HO HE2 hnn hN02 HOL q6 ⊢
  clear hNE hn
  go_enter Tryz.func10, Tryz.ntmps10
  go_wp2_with (first
    | (go_at_call 11; refine HF.out.mono ?_; rintro e w' ⟨rfl, rfl⟩)
    | (go_at_call 19; refine HRT.out.mono ?_; rintro e w1 ⟨h1, h2, hB1⟩; obtain rfl := h1 hR; replace bz := bz.below hB1 bz.lt; clear c0 c1; have c0 := bz.cell 0; have c1 := bz.cell 1; simp only [List.getElem?_toArray, List.getElem?_cons_zero, List.getElem?_cons_succ] at c0 c1)
    | (go_at_call 20; refine (HDA.out _).mono ?_; rintro e w2 ⟨rfl, hB2⟩; have hB12 := below_in hB1 hB2; replace bz := bz.below hB2 bz.lt; clear c0 c1; have c0 := bz.cell 0; have c1 := bz.cell 1; simp only [List.getElem?_toArray, List.getElem?_cons_zero, List.getElem?_cons_succ] at c0 c1)
    | (go_at_call 21; refine (HR6.out _ hB12).mono ?_; rintro e w3 ⟨rfl, hB3⟩; have hB13 := below_in hB12 hB3; have hW3 := below_in hBz hB13; replace bz := bz.below hB3 bz.lt; have c9 := (hW3.cell (p := ⟨b1, off1, none⟩) hb1).trans HU9.out; have c90 := (hW3.cell (p := ⟨b9, off9, none⟩) hb9).trans HC9.out; clear c0 c1; have c0 := bz.cell 0; have c1 := bz.cell 1; simp only [List.getElem?_toArray, List.getElem?_cons_zero, List.getElem?_cons_succ] at c0 c1)
    | (go_at_call 13; refine (HE.out _ hW3).mono ?_; rintro e w4 ⟨xA, xn, xc, rfl, hsx, hB4⟩))
  have hW4 := below_in hW3 hB4
  have hx : Cols w4.heap.size w4 (.slice xA xn xc) wl := colsR_iff.1 (colsR.imp (sepC_cols hsx) fun q hq => hq.2)
  obtain ⟨bx, offx, cx, ex, _, hbx, hrowx⟩ := hx.at_ hwl0
  injection ex with ex exn exc
  subst ex exn exc
  obtain ⟨u8, hu8, hm8⟩ := hrowx 0 hwl0
  obtain ⟨A8, cap8, rfl, _, _⟩ := id hm8
  obtain ⟨b8, off8, rfl, hb8, hrow8⟩ := many_at hm8 hwR0
  obtain ⟨X0, cx0, hc8, _⟩ := hrow8 0 hwR0
  rw [Nat.add_zero] at hu8 hc8
  have hc8' : w4.cell? ⟨b8, off8, none⟩ = some (.slice X0 (firstC wl).length cx0) := hc8
  rw [HWF.out] at hc8'
  have q2 : (0 : Int) < ((wl[0]?.getD []).length : Int) := by omega
  have q3 : (0 : Int) < (wl.length : Int) := by omega
  have HX := Lib.hid hx
  clear hx hrowx hrow8 hm8 hc8 hsx c9 c90 c0 c1
  have HSS : Hid (∀ U, Below w4.heap.size w4 U → (fun U : World => U.cell? ⟨w.heap.size, 0, none⟩ = some (.int .i64 k) ∧ U.cell? ⟨w.heap.size, 1, none⟩ = some (.int .i64 p) ∧ U.cell? ⟨bx, offx, none⟩ = some (.slice (some ⟨b8, off8, none⟩) (wl[0]?.getD []).length cap8) ∧ U.cell? ⟨b8, off8, none⟩ = some (.slice X0 n cx0) ∧ U.cell? ⟨b1, off1, none⟩ = some (.slice (some ⟨b9, off9, none⟩) R9 cap9) ∧ U.cell? ⟨b9, off9, none⟩ = some (.slice D0 n cd0)) U) := fun U hU => ⟨((bz.below hB4 bz.lt).below hU (bz.below hB4 bz.lt).lt).cell 0, ((bz.below hB4 bz.lt).below hU (bz.below hB4 bz.lt).lt).cell 1, (hU.cell (p := ⟨bx, offx, none⟩) hbx).trans hu8, (hU.cell (p := ⟨b8, off8, none⟩) hb8).trans hc8', (hU.cell (p := ⟨b1, off1, none⟩) (Nat.lt_of_lt_of_le hb1 hW4.size)).trans ((hW4.cell (p := ⟨b1, off1, none⟩) hb1).trans HU9.out), (hU.cell (p := ⟨b9, off9, none⟩) (Nat.lt_of_lt_of_le hb9 hW4.size)).trans ((hW4.cell (p := ⟨b9, off9, none⟩) hb9).trans HC9.out)⟩
  have HR9 := Lib.hid (fun (U : World) (hU : Below w4.heap.size w4 U) => HR9.out U (.slice (some ⟨bx, offx, none⟩) wl.length xc) (Cols.more (HX.out.below hU) hU.size))
  have hE4 := Lib.hid hB4
  clear hu8 hc8'
  obtain ⟨NX, hNX⟩ : ∃ NX, wl.length = NX := ⟨_, rfl⟩
  rw [hNX] at HR9 HX q3 hwl0 ⊢
  clear hNX
  generalize (wl[0]?.getD []).length = R8 at *
  have hBx : Below w4.heap.size w4 w4.drew := (Below.refl _ _).drew
  have hS : (fun U : World => U.cell? ⟨w.heap.size, 0, none⟩ = some (.int .i64 k) ∧ U.cell? ⟨w.heap.size, 1, none⟩ = some (.int .i64 p) ∧ U.cell? ⟨bx, offx, none⟩ = some (.slice (some ⟨b8, off8, none⟩) R8 cap8) ∧ U.cell? ⟨b8, off8, none⟩ = some (.slice X0 n cx0) ∧ U.cell? ⟨b1, off1, none⟩ = some (.slice (some ⟨b9, off9, none⟩) R9 cap9) ∧ U.cell? ⟨b9, off9, none⟩ = some (.slice D0 n cd0)) w4.drew := HSS.out _ hBx
  refine (wpIn_wide (n := 12)).1 (wpIn_mono (region_HF (Q := NoPanic _) (S := (fun U : World => U.cell? ⟨w.heap.size, 0, none⟩ = some (.int .i64 k) ∧ U.cell? ⟨w.heap.size, 1, none⟩ = some (.int .i64 p) ∧ U.cell? ⟨bx, offx, none⟩ = some (.slice (some ⟨b8, off8, none⟩) R8 cap8) ∧ U.cell? ⟨b8, off8, none⟩ = some (.slice X0 n cx0) ∧ U.cell? ⟨b1, off1, none⟩ = some (.slice (some ⟨b9, off9, none⟩) R9 cap9) ∧ U.cell? ⟨b9, off9, none⟩ = some (.slice D0 n cd0))) (by kernel_rfl) ?_) NoPanic.imp)
  refine anyHF_take (i := 0) (d := 54) (v := .int .i64 0) (by kernel_rfl) rfl (by kernel_rfl) (by kernel_rfl) (by kernel_rfl) rfl (fun _ _ _ h => h) ⟨Or.inl ⟨by rfl, fun w hS => by obtain ⟨h0, h1, h2, h3, h4, h5⟩ := hS; go_simp⟩, fun _ => rfl⟩ hS ?_
  simp only [List.setIfInBounds_toArray, List.set_cons_zero, List.set_cons_succ]
  refine anyHF_one (i := 1) (by kernel_rfl) rfl (by kernel_rfl) (by rfl) ?_
  gi_wp2_with fail
  refine ⟨trivial, (callsIn_wide.2 (num_any _ _)).mono ?_⟩
  rintro e wz ⟨rfl, rfl⟩
  gi_wp2
  try (refine ⟨hS, ?_⟩)
  refine anyHF_take (i := 2) (d := 56) (v := .bool false) (by kernel_rfl) rfl (by kernel_rfl) (by kernel_rfl) (by kernel_rfl) rfl (fun _ _ _ h => h) ⟨Or.inl ⟨by rfl, fun w hS => by obtain ⟨h0, h1, h2, h3, h4, h5⟩ := hS; go_simp⟩, fun _ => rfl⟩ hS ?_
  simp only [List.setIfInBounds_toArray, List.set_cons_zero, List.set_cons_succ]
  refine anyHF_take (i := 3) (d := 57) (v := .bool false) (by kernel_rfl) rfl (by kernel_rfl) (by kernel_rfl) (by kernel_rfl) rfl (fun _ _ _ h => h) ⟨Or.inl ⟨by rfl, fun w hS => by obtain ⟨h0, h1, h2, h3, h4, h5⟩ := hS; go_simp⟩, fun _ => rfl⟩ hS ?_
  simp only [List.setIfInBounds_toArray, List.set_cons_zero, List.set_cons_succ]
  refine anyHF_take (i := 4) (d := 58) (v := .agg #[.int .i64 k, .int .i64 p]) (by kernel_rfl) rfl (by kernel_rfl) (by kernel_rfl) (by kernel_rfl) rfl (fun _ _ _ h => h) ⟨Or.inl ⟨by rfl, fun w hS => by obtain ⟨h0, h1, h2, h3, h4, h5⟩ := hS; go_simp⟩, fun _ => rfl⟩ hS ?_
  simp only [List.setIfInBounds_toArray, List.set_cons_zero, List.set_cons_succ]
  refine anyHF_take (i := 5) (d := 59) (v := .slice (some ⟨bx, offx, none⟩) NX xc) (by kernel_rfl) rfl (by kernel_rfl) (by kernel_rfl) (by kernel_rfl) rfl (fun _ _ _ h => h) ⟨Or.inl ⟨by rfl, fun w hS => by obtain ⟨h0, h1, h2, h3, h4, h5⟩ := hS; go_simp⟩, fun _ => rfl⟩ hS ?_
  simp only [List.setIfInBounds_toArray, List.set_cons_zero, List.set_cons_succ]
  refine anyHF_one (i := 6) (by kernel_rfl) rfl (by kernel_rfl) (by rfl) ?_
  gi_wp2_with fail
  refine ⟨trivial, (callsIn_wide.2 (HR9.out _ hBx)).mono ?_⟩
  rintro e wn ⟨rfl, hB1⟩
  replace hBx := below_in hBx hB1
  clear hS
  have hS : (fun U : World => U.cell? ⟨w.heap.size, 0, none⟩ = some (.int .i64 k) ∧ U.cell? ⟨w.heap.size, 1, none⟩ = some (.int .i64 p) ∧ U.cell? ⟨bx, offx, none⟩ = some (.slice (some ⟨b8, off8, none⟩) R8 cap8) ∧ U.cell? ⟨b8, off8, none⟩ = some (.slice X0 n cx0) ∧ U.cell? ⟨b1, off1, none⟩ = some (.slice (some ⟨b9, off9, none⟩) R9 cap9) ∧ U.cell? ⟨b9, off9, none⟩ = some (.slice D0 n cd0)) wn := HSS.out _ hBx
  gi_wp2
  try (refine ⟨hS, ?_⟩)
  refine anyHF_take (i := 7) (d := 61) (v := .bool false) (by kernel_rfl) rfl (by kernel_rfl) (by kernel_rfl) (by kernel_rfl) rfl (fun _ _ _ h => h) ⟨Or.inl ⟨by rfl, fun w hS => by obtain ⟨h0, h1, h2, h3, h4, h5⟩ := hS; go_simp⟩, fun _ => rfl⟩ hS ?_
  simp only [List.setIfInBounds_toArray, List.set_cons_zero, List.set_cons_succ]
  refine anyHF_take (i := 8) (d := 62) (v := .bool false) (by kernel_rfl) rfl (by kernel_rfl) (by kernel_rfl) (by kernel_rfl) rfl (fun _ _ _ h => h) ⟨Or.inl ⟨by rfl, fun w hS => by obtain ⟨h0, h1, h2, h3, h4, h5⟩ := hS; go_simp⟩, fun _ => rfl⟩ hS ?_
  simp only [List.setIfInBounds_toArray, List.set_cons_zero, List.set_cons_succ]
  refine anyHF_take (i := 9) (d := 63) (v := .bool false) (by kernel_rfl) rfl (by kernel_rfl) (by kernel_rfl) (by kernel_rfl) rfl (fun _ _ _ h => h) ⟨Or.inl ⟨by rfl, fun w hS => by obtain ⟨h0, h1, h2, h3, h4, h5⟩ := hS; go_simp⟩, fun _ => rfl⟩ hS ?_
  simp only [List.setIfInBounds_toArray, List.set_cons_zero, List.set_cons_succ]
  refine anyHF_take (i := 10) (d := 64) (v := .slice (some ⟨bx, offx, none⟩) NX xc) (by kernel_rfl) rfl (by kernel_rfl) (by kernel_rfl) (by kernel_rfl) rfl (fun _ _ _ h => h) ⟨Or.inl ⟨by rfl, fun w hS => by obtain ⟨h0, h1, h2, h3, h4, h5⟩ := hS; go_simp⟩, fun _ => rfl⟩ hS ?_
  simp only [List.setIfInBounds_toArray, List.set_cons_zero, List.set_cons_succ]
  refine anyHF_take (i := 11) (d := 65) (v := .pointer (some ⟨bx, offx, none⟩)) (by kernel_rfl) rfl (by kernel_rfl) (by kernel_rfl) (by kernel_rfl) rfl (fun _ _ _ h => h) ⟨Or.inl ⟨by rfl, fun w hS => by obtain ⟨h0, h1, h2, h3, h4, h5⟩ := hS; go_simp⟩, fun _ => rfl⟩ hS ?_
  simp only [List.setIfInBounds_toArray, List.set_cons_zero, List.set_cons_succ]
  refine anyHF_take (i := 12) (d := 66) (v := .slice (some ⟨b8, off8, none⟩) R8 cap8) (by kernel_rfl) rfl (by kernel_rfl) (by kernel_rfl) (by kernel_rfl) rfl (fun _ _ _ h => h) ⟨Or.inl ⟨by rfl, fun w hS => by obtain ⟨h0, h1, h2, h3, h4, h5⟩ := hS; go_simp⟩, fun _ => rfl⟩ hS ?_
  simp only [List.setIfInBounds_toArray, List.set_cons_zero, List.set_cons_succ]
  refine anyHF_take (i := 13) (d := 67) (v := .pointer (some ⟨b8, off8, none⟩)) (by kernel_rfl) rfl (by kernel_rfl) (by kernel_rfl) (by kernel_rfl) rfl (fun _ _ _ h => h) ⟨Or.inl ⟨by rfl, fun w hS => by obtain ⟨h0, h1, h2, h3, h4, h5⟩ := hS; go_simp⟩, fun _ => rfl⟩ hS ?_
  simp only [List.setIfInBounds_toArray, List.set_cons_zero, List.set_cons_succ]
  refine anyHF_take (i := 14) (d := 68) (v := .slice X0 n cx0) (by kernel_rfl) rfl (by kernel_rfl) (by kernel_rfl) (by kernel_rfl) rfl (fun _ _ _ h => h) ⟨Or.inl ⟨by rfl, fun w hS => by obtain ⟨h0, h1, h2, h3, h4, h5⟩ := hS; go_simp⟩, fun _ => rfl⟩ hS ?_
  simp only [List.setIfInBounds_toArray, List.set_cons_zero, List.set_cons_succ]
  refine anyHF_take (i := 15) (d := 69) (v := .int .i64 (n : Int)) (by kernel_rfl) rfl (by kernel_rfl) (by kernel_rfl) (by kernel_rfl) rfl (fun _ _ _ h => h) ⟨Or.inl ⟨by rfl, fun w hS => by obtain ⟨h0, h1, h2, h3, h4, h5⟩ := hS; go_simp⟩, fun _ => rfl⟩ hS ?_
  simp only [List.setIfInBounds_toArray, List.set_cons_zero, List.set_cons_succ]
  refine anyHF_take (i := 16) (d := 70) (v := .slice (some ⟨b1, off1, none⟩) N cap) (by kernel_rfl) rfl (by kernel_rfl) (by kernel_rfl) (by kernel_rfl) rfl (fun _ _ _ h => h) ⟨Or.inl ⟨by rfl, fun w hS => by obtain ⟨h0, h1, h2, h3, h4, h5⟩ := hS; go_simp⟩, fun _ => rfl⟩ hS ?_
  simp only [List.setIfInBounds_toArray, List.set_cons_zero, List.set_cons_succ]
  refine anyHF_take (i := 17) (d := 71) (v := .pointer (some ⟨b1, off1, none⟩)) (by kernel_rfl) rfl (by kernel_rfl) (by kernel_rfl) (by kernel_rfl) rfl (fun _ _ _ h => h) ⟨Or.inl ⟨by rfl, fun w hS => by obtain ⟨h0, h1, h2, h3, h4, h5⟩ := hS; go_simp⟩, fun _ => rfl⟩ hS ?_
  simp only [List.setIfInBounds_toArray, List.set_cons_zero, List.set_cons_succ]
  refine anyHF_take (i := 18) (d := 72) (v := .slice (some ⟨b9, off9, none⟩) R9 cap9) (by kernel_rfl) rfl (by kernel_rfl) (by kernel_rfl) (by kernel_rfl) rfl (fun _ _ _ h => h) ⟨Or.inl ⟨by rfl, fun w hS => by obtain ⟨h0, h1, h2, h3, h4, h5⟩ := hS; go_simp⟩, fun _ => rfl⟩ hS ?_
  simp only [List.setIfInBounds_toArray, List.set_cons_zero, List.set_cons_succ]
  refine anyHF_take (i := 19) (d := 73) (v := .pointer (some ⟨b9, off9, none⟩)) (by kernel_rfl) rfl (by kernel_rfl) (by kernel_rfl) (by kernel_rfl) rfl (fun _ _ _ h => h) ⟨Or.inl ⟨by rfl, fun w hS => by obtain ⟨h0, h1, h2, h3, h4, h5⟩ := hS; go_simp⟩, fun _ => rfl⟩ hS ?_
  simp only [List.setIfInBounds_toArray, List.set_cons_zero, List.set_cons_succ]
  refine anyHF_take (i := 20) (d := 74) (v := .slice D0 n cd0) (by kernel_rfl) rfl (by kernel_rfl) (by kernel_rfl) (by kernel_rfl) rfl (fun _ _ _ h => h) ⟨Or.inl ⟨by rfl, fun w hS => by obtain ⟨h0, h1, h2, h3, h4, h5⟩ := hS; go_simp⟩, fun _ => rfl⟩ hS ?_
  simp only [List.setIfInBounds_toArray, List.set_cons_zero, List.set_cons_succ]
  refine anyHF_take (i := 21) (d := 75) (v := .int .i64 (n : Int)) (by kernel_rfl) rfl (by kernel_rfl) (by kernel_rfl) (by kernel_rfl) rfl (fun _ _ _ h => h) ⟨Or.inl ⟨by rfl, fun w hS => by obtain ⟨h0, h1, h2, h3, h4, h5⟩ := hS; go_simp⟩, fun _ => rfl⟩ hS ?_
  simp only [List.setIfInBounds_toArray, List.set_cons_zero, List.set_cons_succ]
  refine anyHF_take (i := 22) (d := 76) (v := .bool false) (by kernel_rfl) rfl (by kernel_rfl) (by kernel_rfl) (by kernel_rfl) rfl (fun _ _ _ h => h) ⟨Or.inl ⟨by rfl, fun w hS => by obtain ⟨h0, h1, h2, h3, h4, h5⟩ := hS; go_simp⟩, fun _ => rfl⟩ hS ?_
  simp only [List.setIfInBounds_toArray, List.set_cons_zero, List.set_cons_succ]
  refine anyHF_take (i := 23) (d := 77) (v := .bool false) (by kernel_rfl) rfl (by kernel_rfl) (by kernel_rfl) (by kernel_rfl) rfl (fun _ _ _ h => h) ⟨Or.inl ⟨by rfl, fun w hS => by obtain ⟨h0, h1, h2, h3, h4, h5⟩ := hS; go_simp⟩, fun _ => rfl⟩ hS ?_
  simp only [List.setIfInBounds_toArray, List.set_cons_zero, List.set_cons_succ]
  refine anyHF_done (by kernel_rfl) ?_ _
  refine NoPanic.normal ?_
  go_wp2_with fail
  have hB45 := hBx
  have hW5 := below_in hW4 hB45
  have HO := Lib.hid (fun (U : World) (hU : Below wn.heap.size wn U) => HO.out U (below_in hW5 hU))
  have HE2 := Lib.hid (fun (U V : World) {A : Option Addr} {c : Nat} (hU : Below wn.heap.size wn U) (hV : Below U.heap.size U V) (hc : Cols V.heap.size V (.slice A N c) oc) => HE2.out U V (below_in hW5 hU) hV hc)
  have bzn := (bz.below hB4 bz.lt).below hB45 (bz.below hB4 bz.lt).lt
  have HSS6 : Hid (∀ U, Below wn.heap.size wn U → (fun U : World => U.cell? ⟨w.heap.size, 0, none⟩ = some (.int .i64 k) ∧ U.cell? ⟨w.heap.size, 1, none⟩ = some (.int .i64 p)) U) := fun U hU => ⟨(bzn.below hU bzn.lt).cell 0, (bzn.below hU bzn.lt).cell 1⟩
  have HX5 := Lib.hid (Cols.more (HX.out.below hB45) hB45.size)
  have HZB : Hid (Below wn.heap.size wn wn) := Below.refl _ _
  clear hS hBx HX HSS HR9 bzn
  have hBx : Below wn.heap.size wn wn.drew := (Below.refl _ _).drew
  have hS : (fun U : World => U.cell? ⟨w.heap.size, 0, none⟩ = some (.int .i64 k) ∧ U.cell? ⟨w.heap.size, 1, none⟩ = some (.int .i64 p)) wn.drew := HSS6.out _ hBx
  refine (wpIn_wide (n := 12)).1 (wpIn_mono (region_HF (Q := NoPanic _) (S := (fun U : World => U.cell? ⟨w.heap.size, 0, none⟩ = some (.int .i64 k) ∧ U.cell? ⟨w.heap.size, 1, none⟩ = some (.int .i64 p))) (by kernel_rfl) ?_) NoPanic.imp)
  refine anyHF_take (i := 0) (d := 79) (v := .agg #[.int .i64 k, .int .i64 p]) (by kernel_rfl) rfl (by kernel_rfl) (by kernel_rfl) (by kernel_rfl) rfl (fun _ _ _ h => h) ⟨Or.inl ⟨by rfl, fun w hS => by obtain ⟨h0, h1⟩ := hS; go_simp⟩, fun _ => rfl⟩ hS ?_
  simp only [List.setIfInBounds_toArray, List.set_cons_zero, List.set_cons_succ]
  refine anyHF_take (i := 1) (d := 80) (v := .slice (some ⟨b1, off1, none⟩) N cap) (by kernel_rfl) rfl (by kernel_rfl) (by kernel_rfl) (by kernel_rfl) rfl (fun _ _ _ h => h) ⟨Or.inl ⟨by rfl, fun w hS => by obtain ⟨h0, h1⟩ := hS; go_simp⟩, fun _ => rfl⟩ hS ?_
  simp only [List.setIfInBounds_toArray, List.set_cons_zero, List.set_cons_succ]
  refine anyHF_take (i := 2) (d := 81) (v := .int .i64 (kn : Int)) (by kernel_rfl) rfl (by kernel_rfl) (by kernel_rfl) (by kernel_rfl) rfl (fun _ _ _ h => h) ⟨Or.inl ⟨by rfl, fun w hS => by obtain ⟨h0, h1⟩ := hS; go_simp⟩, fun _ => rfl⟩ hS ?_
  simp only [List.setIfInBounds_toArray, List.set_cons_zero, List.set_cons_succ]
  refine anyHF_one (i := 3) (by kernel_rfl) rfl (by kernel_rfl) (by rfl) ?_
  gi_wp2_with fail
  refine ⟨trivial, (callsIn_wide.2 (HO.out _ hBx)).mono ?_⟩
  rintro e wo ⟨uo, rfl, huo, hB1⟩
  obtain ⟨oA, oc, hoe, _, _⟩ := id huo
  rw [HOL.out] at hoe
  subst hoe
  have he2 := HE2.out _ _ hBx hB1 huo
  replace hBx := below_in hBx hB1
  clear hS
  have hS : (fun U : World => U.cell? ⟨w.heap.size, 0, none⟩ = some (.int .i64 k) ∧ U.cell? ⟨w.heap.size, 1, none⟩ = some (.int .i64 p)) wo := HSS6.out _ hBx
  gi_wp2
  try (refine ⟨hS, ?_⟩)
  refine anyHF_one (i := 4) (by kernel_rfl) rfl (by kernel_rfl) (by rfl) ?_
  gi_wp2_with fail
  refine ⟨trivial, (callsIn_wide.2 (he2)).mono ?_⟩
  rintro e wy ⟨yA, yn, yc, rfl, hsy, hB2⟩
  replace hBx := below_in hBx hB2
  clear hS
  have hS : (fun U : World => U.cell? ⟨w.heap.size, 0, none⟩ = some (.int .i64 k) ∧ U.cell? ⟨w.heap.size, 1, none⟩ = some (.int .i64 p)) wy := HSS6.out _ hBx
  gi_wp2
  try (refine ⟨hS, ?_⟩)
  refine anyHF_take (i := 5) (d := 78) (v := .tuple #[.slice yA yn yc, .int .i64 0]) (by kernel_rfl) rfl (by kernel_rfl) (by kernel_rfl) (by kernel_rfl) rfl (fun _ _ _ h => h) ⟨Or.inl ⟨by rfl, fun w hS => by obtain ⟨h0, h1⟩ := hS; go_simp⟩, fun _ => rfl⟩ hS ?_
  simp only [List.setIfInBounds_toArray, List.set_cons_zero, List.set_cons_succ]
  refine anyHF_take (i := 6) (d := 84) (v := .slice yA yn yc) (by kernel_rfl) rfl (by kernel_rfl) (by kernel_rfl) (by kernel_rfl) rfl (fun _ _ _ h => h) ⟨Or.inl ⟨by rfl, fun w hS => by obtain ⟨h0, h1⟩ := hS; go_simp⟩, fun _ => rfl⟩ hS ?_
  simp only [List.setIfInBounds_toArray, List.set_cons_zero, List.set_cons_succ]
  refine anyHF_take (i := 7) (d := 85) (v := .int .i64 0) (by kernel_rfl) rfl (by kernel_rfl) (by kernel_rfl) (by kernel_rfl) rfl (fun _ _ _ h => h) ⟨Or.inl ⟨by rfl, fun w hS => by obtain ⟨h0, h1⟩ := hS; go_simp⟩, fun _ => rfl⟩ hS ?_
  simp only [List.setIfInBounds_toArray, List.set_cons_zero, List.set_cons_succ]
  refine anyHF_one (i := 8) (by kernel_rfl) rfl (by kernel_rfl) (by rfl) ?_
  gi_wp2
  refine anyHF_one (i := 9) (by kernel_rfl) rfl (by kernel_rfl) (by rfl) ?_
  gi_wp2
  refine anyHF_done (by kernel_rfl) ?_ _
  refine NoPanic.normal ?_
  have hy : Cols wy.heap.size wy (.slice yA yn yc) ow := colsR_iff.1 (colsR.imp (sepC_cols hsy) fun q hq => hq.2)
  have hxy := Cols.more (HX5.out.below hBx) hBx.size
  have hO2 := HO2.out _ _ hxy
  have hWy := below_in hW5 hBx
  clear hS hsy huo he2 HO HE2 HSS6 HX5 HO2
  go_wp2_with (first
    | (go_at_call 15; refine (num_any _ _).mono ?_; rintro e w' ⟨rfl, rfl⟩)
    | (go_at_call 40; refine hO2.mono ?_; rintro e w7 ⟨z, rfl, hz, hB7⟩; have hy7 := Cols.more (hy.below hB7) hB7.size; have hW7 := below_in hWy hB7)
    | (go_at_call 22; refine (HS.out _ _ _ hy7 hz).mono ?_; rintro e w8 ⟨rfl, hB8⟩; have hW8 := below_in hW7 hB8)
    | (go_at_call 12; refine (works_any _ (hL.next hW8)).mono ?_; rintro e w9 ⟨rfl, hB9⟩))
  go_ret
  exact ⟨rfl, below_in hW8 hB9⟩

end Go.Proofs.YtcahoigdoohjaaaGreatDoor.codeBytes
