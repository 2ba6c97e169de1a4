/- The law EvenoddBytes answers true for every input and leaves its arguments as they were. -/
import Derived.Test.YtcbkdbnpcpgadaaDoorSLawKit
import Derived.Test.YtcbkdbnpcpgadaaDoorCards
import Derived.Test.YtcbkdbnpcpgadaaDoorTie
import Derived.SevenTiedAt
import Derived.Test.YtcbkdbnpcpgadaaDoorEG4
namespace Go.Proofs.YtcbkdbnpcpgadaaDoor.evenoddBytes
open Go.ChangeShapes Go.WideShapes Go.ChangeAt Go.RowKit Go.Shelf
set_option linter.unusedVariables false
set_option linter.unusedSimpArgs false
attribute [local go_sem] Oper.semAt_some

open Go.Proofs.YtcbkdbnpcpgadaaDoor.E Go.Proofs.YtcbkdbnpcpgadaaDoor.C in
set_option maxRecDepth 100000 in
set_option maxHeartbeats 2000000 in
theorem walk (p : Int) (v : Value) (css : List (List (List UInt8))) (k : Int) (w : World) (hL : Laid w) (wp : -9223372036854775808 ≤ p ∧ p ≤ 9223372036854775807) (hC : Cols w.heap.size w v css) (wk : -9223372036854775808 ≤ k ∧ k ≤ 9223372036854775807) :
    Calls Tryd.prog 4 #[.int .i64 p, v, .int .i64 k] w fun e w' => e = .returned (.bool true) ∧ Below w.heap.size w w' := by
  obtain ⟨A, cap, rfl, _, _⟩ := id hC
  by_cases hf : Few6 css
  case neg =>
    have HF := Lib.hid (few6_any _ css w hC false (by simp [hf]))
    clear hf hC
    go_enter Tryd.func4, Tryd.ntmps4
    go_wp2_with (first
      | (go_at_call 5; refine HF.out.mono ?_; rintro e w' ⟨rfl, rfl⟩)
      | (go_at_call 7; refine (E.works_any _ hL).mono ?_; rintro e w1 ⟨rfl, hB1⟩))
    go_ret
    exact ⟨rfl, hB1⟩
  have HF := Lib.hid (few6_any _ css w hC true (by simp [hf]))
  have hl24 := hf.1
  have hl1000 : css.length ≤ 1000 := by omega
  by_cases hd : DataOk p css
  case neg =>
    have HR := Lib.hid (lright_any p _ css w (Nat.le_refl _) hC hl1000 false (by simp [hd]))
    clear hf hC hd
    go_enter Tryd.func4, Tryd.ntmps4
    go_wp2_with (first
      | (go_at_call 5; refine HF.out.mono ?_; rintro e w' ⟨rfl, rfl⟩)
      | (go_at_call 6; refine HR.out.mono ?_; rintro e w1 ⟨rfl, hB1⟩)
      | (go_at_call 7; refine (E.works_any _ (hL.next hB1)).mono ?_; rintro e w2 ⟨rfl, hB2⟩))
    go_ret
    exact ⟨rfl, below_in hB1 hB2⟩
  have HR := Lib.hid (lright_any p _ css w (Nat.le_refl _) hC hl1000 true (by simp [hd]))
  have hdn := dataOk_n hd
  by_cases hk0 : k < 0
  case pos =>
    have d0 : decide (k < 0) = true := decide_eq_true hk0
    clear hf hC hd hdn hk0
    go_enter Tryd.func4, Tryd.ntmps4
    go_wp2_with (first
      | (go_at_call 5; refine HF.out.mono ?_; rintro e w' ⟨rfl, rfl⟩)
      | (go_at_call 6; refine HR.out.mono ?_; rintro e w1 ⟨rfl, hB1⟩)
      | (go_at_call 7; refine (E.works_any _ (hL.next hB1)).mono ?_; rintro e w2 ⟨rfl, hB2⟩))
    go_ret
    exact ⟨rfl, below_in hB1 hB2⟩
  have d0 : decide (k < 0) = false := decide_eq_false hk0
  obtain ⟨b1, off1, cq, e1, _, hb1, hrow⟩ := hC.at_ hd.2.2.1
  injection e1 with e1 _ e1c
  subst e1
  subst e1c
  obtain ⟨u9, hu9, hm9⟩ := hrow 0 hd.2.2.1
  have hcol0 := hd.2.2.2 0 hd.2.2.1
  obtain ⟨A9, cap9, rfl, _, _⟩ := id hm9
  have hR2 : 2 ≤ (css[0]?.getD []).length := by
    rw [hcol0.1, hdn.2.2.2.2]
    exact Nat.le_sub_of_add_le hdn.2.1
  have hR0 : 0 < (css[0]?.getD []).length := Nat.lt_of_lt_of_le (by decide) hR2
  obtain ⟨b9, off9, rfl, hb9, hrow9⟩ := many_at hm9 hR0
  obtain ⟨B9, cp9, hc9, hby9⟩ := hrow9 0 hR0
  rw [Nat.add_zero] at hu9 hc9
  have HU9 := Lib.hid hu9
  have HC9 : Hid (w.cell? ⟨b9, off9, none⟩ = some (.slice B9 (firstC css).length cp9)) := hc9
  have hn64 := togOk_first hd.2.2
  have HM9 := Lib.hid hm9
  clear hrow hrow9 hu9 hc9 hby9 hm9
  by_cases hkn : ((firstC css).length : Int) ≤ k
  case pos =>
    have d1 : decide (((firstC css).length : Int) ≤ k) = true := decide_eq_true hkn
    generalize (firstC css).length = n at *
    generalize (css[0]?.getD []).length = R at *
    have hl0 : 0 < css.length := hd.2.2.1
    generalize css.length = N at *
    clear hf hC hd hdn hcol0 HM9
    go_enter Tryd.func4, Tryd.ntmps4
    go_wp2_with (first
      | (go_at_call 5; refine HF.out.mono ?_; rintro e w' ⟨rfl, rfl⟩)
      | (go_at_call 6; refine HR.out.mono ?_; rintro e w1 ⟨rfl, hB1⟩; have c9 := (hB1.cell (p := ⟨b1, off1, none⟩) hb1).trans HU9.out; have c90 := (hB1.cell (p := ⟨b9, off9, none⟩) hb9).trans HC9.out)
      | (go_at_call 7; refine (E.works_any _ (hL.next hB1)).mono ?_; rintro e w2 ⟨rfl, hB2⟩))
    go_ret
    exact ⟨rfl, below_in hB1 hB2⟩
  have d1 : decide (((firstC css).length : Int) ≤ k) = false := decide_eq_false hkn
  obtain ⟨kn, rfl⟩ : ∃ kn : Nat, k = (kn : Int) := ⟨k.toNat, by omega⟩
  have hcells : ∀ j, j < css.length → (css[j]?.getD []).length ≤ 1000 ∧ ∀ i, i < (css[j]?.getD []).length → kn < ((css[j]?.getD [])[i]?.getD []).length := fun j hj => by
    have h1 := hd.2.2.2 j hj
    refine ⟨by omega, fun i hi => ?_⟩
    have h2 := h1.2.2 i hi
    omega
  have hec := enc_cells hd
  have hcellsE : ∀ j, j < (encOf p css).length → ((encOf p css)[j]?.getD []).length ≤ 1000 ∧ ∀ i, i < ((encOf p css)[j]?.getD []).length → kn < (((encOf p css)[j]?.getD [])[i]?.getD []).length := fun j hj => by
    have h1 := hec.2 j hj
    refine ⟨by omega, fun i hi => ?_⟩
    have h2 := h1.2 i (by omega)
    omega
  have HE := Lib.hid (fun (U : World) (hU : Below w.heap.size w U) => encode_yes (B := w.heap.size) p _ css hd U (hL.next hU) hU.size (hC.below hU))
  have HO := Lib.hid (fun (U : World) (hU : Below w.heap.size w U) => only_any (B := w.heap.size) _ css kn U hU.size (hC.below hU) hl1000 (by omega) hcells)
  have HE2 := Lib.hid (fun (U : World) (u : Value) (hU : Laid U) (hCU : Cols U.heap.size U u (onlyOf kn css)) => encode_yes p u (onlyOf kn css) (only_ok hd) U hU (Nat.le_refl _) hCU)
  rw [enc_only hd] at HE2
  have HO2 := Lib.hid (fun (U : World) (x : Value) (hCU : Cols U.heap.size U x (encOf p css)) => only_any x (encOf p css) kn U (Nat.le_refl _) hCU (by have := hec.1; omega) (by omega) hcellsE)
  have HRT := Lib.hid (fun (U : World) (x : Value) (hCU : Cols U.heap.size U x ([css[0]?.getD []] ++ encOf p css)) => right6_any p x _ U (Nat.le_refl _) hCU (by simp; have := hec.1; omega) true (by simp only [true_iff]; exact enc_with hd hcol0))
  have hlen3 : ∀ j : Nat, ((onlyOf kn (encOf p css))[j]?.getD []).length ≤ 1000 := fun j => by
    rw [only_col]
    rcases Nat.lt_or_ge j 2 with h | h
    · have := (hec.2 j h).1; omega
    · rw [List.getElem?_eq_none (by have := hec.1; omega)]; simp
  have HS := Lib.hid (fun (U : World) (x y : Value) (h1 : Cols U.heap.size U x (onlyOf kn (encOf p css))) (h2 : Cols U.heap.size U y (onlyOf kn (encOf p css))) => same6_any x y _ _ U h1 h2 (Nat.le_refl _) (Nat.le_refl _) hlen3 hlen3 (by rw [only_len]; have := hec.1; omega) (by rw [only_len]; have := hec.1; omega))
  simp only [decide_true] at HS
  have HM0 := Lib.hid (fun (U : World) (hU : Below w.heap.size w U) => (HM9.out.below hU))
  clear hf hC hdn hcells hcellsE hlen3 HM9
  have hl0 : 0 < css.length := hd.2.2.1
  have HOL : Hid ((onlyOf kn css).length = css.length) := only_len
  have HEL : Hid ((encOf p css).length = 2) := rfl
  have HOEL : Hid ((onlyOf kn (encOf p css)).length = 2) := only_len
  clear hd hec hcol0
  generalize encOf p css = en at *
  generalize onlyOf kn css = oc at *
  generalize onlyOf kn en = oE at *
  generalize css[0]?.getD [] = cs0 at *
  generalize (firstC css).length = n at *
  generalize css.length = N at *
  go_enter Tryd.func4, Tryd.ntmps4
  go_wp2_with (first
    | (go_at_call 5; refine HF.out.mono ?_; rintro e w' ⟨rfl, rfl⟩)
    | (go_at_call 6; refine HR.out.mono ?_; rintro e w1 ⟨rfl, hBw⟩; have c9 := (hBw.cell (p := ⟨b1, off1, none⟩) hb1).trans HU9.out; have c90 := (hBw.cell (p := ⟨b9, off9, none⟩) hb9).trans HC9.out))
  clear HF HR c9 c90
  refine (HE.out _ hBw).mono ?_
  rintro e w2 ⟨x, rfl, hx, hB⟩
  replace hBw := below_in hBw hB
  obtain ⟨Ax, cx, hxe, _, _⟩ := id hx
  rw [HEL.out] at hxe
  subst hxe
  clear hB HE
  go_wp2_with fail
  refine (HO.out _ hBw).mono ?_
  rintro e w3 ⟨u, rfl, hu, hB⟩
  replace hBw := below_in hBw hB
  replace hx := Cols.more (hx.below hB) hB.size
  obtain ⟨Au, cu, hue, _, _⟩ := id hu
  rw [HOL.out] at hue
  subst hue
  clear hB HO
  go_wp2_with fail
  refine (HE2.out _ _ (hL.next hBw) hu).mono ?_
  rintro e w4 ⟨y, rfl, hy, hB⟩
  replace hBw := below_in hBw hB
  replace hx := Cols.more (hx.below hB) hB.size
  obtain ⟨Ay, cy, hye, _, _⟩ := id hy
  rw [HOEL.out] at hye
  subst hye
  clear hB HE2 hu
  have c9 := (hBw.cell (p := ⟨b1, off1, none⟩) hb1).trans HU9.out
  obtain ⟨w5, hw5⟩ : ∃ w5, w4.alloc (.cells #[.slice (some ⟨b9, off9, none⟩) cs0.length cap9] 30) = w5 := ⟨_, rfl⟩
  have b5 : Blk w5 w4.heap.size 30 #[.slice (some ⟨b9, off9, none⟩) cs0.length cap9] := by rw [← hw5]; exact Blk.new w4 _ _
  have hB5 : Below w4.heap.size w4 w5 := by rw [← hw5]; exact below_one w4 _
  have hs5 : w5.heap.size = w4.heap.size + 1 := by rw [← hw5]; simp
  have hBw5 := below_in hBw hB5
  have hm0 := HM0.out w5 hBw5
  have HROW : Hid (RowC (fun _ => True) w5 w4.heap.size (.slice (some ⟨w4.heap.size, 0, none⟩) 1 1) [cs0]) :=
    RowG.one b5 (Nat.le_refl _) (manyR.imp (manyR_iff.2 hm0) fun b hb => by
      have h1 : b < w.heap.size := hb
      have h2 := hBw.size
      exact ⟨by omega, fun e => by injection e with e; have e2 : b = w4.heap.size := e; omega, trivial⟩)
  have hx5 := hx.below hB5
  have HX5 : Hid (colsR.R (fun b => b < w5.heap.size ∧ some b ≠ (Value.slice (some ⟨w4.heap.size, 0, none⟩) 1 1).ownBlock ∧ True) w5 (.slice Ax 2 cx) en) :=
    colsR.imp (colsR_iff.2 hx5) fun b hb => by
      have h1 : b < w4.heap.size := hb
      exact ⟨by omega, fun e => by injection e with e; have e2 : b = w4.heap.size := e; omega, trivial⟩
  clear hm0 hx5 b5
  have hs45 := hB5.size
  have hsw := hBw.size
  go_wp2_with (first
    | (go_at_call 9; refine (E.num_any _ _).mono ?_; rintro e w' ⟨rfl, rfl⟩)
    | (at_builtin; refine wpList_appCw (T := 22) _ rfl _ _ rfl Tryd.underlying22 [cs0] en rfl HROW.out rfl HX5.out (by have := HEL.out; omega) (by simp) (by have := HEL.out; omega) (by omega) ?_; intro v' w6 hrow6 hgrow6 _; have hB46 : Below w4.heap.size w4 w6 := below_grown hB5 hgrow6 (by omega) (fun g e => by injection e with e; have e2 : w4.heap.size = g := e; omega); have hx6 := RowC.cols hrow6; have hy6 := Cols.more (hy.below hB46) hB46.size; have hxx6 := Cols.more (hx.below hB46) hB46.size; have hBw6 := below_in hBw hB46)
    | (go_at_call 10; refine (HRT.out _ _ hx6).mono ?_; rintro e w7 ⟨rfl, hB7⟩; have hx7 := Cols.more (hxx6.below hB7) hB7.size; have hy7 := Cols.more (hy6.below hB7) hB7.size)
    | (go_at_call 13; refine (HO2.out _ _ hx7).mono ?_; rintro e w8 ⟨z, rfl, hz, hB8⟩; have hy8 := Cols.more (hy7.below hB8) hB8.size)
    | (go_at_call 14; refine (HS.out _ _ _ hy8 hz).mono ?_; rintro e w9 ⟨rfl, hB9⟩; have hBw9 := below_in hBw6 (below_in hB7 (below_in hB8 hB9)))
    | (go_at_call 7; refine (E.works_any _ (hL.next hBw9)).mono ?_; rintro e w10 ⟨rfl, hB10⟩))
  go_ret
  exact ⟨rfl, below_in hBw9 hB10⟩

set_option maxRecDepth 100000 in
theorem lifted (os : Os) (started : os.Started) (H : Type) (enc : TypeId × Value → H) :
    ReturnsInHanded {} Tryd.checked os 4 .any (fun w args => (Rows.evenoddBytesSpec.pre enc Tryd.prog Tryd.f4 [] false w args ∧ laidMetH Tryd.prog laidL w) ∧ sizedMet enc Tryd.prog Tryd.f4 (OpenSpec.ofChange Rows.evenoddBytesSpec) false w args)
      (Rows.evenoddBytesSpec.post enc Tryd.prog Tryd.f4 false true false false) := by
  refine returnsInHanded_of_change_and (C := Tryd.checked) (X := fun w _ => laidMetH Tryd.prog laidL w) (fun _ _ _ hh h => h.of_heap hh) own started (by kernel_rfl) Tryd.func4
    (ChangeSpec.witness_shaped (enc := enc) (C := Tryd.checked) (os := os) (X := fun w _ => laidMetH Tryd.prog laidL w) false (World.doorLaid Tryd.prog 200 os) #[.int .i64 0, .slice none 0 0, .int .i64 0] 8 rfl (World.shaped_of_RefB (by kernel_rfl) (by kernel_rfl)) (by kernel_rfl) (by kernel_rfl) (by kernel_rfl) (door_met os _)) ?_
  intro W base args ds gs before hval0 hW _ _ hL0 _
  have hL := laid_of hL0
  have hval : ∀ (j : Nat) t v, Tryd.f4.params[j]? = some t → args[j]? = some v → Value.okWide Tryd.prog W .any base t v := hval0
  have hW' := hW
  obtain ⟨p, q, hA0, hV, rfl, hfz, hnd⟩ := hW
  have hA : DataW.TrodAll enc Tryd.prog W 0 (fun _ => true) true Tryd.f4.params.toList args.toList ds p := hA0
  rw [Tryd.params4] at hA hval
  obtain ⟨v0, vs0, d0, ds0, p0, q0, hargs, rfl, rfl, h0, r0⟩ := trodAll_cons hA
  obtain ⟨v1, vs1, d1, ds1, p1, q1, rfl, rfl, rfl, h1, r1⟩ := trodAll_cons r0
  obtain ⟨v2, vs2, d2, ds2, p2, q2, rfl, rfl, rfl, h2, r2⟩ := trodAll_cons r1
  obtain ⟨rfl, rfl, rfl⟩ := trodAll_nil r2
  obtain rfl : args = #[v0, v1, v2] := by cases args; simp_all
  obtain ⟨rfl, rfl⟩ := trodVars_none hV
  obtain ⟨a0, rfl, rfl, rfl, w0⟩ := open_int Tryd.underlying3 (hval 0 3 v0 rfl rfl) h0
  have k1 := h1
  have lt1 : ∀ x ∈ p1, x.block < W.heap.size := by obtain ⟨m, hm⟩ := k1; exact DataW.trod_lt m _ _ _ hm
  obtain ⟨a1, len1, cap1, rfl⟩ := okWide_slice Tryd.underlying22 (hval 1 22 v1 rfl rfl)
  obtain ⟨l1, w1⟩ : ∃ css, E.Cols W.heap.size W (.slice a1 len1 cap1) css := by obtain ⟨fuel, hf⟩ := h1; exact E.open_cols hf
  obtain ⟨a2, rfl, rfl, rfl, w2⟩ := open_int Tryd.underlying3 (hval 2 3 v2 rfl rfl) h2
  clear hA0 hval0
  simp only [List.append_nil] at hW'
  refine (walk a0 _ l1 a2 W hL (E.wf_i64 w0) w1 (E.wf_i64 w2)).mono fun e W' ⟨he, bel⟩ => ?_
  subst he
  exact ⟨_, rfl, _, _, _, [], _, [], hW', trodAll_mk1 (shut_bool Tryd.underlying4 _), (trodAll_cons_mk (shut_int Tryd.underlying3 w0) (trodAll_cons_mk (Below.trod laidOut (by kernel_rfl) (of_decide_eq_true (by kernel_rfl)) k1 bel lt1) (trodAll_cons_mk (shut_int Tryd.underlying3 w2) trodAll_mk0))), rfl, bel.frame _, fun h => by cases h⟩

theorem over : Rows.evenoddBytesRow.holds Tryd.pinned (OpenSpec.ofChange Rows.evenoddBytesSpec) :=
  OpenClaim.holds_of_wide 4 Tryd.f4 rfl rfl rfl rfl rfl rfl rfl ⟨rfl, rfl, rfl, rfl, rfl⟩ rfl rfl rfl rfl rfl (by kernel_rfl) Tryd.func4 (by kernel_rfl)
    (of_decide_eq_true (by kernel_rfl)) (by unfold Func.isWrapper; first | (rw [if_pos (by decide +kernel)]; kernel_rfl) | (rw [if_neg (by decide +kernel)]; exact ⟨rfl, rfl⟩))
    (fun os started H enc _ => lifted os started H enc)

/-- The tied card: the row, and the tie that is given. -/
theorem evenoddBytes_holds : Rows.EvenoddBytesCardSaid :=
  Claim7.holds_tied_plain_at .later [] [.data, .data] true (true, "bebac8c76e77d6b6d8991a867ad7f997cdca5ffa60814bc3a3209b50e2c2322a") true over (fun _ h => by cases h) (by kernel_rfl) (fun _ h => by cases h) evenoddBytes_row_tie rfl ⟨rfl, rfl⟩ (by kernel_rfl) rfl
    (fun f fn hf hfn => by
      obtain rfl : f = 4 := Option.some.inj ((show Tryd.prog.funcNamed "palisade/palisadelaw06.EvenoddBytes" = some 4 by kernel_rfl).symm.trans hf) |>.symm
      obtain rfl : fn = Tryd.f4 := (Option.some.inj (Tryd.func4.symm.trans hfn)).symm
      exact ⟨by kernel_rfl, fun j t ht => by
        rw [Tryd.params4] at ht
        have hm : t ∈ [3, 22, 3] := by simpa using Array.mem_of_getElem? ht
        have hall : ([3, 22, 3].all fun u => !Tryd.prog.wantsStandIn u) = true := by kernel_rfl
        exact (show Tryd.prog.wantsStandIn t = false by simpa using List.all_eq_true.1 hall t hm)⟩)
    (by kernel_rfl)
end Go.Proofs.YtcbkdbnpcpgadaaDoor.evenoddBytes
