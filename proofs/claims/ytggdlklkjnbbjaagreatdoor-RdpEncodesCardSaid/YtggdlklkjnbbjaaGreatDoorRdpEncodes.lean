/- The law RdpEncodes answers true for every input and leaves its arguments as they were. -/
import Derived.Test.YtggdlklkjnbbjaaGreatDoorSLawKit
import Derived.Test.YtggdlklkjnbbjaaGreatDoorCards
import Derived.Test.YtggdlklkjnbbjaaGreatDoorTie
import Derived.SevenTiedAt
import Derived.Test.YtggdlklkjnbbjaaGreatDoorRG2
namespace Go.Proofs.YtggdlklkjnbbjaaGreatDoor.rdpEncodes
open Go.ChangeShapes Go.WideShapes Go.ChangeAt Go.RowKit Go.Shelf
set_option linter.unusedVariables false
set_option linter.unusedSimpArgs false
attribute [local go_sem] Oper.semAt_some

open Go.Proofs.YtggdlklkjnbbjaaGreatDoor.E Go.Proofs.YtggdlklkjnbbjaaGreatDoor.C Go.Proofs.YtggdlklkjnbbjaaGreatDoor.R in
set_option maxRecDepth 100000 in
set_option maxHeartbeats 4000000 in
theorem n1 (p : Int) (v : Value) (css : List (List (List UInt8))) (w : World) (hL : Laid w) (wp : -9223372036854775808 ≤ p ∧ p ≤ 9223372036854775807) (hC : Cols w.heap.size w v css) (hf0 : ¬ Few6 css) :
    Calls Tryz.prog 6 #[.int .i64 p, v] w fun e w' => e = .returned (.bool true) ∧ Below w.heap.size w w' := by
  obtain ⟨A, cap, rfl, _, _⟩ := id hC
  have HF0 := Lib.hid (few6_any (.slice A css.length cap) css w hC false (by simp [hf0]))
  clear hf0 hC
  generalize css.length = na at *
  go_enter Tryz.func6, Tryz.ntmps6
  go_wp2_with (first
    | (go_at_call 10; refine HF0.out.mono ?_; rintro e w' ⟨rfl, rfl⟩)
    | (go_at_call 26; refine (R.works_any _ (hL.next (Below.refl _ _))).mono ?_; rintro e wz ⟨rfl, hBz⟩))
  go_ret
  exact ⟨rfl, hBz⟩

open Go.Proofs.YtggdlklkjnbbjaaGreatDoor.E Go.Proofs.YtggdlklkjnbbjaaGreatDoor.C Go.Proofs.YtggdlklkjnbbjaaGreatDoor.R in
set_option maxRecDepth 100000 in
set_option maxHeartbeats 4000000 in
theorem n2 (p : Int) (v : Value) (css : List (List (List UInt8))) (w : World) (hL : Laid w) (wp : -9223372036854775808 ≤ p ∧ p ≤ 9223372036854775807) (hC : Cols w.heap.size w v css) (hf0 : Few6 css) (hno : ¬ DataR p css) :
    Calls Tryz.prog 6 #[.int .i64 p, v] w fun e w' => e = .returned (.bool true) ∧ Below w.heap.size w w' := by
  obtain ⟨A, cap, rfl, _, _⟩ := id hC
  have hlen : css.length ≤ 1000 := by have := hf0.1; omega
  have hcl : ∀ j, j < css.length → (css[j]?.getD []).length ≤ 1000 := fun j hj => by have := (hf0.2 j hj).1; omega
  have HF0 := Lib.hid (few6_any (.slice A css.length cap) css w hC true (by simp [hf0]))
  have HEC := Lib.hid (R.encode_no (B := w.heap.size) p (.slice A css.length cap) css w hL (Nat.le_refl _) hC hlen hcl hno)
  have HLR := Lib.hid (fun (U : World) (hU : Below w.heap.size w U) => R.lright_any p (.slice A css.length cap) css U hU.size (hC.below hU) hlen false (by simp [hno]))
  clear hf0 hC hno hlen hcl
  generalize css.length = na at *
  go_enter Tryz.func6, Tryz.ntmps6
  go_wp2_with (first
    | (go_at_call 10; refine HF0.out.mono ?_; rintro e w' ⟨rfl, rfl⟩)
    | (go_at_call 27; refine HEC.out.mono ?_; rintro e w2 ⟨rfl, hB2⟩)
    | (go_at_call 28; refine (HLR.out _ hB2).mono ?_; rintro e w5 ⟨rfl, hB5⟩; have hB := below_in hB2 hB5)
    | (go_at_call 29; refine (R.num_any _ _).mono ?_; rintro e w' ⟨rfl, rfl⟩)
    | (go_at_call 26; refine (R.works_any _ (hL.next hB)).mono ?_; rintro e wz ⟨rfl, hBz⟩))
  go_ret
  exact ⟨rfl, below_in hB hBz⟩

open Go.Proofs.YtggdlklkjnbbjaaGreatDoor.E Go.Proofs.YtggdlklkjnbbjaaGreatDoor.C Go.Proofs.YtggdlklkjnbbjaaGreatDoor.R in
set_option maxRecDepth 100000 in
set_option maxHeartbeats 4000000 in
theorem yes (p : Int) (v : Value) (css : List (List (List UInt8))) (w : World) (hL : Laid w) (wp : -9223372036854775808 ≤ p ∧ p ≤ 9223372036854775807) (hC : Cols w.heap.size w v css) (hf0 : Few6 css) (hok : DataR p css) :
    Calls Tryz.prog 6 #[.int .i64 p, v] w fun e w' => e = .returned (.bool true) ∧ Below w.heap.size w w' := by
  have hpp := prm_bounds hok.1.1
  obtain ⟨P, rfl⟩ : ∃ P : Nat, p = (P : Int) := ⟨p.toNat, by omega⟩
  have hst := steps2 hok
  have hgr := togOk_grid hok.1.2
  have hf1 := togOk_first hok.1.2
  obtain ⟨M, hM⟩ : ∃ M : Nat, css.length = M := ⟨_, rfl⟩
  have hMP : (M : Int) = (P : Int) - 1 := by have := hok.2; omega
  obtain ⟨A, cap, rfl, _, _⟩ := id hC
  have hlen : css.length ≤ 1000 := by have := hf0.1; omega
  have hcl : ∀ j, j < css.length → (css[j]?.getD []).length ≤ 1000 := fun j hj => by have := (hf0.2 j hj).1; omega
  have HF0 := Lib.hid (few6_any (.slice A css.length cap) css w hC true (by simp [hf0]))
  have hel : (rdpOf (P : Int) css).length = 2 := rfl
  have HEC := Lib.hid (R.encode_yes (B := w.heap.size) (P : Int) (.slice A css.length cap) css hok w hL (Nat.le_refl _) hC)
  have HLR := Lib.hid (fun (U : World) (hU : Below w.heap.size w U) => R.lright_any (P : Int) (.slice A css.length cap) css U hU.size (hC.below hU) hlen true (by simp [hok]))
  have HEN := Lib.hid (fun (U : World) (hU : Below w.heap.size w U) => encode6_any (B := w.heap.size) 2 (P : Int) ⟨by omega, hok.1.1⟩ (.slice A css.length cap) css (firstC css).length U hU.size (hC.below hU) (by rw [hM]; show (M : Int) = P - 1; omega) hgr (by omega))
  rw [show (madeN 2).toNat = 2 from rfl, hst] at HEN
  have hce : ∀ j : Nat, ((rdpOf (P : Int) css)[j]?.getD []).length ≤ 1000 := fun j => by
    rcases j with _ | _ | j <;> simp [rdpOf, colL] <;> omega
  have HSAM := Lib.hid (fun (U : World) (x y : Value) (B1 B2 : Nat) (h1 : B1 ≤ U.heap.size) (h2 : B2 ≤ U.heap.size) (hx : Cols B1 U x (rdpOf (P : Int) css)) (hy : Cols B2 U y (rdpOf (P : Int) css)) => same6_any (B := B1) (B' := B2) x y _ _ U hx hy h1 h2 hce hce (by rw [hel]; omega) (by rw [hel]; omega))
  simp only [decide_true] at HSAM
  have HTL : Hid ((css ++ rdpOf (P : Int) css).length = M + 2) := by unfold Hid; rw [List.length_append, hM, hel]
  have HTD : Hid ((css ++ rdpOf (P : Int) css).drop M = rdpOf (P : Int) css) := by unfold Hid; rw [← hM, List.drop_left]
  have HEL := Lib.hid hel
  clear hf0 hC hok hlen hcl hce hst hgr hf1 hel
  rw [hM] at HF0 HEC HLR HEN ⊢
  clear hM
  generalize css ++ rdpOf (P : Int) css = tot at *
  generalize rdpOf (P : Int) css = en at *
  have q2 : wrap64 ((P : Int) - 1) = (M : Int) := by rw [IntWalk.wrap64_in _ (by omega)]; omega
  have q1 : IntKind.i64.wrap ((P : Int) - 1) = (M : Int) := by rw [IntWalk.i64_in _ (by omega)]; omega
  have HMP := Lib.hid hMP
  clear hMP q1 hpp wp
  go_enter Tryz.func6, Tryz.ntmps6
  go_wp2_with (first
    | (go_at_call 10; refine HF0.out.mono ?_; rintro e w' ⟨rfl, rfl⟩)
    | (go_at_call 27; refine HEC.out.mono ?_; rintro e w2 ⟨le, rfl, he, hB2⟩; obtain ⟨be, oe, ce, hle, _, _, _⟩ := he.at_ (by have := HEL.out; omega); rw [HEL.out] at hle; subst hle)
    | (go_at_call 28; refine (HLR.out _ hB2).mono ?_; rintro e w5 ⟨rfl, hB5'⟩; have hB5 := below_in hB2 hB5')
    | (go_at_call 30; refine (R.lcode_any _ _).mono ?_; rintro e w6 ⟨rfl, hB6'⟩; have hB6 := below_in hB5 hB6')
  )
  refine (HEN.out _ hB6).mono ?_
  rintro e w7 ⟨u, rfl, ht, hB7'⟩
  have hB := below_in hB6 hB7'
  obtain ⟨bt, ot, ct, hue, hct, _, _⟩ := ht.at_ (by have := HTL.out; omega)
  have h27 := below_in hB5' (below_in hB6' hB7')
  subst hue
  have hT := HTL.out
  have HTC := Lib.hid (fun h0 : 0 < tot.length => Cols.drop_ ht (m := M) (by omega))
  rw [HTD.out] at HTC
  generalize tot.length = T at *
  have t1 : (0 : Int) ≤ (M : Int) := by omega
  have t3 : (M : Int) ≤ (T : Int) := by omega
  have t4 : (T : Int) ≤ (ct : Int) := by omega
  have t5 : ¬ ct = M := by omega
  have t6 : (M : Int) ≤ (ct : Int) := by omega
  have HT := Lib.hid hT
  have HSM := Lib.hid (HSAM.out w7 (.slice (some ⟨be, oe, none⟩) 2 ce) (.slice (some ⟨bt, ot + M, none⟩) (T - M) (ct - M)) w2.heap.size w7.heap.size h27.size (Nat.le_refl _) (he.below h27) (HTC.out (by omega)))
  clear ht he hT hct h27 hB2 hB5 hB6 hB5' hB6' hB7' HTC HSAM
  go_wp2_with (first
    | (go_at_call 21; refine HSM.out.mono ?_; rintro e w8 ⟨rfl, hB8⟩; have hB9 := below_in hB hB8)
    | (go_at_call 29; refine (R.num_any _ _).mono ?_; rintro e w' ⟨rfl, rfl⟩)
    | (go_at_call 26; refine (R.works_any _ (hL.next hB9)).mono ?_; rintro e wz ⟨rfl, hBz⟩))
  go_ret
  exact ⟨rfl, below_in hB9 hBz⟩

open Go.Proofs.YtggdlklkjnbbjaaGreatDoor.E Go.Proofs.YtggdlklkjnbbjaaGreatDoor.C Go.Proofs.YtggdlklkjnbbjaaGreatDoor.R in
set_option maxRecDepth 100000 in
set_option maxHeartbeats 4000000 in
theorem walk (p : Int) (v : Value) (css : List (List (List UInt8))) (w : World) (hL : Laid w) (wp : -9223372036854775808 ≤ p ∧ p ≤ 9223372036854775807) (hC : Cols w.heap.size w v css) :
    Calls Tryz.prog 6 #[.int .i64 p, v] w fun e w' => e = .returned (.bool true) ∧ Below w.heap.size w w' := by
  by_cases hf0 : Few6 css
  case neg => exact n1 p v css w hL wp hC hf0
  by_cases hok : DataR p css
  case pos => exact yes p v css w hL wp hC hf0 hok
  exact n2 p v css w hL wp hC hf0 hok

set_option maxRecDepth 100000 in
theorem lifted (os : Os) (started : os.Started) (H : Type) (enc : TypeId × Value → H) :
    ReturnsInHanded {} Tryz.checked os 6 .any (fun w args => (Rows.rdpEncodesSpec.pre enc Tryz.prog Tryz.f6 [] false w args ∧ laidMetH Tryz.prog laidL w) ∧ sizedMet enc Tryz.prog Tryz.f6 (OpenSpec.ofChange Rows.rdpEncodesSpec) false w args)
      (Rows.rdpEncodesSpec.post enc Tryz.prog Tryz.f6 false true false false) := by
  refine returnsInHanded_of_change_and (C := Tryz.checked) (X := fun w _ => laidMetH Tryz.prog laidL w) (fun _ _ _ hh h => h.of_heap hh) own started (by kernel_rfl) Tryz.func6
    (ChangeSpec.witness_shaped (enc := enc) (C := Tryz.checked) (os := os) (X := fun w _ => laidMetH Tryz.prog laidL w) false (World.doorLaid Tryz.prog 200 os) #[.int .i64 0, .slice none 0 0] 8 rfl (World.shaped_of_RefB (by kernel_rfl) (by kernel_rfl)) (by kernel_rfl) (by kernel_rfl) (by kernel_rfl) (door_met os _)) ?_
  intro W base args ds gs before hval0 hW _ _ hL0 _
  have hL := laid_of hL0
  have hval : ∀ (j : Nat) t v, Tryz.f6.params[j]? = some t → args[j]? = some v → Value.okWide Tryz.prog W .any base t v := hval0
  have hW' := hW
  obtain ⟨p, q, hA0, hV, rfl, hfz, hnd⟩ := hW
  have hA : DataW.TrodAll enc Tryz.prog W 0 (fun _ => true) true Tryz.f6.params.toList args.toList ds p := hA0
  rw [Tryz.params6] at hA hval
  obtain ⟨v0, vs0, d0, ds0, p0, q0, hargs, rfl, rfl, h0, r0⟩ := trodAll_cons hA
  obtain ⟨v1, vs1, d1, ds1, p1, q1, rfl, rfl, rfl, h1, r1⟩ := trodAll_cons r0
  obtain ⟨rfl, rfl, rfl⟩ := trodAll_nil r1
  obtain rfl : args = #[v0, v1] := by cases args; simp_all
  obtain ⟨rfl, rfl⟩ := trodVars_none hV
  obtain ⟨a0, rfl, rfl, rfl, w0⟩ := open_int Tryz.underlying3 (hval 0 3 v0 rfl rfl) h0
  have k1 := h1
  have lt1 : ∀ x ∈ p1, x.block < W.heap.size := by obtain ⟨m, hm⟩ := k1; exact DataW.trod_lt m _ _ _ hm
  obtain ⟨a1, len1, cap1, rfl⟩ := okWide_slice Tryz.underlying22 (hval 1 22 v1 rfl rfl)
  obtain ⟨l1, w1⟩ : ∃ css, E.Cols W.heap.size W (.slice a1 len1 cap1) css := by obtain ⟨fuel, hf⟩ := h1; exact E.open_cols hf
  clear hA0 hval0
  simp only [List.append_nil] at hW'
  refine (walk a0 _ l1 W hL (E.wf_i64 w0) w1).mono fun e W' ⟨he, bel⟩ => ?_
  subst he
  exact ⟨_, rfl, _, _, _, [], _, [], hW', trodAll_mk1 (shut_bool Tryz.underlying4 _), (trodAll_cons_mk (shut_int Tryz.underlying3 w0) (trodAll_cons_mk (Below.trod laidOut (by kernel_rfl) (of_decide_eq_true (by kernel_rfl)) k1 bel lt1) trodAll_mk0)), rfl, bel.frame _, fun h => by cases h⟩

theorem over : Rows.rdpEncodesRow.holds Tryz.pinned (OpenSpec.ofChange Rows.rdpEncodesSpec) :=
  OpenClaim.holds_of_wide 6 Tryz.f6 rfl rfl rfl rfl rfl rfl rfl ⟨rfl, rfl, rfl, rfl, rfl⟩ rfl rfl rfl rfl rfl (by kernel_rfl) Tryz.func6 (by kernel_rfl)
    (of_decide_eq_true (by kernel_rfl)) (by unfold Func.isWrapper; first | (rw [if_pos (by decide +kernel)]; kernel_rfl) | (rw [if_neg (by decide +kernel)]; exact ⟨rfl, rfl⟩))
    (fun os started H enc _ => lifted os started H enc)

/-- The tied card: the row, and the tie that is given. -/
theorem rdpEncodes_holds : Rows.RdpEncodesCardSaid :=
  Claim7.holds_tied_plain_at .later [] [.data, .data] true (true, "57ec92c1cad9246a878d60c07de9d5f93b7ace9698c7d1eeaf89e47cae761c73") true over (fun _ h => by cases h) (by kernel_rfl) (fun _ h => by cases h) rdpEncodes_row_tie rfl ⟨rfl, rfl⟩ (by kernel_rfl) rfl
    (fun f fn hf hfn => by
      obtain rfl : f = 6 := Option.some.inj ((show Tryz.prog.funcNamed "palisade/palisadelaw07.RdpEncodes" = some 6 by kernel_rfl).symm.trans hf) |>.symm
      obtain rfl : fn = Tryz.f6 := (Option.some.inj (Tryz.func6.symm.trans hfn)).symm
      exact ⟨by kernel_rfl, fun j t ht => by
        rw [Tryz.params6] at ht
        have hm : t ∈ [3, 22] := by simpa using Array.mem_of_getElem? ht
        have hall : ([3, 22].all fun u => !Tryz.prog.wantsStandIn u) = true := by kernel_rfl
        exact (show Tryz.prog.wantsStandIn t = false by simpa using List.all_eq_true.1 hall t hm)⟩)
    (by kernel_rfl)
end Go.Proofs.YtggdlklkjnbbjaaGreatDoor.rdpEncodes
