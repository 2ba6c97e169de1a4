/- The law RingSums answers true for every input and leaves its arguments as they were. -/
import Derived.Test.YtckfepmahjgmfaaDoorRSA
import Derived.Test.YtckfepmahjgmfaaDoorRMAx1
import Derived.Test.YtckfepmahjgmfaaDoorRSAx1
import Derived.Test.YtckfepmahjgmfaaDoorRCAx1
import Derived.Test.YtckfepmahjgmfaaDoorRG1x1
import Derived.Test.YtckfepmahjgmfaaDoorRG2x1
import Derived.Test.YtckfepmahjgmfaaDoorRG3x1
import Derived.Test.YtckfepmahjgmfaaDoorRG6x1
import Derived.Test.YtckfepmahjgmfaaDoorRG9x1
import Derived.Test.YtckfepmahjgmfaaDoorRG10x1
import Derived.Test.YtckfepmahjgmfaaDoorCards
import Derived.Test.YtckfepmahjgmfaaDoorTie
import Derived.SevenTiedAt
import Derived.Test.YtckfepmahjgmfaaDoorRG10
import Derived.Test.YtckfepmahjgmfaaDoorRG3
namespace Go.Proofs.YtckfepmahjgmfaaDoor.ringSums
open Go.ChangeShapes Go.WideShapes Go.ChangeAt Go.RowKit Go.Shelf
set_option linter.unusedVariables false
set_option linter.unusedSimpArgs false
attribute [local go_sem] Oper.semAt_some

open Go.Proofs.YtckfepmahjgmfaaDoor.E Go.Proofs.YtckfepmahjgmfaaDoor.C Go.Proofs.YtckfepmahjgmfaaDoor.Rg in
theorem few_len {s : List (List (List UInt8))} (h : Few6 s) : s.length ≤ 1000 ∧ (∀ j i : Nat, (s[j]?.getD []).length ≤ 1000 ∧ ((s[j]?.getD [])[i]?.getD []).length ≤ 1000) := by
  refine ⟨by have := h.1; omega, fun j i => ?_⟩
  rcases Nat.lt_or_ge j s.length with hj | hj
  · have h2 := h.2 j hj
    refine ⟨by have := h2.1; omega, ?_⟩
    rcases Nat.lt_or_ge i (s[j]?.getD []).length with hi | hi
    · have := h2.2 i hi; omega
    · rw [List.getElem?_eq_none hi]; exact Nat.zero_le _
  · rw [List.getElem?_eq_none hj]
    exact ⟨Nat.zero_le _, by simp⟩
open Go.Proofs.YtckfepmahjgmfaaDoor.E Go.Proofs.YtckfepmahjgmfaaDoor.C Go.Proofs.YtckfepmahjgmfaaDoor.Rg in
theorem sum_first {Q n : Nat} {css : List (List (List UInt8))} (hg : ∀ j, j < css.length → GoodC Q n (css[j]?.getD [])) (h0 : 0 < css.length) : sumC Q (css.take 1) = css[0]?.getD [] := by
  obtain ⟨c, l, rfl⟩ : ∃ c l, css = c :: l := by cases css with | nil => simp at h0 | cons c l => exact ⟨c, l, rfl⟩
  have hc : GoodC Q n c := hg 0 h0
  show sumC Q [c] = c
  unfold sumC rowK
  refine List.ext_getElem? fun i => ?_
  by_cases hi : i < Q
  · rw [List.getElem?_map, List.getElem?_range hi, List.getElem?_eq_getElem (by rw [hc.1]; exact hi)]
    show some (xorOf [c[i]?.getD []]) = _
    rw [xorOf_one, List.getElem?_eq_getElem (by rw [hc.1]; exact hi)]
    rfl
  · rw [List.getElem?_eq_none (by simp; omega), List.getElem?_eq_none (by rw [hc.1]; omega)]
open Go.Proofs.YtckfepmahjgmfaaDoor.E Go.Proofs.YtckfepmahjgmfaaDoor.C Go.Proofs.YtckfepmahjgmfaaDoor.Rg in
theorem good_take {Q n : Nat} {css : List (List (List UInt8))} (hg : ∀ j, j < css.length → GoodC Q n (css[j]?.getD [])) (k : Nat) : ∀ c ∈ css.take k, GoodC Q n c := by
  intro c hc
  obtain ⟨i, hi, rfl⟩ := List.mem_iff_getElem.1 (List.mem_of_mem_take hc)
  have := hg i hi
  rwa [List.getElem?_eq_getElem hi] at this
open Go.Proofs.YtckfepmahjgmfaaDoor.E Go.Proofs.YtckfepmahjgmfaaDoor.C Go.Proofs.YtckfepmahjgmfaaDoor.Rg in
theorem sum_next {P Q n : Nat} (D : Dims P Q n) {css : List (List (List UInt8))} (hg : ∀ j, j < css.length → GoodC Q n (css[j]?.getD [])) {k : Nat} (hk0 : 0 < k) (hk : k < css.length) : putC (sumC Q (css.take k)) (css[k]?.getD []) = sumC Q (css.take (k + 1)) := by
  have g1 := good_take hg k
  have g2 := good_take hg (k + 1)
  have l1 : 0 < (css.take k).length := by rw [List.length_take]; omega
  have l2 : 0 < (css.take (k + 1)).length := by rw [List.length_take]; omega
  have gs : GoodC Q n (sumC Q (css.take k)) := sum_good D.h1 D.h64 l1 g1
  refine col_ext D.hQ (put_good D.h1 D.h64 gs) (sum_good D.h1 D.h64 l2 g2) fun j r => ?_
  rw [bt_put D.hQ gs (hg k hk)]
  have e1 := bt_sum D.hQ l1 g1 j r
  have e2 := bt_sum D.hQ l2 g2 j r
  refine Eq.trans ?_ e2.symm
  rw [show Bt P Q n (sumC Q (css.take k)) j r = _ from e1, List.take_succ_eq_append_getElem hk, List.map_append, xa_append, List.getElem?_eq_getElem hk]
  simp [xa]
open Go.Proofs.YtckfepmahjgmfaaDoor.E Go.Proofs.YtckfepmahjgmfaaDoor.C Go.Proofs.YtckfepmahjgmfaaDoor.Rg in
set_option maxRecDepth 100000 in
set_option maxHeartbeats 4000000 in
theorem nf (p : Int) (v : Value) (css : List (List (List UInt8))) (w : World) (hL : Laid w) (wp : -9223372036854775808 ≤ p ∧ p ≤ 9223372036854775807) (hC : Cols w.heap.size w v css) (hfew : ¬ Few6 css) :
    Calls Tryd.prog 5 #[.int .i64 p, v] w fun e w' => e = .returned (.bool true) ∧ Below w.heap.size w w' := by
  have HF := Lib.hid (few6_any _ _ w hC false (by simp [hfew]))
  obtain ⟨A, cap, rfl, _, _⟩ := id hC
  clear hfew
  have hBw := Below.refl w.heap.size w
  go_enter Tryd.func5, Tryd.ntmps5
  go_wp2_with fail
  refine HF.out.mono ?_
  rintro e w' ⟨rfl, rfl⟩
  go_wp2_with fail
  refine (works_any _ (hL.next hBw)).mono ?_
  rintro e wz ⟨rfl, hBz⟩
  go_wp2
  go_ret
  exact ⟨rfl, below_in hBw hBz⟩
open Go.Proofs.YtckfepmahjgmfaaDoor.E Go.Proofs.YtckfepmahjgmfaaDoor.C Go.Proofs.YtckfepmahjgmfaaDoor.Rg in
set_option maxRecDepth 100000 in
set_option maxHeartbeats 4000000 in
theorem no (p : Int) (v : Value) (css : List (List (List UInt8))) (w : World) (hL : Laid w) (wp : -9223372036854775808 ≤ p ∧ p ≤ 9223372036854775807) (hC : Cols w.heap.size w v css) (hfew : Few6 css) (hrt : ¬ RightD p css) :
    Calls Tryd.prog 5 #[.int .i64 p, v] w fun e w' => e = .returned (.bool true) ∧ Below w.heap.size w w' := by
  have HF := Lib.hid (few6_any _ _ w hC true (by simp [hfew]))
  have HR := Lib.hid (right6_any p _ css w (Nat.le_refl _) hC (by have := hfew.1; omega) false (by simp [hrt]))
  have HS := Lib.hid (fun (U : World) (hU : Below w.heap.size w U) => sum_no (B := w.heap.size) p css v hrt (by have := hfew.1; omega) (fun j hj => ((few_len hfew).2 j 0).1) U (hL.next hU) hU.size (hC.below hU))
  obtain ⟨A, cap, rfl, _, _⟩ := id hC
  clear hfew hrt hC
  generalize css.length = m at *
  go_enter Tryd.func5, Tryd.ntmps5
  go_wp2_with fail
  refine HF.out.mono ?_
  rintro e w' ⟨rfl, rfl⟩
  go_wp2_with fail
  refine HR.out.mono ?_
  rintro e w1 ⟨rfl, hB1⟩
  go_wp2_with fail
  refine (HS.out _ hB1).mono ?_
  rintro e w2 ⟨rfl, hB2⟩
  have hBw := below_in hB1 hB2
  go_wp2_with fail
  refine (told_no (B := 0) _ _).mono ?_
  rintro e w' ⟨rfl, rfl⟩
  go_wp2_with fail
  refine (works_any _ (hL.next hBw)).mono ?_
  rintro e wz ⟨rfl, hBz⟩
  go_wp2
  go_ret
  exact ⟨rfl, below_in hBw hBz⟩
open Go.Proofs.YtckfepmahjgmfaaDoor.E Go.Proofs.YtckfepmahjgmfaaDoor.C Go.Proofs.YtckfepmahjgmfaaDoor.Rg in
set_option maxRecDepth 100000 in
set_option maxHeartbeats 4000000 in
theorem yes (p : Int) (v : Value) (css : List (List (List UInt8))) (w : World) (hL : Laid w) (wp : -9223372036854775808 ≤ p ∧ p ≤ 9223372036854775807) (hC : Cols w.heap.size w v css) (hfew : Few6 css) (hrt : RightD p css) :
    Calls Tryd.prog 5 #[.int .i64 p, v] w fun e w' => e = .returned (.bool true) ∧ Below w.heap.size w w' := by
  have HF := Lib.hid (few6_any _ _ w hC true (by simp [hfew]))
  have HR := Lib.hid (right6_any p _ css w (Nat.le_refl _) hC (by have := hfew.1; omega) true (by simp [hrt]))
  have hl24 := hfew.1
  have h0 : 0 < css.length := hrt.2.1
  obtain ⟨P, Q, n, rfl, hQ, hp, h1, h64, _, hg⟩ := right_yes hrt h0
  have D : Dims P Q n := ⟨hQ, hp, h1, h64⟩
  have hpb := prm_bounds hp
  have HS := Lib.hid (fun (U : World) (hU : Below w.heap.size w U) => sumY D css h0 (by omega) hg v U (hL.next hU) ((hC.below hU).more hU.size))
  have HG := Lib.hid hg
  have HN := Lib.hid (fun k (hk0 : 0 < k) (hk : k < css.length) => sum_next D hg hk0 hk)
  have H1 := Lib.hid (sum_first hg h0)
  have hHALL : Hid (sumC Q (css.take css.length) = sumC Q css) := by unfold Hid; rw [List.take_length]
  have hQ17 : Q ≤ 16 := by omega
  clear hQ hp h1 h64 hrt hfew hg
  obtain ⟨b0, off, cap, rfl, hcap, hb0, hrow⟩ := Cols.at_ hC h0
  have HROW := Lib.hid (fun j (hj : j < css.length) => hrow j hj)
  obtain ⟨u0, hu0, hm0⟩ := hrow 0 h0
  obtain ⟨A0, c0, rfl, _, _⟩ := id hm0
  clear hrow
  obtain ⟨m, hm⟩ : ∃ x, css.length = x := ⟨_, rfl⟩
  rw [hm] at h0 hcap hl24 HROW HN hHALL HS HF HR ⊢
  have HM := Lib.hid hm
  clear hm hC
  go_enter Tryd.func5, Tryd.ntmps5
  go_wp2_with fail
  refine HF.out.mono ?_
  rintro e w' ⟨rfl, rfl⟩
  go_wp2_with fail
  refine HR.out.mono ?_
  rintro e w1 ⟨rfl, hB1⟩
  have hz1 := hB1.size
  have hu1 : w1.cell? ⟨b0, off + 0, none⟩ = some (.slice A0 (css[0]?.getD []).length c0) := (hB1.cell (p := ⟨b0, off + 0, none⟩) hb0).trans hu0
  rw [Nat.add_zero] at hu1
  have i0 : (0 : Int) ≤ (m : Int) := by omega
  have i01 : (0 : Int) < (m : Int) := by omega
  have hm1 : Many w1.heap.size w1 (.slice A0 (css[0]?.getD []).length c0) (sumC Q (css.take 1)) := by rw [H1.out]; exact (hm0.below hB1).more hz1
  clear hu0 hm0
  generalize (css[0]?.getD []).length = l0 at *
  go_wp2
  clear hu1
  go_loopw [6, 7] (fun u i wr => ∃ k : Nat, 1 ≤ k ∧ k ≤ m ∧ i = .int .i64 k ∧ Many wr.heap.size wr u (sumC Q (css.take k)) ∧ Below w.heap.size w wr) (fun _ i _ => m - (intOf i).toNat)
  case atStart => exact ⟨1, Nat.le_refl _, by omega, rfl, hm1, hB1⟩
  case round =>
    obtain ⟨k, hk1, hk, rfl, hw, hB⟩ := hrel
    by_cases hlt : k < m
    · have hdec : decide ((k : Int) < (m : Int)) = true := by simp; omega
      obtain ⟨uk, huk, hmk⟩ := HROW.out k hlt
      obtain ⟨Ak, ck, rfl, _, _⟩ := id hmk
      have hukr : wr.cell? ⟨b0, off + k, none⟩ = some (.slice Ak (css[k]?.getD []).length ck) := (hB.cell (p := ⟨b0, off + k, none⟩) hb0).trans huk
      have i1 : (0 : Int) ≤ (k : Int) := by omega
      have i2 : (k : Int) < (m : Int) := by omega
      have gk := HG.out k (by rw [HM.out]; exact hlt)
      have gs : GoodC Q n (sumC Q (css.take k)) := sum_good D.h1 D.h64 (by rw [List.length_take, HM.out]; omega) (good_take HG.out k)
      have HP := Lib.hid (putD_any u6 (.slice Ak (css[k]?.getD []).length ck) (sumC Q (css.take k)) (css[k]?.getD []) Q n wr (Nat.le_refl _) hw ((hmk.below hB).more hB.size) gs.1 gk.1 (by omega) (fun i hi => (gs.2 i hi).2) (fun i hi => (gk.2 i hi).2) (by have := D.h64; omega))
      rw [HN.out k hk1 hlt] at HP
      clear huk hmk gk gs hw
      generalize (css[k]?.getD []).length = lk at *
      go_wp2_with fail
      refine HP.out.mono ?_
      rintro e w2 ⟨u2, rfl, hm2, hB2⟩
      go_wp2
      go_roundw
      case rel => exact ⟨k + 1, by omega, by omega, by go_num, hm2, below_in hB hB2⟩
      case measure => simp [intOf]; omega
    · obtain rfl : k = m := by omega
      have e1 : decide ((k : Int) < (k : Int)) = false := by simp
      rw [hHALL.out] at hw
      go_wp2_with fail
      refine (HS.out _ hB).mono ?_
      rintro e w2 ⟨Ax, kx, rfl, hx, hB2⟩
      have hBw := below_in hB hB2
      have hw2 := (hw.below hB2).more hB2.size
      have gx : GoodC Q n (sumC Q css) := by rw [← hHALL.out]; exact sum_good D.h1 D.h64 (by rw [List.length_take, HM.out]; omega) (good_take HG.out k)
      have hlx : (sumC Q css).length ≤ 1000 := by rw [gx.1]; omega
      go_wp2_with fail
      refine (told_yes _ _ _ _ _ hx hw2 hlx hlx rfl).mono ?_
      rintro e w3 ⟨rfl, hB3⟩
      replace hBw := below_in hBw hB3
      go_wp2_with fail
      refine (works_any _ (hL.next hBw)).mono ?_
      rintro e wz ⟨rfl, hBz⟩
      go_wp2
      go_ret
      exact ⟨rfl, below_in hBw hBz⟩
open Go.Proofs.YtckfepmahjgmfaaDoor.E Go.Proofs.YtckfepmahjgmfaaDoor.C Go.Proofs.YtckfepmahjgmfaaDoor.Rg in
set_option maxRecDepth 100000 in
set_option maxHeartbeats 4000000 in
theorem walk (p : Int) (v : Value) (css : List (List (List UInt8))) (w : World) (hL : Laid w) (wp : -9223372036854775808 ≤ p ∧ p ≤ 9223372036854775807) (hC : Cols w.heap.size w v css) :
    Calls Tryd.prog 5 #[.int .i64 p, v] w fun e w' => e = .returned (.bool true) ∧ Below w.heap.size w w' := by
  by_cases hfew : ¬ Few6 css
  · exact nf p v css w hL wp hC hfew
  replace hfew := Classical.not_not.1 hfew
  by_cases hrt : ¬ RightD p css
  · exact no p v css w hL wp hC hfew hrt
  exact yes p v css w hL wp hC hfew (Classical.not_not.1 hrt)

set_option maxRecDepth 100000 in
theorem lifted (os : Os) (started : os.Started) (H : Type) (enc : TypeId × Value → H) :
    ReturnsInHanded {} Tryd.checked os 5 .any (fun w args => (Rows.ringSumsSpec.pre enc Tryd.prog Tryd.f5 [] false w args ∧ laidMetH Tryd.prog laidL w) ∧ sizedMet enc Tryd.prog Tryd.f5 (OpenSpec.ofChange Rows.ringSumsSpec) false w args)
      (Rows.ringSumsSpec.post enc Tryd.prog Tryd.f5 false true false false) := by
  refine returnsInHanded_of_change_and (C := Tryd.checked) (X := fun w _ => laidMetH Tryd.prog laidL w) (fun _ _ _ hh h => h.of_heap hh) own started (by kernel_rfl) Tryd.func5
    (ChangeSpec.witness_shaped (enc := enc) (C := Tryd.checked) (os := os) (X := fun w _ => laidMetH Tryd.prog laidL w) false (World.doorLaid Tryd.prog 200 os) #[.int .i64 0, .slice none 0 0] 8 rfl (World.shaped_of_RefB (by kernel_rfl) (by kernel_rfl)) (by kernel_rfl) (by kernel_rfl) (by kernel_rfl) (door_met os _)) ?_
  intro W base args ds gs before hval0 hW _ _ hL0 _
  have hL := laid_of hL0
  have hval : ∀ (j : Nat) t v, Tryd.f5.params[j]? = some t → args[j]? = some v → Value.okWide Tryd.prog W .any base t v := hval0
  have hW' := hW
  obtain ⟨p, q, hA0, hV, rfl, hfz, hnd⟩ := hW
  have hA : DataW.TrodAll enc Tryd.prog W 0 (fun _ => true) true Tryd.f5.params.toList args.toList ds p := hA0
  rw [Tryd.params5] at hA hval
  obtain ⟨v0, vs0, d0, ds0, p0, q0, hargs, rfl, rfl, h0, r0⟩ := trodAll_cons hA
  obtain ⟨v1, vs1, d1, ds1, p1, q1, rfl, rfl, rfl, h1, r1⟩ := trodAll_cons r0
  obtain ⟨rfl, rfl, rfl⟩ := trodAll_nil r1
  obtain rfl : args = #[v0, v1] := by cases args; simp_all
  obtain ⟨rfl, rfl⟩ := trodVars_none hV
  obtain ⟨a0, rfl, rfl, rfl, w0⟩ := open_int Tryd.underlying3 (hval 0 3 v0 rfl rfl) h0
  have k1 := h1
  have lt1 : ∀ x ∈ p1, x.block < W.heap.size := by obtain ⟨m, hm⟩ := k1; exact DataW.trod_lt m _ _ _ hm
  obtain ⟨a1, len1, cap1, rfl⟩ := okWide_slice Tryd.underlying25 (hval 1 25 v1 rfl rfl)
  obtain ⟨l1, w1⟩ : ∃ css, E.Cols W.heap.size W (.slice a1 len1 cap1) css := by obtain ⟨fuel, hf⟩ := h1; exact E.open_cols hf
  clear hA0 hval0
  simp only [List.append_nil] at hW'
  refine (walk a0 _ l1 W hL (E.wf_i64 w0) w1).mono fun e W' ⟨he, bel⟩ => ?_
  subst he
  exact ⟨_, rfl, _, _, _, [], _, [], hW', trodAll_mk1 (shut_bool Tryd.underlying4 _), (trodAll_cons_mk (shut_int Tryd.underlying3 w0) (trodAll_cons_mk (Below.trod laidOut (by kernel_rfl) (of_decide_eq_true (by kernel_rfl)) k1 bel lt1) trodAll_mk0)), rfl, bel.frame _, fun h => by cases h⟩

theorem over : Rows.ringSumsRow.holds Tryd.pinned (OpenSpec.ofChange Rows.ringSumsSpec) :=
  OpenClaim.holds_of_wide 5 Tryd.f5 rfl rfl rfl rfl rfl rfl rfl ⟨rfl, rfl, rfl, rfl, rfl⟩ rfl rfl rfl rfl rfl (by kernel_rfl) Tryd.func5 (by kernel_rfl)
    (of_decide_eq_true (by kernel_rfl)) (by unfold Func.isWrapper; first | (rw [if_pos (by decide +kernel)]; kernel_rfl) | (rw [if_neg (by decide +kernel)]; exact ⟨rfl, rfl⟩))
    (fun os started H enc _ => lifted os started H enc)

/-- The tied card: the row, and the tie that is given. -/
theorem ringSums_holds : Rows.RingSumsCardSaid :=
  Claim7.holds_tied_plain_at .later [] [.data, .data] true (true, "99df5f4bcb019dcdec7cff5fcc9a2e8187eb1342bd2c8a4118c04815654cb552") true over (fun _ h => by cases h) (by kernel_rfl) (fun _ h => by cases h) ringSums_row_tie rfl ⟨rfl, rfl⟩ (by kernel_rfl) rfl
    (fun f fn hf hfn => by
      obtain rfl : f = 5 := Option.some.inj ((show Tryd.prog.funcNamed "palisade/palisadelaw10.RingSums" = some 5 by kernel_rfl).symm.trans hf) |>.symm
      obtain rfl : fn = Tryd.f5 := (Option.some.inj (Tryd.func5.symm.trans hfn)).symm
      exact ⟨by kernel_rfl, fun j t ht => by
        rw [Tryd.params5] at ht
        have hm : t ∈ [3, 25] := by simpa using Array.mem_of_getElem? ht
        have hall : ([3, 25].all fun u => !Tryd.prog.wantsStandIn u) = true := by kernel_rfl
        exact (show Tryd.prog.wantsStandIn t = false by simpa using List.all_eq_true.1 hall t hm)⟩)
    (by kernel_rfl)
end Go.Proofs.YtckfepmahjgmfaaDoor.ringSums
