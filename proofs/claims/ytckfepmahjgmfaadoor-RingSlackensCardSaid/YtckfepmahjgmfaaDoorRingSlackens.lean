/- The law RingSlackens answers true for every input and leaves its arguments as they were. -/
import Derived.Test.YtckfepmahjgmfaaDoorRTSA
import Derived.Test.YtckfepmahjgmfaaDoorRTG3x1
import Derived.Test.YtckfepmahjgmfaaDoorRTG9x1
import Derived.Test.YtckfepmahjgmfaaDoorRTG10x1
import Derived.Test.YtckfepmahjgmfaaDoorRTG11x1
import Derived.Test.YtckfepmahjgmfaaDoorCards
import Derived.Test.YtckfepmahjgmfaaDoorTie
import Derived.SevenTiedAt
import Derived.Test.YtckfepmahjgmfaaDoorRTG11
import Derived.Test.YtckfepmahjgmfaaDoorRTG3
namespace Go.Proofs.YtckfepmahjgmfaaDoor.ringSlackens
open Go.ChangeShapes Go.WideShapes Go.ChangeAt Go.RowKit Go.Shelf
set_option linter.unusedVariables false
set_option linter.unusedSimpArgs false
attribute [local go_sem] Oper.semAt_some

open Go.Proofs.YtckfepmahjgmfaaDoor.E Go.Proofs.YtckfepmahjgmfaaDoor.C Go.Proofs.YtckfepmahjgmfaaDoor.Rg in
theorem few_len {s : List (List (List UInt8))} (h : Few6 s) : s.length ≤ 1000 ∧ (∀ j i : Nat, (s[j]?.getD []).length ≤ 1000 ∧ ((s[j]?.getD [])[i]?.getD []).length ≤ 1000) := by
  refine ⟨by have := h.1; omega, fun j i => ?_⟩
  rcases Nat.lt_or_ge j s.length with hj | hj
  · have h2 := h.2 j hj
    refine ⟨by have := h2.1; omega, ?_⟩
    rcases Nat.lt_or_ge i (s[j]?.getD []).length with hi | hi
    · have := h2.2 i hi; omega
    · rw [List.getElem?_eq_none hi]; exact Nat.zero_le _
  · rw [List.getElem?_eq_none hj]
    exact ⟨Nat.zero_le _, by simp⟩
open Go.Proofs.YtckfepmahjgmfaaDoor.E Go.Proofs.YtckfepmahjgmfaaDoor.C Go.Proofs.YtckfepmahjgmfaaDoor.Rg in
set_option maxRecDepth 100000 in
set_option maxHeartbeats 4000000 in
theorem nf (p : Int) (v : Value) (c : List (List UInt8)) (b : Int) (w : World) (hL : Laid w) (wp : -9223372036854775808 ≤ p ∧ p ≤ 9223372036854775807) (hC : Many w.heap.size w v c) (wb : -9223372036854775808 ≤ b ∧ b ≤ 9223372036854775807) (hfew : ¬ Few6 [c]) :
    Calls Tryd.prog 4 #[.int .i64 p, v, .int .i64 b] w fun e w' => e = .returned (.bool true) ∧ Below w.heap.size w w' := by
  obtain ⟨A, ca, rfl, _, _⟩ := id hC
  obtain ⟨nc, hnc⟩ : ∃ x, c.length = x := ⟨_, rfl⟩
  rw [hnc] at hC ⊢
  have hA0 := below_one w (.cells #[.slice A nc ca] 23)
  have bA0 := Blk.new w 23 #[.slice A nc ca]
  replace hC := (hC.below hA0).more hA0.size
  have hBw := hA0
  have HF := Lib.hid (few6_any _ _ (w.alloc (.cells #[.slice A nc ca] 23)) (cols_one bA0 hC bA0.lt) false (by simp [hfew]))
  clear bA0
  go_enter Tryd.func4, Tryd.ntmps4
  go_wp2_with fail
  refine HF.out.mono ?_
  rintro e w0 ⟨rfl, rfl⟩
  clear HF
  go_wp2_with fail
  refine (works_any _ (hL.next hBw)).mono ?_
  rintro e wz ⟨rfl, hBz⟩
  go_wp2
  go_ret
  exact ⟨rfl, below_in hBw hBz⟩
open Go.Proofs.YtckfepmahjgmfaaDoor.E Go.Proofs.YtckfepmahjgmfaaDoor.C Go.Proofs.YtckfepmahjgmfaaDoor.Rg in
set_option maxRecDepth 100000 in
set_option maxHeartbeats 4000000 in
theorem no (p : Int) (v : Value) (c : List (List UInt8)) (b : Int) (w : World) (hL : Laid w) (wp : -9223372036854775808 ≤ p ∧ p ≤ 9223372036854775807) (hC : Many w.heap.size w v c) (wb : -9223372036854775808 ≤ b ∧ b ≤ 9223372036854775807) (hfew : Few6 [c]) (hrt : ¬ RightD p [c]) :
    Calls Tryd.prog 4 #[.int .i64 p, v, .int .i64 b] w fun e w' => e = .returned (.bool true) ∧ Below w.heap.size w w' := by
  obtain ⟨A, ca, rfl, _, _⟩ := id hC
  have hcl : c.length ≤ 1000 := ((few_len hfew).2 0 0).1
  obtain ⟨nc, hnc⟩ : ∃ x, c.length = x := ⟨_, rfl⟩
  rw [hnc] at hC ⊢
  have hA0 := below_one w (.cells #[.slice A nc ca] 23)
  have bA0 := Blk.new w 23 #[.slice A nc ca]
  replace hC := (hC.below hA0).more hA0.size
  have hBw := hA0
  have HF := Lib.hid (few6_any _ _ (w.alloc (.cells #[.slice A nc ca] 23)) (cols_one bA0 hC bA0.lt) true (by simp [hfew]))
  clear bA0
  have HNO := Lib.hid hrt
  go_enter Tryd.func4, Tryd.ntmps4
  go_wp2_with fail
  refine HF.out.mono ?_
  rintro e w0 ⟨rfl, rfl⟩
  clear HF
  have HR := Lib.hid (right_one p _ c (w.alloc (.cells #[.slice A nc ca] 23)) (Nat.le_refl _) hC false (by simp [hrt]))
  go_wp2_with fail
  refine (HR.out).mono ?_
  rintro e w1 ⟨rfl, hB⟩
  clear HR
  replace hC := (hC.below hB).more hB.size
  replace hBw := below_in hBw hB
  clear hB
  go_wp2_with fail
  refine (slacken_no p c _ b HNO.out hcl _ (hL.next hBw) (Nat.le_refl _) hC).mono ?_
  rintro e w2 ⟨rfl, hB⟩
  replace hC := (hC.below hB).more hB.size
  replace hBw := below_in hBw hB
  clear hB
  go_wp2_with fail
  refine (told_no (B := 0) _ _).mono ?_
  rintro e w' ⟨rfl, rfl⟩
  go_wp2_with fail
  refine (works_any _ (hL.next hBw)).mono ?_
  rintro e wz ⟨rfl, hBz⟩
  go_wp2
  go_ret
  exact ⟨rfl, below_in hBw hBz⟩
open Go.Proofs.YtckfepmahjgmfaaDoor.E Go.Proofs.YtckfepmahjgmfaaDoor.C Go.Proofs.YtckfepmahjgmfaaDoor.Rg in
set_option maxRecDepth 100000 in
set_option maxHeartbeats 4000000 in
theorem zero (p : Int) (v : Value) (c : List (List UInt8)) (b : Int) (w : World) (hL : Laid w) (wp : -9223372036854775808 ≤ p ∧ p ≤ 9223372036854775807) (hC : Many w.heap.size w v c) (wb : -9223372036854775808 ≤ b ∧ b ≤ 9223372036854775807) (hfew : Few6 [c]) (hrt : RightD p [c]) (hz : b % p = 0) :
    Calls Tryd.prog 4 #[.int .i64 p, v, .int .i64 b] w fun e w' => e = .returned (.bool true) ∧ Below w.heap.size w w' := by
  obtain ⟨A, ca, rfl, _, _⟩ := id hC
  have hcl : c.length ≤ 1000 := ((few_len hfew).2 0 0).1
  obtain ⟨nc, hnc⟩ : ∃ x, c.length = x := ⟨_, rfl⟩
  rw [hnc] at hC ⊢
  have hA0 := below_one w (.cells #[.slice A nc ca] 23)
  have bA0 := Blk.new w 23 #[.slice A nc ca]
  replace hC := (hC.below hA0).more hA0.size
  have hBw := hA0
  have HF := Lib.hid (few6_any _ _ (w.alloc (.cells #[.slice A nc ca] 23)) (cols_one bA0 hC bA0.lt) true (by simp [hfew]))
  clear bA0
  obtain ⟨P, Q, n, rfl, hQ, hp, h1, h64, _, hg⟩ := right_yes hrt (by show 0 < 1; omega)
  have gc : GoodC Q n c := hg 0 (by show 0 < 1; omega)
  clear hg
  have hpb := prm_bounds hp
  have hPz : (P : Int) ≠ 0 := by omega
  have hPn : ((P : Int) == 0) = false := by rw [beq_eq_false_iff_ne]; omega
  have hQ17 : Q ≤ 16 := by omega
  have D : Dims P Q n := ⟨hQ, hp, h1, h64⟩
  clear hQ hp h1 h64
  have rz := rem_zero b hz
  go_enter Tryd.func4, Tryd.ntmps4
  go_wp2_with fail
  refine HF.out.mono ?_
  rintro e w0 ⟨rfl, rfl⟩
  clear HF
  have HR := Lib.hid (right_one (P : Int) _ c (w.alloc (.cells #[.slice A nc ca] 23)) (Nat.le_refl _) hC true (by simp [hrt]))
  go_wp2_with fail
  refine (HR.out).mono ?_
  rintro e w1 ⟨rfl, hB⟩
  clear HR
  replace hC := (hC.below hB).more hB.size
  replace hBw := below_in hBw hB
  clear hB
  obtain rfl : Q = nc := by rw [← hnc, gc.1]
  clear hnc hrt hfew hcl
  have HZ := Lib.hid hz
  clear hz
  go_wp2_with fail
  refine (slacken_zero P Q n D.hQ c _ b wb.1 wb.2 (ok_of D.hQ D.hp D.h1 D.h64 gc) HZ.out _ (hL.next hBw) (Nat.le_refl _) hC).mono ?_
  rintro e w2 ⟨rfl, hB⟩
  replace hC := (hC.below hB).more hB.size
  replace hBw := below_in hBw hB
  clear hB
  go_wp2_with fail
  refine (told_no (B := 0) _ _).mono ?_
  rintro e w' ⟨rfl, rfl⟩
  go_wp2_with fail
  refine (works_any _ (hL.next hBw)).mono ?_
  rintro e wz ⟨rfl, hBz⟩
  go_wp2
  go_ret
  exact ⟨rfl, below_in hBw hBz⟩
open Go.Proofs.YtckfepmahjgmfaaDoor.E Go.Proofs.YtckfepmahjgmfaaDoor.C Go.Proofs.YtckfepmahjgmfaaDoor.Rg in
set_option maxRecDepth 100000 in
set_option maxHeartbeats 4000000 in
theorem yes (p : Int) (v : Value) (c : List (List UInt8)) (b : Int) (w : World) (hL : Laid w) (wp : -9223372036854775808 ≤ p ∧ p ≤ 9223372036854775807) (hC : Many w.heap.size w v c) (wb : -9223372036854775808 ≤ b ∧ b ≤ 9223372036854775807) (hfew : Few6 [c]) (hrt : RightD p [c]) (hz : b % p ≠ 0) :
    Calls Tryd.prog 4 #[.int .i64 p, v, .int .i64 b] w fun e w' => e = .returned (.bool true) ∧ Below w.heap.size w w' := by
  obtain ⟨A, ca, rfl, _, _⟩ := id hC
  have hcl : c.length ≤ 1000 := ((few_len hfew).2 0 0).1
  obtain ⟨nc, hnc⟩ : ∃ x, c.length = x := ⟨_, rfl⟩
  rw [hnc] at hC ⊢
  have hA0 := below_one w (.cells #[.slice A nc ca] 23)
  have bA0 := Blk.new w 23 #[.slice A nc ca]
  replace hC := (hC.below hA0).more hA0.size
  have hBw := hA0
  have HF := Lib.hid (few6_any _ _ (w.alloc (.cells #[.slice A nc ca] 23)) (cols_one bA0 hC bA0.lt) true (by simp [hfew]))
  clear bA0
  obtain ⟨P, Q, n, rfl, hQ, hp, h1, h64, _, hg⟩ := right_yes hrt (by show 0 < 1; omega)
  have gc : GoodC Q n c := hg 0 (by show 0 < 1; omega)
  clear hg
  have hpb := prm_bounds hp
  have hPz : (P : Int) ≠ 0 := by omega
  have hPn : ((P : Int) == 0) = false := by rw [beq_eq_false_iff_ne]; omega
  have hQ17 : Q ≤ 16 := by omega
  have D : Dims P Q n := ⟨hQ, hp, h1, h64⟩
  clear hQ hp h1 h64
  have rz : (b.tmod (P : Int) != 0) = true := bne_iff_ne.2 (rem_not b hz)
  have rz2 := rem_not b hz
  go_enter Tryd.func4, Tryd.ntmps4
  go_wp2_with fail
  refine HF.out.mono ?_
  rintro e w0 ⟨rfl, rfl⟩
  clear HF
  have HR := Lib.hid (right_one (P : Int) _ c (w.alloc (.cells #[.slice A nc ca] 23)) (Nat.le_refl _) hC true (by simp [hrt]))
  go_wp2_with fail
  refine (HR.out).mono ?_
  rintro e w1 ⟨rfl, hB⟩
  clear HR
  replace hC := (hC.below hB).more hB.size
  replace hBw := below_in hBw hB
  clear hB
  obtain rfl : Q = nc := by rw [← hnc, gc.1]
  clear hnc hrt hfew hcl
  have HZ := Lib.hid hz
  clear hz
  go_wp2_with fail
  refine (slackD_any D b wb.1 wb.2 HZ.out c gc _ _ hC).mono ?_
  rintro e w2 ⟨u1, rfl, ht, hB⟩
  replace hC := (hC.below hB).more hB.size
  replace hBw := below_in hBw hB
  clear hB
  go_wp2_with fail
  refine (slackY D b wb.1 wb.2 HZ.out c gc _ _ (hL.next hBw) hC).mono ?_
  rintro e w3 ⟨A1, k1, rfl, hx, hB⟩
  replace hC := (hC.below hB).more hB.size
  replace ht := (ht.below hB).more hB.size
  replace hBw := below_in hBw hB
  clear hB
  have l1 : (slackL P Q (wholeF Q n c) b).length ≤ 1000 := by rw [(slack_good D.hQ D.h1 D.h64 gc b).1]; omega
  go_wp2_with fail
  refine (told_yes _ _ _ _ _ hx ht l1 l1 rfl).mono ?_
  rintro e w4 ⟨rfl, hB⟩
  replace hC := (hC.below hB).more hB.size
  replace ht := (ht.below hB).more hB.size
  replace hx := (hx.below hB).more hB.size
  replace hBw := below_in hBw hB
  clear hB
  go_wp2_with fail
  refine (works_any _ (hL.next hBw)).mono ?_
  rintro e wz ⟨rfl, hBz⟩
  go_wp2
  go_ret
  exact ⟨rfl, below_in hBw hBz⟩
open Go.Proofs.YtckfepmahjgmfaaDoor.E Go.Proofs.YtckfepmahjgmfaaDoor.C Go.Proofs.YtckfepmahjgmfaaDoor.Rg in
set_option maxRecDepth 100000 in
set_option maxHeartbeats 4000000 in
theorem walk (p : Int) (v : Value) (c : List (List UInt8)) (b : Int) (w : World) (hL : Laid w) (wp : -9223372036854775808 ≤ p ∧ p ≤ 9223372036854775807) (hC : Many w.heap.size w v c) (wb : -9223372036854775808 ≤ b ∧ b ≤ 9223372036854775807) :
    Calls Tryd.prog 4 #[.int .i64 p, v, .int .i64 b] w fun e w' => e = .returned (.bool true) ∧ Below w.heap.size w w' := by
  by_cases hfew : ¬ Few6 [c]
  · exact nf p v c b w hL wp hC wb hfew
  replace hfew := Classical.not_not.1 hfew
  by_cases hrt : ¬ RightD p [c]
  · exact no p v c b w hL wp hC wb hfew hrt
  replace hrt := Classical.not_not.1 hrt
  by_cases hz : b % p = 0
  · exact zero p v c b w hL wp hC wb hfew hrt hz
  exact yes p v c b w hL wp hC wb hfew hrt hz

set_option maxRecDepth 100000 in
theorem lifted (os : Os) (started : os.Started) (H : Type) (enc : TypeId × Value → H) :
    ReturnsInHanded {} Tryd.checked os 4 .any (fun w args => (Rows.ringSlackensSpec.pre enc Tryd.prog Tryd.f4 [] false w args ∧ laidMetH Tryd.prog laidL w) ∧ sizedMet enc Tryd.prog Tryd.f4 (OpenSpec.ofChange Rows.ringSlackensSpec) false w args)
      (Rows.ringSlackensSpec.post enc Tryd.prog Tryd.f4 false true false false) := by
  refine returnsInHanded_of_change_and (C := Tryd.checked) (X := fun w _ => laidMetH Tryd.prog laidL w) (fun _ _ _ hh h => h.of_heap hh) own started (by kernel_rfl) Tryd.func4
    (ChangeSpec.witness_shaped (enc := enc) (C := Tryd.checked) (os := os) (X := fun w _ => laidMetH Tryd.prog laidL w) false (World.doorLaid Tryd.prog 200 os) #[.int .i64 0, .slice none 0 0, .int .i64 0] 8 rfl (World.shaped_of_RefB (by kernel_rfl) (by kernel_rfl)) (by kernel_rfl) (by kernel_rfl) (by kernel_rfl) (door_met os _)) ?_
  intro W base args ds gs before hval0 hW _ _ hL0 _
  have hL := laid_of hL0
  have hval : ∀ (j : Nat) t v, Tryd.f4.params[j]? = some t → args[j]? = some v → Value.okWide Tryd.prog W .any base t v := hval0
  have hW' := hW
  obtain ⟨p, q, hA0, hV, rfl, hfz, hnd⟩ := hW
  have hA : DataW.TrodAll enc Tryd.prog W 0 (fun _ => true) true Tryd.f4.params.toList args.toList ds p := hA0
  rw [Tryd.params4] at hA hval
  obtain ⟨v0, vs0, d0, ds0, p0, q0, hargs, rfl, rfl, h0, r0⟩ := trodAll_cons hA
  obtain ⟨v1, vs1, d1, ds1, p1, q1, rfl, rfl, rfl, h1, r1⟩ := trodAll_cons r0
  obtain ⟨v2, vs2, d2, ds2, p2, q2, rfl, rfl, rfl, h2, r2⟩ := trodAll_cons r1
  obtain ⟨rfl, rfl, rfl⟩ := trodAll_nil r2
  obtain rfl : args = #[v0, v1, v2] := by cases args; simp_all
  obtain ⟨rfl, rfl⟩ := trodVars_none hV
  obtain ⟨a0, rfl, rfl, rfl, w0⟩ := open_int Tryd.underlying3 (hval 0 3 v0 rfl rfl) h0
  have k1 := h1
  have lt1 : ∀ x ∈ p1, x.block < W.heap.size := by obtain ⟨m, hm⟩ := k1; exact DataW.trod_lt m _ _ _ hm
  obtain ⟨a1, len1, cap1, rfl⟩ := okWide_slice Tryd.underlying23 (hval 1 23 v1 rfl rfl)
  obtain ⟨l1, w1⟩ : ∃ cs, C.Many W.heap.size W (.slice a1 len1 cap1) cs := by obtain ⟨fuel, hf⟩ := h1; exact E.open_col hf
  obtain ⟨a2, rfl, rfl, rfl, w2⟩ := open_int Tryd.underlying3 (hval 2 3 v2 rfl rfl) h2
  clear hA0 hval0
  simp only [List.append_nil] at hW'
  refine (walk a0 _ l1 a2 W hL (E.wf_i64 w0) w1 (E.wf_i64 w2)).mono fun e W' ⟨he, bel⟩ => ?_
  subst he
  exact ⟨_, rfl, _, _, _, [], _, [], hW', trodAll_mk1 (shut_bool Tryd.underlying4 _), (trodAll_cons_mk (shut_int Tryd.underlying3 w0) (trodAll_cons_mk (Below.trod laidOut (by kernel_rfl) (of_decide_eq_true (by kernel_rfl)) k1 bel lt1) (trodAll_cons_mk (shut_int Tryd.underlying3 w2) trodAll_mk0))), rfl, bel.frame _, fun h => by cases h⟩

theorem over : Rows.ringSlackensRow.holds Tryd.pinned (OpenSpec.ofChange Rows.ringSlackensSpec) :=
  OpenClaim.holds_of_wide 4 Tryd.f4 rfl rfl rfl rfl rfl rfl rfl ⟨rfl, rfl, rfl, rfl, rfl⟩ rfl rfl rfl rfl rfl (by kernel_rfl) Tryd.func4 (by kernel_rfl)
    (of_decide_eq_true (by kernel_rfl)) (by unfold Func.isWrapper; first | (rw [if_pos (by decide +kernel)]; kernel_rfl) | (rw [if_neg (by decide +kernel)]; exact ⟨rfl, rfl⟩))
    (fun os started H enc _ => lifted os started H enc)

/-- The tied card: the row, and the tie that is given. -/
theorem ringSlackens_holds : Rows.RingSlackensCardSaid :=
  Claim7.holds_tied_plain_at .later [] [.data, .data] true (true, "99df5f4bcb019dcdec7cff5fcc9a2e8187eb1342bd2c8a4118c04815654cb552") true over (fun _ h => by cases h) (by kernel_rfl) (fun _ h => by cases h) ringSlackens_row_tie rfl ⟨rfl, rfl⟩ (by kernel_rfl) rfl
    (fun f fn hf hfn => by
      obtain rfl : f = 4 := Option.some.inj ((show Tryd.prog.funcNamed "palisade/palisadelaw10.RingSlackens" = some 4 by kernel_rfl).symm.trans hf) |>.symm
      obtain rfl : fn = Tryd.f4 := (Option.some.inj (Tryd.func4.symm.trans hfn)).symm
      exact ⟨by kernel_rfl, fun j t ht => by
        rw [Tryd.params4] at ht
        have hm : t ∈ [3, 23, 3] := by simpa using Array.mem_of_getElem? ht
        have hall : ([3, 23, 3].all fun u => !Tryd.prog.wantsStandIn u) = true := by kernel_rfl
        exact (show Tryd.prog.wantsStandIn t = false by simpa using List.all_eq_true.1 hall t hm)⟩)
    (by kernel_rfl)
end Go.Proofs.YtckfepmahjgmfaaDoor.ringSlackens
