/- The law CellsGlues answers true for every input and leaves its arguments as they were. -/
import Derived.Test.YtklmkaafogekaaaCLawKit
namespace Go.Proofs.Ytklmkaafogekaaa.cellsGlues
open Go.ChangeShapes Go.WideShapes Go.ChangeAt Go.RowKit Go.Shelf
set_option linter.unusedVariables false

set_option maxHeartbeats 600000 in
theorem walk (v1 : Value) (ls : List (List UInt8)) (v2 : Value) (os : List (List UInt8)) (a : Int) (w : World) (hM1 : Many w.heap.size w v1 ls) (hM2 : Many w.heap.size w v2 os) (wa : (Lit.int .i64 a).wf = true) :
    Calls Try.prog 6 #[v1, v2, .int .i64 a] w fun e w' => e = .returned (.bool true) ∧ Below w.heap.size w w' := by
  obtain ⟨hw1, hw2⟩ := wf_i64 wa
  by_cases hf1 : Few ls
  · have HF1 := Lib.hid (few_any v1 ls w hM1 true ⟨fun _ => hf1, fun _ => rfl⟩)
    by_cases hf2 : Few os
    · have HF2 := Lib.hid (few_any v2 os w hM2 true ⟨fun _ => hf2, fun _ => rfl⟩)
      have h40 := hf1.1
      have h41 := hf2.1
      have HR := Lib.hid (fun (W : World) (hB : Below w.heap.size w W) => rglue_any v1 ls a hw1 hw2 (by omega) W ((hM1.below hB).more hB.size))
      have HRS := Lib.hid (fun (W : World) (hB : Below w.heap.size w W) => rsame_any v1 v2 ls os W (hM1.below hB) (hM2.below hB) (by omega) (by omega))
      have HS1 := Lib.hid (fun (W : World) (hB : Below w.heap.size w W) => same_any v1 v2 ls os W (hM1.below hB) (hM2.below hB) (by omega) (by omega))
      have HS2 := Lib.hid (fun (W : World) (hB : Below w.heap.size w W) => same_any v2 v1 os ls W (hM2.below hB) (hM1.below hB) (by omega) (by omega))
      have HS3 := Lib.hid (fun (W : World) (hB : Below w.heap.size w W) => same_any v1 v1 ls ls W (hM1.below hB) (hM1.below hB) (by omega) (by omega))
      rw [decide_eq_true rfl] at HS3
      rw [show decide (os = ls) = decide (ls = os) by rw [decide_eq_decide]; exact eq_comm] at HS2
      generalize decide (ls = os) = d at HRS HS1 HS2
      by_cases hok : GlueOk ls a
      · have HG := Lib.hid (glue_yes v1 ls a (by omega) w hM1 hok)
        have HK := Lib.hid hok
        obtain ⟨A1, cap1, rfl, _, _⟩ := id hM1
        obtain ⟨A2, cap2, rfl, _, _⟩ := id hM2
        clear hM1 hM2 hf1 hf2 h40 h41 hok
        obtain ⟨x, hx⟩ : ∃ x, ls.flatten.take a.toNat = x := ⟨_, rfl⟩
        have HX := Lib.hid hx
        rw [hx] at HG
        clear hx
        go_enter Try.func6, Try.ntmps6
        go_wp2_with fail
        refine HF1.out.mono ?_
        rintro e w' ⟨rfl, rfl⟩
        go_wp2_with fail
        refine HF2.out.mono ?_
        rintro e w' ⟨rfl, rfl⟩
        go_wp2_with (first
          | (go_at_call 22; refine HG.out.mono ?_; rintro e w1 ⟨vb, rfl, hFb, hB1⟩)
          | (go_at_call 25; refine (HR.out _ hB1).mono ?_; rintro e w2 ⟨hyes, _, hB2⟩; obtain ⟨vr, rfl, hFr⟩ := hyes HK.out; have hB12 := Below.next hB1 hB2; have c1 := run_txt w2 (hFb.bytes.below hB2); have c2 := run_txt w2 hFr.bytes; rw [HX.out] at c2)
          | (go_at_call 23; refine (HRS.out _ hB12).mono ?_; rintro e w3 ⟨rfl, hB3⟩; have hB13 := Below.next hB12 hB3)
          | (go_at_call 14; refine (num_any _ _).mono ?_; rintro e w' ⟨rfl, rfl⟩))
        refine (HS1.out _ hB13).mono ?_
        rintro e w' ⟨rfl, rfl⟩
        go_wp2_with fail
        refine (HS2.out _ hB13).mono ?_
        rintro e w' ⟨rfl, rfl⟩
        go_wp2_with fail
        refine (HS3.out _ hB13).mono ?_
        rintro e w' ⟨rfl, rfl⟩
        go_wp2_with (go_at_call 11; refine (works_in _ hB13).mono ?_; rintro e wf ⟨rfl, hBf⟩)
        go_ret
        exact ⟨rfl, hBf⟩
      · have HG := Lib.hid (glue_no v1 ls a hw2 (by omega) w hM1 hok)
        have HK := Lib.hid hok
        obtain ⟨A1, cap1, rfl, _, _⟩ := id hM1
        obtain ⟨A2, cap2, rfl, _, _⟩ := id hM2
        clear hM1 hM2 hf1 hf2 h40 h41 hok
        go_enter Try.func6, Try.ntmps6
        go_wp2_with fail
        refine HF1.out.mono ?_
        rintro e w' ⟨rfl, rfl⟩
        go_wp2_with fail
        refine HF2.out.mono ?_
        rintro e w' ⟨rfl, rfl⟩
        go_wp2_with (first
          | (go_at_call 22; refine HG.out.mono ?_; rintro e w1 ⟨rfl, hB1⟩)
          | (go_at_call 25; refine (HR.out _ hB1).mono ?_; rintro e w2 ⟨_, hno, hB2⟩; obtain rfl := hno HK.out; have hB12 := Below.next hB1 hB2; have c1 := run_txt w2 (Bytes.nil_ 0 w2 none 0))
          | (go_at_call 23; refine (HRS.out _ hB12).mono ?_; rintro e w3 ⟨rfl, hB3⟩; have hB13 := Below.next hB12 hB3)
          | (go_at_call 14; refine (num_any _ _).mono ?_; rintro e w' ⟨rfl, rfl⟩))
        refine (HS1.out _ hB13).mono ?_
        rintro e w' ⟨rfl, rfl⟩
        go_wp2_with fail
        refine (HS2.out _ hB13).mono ?_
        rintro e w' ⟨rfl, rfl⟩
        go_wp2_with fail
        refine (HS3.out _ hB13).mono ?_
        rintro e w' ⟨rfl, rfl⟩
        go_wp2_with (go_at_call 11; refine (works_in _ hB13).mono ?_; rintro e wf ⟨rfl, hBf⟩)
        go_ret
        exact ⟨rfl, hBf⟩
    · have HF2 := Lib.hid (few_any v2 os w hM2 false ⟨fun h => (by cases h), fun h => absurd h hf2⟩)
      obtain ⟨A1, cap1, rfl, _, _⟩ := id hM1
      obtain ⟨A2, cap2, rfl, _, _⟩ := id hM2
      go_enter Try.func6, Try.ntmps6
      go_wp2_with fail
      refine HF1.out.mono ?_
      rintro e w' ⟨rfl, rfl⟩
      go_wp2_with fail
      refine HF2.out.mono ?_
      rintro e w' ⟨rfl, rfl⟩
      go_wp2_with (go_at_call 11; refine (works_any _).mono ?_; rintro e wf ⟨rfl, hBf⟩)
      go_ret
      exact ⟨rfl, hBf⟩
  · have HF1 := Lib.hid (few_any v1 ls w hM1 false ⟨fun h => (by cases h), fun h => absurd h hf1⟩)
    obtain ⟨A1, cap1, rfl, _, _⟩ := id hM1
    obtain ⟨A2, cap2, rfl, _, _⟩ := id hM2
    go_enter Try.func6, Try.ntmps6
    go_wp2_with (first
      | (go_at_call 10; refine HF1.out.mono ?_; rintro e w' ⟨rfl, rfl⟩)
      | (go_at_call 11; refine (works_any _).mono ?_; rintro e wf ⟨rfl, hBf⟩))
    go_ret
    exact ⟨rfl, hBf⟩

set_option maxRecDepth 100000 in
theorem lifted (os : Os) (started : os.Started) (H : Type) (enc : TypeId × Value → H) :
    ReturnsInHanded {} Try.checked os 6 .any (Rows.cellsGluesSpec.pre6 enc Try.prog Try.f6 Rows.cellsGluesRow.domain false) (Rows.cellsGluesSpec.post enc Try.prog Try.f6 false true false false) := by
  refine returnsInHanded_of_change (C := Try.checked) own started (by kernel_rfl) Try.func6
    (ChangeSpec.witness6 (enc := enc) (C := Try.checked) false ⟨#[], #[.slice none 0 0, .slice none 0 0, .int .i64 0], []⟩ 8 (by kernel_rfl) (by kernel_rfl) (by kernel_rfl) (by kernel_rfl)) ?_
  intro W base args ds gs before hval0 hW hcnd _
  have hval : ∀ (j : Nat) t v, Try.f6.params[j]? = some t → args[j]? = some v → Value.okWide Try.prog W .any base t v := hval0
  have hW' := hW
  obtain ⟨p, q, hA0, hV, rfl, hfz, hnd⟩ := hW
  have hA : DataW.TrodAll enc Try.prog W 0 (fun _ => true) true Try.f6.params.toList args.toList ds p := hA0
  rw [Try.params6] at hA hval
  obtain ⟨v0, vs0, d0, ds0, p0, q0, hargs, rfl, rfl, h0, r0⟩ := trodAll_cons hA
  obtain ⟨v1, vs1, d1, ds1, p1, q1, rfl, rfl, rfl, h1, r1⟩ := trodAll_cons r0
  obtain ⟨v2, vs2, d2, ds2, p2, q2, rfl, rfl, rfl, h2, r2⟩ := trodAll_cons r1
  obtain ⟨rfl, rfl, rfl⟩ := trodAll_nil r2
  obtain rfl : args = #[v0, v1, v2] := by cases args; simp_all
  obtain ⟨rfl, rfl⟩ := trodVars_none hV
  obtain ⟨a0, len0, cap0, rfl⟩ := okWide_slice Try.underlying22 (hval 0 22 v0 rfl rfl)
  have k0 := h0
  have lt0 : ∀ x ∈ p0, x.block < W.heap.size := by obtain ⟨m, hm⟩ := k0; exact DataW.trod_lt m _ _ _ hm
  obtain ⟨l0, hb0⟩ : ∃ ls, Many W.heap.size W (.slice a0 len0 cap0) ls := by
    obtain ⟨fuel, hf⟩ := h0
    rcases Deep.open_int_rows Try.underlying22 Try.underlying25 Try.underlying5 (by kernel_rfl) (by kernel_rfl) hf with ⟨hcs, _⟩ | ⟨x, l, c, AA, LL, CC, ZZ, hcs, _, hl, hm, _, hrows⟩
    · simp [Value.cells] at hcs
      obtain ⟨rfl, rfl, rfl⟩ := hcs
      exact ⟨[], Many.nil_ _ _ _ _⟩
    · simp [Value.cells] at hcs
      obtain ⟨rfl, rfl, rfl⟩ := hcs
      refine many_rows hl (A := AA) (L := LL) (C := CC) (Z := ZZ) fun r hr => ?_
      obtain ⟨q1, q2, q3, q4, q5, q6, q7⟩ := hrows r hr
      refine ⟨q1, ?_⟩
      cases hAr : AA r with
      | none =>
        have hC := q6 hAr
        refine .inl ⟨rfl, by omega, hC, List.eq_nil_of_length_eq_zero (by omega)⟩
      | some x => exact .inr ⟨x, rfl, q2, q3, q4, fun i hi => (q7 x hAr).2 i (by omega), q5⟩
  obtain ⟨a1, len1, cap1, rfl⟩ := okWide_slice Try.underlying22 (hval 1 22 v1 rfl rfl)
  have k1 := h1
  have lt1 : ∀ x ∈ p1, x.block < W.heap.size := by obtain ⟨m, hm⟩ := k1; exact DataW.trod_lt m _ _ _ hm
  obtain ⟨l1, hb1⟩ : ∃ ls, Many W.heap.size W (.slice a1 len1 cap1) ls := by
    obtain ⟨fuel, hf⟩ := h1
    rcases Deep.open_int_rows Try.underlying22 Try.underlying25 Try.underlying5 (by kernel_rfl) (by kernel_rfl) hf with ⟨hcs, _⟩ | ⟨x, l, c, AA, LL, CC, ZZ, hcs, _, hl, hm, _, hrows⟩
    · simp [Value.cells] at hcs
      obtain ⟨rfl, rfl, rfl⟩ := hcs
      exact ⟨[], Many.nil_ _ _ _ _⟩
    · simp [Value.cells] at hcs
      obtain ⟨rfl, rfl, rfl⟩ := hcs
      refine many_rows hl (A := AA) (L := LL) (C := CC) (Z := ZZ) fun r hr => ?_
      obtain ⟨q1, q2, q3, q4, q5, q6, q7⟩ := hrows r hr
      refine ⟨q1, ?_⟩
      cases hAr : AA r with
      | none =>
        have hC := q6 hAr
        refine .inl ⟨rfl, by omega, hC, List.eq_nil_of_length_eq_zero (by omega)⟩
      | some x => exact .inr ⟨x, rfl, q2, q3, q4, fun i hi => (q7 x hAr).2 i (by omega), q5⟩
  obtain ⟨a2, rfl, rfl, rfl, w2⟩ := open_int Try.underlying3 (hval 2 3 v2 rfl rfl) h2
  clear hA0 hval0
  refine (walk _ l0 _ l1 a2 W hb0 hb1 w2).mono fun e W' ⟨he, bel⟩ => ?_
  subst he
  exact ⟨_, rfl, _, _, _, [], _, [], hW', trodAll_mk1 (shut_bool Try.underlying4 _), (trodAll_cons_mk (Below.trod laidOut (by kernel_rfl) (of_decide_eq_true (by kernel_rfl)) k0 bel lt0) (trodAll_cons_mk (Below.trod laidOut (by kernel_rfl) (of_decide_eq_true (by kernel_rfl)) k1 bel lt1) (trodAll_cons_mk (shut_int Try.underlying3 w2) trodAll_mk0))), rfl, bel.frame _, fun h => by cases h⟩

theorem over : Rows.cellsGluesRow.holds Try.pinned (OpenSpec.ofChange Rows.cellsGluesSpec) :=
  OpenClaim.holds_of_wide 6 Try.f6 rfl rfl rfl rfl rfl rfl rfl ⟨rfl, rfl, rfl, rfl, rfl⟩ rfl rfl rfl rfl rfl (by kernel_rfl) Try.func6 (by kernel_rfl)
    (of_decide_eq_true (by kernel_rfl)) (by unfold Func.isWrapper; first | (rw [if_pos (by decide +kernel)]; kernel_rfl) | (rw [if_neg (by decide +kernel)]; exact ⟨rfl, rfl⟩))
    (fun os started H enc _ => lifted os started H enc)

theorem cellsGlues_holds : Rows.CellsGluesSaid := over
end Go.Proofs.Ytklmkaafogekaaa.cellsGlues
