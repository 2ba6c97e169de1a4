/- The law CellsXors answers true for every input and leaves its arguments as they were. -/
import Derived.Test.YtklmkaafogekaaaCLawKit
namespace Go.Proofs.Ytklmkaafogekaaa.cellsXors
open Go.ChangeShapes Go.WideShapes Go.ChangeAt Go.RowKit Go.Shelf
set_option linter.unusedVariables false

set_option maxHeartbeats 600000 in
theorem walk (v : Value) (ls : List (List UInt8)) (w : World) (hM : Many w.heap.size w v ls) :
    Calls Try.prog 3 #[v] w fun e w' => e = .returned (.bool true) ∧ Below w.heap.size w w' := by
  by_cases hf : Few ls
  · have HF := Lib.hid (few_any v ls w hM true ⟨fun _ => hf, fun _ => rfl⟩)
    have h40 := hf.1
    by_cases hok : XorOk ls
    · have HX := Lib.hid (xor_yes ls v w (Nat.le_refl _) hM (by omega) hok)
      have HR := Lib.hid (fun (W : World) (hB : Below w.heap.size w W) => rxor_any v ls W ((hM.below hB).more hB.size) (by omega))
      have HK := Lib.hid hok
      obtain ⟨A, cap, rfl, _, _⟩ := id hM
      clear hM hf h40 hok
      generalize xorOf ls = x at HX HR
      go_enter Try.func3, Try.ntmps3
      go_wp2_with (first
        | (go_at_call 10; refine HF.out.mono ?_; rintro e w' ⟨rfl, rfl⟩)
        | (go_at_call 12; refine HX.out.mono ?_; rintro e w1 ⟨va, rfl, hFa, hB1⟩)
        | (go_at_call 13; refine (HR.out _ hB1).mono ?_; rintro e w2 ⟨hyes, _, hB2⟩; obtain ⟨vb, rfl, hFb⟩ := hyes HK.out; have c1 := run_txt w2 (hFa.bytes.below hB2); have c2 := run_txt w2 hFb.bytes)
        | (go_at_call 14; refine (num_any _ _).mono ?_; rintro e w' ⟨rfl, rfl⟩)
        | (go_at_call 11; refine (works_in _ (Below.next hB1 hB2)).mono ?_; rintro e wf ⟨rfl, hBf⟩))
      go_ret
      exact ⟨rfl, hBf⟩
    · have HX := Lib.hid (xor_no ls v w (Nat.le_refl _) hM (by omega) hok)
      have HR := Lib.hid (fun (W : World) (hB : Below w.heap.size w W) => rxor_any v ls W ((hM.below hB).more hB.size) (by omega))
      have HK := Lib.hid hok
      obtain ⟨A, cap, rfl, _, _⟩ := id hM
      clear hM hf h40 hok
      go_enter Try.func3, Try.ntmps3
      go_wp2_with (first
        | (go_at_call 10; refine HF.out.mono ?_; rintro e w' ⟨rfl, rfl⟩)
        | (go_at_call 12; refine HX.out.mono ?_; rintro e w1 ⟨rfl, hB1⟩)
        | (go_at_call 13; refine (HR.out _ hB1).mono ?_; rintro e w2 ⟨_, hno, hB2⟩; obtain rfl := hno HK.out; have c1 := run_txt w2 (Bytes.nil_ 0 w2 none 0))
        | (go_at_call 14; refine (num_any _ _).mono ?_; rintro e w' ⟨rfl, rfl⟩)
        | (go_at_call 11; refine (works_in _ (Below.next hB1 hB2)).mono ?_; rintro e wf ⟨rfl, hBf⟩))
      go_ret
      exact ⟨rfl, hBf⟩
  · have HF := Lib.hid (few_any v ls w hM false ⟨fun h => (by cases h), fun h => absurd h hf⟩)
    obtain ⟨A, cap, rfl, _, _⟩ := id hM
    go_enter Try.func3, Try.ntmps3
    go_wp2_with (first
      | (go_at_call 10; refine HF.out.mono ?_; rintro e w' ⟨rfl, rfl⟩)
      | (go_at_call 11; refine (works_any _).mono ?_; rintro e wf ⟨rfl, hBf⟩))
    go_ret
    exact ⟨rfl, hBf⟩

set_option maxRecDepth 100000 in
theorem lifted (os : Os) (started : os.Started) (H : Type) (enc : TypeId × Value → H) :
    ReturnsInHanded {} Try.checked os 3 .any (Rows.cellsXorsSpec.pre6 enc Try.prog Try.f3 Rows.cellsXorsRow.domain false) (Rows.cellsXorsSpec.post enc Try.prog Try.f3 false true false false) := by
  refine returnsInHanded_of_change (C := Try.checked) own started (by kernel_rfl) Try.func3
    (ChangeSpec.witness6 (enc := enc) (C := Try.checked) false ⟨#[], #[.slice none 0 0], []⟩ 8 (by kernel_rfl) (by kernel_rfl) (by kernel_rfl) (by kernel_rfl)) ?_
  intro W base args ds gs before hval0 hW hcnd _
  have hval : ∀ (j : Nat) t v, Try.f3.params[j]? = some t → args[j]? = some v → Value.okWide Try.prog W .any base t v := hval0
  have hW' := hW
  obtain ⟨p, q, hA0, hV, rfl, hfz, hnd⟩ := hW
  have hA : DataW.TrodAll enc Try.prog W 0 (fun _ => true) true Try.f3.params.toList args.toList ds p := hA0
  rw [Try.params3] at hA hval
  obtain ⟨v0, vs0, d0, ds0, p0, q0, hargs, rfl, rfl, h0, r0⟩ := trodAll_cons hA
  obtain ⟨rfl, rfl, rfl⟩ := trodAll_nil r0
  obtain rfl : args = #[v0] := by cases args; simp_all
  obtain ⟨rfl, rfl⟩ := trodVars_none hV
  obtain ⟨a0, len0, cap0, rfl⟩ := okWide_slice Try.underlying22 (hval 0 22 v0 rfl rfl)
  have k0 := h0
  have lt0 : ∀ x ∈ p0, x.block < W.heap.size := by obtain ⟨m, hm⟩ := k0; exact DataW.trod_lt m _ _ _ hm
  obtain ⟨l0, hb0⟩ : ∃ ls, Many W.heap.size W (.slice a0 len0 cap0) ls := by
    obtain ⟨fuel, hf⟩ := h0
    rcases Deep.open_int_rows Try.underlying22 Try.underlying25 Try.underlying5 (by kernel_rfl) (by kernel_rfl) hf with ⟨hcs, _⟩ | ⟨x, l, c, AA, LL, CC, ZZ, hcs, _, hl, hm, _, hrows⟩
    · simp [Value.cells] at hcs
      obtain ⟨rfl, rfl, rfl⟩ := hcs
      exact ⟨[], Many.nil_ _ _ _ _⟩
    · simp [Value.cells] at hcs
      obtain ⟨rfl, rfl, rfl⟩ := hcs
      refine many_rows hl (A := AA) (L := LL) (C := CC) (Z := ZZ) fun r hr => ?_
      obtain ⟨q1, q2, q3, q4, q5, q6, q7⟩ := hrows r hr
      refine ⟨q1, ?_⟩
      cases hAr : AA r with
      | none =>
        have hC := q6 hAr
        refine .inl ⟨rfl, by omega, hC, List.eq_nil_of_length_eq_zero (by omega)⟩
      | some x => exact .inr ⟨x, rfl, q2, q3, q4, fun i hi => (q7 x hAr).2 i (by omega), q5⟩
  clear hA0 hval0
  refine (walk _ l0 W hb0).mono fun e W' ⟨he, bel⟩ => ?_
  subst he
  exact ⟨_, rfl, _, _, _, [], _, [], hW', trodAll_mk1 (shut_bool Try.underlying4 _), (trodAll_cons_mk (Below.trod laidOut (by kernel_rfl) (of_decide_eq_true (by kernel_rfl)) k0 bel lt0) trodAll_mk0), rfl, bel.frame _, fun h => by cases h⟩

theorem over : Rows.cellsXorsRow.holds Try.pinned (OpenSpec.ofChange Rows.cellsXorsSpec) :=
  OpenClaim.holds_of_wide 3 Try.f3 rfl rfl rfl rfl rfl rfl rfl ⟨rfl, rfl, rfl, rfl, rfl⟩ rfl rfl rfl rfl rfl (by kernel_rfl) Try.func3 (by kernel_rfl)
    (of_decide_eq_true (by kernel_rfl)) (by unfold Func.isWrapper; first | (rw [if_pos (by decide +kernel)]; kernel_rfl) | (rw [if_neg (by decide +kernel)]; exact ⟨rfl, rfl⟩))
    (fun os started H enc _ => lifted os started H enc)

theorem cellsXors_holds : Rows.CellsXorsSaid := over
end Go.Proofs.Ytklmkaafogekaaa.cellsXors
