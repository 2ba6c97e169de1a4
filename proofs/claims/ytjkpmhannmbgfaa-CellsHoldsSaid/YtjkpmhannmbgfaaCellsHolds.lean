/- The law CellsHolds answers true for every input and leaves its arguments as they were. -/
import Derived.Test.YtjkpmhannmbgfaaCLawKit
import Derived.Test.YtjkpmhannmbgfaaCHoldF
import Derived.Test.YtjkpmhannmbgfaaCHoldM
namespace Go.Proofs.Ytjkpmhannmbgfaa.cellsHolds
open Go.ChangeShapes Go.WideShapes Go.ChangeAt Go.RowKit Go.Shelf
set_option linter.unusedVariables false

set_option maxHeartbeats 600000 in
theorem walk (v : Value) (ls : List (List UInt8)) (k bt : Int) (w : World) (hM : Many w.heap.size w v ls) (wk : (Lit.int .i64 k).wf = true) (wb : (Lit.int .i64 bt).wf = true) :
    Calls Try.prog 7 #[v, .int .i64 k, .int .i64 bt] w fun e w' => e = .returned (.bool true) ∧ Below w.heap.size w w' := by
  obtain ⟨k1, k2⟩ := wf_i64 wk
  obtain ⟨b1, b2⟩ := wf_i64 wb
  by_cases hf : Few ls
  · by_cases h1 : k < 0
    · exact holdsK1 v ls k bt w hM hf h1 k1 k2 b1 b2
    by_cases h2 : (ls.length : Int) ≤ k
    · exact holdsK2 v ls k bt w hM hf (by omega) h2 k1 k2 b1 b2
    by_cases h3 : bt < 0
    · exact holdsB1 v ls k bt w hM hf (by omega) (by omega) h3 k1 k2 b1 b2
    by_cases h4 : 512 ≤ bt
    · exact holdsB2 v ls k bt w hM hf (by omega) (by omega) (by omega) h4 k1 k2 b1 b2
    by_cases hx : XorOk ls
    · exact holdsM v ls k bt w hM hf (by omega) (by omega) (by omega) (by omega) hx k1 k2 b1 b2
    · exact holdsX v ls k bt w hM hf (by omega) (by omega) (by omega) (by omega) hx k1 k2 b1 b2
  · exact holdsF v ls k bt w hM hf k1 k2 b1 b2

set_option maxRecDepth 100000 in
theorem lifted (os : Os) (started : os.Started) (H : Type) (enc : TypeId × Value → H) :
    ReturnsInHanded {} Try.checked os 7 .any (Rows.cellsHoldsSpec.pre6 enc Try.prog Try.f7 Rows.cellsHoldsRow.domain false) (Rows.cellsHoldsSpec.post enc Try.prog Try.f7 false true false false) := by
  refine returnsInHanded_of_change (C := Try.checked) own started (by kernel_rfl) Try.func7
    (ChangeSpec.witness6 (enc := enc) (C := Try.checked) false ⟨#[], #[.slice none 0 0, .int .i64 0, .int .i64 0], []⟩ 8 (by kernel_rfl) (by kernel_rfl) (by kernel_rfl) (by kernel_rfl)) ?_
  intro W base args ds gs before hval0 hW hcnd _
  have hval : ∀ (j : Nat) t v, Try.f7.params[j]? = some t → args[j]? = some v → Value.okWide Try.prog W .any base t v := hval0
  have hW' := hW
  obtain ⟨p, q, hA0, hV, rfl, hfz, hnd⟩ := hW
  have hA : DataW.TrodAll enc Try.prog W 0 (fun _ => true) true Try.f7.params.toList args.toList ds p := hA0
  rw [Try.params7] at hA hval
  obtain ⟨v0, vs0, d0, ds0, p0, q0, hargs, rfl, rfl, h0, r0⟩ := trodAll_cons hA
  obtain ⟨v1, vs1, d1, ds1, p1, q1, rfl, rfl, rfl, h1, r1⟩ := trodAll_cons r0
  obtain ⟨v2, vs2, d2, ds2, p2, q2, rfl, rfl, rfl, h2, r2⟩ := trodAll_cons r1
  obtain ⟨rfl, rfl, rfl⟩ := trodAll_nil r2
  obtain rfl : args = #[v0, v1, v2] := by cases args; simp_all
  obtain ⟨rfl, rfl⟩ := trodVars_none hV
  obtain ⟨a0, len0, cap0, rfl⟩ := okWide_slice Try.underlying22 (hval 0 22 v0 rfl rfl)
  have k0 := h0
  have lt0 : ∀ x ∈ p0, x.block < W.heap.size := by obtain ⟨m, hm⟩ := k0; exact DataW.trod_lt m _ _ _ hm
  obtain ⟨l0, hb0⟩ : ∃ ls, Many W.heap.size W (.slice a0 len0 cap0) ls := by
    obtain ⟨fuel, hf⟩ := h0
    rcases Deep.open_int_rows Try.underlying22 Try.underlying25 Try.underlying5 (by kernel_rfl) (by kernel_rfl) hf with ⟨hcs, _⟩ | ⟨x, l, c, AA, LL, CC, ZZ, hcs, _, hl, hm, _, hrows⟩
    · simp [Value.cells] at hcs
      obtain ⟨rfl, rfl, rfl⟩ := hcs
      exact ⟨[], Many.nil_ _ _ _ _⟩
    · simp [Value.cells] at hcs
      obtain ⟨rfl, rfl, rfl⟩ := hcs
      refine many_rows hl (A := AA) (L := LL) (C := CC) (Z := ZZ) fun r hr => ?_
      obtain ⟨q1, q2, q3, q4, q5, q6, q7⟩ := hrows r hr
      refine ⟨q1, ?_⟩
      cases hAr : AA r with
      | none =>
        have hC := q6 hAr
        refine .inl ⟨rfl, by omega, hC, List.eq_nil_of_length_eq_zero (by omega)⟩
      | some x => exact .inr ⟨x, rfl, q2, q3, q4, fun i hi => (q7 x hAr).2 i (by omega), q5⟩
  obtain ⟨a1, rfl, rfl, rfl, w1⟩ := open_int Try.underlying3 (hval 1 3 v1 rfl rfl) h1
  obtain ⟨a2, rfl, rfl, rfl, w2⟩ := open_int Try.underlying3 (hval 2 3 v2 rfl rfl) h2
  clear hA0 hval0
  refine (walk _ l0 a1 a2 W hb0 w1 w2).mono fun e W' ⟨he, bel⟩ => ?_
  subst he
  exact ⟨_, rfl, _, _, _, [], _, [], hW', trodAll_mk1 (shut_bool Try.underlying4 _), (trodAll_cons_mk (Below.trod laidOut (by kernel_rfl) (of_decide_eq_true (by kernel_rfl)) k0 bel lt0) (trodAll_cons_mk (shut_int Try.underlying3 w1) (trodAll_cons_mk (shut_int Try.underlying3 w2) trodAll_mk0))), rfl, bel.frame _, fun h => by cases h⟩

theorem over : Rows.cellsHoldsRow.holds Try.pinned (OpenSpec.ofChange Rows.cellsHoldsSpec) :=
  OpenClaim.holds_of_wide 7 Try.f7 rfl rfl rfl rfl rfl rfl rfl ⟨rfl, rfl, rfl, rfl, rfl⟩ rfl rfl rfl rfl rfl (by kernel_rfl) Try.func7 (by kernel_rfl)
    (of_decide_eq_true (by kernel_rfl)) (by unfold Func.isWrapper; first | (rw [if_pos (by decide +kernel)]; kernel_rfl) | (rw [if_neg (by decide +kernel)]; exact ⟨rfl, rfl⟩))
    (fun os started H enc _ => lifted os started H enc)

theorem cellsHolds_holds : Rows.CellsHoldsSaid := over
end Go.Proofs.Ytjkpmhannmbgfaa.cellsHolds
