/- The law CrcHolds answers true for every input and leaves its arguments as they were. -/
import Derived.Test.YtkgfahmajhfgbaaHoldsMid
namespace Go.Proofs.Ytkgfahmajhfgbaa.crcHolds
open Go.ChangeShapes Go.WideShapes Go.ChangeAt Go.RowKit
set_option linter.unusedVariables false

theorem walk (a0 : Option Addr) (len0 cap0 : Nat) (z0 : List Int) (a1 : Int) (c0 c1 c2 c3 : UInt8) (w : World) (w0 : IsRow .u8 w a0 len0 cap0 z0) :
    Calls Try.prog 7 #[.slice a0 len0 cap0, .int .i64 a1, .agg #[.int .u8 (c0.toNat : Int), .int .u8 (c1.toNat : Int), .int .u8 (c2.toNat : Int), .int .u8 (c3.toNat : Int)]] w fun e w' => e = .returned (.bool true) ∧ Below w.heap.size w w' := by
  obtain ⟨l, rfl, hb⟩ := row_bytes w0
  clear w0
  by_cases hl : l.length ≤ 2000
  · have d1 : decide ((2000 : Int) < (l.length : Int)) = false := by simp; omega
    by_cases h0 : a1 < 0
    · have d2 : decide (a1 < 0) = true := by simpa using h0
      go_enter Try.func7, Try.ntmps7
      go_wp2_with (go_at_call 10; refine (works_any _).mono ?_; rintro e w3 ⟨rfl, hB3⟩)
      go_ret
      exact ⟨rfl, Below.next ((Below.refl _ w).alloc (Nat.le_refl _) _) hB3⟩
    · have d2 : decide (a1 < 0) = false := by simpa using h0
      by_cases h1 : (l.length : Int) < a1
      · have d3 : decide ((l.length : Int) < a1) = true := by simpa using h1
        go_enter Try.func7, Try.ntmps7
        go_wp2_with (go_at_call 10; refine (works_any _).mono ?_; rintro e w3 ⟨rfl, hB3⟩)
        go_ret
        exact ⟨rfl, Below.next ((Below.refl _ w).alloc (Nat.le_refl _) _) hB3⟩
      · obtain ⟨p, rfl⟩ := Int.eq_ofNat_of_zero_le (show 0 ≤ a1 by omega)
        obtain ⟨A, cap, hE, hcap, _⟩ := id hb
        injection hE with hE1 hE2 hE3
        subst hE1 hE3
        have hp : p ≤ l.length := by omega
        by_cases hz : [c0, c1, c2, c3] = [0, 0, 0, 0]
        · simp only [List.cons.injEq, and_true] at hz
          obtain ⟨rfl, rfl, rfl, rfl⟩ := hz
          have d3 : decide ((l.length : Int) < (p : Int)) = false := by simp; omega
          have d4 : decide (l.length < p) = false := by simp; omega
          have hz4 : ∀ W : World, (Op.equalIn 10000 40 (.agg #[.int .u8 0, .int .u8 0, .int .u8 0, .int .u8 0]) (.agg #[.int .u8 0, .int .u8 0, .int .u8 0, .int .u8 0])).run Try.prog W = .ok true W := fun W => eq4 0 0 0 0 0 0 0 0 W
          rw [show ((0 : UInt8).toNat : Int) = 0 from rfl]
          go_enter Try.func7, Try.ntmps7
          go_wp2_with (go_at_call 10; refine (works_any _).mono ?_; rintro e w3 ⟨rfl, hB3⟩)
          go_ret
          exact ⟨rfl, Below.next ((Below.refl _ w).alloc (Nat.le_refl _) _) hB3⟩
        · exact mid l _ _ p c0 c1 c2 c3 w hl hp hz hb
  · have d1 : decide ((2000 : Int) < (l.length : Int)) = true := by simp; omega
    go_enter Try.func7, Try.ntmps7
    go_wp2_with (go_at_call 10; refine (works_any _).mono ?_; rintro e w3 ⟨rfl, hB3⟩)
    go_ret
    exact ⟨rfl, Below.next ((Below.refl _ w).alloc (Nat.le_refl _) _) hB3⟩

theorem list4 {α : Type} (l : List α) (h : (⟨l⟩ : Array α).size = 4) : ∃ a b c d, l = [a, b, c, d] := by
  match l, h with
  | [a, b, c, d], _ => exact ⟨a, b, c, d, rfl⟩
theorem cells_u8 : Try.prog.cellsOf 5 = 1 := by kernel_rfl
theorem cells_arr : Try.prog.cellsOf 40 = 4 := by kernel_rfl

set_option maxRecDepth 100000 in
theorem lifted (os : Os) (started : os.Started) (H : Type) (enc : TypeId × Value → H) :
    ReturnsInHanded {} Try.checked os 7 .any (Rows.crcHoldsSpec.pre6 enc Try.prog Try.f7 Rows.crcHoldsRow.domain false) (Rows.crcHoldsSpec.post enc Try.prog Try.f7 false true false false) := by
  refine returnsInHanded_of_change (C := Try.checked) own started (by kernel_rfl) Try.func7
    (ChangeSpec.witness6 (enc := enc) (C := Try.checked) false ⟨#[], #[.slice none 0 0, .int .i64 0, .agg #[.int .u8 0, .int .u8 0, .int .u8 0, .int .u8 0]], []⟩ 8 (by kernel_rfl) (by kernel_rfl) (by kernel_rfl) (by kernel_rfl)) ?_
  intro W base args ds gs before hval0 hW hcnd _
  have hval : ∀ (j : Nat) t v, Try.f7.params[j]? = some t → args[j]? = some v → Value.okWide Try.prog W .any base t v := hval0
  have hW' := hW
  obtain ⟨p, q, hA0, hV, rfl, hfz, hnd⟩ := hW
  have hA : DataW.TrodAll enc Try.prog W 0 (fun _ => true) true Try.f7.params.toList args.toList ds p := hA0
  rw [Try.params7] at hA hval
  obtain ⟨v0, vs0, d0, ds0, p0, q0, hargs, rfl, rfl, h0, r0⟩ := trodAll_cons hA
  obtain ⟨v1, vs1, d1, ds1, p1, q1, rfl, rfl, rfl, h1, r1⟩ := trodAll_cons r0
  obtain ⟨v2, vs2, d2, ds2, p2, q2, rfl, rfl, rfl, h2, r2⟩ := trodAll_cons r1
  obtain ⟨rfl, rfl, rfl⟩ := trodAll_nil r2
  obtain rfl : args = #[v0, v1, v2] := by cases args; simp_all
  obtain ⟨rfl, rfl⟩ := trodVars_none hV
  obtain ⟨a0, len0, cap0, rfl⟩ := okWide_slice Try.underlying24 (hval 0 24 v0 rfl rfl)
  have k0 := h0
  have lt0 : ∀ x ∈ p0, x.block < W.heap.size := by obtain ⟨m, hm⟩ := k0; exact DataW.trod_lt m _ _ _ hm
  obtain ⟨z0, w0⟩ : ∃ zs, IsRow .u8 W a0 len0 cap0 zs := by
    obtain ⟨fuel, hf⟩ := h0
    rcases open_ints Try.underlying24 Try.underlying5 (by kernel_rfl) hf with ⟨hcs, _⟩ | ⟨x, l, c, zs, hcs, _, hl, hm, hz, _, hcell, hwz⟩
    · simp [Value.cells] at hcs
      obtain ⟨rfl, rfl, rfl⟩ := hcs
      exact ⟨[], .inl ⟨rfl, rfl, rfl, rfl⟩⟩
    · simp [Value.cells] at hcs
      obtain ⟨rfl, rfl, rfl⟩ := hcs
      exact ⟨zs, .inr ⟨_, rfl, hl, hm, by simpa using hz, hcell, hwz⟩⟩
  obtain ⟨a1, rfl, rfl, rfl, w1⟩ := open_int Try.underlying3 (hval 1 3 v1 rfl rfl) h1
  have k2 := h2
  have lt2 : ∀ x ∈ p2, x.block < W.heap.size := by obtain ⟨m, hm⟩ := k2; exact DataW.trod_lt m _ _ _ hm
  obtain ⟨c0, c1, c2, c3, rfl⟩ : ∃ c0 c1 c2 c3 : UInt8, v2 = .agg #[.int .u8 (c0.toNat : Int), .int .u8 (c1.toNat : Int), .int .u8 (c2.toNat : Int), .int .u8 (c3.toNat : Int)] := by
    obtain ⟨cs, rfl, hsz, _⟩ : ∃ cs, v2 = .agg cs ∧ cs.size = Try.prog.cellsOf 40 ∧ Row.okWide Try.prog W .any base 40 cs := by
      have := hval 2 40 v2 rfl rfl
      simpa [Value.okWide, Try.underlying40] using this
    rw [cells_arr] at hsz
    obtain ⟨l⟩ := cs
    obtain ⟨c0, c1, c2, c3, rfl⟩ := list4 l hsz
    obtain ⟨fuel, hf⟩ := h2
    obtain ⟨y0, y1, y2, y3, m, hx, hy0, hy1, hy2, hy3⟩ := trod_array4 Try.underlying40 cells_u8 hf
    obtain ⟨x0, e0, _, w0⟩ := DataW.trod_int Try.underlying5 hy0
    obtain ⟨x1, e1, _, w1⟩ := DataW.trod_int Try.underlying5 hy1
    obtain ⟨x2, e2, _, w2⟩ := DataW.trod_int Try.underlying5 hy2
    obtain ⟨x3, e3, _, w3⟩ := DataW.trod_int Try.underlying5 hy3
    simp at e0 e1 e2 e3
    subst e0 e1 e2 e3
    obtain ⟨b0, rfl⟩ := u8_of w0
    obtain ⟨b1, rfl⟩ := u8_of w1
    obtain ⟨b2, rfl⟩ := u8_of w2
    obtain ⟨b3, rfl⟩ := u8_of w3
    exact ⟨b0, b1, b2, b3, rfl⟩
  clear hA0 hval0
  refine (walk a0 len0 cap0 z0 a1 c0 c1 c2 c3 W w0).mono fun e W' ⟨he, bel⟩ => ?_
  subst he
  exact ⟨_, rfl, _, _, _, [], _, [], hW', trodAll_mk1 (shut_bool Try.underlying4 _), (trodAll_cons_mk (Below.trod laidOut (by kernel_rfl) (of_decide_eq_true (by kernel_rfl)) k0 bel lt0) (trodAll_cons_mk (shut_int Try.underlying3 w1) (trodAll_cons_mk (Below.trod laidOut (by kernel_rfl) (of_decide_eq_true (by kernel_rfl)) k2 bel lt2) trodAll_mk0))), rfl, bel.frame _, fun h => by cases h⟩

theorem over : Rows.crcHoldsRow.holds Try.pinned (OpenSpec.ofChange Rows.crcHoldsSpec) :=
  OpenClaim.holds_of_wide 7 Try.f7 rfl rfl rfl rfl rfl rfl rfl ⟨rfl, rfl, rfl, rfl, rfl⟩ rfl rfl rfl rfl rfl (by kernel_rfl) Try.func7 (by kernel_rfl)
    (of_decide_eq_true (by kernel_rfl)) (by unfold Func.isWrapper; first | (rw [if_pos (by decide +kernel)]; kernel_rfl) | (rw [if_neg (by decide +kernel)]; exact ⟨rfl, rfl⟩))
    (fun os started H enc _ => lifted os started H enc)

theorem crcHolds_holds : Rows.CrcHoldsSaid := over
end Go.Proofs.Ytkgfahmajhfgbaa.crcHolds
