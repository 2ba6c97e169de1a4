/- The law CrcLong answers true for every input and leaves its arguments as they were. -/
import Derived.Test.YtkgfahmajhfgbaaRowKit
import Derived.ShutString
import Derived.ChangeOld
namespace Go.Proofs.Ytkgfahmajhfgbaa.crcLong
open Go.ChangeShapes Go.WideShapes Go.ChangeAt Go.RowKit
open Go.ChangeMaps (open_string shut_string)
set_option linter.unusedVariables false      -- a walk need not use every 'w<i>' (that an integer argument fits its kind)

theorem own : ownKnob Try.prog.godebug = none := by kernel_rfl

theorem made_bytes (w : World) (n : Nat) : Bytes (w.alloc (.cells (madeCells #[.int .u8 0] n) 5)).heap.size (w.alloc (.cells (madeCells #[.int .u8 0] n) 5)) (.slice (some ⟨w.heap.size, 0, none⟩) n n) (List.replicate n 0) := by
  unfold Bytes
  rw [List.length_replicate]
  refine ⟨_, n, rfl, Nat.le_refl _, fun _ => ⟨w.heap.size, 0, rfl, by simp, fun j hj => ?_⟩⟩
  rw [Nat.zero_add, (Blk.new w _ _).cell j, ← Array.getElem?_toList, toList_madeCells_one, List.getElem?_replicate, List.getElem?_replicate, if_pos hj, if_pos hj]
  rfl

set_option maxHeartbeats 400000 in
theorem walk (a0 : Int) (w : World) (w0 : (Lit.int .i64 a0).wf = true) :
    Calls Try.prog 6 #[.int .i64 a0] w fun e w' => e = .returned (.bool true) ∧ Below w.heap.size w w' := by
  by_cases hin : -2 ≤ a0 ∧ a0 ≤ 2
  · obtain ⟨h2, h3⟩ := hin
    have d1 : decide (a0 < -2) = false := by simp; omega
    have d2 : decide (2 < a0) = false := by simp; omega
    obtain ⟨i0, hi, hz0, hz1, hz2⟩ := info_parts Try.infoByte
    have hmk := run_make (P := Try.prog) w 24 5 i0 (.int .u8 0) Try.underlying24 hi hz0 .i64 .i64 (1048576 + a0) (1048576 + a0) (by omega) (by omega) (by rw [hz2]; omega) (by omega)
    rw [hz1, Nat.mul_one] at hmk
    obtain ⟨n, hn⟩ : ∃ n : Nat, (1048576 + a0).toNat = n := ⟨_, rfl⟩
    rw [hn] at hmk
    have n1 : (n : Int) ≤ 1048576 + a0 := by omega
    have n2 : 1048576 + a0 ≤ (n : Int) := by omega
    have hb := made_bytes w n
    have hlen : (List.replicate n (0 : UInt8)).length = n := List.length_replicate
    clear hn hi hz0 hz1 hz2
    by_cases hle : a0 ≤ 0
    · have d3 : decide (a0 ≤ 0) = true := by simpa using hle
      have hs := seal_yes _ _ (by rw [hlen]; omega) _ hb
      generalize List.replicate n (0 : UInt8) = l at hs hlen
      have HL := Lib.hid hlen
      have HS := Lib.hid hs
      clear hs hlen hb
      go_enter Try.func6, Try.ntmps6
      go_wp2_with (first | (go_at_call 15; refine HS.out.mono ?_; rintro e w1 ⟨v1, rfl, hown1, hB1⟩; obtain ⟨A1, cap1, rfl⟩ := hown1.bytes.form (n := n + 4) (by rw [List.length_append, HL.out, le4_len])) | (go_at_call 18; refine (num_any _ _).mono ?_; rintro e w2 ⟨rfl, rfl⟩) | (go_at_call 10; refine (works_any _).mono ?_; rintro e w3 ⟨rfl, hB3⟩))
      go_ret
      exact ⟨rfl, Below.next (((Below.refl _ w).alloc (Nat.le_refl _) _).trans (hB1.mono (by simp))) hB3⟩
    · have d3 : decide (a0 ≤ 0) = false := by simpa using hle
      have hs := seal_no _ _ (by rw [hlen]; omega) (by rw [hlen]; omega) _ hb
      have HS := Lib.hid hs
      clear hs hlen hb
      go_enter Try.func6, Try.ntmps6
      go_wp2_with (first | (go_at_call 15; refine HS.out.mono ?_; rintro e w1 ⟨rfl, rfl⟩) | (go_at_call 18; refine (num_any _ _).mono ?_; rintro e w2 ⟨rfl, rfl⟩) | (go_at_call 10; refine (works_any _).mono ?_; rintro e w3 ⟨rfl, hB3⟩))
      go_ret
      exact ⟨rfl, ((Below.refl _ w).alloc (Nat.le_refl _) _).trans (hB3.mono (by simp))⟩
  · by_cases hlo : a0 < -2
    · have d1 : decide (a0 < -2) = true := by simpa using hlo
      go_enter Try.func6, Try.ntmps6
      go_wp2_with (go_at_call 10; refine (works_any _).mono ?_; rintro e w3 ⟨rfl, hB3⟩)
      go_ret
      exact ⟨rfl, hB3⟩
    · have d1 : decide (a0 < -2) = false := by simpa using hlo
      have d2 : decide (2 < a0) = true := by simp; omega
      go_enter Try.func6, Try.ntmps6
      go_wp2_with (go_at_call 10; refine (works_any _).mono ?_; rintro e w3 ⟨rfl, hB3⟩)
      go_ret
      exact ⟨rfl, hB3⟩

set_option maxRecDepth 100000 in
theorem lifted (os : Os) (started : os.Started) (H : Type) (enc : TypeId × Value → H) :
    ReturnsInHanded {} Try.checked os 6 .any (Rows.crcLongSpec.pre6 enc Try.prog Try.f6 Rows.crcLongRow.domain false) (Rows.crcLongSpec.post enc Try.prog Try.f6 false true false false) := by
  refine returnsInHanded_of_change (C := Try.checked) own started (by kernel_rfl) Try.func6
    (ChangeSpec.witness6 (enc := enc) (C := Try.checked) false ⟨#[], #[.int .i64 0], []⟩ 8 (by kernel_rfl) (by kernel_rfl) (by kernel_rfl) (by kernel_rfl)) ?_
  intro W base args ds gs before hval0 hW hcnd _
  have hval : ∀ (j : Nat) t v, Try.f6.params[j]? = some t → args[j]? = some v → Value.okWide Try.prog W .any base t v := hval0
  have hW' := hW
  obtain ⟨p, q, hA0, hV, rfl, hfz, hnd⟩ := hW
  have hA : DataW.TrodAll enc Try.prog W 0 (fun _ => true) true Try.f6.params.toList args.toList ds p := hA0
  rw [Try.params6] at hA hval
  obtain ⟨v0, vs0, d0, ds0, p0, q0, hargs, rfl, rfl, h0, r0⟩ := trodAll_cons hA
  obtain ⟨rfl, rfl, rfl⟩ := trodAll_nil r0
  obtain rfl : args = #[v0] := by cases args; simp_all
  obtain ⟨rfl, rfl⟩ := trodVars_none hV
  obtain ⟨a0, rfl, rfl, rfl, w0⟩ := open_int Try.underlying3 (hval 0 3 v0 rfl rfl) h0
  clear hA0 hval0
  refine (walk a0 W w0).mono fun e W' ⟨he, bel⟩ => ?_
  subst he
  exact ⟨_, rfl, _, _, _, [], _, [], hW', trodAll_mk1 (shut_bool Try.underlying4 _), (trodAll_cons_mk (shut_int Try.underlying3 w0) trodAll_mk0), rfl, bel.frame _, fun h => by cases h⟩

theorem over : Rows.crcLongRow.holds Try.pinned (OpenSpec.ofChange Rows.crcLongSpec) :=
  OpenClaim.holds_of_wide 6 Try.f6 rfl rfl rfl rfl rfl rfl rfl ⟨rfl, rfl, rfl, rfl, rfl⟩ rfl rfl rfl rfl rfl (by kernel_rfl) Try.func6 (by kernel_rfl)
    (of_decide_eq_true (by kernel_rfl)) (by unfold Func.isWrapper; first | (rw [if_pos (by decide +kernel)]; kernel_rfl) | (rw [if_neg (by decide +kernel)]; exact ⟨rfl, rfl⟩))
    (fun os started H enc _ => lifted os started H enc)

theorem crcLong_holds : Rows.CrcLongSaid := over
end Go.Proofs.Ytkgfahmajhfgbaa.crcLong
