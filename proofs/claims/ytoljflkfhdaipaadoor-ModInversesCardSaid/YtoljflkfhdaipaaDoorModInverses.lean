/- The law ModInverses answers true for every input and leaves its arguments as they were. -/
import Derived.Test.YtoljflkfhdaipaaDoorMLawKit
import Derived.Test.YtoljflkfhdaipaaDoorCards
import Derived.Test.YtoljflkfhdaipaaDoorTie
import Derived.SevenTiedAt
namespace Go.Proofs.YtoljflkfhdaipaaDoor.modInverses
open Go.ChangeShapes Go.WideShapes Go.ChangeAt Go.RowKit Go.Shelf
set_option linter.unusedVariables false

theorem inverse_yes : ∀ p ∈ prm, ∀ a ∈ List.range 17, (a : Int) < p → a ≠ 0 → lookN p (a : Int) (fun n => (n : Int) * (a : Int) % p == 1) = ((firstN p (fun b => (a : Int) * (b : Int) % p == 1) : Int), 0) := by decide +kernel
theorem inverse_no : ∀ p ∈ prm, lookN p 0 (fun n => (n : Int) * 0 % p == 1) = (0, 2) := by decide +kernel
theorem half_yes : ∀ p ∈ prm, ∀ a ∈ List.range 17, (a : Int) < p → lookN p (a : Int) (fun n => ((n : Int) + n) % p == (a : Int)) = ((firstN p (fun b => ((b : Int) + b) % p == (a : Int)) : Int), 0) := by decide +kernel
theorem look_out {p a : Int} {t : Nat → Bool} (h : ¬ (p ∈ prm ∧ 0 ≤ a ∧ a < p)) : lookN p a t = (0, 2) := if_neg h

theorem told_yes (n : Int) (w : World) : Calls Tryd.prog 19 #[.int .i64 n, .int .i64 0, .bool true, .int .i64 n] w fun e' w' => e' = .returned (.bool true) ∧ w = w' :=
  (told_any n 0 true n w).mono fun _ _ h => ⟨h.1.trans (ret_bool (by simp [toldB])), h.2⟩
theorem told_no (n : Int) (w : World) : Calls Tryd.prog 19 #[.int .i64 0, .int .i64 2, .bool false, .int .i64 n] w fun e' w' => e' = .returned (.bool true) ∧ w = w' :=
  (told_any 0 2 false n w).mono fun _ _ h => ⟨h.1.trans (ret_bool (by simp [toldB])), h.2⟩

set_option maxHeartbeats 2000000 in
theorem walk (p a : Int) (w : World) (hL : Laid w) (_w0 : -9223372036854775808 ≤ p ∧ p ≤ 9223372036854775807) (_w1 : -9223372036854775808 ≤ a ∧ a ≤ 9223372036854775807) :
    Calls Tryd.prog 4 #[.int .i64 p, .int .i64 a] w fun e w' => e = .returned (.bool true) ∧ Below w.heap.size w w' := by
  have HR := Lib.hid (right_any p w)
  have t1 : ∀ x, toldB 0 2 false x = true := fun x => by simp [toldB]
  by_cases hp : p ∈ prm
  · rw [decide_eq_true hp] at HR
    have hb := prm_bounds hp
    have HA := Lib.hid (fun W => at_any p a W)
    by_cases ha : 0 ≤ a ∧ a < p
    · rw [decide_eq_true ha] at HA
      obtain ⟨n, rfl⟩ : ∃ n : Nat, a = (n : Int) := ⟨a.toNat, by omega⟩
      have hn : n ∈ List.range 17 := List.mem_range.2 (by omega)
      have HH := Lib.hid (fun W h => half_any p n W h)
      have HV := Lib.hid (fun W h => inverse_any p n W h)
      have RI := Lib.hid (fun W => rinverse_any p n W (by omega) (by omega) ha.1 ha.2)
      have RH := Lib.hid (fun W => rhalf_any p n W (by omega) (by omega))
      unfold Looked at HH HV
      rw [half_yes p hp n hn ha.2] at HH
      by_cases h0 : n = 0
      · subst h0
        have e1 := inverse_no p hp
        rw [show ((0 : Nat) : Int) = 0 from rfl] at HV RI RH HH HA
        rw [e1] at HV
        clear e1 ha hn hp
        generalize firstN p (fun b => (0 : Int) * (b : Int) % p == 1) = i0 at *
        generalize firstN p (fun b => ((b : Int) + b) % p == (0 : Int)) = i1 at *
        have t2 : toldB (i1 : Int) 0 true (i1 : Int) = true := by simp [toldB]
        go_enter Tryd.func4, Tryd.ntmps4
        go_wp2_with (first
          | (go_at_call 10; refine HR.out.mono ?_; rintro e w1 ⟨rfl, hB1⟩; have hL1 := hL.next hB1)
          | (go_at_call 15; refine (HA.out _).mono ?_; rintro e w' ⟨rfl, rfl⟩)
          | (go_at_call 21; refine (RI.out _).mono ?_; rintro e w' ⟨rfl, rfl⟩)
          | (go_at_call 22; refine (RH.out _).mono ?_; rintro e w' ⟨rfl, rfl⟩)
          | (go_at_call 23; refine (HV.out _ hL1).mono ?_; rintro e w2 ⟨rfl, hB2⟩; have hL2 := hL1.next hB2; have hC2 := below_in hB1 hB2)
          | (go_at_call 24; refine (HH.out _ hL2).mono ?_; rintro e w3 ⟨rfl, hB3⟩; have hL3 := hL2.next hB3; have hC3 := below_in hC2 hB3)
          | (go_at_call 19; refine (told_any _ _ _ _ _).mono ?_; rintro e w' ⟨rfl, rfl⟩)
          | (go_at_call 20; refine (works_in _ hL3 hC3).mono ?_; rintro e w4 ⟨rfl, hB4⟩))
        go_ret
        exact ⟨rfl, hB4⟩
      · have e1 := inverse_yes p hp n hn ha.2 h0
        rw [e1] at HV
        have h0' : ((n : Int) != 0) = true := by rw [bne_iff_ne]; omega
        clear e1 ha hn hp
        generalize firstN p (fun b => (n : Int) * (b : Int) % p == 1) = i0 at *
        generalize firstN p (fun b => ((b : Int) + b) % p == (n : Int)) = i1 at *
        have t2 : toldB (i1 : Int) 0 true (i1 : Int) = true := by simp [toldB]
        have t3 : toldB (i0 : Int) 0 true (i0 : Int) = true := by simp [toldB]
        go_enter Tryd.func4, Tryd.ntmps4
        go_wp2_with (first
          | (go_at_call 10; refine HR.out.mono ?_; rintro e w1 ⟨rfl, hB1⟩; have hL1 := hL.next hB1)
          | (go_at_call 15; refine (HA.out _).mono ?_; rintro e w' ⟨rfl, rfl⟩)
          | (go_at_call 21; refine (RI.out _).mono ?_; rintro e w' ⟨rfl, rfl⟩)
          | (go_at_call 22; refine (RH.out _).mono ?_; rintro e w' ⟨rfl, rfl⟩)
          | (go_at_call 23; refine (HV.out _ hL1).mono ?_; rintro e w2 ⟨rfl, hB2⟩; have hL2 := hL1.next hB2; have hC2 := below_in hB1 hB2)
          | (go_at_call 24; refine (HH.out _ hL2).mono ?_; rintro e w3 ⟨rfl, hB3⟩; have hL3 := hL2.next hB3; have hC3 := below_in hC2 hB3)
          | (go_at_call 19; refine (told_any _ _ _ _ _).mono ?_; rintro e w' ⟨rfl, rfl⟩)
          | (go_at_call 20; refine (works_in _ hL3 hC3).mono ?_; rintro e w4 ⟨rfl, hB4⟩))
        go_ret
        exact ⟨rfl, hB4⟩
    · rw [decide_eq_false ha] at HA
      have HH := Lib.hid (fun W h => half_any p a W h)
      have HV := Lib.hid (fun W h => inverse_any p a W h)
      unfold Looked at HH HV
      rw [look_out (fun h => ha h.2)] at HH HV
      clear ha hp
      go_enter Tryd.func4, Tryd.ntmps4
      go_wp2_with (first
        | (go_at_call 10; refine HR.out.mono ?_; rintro e w1 ⟨rfl, hB1⟩; have hL1 := hL.next hB1)
        | (go_at_call 15; refine (HA.out _).mono ?_; rintro e w' ⟨rfl, rfl⟩)
        | (go_at_call 21; refine (RI.out _).mono ?_; rintro e w' ⟨rfl, rfl⟩)
        | (go_at_call 22; refine (RH.out _).mono ?_; rintro e w' ⟨rfl, rfl⟩)
        | (go_at_call 23; refine (HV.out _ hL1).mono ?_; rintro e w2 ⟨rfl, hB2⟩; have hL2 := hL1.next hB2; have hC2 := below_in hB1 hB2)
        | (go_at_call 24; refine (HH.out _ hL2).mono ?_; rintro e w3 ⟨rfl, hB3⟩; have hL3 := hL2.next hB3; have hC3 := below_in hC2 hB3)
        | (go_at_call 19; refine (told_any _ _ _ _ _).mono ?_; rintro e w' ⟨rfl, rfl⟩)
        | (go_at_call 20; refine (works_in _ hL3 hC3).mono ?_; rintro e w4 ⟨rfl, hB4⟩))
      go_ret
      exact ⟨rfl, hB4⟩
  · rw [decide_eq_false hp] at HR
    have HH := Lib.hid (fun W h => half_any p a W h)
    have HV := Lib.hid (fun W h => inverse_any p a W h)
    unfold Looked at HH HV
    rw [look_out (fun h => hp h.1)] at HH HV
    clear hp
    go_enter Tryd.func4, Tryd.ntmps4
    go_wp2_with (first
      | (go_at_call 10; refine HR.out.mono ?_; rintro e w1 ⟨rfl, hB1⟩; have hL1 := hL.next hB1)
      | (go_at_call 15; refine (HA.out _).mono ?_; rintro e w' ⟨rfl, rfl⟩)
      | (go_at_call 21; refine (RI.out _).mono ?_; rintro e w' ⟨rfl, rfl⟩)
      | (go_at_call 22; refine (RH.out _).mono ?_; rintro e w' ⟨rfl, rfl⟩)
      | (go_at_call 23; refine (HV.out _ hL1).mono ?_; rintro e w2 ⟨rfl, hB2⟩; have hL2 := hL1.next hB2; have hC2 := below_in hB1 hB2)
      | (go_at_call 24; refine (HH.out _ hL2).mono ?_; rintro e w3 ⟨rfl, hB3⟩; have hL3 := hL2.next hB3; have hC3 := below_in hC2 hB3)
      | (go_at_call 19; refine (told_any _ _ _ _ _).mono ?_; rintro e w' ⟨rfl, rfl⟩)
      | (go_at_call 20; refine (works_in _ hL3 hC3).mono ?_; rintro e w4 ⟨rfl, hB4⟩))
    go_ret
    exact ⟨rfl, hB4⟩

set_option maxRecDepth 100000 in
theorem lifted (os : Os) (started : os.Started) (H : Type) (enc : TypeId × Value → H) :
    ReturnsInHanded {} Tryd.checked os 4 .any (fun w args => (Rows.modInversesSpec.pre enc Tryd.prog Tryd.f4 [] false w args ∧ laidMetH Tryd.prog laidL w) ∧ sizedMet enc Tryd.prog Tryd.f4 (OpenSpec.ofChange Rows.modInversesSpec) false w args)
      (Rows.modInversesSpec.post enc Tryd.prog Tryd.f4 false true false false) := by
  refine returnsInHanded_of_change_and (C := Tryd.checked) (X := fun w _ => laidMetH Tryd.prog laidL w) (fun _ _ _ hh h => h.of_heap hh) own started (by kernel_rfl) Tryd.func4
    (ChangeSpec.witness_shaped (enc := enc) (C := Tryd.checked) (os := os) (X := fun w _ => laidMetH Tryd.prog laidL w) false (World.doorLaid Tryd.prog 200 os) #[.int .i64 0, .int .i64 0] 8 rfl (World.shaped_of_RefB (by kernel_rfl) (by kernel_rfl)) (by kernel_rfl) (by kernel_rfl) (by kernel_rfl) (door_met os _)) ?_
  intro W base args ds gs before hval0 hW _ _ hL0 _
  have hL := laid_of hL0
  have hval : ∀ (j : Nat) t v, Tryd.f4.params[j]? = some t → args[j]? = some v → Value.okWide Tryd.prog W .any base t v := hval0
  have hW' := hW
  obtain ⟨p, q, hA0, hV, rfl, hfz, hnd⟩ := hW
  have hA : DataW.TrodAll enc Tryd.prog W 0 (fun _ => true) true Tryd.f4.params.toList args.toList ds p := hA0
  rw [Tryd.params4] at hA hval
  obtain ⟨v0, vs0, d0, ds0, p0, q0, hargs, rfl, rfl, h0, r0⟩ := trodAll_cons hA
  obtain ⟨v1, vs1, d1, ds1, p1, q1, rfl, rfl, rfl, h1, r1⟩ := trodAll_cons r0
  obtain ⟨rfl, rfl, rfl⟩ := trodAll_nil r1
  obtain rfl : args = #[v0, v1] := by cases args; simp_all
  obtain ⟨rfl, rfl⟩ := trodVars_none hV
  obtain ⟨a0, rfl, rfl, rfl, w0⟩ := open_int Tryd.underlying3 (hval 0 3 v0 rfl rfl) h0
  obtain ⟨a1, rfl, rfl, rfl, w1⟩ := open_int Tryd.underlying3 (hval 1 3 v1 rfl rfl) h1
  clear hA0 hval0
  simp only [List.append_nil] at hW'
  refine (walk a0 a1 W hL (wf_i64 w0) (wf_i64 w1)).mono fun e W' ⟨he, bel⟩ => ?_
  subst he
  exact ⟨_, rfl, _, _, _, [], _, [], hW', trodAll_mk1 (shut_bool Tryd.underlying4 _), (trodAll_cons_mk (shut_int Tryd.underlying3 w0) (trodAll_cons_mk (shut_int Tryd.underlying3 w1) trodAll_mk0)), rfl, bel.frame _, fun h => by cases h⟩

theorem over : Rows.modInversesRow.holds Tryd.pinned (OpenSpec.ofChange Rows.modInversesSpec) :=
  OpenClaim.holds_of_wide 4 Tryd.f4 rfl rfl rfl rfl rfl rfl rfl ⟨rfl, rfl, rfl, rfl, rfl⟩ rfl rfl rfl rfl rfl (by kernel_rfl) Tryd.func4 (by kernel_rfl)
    (of_decide_eq_true (by kernel_rfl)) (by unfold Func.isWrapper; first | (rw [if_pos (by decide +kernel)]; kernel_rfl) | (rw [if_neg (by decide +kernel)]; exact ⟨rfl, rfl⟩))
    (fun os started H enc _ => lifted os started H enc)

/-- The tied card: the row, and the tie that is given. -/
theorem modInverses_holds : Rows.ModInversesCardSaid :=
  Claim7.holds_tied_plain_at .later [] [.data] true _ false over (fun _ h => by cases h) (by kernel_rfl) (fun _ h => by cases h) modInverses_row_tie rfl ⟨rfl, rfl⟩ (by kernel_rfl) rfl
    (fun f fn hf hfn => by
      obtain rfl : f = 4 := Option.some.inj ((show Tryd.prog.funcNamed "palisade/palisadelaw03.ModInverses" = some 4 by kernel_rfl).symm.trans hf) |>.symm
      obtain rfl : fn = Tryd.f4 := (Option.some.inj (Tryd.func4.symm.trans hfn)).symm
      exact ⟨by kernel_rfl, fun j t ht => by
        rw [Tryd.params4] at ht
        have hm : t ∈ [3, 3] := by simpa using Array.mem_of_getElem? ht
        have hall : ([3, 3].all fun u => !Tryd.prog.wantsStandIn u) = true := by kernel_rfl
        exact (show Tryd.prog.wantsStandIn t = false by simpa using List.all_eq_true.1 hall t hm)⟩)
    (by kernel_rfl)
end Go.Proofs.YtoljflkfhdaipaaDoor.modInverses
