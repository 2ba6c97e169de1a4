/- The law ModBacks answers true for every input and leaves its arguments as they were. -/
import Derived.Test.YtoljflkfhdaipaaDoorMLawKit
import Derived.Test.YtoljflkfhdaipaaDoorCards
import Derived.Test.YtoljflkfhdaipaaDoorTie
import Derived.SevenTiedAt
namespace Go.Proofs.YtoljflkfhdaipaaDoor.modBacks
open Go.ChangeShapes Go.WideShapes Go.ChangeAt Go.RowKit Go.Shelf
set_option linter.unusedVariables false

theorem half_back : ∀ p ∈ prm, ∀ m ∈ List.range 17, (m : Int) < p → (lookN p (m : Int) (fun n => ((n : Int) + n) % p == (m : Int))).2 = 0 ∧
    (0 ≤ (lookN p (m : Int) (fun n => ((n : Int) + n) % p == (m : Int))).1 ∧ (lookN p (m : Int) (fun n => ((n : Int) + n) % p == (m : Int))).1 < p) ∧
    ((lookN p (m : Int) (fun n => ((n : Int) + n) % p == (m : Int))).1 + (lookN p (m : Int) (fun n => ((n : Int) + n) % p == (m : Int))).1) % p = m := by decide +kernel
theorem inverse_back : ∀ p ∈ prm, ∀ m ∈ List.range 17, (m : Int) < p → m ≠ 0 → (lookN p (m : Int) (fun n => (n : Int) * (m : Int) % p == 1)).2 = 0 ∧
    (0 ≤ (lookN p (m : Int) (fun n => (n : Int) * (m : Int) % p == 1)).1 ∧ (lookN p (m : Int) (fun n => (n : Int) * (m : Int) % p == 1)).1 < p) ∧
    (m : Int) * (lookN p (m : Int) (fun n => (n : Int) * (m : Int) % p == 1)).1 % p = 1 ∧
    lookN p (lookN p (m : Int) (fun n => (n : Int) * (m : Int) % p == 1)).1 (fun n => (n : Int) * (lookN p (m : Int) (fun n => (n : Int) * (m : Int) % p == 1)).1 % p == 1) = ((m : Int), 0) := by decide +kernel
theorem inverse_no : ∀ p ∈ prm, lookN p 0 (fun n => (n : Int) * 0 % p == 1) = (0, 2) := by decide +kernel
theorem half_pair (p : Int) (hp : p ∈ prm) (m : Nat) (hm : (m : Int) < p) : ∃ h, lookN p (m : Int) (fun n => ((n : Int) + n) % p == (m : Int)) = (h, 0) ∧ (0 ≤ h ∧ h < p) ∧ (h + h) % p = m := by
  obtain ⟨h1, h2, h3⟩ := half_back p hp m (List.mem_range.2 (by have := prm_bounds hp; omega)) hm
  exact ⟨_, Prod.ext rfl h1, h2, h3⟩
theorem inverse_pair (p : Int) (hp : p ∈ prm) (m : Nat) (hm : (m : Int) < p) (h0 : m ≠ 0) :
    ∃ i, lookN p (m : Int) (fun n => (n : Int) * (m : Int) % p == 1) = (i, 0) ∧ (0 ≤ i ∧ i < p) ∧ (m : Int) * i % p = 1 ∧ lookN p i (fun n => (n : Int) * i % p == 1) = ((m : Int), 0) := by
  obtain ⟨h1, h2, h3, h4⟩ := inverse_back p hp m (List.mem_range.2 (by have := prm_bounds hp; omega)) hm h0
  exact ⟨_, Prod.ext rfl h1, h2, h3, h4⟩

set_option maxRecDepth 100000 in
set_option maxHeartbeats 2000000 in
theorem walk (j n : Int) (w : World) (hL : Laid w) (wj : -9223372036854775808 ≤ j ∧ j ≤ 9223372036854775807) (wn : -9223372036854775808 ≤ n ∧ n ≤ 9223372036854775807) :
    Calls Tryd.prog 7 #[.int .i64 j, .int .i64 n] w fun e w' => e = .returned (.bool true) ∧ Below w.heap.size w w' := by
  have HP := Lib.hid (primes_any w hL)
  by_cases h1 : j < 0
  · have d1 : decide (j < 0) = true := decide_eq_true h1
    go_enter Tryd.func7, Tryd.ntmps7
    go_wp2_with fail
    refine HP.out.mono ?_
    rintro e w1 ⟨g, rfl, hg, hBV⟩
    have hLV := hL.next hBV
    go_wp2_with ((go_at_call 20; refine (works_in _ hLV hBV).mono ?_; rintro e vx ⟨rfl, hX⟩))
    go_ret
    exact ⟨rfl, hX⟩
  · have d1 : decide (j < 0) = false := decide_eq_false h1
    by_cases h2 : 6 ≤ j
    · have d2 : decide (6 ≤ j) = true := decide_eq_true h2
      go_enter Tryd.func7, Tryd.ntmps7
      go_wp2_with fail
      refine HP.out.mono ?_
      rintro e w1 ⟨g, rfl, hg, hBV⟩
      have hLV := hL.next hBV
      go_wp2_with ((go_at_call 20; refine (works_in _ hLV hBV).mono ?_; rintro e vx ⟨rfl, hX⟩))
      go_ret
      exact ⟨rfl, hX⟩
    · have d2 : decide (6 ≤ j) = false := decide_eq_false h2
      obtain ⟨k, rfl⟩ : ∃ k : Nat, j = (k : Int) := ⟨j.toNat, by omega⟩
      have hk : k < 6 := by omega
      have i1 : (0 : Int) ≤ (k : Int) := by omega
      have i2 : (k : Int) < 6 := by omega
      have HM : prm[k]?.getD 0 ∈ prm := by rw [List.getElem?_eq_getElem (show k < prm.length from hk)]; exact List.getElem_mem _
      have HG := Lib.hid (fun (g : Nat) (W : World) (h : Blk W g 45 prmCells) => prm_at g W 45 h k hk)
      generalize prm[k]?.getD 0 = p at *
      have hb := prm_bounds HM
      have q0 := Int.emod_nonneg n (show p ≠ 0 by omega)
      have q1 := Int.emod_lt_of_pos n (show 0 < p by omega)
      have HO := Lib.hid (fun W h => (modOf_any p n W h wn.1 wn.2).mono fun _ _ h => tells_yes HM h)
      generalize n % p = mi at *
      obtain ⟨m, rfl⟩ : ∃ m : Nat, mi = (m : Int) := ⟨mi.toNat, by omega⟩
      obtain ⟨h, e1, ⟨e2, e3⟩, e4⟩ := half_pair p HM m q1
      have HH := Lib.hid (fun W h => half_any p m W h)
      have HV := Lib.hid (fun W h => inverse_any p m W h)
      unfold Looked at HH HV
      rw [e1] at HH
      have MA := Lib.hid (fun W hW => (add_any p h h W hW).mono fun _ _ hx => tells_yes (fine_two.2 ⟨HM, ⟨e2, e3⟩, e2, e3⟩) hx)
      rw [e4] at MA
      have n1 : ((m : Int) != (m : Int)) = false := by simp
      by_cases h0 : m = 0
      · subst h0
        rw [show ((0 : Nat) : Int) = 0 from rfl] at HV HH HO MA n1
        rw [inverse_no p HM] at HV
        clear e1 e2 e3 e4 q0 q1 HM hb h1 h2
        go_enter Tryd.func7, Tryd.ntmps7
        go_wp2_with fail
        refine HP.out.mono ?_
        rintro e w1 ⟨g, rfl, hg, hBV⟩
        have hLV := hL.next hBV
        have cg := HG.out g w1 hg
        go_wp2_with (first
          | (go_at_call 11; refine (HO.out _ hLV).mono ?_; rintro e vx ⟨rfl, hX⟩; have hLV := hLV.next hX; have hBV := below_in hBV hX)
          | (go_at_call 24; refine (HH.out _ hLV).mono ?_; rintro e vx ⟨rfl, hX⟩; have hLV := hLV.next hX; have hBV := below_in hBV hX)
          | (go_at_call 16; refine (MA.out _ hLV).mono ?_; rintro e vx ⟨rfl, hX⟩; have hLV := hLV.next hX; have hBV := below_in hBV hX)
          | (go_at_call 23; refine (HV.out _ hLV).mono ?_; rintro e vx ⟨rfl, hX⟩; have hLV := hLV.next hX; have hBV := below_in hBV hX)
          | (go_at_call 12; refine (num_any _ _).mono ?_; rintro e vx ⟨rfl, rfl⟩)
          | (go_at_call 20; refine (works_in _ hLV hBV).mono ?_; rintro e vx ⟨rfl, hX⟩))
        go_ret
        exact ⟨rfl, hX⟩
      · have n2 : ((m : Int) == 0) = false := by rw [beq_eq_false_iff_ne]; omega
        obtain ⟨i, f1, ⟨f2, f3⟩, f4, f5⟩ := inverse_pair p HM m q1 h0
        rw [f1] at HV
        have HI := Lib.hid (fun W h => inverse_any p i W h)
        unfold Looked at HI
        rw [f5] at HI
        have MM := Lib.hid (fun W hW => (mul_any p m i W hW).mono fun _ _ hx => tells_yes (fine_two.2 ⟨HM, ⟨q0, q1⟩, f2, f3⟩) hx)
        rw [f4] at MM
        have n3 : ((m : Int) == (m : Int)) = true := by simp
        clear e1 e2 e3 e4 q0 q1 HM hb h1 h2 f1 f2 f3 f4 f5 h0
        go_enter Tryd.func7, Tryd.ntmps7
        go_wp2_with fail
        refine HP.out.mono ?_
        rintro e w1 ⟨g, rfl, hg, hBV⟩
        have hLV := hL.next hBV
        have cg := HG.out g w1 hg
        go_wp2_with (first
          | (go_at_call 11; refine (HO.out _ hLV).mono ?_; rintro e vx ⟨rfl, hX⟩; have hLV := hLV.next hX; have hBV := below_in hBV hX)
          | (go_at_call 24; refine (HH.out _ hLV).mono ?_; rintro e vx ⟨rfl, hX⟩; have hLV := hLV.next hX; have hBV := below_in hBV hX)
          | (go_at_call 16; refine (MA.out _ hLV).mono ?_; rintro e vx ⟨rfl, hX⟩; have hLV := hLV.next hX; have hBV := below_in hBV hX)
          | (go_at_call 18; refine (MM.out _ hLV).mono ?_; rintro e vx ⟨rfl, hX⟩; have hLV := hLV.next hX; have hBV := below_in hBV hX)
          | (go_at_call_of 23 (Value.int IntKind.i64 (m : Int)); refine (HV.out _ hLV).mono ?_; rintro e vx ⟨rfl, hX⟩; have hLV := hLV.next hX; have hBV := below_in hBV hX)
          | (go_at_call_of 23 (Value.int IntKind.i64 i); refine (HI.out _ hLV).mono ?_; rintro e vx ⟨rfl, hX⟩; have hLV := hLV.next hX; have hBV := below_in hBV hX)
          | (go_at_call 12; refine (num_any _ _).mono ?_; rintro e vx ⟨rfl, rfl⟩)
          | (go_at_call 20; refine (works_in _ hLV hBV).mono ?_; rintro e vx ⟨rfl, hX⟩))
        go_ret
        exact ⟨rfl, hX⟩

set_option maxRecDepth 100000 in
theorem lifted (os : Os) (started : os.Started) (H : Type) (enc : TypeId × Value → H) :
    ReturnsInHanded {} Tryd.checked os 7 .any (fun w args => (Rows.modBacksSpec.pre enc Tryd.prog Tryd.f7 [] false w args ∧ laidMetH Tryd.prog laidL w) ∧ sizedMet enc Tryd.prog Tryd.f7 (OpenSpec.ofChange Rows.modBacksSpec) false w args)
      (Rows.modBacksSpec.post enc Tryd.prog Tryd.f7 false true false false) := by
  refine returnsInHanded_of_change_and (C := Tryd.checked) (X := fun w _ => laidMetH Tryd.prog laidL w) (fun _ _ _ hh h => h.of_heap hh) own started (by kernel_rfl) Tryd.func7
    (ChangeSpec.witness_shaped (enc := enc) (C := Tryd.checked) (os := os) (X := fun w _ => laidMetH Tryd.prog laidL w) false (World.doorLaid Tryd.prog 200 os) #[.int .i64 0, .int .i64 0] 8 rfl (World.shaped_of_RefB (by kernel_rfl) (by kernel_rfl)) (by kernel_rfl) (by kernel_rfl) (by kernel_rfl) (door_met os _)) ?_
  intro W base args ds gs before hval0 hW _ _ hL0 _
  have hL := laid_of hL0
  have hval : ∀ (j : Nat) t v, Tryd.f7.params[j]? = some t → args[j]? = some v → Value.okWide Tryd.prog W .any base t v := hval0
  have hW' := hW
  obtain ⟨p, q, hA0, hV, rfl, hfz, hnd⟩ := hW
  have hA : DataW.TrodAll enc Tryd.prog W 0 (fun _ => true) true Tryd.f7.params.toList args.toList ds p := hA0
  rw [Tryd.params7] at hA hval
  obtain ⟨v0, vs0, d0, ds0, p0, q0, hargs, rfl, rfl, h0, r0⟩ := trodAll_cons hA
  obtain ⟨v1, vs1, d1, ds1, p1, q1, rfl, rfl, rfl, h1, r1⟩ := trodAll_cons r0
  obtain ⟨rfl, rfl, rfl⟩ := trodAll_nil r1
  obtain rfl : args = #[v0, v1] := by cases args; simp_all
  obtain ⟨rfl, rfl⟩ := trodVars_none hV
  obtain ⟨a0, rfl, rfl, rfl, w0⟩ := open_int Tryd.underlying3 (hval 0 3 v0 rfl rfl) h0
  obtain ⟨a1, rfl, rfl, rfl, w1⟩ := open_int Tryd.underlying3 (hval 1 3 v1 rfl rfl) h1
  clear hA0 hval0
  simp only [List.append_nil] at hW'
  refine (walk a0 a1 W hL (wf_i64 w0) (wf_i64 w1)).mono fun e W' ⟨he, bel⟩ => ?_
  subst he
  exact ⟨_, rfl, _, _, _, [], _, [], hW', trodAll_mk1 (shut_bool Tryd.underlying4 _), (trodAll_cons_mk (shut_int Tryd.underlying3 w0) (trodAll_cons_mk (shut_int Tryd.underlying3 w1) trodAll_mk0)), rfl, bel.frame _, fun h => by cases h⟩

theorem over : Rows.modBacksRow.holds Tryd.pinned (OpenSpec.ofChange Rows.modBacksSpec) :=
  OpenClaim.holds_of_wide 7 Tryd.f7 rfl rfl rfl rfl rfl rfl rfl ⟨rfl, rfl, rfl, rfl, rfl⟩ rfl rfl rfl rfl rfl (by kernel_rfl) Tryd.func7 (by kernel_rfl)
    (of_decide_eq_true (by kernel_rfl)) (by unfold Func.isWrapper; first | (rw [if_pos (by decide +kernel)]; kernel_rfl) | (rw [if_neg (by decide +kernel)]; exact ⟨rfl, rfl⟩))
    (fun os started H enc _ => lifted os started H enc)

/-- The tied card: the row, and the tie that is given. -/
theorem modBacks_holds : Rows.ModBacksCardSaid :=
  Claim7.holds_tied_plain_at .later [] [.data] true _ false over (fun _ h => by cases h) (by kernel_rfl) (fun _ h => by cases h) modBacks_row_tie rfl ⟨rfl, rfl⟩ (by kernel_rfl) rfl
    (fun f fn hf hfn => by
      obtain rfl : f = 7 := Option.some.inj ((show Tryd.prog.funcNamed "palisade/palisadelaw03.ModBacks" = some 7 by kernel_rfl).symm.trans hf) |>.symm
      obtain rfl : fn = Tryd.f7 := (Option.some.inj (Tryd.func7.symm.trans hfn)).symm
      exact ⟨by kernel_rfl, fun j t ht => by
        rw [Tryd.params7] at ht
        have hm : t ∈ [3, 3] := by simpa using Array.mem_of_getElem? ht
        have hall : ([3, 3].all fun u => !Tryd.prog.wantsStandIn u) = true := by kernel_rfl
        exact (show Tryd.prog.wantsStandIn t = false by simpa using List.all_eq_true.1 hall t hm)⟩)
    (by kernel_rfl)
end Go.Proofs.YtoljflkfhdaipaaDoor.modBacks
