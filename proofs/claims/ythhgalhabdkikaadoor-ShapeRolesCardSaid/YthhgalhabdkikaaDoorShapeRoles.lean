/- The law ShapeRoles answers true for every input and leaves its arguments as they were. -/
import Derived.Test.YthhgalhabdkikaaDoorSLawKit
import Derived.Test.YthhgalhabdkikaaDoorCards
import Derived.Test.YthhgalhabdkikaaDoorTie
import Derived.SevenTiedAt
namespace Go.Proofs.YthhgalhabdkikaaDoor.shapeRoles
open Go.ChangeShapes Go.WideShapes Go.ChangeAt Go.RowKit Go.Shelf
set_option linter.unusedVariables false

theorem allC_right : ∀ j ∈ List.range 18, (1 ≤ (allC[j]?.getD (0, 0)).1 ∧ (allC[j]?.getD (0, 0)).1 ≤ 3) ∧ (allC[j]?.getD (0, 0)).2 ∈ prm := by decide +kernel
theorem role_max {d m x : Int} (h : 0 ≤ x ∧ x < d + m) (h3 : m ≤ 3) : (roleN d x != 1 + if 0 < x - d + 1 then x - d + 1 else 0) = false := by
  rw [bne_eq_false_iff_eq]
  unfold roleN
  split <;> (try split) <;> (try split) <;> (try split) <;> omega

set_option maxRecDepth 100000 in
set_option maxHeartbeats 4000000 in
theorem walk (j0 : Int) (w : World) (hL : Laid w) (wj : -9223372036854775808 ≤ j0 ∧ j0 ≤ 9223372036854775807) :
    Calls Tryd.prog 7 #[.int .i64 j0] w fun e w' => e = .returned (.bool true) ∧ Below w.heap.size w w' := by
  have HA := Lib.hid (shapeAll_any w hL)
  go_enter Tryd.func7, Tryd.ntmps7
  go_wp2_with fail
  refine HA.out.mono ?_
  rintro e w1 ⟨v1, rfl, ho1, hB⟩
  obtain ⟨g1, cap1, rfl, ha1⟩ := ho1.all
  clear ho1 HA
  replace hL := hL.next hB
  by_cases h1 : j0 < 0
  · have d1 : decide (j0 < 0) = true := decide_eq_true h1
    go_wp2_with (go_at_call 22; refine (works_any _ hL).mono ?_; rintro e w' ⟨rfl, hB1⟩)
    go_ret
    exact ⟨rfl, below_in hB hB1⟩
  have d1 : decide (j0 < 0) = false := decide_eq_false h1
  by_cases h2 : 18 ≤ j0
  · have d2 : decide (18 ≤ j0) = true := decide_eq_true h2
    go_wp2_with (go_at_call 22; refine (works_any _ hL).mono ?_; rintro e w' ⟨rfl, hB1⟩)
    go_ret
    exact ⟨rfl, below_in hB hB1⟩
  have d2 : decide (18 ≤ j0) = false := decide_eq_false h2
  obtain ⟨j, rfl⟩ : ∃ j : Nat, j0 = (j : Int) := ⟨j0.toNat, by omega⟩
  have hj : j < 18 := by omega
  have i1 : (0 : Int) ≤ (j : Int) := by omega
  have i2 : (j : Int) < 18 := by omega
  obtain ⟨x0, x1⟩ := ha1.2 j hj
  have hR : RightC (allC[j]?.getD (0, 0)).1 (allC[j]?.getD (0, 0)).2 := allC_right j (List.mem_range.2 hj)
  generalize (allC[j]?.getD (0, 0)).1 = k at *
  generalize (allC[j]?.getD (0, 0)).2 = p at *
  clear ha1 h1 h2 hj
  obtain ⟨p1, p2, s1, s2, m1, m2⟩ := hR.und
  have HDa := Lib.hid (fun W hL => (shapeData_any k p W hL).mono fun _ _ h => tells_yes hR h)
  have HCo := Lib.hid (fun W hL => (shapeCols_any k p W hL).mono fun _ _ h => tells_yes hR h)
  have HLo := Lib.hid (fun W hL => (shapeLost_any k p W hL).mono fun _ _ h => tells_yes hR h)
  have HRo := Lib.hid (fun x (hx : HasCol k p x) W hL => (shapeRole_any k p x W hL).mono fun _ _ h => tells3_yes hR hx h)
  have HRn := Lib.hid (fun x (hx : ¬ HasCol k p x) W hL => (shapeRole_any k p x W hL).mono fun _ _ h => And.intro (h.2.1 hR hx) h.2.2.2)
  unfold HasCol at HRo HRn
  clear hR
  generalize shortN k = s at *
  generalize madeN k = m at *
  have q1 : 2 ≤ p - s := by omega
  have q2 : p - s ≤ 17 := by omega
  generalize p - s = d at *
  clear p1 p2 s1 s2
  have t1 : ((d + m : Int) != d + m) = false := by simp
  have hBa := below_one w1 (.cells #[.int .i64 k, .int .i64 p] 24)
  have b0 := Blk.new w1 24 #[.int .i64 k, .int .i64 p]
  replace hL := hL.next hBa
  replace hB := below_in hB hBa
  clear hBa
  obtain ⟨g0, hg0⟩ : ∃ g, w1.heap.size = g := ⟨_, rfl⟩
  rw [hg0] at b0
  obtain ⟨W0, hW0⟩ : ∃ W0, w1.alloc (.cells #[.int .i64 k, .int .i64 p] 24) = W0 := ⟨_, rfl⟩
  rw [hW0] at b0 hB hL
  have c0 := b0.cell 0
  have c1 := b0.cell 1
  simp only [List.getElem?_toArray, List.getElem?_cons_zero, List.getElem?_cons_succ] at c0 c1
  go_wp2_with (first
    | (go_at_call 14; (try rw [hW0]); refine (HDa.out _ hL).mono ?_; rintro e w1 ⟨rfl, hB1⟩; replace b0 := b0.below hB1 b0.lt; replace hL := hL.next hB1; replace hB := below_in hB hB1; have c0 := b0.cell 0; have c1 := b0.cell 1; simp only [List.getElem?_toArray, List.getElem?_cons_zero, List.getElem?_cons_succ] at c0 c1)
    | (go_at_call 15; refine (HCo.out _ hL).mono ?_; rintro e w1 ⟨rfl, hB1⟩; replace b0 := b0.below hB1 b0.lt; replace hL := hL.next hB1; replace hB := below_in hB hB1; have c0 := b0.cell 0; have c1 := b0.cell 1; simp only [List.getElem?_toArray, List.getElem?_cons_zero, List.getElem?_cons_succ] at c0 c1)
    | (go_at_call 16; refine (HLo.out _ hL).mono ?_; rintro e w1 ⟨rfl, hB1⟩; replace b0 := b0.below hB1 b0.lt; replace hL := hL.next hB1; replace hB := below_in hB hB1; have c0 := b0.cell 0; have c1 := b0.cell 1; simp only [List.getElem?_toArray, List.getElem?_cons_zero, List.getElem?_cons_succ] at c0 c1)
    | (go_at_call 19; refine (num_any _ _).mono ?_; rintro e w' ⟨rfl, rfl⟩))
  go_loopw [11] (fun i wr => ∃ n : Nat, (n : Int) ≤ d + m ∧ i = .int .i64 n ∧ Blk wr g0 24 #[.int .i64 k, .int .i64 p] ∧ Laid wr ∧ Below w.heap.size w wr) (fun i _ => (d + m).toNat - (intOf i).toNat)
  case atStart => exact ⟨0, by omega, rfl, b0, hL, hB⟩
  case round =>
    clear b0 hB hL c0 c1 x0 x1
    obtain ⟨n, hn, rfl, b0, hL, hB⟩ := hrel
    have c0 := b0.cell 0
    have c1 := b0.cell 1
    simp only [List.getElem?_toArray, List.getElem?_cons_zero, List.getElem?_cons_succ] at c0 c1
    by_cases hlt : (n : Int) < d + m
    · have hdec : decide ((n : Int) < d + m) = true := by simpa using hlt
      have HT := Lib.hid (HRo.out n ⟨by omega, hlt⟩)
      have HM := role_max (d := d) (m := m) (x := n) ⟨by omega, hlt⟩ m2
      generalize roleN d n = r at *
      go_wp2_with (first
        | (go_at_call 23; refine (HT.out _ hL).mono ?_; rintro e w1 ⟨rfl, hB1⟩; replace b0 := b0.below hB1 b0.lt; replace hL := hL.next hB1; replace hB := below_in hB hB1; have c0 := b0.cell 0; have c1 := b0.cell 1; simp only [List.getElem?_toArray, List.getElem?_cons_zero, List.getElem?_cons_succ] at c0 c1)
        | (go_at_call 19; refine (num_any _ _).mono ?_; rintro e w' ⟨rfl, rfl⟩))
      go_roundw
      case rel => exact ⟨n + 1, by omega, by go_num, b0, hL, hB⟩
      case measure => simp [intOf]; omega
    · obtain hn2 : (n : Int) = d + m := by omega
      have hdec : decide ((d + m : Int) < d + m) = false := by simp
      rw [hn2]
      have HT := Lib.hid (HRn.out (d + m) (by omega))
      clear hn hlt hn2
      go_wp2_with (first
        | (go_at_call 23; refine (HT.out _ hL).mono ?_; rintro e w1 ⟨rfl, hB1⟩; replace b0 := b0.below hB1 b0.lt; replace hL := hL.next hB1; replace hB := below_in hB hB1; have c0 := b0.cell 0; have c1 := b0.cell 1; simp only [List.getElem?_toArray, List.getElem?_cons_zero, List.getElem?_cons_succ] at c0 c1)
        | (go_at_call 19; refine (num_any _ _).mono ?_; rintro e w' ⟨rfl, rfl⟩)
        | (go_at_call 22; refine (works_any _ hL).mono ?_; rintro e w' ⟨rfl, hB1⟩))
      go_ret
      exact ⟨rfl, below_in hB hB1⟩

set_option maxRecDepth 100000 in
theorem lifted (os : Os) (started : os.Started) (H : Type) (enc : TypeId × Value → H) :
    ReturnsInHanded {} Tryd.checked os 7 .any (fun w args => (Rows.shapeRolesSpec.pre enc Tryd.prog Tryd.f7 [] false w args ∧ laidMetH Tryd.prog laidL w) ∧ sizedMet enc Tryd.prog Tryd.f7 (OpenSpec.ofChange Rows.shapeRolesSpec) false w args)
      (Rows.shapeRolesSpec.post enc Tryd.prog Tryd.f7 false true false false) := by
  refine returnsInHanded_of_change_and (C := Tryd.checked) (X := fun w _ => laidMetH Tryd.prog laidL w) (fun _ _ _ hh h => h.of_heap hh) own started (by kernel_rfl) Tryd.func7
    (ChangeSpec.witness_shaped (enc := enc) (C := Tryd.checked) (os := os) (X := fun w _ => laidMetH Tryd.prog laidL w) false (World.doorLaid Tryd.prog 200 os) #[.int .i64 0] 8 rfl (World.shaped_of_RefB (by kernel_rfl) (by kernel_rfl)) (by kernel_rfl) (by kernel_rfl) (by kernel_rfl) (door_met os _)) ?_
  intro W base args ds gs before hval0 hW _ _ hL0 _
  have hL := laid_of hL0
  have hval : ∀ (j : Nat) t v, Tryd.f7.params[j]? = some t → args[j]? = some v → Value.okWide Tryd.prog W .any base t v := hval0
  have hW' := hW
  obtain ⟨p, q, hA0, hV, rfl, hfz, hnd⟩ := hW
  have hA : DataW.TrodAll enc Tryd.prog W 0 (fun _ => true) true Tryd.f7.params.toList args.toList ds p := hA0
  rw [Tryd.params7] at hA hval
  obtain ⟨v0, vs0, d0, ds0, p0, q0, hargs, rfl, rfl, h0, r0⟩ := trodAll_cons hA
  obtain ⟨rfl, rfl, rfl⟩ := trodAll_nil r0
  obtain rfl : args = #[v0] := by cases args; simp_all
  obtain ⟨rfl, rfl⟩ := trodVars_none hV
  obtain ⟨a0, rfl, rfl, rfl, w0⟩ := open_int Tryd.underlying3 (hval 0 3 v0 rfl rfl) h0
  clear hA0 hval0
  simp only [List.append_nil] at hW'
  refine (walk a0 W hL (wf_i64 w0)).mono fun e W' ⟨he, bel⟩ => ?_
  subst he
  exact ⟨_, rfl, _, _, _, [], _, [], hW', trodAll_mk1 (shut_bool Tryd.underlying4 _), (trodAll_cons_mk (shut_int Tryd.underlying3 w0) trodAll_mk0), rfl, bel.frame _, fun h => by cases h⟩

theorem over : Rows.shapeRolesRow.holds Tryd.pinned (OpenSpec.ofChange Rows.shapeRolesSpec) :=
  OpenClaim.holds_of_wide 7 Tryd.f7 rfl rfl rfl rfl rfl rfl rfl ⟨rfl, rfl, rfl, rfl, rfl⟩ rfl rfl rfl rfl rfl (by kernel_rfl) Tryd.func7 (by kernel_rfl)
    (of_decide_eq_true (by kernel_rfl)) (by unfold Func.isWrapper; first | (rw [if_pos (by decide +kernel)]; kernel_rfl) | (rw [if_neg (by decide +kernel)]; exact ⟨rfl, rfl⟩))
    (fun os started H enc _ => lifted os started H enc)

/-- The tied card: the row, and the tie that is given. -/
theorem shapeRoles_holds : Rows.ShapeRolesCardSaid :=
  Claim7.holds_tied_plain_at .later [] [.data, .data] true _ false over (fun _ h => by cases h) (by kernel_rfl) (fun _ h => by cases h) shapeRoles_row_tie rfl ⟨rfl, rfl⟩ (by kernel_rfl) rfl
    (fun f fn hf hfn => by
      obtain rfl : f = 7 := Option.some.inj ((show Tryd.prog.funcNamed "palisade/palisadelaw04.ShapeRoles" = some 7 by kernel_rfl).symm.trans hf) |>.symm
      obtain rfl : fn = Tryd.f7 := (Option.some.inj (Tryd.func7.symm.trans hfn)).symm
      exact ⟨by kernel_rfl, fun j t ht => by
        rw [Tryd.params7] at ht
        have hm : t ∈ [3] := by simpa using Array.mem_of_getElem? ht
        have hall : ([3].all fun u => !Tryd.prog.wantsStandIn u) = true := by kernel_rfl
        exact (show Tryd.prog.wantsStandIn t = false by simpa using List.all_eq_true.1 hall t hm)⟩)
    (by kernel_rfl)
end Go.Proofs.YthhgalhabdkikaaDoor.shapeRoles
