/- The law ShapeCodes answers true for every input and leaves its arguments as they were. -/
import Derived.Test.YthhgalhabdkikaaDoorSLawKit
import Derived.Test.YthhgalhabdkikaaDoorCards
import Derived.Test.YthhgalhabdkikaaDoorTie
import Derived.SevenTiedAt
namespace Go.Proofs.YthhgalhabdkikaaDoor.shapeCodes
open Go.ChangeShapes Go.WideShapes Go.ChangeAt Go.RowKit Go.Shelf
set_option linter.unusedVariables false

set_option maxRecDepth 100000 in
set_option maxHeartbeats 4000000 in
theorem walk_yes (k p : Int) (w : World) (hL : Laid w) (hR : RightC k p) :
    Calls Tryd.prog 3 #[.agg #[.int .i64 k, .int .i64 p]] w fun e w' => e = .returned (.bool true) ∧ Below w.heap.size w w' := by
  obtain ⟨p1, p2, s1, s2, m1, m2⟩ := hR.und
  have HQ := Lib.hid (fun W => (refRight_any k p W).mono fun _ _ h => And.intro (h.1 hR) h.2.2)
  have HRo := Lib.hid (fun W hL => (shapeRows_any k p W hL).mono fun _ _ h => tells_yes hR h)
  have rHRo := Lib.hid (fun W => refRows_any k p hR W)
  have HDa := Lib.hid (fun W hL => (shapeData_any k p W hL).mono fun _ _ h => tells_yes hR h)
  have rHDa := Lib.hid (fun W => refData_any k p hR W)
  have HCo := Lib.hid (fun W hL => (shapeCols_any k p W hL).mono fun _ _ h => tells_yes hR h)
  have rHCo := Lib.hid (fun W => refCols_any k p hR W)
  have HLo := Lib.hid (fun W hL => (shapeLost_any k p W hL).mono fun _ _ h => tells_yes hR h)
  have rHLo := Lib.hid (fun W => refLost_any k p hR W)
  have HCh := Lib.hid (fun W hL => (shapeCheck_any k p W hL).mono fun _ _ h => And.intro (h.1 hR) h.2.2)
  clear hR
  generalize shortN k = s at *
  generalize madeN k = m at *
  generalize p - 1 = vr at *
  generalize p - s + m = vc at *
  generalize p - s = vd at *
  clear p1 p2 s1 s2 m1 m2
  have t1 : toldB vr 0 0 vr = true := by simp [toldB]
  have t2 : toldB vd 0 0 vd = true := by simp [toldB]
  have t3 : toldB vc 0 0 vc = true := by simp [toldB]
  have t4 : toldB m 0 0 m = true := by simp [toldB]
  go_enter Tryd.func3, Tryd.ntmps3
  go_wp2_with fail
  obtain ⟨W0, hW0⟩ : ∃ W0, w.alloc (.cells #[.int .i64 k, .int .i64 p] 24) = W0 := ⟨_, rfl⟩
  have b0 : Blk W0 w.heap.size 24 #[.int .i64 k, .int .i64 p] := by rw [← hW0]; exact Blk.new w _ _
  have hB : Below w.heap.size w W0 := by rw [← hW0]; exact below_one w _
  replace hL := hL.next hB
  try rw [hW0]
  clear hW0
  refine (HQ.out _).mono ?_
  rintro e w1 ⟨rfl, hB1⟩
  (first | replace b0 := b0.below hB1 b0.lt | replace b0 := b0.nextd hB1)
  (first | replace hL := hL.next hB1 | replace hL := hL.next (below_undrew hB1))
  (first | replace hB := below_in hB hB1 | replace hB := below_in hB.drew hB1)
  have c0 := b0.cell 0
  have c1 := b0.cell 1
  simp only [List.getElem?_toArray, List.getElem?_cons_zero, List.getElem?_cons_succ] at c0 c1
  go_wp2
  go_region_held3 (fun W => W.cell? ⟨w.heap.size, 0, none⟩ = some (.int .i64 k) ∧ W.cell? ⟨w.heap.size, 1, none⟩ = some (.int .i64 p))
    (exact ⟨b0.cell 0, b0.cell 1⟩) (first
    | (go_at_call 9; refine (rHRo.out _).mono ?_; rintro e w1 ⟨rfl, hB1⟩; (first | replace b0 := b0.below hB1 b0.lt | replace b0 := b0.nextd hB1); (first | replace hL := hL.next hB1 | replace hL := hL.next (below_undrew hB1)); (first | replace hB := below_in hB hB1 | replace hB := below_in hB.drew hB1))
    | (go_at_call 10; refine (rHDa.out _).mono ?_; rintro e w1 ⟨rfl, hB1⟩; (first | replace b0 := b0.below hB1 b0.lt | replace b0 := b0.nextd hB1); (first | replace hL := hL.next hB1 | replace hL := hL.next (below_undrew hB1)); (first | replace hB := below_in hB hB1 | replace hB := below_in hB.drew hB1))
    | (go_at_call 11; refine (rHCo.out _).mono ?_; rintro e w1 ⟨rfl, hB1⟩; (first | replace b0 := b0.below hB1 b0.lt | replace b0 := b0.nextd hB1); (first | replace hL := hL.next hB1 | replace hL := hL.next (below_undrew hB1)); (first | replace hB := below_in hB hB1 | replace hB := below_in hB.drew hB1))
    | (go_at_call 12; refine (rHLo.out _).mono ?_; rintro e w1 ⟨rfl, hB1⟩; (first | replace b0 := b0.below hB1 b0.lt | replace b0 := b0.nextd hB1); (first | replace hL := hL.next hB1 | replace hL := hL.next (below_undrew hB1)); (first | replace hB := below_in hB hB1 | replace hB := below_in hB.drew hB1)))
  have c0 := b0.cell 0
  have c1 := b0.cell 1
  simp only [List.getElem?_toArray, List.getElem?_cons_zero, List.getElem?_cons_succ] at c0 c1
  go_wp2_with (first
    | (go_at_call 13; refine (HRo.out _ hL).mono ?_; rintro e w1 ⟨rfl, hB1⟩; (first | replace b0 := b0.below hB1 b0.lt | replace b0 := b0.nextd hB1); (first | replace hL := hL.next hB1 | replace hL := hL.next (below_undrew hB1)); (first | replace hB := below_in hB hB1 | replace hB := below_in hB.drew hB1); have c0 := b0.cell 0; have c1 := b0.cell 1; simp only [List.getElem?_toArray, List.getElem?_cons_zero, List.getElem?_cons_succ] at c0 c1)
    | (go_at_call 14; refine (HDa.out _ hL).mono ?_; rintro e w1 ⟨rfl, hB1⟩; (first | replace b0 := b0.below hB1 b0.lt | replace b0 := b0.nextd hB1); (first | replace hL := hL.next hB1 | replace hL := hL.next (below_undrew hB1)); (first | replace hB := below_in hB hB1 | replace hB := below_in hB.drew hB1); have c0 := b0.cell 0; have c1 := b0.cell 1; simp only [List.getElem?_toArray, List.getElem?_cons_zero, List.getElem?_cons_succ] at c0 c1)
    | (go_at_call 15; refine (HCo.out _ hL).mono ?_; rintro e w1 ⟨rfl, hB1⟩; (first | replace b0 := b0.below hB1 b0.lt | replace b0 := b0.nextd hB1); (first | replace hL := hL.next hB1 | replace hL := hL.next (below_undrew hB1)); (first | replace hB := below_in hB hB1 | replace hB := below_in hB.drew hB1); have c0 := b0.cell 0; have c1 := b0.cell 1; simp only [List.getElem?_toArray, List.getElem?_cons_zero, List.getElem?_cons_succ] at c0 c1)
    | (go_at_call 16; refine (HLo.out _ hL).mono ?_; rintro e w1 ⟨rfl, hB1⟩; (first | replace b0 := b0.below hB1 b0.lt | replace b0 := b0.nextd hB1); (first | replace hL := hL.next hB1 | replace hL := hL.next (below_undrew hB1)); (first | replace hB := below_in hB hB1 | replace hB := below_in hB.drew hB1); have c0 := b0.cell 0; have c1 := b0.cell 1; simp only [List.getElem?_toArray, List.getElem?_cons_zero, List.getElem?_cons_succ] at c0 c1)
    | (go_at_call 17; refine (shapeAll_any _ hL).mono ?_; rintro e w1 ⟨v1, rfl, ho1, hB1⟩; obtain ⟨g1, cap1, rfl, ha1⟩ := ho1.all; clear ho1; (first | replace b0 := b0.below hB1 b0.lt | replace b0 := b0.nextd hB1); (first | replace hL := hL.next hB1 | replace hL := hL.next (below_undrew hB1)); (first | replace hB := below_in hB hB1 | replace hB := below_in hB.drew hB1); have c0 := b0.cell 0; have c1 := b0.cell 1; simp only [List.getElem?_toArray, List.getElem?_cons_zero, List.getElem?_cons_succ] at c0 c1)
    | (go_at_call 18; refine (refAll_any _).mono ?_; rintro e w1 ⟨v2, rfl, ho2, hB1⟩; obtain ⟨g2, cap2, rfl, ha2⟩ := ho2.all; clear ho2; replace ha1 := ha1.below hB1; (first | replace b0 := b0.below hB1 b0.lt | replace b0 := b0.nextd hB1); (first | replace hL := hL.next hB1 | replace hL := hL.next (below_undrew hB1)); (first | replace hB := below_in hB hB1 | replace hB := below_in hB.drew hB1); have c0 := b0.cell 0; have c1 := b0.cell 1; simp only [List.getElem?_toArray, List.getElem?_cons_zero, List.getElem?_cons_succ] at c0 c1)
    | (go_at_call 20; refine (HCh.out _ hL).mono ?_; rintro e w1 ⟨rfl, hB1⟩; replace ha1 := ha1.below hB1; replace ha2 := ha2.below hB1; (first | replace b0 := b0.below hB1 b0.lt | replace b0 := b0.nextd hB1); (first | replace hL := hL.next hB1 | replace hL := hL.next (below_undrew hB1)); (first | replace hB := below_in hB hB1 | replace hB := below_in hB.drew hB1); have c0 := b0.cell 0; have c1 := b0.cell 1; simp only [List.getElem?_toArray, List.getElem?_cons_zero, List.getElem?_cons_succ] at c0 c1)
    | (go_at_call 19; refine (num_any _ _).mono ?_; rintro e w' ⟨rfl, rfl⟩))
  go_loopw [18] (fun i wr => ∃ j : Nat, j ≤ 18 ∧ i = .int .i64 j ∧ AllIs wr g1 ∧ AllIs wr g2 ∧ Laid wr ∧ Below w.heap.size w wr) (fun i _ => 18 - (intOf i).toNat)
  case atStart => exact ⟨0, by omega, rfl, ha1, ha2, hL, hB⟩
  case round =>
    clear b0 hB hL c0 c1 ha1 ha2
    obtain ⟨j, hj, rfl, ha1, ha2, hL, hB⟩ := hrel
    by_cases hlt : j < 18
    · have hdec : decide ((j : Int) < 18) = true := by simp; omega
      obtain ⟨x0, x1⟩ := ha1.2 j hlt
      obtain ⟨y0, y1⟩ := ha2.2 j hlt
      generalize (allC[j]?.getD (0, 0)).1 = ck at *
      generalize (allC[j]?.getD (0, 0)).2 = cp at *
      have j1 : (0 : Int) ≤ (j : Int) := by omega
      have j2 : (j : Int) < 18 := by omega
      go_wp2
      go_quiet (fail)
      go_wp2
      go_roundw
      case rel => exact ⟨j + 1, by omega, by go_num, ha1.below (below_drewN (Below.refl _ _) _), ha2.below (below_drewN (Below.refl _ _) _), hL.next (below_drewN (Below.refl _ _) _), below_drewN hB _⟩
      case measure => simp [intOf]; omega
    · obtain rfl : j = 18 := by omega
      have hdec : decide (((18 : Nat) : Int) < 18) = false := by simp
      go_wp2_with (first
        | (go_at_call 21; refine (told_any _ _ _ _ _).mono ?_; rintro e w' ⟨rfl, rfl⟩)
        | (go_at_call 22; refine (works_any _ hL).mono ?_; rintro e w' ⟨rfl, hB1⟩))
      go_ret
      exact ⟨rfl, below_in hB hB1⟩

set_option maxRecDepth 100000 in
set_option maxHeartbeats 4000000 in
theorem walk_no (k p : Int) (w : World) (hL : Laid w) (hR : ¬ RightC k p) :
    Calls Tryd.prog 3 #[.agg #[.int .i64 k, .int .i64 p]] w fun e w' => e = .returned (.bool true) ∧ Below w.heap.size w w' := by
  have HQ := Lib.hid (fun W => (refRight_any k p W).mono fun _ _ h => And.intro (h.2.1 hR) h.2.2)
  have HRo := Lib.hid (fun W hL => (shapeRows_any k p W hL).mono fun _ _ h => tells_no hR h)
  have HDa := Lib.hid (fun W hL => (shapeData_any k p W hL).mono fun _ _ h => tells_no hR h)
  have HCo := Lib.hid (fun W hL => (shapeCols_any k p W hL).mono fun _ _ h => tells_no hR h)
  have HLo := Lib.hid (fun W hL => (shapeLost_any k p W hL).mono fun _ _ h => tells_no hR h)
  have HCh := Lib.hid (fun W hL => (shapeCheck_any k p W hL).mono fun _ _ h => And.intro (h.2.1 hR) h.2.2)
  clear hR
  have t1 : toldB 0 2 2 0 = true := by decide
  go_enter Tryd.func3, Tryd.ntmps3
  go_wp2_with fail
  obtain ⟨W0, hW0⟩ : ∃ W0, w.alloc (.cells #[.int .i64 k, .int .i64 p] 24) = W0 := ⟨_, rfl⟩
  have b0 : Blk W0 w.heap.size 24 #[.int .i64 k, .int .i64 p] := by rw [← hW0]; exact Blk.new w _ _
  have hB : Below w.heap.size w W0 := by rw [← hW0]; exact below_one w _
  replace hL := hL.next hB
  try rw [hW0]
  clear hW0
  refine (HQ.out _).mono ?_
  rintro e w1 ⟨rfl, hB1⟩
  (first | replace b0 := b0.below hB1 b0.lt | replace b0 := b0.nextd hB1)
  (first | replace hL := hL.next hB1 | replace hL := hL.next (below_undrew hB1))
  (first | replace hB := below_in hB hB1 | replace hB := below_in hB.drew hB1)
  have c0 := b0.cell 0
  have c1 := b0.cell 1
  simp only [List.getElem?_toArray, List.getElem?_cons_zero, List.getElem?_cons_succ] at c0 c1
  go_wp2_with (first
    | (go_at_call 13; refine (HRo.out _ hL).mono ?_; rintro e w1 ⟨rfl, hB1⟩; (first | replace b0 := b0.below hB1 b0.lt | replace b0 := b0.nextd hB1); (first | replace hL := hL.next hB1 | replace hL := hL.next (below_undrew hB1)); (first | replace hB := below_in hB hB1 | replace hB := below_in hB.drew hB1); have c0 := b0.cell 0; have c1 := b0.cell 1; simp only [List.getElem?_toArray, List.getElem?_cons_zero, List.getElem?_cons_succ] at c0 c1)
    | (go_at_call 14; refine (HDa.out _ hL).mono ?_; rintro e w1 ⟨rfl, hB1⟩; (first | replace b0 := b0.below hB1 b0.lt | replace b0 := b0.nextd hB1); (first | replace hL := hL.next hB1 | replace hL := hL.next (below_undrew hB1)); (first | replace hB := below_in hB hB1 | replace hB := below_in hB.drew hB1); have c0 := b0.cell 0; have c1 := b0.cell 1; simp only [List.getElem?_toArray, List.getElem?_cons_zero, List.getElem?_cons_succ] at c0 c1)
    | (go_at_call 15; refine (HCo.out _ hL).mono ?_; rintro e w1 ⟨rfl, hB1⟩; (first | replace b0 := b0.below hB1 b0.lt | replace b0 := b0.nextd hB1); (first | replace hL := hL.next hB1 | replace hL := hL.next (below_undrew hB1)); (first | replace hB := below_in hB hB1 | replace hB := below_in hB.drew hB1); have c0 := b0.cell 0; have c1 := b0.cell 1; simp only [List.getElem?_toArray, List.getElem?_cons_zero, List.getElem?_cons_succ] at c0 c1)
    | (go_at_call 16; refine (HLo.out _ hL).mono ?_; rintro e w1 ⟨rfl, hB1⟩; (first | replace b0 := b0.below hB1 b0.lt | replace b0 := b0.nextd hB1); (first | replace hL := hL.next hB1 | replace hL := hL.next (below_undrew hB1)); (first | replace hB := below_in hB hB1 | replace hB := below_in hB.drew hB1); have c0 := b0.cell 0; have c1 := b0.cell 1; simp only [List.getElem?_toArray, List.getElem?_cons_zero, List.getElem?_cons_succ] at c0 c1)
    | (go_at_call 17; refine (shapeAll_any _ hL).mono ?_; rintro e w1 ⟨v1, rfl, ho1, hB1⟩; obtain ⟨g1, cap1, rfl, ha1⟩ := ho1.all; clear ho1; (first | replace b0 := b0.below hB1 b0.lt | replace b0 := b0.nextd hB1); (first | replace hL := hL.next hB1 | replace hL := hL.next (below_undrew hB1)); (first | replace hB := below_in hB hB1 | replace hB := below_in hB.drew hB1); have c0 := b0.cell 0; have c1 := b0.cell 1; simp only [List.getElem?_toArray, List.getElem?_cons_zero, List.getElem?_cons_succ] at c0 c1)
    | (go_at_call 18; refine (refAll_any _).mono ?_; rintro e w1 ⟨v2, rfl, ho2, hB1⟩; obtain ⟨g2, cap2, rfl, ha2⟩ := ho2.all; clear ho2; replace ha1 := ha1.below hB1; (first | replace b0 := b0.below hB1 b0.lt | replace b0 := b0.nextd hB1); (first | replace hL := hL.next hB1 | replace hL := hL.next (below_undrew hB1)); (first | replace hB := below_in hB hB1 | replace hB := below_in hB.drew hB1); have c0 := b0.cell 0; have c1 := b0.cell 1; simp only [List.getElem?_toArray, List.getElem?_cons_zero, List.getElem?_cons_succ] at c0 c1)
    | (go_at_call 20; refine (HCh.out _ hL).mono ?_; rintro e w1 ⟨rfl, hB1⟩; replace ha1 := ha1.below hB1; replace ha2 := ha2.below hB1; (first | replace b0 := b0.below hB1 b0.lt | replace b0 := b0.nextd hB1); (first | replace hL := hL.next hB1 | replace hL := hL.next (below_undrew hB1)); (first | replace hB := below_in hB hB1 | replace hB := below_in hB.drew hB1); have c0 := b0.cell 0; have c1 := b0.cell 1; simp only [List.getElem?_toArray, List.getElem?_cons_zero, List.getElem?_cons_succ] at c0 c1)
    | (go_at_call 19; refine (num_any _ _).mono ?_; rintro e w' ⟨rfl, rfl⟩))
  go_loopw [18] (fun i wr => ∃ j : Nat, j ≤ 18 ∧ i = .int .i64 j ∧ AllIs wr g1 ∧ AllIs wr g2 ∧ Laid wr ∧ Below w.heap.size w wr) (fun i _ => 18 - (intOf i).toNat)
  case atStart => exact ⟨0, by omega, rfl, ha1, ha2, hL, hB⟩
  case round =>
    clear b0 hB hL c0 c1 ha1 ha2
    obtain ⟨j, hj, rfl, ha1, ha2, hL, hB⟩ := hrel
    by_cases hlt : j < 18
    · have hdec : decide ((j : Int) < 18) = true := by simp; omega
      obtain ⟨x0, x1⟩ := ha1.2 j hlt
      obtain ⟨y0, y1⟩ := ha2.2 j hlt
      generalize (allC[j]?.getD (0, 0)).1 = ck at *
      generalize (allC[j]?.getD (0, 0)).2 = cp at *
      have j1 : (0 : Int) ≤ (j : Int) := by omega
      have j2 : (j : Int) < 18 := by omega
      go_wp2
      go_quiet (fail)
      go_wp2
      go_roundw
      case rel => exact ⟨j + 1, by omega, by go_num, ha1.below (below_drewN (Below.refl _ _) _), ha2.below (below_drewN (Below.refl _ _) _), hL.next (below_drewN (Below.refl _ _) _), below_drewN hB _⟩
      case measure => simp [intOf]; omega
    · obtain rfl : j = 18 := by omega
      have hdec : decide (((18 : Nat) : Int) < 18) = false := by simp
      go_wp2_with (first
        | (go_at_call 21; refine (told_any _ _ _ _ _).mono ?_; rintro e w' ⟨rfl, rfl⟩)
        | (go_at_call 22; refine (works_any _ hL).mono ?_; rintro e w' ⟨rfl, hB1⟩))
      go_ret
      exact ⟨rfl, below_in hB hB1⟩

theorem walk (k p : Int) (w : World) (hL : Laid w) (wk : -9223372036854775808 ≤ k ∧ k ≤ 9223372036854775807) (wp : -9223372036854775808 ≤ p ∧ p ≤ 9223372036854775807) :
    Calls Tryd.prog 3 #[.agg #[.int .i64 k, .int .i64 p]] w fun e w' => e = .returned (.bool true) ∧ Below w.heap.size w w' := by
  by_cases hR : RightC k p
  · exact walk_yes k p w hL hR
  · exact walk_no k p w hL hR

set_option maxRecDepth 100000 in
theorem lifted (os : Os) (started : os.Started) (H : Type) (enc : TypeId × Value → H) :
    ReturnsInHanded {} Tryd.checked os 3 .any (fun w args => (Rows.shapeCodesSpec.pre enc Tryd.prog Tryd.f3 [] false w args ∧ laidMetH Tryd.prog laidL w) ∧ sizedMet enc Tryd.prog Tryd.f3 (OpenSpec.ofChange Rows.shapeCodesSpec) false w args)
      (Rows.shapeCodesSpec.post enc Tryd.prog Tryd.f3 false true false false) := by
  refine returnsInHanded_of_change_and (C := Tryd.checked) (X := fun w _ => laidMetH Tryd.prog laidL w) (fun _ _ _ hh h => h.of_heap hh) own started (by kernel_rfl) Tryd.func3
    (ChangeSpec.witness_shaped (enc := enc) (C := Tryd.checked) (os := os) (X := fun w _ => laidMetH Tryd.prog laidL w) false (World.doorLaid Tryd.prog 200 os) #[.agg #[.int .i64 0, .int .i64 0]] 8 rfl (World.shaped_of_RefB (by kernel_rfl) (by kernel_rfl)) (by kernel_rfl) (by kernel_rfl) (by kernel_rfl) (door_met os _)) ?_
  intro W base args ds gs before hval0 hW _ _ hL0 _
  have hL := laid_of hL0
  have hval : ∀ (j : Nat) t v, Tryd.f3.params[j]? = some t → args[j]? = some v → Value.okWide Tryd.prog W .any base t v := hval0
  have hW' := hW
  obtain ⟨p, q, hA0, hV, rfl, hfz, hnd⟩ := hW
  have hA : DataW.TrodAll enc Tryd.prog W 0 (fun _ => true) true Tryd.f3.params.toList args.toList ds p := hA0
  rw [Tryd.params3] at hA hval
  obtain ⟨v0, vs0, d0, ds0, p0, q0, hargs, rfl, rfl, h0, r0⟩ := trodAll_cons hA
  obtain ⟨rfl, rfl, rfl⟩ := trodAll_nil r0
  obtain rfl : args = #[v0] := by cases args; simp_all
  obtain ⟨rfl, rfl⟩ := trodVars_none hV
  have k0 := h0
  have lt0 : ∀ x ∈ p0, x.block < W.heap.size := by obtain ⟨m, hm⟩ := k0; exact DataW.trod_lt m _ _ _ hm
  obtain ⟨x0, y0, rfl, w0⟩ := open_code (hval 0 24 v0 rfl rfl) h0
  clear hA0 hval0
  simp only [List.append_nil] at hW'
  refine (walk x0 y0 W hL (wf_i64 w0.1) (wf_i64 w0.2)).mono fun e W' ⟨he, bel⟩ => ?_
  subst he
  exact ⟨_, rfl, _, _, _, [], _, [], hW', trodAll_mk1 (shut_bool Tryd.underlying4 _), (trodAll_cons_mk (Below.trod laidOut (by kernel_rfl) (of_decide_eq_true (by kernel_rfl)) k0 bel lt0) trodAll_mk0), rfl, bel.frame _, fun h => by cases h⟩

theorem over : Rows.shapeCodesRow.holds Tryd.pinned (OpenSpec.ofChange Rows.shapeCodesSpec) :=
  OpenClaim.holds_of_wide 3 Tryd.f3 rfl rfl rfl rfl rfl rfl rfl ⟨rfl, rfl, rfl, rfl, rfl⟩ rfl rfl rfl rfl rfl (by kernel_rfl) Tryd.func3 (by kernel_rfl)
    (of_decide_eq_true (by kernel_rfl)) (by unfold Func.isWrapper; first | (rw [if_pos (by decide +kernel)]; kernel_rfl) | (rw [if_neg (by decide +kernel)]; exact ⟨rfl, rfl⟩))
    (fun os started H enc _ => lifted os started H enc)

/-- The tied card: the row, and the tie that is given. -/
theorem shapeCodes_holds : Rows.ShapeCodesCardSaid :=
  Claim7.holds_tied_plain_at .later [] [.data, .data] true _ false over (fun _ h => by cases h) (by kernel_rfl) (fun _ h => by cases h) shapeCodes_row_tie rfl ⟨rfl, rfl⟩ (by kernel_rfl) rfl
    (fun f fn hf hfn => by
      obtain rfl : f = 3 := Option.some.inj ((show Tryd.prog.funcNamed "palisade/palisadelaw04.ShapeCodes" = some 3 by kernel_rfl).symm.trans hf) |>.symm
      obtain rfl : fn = Tryd.f3 := (Option.some.inj (Tryd.func3.symm.trans hfn)).symm
      exact ⟨by kernel_rfl, fun j t ht => by
        rw [Tryd.params3] at ht
        have hm : t ∈ [24] := by simpa using Array.mem_of_getElem? ht
        have hall : ([24].all fun u => !Tryd.prog.wantsStandIn u) = true := by kernel_rfl
        exact (show Tryd.prog.wantsStandIn t = false by simpa using List.all_eq_true.1 hall t hm)⟩)
    (by kernel_rfl)
end Go.Proofs.YthhgalhabdkikaaDoor.shapeCodes
