/- Sets: what a code under way is asked of a place. -/
import Derived.Test.YteglikljmkielaaGreatDoorZwA
import Derived.Test.YteglikljmkielaaGreatDoorSwJ
namespace Go.Proofs.YteglikljmkielaaGreatDoor
open Go.RowKit Go.Shelf
set_option linter.unusedSimpArgs false
set_option linter.unusedVariables false

theorem hasCell_dec (k p x y : Int) : HasCell k p x y ∨ ¬ HasCell k p x y := Classical.em _
instance (k p x y : Int) : Decidable (HasCell k p x y) := by unfold HasCell; infer_instance
/-- The two numbers of a cell's lines, 0 where there is no such cell. -/
def dgN2 (k p x y : Int) : Int := if HasCell k p x y then (x + y) % p else 0
def slN2 (k p x y : Int) : Int := if HasCell k p x y then (y - x) % p else 0
theorem diag_calls (k p x y : Int) (hR : RightC k p) (w : World) (hL : Laid w) : Calls Tryz.prog 52 #[.agg #[.int .i64 k, .int .i64 p], .agg #[.int .i64 x, .int .i64 y]] w fun e w' =>
    e = .returned (.tuple #[.int .i64 (dgN2 k p x y), .int .i64 (if HasCell k p x y then 0 else 4)]) ∧ Below w.heap.size w w' :=
  (shapeDiagonal_any k p x y w hL).mono fun e w' h => by
    unfold dgN2
    by_cases hc : HasCell k p x y
    · rw [if_pos hc, if_pos hc]; exact tells3_yes hR hc h
    · rw [if_neg hc, if_neg hc]; exact ⟨h.2.1 hR hc, h.2.2.2⟩
theorem slant_calls (k p x y : Int) (hR : RightC k p) (w : World) (hL : Laid w) : Calls Tryz.prog 84 #[.agg #[.int .i64 k, .int .i64 p], .agg #[.int .i64 x, .int .i64 y]] w fun e w' =>
    e = .returned (.tuple #[.int .i64 (slN2 k p x y), .int .i64 (if HasCell k p x y then 0 else 4)]) ∧ Below w.heap.size w w' :=
  (shapeSlant_any k p x y w hL).mono fun e w' h => by
    unfold slN2
    by_cases hc : HasCell k p x y
    · rw [if_pos hc, if_pos hc]; exact tells3_yes hR hc h
    · rw [if_neg hc, if_neg hc]; exact ⟨h.2.1 hR hc, h.2.2.2⟩

set_option maxHeartbeats 1000000 in
theorem isCell_any (k p d n x y : Int) (hR : RightC k p) (w : World) (hL : Laid w) : Calls Tryz.prog 38 #[(.agg #[.int .i64 k, .int .i64 p, .int .i64 d, .int .i64 n]), .agg #[.int .i64 x, .int .i64 y]] w fun e w' => e = .returned (.bool (decide (HasCell k p x y))) ∧ Below w.heap.size w w' := by
  have HD := Lib.hid (fun W hL => diag_calls k p x y hR W hL)
  generalize dgN2 k p x y = dg at HD
  by_cases hc : HasCell k p x y
  · rw [if_pos hc] at HD
    have HX := Lib.hid (ret_bool (show true = decide (HasCell k p x y) by simp [hc]))
    clear hc hR
    obtain ⟨W0, hW0⟩ : ∃ W0, (w.alloc (.cells #[.int .i64 k, .int .i64 p, .int .i64 d, .int .i64 n] 51)).alloc (.cells #[.int .i64 x, .int .i64 y] 59) = W0 := ⟨_, rfl⟩
    have b0 : Blk W0 w.heap.size 51 #[.int .i64 k, .int .i64 p, .int .i64 d, .int .i64 n] := by rw [← hW0]; exact (Blk.new w _ _).alloc _
    have b1 : Blk W0 (w.heap.size + 1) 59 #[.int .i64 x, .int .i64 y] := by rw [← hW0]; exact Blk.second w _ _ _
    have hB : Below w.heap.size w W0 := by rw [← hW0]; exact below_two w _ _
    have hL0 := hL.next hB
    have c0 := b0.cell 0
    have c1 := b0.cell 1
    have c2 := b0.cell 2
    have c3 := b0.cell 3
    have z0 := b1.cell 0
    have z1 := b1.cell 1
    simp only [List.getElem?_toArray, List.getElem?_cons_zero, List.getElem?_cons_succ] at c0 c1 c2 c3 z0 z1
    go_enter Tryz.func38, Tryz.ntmps38
    go_wp2_with fail
    clear hW0
    go_wp2_with (go_at_call 52; refine (HD.out _ hL0).mono ?_; rintro e w1 ⟨rfl, hB1⟩; replace b0 := b0.below hB1 b0.lt; replace b1 := b1.below hB1 b1.lt; replace hB := below_in hB hB1; replace hL0 := hL0.next hB1; have c0 := b0.cell 0; have c1 := b0.cell 1; have c2 := b0.cell 2; have c3 := b0.cell 3; have z0 := b1.cell 0; have z1 := b1.cell 1; simp only [List.getElem?_toArray, List.getElem?_cons_zero, List.getElem?_cons_succ] at c0 c1 c2 c3 z0 z1)
    go_ret
    exact ⟨HX.out, hB⟩
  · rw [if_neg hc] at HD
    have HX := Lib.hid (ret_bool (show false = decide (HasCell k p x y) by simp [hc]))
    clear hc hR
    obtain ⟨W0, hW0⟩ : ∃ W0, (w.alloc (.cells #[.int .i64 k, .int .i64 p, .int .i64 d, .int .i64 n] 51)).alloc (.cells #[.int .i64 x, .int .i64 y] 59) = W0 := ⟨_, rfl⟩
    have b0 : Blk W0 w.heap.size 51 #[.int .i64 k, .int .i64 p, .int .i64 d, .int .i64 n] := by rw [← hW0]; exact (Blk.new w _ _).alloc _
    have b1 : Blk W0 (w.heap.size + 1) 59 #[.int .i64 x, .int .i64 y] := by rw [← hW0]; exact Blk.second w _ _ _
    have hB : Below w.heap.size w W0 := by rw [← hW0]; exact below_two w _ _
    have hL0 := hL.next hB
    have c0 := b0.cell 0
    have c1 := b0.cell 1
    have c2 := b0.cell 2
    have c3 := b0.cell 3
    have z0 := b1.cell 0
    have z1 := b1.cell 1
    simp only [List.getElem?_toArray, List.getElem?_cons_zero, List.getElem?_cons_succ] at c0 c1 c2 c3 z0 z1
    go_enter Tryz.func38, Tryz.ntmps38
    go_wp2_with fail
    clear hW0
    go_wp2_with (go_at_call 52; refine (HD.out _ hL0).mono ?_; rintro e w1 ⟨rfl, hB1⟩; replace b0 := b0.below hB1 b0.lt; replace b1 := b1.below hB1 b1.lt; replace hB := below_in hB hB1; replace hL0 := hL0.next hB1; have c0 := b0.cell 0; have c1 := b0.cell 1; have c2 := b0.cell 2; have c3 := b0.cell 3; have z0 := b1.cell 0; have z1 := b1.cell 1; simp only [List.getElem?_toArray, List.getElem?_cons_zero, List.getElem?_cons_succ] at c0 c1 c2 c3 z0 z1)
    go_ret
    exact ⟨HX.out, hB⟩

set_option maxHeartbeats 1000000 in
theorem isMade_any (k p d n x y : Int) (hR : RightC k p) (w : World) (hL : Laid w) : Calls Tryz.prog 25 #[(.agg #[.int .i64 k, .int .i64 p, .int .i64 d, .int .i64 n]), .agg #[.int .i64 x, .int .i64 y]] w fun e w' => e = .returned (.bool (decide (HasCell k p x y ∧ d ≤ x))) ∧ Below w.heap.size w w' := by
  have HC := Lib.hid (fun W hL => isCell_any k p d n x y hR W hL)
  have HH := Lib.hid (holdsData_any k p d n x)
  by_cases hc : HasCell k p x y
  · rw [decide_eq_true hc] at HC
    by_cases hd : x < d
    · rw [decide_eq_true hd] at HH
      have HX := Lib.hid (ret_bool (show false = decide (HasCell k p x y ∧ d ≤ x) by simp [hc, hd] <;> omega))
      clear hc hd hR
      obtain ⟨W0, hW0⟩ : ∃ W0, (w.alloc (.cells #[.int .i64 k, .int .i64 p, .int .i64 d, .int .i64 n] 51)).alloc (.cells #[.int .i64 x, .int .i64 y] 59) = W0 := ⟨_, rfl⟩
      have b0 : Blk W0 w.heap.size 51 #[.int .i64 k, .int .i64 p, .int .i64 d, .int .i64 n] := by rw [← hW0]; exact (Blk.new w _ _).alloc _
      have b1 : Blk W0 (w.heap.size + 1) 59 #[.int .i64 x, .int .i64 y] := by rw [← hW0]; exact Blk.second w _ _ _
      have hB : Below w.heap.size w W0 := by rw [← hW0]; exact below_two w _ _
      have hL0 := hL.next hB
      have c0 := b0.cell 0
      have c1 := b0.cell 1
      have c2 := b0.cell 2
      have c3 := b0.cell 3
      have z0 := b1.cell 0
      have z1 := b1.cell 1
      simp only [List.getElem?_toArray, List.getElem?_cons_zero, List.getElem?_cons_succ] at c0 c1 c2 c3 z0 z1
      go_enter Tryz.func25, Tryz.ntmps25
      go_wp2_with fail
      clear hW0
      go_wp2_with (first
        | (go_at_call 38; refine (HC.out _ hL0).mono ?_; rintro e w1 ⟨rfl, hB1⟩; replace b0 := b0.below hB1 b0.lt; replace b1 := b1.below hB1 b1.lt; replace hB := below_in hB hB1; replace hL0 := hL0.next hB1; have c0 := b0.cell 0; have c1 := b0.cell 1; have c2 := b0.cell 2; have c3 := b0.cell 3; have z0 := b1.cell 0; have z1 := b1.cell 1; simp only [List.getElem?_toArray, List.getElem?_cons_zero, List.getElem?_cons_succ] at c0 c1 c2 c3 z0 z1)
        | (go_at_call 39; refine (HH.out _).mono ?_; rintro e w1 ⟨rfl, hB1⟩; replace b0 := b0.below hB1 b0.lt; replace b1 := b1.below hB1 b1.lt; replace hB := below_in hB hB1; replace hL0 := hL0.next hB1; have c0 := b0.cell 0; have c1 := b0.cell 1; have c2 := b0.cell 2; have c3 := b0.cell 3; have z0 := b1.cell 0; have z1 := b1.cell 1; simp only [List.getElem?_toArray, List.getElem?_cons_zero, List.getElem?_cons_succ] at c0 c1 c2 c3 z0 z1))
      go_ret
      exact ⟨HX.out, hB⟩
    · rw [decide_eq_false hd] at HH
      have HX := Lib.hid (ret_bool (show true = decide (HasCell k p x y ∧ d ≤ x) by simp [hc, hd] <;> omega))
      clear hc hd hR
      obtain ⟨W0, hW0⟩ : ∃ W0, (w.alloc (.cells #[.int .i64 k, .int .i64 p, .int .i64 d, .int .i64 n] 51)).alloc (.cells #[.int .i64 x, .int .i64 y] 59) = W0 := ⟨_, rfl⟩
      have b0 : Blk W0 w.heap.size 51 #[.int .i64 k, .int .i64 p, .int .i64 d, .int .i64 n] := by rw [← hW0]; exact (Blk.new w _ _).alloc _
      have b1 : Blk W0 (w.heap.size + 1) 59 #[.int .i64 x, .int .i64 y] := by rw [← hW0]; exact Blk.second w _ _ _
      have hB : Below w.heap.size w W0 := by rw [← hW0]; exact below_two w _ _
      have hL0 := hL.next hB
      have c0 := b0.cell 0
      have c1 := b0.cell 1
      have c2 := b0.cell 2
      have c3 := b0.cell 3
      have z0 := b1.cell 0
      have z1 := b1.cell 1
      simp only [List.getElem?_toArray, List.getElem?_cons_zero, List.getElem?_cons_succ] at c0 c1 c2 c3 z0 z1
      go_enter Tryz.func25, Tryz.ntmps25
      go_wp2_with fail
      clear hW0
      go_wp2_with (first
        | (go_at_call 38; refine (HC.out _ hL0).mono ?_; rintro e w1 ⟨rfl, hB1⟩; replace b0 := b0.below hB1 b0.lt; replace b1 := b1.below hB1 b1.lt; replace hB := below_in hB hB1; replace hL0 := hL0.next hB1; have c0 := b0.cell 0; have c1 := b0.cell 1; have c2 := b0.cell 2; have c3 := b0.cell 3; have z0 := b1.cell 0; have z1 := b1.cell 1; simp only [List.getElem?_toArray, List.getElem?_cons_zero, List.getElem?_cons_succ] at c0 c1 c2 c3 z0 z1)
        | (go_at_call 39; refine (HH.out _).mono ?_; rintro e w1 ⟨rfl, hB1⟩; replace b0 := b0.below hB1 b0.lt; replace b1 := b1.below hB1 b1.lt; replace hB := below_in hB hB1; replace hL0 := hL0.next hB1; have c0 := b0.cell 0; have c1 := b0.cell 1; have c2 := b0.cell 2; have c3 := b0.cell 3; have z0 := b1.cell 0; have z1 := b1.cell 1; simp only [List.getElem?_toArray, List.getElem?_cons_zero, List.getElem?_cons_succ] at c0 c1 c2 c3 z0 z1))
      go_ret
      exact ⟨HX.out, hB⟩
  · rw [decide_eq_false hc] at HC
    have HX := Lib.hid (ret_bool (show false = decide (HasCell k p x y ∧ d ≤ x) by simp [hc] <;> omega))
    clear hc hR
    obtain ⟨W0, hW0⟩ : ∃ W0, (w.alloc (.cells #[.int .i64 k, .int .i64 p, .int .i64 d, .int .i64 n] 51)).alloc (.cells #[.int .i64 x, .int .i64 y] 59) = W0 := ⟨_, rfl⟩
    have b0 : Blk W0 w.heap.size 51 #[.int .i64 k, .int .i64 p, .int .i64 d, .int .i64 n] := by rw [← hW0]; exact (Blk.new w _ _).alloc _
    have b1 : Blk W0 (w.heap.size + 1) 59 #[.int .i64 x, .int .i64 y] := by rw [← hW0]; exact Blk.second w _ _ _
    have hB : Below w.heap.size w W0 := by rw [← hW0]; exact below_two w _ _
    have hL0 := hL.next hB
    have c0 := b0.cell 0
    have c1 := b0.cell 1
    have c2 := b0.cell 2
    have c3 := b0.cell 3
    have z0 := b1.cell 0
    have z1 := b1.cell 1
    simp only [List.getElem?_toArray, List.getElem?_cons_zero, List.getElem?_cons_succ] at c0 c1 c2 c3 z0 z1
    go_enter Tryz.func25, Tryz.ntmps25
    go_wp2_with fail
    clear hW0
    go_wp2_with (first
      | (go_at_call 38; refine (HC.out _ hL0).mono ?_; rintro e w1 ⟨rfl, hB1⟩; replace b0 := b0.below hB1 b0.lt; replace b1 := b1.below hB1 b1.lt; replace hB := below_in hB hB1; replace hL0 := hL0.next hB1; have c0 := b0.cell 0; have c1 := b0.cell 1; have c2 := b0.cell 2; have c3 := b0.cell 3; have z0 := b1.cell 0; have z1 := b1.cell 1; simp only [List.getElem?_toArray, List.getElem?_cons_zero, List.getElem?_cons_succ] at c0 c1 c2 c3 z0 z1)
      | (go_at_call 39; refine (HH.out _).mono ?_; rintro e w1 ⟨rfl, hB1⟩; replace b0 := b0.below hB1 b0.lt; replace b1 := b1.below hB1 b1.lt; replace hB := below_in hB hB1; replace hL0 := hL0.next hB1; have c0 := b0.cell 0; have c1 := b0.cell 1; have c2 := b0.cell 2; have c3 := b0.cell 3; have z0 := b1.cell 0; have z1 := b1.cell 1; simp only [List.getElem?_toArray, List.getElem?_cons_zero, List.getElem?_cons_succ] at c0 c1 c2 c3 z0 z1))
    go_ret
    exact ⟨HX.out, hB⟩

set_option maxHeartbeats 1000000 in
theorem isData_any (k p d n x y : Int) (hR : RightC k p) (w : World) (hL : Laid w) : Calls Tryz.prog 30 #[(.agg #[.int .i64 k, .int .i64 p, .int .i64 d, .int .i64 n]), .agg #[.int .i64 x, .int .i64 y]] w fun e w' => e = .returned (.bool (decide (HasCell k p x y ∧ x < d))) ∧ Below w.heap.size w w' := by
  have HC := Lib.hid (fun W hL => isCell_any k p d n x y hR W hL)
  have HH := Lib.hid (holdsData_any k p d n x)
  by_cases hc : HasCell k p x y
  · rw [decide_eq_true hc] at HC
    by_cases hd : x < d
    · rw [decide_eq_true hd] at HH
      have HX := Lib.hid (ret_bool (show true = decide (HasCell k p x y ∧ x < d) by simp [hc, hd] <;> omega))
      clear hc hd hR
      obtain ⟨W0, hW0⟩ : ∃ W0, (w.alloc (.cells #[.int .i64 k, .int .i64 p, .int .i64 d, .int .i64 n] 51)).alloc (.cells #[.int .i64 x, .int .i64 y] 59) = W0 := ⟨_, rfl⟩
      have b0 : Blk W0 w.heap.size 51 #[.int .i64 k, .int .i64 p, .int .i64 d, .int .i64 n] := by rw [← hW0]; exact (Blk.new w _ _).alloc _
      have b1 : Blk W0 (w.heap.size + 1) 59 #[.int .i64 x, .int .i64 y] := by rw [← hW0]; exact Blk.second w _ _ _
      have hB : Below w.heap.size w W0 := by rw [← hW0]; exact below_two w _ _
      have hL0 := hL.next hB
      have c0 := b0.cell 0
      have c1 := b0.cell 1
      have c2 := b0.cell 2
      have c3 := b0.cell 3
      have z0 := b1.cell 0
      have z1 := b1.cell 1
      simp only [List.getElem?_toArray, List.getElem?_cons_zero, List.getElem?_cons_succ] at c0 c1 c2 c3 z0 z1
      go_enter Tryz.func30, Tryz.ntmps30
      go_wp2_with fail
      clear hW0
      go_wp2_with (first
        | (go_at_call 38; refine (HC.out _ hL0).mono ?_; rintro e w1 ⟨rfl, hB1⟩; replace b0 := b0.below hB1 b0.lt; replace b1 := b1.below hB1 b1.lt; replace hB := below_in hB hB1; replace hL0 := hL0.next hB1; have c0 := b0.cell 0; have c1 := b0.cell 1; have c2 := b0.cell 2; have c3 := b0.cell 3; have z0 := b1.cell 0; have z1 := b1.cell 1; simp only [List.getElem?_toArray, List.getElem?_cons_zero, List.getElem?_cons_succ] at c0 c1 c2 c3 z0 z1)
        | (go_at_call 39; refine (HH.out _).mono ?_; rintro e w1 ⟨rfl, hB1⟩; replace b0 := b0.below hB1 b0.lt; replace b1 := b1.below hB1 b1.lt; replace hB := below_in hB hB1; replace hL0 := hL0.next hB1; have c0 := b0.cell 0; have c1 := b0.cell 1; have c2 := b0.cell 2; have c3 := b0.cell 3; have z0 := b1.cell 0; have z1 := b1.cell 1; simp only [List.getElem?_toArray, List.getElem?_cons_zero, List.getElem?_cons_succ] at c0 c1 c2 c3 z0 z1))
      go_ret
      exact ⟨HX.out, hB⟩
    · rw [decide_eq_false hd] at HH
      have HX := Lib.hid (ret_bool (show false = decide (HasCell k p x y ∧ x < d) by simp [hc, hd] <;> omega))
      clear hc hd hR
      obtain ⟨W0, hW0⟩ : ∃ W0, (w.alloc (.cells #[.int .i64 k, .int .i64 p, .int .i64 d, .int .i64 n] 51)).alloc (.cells #[.int .i64 x, .int .i64 y] 59) = W0 := ⟨_, rfl⟩
      have b0 : Blk W0 w.heap.size 51 #[.int .i64 k, .int .i64 p, .int .i64 d, .int .i64 n] := by rw [← hW0]; exact (Blk.new w _ _).alloc _
      have b1 : Blk W0 (w.heap.size + 1) 59 #[.int .i64 x, .int .i64 y] := by rw [← hW0]; exact Blk.second w _ _ _
      have hB : Below w.heap.size w W0 := by rw [← hW0]; exact below_two w _ _
      have hL0 := hL.next hB
      have c0 := b0.cell 0
      have c1 := b0.cell 1
      have c2 := b0.cell 2
      have c3 := b0.cell 3
      have z0 := b1.cell 0
      have z1 := b1.cell 1
      simp only [List.getElem?_toArray, List.getElem?_cons_zero, List.getElem?_cons_succ] at c0 c1 c2 c3 z0 z1
      go_enter Tryz.func30, Tryz.ntmps30
      go_wp2_with fail
      clear hW0
      go_wp2_with (first
        | (go_at_call 38; refine (HC.out _ hL0).mono ?_; rintro e w1 ⟨rfl, hB1⟩; replace b0 := b0.below hB1 b0.lt; replace b1 := b1.below hB1 b1.lt; replace hB := below_in hB hB1; replace hL0 := hL0.next hB1; have c0 := b0.cell 0; have c1 := b0.cell 1; have c2 := b0.cell 2; have c3 := b0.cell 3; have z0 := b1.cell 0; have z1 := b1.cell 1; simp only [List.getElem?_toArray, List.getElem?_cons_zero, List.getElem?_cons_succ] at c0 c1 c2 c3 z0 z1)
        | (go_at_call 39; refine (HH.out _).mono ?_; rintro e w1 ⟨rfl, hB1⟩; replace b0 := b0.below hB1 b0.lt; replace b1 := b1.below hB1 b1.lt; replace hB := below_in hB hB1; replace hL0 := hL0.next hB1; have c0 := b0.cell 0; have c1 := b0.cell 1; have c2 := b0.cell 2; have c3 := b0.cell 3; have z0 := b1.cell 0; have z1 := b1.cell 1; simp only [List.getElem?_toArray, List.getElem?_cons_zero, List.getElem?_cons_succ] at c0 c1 c2 c3 z0 z1))
      go_ret
      exact ⟨HX.out, hB⟩
  · rw [decide_eq_false hc] at HC
    have HX := Lib.hid (ret_bool (show false = decide (HasCell k p x y ∧ x < d) by simp [hc] <;> omega))
    clear hc hR
    obtain ⟨W0, hW0⟩ : ∃ W0, (w.alloc (.cells #[.int .i64 k, .int .i64 p, .int .i64 d, .int .i64 n] 51)).alloc (.cells #[.int .i64 x, .int .i64 y] 59) = W0 := ⟨_, rfl⟩
    have b0 : Blk W0 w.heap.size 51 #[.int .i64 k, .int .i64 p, .int .i64 d, .int .i64 n] := by rw [← hW0]; exact (Blk.new w _ _).alloc _
    have b1 : Blk W0 (w.heap.size + 1) 59 #[.int .i64 x, .int .i64 y] := by rw [← hW0]; exact Blk.second w _ _ _
    have hB : Below w.heap.size w W0 := by rw [← hW0]; exact below_two w _ _
    have hL0 := hL.next hB
    have c0 := b0.cell 0
    have c1 := b0.cell 1
    have c2 := b0.cell 2
    have c3 := b0.cell 3
    have z0 := b1.cell 0
    have z1 := b1.cell 1
    simp only [List.getElem?_toArray, List.getElem?_cons_zero, List.getElem?_cons_succ] at c0 c1 c2 c3 z0 z1
    go_enter Tryz.func30, Tryz.ntmps30
    go_wp2_with fail
    clear hW0
    go_wp2_with (first
      | (go_at_call 38; refine (HC.out _ hL0).mono ?_; rintro e w1 ⟨rfl, hB1⟩; replace b0 := b0.below hB1 b0.lt; replace b1 := b1.below hB1 b1.lt; replace hB := below_in hB hB1; replace hL0 := hL0.next hB1; have c0 := b0.cell 0; have c1 := b0.cell 1; have c2 := b0.cell 2; have c3 := b0.cell 3; have z0 := b1.cell 0; have z1 := b1.cell 1; simp only [List.getElem?_toArray, List.getElem?_cons_zero, List.getElem?_cons_succ] at c0 c1 c2 c3 z0 z1)
      | (go_at_call 39; refine (HH.out _).mono ?_; rintro e w1 ⟨rfl, hB1⟩; replace b0 := b0.below hB1 b0.lt; replace b1 := b1.below hB1 b1.lt; replace hB := below_in hB hB1; replace hL0 := hL0.next hB1; have c0 := b0.cell 0; have c1 := b0.cell 1; have c2 := b0.cell 2; have c3 := b0.cell 3; have z0 := b1.cell 0; have z1 := b1.cell 1; simp only [List.getElem?_toArray, List.getElem?_cons_zero, List.getElem?_cons_succ] at c0 c1 c2 c3 z0 z1))
    go_ret
    exact ⟨HX.out, hB⟩

end Go.Proofs.YteglikljmkielaaGreatDoor
