/- Sets: what a code under way holds; which of two places is ahead; the columns between two. -/
import Derived.Test.YteglikljmkielaaGreatDoorSwA
namespace Go.Proofs.YteglikljmkielaaGreatDoor
open Go.RowKit Go.Shelf
set_option linter.unusedSimpArgs false
set_option linter.unusedVariables false

set_option maxHeartbeats 400000 in
theorem holdsData_any (k p d n x : Int) (w : World) : Calls Tryz.prog 39 #[(.agg #[.int .i64 k, .int .i64 p, .int .i64 d, .int .i64 n]), .int .i64 x] w fun e w' => e = .returned (.bool (decide (x < d))) ∧ Below w.heap.size w w' := by
  go_enter Tryz.func39, Tryz.ntmps39
  go_wp2
  go_ret
  exact ⟨rfl, below_one _ _⟩

set_option maxHeartbeats 400000 in
theorem holdsRows_any (k p d n x : Int) (w : World) : Calls Tryz.prog 82 #[(.agg #[.int .i64 k, .int .i64 p, .int .i64 d, .int .i64 n]), .int .i64 x] w fun e w' => e = .returned (.bool ((x == d))) ∧ Below w.heap.size w w' := by
  go_enter Tryz.func82, Tryz.ntmps82
  go_wp2
  go_ret
  exact ⟨rfl, below_one _ _⟩

set_option maxHeartbeats 400000 in
theorem isOn_any (k p d n line row : Int) (p1 : 3 ≤ p) (p2 : p ≤ 17) (w : World) : Calls Tryz.prog 83 #[(.agg #[.int .i64 k, .int .i64 p, .int .i64 d, .int .i64 n]), .int .i64 line, .int .i64 row] w fun e w' => e = .returned (.bool (decide (line = row ∨ line = p - 1))) ∧ Below w.heap.size w w' := by
  by_cases h : line = row
  · have d1 : (line == row) = true := by simpa using h
    have HR := Lib.hid (ret_bool (show true = decide (line = row ∨ line = p - 1) by simp [h]))
    clear h
    go_enter Tryz.func83, Tryz.ntmps83
    go_wp2
    go_ret
    exact ⟨HR.out, below_one _ _⟩
  · have d1 : (line == row) = false := by simpa using h
    have HR := Lib.hid (ret_bool (show (line == p - 1) = decide (line = row ∨ line = p - 1) by rw [Bool.eq_iff_iff]; simp [h]))
    clear h
    go_enter Tryz.func83, Tryz.ntmps83
    go_wp2
    go_ret
    exact ⟨HR.out, below_one _ _⟩

set_option maxHeartbeats 400000 in
theorem inRow_any (k p d n row x y : Int) (w : World) : Calls Tryz.prog 71 #[(.agg #[.int .i64 k, .int .i64 p, .int .i64 d, .int .i64 n]), .int .i64 row, .agg #[.int .i64 x, .int .i64 y]] w fun e w' => e = .returned (.bool (decide (x < d ∧ y = row))) ∧ Below w.heap.size w w' := by
  have H := Lib.hid (holdsData_any k p d n x)
  by_cases h : x < d
  · rw [decide_eq_true h] at H
    have HR := Lib.hid (ret_bool (show (y == row) = decide (x < d ∧ y = row) by rw [Bool.eq_iff_iff]; simp [h]))
    clear h
    obtain ⟨W0, hW0⟩ : ∃ W0, (w.alloc (.cells #[.int .i64 k, .int .i64 p, .int .i64 d, .int .i64 n] 51)).alloc (.cells #[.int .i64 x, .int .i64 y] 59) = W0 := ⟨_, rfl⟩
    have b0 : Blk W0 w.heap.size 51 #[.int .i64 k, .int .i64 p, .int .i64 d, .int .i64 n] := by rw [← hW0]; exact (Blk.new w _ _).alloc _
    have b1 : Blk W0 (w.heap.size + 1) 59 #[.int .i64 x, .int .i64 y] := by rw [← hW0]; exact Blk.second w _ _ _
    have hB : Below w.heap.size w W0 := by rw [← hW0]; exact below_two w _ _
    have c0 := b0.cell 0
    have c1 := b0.cell 1
    have c2 := b0.cell 2
    have c3 := b0.cell 3
    have z0 := b1.cell 0
    have z1 := b1.cell 1
    simp only [List.getElem?_toArray, List.getElem?_cons_zero, List.getElem?_cons_succ] at c0 c1 c2 c3 z0 z1
    go_enter Tryz.func71, Tryz.ntmps71
    go_wp2_with fail
    clear hW0
    go_wp2_with (go_at_call 39; refine (H.out _).mono ?_; rintro e w1 ⟨rfl, hB1⟩; have z0 := (b1.below hB1 b1.lt).cell 0; have z1 := (b1.below hB1 b1.lt).cell 1; simp only [List.getElem?_toArray, List.getElem?_cons_zero, List.getElem?_cons_succ] at z0 z1)
    go_ret
    exact ⟨HR.out, below_in hB hB1⟩
  · rw [decide_eq_false h] at H
    have HR := Lib.hid (ret_bool (show false = decide (x < d ∧ y = row) by simp [h]))
    clear h
    obtain ⟨W0, hW0⟩ : ∃ W0, (w.alloc (.cells #[.int .i64 k, .int .i64 p, .int .i64 d, .int .i64 n] 51)).alloc (.cells #[.int .i64 x, .int .i64 y] 59) = W0 := ⟨_, rfl⟩
    have b0 : Blk W0 w.heap.size 51 #[.int .i64 k, .int .i64 p, .int .i64 d, .int .i64 n] := by rw [← hW0]; exact (Blk.new w _ _).alloc _
    have b1 : Blk W0 (w.heap.size + 1) 59 #[.int .i64 x, .int .i64 y] := by rw [← hW0]; exact Blk.second w _ _ _
    have hB : Below w.heap.size w W0 := by rw [← hW0]; exact below_two w _ _
    have c0 := b0.cell 0
    have c1 := b0.cell 1
    have c2 := b0.cell 2
    have c3 := b0.cell 3
    have z0 := b1.cell 0
    have z1 := b1.cell 1
    simp only [List.getElem?_toArray, List.getElem?_cons_zero, List.getElem?_cons_succ] at c0 c1 c2 c3 z0 z1
    go_enter Tryz.func71, Tryz.ntmps71
    go_wp2_with fail
    clear hW0
    go_wp2_with (go_at_call 39; refine (H.out _).mono ?_; rintro e w1 ⟨rfl, hB1⟩; have z0 := (b1.below hB1 b1.lt).cell 0; have z1 := (b1.below hB1 b1.lt).cell 1; simp only [List.getElem?_toArray, List.getElem?_cons_zero, List.getElem?_cons_succ] at z0 z1)
    go_ret
    exact ⟨HR.out, below_in hB hB1⟩

/-- Which of two places is ahead. -/
def aheadB (a b : Int × Int) : Bool := decide (a.1 < b.1 ∨ (a.1 = b.1 ∧ a.2 < b.2))
set_option maxHeartbeats 400000 in
theorem before_any (a1 a2 b1 b2 : Int) (w : World) : Calls Tryz.prog 36 #[.agg #[.int .i64 a1, .int .i64 a2], .agg #[.int .i64 b1, .int .i64 b2]] w fun e w' => e = .returned (.bool (aheadB (a1, a2) (b1, b2))) ∧
    w' = (w.alloc (.cells #[.int .i64 a1, .int .i64 a2] 59)).alloc (.cells #[.int .i64 b1, .int .i64 b2] 59) := by
  by_cases h : a1 < b1
  · have d1 : decide (a1 < b1) = true := by simpa using h
    have HR := Lib.hid (ret_bool (show true = aheadB (a1, a2) (b1, b2) by unfold aheadB; simp [h]))
    clear h
    go_enter Tryz.func36, Tryz.ntmps36
    go_wp2
    go_ret
    exact ⟨HR.out, rfl⟩
  · have d1 : decide (a1 < b1) = false := by simpa using h
    by_cases h2 : a1 = b1
    · have d2 : (a1 == b1) = true := by simpa using h2
      have HR := Lib.hid (ret_bool (show decide (a2 < b2) = aheadB (a1, a2) (b1, b2) by unfold aheadB; simp [h2]))
      clear h h2
      go_enter Tryz.func36, Tryz.ntmps36
      go_wp2
      go_ret
      exact ⟨HR.out, rfl⟩
    · have d2 : (a1 == b1) = false := by simpa using h2
      have HR := Lib.hid (ret_bool (show false = aheadB (a1, a2) (b1, b2) by unfold aheadB; simp [h, h2]))
      clear h h2
      go_enter Tryz.func36, Tryz.ntmps36
      go_wp2
      go_ret
      exact ⟨HR.out, rfl⟩

/-- The numbers from one on that are below another one. -/
def spanL (a b : Int) : List Int := (List.range (b - a).toNat).map fun (i : Nat) => a + (i : Int)
theorem spanL_nil {a b : Int} (h : b ≤ a) : spanL a b = [] := by unfold spanL; rw [show (b - a).toNat = 0 by omega]; rfl
theorem spanL_more (a : Int) (i : Nat) : spanL a (a + ((i + 1 : Nat) : Int)) = spanL a (a + (i : Int)) ++ [a + (i : Int)] := by
  unfold spanL
  rw [show (a + ((i + 1 : Nat) : Int) - a).toNat = i + 1 by omega, show (a + (i : Int) - a).toNat = i by omega, List.range_succ, List.map_append]; rfl
theorem spanL_len (a b : Int) : (spanL a b).length = (b - a).toNat := by unfold spanL; simp

set_option maxHeartbeats 1000000 in
theorem span_any (a b : Int) (a1 : 0 ≤ a) (hab : a ≤ b) (b2 : b ≤ 1000) (w : World) : Calls Tryz.prog 57 #[.int .i64 a, .int .i64 b] w fun e w' => ∃ v, e = .returned v ∧ OwnI w' w.heap.size v (spanL a b) ∧ Below w.heap.size w w' := by
  go_enter Tryz.func57, Tryz.ntmps57
  go_wp2
  go_loopw [5, 6] (fun v i wr => ∃ j : Nat, a + (j : Int) ≤ b ∧ i = .int .i64 (a + (j : Int)) ∧ OwnI wr w.heap.size v (spanL a (a + (j : Int))) ∧ Below w.heap.size w wr) (fun _ i _ => b.toNat - (intOf i).toNat)
  case atStart => exact ⟨0, by omega, by simp, by rw [spanL_nil (by omega)]; exact ownI_nil _ _, Below.refl _ _⟩
  case round =>
    obtain ⟨j, hj, rfl, hown, hB⟩ := hrel
    by_cases hlt : a + (j : Int) < b
    · have hdec : decide (a + (j : Int) < b) = true := by simpa using hlt
      have HO := Lib.hid (hown.grown_ (World.grownBy_alloc wr (.cells #[.int .i64 (a + (j : Int))] 3) none))
      have HU := Lib.hid ((Blk.new wr 3 #[.int .i64 (a + (j : Int))]).one)
      have hll : (spanL a (a + (j : Int))).length ≤ 1000 := by rw [spanL_len]; omega
      go_wp2_with (at_builtin; refine wpList_one _ rfl _ _ 67 3 (.int .i64 0) 8 rfl Tryz.underlying67 Tryz.infoInt rfl w.heap.size _ _ rfl _ HO.out ⟨wr.heap.size, 0, none⟩ 1 _ rfl HU.out rfl (by omega) (by omega) (by have := hB.size; simp; omega) ?_; intro v2 w2 hown2 hgrow2 _)
      go_roundw
      case rel =>
        refine ⟨j + 1, by omega, by go_num, ?_, below_grown (hB.alloc hB.size _) hgrow2 (by have := hB.size; simp; omega) (fun g e => (World.ownsRow.lt HO.out g e).1)⟩
        unfold OwnI
        rw [spanL_more, List.map_append, List.length_append]
        exact hown2
      case measure => simp [intOf]; omega
    · obtain rfl : b = a + (j : Int) := by omega
      have hdec : decide (a + (j : Int) < a + (j : Int)) = false := by simp
      go_wp2
      go_ret
      exact ⟨_, rfl, hown, hB⟩
end Go.Proofs.YteglikljmkielaaGreatDoor
