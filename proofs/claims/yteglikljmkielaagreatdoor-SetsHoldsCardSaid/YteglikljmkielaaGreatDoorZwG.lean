/- Sets: who is a member of a cell in a row: on its row, its diagonal, its slant. -/
import Derived.Test.YteglikljmkielaaGreatDoorZwB
namespace Go.Proofs.YteglikljmkielaaGreatDoor
open Go.RowKit Go.Shelf
set_option linter.unusedSimpArgs false
set_option linter.unusedVariables false

/-- Is the cell x y a member of one of rows, of diagonals, of slants in a row? -/
def inRw (d row x y : Int) : Bool := decide (x < d ∧ y = row)
def onDg (k p d row x y : Int) : Bool := if k = 2 then decide ((x < d ∨ x = d) ∧ dgN2 k p x y = row) else decide (x < d ∧ (dgN2 k p x y = row ∨ dgN2 k p x y = p - 1))
def onSl (k p d row x y : Int) : Bool := decide (x < d ∧ (slN2 k p x y = row ∨ slN2 k p x y = p - 1))

set_option maxHeartbeats 2000000 in
theorem onDiagonal_any (k p d n row x y : Int) (hR : RightC k p) (w : World) (hL : Laid w) : Calls Tryz.prog 72 #[(.agg #[.int .i64 k, .int .i64 p, .int .i64 d, .int .i64 n]), .int .i64 row, .agg #[.int .i64 x, .int .i64 y]] w fun e w' => e = .returned (.bool (onDg k p d row x y)) ∧ Below w.heap.size w w' := by
  obtain ⟨p1, p2, _, _, _, _⟩ := hR.und
  have HD := Lib.hid (fun W hL => diag_calls k p x y hR W hL)
  unfold onDg
  generalize (if HasCell k p x y then (0 : Int) else 4) = er at HD
  generalize dgN2 k p x y = dg at HD ⊢
  obtain ⟨bo, hbo⟩ : ∃ b, decide (dg = row ∨ dg = p - 1) = b := ⟨_, rfl⟩
  have HI := Lib.hid (isOn_any k p d n dg row p1 p2)
  rw [hbo] at HI
  have HH := Lib.hid (holdsData_any k p d n x)
  have HRo := Lib.hid (holdsRows_any k p d n x)
  by_cases hk : k = 2
  · rw [if_pos hk]
    have hk2 : (k == 2) = true := by simpa using hk
    clear hk
    by_cases hd : x < d
    · rw [decide_eq_true hd] at HH
      have HX := Lib.hid (ret_bool (show (dg == row) = decide ((x < d ∨ x = d) ∧ dg = row) by rw [Bool.eq_iff_iff]; simp [hd]))
      clear hd hR
      obtain ⟨W0, hW0⟩ : ∃ W0, (w.alloc (.cells #[.int .i64 k, .int .i64 p, .int .i64 d, .int .i64 n] 51)).alloc (.cells #[.int .i64 x, .int .i64 y] 59) = W0 := ⟨_, rfl⟩
      have b0 : Blk W0 w.heap.size 51 #[.int .i64 k, .int .i64 p, .int .i64 d, .int .i64 n] := by rw [← hW0]; exact (Blk.new w _ _).alloc _
      have b1 : Blk W0 (w.heap.size + 1) 59 #[.int .i64 x, .int .i64 y] := by rw [← hW0]; exact Blk.second w _ _ _
      have hB : Below w.heap.size w W0 := by rw [← hW0]; exact below_two w _ _
      have hL0 := hL.next hB
      have c0 := b0.cell 0
      have c1 := b0.cell 1
      have c2 := b0.cell 2
      have c3 := b0.cell 3
      have z0 := b1.cell 0
      have z1 := b1.cell 1
      simp only [List.getElem?_toArray, List.getElem?_cons_zero, List.getElem?_cons_succ] at c0 c1 c2 c3 z0 z1
      go_enter Tryz.func72, Tryz.ntmps72
      go_wp2_with fail
      clear hW0
      go_wp2_with (first
        | (go_at_call 52; refine (HD.out _ hL0).mono ?_; rintro e w1 ⟨rfl, hB1⟩; replace b0 := b0.below hB1 b0.lt; replace b1 := b1.below hB1 b1.lt; replace hB := below_in hB hB1; replace hL0 := hL0.next hB1; have c0 := b0.cell 0; have c1 := b0.cell 1; have c2 := b0.cell 2; have c3 := b0.cell 3; have z0 := b1.cell 0; have z1 := b1.cell 1; simp only [List.getElem?_toArray, List.getElem?_cons_zero, List.getElem?_cons_succ] at c0 c1 c2 c3 z0 z1)
        | (go_at_call 39; refine (HH.out _).mono ?_; rintro e w1 ⟨rfl, hB1⟩; replace b0 := b0.below hB1 b0.lt; replace b1 := b1.below hB1 b1.lt; replace hB := below_in hB hB1; replace hL0 := hL0.next hB1; have c0 := b0.cell 0; have c1 := b0.cell 1; have c2 := b0.cell 2; have c3 := b0.cell 3; have z0 := b1.cell 0; have z1 := b1.cell 1; simp only [List.getElem?_toArray, List.getElem?_cons_zero, List.getElem?_cons_succ] at c0 c1 c2 c3 z0 z1)
        | (go_at_call 82; refine (HRo.out _).mono ?_; rintro e w1 ⟨rfl, hB1⟩; replace b0 := b0.below hB1 b0.lt; replace b1 := b1.below hB1 b1.lt; replace hB := below_in hB hB1; replace hL0 := hL0.next hB1; have c0 := b0.cell 0; have c1 := b0.cell 1; have c2 := b0.cell 2; have c3 := b0.cell 3; have z0 := b1.cell 0; have z1 := b1.cell 1; simp only [List.getElem?_toArray, List.getElem?_cons_zero, List.getElem?_cons_succ] at c0 c1 c2 c3 z0 z1)
        | (go_at_call 83; refine (HI.out _).mono ?_; rintro e w1 ⟨rfl, hB1⟩; replace b0 := b0.below hB1 b0.lt; replace b1 := b1.below hB1 b1.lt; replace hB := below_in hB hB1; replace hL0 := hL0.next hB1; have c0 := b0.cell 0; have c1 := b0.cell 1; have c2 := b0.cell 2; have c3 := b0.cell 3; have z0 := b1.cell 0; have z1 := b1.cell 1; simp only [List.getElem?_toArray, List.getElem?_cons_zero, List.getElem?_cons_succ] at c0 c1 c2 c3 z0 z1))
      go_ret
      exact ⟨HX.out, hB⟩
    · rw [decide_eq_false hd] at HH
      by_cases he : x = d
      · rw [show (x == d) = true by simpa using he] at HRo
        have HX := Lib.hid (ret_bool (show (dg == row) = decide ((x < d ∨ x = d) ∧ dg = row) by rw [Bool.eq_iff_iff]; simp [he]))
        clear he hbo hd hR
        obtain ⟨W0, hW0⟩ : ∃ W0, (w.alloc (.cells #[.int .i64 k, .int .i64 p, .int .i64 d, .int .i64 n] 51)).alloc (.cells #[.int .i64 x, .int .i64 y] 59) = W0 := ⟨_, rfl⟩
        have b0 : Blk W0 w.heap.size 51 #[.int .i64 k, .int .i64 p, .int .i64 d, .int .i64 n] := by rw [← hW0]; exact (Blk.new w _ _).alloc _
        have b1 : Blk W0 (w.heap.size + 1) 59 #[.int .i64 x, .int .i64 y] := by rw [← hW0]; exact Blk.second w _ _ _
        have hB : Below w.heap.size w W0 := by rw [← hW0]; exact below_two w _ _
        have hL0 := hL.next hB
        have c0 := b0.cell 0
        have c1 := b0.cell 1
        have c2 := b0.cell 2
        have c3 := b0.cell 3
        have z0 := b1.cell 0
        have z1 := b1.cell 1
        simp only [List.getElem?_toArray, List.getElem?_cons_zero, List.getElem?_cons_succ] at c0 c1 c2 c3 z0 z1
        go_enter Tryz.func72, Tryz.ntmps72
        go_wp2_with fail
        clear hW0
        go_wp2_with (first
          | (go_at_call 52; refine (HD.out _ hL0).mono ?_; rintro e w1 ⟨rfl, hB1⟩; replace b0 := b0.below hB1 b0.lt; replace b1 := b1.below hB1 b1.lt; replace hB := below_in hB hB1; replace hL0 := hL0.next hB1; have c0 := b0.cell 0; have c1 := b0.cell 1; have c2 := b0.cell 2; have c3 := b0.cell 3; have z0 := b1.cell 0; have z1 := b1.cell 1; simp only [List.getElem?_toArray, List.getElem?_cons_zero, List.getElem?_cons_succ] at c0 c1 c2 c3 z0 z1)
          | (go_at_call 39; refine (HH.out _).mono ?_; rintro e w1 ⟨rfl, hB1⟩; replace b0 := b0.below hB1 b0.lt; replace b1 := b1.below hB1 b1.lt; replace hB := below_in hB hB1; replace hL0 := hL0.next hB1; have c0 := b0.cell 0; have c1 := b0.cell 1; have c2 := b0.cell 2; have c3 := b0.cell 3; have z0 := b1.cell 0; have z1 := b1.cell 1; simp only [List.getElem?_toArray, List.getElem?_cons_zero, List.getElem?_cons_succ] at c0 c1 c2 c3 z0 z1)
          | (go_at_call 82; refine (HRo.out _).mono ?_; rintro e w1 ⟨rfl, hB1⟩; replace b0 := b0.below hB1 b0.lt; replace b1 := b1.below hB1 b1.lt; replace hB := below_in hB hB1; replace hL0 := hL0.next hB1; have c0 := b0.cell 0; have c1 := b0.cell 1; have c2 := b0.cell 2; have c3 := b0.cell 3; have z0 := b1.cell 0; have z1 := b1.cell 1; simp only [List.getElem?_toArray, List.getElem?_cons_zero, List.getElem?_cons_succ] at c0 c1 c2 c3 z0 z1)
          | (go_at_call 83; refine (HI.out _).mono ?_; rintro e w1 ⟨rfl, hB1⟩; replace b0 := b0.below hB1 b0.lt; replace b1 := b1.below hB1 b1.lt; replace hB := below_in hB hB1; replace hL0 := hL0.next hB1; have c0 := b0.cell 0; have c1 := b0.cell 1; have c2 := b0.cell 2; have c3 := b0.cell 3; have z0 := b1.cell 0; have z1 := b1.cell 1; simp only [List.getElem?_toArray, List.getElem?_cons_zero, List.getElem?_cons_succ] at c0 c1 c2 c3 z0 z1))
        go_ret
        exact ⟨HX.out, hB⟩
      · rw [show (x == d) = false by simpa using he] at HRo
        have HX := Lib.hid (ret_bool (show false = decide ((x < d ∨ x = d) ∧ dg = row) by simp [hd, he] <;> omega))
        clear hd he hR
        obtain ⟨W0, hW0⟩ : ∃ W0, (w.alloc (.cells #[.int .i64 k, .int .i64 p, .int .i64 d, .int .i64 n] 51)).alloc (.cells #[.int .i64 x, .int .i64 y] 59) = W0 := ⟨_, rfl⟩
        have b0 : Blk W0 w.heap.size 51 #[.int .i64 k, .int .i64 p, .int .i64 d, .int .i64 n] := by rw [← hW0]; exact (Blk.new w _ _).alloc _
        have b1 : Blk W0 (w.heap.size + 1) 59 #[.int .i64 x, .int .i64 y] := by rw [← hW0]; exact Blk.second w _ _ _
        have hB : Below w.heap.size w W0 := by rw [← hW0]; exact below_two w _ _
        have hL0 := hL.next hB
        have c0 := b0.cell 0
        have c1 := b0.cell 1
        have c2 := b0.cell 2
        have c3 := b0.cell 3
        have z0 := b1.cell 0
        have z1 := b1.cell 1
        simp only [List.getElem?_toArray, List.getElem?_cons_zero, List.getElem?_cons_succ] at c0 c1 c2 c3 z0 z1
        go_enter Tryz.func72, Tryz.ntmps72
        go_wp2_with fail
        clear hW0
        go_wp2_with (first
          | (go_at_call 52; refine (HD.out _ hL0).mono ?_; rintro e w1 ⟨rfl, hB1⟩; replace b0 := b0.below hB1 b0.lt; replace b1 := b1.below hB1 b1.lt; replace hB := below_in hB hB1; replace hL0 := hL0.next hB1; have c0 := b0.cell 0; have c1 := b0.cell 1; have c2 := b0.cell 2; have c3 := b0.cell 3; have z0 := b1.cell 0; have z1 := b1.cell 1; simp only [List.getElem?_toArray, List.getElem?_cons_zero, List.getElem?_cons_succ] at c0 c1 c2 c3 z0 z1)
          | (go_at_call 39; refine (HH.out _).mono ?_; rintro e w1 ⟨rfl, hB1⟩; replace b0 := b0.below hB1 b0.lt; replace b1 := b1.below hB1 b1.lt; replace hB := below_in hB hB1; replace hL0 := hL0.next hB1; have c0 := b0.cell 0; have c1 := b0.cell 1; have c2 := b0.cell 2; have c3 := b0.cell 3; have z0 := b1.cell 0; have z1 := b1.cell 1; simp only [List.getElem?_toArray, List.getElem?_cons_zero, List.getElem?_cons_succ] at c0 c1 c2 c3 z0 z1)
          | (go_at_call 82; refine (HRo.out _).mono ?_; rintro e w1 ⟨rfl, hB1⟩; replace b0 := b0.below hB1 b0.lt; replace b1 := b1.below hB1 b1.lt; replace hB := below_in hB hB1; replace hL0 := hL0.next hB1; have c0 := b0.cell 0; have c1 := b0.cell 1; have c2 := b0.cell 2; have c3 := b0.cell 3; have z0 := b1.cell 0; have z1 := b1.cell 1; simp only [List.getElem?_toArray, List.getElem?_cons_zero, List.getElem?_cons_succ] at c0 c1 c2 c3 z0 z1)
          | (go_at_call 83; refine (HI.out _).mono ?_; rintro e w1 ⟨rfl, hB1⟩; replace b0 := b0.below hB1 b0.lt; replace b1 := b1.below hB1 b1.lt; replace hB := below_in hB hB1; replace hL0 := hL0.next hB1; have c0 := b0.cell 0; have c1 := b0.cell 1; have c2 := b0.cell 2; have c3 := b0.cell 3; have z0 := b1.cell 0; have z1 := b1.cell 1; simp only [List.getElem?_toArray, List.getElem?_cons_zero, List.getElem?_cons_succ] at c0 c1 c2 c3 z0 z1))
        go_ret
        exact ⟨HX.out, hB⟩
  · rw [if_neg hk]
    have hk2 : (k == 2) = false := by simpa using hk
    by_cases hd : x < d
    · rw [decide_eq_true hd] at HH
      have HX := Lib.hid (ret_bool (show bo = decide (x < d ∧ (dg = row ∨ dg = p - 1)) by rw [← hbo]; simp [hd]))
      clear hbo hd hR
      obtain ⟨W0, hW0⟩ : ∃ W0, (w.alloc (.cells #[.int .i64 k, .int .i64 p, .int .i64 d, .int .i64 n] 51)).alloc (.cells #[.int .i64 x, .int .i64 y] 59) = W0 := ⟨_, rfl⟩
      have b0 : Blk W0 w.heap.size 51 #[.int .i64 k, .int .i64 p, .int .i64 d, .int .i64 n] := by rw [← hW0]; exact (Blk.new w _ _).alloc _
      have b1 : Blk W0 (w.heap.size + 1) 59 #[.int .i64 x, .int .i64 y] := by rw [← hW0]; exact Blk.second w _ _ _
      have hB : Below w.heap.size w W0 := by rw [← hW0]; exact below_two w _ _
      have hL0 := hL.next hB
      have c0 := b0.cell 0
      have c1 := b0.cell 1
      have c2 := b0.cell 2
      have c3 := b0.cell 3
      have z0 := b1.cell 0
      have z1 := b1.cell 1
      simp only [List.getElem?_toArray, List.getElem?_cons_zero, List.getElem?_cons_succ] at c0 c1 c2 c3 z0 z1
      go_enter Tryz.func72, Tryz.ntmps72
      go_wp2_with fail
      clear hW0
      go_wp2_with (first
        | (go_at_call 52; refine (HD.out _ hL0).mono ?_; rintro e w1 ⟨rfl, hB1⟩; replace b0 := b0.below hB1 b0.lt; replace b1 := b1.below hB1 b1.lt; replace hB := below_in hB hB1; replace hL0 := hL0.next hB1; have c0 := b0.cell 0; have c1 := b0.cell 1; have c2 := b0.cell 2; have c3 := b0.cell 3; have z0 := b1.cell 0; have z1 := b1.cell 1; simp only [List.getElem?_toArray, List.getElem?_cons_zero, List.getElem?_cons_succ] at c0 c1 c2 c3 z0 z1)
        | (go_at_call 39; refine (HH.out _).mono ?_; rintro e w1 ⟨rfl, hB1⟩; replace b0 := b0.below hB1 b0.lt; replace b1 := b1.below hB1 b1.lt; replace hB := below_in hB hB1; replace hL0 := hL0.next hB1; have c0 := b0.cell 0; have c1 := b0.cell 1; have c2 := b0.cell 2; have c3 := b0.cell 3; have z0 := b1.cell 0; have z1 := b1.cell 1; simp only [List.getElem?_toArray, List.getElem?_cons_zero, List.getElem?_cons_succ] at c0 c1 c2 c3 z0 z1)
        | (go_at_call 82; refine (HRo.out _).mono ?_; rintro e w1 ⟨rfl, hB1⟩; replace b0 := b0.below hB1 b0.lt; replace b1 := b1.below hB1 b1.lt; replace hB := below_in hB hB1; replace hL0 := hL0.next hB1; have c0 := b0.cell 0; have c1 := b0.cell 1; have c2 := b0.cell 2; have c3 := b0.cell 3; have z0 := b1.cell 0; have z1 := b1.cell 1; simp only [List.getElem?_toArray, List.getElem?_cons_zero, List.getElem?_cons_succ] at c0 c1 c2 c3 z0 z1)
        | (go_at_call 83; refine (HI.out _).mono ?_; rintro e w1 ⟨rfl, hB1⟩; replace b0 := b0.below hB1 b0.lt; replace b1 := b1.below hB1 b1.lt; replace hB := below_in hB hB1; replace hL0 := hL0.next hB1; have c0 := b0.cell 0; have c1 := b0.cell 1; have c2 := b0.cell 2; have c3 := b0.cell 3; have z0 := b1.cell 0; have z1 := b1.cell 1; simp only [List.getElem?_toArray, List.getElem?_cons_zero, List.getElem?_cons_succ] at c0 c1 c2 c3 z0 z1))
      go_ret
      exact ⟨HX.out, hB⟩
    · rw [decide_eq_false hd] at HH
      have HX := Lib.hid (ret_bool (show false = decide (x < d ∧ (dg = row ∨ dg = p - 1)) by simp [hd]))
      clear hbo hd hR
      obtain ⟨W0, hW0⟩ : ∃ W0, (w.alloc (.cells #[.int .i64 k, .int .i64 p, .int .i64 d, .int .i64 n] 51)).alloc (.cells #[.int .i64 x, .int .i64 y] 59) = W0 := ⟨_, rfl⟩
      have b0 : Blk W0 w.heap.size 51 #[.int .i64 k, .int .i64 p, .int .i64 d, .int .i64 n] := by rw [← hW0]; exact (Blk.new w _ _).alloc _
      have b1 : Blk W0 (w.heap.size + 1) 59 #[.int .i64 x, .int .i64 y] := by rw [← hW0]; exact Blk.second w _ _ _
      have hB : Below w.heap.size w W0 := by rw [← hW0]; exact below_two w _ _
      have hL0 := hL.next hB
      have c0 := b0.cell 0
      have c1 := b0.cell 1
      have c2 := b0.cell 2
      have c3 := b0.cell 3
      have z0 := b1.cell 0
      have z1 := b1.cell 1
      simp only [List.getElem?_toArray, List.getElem?_cons_zero, List.getElem?_cons_succ] at c0 c1 c2 c3 z0 z1
      go_enter Tryz.func72, Tryz.ntmps72
      go_wp2_with fail
      clear hW0
      go_wp2_with (first
        | (go_at_call 52; refine (HD.out _ hL0).mono ?_; rintro e w1 ⟨rfl, hB1⟩; replace b0 := b0.below hB1 b0.lt; replace b1 := b1.below hB1 b1.lt; replace hB := below_in hB hB1; replace hL0 := hL0.next hB1; have c0 := b0.cell 0; have c1 := b0.cell 1; have c2 := b0.cell 2; have c3 := b0.cell 3; have z0 := b1.cell 0; have z1 := b1.cell 1; simp only [List.getElem?_toArray, List.getElem?_cons_zero, List.getElem?_cons_succ] at c0 c1 c2 c3 z0 z1)
        | (go_at_call 39; refine (HH.out _).mono ?_; rintro e w1 ⟨rfl, hB1⟩; replace b0 := b0.below hB1 b0.lt; replace b1 := b1.below hB1 b1.lt; replace hB := below_in hB hB1; replace hL0 := hL0.next hB1; have c0 := b0.cell 0; have c1 := b0.cell 1; have c2 := b0.cell 2; have c3 := b0.cell 3; have z0 := b1.cell 0; have z1 := b1.cell 1; simp only [List.getElem?_toArray, List.getElem?_cons_zero, List.getElem?_cons_succ] at c0 c1 c2 c3 z0 z1)
        | (go_at_call 82; refine (HRo.out _).mono ?_; rintro e w1 ⟨rfl, hB1⟩; replace b0 := b0.below hB1 b0.lt; replace b1 := b1.below hB1 b1.lt; replace hB := below_in hB hB1; replace hL0 := hL0.next hB1; have c0 := b0.cell 0; have c1 := b0.cell 1; have c2 := b0.cell 2; have c3 := b0.cell 3; have z0 := b1.cell 0; have z1 := b1.cell 1; simp only [List.getElem?_toArray, List.getElem?_cons_zero, List.getElem?_cons_succ] at c0 c1 c2 c3 z0 z1)
        | (go_at_call 83; refine (HI.out _).mono ?_; rintro e w1 ⟨rfl, hB1⟩; replace b0 := b0.below hB1 b0.lt; replace b1 := b1.below hB1 b1.lt; replace hB := below_in hB hB1; replace hL0 := hL0.next hB1; have c0 := b0.cell 0; have c1 := b0.cell 1; have c2 := b0.cell 2; have c3 := b0.cell 3; have z0 := b1.cell 0; have z1 := b1.cell 1; simp only [List.getElem?_toArray, List.getElem?_cons_zero, List.getElem?_cons_succ] at c0 c1 c2 c3 z0 z1))
      go_ret
      exact ⟨HX.out, hB⟩

set_option maxHeartbeats 2000000 in
theorem onSlant_any (k p d n row x y : Int) (hR : RightC k p) (w : World) (hL : Laid w) : Calls Tryz.prog 73 #[(.agg #[.int .i64 k, .int .i64 p, .int .i64 d, .int .i64 n]), .int .i64 row, .agg #[.int .i64 x, .int .i64 y]] w fun e w' => e = .returned (.bool (onSl k p d row x y)) ∧ Below w.heap.size w w' := by
  obtain ⟨p1, p2, _, _, _, _⟩ := hR.und
  have HD := Lib.hid (fun W hL => slant_calls k p x y hR W hL)
  unfold onSl
  generalize (if HasCell k p x y then (0 : Int) else 4) = er at HD
  generalize slN2 k p x y = dg at HD ⊢
  obtain ⟨bo, hbo⟩ : ∃ b, decide (dg = row ∨ dg = p - 1) = b := ⟨_, rfl⟩
  have HI := Lib.hid (isOn_any k p d n dg row p1 p2)
  rw [hbo] at HI
  have HH := Lib.hid (holdsData_any k p d n x)
  have HRo := Lib.hid (holdsRows_any k p d n x)
  by_cases hd : x < d
  · rw [decide_eq_true hd] at HH
    have HX := Lib.hid (ret_bool (show bo = decide (x < d ∧ (dg = row ∨ dg = p - 1)) by rw [← hbo]; simp [hd]))
    clear hbo hd hR
    obtain ⟨W0, hW0⟩ : ∃ W0, (w.alloc (.cells #[.int .i64 k, .int .i64 p, .int .i64 d, .int .i64 n] 51)).alloc (.cells #[.int .i64 x, .int .i64 y] 59) = W0 := ⟨_, rfl⟩
    have b0 : Blk W0 w.heap.size 51 #[.int .i64 k, .int .i64 p, .int .i64 d, .int .i64 n] := by rw [← hW0]; exact (Blk.new w _ _).alloc _
    have b1 : Blk W0 (w.heap.size + 1) 59 #[.int .i64 x, .int .i64 y] := by rw [← hW0]; exact Blk.second w _ _ _
    have hB : Below w.heap.size w W0 := by rw [← hW0]; exact below_two w _ _
    have hL0 := hL.next hB
    have c0 := b0.cell 0
    have c1 := b0.cell 1
    have c2 := b0.cell 2
    have c3 := b0.cell 3
    have z0 := b1.cell 0
    have z1 := b1.cell 1
    simp only [List.getElem?_toArray, List.getElem?_cons_zero, List.getElem?_cons_succ] at c0 c1 c2 c3 z0 z1
    go_enter Tryz.func73, Tryz.ntmps73
    go_wp2_with fail
    clear hW0
    go_wp2_with (first
      | (go_at_call 84; refine (HD.out _ hL0).mono ?_; rintro e w1 ⟨rfl, hB1⟩; replace b0 := b0.below hB1 b0.lt; replace b1 := b1.below hB1 b1.lt; replace hB := below_in hB hB1; replace hL0 := hL0.next hB1; have c0 := b0.cell 0; have c1 := b0.cell 1; have c2 := b0.cell 2; have c3 := b0.cell 3; have z0 := b1.cell 0; have z1 := b1.cell 1; simp only [List.getElem?_toArray, List.getElem?_cons_zero, List.getElem?_cons_succ] at c0 c1 c2 c3 z0 z1)
      | (go_at_call 39; refine (HH.out _).mono ?_; rintro e w1 ⟨rfl, hB1⟩; replace b0 := b0.below hB1 b0.lt; replace b1 := b1.below hB1 b1.lt; replace hB := below_in hB hB1; replace hL0 := hL0.next hB1; have c0 := b0.cell 0; have c1 := b0.cell 1; have c2 := b0.cell 2; have c3 := b0.cell 3; have z0 := b1.cell 0; have z1 := b1.cell 1; simp only [List.getElem?_toArray, List.getElem?_cons_zero, List.getElem?_cons_succ] at c0 c1 c2 c3 z0 z1)
      | (go_at_call 82; refine (HRo.out _).mono ?_; rintro e w1 ⟨rfl, hB1⟩; replace b0 := b0.below hB1 b0.lt; replace b1 := b1.below hB1 b1.lt; replace hB := below_in hB hB1; replace hL0 := hL0.next hB1; have c0 := b0.cell 0; have c1 := b0.cell 1; have c2 := b0.cell 2; have c3 := b0.cell 3; have z0 := b1.cell 0; have z1 := b1.cell 1; simp only [List.getElem?_toArray, List.getElem?_cons_zero, List.getElem?_cons_succ] at c0 c1 c2 c3 z0 z1)
      | (go_at_call 83; refine (HI.out _).mono ?_; rintro e w1 ⟨rfl, hB1⟩; replace b0 := b0.below hB1 b0.lt; replace b1 := b1.below hB1 b1.lt; replace hB := below_in hB hB1; replace hL0 := hL0.next hB1; have c0 := b0.cell 0; have c1 := b0.cell 1; have c2 := b0.cell 2; have c3 := b0.cell 3; have z0 := b1.cell 0; have z1 := b1.cell 1; simp only [List.getElem?_toArray, List.getElem?_cons_zero, List.getElem?_cons_succ] at c0 c1 c2 c3 z0 z1))
    go_ret
    exact ⟨HX.out, hB⟩
  · rw [decide_eq_false hd] at HH
    have HX := Lib.hid (ret_bool (show false = decide (x < d ∧ (dg = row ∨ dg = p - 1)) by simp [hd]))
    clear hbo hd hR
    obtain ⟨W0, hW0⟩ : ∃ W0, (w.alloc (.cells #[.int .i64 k, .int .i64 p, .int .i64 d, .int .i64 n] 51)).alloc (.cells #[.int .i64 x, .int .i64 y] 59) = W0 := ⟨_, rfl⟩
    have b0 : Blk W0 w.heap.size 51 #[.int .i64 k, .int .i64 p, .int .i64 d, .int .i64 n] := by rw [← hW0]; exact (Blk.new w _ _).alloc _
    have b1 : Blk W0 (w.heap.size + 1) 59 #[.int .i64 x, .int .i64 y] := by rw [← hW0]; exact Blk.second w _ _ _
    have hB : Below w.heap.size w W0 := by rw [← hW0]; exact below_two w _ _
    have hL0 := hL.next hB
    have c0 := b0.cell 0
    have c1 := b0.cell 1
    have c2 := b0.cell 2
    have c3 := b0.cell 3
    have z0 := b1.cell 0
    have z1 := b1.cell 1
    simp only [List.getElem?_toArray, List.getElem?_cons_zero, List.getElem?_cons_succ] at c0 c1 c2 c3 z0 z1
    go_enter Tryz.func73, Tryz.ntmps73
    go_wp2_with fail
    clear hW0
    go_wp2_with (first
      | (go_at_call 84; refine (HD.out _ hL0).mono ?_; rintro e w1 ⟨rfl, hB1⟩; replace b0 := b0.below hB1 b0.lt; replace b1 := b1.below hB1 b1.lt; replace hB := below_in hB hB1; replace hL0 := hL0.next hB1; have c0 := b0.cell 0; have c1 := b0.cell 1; have c2 := b0.cell 2; have c3 := b0.cell 3; have z0 := b1.cell 0; have z1 := b1.cell 1; simp only [List.getElem?_toArray, List.getElem?_cons_zero, List.getElem?_cons_succ] at c0 c1 c2 c3 z0 z1)
      | (go_at_call 39; refine (HH.out _).mono ?_; rintro e w1 ⟨rfl, hB1⟩; replace b0 := b0.below hB1 b0.lt; replace b1 := b1.below hB1 b1.lt; replace hB := below_in hB hB1; replace hL0 := hL0.next hB1; have c0 := b0.cell 0; have c1 := b0.cell 1; have c2 := b0.cell 2; have c3 := b0.cell 3; have z0 := b1.cell 0; have z1 := b1.cell 1; simp only [List.getElem?_toArray, List.getElem?_cons_zero, List.getElem?_cons_succ] at c0 c1 c2 c3 z0 z1)
      | (go_at_call 82; refine (HRo.out _).mono ?_; rintro e w1 ⟨rfl, hB1⟩; replace b0 := b0.below hB1 b0.lt; replace b1 := b1.below hB1 b1.lt; replace hB := below_in hB hB1; replace hL0 := hL0.next hB1; have c0 := b0.cell 0; have c1 := b0.cell 1; have c2 := b0.cell 2; have c3 := b0.cell 3; have z0 := b1.cell 0; have z1 := b1.cell 1; simp only [List.getElem?_toArray, List.getElem?_cons_zero, List.getElem?_cons_succ] at c0 c1 c2 c3 z0 z1)
      | (go_at_call 83; refine (HI.out _).mono ?_; rintro e w1 ⟨rfl, hB1⟩; replace b0 := b0.below hB1 b0.lt; replace b1 := b1.below hB1 b1.lt; replace hB := below_in hB hB1; replace hL0 := hL0.next hB1; have c0 := b0.cell 0; have c1 := b0.cell 1; have c2 := b0.cell 2; have c3 := b0.cell 3; have z0 := b1.cell 0; have z1 := b1.cell 1; simp only [List.getElem?_toArray, List.getElem?_cons_zero, List.getElem?_cons_succ] at c0 c1 c2 c3 z0 z1))
    go_ret
    exact ⟨HX.out, hB⟩

end Go.Proofs.YteglikljmkielaaGreatDoor
