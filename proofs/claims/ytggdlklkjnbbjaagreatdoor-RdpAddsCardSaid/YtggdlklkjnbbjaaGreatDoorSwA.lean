/- A code under way: its rows, its columns; what it has. -/
import Derived.Test.YtggdlklkjnbbjaaGreatDoorMwI
namespace Go.Proofs.YtggdlklkjnbbjaaGreatDoor
open Go.RowKit Go.Shelf

/-- What a code under way is: of a prime; a kind's two numbers. -/
structure Und (p s m : Int) : Prop where
  p1 : 3 ≤ p
  p2 : p ≤ 17
  s1 : 0 ≤ s
  s2 : s ≤ 1
  m1 : 2 ≤ m
  m2 : m ≤ 3
theorem below_one (w : World) (o : Obj) : Below w.heap.size w (w.alloc o) := (Below.refl _ w).alloc (Nat.le_refl _) _
theorem below_two (w : World) (o o' : Obj) : Below w.heap.size w ((w.alloc o).alloc o') := (below_one w o).alloc (by simp) _
theorem cell_lt {W : World} {g i : Nat} {v : Value} (h : W.cell? ⟨g, i, none⟩ = some v) : g < W.heap.size := by
  rcases Nat.lt_or_ge g W.heap.size with h1 | h1
  · exact h1
  · unfold World.cell? at h
    rw [show W.heap[g]? = none from Array.getElem?_eq_none h1] at h
    cases h
theorem nextc {W W' : World} {g i : Nat} {v : Value} (h : W.cell? ⟨g, i, none⟩ = some v) (hB : Below W.heap.size W W') : W'.cell? ⟨g, i, none⟩ = some v := (hB.cell (p := ⟨g, i, none⟩) (cell_lt h)).trans h
theorem nextcd {W W' : World} {g i : Nat} {v : Value} (h : W.cell? ⟨g, i, none⟩ = some v) (hB : Below W.drew.heap.size W.drew W') : W'.cell? ⟨g, i, none⟩ = some v := nextc (W := W.drew) h hB
theorem Blk.nextd {W W' : World} {g : Nat} {t : TypeId} {cs : Array Value} (h : Blk W g t cs) (hB : Below W.drew.heap.size W.drew W') : Blk W' g t cs := Blk.below (w := W.drew) h hB (show g < W.heap.size from h.lt)
theorem below_drewN {B : Nat} {W W' : World} (h : Below B W W') (n : Nat) : Below B W (W'.drewN n) := h.trans ⟨rfl, rfl, rfl, Nat.le_refl _, fun _ _ => rfl⟩
theorem Blk.second (w : World) (o : Obj) (t : TypeId) (cs : Array Value) : Blk ((w.alloc o).alloc (.cells cs t)) (w.heap.size + 1) t cs := by
  have := Blk.new (w.alloc o) t cs
  rwa [World.size_alloc] at this

set_option maxHeartbeats 400000 in
theorem rows_any (k p s m : Int) (hu : Und p s m) (w : World) : Calls Tryz.prog 156 #[(.agg #[.int .i64 k, .int .i64 p, .int .i64 s, .int .i64 m])] w fun e w' => e = .returned (.int .i64 (p - 1)) ∧ Below w.heap.size w w' := by
  obtain ⟨p1, p2, s1, s2, m1, m2⟩ := hu
  go_enter Tryz.func156, Tryz.ntmps156
  go_wp2
  go_ret
  exact ⟨rfl, (Below.refl _ _).alloc (Nat.le_refl _) _⟩

set_option maxHeartbeats 400000 in
theorem data_any (k p s m : Int) (hu : Und p s m) (w : World) : Calls Tryz.prog 126 #[(.agg #[.int .i64 k, .int .i64 p, .int .i64 s, .int .i64 m])] w fun e w' => e = .returned (.int .i64 (p - s)) ∧ Below w.heap.size w w' := by
  obtain ⟨p1, p2, s1, s2, m1, m2⟩ := hu
  go_enter Tryz.func126, Tryz.ntmps126
  go_wp2
  go_ret
  exact ⟨rfl, (Below.refl _ _).alloc (Nat.le_refl _) _⟩

set_option maxHeartbeats 1000000 in
theorem cols_any (k p s m : Int) (hu : Und p s m) (w : World) : Calls Tryz.prog 139 #[(.agg #[.int .i64 k, .int .i64 p, .int .i64 s, .int .i64 m])] w fun e w' => e = .returned (.int .i64 (p - s + m)) ∧ Below w.heap.size w w' := by
  have HD := Lib.hid (data_any k p s m hu)
  obtain ⟨p1, p2, s1, s2, m1, m2⟩ := hu
  have e1 := IntWalk.i64_in (p - s + m) (by omega)
  go_enter Tryz.func139, Tryz.ntmps139
  go_wp2
  obtain ⟨W0, hW0⟩ : ∃ W0, w.alloc (.cells #[.int .i64 k, .int .i64 p, .int .i64 s, .int .i64 m] 130) = W0 := ⟨_, rfl⟩
  have b0 : Blk W0 w.heap.size 130 #[.int .i64 k, .int .i64 p, .int .i64 s, .int .i64 m] := by rw [← hW0]; exact Blk.new w _ _
  have hB : Below w.heap.size w W0 := by rw [← hW0]; exact below_one w _
  rw [hW0]
  clear hW0
  go_region_held3 (fun W => W.cell? ⟨w.heap.size, 0, none⟩ = some (.int .i64 k) ∧ W.cell? ⟨w.heap.size, 1, none⟩ = some (.int .i64 p) ∧ W.cell? ⟨w.heap.size, 2, none⟩ = some (.int .i64 s) ∧ W.cell? ⟨w.heap.size, 3, none⟩ = some (.int .i64 m))
    (exact ⟨b0.cell 0, b0.cell 1, b0.cell 2, b0.cell 3⟩) (first
    | (go_at_call 126; refine (HD.out _).mono ?_; rintro e w1 ⟨rfl, hB1⟩; (first | replace b0 := b0.below hB1 b0.lt | replace b0 := b0.nextd hB1); (first | replace hB := below_in hB hB1 | replace hB := below_in hB.drew hB1)))
  all_goals go_wp2
  all_goals go_ret
  all_goals exact ⟨rfl, hB⟩

set_option maxHeartbeats 1000000 in
theorem hasColumn_any (k p s m x : Int) (hu : Und p s m) (w : World) : Calls Tryz.prog 206 #[(.agg #[.int .i64 k, .int .i64 p, .int .i64 s, .int .i64 m]), .int .i64 x] w fun e w' => e = .returned (.bool (decide (0 ≤ x ∧ x < p - s + m))) ∧ Below w.heap.size w w' := by
  have H := Lib.hid (cols_any k p s m hu)
  obtain ⟨p1, p2, s1, s2, m1, m2⟩ := hu
  have hB0 := below_one w (.cells #[.int .i64 k, .int .i64 p, .int .i64 s, .int .i64 m] 130)
  by_cases h1 : 0 ≤ x
  · have d1 : decide (0 ≤ x) = true := by simpa using h1
    go_enter Tryz.func206, Tryz.ntmps206
    go_wp2_with (go_at_call 139; refine (H.out _).mono ?_; rintro e w1 ⟨rfl, hB1⟩)
    go_ret
    exact ⟨ret_bool (by rw [decide_eq_decide]; omega), below_in hB0 hB1⟩
  · have d1 : decide (0 ≤ x) = false := by simpa using h1
    go_enter Tryz.func206, Tryz.ntmps206
    go_wp2
    go_ret
    exact ⟨ret_bool (by first | rfl | (rw [eq_comm, decide_eq_false_iff_not]; omega)), hB0⟩

set_option maxHeartbeats 1000000 in
theorem hasRow_any (k p s m x : Int) (hu : Und p s m) (w : World) : Calls Tryz.prog 215 #[(.agg #[.int .i64 k, .int .i64 p, .int .i64 s, .int .i64 m]), .int .i64 x] w fun e w' => e = .returned (.bool (decide (0 ≤ x ∧ x < p - 1))) ∧ Below w.heap.size w w' := by
  have H := Lib.hid (rows_any k p s m hu)
  obtain ⟨p1, p2, s1, s2, m1, m2⟩ := hu
  have hB0 := below_one w (.cells #[.int .i64 k, .int .i64 p, .int .i64 s, .int .i64 m] 130)
  by_cases h1 : 0 ≤ x
  · have d1 : decide (0 ≤ x) = true := by simpa using h1
    go_enter Tryz.func215, Tryz.ntmps215
    go_wp2_with (go_at_call 156; refine (H.out _).mono ?_; rintro e w1 ⟨rfl, hB1⟩)
    go_ret
    exact ⟨ret_bool (by rw [decide_eq_decide]; omega), below_in hB0 hB1⟩
  · have d1 : decide (0 ≤ x) = false := by simpa using h1
    go_enter Tryz.func215, Tryz.ntmps215
    go_wp2
    go_ret
    exact ⟨ret_bool (by first | rfl | (rw [eq_comm, decide_eq_false_iff_not]; omega)), hB0⟩

set_option maxHeartbeats 1000000 in
theorem hasCell_any (k p s m col row : Int) (hu : Und p s m) (w : World) : Calls Tryz.prog 203 #[(.agg #[.int .i64 k, .int .i64 p, .int .i64 s, .int .i64 m]), (.agg #[.int .i64 col, .int .i64 row])] w fun e w' => e = .returned (.bool (decide ((0 ≤ col ∧ col < p - s + m) ∧ 0 ≤ row ∧ row < p - 1))) ∧ Below w.heap.size w w' := by
  have H1 := Lib.hid (hasColumn_any k p s m col hu)
  have H2 := Lib.hid (hasRow_any k p s m row hu)
  have hB0 := below_two w (.cells #[.int .i64 k, .int .i64 p, .int .i64 s, .int .i64 m] 130) (.cells #[.int .i64 col, .int .i64 row] 56)
  by_cases h1 : 0 ≤ col ∧ col < p - s + m
  · rw [decide_eq_true h1] at H1
    go_enter Tryz.func203, Tryz.ntmps203
    go_wp2_with fail
    obtain ⟨W0, hW0⟩ : ∃ W0, (w.alloc (.cells #[.int .i64 k, .int .i64 p, .int .i64 s, .int .i64 m] 130)).alloc (.cells #[.int .i64 col, .int .i64 row] 56) = W0 := ⟨_, rfl⟩
    have b0 : Blk W0 w.heap.size 130 #[.int .i64 k, .int .i64 p, .int .i64 s, .int .i64 m] := by rw [← hW0]; exact (Blk.new w _ _).alloc _
    have b1 : Blk W0 (w.heap.size + 1) 56 #[.int .i64 col, .int .i64 row] := by rw [← hW0]; exact Blk.second w _ _ _
    have hB : Below w.heap.size w W0 := by rw [← hW0]; exact below_two w _ _
    rw [hW0]
    clear hW0
    have c0 := b0.cell 0
    have c1 := b0.cell 1
    have c2 := b0.cell 2
    have c3 := b0.cell 3
    have a0 := b1.cell 0
    have a1 := b1.cell 1
    simp only [List.getElem?_toArray, List.getElem?_cons_zero, List.getElem?_cons_succ] at c0 c1 c2 c3 a0 a1
    go_wp2_with (first
      | (go_at_call 206; refine (H1.out _).mono ?_; rintro e w1 ⟨rfl, hB1⟩; (first | replace b0 := b0.below hB1 b0.lt | replace b0 := b0.nextd hB1); (first | replace b1 := b1.below hB1 b1.lt | replace b1 := b1.nextd hB1); (first | replace hB := below_in hB hB1 | replace hB := below_in hB.drew hB1); have c0 := b0.cell 0; have c1 := b0.cell 1; have c2 := b0.cell 2; have c3 := b0.cell 3; have a0 := b1.cell 0; have a1 := b1.cell 1; simp only [List.getElem?_toArray, List.getElem?_cons_zero, List.getElem?_cons_succ] at c0 c1 c2 c3 a0 a1)
      | (go_at_call 215; refine (H2.out _).mono ?_; rintro e w1 ⟨rfl, hB1⟩; (first | replace b0 := b0.below hB1 b0.lt | replace b0 := b0.nextd hB1); (first | replace b1 := b1.below hB1 b1.lt | replace b1 := b1.nextd hB1); (first | replace hB := below_in hB hB1 | replace hB := below_in hB.drew hB1)))
    go_ret
    exact ⟨ret_bool (by rw [Bool.eq_iff_iff]; simp; omega), hB⟩
  · rw [decide_eq_false h1] at H1
    go_enter Tryz.func203, Tryz.ntmps203
    go_wp2_with fail
    obtain ⟨W0, hW0⟩ : ∃ W0, (w.alloc (.cells #[.int .i64 k, .int .i64 p, .int .i64 s, .int .i64 m] 130)).alloc (.cells #[.int .i64 col, .int .i64 row] 56) = W0 := ⟨_, rfl⟩
    have b0 : Blk W0 w.heap.size 130 #[.int .i64 k, .int .i64 p, .int .i64 s, .int .i64 m] := by rw [← hW0]; exact (Blk.new w _ _).alloc _
    have b1 : Blk W0 (w.heap.size + 1) 56 #[.int .i64 col, .int .i64 row] := by rw [← hW0]; exact Blk.second w _ _ _
    have hB : Below w.heap.size w W0 := by rw [← hW0]; exact below_two w _ _
    rw [hW0]
    clear hW0
    have c0 := b0.cell 0
    have c1 := b0.cell 1
    have c2 := b0.cell 2
    have c3 := b0.cell 3
    have a0 := b1.cell 0
    have a1 := b1.cell 1
    simp only [List.getElem?_toArray, List.getElem?_cons_zero, List.getElem?_cons_succ] at c0 c1 c2 c3 a0 a1
    go_wp2_with (go_at_call 206; refine (H1.out _).mono ?_; rintro e w1 ⟨rfl, hB1⟩; (first | replace b0 := b0.below hB1 b0.lt | replace b0 := b0.nextd hB1); (first | replace b1 := b1.below hB1 b1.lt | replace b1 := b1.nextd hB1); (first | replace hB := below_in hB hB1 | replace hB := below_in hB.drew hB1))
    go_ret
    exact ⟨ret_bool (by first | rfl | (rw [eq_comm, decide_eq_false_iff_not]; omega)), hB⟩

end Go.Proofs.YtggdlklkjnbbjaaGreatDoor
