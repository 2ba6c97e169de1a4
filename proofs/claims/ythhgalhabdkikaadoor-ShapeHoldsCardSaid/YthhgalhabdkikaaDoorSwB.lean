/- A code under way: numbers, places, diagonals, slants, roles. -/
import Derived.Test.YthhgalhabdkikaaDoorSwA
namespace Go.Proofs.YthhgalhabdkikaaDoor
open Go.RowKit Go.Shelf
set_option linter.unusedSimpArgs false

set_option maxHeartbeats 1000000 in
theorem hasData_any (k p s m col row : Int) (hu : Und p s m) (w : World) : Calls Tryd.prog 50 #[(.agg #[.int .i64 k, .int .i64 p, .int .i64 s, .int .i64 m]), (.agg #[.int .i64 col, .int .i64 row])] w fun e w' => e = .returned (.bool (decide ((0 ≤ col ∧ col < p - s) ∧ 0 ≤ row ∧ row < p - 1))) ∧ Below w.heap.size w w' := by
  have H1 := Lib.hid (hasCell_any k p s m col row hu)
  have HD := Lib.hid (data_any k p s m hu)
  obtain ⟨p1, p2, s1, s2, m1, m2⟩ := hu
  by_cases h1 : (0 ≤ col ∧ col < p - s + m) ∧ 0 ≤ row ∧ row < p - 1
  · rw [decide_eq_true h1] at H1
    go_enter Tryd.func50, Tryd.ntmps50
    go_wp2_with fail
    obtain ⟨W0, hW0⟩ : ∃ W0, (w.alloc (.cells #[.int .i64 k, .int .i64 p, .int .i64 s, .int .i64 m] 62)).alloc (.cells #[.int .i64 col, .int .i64 row] 37) = W0 := ⟨_, rfl⟩
    have b0 : Blk W0 w.heap.size 62 #[.int .i64 k, .int .i64 p, .int .i64 s, .int .i64 m] := by rw [← hW0]; exact (Blk.new w _ _).alloc _
    have b1 : Blk W0 (w.heap.size + 1) 37 #[.int .i64 col, .int .i64 row] := by rw [← hW0]; exact Blk.second w _ _ _
    have hB : Below w.heap.size w W0 := by rw [← hW0]; exact below_two w _ _
    rw [hW0]
    clear hW0
    go_region_held3 (fun W => W.cell? ⟨w.heap.size, 0, none⟩ = some (.int .i64 k) ∧ W.cell? ⟨w.heap.size, 1, none⟩ = some (.int .i64 p) ∧ W.cell? ⟨w.heap.size, 2, none⟩ = some (.int .i64 s) ∧ W.cell? ⟨w.heap.size, 3, none⟩ = some (.int .i64 m) ∧ W.cell? ⟨w.heap.size + 1, 0, none⟩ = some (.int .i64 col) ∧ W.cell? ⟨w.heap.size + 1, 1, none⟩ = some (.int .i64 row))
      (exact ⟨b0.cell 0, b0.cell 1, b0.cell 2, b0.cell 3, b1.cell 0, b1.cell 1⟩) (first
      | (go_at_call 52; refine (H1.out _).mono ?_; rintro e w1 ⟨rfl, hB1⟩; (first | replace b0 := b0.below hB1 b0.lt | replace b0 := b0.nextd hB1); (first | replace b1 := b1.below hB1 b1.lt | replace b1 := b1.nextd hB1); (first | replace hB := below_in hB hB1 | replace hB := below_in hB.drew hB1))
      | (go_at_call 37; refine (HD.out _).mono ?_; rintro e w1 ⟨rfl, hB1⟩; (first | replace b0 := b0.below hB1 b0.lt | replace b0 := b0.nextd hB1); (first | replace b1 := b1.below hB1 b1.lt | replace b1 := b1.nextd hB1); (first | replace hB := below_in hB hB1 | replace hB := below_in hB.drew hB1)))
    all_goals go_wp2
    all_goals go_ret
    all_goals exact ⟨ret_bool (by rw [Bool.eq_iff_iff]; simp; omega), hB⟩
  · rw [decide_eq_false h1] at H1
    go_enter Tryd.func50, Tryd.ntmps50
    go_wp2_with fail
    obtain ⟨W0, hW0⟩ : ∃ W0, (w.alloc (.cells #[.int .i64 k, .int .i64 p, .int .i64 s, .int .i64 m] 62)).alloc (.cells #[.int .i64 col, .int .i64 row] 37) = W0 := ⟨_, rfl⟩
    have b0 : Blk W0 w.heap.size 62 #[.int .i64 k, .int .i64 p, .int .i64 s, .int .i64 m] := by rw [← hW0]; exact (Blk.new w _ _).alloc _
    have b1 : Blk W0 (w.heap.size + 1) 37 #[.int .i64 col, .int .i64 row] := by rw [← hW0]; exact Blk.second w _ _ _
    have hB : Below w.heap.size w W0 := by rw [← hW0]; exact below_two w _ _
    rw [hW0]
    clear hW0
    have c0 := b0.cell 0
    have c1 := b0.cell 1
    have c2 := b0.cell 2
    have c3 := b0.cell 3
    have a0 := b1.cell 0
    have a1 := b1.cell 1
    simp only [List.getElem?_toArray, List.getElem?_cons_zero, List.getElem?_cons_succ] at c0 c1 c2 c3 a0 a1
    refine wp_region_held_drew (S := fun W => W.cell? ⟨w.heap.size, 0, none⟩ = some (.int .i64 k) ∧ W.cell? ⟨w.heap.size, 1, none⟩ = some (.int .i64 p) ∧ W.cell? ⟨w.heap.size, 2, none⟩ = some (.int .i64 s) ∧ W.cell? ⟨w.heap.size, 3, none⟩ = some (.int .i64 m) ∧ W.cell? ⟨w.heap.size + 1, 0, none⟩ = some (.int .i64 col) ∧ W.cell? ⟨w.heap.size + 1, 1, none⟩ = some (.int .i64 row)) (by kernel_rfl) ⟨c0, c1, c2, c3, a0, a1⟩ (fun hS => ?_)
    refine wpAnyH_take (i := 0) (v := (.agg #[.int .i64 k, .int .i64 p, .int .i64 s, .int .i64 m])) rfl (by kernel_rfl) (by kernel_rfl) (by kernel_rfl) (fun _ _ _ h => h) (Or.inl ⟨by rfl, fun w hS => by obtain ⟨h0, h1, h2, h3, h4, h5⟩ := hS; go_simp⟩) (by assumption) ?_
    try simp only [Act.put, List.setIfInBounds_toArray, List.set_cons_zero, List.set_cons_succ]
    refine wpAnyH_take (i := 1) (v := (.agg #[.int .i64 col, .int .i64 row])) rfl (by kernel_rfl) (by kernel_rfl) (by kernel_rfl) (fun _ _ _ h => h) (Or.inl ⟨by rfl, fun w hS => by obtain ⟨h0, h1, h2, h3, h4, h5⟩ := hS; go_simp⟩) (by assumption) ?_
    try simp only [Act.put, List.setIfInBounds_toArray, List.set_cons_zero, List.set_cons_succ]
    refine wpAnyH_ready (rs := [2]) (by kernel_rfl) (by simp) ?_
    refine AllReadyH.cons rfl (fun K hK => ?_) AllReadyH.nil
    rw [if_pos (by rfl)]
    go_simp
    (go_at_call 52; refine (H1.out _).mono ?_; rintro e w1 ⟨rfl, hB1⟩; (first | replace b0 := b0.below hB1 b0.lt | replace b0 := b0.nextd hB1); (first | replace b1 := b1.below hB1 b1.lt | replace b1 := b1.nextd hB1); (first | replace hB := below_in hB hB1 | replace hB := below_in hB.drew hB1))
    refine hK.out _ _ (by exact ⟨b0.cell 0, b0.cell 1, b0.cell 2, b0.cell 3, b1.cell 0, b1.cell 1⟩) (fun _ => ?_)
    clear hK K
    try simp only [Act.put, List.setIfInBounds_toArray, List.set_cons_zero, List.set_cons_succ]
    refine wpAnyH_take (i := 3) (v := (.bool false)) rfl (by kernel_rfl) (by kernel_rfl) (by kernel_rfl) (fun _ _ _ h => h) (Or.inl ⟨by rfl, fun w hS => by obtain ⟨h0, h1, h2, h3, h4, h5⟩ := hS; go_simp⟩) (by assumption) ?_
    try simp only [Act.put, List.setIfInBounds_toArray, List.set_cons_zero, List.set_cons_succ]
    refine wpAnyH_take (i := 4) (v := undef) rfl (by kernel_rfl) (by kernel_rfl) (by kernel_rfl) (fun _ _ _ h => h) (Or.inr ⟨by rfl, rfl⟩) (by assumption) ?_
    try simp only [Act.put, List.setIfInBounds_toArray, List.set_cons_zero, List.set_cons_succ]
    refine wpAnyH_take (i := 5) (v := undef) rfl (by kernel_rfl) (by kernel_rfl) (by kernel_rfl) (fun _ _ _ h => h) (Or.inr ⟨by rfl, rfl⟩) (by assumption) ?_
    try simp only [Act.put, List.setIfInBounds_toArray, List.set_cons_zero, List.set_cons_succ]
    refine wpAnyH_take (i := 6) (v := undef) rfl (by kernel_rfl) (by kernel_rfl) (by kernel_rfl) (fun _ _ _ h => h) (Or.inr ⟨by rfl, rfl⟩) (by assumption) ?_
    try simp only [Act.put, List.setIfInBounds_toArray, List.set_cons_zero, List.set_cons_succ]
    refine wpAnyH_take (i := 7) (v := undef) rfl (by kernel_rfl) (by kernel_rfl) (by kernel_rfl) (fun _ _ _ h => h) (Or.inr ⟨by rfl, rfl⟩) (by assumption) ?_
    try simp only [Act.put, List.setIfInBounds_toArray, List.set_cons_zero, List.set_cons_succ]
    refine wpAnyH_take (i := 8) (v := undef) rfl (by kernel_rfl) (by kernel_rfl) (by kernel_rfl) (fun _ _ _ h => h) (Or.inr ⟨by rfl, rfl⟩) (by assumption) ?_
    try simp only [Act.put, List.setIfInBounds_toArray, List.set_cons_zero, List.set_cons_succ]
    refine wpAnyH_take (i := 9) (v := (.bool false)) rfl (by kernel_rfl) (by kernel_rfl) (by kernel_rfl) (fun _ _ _ h => h) (Or.inl ⟨by rfl, fun w hS => by obtain ⟨h0, h1, h2, h3, h4, h5⟩ := hS; go_simp⟩) (by assumption) ?_
    try simp only [Act.put, List.setIfInBounds_toArray, List.set_cons_zero, List.set_cons_succ]
    refine wpAnyH_take (i := 10) (v := (.bool false)) rfl (by kernel_rfl) (by kernel_rfl) (by kernel_rfl) (fun _ _ _ h => h) (Or.inl ⟨by rfl, fun w hS => by obtain ⟨h0, h1, h2, h3, h4, h5⟩ := hS; go_simp⟩) (by assumption) ?_
    try simp only [Act.put, List.setIfInBounds_toArray, List.set_cons_zero, List.set_cons_succ]
    change wpAnyH _ _ _ _ _ _ _ { tmps := #[(.agg #[.int .i64 k, .int .i64 p, .int .i64 s, .int .i64 m]), (.agg #[.int .i64 col, .int .i64 row]), .pointer (some ⟨w.heap.size, 0, none⟩), .pointer (some ⟨w.heap.size + 1, 0, none⟩), .bool false, (.agg #[.int .i64 k, .int .i64 p, .int .i64 s, .int .i64 m]), (.agg #[.int .i64 col, .int .i64 row]), .bool false, .bool false, undef, undef, undef, undef, undef, .bool false], defers := [] } _
    refine wpAnyH_done (by kernel_rfl) ?_ _
    all_goals go_wp2
    all_goals go_ret
    all_goals exact ⟨ret_bool (by first | rfl | (rw [eq_comm, decide_eq_false_iff_not]; omega)), hB⟩

set_option maxHeartbeats 1000000 in
theorem number_any (k p s m col row : Int) (hu : Und p s m) (hc : 0 ≤ col ∧ col < 17) (hr : 0 ≤ row ∧ row < 17) (w : World) : Calls Tryd.prog 51 #[(.agg #[.int .i64 k, .int .i64 p, .int .i64 s, .int .i64 m]), (.agg #[.int .i64 col, .int .i64 row])] w fun e w' => e = .returned (.int .i64 (row * (p - s) + col)) ∧ Below w.heap.size w w' := by
  have HD := Lib.hid (data_any k p s m hu)
  obtain ⟨p1, p2, s1, s2, m1, m2⟩ := hu
  have z0 : 0 ≤ row * (p - s) := Int.mul_nonneg (by omega) (by omega)
  have z1 : row * (p - s) ≤ 1000 := by have := Int.mul_le_mul (show row ≤ 17 by omega) (show p - s ≤ 17 by omega) (by omega) (by omega); omega
  have e1 : ∃ z, z = row * (p - s) ∧ IntKind.i64.wrap (row * (p - s)) = z ∧ IntKind.i64.wrap (z + col) = z + col := ⟨_, rfl, IntWalk.i64_in _ (by omega), IntWalk.i64_in _ (by omega)⟩
  obtain ⟨z, hz, e1, e2⟩ := e1
  rw [← hz] at z0 z1 ⊢
  clear hz
  go_enter Tryd.func51, Tryd.ntmps51
  go_wp2
  obtain ⟨W0, hW0⟩ : ∃ W0, (w.alloc (.cells #[.int .i64 k, .int .i64 p, .int .i64 s, .int .i64 m] 62)).alloc (.cells #[.int .i64 col, .int .i64 row] 37) = W0 := ⟨_, rfl⟩
  have b0 : Blk W0 w.heap.size 62 #[.int .i64 k, .int .i64 p, .int .i64 s, .int .i64 m] := by rw [← hW0]; exact (Blk.new w _ _).alloc _
  have b1 : Blk W0 (w.heap.size + 1) 37 #[.int .i64 col, .int .i64 row] := by rw [← hW0]; exact Blk.second w _ _ _
  have hB : Below w.heap.size w W0 := by rw [← hW0]; exact below_two w _ _
  rw [hW0]
  clear hW0
  go_region_held3 (fun W => W.cell? ⟨w.heap.size, 0, none⟩ = some (.int .i64 k) ∧ W.cell? ⟨w.heap.size, 1, none⟩ = some (.int .i64 p) ∧ W.cell? ⟨w.heap.size, 2, none⟩ = some (.int .i64 s) ∧ W.cell? ⟨w.heap.size, 3, none⟩ = some (.int .i64 m) ∧ W.cell? ⟨w.heap.size + 1, 0, none⟩ = some (.int .i64 col) ∧ W.cell? ⟨w.heap.size + 1, 1, none⟩ = some (.int .i64 row))
    (exact ⟨b0.cell 0, b0.cell 1, b0.cell 2, b0.cell 3, b1.cell 0, b1.cell 1⟩) (first
    | (go_at_call 37; refine (HD.out _).mono ?_; rintro e w1 ⟨rfl, hB1⟩; (first | replace b0 := b0.below hB1 b0.lt | replace b0 := b0.nextd hB1); (first | replace b1 := b1.below hB1 b1.lt | replace b1 := b1.nextd hB1); (first | replace hB := below_in hB hB1 | replace hB := below_in hB.drew hB1)))
  all_goals go_wp2
  all_goals go_ret
  all_goals exact ⟨rfl, hB⟩

set_option maxHeartbeats 1000000 in
theorem modulo_any (k p s m n : Int) (hp : p ∈ prm) (h1 : -9223372036854775808 ≤ n) (h2 : n ≤ 9223372036854775807) (w : World) (hL : Laid w) : Calls Tryd.prog 63 #[(.agg #[.int .i64 k, .int .i64 p, .int .i64 s, .int .i64 m]), .int .i64 n] w fun e w' => e = .returned (.int .i64 (n % p)) ∧ Below w.heap.size w w' := by
  have hB0 := below_one w (.cells #[.int .i64 k, .int .i64 p, .int .i64 s, .int .i64 m] 62)
  have HO := Lib.hid (fun W hL => (modOf_any p n W hL h1 h2).mono fun _ _ h => And.intro (h.1 hp) h.2.2)
  have hL0 := hL.next hB0
  clear hp
  go_enter Tryd.func63, Tryd.ntmps63
  go_wp2_with (go_at_call 67; refine (HO.out _ hL0).mono ?_; rintro e w1 ⟨rfl, hB1⟩)
  go_ret
  exact ⟨rfl, below_in hB0 hB1⟩

set_option maxHeartbeats 1000000 in
theorem diagonal_any (k p s m col row : Int) (hp : p ∈ prm) (hc : 0 ≤ col ∧ col < 24) (hr : 0 ≤ row ∧ row < 24) (w : World) (hL : Laid w) : Calls Tryd.prog 53 #[(.agg #[.int .i64 k, .int .i64 p, .int .i64 s, .int .i64 m]), (.agg #[.int .i64 col, .int .i64 row])] w fun e w' => e = .returned (.int .i64 ((col + row) % p)) ∧ Below w.heap.size w w' := by
  have hB0 := below_two w (.cells #[.int .i64 k, .int .i64 p, .int .i64 s, .int .i64 m] 62) (.cells #[.int .i64 col, .int .i64 row] 37)
  have HO := Lib.hid (fun W hL => modulo_any k p s m (col + row) hp (by omega) (by omega) W hL)
  have hL0 := hL.next hB0
  clear hp
  go_enter Tryd.func53, Tryd.ntmps53
  go_wp2_with (go_at_call 63; refine (HO.out _ hL0).mono ?_; rintro e w1 ⟨rfl, hB1⟩)
  go_ret
  exact ⟨rfl, below_in hB0 hB1⟩

set_option maxHeartbeats 1000000 in
theorem slant_any (k p s m col row : Int) (hp : p ∈ prm) (hc : 0 ≤ col ∧ col < 24) (hr : 0 ≤ row ∧ row < 24) (w : World) (hL : Laid w) : Calls Tryd.prog 54 #[(.agg #[.int .i64 k, .int .i64 p, .int .i64 s, .int .i64 m]), (.agg #[.int .i64 col, .int .i64 row])] w fun e w' => e = .returned (.int .i64 ((row - col) % p)) ∧ Below w.heap.size w w' := by
  have hB0 := below_two w (.cells #[.int .i64 k, .int .i64 p, .int .i64 s, .int .i64 m] 62) (.cells #[.int .i64 col, .int .i64 row] 37)
  have HO := Lib.hid (fun W hL => modulo_any k p s m (row - col) hp (by omega) (by omega) W hL)
  have hL0 := hL.next hB0
  clear hp
  go_enter Tryd.func54, Tryd.ntmps54
  go_wp2_with (go_at_call 63; refine (HO.out _ hL0).mono ?_; rintro e w1 ⟨rfl, hB1⟩)
  go_ret
  exact ⟨rfl, below_in hB0 hB1⟩

set_option maxHeartbeats 1000000 in
theorem place_any (k p s m n : Int) (hu : Und p s m) (h1 : 0 ≤ n) (h2 : n < 1000) (w : World) : Calls Tryd.prog 48 #[(.agg #[.int .i64 k, .int .i64 p, .int .i64 s, .int .i64 m]), .int .i64 n] w fun e w' => e = .returned (.agg #[.int .i64 (n % (p - s)), .int .i64 (n / (p - s))]) ∧ Below w.heap.size w w' := by
  have HD := Lib.hid (data_any k p s m hu)
  obtain ⟨p1, p2, s1, s2, m1, m2⟩ := hu
  have q0 : 0 < p - s := by omega
  have e1 : n.tmod (p - s) = n % (p - s) := Int.tmod_eq_emod_of_nonneg h1
  have e2 : n.tdiv (p - s) = n / (p - s) := Int.tdiv_eq_ediv_of_nonneg h1
  have x0 := Int.emod_nonneg n (show p - s ≠ 0 by omega)
  have x1 := Int.emod_lt_of_pos n q0
  have y0 : 0 ≤ n / (p - s) := Int.ediv_nonneg h1 (by omega)
  have y1 : n / (p - s) ≤ n := Int.ediv_le_self _ h1
  generalize p - s = d at *
  generalize n % d = x at *
  generalize n / d = y at *
  have n0 : ¬ d = 0 := by omega
  have n1 : ¬ d = -1 := by omega
  have e3 : IntKind.i64.wrap y = y := IntWalk.i64_in _ (by omega)
  go_enter Tryd.func48, Tryd.ntmps48
  go_wp2
  obtain ⟨W0, hW0⟩ : ∃ W0, (w.alloc (.cells #[.int .i64 k, .int .i64 p, .int .i64 s, .int .i64 m] 62)).alloc (.cells #[.int .i64 0, .int .i64 0] 37) = W0 := ⟨_, rfl⟩
  have b0 : Blk W0 w.heap.size 62 #[.int .i64 k, .int .i64 p, .int .i64 s, .int .i64 m] := by rw [← hW0]; exact (Blk.new w _ _).alloc _
  have hB : Below w.heap.size w W0 := by rw [← hW0]; exact below_two w _ _
  have b1 : Blk W0 (w.heap.size + 1) 37 #[.int .i64 0, .int .i64 0] := by rw [← hW0]; exact Blk.second w _ _ _
  rw [hW0]
  clear hW0
  go_region_held3 (fun W => W.cell? ⟨w.heap.size, 0, none⟩ = some (.int .i64 k) ∧ W.cell? ⟨w.heap.size, 1, none⟩ = some (.int .i64 p) ∧ W.cell? ⟨w.heap.size, 2, none⟩ = some (.int .i64 s) ∧ W.cell? ⟨w.heap.size, 3, none⟩ = some (.int .i64 m))
    (first | exact ⟨b0.cell 0, b0.cell 1, b0.cell 2, b0.cell 3⟩ | exact ⟨((b0.far (by simp) _).far (by simp) _).cell 0, ((b0.far (by simp) _).far (by simp) _).cell 1, ((b0.far (by simp) _).far (by simp) _).cell 2, ((b0.far (by simp) _).far (by simp) _).cell 3⟩) (first
    | (go_at_call 37; refine (HD.out _).mono ?_; rintro e w1 ⟨rfl, hB1⟩; (first | replace b0 := b0.below hB1 b0.lt | replace b0 := b0.nextd hB1); (first | replace b1 := b1.below hB1 b1.lt | replace b1 := b1.nextd hB1); (first | replace hB := below_in hB hB1 | replace hB := below_in hB.drew hB1); have g0 := b1.cell 0; have g1 := b1.cell 1; have f0 := b1.frozen 0; have f1 := b1.frozen 1; simp only [List.getElem?_toArray, List.getElem?_cons_zero, List.getElem?_cons_succ] at g0 g1))
  go_wp2
  have r0 := ((b1.set_ 0 (.int .i64 x)).set_ 1 (.int .i64 y)).cell 0
  have r1 := ((b1.set_ 0 (.int .i64 x)).set_ 1 (.int .i64 y)).cell 1
  simp only [List.setIfInBounds_toArray, List.set_cons_zero, List.set_cons_succ, List.getElem?_toArray, List.getElem?_cons_zero, List.getElem?_cons_succ] at r0 r1
  exact bodyPost_ret (v := .agg #[.int .i64 x, .int .i64 y]) (by simp [results, Tryd.results48, go_sem, r0, r1]) rfl ⟨rfl, (hB.setCell (by simp) _).setCell (by simp) _⟩

set_option maxHeartbeats 400000 in
theorem role1_any (k p s m x y : Int) (hu : Und p s m) (hy : 0 ≤ y ∧ y < 10) (gc gk : Nat) (w : World) (b0 : Blk w gk 62 #[.int .i64 k, .int .i64 p, .int .i64 s, .int .i64 m]) (c0 : w.cell? ⟨gc, 0, none⟩ = some (.int .i64 x)) : Calls Tryd.prog 61 #[.int .i64 y, .pointer (some ⟨gc, 0, none⟩), .pointer (some ⟨gk, 0, none⟩)] w fun e w' => e = .returned (.bool (x == p - s + y)) ∧ Below w.heap.size w w' := by
  have HD := Lib.hid (data_any k p s m hu)
  obtain ⟨p1, p2, s1, s2, m1, m2⟩ := hu
  have e1 := IntWalk.i64_in (p - s + y) (by omega)
  have hB := Below.refl w.heap.size w
  have hw : gc < w.heap.size := cell_lt c0
  go_enter Tryd.func61, Tryd.ntmps61
  go_wp2
  go_region_held3 (fun W => W.cell? ⟨gc, 0, none⟩ = some (.int .i64 x) ∧ W.cell? ⟨gk, 0, none⟩ = some (.int .i64 k) ∧ W.cell? ⟨gk, 1, none⟩ = some (.int .i64 p) ∧ W.cell? ⟨gk, 2, none⟩ = some (.int .i64 s) ∧ W.cell? ⟨gk, 3, none⟩ = some (.int .i64 m))
    (exact ⟨c0, b0.cell 0, b0.cell 1, b0.cell 2, b0.cell 3⟩) (first
    | (go_at_call 37; refine (HD.out _).mono ?_; rintro e w1 ⟨rfl, hB1⟩; (first | replace c0 := nextc c0 hB1 | replace c0 := nextcd c0 hB1); (first | replace b0 := b0.below hB1 b0.lt | replace b0 := b0.nextd hB1); (first | replace hB := below_in hB hB1 | replace hB := below_in hB.drew hB1)))
  all_goals go_wp2
  all_goals go_ret
  all_goals exact ⟨rfl, hB⟩

/-- What a column is. -/
def roleN (d x : Int) : Int := if x = d then 2 else if x = d + 1 then 3 else if x = d + 2 then 4 else 1
set_option maxHeartbeats 1000000 in
theorem role_any (k p s m x : Int) (hu : Und p s m) (w : World) : Calls Tryd.prog 45 #[(.agg #[.int .i64 k, .int .i64 p, .int .i64 s, .int .i64 m]), .int .i64 x] w fun e w' => e = .returned (.int .i64 (roleN (p - s) x)) ∧ Below w.heap.size w w' := by
  have hmf := make_func
  obtain ⟨f, hf⟩ : ∃ f : Int → Bool, ∀ y, (x == p - s + y) = f y := ⟨_, fun _ => rfl⟩
  have HR := Lib.hid (fun y hy gc gk W b0 c0 => role1_any k p s m x y hu hy gc gk W b0 c0)
  simp only [hf] at HR
  have HN : Hid (roleN (p - s) x = if f 0 then 2 else if f 1 then 3 else if f 2 then 4 else 1) := by
    unfold Hid roleN
    simp only [← hf, beq_iff_eq, Int.add_zero]
  clear hf hu
  cases h0 : f 0 <;> cases h1 : f 1 <;> cases h2 : f 2
  all_goals
    go_enter Tryd.func45, Tryd.ntmps45
    go_wp2_with fail
    obtain ⟨W0, hW0⟩ : ∃ W0, (w.alloc (.cells #[.int .i64 k, .int .i64 p, .int .i64 s, .int .i64 m] 62)).alloc (.cells #[.int .i64 x] 3) = W0 := ⟨_, rfl⟩
    have b0 : Blk W0 w.heap.size 62 #[.int .i64 k, .int .i64 p, .int .i64 s, .int .i64 m] := by rw [← hW0]; exact (Blk.new w _ _).alloc _
    have b1 : Blk W0 (w.heap.size + 1) 3 #[.int .i64 x] := by rw [← hW0]; exact Blk.second w _ _ _
    have hB : Below w.heap.size w W0 := by rw [← hW0]; exact below_two w _ _
    rw [hW0]
    clear hW0
    go_wp2_with (go_at_call 61; refine (HR.out _ (by omega) _ _ _ b0 b1.one).mono ?_; rintro e w1 ⟨rfl, hB1⟩; replace b0 := b0.below hB1 b0.lt; replace b1 := b1.below hB1 b1.lt; replace hB := below_in hB hB1)
    go_ret
    exact ⟨ret_i64 (by rw [HN.out, h0, h1, h2]; rfl), hB⟩

end Go.Proofs.YthhgalhabdkikaaDoor
