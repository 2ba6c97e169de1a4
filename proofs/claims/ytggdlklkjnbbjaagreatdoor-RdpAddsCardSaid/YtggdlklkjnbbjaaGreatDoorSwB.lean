/- A code under way: numbers, places, diagonals, slants, roles. -/
import Derived.Test.YtggdlklkjnbbjaaGreatDoorSwA
namespace Go.Proofs.YtggdlklkjnbbjaaGreatDoor
open Go.RowKit Go.Shelf
set_option linter.unusedSimpArgs false

set_option maxHeartbeats 1000000 in
theorem modulo_any (k p s m n : Int) (hp : p ∈ prm) (h1 : -9223372036854775808 ≤ n) (h2 : n ≤ 9223372036854775807) (w : World) (hL : Laid w) : Calls Tryz.prog 216 #[(.agg #[.int .i64 k, .int .i64 p, .int .i64 s, .int .i64 m]), .int .i64 n] w fun e w' => e = .returned (.int .i64 (n % p)) ∧ Below w.heap.size w w' := by
  have hB0 := below_one w (.cells #[.int .i64 k, .int .i64 p, .int .i64 s, .int .i64 m] 130)
  have HO := Lib.hid (fun W hL => (modOf_any p n W hL h1 h2).mono fun _ _ h => And.intro (h.1 hp) h.2.2)
  have hL0 := hL.next hB0
  clear hp
  go_enter Tryz.func216, Tryz.ntmps216
  go_wp2_with (go_at_call 234; refine (HO.out _ hL0).mono ?_; rintro e w1 ⟨rfl, hB1⟩)
  go_ret
  exact ⟨rfl, below_in hB0 hB1⟩

set_option maxHeartbeats 1000000 in
theorem diagonal_any (k p s m col row : Int) (hp : p ∈ prm) (hc : 0 ≤ col ∧ col < 24) (hr : 0 ≤ row ∧ row < 24) (w : World) (hL : Laid w) : Calls Tryz.prog 204 #[(.agg #[.int .i64 k, .int .i64 p, .int .i64 s, .int .i64 m]), (.agg #[.int .i64 col, .int .i64 row])] w fun e w' => e = .returned (.int .i64 ((col + row) % p)) ∧ Below w.heap.size w w' := by
  have hB0 := below_two w (.cells #[.int .i64 k, .int .i64 p, .int .i64 s, .int .i64 m] 130) (.cells #[.int .i64 col, .int .i64 row] 56)
  have HO := Lib.hid (fun W hL => modulo_any k p s m (col + row) hp (by omega) (by omega) W hL)
  have hL0 := hL.next hB0
  clear hp
  go_enter Tryz.func204, Tryz.ntmps204
  go_wp2_with (go_at_call 216; refine (HO.out _ hL0).mono ?_; rintro e w1 ⟨rfl, hB1⟩)
  go_ret
  exact ⟨rfl, below_in hB0 hB1⟩

set_option maxHeartbeats 1000000 in
theorem slant_any (k p s m col row : Int) (hp : p ∈ prm) (hc : 0 ≤ col ∧ col < 24) (hr : 0 ≤ row ∧ row < 24) (w : World) (hL : Laid w) : Calls Tryz.prog 235 #[(.agg #[.int .i64 k, .int .i64 p, .int .i64 s, .int .i64 m]), (.agg #[.int .i64 col, .int .i64 row])] w fun e w' => e = .returned (.int .i64 ((row - col) % p)) ∧ Below w.heap.size w w' := by
  have hB0 := below_two w (.cells #[.int .i64 k, .int .i64 p, .int .i64 s, .int .i64 m] 130) (.cells #[.int .i64 col, .int .i64 row] 56)
  have HO := Lib.hid (fun W hL => modulo_any k p s m (row - col) hp (by omega) (by omega) W hL)
  have hL0 := hL.next hB0
  clear hp
  go_enter Tryz.func235, Tryz.ntmps235
  go_wp2_with (go_at_call 216; refine (HO.out _ hL0).mono ?_; rintro e w1 ⟨rfl, hB1⟩)
  go_ret
  exact ⟨rfl, below_in hB0 hB1⟩

set_option maxHeartbeats 400000 in
theorem role1_any (k p s m x y : Int) (hu : Und p s m) (hy : 0 ≤ y ∧ y < 10) (gc gk : Nat) (w : World) (b0 : Blk w gk 130 #[.int .i64 k, .int .i64 p, .int .i64 s, .int .i64 m]) (c0 : w.cell? ⟨gc, 0, none⟩ = some (.int .i64 x)) : Calls Tryz.prog 217 #[.int .i64 y, .pointer (some ⟨gc, 0, none⟩), .pointer (some ⟨gk, 0, none⟩)] w fun e w' => e = .returned (.bool (x == p - s + y)) ∧ Below w.heap.size w w' := by
  have HD := Lib.hid (data_any k p s m hu)
  obtain ⟨p1, p2, s1, s2, m1, m2⟩ := hu
  have e1 := IntWalk.i64_in (p - s + y) (by omega)
  have hB := Below.refl w.heap.size w
  have hw : gc < w.heap.size := cell_lt c0
  go_enter Tryz.func217, Tryz.ntmps217
  go_wp2
  go_region_held3 (fun W => W.cell? ⟨gc, 0, none⟩ = some (.int .i64 x) ∧ W.cell? ⟨gk, 0, none⟩ = some (.int .i64 k) ∧ W.cell? ⟨gk, 1, none⟩ = some (.int .i64 p) ∧ W.cell? ⟨gk, 2, none⟩ = some (.int .i64 s) ∧ W.cell? ⟨gk, 3, none⟩ = some (.int .i64 m))
    (exact ⟨c0, b0.cell 0, b0.cell 1, b0.cell 2, b0.cell 3⟩) (first
    | (go_at_call 126; refine (HD.out _).mono ?_; rintro e w1 ⟨rfl, hB1⟩; (first | replace c0 := nextc c0 hB1 | replace c0 := nextcd c0 hB1); (first | replace b0 := b0.below hB1 b0.lt | replace b0 := b0.nextd hB1); (first | replace hB := below_in hB hB1 | replace hB := below_in hB.drew hB1)))
  all_goals go_wp2
  all_goals go_ret
  all_goals exact ⟨rfl, hB⟩

/-- What a column is. -/
def roleN (d x : Int) : Int := if x = d then 2 else if x = d + 1 then 3 else if x = d + 2 then 4 else 1
set_option maxHeartbeats 1000000 in
theorem role_any (k p s m x : Int) (hu : Und p s m) (w : World) : Calls Tryz.prog 207 #[(.agg #[.int .i64 k, .int .i64 p, .int .i64 s, .int .i64 m]), .int .i64 x] w fun e w' => e = .returned (.int .i64 (roleN (p - s) x)) ∧ Below w.heap.size w w' := by
  have hmf := make_func
  obtain ⟨f, hf⟩ : ∃ f : Int → Bool, ∀ y, (x == p - s + y) = f y := ⟨_, fun _ => rfl⟩
  have HR := Lib.hid (fun y hy gc gk W b0 c0 => role1_any k p s m x y hu hy gc gk W b0 c0)
  simp only [hf] at HR
  have HN : Hid (roleN (p - s) x = if f 0 then 2 else if f 1 then 3 else if f 2 then 4 else 1) := by
    unfold Hid roleN
    simp only [← hf, beq_iff_eq, Int.add_zero]
  clear hf hu
  cases h0 : f 0 <;> cases h1 : f 1 <;> cases h2 : f 2
  all_goals
    go_enter Tryz.func207, Tryz.ntmps207
    go_wp2_with fail
    obtain ⟨W0, hW0⟩ : ∃ W0, (w.alloc (.cells #[.int .i64 k, .int .i64 p, .int .i64 s, .int .i64 m] 130)).alloc (.cells #[.int .i64 x] 3) = W0 := ⟨_, rfl⟩
    have b0 : Blk W0 w.heap.size 130 #[.int .i64 k, .int .i64 p, .int .i64 s, .int .i64 m] := by rw [← hW0]; exact (Blk.new w _ _).alloc _
    have b1 : Blk W0 (w.heap.size + 1) 3 #[.int .i64 x] := by rw [← hW0]; exact Blk.second w _ _ _
    have hB : Below w.heap.size w W0 := by rw [← hW0]; exact below_two w _ _
    rw [hW0]
    clear hW0
    go_wp2_with (go_at_call 217; refine (HR.out _ (by omega) _ _ _ b0 b1.one).mono ?_; rintro e w1 ⟨rfl, hB1⟩; replace b0 := b0.below hB1 b0.lt; replace b1 := b1.below hB1 b1.lt; replace hB := below_in hB hB1)
    go_ret
    exact ⟨ret_i64 (by rw [HN.out, h0, h1, h2]; rfl), hB⟩

end Go.Proofs.YtggdlklkjnbbjaaGreatDoor
