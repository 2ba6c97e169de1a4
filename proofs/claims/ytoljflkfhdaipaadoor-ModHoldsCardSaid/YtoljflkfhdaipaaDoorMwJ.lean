/- The chapter's rows: works answers true. -/
import Derived.Test.YtoljflkfhdaipaaDoorMwI
namespace Go.Proofs.YtoljflkfhdaipaaDoor
open Go.RowKit Go.Shelf
attribute [local go_sem] Oper.semAt_some

set_option maxHeartbeats 400000 in
theorem num_any (x : Int) (w : World) : Calls Tryd.prog 12 #[.int .i64 x] w fun e w' => e = .returned (.int .i64 x) ∧ w = w' := by
  go_enter Tryd.func12, Tryd.ntmps12
  go_wp2
  go_ret
  exact ⟨rfl, rfl⟩

/-- What told tells. -/
def toldB (n e : Int) (f : Bool) (want : Int) : Bool := if f then n == want && e == 0 else n == 0 && e == 2
set_option maxHeartbeats 400000 in
theorem told_any (n e : Int) (f : Bool) (want : Int) (w : World) : Calls Tryd.prog 19 #[.int .i64 n, .int .i64 e, .bool f, .int .i64 want] w fun e' w' => e' = .returned (.bool (toldB n e f want)) ∧ w = w' := by
  cases f with
  | true =>
    cases h : (n == want) with
    | true =>
      have HE : Hid (toldB n e true want = (e == 0)) := by unfold toldB Hid; simp only [if_true, h, Bool.true_and]
      go_enter Tryd.func19, Tryd.ntmps19
      go_wp2_with (go_at_call 12; refine (num_any _ _).mono ?_; rintro e w' ⟨rfl, rfl⟩)
      go_ret
      exact ⟨ret_bool HE.out.symm, rfl⟩
    | false =>
      have HE : Hid (toldB n e true want = false) := by unfold toldB Hid; simp only [if_true, h, Bool.false_and]
      go_enter Tryd.func19, Tryd.ntmps19
      go_wp2_with (go_at_call 12; refine (num_any _ _).mono ?_; rintro e w' ⟨rfl, rfl⟩)
      go_ret
      exact ⟨ret_bool HE.out.symm, rfl⟩
  | false =>
    cases h : (n == 0) with
    | true =>
      have HE : Hid (toldB n e false want = (e == 2)) := by unfold toldB Hid; simp only [Bool.false_eq_true, if_false, h, Bool.true_and]
      go_enter Tryd.func19, Tryd.ntmps19
      go_wp2_with (go_at_call 12; refine (num_any _ _).mono ?_; rintro e w' ⟨rfl, rfl⟩)
      go_ret
      exact ⟨ret_bool HE.out.symm, rfl⟩
    | false =>
      have HE : Hid (toldB n e false want = false) := by unfold toldB Hid; simp only [Bool.false_eq_true, if_false, h, Bool.false_and]
      go_enter Tryd.func19, Tryd.ntmps19
      go_wp2_with (go_at_call 12; refine (num_any _ _).mono ?_; rintro e w' ⟨rfl, rfl⟩)
      go_ret
      exact ⟨ret_bool HE.out.symm, rfl⟩

theorem tells_yes {c : Prop} {n b : Int} {w w' : World} {e : Ending} (hc : c) (h : Tells c n b w e w') : e = .returned (.tuple #[.int .i64 n, .int .i64 0]) ∧ Below w.heap.size w w' := ⟨h.1 hc, h.2.2⟩
theorem tells_no {c : Prop} {n b : Int} {w w' : World} {e : Ending} (hc : ¬ c) (h : Tells c n b w e w') : e = .returned (.tuple #[.int .i64 0, .int .i64 b]) ∧ Below w.heap.size w w' := ⟨h.2.1 hc, h.2.2⟩

/-- What the loop over a walk reckons. -/
def acc (pre : List Int) : Int := pre.foldl (fun (n x : Int) => wrap64 (wrap64 (10 * n) + x)) 0
theorem acc_next (pre : List Int) (x : Int) : acc (pre ++ [x]) = wrap64 (wrap64 (10 * acc pre) + x) := by unfold acc; rw [List.foldl_append]; rfl
theorem acc_row : acc (walkN 3 1 2) = 102 := by decide +kernel

theorem row_of (W : World) (hL : Laid W) : Calls Tryd.prog 11 #[.int .i64 7, .int .i64 (-1)] W fun e w' => e = .returned (.tuple #[.int .i64 6, .int .i64 0]) ∧ Below W.heap.size W w' :=
  (modOf_any 7 (-1) W hL (by omega) (by omega)).mono fun _ _ h => tells_yes (by decide) h
theorem row_mul (W : World) (hL : Laid W) : Calls Tryd.prog 18 #[.int .i64 5, .int .i64 3, .int .i64 4] W fun e w' => e = .returned (.tuple #[.int .i64 2, .int .i64 0]) ∧ Below W.heap.size W w' :=
  (mul_any 5 3 4 W hL).mono fun _ _ h => tells_yes (fine_two.2 (by decide)) h
theorem row_inverse (W : World) (hL : Laid W) : Calls Tryd.prog 23 #[.int .i64 7, .int .i64 3] W fun e w' => e = .returned (.tuple #[.int .i64 5, .int .i64 0]) ∧ Below W.heap.size W w' :=
  (inverse_any 7 3 W hL).mono fun _ _ h => by
    have e : lookN 7 3 (fun n => (n : Int) * 3 % 7 == 1) = (5, 0) := by decide +kernel
    exact ⟨by rw [h.1, e], h.2⟩
theorem row_half (W : World) (hL : Laid W) : Calls Tryd.prog 24 #[.int .i64 5, .int .i64 1] W fun e w' => e = .returned (.tuple #[.int .i64 3, .int .i64 0]) ∧ Below W.heap.size W w' :=
  (half_any 5 1 W hL).mono fun _ _ h => by
    have e : lookN 5 1 (fun n => ((n : Int) + n) % 5 == 1) = (3, 0) := by decide +kernel
    exact ⟨by rw [h.1, e], h.2⟩
theorem row_meet (W : World) (hL : Laid W) : Calls Tryd.prog 27 #[.int .i64 5, .int .i64 0, .int .i64 2, .int .i64 1] W fun e w' => e = .returned (.tuple #[.int .i64 3, .int .i64 0]) ∧ Below W.heap.size W w' :=
  (meet_any 5 0 2 1 W hL (by omega) (by omega)).mono fun _ _ h => by
    have e : meetN 5 0 2 1 = (3, 0) := by decide +kernel
    exact ⟨by rw [h.1, e], h.2⟩
theorem row_meet2 (W : World) (hL : Laid W) : Calls Tryd.prog 27 #[.int .i64 5, .int .i64 0, .int .i64 5, .int .i64 1] W fun e w' => e = .returned (.tuple #[.int .i64 0, .int .i64 5]) ∧ Below W.heap.size W w' :=
  (meet_any 5 0 5 1 W hL (by omega) (by omega)).mono fun _ _ h => by
    have e : meetN 5 0 5 1 = (0, 5) := by decide +kernel
    exact ⟨by rw [h.1, e], h.2⟩
theorem row_of2 (W : World) (hL : Laid W) : Calls Tryd.prog 11 #[.int .i64 4, .int .i64 1] W fun e w' => e = .returned (.tuple #[.int .i64 0, .int .i64 2]) ∧ Below W.heap.size W w' :=
  (modOf_any 4 1 W hL (by omega) (by omega)).mono fun _ _ h => tells_no (by decide) h

set_option maxRecDepth 100000 in
set_option maxHeartbeats 1000000 in
theorem works_any (w : World) (hL : Laid w) :
    Calls Tryd.prog 20 #[] w fun e w' => e = .returned (.bool true) ∧ Below w.heap.size w w' := by
  refine (callsIn_wide (n := 5)).1 ?_
  refine callsIn_of_wp_marks Tryd.func20 rfl trivial ?_ rfl
  simp only [Tryd.ntmps20, List.size_toArray, List.length_nil, Nat.reduceSub, Array.replicate_succ, Array.replicate_zero, List.push_toArray, List.append_toArray, List.nil_append, List.cons_append]
  gi_wp2_with fail
  refine ⟨trivial, (callsIn_wide.2 (row_of _ hL)).mono ?_⟩
  rintro e w1 ⟨rfl, hB1⟩
  have hL1 := hL.next hB1
  gi_wp2_with fail
  refine ⟨trivial, (callsIn_wide.2 (row_mul _ hL1)).mono ?_⟩
  rintro e w2 ⟨rfl, hB2⟩
  have hL2 := hL1.next hB2
  gi_wp2_with fail
  refine ⟨trivial, (callsIn_wide.2 (row_inverse _ hL2)).mono ?_⟩
  rintro e w3 ⟨rfl, hB3⟩
  have hL3 := hL2.next hB3
  gi_wp2_with fail
  refine ⟨trivial, (callsIn_wide.2 (row_half _ hL3)).mono ?_⟩
  rintro e w4 ⟨rfl, hB4⟩
  have hL4 := hL3.next hB4
  gi_wp2_with fail
  refine ⟨trivial, (callsIn_wide.2 (row_meet _ hL4)).mono ?_⟩
  rintro e w5 ⟨rfl, hB5⟩
  have hL5 := hL4.next hB5
  gi_wp2_with fail
  refine ⟨trivial, (callsIn_wide.2 (row_meet2 _ hL5)).mono ?_⟩
  rintro e w6 ⟨rfl, hB6⟩
  have hL6 := hL5.next hB6
  gi_wp2_with fail
  refine ⟨trivial, (callsIn_wide.2 (row_of2 _ hL6)).mono ?_⟩
  rintro e w7 ⟨rfl, hB7⟩
  have hL7 := hL6.next hB7
  have hW7 := below_in (below_in (below_in (below_in (below_in (below_in hB1 hB2) hB3) hB4) hB5) hB6) hB7
  clear hL1 hL2 hL3 hL4 hL5 hL6 hB1 hB2 hB3 hB4 hB5 hB6 hB7
  have hB78 : Below w7.heap.size w7 (w7.alloc (.cells #[.int .i64 0] 3)) := (Below.refl _ _).alloc (Nat.le_refl _) _
  have bn := Blk.new w7 3 #[.int .i64 0]
  gi_wp2_with fail
  refine ⟨trivial, (callsIn_wide.2 (modWalk_any 3 1 2 _ (hL7.next hB78) (by omega) (by omega))).mono ?_⟩
  rintro e w8 ⟨v, rfl, ⟨gf, lb, rfl, eg, eq, hg⟩, hB8⟩
  have hB9 := below_in hB78 hB8
  have bn8 := bn.below hB8 bn.lt
  clear bn hB78 hB8 hg eg
  gi_wp2_with fail
  refine ⟨trivial, (callsIn_wide.2 (modWalk_any 3 1 2 _ (hL7.next hB9) (by omega) (by omega))).mono ?_⟩
  rintro e w9 ⟨v, rfl, ⟨gf, lb, rfl, eg, eq, ⟨kk, hg⟩⟩, hB10⟩
  have hB11 := below_in hB9 hB10
  have bn9 := bn8.below hB10 bn8.lt
  have hs8 := hB10.size
  have hn8 := bn8.lt
  clear bn8 hB9 hB10 eq
  have hs7 := bn9.lt
  gi_wp2_with fail
  refine wpIn_rangeOwn1 rfl (by omega) (gf := gf) (lb := lb) rfl trivial eg (hg _ (by omega)) (by have := hs8; omega) (Below.refl _ _) (fun _ => rfl)
    (fun pre W => Blk W w7.heap.size 3 #[.int .i64 (acc pre)] ∧ Below w7.heap.size w9 W)
    (fun _ _ _ => False)
    ((spares_blk hs7 _ (fun pre : List Int => #[.int .i64 (acc pre)])).and (spares_below (Nat.le_of_lt hs7) (Nat.le_of_lt hs7))) (fun _ _ _ _ _ hs _ _ => hs) ⟨bn9, Below.refl _ _⟩
    ?a1 ?assign ?body ?done ?stop
  case assign =>
    intro l x W K hK
    gi_wp2
    exact hK
  case body =>
    rintro l pre x W hsz ⟨hb, hB⟩ _
    have c0 := hb.one
    have f0 := hb.frozen 0
    have HN := Lib.hid (acc_next pre x)
    generalize acc pre = z at *
    gi_wp2
    refine ⟨Keep.setCell _ (by simp; omega) _, Keep.setCell _ (by simp; omega) _, ?_, hB.setCell (Nat.le_refl _) _⟩
    rw [HN.out]
    exact hb.set_ 0 _
  case done =>
    rintro D ys W hD rfl ⟨hb, hB⟩ hK
    rw [acc_row] at hb
    have c0 := hb.one
    gi_wp2_with (refine ⟨trivial, ?_⟩; gi_at_call 12; refine (callsIn_wide.2 (num_any _ _)).mono ?_; rintro e w' ⟨rfl, rfl⟩)
    refine ⟨by simp, .inl ⟨_, _, rfl, run_takeDeferred hK, ?_⟩⟩
    exact ⟨_, results_tmp rfl _ _ _, rfl, (hW7.trans (((hB11.mono (Nat.le_refl _)).trans hB).mono hW7.size)).trans (belowK_b (w := w) (Nat.le_refl _) _ D _ _ (by have := hB11.size; have := hW7.size; omega) hK rfl rfl)⟩
  case stop =>
    rintro D c pre W _ _ h _
    exact h.elim
end Go.Proofs.YtoljflkfhdaipaaDoor
