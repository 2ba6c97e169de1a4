/- The law ShapePlaces answers true for every input and leaves its arguments as they were. -/
import Derived.Test.YthhgalhabdkikaaDoorSLawKit
import Derived.Test.YthhgalhabdkikaaDoorCards
import Derived.Test.YthhgalhabdkikaaDoorTie
import Derived.SevenTiedAt
namespace Go.Proofs.YthhgalhabdkikaaDoor.shapePlaces
open Go.ChangeShapes Go.WideShapes Go.ChangeAt Go.RowKit Go.Shelf
set_option linter.unusedVariables false
set_option linter.unusedSimpArgs false

theorem take_put {P : Program} {ops : Array Oper} {Q : Exit → Act → World → Prop} {md : Region.Mode} {S : World → Prop} {i : Nat} {oi : Oper} {d : Tmp} {v : Value} {fuel : Nat} {listed : Array Bool} {a : Act} {w : World} (hi : ops[i]? = some oi)
    (hs : Region.noSelect ops = true) (hf : Region.free md ops listed i = true) (hr : (Region.ready md ops listed).contains i = true) (hd : oi.dst = some d)
    (hQ : ∀ c a w, Q (.panic c) (a.put oi.dst v) w → Q (.panic c) a w) (hy : YieldsIf P ops S oi v a) (hS : S w)
    (h : wpAnyH P md ops Q S fuel (listed.setIfInBounds i true) { tmps := a.tmps.setIfInBounds d v, defers := a.defers } w) : wpAnyH P md ops Q S (fuel + 1) listed a w :=
  wpAnyH_take hi hs hf hr hQ hy hS (by unfold Act.put; rw [hd]; exact h)

set_option maxRecDepth 100000 in
set_option maxHeartbeats 4000000 in
theorem walk_no (k p n x y : Int) (w : World) (hL : Laid w) (hR : ¬ RightC k p) :
    Calls Tryd.prog 4 #[.agg #[.int .i64 k, .int .i64 p], .int .i64 n, .agg #[.int .i64 x, .int .i64 y]] w fun e w' => e = .returned (.bool true) ∧ Below w.heap.size w w' := by
  have HRo := Lib.hid (fun W hL => (shapeRole_any k p n W hL).mono fun _ _ h => And.intro (h.1 hR) h.2.2.2)
  have HPl := Lib.hid (fun W hL => (shapePlace_any k p n W hL).mono fun _ _ h => And.intro (h.1 hR) h.2.2.2)
  have HNu := Lib.hid (fun W hL => (shapeNumber_any k p x y W hL).mono fun _ _ h => And.intro (h.1 hR) h.2.2.2)
  have HQ := Lib.hid (fun W => (refRight_any k p W).mono fun _ _ h => And.intro (h.2.1 hR) h.2.2)
  clear hR
  go_enter Tryd.func4, Tryd.ntmps4
  go_wp2_with fail
  obtain ⟨W0, hW0⟩ : ∃ W0, (w.alloc (.cells #[.int .i64 k, .int .i64 p] 24)).alloc (.cells #[.int .i64 x, .int .i64 y] 37) = W0 := ⟨_, rfl⟩
  have b0 : Blk W0 w.heap.size 24 #[.int .i64 k, .int .i64 p] := by rw [← hW0]; exact (Blk.new w _ _).alloc _
  have b1 : Blk W0 (w.heap.size + 1) 37 #[.int .i64 x, .int .i64 y] := by rw [← hW0]; exact Blk.second w _ _ _
  have hB : Below w.heap.size w W0 := by rw [← hW0]; exact below_two w _ _
  replace hL := hL.next hB
  try rw [hW0]
  clear hW0
  refine (HRo.out _ hL).mono ?_
  rintro e w1 ⟨rfl, hB1⟩
  (first | replace b0 := b0.below hB1 b0.lt | replace b0 := b0.nextd hB1)
  (first | replace b1 := b1.below hB1 b1.lt | replace b1 := b1.nextd hB1)
  (first | replace hL := hL.next hB1 | replace hL := hL.next (below_undrew hB1))
  (first | replace hB := below_in hB hB1 | replace hB := below_in hB.drew hB1)
  have c0 := b0.cell 0
  have c1 := b0.cell 1
  have a0 := b1.cell 0
  have a1 := b1.cell 1
  simp only [List.getElem?_toArray, List.getElem?_cons_zero, List.getElem?_cons_succ] at c0 c1 a0 a1
  go_wp2_with fail
  refine (HPl.out _ hL).mono ?_
  rintro e wp ⟨rfl, hB1⟩
  (first | replace b0 := b0.below hB1 b0.lt | replace b0 := b0.nextd hB1)
  (first | replace b1 := b1.below hB1 b1.lt | replace b1 := b1.nextd hB1)
  (first | replace hL := hL.next hB1 | replace hL := hL.next (below_undrew hB1))
  (first | replace hB := below_in hB hB1 | replace hB := below_in hB.drew hB1)
  have c0 := b0.cell 0
  have c1 := b0.cell 1
  have a0 := b1.cell 0
  have a1 := b1.cell 1
  simp only [List.getElem?_toArray, List.getElem?_cons_zero, List.getElem?_cons_succ] at c0 c1 a0 a1
  have b2 := Blk.new wp 37 #[.int .i64 0, .int .i64 0]
  replace b0 := b0.alloc (.cells #[.int .i64 0, .int .i64 0] 37)
  replace b1 := b1.alloc (.cells #[.int .i64 0, .int .i64 0] 37)
  have hB1 := below_one wp (.cells #[.int .i64 0, .int .i64 0] 37)
  replace hL := hL.next hB1
  replace hB := below_in hB hB1
  clear hB1
  have c0 := b0.cell 0
  have c1 := b0.cell 1
  have a0 := b1.cell 0
  have a1 := b1.cell 1
  simp only [List.getElem?_toArray, List.getElem?_cons_zero, List.getElem?_cons_succ] at c0 c1 a0 a1
  have e0 := b2.cell 0
  have e1 := b2.cell 1
  simp only [List.getElem?_toArray, List.getElem?_cons_zero, List.getElem?_cons_succ] at e0 e1
  go_wp2_with fail
  refine (HNu.out _ hL).mono ?_
  rintro e w1 ⟨rfl, hB1⟩
  (first | replace b0 := b0.below hB1 b0.lt | replace b0 := b0.nextd hB1)
  (first | replace b1 := b1.below hB1 b1.lt | replace b1 := b1.nextd hB1)
  (first | replace b2 := b2.below hB1 b2.lt | replace b2 := b2.nextd hB1)
  (first | replace hL := hL.next hB1 | replace hL := hL.next (below_undrew hB1))
  (first | replace hB := below_in hB hB1 | replace hB := below_in hB.drew hB1)
  have c0 := b0.cell 0
  have c1 := b0.cell 1
  have a0 := b1.cell 0
  have a1 := b1.cell 1
  simp only [List.getElem?_toArray, List.getElem?_cons_zero, List.getElem?_cons_succ] at c0 c1 a0 a1
  have e0 := b2.cell 0
  have e1 := b2.cell 1
  simp only [List.getElem?_toArray, List.getElem?_cons_zero, List.getElem?_cons_succ] at e0 e1
  clear hB1
  go_wp2_with (first
    | (go_at_call 8; refine (HQ.out _).mono ?_; rintro e w1 ⟨rfl, hB1⟩; (first | replace b0 := b0.below hB1 b0.lt | replace b0 := b0.nextd hB1); (first | replace b1 := b1.below hB1 b1.lt | replace b1 := b1.nextd hB1); (first | replace b2 := b2.below hB1 b2.lt | replace b2 := b2.nextd hB1); (first | replace hL := hL.next hB1 | replace hL := hL.next (below_undrew hB1)); (first | replace hB := below_in hB hB1 | replace hB := below_in hB.drew hB1); have c0 := b0.cell 0; have c1 := b0.cell 1; have a0 := b1.cell 0; have a1 := b1.cell 1; simp only [List.getElem?_toArray, List.getElem?_cons_zero, List.getElem?_cons_succ] at c0 c1 a0 a1; have e0 := b2.cell 0; have e1 := b2.cell 1; simp only [List.getElem?_toArray, List.getElem?_cons_zero, List.getElem?_cons_succ] at e0 e1)
    | (go_at_call 19; refine (num_any _ _).mono ?_; rintro e w' ⟨rfl, rfl⟩)
    | (go_at_call 22; refine (works_any _ hL).mono ?_; rintro e w' ⟨rfl, hB1⟩))
  go_ret
  exact ⟨rfl, below_in hB hB1⟩

set_option maxRecDepth 100000 in
set_option maxHeartbeats 4000000 in
theorem walk_yes (k p n x y : Int) (w : World) (hL : Laid w) (hR : RightC k p) (r er q0 q1 ep kn en : Int)
    (hro : ∀ W, Laid W → Calls Tryd.prog 23 #[.agg #[.int .i64 k, .int .i64 p], .int .i64 n] W fun e w' => e = .returned (.tuple #[.int .i64 r, .int .i64 er]) ∧ Below W.heap.size W w')
    (hpl : ∀ W, Laid W → Calls Tryd.prog 24 #[.agg #[.int .i64 k, .int .i64 p], .int .i64 n] W fun e w' => e = .returned (.tuple #[.agg #[.int .i64 q0, .int .i64 q1], .int .i64 ep]) ∧ Below W.heap.size W w')
    (hnu : ∀ W, Laid W → Calls Tryd.prog 25 #[.agg #[.int .i64 k, .int .i64 p], .agg #[.int .i64 x, .int .i64 y]] W fun e w' => e = .returned (.tuple #[.int .i64 kn, .int .i64 en]) ∧ Below W.heap.size W w')
    (hr : (HasCol k p n ∧ r = rroleN (p - shortN k) n ∧ er = 0) ∨ (¬ HasCol k p n ∧ r = 0 ∧ er = 4))
    (hp : (HasNum k p n ∧ q0 = n % (p - shortN k) ∧ q1 = n / (p - shortN k) ∧ ep = 0) ∨ (¬ HasNum k p n ∧ q0 = 0 ∧ q1 = 0 ∧ ep = 4))
    (hn : (HasData k p x y ∧ kn = y * (p - shortN k) + x ∧ en = 0) ∨ (¬ HasData k p x y ∧ kn = 0 ∧ en = 4)) :
    Calls Tryd.prog 4 #[.agg #[.int .i64 k, .int .i64 p], .int .i64 n, .agg #[.int .i64 x, .int .i64 y]] w fun e w' => e = .returned (.bool true) ∧ Below w.heap.size w w' := by
  obtain ⟨p1, p2, s1, s2, m1, m2⟩ := hR.und
  have HRo := Lib.hid hro
  have HPl := Lib.hid hpl
  have HNu := Lib.hid hnu
  have HQ := Lib.hid (fun W => (refRight_any k p W).mono fun _ _ h => And.intro (h.1 hR) h.2.2)
  have HCo := Lib.hid (fun W => refCols_any k p hR W)
  have HDa := Lib.hid (fun W => refData_any k p hR W)
  have HRw := Lib.hid (fun W => refRows_any k p hR W)
  have HR4 := Lib.hid (fun hx W => refRole_any k p n hR hx W)
  have HP4 := Lib.hid (fun h1 h2 W => refPlace_any k p n hR h1 h2 W)
  have HTh := Lib.hid (fun W => refThere_any k p x y hR W)
  have HrR := Lib.hid hr
  have HrP := Lib.hid hp
  have HrN := Lib.hid hn
  clear hro hpl hnu hr hp hn hR
  go_enter Tryd.func4, Tryd.ntmps4
  go_wp2_with fail
  obtain ⟨W0, hW0⟩ : ∃ W0, (w.alloc (.cells #[.int .i64 k, .int .i64 p] 24)).alloc (.cells #[.int .i64 x, .int .i64 y] 37) = W0 := ⟨_, rfl⟩
  have b0 : Blk W0 w.heap.size 24 #[.int .i64 k, .int .i64 p] := by rw [← hW0]; exact (Blk.new w _ _).alloc _
  have b1 : Blk W0 (w.heap.size + 1) 37 #[.int .i64 x, .int .i64 y] := by rw [← hW0]; exact Blk.second w _ _ _
  have hB : Below w.heap.size w W0 := by rw [← hW0]; exact below_two w _ _
  replace hL := hL.next hB
  try rw [hW0]
  clear hW0
  refine (HRo.out _ hL).mono ?_
  rintro e w1 ⟨rfl, hB1⟩
  (first | replace b0 := b0.below hB1 b0.lt | replace b0 := b0.nextd hB1)
  (first | replace b1 := b1.below hB1 b1.lt | replace b1 := b1.nextd hB1)
  (first | replace hL := hL.next hB1 | replace hL := hL.next (below_undrew hB1))
  (first | replace hB := below_in hB hB1 | replace hB := below_in hB.drew hB1)
  have c0 := b0.cell 0
  have c1 := b0.cell 1
  have a0 := b1.cell 0
  have a1 := b1.cell 1
  simp only [List.getElem?_toArray, List.getElem?_cons_zero, List.getElem?_cons_succ] at c0 c1 a0 a1
  go_wp2_with fail
  refine (HPl.out _ hL).mono ?_
  rintro e wp ⟨rfl, hB1⟩
  (first | replace b0 := b0.below hB1 b0.lt | replace b0 := b0.nextd hB1)
  (first | replace b1 := b1.below hB1 b1.lt | replace b1 := b1.nextd hB1)
  (first | replace hL := hL.next hB1 | replace hL := hL.next (below_undrew hB1))
  (first | replace hB := below_in hB hB1 | replace hB := below_in hB.drew hB1)
  have c0 := b0.cell 0
  have c1 := b0.cell 1
  have a0 := b1.cell 0
  have a1 := b1.cell 1
  simp only [List.getElem?_toArray, List.getElem?_cons_zero, List.getElem?_cons_succ] at c0 c1 a0 a1
  have b2 := Blk.new wp 37 #[.int .i64 q0, .int .i64 q1]
  replace b0 := b0.alloc (.cells #[.int .i64 q0, .int .i64 q1] 37)
  replace b1 := b1.alloc (.cells #[.int .i64 q0, .int .i64 q1] 37)
  have hB1 := below_one wp (.cells #[.int .i64 q0, .int .i64 q1] 37)
  replace hL := hL.next hB1
  replace hB := below_in hB hB1
  clear hB1
  have c0 := b0.cell 0
  have c1 := b0.cell 1
  have a0 := b1.cell 0
  have a1 := b1.cell 1
  simp only [List.getElem?_toArray, List.getElem?_cons_zero, List.getElem?_cons_succ] at c0 c1 a0 a1
  have e0 := b2.cell 0
  have e1 := b2.cell 1
  simp only [List.getElem?_toArray, List.getElem?_cons_zero, List.getElem?_cons_succ] at e0 e1
  go_wp2_with fail
  refine (HNu.out _ hL).mono ?_
  rintro e w1 ⟨rfl, hB1⟩
  (first | replace b0 := b0.below hB1 b0.lt | replace b0 := b0.nextd hB1)
  (first | replace b1 := b1.below hB1 b1.lt | replace b1 := b1.nextd hB1)
  (first | replace b2 := b2.below hB1 b2.lt | replace b2 := b2.nextd hB1)
  (first | replace hL := hL.next hB1 | replace hL := hL.next (below_undrew hB1))
  (first | replace hB := below_in hB hB1 | replace hB := below_in hB.drew hB1)
  have c0 := b0.cell 0
  have c1 := b0.cell 1
  have a0 := b1.cell 0
  have a1 := b1.cell 1
  simp only [List.getElem?_toArray, List.getElem?_cons_zero, List.getElem?_cons_succ] at c0 c1 a0 a1
  have e0 := b2.cell 0
  have e1 := b2.cell 1
  simp only [List.getElem?_toArray, List.getElem?_cons_zero, List.getElem?_cons_succ] at e0 e1
  clear hB1
  go_upto_region 6 with (go_at_call 8; refine (HQ.out _).mono ?_; rintro e w1 ⟨rfl, hB1⟩; (first | replace b0 := b0.below hB1 b0.lt | replace b0 := b0.nextd hB1); (first | replace b1 := b1.below hB1 b1.lt | replace b1 := b1.nextd hB1); (first | replace b2 := b2.below hB1 b2.lt | replace b2 := b2.nextd hB1); (first | replace hL := hL.next hB1 | replace hL := hL.next (below_undrew hB1)); (first | replace hB := below_in hB hB1 | replace hB := below_in hB.drew hB1); have c0 := b0.cell 0; have c1 := b0.cell 1; have a0 := b1.cell 0; have a1 := b1.cell 1; simp only [List.getElem?_toArray, List.getElem?_cons_zero, List.getElem?_cons_succ] at c0 c1 a0 a1; have e0 := b2.cell 0; have e1 := b2.cell 1; simp only [List.getElem?_toArray, List.getElem?_cons_zero, List.getElem?_cons_succ] at e0 e1)
  go_cut [70] (fun s wx => ∃ b, s = .bool b ∧ Hid ((b = false ∧ HasCol k p n ∧ r = rroleN (p - shortN k) n ∧ er = 0) ∨ (b = true ∧ r = 0 ∧ er = 4)) ∧ Blk wx w.heap.size 24 #[.int .i64 k, .int .i64 p] ∧ Blk wx (w.heap.size + 1) 37 #[.int .i64 x, .int .i64 y] ∧ Blk wx wp.heap.size 37 #[.int .i64 q0, .int .i64 q1] ∧ Laid wx ∧ Below w.heap.size w wx)
  case first =>
    by_cases h1 : n < 0
    · have d1 : decide (n < 0) = true := decide_eq_true h1
      have HX := Lib.hid (HrR.out.resolve_left (fun h => by have := h.1.1; omega))
      go_wp2_with fail
      go_meet
      exact ⟨true, rfl, Lib.hid (.inr ⟨rfl, HX.out.2⟩), b0, b1, b2, hL, hB⟩
    · have d1 : decide (n < 0) = false := decide_eq_false h1
      by_cases h2 : p - shortN k + madeN k ≤ n
      · have d2 : decide (p - shortN k + madeN k ≤ n) = true := decide_eq_true h2
        have HX := Lib.hid (HrR.out.resolve_left (fun h => by have := h.1.2; omega))
        go_wp2_with (go_at_call 11; refine (HCo.out _).mono ?_; rintro e w1 ⟨rfl, hB1⟩; (first | replace b0 := b0.below hB1 b0.lt | replace b0 := b0.nextd hB1); (first | replace b1 := b1.below hB1 b1.lt | replace b1 := b1.nextd hB1); (first | replace b2 := b2.below hB1 b2.lt | replace b2 := b2.nextd hB1); (first | replace hL := hL.next hB1 | replace hL := hL.next (below_undrew hB1)); (first | replace hB := below_in hB hB1 | replace hB := below_in hB.drew hB1); have c0 := b0.cell 0; have c1 := b0.cell 1; have a0 := b1.cell 0; have a1 := b1.cell 1; simp only [List.getElem?_toArray, List.getElem?_cons_zero, List.getElem?_cons_succ] at c0 c1 a0 a1; have e0 := b2.cell 0; have e1 := b2.cell 1; simp only [List.getElem?_toArray, List.getElem?_cons_zero, List.getElem?_cons_succ] at e0 e1)
        go_meet
        exact ⟨true, rfl, Lib.hid (.inr ⟨rfl, HX.out.2⟩), b0, b1, b2, hL, hB⟩
      · have d2 : decide (p - shortN k + madeN k ≤ n) = false := decide_eq_false h2
        have HX := Lib.hid (HrR.out.resolve_right (fun h => h.1 ⟨by omega, by omega⟩))
        go_wp2_with (go_at_call 11; refine (HCo.out _).mono ?_; rintro e w1 ⟨rfl, hB1⟩; (first | replace b0 := b0.below hB1 b0.lt | replace b0 := b0.nextd hB1); (first | replace b1 := b1.below hB1 b1.lt | replace b1 := b1.nextd hB1); (first | replace b2 := b2.below hB1 b2.lt | replace b2 := b2.nextd hB1); (first | replace hL := hL.next hB1 | replace hL := hL.next (below_undrew hB1)); (first | replace hB := below_in hB hB1 | replace hB := below_in hB.drew hB1); have c0 := b0.cell 0; have c1 := b0.cell 1; have a0 := b1.cell 0; have a1 := b1.cell 1; simp only [List.getElem?_toArray, List.getElem?_cons_zero, List.getElem?_cons_succ] at c0 c1 a0 a1; have e0 := b2.cell 0; have e1 := b2.cell 1; simp only [List.getElem?_toArray, List.getElem?_cons_zero, List.getElem?_cons_succ] at e0 e1)
        go_meet
        exact ⟨false, rfl, Lib.hid (.inl ⟨rfl, HX.out⟩), b0, b1, b2, hL, hB⟩
  case rest =>
  obtain ⟨b, rfl, Hb, b0, b1, b2, hL, hB⟩ := hcut
  clear c0 c1 a0 a1 e0 e1
  have c0 := b0.cell 0
  have c1 := b0.cell 1
  have a0 := b1.cell 0
  have a1 := b1.cell 1
  simp only [List.getElem?_toArray, List.getElem?_cons_zero, List.getElem?_cons_succ] at c0 c1 a0 a1
  have e0 := b2.cell 0
  have e1 := b2.cell 1
  simp only [List.getElem?_toArray, List.getElem?_cons_zero, List.getElem?_cons_succ] at e0 e1
  go_upto_if 70 with fail
  go_cut [] (fun wx => Blk wx w.heap.size 24 #[.int .i64 k, .int .i64 p] ∧ Blk wx (w.heap.size + 1) 37 #[.int .i64 x, .int .i64 y] ∧ Blk wx wp.heap.size 37 #[.int .i64 q0, .int .i64 q1] ∧ Laid wx ∧ Below w.heap.size w wx)
  case first =>
    rcases Hb.out with ⟨rfl, hc, hr1, hr2⟩ | ⟨rfl, hr1, hr2⟩
    · subst hr1 hr2
      clear Hb HRo HrR
      have HX := Lib.hid (HR4.out (by have := hc.1; have := hc.2; omega))
      clear hc
      go_wp2_with (first | (go_at_call 26; refine (HX.out _).mono ?_; rintro e w1 ⟨rfl, hB1⟩; (first | replace b0 := b0.below hB1 b0.lt | replace b0 := b0.nextd hB1); (first | replace b1 := b1.below hB1 b1.lt | replace b1 := b1.nextd hB1); (first | replace b2 := b2.below hB1 b2.lt | replace b2 := b2.nextd hB1); (first | replace hL := hL.next hB1 | replace hL := hL.next (below_undrew hB1)); (first | replace hB := below_in hB hB1 | replace hB := below_in hB.drew hB1); have c0 := b0.cell 0; have c1 := b0.cell 1; have a0 := b1.cell 0; have a1 := b1.cell 1; simp only [List.getElem?_toArray, List.getElem?_cons_zero, List.getElem?_cons_succ] at c0 c1 a0 a1; have e0 := b2.cell 0; have e1 := b2.cell 1; simp only [List.getElem?_toArray, List.getElem?_cons_zero, List.getElem?_cons_succ] at e0 e1) | (go_at_call 19; refine (num_any _ _).mono ?_; rintro e w' ⟨rfl, rfl⟩))
      go_meet
      exact ⟨b0, b1, b2, hL, hB⟩
    · subst hr1 hr2
      clear Hb HRo HrR
      go_wp2_with (go_at_call 19; refine (num_any _ _).mono ?_; rintro e w' ⟨rfl, rfl⟩)
      go_meet
      exact ⟨b0, b1, b2, hL, hB⟩
  case rest =>
  obtain ⟨b0, b1, b2, hL, hB⟩ := hcut
  clear c0 c1 a0 a1 e0 e1 Hb
  have c0 := b0.cell 0
  have c1 := b0.cell 1
  have a0 := b1.cell 0
  have a1 := b1.cell 1
  simp only [List.getElem?_toArray, List.getElem?_cons_zero, List.getElem?_cons_succ] at c0 c1 a0 a1
  have e0 := b2.cell 0
  have e1 := b2.cell 1
  simp only [List.getElem?_toArray, List.getElem?_cons_zero, List.getElem?_cons_succ] at e0 e1
  go_upto_region 11 with fail
  go_cut [98] (fun s wx => ∃ b, s = .bool b ∧ Hid ((b = false ∧ HasNum k p n ∧ q0 = n % (p - shortN k) ∧ q1 = n / (p - shortN k) ∧ ep = 0) ∨ (b = true ∧ q0 = 0 ∧ q1 = 0 ∧ ep = 4)) ∧ Blk wx w.heap.size 24 #[.int .i64 k, .int .i64 p] ∧ Blk wx (w.heap.size + 1) 37 #[.int .i64 x, .int .i64 y] ∧ Blk wx wp.heap.size 37 #[.int .i64 q0, .int .i64 q1] ∧ Laid wx ∧ Below w.heap.size w wx)
  case first =>
    by_cases h1 : n < 0
    · have d1 : decide (n < 0) = true := decide_eq_true h1
      have HX := Lib.hid (HrP.out.resolve_left (fun h => by have := h.1.1; omega))
      go_quiet (fail)
      go_wp2
      go_meet
      exact ⟨true, rfl, Lib.hid (.inr ⟨rfl, HX.out.2⟩), b0, b1, b2, hL.next (below_drewN (Below.refl _ _) _), below_drewN hB _⟩
    · have d1 : decide (n < 0) = false := decide_eq_false h1
      have z0 : 0 ≤ (p - shortN k) * (p - 1) := Int.mul_nonneg (by omega) (by omega)
      have z1 : (p - shortN k) * (p - 1) ≤ 1000 := by have := Int.mul_le_mul (show p - shortN k ≤ 17 by omega) (show p - 1 ≤ 17 by omega) (by omega) (by omega); omega
      have HX : ∃ z, IntKind.i64.wrap ((p - shortN k) * (p - 1)) = z ∧ Hid (HasNum k p n ↔ ¬ z ≤ n) := ⟨(p - shortN k) * (p - 1), IntWalk.i64_in _ (by omega), by unfold Hid HasNum; omega⟩
      obtain ⟨z, z2, HZ⟩ := HX
      clear z0 z1
      by_cases h2 : z ≤ n
      · have d2 : decide (z ≤ n) = true := decide_eq_true h2
        have HX := Lib.hid (HrP.out.resolve_left (fun h => HZ.out.1 h.1 h2))
        go_region_held3 (fun W => W.cell? ⟨w.heap.size, 0, none⟩ = some (.int .i64 k) ∧ W.cell? ⟨w.heap.size, 1, none⟩ = some (.int .i64 p))
          (exact ⟨b0.cell 0, b0.cell 1⟩) (first
          | (go_at_call 10; refine (HDa.out _).mono ?_; rintro e w1 ⟨rfl, hB1⟩; (first | replace b0 := b0.below hB1 b0.lt | replace b0 := b0.nextd hB1); (first | replace b1 := b1.below hB1 b1.lt | replace b1 := b1.nextd hB1); (first | replace b2 := b2.below hB1 b2.lt | replace b2 := b2.nextd hB1); (first | replace hL := hL.next hB1 | replace hL := hL.next (below_undrew hB1)); (first | replace hB := below_in hB hB1 | replace hB := below_in hB.drew hB1))
          | (go_at_call 9; refine (HRw.out _).mono ?_; rintro e w1 ⟨rfl, hB1⟩; (first | replace b0 := b0.below hB1 b0.lt | replace b0 := b0.nextd hB1); (first | replace b1 := b1.below hB1 b1.lt | replace b1 := b1.nextd hB1); (first | replace b2 := b2.below hB1 b2.lt | replace b2 := b2.nextd hB1); (first | replace hL := hL.next hB1 | replace hL := hL.next (below_undrew hB1)); (first | replace hB := below_in hB hB1 | replace hB := below_in hB.drew hB1)))
        all_goals go_wp2
        all_goals go_meet
        all_goals exact ⟨true, rfl, Lib.hid (.inr ⟨rfl, HX.out.2⟩), b0, b1, b2, hL, hB⟩
      · have d2 : decide (z ≤ n) = false := decide_eq_false h2
        have HX := Lib.hid (HrP.out.resolve_right (fun h => h.1 (HZ.out.2 h2)))
        go_region_held3 (fun W => W.cell? ⟨w.heap.size, 0, none⟩ = some (.int .i64 k) ∧ W.cell? ⟨w.heap.size, 1, none⟩ = some (.int .i64 p))
          (exact ⟨b0.cell 0, b0.cell 1⟩) (first
          | (go_at_call 10; refine (HDa.out _).mono ?_; rintro e w1 ⟨rfl, hB1⟩; (first | replace b0 := b0.below hB1 b0.lt | replace b0 := b0.nextd hB1); (first | replace b1 := b1.below hB1 b1.lt | replace b1 := b1.nextd hB1); (first | replace b2 := b2.below hB1 b2.lt | replace b2 := b2.nextd hB1); (first | replace hL := hL.next hB1 | replace hL := hL.next (below_undrew hB1)); (first | replace hB := below_in hB hB1 | replace hB := below_in hB.drew hB1))
          | (go_at_call 9; refine (HRw.out _).mono ?_; rintro e w1 ⟨rfl, hB1⟩; (first | replace b0 := b0.below hB1 b0.lt | replace b0 := b0.nextd hB1); (first | replace b1 := b1.below hB1 b1.lt | replace b1 := b1.nextd hB1); (first | replace b2 := b2.below hB1 b2.lt | replace b2 := b2.nextd hB1); (first | replace hL := hL.next hB1 | replace hL := hL.next (below_undrew hB1)); (first | replace hB := below_in hB hB1 | replace hB := below_in hB.drew hB1)))
        all_goals go_wp2
        all_goals go_meet
        all_goals exact ⟨false, rfl, Lib.hid (.inl ⟨rfl, HX.out⟩), b0, b1, b2, hL, hB⟩
  case rest =>
  obtain ⟨b, rfl, Hb, b0, b1, b2, hL, hB⟩ := hcut
  clear c0 c1 a0 a1 e0 e1
  have c0 := b0.cell 0
  have c1 := b0.cell 1
  have a0 := b1.cell 0
  have a1 := b1.cell 1
  simp only [List.getElem?_toArray, List.getElem?_cons_zero, List.getElem?_cons_succ] at c0 c1 a0 a1
  have e0 := b2.cell 0
  have e1 := b2.cell 1
  simp only [List.getElem?_toArray, List.getElem?_cons_zero, List.getElem?_cons_succ] at e0 e1
  go_upto_if 98 with fail
  go_cut [] (fun wx => Blk wx w.heap.size 24 #[.int .i64 k, .int .i64 p] ∧ Blk wx (w.heap.size + 1) 37 #[.int .i64 x, .int .i64 y] ∧ Blk wx wp.heap.size 37 #[.int .i64 q0, .int .i64 q1] ∧ Laid wx ∧ Below w.heap.size w wx)
  case first =>
    rcases Hb.out with ⟨rfl, hc, h1, h2, h3⟩ | ⟨rfl, h1, h2, h3⟩
    · have HX := HP4.out hc.1 (num_lt ⟨p1, p2, s1, s2, m1, m2⟩ hc)
      rw [← h1, ← h2] at HX
      replace HX := Lib.hid HX
      subst h3
      clear Hb HPl HrP hc h1 h2
      go_upto_region 14 with fail
      go_region_held3 (fun W => W.cell? ⟨w.heap.size, 0, none⟩ = some (.int .i64 k) ∧ W.cell? ⟨w.heap.size, 1, none⟩ = some (.int .i64 p) ∧ W.cell? ⟨wp.heap.size, 0, none⟩ = some (.int .i64 q0) ∧ W.cell? ⟨wp.heap.size, 1, none⟩ = some (.int .i64 q1))
        (exact ⟨b0.cell 0, b0.cell 1, b2.cell 0, b2.cell 1⟩) (first
        | (go_at_call 27; refine (HX.out _).mono ?_; rintro e w1 ⟨rfl, hB1⟩; (first | replace b0 := b0.below hB1 b0.lt | replace b0 := b0.nextd hB1); (first | replace b1 := b1.below hB1 b1.lt | replace b1 := b1.nextd hB1); (first | replace b2 := b2.below hB1 b2.lt | replace b2 := b2.nextd hB1); (first | replace hL := hL.next hB1 | replace hL := hL.next (below_undrew hB1)); (first | replace hB := below_in hB hB1 | replace hB := below_in hB.drew hB1))
        | (go_at_call 19; refine (num_any _ _).mono ?_; rintro e w' ⟨rfl, rfl⟩))
      all_goals go_wp2
      all_goals go_meet
      all_goals exact ⟨b0, b1, b2, hL, hB⟩
    · subst h1 h2 h3
      clear Hb HPl HrP
      go_wp2_with (go_at_call 19; refine (num_any _ _).mono ?_; rintro e w' ⟨rfl, rfl⟩)
      go_meet
      exact ⟨b0, b1, b2, hL, hB⟩
  case rest =>
  obtain ⟨b0, b1, b2, hL, hB⟩ := hcut
  clear c0 c1 a0 a1 e0 e1 Hb
  have c0 := b0.cell 0
  have c1 := b0.cell 1
  have a0 := b1.cell 0
  have a1 := b1.cell 1
  simp only [List.getElem?_toArray, List.getElem?_cons_zero, List.getElem?_cons_succ] at c0 c1 a0 a1
  have e0 := b2.cell 0
  have e1 := b2.cell 1
  simp only [List.getElem?_toArray, List.getElem?_cons_zero, List.getElem?_cons_succ] at e0 e1
  go_upto_region 16 with fail
  go_cut [127] (fun s wx => ∃ b, s = .bool b ∧ Hid ((b = false ∧ HasData k p x y ∧ kn = y * (p - shortN k) + x ∧ en = 0) ∨ (b = true ∧ kn = 0 ∧ en = 4)) ∧ Blk wx w.heap.size 24 #[.int .i64 k, .int .i64 p] ∧ Blk wx (w.heap.size + 1) 37 #[.int .i64 x, .int .i64 y] ∧ Blk wx wp.heap.size 37 #[.int .i64 q0, .int .i64 q1] ∧ Laid wx ∧ Below w.heap.size w wx)
  case first =>
    by_cases h1 : HasCell k p x y
    · have HT := Lib.hid (fun W => (HTh.out W).mono fun _ _ h => And.intro (h.1 h1) h.2.2)
      by_cases h2 : p - shortN k ≤ x
      · have d2 : decide (p - shortN k ≤ x) = true := decide_eq_true h2
        have HX := Lib.hid (HrN.out.resolve_left (fun h => by have := h.1.1.2; omega))
        go_region_held3 (fun W => W.cell? ⟨w.heap.size, 0, none⟩ = some (.int .i64 k) ∧ W.cell? ⟨w.heap.size, 1, none⟩ = some (.int .i64 p) ∧ W.cell? ⟨w.heap.size + 1, 0, none⟩ = some (.int .i64 x) ∧ W.cell? ⟨w.heap.size + 1, 1, none⟩ = some (.int .i64 y))
          (exact ⟨b0.cell 0, b0.cell 1, b1.cell 0, b1.cell 1⟩) (first
          | (go_at_call 28; refine (HT.out _).mono ?_; rintro e w1 ⟨rfl, hB1⟩; (first | replace b0 := b0.below hB1 b0.lt | replace b0 := b0.nextd hB1); (first | replace b1 := b1.below hB1 b1.lt | replace b1 := b1.nextd hB1); (first | replace b2 := b2.below hB1 b2.lt | replace b2 := b2.nextd hB1); (first | replace hL := hL.next hB1 | replace hL := hL.next (below_undrew hB1)); (first | replace hB := below_in hB hB1 | replace hB := below_in hB.drew hB1))
          | (go_at_call 10; refine (HDa.out _).mono ?_; rintro e w1 ⟨rfl, hB1⟩; (first | replace b0 := b0.below hB1 b0.lt | replace b0 := b0.nextd hB1); (first | replace b1 := b1.below hB1 b1.lt | replace b1 := b1.nextd hB1); (first | replace b2 := b2.below hB1 b2.lt | replace b2 := b2.nextd hB1); (first | replace hL := hL.next hB1 | replace hL := hL.next (below_undrew hB1)); (first | replace hB := below_in hB hB1 | replace hB := below_in hB.drew hB1)))
        all_goals go_wp2
        all_goals go_meet
        all_goals exact ⟨true, rfl, Lib.hid (.inr ⟨rfl, HX.out.2⟩), b0, b1, b2, hL, hB⟩
      · have d2 : decide (p - shortN k ≤ x) = false := decide_eq_false h2
        have HX := Lib.hid (HrN.out.resolve_right (fun h => h.1 ⟨⟨h1.1.1, by omega⟩, h1.2⟩))
        go_region_held3 (fun W => W.cell? ⟨w.heap.size, 0, none⟩ = some (.int .i64 k) ∧ W.cell? ⟨w.heap.size, 1, none⟩ = some (.int .i64 p) ∧ W.cell? ⟨w.heap.size + 1, 0, none⟩ = some (.int .i64 x) ∧ W.cell? ⟨w.heap.size + 1, 1, none⟩ = some (.int .i64 y))
          (exact ⟨b0.cell 0, b0.cell 1, b1.cell 0, b1.cell 1⟩) (first
          | (go_at_call 28; refine (HT.out _).mono ?_; rintro e w1 ⟨rfl, hB1⟩; (first | replace b0 := b0.below hB1 b0.lt | replace b0 := b0.nextd hB1); (first | replace b1 := b1.below hB1 b1.lt | replace b1 := b1.nextd hB1); (first | replace b2 := b2.below hB1 b2.lt | replace b2 := b2.nextd hB1); (first | replace hL := hL.next hB1 | replace hL := hL.next (below_undrew hB1)); (first | replace hB := below_in hB hB1 | replace hB := below_in hB.drew hB1))
          | (go_at_call 10; refine (HDa.out _).mono ?_; rintro e w1 ⟨rfl, hB1⟩; (first | replace b0 := b0.below hB1 b0.lt | replace b0 := b0.nextd hB1); (first | replace b1 := b1.below hB1 b1.lt | replace b1 := b1.nextd hB1); (first | replace b2 := b2.below hB1 b2.lt | replace b2 := b2.nextd hB1); (first | replace hL := hL.next hB1 | replace hL := hL.next (below_undrew hB1)); (first | replace hB := below_in hB hB1 | replace hB := below_in hB.drew hB1)))
        all_goals go_wp2
        all_goals go_meet
        all_goals exact ⟨false, rfl, Lib.hid (.inl ⟨rfl, HX.out⟩), b0, b1, b2, hL, hB⟩
    · have HT := Lib.hid (fun W => (HTh.out W).mono fun _ _ h => And.intro (h.2.1 h1) h.2.2)
      have HX := Lib.hid (HrN.out.resolve_left (fun h => h1 ⟨⟨h.1.1.1, by have := h.1.1.2; omega⟩, h.1.2⟩))
      refine wp_region_held_drew (S := fun W => W.cell? ⟨w.heap.size, 0, none⟩ = some (.int .i64 k) ∧ W.cell? ⟨w.heap.size, 1, none⟩ = some (.int .i64 p) ∧ W.cell? ⟨w.heap.size + 1, 0, none⟩ = some (.int .i64 x) ∧ W.cell? ⟨w.heap.size + 1, 1, none⟩ = some (.int .i64 y)) (by kernel_rfl) ⟨c0, c1, a0, a1⟩ (fun hS => ?_)
      refine take_put (i := 0) (d := 117) (v := (.agg #[.int .i64 k, .int .i64 p])) rfl (by kernel_rfl) (by kernel_rfl) (by kernel_rfl) rfl (fun _ _ _ h => h) (Or.inl ⟨by rfl, fun w hS => by obtain ⟨h0, h1, h2, h3⟩ := hS; go_simp⟩) (by assumption) ?_
      try simp only [List.setIfInBounds_toArray, List.set_cons_zero, List.set_cons_succ]
      refine take_put (i := 1) (d := 118) (v := (.agg #[.int .i64 x, .int .i64 y])) rfl (by kernel_rfl) (by kernel_rfl) (by kernel_rfl) rfl (fun _ _ _ h => h) (Or.inl ⟨by rfl, fun w hS => by obtain ⟨h0, h1, h2, h3⟩ := hS; go_simp⟩) (by assumption) ?_
      try simp only [List.setIfInBounds_toArray, List.set_cons_zero, List.set_cons_succ]
      refine wpAnyH_ready (rs := [2]) (by kernel_rfl) (by simp) ?_
      refine AllReadyH.cons rfl (fun K hK => ?_) AllReadyH.nil
      rw [if_pos (by rfl)]
      go_simp
      (go_at_call 28; refine (HT.out _).mono ?_; rintro e w1 ⟨rfl, hB1⟩; (first | replace b0 := b0.below hB1 b0.lt | replace b0 := b0.nextd hB1); (first | replace b1 := b1.below hB1 b1.lt | replace b1 := b1.nextd hB1); (first | replace b2 := b2.below hB1 b2.lt | replace b2 := b2.nextd hB1); (first | replace hL := hL.next hB1 | replace hL := hL.next (below_undrew hB1)); (first | replace hB := below_in hB hB1 | replace hB := below_in hB.drew hB1))
      refine hK.out _ _ (by exact ⟨b0.cell 0, b0.cell 1, b1.cell 0, b1.cell 1⟩) (fun _ => ?_)
      clear hK K
      try simp only [Act.put, List.setIfInBounds_toArray, List.set_cons_zero, List.set_cons_succ]
      refine take_put (i := 3) (d := 120) (v := (.bool true)) rfl (by kernel_rfl) (by kernel_rfl) (by kernel_rfl) rfl (fun _ _ _ h => h) (Or.inl ⟨by rfl, fun w hS => by obtain ⟨h0, h1, h2, h3⟩ := hS; go_simp⟩) (by assumption) ?_
      try simp only [List.setIfInBounds_toArray, List.set_cons_zero, List.set_cons_succ]
      refine take_put (i := 4) (d := 121) (v := (.bool true)) rfl (by kernel_rfl) (by kernel_rfl) (by kernel_rfl) rfl (fun _ _ _ h => h) (Or.inl ⟨by rfl, fun w hS => by obtain ⟨h0, h1, h2, h3⟩ := hS; go_simp⟩) (by assumption) ?_
      try simp only [List.setIfInBounds_toArray, List.set_cons_zero, List.set_cons_succ]
      refine take_put (i := 5) (d := 122) (v := undef) rfl (by kernel_rfl) (by kernel_rfl) (by kernel_rfl) rfl (fun _ _ _ h => h) (Or.inr ⟨by rfl, rfl⟩) (by assumption) ?_
      try simp only [List.setIfInBounds_toArray, List.set_cons_zero, List.set_cons_succ]
      refine take_put (i := 6) (d := 123) (v := undef) rfl (by kernel_rfl) (by kernel_rfl) (by kernel_rfl) rfl (fun _ _ _ h => h) (Or.inr ⟨by rfl, rfl⟩) (by assumption) ?_
      try simp only [List.setIfInBounds_toArray, List.set_cons_zero, List.set_cons_succ]
      refine take_put (i := 7) (d := 124) (v := undef) rfl (by kernel_rfl) (by kernel_rfl) (by kernel_rfl) rfl (fun _ _ _ h => h) (Or.inr ⟨by rfl, rfl⟩) (by assumption) ?_
      try simp only [List.setIfInBounds_toArray, List.set_cons_zero, List.set_cons_succ]
      refine take_put (i := 8) (d := 125) (v := undef) rfl (by kernel_rfl) (by kernel_rfl) (by kernel_rfl) rfl (fun _ _ _ h => h) (Or.inr ⟨by rfl, rfl⟩) (by assumption) ?_
      try simp only [List.setIfInBounds_toArray, List.set_cons_zero, List.set_cons_succ]
      refine take_put (i := 9) (d := 126) (v := undef) rfl (by kernel_rfl) (by kernel_rfl) (by kernel_rfl) rfl (fun _ _ _ h => h) (Or.inr ⟨by rfl, rfl⟩) (by assumption) ?_
      try simp only [List.setIfInBounds_toArray, List.set_cons_zero, List.set_cons_succ]
      refine take_put (i := 10) (d := 127) (v := (.bool true)) rfl (by kernel_rfl) (by kernel_rfl) (by kernel_rfl) rfl (fun _ _ _ h => h) (Or.inl ⟨by rfl, fun w hS => by obtain ⟨h0, h1, h2, h3⟩ := hS; go_simp⟩) (by assumption) ?_
      try simp only [List.setIfInBounds_toArray, List.set_cons_zero, List.set_cons_succ]
      refine wpAnyH_done (by kernel_rfl) ?_ _
      all_goals go_wp2
      all_goals go_meet
      all_goals exact ⟨true, rfl, Lib.hid (.inr ⟨rfl, HX.out.2⟩), b0, b1, b2, hL, hB⟩
  case rest =>
  obtain ⟨b, rfl, Hb, b0, b1, b2, hL, hB⟩ := hcut
  clear c0 c1 a0 a1 e0 e1
  have c0 := b0.cell 0
  have c1 := b0.cell 1
  have a0 := b1.cell 0
  have a1 := b1.cell 1
  simp only [List.getElem?_toArray, List.getElem?_cons_zero, List.getElem?_cons_succ] at c0 c1 a0 a1
  have e0 := b2.cell 0
  have e1 := b2.cell 1
  simp only [List.getElem?_toArray, List.getElem?_cons_zero, List.getElem?_cons_succ] at e0 e1
  rcases Hb.out with ⟨rfl, hc, h1, h2⟩ | ⟨rfl, h1, h2⟩
  · have z0 : 0 ≤ y * (p - shortN k) := Int.mul_nonneg (by have := hc.2; omega) (by omega)
    have z1 : y * (p - shortN k) ≤ 1000 := by have := hc.2; have := Int.mul_le_mul (show y ≤ 17 by omega) (show p - shortN k ≤ 17 by omega) (by omega) (by omega); omega
    have hx := hc.1
    have HZ : ∃ z, IntKind.i64.wrap (y * (p - shortN k)) = z ∧ IntKind.i64.wrap (z + x) = z + x ∧ Hid (kn = z + x) ∧ 0 ≤ z ∧ z ≤ 1000 := ⟨y * (p - shortN k), IntWalk.i64_in _ (by omega), IntWalk.i64_in _ (by omega), h1, z0, z1⟩
    obtain ⟨z, z2, z3, HK, z4, z5⟩ := HZ
    have HK2 := HK.out
    clear z0 z1 h1 hc Hb HrN HNu
    subst h2 HK2
    clear HK
    go_upto_region 18 with fail
    go_region_held3 (fun W => W.cell? ⟨w.heap.size, 0, none⟩ = some (.int .i64 k) ∧ W.cell? ⟨w.heap.size, 1, none⟩ = some (.int .i64 p) ∧ W.cell? ⟨w.heap.size + 1, 0, none⟩ = some (.int .i64 x) ∧ W.cell? ⟨w.heap.size + 1, 1, none⟩ = some (.int .i64 y))
      (exact ⟨b0.cell 0, b0.cell 1, b1.cell 0, b1.cell 1⟩) (first
      | (go_at_call 10; refine (HDa.out _).mono ?_; rintro e w1 ⟨rfl, hB1⟩; (first | replace b0 := b0.below hB1 b0.lt | replace b0 := b0.nextd hB1); (first | replace b1 := b1.below hB1 b1.lt | replace b1 := b1.nextd hB1); (first | replace b2 := b2.below hB1 b2.lt | replace b2 := b2.nextd hB1); (first | replace hL := hL.next hB1 | replace hL := hL.next (below_undrew hB1)); (first | replace hB := below_in hB hB1 | replace hB := below_in hB.drew hB1))
      | (go_at_call 19; refine (num_any _ _).mono ?_; rintro e w' ⟨rfl, rfl⟩)
      | (go_at_call 22; refine (works_any _ hL).mono ?_; rintro e w1 ⟨rfl, hB1⟩; (first | replace b0 := b0.below hB1 b0.lt | replace b0 := b0.nextd hB1); (first | replace b1 := b1.below hB1 b1.lt | replace b1 := b1.nextd hB1); (first | replace b2 := b2.below hB1 b2.lt | replace b2 := b2.nextd hB1); (first | replace hL := hL.next hB1 | replace hL := hL.next (below_undrew hB1)); (first | replace hB := below_in hB hB1 | replace hB := below_in hB.drew hB1)))
    all_goals go_wp2
    all_goals go_ret
    all_goals exact ⟨rfl, hB⟩
  · subst h1 h2
    clear Hb HrN HNu
    go_wp2_with (first | (go_at_call 19; refine (num_any _ _).mono ?_; rintro e w' ⟨rfl, rfl⟩) | (go_at_call 22; refine (works_any _ hL).mono ?_; rintro e w' ⟨rfl, hB1⟩))
    go_ret
    exact ⟨rfl, below_in hB hB1⟩
theorem walk (k p n x y : Int) (w : World) (hL : Laid w) (wk : -9223372036854775808 ≤ k ∧ k ≤ 9223372036854775807) (wp : -9223372036854775808 ≤ p ∧ p ≤ 9223372036854775807) (wn : -9223372036854775808 ≤ n ∧ n ≤ 9223372036854775807) (wx : -9223372036854775808 ≤ x ∧ x ≤ 9223372036854775807) (wy : -9223372036854775808 ≤ y ∧ y ≤ 9223372036854775807) :
    Calls Tryd.prog 4 #[.agg #[.int .i64 k, .int .i64 p], .int .i64 n, .agg #[.int .i64 x, .int .i64 y]] w fun e w' => e = .returned (.bool true) ∧ Below w.heap.size w w' := by
  by_cases hR : RightC k p
  · obtain ⟨r, er, hro, hr⟩ : ∃ r er, (∀ W, Laid W → Calls Tryd.prog 23 #[.agg #[.int .i64 k, .int .i64 p], .int .i64 n] W fun e w' => e = .returned (.tuple #[.int .i64 r, .int .i64 er]) ∧ Below W.heap.size W w') ∧ ((HasCol k p n ∧ r = rroleN (p - shortN k) n ∧ er = 0) ∨ (¬ HasCol k p n ∧ r = 0 ∧ er = 4)) := by
      by_cases hc : HasCol k p n
      · exact ⟨_, 0, fun W hL => (shapeRole_any k p n W hL).mono fun _ _ h => tells3_yes hR hc h, .inl ⟨hc, role_eq hc hR.und, rfl⟩⟩
      · exact ⟨0, 4, fun W hL => (shapeRole_any k p n W hL).mono fun _ _ h => ⟨h.2.1 hR hc, h.2.2.2⟩, .inr ⟨hc, rfl, rfl⟩⟩
    obtain ⟨q0, q1, ep, hpl, hp⟩ : ∃ q0 q1 ep, (∀ W, Laid W → Calls Tryd.prog 24 #[.agg #[.int .i64 k, .int .i64 p], .int .i64 n] W fun e w' => e = .returned (.tuple #[.agg #[.int .i64 q0, .int .i64 q1], .int .i64 ep]) ∧ Below W.heap.size W w') ∧ ((HasNum k p n ∧ q0 = n % (p - shortN k) ∧ q1 = n / (p - shortN k) ∧ ep = 0) ∨ (¬ HasNum k p n ∧ q0 = 0 ∧ q1 = 0 ∧ ep = 4)) := by
      by_cases hc : HasNum k p n
      · exact ⟨_, _, 0, fun W hL => (shapePlace_any k p n W hL).mono fun _ _ h => tells3_yes hR hc h, .inl ⟨hc, rfl, rfl, rfl⟩⟩
      · exact ⟨0, 0, 4, fun W hL => (shapePlace_any k p n W hL).mono fun _ _ h => ⟨h.2.1 hR hc, h.2.2.2⟩, .inr ⟨hc, rfl, rfl, rfl⟩⟩
    obtain ⟨kn, en, hnu, hn⟩ : ∃ kn en, (∀ W, Laid W → Calls Tryd.prog 25 #[.agg #[.int .i64 k, .int .i64 p], .agg #[.int .i64 x, .int .i64 y]] W fun e w' => e = .returned (.tuple #[.int .i64 kn, .int .i64 en]) ∧ Below W.heap.size W w') ∧ ((HasData k p x y ∧ kn = y * (p - shortN k) + x ∧ en = 0) ∨ (¬ HasData k p x y ∧ kn = 0 ∧ en = 4)) := by
      by_cases hc : HasData k p x y
      · exact ⟨_, 0, fun W hL => (shapeNumber_any k p x y W hL).mono fun _ _ h => tells3_yes hR hc h, .inl ⟨hc, rfl, rfl⟩⟩
      · exact ⟨0, 4, fun W hL => (shapeNumber_any k p x y W hL).mono fun _ _ h => ⟨h.2.1 hR hc, h.2.2.2⟩, .inr ⟨hc, rfl, rfl⟩⟩
    exact walk_yes k p n x y w hL hR r er q0 q1 ep kn en hro hpl hnu hr hp hn
  · exact walk_no k p n x y w hL hR

set_option maxRecDepth 100000 in
theorem lifted (os : Os) (started : os.Started) (H : Type) (enc : TypeId × Value → H) :
    ReturnsInHanded {} Tryd.checked os 4 .any (fun w args => (Rows.shapePlacesSpec.pre enc Tryd.prog Tryd.f4 [] false w args ∧ laidMetH Tryd.prog laidL w) ∧ sizedMet enc Tryd.prog Tryd.f4 (OpenSpec.ofChange Rows.shapePlacesSpec) false w args)
      (Rows.shapePlacesSpec.post enc Tryd.prog Tryd.f4 false true false false) := by
  refine returnsInHanded_of_change_and (C := Tryd.checked) (X := fun w _ => laidMetH Tryd.prog laidL w) (fun _ _ _ hh h => h.of_heap hh) own started (by kernel_rfl) Tryd.func4
    (ChangeSpec.witness_shaped (enc := enc) (C := Tryd.checked) (os := os) (X := fun w _ => laidMetH Tryd.prog laidL w) false (World.doorLaid Tryd.prog 200 os) #[.agg #[.int .i64 0, .int .i64 0], .int .i64 0, .agg #[.int .i64 0, .int .i64 0]] 8 rfl (World.shaped_of_RefB (by kernel_rfl) (by kernel_rfl)) (by kernel_rfl) (by kernel_rfl) (by kernel_rfl) (door_met os _)) ?_
  intro W base args ds gs before hval0 hW _ _ hL0 _
  have hL := laid_of hL0
  have hval : ∀ (j : Nat) t v, Tryd.f4.params[j]? = some t → args[j]? = some v → Value.okWide Tryd.prog W .any base t v := hval0
  have hW' := hW
  obtain ⟨p, q, hA0, hV, rfl, hfz, hnd⟩ := hW
  have hA : DataW.TrodAll enc Tryd.prog W 0 (fun _ => true) true Tryd.f4.params.toList args.toList ds p := hA0
  rw [Tryd.params4] at hA hval
  obtain ⟨v0, vs0, d0, ds0, p0, q0, hargs, rfl, rfl, h0, r0⟩ := trodAll_cons hA
  obtain ⟨v1, vs1, d1, ds1, p1, q1, rfl, rfl, rfl, h1, r1⟩ := trodAll_cons r0
  obtain ⟨v2, vs2, d2, ds2, p2, q2, rfl, rfl, rfl, h2, r2⟩ := trodAll_cons r1
  obtain ⟨rfl, rfl, rfl⟩ := trodAll_nil r2
  obtain rfl : args = #[v0, v1, v2] := by cases args; simp_all
  obtain ⟨rfl, rfl⟩ := trodVars_none hV
  have k0 := h0
  have lt0 : ∀ x ∈ p0, x.block < W.heap.size := by obtain ⟨m, hm⟩ := k0; exact DataW.trod_lt m _ _ _ hm
  obtain ⟨x0, y0, rfl, w0⟩ := open_code (hval 0 24 v0 rfl rfl) h0
  obtain ⟨a1, rfl, rfl, rfl, w1⟩ := open_int Tryd.underlying3 (hval 1 3 v1 rfl rfl) h1
  have k2 := h2
  have lt2 : ∀ x ∈ p2, x.block < W.heap.size := by obtain ⟨m, hm⟩ := k2; exact DataW.trod_lt m _ _ _ hm
  obtain ⟨x2, y2, rfl, w2⟩ := open_at (hval 2 37 v2 rfl rfl) h2
  clear hA0 hval0
  simp only [List.append_nil] at hW'
  refine (walk x0 y0 a1 x2 y2 W hL (wf_i64 w0.1) (wf_i64 w0.2) (wf_i64 w1) (wf_i64 w2.1) (wf_i64 w2.2)).mono fun e W' ⟨he, bel⟩ => ?_
  subst he
  exact ⟨_, rfl, _, _, _, [], _, [], hW', trodAll_mk1 (shut_bool Tryd.underlying4 _), (trodAll_cons_mk (Below.trod laidOut (by kernel_rfl) (of_decide_eq_true (by kernel_rfl)) k0 bel lt0) (trodAll_cons_mk (shut_int Tryd.underlying3 w1) (trodAll_cons_mk (Below.trod laidOut (by kernel_rfl) (of_decide_eq_true (by kernel_rfl)) k2 bel lt2) trodAll_mk0))), rfl, bel.frame _, fun h => by cases h⟩

theorem over : Rows.shapePlacesRow.holds Tryd.pinned (OpenSpec.ofChange Rows.shapePlacesSpec) :=
  OpenClaim.holds_of_wide 4 Tryd.f4 rfl rfl rfl rfl rfl rfl rfl ⟨rfl, rfl, rfl, rfl, rfl⟩ rfl rfl rfl rfl rfl (by kernel_rfl) Tryd.func4 (by kernel_rfl)
    (of_decide_eq_true (by kernel_rfl)) (by unfold Func.isWrapper; first | (rw [if_pos (by decide +kernel)]; kernel_rfl) | (rw [if_neg (by decide +kernel)]; exact ⟨rfl, rfl⟩))
    (fun os started H enc _ => lifted os started H enc)

/-- The tied card: the row, and the tie that is given. -/
theorem shapePlaces_holds : Rows.ShapePlacesCardSaid :=
  Claim7.holds_tied_plain_at .later [] [.data, .data] true _ false over (fun _ h => by cases h) (by kernel_rfl) (fun _ h => by cases h) shapePlaces_row_tie rfl ⟨rfl, rfl⟩ (by kernel_rfl) rfl
    (fun f fn hf hfn => by
      obtain rfl : f = 4 := Option.some.inj ((show Tryd.prog.funcNamed "palisade/palisadelaw04.ShapePlaces" = some 4 by kernel_rfl).symm.trans hf) |>.symm
      obtain rfl : fn = Tryd.f4 := (Option.some.inj (Tryd.func4.symm.trans hfn)).symm
      exact ⟨by kernel_rfl, fun j t ht => by
        rw [Tryd.params4] at ht
        have hm : t ∈ [24, 3, 37] := by simpa using Array.mem_of_getElem? ht
        have hall : ([24, 3, 37].all fun u => !Tryd.prog.wantsStandIn u) = true := by kernel_rfl
        exact (show Tryd.prog.wantsStandIn t = false by simpa using List.all_eq_true.1 hall t hm)⟩)
    (by kernel_rfl)
end Go.Proofs.YthhgalhabdkikaaDoor.shapePlaces
