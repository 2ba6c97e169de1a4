/- The document's answers for layer 4. All codes; what the law asks of an answer. The places of a column: the function that Cells hands back goes over them. -/
import Derived.ShutString
import Derived.ChangeOld
import Derived.LaidMore
import Derived.Stop.Joined
import Derived.MakeChecks
import Derived.Lib.LaidTab
import Derived.Test.YtfihlelhpmjpaaaGreatDoorCRMAm11
import Derived.Test.YtfihlelhpmjpaaaGreatDoorCRSA
namespace Go.Proofs.YtfihlelhpmjpaaaGreatDoor
open Go.RowKit Go.Shelf
set_option linter.unusedSimpArgs false
set_option linter.unusedVariables false

set_option maxHeartbeats 1000000 in
theorem refRows_any (k p : Int) (hR : RightC k p) (w : World) : Calls Tryz.prog 62 #[(.agg #[.int .i64 k, .int .i64 p])] w fun e w' => e = .returned (.int .i64 (p - 1)) ∧ Below w.heap.size w w' := by
  obtain ⟨p1, p2, s1, s2, m1, m2⟩ := hR.und
  go_enter Tryz.func62, Tryz.ntmps62
  go_wp2
  go_ret
  exact ⟨rfl, (below_one w _)⟩

set_option maxHeartbeats 1000000 in
theorem refData_any (k p : Int) (hR : RightC k p) (w : World) : Calls Tryz.prog 60 #[(.agg #[.int .i64 k, .int .i64 p])] w fun e w' => e = .returned (.int .i64 (p - shortN k)) ∧ Below w.heap.size w w' := by
  obtain ⟨p1, p2, s1, s2, m1, m2⟩ := hR.und
  by_cases h : k = 2
  · subst h
    go_enter Tryz.func60, Tryz.ntmps60
    go_wp2
    go_ret
    exact ⟨rfl, (below_one w _)⟩
  · have d : ((k : Int) == 2) = false := by simpa using h
    have e : shortN k = 0 := if_neg h
    rw [e]
    go_enter Tryz.func60, Tryz.ntmps60
    go_wp2
    go_ret
    exact ⟨ret_i64 (by omega), (below_one w _)⟩

set_option maxHeartbeats 1000000 in
theorem refLost_any (k p : Int) (hR : RightC k p) (w : World) : Calls Tryz.prog 112 #[(.agg #[.int .i64 k, .int .i64 p])] w fun e w' => e = .returned (.int .i64 (madeN k)) ∧ Below w.heap.size w w' := by
  obtain ⟨p1, p2, s1, s2, m1, m2⟩ := hR.und
  by_cases h : k = 3
  · subst h
    go_enter Tryz.func112, Tryz.ntmps112
    go_wp2
    go_ret
    exact ⟨rfl, (below_one w _)⟩
  · have d : ((k : Int) == 3) = false := by simpa using h
    have e : madeN k = 2 := if_neg h
    rw [e]
    go_enter Tryz.func112, Tryz.ntmps112
    go_wp2
    go_ret
    exact ⟨rfl, (below_one w _)⟩

set_option maxHeartbeats 1000000 in
theorem refCols_any (k p : Int) (hR : RightC k p) (w : World) : Calls Tryz.prog 61 #[(.agg #[.int .i64 k, .int .i64 p])] w fun e w' => e = .returned (.int .i64 (p - shortN k + madeN k)) ∧ Below w.heap.size w w' := by
  obtain ⟨p1, p2, s1, s2, m1, m2⟩ := hR.und
  have HD := Lib.hid (fun W => refData_any k p hR W)
  have HLo := Lib.hid (fun W => refLost_any k p hR W)
  clear hR
  generalize shortN k = s at *
  generalize madeN k = m at *
  have e1 := IntWalk.i64_in (p - s + m) (by omega)
  go_enter Tryz.func61, Tryz.ntmps61
  go_wp2
  obtain ⟨W0, hW0⟩ : ∃ W0, w.alloc (.cells #[.int .i64 k, .int .i64 p] 49) = W0 := ⟨_, rfl⟩
  have b0 : Blk W0 w.heap.size 49 #[.int .i64 k, .int .i64 p] := by rw [← hW0]; exact Blk.new w _ _
  have hB : Below w.heap.size w W0 := by rw [← hW0]; exact below_one w _
  rw [hW0]
  clear hW0
  go_region_held3 (fun W => W.cell? ⟨w.heap.size, 0, none⟩ = some (.int .i64 k) ∧ W.cell? ⟨w.heap.size, 1, none⟩ = some (.int .i64 p))
    (exact ⟨b0.cell 0, b0.cell 1⟩) (first
    | (go_at_call 60; refine (HD.out _).mono ?_; rintro e w1 ⟨rfl, hB1⟩; (first | replace b0 := b0.below hB1 b0.lt | replace b0 := b0.nextd hB1); (first | replace hB := below_in hB hB1 | replace hB := below_in hB.drew hB1))
    | (go_at_call 112; refine (HLo.out _).mono ?_; rintro e w1 ⟨rfl, hB1⟩; (first | replace b0 := b0.below hB1 b0.lt | replace b0 := b0.nextd hB1); (first | replace hB := below_in hB hB1 | replace hB := below_in hB.drew hB1)))
  all_goals go_wp2
  all_goals go_ret
  all_goals exact ⟨rfl, hB⟩

def rroleN (d x : Int) : Int := if x < d then 1 else x - d + 2
theorem role_eq {p s m x : Int} (h : 0 ≤ x ∧ x < p - s + m) (hu : Und p s m) : roleN (p - s) x = rroleN (p - s) x := by
  obtain ⟨p1, p2, s1, s2, m1, m2⟩ := hu
  unfold roleN rroleN
  split <;> (try split) <;> (try split) <;> (try split) <;> omega
set_option maxHeartbeats 1000000 in
theorem refRole_any (k p x : Int) (hR : RightC k p) (hx : 0 ≤ x ∧ x < 1000) (w : World) : Calls Tryz.prog 173 #[(.agg #[.int .i64 k, .int .i64 p]), .int .i64 x] w fun e w' => e = .returned (.int .i64 (rroleN (p - shortN k) x)) ∧ Below w.heap.size w w' := by
  obtain ⟨p1, p2, s1, s2, m1, m2⟩ := hR.und
  have HD := Lib.hid (fun W => refData_any k p hR W)
  clear hR
  generalize shortN k = s at *
  by_cases h : x < p - s
  · have d : decide (x < p - s) = true := by simpa using h
    have e : rroleN (p - s) x = 1 := if_pos h
    rw [e]
    go_enter Tryz.func173, Tryz.ntmps173
    go_wp2_with fail
    obtain ⟨W0, hW0⟩ : ∃ W0, w.alloc (.cells #[.int .i64 k, .int .i64 p] 49) = W0 := ⟨_, rfl⟩
    have b0 : Blk W0 w.heap.size 49 #[.int .i64 k, .int .i64 p] := by rw [← hW0]; exact Blk.new w _ _
    have hB : Below w.heap.size w W0 := by rw [← hW0]; exact below_one w _
    try rw [hW0]
    clear hW0
    have c0 := b0.cell 0
    have c1 := b0.cell 1
    simp only [List.getElem?_toArray, List.getElem?_cons_zero, List.getElem?_cons_succ] at c0 c1
    go_wp2_with (go_at_call 60; refine (HD.out _).mono ?_; rintro e w1 ⟨rfl, hB1⟩; (first | replace b0 := b0.below hB1 b0.lt | replace b0 := b0.nextd hB1); (first | replace hB := below_in hB hB1 | replace hB := below_in hB.drew hB1))
    go_ret
    exact ⟨rfl, hB⟩
  · have d : decide (x < p - s) = false := decide_eq_false h
    have e : rroleN (p - s) x = x - (p - s) + 2 := if_neg h
    rw [e]
    go_enter Tryz.func173, Tryz.ntmps173
    go_wp2_with fail
    obtain ⟨W0, hW0⟩ : ∃ W0, w.alloc (.cells #[.int .i64 k, .int .i64 p] 49) = W0 := ⟨_, rfl⟩
    have b0 : Blk W0 w.heap.size 49 #[.int .i64 k, .int .i64 p] := by rw [← hW0]; exact Blk.new w _ _
    have hB : Below w.heap.size w W0 := by rw [← hW0]; exact below_one w _
    try rw [hW0]
    clear hW0
    have c0 := b0.cell 0
    have c1 := b0.cell 1
    simp only [List.getElem?_toArray, List.getElem?_cons_zero, List.getElem?_cons_succ] at c0 c1
    go_wp2_with (go_at_call 60; refine (HD.out _).mono ?_; rintro e w1 ⟨rfl, hB1⟩; (first | replace b0 := b0.below hB1 b0.lt | replace b0 := b0.nextd hB1); (first | replace hB := below_in hB hB1 | replace hB := below_in hB.drew hB1); have c0 := b0.cell 0; have c1 := b0.cell 1; simp only [List.getElem?_toArray, List.getElem?_cons_zero, List.getElem?_cons_succ] at c0 c1)
    go_ret
    exact ⟨rfl, hB⟩

set_option maxHeartbeats 1000000 in
theorem refDiagonal_any (k p x y : Int) (hR : RightC k p) (hx : 0 ≤ x ∧ x < 24) (hy : 0 ≤ y ∧ y < 24) (w : World) : Calls Tryz.prog 174 #[(.agg #[.int .i64 k, .int .i64 p]), (.agg #[.int .i64 x, .int .i64 y])] w fun e w' => e = .returned (.int .i64 ((x + y) % p)) ∧ Below w.heap.size w w' := by
  obtain ⟨p1, p2, s1, s2, m1, m2⟩ := hR.und
  have e1 : (x + y).tmod p = (x + y) % p := Int.tmod_eq_emod_of_nonneg (by omega)
  have n0 : ¬ p = 0 := by omega
  go_enter Tryz.func174, Tryz.ntmps174
  go_wp2
  go_ret
  exact ⟨rfl, below_two w _ _⟩

set_option maxHeartbeats 1000000 in
theorem refSlant_any (k p x y : Int) (hR : RightC k p) (hx : 0 ≤ x ∧ x < 24) (hy : 0 ≤ y ∧ y < 24) (w : World) : Calls Tryz.prog 175 #[(.agg #[.int .i64 k, .int .i64 p]), (.agg #[.int .i64 x, .int .i64 y])] w fun e w' => e = .returned (.int .i64 ((y - x) % p)) ∧ Below w.heap.size w w' := by
  obtain ⟨p1, p2, s1, s2, m1, m2⟩ := hR.und
  have HO := Lib.hid (fun W => rof_any p (y - x) W (by omega) (by omega) (by omega) (by omega))
  go_enter Tryz.func175, Tryz.ntmps175
  go_wp2_with (go_at_call 71; refine (HO.out _).mono ?_; rintro e w1 ⟨rfl, rfl⟩)
  go_ret
  exact ⟨rfl, below_two w _ _⟩

end Go.Proofs.YtfihlelhpmjpaaaGreatDoor

namespace Go.Proofs.YtfihlelhpmjpaaaGreatDoor
open Go.RowKit Go.Shelf
set_option linter.unusedSimpArgs false
set_option linter.unusedVariables false

/-- append of one code more to a row of the call's own. -/
theorem wpList_code (w : World) {ops : Array Oper} {rest : List Oper} {o : Oper} {a : Act} {Q : Exit → Act → World → Prop} (hgd : o.guard = none) (s x : Operand) (t e : TypeId) (z : Value) (bytes : Nat)
    (ho : o.op = .call { callee := .builtin .append, args := #[s, x], argTypes := #[t, t] }) (ht : Tryz.prog.underlying t = some (.slice e)) (hinfo : (Tryz.prog.info? e).map (fun i => (i.zero, i.size, i.bytes)) = some (some z, 2, bytes)) (hzs : z.cells.size = 2)
    (base : Nat) (v : Value) (xs : List Value) (hs : a.eval s = v) (n : Nat) (hown : w.ownsRow base e 2 v n xs) (g : Nat) (c : Nat) (k p : Int) (hx : a.eval x = .slice (some ⟨g, 0, none⟩) 1 c) (hu : Blk w g e #[.int .i64 k, .int .i64 p])
    (hlen : n ≤ 1000000000) (hby2 : bytes ≤ 100) (hbase : base ≤ w.heap.size)
    (h : ∀ v' w', w'.ownsRow base e 2 v' (n + 1) (xs ++ [.int .i64 k, .int .i64 p]) → w.grownBy w' v.ownBlock → wpList Tryz.prog ops Q rest (a.put o.dst v') w') : wpList Tryz.prog ops Q (o :: rest) a w :=
  wpList_plain hgd fun K hK => by
    obtain ⟨i, hi, hz0, hz1, hz2⟩ := info_parts hinfo
    have hb : (n + 1) * bytes ≤ 140737488355328 := by
      have := Nat.mul_le_mul (show n + 1 ≤ 1000000001 by omega) hby2
      omega
    obtain ⟨v', w', hrun, r1, r2, _, r3⟩ := run_append_own_at (P := Tryz.prog) w base t o.type e i z 2 bytes ht hi hz0 hz1 hz2 hzs (by omega) v n xs hown ⟨g, 0, none⟩ 1 c [.int .i64 k, .int .i64 p] (by simp) (by
      intro j y hy
      rw [addr_add, Nat.zero_add, hu.cell j]
      rw [List.getElem?_toArray]
      exact hy) (by intro y hy; simp only [List.mem_cons, List.not_mem_nil, or_false] at hy; rcases hy with rfl | rfl <;> rfl) (by unfold maxLen; omega) hb hbase
    unfold Oper.wp execOp
    simp only [ho, resolve, invoke, builtin, Sem.run_bind, Sem.run_pure, Result.andThen_ok, List.map_toArray, List.map_cons, List.map_nil, hs, hx, hrun]
    exact hK _ _ (h v' w' r1 r2)

end Go.Proofs.YtfihlelhpmjpaaaGreatDoor

namespace Go.Proofs.YtfihlelhpmjpaaaGreatDoor
open Go.RowKit Go.Shelf
set_option linter.unusedSimpArgs false
set_option linter.unusedVariables false
attribute [local go_sem] Oper.semAt_some

theorem rows_walk : ∀ p ∈ prm, walkN p 0 1 = rowsL p ++ [p - 1] ∧ ((rowsL p).length : Int) = p - 1 ∧ (∀ y ∈ rowsL p, 0 ≤ y ∧ y < p - 1) := by decide +kernel
end Go.Proofs.YtfihlelhpmjpaaaGreatDoor

