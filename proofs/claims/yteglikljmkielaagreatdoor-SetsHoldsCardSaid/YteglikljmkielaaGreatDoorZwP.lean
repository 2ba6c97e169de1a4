/- Sets: what is answered of a place. -/
import Derived.Test.YteglikljmkielaaGreatDoorZwN
import Derived.Test.YteglikljmkielaaGreatDoorZwO
import Derived.Test.YteglikljmkielaaGreatDoorZwF
namespace Go.Proofs.YteglikljmkielaaGreatDoor
open Go.RowKit Go.Shelf
set_option linter.unusedSimpArgs false
set_option linter.unusedVariables false

set_option maxRecDepth 100000 in
set_option maxHeartbeats 1000000 in
theorem answered_no (fh ft : Nat) (k p x y : Int) (hR : ¬ RightC k p) (w : World) (hL : Laid w) :
    Calls Tryz.prog 24 #[.agg #[.int .i64 k, .int .i64 p], .func (.func fh) #[] #[], .func (.func ft) #[] #[], .agg #[.int .i64 x, .int .i64 y]] w fun e w' => e = .returned (.tuple #[.slice none 0 0, .int .i64 2]) ∧ Below w.heap.size w w' := by
  have HA := Lib.hid (fun W hL => setsAsked_no k p hR W hL)
  clear hR
  obtain ⟨W0, hW0⟩ : ∃ W0, (w.alloc (.cells #[.int .i64 k, .int .i64 p] 24)).alloc (.cells #[.int .i64 x, .int .i64 y] 26) = W0 := ⟨_, rfl⟩
  have b0 : Blk W0 w.heap.size 24 #[.int .i64 k, .int .i64 p] := by rw [← hW0]; exact (Blk.new w _ _).alloc _
  have b1 : Blk W0 (w.heap.size + 1) 26 #[.int .i64 x, .int .i64 y] := by rw [← hW0]; exact Blk.second w _ _ _
  have hB : Below w.heap.size w W0 := by rw [← hW0]; exact below_two w _ _
  have hL0 := hL.next hB
  have c0 := b0.cell 0
  have c1 := b0.cell 1
  simp only [List.getElem?_toArray, List.getElem?_cons_zero, List.getElem?_cons_succ] at c0 c1
  go_enter Tryz.func24, Tryz.ntmps24
  go_wp2_with fail
  clear hW0
  refine wp_scope_jumps 0 (fun a' w' => Below w.heap.size w w' ∧ ∃ (u10 u12 u13 u14 u15 u16 u17 u18 u19 u20 u21 u22 u23 u24 u25 u26 u27 u28 u29 : Value), a' = { tmps := #[.agg #[.int .i64 k, .int .i64 p], .func (.func fh) #[] #[], .func (.func ft) #[] #[], .agg #[.int .i64 x, .int .i64 y], .pointer (some ⟨w.heap.size, 0, none⟩), undef, undef, .pointer (some ⟨w.heap.size + 1, 0, none⟩), .slice none 0 0, .int .i64 0, u10, .int .i64 2, u12, u13, u14, u15, u16, u17, u18, u19, u20, u21, u22, u23, u24, u25, u26, u27, u28, u29], defers := [] }) (fun _ _ => 0) rfl ?_ ?_
  · go_wp2_with fail
    refine (HA.out _ hL0).mono ?_
    rintro e w1 ⟨rfl, hB1⟩
    replace hB := below_in hB hB1
    replace hB := below_in hB (below_one _ (.cells #[.int .i64 0, .int .i64 0, .int .i64 0, .int .i64 0] 51))
    go_wp2
    go_step3
    exact ⟨rfl, hB, _, _, _, _, _, _, _, _, _, _, _, _, _, _, _, _, _, _, _, rfl⟩
  · clear hB HA
    rintro a' w' ⟨hB, u10, u12, u13, u14, u15, u16, u17, u18, u19, u20, u21, u22, u23, u24, u25, u26, u27, u28, u29, rfl⟩
    go_wp2
    simp only [Exit.jump]
    go_ret2
    exact ⟨rfl, hB⟩

set_option maxRecDepth 100000 in
set_option maxHeartbeats 1000000 in
theorem answered_out (fh ft : Nat) (eh : ∀ args W, (callFunc fh args).run Tryz.prog W = .ok (.enter fh args) W) (k p x y : Int) (hR : RightC k p) (hh : ∀ W, Laid W → Calls Tryz.prog fh #[(.agg #[.int .i64 k, .int .i64 p, .int .i64 (p - shortN k), .int .i64 (p - shortN k + madeN k)]), .agg #[.int .i64 x, .int .i64 y]] W fun e w' => e = .returned (.bool false) ∧ Below W.heap.size W w') (w : World) (hL : Laid w) :
    Calls Tryz.prog 24 #[.agg #[.int .i64 k, .int .i64 p], .func (.func fh) #[] #[], .func (.func ft) #[] #[], .agg #[.int .i64 x, .int .i64 y]] w fun e w' => e = .returned (.tuple #[.slice none 0 0, .int .i64 4]) ∧ Below w.heap.size w w' := by
  have HA := Lib.hid (fun W hL => setsAsked_yes k p hR W hL)
  have HH := Lib.hid hh
  clear hR hh
  generalize p - shortN k + madeN k = c at *
  generalize p - shortN k = d at *
  obtain ⟨W0, hW0⟩ : ∃ W0, (w.alloc (.cells #[.int .i64 k, .int .i64 p] 24)).alloc (.cells #[.int .i64 x, .int .i64 y] 26) = W0 := ⟨_, rfl⟩
  have b0 : Blk W0 w.heap.size 24 #[.int .i64 k, .int .i64 p] := by rw [← hW0]; exact (Blk.new w _ _).alloc _
  have b1 : Blk W0 (w.heap.size + 1) 26 #[.int .i64 x, .int .i64 y] := by rw [← hW0]; exact Blk.second w _ _ _
  have hB : Below w.heap.size w W0 := by rw [← hW0]; exact below_two w _ _
  have hL0 := hL.next hB
  have c0 := b0.cell 0
  have c1 := b0.cell 1
  simp only [List.getElem?_toArray, List.getElem?_cons_zero, List.getElem?_cons_succ] at c0 c1
  go_enter Tryz.func24, Tryz.ntmps24
  go_wp2_with fail
  clear hW0
  refine wp_scope_jumps 0 (fun a' w' => Below w.heap.size w w' ∧ ∃ (u10 u12 u13 u14 u15 u16 u17 u18 u19 u20 u21 u22 u23 u24 u25 u26 u27 u28 u29 : Value), a' = { tmps := #[.agg #[.int .i64 k, .int .i64 p], .func (.func fh) #[] #[], .func (.func ft) #[] #[], .agg #[.int .i64 x, .int .i64 y], .pointer (some ⟨w.heap.size, 0, none⟩), undef, undef, .pointer (some ⟨w.heap.size + 1, 0, none⟩), .slice none 0 0, .int .i64 0, u10, .int .i64 4, u12, u13, u14, u15, u16, u17, u18, u19, u20, u21, u22, u23, u24, u25, u26, u27, u28, u29], defers := [] }) (fun _ _ => 0) rfl ?_ ?_
  · go_wp2_with fail
    refine (HA.out _ hL0).mono ?_
    rintro e w1 ⟨rfl, hB1⟩
    replace b1 := b1.below hB1 b1.lt
    replace hB := below_in hB hB1
    have b2 := Blk.new w1 51 #[.int .i64 k, .int .i64 p, .int .i64 d, .int .i64 c]
    replace b1 := b1.below (below_one w1 (.cells #[.int .i64 k, .int .i64 p, .int .i64 d, .int .i64 c] 51)) b1.lt
    replace hB := below_in hB (below_one _ (.cells #[.int .i64 k, .int .i64 p, .int .i64 d, .int .i64 c] 51))
    have hL2 := hL.next hB
    have z0 := b1.cell 0
    have z1 := b1.cell 1
    simp only [List.getElem?_toArray, List.getElem?_cons_zero, List.getElem?_cons_succ] at z0 z1
    go_wp2_with fail
    refine (HH.out _ hL2).mono ?_
    rintro e w1 ⟨rfl, hB1⟩
    replace hB := below_in hB hB1
    go_wp2
    go_step3
    exact ⟨rfl, hB, _, _, _, _, _, _, _, _, _, _, _, _, _, _, _, _, _, _, _, rfl⟩
  · clear hB HA
    rintro a' w' ⟨hB, u10, u12, u13, u14, u15, u16, u17, u18, u19, u20, u21, u22, u23, u24, u25, u26, u27, u28, u29, rfl⟩
    go_wp2
    simp only [Exit.jump]
    go_ret2
    exact ⟨rfl, hB⟩

set_option maxRecDepth 100000 in
set_option maxHeartbeats 1000000 in
theorem answered_yes (fh ft : Nat) (eh : ∀ args W, (callFunc fh args).run Tryz.prog W = .ok (.enter fh args) W) (et : ∀ args W, (callFunc ft args).run Tryz.prog W = .ok (.enter ft args) W) (k p x y : Int) (hR : RightC k p) (hh : ∀ W, Laid W → Calls Tryz.prog fh #[(.agg #[.int .i64 k, .int .i64 p, .int .i64 (p - shortN k), .int .i64 (p - shortN k + madeN k)]), .agg #[.int .i64 x, .int .i64 y]] W fun e w' => e = .returned (.bool true) ∧ Below W.heap.size W w') (l : List (Int × Int)) (hne : l ≠ []) (hnd : l.Nodup) (hlen : l.length ≤ 1000)
    (ht : ∀ W, Laid W → Calls Tryz.prog ft #[(.agg #[.int .i64 k, .int .i64 p, .int .i64 (p - shortN k), .int .i64 (p - shortN k + madeN k)]), .agg #[.int .i64 x, .int .i64 y]] W fun e w' => ∃ u, e = .returned u ∧ OwnP w' W.heap.size u l ∧ Below W.heap.size W w') (w : World) (hL : Laid w) :
    Calls Tryz.prog 24 #[.agg #[.int .i64 k, .int .i64 p], .func (.func fh) #[] #[], .func (.func ft) #[] #[], .agg #[.int .i64 x, .int .i64 y]] w fun e w' => ∃ u s, e = .returned (.tuple #[u, .int .i64 0]) ∧ s.Perm l ∧ s.Pairwise (fun a b => aheadB a b = true) ∧ ReadP w'.heap.size w' u s ∧ Below w.heap.size w w' := by
  have HA := Lib.hid (fun W hL => setsAsked_yes k p hR W hL)
  have HH := Lib.hid hh
  have HT := Lib.hid ht
  have HO := Lib.hid (fun W base v hb ho => told_any W base v l hne hnd hlen hb ho)
  clear hR hh ht hne hnd hlen
  generalize p - shortN k + madeN k = c at *
  generalize p - shortN k = d at *
  obtain ⟨W0, hW0⟩ : ∃ W0, (w.alloc (.cells #[.int .i64 k, .int .i64 p] 24)).alloc (.cells #[.int .i64 x, .int .i64 y] 26) = W0 := ⟨_, rfl⟩
  have b0 : Blk W0 w.heap.size 24 #[.int .i64 k, .int .i64 p] := by rw [← hW0]; exact (Blk.new w _ _).alloc _
  have b1 : Blk W0 (w.heap.size + 1) 26 #[.int .i64 x, .int .i64 y] := by rw [← hW0]; exact Blk.second w _ _ _
  have hB : Below w.heap.size w W0 := by rw [← hW0]; exact below_two w _ _
  have hL0 := hL.next hB
  have c0 := b0.cell 0
  have c1 := b0.cell 1
  simp only [List.getElem?_toArray, List.getElem?_cons_zero, List.getElem?_cons_succ] at c0 c1
  go_enter Tryz.func24, Tryz.ntmps24
  go_wp2_with fail
  clear hW0
  refine wp_scope_jumps 0 (fun a' w' => False) (fun _ _ => 0) rfl ?_ (fun _ _ h => h.elim)
  · go_wp2_with fail
    refine (HA.out _ hL0).mono ?_
    rintro e w1 ⟨rfl, hB1⟩
    replace b1 := b1.below hB1 b1.lt
    replace hB := below_in hB hB1
    have b2 := Blk.new w1 51 #[.int .i64 k, .int .i64 p, .int .i64 d, .int .i64 c]
    replace b1 := b1.below (below_one w1 (.cells #[.int .i64 k, .int .i64 p, .int .i64 d, .int .i64 c] 51)) b1.lt
    replace hB := below_in hB (below_one _ (.cells #[.int .i64 k, .int .i64 p, .int .i64 d, .int .i64 c] 51))
    have hL2 := hL.next hB
    have z0 := b1.cell 0
    have z1 := b1.cell 1
    simp only [List.getElem?_toArray, List.getElem?_cons_zero, List.getElem?_cons_succ] at z0 z1
    go_wp2_with fail
    refine (HH.out _ hL2).mono ?_
    rintro e w3 ⟨rfl, hB3⟩
    replace hB := below_in hB hB3
    replace b2 := b2.below hB3 b2.lt
    replace b1 := b1.below hB3 b1.lt
    have e0 := b2.cell 0
    have e1 := b2.cell 1
    have e2 := b2.cell 2
    have e3 := b2.cell 3
    clear z0 z1
    have z0 := b1.cell 0
    have z1 := b1.cell 1
    simp only [List.getElem?_toArray, List.getElem?_cons_zero, List.getElem?_cons_succ] at e0 e1 e2 e3 z0 z1
    have hL3 := hL.next hB
    go_wp2_with fail
    refine (HT.out _ hL3).mono ?_
    rintro e w4 ⟨v, rfl, ho, hB4⟩
    have hs3 := hB.size
    go_wp2_with fail
    refine (HO.out w4 w3.heap.size v hB4.size ho).mono ?_
    rintro e w5 ⟨u, s, rfl, hp, hst, hrd, hB5⟩
    go_wp2
    simp only [Exit.jump]
    go_ret2
    exact ⟨_, s, rfl, hp, hst, hrd, hB.trans ((hB4.trans hB5).mono hs3)⟩
end Go.Proofs.YteglikljmkielaaGreatDoor
