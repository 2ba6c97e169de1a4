/- chain: giving up, what is answered. chain: primes, and columns of data that are lost. chain: the chain of two columns, over which a range goes whose body keeps rows of its own. -/
import Derived.Test.YtfihlelhpmjpaaaGreatDoorCRG8
namespace Go.Proofs.YtfihlelhpmjpaaaGreatDoor.Ch
open Go.RowKit Go.Shelf Go.Proofs.YtfihlelhpmjpaaaGreatDoor.C Go.Proofs.YtfihlelhpmjpaaaGreatDoor.E
set_option linter.unusedSimpArgs false
set_option linter.unusedVariables false

/-- What it gives up with: an error's number. -/
def gave (x : Int) : List PanicEntry := [{ v := .iface 25 (.int .i64 x), recovered := false }]
theorem assert_errnoX (x : Int) (w : World) : (Instr.typeAssert (.iface 25 (.int .i64 x)) 20 25 false).run Tryz.prog w = .ok (.int .i64 x) w := by kernel_rfl

set_option maxHeartbeats 400000 in
theorem need_yes (y : Int) (w : World) : Calls Tryz.prog 92 #[.bool true, .int .i64 y] w fun e w' => e = .returned (.tuple #[]) ∧ w = w' := by
  go_enter Tryz.func92, Tryz.ntmps92
  go_wp2
  go_end0
  exact ⟨rfl, rfl⟩
set_option maxHeartbeats 400000 in
theorem need_no (y : Int) (w : World) : Calls Tryz.prog 92 #[.bool false, .int .i64 y] w fun e w' => e = .panicked (gave y) ∧ w = w' := by
  go_enter Tryz.func92, Tryz.ntmps92
  go_wp2
  exact ⟨rfl, rfl, rfl⟩
set_option maxHeartbeats 400000 in
theorem sureB (v : Value) (w : World) : Calls Tryz.prog 97 #[v, .int .i64 0] w fun e w' => e = .returned v ∧ w = w' := by
  have hn := need_yes 0 w
  go_enter Tryz.func97, Tryz.ntmps97
  go_wp2_with (go_at_call 92; refine (need_yes _ _).mono ?_; rintro e w2 ⟨rfl, rfl⟩)
  go_ret
  exact ⟨rfl, rfl⟩
set_option maxHeartbeats 400000 in
theorem sureC (v : Value) (w : World) : Calls Tryz.prog 110 #[v, .int .i64 0] w fun e w' => e = .returned v ∧ w = w' := by
  have hn := need_yes 0 w
  go_enter Tryz.func110, Tryz.ntmps110
  go_wp2_with (go_at_call 92; refine (need_yes _ _).mono ?_; rintro e w2 ⟨rfl, rfl⟩)
  go_ret
  exact ⟨rfl, rfl⟩
set_option maxHeartbeats 400000 in
theorem sureS (v : Value) (w : World) : Calls Tryz.prog 167 #[v, .int .i64 0] w fun e w' => e = .returned v ∧ w = w' := by
  have hn := need_yes 0 w
  go_enter Tryz.func167, Tryz.ntmps167
  go_wp2_with (go_at_call 92; refine (need_yes _ _).mono ?_; rintro e w2 ⟨rfl, rfl⟩)
  go_ret
  exact ⟨rfl, rfl⟩
set_option maxHeartbeats 400000 in
theorem sureI (n : Int) (w : World) : Calls Tryz.prog 149 #[.int .i64 n, .int .i64 0] w fun e w' => e = .returned (.int .i64 n) ∧ w = w' := by
  go_enter Tryz.func149, Tryz.ntmps149
  go_wp2_with (go_at_call 92; refine (need_yes _ _).mono ?_; rintro e w2 ⟨rfl, rfl⟩)
  go_ret
  exact ⟨rfl, rfl⟩

/-- What is answered when nothing gave up. -/
theorem idle_A (p : Addr) (w : World) :
    CallsD Tryz.prog 114 #[.pointer (some p)] .returning w fun e u' w' => e = .returned (.tuple #[]) ∧ u' = .returning ∧ w' = w := by
  have hta := assert_errnoX
  refine callsD_of_wpS Tryz.func114 rfl fun c₀ cs hu => ?_
  simp only [Tryz.ntmps114, List.size_toArray, List.length_cons, List.length_nil, Nat.reduceAdd, Nat.reduceSub, Array.replicate_succ, Array.replicate_zero, List.push_toArray, List.append_toArray, List.nil_append, List.cons_append]
  apply wpS_seq
  apply wpS_region
  simp [wpOpsS, go_sem, recoverD, hu, Exit.thenS]
  all_goals (refine wpS_of_wp ?_; go_wp2; cases c₀; simp_all [bodyPostS, results, Tryz.results114])
/-- What is answered when it gave up. -/
theorem caught_A (p : Addr) (x y : Int) (w : World) (hc : w.cell? p = some (.int .i64 x)) (hz : w.frozen? p = false) :
    CallsD Tryz.prog 114 #[.pointer (some p)] (.panicking (gave y)) w fun e u' w' =>
      e = .returned (.tuple #[]) ∧ u' = .panicking [{ v := .iface 25 (.int .i64 y), recovered := true }] ∧ w' = w.setCell p (.int .i64 y) := by
  have hta := assert_errnoX
  refine callsD_of_wpS Tryz.func114 rfl fun c₀ cs hu => ?_
  simp only [Tryz.ntmps114, List.size_toArray, List.length_cons, List.length_nil, Nat.reduceAdd, Nat.reduceSub, Array.replicate_succ, Array.replicate_zero, List.push_toArray, List.append_toArray, List.nil_append, List.cons_append]
  apply wpS_seq
  apply wpS_region
  simp [wpOpsS, go_sem, recoverD, hu, Exit.thenS, gave]
  all_goals (refine wpS_of_wp ?_; go_wp2; simp [bodyPostS, results, Tryz.results114])
set_option maxHeartbeats 400000 in
theorem ans_A_yes (f : Nat) (caps : Array Value) (w : World) (Post : Value → World → Prop) (hent : ∀ W, (callFunc f caps).run Tryz.prog W = .ok (.enter f caps) W)
    (h : ∀ W, Below w.heap.size w W → Blk W w.heap.size 25 #[.int .i64 0] → Calls Tryz.prog f caps W fun e w' => ∃ v, e = .returned v ∧ Post v w' ∧ Below W.heap.size W w') :
    Calls Tryz.prog 65 #[.func (.func f) #[] caps] w fun e w' => ∃ v W, e = .returned (.tuple #[v, .int .i64 0]) ∧ Post v W ∧ Blk W w.heap.size 25 #[.int .i64 0] ∧ w' = W.setCell ⟨w.heap.size, 0, none⟩ (.int .i64 0) ∧ Below w.heap.size w w' := by
  have hmf : ∀ (fn : Fn) (first cap : Array Value) (w : World), (Instr.makeFunc fn first cap).run Tryz.prog w = .ok (.func fn first cap) w := fun _ _ _ _ => rfl
  have h1 := h (w.alloc (.cells #[.int .i64 0] 25)) ((Below.refl _ w).alloc (Nat.le_refl _) _) (Blk.new w _ _)
  clear h
  go_enter_defers Tryz.func65, Tryz.ntmps65
  go_wp2
  refine h1.mono ?_
  rintro e w1 ⟨v, rfl, hv, hB1⟩
  have b1 : Blk w1 w.heap.size 25 #[.int .i64 0] := (Blk.new w _ _).below hB1 (by simp)
  have c1 := b1.cell 0
  have f1 := b1.frozen 0
  simp only [List.getElem?_toArray, List.getElem?_cons_zero] at c1
  go_wp2
  refine leaves_cons (f := 114) (args := #[.pointer (some ⟨w.heap.size, 0, none⟩)]) (by simp) (by simp [go_sem]) ?_
  refine (idle_A ⟨w.heap.size, 0, none⟩ _).mono ?_
  rintro e u' w'' ⟨rfl, rfl, rfl⟩
  have c2 : (w1.setCell ⟨w.heap.size, 0, none⟩ (.int .i64 0)).cell? ⟨w.heap.size, 0, none⟩ = some (.int .i64 0) := World.cell?_setCell_same' _ _ _ (by rw [c1]; rfl)
  simp [Go.Leaves, settle, results, Tryz.results65, go_sem, c2]
  exact ⟨w1, hv, b1, rfl, (((Below.refl _ w).alloc (Nat.le_refl _) _).trans (hB1.mono (by simp))).setCell (Nat.le_refl _) _⟩
set_option maxHeartbeats 400000 in
theorem ans_A_no (y : Int) (f : Nat) (caps : Array Value) (w : World) (hent : ∀ W, (callFunc f caps).run Tryz.prog W = .ok (.enter f caps) W)
    (h : ∀ W, Below w.heap.size w W → w.heap.size < W.heap.size → Calls Tryz.prog f caps W fun e w' => e = .panicked (gave y) ∧ Below W.heap.size W w') :
    Calls Tryz.prog 65 #[.func (.func f) #[] caps] w fun e w' => e = .returned (.tuple #[.slice none 0 0, .int .i64 y]) ∧ Below w.heap.size w w' := by
  have hmf : ∀ (fn : Fn) (first cap : Array Value) (w : World), (Instr.makeFunc fn first cap).run Tryz.prog w = .ok (.func fn first cap) w := fun _ _ _ _ => rfl
  have h1 := h (w.alloc (.cells #[.int .i64 0] 25)) ((Below.refl _ w).alloc (Nat.le_refl _) _) (by simp)
  clear h
  go_enter_defers Tryz.func65, Tryz.ntmps65
  go_wp2
  refine h1.mono ?_
  rintro e w1 ⟨rfl, hB1⟩
  have b1 : Blk w1 w.heap.size 25 #[.int .i64 0] := (Blk.new w _ _).below hB1 (by simp)
  have c1 := b1.cell 0
  have f1 := b1.frozen 0
  simp only [List.getElem?_toArray, List.getElem?_cons_zero] at c1
  refine leaves_cons (f := 114) (args := #[.pointer (some ⟨w.heap.size, 0, none⟩)]) (by simp) (by simp [go_sem]) ?_
  refine (caught_A ⟨w.heap.size, 0, none⟩ 0 y _ c1 f1).mono ?_
  rintro e u' w'' ⟨rfl, rfl, rfl⟩
  have c2 : (w1.setCell ⟨w.heap.size, 0, none⟩ (.int .i64 y)).cell? ⟨w.heap.size, 0, none⟩ = some (.int .i64 y) := World.cell?_setCell_same' _ _ _ (by rw [c1]; rfl)
  simp [Go.Leaves, settle, results, Tryz.results65, go_sem, c2]
  exact (((Below.refl _ w).alloc (Nat.le_refl _) _).trans (hB1.mono (by simp))).setCell (Nat.le_refl _) _

/-- What is answered when nothing gave up. -/
theorem idle_S (p : Addr) (w : World) :
    CallsD Tryz.prog 91 #[.pointer (some p)] .returning w fun e u' w' => e = .returned (.tuple #[]) ∧ u' = .returning ∧ w' = w := by
  have hta := assert_errnoX
  refine callsD_of_wpS Tryz.func91 rfl fun c₀ cs hu => ?_
  simp only [Tryz.ntmps91, List.size_toArray, List.length_cons, List.length_nil, Nat.reduceAdd, Nat.reduceSub, Array.replicate_succ, Array.replicate_zero, List.push_toArray, List.append_toArray, List.nil_append, List.cons_append]
  apply wpS_seq
  apply wpS_region
  simp [wpOpsS, go_sem, recoverD, hu, Exit.thenS]
  all_goals (refine wpS_of_wp ?_; go_wp2; cases c₀; simp_all [bodyPostS, results, Tryz.results91])
set_option maxHeartbeats 400000 in
theorem ans_S_yes (f : Nat) (caps : Array Value) (w : World) (Post : Value → World → Prop) (hent : ∀ W, (callFunc f caps).run Tryz.prog W = .ok (.enter f caps) W)
    (h : ∀ W, Below w.heap.size w W → Blk W w.heap.size 25 #[.int .i64 0] → Calls Tryz.prog f caps W fun e w' => ∃ v, e = .returned v ∧ Post v w' ∧ Below W.heap.size W w') :
    Calls Tryz.prog 43 #[.func (.func f) #[] caps] w fun e w' => ∃ v W, e = .returned (.tuple #[v, .int .i64 0]) ∧ Post v W ∧ Blk W w.heap.size 25 #[.int .i64 0] ∧ w' = W.setCell ⟨w.heap.size, 0, none⟩ (.int .i64 0) ∧ Below w.heap.size w w' := by
  have hmf : ∀ (fn : Fn) (first cap : Array Value) (w : World), (Instr.makeFunc fn first cap).run Tryz.prog w = .ok (.func fn first cap) w := fun _ _ _ _ => rfl
  have h1 := h (w.alloc (.cells #[.int .i64 0] 25)) ((Below.refl _ w).alloc (Nat.le_refl _) _) (Blk.new w _ _)
  clear h
  go_enter_defers Tryz.func43, Tryz.ntmps43
  go_wp2
  refine h1.mono ?_
  rintro e w1 ⟨v, rfl, hv, hB1⟩
  have b1 : Blk w1 w.heap.size 25 #[.int .i64 0] := (Blk.new w _ _).below hB1 (by simp)
  have c1 := b1.cell 0
  have f1 := b1.frozen 0
  simp only [List.getElem?_toArray, List.getElem?_cons_zero] at c1
  go_wp2
  refine leaves_cons (f := 91) (args := #[.pointer (some ⟨w.heap.size, 0, none⟩)]) (by simp) (by simp [go_sem]) ?_
  refine (idle_S ⟨w.heap.size, 0, none⟩ _).mono ?_
  rintro e u' w'' ⟨rfl, rfl, rfl⟩
  have c2 : (w1.setCell ⟨w.heap.size, 0, none⟩ (.int .i64 0)).cell? ⟨w.heap.size, 0, none⟩ = some (.int .i64 0) := World.cell?_setCell_same' _ _ _ (by rw [c1]; rfl)
  simp [Go.Leaves, settle, results, Tryz.results43, go_sem, c2]
  exact ⟨w1, hv, b1, rfl, (((Below.refl _ w).alloc (Nat.le_refl _) _).trans (hB1.mono (by simp))).setCell (Nat.le_refl _) _⟩
/-- What is answered when nothing gave up. -/
theorem idle_C (p : Addr) (w : World) :
    CallsD Tryz.prog 108 #[.pointer (some p)] .returning w fun e u' w' => e = .returned (.tuple #[]) ∧ u' = .returning ∧ w' = w := by
  have hta := assert_errnoX
  refine callsD_of_wpS Tryz.func108 rfl fun c₀ cs hu => ?_
  simp only [Tryz.ntmps108, List.size_toArray, List.length_cons, List.length_nil, Nat.reduceAdd, Nat.reduceSub, Array.replicate_succ, Array.replicate_zero, List.push_toArray, List.append_toArray, List.nil_append, List.cons_append]
  apply wpS_seq
  apply wpS_region
  simp [wpOpsS, go_sem, recoverD, hu, Exit.thenS]
  all_goals (refine wpS_of_wp ?_; go_wp2; cases c₀; simp_all [bodyPostS, results, Tryz.results108])
set_option maxHeartbeats 400000 in
theorem ans_C_yes (f : Nat) (caps : Array Value) (w : World) (Post : Value → World → Prop) (hent : ∀ W, (callFunc f caps).run Tryz.prog W = .ok (.enter f caps) W)
    (h : ∀ W, Below w.heap.size w W → Blk W w.heap.size 25 #[.int .i64 0] → Calls Tryz.prog f caps W fun e w' => ∃ v, e = .returned v ∧ Post v w' ∧ Below W.heap.size W w') :
    Calls Tryz.prog 54 #[.func (.func f) #[] caps] w fun e w' => ∃ v W, e = .returned (.tuple #[v, .int .i64 0]) ∧ Post v W ∧ Blk W w.heap.size 25 #[.int .i64 0] ∧ w' = W.setCell ⟨w.heap.size, 0, none⟩ (.int .i64 0) ∧ Below w.heap.size w w' := by
  have hmf : ∀ (fn : Fn) (first cap : Array Value) (w : World), (Instr.makeFunc fn first cap).run Tryz.prog w = .ok (.func fn first cap) w := fun _ _ _ _ => rfl
  have h1 := h (w.alloc (.cells #[.int .i64 0] 25)) ((Below.refl _ w).alloc (Nat.le_refl _) _) (Blk.new w _ _)
  clear h
  go_enter_defers Tryz.func54, Tryz.ntmps54
  go_wp2
  refine h1.mono ?_
  rintro e w1 ⟨v, rfl, hv, hB1⟩
  have b1 : Blk w1 w.heap.size 25 #[.int .i64 0] := (Blk.new w _ _).below hB1 (by simp)
  have c1 := b1.cell 0
  have f1 := b1.frozen 0
  simp only [List.getElem?_toArray, List.getElem?_cons_zero] at c1
  go_wp2
  refine leaves_cons (f := 108) (args := #[.pointer (some ⟨w.heap.size, 0, none⟩)]) (by simp) (by simp [go_sem]) ?_
  refine (idle_C ⟨w.heap.size, 0, none⟩ _).mono ?_
  rintro e u' w'' ⟨rfl, rfl, rfl⟩
  have c2 : (w1.setCell ⟨w.heap.size, 0, none⟩ (.int .i64 0)).cell? ⟨w.heap.size, 0, none⟩ = some (.int .i64 0) := World.cell?_setCell_same' _ _ _ (by rw [c1]; rfl)
  simp [Go.Leaves, settle, results, Tryz.results54, go_sem, c2]
  exact ⟨w1, hv, b1, rfl, (((Below.refl _ w).alloc (Nat.le_refl _) _).trans (hB1.mono (by simp))).setCell (Nat.le_refl _) _⟩
end Go.Proofs.YtfihlelhpmjpaaaGreatDoor.Ch

namespace Go.Proofs.YtfihlelhpmjpaaaGreatDoor.Ch
open Go.RowKit Go.Shelf Go.Proofs.YtfihlelhpmjpaaaGreatDoor.C Go.Proofs.YtfihlelhpmjpaaaGreatDoor.E
set_option linter.unusedSimpArgs false
set_option linter.unusedVariables false
attribute [local go_sem] Oper.semAt_some

theorem rightC1 {p : Int} (hp : p ∈ prm) : RightC 1 p := ⟨by omega, hp⟩
set_option maxHeartbeats 1000000 in
theorem code_any (p : Int) (w : World) : Calls Tryz.prog 116 #[.int .i64 p] w fun e w' => e = .returned (.agg #[.int .i64 1, .int .i64 p]) ∧ Below w.heap.size w w' := by
  go_enter Tryz.func116, Tryz.ntmps116
  go_wp2
  have b := Blk.new w 49 #[.int .i64 1, .int .i64 p]
  have c0 := b.cell 0
  have c1 := b.cell 1
  simp only [List.getElem?_toArray, List.getElem?_cons_zero, List.getElem?_cons_succ] at c0 c1
  exact bodyPost_ret (v := .agg #[.int .i64 1, .int .i64 p]) (by simp [results, Tryz.results116, go_sem, c0, c1]) rfl ⟨rfl, below_one w _⟩
set_option maxHeartbeats 1000000 in
theorem last_any (P Q : Nat) (hQ : P = Q + 1) (hP : P ≤ 100) (w : World) : Calls Tryz.prog 100 #[.int .i64 (P : Int)] w fun e w' => e = .returned (.int .i64 (Q : Int)) ∧ w' = w := by
  have e : (P : Int) - 1 = (Q : Int) := by omega
  have hw : IntKind.i64.wrap ((P : Int) - 1) = (Q : Int) := by rw [e]; exact IntWalk.i64_in _ (by omega)
  clear e hQ
  go_enter Tryz.func100, Tryz.ntmps100
  go_wp2
  go_ret
  exact ⟨rfl, rfl⟩
set_option maxHeartbeats 1000000 in
theorem rowsAt_any (p : Int) (w : World) : Calls Tryz.prog 56 #[.int .i64 p] w fun e w' => e = .returned (.int .i64 p) ∧ w' = w := by
  go_enter Tryz.func56, Tryz.ntmps56
  go_wp2
  go_ret
  exact ⟨rfl, rfl⟩
set_option maxHeartbeats 1000000 in
theorem primeOf_yes (p : Int) (hp : p ∈ prm) (w : World) (hL : Laid w) : Calls Tryz.prog 67 #[.int .i64 p] w fun e w' => e = .returned (.int .i64 p) ∧ Below w.heap.size w w' := by
  have HC := Lib.hid (fun W hL => (shapeCheck_any 1 p W hL).mono fun e w' h => And.intro (h.1 (rightC1 hp)) h.2.2)
  clear hp
  go_enter Tryz.func67, Tryz.ntmps67
  go_wp2_with (first
    | (go_at_call 116; refine (code_any p _).mono ?_; rintro e w1 ⟨rfl, hB1⟩; replace hL := hL.next hB1)
    | (go_at_call 115; refine (HC.out _ hL).mono ?_; rintro e w2 ⟨rfl, hB2⟩)
    | (go_at_call 92; refine (need_yes _ _).mono ?_; rintro e w3 ⟨rfl, rfl⟩))
  go_ret
  exact ⟨rfl, below_in hB1 hB2⟩
set_option maxHeartbeats 1000000 in
theorem cols_any (p : Int) (hp : p ∈ prm) (w : World) (hL : Laid w) : Calls Tryz.prog 93 #[.int .i64 p] w fun e w' => e = .returned (.int .i64 (p + 2)) ∧ Below w.heap.size w w' := by
  have HC := Lib.hid (fun W hL => (shapeCols_any 1 p W hL).mono fun _ _ h => (⟨h.1 (rightC1 hp), h.2.2⟩ : _ ∧ _))
  rw [show shortN 1 = 0 from rfl, Int.sub_zero, show madeN 1 = 2 from rfl] at HC
  clear hp
  go_enter Tryz.func93, Tryz.ntmps93
  go_wp2_with (first
    | (go_at_call 116; refine (code_any p _).mono ?_; rintro e w1 ⟨rfl, hB1⟩; replace hL := hL.next hB1)
    | (go_at_call 133; refine (HC.out _ hL).mono ?_; rintro e w2 ⟨rfl, hB2⟩)
    | (go_at_call 149; refine (sureI _ _).mono ?_; rintro e w3 ⟨rfl, rfl⟩))
  go_ret
  exact ⟨rfl, below_in hB1 hB2⟩
theorem role_is (p x : Int) (hp : p ∈ prm) (w : World) (hL : Laid w) : Calls Tryz.prog 177 #[.agg #[.int .i64 1, .int .i64 p], (.int .i64 x)] w fun e w' => ∃ r er : Int, (r == 1) = decide (0 ≤ x ∧ x < p) ∧ e = .returned (.tuple #[.int .i64 r, .int .i64 er]) ∧ Below w.heap.size w w' := by
  refine (shapeRole_any 1 p x w hL).mono ?_
  rintro e w' ⟨_, h2, h3, hB⟩
  have hb := prm_bounds hp
  by_cases h : HasCol 1 p x
  · refine ⟨_, _, ?_, h3 (rightC1 hp) h, hB⟩
    unfold HasCol at h
    rw [show shortN 1 = 0 from rfl, show madeN 1 = 2 from rfl] at h
    unfold roleN
    rw [show shortN 1 = 0 from rfl, Int.sub_zero]
    by_cases e1 : x = p
    · rw [if_pos e1, decide_eq_false (by omega)]; rfl
    · by_cases e2 : x = p + 1
      · rw [if_neg e1, if_pos e2, decide_eq_false (by omega)]; rfl
      · by_cases e3 : x = p + 2
        · omega
        · rw [if_neg e1, if_neg e2, if_neg e3, decide_eq_true (by omega)]; rfl
  · refine ⟨_, _, ?_, h2 (rightC1 hp) h, hB⟩
    unfold HasCol at h
    rw [show shortN 1 = 0 from rfl, show madeN 1 = 2 from rfl] at h
    rw [decide_eq_false (by omega)]; rfl
set_option maxHeartbeats 1000000 in
theorem isData_any (p x : Int) (hp : p ∈ prm) (w : World) (hL : Laid w) : Calls Tryz.prog 117 #[.int .i64 p, .int .i64 x] w fun e w' => e = .returned (.bool (decide (0 ≤ x ∧ x < p))) ∧ Below w.heap.size w w' := by
  have HC := Lib.hid (fun W hL => role_is p x hp W hL)
  generalize decide (0 ≤ x ∧ x < p) = d at *
  clear hp
  go_enter Tryz.func117, Tryz.ntmps117
  go_wp2_with (first
    | (go_at_call 116; refine (code_any p _).mono ?_; rintro e w1 ⟨rfl, hB1⟩; replace hL := hL.next hB1)
    | (go_at_call 177; refine (HC.out _ hL).mono ?_; rintro e w2 ⟨r, er, hr, rfl, hB2⟩))
  go_ret
  exact ⟨rfl, below_in hB1 hB2⟩
set_option maxHeartbeats 1000000 in
theorem diagonal_any (p x y : Int) (hp : p ∈ prm) (hx : 0 ≤ x ∧ x < p) (hy : 0 ≤ y ∧ y < p - 1) (w : World) (hL : Laid w) : Calls Tryz.prog 163 #[.int .i64 p, .agg #[.int .i64 x, .int .i64 y]] w fun e w' => e = .returned (.int .i64 ((x + y) % p)) ∧ Below w.heap.size w w' := by
  have hh : HasCell 1 p x y := ⟨⟨hx.1, by rw [show shortN 1 = 0 from rfl, show madeN 1 = 2 from rfl]; omega⟩, hy⟩
  have HC := Lib.hid (fun W hL => (shapeDiagonal_any 1 p x y W hL).mono fun _ _ h => (⟨h.2.2.1 (rightC1 hp) hh, h.2.2.2⟩ : _ ∧ _))
  have bz := Blk.new w 55 #[.int .i64 x, .int .i64 y]
  have hBz := below_one w (.cells #[.int .i64 x, .int .i64 y] 55)
  generalize (x + y) % p = z at *
  clear hp hx hy hh
  obtain ⟨w0, hw0⟩ : ∃ x', w.alloc (.cells #[.int .i64 x, .int .i64 y] 55) = x' := ⟨_, rfl⟩
  obtain ⟨gz, hgz⟩ : ∃ x', w.heap.size = x' := ⟨_, rfl⟩
  rw [hw0] at bz hBz
  rw [hgz] at bz
  have HSS : Hid (∀ V, Below w0.heap.size w0 V → (fun U : World => U.cell? ⟨gz, 0, none⟩ = some (.int .i64 x) ∧ U.cell? ⟨gz, 1, none⟩ = some (.int .i64 y)) V) := fun V hV => ⟨(bz.below hV bz.lt).cell 0, (bz.below hV bz.lt).cell 1⟩
  have hBx := (Below.refl w0.heap.size w0).drew
  clear bz
  refine (callsIn_wide (n := 9)).1 ?_
  refine callsIn_of_wp_marks Tryz.func163 rfl trivial ?_ rfl
  simp only [Tryz.ntmps163, List.size_toArray, List.length_cons, List.length_nil, Nat.reduceAdd, Nat.reduceSub, Array.replicate_succ, Array.replicate_zero, List.push_toArray, List.append_toArray, List.nil_append, List.cons_append]
  gi_wp2_with fail
  try rw [hgz]
  try rw [hw0]
  have hS : (fun U : World => U.cell? ⟨gz, 0, none⟩ = some (.int .i64 x) ∧ U.cell? ⟨gz, 1, none⟩ = some (.int .i64 y)) w0.drew := HSS.out _ hBx
  refine wpIn_mono (region_HF (Q := NoPanic _) (S := (fun U : World => U.cell? ⟨gz, 0, none⟩ = some (.int .i64 x) ∧ U.cell? ⟨gz, 1, none⟩ = some (.int .i64 y))) (by kernel_rfl) ?_) NoPanic.imp
  refine anyHF_take (i := 0) (d := 5) (v := .int .i64 p) (by kernel_rfl) rfl (by kernel_rfl) (by kernel_rfl) (by kernel_rfl) rfl (fun _ _ _ h => h) ⟨Or.inl ⟨by rfl, fun w hS => by obtain ⟨h0, h1⟩ := hS; go_simp⟩, fun _ => rfl⟩ hS ?_
  simp only [List.setIfInBounds_toArray, List.set_cons_zero, List.set_cons_succ]
  refine anyHF_take (i := 2) (d := 7) (v := .agg #[.int .i64 x, .int .i64 y]) (by kernel_rfl) rfl (by kernel_rfl) (by kernel_rfl) (by kernel_rfl) rfl (fun _ _ _ h => h) ⟨Or.inl ⟨by rfl, fun w hS => by obtain ⟨h0, h1⟩ := hS; go_simp⟩, fun _ => rfl⟩ hS ?_
  simp only [List.setIfInBounds_toArray, List.set_cons_zero, List.set_cons_succ]
  refine anyHF_one (i := 1) (by kernel_rfl) rfl (by kernel_rfl) (by rfl) ?_
  gi_wp2_with fail
  refine ⟨trivial, (callsIn_wide.2 (code_any p _)).mono ?_⟩
  rintro e w1 ⟨rfl, hB1⟩
  replace hBx := below_in hBx hB1
  clear hS
  have hS : (fun U : World => U.cell? ⟨gz, 0, none⟩ = some (.int .i64 x) ∧ U.cell? ⟨gz, 1, none⟩ = some (.int .i64 y)) w1 := HSS.out _ hBx
  gi_wp2
  try (refine ⟨hS, ?_⟩)
  refine anyHF_one (i := 3) (by kernel_rfl) rfl (by kernel_rfl) (by rfl) ?_
  gi_wp2_with fail
  refine ⟨trivial, (callsIn_wide.2 (HC.out _ (hL.next (below_in hBz hBx)))).mono ?_⟩
  rintro e w2 ⟨rfl, hB2⟩
  replace hBx := below_in hBx hB2
  clear hS
  have hS : (fun U : World => U.cell? ⟨gz, 0, none⟩ = some (.int .i64 x) ∧ U.cell? ⟨gz, 1, none⟩ = some (.int .i64 y)) w2 := HSS.out _ hBx
  gi_wp2
  try (refine ⟨hS, ?_⟩)
  refine anyHF_take (i := 4) (d := 9) (v := .int .i64 z) (by kernel_rfl) rfl (by kernel_rfl) (by kernel_rfl) (by kernel_rfl) rfl (fun _ _ _ h => h) ⟨Or.inl ⟨by rfl, fun w hS => by obtain ⟨h0, h1⟩ := hS; go_simp⟩, fun _ => rfl⟩ hS ?_
  simp only [List.setIfInBounds_toArray, List.set_cons_zero, List.set_cons_succ]
  refine anyHF_take (i := 5) (d := 10) (v := .int .i64 0) (by kernel_rfl) rfl (by kernel_rfl) (by kernel_rfl) (by kernel_rfl) rfl (fun _ _ _ h => h) ⟨Or.inl ⟨by rfl, fun w hS => by obtain ⟨h0, h1⟩ := hS; go_simp⟩, fun _ => rfl⟩ hS ?_
  simp only [List.setIfInBounds_toArray, List.set_cons_zero, List.set_cons_succ]
  refine anyHF_one (i := 6) (by kernel_rfl) rfl (by kernel_rfl) (by rfl) ?_
  gi_wp2_with fail
  refine ⟨trivial, (callsIn_wide.2 (sureI z _)).mono ?_⟩
  rintro e w3 ⟨rfl, rfl⟩
  gi_wp2
  try (refine ⟨hS, ?_⟩)
  refine anyHF_one (i := 7) (by kernel_rfl) rfl (by kernel_rfl) (by rfl) ?_
  gi_wp2
  refine anyHF_done (by kernel_rfl) ?_ _
  refine NoPanic.normal ?_
  gi_wp2
  exact ⟨_, by simp [results, Tryz.results163, go_sem], rfl, below_in hBz hBx⟩
/-- The list of lost columns as it lies: one number or two, rising. -/
def GoodL (p : Int) (ls : List Int) (i : Nat) : Prop := (0 ≤ ls[i]?.getD 0 ∧ ls[i]?.getD 0 < p) ∧ (i = 0 ∨ ls[i - 1]?.getD 0 < ls[i]?.getD 0)
set_option maxRecDepth 100000 in
set_option maxHeartbeats 4000000 in
theorem losing_yes (p : Int) (hp : p ∈ prm) (g : Nat) (ls : List Int) (hls : ls.length ≤ 1000) (hgood : ∀ i, i < ls.length → GoodL p ls i) (w : World) (hL : Laid w) (hg : g < w.heap.size) (hcell : ∀ j, j < ls.length → w.cell? ⟨g, j, none⟩ = some (.int .i64 (ls[j]?.getD 0))) :
    Calls Tryz.prog 68 #[.int .i64 p, .slice (some ⟨g, 0, none⟩) ls.length ls.length] w fun e w' => e = .returned (.agg #[.int .i64 p, .slice (some ⟨g, 0, none⟩) ls.length ls.length]) ∧ Below w.heap.size w w' := by
  have HCE := Lib.hid hcell
  have HG := Lib.hid hgood
  have HI := Lib.hid (fun (x : Int) (W : World) (hL : Laid W) => isData_any p x hp W hL)
  clear hcell hgood hp
  go_enter Tryz.func68, Tryz.ntmps68
  go_wp2_with fail
  go_loopw [9] (fun v wr => ∃ k : Nat, k ≤ ls.length ∧ v = .int .i64 k ∧ Blk wr w.heap.size 70 #[.int .i64 0, .slice none 0 0] ∧ Below w.heap.size w wr) (fun v _ => ls.length - (intOf v).toNat)
  case atStart => exact ⟨0, Nat.zero_le _, rfl, Blk.new w _ _, below_one w _⟩
  case round =>
    obtain ⟨k, hk, rfl, bz, hBr⟩ := hrel
    by_cases hlt : k < ls.length
    · have hdec : decide ((k : Int) < (ls.length : Int)) = true := by simp; omega
      have i1 : (0 : Int) ≤ (k : Int) := by omega
      have i2 : (k : Int) < (ls.length : Int) := by omega
      have hc := (hBr.cell (p := ⟨g, k, none⟩) hg).trans (HCE.out k hlt)
      obtain ⟨h1, h2⟩ := HG.out k hlt
      rcases Nat.eq_zero_or_pos k with rfl | hpos
      · generalize ls[0]?.getD 0 = x at *
        have hd : decide (0 ≤ x ∧ x < p) = true := decide_eq_true h1
        have e0 : (((0 : Nat) : Int) == 0) = true := rfl
        clear h1 h2
        go_wp2_with (first
          | (go_at_call 117; refine (HI.out _ _ (hL.next hBr)).mono ?_; rintro e w1 ⟨rfl, hB1⟩)
          | (go_at_call 92; refine (need_yes _ _).mono ?_; rintro e w2 ⟨rfl, rfl⟩))
        go_roundw
        case rel => exact ⟨1, by omega, rfl, bz.below hB1 bz.lt, below_in hBr hB1⟩
        case measure => simp [intOf]; omega
      · obtain ⟨m, hm⟩ : ∃ m, k - 1 = m := ⟨_, rfl⟩
        have hc2 := (hBr.cell (p := ⟨g, m, none⟩) hg).trans (HCE.out m (by omega))
        have h3 : ls[m]?.getD 0 < ls[k]?.getD 0 := by
          rcases h2 with h2 | h2
          · exact absurd h2 (by omega)
          · rwa [hm] at h2
        have hw : IntKind.i64.wrap ((k : Int) - 1) = (m : Int) := by rw [show (k : Int) - 1 = (m : Int) by omega]; exact IntWalk.i64_in _ (by omega)
        have e0 : ((k : Int) == 0) = false := by simp; omega
        have i3 : (0 : Int) ≤ (m : Int) := by omega
        have i4 : (m : Int) < (ls.length : Int) := by omega
        clear hm h2
        generalize ls[k]?.getD 0 = x at *
        generalize ls[m]?.getD 0 = y at *
        have hd : decide (0 ≤ x ∧ x < p) = true := decide_eq_true h1
        have hd2 : decide (y < x) = true := decide_eq_true h3
        clear h1 h3
        go_wp2_with (first
          | (go_at_call 117; refine (HI.out _ _ (hL.next hBr)).mono ?_; rintro e w1 ⟨rfl, hB1⟩; replace hc2 := (hB1.cell (p := ⟨g, m, none⟩) (Nat.lt_of_lt_of_le hg hBr.size)).trans hc2)
          | (go_at_call 92; refine (need_yes _ _).mono ?_; rintro e w2 ⟨rfl, rfl⟩))
        go_roundw
        case rel => exact ⟨k + 1, by omega, by go_num, bz.below hB1 bz.lt, below_in hBr hB1⟩
        case measure => simp [intOf]; omega
    · obtain rfl : k = ls.length := by omega
      have e1 : decide ((ls.length : Int) < (ls.length : Int)) = false := by simp
      have c0 := bz.cell 0
      have c1 := bz.cell 1
      have f0 := bz.frozen 0
      have f1 := bz.frozen 1
      simp only [List.getElem?_toArray, List.getElem?_cons_zero, List.getElem?_cons_succ] at c0 c1
      have b2 := (bz.set_ 0 (.int .i64 p)).set_ 1 (.slice (some ⟨g, 0, none⟩) ls.length ls.length)
      have hB2 := (hBr.setCell (p := ⟨w.heap.size, 0, none⟩) (Nat.le_refl _) (.int .i64 p)).setCell (p := ⟨w.heap.size, 1, none⟩) (Nat.le_refl _) (.slice (some ⟨g, 0, none⟩) ls.length ls.length)
      have r0 := b2.cell 0
      have r1 := b2.cell 1
      simp only [List.setIfInBounds_toArray, List.set_cons_zero, List.set_cons_succ, List.getElem?_toArray, List.getElem?_cons_zero, List.getElem?_cons_succ] at r0 r1
      go_wp2_with fail
      exact bodyPost_ret (v := .agg #[.int .i64 p, .slice (some ⟨g, 0, none⟩) ls.length ls.length]) (by simp [results, Tryz.results68, go_sem, r0, r1]) rfl ⟨rfl, hB2⟩
set_option maxRecDepth 100000 in
set_option maxHeartbeats 4000000 in
theorem losing_no (p : Int) (hp : p ∈ prm) (g : Nat) (ls : List Int) (hls : ls.length ≤ 1000) (z : Nat) (hz : z < ls.length) (hgood : ∀ i, i < z → GoodL p ls i) (hbad : ¬ GoodL p ls z) (w : World) (hL : Laid w) (hg : g < w.heap.size) (hcell : ∀ j, j < ls.length → w.cell? ⟨g, j, none⟩ = some (.int .i64 (ls[j]?.getD 0))) :
    Calls Tryz.prog 68 #[.int .i64 p, .slice (some ⟨g, 0, none⟩) ls.length ls.length] w fun e w' => e = .panicked (gave 4) ∧ Below w.heap.size w w' := by
  have HCE := Lib.hid hcell
  have HG := Lib.hid hgood
  have HBAD := Lib.hid hbad
  have HI := Lib.hid (fun (x : Int) (W : World) (hL : Laid W) => isData_any p x hp W hL)
  clear hcell hgood hp hbad
  go_enter Tryz.func68, Tryz.ntmps68
  go_wp2_with fail
  go_loopw [9] (fun v wr => ∃ k : Nat, k ≤ z ∧ v = .int .i64 k ∧ Below w.heap.size w wr) (fun v _ => ls.length - (intOf v).toNat)
  case atStart => exact ⟨0, Nat.zero_le _, rfl, below_one w _⟩
  case round =>
    obtain ⟨k, hk, rfl, hBr⟩ := hrel
    have hlt : k < ls.length := by omega
    have hdec : decide ((k : Int) < (ls.length : Int)) = true := by simp; omega
    have i1 : (0 : Int) ≤ (k : Int) := by omega
    have i2 : (k : Int) < (ls.length : Int) := by omega
    have hc := (hBr.cell (p := ⟨g, k, none⟩) hg).trans (HCE.out k hlt)
    by_cases h1 : 0 ≤ ls[k]?.getD 0 ∧ ls[k]?.getD 0 < p
    · rcases Nat.eq_zero_or_pos k with rfl | hpos
      · have hkz : 0 < z := by
          rcases Nat.eq_zero_or_pos z with e | e
          · subst e; exact absurd ⟨h1, .inl rfl⟩ HBAD.out
          · exact e
        generalize ls[0]?.getD 0 = x at *
        have hd : decide (0 ≤ x ∧ x < p) = true := decide_eq_true h1
        have e0 : (((0 : Nat) : Int) == 0) = true := rfl
        clear h1
        go_wp2_with (first
          | (go_at_call 117; refine (HI.out _ _ (hL.next hBr)).mono ?_; rintro e w1 ⟨rfl, hB1⟩)
          | (go_at_call 92; refine (need_yes _ _).mono ?_; rintro e w2 ⟨rfl, rfl⟩))
        go_roundw
        case rel => exact ⟨1, by omega, rfl, below_in hBr hB1⟩
        case measure => simp [intOf]; omega
      · obtain ⟨m, hm⟩ : ∃ m, k - 1 = m := ⟨_, rfl⟩
        have hc2 := (hBr.cell (p := ⟨g, m, none⟩) hg).trans (HCE.out m (by omega))
        have hw : IntKind.i64.wrap ((k : Int) - 1) = (m : Int) := by rw [show (k : Int) - 1 = (m : Int) by omega]; exact IntWalk.i64_in _ (by omega)
        have e0 : ((k : Int) == 0) = false := by simp; omega
        have i3 : (0 : Int) ≤ (m : Int) := by omega
        have i4 : (m : Int) < (ls.length : Int) := by omega
        by_cases h3 : ls[m]?.getD 0 < ls[k]?.getD 0
        · have hkz : k < z := by
            rcases Nat.lt_or_ge k z with e | e
            · exact e
            · obtain rfl : k = z := by omega
              exact absurd ⟨h1, .inr (by rw [hm]; exact h3)⟩ HBAD.out
          clear hm
          generalize ls[k]?.getD 0 = x at *
          generalize ls[m]?.getD 0 = y at *
          have hd : decide (0 ≤ x ∧ x < p) = true := decide_eq_true h1
          have hd2 : decide (y < x) = true := decide_eq_true h3
          clear h1 h3
          go_wp2_with (first
            | (go_at_call 117; refine (HI.out _ _ (hL.next hBr)).mono ?_; rintro e w1 ⟨rfl, hB1⟩; replace hc2 := (hB1.cell (p := ⟨g, m, none⟩) (Nat.lt_of_lt_of_le hg hBr.size)).trans hc2)
            | (go_at_call 92; refine (need_yes _ _).mono ?_; rintro e w2 ⟨rfl, rfl⟩))
          go_roundw
          case rel => exact ⟨k + 1, by omega, by go_num, below_in hBr hB1⟩
          case measure => simp [intOf]; omega
        · clear hm
          generalize ls[k]?.getD 0 = x at *
          generalize ls[m]?.getD 0 = y at *
          have hd : decide (0 ≤ x ∧ x < p) = true := decide_eq_true h1
          have hd2 : decide (y < x) = false := decide_eq_false h3
          clear h1 h3
          go_wp2_with (first
            | (go_at_call 117; refine (HI.out _ _ (hL.next hBr)).mono ?_; rintro e w1 ⟨rfl, hB1⟩; replace hc2 := (hB1.cell (p := ⟨g, m, none⟩) (Nat.lt_of_lt_of_le hg hBr.size)).trans hc2)
            | (go_at_call 92; refine (need_no _ _).mono ?_; rintro e w2 ⟨rfl, rfl⟩))
          exact ⟨rfl, rfl, below_in hBr hB1⟩
    · generalize ls[k]?.getD 0 = x at *
      have hd : decide (0 ≤ x ∧ x < p) = false := decide_eq_false h1
      clear h1
      go_wp2_with (first
        | (go_at_call 117; refine (HI.out _ _ (hL.next hBr)).mono ?_; rintro e w1 ⟨rfl, hB1⟩)
        | (go_at_call 92; refine (need_no _ _).mono ?_; rintro e w2 ⟨rfl, rfl⟩))
      exact ⟨rfl, rfl, below_in hBr hB1⟩
set_option maxRecDepth 100000 in
set_option maxHeartbeats 4000000 in
theorem asked_yes (p : Int) (hp : p ∈ prm) (A : Option Addr) (N cap : Nat) (hN : (N : Int) = p + 2) (g : Nat) (ls : List Int) (hls : ls.length ≤ 1000) (hgood : ∀ i, i < ls.length → GoodL p ls i) (w : World) (hL : Laid w) (hg : g < w.heap.size) (hcell : ∀ j, j < ls.length → w.cell? ⟨g, j, none⟩ = some (.int .i64 (ls[j]?.getD 0))) :
    Calls Tryz.prog 45 #[.int .i64 p, .slice A N cap, .slice (some ⟨g, 0, none⟩) ls.length ls.length] w fun e w' => e = .returned (.agg #[.int .i64 p, .slice (some ⟨g, 0, none⟩) ls.length ls.length]) ∧ Below w.heap.size w w' := by
  have HP := Lib.hid (fun W hL => primeOf_yes p hp W hL)
  have HC := Lib.hid (fun W hL => cols_any p hp W hL)
  have hBz := below_one w (.cells #[.int .i64 0, .slice none 0 0] 70)
  have bz := Blk.new w 70 #[.int .i64 0, .slice none 0 0]
  have HLO := Lib.hid (fun (W : World) (hB : Below w.heap.size w W) => losing_yes p hp g ls hls hgood W (hL.next hB) (Nat.lt_of_lt_of_le hg hB.size) (fun j hj => (hB.cell (p := ⟨g, j, none⟩) hg).trans (hcell j hj)))
  have he : ((N : Int) == p + 2) = true := by simp; omega
  obtain ⟨w0, hw0⟩ : ∃ x, w.alloc (.cells #[.int .i64 0, .slice none 0 0] 70) = x := ⟨_, rfl⟩
  rw [hw0] at hBz bz
  have HBZ := Lib.hid bz
  clear hcell hgood hp hN bz
  generalize p + 2 = q at *
  generalize ls.length = n at *
  go_enter Tryz.func45, Tryz.ntmps45
  go_wp2_with (first
    | (go_at_call 67; (try rw [hw0]); refine (HP.out _ (hL.next hBz)).mono ?_; rintro e w1 ⟨rfl, hB1⟩)
    | (go_at_call 93; refine (HC.out _ (hL.next (below_in hBz hB1))).mono ?_; rintro e w2 ⟨rfl, hB2⟩; replace hB2 := below_in hB1 hB2)
    | (go_at_call 92; refine (need_yes _ _).mono ?_; rintro e w3 ⟨rfl, rfl⟩)
    | (go_at_call 68; refine (HLO.out _ (below_in hBz hB2)).mono ?_; rintro e w4 ⟨rfl, hB4⟩; replace hB4 := below_in hB2 hB4; have bz := HBZ.out.below hB4 HBZ.out.lt; have c0 := bz.cell 0; have c1 := bz.cell 1; have f0 := bz.frozen 0; have f1 := bz.frozen 1; simp only [List.getElem?_toArray, List.getElem?_cons_zero, List.getElem?_cons_succ] at c0 c1))
  have b2 := (bz.set_ 0 (.int .i64 p)).set_ 1 (.slice (some ⟨g, 0, none⟩) n n)
  have hB2' := ((below_in hBz hB4).setCell (p := ⟨w.heap.size, 0, none⟩) (Nat.le_refl _) (.int .i64 p)).setCell (p := ⟨w.heap.size, 1, none⟩) (Nat.le_refl _) (.slice (some ⟨g, 0, none⟩) n n)
  have r0 := b2.cell 0
  have r1 := b2.cell 1
  simp only [List.setIfInBounds_toArray, List.set_cons_zero, List.set_cons_succ, List.getElem?_toArray, List.getElem?_cons_zero, List.getElem?_cons_succ] at r0 r1
  exact bodyPost_ret (v := .agg #[.int .i64 p, .slice (some ⟨g, 0, none⟩) n n]) (by simp [results, Tryz.results45, go_sem, r0, r1]) rfl ⟨rfl, hB2'⟩
end Go.Proofs.YtfihlelhpmjpaaaGreatDoor.Ch

namespace Go.Proofs.YtfihlelhpmjpaaaGreatDoor.T
open Go.RowKit Go.Shelf Go.Maps Go.Proofs.YtfihlelhpmjpaaaGreatDoor.C Go.Proofs.YtfihlelhpmjpaaaGreatDoor.E Go.Proofs.YtfihlelhpmjpaaaGreatDoor.Ch
set_option linter.unusedSimpArgs false
set_option linter.unusedVariables false
attribute [local go_sem] Oper.semAt_some

/-- The places of the chain with their numbers: of each row that of b, and that of a. -/
def chn (a b : Int) (rs : List Int) : List (Int × Int × Int) := (List.range (2 * rs.length)).map fun n : Nat => ((n : Int), (if n % 2 = 0 then b else a), rs[n / 2]?.getD 0)
theorem chn_len (a b : Int) (rs : List Int) : (chn a b rs).length = 2 * rs.length := by unfold chn; simp
theorem chn_snoc (a b : Int) (rs : List Int) (x : Int) : chn a b (rs ++ [x]) = (chn a b rs ++ [(((2 * rs.length : Nat) : Int), b, x)]) ++ [(((2 * rs.length + 1 : Nat) : Int), a, x)] := by
  unfold chn
  rw [List.length_append, show 2 * (rs.length + [x].length) = 2 * rs.length + 1 + 1 by simp; omega, List.range_succ, List.range_succ, List.map_append, List.map_append, List.map_cons, List.map_cons, List.map_nil]
  congr 1
  · congr 1
    · refine List.map_congr_left fun n hn => ?_
      have := List.mem_range.1 hn
      rw [List.getElem?_append_left (by omega)]
    · have e1 : 2 * rs.length % 2 = 0 := by omega
      have e2 : 2 * rs.length / 2 = rs.length := by omega
      rw [e2, if_pos e1, List.getElem?_append_right (Nat.le_refl _), Nat.sub_self]
      rfl
  · have e1 : ¬ (2 * rs.length + 1) % 2 = 0 := by omega
    have e2 : (2 * rs.length + 1) / 2 = rs.length := by omega
    rw [e2, if_neg e1, List.getElem?_append_right (Nat.le_refl _), Nat.sub_self]
    rfl
theorem chn_one (a b : Int) (l : List Int) (x : Int) : chn a b l <+: chn a b (l ++ [x]) := by
  rw [chn_snoc, List.append_assoc]
  exact List.prefix_append _ _
theorem chn_app (a b : Int) : ∀ (t l : List Int), chn a b l <+: chn a b (l ++ t)
  | [], l => by rw [List.append_nil]; exact List.prefix_refl _
  | x :: t, l => by
    rw [show l ++ x :: t = (l ++ [x]) ++ t by simp]
    exact (chn_one a b l x).trans (chn_app a b t (l ++ [x]))
theorem chn_pre (a b : Int) {l m : List Int} (h : l <+: m) : chn a b l <+: chn a b m := by
  obtain ⟨t, rfl⟩ := h
  exact chn_app a b t l
/-- What a range's element is known to be. -/
def OkC (p a b : Int) (rs : List Int) (pre : List (Int × Int × Int)) (x : Int × Int × Int) : Prop := (0 ≤ x.2.2 ∧ x.2.2 < p - 1) ∧ pre ++ [x] <+: chn a b rs
theorem pre_at {α : Type} {l pre : List α} {x : α} (h : pre ++ [x] <+: l) : pre.length < l.length ∧ l[pre.length]? = some x := by
  obtain ⟨t, rfl⟩ := h
  refine ⟨by simp, ?_⟩
  rw [List.append_assoc, List.getElem?_append_right (Nat.le_refl _), Nat.sub_self]
  rfl
theorem okC_at {p a b : Int} {rs : List Int} {pre : List (Int × Int × Int)} {x : Int × Int × Int} (h : OkC p a b rs pre x) : pre.length < 2 * rs.length ∧ x = ((pre.length : Int), (if pre.length % 2 = 0 then b else a), rs[pre.length / 2]?.getD 0) := by
  obtain ⟨h1, h2⟩ := pre_at h.2
  rw [chn_len] at h1
  refine ⟨h1, ?_⟩
  unfold chn at h2
  rw [List.getElem?_map, List.getElem?_range h1] at h2
  injection h2 with h2
  exact h2.symm
def encC (x : Int × Int × Int) : Array Value := #[.int .i64 x.1, .agg #[.int .i64 x.2.1, .int .i64 x.2.2]]
/-- What goes over a chain. -/
def ChainT (lo : Nat) (p a b : Int) (rs : List Int) (v : Value) (w : World) : Prop :=
  ∃ gf lb, v = .func (.func gf) #[] lb ∧ (∀ args W, (callFunc gf args).run Tryz.prog W = .ok (.enter gf args) W) ∧
    ∀ n, 6 ≤ n → SeqT Fence.wide n Tryz.prog gf lb encC (fun pre x _ => OkC p a b rs pre x) (Keep lo (w.heap.size - lo)) (fun ys => ys = chn a b rs) (fun pre => pre <+: chn a b rs) (2 * rs.length) w
theorem enter_chain1 : ∀ args W, (callFunc 165 args).run Tryz.prog W = .ok (.enter 165 args) W := enters_of Tryz.func165 (by kernel_rfl) rfl
set_option maxRecDepth 100000 in
set_option maxHeartbeats 4000000 in
theorem chain1_in (n : Nat) (hn : 6 ≤ n) (l gl ga gb lo N : Nat) (p a b : Int) (hp : p ∈ prm) (ha : 0 ≤ a ∧ a < p) (hb : 0 ≤ b ∧ b < p) (lv : Value)
    (W : World) (hL : Laid W) (hgl : lo ≤ gl ∧ gl < N) (hga : lo ≤ ga ∧ ga < N) (hgb : lo ≤ gb ∧ gb < N) (hNW : N ≤ W.heap.size)
    (J Jx : List (Int × Int × Int) → (Nat → Prop) → World → Prop) (o₀ : (Nat → Prop)) (ho₀ : ∀ b, o₀ b → b < W.heap.size)
    (hJ : FarO W.heap.size J) (hJx : FarO W.heap.size Jx) (hr1 : ∀ s o X, J s o X → RowO o X) (hr2 : ∀ s o X, Jx s o X → RowO o X)
    (hY : ∀ pre x o W1, J pre o W1 → OkC p a b (Rg.rowsF p (walkN p (p - 1) (a - b))) pre x → W.heap.size ≤ W1.heap.size → YieldAt Fence.wide (n - 1) Tryz.prog l (encC x) W1 fun e W' => ∃ o', FreshO o o' W1 ∧ SinceO W.heap.size o W1 W' ∧ ((e = .returned (.bool true) ∧ J (pre ++ [x]) o' W' ∧ Keep lo (N - lo) W1 W') ∨ (e = .returned (.bool false) ∧ Jx (pre ++ [x]) o' W' ∧ Keep lo (N - lo) W1 W')))
    (bl : Blk W gl 70 #[.int .i64 p, lv]) (ba : Blk W ga 3 #[.int .i64 a]) (bb : Blk W gb 3 #[.int .i64 b]) (h0 : J [] o₀ W) :
    CallsIn Fence.wide n Tryz.prog 165 #[.func (.yield l) #[] #[], .pointer (some ⟨gl, 0, none⟩), .pointer (some ⟨ga, 0, none⟩), .pointer (some ⟨gb, 0, none⟩)] W fun e W' => (∃ v, e = .returned v) ∧ ∃ o', FreshO o₀ o' W ∧ ((∃ ys, ys = chn a b (Rg.rowsF p (walkN p (p - 1) (a - b))) ∧ J ys o' W') ∨ (∃ pre, pre <+: chn a b (Rg.rowsF p (walkN p (p - 1) (a - b))) ∧ Jx pre o' W')) := by
  have hpb := prm_bounds hp
  obtain ⟨d, hd⟩ : ∃ d, a - b = d := ⟨_, rfl⟩
  have HR := Lib.hid (fun V hV => rowsT_yes p d hp (by omega) (by omega) V hV)
  have hw : IntKind.i64.wrap (a - b) = d := by rw [hd]; exact IntWalk.i64_in _ (by omega)
  have hzl : (walkN p (p - 1) d).length = (walkN p (p - 1) d).length := rfl
  rw [hd] at hY ⊢
  have HD := Lib.hid hd
  have HP := Lib.hid hpb
  obtain ⟨zs, hzs⟩ : ∃ zs, walkN p (p - 1) d = zs := ⟨_, rfl⟩
  have hzl2 : zs.length ≤ 100 := by rw [← hzs, walkN_yes (fine_one.2 ⟨hp, by omega, by omega⟩), walkL_len]; omega
  have hix0 : ∀ W : World, (Instr.index 43 (.agg #[.int .i64 b, .int .i64 a]) (.int .i64 0)).run Tryz.prog W = .ok (.int .i64 b) W := fun _ => by kernel_rfl
  have hix1 : ∀ W : World, (Instr.index 43 (.agg #[.int .i64 b, .int .i64 a]) (.int .i64 1)).run Tryz.prog W = .ok (.int .i64 a) W := fun _ => by kernel_rfl
  rw [hzs] at HR hY ⊢
  have HP2 := Lib.hid hp
  have HA := Lib.hid ha
  have HB := Lib.hid hb
  clear hd hpb hzl hzs hp ha hb
  refine callsIn_of_wp_marks Tryz.func165 rfl trivial ?_ rfl
  simp only [Tryz.ntmps165, List.size_toArray, List.length_cons, List.length_nil, Nat.reduceAdd, Nat.reduceSub, Array.replicate_succ, Array.replicate_zero, List.push_toArray, List.append_toArray, List.nil_append, List.cons_append]
  obtain ⟨W0, hW0⟩ : ∃ W0, (W.alloc (.cells #[.func (.yield l) #[] #[]] 182)).alloc (.cells #[.int .i64 0] 3) = W0 := ⟨_, rfl⟩
  have hB0 : Below W.heap.size W W0 := by rw [← hW0]; exact below_two W _ _
  have bY0 : Blk W0 W.heap.size 182 #[.func (.yield l) #[] #[]] := by rw [← hW0]; exact (Blk.new W _ _).alloc _
  have bC0 : Blk W0 (W.heap.size + 1) 3 #[.int .i64 0] := by rw [← hW0]; exact Blk.second W _ _ _
  have s0 : W0.heap.size = W.heap.size + 2 := by rw [← hW0]; simp
  have cC0 := bC0.one
  have fC0 := bC0.frozen 0
  obtain ⟨Wc, hWc⟩ : ∃ x, W0.setCell ⟨W.heap.size + 1, 0, none⟩ (.int .i64 0) = x := ⟨_, rfl⟩
  have hBc : Below W.heap.size W Wc := by rw [← hWc]; exact hB0.setCell (by show W.heap.size ≤ W.heap.size + 1; omega) _
  have bY : Blk Wc W.heap.size 182 #[.func (.yield l) #[] #[]] := by rw [← hWc]; exact Blk.far bY0 (by simp) _
  have bC : Blk Wc (W.heap.size + 1) 3 #[.int .i64 0] := by rw [← hWc]; exact bC0.set_ 0 (.int .i64 0)
  have s1 : Wc.heap.size = W.heap.size + 2 := by rw [← hWc]; simp [s0]
  have bl0 := bl.below hBc bl.lt
  have ba0 := ba.below hBc ba.lt
  have bb0 := bb.below hBc bb.lt
  have hJ0 := hJ.below h0 hBc
  have hL0 := hL.next hBc
  have cl0 := bl0.cell 0
  simp only [List.getElem?_toArray, List.getElem?_cons_zero] at cl0
  have ca0 := ba0.one
  have cb0 := bb0.one
  have S0 := Lib.hid s1
  clear s0 s1 bY0 bC0 hB0
  gi_wp2_with fail
  refine wpIn_scope_wide ?_
  gi_wp2_with fail
  (try rw [hW0]); (try rw [hWc])
  refine wpIn_label ?_
  gi_wp2_with fail
  refine ⟨trivial, fun _ => by omega, (callsIn_wide.2 (HR.out _ hL0)).mono ?_⟩
  rintro e v1 ⟨v, rfl, ⟨gf, lb, rfl, eg, _, hgo⟩, hX⟩
  have bY1 := bY.below hX bY.lt
  have b165 := bC.below hX bC.lt
  have ba1 := ba0.below hX ba0.lt
  have bb1 := bb0.below hX bb0.lt
  have hJ1 : J [] o₀ v1 := hJ.below hJ0 (hX.mono (by have := S0.out; omega))
  have hs1 := hX.size
  clear hW0 hWc cC0 fC0 hL0 bl0 ba0 bb0 cl0 ca0 cb0 hJ0 bY bC hw
  have hN1 : W.heap.size + 2 ≤ v1.heap.size := by have := S0.out; omega
  have ZL := Lib.hid (Rg.rowsF_len p zs)
  gi_wp2_with fail
  refine wpIn_rangeT rfl (by omega) (gf := gf) (lb := lb) rfl trivial eg (hgo _ (by omega)) (fun h h' => h.trans h') (fun X l' ob hl' hlX _ => Keep.putFar X (by omega) ob) (Below.refl _ _) (fun _ => rfl)
    (fun pre o X => J (chn a b pre) o X ∧ FreshO o₀ o v1 ∧ Blk X W.heap.size 182 #[.func (.yield l) #[] #[]] ∧ Blk X (W.heap.size + 1) 3 #[.int .i64 ((2 * pre.length : Nat) : Int)] ∧ Blk X ga 3 #[.int .i64 a] ∧ Blk X gb 3 #[.int .i64 b] ∧ v1.heap.size ≤ X.heap.size)
    (fun c pre o X => c = .exit 0 ∧ FreshO o₀ o v1 ∧ ∃ m, m <+: chn a b pre ∧ Jx m o X)
    ?hI ?hIx o₀ (fun b e => by have := ho₀ b e; omega) ⟨hJ1, FreshO.refl _ _, bY1, b165, ba1, bb1, Nat.le_refl _⟩ (fun pre x o a' X => a' = ({ tmps := #[.func (.yield l) #[] #[], .pointer (some ⟨gl, 0, none⟩), .pointer (some ⟨ga, 0, none⟩), .pointer (some ⟨gb, 0, none⟩), .pointer (some ⟨W.heap.size, 0, none⟩), .pointer (some ⟨W.heap.size + 1, 0, none⟩), .int .i64 x, undef, undef, .pointer (some ⟨gl, 0, none⟩), .int .i64 p, .int .i64 a, .int .i64 b, .int .i64 d, .func (.func gf) #[] lb, .int .i64 x, undef, undef, undef, undef, undef, undef, undef, undef, undef, undef, undef, undef, undef, undef, undef, undef], defers := [] } : Act) ∧ (0 ≤ x ∧ x < p - 1) ∧ pre ++ [x] <+: Rg.rowsF p zs) ?hAx ?assign ?row1 ?row2 ?body ?done ?stop
  case assign =>
    intro l' pre x o X K hsz ho hI hok hK
    gi_wp2
    exact hK _ _ (SinceO.refl _ _ _) (Keep.refl _ _ _) hI ⟨rfl, hok⟩
  case hI =>
    rintro s o X Y row ⟨h1, h2, h3, h4, h5, h6, h7⟩ hgr hr
    exact ⟨hJ _ o X Y row h1 hgr (fun r e => ⟨by have := (hr r e).1; omega, (hr r e).2⟩), h2, h3.grown hgr (fun e => by have := (hr _ e.symm).1; omega), h4.grown hgr (fun e => by have := (hr _ e.symm).1; omega), h5.grown hgr (fun e => by have := (hr _ e.symm).1; omega), h6.grown hgr (fun e => by have := (hr _ e.symm).1; omega), Nat.le_trans h7 hgr.size⟩
  case hIx =>
    rintro c s o X Y row ⟨h1, h2, m, e2, h3⟩ hgr hr
    exact ⟨h1, h2, m, e2, hJx _ o X Y row h3 hgr (fun r e => ⟨by have := (hr r e).1; omega, (hr r e).2⟩)⟩
  case hAx => exact fun _ _ _ _ _ _ _ _ _ _ _ h => h
  case row1 => exact fun _ _ _ h => hr1 _ _ _ h.1
  case row2 => exact fun _ _ _ _ h => by obtain ⟨_, _, _, _, h⟩ := h; exact hr2 _ _ _ h
  case body =>
    rintro l' pre x o a' X hsz ⟨hj, hfo, bY, bC, ba, bb, hge⟩ ⟨rfl, ⟨x0, x1⟩, hpx⟩ hln
    have hYn : ¬ o W.heap.size := hfo.ne (by omega) (fun e => by have := ho₀ _ e; omega)
    have hCn : ¬ o (W.heap.size + 1) := hfo.ne (by omega) (fun e => by have := ho₀ _ e; omega)
    have hsn := chn_snoc a b pre x
    have hpc := chn_pre a b hpx
    obtain ⟨k, hk⟩ : ∃ k, 2 * pre.length = k := ⟨_, rfl⟩
    obtain ⟨k1, hk1⟩ : ∃ k1, k + 1 = k1 := ⟨_, rfl⟩
    have hkb : k < 1000 := by omega
    have hw1 : IntKind.i64.wrap ((k : Int) + 1) = (k1 : Int) := by rw [show (k : Int) + 1 = (k1 : Int) by omega]; exact IntWalk.i64_in _ (by omega)
    have hw2 : IntKind.i64.wrap ((k1 : Int) + 1) = ((2 * (pre ++ [x]).length : Nat) : Int) := by rw [show (k1 : Int) + 1 = ((2 * (pre ++ [x]).length : Nat) : Int) by simp; omega]; exact IntWalk.i64_in _ (by simp; omega)
    rw [hk, hk1] at hsn
    rw [hk] at bC
    have hY1 := hY (chn a b pre) ((k : Int), b, x) o X hj ⟨⟨x0, x1⟩, by rw [hsn] at hpc; exact (List.prefix_append _ _).trans hpc⟩ (by omega)
    have HY2 := Lib.hid (fun (o' : Nat → Prop) (V : World) (h : J (chn a b pre ++ [((k : Int), b, x)]) o' V) (hs : W.heap.size ≤ V.heap.size) => hY _ ((k1 : Int), a, x) o' V h ⟨⟨x0, x1⟩, by rw [← hsn]; exact hpc⟩ hs)
    simp only [encC] at hY1 HY2
    obtain ⟨fn, tmps, asg, bdy, hy, hRr⟩ := YieldAt.deep (m := n - 1 - 1 - 1) hY1
    have HSN := Lib.hid hsn
    have HKK := Lib.hid (And.intro hk hk1)
    have hKo : ∀ r, o r → r < Wc.heap.size ∨ Wc.heap.size + (v1.heap.size - Wc.heap.size) ≤ r := fun r e => (hfo r e).elim (fun e => .inl (by have := ho₀ _ e; have := S0.out; omega)) (fun e => .inr (by omega))
    have hn3 : 1 ≤ n - 1 - 1 := by omega
    have cY := bY.one
    have cC := bC.one
    have cA := ba.one
    have cB := bb.one
    clear hsn hpc hY1 hk hk1 hpx
    gi_wp2_with fail
    refine wpIn_loop_rounds 3 ?_
    rw [roundsIn_succ]
    gi_wp2_with fail
    refine hRr.mono ?_
    rintro e W3 ⟨o', hf3, hS3, (⟨rfl, hJ3, hk3⟩ | ⟨rfl, hJx3, hk3⟩)⟩
    all_goals have hfo' := hfo.trans hge hf3
    all_goals have hs3 := hS3.1
    all_goals have hS3' : SinceO v1.heap.size o X W3 := hS3.less (by omega)
    all_goals have hK3 : Keep Wc.heap.size (v1.heap.size - Wc.heap.size) X W3 := hS3.keep (by have := S0.out; omega) (by omega) hKo
    · have hYn3 : ¬ o' W.heap.size := hf3.ne (by omega) hYn
      have hCn3 : ¬ o' (W.heap.size + 1) := hf3.ne (by omega) hCn
      have bY3 := hS3.blk bY (Nat.le_refl _) hYn
      have bC3 := hS3.blk bC (by omega) hCn
      have ba3 := hk3.blk ba hga.1 (by omega)
      have bb3 := hk3.blk bb hgb.1 (by omega)
      obtain ⟨W4, hW4⟩ : ∃ y, W3.setCell ⟨W.heap.size + 1, 0, none⟩ (.int .i64 (k1 : Int)) = y := ⟨_, rfl⟩
      have hJ4 : J (chn a b pre ++ [((k : Int), b, x)]) o' W4 := by rw [← hW4]; exact hJ _ o' W3 _ (some (W.heap.size + 1)) hJ3 (grownBy_setCell' _ _ _) (fun r e => by injection e with e; subst e; exact ⟨by omega, hCn3⟩)
      have bY4 : Blk W4 W.heap.size 182 #[.func (.yield l) #[] #[]] := by rw [← hW4]; exact Blk.far bY3 (by simp) _
      have bC4 : Blk W4 (W.heap.size + 1) 3 #[.int .i64 (k1 : Int)] := by rw [← hW4]; exact bC3.set_ 0 _
      have ba4 : Blk W4 ga 3 #[.int .i64 a] := by rw [← hW4]; exact Blk.far ba3 (by show ga ≠ W.heap.size + 1; omega) _
      have bb4 : Blk W4 gb 3 #[.int .i64 b] := by rw [← hW4]; exact Blk.far bb3 (by show gb ≠ W.heap.size + 1; omega) _
      have s4 : W4.heap.size = W3.heap.size := by rw [← hW4]; simp
      have hS4 : SinceO v1.heap.size o X W4 := hS3'.trans hf3 (by rw [← hW4]; exact ⟨by simp, fun r h1 h2 _ => Below.heap_setCell W3 _ _ r (by show r ≠ W.heap.size + 1; omega)⟩)
      have hK4 : Keep Wc.heap.size (v1.heap.size - Wc.heap.size) X W4 := hK3.trans (by rw [← hW4]; exact ⟨by simp, fun r h1 h2 => Below.heap_setCell W3 _ _ r (by show r ≠ W.heap.size + 1; have := S0.out; omega)⟩)
      obtain ⟨fn', tmps', asg', bdy', hy', hRr'⟩ := YieldAt.deep (m := n - 1 - 1 - 1) (HY2.out o' W4 hJ4 (by omega))
      have cY3 := bY3.one
      have cC3 := bC3.one
      have fC3 := bC3.frozen 0
      have cY4 := bY4.one
      have cC4 := bC4.one
      have hlt4 := bC3.lt
      clear hy hRr cY cC cA cB hJ3 hK3 hS3' hS3 hk3
      gi_wp2_with fail
      rw [roundsIn_succ]
      (try rw [hW4])
      gi_wp2_with fail
      refine hRr'.mono ?_
      rintro e W5 ⟨o5, hf5, hS5, (⟨rfl, hJ5, hk5⟩ | ⟨rfl, hJx5, hk5⟩)⟩
      all_goals have hKo' : ∀ r, o' r → r < Wc.heap.size ∨ Wc.heap.size + (v1.heap.size - Wc.heap.size) ≤ r := fun r e => (hfo' r e).elim (fun e => .inl (by have := ho₀ _ e; have := S0.out; omega)) (fun e => .inr (by omega))
      all_goals have hfo5 := hfo'.trans (show v1.heap.size ≤ W4.heap.size by omega) hf5
      all_goals have hff5 : FreshO o o5 X := hf3.trans (show X.heap.size ≤ W4.heap.size by omega) hf5
      all_goals have hs5 := hS5.1
      all_goals have hS5' : SinceO v1.heap.size o X W5 := hS4.trans hf3 (hS5.less (by omega))
      all_goals have hK5 : Keep Wc.heap.size (v1.heap.size - Wc.heap.size) X W5 := hK4.trans (hS5.keep (by have := S0.out; omega) (by omega) hKo')
      · have hYn5 : ¬ o5 W.heap.size := hf5.ne (by omega) hYn3
        have hCn5 : ¬ o5 (W.heap.size + 1) := hf5.ne (by omega) hCn3
        have bY5 := hS5.blk bY4 (Nat.le_refl _) hYn3
        have bC5 := hS5.blk bC4 (by omega) hCn3
        have ba5 := hk5.blk ba4 hga.1 (by omega)
        have bb5 := hk5.blk bb4 hgb.1 (by omega)
        obtain ⟨W6, hW6⟩ : ∃ y, W5.setCell ⟨W.heap.size + 1, 0, none⟩ (.int .i64 ((2 * (pre ++ [x]).length : Nat) : Int)) = y := ⟨_, rfl⟩
        have hJ6 : J (chn a b (pre ++ [x])) o5 W6 := by rw [HSN.out, ← hW6]; exact hJ _ o5 W5 _ (some (W.heap.size + 1)) hJ5 (grownBy_setCell' _ _ _) (fun r e => by injection e with e; subst e; exact ⟨by omega, hCn5⟩)
        have bY6 : Blk W6 W.heap.size 182 #[.func (.yield l) #[] #[]] := by rw [← hW6]; exact Blk.far bY5 (by simp) _
        have bC6 : Blk W6 (W.heap.size + 1) 3 #[.int .i64 ((2 * (pre ++ [x]).length : Nat) : Int)] := by rw [← hW6]; exact bC5.set_ 0 _
        have ba6 : Blk W6 ga 3 #[.int .i64 a] := by rw [← hW6]; exact Blk.far ba5 (by show ga ≠ W.heap.size + 1; omega) _
        have bb6 : Blk W6 gb 3 #[.int .i64 b] := by rw [← hW6]; exact Blk.far bb5 (by show gb ≠ W.heap.size + 1; omega) _
        have s6 : W6.heap.size = W5.heap.size := by rw [← hW6]; simp
        have hS6 : SinceO v1.heap.size o X W6 := hS5'.trans hff5 (by rw [← hW6]; exact ⟨by simp, fun r h1 h2 _ => Below.heap_setCell W5 _ _ r (by show r ≠ W.heap.size + 1; omega)⟩)
        have hK6 : Keep Wc.heap.size (v1.heap.size - Wc.heap.size) X W6 := hK5.trans (by rw [← hW6]; exact ⟨by simp, fun r h1 h2 => Below.heap_setCell W5 _ _ r (by show r ≠ W.heap.size + 1; have := S0.out; omega)⟩)
        have HFIN := Lib.hid (And.intro (And.intro hS6 hK6) (And.intro hJ6 (And.intro (And.intro bY6 bC6) (And.intro ba6 bb6))))
        have cC5 := bC5.one
        have fC5 := bC5.frozen 0
        clear hJ6 bY6 bC6 ba6 bb6 hS6 hK6 hJ5 hK5 hS5' hS5 hk5 hy' hRr' bY4 bC4 ba4 bb4 bY5 bC5 ba5 bb5 cY3 cC3 fC3 cY4 cC4 hJ4 hS4 hK4
        obtain ⟨kk, hkk⟩ : ∃ y, ((2 * (pre ++ [x]).length : Nat) : Int) = y := ⟨_, rfl⟩
        have HKK2 := Lib.hid hkk
        rw [hkk] at hw2 hW6
        clear hkk
        gi_wp2_with fail
        (try rw [hW6])
        rw [roundsIn_succ]
        gi_wp2_with fail
        exact ⟨o5, hff5, HFIN.out.1.1, HFIN.out.1.2, HFIN.out.2.1, hfo5, HFIN.out.2.2.1.1, HFIN.out.2.2.1.2, HFIN.out.2.2.2.1, HFIN.out.2.2.2.2, by omega⟩
      · have HFIN := Lib.hid (And.intro (And.intro hS5' hK5) hJx5)
        clear hJx5 hK5 hS5' hS5 hk5 hy' hRr' bY4 bC4 ba4 bb4 cY3 cC3 fC3 cY4 cC4 hJ4 hS4 hK4
        gi_wp2_with fail
        exact ⟨o5, hff5, HFIN.out.1.1, HFIN.out.1.2, rfl, hfo5, _, by rw [HSN.out]; exact List.prefix_refl _, HFIN.out.2⟩
    · have HFIN := Lib.hid (And.intro (And.intro hS3' hK3) hJx3)
      clear hJx3 hK3 hS3' hS3 hk3 hy hRr
      gi_wp2_with fail
      exact ⟨o', hf3, HFIN.out.1.1, HFIN.out.1.2, rfl, hfo', _, by rw [HSN.out]; exact List.prefix_append _ _, HFIN.out.2⟩
  case done =>
    rintro D xs o X hD hfo rfl ⟨hj, _⟩ hK hne
    gi_wp2
    rw [Exit.noGoto_normal]
    refine ⟨by simp, .inl ⟨_, _, rfl, run_takeDeferred hK, ?_⟩⟩
    exact ⟨_, results_none rfl _ _ _, ⟨_, rfl⟩, o, hfo.later (by omega), .inl ⟨_, rfl, hJ.put hj (by omega) hne _⟩⟩
  case stop =>
    rintro D c pre o X hD hfo hSp ⟨rfl, _, m, hm, hjx⟩ hK hne
    gi_wp2
    rw [Exit.noGoto_normal]
    refine ⟨by simp, .inl ⟨_, _, rfl, run_takeDeferred hK, ?_⟩⟩
    exact ⟨_, results_none rfl _ _ _, ⟨_, rfl⟩, o, hfo.later (by omega), .inr ⟨_, hm.trans (chn_pre a b hSp), hJx.put hjx (by omega) hne _⟩⟩
end Go.Proofs.YtfihlelhpmjpaaaGreatDoor.T

