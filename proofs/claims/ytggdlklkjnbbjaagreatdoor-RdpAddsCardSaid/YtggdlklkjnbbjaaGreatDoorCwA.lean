/- What gives up, and what tells with what number: need, answered; what is a cell's length. -/
import Derived.Test.YtggdlklkjnbbjaaGreatDoorBase
namespace Go.Proofs.YtggdlklkjnbbjaaGreatDoor.C
open Go.RowKit

/-- The panic of what gives up. -/
def gaveUp : List PanicEntry := [{ v := .iface 26 (.int .i64 2), recovered := false }]

set_option maxHeartbeats 400000 in
theorem need_yes (w : World) : Calls Tryz.prog 162 #[.bool true] w fun e w' => e = .returned (.tuple #[]) ∧ w = w' := by
  go_enter Tryz.func162, Tryz.ntmps162
  go_wp2
  go_end0
  exact ⟨rfl, rfl⟩

set_option maxHeartbeats 400000 in
theorem need_no (w : World) : Calls Tryz.prog 162 #[.bool false] w fun e w' => e = .panicked gaveUp ∧ w = w' := by
  go_enter Tryz.func162, Tryz.ntmps162
  go_wp2
  exact ⟨rfl, rfl, rfl⟩

set_option maxHeartbeats 400000 in
theorem isLength_any (n : Int) (w : World) : Calls Tryz.prog 163 #[.int .i64 n] w fun e w' => e = .returned (.bool (decide (1 ≤ n ∧ n ≤ 64))) ∧ w = w' := by
  by_cases h1 : 1 ≤ n
  · have d1 : decide (1 ≤ n) = true := by simpa using h1
    go_enter Tryz.func163, Tryz.ntmps163
    go_wp2
    go_ret
    exact ⟨ret_bool (by rw [decide_eq_decide]; omega), rfl⟩
  · have d1 : decide (1 ≤ n) = false := by simpa using h1
    go_enter Tryz.func163, Tryz.ntmps163
    go_wp2
    go_ret
    exact ⟨rfl, rfl⟩

/-- Bytes are a cell. -/
def Cell (l : List UInt8) : Prop := 1 ≤ l.length ∧ l.length ≤ 64
instance (l : List UInt8) : Decidable (Cell l) := by unfold Cell; infer_instance

set_option maxHeartbeats 400000 in
theorem right_any {B : Nat} (v : Value) (l : List UInt8) (w : World) (hb : Bytes B w v l) : Calls Tryz.prog 52 #[v] w fun e w' => e = .returned (.bool (decide (Cell l))) ∧ w = w' := by
  obtain ⟨A, cap, rfl, _, _⟩ := hb
  by_cases h1 : 1 ≤ l.length
  · have d1 : decide ((1 : Int) ≤ (l.length : Int)) = true := by simp; omega
    go_enter Tryz.func52, Tryz.ntmps52
    go_wp2
    go_ret
    exact ⟨ret_bool (by unfold Cell; simp only [h1, true_and]; rw [decide_eq_decide]; omega), rfl⟩
  · have d1 : decide ((1 : Int) ≤ (l.length : Int)) = false := by simp; omega
    go_enter Tryz.func52, Tryz.ntmps52
    go_wp2
    go_ret
    exact ⟨ret_bool ((decide_eq_false (fun h : Cell l => h1 h.1)).symm), rfl⟩

theorem assert_errno (w : World) : (Instr.typeAssert (.iface 26 (.int .i64 2)) 20 26 false).run Tryz.prog w = .ok (.int .i64 2) w := by kernel_rfl

/-- What is answered when nothing gave up. -/
theorem idleB (p : Addr) (w : World) :
    CallsD Tryz.prog 161 #[.pointer (some p)] .returning w fun e u' w' => e = .returned (.tuple #[]) ∧ u' = .returning ∧ w' = w := by
  have hta := assert_errno
  refine callsD_of_wpS Tryz.func161 rfl fun c₀ cs hu => ?_
  simp only [Tryz.ntmps161, List.size_toArray, List.length_cons, List.length_nil, Nat.reduceAdd, Nat.reduceSub, Array.replicate_succ, Array.replicate_zero, List.push_toArray, List.append_toArray, List.nil_append, List.cons_append]
  apply wpS_seq
  apply wpS_region
  simp [wpOpsS, go_sem, recoverD, hu, Exit.thenS]
  all_goals (refine wpS_of_wp ?_; go_wp2; cases c₀; simp_all [bodyPostS, results, Tryz.results161])

/-- What is answered when it gave up. -/
theorem caughtB (p : Addr) (x : Int) (w : World) (hc : w.cell? p = some (.int .i64 x)) (hz : w.frozen? p = false) :
    CallsD Tryz.prog 161 #[.pointer (some p)] (.panicking gaveUp) w fun e u' w' =>
      e = .returned (.tuple #[]) ∧ u' = .panicking [{ v := .iface 26 (.int .i64 2), recovered := true }] ∧ w' = w.setCell p (.int .i64 2) := by
  have hta := assert_errno
  refine callsD_of_wpS Tryz.func161 rfl fun c₀ cs hu => ?_
  simp only [Tryz.ntmps161, List.size_toArray, List.length_cons, List.length_nil, Nat.reduceAdd, Nat.reduceSub, Array.replicate_succ, Array.replicate_zero, List.push_toArray, List.append_toArray, List.nil_append, List.cons_append]
  apply wpS_seq
  apply wpS_region
  simp [wpOpsS, go_sem, recoverD, hu, Exit.thenS, gaveUp]
  all_goals (refine wpS_of_wp ?_; go_wp2; simp [bodyPostS, results, Tryz.results161])

set_option maxHeartbeats 400000 in
theorem answeredB_yes (f : Nat) (caps : Array Value) (w : World) (Post : Value → World → Prop) (hent : ∀ W, (callFunc f caps).run Tryz.prog W = .ok (.enter f caps) W)
    (h : ∀ W, Below w.heap.size w W → w.heap.size < W.heap.size → Calls Tryz.prog f caps W fun e w' => ∃ v, e = .returned v ∧ Post v w' ∧ Below W.heap.size W w')
    (hP : ∀ v W, Post v W → Post v (W.setCell ⟨w.heap.size, 0, none⟩ (.int .i64 0))) :
    Calls Tryz.prog 145 #[.func (.func f) #[] caps] w fun e w' => ∃ v, e = .returned (.tuple #[v, .int .i64 0]) ∧ Post v w' ∧ Below w.heap.size w w' := by
  have hmf : ∀ (fn : Fn) (first cap : Array Value) (w : World), (Instr.makeFunc fn first cap).run Tryz.prog w = .ok (.func fn first cap) w := fun _ _ _ _ => rfl
  have h1 := h (w.alloc (.cells #[.int .i64 0] 26)) ((Below.refl _ w).alloc (Nat.le_refl _) _) (by simp)
  go_enter_defers Tryz.func145, Tryz.ntmps145
  go_wp2
  refine h1.mono ?_
  rintro e w1 ⟨v, rfl, hv, hB1⟩
  have b1 : Blk w1 w.heap.size 26 #[.int .i64 0] := (Blk.new w _ _).below hB1 (by simp)
  have c1 := b1.cell 0
  have f1 := b1.frozen 0
  simp only [List.getElem?_toArray, List.getElem?_cons_zero] at c1
  go_wp2
  refine leaves_cons (f := 161) (args := #[.pointer (some ⟨w.heap.size, 0, none⟩)]) (by simp) (by simp [go_sem]) ?_
  refine (idleB ⟨w.heap.size, 0, none⟩ _).mono ?_
  rintro e u' w'' ⟨rfl, rfl, rfl⟩
  have c2 : (w1.setCell ⟨w.heap.size, 0, none⟩ (.int .i64 0)).cell? ⟨w.heap.size, 0, none⟩ = some (.int .i64 0) := World.cell?_setCell_same' _ _ _ (by rw [c1]; rfl)
  simp [Leaves, settle, results, Tryz.results145, go_sem, c2]
  exact ⟨hP _ _ hv, (((Below.refl _ w).alloc (Nat.le_refl _) _).trans (hB1.mono (by simp))).setCell (Nat.le_refl _) _⟩

set_option maxHeartbeats 400000 in
theorem answeredB_no (f : Nat) (caps : Array Value) (w : World) (hent : ∀ W, (callFunc f caps).run Tryz.prog W = .ok (.enter f caps) W)
    (h : ∀ W, Below w.heap.size w W → w.heap.size < W.heap.size → Calls Tryz.prog f caps W fun e w' => e = .panicked gaveUp ∧ Below W.heap.size W w') :
    Calls Tryz.prog 145 #[.func (.func f) #[] caps] w fun e w' => e = .returned (.tuple #[.slice none 0 0, .int .i64 2]) ∧ Below w.heap.size w w' := by
  have hmf : ∀ (fn : Fn) (first cap : Array Value) (w : World), (Instr.makeFunc fn first cap).run Tryz.prog w = .ok (.func fn first cap) w := fun _ _ _ _ => rfl
  have h1 := h (w.alloc (.cells #[.int .i64 0] 26)) ((Below.refl _ w).alloc (Nat.le_refl _) _) (by simp)
  go_enter_defers Tryz.func145, Tryz.ntmps145
  go_wp2
  refine h1.mono ?_
  rintro e w1 ⟨rfl, hB1⟩
  have b1 : Blk w1 w.heap.size 26 #[.int .i64 0] := (Blk.new w _ _).below hB1 (by simp)
  have c1 := b1.cell 0
  have f1 := b1.frozen 0
  simp only [List.getElem?_toArray, List.getElem?_cons_zero] at c1
  refine leaves_cons (f := 161) (args := #[.pointer (some ⟨w.heap.size, 0, none⟩)]) (by simp) (by simp [go_sem]) ?_
  refine (caughtB ⟨w.heap.size, 0, none⟩ 0 _ c1 f1).mono ?_
  rintro e u' w'' ⟨rfl, rfl, rfl⟩
  have c2 : (w1.setCell ⟨w.heap.size, 0, none⟩ (.int .i64 2)).cell? ⟨w.heap.size, 0, none⟩ = some (.int .i64 2) := World.cell?_setCell_same' _ _ _ (by rw [c1]; rfl)
  simp [Leaves, settle, results, Tryz.results145, go_sem, c2]
  exact (((Below.refl _ w).alloc (Nat.le_refl _) _).trans (hB1.mono (by simp))).setCell (Nat.le_refl _) _

end Go.Proofs.YtggdlklkjnbbjaaGreatDoor.C
