/- EVENODD: Adjuster and Encode. The laws of EVENODD: the chapter's rows. The laws of ring: num, right, told, the chapter's rows. chain: giving up, what is answered. chain: primes, and columns of data that are lost. -/
import Derived.Test.YthmkgdkfehgpkaaGreatDoorCOG1
import Derived.Test.YthmkgdkfehgpkaaGreatDoorCOG7
import Derived.Test.YthmkgdkfehgpkaaGreatDoorCOG6
namespace Go.Proofs.YthmkgdkfehgpkaaGreatDoor.E
open Go.RowKit Go.Shelf Go.Proofs.YthmkgdkfehgpkaaGreatDoor.C
set_option linter.unusedSimpArgs false
set_option linter.unusedVariables false

theorem enter_encode1 : ∀ args W, (callFunc 146 args).run Tryz.prog W = .ok (.enter 146 args) W := enters_of Tryz.func146 (by kernel_rfl) rfl
set_option maxRecDepth 100000 in
set_option maxHeartbeats 1000000 in
theorem encode_yes {B : Nat} (p : Int) (v : Value) (css : List (List (List UInt8))) (hok : DataOk p css) (w : World) (hL : Laid w) (hB : B ≤ w.heap.size) (hC : Cols B w v css) :
    Calls Tryz.prog 113 #[.int .i64 p, v] w fun e w' => ∃ u, e = .returned (.tuple #[u, .int .i64 0]) ∧ Cols w'.heap.size w' u (encOf p css) ∧ Below w.heap.size w w' := by
  have hdn := dataOk_n hok
  obtain ⟨A, cap, rfl, _, _⟩ := id hC
  obtain ⟨W2, hW2⟩ : ∃ W2, (w.alloc (.cells #[.int .i64 p] 3)).alloc (.cells #[.slice A css.length cap] 39) = W2 := ⟨_, rfl⟩
  have b0 : Blk W2 w.heap.size 3 #[.int .i64 p] := by rw [← hW2]; exact (Blk.new w _ _).alloc _
  have b1 : Blk W2 (w.heap.size + 1) 39 #[.slice A css.length cap] := by rw [← hW2]; exact Blk.second w _ _ _
  have hBW : Below w.heap.size w W2 := by rw [← hW2]; exact below_two w _ _
  have hL2 := hL.next hBW
  have HA := Lib.hid (ans_S_yes 146 #[.pointer (some ⟨w.heap.size, 0, none⟩), .pointer (some ⟨w.heap.size + 1, 0, none⟩)] W2 (fun u W => Cols W.heap.size W u (encOf p css)) (enter_encode1 _) (fun U hU _ => by
    have hLU := hL2.next hU
    have hBU := below_in hBW hU
    have hCU := hC.below (hBU.mono hB)
    have HQ := Lib.hid (asked_yes (B := B) p (.slice A css.length cap) css U hLU (Nat.le_trans hB hBU.size) hCU (by omega) hok)
    have HE := Lib.hid (fun (V : World) (hV : Below U.heap.size U V) => encoded_any (B := B) p (.slice A css.length cap) css hok V (hLU.next hV) (Nat.le_trans hB (Nat.le_trans hBU.size hV.size)) (hCU.below (hV.mono (Nat.le_trans hB hBU.size))))
    have c0 := (b0.below hU b0.lt).one
    have c1 := (b1.below hU b1.lt).one
    clear hC hCU hok hdn b0 b1 hW2 hL hL2 hLU
    generalize css.length = n at *
    go_enter Tryz.func146, Tryz.ntmps146
    go_wp2_with (first
      | (go_at_call 147; refine HQ.out.mono ?_; rintro e w1 ⟨rfl, hB1⟩)
      | (go_at_call 149; refine (HE.out _ hB1).mono ?_; rintro e w2 ⟨u, rfl, hu, hB2⟩))
    go_ret
    exact ⟨_, rfl, hu, below_in hB1 hB2⟩))
  clear hC b0 b1 hL2 hok hdn
  generalize css.length = n at *
  go_enter Tryz.func113, Tryz.ntmps113
  have hmf : ∀ (fn : Fn) (first cap : Array Value) (w : World), (Instr.makeFunc fn first cap).run Tryz.prog w = .ok (.func fn first cap) w := fun _ _ _ _ => rfl
  go_wp2_with (go_at_call 145; refine HA.out.mono ?_; rintro e w1 ⟨u, W, rfl, hu, bE, rfl, hB1⟩)
  go_ret2
  exact ⟨u, rfl, Cols.more (Cols.set_int hu bE _) (by simp), below_in hBW hB1⟩
end Go.Proofs.YthmkgdkfehgpkaaGreatDoor.E

namespace Go.Proofs.YthmkgdkfehgpkaaGreatDoor.E
open Go.RowKit Go.Shelf Go.Proofs.YthmkgdkfehgpkaaGreatDoor.C
set_option linter.unusedSimpArgs false
set_option linter.unusedVariables false

def allocs (w : World) (os : List Obj) : World := os.foldl World.alloc w
theorem allocs_below (w : World) (os : List Obj) : Below w.heap.size w (allocs w os) := by
  induction os generalizing w with
  | nil => exact Below.refl _ _
  | cons o os ih => exact below_in (below_one w o) (ih (w.alloc o))
theorem allocs_blk (w : World) (os : List Obj) (k : Nat) (t : TypeId) (cs : Array Value) (h : os[k]? = some (.cells cs t)) : Blk (allocs w os) (w.heap.size + k) t cs := by
  induction os generalizing w k with
  | nil => cases h
  | cons o os ih =>
    cases k with
    | zero => cases h; exact (Blk.new w t cs).below (allocs_below _ os) (by simp)
    | succ k =>
      have h2 := ih (w.alloc o) k h
      rw [World.size_alloc] at h2
      rw [show w.heap.size + (k + 1) = w.heap.size + 1 + k by omega]
      exact h2
end Go.Proofs.YthmkgdkfehgpkaaGreatDoor.E

namespace Go.Proofs.YthmkgdkfehgpkaaGreatDoor.Ch
open Go.RowKit Go.Shelf Go.Proofs.YthmkgdkfehgpkaaGreatDoor.C Go.Proofs.YthmkgdkfehgpkaaGreatDoor.E
set_option linter.unusedSimpArgs false
set_option linter.unusedVariables false

/-- What it gives up with: an error's number. -/
def gave (x : Int) : List PanicEntry := [{ v := .iface 24 (.int .i64 x), recovered := false }]
theorem assert_errnoX (x : Int) (w : World) : (Instr.typeAssert (.iface 24 (.int .i64 x)) 20 24 false).run Tryz.prog w = .ok (.int .i64 x) w := by kernel_rfl

set_option maxHeartbeats 400000 in
theorem need_yes (y : Int) (w : World) : Calls Tryz.prog 61 #[.bool true, .int .i64 y] w fun e w' => e = .returned (.tuple #[]) ∧ w = w' := by
  go_enter Tryz.func61, Tryz.ntmps61
  go_wp2
  go_end0
  exact ⟨rfl, rfl⟩
set_option maxHeartbeats 400000 in
theorem need_no (y : Int) (w : World) : Calls Tryz.prog 61 #[.bool false, .int .i64 y] w fun e w' => e = .panicked (gave y) ∧ w = w' := by
  go_enter Tryz.func61, Tryz.ntmps61
  go_wp2
  exact ⟨rfl, rfl, rfl⟩
set_option maxHeartbeats 400000 in
theorem sureB (v : Value) (w : World) : Calls Tryz.prog 75 #[v, .int .i64 0] w fun e w' => e = .returned v ∧ w = w' := by
  have hn := need_yes 0 w
  go_enter Tryz.func75, Tryz.ntmps75
  go_wp2_with (go_at_call 61; refine (need_yes _ _).mono ?_; rintro e w2 ⟨rfl, rfl⟩)
  go_ret
  exact ⟨rfl, rfl⟩
set_option maxHeartbeats 400000 in
theorem sureC (v : Value) (w : World) : Calls Tryz.prog 87 #[v, .int .i64 0] w fun e w' => e = .returned v ∧ w = w' := by
  have hn := need_yes 0 w
  go_enter Tryz.func87, Tryz.ntmps87
  go_wp2_with (go_at_call 61; refine (need_yes _ _).mono ?_; rintro e w2 ⟨rfl, rfl⟩)
  go_ret
  exact ⟨rfl, rfl⟩
set_option maxHeartbeats 400000 in
theorem sureS (v : Value) (w : World) : Calls Tryz.prog 112 #[v, .int .i64 0] w fun e w' => e = .returned v ∧ w = w' := by
  have hn := need_yes 0 w
  go_enter Tryz.func112, Tryz.ntmps112
  go_wp2_with (go_at_call 61; refine (need_yes _ _).mono ?_; rintro e w2 ⟨rfl, rfl⟩)
  go_ret
  exact ⟨rfl, rfl⟩
set_option maxHeartbeats 400000 in
theorem sureI (n : Int) (w : World) : Calls Tryz.prog 95 #[.int .i64 n, .int .i64 0] w fun e w' => e = .returned (.int .i64 n) ∧ w = w' := by
  go_enter Tryz.func95, Tryz.ntmps95
  go_wp2_with (go_at_call 61; refine (need_yes _ _).mono ?_; rintro e w2 ⟨rfl, rfl⟩)
  go_ret
  exact ⟨rfl, rfl⟩

/-- What is answered when nothing gave up. -/
theorem idle_A (p : Addr) (w : World) :
    CallsD Tryz.prog 60 #[.pointer (some p)] .returning w fun e u' w' => e = .returned (.tuple #[]) ∧ u' = .returning ∧ w' = w := by
  have hta := assert_errnoX
  refine callsD_of_wpS Tryz.func60 rfl fun c₀ cs hu => ?_
  simp only [Tryz.ntmps60, List.size_toArray, List.length_cons, List.length_nil, Nat.reduceAdd, Nat.reduceSub, Array.replicate_succ, Array.replicate_zero, List.push_toArray, List.append_toArray, List.nil_append, List.cons_append]
  apply wpS_seq
  apply wpS_region
  simp [wpOpsS, go_sem, recoverD, hu, Exit.thenS]
  all_goals (refine wpS_of_wp ?_; go_wp2; cases c₀; simp_all [bodyPostS, results, Tryz.results60])
/-- What is answered when it gave up. -/
theorem caught_A (p : Addr) (x y : Int) (w : World) (hc : w.cell? p = some (.int .i64 x)) (hz : w.frozen? p = false) :
    CallsD Tryz.prog 60 #[.pointer (some p)] (.panicking (gave y)) w fun e u' w' =>
      e = .returned (.tuple #[]) ∧ u' = .panicking [{ v := .iface 24 (.int .i64 y), recovered := true }] ∧ w' = w.setCell p (.int .i64 y) := by
  have hta := assert_errnoX
  refine callsD_of_wpS Tryz.func60 rfl fun c₀ cs hu => ?_
  simp only [Tryz.ntmps60, List.size_toArray, List.length_cons, List.length_nil, Nat.reduceAdd, Nat.reduceSub, Array.replicate_succ, Array.replicate_zero, List.push_toArray, List.append_toArray, List.nil_append, List.cons_append]
  apply wpS_seq
  apply wpS_region
  simp [wpOpsS, go_sem, recoverD, hu, Exit.thenS, gave]
  all_goals (refine wpS_of_wp ?_; go_wp2; simp [bodyPostS, results, Tryz.results60])
set_option maxHeartbeats 400000 in
theorem ans_A_yes (f : Nat) (caps : Array Value) (w : World) (Post : Value → World → Prop) (hent : ∀ W, (callFunc f caps).run Tryz.prog W = .ok (.enter f caps) W)
    (h : ∀ W, Below w.heap.size w W → Blk W w.heap.size 24 #[.int .i64 0] → Calls Tryz.prog f caps W fun e w' => ∃ v, e = .returned v ∧ Post v w' ∧ Below W.heap.size W w') :
    Calls Tryz.prog 27 #[.func (.func f) #[] caps] w fun e w' => ∃ v W, e = .returned (.tuple #[v, .int .i64 0]) ∧ Post v W ∧ Blk W w.heap.size 24 #[.int .i64 0] ∧ w' = W.setCell ⟨w.heap.size, 0, none⟩ (.int .i64 0) ∧ Below w.heap.size w w' := by
  have hmf : ∀ (fn : Fn) (first cap : Array Value) (w : World), (Instr.makeFunc fn first cap).run Tryz.prog w = .ok (.func fn first cap) w := fun _ _ _ _ => rfl
  have h1 := h (w.alloc (.cells #[.int .i64 0] 24)) ((Below.refl _ w).alloc (Nat.le_refl _) _) (Blk.new w _ _)
  clear h
  go_enter_defers Tryz.func27, Tryz.ntmps27
  go_wp2
  refine h1.mono ?_
  rintro e w1 ⟨v, rfl, hv, hB1⟩
  have b1 : Blk w1 w.heap.size 24 #[.int .i64 0] := (Blk.new w _ _).below hB1 (by simp)
  have c1 := b1.cell 0
  have f1 := b1.frozen 0
  simp only [List.getElem?_toArray, List.getElem?_cons_zero] at c1
  go_wp2
  refine leaves_cons (f := 60) (args := #[.pointer (some ⟨w.heap.size, 0, none⟩)]) (by simp) (by simp [go_sem]) ?_
  refine (idle_A ⟨w.heap.size, 0, none⟩ _).mono ?_
  rintro e u' w'' ⟨rfl, rfl, rfl⟩
  have c2 : (w1.setCell ⟨w.heap.size, 0, none⟩ (.int .i64 0)).cell? ⟨w.heap.size, 0, none⟩ = some (.int .i64 0) := World.cell?_setCell_same' _ _ _ (by rw [c1]; rfl)
  simp [Go.Leaves, settle, results, Tryz.results27, go_sem, c2]
  exact ⟨w1, hv, b1, rfl, (((Below.refl _ w).alloc (Nat.le_refl _) _).trans (hB1.mono (by simp))).setCell (Nat.le_refl _) _⟩
set_option maxHeartbeats 400000 in
theorem ans_A_no (y : Int) (f : Nat) (caps : Array Value) (w : World) (hent : ∀ W, (callFunc f caps).run Tryz.prog W = .ok (.enter f caps) W)
    (h : ∀ W, Below w.heap.size w W → w.heap.size < W.heap.size → Calls Tryz.prog f caps W fun e w' => e = .panicked (gave y) ∧ Below W.heap.size W w') :
    Calls Tryz.prog 27 #[.func (.func f) #[] caps] w fun e w' => e = .returned (.tuple #[.slice none 0 0, .int .i64 y]) ∧ Below w.heap.size w w' := by
  have hmf : ∀ (fn : Fn) (first cap : Array Value) (w : World), (Instr.makeFunc fn first cap).run Tryz.prog w = .ok (.func fn first cap) w := fun _ _ _ _ => rfl
  have h1 := h (w.alloc (.cells #[.int .i64 0] 24)) ((Below.refl _ w).alloc (Nat.le_refl _) _) (by simp)
  clear h
  go_enter_defers Tryz.func27, Tryz.ntmps27
  go_wp2
  refine h1.mono ?_
  rintro e w1 ⟨rfl, hB1⟩
  have b1 : Blk w1 w.heap.size 24 #[.int .i64 0] := (Blk.new w _ _).below hB1 (by simp)
  have c1 := b1.cell 0
  have f1 := b1.frozen 0
  simp only [List.getElem?_toArray, List.getElem?_cons_zero] at c1
  refine leaves_cons (f := 60) (args := #[.pointer (some ⟨w.heap.size, 0, none⟩)]) (by simp) (by simp [go_sem]) ?_
  refine (caught_A ⟨w.heap.size, 0, none⟩ 0 y _ c1 f1).mono ?_
  rintro e u' w'' ⟨rfl, rfl, rfl⟩
  have c2 : (w1.setCell ⟨w.heap.size, 0, none⟩ (.int .i64 y)).cell? ⟨w.heap.size, 0, none⟩ = some (.int .i64 y) := World.cell?_setCell_same' _ _ _ (by rw [c1]; rfl)
  simp [Go.Leaves, settle, results, Tryz.results27, go_sem, c2]
  exact (((Below.refl _ w).alloc (Nat.le_refl _) _).trans (hB1.mono (by simp))).setCell (Nat.le_refl _) _

/-- What is answered when nothing gave up. -/
theorem idle_S (p : Addr) (w : World) :
    CallsD Tryz.prog 70 #[.pointer (some p)] .returning w fun e u' w' => e = .returned (.tuple #[]) ∧ u' = .returning ∧ w' = w := by
  have hta := assert_errnoX
  refine callsD_of_wpS Tryz.func70 rfl fun c₀ cs hu => ?_
  simp only [Tryz.ntmps70, List.size_toArray, List.length_cons, List.length_nil, Nat.reduceAdd, Nat.reduceSub, Array.replicate_succ, Array.replicate_zero, List.push_toArray, List.append_toArray, List.nil_append, List.cons_append]
  apply wpS_seq
  apply wpS_region
  simp [wpOpsS, go_sem, recoverD, hu, Exit.thenS]
  all_goals (refine wpS_of_wp ?_; go_wp2; cases c₀; simp_all [bodyPostS, results, Tryz.results70])
set_option maxHeartbeats 400000 in
theorem ans_S_yes (f : Nat) (caps : Array Value) (w : World) (Post : Value → World → Prop) (hent : ∀ W, (callFunc f caps).run Tryz.prog W = .ok (.enter f caps) W)
    (h : ∀ W, Below w.heap.size w W → Blk W w.heap.size 24 #[.int .i64 0] → Calls Tryz.prog f caps W fun e w' => ∃ v, e = .returned v ∧ Post v w' ∧ Below W.heap.size W w') :
    Calls Tryz.prog 38 #[.func (.func f) #[] caps] w fun e w' => ∃ v W, e = .returned (.tuple #[v, .int .i64 0]) ∧ Post v W ∧ Blk W w.heap.size 24 #[.int .i64 0] ∧ w' = W.setCell ⟨w.heap.size, 0, none⟩ (.int .i64 0) ∧ Below w.heap.size w w' := by
  have hmf : ∀ (fn : Fn) (first cap : Array Value) (w : World), (Instr.makeFunc fn first cap).run Tryz.prog w = .ok (.func fn first cap) w := fun _ _ _ _ => rfl
  have h1 := h (w.alloc (.cells #[.int .i64 0] 24)) ((Below.refl _ w).alloc (Nat.le_refl _) _) (Blk.new w _ _)
  clear h
  go_enter_defers Tryz.func38, Tryz.ntmps38
  go_wp2
  refine h1.mono ?_
  rintro e w1 ⟨v, rfl, hv, hB1⟩
  have b1 : Blk w1 w.heap.size 24 #[.int .i64 0] := (Blk.new w _ _).below hB1 (by simp)
  have c1 := b1.cell 0
  have f1 := b1.frozen 0
  simp only [List.getElem?_toArray, List.getElem?_cons_zero] at c1
  go_wp2
  refine leaves_cons (f := 70) (args := #[.pointer (some ⟨w.heap.size, 0, none⟩)]) (by simp) (by simp [go_sem]) ?_
  refine (idle_S ⟨w.heap.size, 0, none⟩ _).mono ?_
  rintro e u' w'' ⟨rfl, rfl, rfl⟩
  have c2 : (w1.setCell ⟨w.heap.size, 0, none⟩ (.int .i64 0)).cell? ⟨w.heap.size, 0, none⟩ = some (.int .i64 0) := World.cell?_setCell_same' _ _ _ (by rw [c1]; rfl)
  simp [Go.Leaves, settle, results, Tryz.results38, go_sem, c2]
  exact ⟨w1, hv, b1, rfl, (((Below.refl _ w).alloc (Nat.le_refl _) _).trans (hB1.mono (by simp))).setCell (Nat.le_refl _) _⟩
/-- What is answered when nothing gave up. -/
theorem idle_C (p : Addr) (w : World) :
    CallsD Tryz.prog 85 #[.pointer (some p)] .returning w fun e u' w' => e = .returned (.tuple #[]) ∧ u' = .returning ∧ w' = w := by
  have hta := assert_errnoX
  refine callsD_of_wpS Tryz.func85 rfl fun c₀ cs hu => ?_
  simp only [Tryz.ntmps85, List.size_toArray, List.length_cons, List.length_nil, Nat.reduceAdd, Nat.reduceSub, Array.replicate_succ, Array.replicate_zero, List.push_toArray, List.append_toArray, List.nil_append, List.cons_append]
  apply wpS_seq
  apply wpS_region
  simp [wpOpsS, go_sem, recoverD, hu, Exit.thenS]
  all_goals (refine wpS_of_wp ?_; go_wp2; cases c₀; simp_all [bodyPostS, results, Tryz.results85])
set_option maxHeartbeats 400000 in
theorem ans_C_yes (f : Nat) (caps : Array Value) (w : World) (Post : Value → World → Prop) (hent : ∀ W, (callFunc f caps).run Tryz.prog W = .ok (.enter f caps) W)
    (h : ∀ W, Below w.heap.size w W → Blk W w.heap.size 24 #[.int .i64 0] → Calls Tryz.prog f caps W fun e w' => ∃ v, e = .returned v ∧ Post v w' ∧ Below W.heap.size W w') :
    Calls Tryz.prog 48 #[.func (.func f) #[] caps] w fun e w' => ∃ v W, e = .returned (.tuple #[v, .int .i64 0]) ∧ Post v W ∧ Blk W w.heap.size 24 #[.int .i64 0] ∧ w' = W.setCell ⟨w.heap.size, 0, none⟩ (.int .i64 0) ∧ Below w.heap.size w w' := by
  have hmf : ∀ (fn : Fn) (first cap : Array Value) (w : World), (Instr.makeFunc fn first cap).run Tryz.prog w = .ok (.func fn first cap) w := fun _ _ _ _ => rfl
  have h1 := h (w.alloc (.cells #[.int .i64 0] 24)) ((Below.refl _ w).alloc (Nat.le_refl _) _) (Blk.new w _ _)
  clear h
  go_enter_defers Tryz.func48, Tryz.ntmps48
  go_wp2
  refine h1.mono ?_
  rintro e w1 ⟨v, rfl, hv, hB1⟩
  have b1 : Blk w1 w.heap.size 24 #[.int .i64 0] := (Blk.new w _ _).below hB1 (by simp)
  have c1 := b1.cell 0
  have f1 := b1.frozen 0
  simp only [List.getElem?_toArray, List.getElem?_cons_zero] at c1
  go_wp2
  refine leaves_cons (f := 85) (args := #[.pointer (some ⟨w.heap.size, 0, none⟩)]) (by simp) (by simp [go_sem]) ?_
  refine (idle_C ⟨w.heap.size, 0, none⟩ _).mono ?_
  rintro e u' w'' ⟨rfl, rfl, rfl⟩
  have c2 : (w1.setCell ⟨w.heap.size, 0, none⟩ (.int .i64 0)).cell? ⟨w.heap.size, 0, none⟩ = some (.int .i64 0) := World.cell?_setCell_same' _ _ _ (by rw [c1]; rfl)
  simp [Go.Leaves, settle, results, Tryz.results48, go_sem, c2]
  exact ⟨w1, hv, b1, rfl, (((Below.refl _ w).alloc (Nat.le_refl _) _).trans (hB1.mono (by simp))).setCell (Nat.le_refl _) _⟩
/-- What is answered when nothing gave up. -/
theorem idle_L (p : Addr) (w : World) :
    CallsD Tryz.prog 67 #[.pointer (some p)] .returning w fun e u' w' => e = .returned (.tuple #[]) ∧ u' = .returning ∧ w' = w := by
  have hta := assert_errnoX
  refine callsD_of_wpS Tryz.func67 rfl fun c₀ cs hu => ?_
  simp only [Tryz.ntmps67, List.size_toArray, List.length_cons, List.length_nil, Nat.reduceAdd, Nat.reduceSub, Array.replicate_succ, Array.replicate_zero, List.push_toArray, List.append_toArray, List.nil_append, List.cons_append]
  apply wpS_seq
  apply wpS_region
  simp [wpOpsS, go_sem, recoverD, hu, Exit.thenS]
  all_goals (refine wpS_of_wp ?_; go_wp2; cases c₀; simp_all [bodyPostS, results, Tryz.results67])
/-- What is answered when it gave up. -/
theorem caught_L (p : Addr) (x y : Int) (w : World) (hc : w.cell? p = some (.int .i64 x)) (hz : w.frozen? p = false) :
    CallsD Tryz.prog 67 #[.pointer (some p)] (.panicking (gave y)) w fun e u' w' =>
      e = .returned (.tuple #[]) ∧ u' = .panicking [{ v := .iface 24 (.int .i64 y), recovered := true }] ∧ w' = w.setCell p (.int .i64 y) := by
  have hta := assert_errnoX
  refine callsD_of_wpS Tryz.func67 rfl fun c₀ cs hu => ?_
  simp only [Tryz.ntmps67, List.size_toArray, List.length_cons, List.length_nil, Nat.reduceAdd, Nat.reduceSub, Array.replicate_succ, Array.replicate_zero, List.push_toArray, List.append_toArray, List.nil_append, List.cons_append]
  apply wpS_seq
  apply wpS_region
  simp [wpOpsS, go_sem, recoverD, hu, Exit.thenS, gave]
  all_goals (refine wpS_of_wp ?_; go_wp2; simp [bodyPostS, results, Tryz.results67])

theorem two_L (w : World) {w1 : World} (hB1 : Below ((w.alloc (.cells #[.int .i64 0, .slice none 0 0] 69)).alloc (.cells #[.int .i64 0] 24)).heap.size ((w.alloc (.cells #[.int .i64 0, .slice none 0 0] 69)).alloc (.cells #[.int .i64 0] 24)) w1) : Blk w1 w.heap.size 69 #[.int .i64 0, .slice none 0 0] ∧ Blk w1 (w.heap.size + 1) 24 #[.int .i64 0] :=
  ⟨((Blk.new w _ _).alloc _).below hB1 (by simp; omega), (Blk.second w _ _ _).below hB1 (by simp)⟩
set_option maxHeartbeats 1000000 in
theorem ans_L_yes (f : Nat) (caps : Array Value) (w : World) (Post : Value → World → Prop) (hent : ∀ W, (callFunc f caps).run Tryz.prog W = .ok (.enter f caps) W)
    (hP : ∀ v W W', Post v W → Blk W w.heap.size 69 #[.int .i64 0, .slice none 0 0] → Blk W (w.heap.size + 1) 24 #[.int .i64 0] → Keeps (fun b => b ≠ w.heap.size ∧ b ≠ w.heap.size + 1) W W' → W.heap.size = W'.heap.size → Post v W')
    (h : ∀ W, Below w.heap.size w W → w.heap.size + 2 ≤ W.heap.size → Calls Tryz.prog f caps W fun e w' => ∃ x0 x1 x2 x3, e = .returned (.agg #[.int .i64 x0, .slice x1 x2 x3]) ∧ Post (.agg #[.int .i64 x0, .slice x1 x2 x3]) w' ∧ Below W.heap.size W w') :
    Calls Tryz.prog 34 #[.func (.func f) #[] caps] w fun e w' => ∃ v, e = .returned (.tuple #[v, .int .i64 0]) ∧ Post v w' ∧ Below w.heap.size w w' := by
  have hmf : ∀ (fn : Fn) (first cap : Array Value) (w : World), (Instr.makeFunc fn first cap).run Tryz.prog w = .ok (.func fn first cap) w := fun _ _ _ _ => rfl
  have hBa := below_two w (.cells #[.int .i64 0, .slice none 0 0] 69) (.cells #[.int .i64 0] 24)
  have h1 := h _ hBa (by simp)
  clear h
  go_enter_defers Tryz.func34, Tryz.ntmps34
  go_wp2
  refine h1.mono ?_
  rintro e w1 ⟨x0, x1, x2, x3, rfl, hpost, hB1⟩
  obtain ⟨b0, b1⟩ := two_L w hB1
  have c0 := b0.cell 0
  have c1 := b0.cell 1
  have cz := b1.cell 0
  have f0 := b0.frozen 0
  have f1 := b0.frozen 1
  have fz := b1.frozen 0
  simp only [List.getElem?_toArray, List.getElem?_cons_zero, List.getElem?_cons_succ] at c0 c1 cz
  have hBw := below_in hBa hB1
  go_wp2
  obtain ⟨ww, hww⟩ : ∃ ww, ((w1.setCell ⟨w.heap.size, 0, none⟩ (.int .i64 x0)).setCell ⟨w.heap.size, 1, none⟩ (.slice x1 x2 x3)).setCell ⟨w.heap.size + 1, 0, none⟩ (.int .i64 0) = ww := ⟨_, rfl⟩
  have d0 : Blk ww w.heap.size 69 #[.int .i64 x0, .slice x1 x2 x3] := by
    rw [← hww]
    exact Blk.far ((b0.set_ 0 (.int .i64 x0)).set_ 1 (.slice x1 x2 x3)) (by simp) _
  have d1 : Blk ww (w.heap.size + 1) 24 #[.int .i64 0] := by
    rw [← hww]
    exact ((Blk.far (Blk.far b1 (by simp) _) (by simp) _)).set_ 0 (.int .i64 0)
  have hBz : Below w.heap.size w ww := by
    rw [← hww]
    exact (((hBw).setCell (Nat.le_refl _) _).setCell (Nat.le_refl _) _).setCell (Nat.le_succ _) _
  have hpz : Post (.agg #[.int .i64 x0, .slice x1 x2 x3]) ww := by
    refine hP _ _ _ hpost b0 b1 (fun b hb => ?_) ?_
    · rw [← hww]
      have e1 : b ≠ w.heap.size := hb.1
      have e2 : b ≠ w.heap.size + 1 := hb.2
      refine (Below.heap_setCell _ ⟨w.heap.size + 1, 0, none⟩ _ b e2).trans ?_
      refine (Below.heap_setCell _ ⟨w.heap.size, 1, none⟩ _ b e1).trans ?_
      refine (Below.heap_setCell _ ⟨w.heap.size, 0, none⟩ _ b e1).trans ?_
      rfl
    · rw [← hww]
      simp
  rw [hww]
  have e0 := d0.cell 0
  have e1 := d0.cell 1
  have ez := d1.cell 0
  simp only [List.getElem?_toArray, List.getElem?_cons_zero, List.getElem?_cons_succ] at e0 e1 ez
  refine leaves_cons (f := 67) (args := #[.pointer (some ⟨w.heap.size + 1, 0, none⟩)]) (by simp) (by simp [go_sem]) ?_
  refine (idle_L ⟨w.heap.size + 1, 0, none⟩ _).mono ?_
  rintro e u' w'' ⟨rfl, rfl, rfl⟩
  simp [Go.Leaves, settle, results, Tryz.results34, go_sem, e0, e1, ez]
  exact ⟨hpz, hBz⟩
set_option maxHeartbeats 1000000 in
theorem ans_L_no (y : Int) (f : Nat) (caps : Array Value) (w : World) (hent : ∀ W, (callFunc f caps).run Tryz.prog W = .ok (.enter f caps) W)
    (h : ∀ W, Below w.heap.size w W → Calls Tryz.prog f caps W fun e w' => e = .panicked (gave y) ∧ Below W.heap.size W w') :
    Calls Tryz.prog 34 #[.func (.func f) #[] caps] w fun e w' => e = .returned (.tuple #[.agg #[.int .i64 0, .slice none 0 0], .int .i64 y]) ∧ Below w.heap.size w w' := by
  have hmf : ∀ (fn : Fn) (first cap : Array Value) (w : World), (Instr.makeFunc fn first cap).run Tryz.prog w = .ok (.func fn first cap) w := fun _ _ _ _ => rfl
  have hBa := below_two w (.cells #[.int .i64 0, .slice none 0 0] 69) (.cells #[.int .i64 0] 24)
  have h1 := h _ hBa
  clear h
  go_enter_defers Tryz.func34, Tryz.ntmps34
  go_wp2
  refine h1.mono ?_
  rintro e w1 ⟨rfl, hB1⟩
  obtain ⟨b0, b1⟩ := two_L w hB1
  have cz := b1.cell 0
  have fz := b1.frozen 0
  simp only [List.getElem?_toArray, List.getElem?_cons_zero, List.getElem?_cons_succ] at cz
  have hBw := below_in hBa hB1
  refine leaves_cons (f := 67) (args := #[.pointer (some ⟨w.heap.size + 1, 0, none⟩)]) (by simp) (by simp [go_sem]) ?_
  refine (caught_L ⟨w.heap.size + 1, 0, none⟩ 0 y _ cz fz).mono ?_
  rintro e u' w'' ⟨rfl, rfl, rfl⟩
  obtain ⟨ww, hww⟩ : ∃ ww, w1.setCell ⟨w.heap.size + 1, 0, none⟩ (.int .i64 y) = ww := ⟨_, rfl⟩
  have d0 : Blk ww w.heap.size 69 #[.int .i64 0, .slice none 0 0] := by
    rw [← hww]
    exact Blk.far b0 (by simp) _
  have d1 : Blk ww (w.heap.size + 1) 24 #[.int .i64 y] := by
    rw [← hww]
    exact b1.set_ 0 (.int .i64 y)
  have hBz : Below w.heap.size w ww := by
    rw [← hww]
    exact hBw.setCell (Nat.le_succ _) _
  rw [hww]
  have e0 := d0.cell 0
  have e1 := d0.cell 1
  have ez := d1.cell 0
  simp only [List.getElem?_toArray, List.getElem?_cons_zero, List.getElem?_cons_succ] at e0 e1 ez
  simp [Go.Leaves, settle, results, Tryz.results34, go_sem, e0, e1, ez]
  exact hBz
end Go.Proofs.YthmkgdkfehgpkaaGreatDoor.Ch

namespace Go.Proofs.YthmkgdkfehgpkaaGreatDoor.Ch
open Go.RowKit Go.Shelf Go.Proofs.YthmkgdkfehgpkaaGreatDoor.C Go.Proofs.YthmkgdkfehgpkaaGreatDoor.E
set_option linter.unusedSimpArgs false
set_option linter.unusedVariables false
attribute [local go_sem] Oper.semAt_some

theorem rightC1 {p : Int} (hp : p ∈ prm) : RightC 1 p := ⟨by omega, hp⟩
set_option maxHeartbeats 1000000 in
theorem code_any (p : Int) (w : World) : Calls Tryz.prog 63 #[.int .i64 p] w fun e w' => e = .returned (.agg #[.int .i64 1, .int .i64 p]) ∧ Below w.heap.size w w' := by
  go_enter Tryz.func63, Tryz.ntmps63
  go_wp2
  have b := Blk.new w 60 #[.int .i64 1, .int .i64 p]
  have c0 := b.cell 0
  have c1 := b.cell 1
  simp only [List.getElem?_toArray, List.getElem?_cons_zero, List.getElem?_cons_succ] at c0 c1
  exact bodyPost_ret (v := .agg #[.int .i64 1, .int .i64 p]) (by simp [results, Tryz.results63, go_sem, c0, c1]) rfl ⟨rfl, below_one w _⟩
set_option maxHeartbeats 1000000 in
theorem last_any (P Q : Nat) (hQ : P = Q + 1) (hP : P ≤ 100) (w : World) : Calls Tryz.prog 78 #[.int .i64 (P : Int)] w fun e w' => e = .returned (.int .i64 (Q : Int)) ∧ w' = w := by
  have e : (P : Int) - 1 = (Q : Int) := by omega
  have hw : IntKind.i64.wrap ((P : Int) - 1) = (Q : Int) := by rw [e]; exact IntWalk.i64_in _ (by omega)
  clear e hQ
  go_enter Tryz.func78, Tryz.ntmps78
  go_wp2
  go_ret
  exact ⟨rfl, rfl⟩
set_option maxHeartbeats 1000000 in
theorem rowsAt_any (p : Int) (w : World) : Calls Tryz.prog 50 #[.int .i64 p] w fun e w' => e = .returned (.int .i64 p) ∧ w' = w := by
  go_enter Tryz.func50, Tryz.ntmps50
  go_wp2
  go_ret
  exact ⟨rfl, rfl⟩
set_option maxHeartbeats 1000000 in
theorem primeOf_yes (p : Int) (hp : p ∈ prm) (w : World) (hL : Laid w) : Calls Tryz.prog 29 #[.int .i64 p] w fun e w' => e = .returned (.int .i64 p) ∧ Below w.heap.size w w' := by
  have HC := Lib.hid (fun W hL => (shapeCheck_any 1 p W hL).mono fun e w' h => And.intro (h.1 (rightC1 hp)) h.2.2)
  clear hp
  go_enter Tryz.func29, Tryz.ntmps29
  go_wp2_with (first
    | (go_at_call 63; refine (code_any p _).mono ?_; rintro e w1 ⟨rfl, hB1⟩; replace hL := hL.next hB1)
    | (go_at_call 62; refine (HC.out _ hL).mono ?_; rintro e w2 ⟨rfl, hB2⟩)
    | (go_at_call 61; refine (need_yes _ _).mono ?_; rintro e w3 ⟨rfl, rfl⟩))
  go_ret
  exact ⟨rfl, below_in hB1 hB2⟩
set_option maxHeartbeats 1000000 in
theorem primeOf_no (p : Int) (hp : p ∉ prm) (w : World) (hL : Laid w) : Calls Tryz.prog 29 #[.int .i64 p] w fun e w' => e = .panicked (gave 2) ∧ Below w.heap.size w w' := by
  have HC := Lib.hid (fun W hL => (shapeCheck_any 1 p W hL).mono fun e w' h => And.intro (h.2.1 (fun h => hp h.2)) h.2.2)
  clear hp
  go_enter Tryz.func29, Tryz.ntmps29
  go_wp2_with (first
    | (go_at_call 63; refine (code_any p _).mono ?_; rintro e w1 ⟨rfl, hB1⟩; replace hL := hL.next hB1)
    | (go_at_call 62; refine (HC.out _ hL).mono ?_; rintro e w2 ⟨rfl, hB2⟩)
    | (go_at_call 61; refine (need_no _ _).mono ?_; rintro e w3 ⟨rfl, rfl⟩))
  exact ⟨rfl, rfl, below_in hB1 hB2⟩
set_option maxHeartbeats 1000000 in
theorem cols_any (p : Int) (hp : p ∈ prm) (w : World) (hL : Laid w) : Calls Tryz.prog 71 #[.int .i64 p] w fun e w' => e = .returned (.int .i64 (p + 2)) ∧ Below w.heap.size w w' := by
  have HC := Lib.hid (fun W hL => (shapeCols_any 1 p W hL).mono fun _ _ h => (⟨h.1 (rightC1 hp), h.2.2⟩ : _ ∧ _))
  rw [show shortN 1 = 0 from rfl, Int.sub_zero, show madeN 1 = 2 from rfl] at HC
  clear hp
  go_enter Tryz.func71, Tryz.ntmps71
  go_wp2_with (first
    | (go_at_call 63; refine (code_any p _).mono ?_; rintro e w1 ⟨rfl, hB1⟩; replace hL := hL.next hB1)
    | (go_at_call 96; refine (HC.out _ hL).mono ?_; rintro e w2 ⟨rfl, hB2⟩)
    | (go_at_call 95; refine (sureI _ _).mono ?_; rintro e w3 ⟨rfl, rfl⟩))
  go_ret
  exact ⟨rfl, below_in hB1 hB2⟩
theorem role_is (p x : Int) (hp : p ∈ prm) (w : World) (hL : Laid w) : Calls Tryz.prog 92 #[.agg #[.int .i64 1, .int .i64 p], (.int .i64 x)] w fun e w' => ∃ r er : Int, (r == 1) = decide (0 ≤ x ∧ x < p) ∧ e = .returned (.tuple #[.int .i64 r, .int .i64 er]) ∧ Below w.heap.size w w' := by
  refine (shapeRole_any 1 p x w hL).mono ?_
  rintro e w' ⟨_, h2, h3, hB⟩
  have hb := prm_bounds hp
  by_cases h : HasCol 1 p x
  · refine ⟨_, _, ?_, h3 (rightC1 hp) h, hB⟩
    unfold HasCol at h
    rw [show shortN 1 = 0 from rfl, show madeN 1 = 2 from rfl] at h
    unfold roleN
    rw [show shortN 1 = 0 from rfl, Int.sub_zero]
    by_cases e1 : x = p
    · rw [if_pos e1, decide_eq_false (by omega)]; rfl
    · by_cases e2 : x = p + 1
      · rw [if_neg e1, if_pos e2, decide_eq_false (by omega)]; rfl
      · by_cases e3 : x = p + 2
        · omega
        · rw [if_neg e1, if_neg e2, if_neg e3, decide_eq_true (by omega)]; rfl
  · refine ⟨_, _, ?_, h2 (rightC1 hp) h, hB⟩
    unfold HasCol at h
    rw [show shortN 1 = 0 from rfl, show madeN 1 = 2 from rfl] at h
    rw [decide_eq_false (by omega)]; rfl
set_option maxHeartbeats 1000000 in
theorem isData_any (p x : Int) (hp : p ∈ prm) (w : World) (hL : Laid w) : Calls Tryz.prog 64 #[.int .i64 p, .int .i64 x] w fun e w' => e = .returned (.bool (decide (0 ≤ x ∧ x < p))) ∧ Below w.heap.size w w' := by
  have HC := Lib.hid (fun W hL => role_is p x hp W hL)
  generalize decide (0 ≤ x ∧ x < p) = d at *
  clear hp
  go_enter Tryz.func64, Tryz.ntmps64
  go_wp2_with (first
    | (go_at_call 63; refine (code_any p _).mono ?_; rintro e w1 ⟨rfl, hB1⟩; replace hL := hL.next hB1)
    | (go_at_call 92; refine (HC.out _ hL).mono ?_; rintro e w2 ⟨r, er, hr, rfl, hB2⟩))
  go_ret
  exact ⟨rfl, below_in hB1 hB2⟩
set_option maxHeartbeats 1000000 in
theorem diagonal_any (p x y : Int) (hp : p ∈ prm) (hx : 0 ≤ x ∧ x < p) (hy : 0 ≤ y ∧ y < p - 1) (w : World) (hL : Laid w) : Calls Tryz.prog 110 #[.int .i64 p, .agg #[.int .i64 x, .int .i64 y]] w fun e w' => e = .returned (.int .i64 ((x + y) % p)) ∧ Below w.heap.size w w' := by
  have hh : HasCell 1 p x y := ⟨⟨hx.1, by rw [show shortN 1 = 0 from rfl, show madeN 1 = 2 from rfl]; omega⟩, hy⟩
  have HC := Lib.hid (fun W hL => (shapeDiagonal_any 1 p x y W hL).mono fun _ _ h => (⟨h.2.2.1 (rightC1 hp) hh, h.2.2.2⟩ : _ ∧ _))
  have bz := Blk.new w 36 #[.int .i64 x, .int .i64 y]
  have hBz := below_one w (.cells #[.int .i64 x, .int .i64 y] 36)
  generalize (x + y) % p = z at *
  clear hp hx hy hh
  obtain ⟨w0, hw0⟩ : ∃ x', w.alloc (.cells #[.int .i64 x, .int .i64 y] 36) = x' := ⟨_, rfl⟩
  obtain ⟨gz, hgz⟩ : ∃ x', w.heap.size = x' := ⟨_, rfl⟩
  rw [hw0] at bz hBz
  rw [hgz] at bz
  have HSS : Hid (∀ V, Below w0.heap.size w0 V → (fun U : World => U.cell? ⟨gz, 0, none⟩ = some (.int .i64 x) ∧ U.cell? ⟨gz, 1, none⟩ = some (.int .i64 y)) V) := fun V hV => ⟨(bz.below hV bz.lt).cell 0, (bz.below hV bz.lt).cell 1⟩
  have hBx := (Below.refl w0.heap.size w0).drew
  clear bz
  refine (callsIn_wide (n := 9)).1 ?_
  refine callsIn_of_wp_marks Tryz.func110 rfl trivial ?_ rfl
  simp only [Tryz.ntmps110, List.size_toArray, List.length_cons, List.length_nil, Nat.reduceAdd, Nat.reduceSub, Array.replicate_succ, Array.replicate_zero, List.push_toArray, List.append_toArray, List.nil_append, List.cons_append]
  gi_wp2_with fail
  try rw [hgz]
  try rw [hw0]
  have hS : (fun U : World => U.cell? ⟨gz, 0, none⟩ = some (.int .i64 x) ∧ U.cell? ⟨gz, 1, none⟩ = some (.int .i64 y)) w0.drew := HSS.out _ hBx
  refine wpIn_mono (region_HF (Q := NoPanic _) (S := (fun U : World => U.cell? ⟨gz, 0, none⟩ = some (.int .i64 x) ∧ U.cell? ⟨gz, 1, none⟩ = some (.int .i64 y))) (by kernel_rfl) ?_) NoPanic.imp
  refine anyHF_take (i := 0) (d := 5) (v := .int .i64 p) (by kernel_rfl) rfl (by kernel_rfl) (by kernel_rfl) (by kernel_rfl) rfl (fun _ _ _ h => h) ⟨Or.inl ⟨by rfl, fun w hS => by obtain ⟨h0, h1⟩ := hS; go_simp⟩, fun _ => rfl⟩ hS ?_
  simp only [List.setIfInBounds_toArray, List.set_cons_zero, List.set_cons_succ]
  refine anyHF_take (i := 2) (d := 7) (v := .agg #[.int .i64 x, .int .i64 y]) (by kernel_rfl) rfl (by kernel_rfl) (by kernel_rfl) (by kernel_rfl) rfl (fun _ _ _ h => h) ⟨Or.inl ⟨by rfl, fun w hS => by obtain ⟨h0, h1⟩ := hS; go_simp⟩, fun _ => rfl⟩ hS ?_
  simp only [List.setIfInBounds_toArray, List.set_cons_zero, List.set_cons_succ]
  refine anyHF_one (i := 1) (by kernel_rfl) rfl (by kernel_rfl) (by rfl) ?_
  gi_wp2_with fail
  refine ⟨trivial, (callsIn_wide.2 (code_any p _)).mono ?_⟩
  rintro e w1 ⟨rfl, hB1⟩
  replace hBx := below_in hBx hB1
  clear hS
  have hS : (fun U : World => U.cell? ⟨gz, 0, none⟩ = some (.int .i64 x) ∧ U.cell? ⟨gz, 1, none⟩ = some (.int .i64 y)) w1 := HSS.out _ hBx
  gi_wp2
  try (refine ⟨hS, ?_⟩)
  refine anyHF_one (i := 3) (by kernel_rfl) rfl (by kernel_rfl) (by rfl) ?_
  gi_wp2_with fail
  refine ⟨trivial, (callsIn_wide.2 (HC.out _ (hL.next (below_in hBz hBx)))).mono ?_⟩
  rintro e w2 ⟨rfl, hB2⟩
  replace hBx := below_in hBx hB2
  clear hS
  have hS : (fun U : World => U.cell? ⟨gz, 0, none⟩ = some (.int .i64 x) ∧ U.cell? ⟨gz, 1, none⟩ = some (.int .i64 y)) w2 := HSS.out _ hBx
  gi_wp2
  try (refine ⟨hS, ?_⟩)
  refine anyHF_take (i := 4) (d := 9) (v := .int .i64 z) (by kernel_rfl) rfl (by kernel_rfl) (by kernel_rfl) (by kernel_rfl) rfl (fun _ _ _ h => h) ⟨Or.inl ⟨by rfl, fun w hS => by obtain ⟨h0, h1⟩ := hS; go_simp⟩, fun _ => rfl⟩ hS ?_
  simp only [List.setIfInBounds_toArray, List.set_cons_zero, List.set_cons_succ]
  refine anyHF_take (i := 5) (d := 10) (v := .int .i64 0) (by kernel_rfl) rfl (by kernel_rfl) (by kernel_rfl) (by kernel_rfl) rfl (fun _ _ _ h => h) ⟨Or.inl ⟨by rfl, fun w hS => by obtain ⟨h0, h1⟩ := hS; go_simp⟩, fun _ => rfl⟩ hS ?_
  simp only [List.setIfInBounds_toArray, List.set_cons_zero, List.set_cons_succ]
  refine anyHF_one (i := 6) (by kernel_rfl) rfl (by kernel_rfl) (by rfl) ?_
  gi_wp2_with fail
  refine ⟨trivial, (callsIn_wide.2 (sureI z _)).mono ?_⟩
  rintro e w3 ⟨rfl, rfl⟩
  gi_wp2
  try (refine ⟨hS, ?_⟩)
  refine anyHF_one (i := 7) (by kernel_rfl) rfl (by kernel_rfl) (by rfl) ?_
  gi_wp2
  refine anyHF_done (by kernel_rfl) ?_ _
  refine NoPanic.normal ?_
  gi_wp2
  exact ⟨_, by simp [results, Tryz.results110, go_sem], rfl, below_in hBz hBx⟩
/-- The list of lost columns as it lies: one number or two, rising. -/
def GoodL (p : Int) (ls : List Int) (i : Nat) : Prop := (0 ≤ ls[i]?.getD 0 ∧ ls[i]?.getD 0 < p) ∧ (i = 0 ∨ ls[i - 1]?.getD 0 < ls[i]?.getD 0)
set_option maxRecDepth 100000 in
set_option maxHeartbeats 4000000 in
theorem losing_yes (p : Int) (hp : p ∈ prm) (g : Nat) (ls : List Int) (hls : ls.length ≤ 1000) (hgood : ∀ i, i < ls.length → GoodL p ls i) (w : World) (hL : Laid w) (hg : g < w.heap.size) (hcell : ∀ j, j < ls.length → w.cell? ⟨g, j, none⟩ = some (.int .i64 (ls[j]?.getD 0))) :
    Calls Tryz.prog 30 #[.int .i64 p, .slice (some ⟨g, 0, none⟩) ls.length ls.length] w fun e w' => e = .returned (.agg #[.int .i64 p, .slice (some ⟨g, 0, none⟩) ls.length ls.length]) ∧ Below w.heap.size w w' := by
  have HCE := Lib.hid hcell
  have HG := Lib.hid hgood
  have HI := Lib.hid (fun (x : Int) (W : World) (hL : Laid W) => isData_any p x hp W hL)
  clear hcell hgood hp
  go_enter Tryz.func30, Tryz.ntmps30
  go_wp2_with fail
  go_loopw [9] (fun v wr => ∃ k : Nat, k ≤ ls.length ∧ v = .int .i64 k ∧ Blk wr w.heap.size 69 #[.int .i64 0, .slice none 0 0] ∧ Below w.heap.size w wr) (fun v _ => ls.length - (intOf v).toNat)
  case atStart => exact ⟨0, Nat.zero_le _, rfl, Blk.new w _ _, below_one w _⟩
  case round =>
    obtain ⟨k, hk, rfl, bz, hBr⟩ := hrel
    by_cases hlt : k < ls.length
    · have hdec : decide ((k : Int) < (ls.length : Int)) = true := by simp; omega
      have i1 : (0 : Int) ≤ (k : Int) := by omega
      have i2 : (k : Int) < (ls.length : Int) := by omega
      have hc := (hBr.cell (p := ⟨g, k, none⟩) hg).trans (HCE.out k hlt)
      obtain ⟨h1, h2⟩ := HG.out k hlt
      rcases Nat.eq_zero_or_pos k with rfl | hpos
      · generalize ls[0]?.getD 0 = x at *
        have hd : decide (0 ≤ x ∧ x < p) = true := decide_eq_true h1
        have e0 : (((0 : Nat) : Int) == 0) = true := rfl
        clear h1 h2
        go_wp2_with (first
          | (go_at_call 64; refine (HI.out _ _ (hL.next hBr)).mono ?_; rintro e w1 ⟨rfl, hB1⟩)
          | (go_at_call 61; refine (need_yes _ _).mono ?_; rintro e w2 ⟨rfl, rfl⟩))
        go_roundw
        case rel => exact ⟨1, by omega, rfl, bz.below hB1 bz.lt, below_in hBr hB1⟩
        case measure => simp [intOf]; omega
      · obtain ⟨m, hm⟩ : ∃ m, k - 1 = m := ⟨_, rfl⟩
        have hc2 := (hBr.cell (p := ⟨g, m, none⟩) hg).trans (HCE.out m (by omega))
        have h3 : ls[m]?.getD 0 < ls[k]?.getD 0 := by
          rcases h2 with h2 | h2
          · exact absurd h2 (by omega)
          · rwa [hm] at h2
        have hw : IntKind.i64.wrap ((k : Int) - 1) = (m : Int) := by rw [show (k : Int) - 1 = (m : Int) by omega]; exact IntWalk.i64_in _ (by omega)
        have e0 : ((k : Int) == 0) = false := by simp; omega
        have i3 : (0 : Int) ≤ (m : Int) := by omega
        have i4 : (m : Int) < (ls.length : Int) := by omega
        clear hm h2
        generalize ls[k]?.getD 0 = x at *
        generalize ls[m]?.getD 0 = y at *
        have hd : decide (0 ≤ x ∧ x < p) = true := decide_eq_true h1
        have hd2 : decide (y < x) = true := decide_eq_true h3
        clear h1 h3
        go_wp2_with (first
          | (go_at_call 64; refine (HI.out _ _ (hL.next hBr)).mono ?_; rintro e w1 ⟨rfl, hB1⟩; replace hc2 := (hB1.cell (p := ⟨g, m, none⟩) (Nat.lt_of_lt_of_le hg hBr.size)).trans hc2)
          | (go_at_call 61; refine (need_yes _ _).mono ?_; rintro e w2 ⟨rfl, rfl⟩))
        go_roundw
        case rel => exact ⟨k + 1, by omega, by go_num, bz.below hB1 bz.lt, below_in hBr hB1⟩
        case measure => simp [intOf]; omega
    · obtain rfl : k = ls.length := by omega
      have e1 : decide ((ls.length : Int) < (ls.length : Int)) = false := by simp
      have c0 := bz.cell 0
      have c1 := bz.cell 1
      have f0 := bz.frozen 0
      have f1 := bz.frozen 1
      simp only [List.getElem?_toArray, List.getElem?_cons_zero, List.getElem?_cons_succ] at c0 c1
      have b2 := (bz.set_ 0 (.int .i64 p)).set_ 1 (.slice (some ⟨g, 0, none⟩) ls.length ls.length)
      have hB2 := (hBr.setCell (p := ⟨w.heap.size, 0, none⟩) (Nat.le_refl _) (.int .i64 p)).setCell (p := ⟨w.heap.size, 1, none⟩) (Nat.le_refl _) (.slice (some ⟨g, 0, none⟩) ls.length ls.length)
      have r0 := b2.cell 0
      have r1 := b2.cell 1
      simp only [List.setIfInBounds_toArray, List.set_cons_zero, List.set_cons_succ, List.getElem?_toArray, List.getElem?_cons_zero, List.getElem?_cons_succ] at r0 r1
      go_wp2_with fail
      exact bodyPost_ret (v := .agg #[.int .i64 p, .slice (some ⟨g, 0, none⟩) ls.length ls.length]) (by simp [results, Tryz.results30, go_sem, r0, r1]) rfl ⟨rfl, hB2⟩
set_option maxRecDepth 100000 in
set_option maxHeartbeats 4000000 in
theorem losing_no (p : Int) (hp : p ∈ prm) (g : Nat) (ls : List Int) (hls : ls.length ≤ 1000) (z : Nat) (hz : z < ls.length) (hgood : ∀ i, i < z → GoodL p ls i) (hbad : ¬ GoodL p ls z) (w : World) (hL : Laid w) (hg : g < w.heap.size) (hcell : ∀ j, j < ls.length → w.cell? ⟨g, j, none⟩ = some (.int .i64 (ls[j]?.getD 0))) :
    Calls Tryz.prog 30 #[.int .i64 p, .slice (some ⟨g, 0, none⟩) ls.length ls.length] w fun e w' => e = .panicked (gave 4) ∧ Below w.heap.size w w' := by
  have HCE := Lib.hid hcell
  have HG := Lib.hid hgood
  have HBAD := Lib.hid hbad
  have HI := Lib.hid (fun (x : Int) (W : World) (hL : Laid W) => isData_any p x hp W hL)
  clear hcell hgood hp hbad
  go_enter Tryz.func30, Tryz.ntmps30
  go_wp2_with fail
  go_loopw [9] (fun v wr => ∃ k : Nat, k ≤ z ∧ v = .int .i64 k ∧ Below w.heap.size w wr) (fun v _ => ls.length - (intOf v).toNat)
  case atStart => exact ⟨0, Nat.zero_le _, rfl, below_one w _⟩
  case round =>
    obtain ⟨k, hk, rfl, hBr⟩ := hrel
    have hlt : k < ls.length := by omega
    have hdec : decide ((k : Int) < (ls.length : Int)) = true := by simp; omega
    have i1 : (0 : Int) ≤ (k : Int) := by omega
    have i2 : (k : Int) < (ls.length : Int) := by omega
    have hc := (hBr.cell (p := ⟨g, k, none⟩) hg).trans (HCE.out k hlt)
    by_cases h1 : 0 ≤ ls[k]?.getD 0 ∧ ls[k]?.getD 0 < p
    · rcases Nat.eq_zero_or_pos k with rfl | hpos
      · have hkz : 0 < z := by
          rcases Nat.eq_zero_or_pos z with e | e
          · subst e; exact absurd ⟨h1, .inl rfl⟩ HBAD.out
          · exact e
        generalize ls[0]?.getD 0 = x at *
        have hd : decide (0 ≤ x ∧ x < p) = true := decide_eq_true h1
        have e0 : (((0 : Nat) : Int) == 0) = true := rfl
        clear h1
        go_wp2_with (first
          | (go_at_call 64; refine (HI.out _ _ (hL.next hBr)).mono ?_; rintro e w1 ⟨rfl, hB1⟩)
          | (go_at_call 61; refine (need_yes _ _).mono ?_; rintro e w2 ⟨rfl, rfl⟩))
        go_roundw
        case rel => exact ⟨1, by omega, rfl, below_in hBr hB1⟩
        case measure => simp [intOf]; omega
      · obtain ⟨m, hm⟩ : ∃ m, k - 1 = m := ⟨_, rfl⟩
        have hc2 := (hBr.cell (p := ⟨g, m, none⟩) hg).trans (HCE.out m (by omega))
        have hw : IntKind.i64.wrap ((k : Int) - 1) = (m : Int) := by rw [show (k : Int) - 1 = (m : Int) by omega]; exact IntWalk.i64_in _ (by omega)
        have e0 : ((k : Int) == 0) = false := by simp; omega
        have i3 : (0 : Int) ≤ (m : Int) := by omega
        have i4 : (m : Int) < (ls.length : Int) := by omega
        by_cases h3 : ls[m]?.getD 0 < ls[k]?.getD 0
        · have hkz : k < z := by
            rcases Nat.lt_or_ge k z with e | e
            · exact e
            · obtain rfl : k = z := by omega
              exact absurd ⟨h1, .inr (by rw [hm]; exact h3)⟩ HBAD.out
          clear hm
          generalize ls[k]?.getD 0 = x at *
          generalize ls[m]?.getD 0 = y at *
          have hd : decide (0 ≤ x ∧ x < p) = true := decide_eq_true h1
          have hd2 : decide (y < x) = true := decide_eq_true h3
          clear h1 h3
          go_wp2_with (first
            | (go_at_call 64; refine (HI.out _ _ (hL.next hBr)).mono ?_; rintro e w1 ⟨rfl, hB1⟩; replace hc2 := (hB1.cell (p := ⟨g, m, none⟩) (Nat.lt_of_lt_of_le hg hBr.size)).trans hc2)
            | (go_at_call 61; refine (need_yes _ _).mono ?_; rintro e w2 ⟨rfl, rfl⟩))
          go_roundw
          case rel => exact ⟨k + 1, by omega, by go_num, below_in hBr hB1⟩
          case measure => simp [intOf]; omega
        · clear hm
          generalize ls[k]?.getD 0 = x at *
          generalize ls[m]?.getD 0 = y at *
          have hd : decide (0 ≤ x ∧ x < p) = true := decide_eq_true h1
          have hd2 : decide (y < x) = false := decide_eq_false h3
          clear h1 h3
          go_wp2_with (first
            | (go_at_call 64; refine (HI.out _ _ (hL.next hBr)).mono ?_; rintro e w1 ⟨rfl, hB1⟩; replace hc2 := (hB1.cell (p := ⟨g, m, none⟩) (Nat.lt_of_lt_of_le hg hBr.size)).trans hc2)
            | (go_at_call 61; refine (need_no _ _).mono ?_; rintro e w2 ⟨rfl, rfl⟩))
          exact ⟨rfl, rfl, below_in hBr hB1⟩
    · generalize ls[k]?.getD 0 = x at *
      have hd : decide (0 ≤ x ∧ x < p) = false := decide_eq_false h1
      clear h1
      go_wp2_with (first
        | (go_at_call 64; refine (HI.out _ _ (hL.next hBr)).mono ?_; rintro e w1 ⟨rfl, hB1⟩)
        | (go_at_call 61; refine (need_no _ _).mono ?_; rintro e w2 ⟨rfl, rfl⟩))
      exact ⟨rfl, rfl, below_in hBr hB1⟩
set_option maxRecDepth 100000 in
set_option maxHeartbeats 4000000 in
theorem asked_yes (p : Int) (hp : p ∈ prm) (A : Option Addr) (N cap : Nat) (hN : (N : Int) = p + 2) (g : Nat) (ls : List Int) (hls : ls.length ≤ 1000) (hgood : ∀ i, i < ls.length → GoodL p ls i) (w : World) (hL : Laid w) (hg : g < w.heap.size) (hcell : ∀ j, j < ls.length → w.cell? ⟨g, j, none⟩ = some (.int .i64 (ls[j]?.getD 0))) :
    Calls Tryz.prog 40 #[.int .i64 p, .slice A N cap, .slice (some ⟨g, 0, none⟩) ls.length ls.length] w fun e w' => e = .returned (.agg #[.int .i64 p, .slice (some ⟨g, 0, none⟩) ls.length ls.length]) ∧ Below w.heap.size w w' := by
  have HP := Lib.hid (fun W hL => primeOf_yes p hp W hL)
  have HC := Lib.hid (fun W hL => cols_any p hp W hL)
  have hBz := below_one w (.cells #[.int .i64 0, .slice none 0 0] 69)
  have bz := Blk.new w 69 #[.int .i64 0, .slice none 0 0]
  have HLO := Lib.hid (fun (W : World) (hB : Below w.heap.size w W) => losing_yes p hp g ls hls hgood W (hL.next hB) (Nat.lt_of_lt_of_le hg hB.size) (fun j hj => (hB.cell (p := ⟨g, j, none⟩) hg).trans (hcell j hj)))
  have he : ((N : Int) == p + 2) = true := by simp; omega
  obtain ⟨w0, hw0⟩ : ∃ x, w.alloc (.cells #[.int .i64 0, .slice none 0 0] 69) = x := ⟨_, rfl⟩
  rw [hw0] at hBz bz
  have HBZ := Lib.hid bz
  clear hcell hgood hp hN bz
  generalize p + 2 = q at *
  generalize ls.length = n at *
  go_enter Tryz.func40, Tryz.ntmps40
  go_wp2_with (first
    | (go_at_call 29; (try rw [hw0]); refine (HP.out _ (hL.next hBz)).mono ?_; rintro e w1 ⟨rfl, hB1⟩)
    | (go_at_call 71; refine (HC.out _ (hL.next (below_in hBz hB1))).mono ?_; rintro e w2 ⟨rfl, hB2⟩; replace hB2 := below_in hB1 hB2)
    | (go_at_call 61; refine (need_yes _ _).mono ?_; rintro e w3 ⟨rfl, rfl⟩)
    | (go_at_call 30; refine (HLO.out _ (below_in hBz hB2)).mono ?_; rintro e w4 ⟨rfl, hB4⟩; replace hB4 := below_in hB2 hB4; have bz := HBZ.out.below hB4 HBZ.out.lt; have c0 := bz.cell 0; have c1 := bz.cell 1; have f0 := bz.frozen 0; have f1 := bz.frozen 1; simp only [List.getElem?_toArray, List.getElem?_cons_zero, List.getElem?_cons_succ] at c0 c1))
  have b2 := (bz.set_ 0 (.int .i64 p)).set_ 1 (.slice (some ⟨g, 0, none⟩) n n)
  have hB2' := ((below_in hBz hB4).setCell (p := ⟨w.heap.size, 0, none⟩) (Nat.le_refl _) (.int .i64 p)).setCell (p := ⟨w.heap.size, 1, none⟩) (Nat.le_refl _) (.slice (some ⟨g, 0, none⟩) n n)
  have r0 := b2.cell 0
  have r1 := b2.cell 1
  simp only [List.setIfInBounds_toArray, List.set_cons_zero, List.set_cons_succ, List.getElem?_toArray, List.getElem?_cons_zero, List.getElem?_cons_succ] at r0 r1
  exact bodyPost_ret (v := .agg #[.int .i64 p, .slice (some ⟨g, 0, none⟩) n n]) (by simp [results, Tryz.results40, go_sem, r0, r1]) rfl ⟨rfl, hB2'⟩
end Go.Proofs.YthmkgdkfehgpkaaGreatDoor.Ch

