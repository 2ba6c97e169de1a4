/- EVENODD: Adjuster and Encode. STAR: giving up, what is answered; columns under way. Lists that a call builds by append: of cells, of columns; which blocks they lie in. Lists that a call builds by append: many elements at once. EVENODD: what is made belongs together with what it is made of. The columns of EVENODD: what is answered, of the rest. EVENODD's Check: all columns; what is the same. EVENODD's Check: whether columns are those that are made. The document's Put: columns of one shape, put upon one another. The mathematics of EVENODD: what is made is linear; all cells made, put upon one another, are the adjuster. Sets: what a code under way holds; which of two places is ahead; the columns between two. -/
import Derived.Test.YtcgnhfiadeceiaaGreatDoorJG1
import Derived.Test.YtcgnhfiadeceiaaGreatDoorJG5
import Derived.Test.YtcgnhfiadeceiaaGreatDoorJG2
import Derived.BigFrame
import Derived.Test.YtcgnhfiadeceiaaGreatDoorJG4
import Derived.Test.YtcgnhfiadeceiaaGreatDoorJCA
import Derived.Test.YtcgnhfiadeceiaaGreatDoorJSA
namespace Go.Proofs.YtcgnhfiadeceiaaGreatDoor.E
open Go.RowKit Go.Shelf Go.Proofs.YtcgnhfiadeceiaaGreatDoor.C
set_option linter.unusedSimpArgs false
set_option linter.unusedVariables false

theorem enter_encode1 : ∀ args W, (callFunc 96 args).run Tryz.prog W = .ok (.enter 96 args) W := enters_of Tryz.func96 (by kernel_rfl) rfl
set_option maxRecDepth 100000 in
set_option maxHeartbeats 1000000 in
theorem encode_yes {B : Nat} (p : Int) (v : Value) (css : List (List (List UInt8))) (hok : DataOk p css) (w : World) (hL : Laid w) (hB : B ≤ w.heap.size) (hC : Cols B w v css) :
    Calls Tryz.prog 67 #[.int .i64 p, v] w fun e w' => ∃ u, e = .returned (.tuple #[u, .int .i64 0]) ∧ Cols w'.heap.size w' u (encOf p css) ∧ Below w.heap.size w w' := by
  have hdn := dataOk_n hok
  obtain ⟨A, cap, rfl, _, _⟩ := id hC
  obtain ⟨W2, hW2⟩ : ∃ W2, (w.alloc (.cells #[.int .i64 p] 3)).alloc (.cells #[.slice A css.length cap] 22) = W2 := ⟨_, rfl⟩
  have b0 : Blk W2 w.heap.size 3 #[.int .i64 p] := by rw [← hW2]; exact (Blk.new w _ _).alloc _
  have b1 : Blk W2 (w.heap.size + 1) 22 #[.slice A css.length cap] := by rw [← hW2]; exact Blk.second w _ _ _
  have hBW : Below w.heap.size w W2 := by rw [← hW2]; exact below_two w _ _
  have hL2 := hL.next hBW
  have HA := Lib.hid (ans_S_yes 96 #[.pointer (some ⟨w.heap.size, 0, none⟩), .pointer (some ⟨w.heap.size + 1, 0, none⟩)] W2 (fun u W => Cols W.heap.size W u (encOf p css)) (enter_encode1 _) (fun U hU _ => by
    have hLU := hL2.next hU
    have hBU := below_in hBW hU
    have hCU := hC.below (hBU.mono hB)
    have HQ := Lib.hid (asked_yes (B := B) p (.slice A css.length cap) css U hLU (Nat.le_trans hB hBU.size) hCU (by omega) hok)
    have HE := Lib.hid (fun (V : World) (hV : Below U.heap.size U V) => encoded_any (B := B) p (.slice A css.length cap) css hok V (hLU.next hV) (Nat.le_trans hB (Nat.le_trans hBU.size hV.size)) (hCU.below (hV.mono (Nat.le_trans hB hBU.size))))
    have c0 := (b0.below hU b0.lt).one
    have c1 := (b1.below hU b1.lt).one
    clear hC hCU hok hdn b0 b1 hW2 hL hL2 hLU
    generalize css.length = n at *
    go_enter Tryz.func96, Tryz.ntmps96
    go_wp2_with (first
      | (go_at_call 97; refine HQ.out.mono ?_; rintro e w1 ⟨rfl, hB1⟩)
      | (go_at_call 99; refine (HE.out _ hB1).mono ?_; rintro e w2 ⟨u, rfl, hu, hB2⟩))
    go_ret
    exact ⟨_, rfl, hu, below_in hB1 hB2⟩))
  clear hC b0 b1 hL2 hok hdn
  generalize css.length = n at *
  go_enter Tryz.func67, Tryz.ntmps67
  have hmf : ∀ (fn : Fn) (first cap : Array Value) (w : World), (Instr.makeFunc fn first cap).run Tryz.prog w = .ok (.func fn first cap) w := fun _ _ _ _ => rfl
  go_wp2_with (go_at_call 95; refine HA.out.mono ?_; rintro e w1 ⟨u, W, rfl, hu, bE, rfl, hB1⟩)
  go_ret2
  exact ⟨u, rfl, Cols.more (Cols.set_int hu bE _) (by simp), below_in hBW hB1⟩
set_option maxRecDepth 100000 in
set_option maxHeartbeats 1000000 in
theorem encode_no {B : Nat} (p : Int) (v : Value) (css : List (List (List UInt8))) (w : World) (hL : Laid w) (hB : B ≤ w.heap.size) (hC : Cols B w v css) (hlen : css.length ≤ 1000) (hcl : ∀ j, j < css.length → (css[j]?.getD []).length ≤ 1000) (hno : ¬ DataOk p css) :
    Calls Tryz.prog 67 #[.int .i64 p, v] w fun e w' => e = .returned (.tuple #[.slice none 0 0, .int .i64 2]) ∧ Below w.heap.size w w' := by
  obtain ⟨A, cap, rfl, _, _⟩ := id hC
  obtain ⟨W2, hW2⟩ : ∃ W2, (w.alloc (.cells #[.int .i64 p] 3)).alloc (.cells #[.slice A css.length cap] 22) = W2 := ⟨_, rfl⟩
  have b0 : Blk W2 w.heap.size 3 #[.int .i64 p] := by rw [← hW2]; exact (Blk.new w _ _).alloc _
  have b1 : Blk W2 (w.heap.size + 1) 22 #[.slice A css.length cap] := by rw [← hW2]; exact Blk.second w _ _ _
  have hBW : Below w.heap.size w W2 := by rw [← hW2]; exact below_two w _ _
  have hL2 := hL.next hBW
  have HA := Lib.hid (ans_S_no 96 #[.pointer (some ⟨w.heap.size, 0, none⟩), .pointer (some ⟨w.heap.size + 1, 0, none⟩)] W2 (enter_encode1 _) (fun U hU _ => by
    have hBU := below_in hBW hU
    have HQ := Lib.hid (asked_no (B := B) p (.slice A css.length cap) css U (hL2.next hU) (Nat.le_trans hB hBU.size) (hC.below (hBU.mono hB)) hlen hcl hno)
    have c0 := (b0.below hU b0.lt).one
    have c1 := (b1.below hU b1.lt).one
    clear hC b0 b1 hW2 hL hL2 hno hcl hlen
    generalize css.length = n at *
    go_enter Tryz.func96, Tryz.ntmps96
    go_wp2_with (go_at_call 97; refine HQ.out.mono ?_; rintro e w1 ⟨rfl, hB1⟩)
    exact ⟨rfl, rfl, hB1⟩))
  clear hC b0 b1 hL2 hno hcl hlen
  generalize css.length = n at *
  go_enter Tryz.func67, Tryz.ntmps67
  have hmf : ∀ (fn : Fn) (first cap : Array Value) (w : World), (Instr.makeFunc fn first cap).run Tryz.prog w = .ok (.func fn first cap) w := fun _ _ _ _ => rfl
  go_wp2_with (go_at_call 95; refine HA.out.mono ?_; rintro e w1 ⟨rfl, hB1⟩)
  go_ret2
  exact ⟨rfl, below_in hBW hB1⟩
end Go.Proofs.YtcgnhfiadeceiaaGreatDoor.E

namespace Go.Proofs.YtcgnhfiadeceiaaGreatDoor.T
open Go.RowKit Go.Shelf Go.Proofs.YtcgnhfiadeceiaaGreatDoor.C Go.Proofs.YtcgnhfiadeceiaaGreatDoor.E
set_option linter.unusedSimpArgs false
set_option linter.unusedVariables false

set_option maxHeartbeats 400000 in
theorem need_yes (w : World) : Calls Tryz.prog 61 #[.bool true] w fun e w' => e = .returned (.tuple #[]) ∧ w = w' := by
  go_enter Tryz.func61, Tryz.ntmps61
  go_wp2
  go_end0
  exact ⟨rfl, rfl⟩
set_option maxHeartbeats 400000 in
theorem need_no (w : World) : Calls Tryz.prog 61 #[.bool false] w fun e w' => e = .panicked gaveUp ∧ w = w' := by
  go_enter Tryz.func61, Tryz.ntmps61
  go_wp2
  exact ⟨rfl, rfl, rfl⟩
set_option maxHeartbeats 400000 in
theorem sureB (v : Value) (w : World) : Calls Tryz.prog 109 #[v, .int .i64 0] w fun e w' => e = .returned v ∧ w = w' := by
  go_enter Tryz.func109, Tryz.ntmps109
  go_wp2
  go_ret
  exact ⟨rfl, rfl⟩
set_option maxHeartbeats 400000 in
theorem sureS (v : Value) (w : World) : Calls Tryz.prog 66 #[v, .int .i64 0] w fun e w' => e = .returned v ∧ w = w' := by
  go_enter Tryz.func66, Tryz.ntmps66
  go_wp2
  go_ret
  exact ⟨rfl, rfl⟩
set_option maxHeartbeats 400000 in
theorem sureI (n : Int) (w : World) : Calls Tryz.prog 62 #[.int .i64 n, .int .i64 0] w fun e w' => e = .returned (.int .i64 n) ∧ w = w' := by
  go_enter Tryz.func62, Tryz.ntmps62
  go_wp2
  go_ret
  exact ⟨rfl, rfl⟩
set_option maxHeartbeats 400000 in
theorem sureI_no (n : Int) (w : World) : Calls Tryz.prog 62 #[.int .i64 n, .int .i64 2] w fun e w' => e = .panicked gaveUp ∧ w = w' := by
  go_enter Tryz.func62, Tryz.ntmps62
  go_wp2
  exact ⟨rfl, rfl, rfl⟩

/-- What is answered when nothing gave up. -/
theorem idle_B (p : Addr) (w : World) :
    CallsD Tryz.prog 69 #[.pointer (some p)] .returning w fun e u' w' => e = .returned (.tuple #[]) ∧ u' = .returning ∧ w' = w := by
  have hta := assert_errno
  refine callsD_of_wpS Tryz.func69 rfl fun c₀ cs hu => ?_
  simp only [Tryz.ntmps69, List.size_toArray, List.length_cons, List.length_nil, Nat.reduceAdd, Nat.reduceSub, Array.replicate_succ, Array.replicate_zero, List.push_toArray, List.append_toArray, List.nil_append, List.cons_append]
  apply wpS_seq
  apply wpS_region
  simp [wpOpsS, go_sem, recoverD, hu, Exit.thenS]
  all_goals (refine wpS_of_wp ?_; go_wp2; cases c₀; simp_all [bodyPostS, results, Tryz.results69])
/-- What is answered when it gave up. -/
theorem caught_B (p : Addr) (x : Int) (w : World) (hc : w.cell? p = some (.int .i64 x)) (hz : w.frozen? p = false) :
    CallsD Tryz.prog 69 #[.pointer (some p)] (.panicking gaveUp) w fun e u' w' =>
      e = .returned (.tuple #[]) ∧ u' = .panicking [{ v := .iface 25 (.int .i64 2), recovered := true }] ∧ w' = w.setCell p (.int .i64 2) := by
  have hta := assert_errno
  refine callsD_of_wpS Tryz.func69 rfl fun c₀ cs hu => ?_
  simp only [Tryz.ntmps69, List.size_toArray, List.length_cons, List.length_nil, Nat.reduceAdd, Nat.reduceSub, Array.replicate_succ, Array.replicate_zero, List.push_toArray, List.append_toArray, List.nil_append, List.cons_append]
  apply wpS_seq
  apply wpS_region
  simp [wpOpsS, go_sem, recoverD, hu, Exit.thenS, gaveUp]
  all_goals (refine wpS_of_wp ?_; go_wp2; simp [bodyPostS, results, Tryz.results69])
set_option maxHeartbeats 400000 in
theorem ans_B_yes (f : Nat) (caps : Array Value) (w : World) (Post : Value → World → Prop) (hent : ∀ W, (callFunc f caps).run Tryz.prog W = .ok (.enter f caps) W)
    (h : ∀ W, Below w.heap.size w W → Blk W w.heap.size 25 #[.int .i64 0] → Calls Tryz.prog f caps W fun e w' => ∃ v, e = .returned v ∧ Post v w' ∧ Below W.heap.size W w') :
    Calls Tryz.prog 35 #[.func (.func f) #[] caps] w fun e w' => ∃ v W, e = .returned (.tuple #[v, .int .i64 0]) ∧ Post v W ∧ Blk W w.heap.size 25 #[.int .i64 0] ∧ w' = W.setCell ⟨w.heap.size, 0, none⟩ (.int .i64 0) ∧ Below w.heap.size w w' := by
  have hmf : ∀ (fn : Fn) (first cap : Array Value) (w : World), (Instr.makeFunc fn first cap).run Tryz.prog w = .ok (.func fn first cap) w := fun _ _ _ _ => rfl
  have h1 := h (w.alloc (.cells #[.int .i64 0] 25)) ((Below.refl _ w).alloc (Nat.le_refl _) _) (Blk.new w _ _)
  clear h
  go_enter_defers Tryz.func35, Tryz.ntmps35
  go_wp2
  refine h1.mono ?_
  rintro e w1 ⟨v, rfl, hv, hB1⟩
  have b1 : Blk w1 w.heap.size 25 #[.int .i64 0] := (Blk.new w _ _).below hB1 (by simp)
  have c1 := b1.cell 0
  have f1 := b1.frozen 0
  simp only [List.getElem?_toArray, List.getElem?_cons_zero] at c1
  go_wp2
  refine leaves_cons (f := 69) (args := #[.pointer (some ⟨w.heap.size, 0, none⟩)]) (by simp) (by simp [go_sem]) ?_
  refine (idle_B ⟨w.heap.size, 0, none⟩ _).mono ?_
  rintro e u' w'' ⟨rfl, rfl, rfl⟩
  have c2 : (w1.setCell ⟨w.heap.size, 0, none⟩ (.int .i64 0)).cell? ⟨w.heap.size, 0, none⟩ = some (.int .i64 0) := World.cell?_setCell_same' _ _ _ (by rw [c1]; rfl)
  simp [Go.Leaves, settle, results, Tryz.results35, go_sem, c2]
  exact ⟨w1, hv, b1, rfl, (((Below.refl _ w).alloc (Nat.le_refl _) _).trans (hB1.mono (by simp))).setCell (Nat.le_refl _) _⟩
set_option maxHeartbeats 400000 in
theorem ans_B_no (f : Nat) (caps : Array Value) (w : World) (hent : ∀ W, (callFunc f caps).run Tryz.prog W = .ok (.enter f caps) W)
    (h : ∀ W, Below w.heap.size w W → w.heap.size < W.heap.size → Calls Tryz.prog f caps W fun e w' => e = .panicked gaveUp ∧ Below W.heap.size W w') :
    Calls Tryz.prog 35 #[.func (.func f) #[] caps] w fun e w' => e = .returned (.tuple #[.slice none 0 0, .int .i64 2]) ∧ Below w.heap.size w w' := by
  have hmf : ∀ (fn : Fn) (first cap : Array Value) (w : World), (Instr.makeFunc fn first cap).run Tryz.prog w = .ok (.func fn first cap) w := fun _ _ _ _ => rfl
  have h1 := h (w.alloc (.cells #[.int .i64 0] 25)) ((Below.refl _ w).alloc (Nat.le_refl _) _) (by simp)
  clear h
  go_enter_defers Tryz.func35, Tryz.ntmps35
  go_wp2
  refine h1.mono ?_
  rintro e w1 ⟨rfl, hB1⟩
  have b1 : Blk w1 w.heap.size 25 #[.int .i64 0] := (Blk.new w _ _).below hB1 (by simp)
  have c1 := b1.cell 0
  have f1 := b1.frozen 0
  simp only [List.getElem?_toArray, List.getElem?_cons_zero] at c1
  refine leaves_cons (f := 69) (args := #[.pointer (some ⟨w.heap.size, 0, none⟩)]) (by simp) (by simp [go_sem]) ?_
  refine (caught_B ⟨w.heap.size, 0, none⟩ 0 _ c1 f1).mono ?_
  rintro e u' w'' ⟨rfl, rfl, rfl⟩
  have c2 : (w1.setCell ⟨w.heap.size, 0, none⟩ (.int .i64 2)).cell? ⟨w.heap.size, 0, none⟩ = some (.int .i64 2) := World.cell?_setCell_same' _ _ _ (by rw [c1]; rfl)
  simp [Go.Leaves, settle, results, Tryz.results35, go_sem, c2]
  exact (((Below.refl _ w).alloc (Nat.le_refl _) _).trans (hB1.mono (by simp))).setCell (Nat.le_refl _) _

/-- What is answered when nothing gave up. -/
theorem idle_S (p : Addr) (w : World) :
    CallsD Tryz.prog 60 #[.pointer (some p)] .returning w fun e u' w' => e = .returned (.tuple #[]) ∧ u' = .returning ∧ w' = w := by
  have hta := assert_errno
  refine callsD_of_wpS Tryz.func60 rfl fun c₀ cs hu => ?_
  simp only [Tryz.ntmps60, List.size_toArray, List.length_cons, List.length_nil, Nat.reduceAdd, Nat.reduceSub, Array.replicate_succ, Array.replicate_zero, List.push_toArray, List.append_toArray, List.nil_append, List.cons_append]
  apply wpS_seq
  apply wpS_region
  simp [wpOpsS, go_sem, recoverD, hu, Exit.thenS]
  all_goals (refine wpS_of_wp ?_; go_wp2; cases c₀; simp_all [bodyPostS, results, Tryz.results60])
/-- What is answered when it gave up. -/
theorem caught_S (p : Addr) (x : Int) (w : World) (hc : w.cell? p = some (.int .i64 x)) (hz : w.frozen? p = false) :
    CallsD Tryz.prog 60 #[.pointer (some p)] (.panicking gaveUp) w fun e u' w' =>
      e = .returned (.tuple #[]) ∧ u' = .panicking [{ v := .iface 25 (.int .i64 2), recovered := true }] ∧ w' = w.setCell p (.int .i64 2) := by
  have hta := assert_errno
  refine callsD_of_wpS Tryz.func60 rfl fun c₀ cs hu => ?_
  simp only [Tryz.ntmps60, List.size_toArray, List.length_cons, List.length_nil, Nat.reduceAdd, Nat.reduceSub, Array.replicate_succ, Array.replicate_zero, List.push_toArray, List.append_toArray, List.nil_append, List.cons_append]
  apply wpS_seq
  apply wpS_region
  simp [wpOpsS, go_sem, recoverD, hu, Exit.thenS, gaveUp]
  all_goals (refine wpS_of_wp ?_; go_wp2; simp [bodyPostS, results, Tryz.results60])
set_option maxHeartbeats 400000 in
theorem ans_S_yes (f : Nat) (caps : Array Value) (w : World) (Post : Value → World → Prop) (hent : ∀ W, (callFunc f caps).run Tryz.prog W = .ok (.enter f caps) W)
    (h : ∀ W, Below w.heap.size w W → Blk W w.heap.size 25 #[.int .i64 0] → Calls Tryz.prog f caps W fun e w' => ∃ v, e = .returned v ∧ Post v w' ∧ Below W.heap.size W w') :
    Calls Tryz.prog 30 #[.func (.func f) #[] caps] w fun e w' => ∃ v W, e = .returned (.tuple #[v, .int .i64 0]) ∧ Post v W ∧ Blk W w.heap.size 25 #[.int .i64 0] ∧ w' = W.setCell ⟨w.heap.size, 0, none⟩ (.int .i64 0) ∧ Below w.heap.size w w' := by
  have hmf : ∀ (fn : Fn) (first cap : Array Value) (w : World), (Instr.makeFunc fn first cap).run Tryz.prog w = .ok (.func fn first cap) w := fun _ _ _ _ => rfl
  have h1 := h (w.alloc (.cells #[.int .i64 0] 25)) ((Below.refl _ w).alloc (Nat.le_refl _) _) (Blk.new w _ _)
  clear h
  go_enter_defers Tryz.func30, Tryz.ntmps30
  go_wp2
  refine h1.mono ?_
  rintro e w1 ⟨v, rfl, hv, hB1⟩
  have b1 : Blk w1 w.heap.size 25 #[.int .i64 0] := (Blk.new w _ _).below hB1 (by simp)
  have c1 := b1.cell 0
  have f1 := b1.frozen 0
  simp only [List.getElem?_toArray, List.getElem?_cons_zero] at c1
  go_wp2
  refine leaves_cons (f := 60) (args := #[.pointer (some ⟨w.heap.size, 0, none⟩)]) (by simp) (by simp [go_sem]) ?_
  refine (idle_S ⟨w.heap.size, 0, none⟩ _).mono ?_
  rintro e u' w'' ⟨rfl, rfl, rfl⟩
  have c2 : (w1.setCell ⟨w.heap.size, 0, none⟩ (.int .i64 0)).cell? ⟨w.heap.size, 0, none⟩ = some (.int .i64 0) := World.cell?_setCell_same' _ _ _ (by rw [c1]; rfl)
  simp [Go.Leaves, settle, results, Tryz.results30, go_sem, c2]
  exact ⟨w1, hv, b1, rfl, (((Below.refl _ w).alloc (Nat.le_refl _) _).trans (hB1.mono (by simp))).setCell (Nat.le_refl _) _⟩
set_option maxHeartbeats 400000 in
theorem ans_S_no (f : Nat) (caps : Array Value) (w : World) (hent : ∀ W, (callFunc f caps).run Tryz.prog W = .ok (.enter f caps) W)
    (h : ∀ W, Below w.heap.size w W → w.heap.size < W.heap.size → Calls Tryz.prog f caps W fun e w' => e = .panicked gaveUp ∧ Below W.heap.size W w') :
    Calls Tryz.prog 30 #[.func (.func f) #[] caps] w fun e w' => e = .returned (.tuple #[.slice none 0 0, .int .i64 2]) ∧ Below w.heap.size w w' := by
  have hmf : ∀ (fn : Fn) (first cap : Array Value) (w : World), (Instr.makeFunc fn first cap).run Tryz.prog w = .ok (.func fn first cap) w := fun _ _ _ _ => rfl
  have h1 := h (w.alloc (.cells #[.int .i64 0] 25)) ((Below.refl _ w).alloc (Nat.le_refl _) _) (by simp)
  clear h
  go_enter_defers Tryz.func30, Tryz.ntmps30
  go_wp2
  refine h1.mono ?_
  rintro e w1 ⟨rfl, hB1⟩
  have b1 : Blk w1 w.heap.size 25 #[.int .i64 0] := (Blk.new w _ _).below hB1 (by simp)
  have c1 := b1.cell 0
  have f1 := b1.frozen 0
  simp only [List.getElem?_toArray, List.getElem?_cons_zero] at c1
  refine leaves_cons (f := 60) (args := #[.pointer (some ⟨w.heap.size, 0, none⟩)]) (by simp) (by simp [go_sem]) ?_
  refine (caught_S ⟨w.heap.size, 0, none⟩ 0 _ c1 f1).mono ?_
  rintro e u' w'' ⟨rfl, rfl, rfl⟩
  have c2 : (w1.setCell ⟨w.heap.size, 0, none⟩ (.int .i64 2)).cell? ⟨w.heap.size, 0, none⟩ = some (.int .i64 2) := World.cell?_setCell_same' _ _ _ (by rw [c1]; rfl)
  simp [Go.Leaves, settle, results, Tryz.results30, go_sem, c2]
  exact (((Below.refl _ w).alloc (Nat.le_refl _) _).trans (hB1.mono (by simp))).setCell (Nat.le_refl _) _

/-- What is answered when nothing gave up. -/
theorem idle_T (p : Addr) (w : World) :
    CallsD Tryz.prog 77 #[.pointer (some p)] .returning w fun e u' w' => e = .returned (.tuple #[]) ∧ u' = .returning ∧ w' = w := by
  have hta := assert_errno
  refine callsD_of_wpS Tryz.func77 rfl fun c₀ cs hu => ?_
  simp only [Tryz.ntmps77, List.size_toArray, List.length_cons, List.length_nil, Nat.reduceAdd, Nat.reduceSub, Array.replicate_succ, Array.replicate_zero, List.push_toArray, List.append_toArray, List.nil_append, List.cons_append]
  apply wpS_seq
  apply wpS_region
  simp [wpOpsS, go_sem, recoverD, hu, Exit.thenS]
  all_goals (refine wpS_of_wp ?_; go_wp2; cases c₀; simp_all [bodyPostS, results, Tryz.results77])
set_option maxHeartbeats 400000 in
theorem ans_T_yes (f : Nat) (caps : Array Value) (w : World) (Post : Value → World → Prop) (hent : ∀ W, (callFunc f caps).run Tryz.prog W = .ok (.enter f caps) W)
    (h : ∀ W, Below w.heap.size w W → Blk W w.heap.size 25 #[.int .i64 0] → Calls Tryz.prog f caps W fun e w' => ∃ v, e = .returned v ∧ Post v w' ∧ Below W.heap.size W w') :
    Calls Tryz.prog 46 #[.func (.func f) #[] caps] w fun e w' => ∃ v W, e = .returned (.tuple #[v, .int .i64 0]) ∧ Post v W ∧ Blk W w.heap.size 25 #[.int .i64 0] ∧ w' = W.setCell ⟨w.heap.size, 0, none⟩ (.int .i64 0) ∧ Below w.heap.size w w' := by
  have hmf : ∀ (fn : Fn) (first cap : Array Value) (w : World), (Instr.makeFunc fn first cap).run Tryz.prog w = .ok (.func fn first cap) w := fun _ _ _ _ => rfl
  have h1 := h (w.alloc (.cells #[.int .i64 0] 25)) ((Below.refl _ w).alloc (Nat.le_refl _) _) (Blk.new w _ _)
  clear h
  go_enter_defers Tryz.func46, Tryz.ntmps46
  go_wp2
  refine h1.mono ?_
  rintro e w1 ⟨v, rfl, hv, hB1⟩
  have b1 : Blk w1 w.heap.size 25 #[.int .i64 0] := (Blk.new w _ _).below hB1 (by simp)
  have c1 := b1.cell 0
  have f1 := b1.frozen 0
  simp only [List.getElem?_toArray, List.getElem?_cons_zero] at c1
  go_wp2
  refine leaves_cons (f := 77) (args := #[.pointer (some ⟨w.heap.size, 0, none⟩)]) (by simp) (by simp [go_sem]) ?_
  refine (idle_T ⟨w.heap.size, 0, none⟩ _).mono ?_
  rintro e u' w'' ⟨rfl, rfl, rfl⟩
  have c2 : (w1.setCell ⟨w.heap.size, 0, none⟩ (.int .i64 0)).cell? ⟨w.heap.size, 0, none⟩ = some (.int .i64 0) := World.cell?_setCell_same' _ _ _ (by rw [c1]; rfl)
  simp [Go.Leaves, settle, results, Tryz.results46, go_sem, c2]
  exact ⟨w1, hv, b1, rfl, (((Below.refl _ w).alloc (Nat.le_refl _) _).trans (hB1.mono (by simp))).setCell (Nat.le_refl _) _⟩
/-- A function of shape that tells a number of a code. -/
def Many3 (fn : Nat) (p : Int) (ok : Prop) (n : Int) : Prop := (∀ args W, (callFunc fn args).run Tryz.prog W = .ok (.enter fn args) W) ∧
  ∀ W, Laid W → Calls Tryz.prog fn #[.agg #[.int .i64 3, .int .i64 p]] W (Tells ok n 2 W)
theorem enter_sdata : ∀ args W, (callFunc 33 args).run Tryz.prog W = .ok (.enter 33 args) W := enters_of Tryz.func33 (by kernel_rfl) rfl
theorem enter_scols : ∀ args W, (callFunc 48 args).run Tryz.prog W = .ok (.enter 48 args) W := enters_of Tryz.func48 (by kernel_rfl) rfl
theorem many_data (p : Int) : Many3 33 p (RightC 3 p) p := ⟨enter_sdata, fun W hL => by
  have h := shapeData_any 3 p W hL
  rwa [show shortN 3 = 0 from rfl, Int.sub_zero] at h⟩
theorem many_cols (p : Int) : Many3 48 p (RightC 3 p) (p + 3) := ⟨enter_scols, fun W hL => by
  have h := shapeCols_any 3 p W hL
  rwa [show shortN 3 = 0 from rfl, show madeN 3 = 3 from rfl, Int.sub_zero] at h⟩
theorem rightC3 {p : Int} (h : p ∈ prm) : RightC 3 p := ⟨by omega, h⟩
set_option maxRecDepth 100000 in
set_option maxHeartbeats 2000000 in
theorem asked_yes {B : Nat} (fn : Nat) (p : Int) (v : Value) (css : List (List (List UInt8))) (hM : Many3 fn p (RightC 3 p) (css.length : Int)) (w : World) (hL : Laid w) (hB : B ≤ w.heap.size) (hC : Cols B w v css) (hlen : css.length ≤ 1000) (hok : RightD p css) :
    Calls Tryz.prog 32 #[.int .i64 p, .func (.func fn) #[] #[], v] w fun e w' => e = .returned (.agg #[.int .i64 3, .int .i64 p, v]) ∧ Below w.heap.size w w' := by
  obtain ⟨hent, hcall⟩ := hM
  have HM := Lib.hid (fun W hL => (hcall W hL).mono fun _ _ h => (⟨h.1 (rightC3 hok.1), h.2.2⟩ : _ ∧ _))
  obtain ⟨A, cap, rfl, _, _⟩ := id hC
  have hBz := below_two w (.cells #[.int .i64 0, .int .i64 0, .slice none 0 0] 60) (.cells #[.int .i64 3, .int .i64 p] 37)
  have bz := (Blk.new w 60 #[.int .i64 0, .int .i64 0, .slice none 0 0]).alloc (.cells #[.int .i64 3, .int .i64 p] 37)
  have bc := Blk.second w (.cells #[.int .i64 0, .int .i64 0, .slice none 0 0] 60) 37 #[.int .i64 3, .int .i64 p]
  have HR := Lib.hid (fun (W : World) (hb : Below w.heap.size w W) => right_yes (B := B) p (.slice A css.length cap) css W (hL.next hb) (Nat.le_trans hB hb.size) (hC.below (hb.mono hB)) hlen hok)
  have HLN := Lib.hid (fun (W : World) (hb : Below w.heap.size w W) => hL.next hb)
  clear hC hok hlen hcall
  generalize css.length = n at *
  have hnn : ((n : Int) == (n : Int)) = true := by simp
  go_enter Tryz.func32, Tryz.ntmps32
  go_wp2_with fail
  refine (HM.out _ (hL.next hBz)).mono ?_
  rintro e w1 ⟨rfl, hB1⟩
  have hBa := below_in hBz hB1
  replace bz := bz.below hB1 bz.lt
  replace bc := bc.below hB1 bc.lt
  clear hBz hB1 HM
  go_wp2_with (first
    | (go_at_call 62; refine (sureI _ _).mono ?_; rintro e w2 ⟨rfl, rfl⟩)
    | (go_at_call 63; refine (HR.out _ hBa).mono ?_; rintro e w3 ⟨rfl, hB3⟩; have hBb := below_in hBa hB3; replace bz := bz.below hB3 bz.lt; replace bc := bc.below hB3 bc.lt; have c0 := bc.cell 0; have c1 := bc.cell 1; have g0 := bz.cell 0; have g1 := bz.cell 1; have g2 := bz.cell 2; have f0 := bz.frozen 0; have f1 := bz.frozen 1; have f2 := bz.frozen 2; simp only [List.getElem?_toArray, List.getElem?_cons_zero, List.getElem?_cons_succ] at c0 c1 g0 g1 g2)
    | (go_at_call 61; refine (need_yes _).mono ?_; rintro e w4 ⟨rfl, rfl⟩))
  have r := ((bz.set_ 0 (.int .i64 3)).set_ 1 (.int .i64 p)).set_ 2 (.slice A n cap)
  have r0 := r.cell 0
  have r1 := r.cell 1
  have r2 := r.cell 2
  simp only [List.setIfInBounds_toArray, List.set_cons_zero, List.set_cons_succ, List.getElem?_toArray, List.getElem?_cons_zero, List.getElem?_cons_succ] at r0 r1 r2
  exact bodyPost_ret (v := .agg #[.int .i64 3, .int .i64 p, .slice A n cap]) (by simp [results, Tryz.results32, go_sem, r0, r1, r2]) rfl ⟨rfl, ((hBb.setCell (by simp) _).setCell (by simp) _).setCell (by simp) _⟩
set_option maxRecDepth 100000 in
set_option maxHeartbeats 2000000 in
theorem asked_no {B : Nat} (fn : Nat) (p N : Int) (v : Value) (css : List (List (List UInt8))) (hM : Many3 fn p (RightC 3 p) N) (w : World) (hL : Laid w) (hB : B ≤ w.heap.size) (hC : Cols B w v css) (hlen : css.length ≤ 1000) (hcl : ∀ j, j < css.length → (css[j]?.getD []).length ≤ 1000) (hno : ¬ (RightD p css ∧ (css.length : Int) = N)) :
    Calls Tryz.prog 32 #[.int .i64 p, .func (.func fn) #[] #[], v] w fun e w' => e = .panicked gaveUp ∧ Below w.heap.size w w' := by
  obtain ⟨hent, hcall⟩ := hM
  obtain ⟨A, cap, rfl, _, _⟩ := id hC
  have hBz := below_two w (.cells #[.int .i64 0, .int .i64 0, .slice none 0 0] 60) (.cells #[.int .i64 3, .int .i64 p] 37)
  have bz := (Blk.new w 60 #[.int .i64 0, .int .i64 0, .slice none 0 0]).alloc (.cells #[.int .i64 3, .int .i64 p] 37)
  have bc := Blk.second w (.cells #[.int .i64 0, .int .i64 0, .slice none 0 0] 60) 37 #[.int .i64 3, .int .i64 p]
  by_cases hR : RightC 3 p
  case neg =>
    have HM := Lib.hid (fun W hL => (hcall W hL).mono fun _ _ h => (⟨h.2.1 hR, h.2.2⟩ : _ ∧ _))
    clear hC hno hlen hcl hcall hR
    generalize css.length = n at *
    go_enter Tryz.func32, Tryz.ntmps32
    go_wp2_with fail
    refine (HM.out _ (hL.next hBz)).mono ?_
    rintro e w1 ⟨rfl, hB1⟩
    have hBa := below_in hBz hB1
    clear hBz hB1 HM
    go_wp2_with (go_at_call 62; refine (sureI_no _ _).mono ?_; rintro e w2 ⟨rfl, rfl⟩)
    exact ⟨rfl, rfl, hBa⟩
  have HM := Lib.hid (fun W hL => (hcall W hL).mono fun _ _ h => (⟨h.1 hR, h.2.2⟩ : _ ∧ _))
  clear hcall
  by_cases hn : (css.length : Int) = N
  case neg =>
    have hnn : ((css.length : Int) == N) = false := by simpa using hn
    clear hC hno hlen hcl hR hn
    generalize css.length = n at *
    go_enter Tryz.func32, Tryz.ntmps32
    go_wp2_with fail
    refine (HM.out _ (hL.next hBz)).mono ?_
    rintro e w1 ⟨rfl, hB1⟩
    have hBa := below_in hBz hB1
    clear hBz hB1 HM
    go_wp2_with (first
      | (go_at_call 62; refine (sureI _ _).mono ?_; rintro e w2 ⟨rfl, rfl⟩)
      | (go_at_call 61; refine (need_no _).mono ?_; rintro e w4 ⟨rfl, rfl⟩))
    exact ⟨rfl, rfl, hBa⟩
  have hr : ¬ RightD p css := fun h => hno ⟨h, hn⟩
  have HR := Lib.hid (fun (W : World) (hb : Below w.heap.size w W) => right_no (B := B) p (.slice A css.length cap) css W (hL.next hb) (Nat.le_trans hB hb.size) (hC.below (hb.mono hB)) hlen hcl hr)
  have hnn : ((css.length : Int) == N) = true := by simpa using hn
  clear hC hno hlen hcl hR hr hn
  generalize css.length = n at *
  go_enter Tryz.func32, Tryz.ntmps32
  go_wp2_with fail
  refine (HM.out _ (hL.next hBz)).mono ?_
  rintro e w1 ⟨rfl, hB1⟩
  have hBa := below_in hBz hB1
  clear hBz hB1 HM
  go_wp2_with (first
    | (go_at_call 62; refine (sureI _ _).mono ?_; rintro e w2 ⟨rfl, rfl⟩)
    | (go_at_call 63; refine (HR.out _ hBa).mono ?_; rintro e w3 ⟨rfl, hB3⟩; have hBb := below_in hBa hB3)
    | (go_at_call 61; refine (need_no _).mono ?_; rintro e w4 ⟨rfl, rfl⟩))
  exact ⟨rfl, rfl, hBb⟩
set_option maxHeartbeats 400000 in
theorem last_any (p : Int) (hp : 0 ≤ p ∧ p ≤ 100) (A : Option Addr) (n cap : Nat) (w : World) : Calls Tryz.prog 70 #[.agg #[.int .i64 3, .int .i64 p, .slice A n cap]] w fun e w' => e = .returned (.int .i64 (p - 1)) ∧ Below w.heap.size w w' := by
  have bz := Blk.new w 60 #[.int .i64 3, .int .i64 p, .slice A n cap]
  have g1 := bz.cell 1
  simp only [List.getElem?_toArray, List.getElem?_cons_zero, List.getElem?_cons_succ] at g1
  have hq2 : wrap64 (p - 1) = p - 1 := IntWalk.wrap64_in _ (by omega)
  have hq3 : IntKind.i64.wrap (p - 1) = p - 1 := IntWalk.i64_in _ (by omega)
  obtain ⟨h0, h1⟩ := hp
  go_enter Tryz.func70, Tryz.ntmps70
  go_wp2
  go_ret
  exact ⟨rfl, below_one w _⟩
set_option maxRecDepth 100000 in
set_option maxHeartbeats 1000000 in
theorem slant_any (p x y : Int) (A : Option Addr) (n cap : Nat) (hR : p ∈ prm) (hc : HasCell 3 p x y) (w : World) (hL : Laid w) : Calls Tryz.prog 85 #[.agg #[.int .i64 3, .int .i64 p, .slice A n cap], .agg #[.int .i64 x, .int .i64 y]] w fun e w' => e = .returned (.int .i64 ((y - x) % p)) ∧ Below w.heap.size w w' := by
  have HS := Lib.hid (fun W hL => (shapeSlant_any 3 p x y W hL).mono fun _ _ h => (⟨h.2.2.1 (rightC3 hR) hc, h.2.2.2⟩ : _ ∧ _))
  have hBz := below_two w (.cells #[.int .i64 3, .int .i64 p, .slice A n cap] 60) (.cells #[.int .i64 x, .int .i64 y] 71)
  have bz := (Blk.new w 60 #[.int .i64 3, .int .i64 p, .slice A n cap]).alloc (.cells #[.int .i64 x, .int .i64 y] 71)
  have bc := Blk.second w (.cells #[.int .i64 3, .int .i64 p, .slice A n cap] 60) 71 #[.int .i64 x, .int .i64 y]
  have g0 := bz.cell 0
  have g1 := bz.cell 1
  have c0 := bc.cell 0
  have c1 := bc.cell 1
  simp only [List.getElem?_toArray, List.getElem?_cons_zero, List.getElem?_cons_succ] at c0 c1 g0 g1
  clear hR hc
  generalize (y - x) % p = z at *
  go_enter Tryz.func85, Tryz.ntmps85
  go_wp2_with (first
    | (go_at_call 62; refine (sureI _ _).mono ?_; rintro e w2 ⟨rfl, rfl⟩)
    | (go_at_call 108; refine (HS.out _ (hL.next hBz)).mono ?_; rintro e w1 ⟨rfl, hB1⟩; have hBa := below_in hBz hB1))
  go_ret
  exact ⟨rfl, hBa⟩
end Go.Proofs.YtcgnhfiadeceiaaGreatDoor.T

namespace Go.Proofs.YtcgnhfiadeceiaaGreatDoor.E
open Go.RowKit Go.Shelf Go.Proofs.YtcgnhfiadeceiaaGreatDoor.C
set_option linter.unusedSimpArgs false
set_option linter.unusedVariables false

/-- What a value reads as, and in which blocks. -/
structure Rep (α : Type) where
  R : (Nat → Prop) → World → Value → α → Prop
  imp : ∀ {P Q : Nat → Prop} {W : World} {v : Value} {x : α}, R P W v x → (∀ b, P b → Q b) → R Q W v x
  keep : ∀ {P : Nat → Prop} {W W' : World} {v : Value} {x : α}, R P W v x → Keeps P W W' → R P W' v x
  one : ∀ {P : Nat → Prop} {W : World} {v : Value} {x : α}, R P W v x → v.oneCell' = true
def bytesR : Rep (List UInt8) where
  R := BytesP
  imp := BytesP.imp
  keep := BytesP.keep
  one := fun ⟨_, _, e, _⟩ => by rw [e]; rfl
/-- A slice whose elements read as xs. -/
def SliceP {α : Type} (r : Rep α) (d : α) (P : Nat → Prop) (W : World) (v : Value) (xs : List α) : Prop :=
  ∃ A cap, v = .slice A xs.length cap ∧ xs.length ≤ cap ∧ (0 < xs.length → ∃ b off, A = some ⟨b, off, none⟩ ∧ P b ∧ ∀ j, j < xs.length → ∃ u, W.cell? ⟨b, off + j, none⟩ = some u ∧ r.R P W u (xs[j]?.getD d))
section
variable {α : Type} {r : Rep α} {d : α} {P Q : Nat → Prop} {W W' : World} {v : Value} {xs : List α}
theorem SliceP.imp (h : SliceP r d P W v xs) (hq : ∀ b, P b → Q b) : SliceP r d Q W v xs := by
  obtain ⟨A, cap, e, hc, hA⟩ := h
  refine ⟨A, cap, e, hc, fun hp => ?_⟩
  obtain ⟨b, off, e2, hb, hcell⟩ := hA hp
  exact ⟨b, off, e2, hq b hb, fun j hj => by obtain ⟨u, h1, h2⟩ := hcell j hj; exact ⟨u, h1, r.imp h2 hq⟩⟩
theorem SliceP.keep (h : SliceP r d P W v xs) (hk : Keeps P W W') : SliceP r d P W' v xs := by
  obtain ⟨A, cap, e, hc, hA⟩ := h
  refine ⟨A, cap, e, hc, fun hp => ?_⟩
  obtain ⟨b, off, e2, hb, hcell⟩ := hA hp
  exact ⟨b, off, e2, hb, fun j hj => by obtain ⟨u, h1, h2⟩ := hcell j hj; exact ⟨u, (World.cell?_of_block (hk b hb)).trans h1, r.keep h2 hk⟩⟩
end
def sliceR {α : Type} (r : Rep α) (d : α) : Rep (List α) where
  R := SliceP r d
  imp := SliceP.imp
  keep := SliceP.keep
  one := fun ⟨_, _, e, _⟩ => by rw [e]; rfl
def manyR : Rep (List (List UInt8)) := sliceR bytesR []
def colsR : Rep (List (List (List UInt8))) := sliceR manyR []
theorem manyR_iff {B : Nat} {W : World} {v : Value} {ls : List (List UInt8)} : manyR.R (· < B) W v ls ↔ Many B W v ls := Iff.rfl
theorem Rep.below {α : Type} (r : Rep α) {P : Nat → Prop} {B : Nat} {W W' : World} {v : Value} {x : α} (h : r.R P W v x) (hP : ∀ b, P b → b < B) (hb : Below B W W') : r.R P W' v x := r.keep h fun b hp => hb.block b (hP b hp)

/-- A row of the call's own, of block type t, whose elements read as xs; these lie elsewhere, where Q holds. -/
def RowG {α : Type} (r : Rep α) (t : TypeId) (d : α) (Q : Nat → Prop) (W : World) (base : Nat) (v : Value) (xs : List α) : Prop :=
  ∃ us : List Value, W.ownsRow base t 1 v us.length us ∧ us.length = xs.length ∧ ∀ (j : Nat) (u : Value), us[j]? = some u → r.R (fun b => b < W.heap.size ∧ some b ≠ v.ownBlock ∧ Q b) W u (xs[j]?.getD d)
section
variable {α : Type} {r : Rep α} {t : TypeId} {d : α} {Q : Nat → Prop} {W W' : World} {base : Nat} {v : Value} {xs : List α}
theorem RowG.nil (r : Rep α) (t : TypeId) (d : α) (Q : Nat → Prop) (W : World) (base : Nat) : RowG r t d Q W base (.slice none 0 0) [] :=
  ⟨[], World.ownsRow_nil W base t 1, rfl, fun j u h => by cases h⟩
theorem RowG.own_le (h : RowG r t d Q W base v xs) (k : Nat) (e : v.ownBlock = some k) : base ≤ k := by
  obtain ⟨us, ho, _⟩ := h
  exact (World.ownsRow.lt ho k e).1
theorem RowG.kept (h : RowG r t d Q W base v xs) {row : Option Nat} (hg : W.grownBy W' row) (hne : v.ownBlock = none ∨ v.ownBlock ≠ row) (hQ : ∀ b, Q b → some b ≠ row) : RowG r t d Q W' base v xs := by
  obtain ⟨us, ho, hn, hr⟩ := h
  refine ⟨us, World.ownsRow.kept ho hg hne, hn, fun j u hu => ?_⟩
  exact r.imp (r.keep (hr j u hu) fun b hb => hg.block b hb.1 (hQ b hb.2.2)) fun b hb => ⟨Nat.lt_of_lt_of_le hb.1 hg.size, hb.2⟩
theorem RowG.below (h : RowG r t d Q W base v xs) (hb : Below W.heap.size W W') : RowG r t d Q W' base v xs :=
  h.kept (row := none) (grown_below hb) (by cases v.ownBlock <;> simp) (fun b _ => by simp)
/-- An element more. -/
theorem RowG.push (i : TypeInfo) (hi : Tryz.prog.info? t = some i) (hz : i.zero = some (.slice none 0 0)) (h1 : i.size = 1) (h24 : i.bytes = 24) (T ty : TypeId) (hT : Tryz.prog.underlying T = some (.slice t))
    (h : RowG r t d Q W base v xs) (g : Nat) (tg : TypeId) (u : Value) (x : α) (hg : Blk W g tg #[u]) (hu : r.R (fun b => b < W.heap.size ∧ some b ≠ v.ownBlock ∧ Q b) W u x) (hlen : xs.length ≤ 100000) (hbase : base ≤ W.heap.size) :
    ∃ v' w', (Builtin.append_ #[T, T] ty #[v, .slice (some ⟨g, 0, none⟩) 1 1]).run Tryz.prog W = .ok v' w' ∧ RowG r t d Q w' base v' (xs ++ [x]) ∧ W.grownBy w' v.ownBlock ∧ (v'.ownBlock = v.ownBlock ∨ v'.ownBlock = some W.heap.size) := by
  obtain ⟨us, ho, hn, hr⟩ := h
  obtain ⟨v', w', hrun, o1, o2, _, o3⟩ := run_append_own_at (P := Tryz.prog) W base T ty t i (.slice none 0 0) 1 24 hT hi hz h1 h24 rfl (by omega) v us.length us ho ⟨g, 0, none⟩ 1 1 [u] rfl
    (by intro j y hy
        rw [addr_add, Nat.zero_add, hg.cell j, List.getElem?_toArray]
        exact hy) (by intro y hy; rw [List.mem_singleton.1 hy]; exact r.one hu) (by unfold maxLen; omega) (by omega) hbase
  have hk : ∀ {y : Value} {z : α}, r.R (fun b => b < W.heap.size ∧ some b ≠ v.ownBlock ∧ Q b) W y z → r.R (fun b => b < w'.heap.size ∧ some b ≠ v'.ownBlock ∧ Q b) w' y z := fun {y z} hy =>
    r.imp (r.keep hy fun b hb => o2.block b hb.1 hb.2.1) fun b hb => ⟨Nat.lt_of_lt_of_le hb.1 o2.size, by
      rcases o3 with e | e
      · rw [e]; exact hb.2.1
      · rw [e]; intro e2; injection e2 with e2; have := hb.1; omega, hb.2.2⟩
  refine ⟨v', w', hrun, ⟨us ++ [u], by rw [List.length_append]; exact o1, by rw [List.length_append, List.length_append, hn]; rfl, fun j y hy => ?_⟩, o2, o3⟩
  rcases Nat.lt_or_ge j us.length with hj | hj
  · rw [List.getElem?_append_left hj] at hy
    rw [List.getElem?_append_left (by omega)]
    exact hk (hr j y hy)
  · rw [List.getElem?_append_right hj] at hy
    rw [List.getElem?_append_right (by omega), ← hn]
    have hj0 : j - us.length = 0 := by
      rcases Nat.eq_zero_or_pos (j - us.length) with h0 | h0
      · exact h0
      · rw [List.getElem?_eq_none (by simp; omega)] at hy; cases hy
    rw [hj0] at hy ⊢
    cases hy
    exact hk hu
theorem RowG.slice (h : RowG r t d Q W base v xs) {S : Nat → Prop} (hS : ∀ b, b < W.heap.size → (Q b ∨ base ≤ b) → S b) : SliceP r d S W v xs := by
  obtain ⟨us, ho, hn, hr⟩ := h
  rcases Nat.eq_zero_or_pos us.length with h0 | h0
  · rcases ho.2 with ⟨rfl, _⟩ | ⟨g, cap, cur, rfl, _, hg, hnc, _⟩
    · exact ⟨none, 0, by rw [← hn, h0], by omega, fun hp => by omega⟩
    · exact ⟨some ⟨g, 0, none⟩, cap, by rw [← hn], by omega, fun hp => by omega⟩
  · have hcp : ∀ g cap, v = .slice (some ⟨g, 0, none⟩) us.length cap → us.length ≤ cap := fun g cap e => by
      rcases ho.2 with ⟨_, h1⟩ | ⟨g2, cap2, cur, e2, _, _, hnc, _⟩
      · omega
      · rw [e] at e2
        injection e2 with _ _ e3
        omega
    obtain ⟨g, cap, e, hg, hg1⟩ := World.ownsRow.form ho h0
    have hcap := hcp g cap e
    subst e
    refine ⟨_, cap, by rw [← hn], by rw [← hn]; exact hcap, fun _ => ⟨g, 0, rfl, hS g (by omega) (.inr hg), fun j hj => ?_⟩⟩
    have hj2 : j < us.length := by omega
    refine ⟨us[j], ?_, r.imp (hr j us[j] (List.getElem?_eq_getElem hj2)) fun b hb => hS b hb.1 (.inl hb.2.2)⟩
    rw [Nat.zero_add, World.ownsRow.cellAt ho j (by omega), List.getElem?_eq_getElem hj2]
end
theorem Tryz.infoCol : (Tryz.prog.info? 50).map (fun i => (i.zero, i.size, i.bytes)) = some (some (.slice none 0 0), 1, 24) := by kernel_rfl
def RowM := RowG bytesR 28 []
def RowC := RowG manyR 50 []
section
variable {Q : Nat → Prop} {W W' : World} {base : Nat} {v : Value}
theorem RowM.many {ls : List (List UInt8)} (h : RowM Q W base v ls) {S : Nat → Prop} (hS : ∀ b, b < W.heap.size → (Q b ∨ base ≤ b) → S b) : manyR.R S W v ls := RowG.slice h hS
theorem RowC.cols {css : List (List (List UInt8))} (h : RowC Q W base v css) : Cols W.heap.size W v css := RowG.slice h fun b hb _ => hb
theorem wpList_pushC {T : TypeId} (w : World) {ops : Array Oper} {rest : List Oper} {o : Oper} {a : Act} {QQ : Exit → Act → World → Prop} (hgd : o.guard = none) (s x : Operand)
    (ho : o.op = .call { callee := .builtin .append, args := #[s, x], argTypes := #[T, T] }) (hT : Tryz.prog.underlying T = some (.slice 50)) (css : List (List (List UInt8))) (hs : a.eval s = v) (h : RowC Q w base v css)
    (g : Nat) (tg : TypeId) (u : Value) (ls : List (List UInt8)) (hx : a.eval x = .slice (some ⟨g, 0, none⟩) 1 1) (hg : Blk w g tg #[u]) (hu : manyR.R (fun b => b < w.heap.size ∧ some b ≠ v.ownBlock ∧ Q b) w u ls) (hlen : css.length ≤ 100000) (hbase : base ≤ w.heap.size)
    (hK : ∀ v' w', RowC Q w' base v' (css ++ [ls]) → w.grownBy w' v.ownBlock → (v'.ownBlock = v.ownBlock ∨ v'.ownBlock = some w.heap.size) → wpList Tryz.prog ops QQ rest (a.put o.dst v') w') : wpList Tryz.prog ops QQ (o :: rest) a w :=
  wpList_plain hgd fun K hK2 => by
    obtain ⟨i, hi, hz0, hz1, hz2⟩ := info_parts Tryz.infoCol
    obtain ⟨v', w', hrun, h1, h2, h3⟩ := RowG.push i hi hz0 hz1 hz2 T o.type hT h g tg u ls hg hu hlen hbase
    unfold Oper.wp execOp
    simp only [ho, resolve, invoke, builtin, Sem.run_bind, Sem.run_pure, Result.andThen_ok, List.map_toArray, List.map_cons, List.map_nil, hs, hx, hrun]
    exact hK2 _ _ (hK v' w' h1 h2 h3)
end
end Go.Proofs.YtcgnhfiadeceiaaGreatDoor.E

namespace Go.Proofs.YtcgnhfiadeceiaaGreatDoor.E
open Go.RowKit Go.Shelf Go.Proofs.YtcgnhfiadeceiaaGreatDoor.C
set_option linter.unusedSimpArgs false
set_option linter.unusedVariables false

section
variable {α : Type} {r : Rep α} {t : TypeId} {d : α} {Q : Nat → Prop} {W W' : World} {base : Nat} {v : Value} {xs : List α}
/-- A block of one element is a row of the call's own. -/
theorem RowG.one {g : Nat} {u : Value} {x : α} (hg : Blk W g t #[u]) (hb : base ≤ g) (hu : r.R (fun b => b < W.heap.size ∧ some b ≠ some g ∧ Q b) W u x) : RowG r t d Q W base (.slice (some ⟨g, 0, none⟩) 1 1) [x] :=
  ⟨[u], ⟨rfl, .inr ⟨g, 1, #[u], rfl, hb, hg, Nat.le_refl _, by unfold maxLen; omega, rfl, rfl⟩⟩, rfl, fun j y hy => by
    cases j with
    | zero => cases hy; exact hu
    | succ j => simp at hy⟩
set_option maxRecDepth 100000 in
/-- Elements more. -/
theorem RowG.append (i : TypeInfo) (hi : Tryz.prog.info? t = some i) (hz : i.zero = some (.slice none 0 0)) (h1 : i.size = 1) (h24 : i.bytes = 24) (T ty : TypeId) (hT : Tryz.prog.underlying T = some (.slice t))
    (h : RowG r t d Q W base v xs) {v2 : Value} {ys : List α} (h2 : SliceP r d (fun b => b < W.heap.size ∧ some b ≠ v.ownBlock ∧ Q b) W v2 ys) (hn2 : ∀ A cap, v2 = .slice A 0 cap → A = none → cap = 0) (hlen : xs.length ≤ 100000) (hlen2 : ys.length ≤ 100000) (hbase : base ≤ W.heap.size) :
    ∃ v' w', (Builtin.append_ #[T, T] ty #[v, v2]).run Tryz.prog W = .ok v' w' ∧ RowG r t d Q w' base v' (xs ++ ys) ∧ W.grownBy w' v.ownBlock ∧ (v'.ownBlock = v.ownBlock ∨ v'.ownBlock = some W.heap.size) := by
  obtain ⟨us, ho, hn, hr⟩ := h
  obtain ⟨A, cap, rfl, hc, hA⟩ := h2
  rcases A with _ | ad
  · have h0 : ys = [] := by
      rcases Nat.eq_zero_or_pos ys.length with h0 | h0
      · exact List.eq_nil_of_length_eq_zero h0
      · obtain ⟨b, off, h, _⟩ := hA h0
        cases h
    subst h0
    obtain rfl := hn2 none cap rfl rfl
    rw [List.append_nil]
    exact ⟨v, W, run_append_owned_none (P := Tryz.prog) (w := W) base T ty t i 1 hT hi v us.length us ho, ⟨us, ho, hn, hr⟩, World.grownBy.refl _ _, .inl rfl⟩
  have hus : ∃ us2 : List Value, us2.length = ys.length ∧ (∀ (j : Nat) (u : Value), us2[j]? = some u → W.cell? (ad.add j) = some u) ∧ ∀ (j : Nat) (u : Value), us2[j]? = some u → r.R (fun b => b < W.heap.size ∧ some b ≠ v.ownBlock ∧ Q b) W u (ys[j]?.getD d) := by
    rcases Nat.eq_zero_or_pos ys.length with h0 | h0
    · exact ⟨[], h0.symm, fun j u h => (by cases h), fun j u h => (by cases h)⟩
    · obtain ⟨b, off, e, hb, hcell⟩ := hA h0
      injection e with e
      subst e
      refine ⟨(List.range ys.length).map fun j => (W.cell? ⟨b, off + j, none⟩).getD undef, by simp, fun j u hu => ?_, fun j u hu => ?_⟩
      all_goals
        rw [List.getElem?_map] at hu
        rcases Nat.lt_or_ge j ys.length with hj | hj
        · rw [List.getElem?_range hj] at hu
          obtain ⟨u2, q1, q2⟩ := hcell j hj
          simp only [Option.map_some, q1, Option.getD_some, Option.some.injEq] at hu
          subst hu
          first | (rw [addr_add]; exact q1) | exact q2
        · rw [List.getElem?_eq_none (by simpa using hj)] at hu
          cases hu
  obtain ⟨us2, hl2, hc2, hr2⟩ := hus
  obtain ⟨v', w', hrun, o1, o2, _, o3⟩ := run_append_own_at (P := Tryz.prog) W base T ty t i (.slice none 0 0) 1 24 hT hi hz h1 h24 rfl (by omega) v us.length us ho ad ys.length cap us2 (by omega) hc2
    (by intro y hy; obtain ⟨j, hj⟩ := List.getElem?_of_mem hy; exact r.one (hr2 j y hj)) (by unfold maxLen; omega) (by omega) hbase
  have hk : ∀ {y : Value} {z : α}, r.R (fun b => b < W.heap.size ∧ some b ≠ v.ownBlock ∧ Q b) W y z → r.R (fun b => b < w'.heap.size ∧ some b ≠ v'.ownBlock ∧ Q b) w' y z := fun {y z} hy =>
    r.imp (r.keep hy fun b hb => o2.block b hb.1 hb.2.1) fun b hb => ⟨Nat.lt_of_lt_of_le hb.1 o2.size, by
      rcases o3 with e | e
      · rw [e]; exact hb.2.1
      · rw [e]; intro e2; injection e2 with e2; have := hb.1; omega, hb.2.2⟩
  refine ⟨v', w', hrun, ⟨us ++ us2, by rw [List.length_append, hl2]; exact o1, by rw [List.length_append, List.length_append, hn, hl2], fun j y hy => ?_⟩, o2, o3⟩
  rcases Nat.lt_or_ge j us.length with hj | hj
  · rw [List.getElem?_append_left hj] at hy
    rw [List.getElem?_append_left (by omega)]
    exact hk (hr j y hy)
  · rw [List.getElem?_append_right hj] at hy
    rw [List.getElem?_append_right (by omega), ← hn]
    exact hk (hr2 _ y hy)
end
set_option maxRecDepth 100000 in
/-- A slice that reads as columns is no nil one with room. -/
theorem wpList_appC {T : TypeId} {Q : Nat → Prop} {base : Nat} {v v2 : Value} (w : World) {ops : Array Oper} {rest : List Oper} {o : Oper} {a : Act} {QQ : Exit → Act → World → Prop} (hgd : o.guard = none) (s x : Operand)
    (ho : o.op = .call { callee := .builtin .append, args := #[s, x], argTypes := #[T, T] }) (hT : Tryz.prog.underlying T = some (.slice 50)) (css ds : List (List (List UInt8))) (hs : a.eval s = v) (h : RowC Q w base v css) (hx : a.eval x = v2)
    (h2 : colsR.R (fun b => b < w.heap.size ∧ some b ≠ v.ownBlock ∧ Q b) w v2 ds) (h0 : 0 < ds.length) (hlen : css.length ≤ 100000) (hlen2 : ds.length ≤ 100000) (hbase : base ≤ w.heap.size)
    (hK : ∀ v' w', RowC Q w' base v' (css ++ ds) → w.grownBy w' v.ownBlock → (v'.ownBlock = v.ownBlock ∨ v'.ownBlock = some w.heap.size) → wpList Tryz.prog ops QQ rest (a.put o.dst v') w') : wpList Tryz.prog ops QQ (o :: rest) a w :=
  wpList_plain hgd fun K hK2 => by
    obtain ⟨i, hi, hz0, hz1, hz2⟩ := info_parts Tryz.infoCol
    obtain ⟨v', w', hrun, h1, h3, h4⟩ := RowG.append i hi hz0 hz1 hz2 T o.type hT h h2 (fun A cap e hA => by
      obtain ⟨A2, c2, e2, _, hA2⟩ := h2
      rw [e] at e2
      injection e2 with _ e3 _
      omega) hlen hlen2 hbase
    unfold Oper.wp execOp
    simp only [ho, resolve, invoke, builtin, Sem.run_bind, Sem.run_pure, Result.andThen_ok, List.map_toArray, List.map_cons, List.map_nil, hs, hx, hrun]
    exact hK2 _ _ (hK v' w' h1 h3 h4)
theorem Cols.take_ {B : Nat} {W : World} {A : Option Addr} {n cap : Nat} {css : List (List (List UInt8))} (h : Cols B W (.slice A n cap) css) {m : Nat} (hm : m ≤ n) : Cols B W (.slice A m cap) (css.take m) := by
  obtain ⟨A', cap', e, hc, hA⟩ := h
  injection e with e1 e2 e3
  subst e1 e2 e3
  have hl : (css.take m).length = m := by rw [List.length_take]; omega
  refine ⟨A, cap, by rw [hl], by omega, fun hp => ?_⟩
  obtain ⟨b, off, e, hb, hcell⟩ := hA (by omega)
  refine ⟨b, off, e, hb, fun j hj => ?_⟩
  obtain ⟨u, h1, h2⟩ := hcell j (by omega)
  exact ⟨u, h1, by rw [List.getElem?_take_of_lt (by omega)]; exact h2⟩
end Go.Proofs.YtcgnhfiadeceiaaGreatDoor.E

namespace Go.Proofs.YtcgnhfiadeceiaaGreatDoor.E
open Go.RowKit Go.Shelf Go.Proofs.YtcgnhfiadeceiaaGreatDoor.C
set_option linter.unusedSimpArgs false
set_option linter.unusedVariables false

theorem RowG.own_lt {α : Type} {r : Rep α} {t : TypeId} {d : α} {Q : Nat → Prop} {W : World} {base : Nat} {v : Value} {xs : List α} (h : RowG r t d Q W base v xs) (k : Nat) (e : v.ownBlock = some k) : k < W.heap.size := by
  obtain ⟨us, ho, _⟩ := h
  exact (World.ownsRow.lt ho k e).2
theorem map_next {α β : Type} (g : α → β) (d : α) (xs : List α) {k : Nat} (hk : k < xs.length) : (xs.map g).take (k + 1) = (xs.map g).take k ++ [g (xs[k]?.getD d)] := by
  rw [List.take_succ_eq_append_getElem (by rw [List.length_map]; exact hk), List.getElem_map, List.getElem?_eq_getElem hk]
  rfl
theorem diagAt_in {p a : Int} (hp : 0 < p) {x : Nat × Nat} {n : Nat} (hx : x ∈ diagAt p a n) : x.1 < n ∧ (x.2 : Int) < p - 1 := by
  unfold diagAt at hx
  obtain ⟨i, hi, rfl⟩ := List.mem_map.1 hx
  obtain ⟨hi1, hi2⟩ := List.mem_filter.1 hi
  have h1 := of_decide_eq_true hi2
  have h2 : 0 ≤ (a - (i : Int)) % p := Int.emod_nonneg _ (by omega)
  exact ⟨List.mem_range.1 hi1, by show (((a - (i : Int)) % p).toNat : Int) < p - 1; omega⟩
theorem enc_cells {p : Int} {css : List (List (List UInt8))} (h : DataOk p css) : (encOf p css).length = 2 ∧ ∀ j, j < 2 → ((encOf p css)[j]?.getD []).length = (p - 1).toNat ∧ ∀ i, i < (p - 1).toNat → (((encOf p css)[j]?.getD [])[i]?.getD []).length = (firstC css).length := by
  have hd := dataOk_n h
  refine ⟨rfl, fun j hj => ?_⟩
  have hj2 : j = 0 ∨ j = 1 := by omega
  rcases hj2 with rfl | rfl
  · exact ⟨rowsMade_len _, fun r hr => by show ((rowsMade (p - 1).toNat css)[r]?.getD []).length = _; rw [rowsMade_at h hr]; exact row_len h hr⟩
  · exact ⟨diagsMade_len _, fun r hr => by show ((diagsMade p (p - 1).toNat css)[r]?.getD []).length = _; rw [diagsMade_at h hr]; exact diag_len h (by omega)⟩
end Go.Proofs.YtcgnhfiadeceiaaGreatDoor.E

namespace Go.Proofs.YtcgnhfiadeceiaaGreatDoor.E
open Go.RowKit Go.Shelf Go.Proofs.YtcgnhfiadeceiaaGreatDoor.C
set_option linter.unusedSimpArgs false
set_option linter.unusedVariables false

theorem same3c_iff (ls os : List (List (List UInt8))) : ls = os ↔ ls.length = os.length ∧ ∀ j, j < ls.length → (ls[j]?.getD []) = (os[j]?.getD []) := by
  constructor
  · rintro rfl
    exact ⟨rfl, fun _ _ => rfl⟩
  · rintro ⟨h1, h2⟩
    apply List.ext_getElem h1
    intro j hj hj2
    have := h2 j hj
    rwa [List.getElem?_eq_getElem hj, List.getElem?_eq_getElem hj2] at this
end Go.Proofs.YtcgnhfiadeceiaaGreatDoor.E

namespace Go.Proofs.YtcgnhfiadeceiaaGreatDoor.E
open Go.RowKit Go.Shelf Go.Proofs.YtcgnhfiadeceiaaGreatDoor.C
set_option linter.unusedSimpArgs false
set_option linter.unusedVariables false
attribute [local go_sem] Oper.semAt_some

section
variable {F : Fence} {n : Nat} {P : Program} {md : Region.Mode} {ops : Array Oper} {Q : Exit → Act → World → Prop} {S : World → Prop}
end
theorem Cols.drop_ {B : Nat} {W : World} {b off n cap : Nat} {css : List (List (List UInt8))} (h : Cols B W (.slice (some ⟨b, off, none⟩) n cap) css) {m : Nat} (hm : m ≤ n) : Cols B W (.slice (some ⟨b, off + m, none⟩) (n - m) (cap - m)) (css.drop m) := by
  obtain ⟨A', cap', e, hc, hA⟩ := h
  injection e with e1 e2 e3
  subst e1 e2 e3
  have hl : (css.drop m).length = css.length - m := List.length_drop
  refine ⟨_, cap - m, by rw [hl], by omega, fun hp => ?_⟩
  obtain ⟨b2, off2, e, hb, hcell⟩ := hA (by omega)
  injection e with e
  injection e with e1 e2
  subst e1 e2
  refine ⟨b, off + m, rfl, hb, fun j hj => ?_⟩
  obtain ⟨u, h1, h2⟩ := hcell (m + j) (by omega)
  exact ⟨u, by rw [Nat.add_assoc]; exact h1, by rw [List.getElem?_drop]; exact h2⟩
end Go.Proofs.YtcgnhfiadeceiaaGreatDoor.E

namespace Go.Proofs.YtcgnhfiadeceiaaGreatDoor.E
open Go.RowKit Go.Shelf Go.Proofs.YtcgnhfiadeceiaaGreatDoor.C
set_option linter.unusedSimpArgs false
set_option linter.unusedVariables false

section
variable {Q : Nat → Prop} {base : Nat} {v : Value}
theorem opIn_pushM {F : Fence} {nF : Nat} {T : TypeId} (w : World) {o : Oper} {a : Act} {K : Act → World → Prop} {QQ : Exit → Act → World → Prop} (s x : Operand)
    (ho : o.op = .call { callee := .builtin .append, args := #[s, x], argTypes := #[T, T] }) (hT : Tryz.prog.underlying T = some (.slice 28)) (ls : List (List UInt8)) (hs : a.eval s = v) (h : RowM Q w base v ls)
    (g : Nat) (tg : TypeId) (u : Value) (l : List UInt8) (hx : a.eval x = .slice (some ⟨g, 0, none⟩) 1 1) (hg : Blk w g tg #[u]) (hu : BytesP (fun b => b < w.heap.size ∧ some b ≠ v.ownBlock ∧ Q b) w u l) (hlen : ls.length ≤ 100000) (hbase : base ≤ w.heap.size)
    (hK : ∀ v' w', RowM Q w' base v' (ls ++ [l]) → w.grownBy w' v.ownBlock → (v'.ownBlock = v.ownBlock ∨ v'.ownBlock = some w.heap.size) → K (a.put o.dst v') w') : Oper.wpIn F nF Tryz.prog o a w K QQ := by
  obtain ⟨i, hi, hz0, hz1, hz2⟩ := info_parts Tryz.infoSlcE
  obtain ⟨v', w', hrun, h1, h2, h3⟩ := RowG.push i hi hz0 hz1 hz2 T o.type hT h g tg u l hg hu hlen hbase
  unfold Oper.wpIn
  refine ⟨by simp [Oper.about, ho, resolve, Target.leads, Sem.run_pure], ?_⟩
  rw [Oper.semAt_plain F _ _ (by rw [ho]; intro c hc'; cases hc')]
  simp [execOp, ho, resolve, invoke, builtin, hs, hx, hrun, Result.andThen, Oper.uponIn]
  exact hK v' w' h1 h2 h3
end
end Go.Proofs.YtcgnhfiadeceiaaGreatDoor.E

namespace Go.Proofs.YtcgnhfiadeceiaaGreatDoor.E
open Go.RowKit Go.Shelf Go.Proofs.YtcgnhfiadeceiaaGreatDoor.C
set_option linter.unusedSimpArgs false
set_option linter.unusedVariables false

/-- All cells, row by row. -/
def grid (R n : Nat) : List (Nat × Nat) := (List.range R).flatMap fun r => (List.range n).map fun c => (c, r)
def slants (p : Int) : List (Nat × Nat) := (List.range p.toNat).flatMap fun (a : Nat) => diagAt p (a : Int) p.toNat
section
variable {p : Int} {a b css : List (List (List UInt8))}
end
end Go.Proofs.YtcgnhfiadeceiaaGreatDoor.E

namespace Go.Proofs.YtcgnhfiadeceiaaGreatDoor
open Go.RowKit Go.Shelf
set_option linter.unusedSimpArgs false
set_option linter.unusedVariables false

/-- The numbers from one on that are below another one. -/
def spanL (a b : Int) : List Int := (List.range (b - a).toNat).map fun (i : Nat) => a + (i : Int)
theorem spanL_len (a b : Int) : (spanL a b).length = (b - a).toNat := by unfold spanL; simp

end Go.Proofs.YtcgnhfiadeceiaaGreatDoor

