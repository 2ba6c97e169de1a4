/- The columns of EVENODD: Right. The columns of EVENODD: the cells of a row. The columns of EVENODD: lists of cells one behind the other. The columns of EVENODD: cells put upon one another, and upon those that are held. The columns of EVENODD: upon. The columns of EVENODD: a cell of the column of rows. The diagonals of EVENODD: the rows that a walk of one step back goes over. Columns read value by value, and the values that a diagonal goes over. A range over a function whose body keeps a row of its own (block o): the iterator writes nothing there, the body nothing else that lies from the call on. A walk, over which a range goes whose body keeps a row of its own: each round is told that the place is one. Walk, over whose places a range goes whose body keeps a row of its own. A range over an iterator that calls others, whose body keeps a row of its own: what a round keeps is told where it is left early, too. The function that goes over a diagonal. The columns of EVENODD: what a diagonal goes over, collected. The columns of EVENODD: a diagonal's cells, and the adjuster. -/
import Derived.Test.YtckfepmahjgmfaaDoorRTG1
import Derived.Lib.AppendZeros
import Derived.Laws.OwnMore
import Derived.Test.YtckfepmahjgmfaaDoorRTSA
import Derived.Maps.OwnIn
namespace Go.Proofs.YtckfepmahjgmfaaDoor.E
open Go.RowKit Go.Shelf Go.Proofs.YtckfepmahjgmfaaDoor.C
set_option linter.unusedSimpArgs false
set_option linter.unusedVariables false
attribute [local go_sem] Oper.semAt_some


/-- What is answered when nothing gave up. -/
theorem idle_K (p : Addr) (w : World) :
    CallsD Tryd.prog 90 #[.pointer (some p)] .returning w fun e u' w' => e = .returned (.tuple #[]) ∧ u' = .returning ∧ w' = w := by
  have hta := assert_errno
  refine callsD_of_wpS Tryd.func90 rfl fun c₀ cs hu => ?_
  simp only [Tryd.ntmps90, List.size_toArray, List.length_cons, List.length_nil, Nat.reduceAdd, Nat.reduceSub, Array.replicate_succ, Array.replicate_zero, List.push_toArray, List.append_toArray, List.nil_append, List.cons_append]
  apply wpS_seq
  apply wpS_region
  simp [wpOpsS, go_sem, recoverD, hu, Exit.thenS]
  all_goals (refine wpS_of_wp ?_; go_wp2; cases c₀; simp_all [bodyPostS, results, Tryd.results90])
/-- What is answered when it gave up. -/
theorem caught_K (p : Addr) (x : Int) (w : World) (hc : w.cell? p = some (.int .i64 x)) (hz : w.frozen? p = false) :
    CallsD Tryd.prog 90 #[.pointer (some p)] (.panicking gaveUp) w fun e u' w' =>
      e = .returned (.tuple #[]) ∧ u' = .panicking [{ v := .iface 29 (.int .i64 2), recovered := true }] ∧ w' = w.setCell p (.int .i64 2) := by
  have hta := assert_errno
  refine callsD_of_wpS Tryd.func90 rfl fun c₀ cs hu => ?_
  simp only [Tryd.ntmps90, List.size_toArray, List.length_cons, List.length_nil, Nat.reduceAdd, Nat.reduceSub, Array.replicate_succ, Array.replicate_zero, List.push_toArray, List.append_toArray, List.nil_append, List.cons_append]
  apply wpS_seq
  apply wpS_region
  simp [wpOpsS, go_sem, recoverD, hu, Exit.thenS, gaveUp]
  all_goals (refine wpS_of_wp ?_; go_wp2; simp [bodyPostS, results, Tryd.results90])

theorem two_blks (w : World) {w1 : World} (hB1 : Below ((w.alloc (.cells #[.int .i64 0, .slice none 0 0] 95)).alloc (.cells #[.int .i64 0] 29)).heap.size ((w.alloc (.cells #[.int .i64 0, .slice none 0 0] 95)).alloc (.cells #[.int .i64 0] 29)) w1) : Blk w1 w.heap.size 95 #[.int .i64 0, .slice none 0 0] ∧ Blk w1 (w.heap.size + 1) 29 #[.int .i64 0] :=
  ⟨((Blk.new w _ _).alloc _).below hB1 (by simp; omega), (Blk.second w _ _ _).below hB1 (by simp)⟩
set_option maxHeartbeats 1000000 in
theorem ans_K_yes (f : Nat) (caps : Array Value) (w : World) (p : Int) (A : Option Addr) (n c : Nat) (hent : ∀ W, (callFunc f caps).run Tryd.prog W = .ok (.enter f caps) W)
    (h : ∀ W, Below w.heap.size w W → Calls Tryd.prog f caps W fun e w' => e = .returned (.agg #[.int .i64 p, .slice A n c]) ∧ Below W.heap.size W w') :
    Calls Tryd.prog 69 #[.func (.func f) #[] caps] w fun e w' => e = .returned (.tuple #[.agg #[.int .i64 p, .slice A n c], .int .i64 0]) ∧ Below w.heap.size w w' := by
  have hmf : ∀ (fn : Fn) (first cap : Array Value) (w : World), (Instr.makeFunc fn first cap).run Tryd.prog w = .ok (.func fn first cap) w := fun _ _ _ _ => rfl
  have hBa := below_two w (.cells #[.int .i64 0, .slice none 0 0] 95) (.cells #[.int .i64 0] 29)
  have h1 := h _ hBa
  clear h
  go_enter_defers Tryd.func69, Tryd.ntmps69
  go_wp2
  refine h1.mono ?_
  rintro e w1 ⟨rfl, hB1⟩
  obtain ⟨b0, b1⟩ := two_blks w hB1
  have c0 := b0.cell 0
  have c1 := b0.cell 1
  have c2 := b1.cell 0
  have f0 := b0.frozen 0
  have f1 := b0.frozen 1
  have f2 := b1.frozen 0
  simp only [List.getElem?_toArray, List.getElem?_cons_zero, List.getElem?_cons_succ] at c0 c1 c2
  have hBw := below_in hBa hB1
  go_wp2
  obtain ⟨ww, hww⟩ : ∃ ww, ((w1.setCell ⟨w.heap.size, 0, none⟩ (.int .i64 p)).setCell ⟨w.heap.size, 1, none⟩ (.slice A n c)).setCell ⟨w.heap.size + 1, 0, none⟩ (.int .i64 0) = ww := ⟨_, rfl⟩
  have d0 : Blk ww w.heap.size 95 #[.int .i64 p, .slice A n c] := by
    rw [← hww]
    exact Blk.far ((b0.set_ 0 (.int .i64 p)).set_ 1 (.slice A n c)) (by simp) _
  have d1 : Blk ww (w.heap.size + 1) 29 #[.int .i64 0] := by
    rw [← hww]
    exact (Blk.far (Blk.far b1 (by simp) _) (by simp) _).set_ 0 (.int .i64 0)
  have hBz : Below w.heap.size w ww := by
    rw [← hww]
    exact ((hBw.setCell (Nat.le_refl _) _).setCell (Nat.le_refl _) _).setCell (Nat.le_succ _) _
  rw [hww]
  have e0 := d0.cell 0
  have e1 := d0.cell 1
  have e2 := d1.cell 0
  simp only [List.getElem?_toArray, List.getElem?_cons_zero, List.getElem?_cons_succ] at e0 e1 e2
  refine leaves_cons (f := 90) (args := #[.pointer (some ⟨w.heap.size + 1, 0, none⟩)]) (by simp) (by simp [go_sem]) ?_
  refine (idle_K ⟨w.heap.size + 1, 0, none⟩ _).mono ?_
  rintro e u' w'' ⟨rfl, rfl, rfl⟩
  simp [Go.Leaves, settle, results, Tryd.results69, go_sem, e0, e1, e2]
  exact hBz
set_option maxHeartbeats 1000000 in
theorem ans_K_no (f : Nat) (caps : Array Value) (w : World) (hent : ∀ W, (callFunc f caps).run Tryd.prog W = .ok (.enter f caps) W)
    (h : ∀ W, Below w.heap.size w W → Calls Tryd.prog f caps W fun e w' => e = .panicked gaveUp ∧ Below W.heap.size W w') :
    Calls Tryd.prog 69 #[.func (.func f) #[] caps] w fun e w' => e = .returned (.tuple #[.agg #[.int .i64 0, .slice none 0 0], .int .i64 2]) ∧ Below w.heap.size w w' := by
  have hmf : ∀ (fn : Fn) (first cap : Array Value) (w : World), (Instr.makeFunc fn first cap).run Tryd.prog w = .ok (.func fn first cap) w := fun _ _ _ _ => rfl
  have hBa := below_two w (.cells #[.int .i64 0, .slice none 0 0] 95) (.cells #[.int .i64 0] 29)
  have h1 := h _ hBa
  clear h
  go_enter_defers Tryd.func69, Tryd.ntmps69
  go_wp2
  refine h1.mono ?_
  rintro e w1 ⟨rfl, hB1⟩
  obtain ⟨b0, b1⟩ := two_blks w hB1
  have c2 := b1.cell 0
  have f2 := b1.frozen 0
  simp only [List.getElem?_toArray, List.getElem?_cons_zero, List.getElem?_cons_succ] at c2
  have hBw := below_in hBa hB1
  refine leaves_cons (f := 90) (args := #[.pointer (some ⟨w.heap.size + 1, 0, none⟩)]) (by simp) (by simp [go_sem]) ?_
  refine (caught_K ⟨w.heap.size + 1, 0, none⟩ 0 _ c2 f2).mono ?_
  rintro e u' w'' ⟨rfl, rfl, rfl⟩
  obtain ⟨ww, hww⟩ : ∃ ww, w1.setCell ⟨w.heap.size + 1, 0, none⟩ (.int .i64 2) = ww := ⟨_, rfl⟩
  have d0 : Blk ww w.heap.size 95 #[.int .i64 0, .slice none 0 0] := by
    rw [← hww]
    exact Blk.far b0 (by simp) _
  have d1 : Blk ww (w.heap.size + 1) 29 #[.int .i64 2] := by
    rw [← hww]
    exact b1.set_ 0 (.int .i64 2)
  have hBz : Below w.heap.size w ww := by
    rw [← hww]
    exact hBw.setCell (Nat.le_succ _) _
  rw [hww]
  have e0 := d0.cell 0
  have e1 := d0.cell 1
  have e2 := d1.cell 0
  simp only [List.getElem?_toArray, List.getElem?_cons_zero, List.getElem?_cons_succ] at e0 e1 e2
  simp [Go.Leaves, settle, results, Tryd.results69, go_sem, e0, e1, e2]
  exact hBz
def Gave (U : World) : Exit → Act → World → Prop := fun e a w' => e = .panic gaveUp ∧ a.defers = [] ∧ Below U.heap.size U w'
theorem enter_right1 : ∀ args W, (callFunc 70 args).run Tryd.prog W = .ok (.enter 70 args) W := enters_of Tryd.func70 (by kernel_rfl) rfl

set_option maxRecDepth 100000 in
set_option maxHeartbeats 1000000 in
theorem right_yes {B : Nat} (p : Int) (v : Value) (css : List (List (List UInt8))) (w : World) (hL : Laid w) (hB : B ≤ w.heap.size) (hC : Cols B w v css) (hlen : css.length ≤ 1000) (hok : RightD p css) :
    Calls Tryd.prog 50 #[.int .i64 p, v] w fun e w' => e = .returned (.bool true) ∧ Below w.heap.size w w' := by
  obtain ⟨A, cap, rfl, _, _⟩ := id hC
  obtain ⟨W2, hW2⟩ : ∃ W2, (w.alloc (.cells #[.int .i64 p] 3)).alloc (.cells #[.slice A css.length cap] 25) = W2 := ⟨_, rfl⟩
  have b0 : Blk W2 w.heap.size 3 #[.int .i64 p] := by rw [← hW2]; exact (Blk.new w _ _).alloc _
  have b1 : Blk W2 (w.heap.size + 1) 25 #[.slice A css.length cap] := by rw [← hW2]; exact Blk.second w _ _ _
  have hBW : Below w.heap.size w W2 := by rw [← hW2]; exact below_two w _ _
  have hL2 := hL.next hBW
  have hpp := prm_bounds hok.1
  have hR : RightC 1 p := ⟨by omega, hok.1⟩
  have hr : p - 1 = (((p - 1).toNat : Nat) : Int) := by omega
  have HA := Lib.hid (ans_K_yes 70 #[.pointer (some ⟨w.heap.size, 0, none⟩), .pointer (some ⟨w.heap.size + 1, 0, none⟩)] W2 p A css.length cap (enter_right1 _) (fun U hU => by
    have hLU := hL2.next hU
    have hBU := below_in hBW hU
    have hCU := hC.below (hBU.mono hB)
    have HPP := Lib.hid (fun (V : World) (hV : Below U.heap.size U V) => primeOf_yes p hR V (hLU.next hV))
    have HT := Lib.hid (fun (V : World) (hV : Below U.heap.size U V) => together_yes (B := B) p _ hR hr (.slice A css.length cap) css V (hLU.next hV) (Nat.le_trans hB (Nat.le_trans hBU.size hV.size)) (hCU.below (hV.mono (Nat.le_trans hB hBU.size))) hlen hok.2)
    have c0 := (b0.below hU b0.lt).one
    have c1 := (b1.below hU b1.lt).one
    have hSS := Lib.hid (fun (V : World) (hV : Below U.heap.size U V) => (⟨(hV.cell (p := ⟨w.heap.size, 0, none⟩) (b0.below hU b0.lt).lt).trans c0, (hV.cell (p := ⟨w.heap.size + 1, 0, none⟩) (b1.below hU b1.lt).lt).trans c1⟩ : (fun V : World => V.cell? ⟨w.heap.size, 0, none⟩ = some (.int .i64 p) ∧ V.cell? ⟨w.heap.size + 1, 0, none⟩ = some (.slice A css.length cap)) V))
    clear hC hCU hok hW2 hL hL2 hLU hlen hr hR hpp b0 b1
    generalize css.length = n at *
    have bz := Blk.new U 95 #[.int .i64 0, .slice none 0 0]
    have hBz := below_one U (.cells #[.int .i64 0, .slice none 0 0] 95)
    refine (callsIn_wide (n := 9)).1 ?_
    refine callsIn_of_wp_marks Tryd.func70 rfl trivial ?_ rfl
    simp only [Tryd.ntmps70, List.size_toArray, List.length_cons, List.length_nil, Nat.reduceAdd, Nat.reduceSub, Array.replicate_succ, Array.replicate_zero, List.push_toArray, List.append_toArray, List.nil_append, List.cons_append]
    gi_wp2_with fail
    have hS : (fun V : World => V.cell? ⟨w.heap.size, 0, none⟩ = some (.int .i64 p) ∧ V.cell? ⟨w.heap.size + 1, 0, none⟩ = some (.slice A n cap)) (U.alloc (.cells #[.int .i64 0, .slice none 0 0] 95)).drew := hSS.out _ hBz.drew
    refine wpIn_mono (region_HF (Q := NoPanic _) (S := (fun V : World => V.cell? ⟨w.heap.size, 0, none⟩ = some (.int .i64 p) ∧ V.cell? ⟨w.heap.size + 1, 0, none⟩ = some (.slice A n cap))) (by kernel_rfl) ?_) NoPanic.imp
    refine anyHF_take (i := 0) (d := 3) (v := .int .i64 p) (by kernel_rfl) rfl (by kernel_rfl) (by kernel_rfl) (by kernel_rfl) rfl (fun _ _ _ h => h) ⟨Or.inl ⟨by rfl, fun w hS => by obtain ⟨h0, h1⟩ := hS; go_simp⟩, fun _ => rfl⟩ hS ?_
    simp only [List.setIfInBounds_toArray, List.set_cons_zero, List.set_cons_succ]
    refine anyHF_take (i := 2) (d := 5) (v := .slice A n cap) (by kernel_rfl) rfl (by kernel_rfl) (by kernel_rfl) (by kernel_rfl) rfl (fun _ _ _ h => h) ⟨Or.inl ⟨by rfl, fun w hS => by obtain ⟨h0, h1⟩ := hS; go_simp⟩, fun _ => rfl⟩ hS ?_
    simp only [List.setIfInBounds_toArray, List.set_cons_zero, List.set_cons_succ]
    refine anyHF_one (i := 1) (by kernel_rfl) rfl (by kernel_rfl) (by rfl) ?_
    gi_wp2_with fail
    refine ⟨trivial, (callsIn_wide.2 (HPP.out _ hBz.drew)).mono ?_⟩
    rintro e w1 ⟨rfl, hB1⟩
    replace hB1 := below_undrew hB1
    replace bz := bz.below hB1 bz.lt
    replace hBz := below_in hBz hB1
    clear hS
    have hS : (fun V : World => V.cell? ⟨w.heap.size, 0, none⟩ = some (.int .i64 p) ∧ V.cell? ⟨w.heap.size + 1, 0, none⟩ = some (.slice A n cap)) w1 := hSS.out _ hBz
    gi_wp2
    try (refine ⟨hS, ?_⟩)
    refine anyHF_one (i := 3) (by kernel_rfl) rfl (by kernel_rfl) (by rfl) ?_
    gi_wp2_with fail
    refine ⟨trivial, (callsIn_wide.2 (HT.out _ hBz)).mono ?_⟩
    rintro e w2 ⟨rfl, hB2⟩
    replace bz := bz.below hB2 bz.lt
    replace hBz := below_in hBz hB2
    clear hS
    have hS : (fun V : World => V.cell? ⟨w.heap.size, 0, none⟩ = some (.int .i64 p) ∧ V.cell? ⟨w.heap.size + 1, 0, none⟩ = some (.slice A n cap)) w2 := hSS.out _ hBz
    gi_wp2
    try (refine ⟨hS, ?_⟩)
    refine anyHF_one (i := 4) (by kernel_rfl) rfl (by kernel_rfl) (by rfl) ?_
    have g0 := bz.cell 0
    have g1 := bz.cell 1
    have f0 := bz.frozen 0
    have f1 := bz.frozen 1
    simp only [List.getElem?_toArray, List.getElem?_cons_zero, List.getElem?_cons_succ] at g0 g1
    gi_wp2
    have r := (bz.set_ 0 (.int .i64 p)).set_ 1 (.slice A n cap)
    have hBf := (hBz.setCell (p := ⟨U.heap.size, 0, none⟩) (Nat.le_refl _) (.int .i64 p)).setCell (p := ⟨U.heap.size, 1, none⟩) (Nat.le_refl _) (.slice A n cap)
    clear hS
    have hS : (fun V : World => V.cell? ⟨w.heap.size, 0, none⟩ = some (.int .i64 p) ∧ V.cell? ⟨w.heap.size + 1, 0, none⟩ = some (.slice A n cap)) _ := hSS.out _ hBf
    refine ⟨hSS.out _ (hBz.setCell (p := ⟨U.heap.size, 0, none⟩) (Nat.le_refl _) (.int .i64 p)), ?_⟩
    refine anyHF_done (by kernel_rfl) ?_ _
    refine NoPanic.normal ?_
    have r0 := r.cell 0
    have r1 := r.cell 1
    simp only [List.setIfInBounds_toArray, List.set_cons_zero, List.set_cons_succ, List.getElem?_toArray, List.getElem?_cons_zero, List.getElem?_cons_succ] at r0 r1
    gi_wp2
    exact ⟨.agg #[.int .i64 p, .slice A n cap], by simp [results, Tryd.results70, go_sem, r0, r1], rfl, hBf⟩))
  clear hC b0 b1 hL2 hok hlen hr hR hpp
  generalize css.length = n at *
  go_enter Tryd.func50, Tryd.ntmps50
  have hmf : ∀ (fn : Fn) (first cap : Array Value) (w : World), (Instr.makeFunc fn first cap).run Tryd.prog w = .ok (.func fn first cap) w := fun _ _ _ _ => rfl
  go_wp2_with (go_at_call 69; refine HA.out.mono ?_; rintro e w1 ⟨rfl, hB1⟩)
  go_ret
  exact ⟨rfl, below_in hBW (below_in hB1 (below_one _ _))⟩

set_option maxRecDepth 100000 in
set_option maxHeartbeats 1000000 in
theorem right_no {B : Nat} (p : Int) (v : Value) (css : List (List (List UInt8))) (w : World) (hL : Laid w) (hB : B ≤ w.heap.size) (hC : Cols B w v css) (hlen : css.length ≤ 1000) (hcl : ∀ j, j < css.length → (css[j]?.getD []).length ≤ 1000) (hno : ¬ RightD p css) :
    Calls Tryd.prog 50 #[.int .i64 p, v] w fun e w' => e = .returned (.bool false) ∧ Below w.heap.size w w' := by
  obtain ⟨A, cap, rfl, _, _⟩ := id hC
  obtain ⟨W2, hW2⟩ : ∃ W2, (w.alloc (.cells #[.int .i64 p] 3)).alloc (.cells #[.slice A css.length cap] 25) = W2 := ⟨_, rfl⟩
  have b0 : Blk W2 w.heap.size 3 #[.int .i64 p] := by rw [← hW2]; exact (Blk.new w _ _).alloc _
  have b1 : Blk W2 (w.heap.size + 1) 25 #[.slice A css.length cap] := by rw [← hW2]; exact Blk.second w _ _ _
  have hBW : Below w.heap.size w W2 := by rw [← hW2]; exact below_two w _ _
  have hL2 := hL.next hBW
  have HA := Lib.hid (ans_K_no 70 #[.pointer (some ⟨w.heap.size, 0, none⟩), .pointer (some ⟨w.heap.size + 1, 0, none⟩)] W2 (enter_right1 _) (fun U hU => by
    have hLU := hL2.next hU
    have hBU := below_in hBW hU
    have hCU := hC.below (hBU.mono hB)
    have c0 := (b0.below hU b0.lt).one
    have c1 := (b1.below hU b1.lt).one
    have hSS := Lib.hid (fun (V : World) (hV : Below U.heap.size U V) => (⟨(hV.cell (p := ⟨w.heap.size, 0, none⟩) (b0.below hU b0.lt).lt).trans c0, (hV.cell (p := ⟨w.heap.size + 1, 0, none⟩) (b1.below hU b1.lt).lt).trans c1⟩ : (fun V : World => V.cell? ⟨w.heap.size, 0, none⟩ = some (.int .i64 p) ∧ V.cell? ⟨w.heap.size + 1, 0, none⟩ = some (.slice A css.length cap)) V))
    have hBz := below_one U (.cells #[.int .i64 0, .slice none 0 0] 95)
    by_cases hp : p ∈ prm
    · have hpp := prm_bounds hp
      have hR : RightC 1 p := ⟨by omega, hp⟩
      have hr : p - 1 = (((p - 1).toNat : Nat) : Int) := by omega
      have HPP := Lib.hid (fun (V : World) (hV : Below U.heap.size U V) => primeOf_yes p hR V (hLU.next hV))
      have HT := Lib.hid (fun (V : World) (hV : Below U.heap.size U V) => together_no (B := B) p _ hR hr (.slice A css.length cap) css V (hLU.next hV) (Nat.le_trans hB (Nat.le_trans hBU.size hV.size)) (hCU.below (hV.mono (Nat.le_trans hB hBU.size))) hlen hcl (fun h => hno ⟨hp, h⟩))
      clear hC hCU hno b0 b1 hW2 hL hL2 hLU hlen hcl hr hR hpp hp
      generalize css.length = n at *
      refine (callsIn_wide (n := 9)).1 ?_
      refine callsIn_of_wp_marks Tryd.func70 rfl trivial ?_ rfl
      simp only [Tryd.ntmps70, List.size_toArray, List.length_cons, List.length_nil, Nat.reduceAdd, Nat.reduceSub, Array.replicate_succ, Array.replicate_zero, List.push_toArray, List.append_toArray, List.nil_append, List.cons_append]
      gi_wp2_with fail
      have hS : (fun V : World => V.cell? ⟨w.heap.size, 0, none⟩ = some (.int .i64 p) ∧ V.cell? ⟨w.heap.size + 1, 0, none⟩ = some (.slice A n cap)) (U.alloc (.cells #[.int .i64 0, .slice none 0 0] 95)).drew := hSS.out _ hBz.drew
      refine wpIn_mono (region_HF (Q := Gave U) (S := (fun V : World => V.cell? ⟨w.heap.size, 0, none⟩ = some (.int .i64 p) ∧ V.cell? ⟨w.heap.size + 1, 0, none⟩ = some (.slice A n cap))) (by kernel_rfl) ?_) (fun e a w' h => by obtain ⟨rfl, hd, hB⟩ := h; obtain ⟨tm, df⟩ := a; have hd' : df = [] := hd; subst hd'; exact ⟨rfl, hB⟩)
      refine anyHF_take (i := 0) (d := 3) (v := .int .i64 p) (by kernel_rfl) rfl (by kernel_rfl) (by kernel_rfl) (by kernel_rfl) rfl (fun _ _ _ h => ⟨h.1, by simpa [Act.put] using h.2.1, h.2.2⟩) ⟨Or.inl ⟨by rfl, fun w hS => by obtain ⟨h0, h1⟩ := hS; go_simp⟩, fun _ => rfl⟩ hS ?_
      simp only [List.setIfInBounds_toArray, List.set_cons_zero, List.set_cons_succ]
      refine anyHF_take (i := 2) (d := 5) (v := .slice A n cap) (by kernel_rfl) rfl (by kernel_rfl) (by kernel_rfl) (by kernel_rfl) rfl (fun _ _ _ h => ⟨h.1, by simpa [Act.put] using h.2.1, h.2.2⟩) ⟨Or.inl ⟨by rfl, fun w hS => by obtain ⟨h0, h1⟩ := hS; go_simp⟩, fun _ => rfl⟩ hS ?_
      simp only [List.setIfInBounds_toArray, List.set_cons_zero, List.set_cons_succ]
      refine anyHF_one (i := 1) (by kernel_rfl) rfl (by kernel_rfl) (by rfl) ?_
      gi_wp2_with fail
      refine ⟨trivial, (callsIn_wide.2 (HPP.out _ hBz.drew)).mono ?_⟩
      rintro e w1 ⟨rfl, hB1⟩
      replace hB1 := below_undrew hB1
      replace hBz := below_in hBz hB1
      clear hS
      have hS : (fun V : World => V.cell? ⟨w.heap.size, 0, none⟩ = some (.int .i64 p) ∧ V.cell? ⟨w.heap.size + 1, 0, none⟩ = some (.slice A n cap)) w1 := hSS.out _ hBz
      gi_wp2
      try (refine ⟨hS, ?_⟩)
      refine anyHF_one (i := 3) (by kernel_rfl) rfl (by kernel_rfl) (by rfl) ?_
      gi_wp2_with fail
      refine ⟨trivial, (callsIn_wide.2 (HT.out _ hBz)).mono ?_⟩
      rintro e w2 ⟨rfl, hB2⟩
      exact ⟨rfl, rfl, below_in hBz hB2⟩
    · have HPP := Lib.hid (fun (V : World) (hV : Below U.heap.size U V) => primeOf_no p (fun h => hp h.2) V (hLU.next hV))
      clear hC hCU hno b0 b1 hW2 hL hL2 hLU hlen hcl hp
      generalize css.length = n at *
      refine (callsIn_wide (n := 9)).1 ?_
      refine callsIn_of_wp_marks Tryd.func70 rfl trivial ?_ rfl
      simp only [Tryd.ntmps70, List.size_toArray, List.length_cons, List.length_nil, Nat.reduceAdd, Nat.reduceSub, Array.replicate_succ, Array.replicate_zero, List.push_toArray, List.append_toArray, List.nil_append, List.cons_append]
      gi_wp2_with fail
      have hS : (fun V : World => V.cell? ⟨w.heap.size, 0, none⟩ = some (.int .i64 p) ∧ V.cell? ⟨w.heap.size + 1, 0, none⟩ = some (.slice A n cap)) (U.alloc (.cells #[.int .i64 0, .slice none 0 0] 95)).drew := hSS.out _ hBz.drew
      refine wpIn_mono (region_HF (Q := Gave U) (S := (fun V : World => V.cell? ⟨w.heap.size, 0, none⟩ = some (.int .i64 p) ∧ V.cell? ⟨w.heap.size + 1, 0, none⟩ = some (.slice A n cap))) (by kernel_rfl) ?_) (fun e a w' h => by obtain ⟨rfl, hd, hB⟩ := h; obtain ⟨tm, df⟩ := a; have hd' : df = [] := hd; subst hd'; exact ⟨rfl, hB⟩)
      refine anyHF_take (i := 0) (d := 3) (v := .int .i64 p) (by kernel_rfl) rfl (by kernel_rfl) (by kernel_rfl) (by kernel_rfl) rfl (fun _ _ _ h => ⟨h.1, by simpa [Act.put] using h.2.1, h.2.2⟩) ⟨Or.inl ⟨by rfl, fun w hS => by obtain ⟨h0, h1⟩ := hS; go_simp⟩, fun _ => rfl⟩ hS ?_
      simp only [List.setIfInBounds_toArray, List.set_cons_zero, List.set_cons_succ]
      refine anyHF_take (i := 2) (d := 5) (v := .slice A n cap) (by kernel_rfl) rfl (by kernel_rfl) (by kernel_rfl) (by kernel_rfl) rfl (fun _ _ _ h => ⟨h.1, by simpa [Act.put] using h.2.1, h.2.2⟩) ⟨Or.inl ⟨by rfl, fun w hS => by obtain ⟨h0, h1⟩ := hS; go_simp⟩, fun _ => rfl⟩ hS ?_
      simp only [List.setIfInBounds_toArray, List.set_cons_zero, List.set_cons_succ]
      refine anyHF_one (i := 1) (by kernel_rfl) rfl (by kernel_rfl) (by rfl) ?_
      gi_wp2_with fail
      refine ⟨trivial, (callsIn_wide.2 (HPP.out _ hBz.drew)).mono ?_⟩
      rintro e w1 ⟨rfl, hB1⟩
      exact ⟨rfl, rfl, below_in hBz (below_undrew hB1)⟩))
  clear hC b0 b1 hL2 hno hlen hcl
  generalize css.length = n at *
  go_enter Tryd.func50, Tryd.ntmps50
  have hmf : ∀ (fn : Fn) (first cap : Array Value) (w : World), (Instr.makeFunc fn first cap).run Tryd.prog w = .ok (.func fn first cap) w := fun _ _ _ _ => rfl
  go_wp2_with (go_at_call 69; refine HA.out.mono ?_; rintro e w1 ⟨rfl, hB1⟩)
  go_ret
  exact ⟨rfl, below_in hBW (below_in hB1 (below_one _ _))⟩
end Go.Proofs.YtckfepmahjgmfaaDoor.E

namespace Go.Proofs.YtckfepmahjgmfaaDoor.E
open Go.RowKit Go.Shelf Go.Proofs.YtckfepmahjgmfaaDoor.C
set_option linter.unusedSimpArgs false
set_option linter.unusedVariables false

/-- The slice value v has the values us as its cells, below block B. -/
def Vals (B : Nat) (W : World) (v : Value) (us : List Value) : Prop :=
  (v = .slice none 0 0 ∧ us = []) ∨ ∃ b off cap, v = .slice (some ⟨b, off, none⟩) us.length cap ∧ us.length ≤ cap ∧ b < B ∧ ∀ (j : Nat) (u : Value), us[j]? = some u → W.cell? ⟨b, off + j, none⟩ = some u
theorem Vals.below {B : Nat} {W W' : World} {v : Value} {us : List Value} (h : Vals B W v us) (hb : Below B W W') : Vals B W' v us :=
  h.imp id fun ⟨b, off, cap, e, hc, hlt, hcell⟩ => ⟨b, off, cap, e, hc, hlt, fun j u hu => (hb.cell (p := ⟨b, off + j, none⟩) hlt).trans (hcell j u hu)⟩
theorem Vals.len {B : Nat} {W : World} {v : Value} {us : List Value} (h : Vals B W v us) : ∃ A cap, v = .slice A us.length cap := by
  rcases h with ⟨rfl, rfl⟩ | ⟨b, off, cap, e, _⟩
  · exact ⟨none, 0, rfl⟩
  · exact ⟨_, cap, e⟩
/-- A row of the call's own, of slices. -/
def OwnS (w : World) (base : Nat) (v : Value) (us : List Value) : Prop := w.ownsRow base 48 1 v us.length us
end Go.Proofs.YtckfepmahjgmfaaDoor.E

namespace Go.Proofs.YtckfepmahjgmfaaDoor.E
open Go.RowKit Go.Shelf Go.Proofs.YtckfepmahjgmfaaDoor.C
set_option linter.unusedSimpArgs false
set_option linter.unusedVariables false

/-- The slice value v has the values us, that read as the cells ls. -/
def ManyV (B : Nat) (W : World) (v : Value) (us : List Value) (ls : List (List UInt8)) : Prop := us.length = ls.length ∧ Vals B W v us ∧ ∀ (j : Nat) (u : Value), us[j]? = some u → Bytes B W u (ls[j]?.getD [])
theorem ManyV.below {B : Nat} {W W' : World} {v : Value} {us : List Value} {ls : List (List UInt8)} (h : ManyV B W v us ls) (hb : Below B W W') : ManyV B W' v us ls := ⟨h.1, h.2.1.below hb, fun j u hu => (h.2.2 j u hu).below hb⟩
theorem ManyV.one {B : Nat} {W : World} {v : Value} {us : List Value} {ls : List (List UInt8)} (h : ManyV B W v us ls) : ∀ u ∈ us, u.oneCell' = true := fun u hu => by
  obtain ⟨j, hj⟩ := List.getElem?_of_mem hu
  obtain ⟨A, cap, rfl, _⟩ := h.2.2 j u hj
  rfl
theorem OwnS.many {B base : Nat} {W : World} {v : Value} {us : List Value} {ls : List (List UInt8)} (h : OwnS W base v us) (hn : us.length = ls.length) (h0 : 0 < us.length) (hb : ∀ (j : Nat) (u : Value), us[j]? = some u → Bytes B W u (ls[j]?.getD [])) (hB : B ≤ W.heap.size) : Many W.heap.size W v ls := by
  have hcp : ∀ g cap, v = .slice (some ⟨g, 0, none⟩) us.length cap → us.length ≤ cap := fun g cap e => by
    rcases h.2 with ⟨_, h1⟩ | ⟨g2, cap2, cur, e2, _, _, hnc, _⟩
    · omega
    · rw [e] at e2
      injection e2 with _ _ e3
      omega
  obtain ⟨g, cap, e, hg, hg1⟩ := World.ownsRow.form h h0
  have hcap := hcp g cap e
  subst e
  refine ⟨_, cap, by rw [hn], by rw [← hn]; exact hcap, fun _ => ⟨g, 0, rfl, by omega, fun j hj => ?_⟩⟩
  have hj2 : j < us.length := by omega
  refine ⟨us[j], ?_, (hb j us[j] (List.getElem?_eq_getElem hj2)).more hB⟩
  rw [Nat.zero_add, World.ownsRow.cellAt h j (by omega), List.getElem?_eq_getElem hj2]

end Go.Proofs.YtckfepmahjgmfaaDoor.E

namespace Go.Proofs.YtckfepmahjgmfaaDoor.E
open Go.RowKit Go.Shelf Go.Proofs.YtckfepmahjgmfaaDoor.C
set_option linter.unusedSimpArgs false
set_option linter.unusedVariables false

theorem Vals.more {B B' : Nat} {W : World} {v : Value} {us : List Value} (h : Vals B W v us) (hB : B ≤ B') : Vals B' W v us :=
  h.imp id fun ⟨b, off, cap, e, hc, hlt, hcell⟩ => ⟨b, off, cap, e, hc, Nat.lt_of_lt_of_le hlt hB, hcell⟩
theorem ManyV.more {B B' : Nat} {W : World} {v : Value} {us : List Value} {ls : List (List UInt8)} (h : ManyV B W v us ls) (hB : B ≤ B') : ManyV B' W v us ls := ⟨h.1, h.2.1.more hB, fun j u hu => (h.2.2 j u hu).more hB⟩
end Go.Proofs.YtckfepmahjgmfaaDoor.E

namespace Go.Proofs.YtckfepmahjgmfaaDoor.E
open Go.RowKit Go.Shelf Go.Proofs.YtckfepmahjgmfaaDoor.C
set_option linter.unusedSimpArgs false
set_option linter.unusedVariables false

/-- Columns read, value by value: the cell of column c and row r is f c r. -/
def GridV (B : Nat) (W : World) (v : Value) (n R : Nat) (f : Nat → Nat → Value) : Prop :=
  ∃ b off cap, v = .slice (some ⟨b, off, none⟩) n cap ∧ b < B ∧ n ≤ cap ∧ ∀ c, c < n → ∃ b2 off2 cap2, W.cell? ⟨b, off + c, none⟩ = some (.slice (some ⟨b2, off2, none⟩) R cap2) ∧ R ≤ cap2 ∧ b2 < B ∧ ∀ r, r < R → W.cell? ⟨b2, off2 + r, none⟩ = some (f c r)
theorem GridV.keep_ {B : Nat} {W W' : World} {v : Value} {n R : Nat} {f : Nat → Nat → Value} (h : GridV B W v n R f) (hk : ∀ p : Addr, p.block < B → W'.cell? p = W.cell? p) : GridV B W' v n R f := by
  obtain ⟨b, off, cap, e, hb, hc, hA⟩ := h
  refine ⟨b, off, cap, e, hb, hc, fun c hc => ?_⟩
  obtain ⟨b2, off2, cap2, h1, h2, h3, h4⟩ := hA c hc
  exact ⟨b2, off2, cap2, (hk _ hb).trans h1, h2, h3, fun r hr => (hk _ h3).trans (h4 r hr)⟩
theorem GridV.below {B : Nat} {W W' : World} {v : Value} {n R : Nat} {f : Nat → Nat → Value} (h : GridV B W v n R f) (hb : Below B W W') : GridV B W' v n R f := h.keep_ fun _ hp => hb.cell hp
end Go.Proofs.YtckfepmahjgmfaaDoor.E

namespace Go.Proofs.YtckfepmahjgmfaaDoor
open Go.RowKit Go.Shelf
set_option linter.unusedVariables false

/-- I abides whatever happens from block B on, but in the body's row. -/
def FarO {β : Type} (B : Nat) (I : β → Option Nat → World → Prop) : Prop :=
  ∀ s o X Y row, I s o X → X.grownBy Y row → (∀ r, row = some r → B ≤ r ∧ some r ≠ o) → I s o Y
/-- What lay from B on lies as it lay, but for the body's row. -/
def SinceO (B : Nat) (o : Option Nat) (X Y : World) : Prop := X.heap.size ≤ Y.heap.size ∧ ∀ b, B ≤ b → b < X.heap.size → some b ≠ o → Y.heap[b]? = X.heap[b]?
/-- The body's row is a block of cells. -/
def RowO (o : Option Nat) (X : World) : Prop := ∀ b, o = some b → ∃ cs t fr, X.heap[b]? = some (.cells cs t fr)
theorem RowO.lt {o : Option Nat} {X : World} (h : RowO o X) : ∀ b, o = some b → b < X.heap.size := fun b e => by
  obtain ⟨_, _, _, hc⟩ := h b e
  exact (Array.getElem?_eq_some_iff.1 hc).1
theorem RowO.ne {o : Option Nat} {X : World} (h : RowO o X) {D : Nat} {ds : Option (List Deferred)} (hD : X.heap[D]? = some (.deferred ds)) : some D ≠ o := fun e => by
  obtain ⟨_, _, _, hc⟩ := h D e.symm
  rw [hD] at hc
  cases hc
theorem rowO_none (X : World) : RowO none X := fun b e => by cases e
/-- The body's row is what it was, or new. -/
def FreshO (o o' : Option Nat) (X : World) : Prop := o' = o ∨ ∃ b, o' = some b ∧ X.heap.size ≤ b

section
variable {β : Type} {B k : Nat} {I I' : β → Option Nat → World → Prop} {X Y Z : World} {o o' o'' : Option Nat}
theorem FarO.and (h : FarO B I) (h' : FarO B I') : FarO B (fun s o W => I s o W ∧ I' s o W) := fun s o X Y row hs hg hr => ⟨h s o X Y row hs.1 hg hr, h' s o X Y row hs.2 hg hr⟩
theorem FarO.less {B' : Nat} (h : FarO B I) (hB : B ≤ B') : FarO B' I := fun s o X Y row hs hg hr => h s o X Y row hs hg fun r e => ⟨by have := (hr r e).1; omega, (hr r e).2⟩
theorem farO_pure (B : Nat) (p : β → Option Nat → Prop) : FarO B (fun s o (_ : World) => p s o) := fun _ _ _ _ _ hs _ _ => hs
theorem farO_blk {g : Nat} (hg : g < B) (t : TypeId) (f : β → Array Value) : FarO B (fun s (_ : Option Nat) W => Blk W g t (f s)) := fun _ _ _ _ _ hs hgr hr =>
  hs.grown hgr fun e => by have := (hr g e.symm).1; omega
theorem farO_below {n₀ : Nat} {w : World} (hn : n₀ ≤ w.heap.size) (hB : n₀ ≤ B) : FarO B (fun (_ : β) (_ : Option Nat) W => Below n₀ w W) := fun _ _ _ _ _ hs hgr hr =>
  hs.grown hgr (Nat.le_trans hn hs.size) fun r e => by have := (hr r e).1; omega
theorem FarO.put (h : FarO B I) {s : β} {l : Nat} (hs : I s o X) (h1 : B ≤ l) (h2 : some l ≠ o) (ob : Obj) : I s o (X.putObj l ob) :=
  h s o X _ (some l) hs (grownBy_putObj' X l ob) fun r e => by injection e with e; subst e; exact ⟨h1, h2⟩
theorem FarO.lay (h : FarO B I) {s : β} (hs : I s o X) (ob : Obj) : I s o (X.alloc ob) := h s o X _ none hs (World.grownBy_alloc X ob none) fun r e => by cases e
theorem FarO.below (h : FarO B I) {s : β} (hs : I s o X) (hb : Below X.heap.size X Y) : I s o Y := h s o X Y none hs (grown_below hb) fun r e => by cases e
theorem SinceO.refl (B : Nat) (o : Option Nat) (X : World) : SinceO B o X X := ⟨Nat.le_refl _, fun _ _ _ _ => rfl⟩
theorem SinceO.below (hb : Below X.heap.size X Y) : SinceO B o X Y := ⟨hb.size, fun b _ h2 _ => hb.block b h2⟩
theorem SinceO.less {B' : Nat} (h : SinceO B o X Y) (hB : B ≤ B') : SinceO B' o X Y := ⟨h.1, fun b h1 h2 => h.2 b (by omega) h2⟩
theorem SinceO.trans (h : SinceO B o X Y) (hf : FreshO o o' X) (h' : SinceO B o' Y Z) : SinceO B o X Z := ⟨Nat.le_trans h.1 h'.1, fun b h1 h2 h3 => (h'.2 b h1 (by have := h.1; omega) (by
  rcases hf with rfl | ⟨c, rfl, hc⟩
  · exact h3
  · intro e; injection e with e; omega)).trans (h.2 b h1 h2 h3)⟩
theorem SinceO.trans_ (h : SinceO B o X Y) (h' : SinceO B o Y Z) : SinceO B o X Z := h.trans (.inl rfl) h'
theorem FreshO.trans (h : FreshO o o' X) (hs : X.heap.size ≤ Y.heap.size) (h' : FreshO o' o'' Y) : FreshO o o'' X := by
  rcases h' with rfl | ⟨c, rfl, hc⟩
  · exact h
  · exact .inr ⟨c, rfl, by omega⟩
theorem FreshO.later (h : FreshO o o' Y) (hs : X.heap.size ≤ Y.heap.size) : FreshO o o' X := h.imp id fun ⟨c, e, hc⟩ => ⟨c, e, by omega⟩
theorem FreshO.ne (h : FreshO o o' X) {b : Nat} (hb : b < X.heap.size) (hne : some b ≠ o) : some b ≠ o' := by
  rcases h with rfl | ⟨c, rfl, hc⟩
  · exact hne
  · intro e; injection e with e; omega
theorem SinceO.blk {g : Nat} {t : TypeId} {cs : Array Value} (h : SinceO B o X Y) (hb : Blk X g t cs) (hg : B ≤ g) (hne : some g ≠ o) : Blk Y g t cs := (h.2 g hg hb.lt hne).trans hb
theorem SinceO.keep {B' k : Nat} (h : SinceO B o X Y) (hB : B ≤ B') (hk : B' + k ≤ X.heap.size) (ho : ∀ b, o = some b → b < B' ∨ B' + k ≤ b) : Keep B' k X Y :=
  ⟨h.1, fun b h1 h2 => h.2 b (by omega) (by omega) (fun e => by have := ho b e.symm; omega)⟩
end

/-- What gf, with what it has captured, goes over: S, or (left early) Sp; its rounds leave alone what lies from its call on, but their own row, and keep Kp. -/
def SeqO {α : Type} (F : Fence) (n : Nat) (P : Program) (gf : Nat) (lb : Array Value) (encs : α → Array Value) (Ok : α → World → Prop) (Kp : World → World → Prop) (S Sp : List α → Prop) (N : Nat) (w : World) : Prop :=
  ∀ (l : Nat) (J Jx : List α → Option Nat → World → Prop) (W : World) (o₀ : Option Nat), Below w.heap.size w W → (∀ b, o₀ = some b → b < W.heap.size) → FarO W.heap.size J → FarO W.heap.size Jx → (∀ s o X, J s o X → RowO o X) → (∀ s o X, Jx s o X → RowO o X) →
    (∀ pre x o W1, J pre o W1 → Ok x W1 → pre.length < N → W.heap.size ≤ W1.heap.size → YieldAt F (n - 1) P l (encs x) W1 fun e W' => ∃ o', FreshO o o' W1 ∧ SinceO W.heap.size o W1 W' ∧
      ((e = .returned (.bool true) ∧ J (pre ++ [x]) o' W' ∧ Kp W1 W') ∨ (e = .returned (.bool false) ∧ Jx (pre ++ [x]) o' W'))) →
    J [] o₀ W →
    CallsIn F n P gf (#[.func (.yield l) #[] #[]] ++ lb) W fun e W' => (∃ v, e = .returned v) ∧ ∃ o', FreshO o₀ o' W ∧ ((∃ xs, S xs ∧ J xs o' W') ∨ (∃ pre, Sp pre ∧ Jx pre o' W'))

/-- How a round's body may be left. -/
def postO {α : Type} (B : Nat) (Kp : World → World → Prop) (I : List α → Option Nat → World → Prop) (Ix : Code → List α → Option Nat → World → Prop) (xs : List α) (o : Option Nat) (W : World) : Exit → Act → World → Prop
  | .normal, _, W' => ∃ o', FreshO o o' W ∧ SinceO B o W W' ∧ Kp W W' ∧ I xs o' W'
  | .ret, _, W' => ∃ o', FreshO o o' W ∧ SinceO B o W W' ∧ Ix .ret xs o' W'
  | .exit id, _, W' => ∃ o', FreshO o o' W ∧ SinceO B o W W' ∧ Ix (.exit id) xs o' W'
  | .goto t, _, W' => ∃ o', FreshO o o' W ∧ SinceO B o W W' ∧ Ix (.goto t) xs o' W'
  | .panic _, _, _ => False
  | .outgrown, _, _ => False
/-- The loop's two blocks lie so, and are not the body's row. -/
def HeldO (rec : LoopState → Option Code → Loop) (D : Nat) (st : LoopState) (pe : Option Code) (o : Option Nat) (X : World) : Prop := Held rec D st pe X ∧ some D ≠ o ∧ some (D + 1) ≠ o
theorem Held.lt0 {rec : LoopState → Option Code → Loop} {D : Nat} {st : LoopState} {pe : Option Code} {X : World} (h : Held rec D st pe X) : D < X.heap.size := by have := h.lt; omega
theorem HeldO.since {rec : LoopState → Option Code → Loop} {D B : Nat} {st : LoopState} {pe : Option Code} {X Y : World} {o o' : Option Nat} (h : HeldO rec D st pe o X) (hk : SinceO B o X Y) (hf : FreshO o o' X) (h1 : B ≤ D) : HeldO rec D st pe o' Y :=
  ⟨⟨(hk.2 _ (by omega) h.1.lt h.2.2).trans h.1.1, (hk.2 _ h1 h.1.lt0 h.2.1).trans h.1.2⟩, hf.ne h.1.lt0 h.2.1, hf.ne h.1.lt h.2.2⟩
theorem held_farO (rec : LoopState → Option Code → Loop) (D : Nat) (st : LoopState) (pe : Option Code) {β : Type} : FarO (D + 2) (fun (_ : β) o W => HeldO rec D st pe o W) := fun _ o X Y _ hs hg hr =>
  ⟨⟨(hg.block _ hs.1.lt (fun e => by have := (hr _ e.symm).1; omega)).trans hs.1.1, (hg.block D hs.1.lt0 (fun e => by have := (hr _ e.symm).1; omega)).trans hs.1.2⟩, hs.2⟩
theorem HeldO.turn {rec : LoopState → Option Code → Loop} {D : Nat} {st : LoopState} {pe : Option Code} {o : Option Nat} {X : World} (h : HeldO rec D st pe o X) (st' : LoopState) (pe' : Option Code) : HeldO rec D st' pe' o (X.putObj (D + 1) (.loop (rec st' pe'))) := ⟨h.1.turn st' pe', h.2⟩

/-- The law for a range that stands in no round. -/
theorem wpIn_rangeO {α : Type} {F : Fence} {n : Nat} {P : Program} {g : Operand} {ps : Array Tmp} {assign body : Code} {Q : Exit → Act → World → Prop} {a : Act} {w : World}
    (hro : F.round = none) (h1 : 1 ≤ n) {gf : Nat} {lb : Array Value} (hg : a.eval g = .func (.func gf) #[] lb) (hFg : F.fn gf) (eg : ∀ args w, (callFunc gf args).run P w = .ok (.enter gf args) w)
    {encs : α → Array Value} {Ok : α → World → Prop} {Kp : World → World → Prop} {S Sp : List α → Prop} {N : Nat} {w0 : World} (hseq : SeqO F (n - 1) P gf lb encs Ok Kp S Sp N w0)
    (hKt : ∀ {A B C : World}, Kp A B → Kp B C → Kp A C) (hKb : ∀ (W : World) (l : Nat) (ob : Obj), w.heap.size ≤ l → l < W.heap.size → (∃ r, W.heap[l]? = some (.loop r)) → Kp W (W.putObj l ob)) (hb0 : Below w0.heap.size w0 w) (hps : ∀ x, (encs x).size = ps.size)
    (I : List α → Option Nat → World → Prop) (Ix : Code → List α → Option Nat → World → Prop) (hI : FarO w.heap.size I) (hIx : ∀ c, FarO w.heap.size (Ix c)) (o₀ : Option Nat) (ho₀ : ∀ b, o₀ = some b → b < w.heap.size) (h0 : I [] o₀ w)
    (Ax : α → Option Nat → Act → World → Prop) (hAx : ∀ (x : α) (o : Option Nat) (a' : Act) (W : World) (l : Nat) (ob : Obj) (r : Loop), W.heap[l]? = some (.loop r) → Ax x o a' W → Ax x o a' (W.putObj l ob))
    (hassign : ∀ (l : Nat) (pre : List α) (x : α) (o : Option Nat) (W : World) (K : Act → World → Prop), w.heap.size ≤ W.heap.size → (∀ b, o = some b → b < W.heap.size) → I pre o W → Ok x W → (∀ a' W', SinceO w.heap.size o W W' → Kp W W' → I pre o W' → Ax x o a' W' → K a' W') →
      assign.wpIn (F.inRound l) (n - 1 - 1) P (Exit.then K (fun _ _ _ => False)) { tmps := (ps.zip (encs x)).foldl (fun t (p, v) => t.setIfInBounds p v) a.tmps, defers := [] } W)
    (hrow : ∀ pre o W, I pre o W → RowO o W) (hrowx : ∀ c pre o W, Ix c pre o W → RowO o W)
    (hbody : ∀ (l : Nat) (pre : List α) (x : α) (o : Option Nat) (a' : Act) (W : World), w.heap.size ≤ W.heap.size → I pre o W → Ax x o a' W → pre.length < N →
      body.wpIn (F.inRound l) (n - 1 - 1) P (postO w.heap.size Kp I Ix (pre ++ [x]) o W) a' W)
    (hdone : ∀ (D : Nat) (xs : List α) (o : Option Nat) (W : World), w.heap.size ≤ D → FreshO o₀ o w → S xs → I xs o W → W.heap[D]? = some (.deferred (some [])) → some D ≠ o → Q .normal { a with defers := { target := .collected D, args := #[] } :: a.defers } W)
    (hstop : ∀ (D : Nat) (c : Code) (pre : List α) (o : Option Nat) (W : World), w.heap.size ≤ D → FreshO o₀ o w → Sp pre → Ix c pre o W → W.heap[D]? = some (.deferred (some [])) → some D ≠ o → c.wpIn F n P Q { a with defers := { target := .collected D, args := #[] } :: a.defers } W) :
    (Code.rangeFunc g ps assign body).wpIn F n P Q a w := by
  refine wpIn_rangeFunc fun fn hfn => ?_
  rw [hro]
  obtain ⟨rec, hrec⟩ : ∃ rec : LoopState → Option Code → Loop, rec = fun st pe => { state := st, pending := pe, fn, tmps := a.tmps, params := ps, assign, body, defers := w.heap.size } := ⟨_, rfl⟩
  obtain ⟨W1, hW1⟩ : ∃ W1, (w.alloc (.deferred (some []))).alloc (.loop (rec .ready none)) = W1 := ⟨_, rfl⟩
  have s1 : W1.heap.size = w.heap.size + 2 := by rw [← hW1]; simp
  have n0 : some w.heap.size ≠ o₀ := fun e => by have := ho₀ _ e.symm; omega
  have n1 : some (w.heap.size + 1) ≠ o₀ := fun e => by have := ho₀ _ e.symm; omega
  have H1 : HeldO rec w.heap.size .ready none o₀ W1 := by
    rw [← hW1]
    refine ⟨⟨?_, (Below.heap_alloc _ _ _ (by simp)).trans (World.alloc_heap_new w _)⟩, n0, n1⟩
    have := World.alloc_heap_new (w.alloc (.deferred (some []))) (.loop (rec .ready none))
    rwa [World.size_alloc] at this
  have I1 : I [] o₀ W1 := by rw [← hW1]; exact hI.lay (hI.lay h0 _) _
  have B1 : Below w0.heap.size w0 W1 := by
    rw [← hW1]; exact hb0.trans ((((Below.refl _ w).alloc (Nat.le_refl _) _).alloc (by simp) _).mono hb0.size)
  refine ⟨w.heap.size + 1, [{ target := .collected w.heap.size, args := #[] }], W1, { target := .fn (.func gf) lb, args := #[.func (.yield (w.heap.size + 1)) #[] #[]] }, W1, gf,
    #[.func (.yield (w.heap.size + 1)) #[] #[]] ++ lb, W1, ?_, ?_, ?_, ?_, fun _ => h1, ?_⟩
  · rw [← hW1, hrec]; exact run_enterLoop_outer _ _ _ _ _
  · simp only [resolve, hg]
    simp [go_sem]
  · intro f' hf'
    simp [Target.leads] at hf'
    exact hf' ▸ hFg
  · simp [invoke, go_sem, eg]
  have hI' : FarO W1.heap.size I := hI.less (by omega)
  have hH := fun st pe => (s1 ▸ held_farO rec w.heap.size st pe (β := List α) : FarO W1.heap.size _)
  refine (hseq (w.heap.size + 1) (fun pre o W => I pre o W ∧ HeldO rec w.heap.size .ready none o W) (fun pre o W => ∃ c, Ix c pre o W ∧ HeldO rec w.heap.size .done (some c) o W) W1 o₀ B1 (fun b e => by have := ho₀ b e; omega) (hI'.and (hH _ _))
    (fun s o X Y row hs hgr hr => by
      obtain ⟨c, hc, hh⟩ := hs
      exact ⟨c, (hIx c).less (by omega) s o X Y row hc hgr hr, hH _ _ s o X Y row hh hgr hr⟩) (fun s o X h => hrow _ _ _ h.1) (fun s o X h => h.elim fun c h => hrowx _ _ _ _ h.1) ?_ ⟨I1, H1⟩).mono ?_
  · rintro pre x o W ⟨hi, hh⟩ hok hlen hsz
    rw [s1] at hsz
    have hy := run_yield (P := P) (args := encs x) hh.1.1 (by rw [hrec]; exact hps x)
    rw [hrec] at hy
    refine ⟨fn, _, assign, body, hy, roundIn_of_wpIn hfn (hassign _ pre x o W _ (by omega) (RowO.lt (hrow _ _ _ hi)) hi hok ?_)⟩
    intro a' Wa hka hpa hia hax
    have ha := hh.since hka (.inl rfl) (Nat.le_refl _)
    have hb := ha.turn .busy none
    have hbegin := run_beginRound (P := P) ha.1.1 (by rw [hrec])
    have ebusy : ({ rec .ready none with state := .busy } : Loop) = rec .busy none := by rw [hrec]
    rw [ebusy] at hbegin
    refine ⟨_, hbegin, ?_⟩
    have hsa := hka.1
    have hsb : (Wa.putObj (w.heap.size + 1) (.loop (rec .busy none))).heap.size = Wa.heap.size := by simp [World.putObj]
    refine wpIn_mono (hbody _ pre x o a' _ (by rw [hsb]; omega) (hI.put hia (by omega) ha.2.2 _) (hAx _ _ _ _ _ _ _ ha.1.1 hax) hlen) ?_
    have fin : ∀ (jump : Option Code) (o' : Option Nat) (W3 : World), FreshO o o' (Wa.putObj (w.heap.size + 1) (.loop (rec .busy none))) → SinceO w.heap.size o (Wa.putObj (w.heap.size + 1) (.loop (rec .busy none))) W3 →
        (Instr.endRound (w.heap.size + 1) jump).run P W3 = .ok (.bool jump.isNone) (W3.putObj (w.heap.size + 1) (.loop (rec (if jump.isNone then .ready else .done) jump))) ∧
        HeldO rec w.heap.size (if jump.isNone then .ready else .done) jump o' (W3.putObj (w.heap.size + 1) (.loop (rec (if jump.isNone then .ready else .done) jump))) ∧ HeldO rec w.heap.size .busy none o' W3 := fun jump o' W3 hf hk3 => by
      have h3 := hb.since hk3 hf (Nat.le_refl _)
      have he := run_endRound (P := P) jump h3.1.1
      have e2 : ({ rec .busy none with state := if jump.isNone then .ready else .done, pending := jump } : Loop) = rec (if jump.isNone then .ready else .done) jump := by rw [hrec]
      rw [e2] at he
      exact ⟨he, h3.turn _ _, h3⟩
    have putFar : ∀ (o : Option Nat) (V : World) (ob : Obj), SinceO W1.heap.size o V (V.putObj (w.heap.size + 1) ob) := fun o V ob => ⟨by simp [World.putObj], fun b h2 _ _ => World.putObj_heap_other (by omega)⟩
    have keepAll : ∀ (ob : Obj) (o' : Option Nat) (W3 : World), SinceO w.heap.size o (Wa.putObj (w.heap.size + 1) (.loop (rec .busy none))) W3 → SinceO W1.heap.size o W (W3.putObj (w.heap.size + 1) ob) := fun ob o' W3 hk3 =>
      (((hka.less (by omega)).trans_ (putFar o Wa _)).trans_ (hk3.less (by omega))).trans_ (putFar o W3 _)
    intro e a3 W3 hp
    cases e with
    | normal =>
      obtain ⟨o', hf3, hk3, hp3, hi3⟩ := hp
      obtain ⟨he, h4, h5⟩ := fin none o' W3 hf3 hk3
      exact ⟨_, _, he, o', hf3.later (by rw [hsb]; exact hsa), keepAll _ o' _ hk3, .inl ⟨rfl, ⟨hI.put hi3 (by omega) h5.2.2 _, h4⟩, hKt hpa (hKt (hKb _ _ _ (by omega) ha.1.lt ⟨_, ha.1.1⟩) (hKt hp3 (hKb _ _ _ (by omega) h5.1.lt ⟨_, h5.1.1⟩)))⟩⟩
    | ret =>
      obtain ⟨o', hf3, hk3, hi3⟩ := hp
      obtain ⟨he, h4, h5⟩ := fin (some .ret) o' W3 hf3 hk3
      exact ⟨_, _, he, o', hf3.later (by rw [hsb]; exact hsa), keepAll _ o' _ hk3, .inr ⟨rfl, .ret, (hIx _).put hi3 (by omega) h5.2.2 _, h4⟩⟩
    | exit id =>
      obtain ⟨o', hf3, hk3, hi3⟩ := hp
      obtain ⟨he, h4, h5⟩ := fin (some (.exit id)) o' W3 hf3 hk3
      exact ⟨_, _, he, o', hf3.later (by rw [hsb]; exact hsa), keepAll _ o' _ hk3, .inr ⟨rfl, .exit id, (hIx _).put hi3 (by omega) h5.2.2 _, h4⟩⟩
    | goto t =>
      obtain ⟨o', hf3, hk3, hi3⟩ := hp
      obtain ⟨he, h4, h5⟩ := fin (some (.goto t)) o' W3 hf3 hk3
      exact ⟨_, _, he, o', hf3.later (by rw [hsb]; exact hsa), keepAll _ o' _ hk3, .inr ⟨rfl, .goto t, (hIx _).put hi3 (by omega) h5.2.2 _, h4⟩⟩
    | panic ch => exact hp.elim
    | outgrown => exact hp.elim
  · rintro e W2 ⟨⟨v, rfl⟩, o', hfo, (⟨xs, hS, hi, hh⟩ | ⟨pre, hSp, c, hc, hh⟩)⟩
    · have he := run_endLoop (P := P) hh.1.1 (by rw [hrec]; simp)
      rw [show (rec .ready none).pending = none by rw [hrec]] at he
      exact ⟨none, _, he, hdone _ xs o' _ (Nat.le_refl _) (hfo.later (by omega)) hS (hI.put hi (by omega) hh.2.2 _) ((World.putObj_heap_other (by omega)).trans hh.1.2) hh.2.1⟩
    · have he := run_endLoop (P := P) hh.1.1 (by rw [hrec]; simp)
      rw [show (rec .done (some c)).pending = some c by rw [hrec]] at he
      exact ⟨some c, _, he, hstop _ c pre o' _ (Nat.le_refl _) (hfo.later (by omega)) hSp ((hIx c).put hc (by omega) hh.2.2 _) ((World.putObj_heap_other (by omega)).trans hh.1.2) hh.2.1⟩

end Go.Proofs.YtckfepmahjgmfaaDoor

namespace Go.Proofs.YtckfepmahjgmfaaDoor.E
open Go.RowKit Go.Shelf Go.Proofs.YtckfepmahjgmfaaDoor.C
set_option linter.unusedSimpArgs false
set_option linter.unusedVariables false
attribute [local go_sem] Oper.semAt_some

set_option maxHeartbeats 2000000 in
theorem walk1_inO (n : Nat) (hn : 1 ≤ n) (l g h lo m p : Nat) (hp : 0 < p) (hp2 : p ≤ 1000) (a s : Int) (a0 : 0 ≤ a) (a1 : a < p) (s0 : 0 ≤ s) (s1 : s < p) (hh1 : lo ≤ h) (hh : h < lo + m) (W : World) (hnW : lo + m ≤ W.heap.size) (J Jx : List Int → Option Nat → World → Prop) (o₀ : Option Nat) (ho₀ : ∀ b, o₀ = some b → b < W.heap.size)
    (hJ : FarO W.heap.size J)
    (hY : ∀ pre (x : Int) o W1, J pre o W1 → (0 ≤ x ∧ x < (p : Int)) → pre.length < p → W.heap.size ≤ W1.heap.size → YieldAt Fence.wide (n - 1) Tryd.prog l #[.int .i64 x] W1 fun e W' => ∃ o', FreshO o o' W1 ∧ SinceO W.heap.size o W1 W' ∧ ((e = .returned (.bool true) ∧ J (pre ++ [x]) o' W' ∧ Keep lo m W1 W') ∨ (e = .returned (.bool false) ∧ Jx (pre ++ [x]) o' W')))
    (bg : Blk W g 89 #[.int .i64 p, .int .i64 a]) (bh : Blk W h 87 #[.int .i64 s]) (h0 : J [] o₀ W) :
    CallsIn Fence.wide n Tryd.prog 85 #[.func (.yield l) #[] #[], .pointer (some ⟨g, 0, none⟩), .pointer (some ⟨h, 0, none⟩)] W fun e W' => (∃ v, e = .returned v) ∧ ∃ o', FreshO o₀ o' W ∧ ((∃ ys, ys = walkL p a s ∧ J ys o' W') ∨ (∃ pre, pre <+: walkL p a s ∧ Jx pre o' W')) := by
  have c0 : W.cell? ⟨g, 0, none⟩ = some (.int .i64 p) := bg.cell 0
  have c1 : W.cell? ⟨g, 1, none⟩ = some (.int .i64 a) := bg.cell 1
  refine callsIn_of_wp Tryd.func85 rfl trivial ?_ rfl
  simp only [Tryd.ntmps85, List.size_toArray, List.length_cons, List.length_nil, Nat.reduceAdd, Nat.reduceSub, Array.replicate_succ, Array.replicate_zero, List.push_toArray, List.append_toArray, List.nil_append, List.cons_append]
  refine wpIn_scope_wide ?_
  gi_wp2
  refine wpIn_label ?_
  obtain ⟨W0, hW0⟩ : ∃ W0, W.alloc (.cells #[.int .i64 p, .int .i64 a] 89) = W0 := ⟨_, rfl⟩
  have bD : Blk W0 W.heap.size 89 #[.int .i64 p, .int .i64 (walkAt p a s 0)] := by rw [← hW0, walkAt_zero p a s a0 (by omega)]; exact Blk.new W _ _
  have hJ0 : J [] o₀ W0 := by rw [← hW0]; exact hJ.lay h0 _
  have hB0 : Keep lo m W W0 := by rw [← hW0]; exact Keep.alloc hnW _
  rw [hW0]
  clear hW0
  have d0 : W0.cell? ⟨W.heap.size, 0, none⟩ = some (.int .i64 p) := bD.cell 0
  have d1 : W0.cell? ⟨W.heap.size, 1, none⟩ = some (.int .i64 (walkAt p a s 0)) := bD.cell 1
  gi_wp2
  clear d0 d1
  gi_loopw [8] (fun i wr => ∃ k : Nat, k ≤ p ∧ i = .int .i64 k ∧ Hid (∃ o, J ((walkL p a s).take k) o wr ∧ FreshO o₀ o W ∧ some W.heap.size ≠ o) ∧ Hid (Blk wr W.heap.size 89 #[.int .i64 p, .int .i64 (walkAt p a s k)]) ∧ Keep lo m W wr) (fun i _ => p - (intOf i).toNat)
  case atStart => exact ⟨0, Nat.zero_le _, rfl, Lib.hid ⟨o₀, hJ0, .inl rfl, fun e => by have := ho₀ _ e.symm; omega⟩, Lib.hid bD, hB0⟩
  case round =>
    obtain ⟨k, hk, rfl, HJ, HD, hB⟩ := hrel
    obtain ⟨o, hj, hfo, hno⟩ := HJ.out
    have HJ2 := Lib.hid hj
    by_cases hlt : k < p
    · have hdec : decide ((k : Int) < (p : Int)) = true := by simp; omega
      have HT := Lib.hid (walkL_next p a s k hlt)
      have hx := walkAt_lt p hp a s k
      have HN := Lib.hid (walkAt_next p a s k)
      have hD := HD.out
      have e0 : wr.cell? ⟨W.heap.size, 0, none⟩ = some (.int .i64 p) := hD.cell 0
      have e1 : wr.cell? ⟨W.heap.size, 1, none⟩ = some (.int .i64 (walkAt p a s k)) := hD.cell 1
      have hsz := hD.lt
      have HY := Lib.hid (hY _ (walkAt p a s k) o wr hj ⟨hx.1, by omega⟩ (by rw [List.length_take, walkL_len]; omega) (by omega))
      have HW := Lib.hid (fun V => with_any 87 _ plus_any enter_plus p (walkAt p a s k) s V (by omega) (by omega) hx.1 (by omega) s0 (by omega) (by omega) (by omega))
      clear hD HJ HJ2 hj
      simp only [HN.out] at HW
      generalize walkAt p a s k = x at *
      generalize hyy : walkAt p a s (k + 1) = y at *
      have HYY := Lib.hid hyy
      clear hyy
      obtain ⟨fn, tmps, assign, body, hy, hR⟩ := HY.out
      gi_wp2
      refine hR.mono ?_
      rintro e W3 ⟨o', hf3, hS3, (⟨rfl, hJ3, hk3⟩ | ⟨rfl, hJx3⟩)⟩
      all_goals have hfo' : FreshO o₀ o' W := hfo.trans (by omega) hf3
      all_goals have hno' : some W.heap.size ≠ o' := (by rcases hf3 with rfl | ⟨b2, rfl, hb2⟩; exact hno; intro e; injection e with e; omega)
      · have hD3 : Blk W3 W.heap.size 89 #[.int .i64 p, .int .i64 x] := (hS3.2 W.heap.size (Nat.le_refl _) (by omega) hno).trans HD.out
        have hB3 := hB.trans hk3
        have g0 : W3.cell? ⟨W.heap.size, 0, none⟩ = some (.int .i64 p) := hD3.cell 0
        have g1 : W3.cell? ⟨W.heap.size, 1, none⟩ = some (.int .i64 x) := hD3.cell 1
        have g2 : W3.cell? ⟨h, 0, none⟩ = some (.int .i64 s) := (hB3.blk bh hh1 hh).one
        have hl3 := hD3.lt
        gi_wp2_with (refine ⟨trivial, ?_⟩; gi_at_call 86; refine (callsIn_wide.2 (HW.out _)).mono ?_; rintro e W4 ⟨rfl, hB4⟩; have hD4 := hD3.below hB4 hD3.lt; have i0 := hD4.cell 0; have i1 := hD4.cell 1; have j0 := hD4.frozen 0; have j1 := hD4.frozen 1; simp only [List.getElem?_toArray, List.getElem?_cons_zero, List.getElem?_cons_succ] at i0 i1)
        go_roundw
        case rel =>
          refine ⟨k + 1, by omega, by go_num, Lib.hid ?_, Lib.hid (by rw [HYY.out]; exact (hD4.set_ 0 _).set_ 1 _), ((hB3.trans (Keep.below hB4 (by have := hB3.1; omega))).trans (Keep.setFar _ hnW _)).trans (Keep.setFar _ hnW _)⟩
          rw [HT.out]
          exact ⟨o', hJ _ o' W3 _ (some W.heap.size) hJ3 (grown_set (grown_set (grown_below hB4) 0 _) 1 _) (fun r e => by cases e; exact ⟨Nat.le_refl _, hno'⟩), hfo', hno'⟩
        case measure => simp [intOf]; omega
      · gi_wp2
        rw [Exit.noGoto_normal]
        go_end0
        exact ⟨⟨_, rfl⟩, o', hfo', .inr ⟨_, by rw [← HT.out]; exact List.take_prefix _ _, hJx3⟩⟩
    · obtain rfl : k = p := by omega
      have hdec : decide ((k : Int) < (k : Int)) = false := by simp
      have HF : Hid (J (walkL k a s) o wr) := by have := HJ2.out; rwa [List.take_of_length_le (by rw [walkL_len]; omega)] at this
      gi_wp2
      rw [Exit.noGoto_normal]
      go_end0
      exact ⟨⟨_, rfl⟩, o, hfo, .inl ⟨_, rfl, HF.out⟩⟩

end Go.Proofs.YtckfepmahjgmfaaDoor.E

namespace Go.Proofs.YtckfepmahjgmfaaDoor.E
open Go.RowKit Go.Shelf Go.Proofs.YtckfepmahjgmfaaDoor.C
set_option linter.unusedSimpArgs false
set_option linter.unusedVariables false

/-- What goes over the places zs of the prime p. -/
def WalkO (lo : Nat) (p : Int) (zs : List Int) (v : Value) (w : World) : Prop :=
  ∃ gf lb, v = .func (.func gf) #[] lb ∧ (∀ args W, (callFunc gf args).run Tryd.prog W = .ok (.enter gf args) W) ∧
    ∀ n, 1 ≤ n → SeqO Fence.wide n Tryd.prog gf lb (fun x : Int => #[.int .i64 x]) (fun x _ => 0 ≤ x ∧ x < p) (Keep lo (w.heap.size - lo)) (fun ys => ys = zs) (fun pre => pre <+: zs) zs.length w
theorem WalkO.less {lo lo' : Nat} {p : Int} {zs : List Int} {v : Value} {w : World} (h : WalkO lo p zs v w) (hl : lo' ≤ lo) (hw : lo ≤ w.heap.size) : WalkO lo' p zs v w := by
  obtain ⟨gf, lb, e, eg, hg⟩ := h
  exact ⟨gf, lb, e, eg, fun n hn l J Jx W o₀ hW ho₀ hJ hJx hr1 hr2 hY h0 => hg n hn l J Jx W o₀ hW ho₀ hJ hJx hr1 hr2 (fun pre x o W1 hj hok hl' hs => (hY pre x o W1 hj hok hl' hs).mono fun _ _ ⟨o', hf, hS, h⟩ => ⟨o', hf, hS, h.imp (fun ⟨h1, h2, h3⟩ => ⟨h1, h2, h3.less hl (by omega)⟩) id⟩) h0⟩
theorem walk_ofO (p a s : Int) (hf : Fine p [a]) (w : World) (h1 : -9223372036854775808 ≤ s) (h2 : s ≤ 9223372036854775807) :
    Calls Tryd.prog 66 #[.agg #[.int .i64 p, .int .i64 a], .int .i64 s] w fun e w' => ∃ v, e = .returned v ∧ WalkO w.heap.size p (walkN p a s) v w' ∧ Below w.heap.size w w' := by
  obtain ⟨hp, a0, a1⟩ := fine_one.1 hf
  have hb := prm_bounds hp
  rw [walkN_yes hf]
  obtain ⟨P, rfl⟩ : ∃ P : Nat, p = (P : Int) := ⟨p.toNat, by omega⟩
  refine (walk_any P (by omega) (by omega) a s w h1 h2).mono ?_
  rintro e w' ⟨g, h, rfl, bg, bh, hh, hB⟩
  refine ⟨_, rfl, ⟨_, _, rfl, enter_walk1, ?_⟩, hB⟩
  intro n hn l J Jx W o₀ hW ho₀ hJ hJx hr1 hr2 hY h0
  have hlt := bh.lt
  have hsz := hB.size
  refine walk1_inO n hn l g h w.heap.size (w'.heap.size - w.heap.size) P (by omega) (by omega) a (s % P) a0 (by omega) (Int.emod_nonneg _ (by omega)) (Int.emod_lt_of_pos _ (by omega)) hh (by omega) W (Nat.le_trans (by omega) hW.size) J Jx o₀ ho₀ hJ ?_ (bg.below hW bg.lt) (bh.below hW bh.lt) h0
  intro pre x o W1 hj hx hl hs
  exact hY pre x o W1 hj hx (by rw [Int.toNat_natCast, walkL_len]; exact hl) hs

set_option maxHeartbeats 1000000 in
theorem modWalk_anyO (p a s : Int) (hf : Fine p [a]) (w : World) (hL : Laid w) (h1 : -9223372036854775808 ≤ s) (h2 : s ≤ 9223372036854775807) :
    Calls Tryd.prog 43 #[.int .i64 p, .int .i64 a, .int .i64 s] w fun e w' => ∃ v, e = .returned v ∧ WalkO w.heap.size p (walkN p a s) v w' ∧ Below w.heap.size w w' := by
  have HA := Lib.hid (ask_one p a w hL)
  have HW := Lib.hid (fun W => walk_ofO p a s hf W h1 h2)
  have HF := Lib.hid hf
  clear hf
  go_enter Tryd.func43, Tryd.ntmps43
  go_wp2_with (first
    | (go_at_call 63; refine HA.out.mono ?_; rintro e w1 ⟨h1, _, hB⟩; obtain rfl := h1 HF.out)
    | (go_at_call 65; refine (sum_any _ _ _).mono ?_; rintro e w2 ⟨rfl, hB2⟩)
    | (go_at_call 66; refine (HW.out _).mono ?_; rintro e w3 ⟨v, rfl, hO, hB3⟩))
  go_ret
  exact ⟨_, rfl, hO.less (below_in (below_in ((Below.refl _ w).alloc (Nat.le_refl _) _) hB) hB2).size hB3.size, below_in (below_in (below_in ((Below.refl _ w).alloc (Nat.le_refl _) _) hB) hB2) hB3⟩
end Go.Proofs.YtckfepmahjgmfaaDoor.E

namespace Go.Proofs.YtckfepmahjgmfaaDoor.E
open Go.RowKit Go.Shelf Go.Proofs.YtckfepmahjgmfaaDoor.C
set_option linter.unusedSimpArgs false
set_option linter.unusedVariables false
attribute [local go_sem] Oper.semAt_some

theorem OwnS.far {w : World} {base : Nat} {v : Value} {l : List Value} (h : OwnS w base v l) {p : Addr} (hp : some p.block ≠ v.ownBlock) (u : Value) : OwnS (w.setCell p u) base v l := by
  refine ⟨h.1, ?_⟩
  rcases h.2 with h1 | ⟨g, cap, cur, e, h2, hg, rest⟩
  · exact .inl h1
  · exact .inr ⟨g, cap, cur, e, h2, (Below.heap_setCell w p u g (fun e2 => hp (by rw [e, ← e2]; rfl))).trans hg, rest⟩
theorem OwnS.kept {w w' : World} {base : Nat} {v : Value} {l : List Value} (h : OwnS w base v l) {row : Option Nat} (hg : w.grownBy w' row) (hne : v.ownBlock = none ∨ v.ownBlock ≠ row) : OwnS w' base v l := World.ownsRow.kept h hg hne
theorem OwnS.below {w w' : World} {base : Nat} {v : Value} {l : List Value} (h : OwnS w base v l) (hb : Below w.heap.size w w') : OwnS w' base v l := World.ownsRow.kept (row := none) h (grown_below hb) (by cases v.ownBlock <;> simp)
theorem OwnS.less {w : World} {base base' : Nat} {v : Value} {l : List Value} (h : OwnS w base v l) (hb : base' ≤ base) : OwnS w base' v l :=
  ⟨h.1, h.2.imp id fun ⟨g, cap, cur, e, h2, rest⟩ => ⟨g, cap, cur, e, by omega, rest⟩⟩
theorem OwnS.rowO {w : World} {base : Nat} {v : Value} {l : List Value} (h : OwnS w base v l) : RowO v.ownBlock w := fun b e => by
  rcases h.2 with ⟨rfl, _⟩ | ⟨g, cap, cur, rfl, _, hg, _⟩
  · cases e
  · injection e with e
    subst e
    exact ⟨_, _, _, hg⟩
theorem OwnS.own_le {w : World} {base : Nat} {v : Value} {l : List Value} (h : OwnS w base v l) (b : Nat) (e : v.ownBlock = some b) : base ≤ b := by
  rcases h.2 with ⟨rfl, _⟩ | ⟨g, cap, cur, rfl, h2, hg, _⟩
  · cases e
  · injection e with e
    subst e
    exact h2

end Go.Proofs.YtckfepmahjgmfaaDoor.E

namespace Go.Proofs.YtckfepmahjgmfaaDoor.E
open Go.RowKit Go.Shelf Go.Proofs.YtckfepmahjgmfaaDoor.C
set_option linter.unusedSimpArgs false
set_option linter.unusedVariables false
attribute [local go_sem] Oper.semAt_some

/-- The cell of a column and a row. -/
def cellOf_ (css : List (List (List UInt8))) (c r : Nat) : List UInt8 := (css[c]?.getD [])[r]?.getD []
end Go.Proofs.YtckfepmahjgmfaaDoor.E

