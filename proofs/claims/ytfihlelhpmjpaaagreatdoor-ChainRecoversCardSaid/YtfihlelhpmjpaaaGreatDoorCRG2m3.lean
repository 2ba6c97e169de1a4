/- The columns of EVENODD: Right. -/
import Derived.Lib.AppendZeros
import Derived.Laws.OwnMore
import Derived.Test.YtfihlelhpmjpaaaGreatDoorCRG1m3
import Derived.Test.YtfihlelhpmjpaaaGreatDoorCRG2
namespace Go.Proofs.YtfihlelhpmjpaaaGreatDoor.E
open Go.RowKit Go.Shelf Go.Proofs.YtfihlelhpmjpaaaGreatDoor.C
set_option linter.unusedSimpArgs false
set_option linter.unusedVariables false
attribute [local go_sem] Oper.semAt_some


/-- What is answered when it gave up. -/
theorem caught_K (p : Addr) (x : Int) (w : World) (hc : w.cell? p = some (.int .i64 x)) (hz : w.frozen? p = false) :
    CallsD Tryz.prog 203 #[.pointer (some p)] (.panicking gaveUp) w fun e u' w' =>
      e = .returned (.tuple #[]) ∧ u' = .panicking [{ v := .iface 25 (.int .i64 2), recovered := true }] ∧ w' = w.setCell p (.int .i64 2) := by
  have hta := assert_errno
  refine callsD_of_wpS Tryz.func203 rfl fun c₀ cs hu => ?_
  simp only [Tryz.ntmps203, List.size_toArray, List.length_cons, List.length_nil, Nat.reduceAdd, Nat.reduceSub, Array.replicate_succ, Array.replicate_zero, List.push_toArray, List.append_toArray, List.nil_append, List.cons_append]
  apply wpS_seq
  apply wpS_region
  simp [wpOpsS, go_sem, recoverD, hu, Exit.thenS, gaveUp]
  all_goals (refine wpS_of_wp ?_; go_wp2; simp [bodyPostS, results, Tryz.results203])

set_option maxHeartbeats 1000000 in
theorem ans_K_no (f : Nat) (caps : Array Value) (w : World) (hent : ∀ W, (callFunc f caps).run Tryz.prog W = .ok (.enter f caps) W)
    (h : ∀ W, Below w.heap.size w W → Calls Tryz.prog f caps W fun e w' => e = .panicked gaveUp ∧ Below W.heap.size W w') :
    Calls Tryz.prog 152 #[.func (.func f) #[] caps] w fun e w' => e = .returned (.tuple #[.agg #[.int .i64 0, .slice none 0 0], .int .i64 2]) ∧ Below w.heap.size w w' := by
  have hmf : ∀ (fn : Fn) (first cap : Array Value) (w : World), (Instr.makeFunc fn first cap).run Tryz.prog w = .ok (.func fn first cap) w := fun _ _ _ _ => rfl
  have hBa := below_two w (.cells #[.int .i64 0, .slice none 0 0] 166) (.cells #[.int .i64 0] 25)
  have h1 := h _ hBa
  clear h
  go_enter_defers Tryz.func152, Tryz.ntmps152
  go_wp2
  refine h1.mono ?_
  rintro e w1 ⟨rfl, hB1⟩
  obtain ⟨b0, b1⟩ := two_blks w hB1
  have c2 := b1.cell 0
  have f2 := b1.frozen 0
  simp only [List.getElem?_toArray, List.getElem?_cons_zero, List.getElem?_cons_succ] at c2
  have hBw := below_in hBa hB1
  refine leaves_cons (f := 203) (args := #[.pointer (some ⟨w.heap.size + 1, 0, none⟩)]) (by simp) (by simp [go_sem]) ?_
  refine (caught_K ⟨w.heap.size + 1, 0, none⟩ 0 _ c2 f2).mono ?_
  rintro e u' w'' ⟨rfl, rfl, rfl⟩
  obtain ⟨ww, hww⟩ : ∃ ww, w1.setCell ⟨w.heap.size + 1, 0, none⟩ (.int .i64 2) = ww := ⟨_, rfl⟩
  have d0 : Blk ww w.heap.size 166 #[.int .i64 0, .slice none 0 0] := by
    rw [← hww]
    exact Blk.far b0 (by simp) _
  have d1 : Blk ww (w.heap.size + 1) 25 #[.int .i64 2] := by
    rw [← hww]
    exact b1.set_ 0 (.int .i64 2)
  have hBz : Below w.heap.size w ww := by
    rw [← hww]
    exact hBw.setCell (Nat.le_succ _) _
  rw [hww]
  have e0 := d0.cell 0
  have e1 := d0.cell 1
  have e2 := d1.cell 0
  simp only [List.getElem?_toArray, List.getElem?_cons_zero, List.getElem?_cons_succ] at e0 e1 e2
  simp [Go.Leaves, settle, results, Tryz.results152, go_sem, e0, e1, e2]
  exact hBz
def Gave (U : World) : Exit → Act → World → Prop := fun e a w' => e = .panic gaveUp ∧ a.defers = [] ∧ Below U.heap.size U w'
set_option maxRecDepth 100000 in
set_option maxHeartbeats 1000000 in
theorem right_no {B : Nat} (p : Int) (v : Value) (css : List (List (List UInt8))) (w : World) (hL : Laid w) (hB : B ≤ w.heap.size) (hC : Cols B w v css) (hlen : css.length ≤ 1000) (hcl : ∀ j, j < css.length → (css[j]?.getD []).length ≤ 1000) (hno : ¬ RightD p css) :
    Calls Tryz.prog 96 #[.int .i64 p, v] w fun e w' => e = .returned (.bool false) ∧ Below w.heap.size w w' := by
  obtain ⟨A, cap, rfl, _, _⟩ := id hC
  obtain ⟨W2, hW2⟩ : ∃ W2, (w.alloc (.cells #[.int .i64 p] 3)).alloc (.cells #[.slice A css.length cap] 22) = W2 := ⟨_, rfl⟩
  have b0 : Blk W2 w.heap.size 3 #[.int .i64 p] := by rw [← hW2]; exact (Blk.new w _ _).alloc _
  have b1 : Blk W2 (w.heap.size + 1) 22 #[.slice A css.length cap] := by rw [← hW2]; exact Blk.second w _ _ _
  have hBW : Below w.heap.size w W2 := by rw [← hW2]; exact below_two w _ _
  have hL2 := hL.next hBW
  have HA := Lib.hid (ans_K_no 153 #[.pointer (some ⟨w.heap.size, 0, none⟩), .pointer (some ⟨w.heap.size + 1, 0, none⟩)] W2 (enter_right1 _) (fun U hU => by
    have hLU := hL2.next hU
    have hBU := below_in hBW hU
    have hCU := hC.below (hBU.mono hB)
    have c0 := (b0.below hU b0.lt).one
    have c1 := (b1.below hU b1.lt).one
    have hSS := Lib.hid (fun (V : World) (hV : Below U.heap.size U V) => (⟨(hV.cell (p := ⟨w.heap.size, 0, none⟩) (b0.below hU b0.lt).lt).trans c0, (hV.cell (p := ⟨w.heap.size + 1, 0, none⟩) (b1.below hU b1.lt).lt).trans c1⟩ : (fun V : World => V.cell? ⟨w.heap.size, 0, none⟩ = some (.int .i64 p) ∧ V.cell? ⟨w.heap.size + 1, 0, none⟩ = some (.slice A css.length cap)) V))
    have hBz := below_one U (.cells #[.int .i64 0, .slice none 0 0] 166)
    by_cases hp : p ∈ prm
    · have hpp := prm_bounds hp
      have hR : RightC 1 p := ⟨by omega, hp⟩
      have hr : p - 1 = (((p - 1).toNat : Nat) : Int) := by omega
      have HPP := Lib.hid (fun (V : World) (hV : Below U.heap.size U V) => primeOf_yes p hR V (hLU.next hV))
      have HT := Lib.hid (fun (V : World) (hV : Below U.heap.size U V) => together_no (B := B) p _ hR hr (.slice A css.length cap) css V (hLU.next hV) (Nat.le_trans hB (Nat.le_trans hBU.size hV.size)) (hCU.below (hV.mono (Nat.le_trans hB hBU.size))) hlen hcl (fun h => hno ⟨hp, h⟩))
      clear hC hCU hno b0 b1 hW2 hL hL2 hLU hlen hcl hr hR hpp hp
      generalize css.length = n at *
      refine (callsIn_wide (n := 9)).1 ?_
      refine callsIn_of_wp_marks Tryz.func153 rfl trivial ?_ rfl
      simp only [Tryz.ntmps153, List.size_toArray, List.length_cons, List.length_nil, Nat.reduceAdd, Nat.reduceSub, Array.replicate_succ, Array.replicate_zero, List.push_toArray, List.append_toArray, List.nil_append, List.cons_append]
      gi_wp2_with fail
      have hS : (fun V : World => V.cell? ⟨w.heap.size, 0, none⟩ = some (.int .i64 p) ∧ V.cell? ⟨w.heap.size + 1, 0, none⟩ = some (.slice A n cap)) (U.alloc (.cells #[.int .i64 0, .slice none 0 0] 166)).drew := hSS.out _ hBz.drew
      refine wpIn_mono (region_HF (Q := Gave U) (S := (fun V : World => V.cell? ⟨w.heap.size, 0, none⟩ = some (.int .i64 p) ∧ V.cell? ⟨w.heap.size + 1, 0, none⟩ = some (.slice A n cap))) (by kernel_rfl) ?_) (fun e a w' h => by obtain ⟨rfl, hd, hB⟩ := h; obtain ⟨tm, df⟩ := a; have hd' : df = [] := hd; subst hd'; exact ⟨rfl, hB⟩)
      refine anyHF_take (i := 0) (d := 3) (v := .int .i64 p) (by kernel_rfl) rfl (by kernel_rfl) (by kernel_rfl) (by kernel_rfl) rfl (fun _ _ _ h => ⟨h.1, by simpa [Act.put] using h.2.1, h.2.2⟩) ⟨Or.inl ⟨by rfl, fun w hS => by obtain ⟨h0, h1⟩ := hS; go_simp⟩, fun _ => rfl⟩ hS ?_
      simp only [List.setIfInBounds_toArray, List.set_cons_zero, List.set_cons_succ]
      refine anyHF_take (i := 2) (d := 5) (v := .slice A n cap) (by kernel_rfl) rfl (by kernel_rfl) (by kernel_rfl) (by kernel_rfl) rfl (fun _ _ _ h => ⟨h.1, by simpa [Act.put] using h.2.1, h.2.2⟩) ⟨Or.inl ⟨by rfl, fun w hS => by obtain ⟨h0, h1⟩ := hS; go_simp⟩, fun _ => rfl⟩ hS ?_
      simp only [List.setIfInBounds_toArray, List.set_cons_zero, List.set_cons_succ]
      refine anyHF_one (i := 1) (by kernel_rfl) rfl (by kernel_rfl) (by rfl) ?_
      gi_wp2_with fail
      refine ⟨trivial, (callsIn_wide.2 (HPP.out _ hBz.drew)).mono ?_⟩
      rintro e w1 ⟨rfl, hB1⟩
      replace hB1 := below_undrew hB1
      replace hBz := below_in hBz hB1
      clear hS
      have hS : (fun V : World => V.cell? ⟨w.heap.size, 0, none⟩ = some (.int .i64 p) ∧ V.cell? ⟨w.heap.size + 1, 0, none⟩ = some (.slice A n cap)) w1 := hSS.out _ hBz
      gi_wp2
      try (refine ⟨hS, ?_⟩)
      refine anyHF_one (i := 3) (by kernel_rfl) rfl (by kernel_rfl) (by rfl) ?_
      gi_wp2_with fail
      refine ⟨trivial, (callsIn_wide.2 (HT.out _ hBz)).mono ?_⟩
      rintro e w2 ⟨rfl, hB2⟩
      exact ⟨rfl, rfl, below_in hBz hB2⟩
    · have HPP := Lib.hid (fun (V : World) (hV : Below U.heap.size U V) => primeOf_no p (fun h => hp h.2) V (hLU.next hV))
      clear hC hCU hno b0 b1 hW2 hL hL2 hLU hlen hcl hp
      generalize css.length = n at *
      refine (callsIn_wide (n := 9)).1 ?_
      refine callsIn_of_wp_marks Tryz.func153 rfl trivial ?_ rfl
      simp only [Tryz.ntmps153, List.size_toArray, List.length_cons, List.length_nil, Nat.reduceAdd, Nat.reduceSub, Array.replicate_succ, Array.replicate_zero, List.push_toArray, List.append_toArray, List.nil_append, List.cons_append]
      gi_wp2_with fail
      have hS : (fun V : World => V.cell? ⟨w.heap.size, 0, none⟩ = some (.int .i64 p) ∧ V.cell? ⟨w.heap.size + 1, 0, none⟩ = some (.slice A n cap)) (U.alloc (.cells #[.int .i64 0, .slice none 0 0] 166)).drew := hSS.out _ hBz.drew
      refine wpIn_mono (region_HF (Q := Gave U) (S := (fun V : World => V.cell? ⟨w.heap.size, 0, none⟩ = some (.int .i64 p) ∧ V.cell? ⟨w.heap.size + 1, 0, none⟩ = some (.slice A n cap))) (by kernel_rfl) ?_) (fun e a w' h => by obtain ⟨rfl, hd, hB⟩ := h; obtain ⟨tm, df⟩ := a; have hd' : df = [] := hd; subst hd'; exact ⟨rfl, hB⟩)
      refine anyHF_take (i := 0) (d := 3) (v := .int .i64 p) (by kernel_rfl) rfl (by kernel_rfl) (by kernel_rfl) (by kernel_rfl) rfl (fun _ _ _ h => ⟨h.1, by simpa [Act.put] using h.2.1, h.2.2⟩) ⟨Or.inl ⟨by rfl, fun w hS => by obtain ⟨h0, h1⟩ := hS; go_simp⟩, fun _ => rfl⟩ hS ?_
      simp only [List.setIfInBounds_toArray, List.set_cons_zero, List.set_cons_succ]
      refine anyHF_take (i := 2) (d := 5) (v := .slice A n cap) (by kernel_rfl) rfl (by kernel_rfl) (by kernel_rfl) (by kernel_rfl) rfl (fun _ _ _ h => ⟨h.1, by simpa [Act.put] using h.2.1, h.2.2⟩) ⟨Or.inl ⟨by rfl, fun w hS => by obtain ⟨h0, h1⟩ := hS; go_simp⟩, fun _ => rfl⟩ hS ?_
      simp only [List.setIfInBounds_toArray, List.set_cons_zero, List.set_cons_succ]
      refine anyHF_one (i := 1) (by kernel_rfl) rfl (by kernel_rfl) (by rfl) ?_
      gi_wp2_with fail
      refine ⟨trivial, (callsIn_wide.2 (HPP.out _ hBz.drew)).mono ?_⟩
      rintro e w1 ⟨rfl, hB1⟩
      exact ⟨rfl, rfl, below_in hBz (below_undrew hB1)⟩))
  clear hC b0 b1 hL2 hno hlen hcl
  generalize css.length = n at *
  go_enter Tryz.func96, Tryz.ntmps96
  have hmf : ∀ (fn : Fn) (first cap : Array Value) (w : World), (Instr.makeFunc fn first cap).run Tryz.prog w = .ok (.func fn first cap) w := fun _ _ _ _ => rfl
  go_wp2_with (go_at_call 152; refine HA.out.mono ?_; rintro e w1 ⟨rfl, hB1⟩)
  go_ret
  exact ⟨rfl, below_in hBW (below_in hB1 (below_one _ _))⟩
end Go.Proofs.YtfihlelhpmjpaaaGreatDoor.E

