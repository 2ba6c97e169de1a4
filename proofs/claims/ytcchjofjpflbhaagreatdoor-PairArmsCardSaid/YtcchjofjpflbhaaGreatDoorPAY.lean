/- -/
import Derived.Test.YtcchjofjpflbhaaGreatDoorPAG12m1
import Derived.Test.YtcchjofjpflbhaaGreatDoorPAG16m7
import Derived.Test.YtcchjofjpflbhaaGreatDoorPAG20
import Derived.Test.YtcchjofjpflbhaaGreatDoorRows
import Derived.WalkKit
import Derived.WalkSpells
import Derived.WalkLawsBesides
import Derived.Lib.Hide
import Derived.Below
import Derived.Laws.OwnMore
import Derived.Laws.Rows
import Derived.Deep.Draws
import Derived.RangeFuncNested
import Derived.RangeFuncBound
import Derived.RangeFuncCalls
import Derived.RangeFuncLeaves
import Derived.Shelf.Abstract
import Derived.Shelf.RegionOpen
import Derived.OwnWalkIn
import Derived.TacticsInMore
import Derived.LoopNIn
import Derived.LoopIn
import Derived.Maps.AppendAt
import Derived.ProofKit
import Derived.OpenShut
import Derived.Deep.DeepCutAuto
import Derived.Deep.RegionHeld3
import Derived.BigRegion
import Derived.Deep.QuietTactic
import Derived.BigQuiet
import Derived.Deep.RegionWith
import Derived.Outline
import Derived.WalkMore
import Derived.ScopeJumps
import Derived.IntWalk
import Derived.Deep.RegionLaw
import Derived.Sort.LoopGhostIn
import Derived.ShutString
import Derived.ChangeOld
import Derived.LaidMore
import Derived.Stop.Joined
import Derived.MakeChecks
import Derived.Lib.LaidTab
import Derived.Laws.BitsAllLaws
import Derived.Deep.AppendLies
import Derived.Laws.BytesArg
import Derived.Recover
import Derived.Defers
import Derived.Lib.BitFns
import Derived.Lib.Walk
import Derived.Lib.Small
import Derived.Laws.ShiftsVarLaws
import Derived.Lib.SliceRun
import Derived.ArgAppend
import Derived.Laws.IdiomCopy
import Derived.Lib.AppendZeros
import Derived.OrdersIn
import Derived.OrdersHeld
import Derived.Maps.OwnIn
import Derived.BigFrame
import Derived.Deep.Matrix
import Derived.Laws.CopyOwn
import Derived.Laws.Tables
import Derived.Deep.WholeRow
import Derived.Great.BuildSlice
import Derived.Laws.EntriesVeiled
import Derived.Deep.Upon
import Derived.Laws.StructEq
import Derived.Maps.OwnSet
namespace Go.Proofs.YtcchjofjpflbhaaGreatDoor
open Go.RowKit

section
variable {w w' : World} {g : Nat} {t : TypeId} {cs : Array Value}
end

section
variable {W W' : World} {B B' : Nat} {v : Value} {l : List Int}
end

theorem laidOut : laidOutB Tryz.prog = true := by kernel_rfl
end Go.Proofs.YtcchjofjpflbhaaGreatDoor

namespace Go.Proofs.YtcchjofjpflbhaaGreatDoor
open Go.RowKit

end Go.Proofs.YtcchjofjpflbhaaGreatDoor

namespace Go.Proofs.YtcchjofjpflbhaaGreatDoor
open Go.RowKit

section
variable {β : Type} {B k : Nat} {I I' : β → World → Prop} {X Y Z : World}
end

end Go.Proofs.YtcchjofjpflbhaaGreatDoor

namespace Go.Proofs.YtcchjofjpflbhaaGreatDoor
open Go.RowKit Go.Shelf
attribute [local go_sem] Oper.semAt_some

end Go.Proofs.YtcchjofjpflbhaaGreatDoor

namespace Go.Proofs.YtcchjofjpflbhaaGreatDoor
open Go.RowKit Go.Shelf

end Go.Proofs.YtcchjofjpflbhaaGreatDoor

namespace Go.Proofs.YtcchjofjpflbhaaGreatDoor
open Go.RowKit Go.Shelf

end Go.Proofs.YtcchjofjpflbhaaGreatDoor

namespace Go.Proofs.YtcchjofjpflbhaaGreatDoor
open Go.RowKit Go.Shelf
attribute [local go_sem] Oper.semAt_some

end Go.Proofs.YtcchjofjpflbhaaGreatDoor

namespace Go.Proofs.YtcchjofjpflbhaaGreatDoor
open Go.RowKit Go.Shelf

end Go.Proofs.YtcchjofjpflbhaaGreatDoor

namespace Go.Proofs.YtcchjofjpflbhaaGreatDoor
open Go.RowKit Go.Shelf
attribute [local go_sem] Oper.semAt_some

end Go.Proofs.YtcchjofjpflbhaaGreatDoor

namespace Go.Proofs.YtcchjofjpflbhaaGreatDoor
open Go.RowKit

set_option maxHeartbeats 400000 in
theorem at_any (p n : Int) (w : World) : Calls Tryz.prog 15 #[.int .i64 p, .int .i64 n] w fun e w' => e = .returned (.bool (decide (0 ≤ n ∧ n < p))) ∧ w = w' := by
  by_cases h1 : 0 ≤ n
  · have d1 : decide (0 ≤ n) = true := by simpa using h1
    go_enter Tryz.func15, Tryz.ntmps15
    go_wp2
    go_ret
    exact ⟨ret_bool (by rw [decide_eq_decide]; omega), rfl⟩
  · have d1 : decide (0 ≤ n) = false := by simpa using h1
    go_enter Tryz.func15, Tryz.ntmps15
    go_wp2
    go_ret
    exact ⟨rfl, rfl⟩

end Go.Proofs.YtcchjofjpflbhaaGreatDoor

namespace Go.Proofs.YtcchjofjpflbhaaGreatDoor
open Go.RowKit Go.Shelf
set_option linter.unusedVariables false

end Go.Proofs.YtcchjofjpflbhaaGreatDoor


namespace Go.Proofs.YtcchjofjpflbhaaGreatDoor.Pr
open Go.RowKit Go.Shelf Go.Proofs.YtcchjofjpflbhaaGreatDoor.C Go.Proofs.YtcchjofjpflbhaaGreatDoor.E
set_option linter.unusedSimpArgs false
set_option linter.unusedVariables false

/-- What is answered when it gave up. -/
theorem caught_Q (p : Addr) (x y : Int) (w : World) (hc : w.cell? p = some (.int .i64 x)) (hz : w.frozen? p = false) :
    CallsD Tryz.prog 96 #[.pointer (some p)] (.panicking (gave y)) w fun e u' w' =>
      e = .returned (.tuple #[]) ∧ u' = .panicking [{ v := .iface 34 (.int .i64 y), recovered := true }] ∧ w' = w.setCell p (.int .i64 y) := by
  have hta := assert_errnoX
  refine callsD_of_wpS Tryz.func96 rfl fun c₀ cs hu => ?_
  simp only [Tryz.ntmps96, List.size_toArray, List.length_cons, List.length_nil, Nat.reduceAdd, Nat.reduceSub, Array.replicate_succ, Array.replicate_zero, List.push_toArray, List.append_toArray, List.nil_append, List.cons_append]
  apply wpS_seq
  apply wpS_region
  simp [wpOpsS, go_sem, recoverD, hu, Exit.thenS, gave]
  all_goals (refine wpS_of_wp ?_; go_wp2; simp [bodyPostS, results, Tryz.results96])
set_option maxHeartbeats 400000 in
theorem ans_Q_no (y : Int) (f : Nat) (caps : Array Value) (w : World) (hent : ∀ W, (callFunc f caps).run Tryz.prog W = .ok (.enter f caps) W)
    (h : ∀ W, Below w.heap.size w W → w.heap.size < W.heap.size → Calls Tryz.prog f caps W fun e w' => e = .panicked (gave y) ∧ Below W.heap.size W w') :
    Calls Tryz.prog 51 #[.func (.func f) #[] caps] w fun e w' => e = .returned (.tuple #[.nilFunc, .int .i64 y]) ∧ Below w.heap.size w w' := by
  have hmf : ∀ (fn : Fn) (first cap : Array Value) (w : World), (Instr.makeFunc fn first cap).run Tryz.prog w = .ok (.func fn first cap) w := fun _ _ _ _ => rfl
  have h1 := h (w.alloc (.cells #[.int .i64 0] 34)) ((Below.refl _ w).alloc (Nat.le_refl _) _) (by simp)
  clear h
  go_enter_defers Tryz.func51, Tryz.ntmps51
  go_wp2
  refine h1.mono ?_
  rintro e w1 ⟨rfl, hB1⟩
  have b1 : Blk w1 w.heap.size 34 #[.int .i64 0] := (Blk.new w _ _).below hB1 (by simp)
  have c1 := b1.cell 0
  have f1 := b1.frozen 0
  simp only [List.getElem?_toArray, List.getElem?_cons_zero] at c1
  refine leaves_cons (f := 96) (args := #[.pointer (some ⟨w.heap.size, 0, none⟩)]) (by simp) (by simp [go_sem]) ?_
  refine (caught_Q ⟨w.heap.size, 0, none⟩ 0 y _ c1 f1).mono ?_
  rintro e u' w'' ⟨rfl, rfl, rfl⟩
  have c2 : (w1.setCell ⟨w.heap.size, 0, none⟩ (.int .i64 y)).cell? ⟨w.heap.size, 0, none⟩ = some (.int .i64 y) := World.cell?_setCell_same' _ _ _ (by rw [c1]; rfl)
  simp [Go.Leaves, settle, results, Tryz.results51, go_sem, c2]
  exact (((Below.refl _ w).alloc (Nat.le_refl _) _).trans (hB1.mono (by simp))).setCell (Nat.le_refl _) _

end Go.Proofs.YtcchjofjpflbhaaGreatDoor.Pr

namespace Go.Proofs.YtcchjofjpflbhaaGreatDoor.Pr
open Go.RowKit Go.Shelf Go.Proofs.YtcchjofjpflbhaaGreatDoor.C Go.Proofs.YtcchjofjpflbhaaGreatDoor.E
set_option linter.unusedSimpArgs false
set_option linter.unusedVariables false
attribute [local go_sem] Oper.semAt_some

end Go.Proofs.YtcchjofjpflbhaaGreatDoor.Pr

namespace Go.Proofs.YtcchjofjpflbhaaGreatDoor.Pr
open Go.RowKit Go.Shelf Go.Proofs.YtcchjofjpflbhaaGreatDoor.C Go.Proofs.YtcchjofjpflbhaaGreatDoor.E
set_option linter.unusedSimpArgs false
set_option linter.unusedVariables false
attribute [local go_sem] Oper.semAt_some

end Go.Proofs.YtcchjofjpflbhaaGreatDoor.Pr

namespace Go.Proofs.YtcchjofjpflbhaaGreatDoor.Pr
open Go.RowKit Go.Shelf Go.Proofs.YtcchjofjpflbhaaGreatDoor.C Go.Proofs.YtcchjofjpflbhaaGreatDoor.E
set_option linter.unusedSimpArgs false
set_option linter.unusedVariables false
attribute [local go_sem] Oper.semAt_some

end Go.Proofs.YtcchjofjpflbhaaGreatDoor.Pr

namespace Go.Proofs.YtcchjofjpflbhaaGreatDoor.Ch
open Go.RowKit Go.Shelf Go.Proofs.YtcchjofjpflbhaaGreatDoor.C Go.Proofs.YtcchjofjpflbhaaGreatDoor.E
set_option linter.unusedSimpArgs false
set_option linter.unusedVariables false

end Go.Proofs.YtcchjofjpflbhaaGreatDoor.Ch

namespace Go.Proofs.YtcchjofjpflbhaaGreatDoor.Ch
open Go.RowKit Go.Shelf Go.Proofs.YtcchjofjpflbhaaGreatDoor.C Go.Proofs.YtcchjofjpflbhaaGreatDoor.E
set_option linter.unusedSimpArgs false
set_option linter.unusedVariables false
attribute [local go_sem] Oper.semAt_some

end Go.Proofs.YtcchjofjpflbhaaGreatDoor.Ch

namespace Go.Proofs.YtcchjofjpflbhaaGreatDoor.T
open Go.RowKit Go.Shelf Go.Maps Go.Proofs.YtcchjofjpflbhaaGreatDoor.C Go.Proofs.YtcchjofjpflbhaaGreatDoor.E Go.Proofs.YtcchjofjpflbhaaGreatDoor.Ch
set_option linter.unusedSimpArgs false
set_option linter.unusedVariables false
attribute [local go_sem] Oper.semAt_some

theorem pre_at {α : Type} {l pre : List α} {x : α} (h : pre ++ [x] <+: l) : pre.length < l.length ∧ l[pre.length]? = some x := by
  obtain ⟨t, rfl⟩ := h
  refine ⟨by simp, ?_⟩
  rw [List.append_assoc, List.getElem?_append_right (Nat.le_refl _), Nat.sub_self]
  rfl
end Go.Proofs.YtcchjofjpflbhaaGreatDoor.T

namespace Go.Proofs.YtcchjofjpflbhaaGreatDoor.Ch
open Go.RowKit Go.Shelf Go.Proofs.YtcchjofjpflbhaaGreatDoor.C Go.Proofs.YtcchjofjpflbhaaGreatDoor.E
set_option linter.unusedSimpArgs false
set_option linter.unusedVariables false
attribute [local go_sem] Oper.semAt_some

theorem readA_nil (W : World) : ReadA W (.slice none 0 0) [] := ⟨none, 0, rfl, fun j hj => absurd hj (Nat.not_lt_zero _)⟩
end Go.Proofs.YtcchjofjpflbhaaGreatDoor.Ch


namespace Go.Proofs.YtcchjofjpflbhaaGreatDoor.T
open Go.RowKit Go.Shelf Go.Maps Go.Proofs.YtcchjofjpflbhaaGreatDoor.C Go.Proofs.YtcchjofjpflbhaaGreatDoor.E Go.Proofs.YtcchjofjpflbhaaGreatDoor.Pr
set_option linter.unusedSimpArgs false
set_option linter.unusedVariables false
attribute [local go_sem] Oper.semAt_some

/-- Gives up with an error's number. -/
def GaveP (y : Int) (U : World) : Exit → Act → World → Prop := fun e a w' => e = .panic (Pr.gave y) ∧ a.defers = [] ∧ Below U.heap.size U w'
theorem enter_Arm2 : ∀ args W, (callFunc 55 args).run Tryz.prog W = .ok (.enter 55 args) W := enters_of Tryz.func55 (by kernel_rfl) rfl
theorem noneA_in (n l : Nat) (J Jx : List (Int × Int) → (Nat → Prop) → World → Prop) (W : World) (o₀ : (Nat → Prop)) (h0 : J [] o₀ W) :
    CallsIn Fence.wide n Tryz.prog 55 #[.func (.yield l) #[] #[]] W fun e W' => (∃ v, e = .returned v) ∧ ∃ o', FreshO o₀ o' W ∧ ((∃ ys : List (Int × Int), ys = [] ∧ J ys o' W') ∨ (∃ pre, pre <+: [] ∧ Jx pre o' W')) := by
  refine callsIn_of_wp Tryz.func55 rfl trivial ?_ rfl
  simp only [Tryz.ntmps55, List.size_toArray, List.length_cons, List.length_nil, Nat.reduceAdd, Nat.reduceSub, Array.replicate_succ, Array.replicate_zero, List.push_toArray, List.append_toArray, List.nil_append, List.cons_append]
  gi_wp2
  go_end0
  exact ⟨⟨_, rfl⟩, o₀, FreshO.refl _ _, .inl ⟨_, rfl, h0⟩⟩
theorem places_none (lo : Nat) (w : World) : PlacesT lo [] (.func (.func 55) #[] #[]) w :=
  ⟨_, #[], rfl, enter_Arm2, fun _ => by kernel_rfl, fun n _ l J Jx W o₀ _ _ _ _ _ _ _ h0 => noneA_in n l J Jx W o₀ h0⟩
theorem bad_mm {p x y : Int} (h : ¬ (x ≠ y ∧ (0 ≤ x ∧ x < p) ∧ 0 ≤ y ∧ y < p)) : ∃ z, z < [min x y, max x y].length ∧ (∀ i, i < z → Pr.GoodL p [min x y, max x y] i) ∧ ¬ Pr.GoodL p [min x y, max x y] z := by
  by_cases h1 : 0 ≤ min x y ∧ min x y < p
  · refine ⟨1, by simp, fun i hi => ?_, ?_⟩
    · obtain rfl : i = 0 := by omega
      exact ⟨h1, .inl rfl⟩
    · rintro ⟨h2, h3⟩
      replace h2 : 0 ≤ max x y ∧ max x y < p := h2
      rcases h3 with h3 | h3
      · exact absurd h3 (by omega)
      · replace h3 : min x y < max x y := h3
        exact h ⟨by omega, by omega, by omega⟩
  · exact ⟨0, by simp, fun i hi => absurd hi (by omega), fun h2 => h1 h2.1⟩
set_option maxRecDepth 100000 in
set_option maxHeartbeats 4000000 in
theorem Arm_no2 (p x y : Int) (hno : p ∉ prm) (w : World) (hL : Laid w) :
    Calls Tryz.prog 17 #[.int .i64 p, .int .i64 x, .int .i64 y] w fun e w' => ∃ v, e = .returned v ∧ PlacesT w.heap.size [] v w' ∧ Below w.heap.size w w' := by
  obtain ⟨W2, hW2⟩ : ∃ zz, ((w.alloc (.cells #[.int .i64 p] 3)).alloc (.cells #[.int .i64 x] 3)).alloc (.cells #[.int .i64 y] 3) = zz := ⟨_, rfl⟩
  have b0 : Blk W2 (w.heap.size) 3 #[.int .i64 p] := by rw [← hW2]; exact ((Blk.new w _ _).alloc _).alloc _
  have b1 : Blk W2 (w.heap.size + 1) 3 #[.int .i64 x] := by rw [← hW2]; exact (Blk.second w _ _ _).alloc _
  have b2 : Blk W2 (w.heap.size + 1 + 1) 3 #[.int .i64 y] := by rw [← hW2]; exact Rg.Blk.at_ (Blk.new _ _ _) (by simp)
  have hBW : Below w.heap.size w W2 := by rw [← hW2]; exact ((below_two w _ _)).alloc (by simp; omega) _
  obtain ⟨W2b, hW2b⟩ : ∃ zz, w.heap.size = zz := ⟨_, rfl⟩
  obtain ⟨W2c, hW2c⟩ : ∃ zz, w.heap.size + 1 = zz := ⟨_, rfl⟩
  obtain ⟨W2d, hW2d⟩ : ∃ zz, w.heap.size + 1 + 1 = zz := ⟨_, rfl⟩
  have HA := Lib.hid (ans_Q_no 2 52 #[.pointer (some ⟨w.heap.size, 0, none⟩), .pointer (some ⟨w.heap.size + 1, 0, none⟩), .pointer (some ⟨w.heap.size + 1 + 1, 0, none⟩)] W2 (enter_Arm1 _) (fun U hU hlt => by
    have hBU := below_in hBW hU
    have HLO := Lib.hid (fun (V : World) (g : Nat) (hV : Below U.heap.size U V) (bE : Blk V g 3 #[.int .i64 (min x y), .int .i64 (max x y)]) => losing_no2 p hno (some ⟨g, 0, none⟩) 2 2 V (hL.next (below_in hBU hV)))
    have HSS : Hid (∀ V, Below U.heap.size U V → (fun U : World => U.cell? ⟨W2b, 0, none⟩ = some (.int .i64 p) ∧ U.cell? ⟨W2c, 0, none⟩ = some (.int .i64 x) ∧ U.cell? ⟨W2d, 0, none⟩ = some (.int .i64 y)) V) := by
      rw [← hW2b, ← hW2c, ← hW2d]
      exact fun V hV => ⟨((b0.below hU b0.lt).below hV (Nat.lt_of_lt_of_le b0.lt hU.size)).one, ((b1.below hU b1.lt).below hV (Nat.lt_of_lt_of_le b1.lt hU.size)).one, ((b2.below hU b2.lt).below hV (Nat.lt_of_lt_of_le b2.lt hU.size)).one⟩
    have hBx := (Below.refl U.heap.size U).drew
    rw [hW2d, hW2c, hW2b]
    clear b0 b1 b2 hW2 hL hW2d hW2c hW2b hno
    refine (callsIn_wide (n := 9)).1 ?_
    refine callsIn_of_wp_marks Tryz.func52 rfl trivial ?_ rfl
    simp only [Tryz.ntmps52, List.size_toArray, List.length_cons, List.length_nil, Nat.reduceAdd, Nat.reduceSub, Array.replicate_succ, Array.replicate_zero, List.push_toArray, List.append_toArray, List.nil_append, List.cons_append]
    gi_wp2_with fail
    have hS : (fun U : World => U.cell? ⟨W2b, 0, none⟩ = some (.int .i64 p) ∧ U.cell? ⟨W2c, 0, none⟩ = some (.int .i64 x) ∧ U.cell? ⟨W2d, 0, none⟩ = some (.int .i64 y)) U.drew := HSS.out _ hBx
    refine wpIn_mono (region_HF (Q := GaveP 2 U) (S := (fun U : World => U.cell? ⟨W2b, 0, none⟩ = some (.int .i64 p) ∧ U.cell? ⟨W2c, 0, none⟩ = some (.int .i64 x) ∧ U.cell? ⟨W2d, 0, none⟩ = some (.int .i64 y))) (by kernel_rfl) ?_) (fun e a w' h => by obtain ⟨rfl, hd, hB⟩ := h; obtain ⟨tm, df⟩ := a; have hd' : df = [] := hd; subst hd'; exact ⟨rfl, hB⟩)
    refine anyHF_take (i := 0) (d := 4) (v := .int .i64 p) (by kernel_rfl) rfl (by kernel_rfl) (by kernel_rfl) (by kernel_rfl) rfl (fun _ _ _ h => h) ⟨Or.inl ⟨by rfl, fun w hS => by obtain ⟨h0, h1, h2⟩ := hS; go_simp⟩, fun _ => rfl⟩ hS ?_
    simp only [List.setIfInBounds_toArray, List.set_cons_zero, List.set_cons_succ]
    refine anyHF_take (i := 1) (d := 5) (v := .int .i64 x) (by kernel_rfl) rfl (by kernel_rfl) (by kernel_rfl) (by kernel_rfl) rfl (fun _ _ _ h => h) ⟨Or.inl ⟨by rfl, fun w hS => by obtain ⟨h0, h1, h2⟩ := hS; go_simp⟩, fun _ => rfl⟩ hS ?_
    simp only [List.setIfInBounds_toArray, List.set_cons_zero, List.set_cons_succ]
    refine anyHF_take (i := 2) (d := 6) (v := .int .i64 y) (by kernel_rfl) rfl (by kernel_rfl) (by kernel_rfl) (by kernel_rfl) rfl (fun _ _ _ h => h) ⟨Or.inl ⟨by rfl, fun w hS => by obtain ⟨h0, h1, h2⟩ := hS; go_simp⟩, fun _ => rfl⟩ hS ?_
    simp only [List.setIfInBounds_toArray, List.set_cons_zero, List.set_cons_succ]
    refine anyHF_take (i := 4) (d := 8) (v := .int .i64 x) (by kernel_rfl) rfl (by kernel_rfl) (by kernel_rfl) (by kernel_rfl) rfl (fun _ _ _ h => h) ⟨Or.inl ⟨by rfl, fun w hS => by obtain ⟨h0, h1, h2⟩ := hS; go_simp⟩, fun _ => rfl⟩ hS ?_
    simp only [List.setIfInBounds_toArray, List.set_cons_zero, List.set_cons_succ]
    refine anyHF_take (i := 5) (d := 9) (v := .int .i64 y) (by kernel_rfl) rfl (by kernel_rfl) (by kernel_rfl) (by kernel_rfl) rfl (fun _ _ _ h => h) ⟨Or.inl ⟨by rfl, fun w hS => by obtain ⟨h0, h1, h2⟩ := hS; go_simp⟩, fun _ => rfl⟩ hS ?_
    simp only [List.setIfInBounds_toArray, List.set_cons_zero, List.set_cons_succ]
    refine anyHF_take (i := 9) (d := 13) (v := .int .i64 x) (by kernel_rfl) rfl (by kernel_rfl) (by kernel_rfl) (by kernel_rfl) rfl (fun _ _ _ h => h) ⟨Or.inl ⟨by rfl, fun w hS => by obtain ⟨h0, h1, h2⟩ := hS; go_simp⟩, fun _ => rfl⟩ hS ?_
    simp only [List.setIfInBounds_toArray, List.set_cons_zero, List.set_cons_succ]
    refine anyHF_take (i := 10) (d := 14) (v := .int .i64 y) (by kernel_rfl) rfl (by kernel_rfl) (by kernel_rfl) (by kernel_rfl) rfl (fun _ _ _ h => h) ⟨Or.inl ⟨by rfl, fun w hS => by obtain ⟨h0, h1, h2⟩ := hS; go_simp⟩, fun _ => rfl⟩ hS ?_
    simp only [List.setIfInBounds_toArray, List.set_cons_zero, List.set_cons_succ]
    refine Rg.anyHF_both (i := 3) (j := 6) (by kernel_rfl) rfl rfl (by rfl) (by rfl) ?c1a ?c1b
    case c1a =>
      gi_wp2
      try (refine ⟨hS, ?_⟩)
      refine anyHF_one (i := 6) (by kernel_rfl) rfl (by kernel_rfl) (by rfl) ?_
      gi_wp2
      try (refine ⟨hS, ?_⟩)
      refine anyHF_one (i := 7) (by kernel_rfl) rfl (by kernel_rfl) (by rfl) ?_
      have hgl_g3 := hBx.size
      have hB : Below U.drew.heap.size U.drew (U.drew.alloc (.cells #[.int .i64 (min x y), .int .i64 (max x y)] 3)) := below_one U.drew _
      have bE : Blk (U.drew.alloc (.cells #[.int .i64 (min x y), .int .i64 (max x y)] 3)) U.drew.heap.size 3 #[.int .i64 (min x y), .int .i64 (max x y)] := Blk.new U.drew _ _
      obtain ⟨v2, he_v2⟩ : ∃ zz, (U.drew.alloc (.cells #[.int .i64 (min x y), .int .i64 (max x y)] 3)) = zz := ⟨_, rfl⟩
      obtain ⟨g3, hg_g3⟩ : ∃ zz, U.drew.heap.size = zz := ⟨_, rfl⟩
      rw [he_v2] at hB bE
      rw [hg_g3] at bE
      replace hBx := below_in hBx hB
      clear hS
      have hS : (fun U : World => U.cell? ⟨W2b, 0, none⟩ = some (.int .i64 p) ∧ U.cell? ⟨W2c, 0, none⟩ = some (.int .i64 x) ∧ U.cell? ⟨W2d, 0, none⟩ = some (.int .i64 y)) v2 := HSS.out _ hBx
      gi_wp2
      (try rw [hg_g3]); (try rw [he_v2])
      try (refine ⟨hS, ?_⟩)
      clear hB he_v2 hg_g3
      refine anyHF_one (i := 8) (by kernel_rfl) rfl (by kernel_rfl) (by rfl) ?_
      gi_wp2_with fail
      refine ⟨trivial, (callsIn_wide.2 (HLO.out _ _ hBx bE)).mono ?_⟩
      rintro e wz ⟨rfl, hB⟩
      exact ⟨rfl, rfl, below_in hBx hB⟩
    case c1b =>
      gi_wp2
      try (refine ⟨hS, ?_⟩)
      refine anyHF_one (i := 3) (by kernel_rfl) rfl (by kernel_rfl) (by rfl) ?_
      gi_wp2
      try (refine ⟨hS, ?_⟩)
      refine anyHF_one (i := 7) (by kernel_rfl) rfl (by kernel_rfl) (by rfl) ?_
      have hgl_g5 := hBx.size
      have hB : Below U.drew.heap.size U.drew (U.drew.alloc (.cells #[.int .i64 (min x y), .int .i64 (max x y)] 3)) := below_one U.drew _
      have bE : Blk (U.drew.alloc (.cells #[.int .i64 (min x y), .int .i64 (max x y)] 3)) U.drew.heap.size 3 #[.int .i64 (min x y), .int .i64 (max x y)] := Blk.new U.drew _ _
      obtain ⟨v4, he_v4⟩ : ∃ zz, (U.drew.alloc (.cells #[.int .i64 (min x y), .int .i64 (max x y)] 3)) = zz := ⟨_, rfl⟩
      obtain ⟨g5, hg_g5⟩ : ∃ zz, U.drew.heap.size = zz := ⟨_, rfl⟩
      rw [he_v4] at hB bE
      rw [hg_g5] at bE
      replace hBx := below_in hBx hB
      clear hS
      have hS : (fun U : World => U.cell? ⟨W2b, 0, none⟩ = some (.int .i64 p) ∧ U.cell? ⟨W2c, 0, none⟩ = some (.int .i64 x) ∧ U.cell? ⟨W2d, 0, none⟩ = some (.int .i64 y)) v4 := HSS.out _ hBx
      gi_wp2
      (try rw [hg_g5]); (try rw [he_v4])
      try (refine ⟨hS, ?_⟩)
      clear hB he_v4 hg_g5
      refine anyHF_one (i := 8) (by kernel_rfl) rfl (by kernel_rfl) (by rfl) ?_
      gi_wp2_with fail
      refine ⟨trivial, (callsIn_wide.2 (HLO.out _ _ hBx bE)).mono ?_⟩
      rintro e wz ⟨rfl, hB⟩
      exact ⟨rfl, rfl, below_in hBx hB⟩))
  clear b0 b1 b2 hL hW2d hW2c hW2b hno
  go_enter Tryz.func17, Tryz.ntmps17
  have hmf : ∀ (fn : Fn) (first cap : Array Value) (w : World), (Instr.makeFunc fn first cap).run Tryz.prog w = .ok (.func fn first cap) w := fun _ _ _ _ => rfl
  go_wp2_with (go_at_call 51; refine HA.out.mono ?_; rintro e w1 ⟨rfl, hB1⟩)
  go_ret
  exact ⟨_, rfl, places_none _ _, below_in hBW hB1⟩
set_option maxRecDepth 100000 in
set_option maxHeartbeats 4000000 in
theorem Arm_no4 (p x y : Int) (hp : p ∈ prm) (hno : ¬ (x ≠ y ∧ (0 ≤ x ∧ x < p) ∧ 0 ≤ y ∧ y < p)) (w : World) (hL : Laid w) :
    Calls Tryz.prog 17 #[.int .i64 p, .int .i64 x, .int .i64 y] w fun e w' => ∃ v, e = .returned v ∧ PlacesT w.heap.size [] v w' ∧ Below w.heap.size w w' := by
  obtain ⟨W2, hW2⟩ : ∃ zz, ((w.alloc (.cells #[.int .i64 p] 3)).alloc (.cells #[.int .i64 x] 3)).alloc (.cells #[.int .i64 y] 3) = zz := ⟨_, rfl⟩
  have b0 : Blk W2 (w.heap.size) 3 #[.int .i64 p] := by rw [← hW2]; exact ((Blk.new w _ _).alloc _).alloc _
  have b1 : Blk W2 (w.heap.size + 1) 3 #[.int .i64 x] := by rw [← hW2]; exact (Blk.second w _ _ _).alloc _
  have b2 : Blk W2 (w.heap.size + 1 + 1) 3 #[.int .i64 y] := by rw [← hW2]; exact Rg.Blk.at_ (Blk.new _ _ _) (by simp)
  have hBW : Below w.heap.size w W2 := by rw [← hW2]; exact ((below_two w _ _)).alloc (by simp; omega) _
  obtain ⟨W2b, hW2b⟩ : ∃ zz, w.heap.size = zz := ⟨_, rfl⟩
  obtain ⟨W2c, hW2c⟩ : ∃ zz, w.heap.size + 1 = zz := ⟨_, rfl⟩
  obtain ⟨W2d, hW2d⟩ : ∃ zz, w.heap.size + 1 + 1 = zz := ⟨_, rfl⟩
  have HA := Lib.hid (ans_Q_no 4 52 #[.pointer (some ⟨w.heap.size, 0, none⟩), .pointer (some ⟨w.heap.size + 1, 0, none⟩), .pointer (some ⟨w.heap.size + 1 + 1, 0, none⟩)] W2 (enter_Arm1 _) (fun U hU hlt => by
    have hBU := below_in hBW hU
    obtain ⟨z, hz1, hz2, hz3⟩ := bad_mm hno
    have HLO := Lib.hid (fun (V : World) (g : Nat) (hV : Below U.heap.size U V) (bE : Blk V g 3 #[.int .i64 (min x y), .int .i64 (max x y)]) => losing_no p hp g [min x y, max x y] (by simp) z hz1 hz2 hz3 V (hL.next (below_in hBU hV)) bE.lt (two_cells bE))
    have HSS : Hid (∀ V, Below U.heap.size U V → (fun U : World => U.cell? ⟨W2b, 0, none⟩ = some (.int .i64 p) ∧ U.cell? ⟨W2c, 0, none⟩ = some (.int .i64 x) ∧ U.cell? ⟨W2d, 0, none⟩ = some (.int .i64 y)) V) := by
      rw [← hW2b, ← hW2c, ← hW2d]
      exact fun V hV => ⟨((b0.below hU b0.lt).below hV (Nat.lt_of_lt_of_le b0.lt hU.size)).one, ((b1.below hU b1.lt).below hV (Nat.lt_of_lt_of_le b1.lt hU.size)).one, ((b2.below hU b2.lt).below hV (Nat.lt_of_lt_of_le b2.lt hU.size)).one⟩
    have hBx := (Below.refl U.heap.size U).drew
    rw [hW2d, hW2c, hW2b]
    clear b0 b1 b2 hW2 hL hW2d hW2c hW2b hno hp hz1 hz2 hz3
    refine (callsIn_wide (n := 9)).1 ?_
    refine callsIn_of_wp_marks Tryz.func52 rfl trivial ?_ rfl
    simp only [Tryz.ntmps52, List.size_toArray, List.length_cons, List.length_nil, Nat.reduceAdd, Nat.reduceSub, Array.replicate_succ, Array.replicate_zero, List.push_toArray, List.append_toArray, List.nil_append, List.cons_append]
    gi_wp2_with fail
    have hS : (fun U : World => U.cell? ⟨W2b, 0, none⟩ = some (.int .i64 p) ∧ U.cell? ⟨W2c, 0, none⟩ = some (.int .i64 x) ∧ U.cell? ⟨W2d, 0, none⟩ = some (.int .i64 y)) U.drew := HSS.out _ hBx
    refine wpIn_mono (region_HF (Q := GaveP 4 U) (S := (fun U : World => U.cell? ⟨W2b, 0, none⟩ = some (.int .i64 p) ∧ U.cell? ⟨W2c, 0, none⟩ = some (.int .i64 x) ∧ U.cell? ⟨W2d, 0, none⟩ = some (.int .i64 y))) (by kernel_rfl) ?_) (fun e a w' h => by obtain ⟨rfl, hd, hB⟩ := h; obtain ⟨tm, df⟩ := a; have hd' : df = [] := hd; subst hd'; exact ⟨rfl, hB⟩)
    refine anyHF_take (i := 0) (d := 4) (v := .int .i64 p) (by kernel_rfl) rfl (by kernel_rfl) (by kernel_rfl) (by kernel_rfl) rfl (fun _ _ _ h => h) ⟨Or.inl ⟨by rfl, fun w hS => by obtain ⟨h0, h1, h2⟩ := hS; go_simp⟩, fun _ => rfl⟩ hS ?_
    simp only [List.setIfInBounds_toArray, List.set_cons_zero, List.set_cons_succ]
    refine anyHF_take (i := 1) (d := 5) (v := .int .i64 x) (by kernel_rfl) rfl (by kernel_rfl) (by kernel_rfl) (by kernel_rfl) rfl (fun _ _ _ h => h) ⟨Or.inl ⟨by rfl, fun w hS => by obtain ⟨h0, h1, h2⟩ := hS; go_simp⟩, fun _ => rfl⟩ hS ?_
    simp only [List.setIfInBounds_toArray, List.set_cons_zero, List.set_cons_succ]
    refine anyHF_take (i := 2) (d := 6) (v := .int .i64 y) (by kernel_rfl) rfl (by kernel_rfl) (by kernel_rfl) (by kernel_rfl) rfl (fun _ _ _ h => h) ⟨Or.inl ⟨by rfl, fun w hS => by obtain ⟨h0, h1, h2⟩ := hS; go_simp⟩, fun _ => rfl⟩ hS ?_
    simp only [List.setIfInBounds_toArray, List.set_cons_zero, List.set_cons_succ]
    refine anyHF_take (i := 4) (d := 8) (v := .int .i64 x) (by kernel_rfl) rfl (by kernel_rfl) (by kernel_rfl) (by kernel_rfl) rfl (fun _ _ _ h => h) ⟨Or.inl ⟨by rfl, fun w hS => by obtain ⟨h0, h1, h2⟩ := hS; go_simp⟩, fun _ => rfl⟩ hS ?_
    simp only [List.setIfInBounds_toArray, List.set_cons_zero, List.set_cons_succ]
    refine anyHF_take (i := 5) (d := 9) (v := .int .i64 y) (by kernel_rfl) rfl (by kernel_rfl) (by kernel_rfl) (by kernel_rfl) rfl (fun _ _ _ h => h) ⟨Or.inl ⟨by rfl, fun w hS => by obtain ⟨h0, h1, h2⟩ := hS; go_simp⟩, fun _ => rfl⟩ hS ?_
    simp only [List.setIfInBounds_toArray, List.set_cons_zero, List.set_cons_succ]
    refine anyHF_take (i := 9) (d := 13) (v := .int .i64 x) (by kernel_rfl) rfl (by kernel_rfl) (by kernel_rfl) (by kernel_rfl) rfl (fun _ _ _ h => h) ⟨Or.inl ⟨by rfl, fun w hS => by obtain ⟨h0, h1, h2⟩ := hS; go_simp⟩, fun _ => rfl⟩ hS ?_
    simp only [List.setIfInBounds_toArray, List.set_cons_zero, List.set_cons_succ]
    refine anyHF_take (i := 10) (d := 14) (v := .int .i64 y) (by kernel_rfl) rfl (by kernel_rfl) (by kernel_rfl) (by kernel_rfl) rfl (fun _ _ _ h => h) ⟨Or.inl ⟨by rfl, fun w hS => by obtain ⟨h0, h1, h2⟩ := hS; go_simp⟩, fun _ => rfl⟩ hS ?_
    simp only [List.setIfInBounds_toArray, List.set_cons_zero, List.set_cons_succ]
    refine Rg.anyHF_both (i := 3) (j := 6) (by kernel_rfl) rfl rfl (by rfl) (by rfl) ?c1a ?c1b
    case c1a =>
      gi_wp2
      try (refine ⟨hS, ?_⟩)
      refine anyHF_one (i := 6) (by kernel_rfl) rfl (by kernel_rfl) (by rfl) ?_
      gi_wp2
      try (refine ⟨hS, ?_⟩)
      refine anyHF_one (i := 7) (by kernel_rfl) rfl (by kernel_rfl) (by rfl) ?_
      have hgl_g3 := hBx.size
      have hB : Below U.drew.heap.size U.drew (U.drew.alloc (.cells #[.int .i64 (min x y), .int .i64 (max x y)] 3)) := below_one U.drew _
      have bE : Blk (U.drew.alloc (.cells #[.int .i64 (min x y), .int .i64 (max x y)] 3)) U.drew.heap.size 3 #[.int .i64 (min x y), .int .i64 (max x y)] := Blk.new U.drew _ _
      obtain ⟨v2, he_v2⟩ : ∃ zz, (U.drew.alloc (.cells #[.int .i64 (min x y), .int .i64 (max x y)] 3)) = zz := ⟨_, rfl⟩
      obtain ⟨g3, hg_g3⟩ : ∃ zz, U.drew.heap.size = zz := ⟨_, rfl⟩
      rw [he_v2] at hB bE
      rw [hg_g3] at bE
      replace hBx := below_in hBx hB
      clear hS
      have hS : (fun U : World => U.cell? ⟨W2b, 0, none⟩ = some (.int .i64 p) ∧ U.cell? ⟨W2c, 0, none⟩ = some (.int .i64 x) ∧ U.cell? ⟨W2d, 0, none⟩ = some (.int .i64 y)) v2 := HSS.out _ hBx
      gi_wp2
      (try rw [hg_g3]); (try rw [he_v2])
      try (refine ⟨hS, ?_⟩)
      clear hB he_v2 hg_g3
      refine anyHF_one (i := 8) (by kernel_rfl) rfl (by kernel_rfl) (by rfl) ?_
      gi_wp2_with fail
      refine ⟨trivial, (callsIn_wide.2 (HLO.out _ _ hBx bE)).mono ?_⟩
      rintro e wz ⟨rfl, hB⟩
      exact ⟨rfl, rfl, below_in hBx hB⟩
    case c1b =>
      gi_wp2
      try (refine ⟨hS, ?_⟩)
      refine anyHF_one (i := 3) (by kernel_rfl) rfl (by kernel_rfl) (by rfl) ?_
      gi_wp2
      try (refine ⟨hS, ?_⟩)
      refine anyHF_one (i := 7) (by kernel_rfl) rfl (by kernel_rfl) (by rfl) ?_
      have hgl_g5 := hBx.size
      have hB : Below U.drew.heap.size U.drew (U.drew.alloc (.cells #[.int .i64 (min x y), .int .i64 (max x y)] 3)) := below_one U.drew _
      have bE : Blk (U.drew.alloc (.cells #[.int .i64 (min x y), .int .i64 (max x y)] 3)) U.drew.heap.size 3 #[.int .i64 (min x y), .int .i64 (max x y)] := Blk.new U.drew _ _
      obtain ⟨v4, he_v4⟩ : ∃ zz, (U.drew.alloc (.cells #[.int .i64 (min x y), .int .i64 (max x y)] 3)) = zz := ⟨_, rfl⟩
      obtain ⟨g5, hg_g5⟩ : ∃ zz, U.drew.heap.size = zz := ⟨_, rfl⟩
      rw [he_v4] at hB bE
      rw [hg_g5] at bE
      replace hBx := below_in hBx hB
      clear hS
      have hS : (fun U : World => U.cell? ⟨W2b, 0, none⟩ = some (.int .i64 p) ∧ U.cell? ⟨W2c, 0, none⟩ = some (.int .i64 x) ∧ U.cell? ⟨W2d, 0, none⟩ = some (.int .i64 y)) v4 := HSS.out _ hBx
      gi_wp2
      (try rw [hg_g5]); (try rw [he_v4])
      try (refine ⟨hS, ?_⟩)
      clear hB he_v4 hg_g5
      refine anyHF_one (i := 8) (by kernel_rfl) rfl (by kernel_rfl) (by rfl) ?_
      gi_wp2_with fail
      refine ⟨trivial, (callsIn_wide.2 (HLO.out _ _ hBx bE)).mono ?_⟩
      rintro e wz ⟨rfl, hB⟩
      exact ⟨rfl, rfl, below_in hBx hB⟩))
  clear b0 b1 b2 hL hW2d hW2c hW2b hno
  go_enter Tryz.func17, Tryz.ntmps17
  have hmf : ∀ (fn : Fn) (first cap : Array Value) (w : World), (Instr.makeFunc fn first cap).run Tryz.prog w = .ok (.func fn first cap) w := fun _ _ _ _ => rfl
  go_wp2_with (go_at_call 51; refine HA.out.mono ?_; rintro e w1 ⟨rfl, hB1⟩)
  go_ret
  exact ⟨_, rfl, places_none _ _, below_in hBW hB1⟩
end Go.Proofs.YtcchjofjpflbhaaGreatDoor.T

namespace Go.Proofs.YtcchjofjpflbhaaGreatDoor.T
open Go.RowKit Go.Shelf Go.Maps Go.Proofs.YtcchjofjpflbhaaGreatDoor.C Go.Proofs.YtcchjofjpflbhaaGreatDoor.E Go.Proofs.YtcchjofjpflbhaaGreatDoor.Ch
set_option linter.unusedSimpArgs false
set_option linter.unusedVariables false
attribute [local go_sem] Oper.semAt_some

end Go.Proofs.YtcchjofjpflbhaaGreatDoor.T

namespace Go.Proofs.YtcchjofjpflbhaaGreatDoor.T
open Go.RowKit Go.Shelf Go.Maps Go.Proofs.YtcchjofjpflbhaaGreatDoor.C Go.Proofs.YtcchjofjpflbhaaGreatDoor.E Go.Proofs.YtcchjofjpflbhaaGreatDoor.Ch
set_option linter.unusedSimpArgs false
set_option linter.unusedVariables false
attribute [local go_sem] Oper.semAt_some

end Go.Proofs.YtcchjofjpflbhaaGreatDoor.T

namespace Go.Proofs.YtcchjofjpflbhaaGreatDoor.T
open Go.RowKit Go.Shelf Go.Maps Go.Proofs.YtcchjofjpflbhaaGreatDoor.C Go.Proofs.YtcchjofjpflbhaaGreatDoor.E Go.Proofs.YtcchjofjpflbhaaGreatDoor.Ch
set_option linter.unusedSimpArgs false
set_option linter.unusedVariables false
attribute [local go_sem] Oper.semAt_some

end Go.Proofs.YtcchjofjpflbhaaGreatDoor.T

namespace Go.Proofs.YtcchjofjpflbhaaGreatDoor.T
open Go.RowKit Go.Shelf Go.Maps Go.Proofs.YtcchjofjpflbhaaGreatDoor.C Go.Proofs.YtcchjofjpflbhaaGreatDoor.E Go.Proofs.YtcchjofjpflbhaaGreatDoor.Ch
set_option linter.unusedSimpArgs false
set_option linter.unusedVariables false
attribute [local go_sem] Oper.semAt_some

end Go.Proofs.YtcchjofjpflbhaaGreatDoor.T


namespace Go.Proofs.YtcchjofjpflbhaaGreatDoor
open Go.RowKit Go.Shelf
set_option linter.unusedSimpArgs false
set_option linter.unusedVariables false
attribute [local go_sem] Oper.semAt_some

end Go.Proofs.YtcchjofjpflbhaaGreatDoor

namespace Go.Proofs.YtcchjofjpflbhaaGreatDoor
open Go.RowKit Go.Shelf
set_option linter.unusedSimpArgs false
set_option linter.unusedVariables false
attribute [local go_sem] Oper.semAt_some

section
variable {B lo mm : Nat} {X Y Z : World} {o o' : Option Nat}
end
end Go.Proofs.YtcchjofjpflbhaaGreatDoor

namespace Go.Proofs.YtcchjofjpflbhaaGreatDoor
open Go.RowKit Go.Shelf
set_option linter.unusedSimpArgs false
set_option linter.unusedVariables false
attribute [local go_sem] Oper.semAt_some

end Go.Proofs.YtcchjofjpflbhaaGreatDoor

namespace Go.Proofs.YtcchjofjpflbhaaGreatDoor
open Go.RowKit Go.Shelf
set_option linter.unusedSimpArgs false
set_option linter.unusedVariables false
attribute [local go_sem] Oper.semAt_some

end Go.Proofs.YtcchjofjpflbhaaGreatDoor

namespace Go.Proofs.YtcchjofjpflbhaaGreatDoor
open Go.RowKit Go.Shelf
set_option linter.unusedSimpArgs false
set_option linter.unusedVariables false

end Go.Proofs.YtcchjofjpflbhaaGreatDoor

namespace Go.Proofs.YtcchjofjpflbhaaGreatDoor
open Go.RowKit Go.Shelf
set_option linter.unusedSimpArgs false
set_option linter.unusedVariables false

end Go.Proofs.YtcchjofjpflbhaaGreatDoor

namespace Go.Proofs.YtcchjofjpflbhaaGreatDoor
open Go.RowKit Go.Shelf
set_option linter.unusedSimpArgs false
set_option linter.unusedVariables false

end Go.Proofs.YtcchjofjpflbhaaGreatDoor

namespace Go.Proofs.YtcchjofjpflbhaaGreatDoor
open Go.RowKit Go.Shelf
set_option linter.unusedSimpArgs false
set_option linter.unusedVariables false
attribute [local go_sem] Oper.semAt_some

end Go.Proofs.YtcchjofjpflbhaaGreatDoor

namespace Go.Proofs.YtcchjofjpflbhaaGreatDoor
open Go.RowKit Go.Shelf
set_option linter.unusedSimpArgs false
set_option linter.unusedVariables false

theorem readA_nil (W : World) : ReadA W (.slice none 0 0) [] := ⟨none, 0, rfl, fun j hj => absurd hj (Nat.not_lt_zero _)⟩
end Go.Proofs.YtcchjofjpflbhaaGreatDoor

namespace Go.Proofs.YtcchjofjpflbhaaGreatDoor.E
open Go.RowKit Go.Shelf Go.Proofs.YtcchjofjpflbhaaGreatDoor.C
set_option linter.unusedSimpArgs false
set_option linter.unusedVariables false

section
variable {p : Int} {css : List (List (List UInt8))}
end
end Go.Proofs.YtcchjofjpflbhaaGreatDoor.E

namespace Go.Proofs.YtcchjofjpflbhaaGreatDoor.E
open Go.RowKit Go.Shelf Go.Proofs.YtcchjofjpflbhaaGreatDoor.C
set_option linter.unusedSimpArgs false
set_option linter.unusedVariables false

end Go.Proofs.YtcchjofjpflbhaaGreatDoor.E

namespace Go.Proofs.YtcchjofjpflbhaaGreatDoor.R
open Go.RowKit Go.Shelf Go.Proofs.YtcchjofjpflbhaaGreatDoor.C Go.Proofs.YtcchjofjpflbhaaGreatDoor.E
set_option linter.unusedSimpArgs false
set_option linter.unusedVariables false

end Go.Proofs.YtcchjofjpflbhaaGreatDoor.R

namespace Go.Proofs.YtcchjofjpflbhaaGreatDoor.R
open Go.RowKit Go.Shelf Go.Proofs.YtcchjofjpflbhaaGreatDoor.C Go.Proofs.YtcchjofjpflbhaaGreatDoor.E
set_option linter.unusedSimpArgs false
set_option linter.unusedVariables false

section
variable {Q : Nat → Prop} {base : Nat} {v : Value}
end
end Go.Proofs.YtcchjofjpflbhaaGreatDoor.R

namespace Go.Proofs.YtcchjofjpflbhaaGreatDoor.R
open Go.RowKit Go.Shelf Go.Proofs.YtcchjofjpflbhaaGreatDoor.C Go.Proofs.YtcchjofjpflbhaaGreatDoor.E
set_option linter.unusedSimpArgs false
set_option linter.unusedVariables false

end Go.Proofs.YtcchjofjpflbhaaGreatDoor.R


namespace Go.Proofs.YtcchjofjpflbhaaGreatDoor.T
open Go.RowKit Go.Shelf Go.Maps Go.Proofs.YtcchjofjpflbhaaGreatDoor.C Go.Proofs.YtcchjofjpflbhaaGreatDoor.E Go.Proofs.YtcchjofjpflbhaaGreatDoor.Ch
set_option linter.unusedSimpArgs false
set_option linter.unusedVariables false
attribute [local go_sem] Oper.semAt_some

end Go.Proofs.YtcchjofjpflbhaaGreatDoor.T

namespace Go.Proofs.YtcchjofjpflbhaaGreatDoor.T
open Go.RowKit Go.Shelf Go.Maps Go.Proofs.YtcchjofjpflbhaaGreatDoor.C Go.Proofs.YtcchjofjpflbhaaGreatDoor.E Go.Proofs.YtcchjofjpflbhaaGreatDoor.Ch Go.Proofs.YtcchjofjpflbhaaGreatDoor.Rg
set_option linter.unusedSimpArgs false
set_option linter.unusedVariables false
attribute [local go_sem] Oper.semAt_some

end Go.Proofs.YtcchjofjpflbhaaGreatDoor.T

namespace Go.Proofs.YtcchjofjpflbhaaGreatDoor.Cd
open Go.RowKit Go.Shelf Go.Proofs.YtcchjofjpflbhaaGreatDoor.C Go.Proofs.YtcchjofjpflbhaaGreatDoor.E Go.ChangeShapes Go.WideShapes
set_option linter.unusedSimpArgs false
set_option linter.unusedVariables false

theorem list2' {α : Type} (l : List α) (h : l.length = 2) : ∃ a b, l = [a, b] := by
  match l, h with
  | [a, b], _ => exact ⟨a, b, rfl⟩
set_option maxRecDepth 100000 in
theorem open_two {H : Type} {enc : TypeId × Value → H} {W : World} {base : Nat} {v : Value} {d : DataW H} {p : List MemPlace} (hv : Value.okWide Tryz.prog W .any base 22 v) (h : ∃ fuel, DataW.trod enc Tryz.prog W 0 (fun _ => true) true fuel 22 v.cells.toList = some (d, p)) : ∃ x y : Int, v = .agg #[.int .i64 x, .int .i64 y] ∧ (Lit.int .i64 x).wf = true ∧ (Lit.int .i64 y).wf = true := by
  obtain ⟨cs, rfl, hsz, _⟩ : ∃ cs, v = .agg cs ∧ cs.size = Tryz.prog.cellsOf 22 ∧ Row.okWide Tryz.prog W .any base 22 cs := by
    simpa [Value.okWide, Tryz.underlying22] using hv
  rw [show Tryz.prog.cellsOf 22 = 2 by kernel_rfl] at hsz
  obtain ⟨l⟩ := cs
  obtain ⟨c0, c1, rfl⟩ := list2' l hsz
  obtain ⟨fuel, hf⟩ := h
  obtain ⟨xs, m, rfl, _, _, hn, hel⟩ := DataW.trod_array Tryz.underlying22 hf
  obtain ⟨y0, y1, rfl⟩ := list2' xs hn
  have h0 := hel 0 (by omega)
  have h1 := hel 1 (by omega)
  rw [cells_int] at h0 h1
  obtain ⟨x0, e0, _, w0⟩ := DataW.trod_int Tryz.underlying3 (show DataW.trod enc Tryz.prog W 0 (fun _ => true) true m 3 [c0] = some y0 from h0)
  obtain ⟨x1, e1, _, w1⟩ := DataW.trod_int Tryz.underlying3 (show DataW.trod enc Tryz.prog W 0 (fun _ => true) true m 3 [c1] = some y1 from h1)
  simp at e0 e1
  subst e0 e1
  exact ⟨x0, x1, rfl, w0, w1⟩
end Go.Proofs.YtcchjofjpflbhaaGreatDoor.Cd


