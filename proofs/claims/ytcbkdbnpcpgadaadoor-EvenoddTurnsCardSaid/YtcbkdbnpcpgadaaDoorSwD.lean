/- What of a code is counted; what of it is told. -/
import Derived.Test.YtcbkdbnpcpgadaaDoorSwC
namespace Go.Proofs.YtcbkdbnpcpgadaaDoor
open Go.RowKit Go.Shelf
set_option linter.unusedSimpArgs false
set_option linter.unusedVariables false

theorem Tells.mk {c : Prop} {n b : Int} {w w' : World} {e : Ending} (hc : c) (h : e = .returned (.tuple #[.int .i64 n, .int .i64 0]) ∧ Below w.heap.size w w') : Tells c n b w e w' := ⟨fun _ => h.1, fun hn => absurd hc hn, h.2⟩
theorem Tells.mkn {c : Prop} {n b : Int} {w w' : World} {e : Ending} (hc : ¬ c) (h : e = .returned (.tuple #[.int .i64 0, .int .i64 b]) ∧ Below w.heap.size w w') : Tells c n b w e w' := ⟨fun h => absurd h hc, fun _ => h.1, h.2⟩

set_option maxHeartbeats 1000000 in
theorem counted_any (f : Nat) (r : Int → Int → Int) (ef : ∀ args W, (callFunc f args).run Tryd.prog W = .ok (.enter f args) W) (k p : Int)
    (hf : RightC k p → ∀ W, Calls Tryd.prog f #[(.agg #[.int .i64 k, .int .i64 p, .int .i64 (shortN k), .int .i64 (madeN k)])] W fun e w' => e = .returned (.int .i64 (r k p)) ∧ Below W.heap.size W w') (w : World) (hL : Laid w) :
    Calls Tryd.prog 52 #[.agg #[.int .i64 k, .int .i64 p], .func (.func f) #[] #[]] w (Tells (RightC k p) (r k p) 2 w) := by
  have hB := below_one w (.cells #[.int .i64 k, .int .i64 p] 41)
  by_cases hR : RightC k p
  · refine Calls.mono ?_ fun _ _ h => Tells.mk hR h
    have HA := Lib.hid ((sasked_any k p _ (hL.next hB)).mono fun _ _ h => And.intro (h.1 hR) h.2.2)
    have HF := Lib.hid (hf hR)
    clear hf hR
    generalize r k p = n at *
    generalize shortN k = s at *
    generalize madeN k = m at *
    go_enter Tryd.func52, Tryd.ntmps52
    go_wp2_with fail
    refine HA.out.mono ?_
    rintro e w1 ⟨rfl, hB1⟩
    replace hB := below_in hB hB1
    go_wp2_with fail
    refine (HF.out _).mono ?_
    rintro e w2 ⟨rfl, hB2⟩
    go_wp2
    go_ret2
    exact ⟨rfl, below_in (below_in hB (below_one _ _)) hB2⟩
  · refine Calls.mono ?_ fun _ _ h => Tells.mkn hR h
    have HA := Lib.hid ((sasked_any k p _ (hL.next hB)).mono fun _ _ h => And.intro (h.2.1 hR) h.2.2)
    clear hf hR
    go_enter Tryd.func52, Tryd.ntmps52
    go_wp2_with fail
    refine HA.out.mono ?_
    rintro e w1 ⟨rfl, hB1⟩
    replace hB := below_in hB hB1
    go_wp2
    go_ret2
    exact ⟨rfl, below_in hB (below_one _ _)⟩

theorem enter_rows : ∀ args W, (callFunc 72 args).run Tryd.prog W = .ok (.enter 72 args) W := enters_of Tryd.func72 (by kernel_rfl) rfl
set_option maxHeartbeats 400000 in
theorem shapeRows_any (k p : Int) (w : World) (hL : Laid w) : Calls Tryd.prog 58 #[.agg #[.int .i64 k, .int .i64 p]] w (Tells (RightC k p) (p - 1) 2 w) := by
  have hB := below_one w (.cells #[.int .i64 k, .int .i64 p] 41)
  have HC := Lib.hid (counted_any 72 (fun k p => (p - 1)) enter_rows k p (fun hR W => rows_any k p _ _ hR.und W) _ (hL.next hB))
  by_cases hR : RightC k p
  · refine Calls.mono ?_ fun _ _ h => Tells.mk hR h
    generalize (p - 1) = n at *
    have HR := Lib.hid hR
    clear hR
    go_enter Tryd.func58, Tryd.ntmps58
    go_wp2_with (go_at_call 52; refine HC.out.mono ?_; rintro e w1 ⟨h1, _, hB1⟩; obtain rfl := h1 HR.out)
    go_ret2
    exact ⟨rfl, below_in hB hB1⟩
  · refine Calls.mono ?_ fun _ _ h => Tells.mkn hR h
    generalize (p - 1) = n at *
    have HR := Lib.hid hR
    clear hR
    go_enter Tryd.func58, Tryd.ntmps58
    go_wp2_with (go_at_call 52; refine HC.out.mono ?_; rintro e w1 ⟨_, h1, hB1⟩; obtain rfl := h1 HR.out)
    go_ret2
    exact ⟨rfl, below_in hB hB1⟩

theorem enter_data : ∀ args W, (callFunc 53 args).run Tryd.prog W = .ok (.enter 53 args) W := enters_of Tryd.func53 (by kernel_rfl) rfl
set_option maxHeartbeats 400000 in
theorem shapeData_any (k p : Int) (w : World) (hL : Laid w) : Calls Tryd.prog 37 #[.agg #[.int .i64 k, .int .i64 p]] w (Tells (RightC k p) (p - shortN k) 2 w) := by
  have hB := below_one w (.cells #[.int .i64 k, .int .i64 p] 41)
  have HC := Lib.hid (counted_any 53 (fun k p => (p - shortN k)) enter_data k p (fun hR W => data_any k p _ _ hR.und W) _ (hL.next hB))
  by_cases hR : RightC k p
  · refine Calls.mono ?_ fun _ _ h => Tells.mk hR h
    generalize (p - shortN k) = n at *
    have HR := Lib.hid hR
    clear hR
    go_enter Tryd.func37, Tryd.ntmps37
    go_wp2_with (go_at_call 52; refine HC.out.mono ?_; rintro e w1 ⟨h1, _, hB1⟩; obtain rfl := h1 HR.out)
    go_ret2
    exact ⟨rfl, below_in hB hB1⟩
  · refine Calls.mono ?_ fun _ _ h => Tells.mkn hR h
    generalize (p - shortN k) = n at *
    have HR := Lib.hid hR
    clear hR
    go_enter Tryd.func37, Tryd.ntmps37
    go_wp2_with (go_at_call 52; refine HC.out.mono ?_; rintro e w1 ⟨_, h1, hB1⟩; obtain rfl := h1 HR.out)
    go_ret2
    exact ⟨rfl, below_in hB hB1⟩

set_option maxHeartbeats 400000 in
theorem shapeCheck_any (k p : Int) (w : World) (hL : Laid w) : Calls Tryd.prog 50 #[.agg #[.int .i64 k, .int .i64 p]] w fun e w' => (RightC k p → e = .returned (.int .i64 0)) ∧ (¬ RightC k p → e = .returned (.int .i64 2)) ∧ Below w.heap.size w w' := by
  have hB := below_one w (.cells #[.int .i64 k, .int .i64 p] 41)
  have HA := Lib.hid (sasked_any k p _ (hL.next hB))
  by_cases hR : RightC k p
  · refine Calls.mono (R := fun e w' => e = .returned (.int .i64 0) ∧ Below w.heap.size w w') ?_ fun _ _ h => ⟨fun _ => h.1, fun hn => absurd hR hn, h.2⟩
    have HR := Lib.hid hR
    clear hR
    go_enter Tryd.func50, Tryd.ntmps50
    go_wp2_with (go_at_call 63; refine HA.out.mono ?_; rintro e w1 ⟨h1, _, hB1⟩; obtain rfl := h1 HR.out)
    go_ret
    exact ⟨rfl, below_in (below_in hB hB1) (below_one _ _)⟩
  · refine Calls.mono (R := fun e w' => e = .returned (.int .i64 2) ∧ Below w.heap.size w w') ?_ fun _ _ h => ⟨fun hn => absurd hn hR, fun _ => h.1, h.2⟩
    have HR := Lib.hid hR
    clear hR
    go_enter Tryd.func50, Tryd.ntmps50
    go_wp2_with (go_at_call 63; refine HA.out.mono ?_; rintro e w1 ⟨_, h1, hB1⟩; obtain rfl := h1 HR.out)
    go_ret
    exact ⟨rfl, below_in (below_in hB hB1) (below_one _ _)⟩

/-- What told tells. -/
def Told (c b : Prop) (zero : Value) (R : Value → World → Prop) (w : World) (e : Ending) (w' : World) : Prop :=
  (¬ c → e = .returned (.tuple #[zero, .int .i64 2])) ∧ (c → ¬ b → e = .returned (.tuple #[zero, .int .i64 4])) ∧ (c → b → ∃ v, e = .returned (.tuple #[v, .int .i64 0]) ∧ R v w') ∧ Below w.heap.size w w'
theorem Told.no {c b : Prop} {zero : Value} {R : Value → World → Prop} {w w' : World} {e : Ending} (hc : ¬ c) (h : e = .returned (.tuple #[zero, .int .i64 2]) ∧ Below w.heap.size w w') : Told c b zero R w e w' := ⟨fun _ => h.1, fun h => absurd h hc, fun h => absurd h hc, h.2⟩
theorem Told.out {c b : Prop} {zero : Value} {R : Value → World → Prop} {w w' : World} {e : Ending} (hc : c) (hb : ¬ b) (h : e = .returned (.tuple #[zero, .int .i64 4]) ∧ Below w.heap.size w w') : Told c b zero R w e w' := ⟨fun h => absurd hc h, fun _ _ => h.1, fun _ h => absurd h hb, h.2⟩
theorem Told.yes {c b : Prop} {zero : Value} {R : Value → World → Prop} {w w' : World} {e : Ending} (hc : c) (hb : b) (h : ∃ v, e = .returned (.tuple #[v, .int .i64 0]) ∧ R v w' ∧ Below w.heap.size w w') : Told c b zero R w e w' := by
  obtain ⟨v, h1, h2, h3⟩ := h
  exact ⟨fun h => absurd hc h, fun _ h => absurd hb h, fun _ _ => ⟨v, h1, h2⟩, h3⟩
theorem Told.one {c b : Prop} {zero v : Value} {w w' : World} {e : Ending} (h : Told c b zero (fun u _ => u = v) w e w') : (¬ c → e = .returned (.tuple #[zero, .int .i64 2])) ∧ (c → ¬ b → e = .returned (.tuple #[zero, .int .i64 4])) ∧ (c → b → e = .returned (.tuple #[v, .int .i64 0])) ∧ Below w.heap.size w w' :=
  ⟨h.1, h.2.1, fun hc hb => by obtain ⟨u, h1, rfl⟩ := h.2.2.1 hc hb; exact h1, h.2.2.2⟩

end Go.Proofs.YtcbkdbnpcpgadaaDoor
