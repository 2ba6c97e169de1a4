/- What of a code is counted; what of it is told. -/
import Derived.Test.YtggdlklkjnbbjaaGreatDoorSwC
namespace Go.Proofs.YtggdlklkjnbbjaaGreatDoor
open Go.RowKit Go.Shelf
set_option linter.unusedSimpArgs false
set_option linter.unusedVariables false

theorem Tells.mk {c : Prop} {n b : Int} {w w' : World} {e : Ending} (hc : c) (h : e = .returned (.tuple #[.int .i64 n, .int .i64 0]) ∧ Below w.heap.size w w') : Tells c n b w e w' := ⟨fun _ => h.1, fun hn => absurd hc hn, h.2⟩
theorem Tells.mkn {c : Prop} {n b : Int} {w w' : World} {e : Ending} (hc : ¬ c) (h : e = .returned (.tuple #[.int .i64 0, .int .i64 b]) ∧ Below w.heap.size w w') : Tells c n b w e w' := ⟨fun h => absurd h hc, fun _ => h.1, h.2⟩

set_option maxHeartbeats 1000000 in
theorem counted_any (f : Nat) (r : Int → Int → Int) (ef : ∀ args W, (callFunc f args).run Tryz.prog W = .ok (.enter f args) W) (k p : Int)
    (hf : RightC k p → ∀ W, Calls Tryz.prog f #[(.agg #[.int .i64 k, .int .i64 p, .int .i64 (shortN k), .int .i64 (madeN k)])] W fun e w' => e = .returned (.int .i64 (r k p)) ∧ Below W.heap.size W w') (w : World) (hL : Laid w) :
    Calls Tryz.prog 125 #[.agg #[.int .i64 k, .int .i64 p], .func (.func f) #[] #[]] w (Tells (RightC k p) (r k p) 2 w) := by
  have hB := below_one w (.cells #[.int .i64 k, .int .i64 p] 37)
  by_cases hR : RightC k p
  · refine Calls.mono ?_ fun _ _ h => Tells.mk hR h
    have HA := Lib.hid ((sasked_any k p _ (hL.next hB)).mono fun _ _ h => And.intro (h.1 hR) h.2.2)
    have HF := Lib.hid (hf hR)
    clear hf hR
    generalize r k p = n at *
    generalize shortN k = s at *
    generalize madeN k = m at *
    go_enter Tryz.func125, Tryz.ntmps125
    go_wp2_with fail
    refine HA.out.mono ?_
    rintro e w1 ⟨rfl, hB1⟩
    replace hB := below_in hB hB1
    go_wp2_with fail
    refine (HF.out _).mono ?_
    rintro e w2 ⟨rfl, hB2⟩
    go_wp2
    go_ret2
    exact ⟨rfl, below_in (below_in hB (below_one _ _)) hB2⟩
  · refine Calls.mono ?_ fun _ _ h => Tells.mkn hR h
    have HA := Lib.hid ((sasked_any k p _ (hL.next hB)).mono fun _ _ h => And.intro (h.2.1 hR) h.2.2)
    clear hf hR
    go_enter Tryz.func125, Tryz.ntmps125
    go_wp2_with fail
    refine HA.out.mono ?_
    rintro e w1 ⟨rfl, hB1⟩
    replace hB := below_in hB hB1
    go_wp2
    go_ret2
    exact ⟨rfl, below_in hB (below_one _ _)⟩

theorem enter_rows : ∀ args W, (callFunc 156 args).run Tryz.prog W = .ok (.enter 156 args) W := enters_of Tryz.func156 (by kernel_rfl) rfl
set_option maxHeartbeats 400000 in
theorem shapeRows_any (k p : Int) (w : World) (hL : Laid w) : Calls Tryz.prog 134 #[.agg #[.int .i64 k, .int .i64 p]] w (Tells (RightC k p) (p - 1) 2 w) := by
  have hB := below_one w (.cells #[.int .i64 k, .int .i64 p] 37)
  have HC := Lib.hid (counted_any 156 (fun k p => (p - 1)) enter_rows k p (fun hR W => rows_any k p _ _ hR.und W) _ (hL.next hB))
  by_cases hR : RightC k p
  · refine Calls.mono ?_ fun _ _ h => Tells.mk hR h
    generalize (p - 1) = n at *
    have HR := Lib.hid hR
    clear hR
    go_enter Tryz.func134, Tryz.ntmps134
    go_wp2_with (go_at_call 125; refine HC.out.mono ?_; rintro e w1 ⟨h1, _, hB1⟩; obtain rfl := h1 HR.out)
    go_ret2
    exact ⟨rfl, below_in hB hB1⟩
  · refine Calls.mono ?_ fun _ _ h => Tells.mkn hR h
    generalize (p - 1) = n at *
    have HR := Lib.hid hR
    clear hR
    go_enter Tryz.func134, Tryz.ntmps134
    go_wp2_with (go_at_call 125; refine HC.out.mono ?_; rintro e w1 ⟨_, h1, hB1⟩; obtain rfl := h1 HR.out)
    go_ret2
    exact ⟨rfl, below_in hB hB1⟩

theorem enter_data : ∀ args W, (callFunc 126 args).run Tryz.prog W = .ok (.enter 126 args) W := enters_of Tryz.func126 (by kernel_rfl) rfl
set_option maxHeartbeats 400000 in
theorem shapeData_any (k p : Int) (w : World) (hL : Laid w) : Calls Tryz.prog 85 #[.agg #[.int .i64 k, .int .i64 p]] w (Tells (RightC k p) (p - shortN k) 2 w) := by
  have hB := below_one w (.cells #[.int .i64 k, .int .i64 p] 37)
  have HC := Lib.hid (counted_any 126 (fun k p => (p - shortN k)) enter_data k p (fun hR W => data_any k p _ _ hR.und W) _ (hL.next hB))
  by_cases hR : RightC k p
  · refine Calls.mono ?_ fun _ _ h => Tells.mk hR h
    generalize (p - shortN k) = n at *
    have HR := Lib.hid hR
    clear hR
    go_enter Tryz.func85, Tryz.ntmps85
    go_wp2_with (go_at_call 125; refine HC.out.mono ?_; rintro e w1 ⟨h1, _, hB1⟩; obtain rfl := h1 HR.out)
    go_ret2
    exact ⟨rfl, below_in hB hB1⟩
  · refine Calls.mono ?_ fun _ _ h => Tells.mkn hR h
    generalize (p - shortN k) = n at *
    have HR := Lib.hid hR
    clear hR
    go_enter Tryz.func85, Tryz.ntmps85
    go_wp2_with (go_at_call 125; refine HC.out.mono ?_; rintro e w1 ⟨_, h1, hB1⟩; obtain rfl := h1 HR.out)
    go_ret2
    exact ⟨rfl, below_in hB hB1⟩

theorem enter_cols : ∀ args W, (callFunc 139 args).run Tryz.prog W = .ok (.enter 139 args) W := enters_of Tryz.func139 (by kernel_rfl) rfl
set_option maxHeartbeats 400000 in
theorem shapeCols_any (k p : Int) (w : World) (hL : Laid w) : Calls Tryz.prog 106 #[.agg #[.int .i64 k, .int .i64 p]] w (Tells (RightC k p) (p - shortN k + madeN k) 2 w) := by
  have hB := below_one w (.cells #[.int .i64 k, .int .i64 p] 37)
  have HC := Lib.hid (counted_any 139 (fun k p => (p - shortN k + madeN k)) enter_cols k p (fun hR W => cols_any k p _ _ hR.und W) _ (hL.next hB))
  by_cases hR : RightC k p
  · refine Calls.mono ?_ fun _ _ h => Tells.mk hR h
    generalize (p - shortN k + madeN k) = n at *
    have HR := Lib.hid hR
    clear hR
    go_enter Tryz.func106, Tryz.ntmps106
    go_wp2_with (go_at_call 125; refine HC.out.mono ?_; rintro e w1 ⟨h1, _, hB1⟩; obtain rfl := h1 HR.out)
    go_ret2
    exact ⟨rfl, below_in hB hB1⟩
  · refine Calls.mono ?_ fun _ _ h => Tells.mkn hR h
    generalize (p - shortN k + madeN k) = n at *
    have HR := Lib.hid hR
    clear hR
    go_enter Tryz.func106, Tryz.ntmps106
    go_wp2_with (go_at_call 125; refine HC.out.mono ?_; rintro e w1 ⟨_, h1, hB1⟩; obtain rfl := h1 HR.out)
    go_ret2
    exact ⟨rfl, below_in hB hB1⟩

set_option maxHeartbeats 400000 in
theorem shapeCheck_any (k p : Int) (w : World) (hL : Laid w) : Calls Tryz.prog 98 #[.agg #[.int .i64 k, .int .i64 p]] w fun e w' => (RightC k p → e = .returned (.int .i64 0)) ∧ (¬ RightC k p → e = .returned (.int .i64 2)) ∧ Below w.heap.size w w' := by
  have hB := below_one w (.cells #[.int .i64 k, .int .i64 p] 37)
  have HA := Lib.hid (sasked_any k p _ (hL.next hB))
  by_cases hR : RightC k p
  · refine Calls.mono (R := fun e w' => e = .returned (.int .i64 0) ∧ Below w.heap.size w w') ?_ fun _ _ h => ⟨fun _ => h.1, fun hn => absurd hR hn, h.2⟩
    have HR := Lib.hid hR
    clear hR
    go_enter Tryz.func98, Tryz.ntmps98
    go_wp2_with (go_at_call 136; refine HA.out.mono ?_; rintro e w1 ⟨h1, _, hB1⟩; obtain rfl := h1 HR.out)
    go_ret
    exact ⟨rfl, below_in (below_in hB hB1) (below_one _ _)⟩
  · refine Calls.mono (R := fun e w' => e = .returned (.int .i64 2) ∧ Below w.heap.size w w') ?_ fun _ _ h => ⟨fun hn => absurd hn hR, fun _ => h.1, h.2⟩
    have HR := Lib.hid hR
    clear hR
    go_enter Tryz.func98, Tryz.ntmps98
    go_wp2_with (go_at_call 136; refine HA.out.mono ?_; rintro e w1 ⟨_, h1, hB1⟩; obtain rfl := h1 HR.out)
    go_ret
    exact ⟨rfl, below_in (below_in hB hB1) (below_one _ _)⟩

/-- What told tells. -/
def Told (c b : Prop) (zero : Value) (R : Value → World → Prop) (w : World) (e : Ending) (w' : World) : Prop :=
  (¬ c → e = .returned (.tuple #[zero, .int .i64 2])) ∧ (c → ¬ b → e = .returned (.tuple #[zero, .int .i64 4])) ∧ (c → b → ∃ v, e = .returned (.tuple #[v, .int .i64 0]) ∧ R v w') ∧ Below w.heap.size w w'
theorem Told.no {c b : Prop} {zero : Value} {R : Value → World → Prop} {w w' : World} {e : Ending} (hc : ¬ c) (h : e = .returned (.tuple #[zero, .int .i64 2]) ∧ Below w.heap.size w w') : Told c b zero R w e w' := ⟨fun _ => h.1, fun h => absurd h hc, fun h => absurd h hc, h.2⟩
theorem Told.out {c b : Prop} {zero : Value} {R : Value → World → Prop} {w w' : World} {e : Ending} (hc : c) (hb : ¬ b) (h : e = .returned (.tuple #[zero, .int .i64 4]) ∧ Below w.heap.size w w') : Told c b zero R w e w' := ⟨fun h => absurd hc h, fun _ _ => h.1, fun _ h => absurd h hb, h.2⟩
theorem Told.yes {c b : Prop} {zero : Value} {R : Value → World → Prop} {w w' : World} {e : Ending} (hc : c) (hb : b) (h : ∃ v, e = .returned (.tuple #[v, .int .i64 0]) ∧ R v w' ∧ Below w.heap.size w w') : Told c b zero R w e w' := by
  obtain ⟨v, h1, h2, h3⟩ := h
  exact ⟨fun h => absurd hc h, fun _ h => absurd hb h, fun _ _ => ⟨v, h1, h2⟩, h3⟩
theorem Told.one {c b : Prop} {zero v : Value} {w w' : World} {e : Ending} (h : Told c b zero (fun u _ => u = v) w e w') : (¬ c → e = .returned (.tuple #[zero, .int .i64 2])) ∧ (c → ¬ b → e = .returned (.tuple #[zero, .int .i64 4])) ∧ (c → b → e = .returned (.tuple #[v, .int .i64 0])) ∧ Below w.heap.size w w' :=
  ⟨h.1, h.2.1, fun hc hb => by obtain ⟨u, h1, rfl⟩ := h.2.2.1 hc hb; exact h1, h.2.2.2⟩

set_option maxRecDepth 100000 in
set_option maxHeartbeats 1000000 in
theorem toldR_no (fh ft : Nat) (k p x : Int) (hR : ¬ RightC k p) (w : World) (hL : Laid w) :
    Calls Tryz.prog 205 #[.agg #[.int .i64 k, .int .i64 p], .func (.func fh) #[] #[], .func (.func ft) #[] #[], (.int .i64 x)] w fun e w' => e = .returned (.tuple #[(.int .i64 0), .int .i64 2]) ∧ Below w.heap.size w w' := by
  have hB := below_one w (.cells #[.int .i64 k, .int .i64 p] 37)
  have HA := Lib.hid ((sasked_any k p _ (hL.next hB)).mono fun _ _ h => And.intro (h.2.1 hR) h.2.2)
  clear hR
  go_enter Tryz.func205, Tryz.ntmps205
  go_wp2_with fail
  refine wp_scope_jumps 0 (fun a' w' => Below w.heap.size w w' ∧ ∃ (u10 u11 u12 u13 u14 u15 u16 u17 u18 u19 u20 u21 u22 u23 u24 u25 u26 u27 u28 : Value), a' = { tmps := #[.agg #[.int .i64 k, .int .i64 p], .func (.func fh) #[] #[], .func (.func ft) #[] #[], (.int .i64 x), .pointer (some ⟨w.heap.size, 0, none⟩), undef, undef, undef, (.int .i64 0), .int .i64 2, u10, u11, u12, u13, u14, u15, u16, u17, u18, u19, u20, u21, u22, u23, u24, u25, u26, u27, u28], defers := [] }) (fun _ _ => 0) rfl ?_ ?_
  · go_wp2_with fail
    refine HA.out.mono ?_
    rintro e w1 ⟨rfl, hB1⟩
    replace hB := below_in hB hB1
    replace hB := below_in hB (below_one _ (.cells #[.int .i64 0, .int .i64 0, .int .i64 0, .int .i64 0] 130))
    go_wp2
    go_step3
    exact ⟨rfl, hB, _, _, _, _, _, _, _, _, _, _, _, _, _, _, _, _, _, _, _, rfl⟩
  · clear hB HA
    rintro a' w' ⟨hB, u10, u11, u12, u13, u14, u15, u16, u17, u18, u19, u20, u21, u22, u23, u24, u25, u26, u27, u28, rfl⟩
    go_wp2
    simp only [Exit.jump]
    go_ret2
    exact ⟨rfl, hB⟩

set_option maxRecDepth 100000 in
set_option maxHeartbeats 1000000 in
theorem toldR_out (fh ft : Nat) (eh : ∀ args W, (callFunc fh args).run Tryz.prog W = .ok (.enter fh args) W) (k p x : Int) (hR : RightC k p)
    (hh : ∀ W, Laid W → Calls Tryz.prog fh #[(.agg #[.int .i64 k, .int .i64 p, .int .i64 (shortN k), .int .i64 (madeN k)]), (.int .i64 x)] W fun e w' => e = .returned (.bool false) ∧ Below W.heap.size W w') (w : World) (hL : Laid w) :
    Calls Tryz.prog 205 #[.agg #[.int .i64 k, .int .i64 p], .func (.func fh) #[] #[], .func (.func ft) #[] #[], (.int .i64 x)] w fun e w' => e = .returned (.tuple #[(.int .i64 0), .int .i64 4]) ∧ Below w.heap.size w w' := by
  have hB := below_one w (.cells #[.int .i64 k, .int .i64 p] 37)
  have HA := Lib.hid ((sasked_any k p _ (hL.next hB)).mono fun _ _ h => And.intro (h.1 hR) h.2.2)
  have HH := Lib.hid hh
  clear hR hh
  generalize shortN k = s at *
  generalize madeN k = m at *
  go_enter Tryz.func205, Tryz.ntmps205
  go_wp2_with fail
  refine wp_scope_jumps 0 (fun a' w' => Below w.heap.size w w' ∧ ∃ (u10 u11 u12 u13 u14 u15 u16 u17 u18 u19 u20 u21 u22 u23 u24 u25 u26 u27 u28 : Value), a' = { tmps := #[.agg #[.int .i64 k, .int .i64 p], .func (.func fh) #[] #[], .func (.func ft) #[] #[], (.int .i64 x), .pointer (some ⟨w.heap.size, 0, none⟩), undef, undef, undef, (.int .i64 0), .int .i64 4, u10, u11, u12, u13, u14, u15, u16, u17, u18, u19, u20, u21, u22, u23, u24, u25, u26, u27, u28], defers := [] }) (fun _ _ => 0) rfl ?_ ?_
  · go_wp2_with fail
    refine HA.out.mono ?_
    rintro e w1 ⟨rfl, hB1⟩
    replace hB := below_in hB hB1
    replace hB := below_in hB (below_one _ (.cells #[.int .i64 k, .int .i64 p, .int .i64 s, .int .i64 m] 130))
    have hL2 := hL.next hB
    go_wp2_with fail
    refine (HH.out _ hL2).mono ?_
    rintro e w1 ⟨rfl, hB1⟩
    replace hB := below_in hB hB1
    go_wp2
    go_step3
    exact ⟨rfl, hB, _, _, _, _, _, _, _, _, _, _, _, _, _, _, _, _, _, _, _, rfl⟩
  · clear hB HA
    rintro a' w' ⟨hB, u10, u11, u12, u13, u14, u15, u16, u17, u18, u19, u20, u21, u22, u23, u24, u25, u26, u27, u28, rfl⟩
    go_wp2
    simp only [Exit.jump]
    go_ret2
    exact ⟨rfl, hB⟩

set_option maxRecDepth 100000 in
set_option maxHeartbeats 1000000 in
theorem toldR_yes (fh ft : Nat) (eh : ∀ args W, (callFunc fh args).run Tryz.prog W = .ok (.enter fh args) W) (et : ∀ args W, (callFunc ft args).run Tryz.prog W = .ok (.enter ft args) W) (k p x : Int) (hR : RightC k p) (w : World)
    (hh : ∀ W, Laid W → Calls Tryz.prog fh #[(.agg #[.int .i64 k, .int .i64 p, .int .i64 (shortN k), .int .i64 (madeN k)]), (.int .i64 x)] W fun e w' => e = .returned (.bool true) ∧ Below W.heap.size W w') (R : Value → World → Prop) (ht : ∀ W, Laid W → w.heap.size ≤ W.heap.size → Calls Tryz.prog ft #[(.agg #[.int .i64 k, .int .i64 p, .int .i64 (shortN k), .int .i64 (madeN k)]), (.int .i64 x)] W fun e w' => ∃ v, e = .returned v ∧ R v w' ∧ Below W.heap.size W w') (hL : Laid w) :
    Calls Tryz.prog 205 #[.agg #[.int .i64 k, .int .i64 p], .func (.func fh) #[] #[], .func (.func ft) #[] #[], (.int .i64 x)] w fun e w' => ∃ v, e = .returned (.tuple #[v, .int .i64 0]) ∧ R v w' ∧ Below w.heap.size w w' := by
  have hB := below_one w (.cells #[.int .i64 k, .int .i64 p] 37)
  have HA := Lib.hid ((sasked_any k p _ (hL.next hB)).mono fun _ _ h => And.intro (h.1 hR) h.2.2)
  have HH := Lib.hid hh
  have HT := Lib.hid ht
  clear hR hh ht
  generalize shortN k = s at *
  generalize madeN k = m at *
  go_enter Tryz.func205, Tryz.ntmps205
  go_wp2_with fail
  refine wp_scope_jumps 0 (fun a' w' => False) (fun _ _ => 0) rfl ?_ (fun _ _ h => h.elim)
  · go_wp2_with fail
    refine HA.out.mono ?_
    rintro e w1 ⟨rfl, hB1⟩
    replace hB := below_in hB hB1
    have b2 := Blk.new w1 130 #[.int .i64 k, .int .i64 p, .int .i64 s, .int .i64 m]
    replace hB := below_in hB (below_one _ (.cells #[.int .i64 k, .int .i64 p, .int .i64 s, .int .i64 m] 130))
    have hL2 := hL.next hB
    go_wp2_with fail
    refine (HH.out _ hL2).mono ?_
    rintro e w3 ⟨rfl, hB3⟩
    replace hB := below_in hB hB3
    replace b2 := b2.below hB3 b2.lt
    have c0 := b2.cell 0
    have c1 := b2.cell 1
    have c2 := b2.cell 2
    have c3 := b2.cell 3
    simp only [List.getElem?_toArray, List.getElem?_cons_zero, List.getElem?_cons_succ] at c0 c1 c2 c3
    have hL3 := hL.next hB
    go_wp2_with fail
    refine (HT.out _ hL3 hB.size).mono ?_
    rintro e w2 ⟨v, rfl, hv, hB2⟩
    replace hB := below_in hB hB2
    go_wp2
    simp only [Exit.jump]
    go_ret2
    exact ⟨_, rfl, hv, hB⟩

set_option maxRecDepth 100000 in
set_option maxHeartbeats 1000000 in
theorem toldN_no (fh ft : Nat) (k p x y : Int) (hR : ¬ RightC k p) (w : World) (hL : Laid w) :
    Calls Tryz.prog 202 #[.agg #[.int .i64 k, .int .i64 p], .func (.func fh) #[] #[], .func (.func ft) #[] #[], (.agg #[.int .i64 x, .int .i64 y])] w fun e w' => e = .returned (.tuple #[(.int .i64 0), .int .i64 2]) ∧ Below w.heap.size w w' := by
  have hB := below_two w (.cells #[.int .i64 k, .int .i64 p] 37) (.cells #[.int .i64 x, .int .i64 y] 56)
  have b1 := Blk.second w (.cells #[.int .i64 k, .int .i64 p] 37) 56 #[.int .i64 x, .int .i64 y]
  have HA := Lib.hid ((sasked_any k p _ (hL.next hB)).mono fun _ _ h => And.intro (h.2.1 hR) h.2.2)
  clear hR
  go_enter Tryz.func202, Tryz.ntmps202
  go_wp2_with fail
  refine wp_scope_jumps 0 (fun a' w' => Below w.heap.size w w' ∧ ∃ (u10 u11 u12 u13 u14 u15 u16 u17 u18 u19 u20 u21 u22 u23 u24 u25 u26 u27 u28 : Value), a' = { tmps := #[.agg #[.int .i64 k, .int .i64 p], .func (.func fh) #[] #[], .func (.func ft) #[] #[], (.agg #[.int .i64 x, .int .i64 y]), .pointer (some ⟨w.heap.size, 0, none⟩), undef, undef, (.pointer (some ⟨w.heap.size + 1, 0, none⟩)), (.int .i64 0), .int .i64 2, u10, u11, u12, u13, u14, u15, u16, u17, u18, u19, u20, u21, u22, u23, u24, u25, u26, u27, u28], defers := [] }) (fun _ _ => 0) rfl ?_ ?_
  · go_wp2_with fail
    refine HA.out.mono ?_
    rintro e w1 ⟨rfl, hB1⟩
    replace hB := below_in hB hB1
    replace b1 := b1.below hB1 b1.lt
    have a0 := b1.cell 0
    have a1 := b1.cell 1
    simp only [List.getElem?_toArray, List.getElem?_cons_zero, List.getElem?_cons_succ] at a0 a1
    replace hB := below_in hB (below_one _ (.cells #[.int .i64 0, .int .i64 0, .int .i64 0, .int .i64 0] 130))
    replace b1 := b1.alloc (.cells #[.int .i64 0, .int .i64 0, .int .i64 0, .int .i64 0] 130)
    go_wp2
    go_step3
    exact ⟨rfl, hB, _, _, _, _, _, _, _, _, _, _, _, _, _, _, _, _, _, _, _, rfl⟩
  · clear hB HA b1
    rintro a' w' ⟨hB, u10, u11, u12, u13, u14, u15, u16, u17, u18, u19, u20, u21, u22, u23, u24, u25, u26, u27, u28, rfl⟩
    go_wp2
    simp only [Exit.jump]
    go_ret2
    exact ⟨rfl, hB⟩

set_option maxRecDepth 100000 in
set_option maxHeartbeats 1000000 in
theorem toldN_out (fh ft : Nat) (eh : ∀ args W, (callFunc fh args).run Tryz.prog W = .ok (.enter fh args) W) (k p x y : Int) (hR : RightC k p)
    (hh : ∀ W, Laid W → Calls Tryz.prog fh #[(.agg #[.int .i64 k, .int .i64 p, .int .i64 (shortN k), .int .i64 (madeN k)]), (.agg #[.int .i64 x, .int .i64 y])] W fun e w' => e = .returned (.bool false) ∧ Below W.heap.size W w') (w : World) (hL : Laid w) :
    Calls Tryz.prog 202 #[.agg #[.int .i64 k, .int .i64 p], .func (.func fh) #[] #[], .func (.func ft) #[] #[], (.agg #[.int .i64 x, .int .i64 y])] w fun e w' => e = .returned (.tuple #[(.int .i64 0), .int .i64 4]) ∧ Below w.heap.size w w' := by
  have hB := below_two w (.cells #[.int .i64 k, .int .i64 p] 37) (.cells #[.int .i64 x, .int .i64 y] 56)
  have b1 := Blk.second w (.cells #[.int .i64 k, .int .i64 p] 37) 56 #[.int .i64 x, .int .i64 y]
  have HA := Lib.hid ((sasked_any k p _ (hL.next hB)).mono fun _ _ h => And.intro (h.1 hR) h.2.2)
  have HH := Lib.hid hh
  clear hR hh
  generalize shortN k = s at *
  generalize madeN k = m at *
  go_enter Tryz.func202, Tryz.ntmps202
  go_wp2_with fail
  refine wp_scope_jumps 0 (fun a' w' => Below w.heap.size w w' ∧ ∃ (u10 u11 u12 u13 u14 u15 u16 u17 u18 u19 u20 u21 u22 u23 u24 u25 u26 u27 u28 : Value), a' = { tmps := #[.agg #[.int .i64 k, .int .i64 p], .func (.func fh) #[] #[], .func (.func ft) #[] #[], (.agg #[.int .i64 x, .int .i64 y]), .pointer (some ⟨w.heap.size, 0, none⟩), undef, undef, (.pointer (some ⟨w.heap.size + 1, 0, none⟩)), (.int .i64 0), .int .i64 4, u10, u11, u12, u13, u14, u15, u16, u17, u18, u19, u20, u21, u22, u23, u24, u25, u26, u27, u28], defers := [] }) (fun _ _ => 0) rfl ?_ ?_
  · go_wp2_with fail
    refine HA.out.mono ?_
    rintro e w1 ⟨rfl, hB1⟩
    replace hB := below_in hB hB1
    replace b1 := b1.below hB1 b1.lt
    have a0 := b1.cell 0
    have a1 := b1.cell 1
    simp only [List.getElem?_toArray, List.getElem?_cons_zero, List.getElem?_cons_succ] at a0 a1
    replace hB := below_in hB (below_one _ (.cells #[.int .i64 k, .int .i64 p, .int .i64 s, .int .i64 m] 130))
    replace b1 := b1.alloc (.cells #[.int .i64 k, .int .i64 p, .int .i64 s, .int .i64 m] 130)
    have a0 := b1.cell 0
    have a1 := b1.cell 1
    simp only [List.getElem?_toArray, List.getElem?_cons_zero, List.getElem?_cons_succ] at a0 a1
    have hL2 := hL.next hB
    go_wp2_with fail
    refine (HH.out _ hL2).mono ?_
    rintro e w1 ⟨rfl, hB1⟩
    replace hB := below_in hB hB1
    replace b1 := b1.below hB1 b1.lt
    have a0 := b1.cell 0
    have a1 := b1.cell 1
    simp only [List.getElem?_toArray, List.getElem?_cons_zero, List.getElem?_cons_succ] at a0 a1
    go_wp2
    go_step3
    exact ⟨rfl, hB, _, _, _, _, _, _, _, _, _, _, _, _, _, _, _, _, _, _, _, rfl⟩
  · clear hB HA b1
    rintro a' w' ⟨hB, u10, u11, u12, u13, u14, u15, u16, u17, u18, u19, u20, u21, u22, u23, u24, u25, u26, u27, u28, rfl⟩
    go_wp2
    simp only [Exit.jump]
    go_ret2
    exact ⟨rfl, hB⟩

set_option maxRecDepth 100000 in
set_option maxHeartbeats 1000000 in
theorem toldN_yes (fh ft : Nat) (eh : ∀ args W, (callFunc fh args).run Tryz.prog W = .ok (.enter fh args) W) (et : ∀ args W, (callFunc ft args).run Tryz.prog W = .ok (.enter ft args) W) (k p x y : Int) (hR : RightC k p) (w : World)
    (hh : ∀ W, Laid W → Calls Tryz.prog fh #[(.agg #[.int .i64 k, .int .i64 p, .int .i64 (shortN k), .int .i64 (madeN k)]), (.agg #[.int .i64 x, .int .i64 y])] W fun e w' => e = .returned (.bool true) ∧ Below W.heap.size W w') (R : Value → World → Prop) (ht : ∀ W, Laid W → w.heap.size ≤ W.heap.size → Calls Tryz.prog ft #[(.agg #[.int .i64 k, .int .i64 p, .int .i64 (shortN k), .int .i64 (madeN k)]), (.agg #[.int .i64 x, .int .i64 y])] W fun e w' => ∃ v, e = .returned v ∧ R v w' ∧ Below W.heap.size W w') (hL : Laid w) :
    Calls Tryz.prog 202 #[.agg #[.int .i64 k, .int .i64 p], .func (.func fh) #[] #[], .func (.func ft) #[] #[], (.agg #[.int .i64 x, .int .i64 y])] w fun e w' => ∃ v, e = .returned (.tuple #[v, .int .i64 0]) ∧ R v w' ∧ Below w.heap.size w w' := by
  have hB := below_two w (.cells #[.int .i64 k, .int .i64 p] 37) (.cells #[.int .i64 x, .int .i64 y] 56)
  have b1 := Blk.second w (.cells #[.int .i64 k, .int .i64 p] 37) 56 #[.int .i64 x, .int .i64 y]
  have HA := Lib.hid ((sasked_any k p _ (hL.next hB)).mono fun _ _ h => And.intro (h.1 hR) h.2.2)
  have HH := Lib.hid hh
  have HT := Lib.hid ht
  clear hR hh ht
  generalize shortN k = s at *
  generalize madeN k = m at *
  go_enter Tryz.func202, Tryz.ntmps202
  go_wp2_with fail
  refine wp_scope_jumps 0 (fun a' w' => False) (fun _ _ => 0) rfl ?_ (fun _ _ h => h.elim)
  · go_wp2_with fail
    refine HA.out.mono ?_
    rintro e w1 ⟨rfl, hB1⟩
    replace hB := below_in hB hB1
    replace b1 := b1.below hB1 b1.lt
    have a0 := b1.cell 0
    have a1 := b1.cell 1
    simp only [List.getElem?_toArray, List.getElem?_cons_zero, List.getElem?_cons_succ] at a0 a1
    have b2 := Blk.new w1 130 #[.int .i64 k, .int .i64 p, .int .i64 s, .int .i64 m]
    replace hB := below_in hB (below_one _ (.cells #[.int .i64 k, .int .i64 p, .int .i64 s, .int .i64 m] 130))
    replace b1 := b1.alloc (.cells #[.int .i64 k, .int .i64 p, .int .i64 s, .int .i64 m] 130)
    have a0 := b1.cell 0
    have a1 := b1.cell 1
    simp only [List.getElem?_toArray, List.getElem?_cons_zero, List.getElem?_cons_succ] at a0 a1
    have hL2 := hL.next hB
    go_wp2_with fail
    refine (HH.out _ hL2).mono ?_
    rintro e w3 ⟨rfl, hB3⟩
    replace hB := below_in hB hB3
    replace b2 := b2.below hB3 b2.lt
    replace b1 := b1.below hB3 b1.lt
    have a0 := b1.cell 0
    have a1 := b1.cell 1
    simp only [List.getElem?_toArray, List.getElem?_cons_zero, List.getElem?_cons_succ] at a0 a1
    have c0 := b2.cell 0
    have c1 := b2.cell 1
    have c2 := b2.cell 2
    have c3 := b2.cell 3
    simp only [List.getElem?_toArray, List.getElem?_cons_zero, List.getElem?_cons_succ] at c0 c1 c2 c3
    have hL3 := hL.next hB
    go_wp2_with fail
    refine (HT.out _ hL3 hB.size).mono ?_
    rintro e w2 ⟨v, rfl, hv, hB2⟩
    replace hB := below_in hB hB2
    go_wp2
    simp only [Exit.jump]
    go_ret2
    exact ⟨_, rfl, hv, hB⟩

set_option maxRecDepth 100000 in
set_option maxHeartbeats 1000000 in
theorem toldS_no (fh ft : Nat) (k p x : Int) (hR : ¬ RightC k p) (w : World) (hL : Laid w) :
    Calls Tryz.prog 221 #[.agg #[.int .i64 k, .int .i64 p], .func (.func fh) #[] #[], .func (.func ft) #[] #[], (.int .i64 x)] w fun e w' => e = .returned (.tuple #[.nilFunc, .int .i64 2]) ∧ Below w.heap.size w w' := by
  have hB := below_one w (.cells #[.int .i64 k, .int .i64 p] 37)
  have HA := Lib.hid ((sasked_any k p _ (hL.next hB)).mono fun _ _ h => And.intro (h.2.1 hR) h.2.2)
  clear hR
  go_enter Tryz.func221, Tryz.ntmps221
  go_wp2_with fail
  refine wp_scope_jumps 0 (fun a' w' => Below w.heap.size w w' ∧ ∃ (u10 u11 u12 u13 u14 u15 u16 u17 u18 u19 u20 u21 u22 u23 u24 u25 u26 u27 u28 : Value), a' = { tmps := #[.agg #[.int .i64 k, .int .i64 p], .func (.func fh) #[] #[], .func (.func ft) #[] #[], (.int .i64 x), .pointer (some ⟨w.heap.size, 0, none⟩), undef, undef, undef, .nilFunc, .int .i64 2, u10, u11, u12, u13, u14, u15, u16, u17, u18, u19, u20, u21, u22, u23, u24, u25, u26, u27, u28], defers := [] }) (fun _ _ => 0) rfl ?_ ?_
  · go_wp2_with fail
    refine HA.out.mono ?_
    rintro e w1 ⟨rfl, hB1⟩
    replace hB := below_in hB hB1
    replace hB := below_in hB (below_one _ (.cells #[.int .i64 0, .int .i64 0, .int .i64 0, .int .i64 0] 130))
    go_wp2
    go_step3
    exact ⟨rfl, hB, _, _, _, _, _, _, _, _, _, _, _, _, _, _, _, _, _, _, _, rfl⟩
  · clear hB HA
    rintro a' w' ⟨hB, u10, u11, u12, u13, u14, u15, u16, u17, u18, u19, u20, u21, u22, u23, u24, u25, u26, u27, u28, rfl⟩
    go_wp2
    simp only [Exit.jump]
    go_ret2
    exact ⟨rfl, hB⟩

set_option maxRecDepth 100000 in
set_option maxHeartbeats 1000000 in
theorem toldS_out (fh ft : Nat) (eh : ∀ args W, (callFunc fh args).run Tryz.prog W = .ok (.enter fh args) W) (k p x : Int) (hR : RightC k p)
    (hh : ∀ W, Laid W → Calls Tryz.prog fh #[(.agg #[.int .i64 k, .int .i64 p, .int .i64 (shortN k), .int .i64 (madeN k)]), (.int .i64 x)] W fun e w' => e = .returned (.bool false) ∧ Below W.heap.size W w') (w : World) (hL : Laid w) :
    Calls Tryz.prog 221 #[.agg #[.int .i64 k, .int .i64 p], .func (.func fh) #[] #[], .func (.func ft) #[] #[], (.int .i64 x)] w fun e w' => e = .returned (.tuple #[.nilFunc, .int .i64 4]) ∧ Below w.heap.size w w' := by
  have hB := below_one w (.cells #[.int .i64 k, .int .i64 p] 37)
  have HA := Lib.hid ((sasked_any k p _ (hL.next hB)).mono fun _ _ h => And.intro (h.1 hR) h.2.2)
  have HH := Lib.hid hh
  clear hR hh
  generalize shortN k = s at *
  generalize madeN k = m at *
  go_enter Tryz.func221, Tryz.ntmps221
  go_wp2_with fail
  refine wp_scope_jumps 0 (fun a' w' => Below w.heap.size w w' ∧ ∃ (u10 u11 u12 u13 u14 u15 u16 u17 u18 u19 u20 u21 u22 u23 u24 u25 u26 u27 u28 : Value), a' = { tmps := #[.agg #[.int .i64 k, .int .i64 p], .func (.func fh) #[] #[], .func (.func ft) #[] #[], (.int .i64 x), .pointer (some ⟨w.heap.size, 0, none⟩), undef, undef, undef, .nilFunc, .int .i64 4, u10, u11, u12, u13, u14, u15, u16, u17, u18, u19, u20, u21, u22, u23, u24, u25, u26, u27, u28], defers := [] }) (fun _ _ => 0) rfl ?_ ?_
  · go_wp2_with fail
    refine HA.out.mono ?_
    rintro e w1 ⟨rfl, hB1⟩
    replace hB := below_in hB hB1
    replace hB := below_in hB (below_one _ (.cells #[.int .i64 k, .int .i64 p, .int .i64 s, .int .i64 m] 130))
    have hL2 := hL.next hB
    go_wp2_with fail
    refine (HH.out _ hL2).mono ?_
    rintro e w1 ⟨rfl, hB1⟩
    replace hB := below_in hB hB1
    go_wp2
    go_step3
    exact ⟨rfl, hB, _, _, _, _, _, _, _, _, _, _, _, _, _, _, _, _, _, _, _, rfl⟩
  · clear hB HA
    rintro a' w' ⟨hB, u10, u11, u12, u13, u14, u15, u16, u17, u18, u19, u20, u21, u22, u23, u24, u25, u26, u27, u28, rfl⟩
    go_wp2
    simp only [Exit.jump]
    go_ret2
    exact ⟨rfl, hB⟩

set_option maxRecDepth 100000 in
set_option maxHeartbeats 1000000 in
theorem toldS_yes (fh ft : Nat) (eh : ∀ args W, (callFunc fh args).run Tryz.prog W = .ok (.enter fh args) W) (et : ∀ args W, (callFunc ft args).run Tryz.prog W = .ok (.enter ft args) W) (k p x : Int) (hR : RightC k p) (w : World)
    (hh : ∀ W, Laid W → Calls Tryz.prog fh #[(.agg #[.int .i64 k, .int .i64 p, .int .i64 (shortN k), .int .i64 (madeN k)]), (.int .i64 x)] W fun e w' => e = .returned (.bool true) ∧ Below W.heap.size W w') (R : Value → World → Prop) (ht : ∀ W, Laid W → w.heap.size ≤ W.heap.size → Calls Tryz.prog ft #[(.agg #[.int .i64 k, .int .i64 p, .int .i64 (shortN k), .int .i64 (madeN k)]), (.int .i64 x)] W fun e w' => ∃ v, e = .returned v ∧ R v w' ∧ Below W.heap.size W w') (hL : Laid w) :
    Calls Tryz.prog 221 #[.agg #[.int .i64 k, .int .i64 p], .func (.func fh) #[] #[], .func (.func ft) #[] #[], (.int .i64 x)] w fun e w' => ∃ v, e = .returned (.tuple #[v, .int .i64 0]) ∧ R v w' ∧ Below w.heap.size w w' := by
  have hB := below_one w (.cells #[.int .i64 k, .int .i64 p] 37)
  have HA := Lib.hid ((sasked_any k p _ (hL.next hB)).mono fun _ _ h => And.intro (h.1 hR) h.2.2)
  have HH := Lib.hid hh
  have HT := Lib.hid ht
  clear hR hh ht
  generalize shortN k = s at *
  generalize madeN k = m at *
  go_enter Tryz.func221, Tryz.ntmps221
  go_wp2_with fail
  refine wp_scope_jumps 0 (fun a' w' => False) (fun _ _ => 0) rfl ?_ (fun _ _ h => h.elim)
  · go_wp2_with fail
    refine HA.out.mono ?_
    rintro e w1 ⟨rfl, hB1⟩
    replace hB := below_in hB hB1
    have b2 := Blk.new w1 130 #[.int .i64 k, .int .i64 p, .int .i64 s, .int .i64 m]
    replace hB := below_in hB (below_one _ (.cells #[.int .i64 k, .int .i64 p, .int .i64 s, .int .i64 m] 130))
    have hL2 := hL.next hB
    go_wp2_with fail
    refine (HH.out _ hL2).mono ?_
    rintro e w3 ⟨rfl, hB3⟩
    replace hB := below_in hB hB3
    replace b2 := b2.below hB3 b2.lt
    have c0 := b2.cell 0
    have c1 := b2.cell 1
    have c2 := b2.cell 2
    have c3 := b2.cell 3
    simp only [List.getElem?_toArray, List.getElem?_cons_zero, List.getElem?_cons_succ] at c0 c1 c2 c3
    have hL3 := hL.next hB
    go_wp2_with fail
    refine (HT.out _ hL3 hB.size).mono ?_
    rintro e w2 ⟨v, rfl, hv, hB2⟩
    replace hB := below_in hB hB2
    go_wp2
    simp only [Exit.jump]
    go_ret2
    exact ⟨_, rfl, hv, hB⟩

end Go.Proofs.YtggdlklkjnbbjaaGreatDoor
