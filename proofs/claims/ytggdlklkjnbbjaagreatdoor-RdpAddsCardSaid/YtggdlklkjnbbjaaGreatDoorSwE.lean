/- Role, Place, Number, Diagonal, Slant. -/
import Derived.Test.YtggdlklkjnbbjaaGreatDoorSwD
namespace Go.Proofs.YtggdlklkjnbbjaaGreatDoor
open Go.RowKit Go.Shelf
set_option linter.unusedSimpArgs false
set_option linter.unusedVariables false

/-- A value is told; or the code may not be (2); or it has not that (4). -/
def Tells3 (c b : Prop) (zero v : Value) (w : World) (e : Ending) (w' : World) : Prop :=
  (¬ c → e = .returned (.tuple #[zero, .int .i64 2])) ∧ (c → ¬ b → e = .returned (.tuple #[zero, .int .i64 4])) ∧ (c → b → e = .returned (.tuple #[v, .int .i64 0])) ∧ Below w.heap.size w w'
theorem Tells3.no {c b : Prop} {zero v : Value} {w w' : World} {e : Ending} (hc : ¬ c) (h : e = .returned (.tuple #[zero, .int .i64 2]) ∧ Below w.heap.size w w') : Tells3 c b zero v w e w' := ⟨fun _ => h.1, fun h => absurd h hc, fun h => absurd h hc, h.2⟩
theorem Tells3.out {c b : Prop} {zero v : Value} {w w' : World} {e : Ending} (hc : c) (hb : ¬ b) (h : e = .returned (.tuple #[zero, .int .i64 4]) ∧ Below w.heap.size w w') : Tells3 c b zero v w e w' := ⟨fun h => absurd hc h, fun _ _ => h.1, fun _ h => absurd h hb, h.2⟩
theorem Tells3.yes {c b : Prop} {zero v : Value} {w w' : World} {e : Ending} (hc : c) (hb : b) (h : e = .returned (.tuple #[v, .int .i64 0]) ∧ Below w.heap.size w w') : Tells3 c b zero v w e w' := ⟨fun h => absurd hc h, fun _ h => absurd hb h, fun _ _ => h.1, h.2⟩

theorem enter_hasColumn : ∀ args W, (callFunc 206 args).run Tryz.prog W = .ok (.enter 206 args) W := enters_of Tryz.func206 (by kernel_rfl) rfl
theorem enter_role : ∀ args W, (callFunc 207 args).run Tryz.prog W = .ok (.enter 207 args) W := enters_of Tryz.func207 (by kernel_rfl) rfl
theorem enter_hasCell : ∀ args W, (callFunc 203 args).run Tryz.prog W = .ok (.enter 203 args) W := enters_of Tryz.func203 (by kernel_rfl) rfl
theorem enter_diagonal : ∀ args W, (callFunc 204 args).run Tryz.prog W = .ok (.enter 204 args) W := enters_of Tryz.func204 (by kernel_rfl) rfl
theorem enter_slant : ∀ args W, (callFunc 235 args).run Tryz.prog W = .ok (.enter 235 args) W := enters_of Tryz.func235 (by kernel_rfl) rfl
theorem enter_down : ∀ args W, (callFunc 222 args).run Tryz.prog W = .ok (.enter 222 args) W := enters_of Tryz.func222 (by kernel_rfl) rfl

def HasCol (k p x : Int) : Prop := 0 ≤ x ∧ x < p - shortN k + madeN k
def HasNum (k p x : Int) : Prop := 0 ≤ x ∧ x < (p - shortN k) * (p - 1)
def HasData (k p x y : Int) : Prop := (0 ≤ x ∧ x < p - shortN k) ∧ 0 ≤ y ∧ y < p - 1
def HasCell (k p x y : Int) : Prop := (0 ≤ x ∧ x < p - shortN k + madeN k) ∧ 0 ≤ y ∧ y < p - 1
theorem num_lt {k p x : Int} (hu : Und p (shortN k) (madeN k)) (h : HasNum k p x) : x < 1000 := by
  obtain ⟨p1, p2, s1, s2, m1, m2⟩ := hu
  have := Int.mul_le_mul (show p - shortN k ≤ 17 by omega) (show p - 1 ≤ 17 by omega) (by omega) (by omega)
  have := h.2
  omega

set_option maxHeartbeats 1000000 in
theorem shapeRole_any (k p x : Int) (w : World) (hL : Laid w) : Calls Tryz.prog 195 #[.agg #[.int .i64 k, .int .i64 p], (.int .i64 x)] w (Tells3 (RightC k p) (HasCol k p x) (.int .i64 0) (.int .i64 (roleN (p - shortN k) x)) w) := by
  have hB := below_one w (.cells #[.int .i64 k, .int .i64 p] 37)
  by_cases hR : RightC k p
  · by_cases hb : HasCol k p x
    · refine Calls.mono ?_ fun _ _ h => Tells3.yes hR hb h
      have HT := Lib.hid ((toldR_yes 206 207 enter_hasColumn enter_role k p x hR _ (fun W hL => (hasColumn_any k p _ _ x hR.und W).mono fun _ _ h => ⟨h.1.trans (ret_bool (decide_eq_true hb)), h.2⟩) (fun v _ => v = (.int .i64 (roleN (p - shortN k) x))) (fun W hL _ => (role_any k p _ _ x hR.und W).mono fun _ _ h => ⟨_, h.1, rfl, h.2⟩) (hL.next hB)).mono (R' := fun e w' => e = .returned (.tuple #[(.int .i64 (roleN (p - shortN k) x)), .int .i64 0]) ∧ Below _ _ w') (fun _ _ h => by obtain ⟨v, h1, rfl, h2⟩ := h; exact ⟨h1, h2⟩))
      clear hb hR
      generalize (roleN (p - shortN k) x) = res at *
      go_enter Tryz.func195, Tryz.ntmps195
      go_wp2_with (go_at_call 205; refine HT.out.mono ?_; rintro e w1 ⟨rfl, hB1⟩)
      go_ret2
      exact ⟨rfl, below_in hB hB1⟩
    · refine Calls.mono ?_ fun _ _ h => Tells3.out hR hb h
      have HT := Lib.hid (toldR_out 206 207 enter_hasColumn k p x hR (fun W hL => (hasColumn_any k p _ _ x hR.und W).mono fun _ _ h => ⟨h.1.trans (ret_bool (decide_eq_false hb)), h.2⟩) _ (hL.next hB))
      clear hb hR
      go_enter Tryz.func195, Tryz.ntmps195
      go_wp2_with (go_at_call 205; refine HT.out.mono ?_; rintro e w1 ⟨rfl, hB1⟩)
      go_ret2
      exact ⟨rfl, below_in hB hB1⟩
  · refine Calls.mono ?_ fun _ _ h => Tells3.no hR h
    have HT := Lib.hid (toldR_no 206 207 k p x hR _ (hL.next hB))
    clear hR
    go_enter Tryz.func195, Tryz.ntmps195
    go_wp2_with (go_at_call 205; refine HT.out.mono ?_; rintro e w1 ⟨rfl, hB1⟩)
    go_ret2
    exact ⟨rfl, below_in hB hB1⟩

set_option maxHeartbeats 1000000 in
theorem shapeDiagonal_any (k p x y : Int) (w : World) (hL : Laid w) : Calls Tryz.prog 194 #[.agg #[.int .i64 k, .int .i64 p], (.agg #[.int .i64 x, .int .i64 y])] w (Tells3 (RightC k p) (HasCell k p x y) (.int .i64 0) (.int .i64 ((x + y) % p)) w) := by
  have hB := below_two w (.cells #[.int .i64 k, .int .i64 p] 37) (.cells #[.int .i64 x, .int .i64 y] 56)
  by_cases hR : RightC k p
  · by_cases hb : HasCell k p x y
    · refine Calls.mono ?_ fun _ _ h => Tells3.yes hR hb h
      have HT := Lib.hid ((toldN_yes 203 204 enter_hasCell enter_diagonal k p x y hR _ (fun W hL => (hasCell_any k p _ _ x y hR.und W).mono fun _ _ h => ⟨h.1.trans (ret_bool (decide_eq_true hb)), h.2⟩) (fun v _ => v = (.int .i64 ((x + y) % p))) (fun W hL _ => (diagonal_any k p _ _ x y hR.2 (by obtain ⟨p1, p2, s1, s2, m1, m2⟩ := hR.und; have h1 := hb.1; have h2 := hb.2; omega) (by obtain ⟨p1, p2, s1, s2, m1, m2⟩ := hR.und; have h1 := hb.1; have h2 := hb.2; omega) W hL).mono fun _ _ h => ⟨_, h.1, rfl, h.2⟩) (hL.next hB)).mono (R' := fun e w' => e = .returned (.tuple #[(.int .i64 ((x + y) % p)), .int .i64 0]) ∧ Below _ _ w') (fun _ _ h => by obtain ⟨v, h1, rfl, h2⟩ := h; exact ⟨h1, h2⟩))
      clear hb hR
      generalize ((x + y) % p) = res at *
      go_enter Tryz.func194, Tryz.ntmps194
      go_wp2_with (go_at_call 202; refine HT.out.mono ?_; rintro e w1 ⟨rfl, hB1⟩)
      go_ret2
      exact ⟨rfl, below_in hB hB1⟩
    · refine Calls.mono ?_ fun _ _ h => Tells3.out hR hb h
      have HT := Lib.hid (toldN_out 203 204 enter_hasCell k p x y hR (fun W hL => (hasCell_any k p _ _ x y hR.und W).mono fun _ _ h => ⟨h.1.trans (ret_bool (decide_eq_false hb)), h.2⟩) _ (hL.next hB))
      clear hb hR
      go_enter Tryz.func194, Tryz.ntmps194
      go_wp2_with (go_at_call 202; refine HT.out.mono ?_; rintro e w1 ⟨rfl, hB1⟩)
      go_ret2
      exact ⟨rfl, below_in hB hB1⟩
  · refine Calls.mono ?_ fun _ _ h => Tells3.no hR h
    have HT := Lib.hid (toldN_no 203 204 k p x y hR _ (hL.next hB))
    clear hR
    go_enter Tryz.func194, Tryz.ntmps194
    go_wp2_with (go_at_call 202; refine HT.out.mono ?_; rintro e w1 ⟨rfl, hB1⟩)
    go_ret2
    exact ⟨rfl, below_in hB hB1⟩

set_option maxHeartbeats 1000000 in
theorem shapeSlant_any (k p x y : Int) (w : World) (hL : Laid w) : Calls Tryz.prog 220 #[.agg #[.int .i64 k, .int .i64 p], (.agg #[.int .i64 x, .int .i64 y])] w (Tells3 (RightC k p) (HasCell k p x y) (.int .i64 0) (.int .i64 ((y - x) % p)) w) := by
  have hB := below_two w (.cells #[.int .i64 k, .int .i64 p] 37) (.cells #[.int .i64 x, .int .i64 y] 56)
  by_cases hR : RightC k p
  · by_cases hb : HasCell k p x y
    · refine Calls.mono ?_ fun _ _ h => Tells3.yes hR hb h
      have HT := Lib.hid ((toldN_yes 203 235 enter_hasCell enter_slant k p x y hR _ (fun W hL => (hasCell_any k p _ _ x y hR.und W).mono fun _ _ h => ⟨h.1.trans (ret_bool (decide_eq_true hb)), h.2⟩) (fun v _ => v = (.int .i64 ((y - x) % p))) (fun W hL _ => (slant_any k p _ _ x y hR.2 (by obtain ⟨p1, p2, s1, s2, m1, m2⟩ := hR.und; have h1 := hb.1; have h2 := hb.2; omega) (by obtain ⟨p1, p2, s1, s2, m1, m2⟩ := hR.und; have h1 := hb.1; have h2 := hb.2; omega) W hL).mono fun _ _ h => ⟨_, h.1, rfl, h.2⟩) (hL.next hB)).mono (R' := fun e w' => e = .returned (.tuple #[(.int .i64 ((y - x) % p)), .int .i64 0]) ∧ Below _ _ w') (fun _ _ h => by obtain ⟨v, h1, rfl, h2⟩ := h; exact ⟨h1, h2⟩))
      clear hb hR
      generalize ((y - x) % p) = res at *
      go_enter Tryz.func220, Tryz.ntmps220
      go_wp2_with (go_at_call 202; refine HT.out.mono ?_; rintro e w1 ⟨rfl, hB1⟩)
      go_ret2
      exact ⟨rfl, below_in hB hB1⟩
    · refine Calls.mono ?_ fun _ _ h => Tells3.out hR hb h
      have HT := Lib.hid (toldN_out 203 235 enter_hasCell k p x y hR (fun W hL => (hasCell_any k p _ _ x y hR.und W).mono fun _ _ h => ⟨h.1.trans (ret_bool (decide_eq_false hb)), h.2⟩) _ (hL.next hB))
      clear hb hR
      go_enter Tryz.func220, Tryz.ntmps220
      go_wp2_with (go_at_call 202; refine HT.out.mono ?_; rintro e w1 ⟨rfl, hB1⟩)
      go_ret2
      exact ⟨rfl, below_in hB hB1⟩
  · refine Calls.mono ?_ fun _ _ h => Tells3.no hR h
    have HT := Lib.hid (toldN_no 203 235 k p x y hR _ (hL.next hB))
    clear hR
    go_enter Tryz.func220, Tryz.ntmps220
    go_wp2_with (go_at_call 202; refine HT.out.mono ?_; rintro e w1 ⟨rfl, hB1⟩)
    go_ret2
    exact ⟨rfl, below_in hB hB1⟩

end Go.Proofs.YtggdlklkjnbbjaaGreatDoor
