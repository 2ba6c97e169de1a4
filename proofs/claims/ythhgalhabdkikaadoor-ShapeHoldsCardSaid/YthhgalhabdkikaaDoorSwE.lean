/- Role, Place, Number, Diagonal, Slant. -/
import Derived.Test.YthhgalhabdkikaaDoorSwD
namespace Go.Proofs.YthhgalhabdkikaaDoor
open Go.RowKit Go.Shelf
set_option linter.unusedSimpArgs false
set_option linter.unusedVariables false

/-- A value is told; or the code may not be (2); or it has not that (4). -/
def Tells3 (c b : Prop) (zero v : Value) (w : World) (e : Ending) (w' : World) : Prop :=
  (¬ c → e = .returned (.tuple #[zero, .int .i64 2])) ∧ (c → ¬ b → e = .returned (.tuple #[zero, .int .i64 4])) ∧ (c → b → e = .returned (.tuple #[v, .int .i64 0])) ∧ Below w.heap.size w w'
theorem Tells3.no {c b : Prop} {zero v : Value} {w w' : World} {e : Ending} (hc : ¬ c) (h : e = .returned (.tuple #[zero, .int .i64 2]) ∧ Below w.heap.size w w') : Tells3 c b zero v w e w' := ⟨fun _ => h.1, fun h => absurd h hc, fun h => absurd h hc, h.2⟩
theorem Tells3.out {c b : Prop} {zero v : Value} {w w' : World} {e : Ending} (hc : c) (hb : ¬ b) (h : e = .returned (.tuple #[zero, .int .i64 4]) ∧ Below w.heap.size w w') : Tells3 c b zero v w e w' := ⟨fun h => absurd hc h, fun _ _ => h.1, fun _ h => absurd h hb, h.2⟩
theorem Tells3.yes {c b : Prop} {zero v : Value} {w w' : World} {e : Ending} (hc : c) (hb : b) (h : e = .returned (.tuple #[v, .int .i64 0]) ∧ Below w.heap.size w w') : Tells3 c b zero v w e w' := ⟨fun h => absurd hc h, fun _ h => absurd hb h, fun _ _ => h.1, h.2⟩

theorem enter_hasColumn : ∀ args W, (callFunc 44 args).run Tryd.prog W = .ok (.enter 44 args) W := enters_of Tryd.func44 (by kernel_rfl) rfl
theorem enter_role : ∀ args W, (callFunc 45 args).run Tryd.prog W = .ok (.enter 45 args) W := enters_of Tryd.func45 (by kernel_rfl) rfl
theorem enter_hasNumber : ∀ args W, (callFunc 47 args).run Tryd.prog W = .ok (.enter 47 args) W := enters_of Tryd.func47 (by kernel_rfl) rfl
theorem enter_place : ∀ args W, (callFunc 48 args).run Tryd.prog W = .ok (.enter 48 args) W := enters_of Tryd.func48 (by kernel_rfl) rfl
theorem enter_hasData : ∀ args W, (callFunc 50 args).run Tryd.prog W = .ok (.enter 50 args) W := enters_of Tryd.func50 (by kernel_rfl) rfl
theorem enter_number : ∀ args W, (callFunc 51 args).run Tryd.prog W = .ok (.enter 51 args) W := enters_of Tryd.func51 (by kernel_rfl) rfl
theorem enter_hasCell : ∀ args W, (callFunc 52 args).run Tryd.prog W = .ok (.enter 52 args) W := enters_of Tryd.func52 (by kernel_rfl) rfl
theorem enter_diagonal : ∀ args W, (callFunc 53 args).run Tryd.prog W = .ok (.enter 53 args) W := enters_of Tryd.func53 (by kernel_rfl) rfl
theorem enter_slant : ∀ args W, (callFunc 54 args).run Tryd.prog W = .ok (.enter 54 args) W := enters_of Tryd.func54 (by kernel_rfl) rfl
theorem enter_down : ∀ args W, (callFunc 57 args).run Tryd.prog W = .ok (.enter 57 args) W := enters_of Tryd.func57 (by kernel_rfl) rfl

def HasCol (k p x : Int) : Prop := 0 ≤ x ∧ x < p - shortN k + madeN k
def HasNum (k p x : Int) : Prop := 0 ≤ x ∧ x < (p - shortN k) * (p - 1)
def HasData (k p x y : Int) : Prop := (0 ≤ x ∧ x < p - shortN k) ∧ 0 ≤ y ∧ y < p - 1
def HasCell (k p x y : Int) : Prop := (0 ≤ x ∧ x < p - shortN k + madeN k) ∧ 0 ≤ y ∧ y < p - 1
theorem num_lt {k p x : Int} (hu : Und p (shortN k) (madeN k)) (h : HasNum k p x) : x < 1000 := by
  obtain ⟨p1, p2, s1, s2, m1, m2⟩ := hu
  have := Int.mul_le_mul (show p - shortN k ≤ 17 by omega) (show p - 1 ≤ 17 by omega) (by omega) (by omega)
  have := h.2
  omega

set_option maxHeartbeats 1000000 in
theorem shapeRole_any (k p x : Int) (w : World) (hL : Laid w) : Calls Tryd.prog 23 #[.agg #[.int .i64 k, .int .i64 p], (.int .i64 x)] w (Tells3 (RightC k p) (HasCol k p x) (.int .i64 0) (.int .i64 (roleN (p - shortN k) x)) w) := by
  have hB := below_one w (.cells #[.int .i64 k, .int .i64 p] 24)
  by_cases hR : RightC k p
  · by_cases hb : HasCol k p x
    · refine Calls.mono ?_ fun _ _ h => Tells3.yes hR hb h
      have HT := Lib.hid ((toldR_yes 44 45 enter_hasColumn enter_role k p x hR _ (fun W hL => (hasColumn_any k p _ _ x hR.und W).mono fun _ _ h => ⟨h.1.trans (ret_bool (decide_eq_true hb)), h.2⟩) (fun v _ => v = (.int .i64 (roleN (p - shortN k) x))) (fun W hL _ => (role_any k p _ _ x hR.und W).mono fun _ _ h => ⟨_, h.1, rfl, h.2⟩) (hL.next hB)).mono (R' := fun e w' => e = .returned (.tuple #[(.int .i64 (roleN (p - shortN k) x)), .int .i64 0]) ∧ Below _ _ w') (fun _ _ h => by obtain ⟨v, h1, rfl, h2⟩ := h; exact ⟨h1, h2⟩))
      clear hb hR
      generalize (roleN (p - shortN k) x) = res at *
      go_enter Tryd.func23, Tryd.ntmps23
      go_wp2_with (go_at_call 43; refine HT.out.mono ?_; rintro e w1 ⟨rfl, hB1⟩)
      go_ret2
      exact ⟨rfl, below_in hB hB1⟩
    · refine Calls.mono ?_ fun _ _ h => Tells3.out hR hb h
      have HT := Lib.hid (toldR_out 44 45 enter_hasColumn k p x hR (fun W hL => (hasColumn_any k p _ _ x hR.und W).mono fun _ _ h => ⟨h.1.trans (ret_bool (decide_eq_false hb)), h.2⟩) _ (hL.next hB))
      clear hb hR
      go_enter Tryd.func23, Tryd.ntmps23
      go_wp2_with (go_at_call 43; refine HT.out.mono ?_; rintro e w1 ⟨rfl, hB1⟩)
      go_ret2
      exact ⟨rfl, below_in hB hB1⟩
  · refine Calls.mono ?_ fun _ _ h => Tells3.no hR h
    have HT := Lib.hid (toldR_no 44 45 k p x hR _ (hL.next hB))
    clear hR
    go_enter Tryd.func23, Tryd.ntmps23
    go_wp2_with (go_at_call 43; refine HT.out.mono ?_; rintro e w1 ⟨rfl, hB1⟩)
    go_ret2
    exact ⟨rfl, below_in hB hB1⟩

set_option maxHeartbeats 1000000 in
theorem shapeNumber_any (k p x y : Int) (w : World) (hL : Laid w) : Calls Tryd.prog 25 #[.agg #[.int .i64 k, .int .i64 p], (.agg #[.int .i64 x, .int .i64 y])] w (Tells3 (RightC k p) (HasData k p x y) (.int .i64 0) (.int .i64 (y * (p - shortN k) + x)) w) := by
  have hB := below_two w (.cells #[.int .i64 k, .int .i64 p] 24) (.cells #[.int .i64 x, .int .i64 y] 37)
  by_cases hR : RightC k p
  · by_cases hb : HasData k p x y
    · refine Calls.mono ?_ fun _ _ h => Tells3.yes hR hb h
      have HT := Lib.hid ((toldN_yes 50 51 enter_hasData enter_number k p x y hR _ (fun W hL => (hasData_any k p _ _ x y hR.und W).mono fun _ _ h => ⟨h.1.trans (ret_bool (decide_eq_true hb)), h.2⟩) (fun v _ => v = (.int .i64 (y * (p - shortN k) + x))) (fun W hL _ => (number_any k p _ _ x y hR.und (by obtain ⟨p1, p2, s1, s2, m1, m2⟩ := hR.und; have h1 := hb.1; have h2 := hb.2; omega) (by obtain ⟨p1, p2, s1, s2, m1, m2⟩ := hR.und; have h1 := hb.1; have h2 := hb.2; omega) W).mono fun _ _ h => ⟨_, h.1, rfl, h.2⟩) (hL.next hB)).mono (R' := fun e w' => e = .returned (.tuple #[(.int .i64 (y * (p - shortN k) + x)), .int .i64 0]) ∧ Below _ _ w') (fun _ _ h => by obtain ⟨v, h1, rfl, h2⟩ := h; exact ⟨h1, h2⟩))
      clear hb hR
      generalize (y * (p - shortN k) + x) = res at *
      go_enter Tryd.func25, Tryd.ntmps25
      go_wp2_with (go_at_call 49; refine HT.out.mono ?_; rintro e w1 ⟨rfl, hB1⟩)
      go_ret2
      exact ⟨rfl, below_in hB hB1⟩
    · refine Calls.mono ?_ fun _ _ h => Tells3.out hR hb h
      have HT := Lib.hid (toldN_out 50 51 enter_hasData k p x y hR (fun W hL => (hasData_any k p _ _ x y hR.und W).mono fun _ _ h => ⟨h.1.trans (ret_bool (decide_eq_false hb)), h.2⟩) _ (hL.next hB))
      clear hb hR
      go_enter Tryd.func25, Tryd.ntmps25
      go_wp2_with (go_at_call 49; refine HT.out.mono ?_; rintro e w1 ⟨rfl, hB1⟩)
      go_ret2
      exact ⟨rfl, below_in hB hB1⟩
  · refine Calls.mono ?_ fun _ _ h => Tells3.no hR h
    have HT := Lib.hid (toldN_no 50 51 k p x y hR _ (hL.next hB))
    clear hR
    go_enter Tryd.func25, Tryd.ntmps25
    go_wp2_with (go_at_call 49; refine HT.out.mono ?_; rintro e w1 ⟨rfl, hB1⟩)
    go_ret2
    exact ⟨rfl, below_in hB hB1⟩

set_option maxHeartbeats 1000000 in
theorem shapeDiagonal_any (k p x y : Int) (w : World) (hL : Laid w) : Calls Tryd.prog 29 #[.agg #[.int .i64 k, .int .i64 p], (.agg #[.int .i64 x, .int .i64 y])] w (Tells3 (RightC k p) (HasCell k p x y) (.int .i64 0) (.int .i64 ((x + y) % p)) w) := by
  have hB := below_two w (.cells #[.int .i64 k, .int .i64 p] 24) (.cells #[.int .i64 x, .int .i64 y] 37)
  by_cases hR : RightC k p
  · by_cases hb : HasCell k p x y
    · refine Calls.mono ?_ fun _ _ h => Tells3.yes hR hb h
      have HT := Lib.hid ((toldN_yes 52 53 enter_hasCell enter_diagonal k p x y hR _ (fun W hL => (hasCell_any k p _ _ x y hR.und W).mono fun _ _ h => ⟨h.1.trans (ret_bool (decide_eq_true hb)), h.2⟩) (fun v _ => v = (.int .i64 ((x + y) % p))) (fun W hL _ => (diagonal_any k p _ _ x y hR.2 (by obtain ⟨p1, p2, s1, s2, m1, m2⟩ := hR.und; have h1 := hb.1; have h2 := hb.2; omega) (by obtain ⟨p1, p2, s1, s2, m1, m2⟩ := hR.und; have h1 := hb.1; have h2 := hb.2; omega) W hL).mono fun _ _ h => ⟨_, h.1, rfl, h.2⟩) (hL.next hB)).mono (R' := fun e w' => e = .returned (.tuple #[(.int .i64 ((x + y) % p)), .int .i64 0]) ∧ Below _ _ w') (fun _ _ h => by obtain ⟨v, h1, rfl, h2⟩ := h; exact ⟨h1, h2⟩))
      clear hb hR
      generalize ((x + y) % p) = res at *
      go_enter Tryd.func29, Tryd.ntmps29
      go_wp2_with (go_at_call 49; refine HT.out.mono ?_; rintro e w1 ⟨rfl, hB1⟩)
      go_ret2
      exact ⟨rfl, below_in hB hB1⟩
    · refine Calls.mono ?_ fun _ _ h => Tells3.out hR hb h
      have HT := Lib.hid (toldN_out 52 53 enter_hasCell k p x y hR (fun W hL => (hasCell_any k p _ _ x y hR.und W).mono fun _ _ h => ⟨h.1.trans (ret_bool (decide_eq_false hb)), h.2⟩) _ (hL.next hB))
      clear hb hR
      go_enter Tryd.func29, Tryd.ntmps29
      go_wp2_with (go_at_call 49; refine HT.out.mono ?_; rintro e w1 ⟨rfl, hB1⟩)
      go_ret2
      exact ⟨rfl, below_in hB hB1⟩
  · refine Calls.mono ?_ fun _ _ h => Tells3.no hR h
    have HT := Lib.hid (toldN_no 52 53 k p x y hR _ (hL.next hB))
    clear hR
    go_enter Tryd.func29, Tryd.ntmps29
    go_wp2_with (go_at_call 49; refine HT.out.mono ?_; rintro e w1 ⟨rfl, hB1⟩)
    go_ret2
    exact ⟨rfl, below_in hB hB1⟩

set_option maxHeartbeats 1000000 in
theorem shapeSlant_any (k p x y : Int) (w : World) (hL : Laid w) : Calls Tryd.prog 30 #[.agg #[.int .i64 k, .int .i64 p], (.agg #[.int .i64 x, .int .i64 y])] w (Tells3 (RightC k p) (HasCell k p x y) (.int .i64 0) (.int .i64 ((y - x) % p)) w) := by
  have hB := below_two w (.cells #[.int .i64 k, .int .i64 p] 24) (.cells #[.int .i64 x, .int .i64 y] 37)
  by_cases hR : RightC k p
  · by_cases hb : HasCell k p x y
    · refine Calls.mono ?_ fun _ _ h => Tells3.yes hR hb h
      have HT := Lib.hid ((toldN_yes 52 54 enter_hasCell enter_slant k p x y hR _ (fun W hL => (hasCell_any k p _ _ x y hR.und W).mono fun _ _ h => ⟨h.1.trans (ret_bool (decide_eq_true hb)), h.2⟩) (fun v _ => v = (.int .i64 ((y - x) % p))) (fun W hL _ => (slant_any k p _ _ x y hR.2 (by obtain ⟨p1, p2, s1, s2, m1, m2⟩ := hR.und; have h1 := hb.1; have h2 := hb.2; omega) (by obtain ⟨p1, p2, s1, s2, m1, m2⟩ := hR.und; have h1 := hb.1; have h2 := hb.2; omega) W hL).mono fun _ _ h => ⟨_, h.1, rfl, h.2⟩) (hL.next hB)).mono (R' := fun e w' => e = .returned (.tuple #[(.int .i64 ((y - x) % p)), .int .i64 0]) ∧ Below _ _ w') (fun _ _ h => by obtain ⟨v, h1, rfl, h2⟩ := h; exact ⟨h1, h2⟩))
      clear hb hR
      generalize ((y - x) % p) = res at *
      go_enter Tryd.func30, Tryd.ntmps30
      go_wp2_with (go_at_call 49; refine HT.out.mono ?_; rintro e w1 ⟨rfl, hB1⟩)
      go_ret2
      exact ⟨rfl, below_in hB hB1⟩
    · refine Calls.mono ?_ fun _ _ h => Tells3.out hR hb h
      have HT := Lib.hid (toldN_out 52 54 enter_hasCell k p x y hR (fun W hL => (hasCell_any k p _ _ x y hR.und W).mono fun _ _ h => ⟨h.1.trans (ret_bool (decide_eq_false hb)), h.2⟩) _ (hL.next hB))
      clear hb hR
      go_enter Tryd.func30, Tryd.ntmps30
      go_wp2_with (go_at_call 49; refine HT.out.mono ?_; rintro e w1 ⟨rfl, hB1⟩)
      go_ret2
      exact ⟨rfl, below_in hB hB1⟩
  · refine Calls.mono ?_ fun _ _ h => Tells3.no hR h
    have HT := Lib.hid (toldN_no 52 54 k p x y hR _ (hL.next hB))
    clear hR
    go_enter Tryd.func30, Tryd.ntmps30
    go_wp2_with (go_at_call 49; refine HT.out.mono ?_; rintro e w1 ⟨rfl, hB1⟩)
    go_ret2
    exact ⟨rfl, below_in hB hB1⟩

set_option maxHeartbeats 1000000 in
theorem shapePlace_any (k p x : Int) (w : World) (hL : Laid w) : Calls Tryd.prog 24 #[.agg #[.int .i64 k, .int .i64 p], (.int .i64 x)] w (Tells3 (RightC k p) (HasNum k p x) (.agg #[.int .i64 0, .int .i64 0]) (.agg #[.int .i64 (x % (p - shortN k)), .int .i64 (x / (p - shortN k))]) w) := by
  have hB := below_two w (.cells #[.int .i64 k, .int .i64 p] 24) (.cells #[.int .i64 0, .int .i64 0] 37)
  by_cases hR : RightC k p
  · by_cases hb : HasNum k p x
    · refine Calls.mono ?_ fun _ _ h => Tells3.yes hR hb h
      have HT := Lib.hid (toldA_yes 47 48 enter_hasNumber enter_place k p x hR _ (fun W hL => (hasNumber_any k p _ _ x hR.und W).mono fun _ _ h => ⟨h.1.trans (ret_bool (decide_eq_true hb)), h.2⟩) _ _ (fun W hL => place_any k p _ _ x hR.und hb.1 (num_lt hR.und hb) W) (hL.next hB))
      clear hb hR
      generalize x % (p - shortN k) = c0 at *
      generalize x / (p - shortN k) = c1 at *
      have b1 := Blk.second w (.cells #[.int .i64 k, .int .i64 p] 24) 37 #[.int .i64 0, .int .i64 0]
      go_enter Tryd.func24, Tryd.ntmps24
      go_wp2_with (go_at_call 46; refine HT.out.mono ?_; rintro e w1 ⟨rfl, hB1⟩; replace b1 := b1.below hB1 b1.lt; have d0 := b1.cell 0; have d1 := b1.cell 1; have f0 := b1.frozen 0; have f1 := b1.frozen 1; simp only [List.getElem?_toArray, List.getElem?_cons_zero, List.getElem?_cons_succ] at d0 d1)
      have r := ((b1.set_ 0 (.int .i64 c0)).set_ 1 (.int .i64 c1))
      have r0 := r.cell 0
      have r1 := r.cell 1
      simp only [List.setIfInBounds_toArray, List.set_cons_zero, List.set_cons_succ, List.getElem?_toArray, List.getElem?_cons_zero, List.getElem?_cons_succ] at r0 r1
      exact bodyPost_ret (v := .tuple #[.agg #[.int .i64 c0, .int .i64 c1], .int .i64 0]) (by simp [results, Tryd.results24, go_sem, r0, r1]) rfl ⟨rfl, ((below_in hB hB1).setCell (by simp) _).setCell (by simp) _⟩
    · refine Calls.mono ?_ fun _ _ h => Tells3.out hR hb h
      have HT := Lib.hid (toldA_out 47 48 enter_hasNumber k p x hR (fun W hL => (hasNumber_any k p _ _ x hR.und W).mono fun _ _ h => ⟨h.1.trans (ret_bool (decide_eq_false hb)), h.2⟩) _ (hL.next hB))
      clear hb hR
      have b1 := Blk.second w (.cells #[.int .i64 k, .int .i64 p] 24) 37 #[.int .i64 0, .int .i64 0]
      go_enter Tryd.func24, Tryd.ntmps24
      go_wp2_with (go_at_call 46; refine HT.out.mono ?_; rintro e w1 ⟨rfl, hB1⟩; replace b1 := b1.below hB1 b1.lt; have d0 := b1.cell 0; have d1 := b1.cell 1; have f0 := b1.frozen 0; have f1 := b1.frozen 1; simp only [List.getElem?_toArray, List.getElem?_cons_zero, List.getElem?_cons_succ] at d0 d1)
      have r := ((b1.set_ 0 (.int .i64 0)).set_ 1 (.int .i64 0))
      have r0 := r.cell 0
      have r1 := r.cell 1
      simp only [List.setIfInBounds_toArray, List.set_cons_zero, List.set_cons_succ, List.getElem?_toArray, List.getElem?_cons_zero, List.getElem?_cons_succ] at r0 r1
      exact bodyPost_ret (v := .tuple #[.agg #[.int .i64 0, .int .i64 0], .int .i64 4]) (by simp [results, Tryd.results24, go_sem, r0, r1]) rfl ⟨rfl, ((below_in hB hB1).setCell (by simp) _).setCell (by simp) _⟩
  · refine Calls.mono ?_ fun _ _ h => Tells3.no hR h
    have HT := Lib.hid (toldA_no 47 48 k p x hR _ (hL.next hB))
    clear hR
    have b1 := Blk.second w (.cells #[.int .i64 k, .int .i64 p] 24) 37 #[.int .i64 0, .int .i64 0]
    go_enter Tryd.func24, Tryd.ntmps24
    go_wp2_with (go_at_call 46; refine HT.out.mono ?_; rintro e w1 ⟨rfl, hB1⟩; replace b1 := b1.below hB1 b1.lt; have d0 := b1.cell 0; have d1 := b1.cell 1; have f0 := b1.frozen 0; have f1 := b1.frozen 1; simp only [List.getElem?_toArray, List.getElem?_cons_zero, List.getElem?_cons_succ] at d0 d1)
    have r := ((b1.set_ 0 (.int .i64 0)).set_ 1 (.int .i64 0))
    have r0 := r.cell 0
    have r1 := r.cell 1
    simp only [List.setIfInBounds_toArray, List.set_cons_zero, List.set_cons_succ, List.getElem?_toArray, List.getElem?_cons_zero, List.getElem?_cons_succ] at r0 r1
    exact bodyPost_ret (v := .tuple #[.agg #[.int .i64 0, .int .i64 0], .int .i64 2]) (by simp [results, Tryd.results24, go_sem, r0, r1]) rfl ⟨rfl, ((below_in hB hB1).setCell (by simp) _).setCell (by simp) _⟩

end Go.Proofs.YthhgalhabdkikaaDoor
