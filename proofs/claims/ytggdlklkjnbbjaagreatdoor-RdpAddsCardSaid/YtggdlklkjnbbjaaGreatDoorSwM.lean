/- Cells. -/
import Derived.Test.YtggdlklkjnbbjaaGreatDoorSwL
namespace Go.Proofs.YtggdlklkjnbbjaaGreatDoor
open Go.RowKit Go.Shelf
set_option linter.unusedSimpArgs false
set_option linter.unusedVariables false
attribute [local go_sem] Oper.semAt_some

theorem Places.less {lo lo' N : Nat} {col : Int} {zs : List Int} {v : Value} {w : World} (h : Places lo col zs N v w) (hl : lo' ≤ lo) (hw : lo ≤ w.heap.size) : Places lo' col zs N v w := by
  obtain ⟨gf, lb, e, eg, eq, hg⟩ := h
  exact ⟨gf, lb, e, eg, eq, fun n hn l J Jx W hW hJ hJx hY h0 => hg n hn l J Jx W hW hJ hJx (fun pre x W1 hj hl' hs => (hY pre x W1 hj hl' hs).mono fun _ _ h => h.imp (fun ⟨h1, h2, h3, h4⟩ => ⟨h1, h2, h3.less hl (by omega), h4⟩) id) h0⟩

/-- The rows of a column; none, where there is no such column. -/
def Column (k p x : Int) (zs : List Int) : Prop := (RightC k p ∧ HasCol k p x ∧ zs = rowsL p) ∨ (¬ (RightC k p ∧ HasCol k p x) ∧ zs = [])

theorem none_places (lo N : Nat) (x : Int) (w : World) : Places lo x [] N (.func (.func 223) #[] #[]) w :=
  ⟨_, _, rfl, enter_cells1, eql_cells1, fun n _ l J Jx W _ _ _ _ h0 => cells1_in n l J Jx W h0⟩

set_option maxHeartbeats 1000000 in
theorem shapeCells_any (k p x : Int) (w : World) (hL : Laid w) : Calls Tryz.prog 212 #[.agg #[.int .i64 k, .int .i64 p], .int .i64 x] w fun e w' => ∃ v, e = .returned v ∧ (∃ zs, Column k p x zs ∧ Places w.heap.size x zs p.toNat v w') ∧ Below w.heap.size w w' := by
  have hB := below_one w (.cells #[.int .i64 k, .int .i64 p] 37)
  by_cases hR : RightC k p
  · by_cases hb : HasCol k p x
    · have HT := Lib.hid (toldS_yes 206 222 enter_hasColumn enter_down k p x hR _ (fun W hL => (hasColumn_any k p _ _ x hR.und W).mono fun _ _ h => ⟨h.1.trans (ret_bool (decide_eq_true hb)), h.2⟩)
        (fun v w' => Places w.heap.size x (rowsL p) p.toNat v w') (fun W hL hs => (down_any k p _ _ x hR.2 hR.und W hL).mono fun _ _ ⟨v, h1, h2, h3⟩ => ⟨v, h1, h2.less (by have := hB.size; omega) h3.size, h3⟩) (hL.next hB))
      have HC : Hid (Column k p x (rowsL p)) := .inl ⟨hR, hb, rfl⟩
      clear hb hR
      generalize rowsL p = zs at *
      go_enter Tryz.func212, Tryz.ntmps212
      go_wp2_with (go_at_call 221; refine HT.out.mono ?_; rintro e w1 ⟨v, rfl, hv, hB1⟩)
      go_ret
      exact ⟨_, rfl, ⟨_, HC.out, hv⟩, below_in hB hB1⟩
    · have HT := Lib.hid (toldS_out 206 222 enter_hasColumn k p x hR (fun W hL => (hasColumn_any k p _ _ x hR.und W).mono fun _ _ h => ⟨h.1.trans (ret_bool (decide_eq_false hb)), h.2⟩) _ (hL.next hB))
      have HC : Hid (Column k p x []) := .inr ⟨fun h => hb h.2, rfl⟩
      clear hb hR
      go_enter Tryz.func212, Tryz.ntmps212
      go_wp2_with (go_at_call 221; refine HT.out.mono ?_; rintro e w1 ⟨rfl, hB1⟩)
      go_ret
      exact ⟨_, rfl, ⟨_, HC.out, none_places _ _ _ _⟩, below_in hB hB1⟩
  · have HT := Lib.hid (toldS_no 206 222 k p x hR _ (hL.next hB))
    have HC : Hid (Column k p x []) := .inr ⟨fun h => hR h.1, rfl⟩
    clear hR
    go_enter Tryz.func212, Tryz.ntmps212
    go_wp2_with (go_at_call 221; refine HT.out.mono ?_; rintro e w1 ⟨rfl, hB1⟩)
    go_ret
    exact ⟨_, rfl, ⟨_, HC.out, none_places _ _ _ _⟩, below_in hB hB1⟩
end Go.Proofs.YtggdlklkjnbbjaaGreatDoor
