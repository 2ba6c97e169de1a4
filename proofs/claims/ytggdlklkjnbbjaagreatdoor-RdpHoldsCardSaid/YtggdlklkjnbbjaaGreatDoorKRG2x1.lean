/- RDP: the cells that are not as they are made. RDP: the cells that are wrong, gathered. RDP: whether columns are as they are made; the places of an answer, gone over. RDP: Check, and the wrong cells of an answer. RDP's laws: what they range over; numbers, the code, columns that are right. RDP's laws: the chapter's rows. RDP's laws: what is made of columns that are put upon one another. RDP's laws: columns that are put upon one another, as a row of the call's own. -/
import Derived.Test.YtggdlklkjnbbjaaGreatDoorKRG1
import Derived.Test.YtggdlklkjnbbjaaGreatDoorKEG3
import Derived.Test.YtggdlklkjnbbjaaGreatDoorKCA
import Derived.Test.YtggdlklkjnbbjaaGreatDoorKEG4
import Derived.Test.YtggdlklkjnbbjaaGreatDoorKEG4x1
import Derived.Test.YtggdlklkjnbbjaaGreatDoorKZG4
import Derived.Test.YtggdlklkjnbbjaaGreatDoorKEG6
import Derived.Test.YtggdlklkjnbbjaaGreatDoorKEG6x1
import Derived.Test.YtggdlklkjnbbjaaGreatDoorKSAx1
import Derived.Test.YtggdlklkjnbbjaaGreatDoorKZG5x1
import Derived.Test.YtggdlklkjnbbjaaGreatDoorKRG2
namespace Go.Proofs.YtggdlklkjnbbjaaGreatDoor.R
open Go.RowKit Go.Shelf Go.Proofs.YtggdlklkjnbbjaaGreatDoor.C Go.Proofs.YtggdlklkjnbbjaaGreatDoor.E
set_option linter.unusedSimpArgs false
set_option linter.unusedVariables false
attribute [local go_sem] Oper.semAt_some

end Go.Proofs.YtggdlklkjnbbjaaGreatDoor.R

namespace Go.Proofs.YtggdlklkjnbbjaaGreatDoor.R
open Go.RowKit Go.Shelf Go.Proofs.YtggdlklkjnbbjaaGreatDoor.C Go.Proofs.YtggdlklkjnbbjaaGreatDoor.E
set_option linter.unusedSimpArgs false
set_option linter.unusedVariables false
attribute [local go_sem] Oper.semAt_some

end Go.Proofs.YtggdlklkjnbbjaaGreatDoor.R

namespace Go.Proofs.YtggdlklkjnbbjaaGreatDoor.R
open Go.RowKit Go.Shelf Go.Proofs.YtggdlklkjnbbjaaGreatDoor.C Go.Proofs.YtggdlklkjnbbjaaGreatDoor.E
set_option linter.unusedSimpArgs false
set_option linter.unusedVariables false
attribute [local go_sem] Oper.semAt_some

end Go.Proofs.YtggdlklkjnbbjaaGreatDoor.R

namespace Go.Proofs.YtggdlklkjnbbjaaGreatDoor.R
open Go.RowKit Go.Shelf Go.Proofs.YtggdlklkjnbbjaaGreatDoor.C Go.Proofs.YtggdlklkjnbbjaaGreatDoor.E
set_option linter.unusedSimpArgs false
set_option linter.unusedVariables false

end Go.Proofs.YtggdlklkjnbbjaaGreatDoor.R

namespace Go.Proofs.YtggdlklkjnbbjaaGreatDoor.R
open Go.RowKit Go.Shelf Go.Proofs.YtggdlklkjnbbjaaGreatDoor.C Go.Proofs.YtggdlklkjnbbjaaGreatDoor.E
set_option linter.unusedSimpArgs false
set_option linter.unusedVariables false

section
attribute [local go_sem] Oper.semAt_some
end
set_option maxRecDepth 100000 in
set_option maxHeartbeats 1000000 in
theorem lright_any {B : Nat} (p : Int) (v : Value) (css : List (List (List UInt8))) (w : World) (hB : B ≤ w.heap.size) (hC : Cols B w v css) (hlen : css.length ≤ 1000) (b : Bool) (hb : b = true ↔ DataR p css) :
    Calls Tryz.prog 28 #[.int .i64 p, v] w fun e w' => e = .returned (.bool b) ∧ Below w.heap.size w w' := by
  obtain ⟨A, cap, rfl, _, _⟩ := id hC
  by_cases hR : RightD p css
  · have HR := Lib.hid (right6_any p _ css w hB hC hlen true (by simp [hR]))
    have hRC : RightC 2 p := ⟨by decide, hR.1⟩
    have HC := Lib.hid (fun U => lcode_any p U)
    have HD := Lib.hid (fun U => refData_any 2 p hRC U)
    rw [show p - shortN 2 = p - 1 from rfl] at HD
    by_cases hn : (css.length : Int) = p - 1
    · have hbt : b = true := hb.2 ⟨hR, hn⟩
      subst hbt
      have hne : ((css.length : Int) == p - 1) = true := by rw [beq_iff_eq]; exact hn
      clear hb hR hRC hn hC
      go_enter Tryz.func28, Tryz.ntmps28
      go_wp2_with (first
        | (go_at_call 15; refine HR.out.mono ?_; rintro e w1 ⟨rfl, hB1⟩)
        | (go_at_call 30; refine (HC.out _).mono ?_; rintro e w2 ⟨rfl, hB2⟩)
        | (go_at_call 53; refine (HD.out _).mono ?_; rintro e w3 ⟨rfl, hB3⟩))
      go_ret
      exact ⟨rfl, below_in (below_in hB1 hB2) hB3⟩
    · have hbf : b = false := Bool.eq_false_iff.2 fun h => hn (hb.1 h).2
      subst hbf
      have hne : ((css.length : Int) == p - 1) = false := by rw [beq_eq_false_iff_ne]; exact hn
      clear hb hR hRC hn hC
      go_enter Tryz.func28, Tryz.ntmps28
      go_wp2_with (first
        | (go_at_call 15; refine HR.out.mono ?_; rintro e w1 ⟨rfl, hB1⟩)
        | (go_at_call 30; refine (HC.out _).mono ?_; rintro e w2 ⟨rfl, hB2⟩)
        | (go_at_call 53; refine (HD.out _).mono ?_; rintro e w3 ⟨rfl, hB3⟩))
      go_ret
      exact ⟨rfl, below_in (below_in hB1 hB2) hB3⟩
  · have HR := Lib.hid (right6_any p _ css w hB hC hlen false (by simp [hR]))
    have hbf : b = false := Bool.eq_false_iff.2 fun h => hR (hb.1 h).1
    subst hbf
    clear hb hR hC
    go_enter Tryz.func28, Tryz.ntmps28
    go_wp2_with (go_at_call 15; refine HR.out.mono ?_; rintro e w1 ⟨rfl, hB1⟩)
    go_ret
    exact ⟨rfl, hB1⟩
end Go.Proofs.YtggdlklkjnbbjaaGreatDoor.R

namespace Go.Proofs.YtggdlklkjnbbjaaGreatDoor.R
open Go.RowKit Go.Shelf Go.Proofs.YtggdlklkjnbbjaaGreatDoor.C Go.Proofs.YtggdlklkjnbbjaaGreatDoor.E
set_option linter.unusedSimpArgs false
set_option linter.unusedVariables false

attribute [local go_sem] Oper.semAt_some
end Go.Proofs.YtggdlklkjnbbjaaGreatDoor.R

namespace Go.Proofs.YtggdlklkjnbbjaaGreatDoor.R
open Go.RowKit Go.Shelf Go.Proofs.YtggdlklkjnbbjaaGreatDoor.C Go.Proofs.YtggdlklkjnbbjaaGreatDoor.E
set_option linter.unusedSimpArgs false
set_option linter.unusedVariables false

theorem grid_tog {R n : Nat} {css : List (List (List UInt8))} (hg : Grid R n css) (h0 : 0 < css.length) (hR : 0 < R) (hn : 1 ≤ n ∧ n ≤ 64) : TogOk R css ∧ (firstC css).length = n := by
  have hf : (firstC css).length = n := (hg 0 h0).2 0 hR
  refine ⟨⟨h0, fun j hj => ⟨(hg j hj).1, ?_, fun i hi => ?_⟩⟩, hf⟩
  · unfold Cell
    rw [hf]
    exact hn
  · rw [hf]
    exact (hg j hj).2 i (by rw [← (hg j hj).1]; exact hi)
theorem Grid.app {R n : Nat} {a b : List (List (List UInt8))} (ha : Grid R n a) (hb : Grid R n b) : Grid R n (a ++ b) := by
  intro j hj
  rw [List.length_append] at hj
  rcases Nat.lt_or_ge j a.length with h | h
  · rw [List.getElem?_append_left h]; exact ha j h
  · rw [List.getElem?_append_right h]; exact hb _ (by omega)
theorem Grid.rdp {R n : Nat} {p : Int} (hR : R = (p - 1).toNat) {a : List (List (List UInt8))} (hn : (firstC a).length = n) : Grid R n (rdpOf p a) := by
  intro j hj
  have hj2 : j = 0 ∨ j = 1 := by have : j < 2 := hj; omega
  rcases hj2 with rfl | rfl
  · exact ⟨by rw [hR]; exact colL_len _ _ _ _ _, fun i hi => by
      show ((colL 2 p _ a (p - 1))[i]?.getD []).length = n
      rw [colL_at _ _ _ _ _ (by omega), uponL_len]; exact hn⟩
  · exact ⟨by rw [hR]; exact colL_len _ _ _ _ _, fun i hi => by
      show ((colL 2 p _ _ p)[i]?.getD []).length = n
      rw [colL_at _ _ _ _ _ (by omega), uponL_len]; exact hn⟩
section
variable {p : Int} {a b : List (List (List UInt8))}
theorem dataR_n (h : DataR p a) : (a.length : Int) = p - 1 ∧ 3 ≤ p ∧ p ≤ 17 ∧ p - 1 = ((p - 1).toNat : Int) ∧ 1 ≤ (firstC a).length ∧ (firstC a).length ≤ 64 := by
  have hpp := prm_bounds h.1.1
  have h1 := togOk_first h.1.2
  exact ⟨h.2, hpp.1, hpp.2, by omega, h1.1, h1.2⟩
theorem allR_of (ha : DataR p a) : AllR p (a ++ rdpOf p a) ∧ Grid (p - 1).toNat (firstC a).length (a ++ rdpOf p a) := by
  obtain ⟨n1, n2, n3, n4, n5, n6⟩ := dataR_n ha
  have hG := Grid.app (togOk_grid ha.1.2) (Grid.rdp (a := a) (p := p) rfl rfl)
  exact ⟨⟨⟨ha.1.1, (grid_tog hG (by rw [List.length_append]; omega) (by omega) ⟨n5, n6⟩).1⟩, by rw [List.length_append]; show ((a.length + 2 : Nat) : Int) = _; omega⟩, hG⟩
/-- What is left out of data and what is made. -/
def restOf (p : Int) (a : List (List (List UInt8))) : List UInt8 := adjOf p ((a ++ rdpOf p a).take p.toNat)
theorem left_data (ha : DataR p a) : DataOk p ((a ++ rdpOf p a).take p.toNat) := allR_data (allR_of ha).1
theorem left_take (ha : DataR p a) : (a ++ rdpOf p a).take p.toNat = a ++ [colL 2 p (firstC a).length a (p - 1)] := by
  obtain ⟨n1, n2, n3, n4, n5, n6⟩ := dataR_n ha
  rw [show p.toNat = a.length + 1 by omega, List.take_length_add_append]
  rfl
theorem left_first (ha : DataR p a) : (firstC ((a ++ rdpOf p a).take p.toNat)).length = (firstC a).length := by
  obtain ⟨n1, n2, n3, n4, n5, n6⟩ := dataR_n ha
  rw [left_take ha]
  unfold firstC
  rw [List.getElem?_append_left (by omega)]
theorem restOf_len (ha : DataR p a) : (restOf p a).length = (firstC a).length := by
  unfold restOf
  rw [adjOf_len (left_data ha), left_first ha]
end
end Go.Proofs.YtggdlklkjnbbjaaGreatDoor.R

namespace Go.Proofs.YtggdlklkjnbbjaaGreatDoor.R
open Go.RowKit Go.Shelf Go.Proofs.YtggdlklkjnbbjaaGreatDoor.C Go.Proofs.YtggdlklkjnbbjaaGreatDoor.E
set_option linter.unusedSimpArgs false
set_option linter.unusedVariables false
/-- Columns that lie ahead of a row's own block. -/
theorem app_far {W U : World} {base : Nat} {v x : Value} {css ds : List (List (List UInt8))} (hU : Below W.heap.size W U) (hb : W.heap.size ≤ base) (hrow : RowC (fun _ => True) U base v css) (hx : Cols W.heap.size U x ds) : colsR.R (fun b => b < U.heap.size ∧ some b ≠ v.ownBlock ∧ True) U x ds :=
  colsR.imp (colsR_iff.2 hx) fun b hb2 => by
    have h1 : b < W.heap.size := hb2
    have h2 := hU.size
    exact ⟨by omega, fun e => by have := RowG.own_le hrow b e.symm; omega, trivial⟩
end Go.Proofs.YtggdlklkjnbbjaaGreatDoor.R

