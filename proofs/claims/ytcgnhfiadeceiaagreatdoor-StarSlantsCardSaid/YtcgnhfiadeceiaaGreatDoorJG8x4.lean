/- The document's Members, Parity. The document's Parity. The mathematics of the document's columns of any code: what is made by members. The mathematics of EVENODD: where columns go one to the right, that of diagonals is turned by one. The mathematics of STAR: slants, columns turned over, what is made of them. EVENOdecide (encOf p (css.take p.toNat) = css.drop p.toNat): Check. The document's answers for EVENODD: the same columns. The document's answers for EVENODD: a nought; columns put upon one another. The laws of EVENODD: what they share: num, code, right. The laws of EVENODD: the chapter's rows. EvenoddHolds: what is called, of two lists of columns that are right. -/
import Derived.Test.YtcgnhfiadeceiaaGreatDoorJG7
import Derived.Test.YtcgnhfiadeceiaaGreatDoorJG6
import Derived.Test.YtcgnhfiadeceiaaGreatDoorJG6x1
import Derived.Test.YtcgnhfiadeceiaaGreatDoorJG6x2
import Derived.Test.YtcgnhfiadeceiaaGreatDoorJG6x3
import Derived.Test.YtcgnhfiadeceiaaGreatDoorJG6x4
import Derived.Test.YtcgnhfiadeceiaaGreatDoorJG1
import Derived.Test.YtcgnhfiadeceiaaGreatDoorJG8
import Derived.Test.YtcgnhfiadeceiaaGreatDoorJG8x2
import Derived.Test.YtcgnhfiadeceiaaGreatDoorJG8x3
namespace Go.Proofs.YtcgnhfiadeceiaaGreatDoor.T
open Go.RowKit Go.Shelf Go.Proofs.YtcgnhfiadeceiaaGreatDoor.C Go.Proofs.YtcgnhfiadeceiaaGreatDoor.E
set_option linter.unusedSimpArgs false
set_option linter.unusedVariables false

section
variable {p : Int} {a b css : List (List (List UInt8))}
theorem star_rightD (h : DataOk p css) : RightD p (starOf p css) := star_with h (star_grid h) (by rw [(star_cells h).1]; omega)

theorem over_over : overOf (overOf css) = css := by
  cases css with
  | nil => rfl
  | cons x l =>
    show overOf (x :: l.reverse) = _
    show x :: l.reverse.reverse = _
    rw [List.reverse_reverse]
theorem slMade_over (h : DataOk p css) : slMade p (overOf css) = diagsMade p (p - 1).toNat css := by
  rw [← diags_over (over_ok h).1, over_over]
theorem adj_over (h : DataOk p css) : adjOf p (overOf css) = slOf p css (p - 1) := by
  have hd := dataOk_n h
  have ho := over_ok h
  refine ext_at (by rw [adjOf_len ho.1, slOf_len, ho.2]) fun j => ?_
  rw [at_sl h (by omega) (by omega), ← dg_over h (by omega) (by omega)]
  unfold adjOf
  rw [at_diag ho.1 (by omega) (by omega)]
theorem star_over (h : DataOk p css) : starOf p (overOf css) = [rowsMade (p - 1).toNat css, slMade p css, diagsMade p (p - 1).toNat css] := by
  unfold starOf encOf
  rw [rows_over h, diags_over h, slMade_over h]
  rfl
/-- All cells of rows and of slants, put upon one another. -/
def bothL (xs ys : List (List UInt8)) (n : Nat) : List (List UInt8) := (List.range n).flatMap fun k => [xs[k]?.getD [], ys[k]?.getD []]
theorem bothL_succ (xs ys : List (List UInt8)) (n : Nat) : bothL xs ys (n + 1) = bothL xs ys n ++ [xs[n]?.getD [], ys[n]?.getD []] := by
  unfold bothL
  rw [List.range_succ, List.flatMap_append]
  rfl
theorem bothL_perm : ∀ (xs ys : List (List UInt8)), xs.length = ys.length → (bothL xs ys xs.length).Perm (xs ++ ys) := by
  intro xs ys hl
  have key : ∀ n, n ≤ xs.length → (bothL xs ys n).Perm (xs.take n ++ ys.take n) := by
    intro n
    induction n with
    | zero => intro _; exact List.Perm.refl _
    | succ n ih =>
      intro hn
      rw [bothL_succ, List.take_succ_eq_append_getElem (by omega : n < xs.length), List.take_succ_eq_append_getElem (by omega : n < ys.length), List.getElem?_eq_getElem (by omega : n < xs.length), List.getElem?_eq_getElem (by omega : n < ys.length)]
      refine ((ih (by omega)).append_right _).trans ?_
      show (xs.take n ++ ys.take n ++ [xs[n], ys[n]]).Perm (xs.take n ++ [xs[n]] ++ (ys.take n ++ [ys[n]]))
      simp only [List.append_assoc]
      refine List.Perm.append_left _ ?_
      show (ys.take n ++ ([xs[n]] ++ [ys[n]])).Perm ([xs[n]] ++ (ys.take n ++ [ys[n]]))
      rw [← List.append_assoc, ← List.append_assoc]
      exact List.perm_append_comm.append_right _
  have := key xs.length (Nat.le_refl _)
  have e : ys.take xs.length = ys := by rw [hl, List.take_length]
  rw [List.take_length, e] at this
  exact this
theorem xors_both (h : DataOk p css) : xors (List.replicate (firstC css).length 0) (bothL (rowsMade (p - 1).toNat css) (slMade p css) (p - 1).toNat) = slOf p css (p - 1) := by
  have ho := over_ok h
  have hal := all_made ho.1
  rw [rows_over h, diags_over h, adj_over h, slOf_len] at hal
  have hP := bothL_perm (rowsMade (p - 1).toNat css) (slMade p css) (by rw [rowsMade_len, slMade_len])
  rw [rowsMade_len] at hP
  have hlen : ∀ l ∈ rowsMade (p - 1).toNat css ++ slMade p css, l.length = (firstC css).length := by
    intro l hl
    rcases List.mem_append.1 hl with h1 | h1
    · unfold rowsMade at h1
      obtain ⟨r, hr, rfl⟩ := List.mem_map.1 h1
      exact row_len h (List.mem_range.1 hr)
    · unfold slMade at h1
      obtain ⟨r, hr, rfl⟩ := List.mem_map.1 h1
      exact slCell_len _ _
  refine Eq.trans ?_ hal
  refine ext_at (by rw [xors_len, xors_len]) fun j => ?_
  rw [at_upon (fun l hl => hlen l (hP.subset hl)), at_upon hlen]
  exact xa_perm (hP.map _)

end
end Go.Proofs.YtcgnhfiadeceiaaGreatDoor.T

namespace Go.Proofs.YtcgnhfiadeceiaaGreatDoor.E
open Go.RowKit Go.Shelf Go.Proofs.YtcgnhfiadeceiaaGreatDoor.C
set_option linter.unusedSimpArgs false
set_option linter.unusedVariables false

set_option maxHeartbeats 400000 in
theorem nought6_any (n : Nat) (hn : n ≤ 1000) (w : World) : Calls Tryz.prog 24 #[.int .i64 (n : Int)] w fun e w' => ∃ u, e = .returned u ∧ Bytes w'.heap.size w' u (List.replicate n 0) ∧ Below w.heap.size w w' := by
  obtain ⟨i0, hi, hz0, hz1, hz2⟩ := info_parts Tryz.infoByte
  have hmk := fun W : World => run_make (P := Tryz.prog) W 28 5 i0 (.int .u8 0) Tryz.underlying28 hi hz0 .i64 .i64 (n : Int) (n : Int) (by omega) (by omega) (by rw [hz2]; omega) (by omega)
  simp only [hz1, Nat.mul_one, Int.toNat_natCast] at hmk
  have hR := Row.made w n
  have hBz := below_one w (.cells (madeCells #[.int .u8 0] n) 5)
  go_enter Tryz.func24, Tryz.ntmps24
  go_wp2
  go_ret
  exact ⟨_, rfl, Row.bytes hR (by simp), hBz⟩
end Go.Proofs.YtcgnhfiadeceiaaGreatDoor.E

