/- The places of a column: the function that Cells hands back goes over them. -/
import Derived.Test.YtcbkdbnpcpgadaaDoorSwK
namespace Go.Proofs.YtcbkdbnpcpgadaaDoor
open Go.RowKit Go.Shelf
set_option linter.unusedSimpArgs false
set_option linter.unusedVariables false
attribute [local go_sem] Oper.semAt_some

/-- The rows of a code. -/
def rowsL (p : Int) : List Int := (List.range (p - 1).toNat).map fun (i : Nat) => (i : Int)
theorem rows_walk : ∀ p ∈ prm, walkN p 0 1 = rowsL p ++ [p - 1] ∧ ((rowsL p).length : Int) = p - 1 ∧ (∀ y ∈ rowsL p, 0 ≤ y ∧ y < p - 1) := by decide +kernel
/-- What comes of a walk down before a row that is none: all rows. -/
theorem rows_left (p : Int) (hp : p ∈ prm) (pre : List Int) (x : Int) (h : pre ++ [x] <+: walkN p 0 1) (hx : ¬ (0 ≤ x ∧ x < p - 1)) : pre = rowsL p := by
  obtain ⟨hw, hl, hr⟩ := rows_walk p hp
  rw [hw] at h
  obtain ⟨t, ht⟩ := h
  rcases List.eq_nil_or_concat t with rfl | ⟨t', z, rfl⟩
  · rw [List.append_nil] at ht
    exact (List.append_inj' ht rfl).1
  · exfalso
    rw [List.concat_eq_append, ← List.append_assoc] at ht
    have h2 := (List.append_inj' ht rfl).1
    exact hx (hr x (by rw [← h2]; simp))
theorem rows_some (p : Int) (hp : p ∈ prm) (pre : List Int) (x : Int) (h : pre ++ [x] <+: walkN p 0 1) (hx : 0 ≤ x ∧ x < p - 1) : pre ++ [x] <+: rowsL p := by
  obtain ⟨hw, hl, hr⟩ := rows_walk p hp
  rw [hw] at h
  rcases List.prefix_concat_iff.1 h with e | h2
  · exfalso
    have := (List.append_inj' e rfl).2
    injection this with this _
    omega
  · exact h2

end Go.Proofs.YtcbkdbnpcpgadaaDoor
