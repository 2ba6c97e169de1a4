/- The document's answers for layer 4. -/
import Derived.Test.YtcbkdbnpcpgadaaDoorSwE
namespace Go.Proofs.YtcbkdbnpcpgadaaDoor
open Go.RowKit Go.Shelf
set_option linter.unusedSimpArgs false
set_option linter.unusedVariables false

set_option maxHeartbeats 1000000 in
theorem refData_any (k p : Int) (hR : RightC k p) (w : World) : Calls Tryd.prog 15 #[(.agg #[.int .i64 k, .int .i64 p])] w fun e w' => e = .returned (.int .i64 (p - shortN k)) ∧ Below w.heap.size w w' := by
  obtain ⟨p1, p2, s1, s2, m1, m2⟩ := hR.und
  by_cases h : k = 2
  · subst h
    go_enter Tryd.func15, Tryd.ntmps15
    go_wp2
    go_ret
    exact ⟨rfl, (below_one w _)⟩
  · have d : ((k : Int) == 2) = false := by simpa using h
    have e : shortN k = 0 := if_neg h
    rw [e]
    go_enter Tryd.func15, Tryd.ntmps15
    go_wp2
    go_ret
    exact ⟨ret_i64 (by omega), (below_one w _)⟩

def rroleN (d x : Int) : Int := if x < d then 1 else x - d + 2
theorem role_eq {p s m x : Int} (h : 0 ≤ x ∧ x < p - s + m) (hu : Und p s m) : roleN (p - s) x = rroleN (p - s) x := by
  obtain ⟨p1, p2, s1, s2, m1, m2⟩ := hu
  unfold roleN rroleN
  split <;> (try split) <;> (try split) <;> (try split) <;> omega
end Go.Proofs.YtcbkdbnpcpgadaaDoor
