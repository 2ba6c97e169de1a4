/- Role, Place, Number, Diagonal, Slant. -/
import Derived.Test.YtcbkdbnpcpgadaaDoorSwD
namespace Go.Proofs.YtcbkdbnpcpgadaaDoor
open Go.RowKit Go.Shelf
set_option linter.unusedSimpArgs false
set_option linter.unusedVariables false

/-- A value is told; or the code may not be (2); or it has not that (4). -/
def Tells3 (c b : Prop) (zero v : Value) (w : World) (e : Ending) (w' : World) : Prop :=
  (¬ c → e = .returned (.tuple #[zero, .int .i64 2])) ∧ (c → ¬ b → e = .returned (.tuple #[zero, .int .i64 4])) ∧ (c → b → e = .returned (.tuple #[v, .int .i64 0])) ∧ Below w.heap.size w w'
theorem Tells3.no {c b : Prop} {zero v : Value} {w w' : World} {e : Ending} (hc : ¬ c) (h : e = .returned (.tuple #[zero, .int .i64 2]) ∧ Below w.heap.size w w') : Tells3 c b zero v w e w' := ⟨fun _ => h.1, fun h => absurd h hc, fun h => absurd h hc, h.2⟩
theorem Tells3.out {c b : Prop} {zero v : Value} {w w' : World} {e : Ending} (hc : c) (hb : ¬ b) (h : e = .returned (.tuple #[zero, .int .i64 4]) ∧ Below w.heap.size w w') : Tells3 c b zero v w e w' := ⟨fun h => absurd hc h, fun _ _ => h.1, fun _ h => absurd h hb, h.2⟩
theorem Tells3.yes {c b : Prop} {zero v : Value} {w w' : World} {e : Ending} (hc : c) (hb : b) (h : e = .returned (.tuple #[v, .int .i64 0]) ∧ Below w.heap.size w w') : Tells3 c b zero v w e w' := ⟨fun h => absurd hc h, fun _ h => absurd hb h, fun _ _ => h.1, h.2⟩

def HasCol (k p x : Int) : Prop := 0 ≤ x ∧ x < p - shortN k + madeN k
def HasNum (k p x : Int) : Prop := 0 ≤ x ∧ x < (p - shortN k) * (p - 1)
def HasData (k p x y : Int) : Prop := (0 ≤ x ∧ x < p - shortN k) ∧ 0 ≤ y ∧ y < p - 1
def HasCell (k p x y : Int) : Prop := (0 ≤ x ∧ x < p - shortN k + madeN k) ∧ 0 ≤ y ∧ y < p - 1
theorem num_lt {k p x : Int} (hu : Und p (shortN k) (madeN k)) (h : HasNum k p x) : x < 1000 := by
  obtain ⟨p1, p2, s1, s2, m1, m2⟩ := hu
  have := Int.mul_le_mul (show p - shortN k ≤ 17 by omega) (show p - 1 ≤ 17 by omega) (by omega) (by omega)
  have := h.2
  omega

end Go.Proofs.YtcbkdbnpcpgadaaDoor
