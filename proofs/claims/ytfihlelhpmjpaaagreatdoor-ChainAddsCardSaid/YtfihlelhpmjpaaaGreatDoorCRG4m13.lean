/- The mathematics of EVENODD: the bytes at a place of cells that are put upon one another. -/
import Derived.Maps.OwnIn
import Derived.Test.YtfihlelhpmjpaaaGreatDoorCRG4
namespace Go.Proofs.YtfihlelhpmjpaaaGreatDoor.E
open Go.RowKit Go.Shelf Go.Proofs.YtfihlelhpmjpaaaGreatDoor.C
set_option linter.unusedSimpArgs false
set_option linter.unusedVariables false

theorem xa_perm {a b : List UInt8} (h : a.Perm b) : xa a = xa b := by
  induction h with
  | nil => rfl
  | cons x _ ih => rw [xa_cons, xa_cons, ih]
  | swap x y l => rw [xa_cons, xa_cons, xa_cons, xa_cons, ← UInt8.xor_assoc, ← UInt8.xor_assoc, UInt8.xor_comm x y]
  | trans _ _ h1 h2 => exact h1.trans h2
section
variable {p : Int} {css : List (List (List UInt8))}
end
end Go.Proofs.YtfihlelhpmjpaaaGreatDoor.E

