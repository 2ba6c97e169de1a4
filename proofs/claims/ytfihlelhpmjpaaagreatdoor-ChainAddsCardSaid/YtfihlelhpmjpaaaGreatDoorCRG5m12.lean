/- Lists that a call builds by append: of cells, of columns; which blocks they lie in. -/
import Derived.BigFrame
import Derived.Deep.Matrix
import Derived.ShutString
import Derived.ChangeOld
import Derived.Laws.CopyOwn
import Derived.Laws.Tables
import Derived.Test.YtfihlelhpmjpaaaGreatDoorCRG4m13
import Derived.Test.YtfihlelhpmjpaaaGreatDoorCRG5
namespace Go.Proofs.YtfihlelhpmjpaaaGreatDoor.E
open Go.RowKit Go.Shelf Go.Proofs.YtfihlelhpmjpaaaGreatDoor.C
set_option linter.unusedSimpArgs false
set_option linter.unusedVariables false

section
variable {α : Type} {r : Rep α} {d : α} {P Q : Nat → Prop} {W W' : World} {v : Value} {xs : List α}
end
theorem colsR_iff {B : Nat} {W : World} {v : Value} {css : List (List (List UInt8))} : colsR.R (· < B) W v css ↔ Cols B W v css := Iff.rfl
section
variable {α : Type} {r : Rep α} {t : TypeId} {d : α} {Q : Nat → Prop} {W W' : World} {base : Nat} {v : Value} {xs : List α}
end
section
variable {Q : Nat → Prop} {W W' : World} {base : Nat} {v : Value}
end
end Go.Proofs.YtfihlelhpmjpaaaGreatDoor.E

