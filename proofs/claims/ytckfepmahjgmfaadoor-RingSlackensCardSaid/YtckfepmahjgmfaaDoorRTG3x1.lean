/- The mathematics of EVENODD: the bytes at a place of cells that are put upon one another. The document's answers for EVENODD: the same columns. Lists that a call builds by append: of cells, of columns; which blocks they lie in. Lists that a call builds by append: many elements at once. The document's answers for EVENODD: a nought; columns put upon one another. The laws of EVENODD: columns that came in. ring: giving up, what is answered. Structs of many cells, loaded and stored whole. ring: a column under way: its values; its cells. ring: a settled cell. ring: a range whose round is a known act and whose body keeps no row of its own; columns that are moved. ring: walks by a step that has an inverse; columns turned, stretched, slackened, byte by byte. -/
import Derived.Test.YtckfepmahjgmfaaDoorRTG2
import Derived.Test.YtckfepmahjgmfaaDoorRTG1
import Derived.BigFrame
import Derived.Test.YtckfepmahjgmfaaDoorRTSA
import Derived.Deep.Matrix
import Derived.ShutString
import Derived.ChangeOld
import Derived.Laws.CopyOwn
import Derived.Laws.Tables
import Derived.Test.YtckfepmahjgmfaaDoorRTMA
import Derived.Test.YtckfepmahjgmfaaDoorRTG3
namespace Go.Proofs.YtckfepmahjgmfaaDoor.E
open Go.RowKit Go.Shelf Go.Proofs.YtckfepmahjgmfaaDoor.C
set_option linter.unusedSimpArgs false
set_option linter.unusedVariables false

theorem xa_append (a b : List UInt8) : xa (a ++ b) = xa a ^^^ xa b := by
  induction a with
  | nil => simp [xa_nil]
  | cons x a ih => rw [List.cons_append, xa_cons, xa_cons, ih, UInt8.xor_assoc]
theorem xa_perm {a b : List UInt8} (h : a.Perm b) : xa a = xa b := by
  induction h with
  | nil => rfl
  | cons x _ ih => rw [xa_cons, xa_cons, ih]
  | swap x y l => rw [xa_cons, xa_cons, xa_cons, xa_cons, ← UInt8.xor_assoc, ← UInt8.xor_assoc, UInt8.xor_comm x y]
  | trans _ _ h1 h2 => exact h1.trans h2
section
variable {p : Int} {css : List (List (List UInt8))}
end
end Go.Proofs.YtckfepmahjgmfaaDoor.E

