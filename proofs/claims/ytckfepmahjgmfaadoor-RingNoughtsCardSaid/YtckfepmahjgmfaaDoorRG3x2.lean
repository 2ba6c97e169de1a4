/- The mathematics of EVENODD: the bytes at a place of cells that are put upon one another. The document's answers for EVENODD: the same columns. Lists that a call builds by append: of cells, of columns; which blocks they lie in. Lists that a call builds by append: many elements at once. The document's answers for EVENODD: a nought; columns put upon one another. The laws of EVENODD: columns that came in. ring: giving up, what is answered. Structs of many cells, loaded and stored whole. ring: a column under way: its values; its cells. ring: a settled cell. ring: a range whose round is a known act and whose body keeps no row of its own; columns that are moved. -/
import Derived.Test.YtckfepmahjgmfaaDoorRG2
import Derived.Test.YtckfepmahjgmfaaDoorRG2x1
import Derived.Test.YtckfepmahjgmfaaDoorRG1
import Derived.Test.YtckfepmahjgmfaaDoorRG1x1
import Derived.BigFrame
import Derived.Test.YtckfepmahjgmfaaDoorRSA
import Derived.Test.YtckfepmahjgmfaaDoorRSAx1
import Derived.Deep.Matrix
import Derived.ShutString
import Derived.ChangeOld
import Derived.Laws.CopyOwn
import Derived.Laws.Tables
import Derived.Test.YtckfepmahjgmfaaDoorRMA
import Derived.Test.YtckfepmahjgmfaaDoorRMAx1
import Derived.Test.YtckfepmahjgmfaaDoorRCAx1
import Derived.Test.YtckfepmahjgmfaaDoorRCAx2
import Derived.Test.YtckfepmahjgmfaaDoorRG3
import Derived.Test.YtckfepmahjgmfaaDoorRG3x1
namespace Go.Proofs.YtckfepmahjgmfaaDoor.E
open Go.RowKit Go.Shelf Go.Proofs.YtckfepmahjgmfaaDoor.C
set_option linter.unusedSimpArgs false
set_option linter.unusedVariables false

section
variable {α : Type} {r : Rep α} {d : α} {P Q : Nat → Prop} {W W' : World} {v : Value} {xs : List α}
end
section
variable {α : Type} {r : Rep α} {t : TypeId} {d : α} {Q : Nat → Prop} {W W' : World} {base : Nat} {v : Value} {xs : List α}
end
theorem Tryd.infoCol : (Tryd.prog.info? 23).map (fun i => (i.zero, i.size, i.bytes)) = some (some (.slice none 0 0), 1, 24) := by kernel_rfl
def RowC := RowG manyR 23 []
section
variable {Q : Nat → Prop} {W W' : World} {base : Nat} {v : Value}
theorem RowC.cols {css : List (List (List UInt8))} (h : RowC Q W base v css) : Cols W.heap.size W v css := RowG.slice h fun b hb _ => hb
theorem wpList_pushC {T : TypeId} (w : World) {ops : Array Oper} {rest : List Oper} {o : Oper} {a : Act} {QQ : Exit → Act → World → Prop} (hgd : o.guard = none) (s x : Operand)
    (ho : o.op = .call { callee := .builtin .append, args := #[s, x], argTypes := #[T, T] }) (hT : Tryd.prog.underlying T = some (.slice 23)) (css : List (List (List UInt8))) (hs : a.eval s = v) (h : RowC Q w base v css)
    (g : Nat) (tg : TypeId) (u : Value) (ls : List (List UInt8)) (hx : a.eval x = .slice (some ⟨g, 0, none⟩) 1 1) (hg : Blk w g tg #[u]) (hu : manyR.R (fun b => b < w.heap.size ∧ some b ≠ v.ownBlock ∧ Q b) w u ls) (hlen : css.length ≤ 100000) (hbase : base ≤ w.heap.size)
    (hK : ∀ v' w', RowC Q w' base v' (css ++ [ls]) → w.grownBy w' v.ownBlock → (v'.ownBlock = v.ownBlock ∨ v'.ownBlock = some w.heap.size) → wpList Tryd.prog ops QQ rest (a.put o.dst v') w') : wpList Tryd.prog ops QQ (o :: rest) a w :=
  wpList_plain hgd fun K hK2 => by
    obtain ⟨i, hi, hz0, hz1, hz2⟩ := info_parts Tryd.infoCol
    obtain ⟨v', w', hrun, h1, h2, h3⟩ := RowG.push i hi hz0 hz1 hz2 T o.type hT h g tg u ls hg hu hlen hbase
    unfold Oper.wp execOp
    simp only [ho, resolve, invoke, builtin, Sem.run_bind, Sem.run_pure, Result.andThen_ok, List.map_toArray, List.map_cons, List.map_nil, hs, hx, hrun]
    exact hK2 _ _ (hK v' w' h1 h2 h3)
end
end Go.Proofs.YtckfepmahjgmfaaDoor.E

