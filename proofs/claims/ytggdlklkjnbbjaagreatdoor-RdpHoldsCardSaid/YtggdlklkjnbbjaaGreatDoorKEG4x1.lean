/- The columns of EVENODD: what a diagonal goes over, collected. The columns of EVENODD: a diagonal's cells, and the adjuster. A region that draws its order, by what stands behind each set of its operations (no order is walked). The mathematics of EVENODD: the bytes at a place of cells that are put upon one another. The columns of EVENODD: the adjuster; a cell of the column of diagonals. The columns of EVENODD: what is encoded. EVENODD: Adjuster and Encode. Lists that a call builds by append: of cells, of columns; which blocks they lie in. Lists that a call builds by append: many elements at once. The document's answers for EVENODD: few, right, the same. The document's answers for EVENODD: the same columns. The laws of EVENODD: what they share: num, code, right. The laws of EVENODD: the chapter's rows. The laws of EVENODD: columns that came in. -/
import Derived.Test.YtggdlklkjnbbjaaGreatDoorKEG3
import Derived.Maps.OwnIn
import Derived.Test.YtggdlklkjnbbjaaGreatDoorKZwV
import Derived.Laws.EntriesVeiled
import Derived.Test.YtggdlklkjnbbjaaGreatDoorKEG2
import Derived.BigFrame
import Derived.Test.YtggdlklkjnbbjaaGreatDoorKCA
import Derived.Test.YtggdlklkjnbbjaaGreatDoorKSA
import Derived.Test.YtggdlklkjnbbjaaGreatDoorKSAx1
import Derived.Deep.Matrix
import Derived.ShutString
import Derived.ChangeOld
import Derived.Test.YtggdlklkjnbbjaaGreatDoorKEG4
namespace Go.Proofs.YtggdlklkjnbbjaaGreatDoor.E
open Go.RowKit Go.Shelf Go.Proofs.YtggdlklkjnbbjaaGreatDoor.C
set_option linter.unusedSimpArgs false
set_option linter.unusedVariables false
attribute [local go_sem] Oper.semAt_some

end Go.Proofs.YtggdlklkjnbbjaaGreatDoor.E

namespace Go.Proofs.YtggdlklkjnbbjaaGreatDoor.E
open Go.RowKit Go.Shelf Go.Proofs.YtggdlklkjnbbjaaGreatDoor.C
set_option linter.unusedSimpArgs false
set_option linter.unusedVariables false
attribute [local go_sem] Oper.semAt_some

end Go.Proofs.YtggdlklkjnbbjaaGreatDoor.E

namespace Go.Proofs.YtggdlklkjnbbjaaGreatDoor
open Go.RowKit Go.Shelf
set_option linter.unusedVariables false
set_option linter.unusedSimpArgs false

section
variable {F : Fence} {n : Nat} {P : Program} {md : Region.Mode} {ops : Array Oper} {Q : Exit → Act → World → Prop}
end
end Go.Proofs.YtggdlklkjnbbjaaGreatDoor

namespace Go.Proofs.YtggdlklkjnbbjaaGreatDoor.E
open Go.RowKit Go.Shelf Go.Proofs.YtggdlklkjnbbjaaGreatDoor.C
set_option linter.unusedSimpArgs false
set_option linter.unusedVariables false

theorem xa_append (a b : List UInt8) : xa (a ++ b) = xa a ^^^ xa b := by
  induction a with
  | nil => simp [xa_nil]
  | cons x a ih => rw [List.cons_append, xa_cons, xa_cons, ih, UInt8.xor_assoc]
section
variable {p : Int} {css : List (List (List UInt8))}
end
end Go.Proofs.YtggdlklkjnbbjaaGreatDoor.E

namespace Go.Proofs.YtggdlklkjnbbjaaGreatDoor.E
open Go.RowKit Go.Shelf Go.Proofs.YtggdlklkjnbbjaaGreatDoor.C
set_option linter.unusedSimpArgs false
set_option linter.unusedVariables false
attribute [local go_sem] Oper.semAt_some

end Go.Proofs.YtggdlklkjnbbjaaGreatDoor.E

namespace Go.Proofs.YtggdlklkjnbbjaaGreatDoor.E
open Go.RowKit Go.Shelf Go.Proofs.YtggdlklkjnbbjaaGreatDoor.C
set_option linter.unusedSimpArgs false
set_option linter.unusedVariables false
attribute [local go_sem] Oper.semAt_some

end Go.Proofs.YtggdlklkjnbbjaaGreatDoor.E

namespace Go.Proofs.YtggdlklkjnbbjaaGreatDoor.E
open Go.RowKit Go.Shelf Go.Proofs.YtggdlklkjnbbjaaGreatDoor.C
set_option linter.unusedSimpArgs false
set_option linter.unusedVariables false

end Go.Proofs.YtggdlklkjnbbjaaGreatDoor.E

namespace Go.Proofs.YtggdlklkjnbbjaaGreatDoor.E
open Go.RowKit Go.Shelf Go.Proofs.YtggdlklkjnbbjaaGreatDoor.C
set_option linter.unusedSimpArgs false
set_option linter.unusedVariables false

section
variable {α : Type} {r : Rep α} {d : α} {P Q : Nat → Prop} {W W' : World} {v : Value} {xs : List α}
end
section
variable {α : Type} {r : Rep α} {t : TypeId} {d : α} {Q : Nat → Prop} {W W' : World} {base : Nat} {v : Value} {xs : List α}
end
section
variable {Q : Nat → Prop} {W W' : World} {base : Nat} {v : Value}
end
end Go.Proofs.YtggdlklkjnbbjaaGreatDoor.E

namespace Go.Proofs.YtggdlklkjnbbjaaGreatDoor.E
open Go.RowKit Go.Shelf Go.Proofs.YtggdlklkjnbbjaaGreatDoor.C
set_option linter.unusedSimpArgs false
set_option linter.unusedVariables false

section
variable {α : Type} {r : Rep α} {t : TypeId} {d : α} {Q : Nat → Prop} {W W' : World} {base : Nat} {v : Value} {xs : List α}
end
set_option maxRecDepth 100000 in
/-- The same at an operation with a guard. -/
theorem wpList_appCw {T : TypeId} {Q : Nat → Prop} {base : Nat} {v v2 : Value} (w : World) {ops : Array Oper} {rest : List Oper} {o : Oper} {a : Act} {QQ : Exit → Act → World → Prop} (hgd : Region.wanted o (yielded ops a.tmps) = true) (s x : Operand)
    (ho : o.op = .call { callee := .builtin .append, args := #[s, x], argTypes := #[T, T] }) (hT : Tryz.prog.underlying T = some (.slice 44)) (css ds : List (List (List UInt8))) (hs : a.eval s = v) (h : RowC Q w base v css) (hx : a.eval x = v2)
    (h2 : colsR.R (fun b => b < w.heap.size ∧ some b ≠ v.ownBlock ∧ Q b) w v2 ds) (h0 : 0 < ds.length) (hlen : css.length ≤ 100000) (hlen2 : ds.length ≤ 100000) (hbase : base ≤ w.heap.size)
    (hK : ∀ v' w', RowC Q w' base v' (css ++ ds) → w.grownBy w' v.ownBlock → (v'.ownBlock = v.ownBlock ∨ v'.ownBlock = some w.heap.size) → wpList Tryz.prog ops QQ rest (a.put o.dst v') w') : wpList Tryz.prog ops QQ (o :: rest) a w :=
  BigFrame.wpList_want hgd fun K hK2 => by
    obtain ⟨i, hi, hz0, hz1, hz2⟩ := info_parts Tryz.infoCol
    obtain ⟨v', w', hrun, h1, h3, h4⟩ := RowG.append i hi hz0 hz1 hz2 T o.type hT h h2 (fun A cap e hA => by
      obtain ⟨A2, c2, e2, _, hA2⟩ := h2
      rw [e] at e2
      injection e2 with _ e3 _
      omega) hlen hlen2 hbase
    unfold Oper.wp execOp
    simp only [ho, resolve, invoke, builtin, Sem.run_bind, Sem.run_pure, Result.andThen_ok, List.map_toArray, List.map_cons, List.map_nil, hs, hx, hrun]
    exact hK2 _ _ (hK v' w' h1 h3 h4)
end Go.Proofs.YtggdlklkjnbbjaaGreatDoor.E

namespace Go.Proofs.YtggdlklkjnbbjaaGreatDoor.E
open Go.RowKit Go.Shelf Go.Proofs.YtggdlklkjnbbjaaGreatDoor.C
set_option linter.unusedSimpArgs false
set_option linter.unusedVariables false

end Go.Proofs.YtggdlklkjnbbjaaGreatDoor.E

namespace Go.Proofs.YtggdlklkjnbbjaaGreatDoor.E
open Go.RowKit Go.Shelf Go.Proofs.YtggdlklkjnbbjaaGreatDoor.C
set_option linter.unusedSimpArgs false
set_option linter.unusedVariables false

end Go.Proofs.YtggdlklkjnbbjaaGreatDoor.E

namespace Go.Proofs.YtggdlklkjnbbjaaGreatDoor.E
open Go.RowKit Go.Shelf Go.Proofs.YtggdlklkjnbbjaaGreatDoor.C
set_option linter.unusedSimpArgs false
set_option linter.unusedVariables false

set_option maxRecDepth 100000 in
set_option maxHeartbeats 1000000 in
theorem lright_any {B : Nat} (p : Int) (v : Value) (css : List (List (List UInt8))) (w : World) (hB : B ≤ w.heap.size) (hC : Cols B w v css) (hlen : css.length ≤ 1000) (b : Bool) (hb : b = true ↔ DataOk p css) :
    Calls Tryz.prog 16 #[.int .i64 p, v] w fun e w' => e = .returned (.bool b) ∧ Below w.heap.size w w' := by
  obtain ⟨A, cap, rfl, _, _⟩ := id hC
  by_cases hR : RightD p css
  · have HR := Lib.hid (right6_any p _ css w hB hC hlen true (by simp [hR]))
    have hRC : RightC 1 p := ⟨by decide, hR.1⟩
    have HC := Lib.hid (fun U => lcode_any p U)
    have HD := Lib.hid (fun U => refData_any 1 p hRC U)
    rw [show p - shortN 1 = p by show p - 0 = p; omega] at HD
    by_cases hn : (css.length : Int) = p
    · have hbt : b = true := hb.2 ⟨hRC, hn, hR.2⟩
      subst hbt
      have hne : ((css.length : Int) == p) = true := by rw [beq_iff_eq]; exact hn
      clear hb hR hRC hn hC
      go_enter Tryz.func16, Tryz.ntmps16
      go_wp2_with (first
        | (go_at_call 15; refine HR.out.mono ?_; rintro e w1 ⟨rfl, hB1⟩)
        | (go_at_call 19; refine (HC.out _).mono ?_; rintro e w2 ⟨rfl, hB2⟩)
        | (go_at_call 53; refine (HD.out _).mono ?_; rintro e w3 ⟨rfl, hB3⟩))
      go_ret
      exact ⟨rfl, below_in (below_in hB1 hB2) hB3⟩
    · have hbf : b = false := Bool.eq_false_iff.2 fun h => hn (hb.1 h).2.1
      subst hbf
      have hne : ((css.length : Int) == p) = false := by rw [beq_eq_false_iff_ne]; exact hn
      clear hb hR hRC hn hC
      go_enter Tryz.func16, Tryz.ntmps16
      go_wp2_with (first
        | (go_at_call 15; refine HR.out.mono ?_; rintro e w1 ⟨rfl, hB1⟩)
        | (go_at_call 19; refine (HC.out _).mono ?_; rintro e w2 ⟨rfl, hB2⟩)
        | (go_at_call 53; refine (HD.out _).mono ?_; rintro e w3 ⟨rfl, hB3⟩))
      go_ret
      exact ⟨rfl, below_in (below_in hB1 hB2) hB3⟩
  · have HR := Lib.hid (right6_any p _ css w hB hC hlen false (by simp [hR]))
    have hbf : b = false := Bool.eq_false_iff.2 fun h => hR ⟨(hb.1 h).1.2, (hb.1 h).2.2⟩
    subst hbf
    clear hb hR hC
    go_enter Tryz.func16, Tryz.ntmps16
    go_wp2_with (go_at_call 15; refine HR.out.mono ?_; rintro e w1 ⟨rfl, hB1⟩)
    go_ret
    exact ⟨rfl, hB1⟩
end Go.Proofs.YtggdlklkjnbbjaaGreatDoor.E

namespace Go.Proofs.YtggdlklkjnbbjaaGreatDoor.E
open Go.RowKit Go.Shelf Go.Proofs.YtggdlklkjnbbjaaGreatDoor.C
set_option linter.unusedSimpArgs false
set_option linter.unusedVariables false

end Go.Proofs.YtggdlklkjnbbjaaGreatDoor.E

namespace Go.Proofs.YtggdlklkjnbbjaaGreatDoor.E
open Go.RowKit Go.Shelf Go.Proofs.YtggdlklkjnbbjaaGreatDoor.C Go.ChangeShapes Go.WideShapes
set_option linter.unusedSimpArgs false
set_option linter.unusedVariables false

end Go.Proofs.YtggdlklkjnbbjaaGreatDoor.E

