/- EVENODD's Check: all columns; what is the same. EVENODD: what is made belongs together with what it is made of. EVENODD's Check: whether columns are those that are made. EVENOdecide (encOf p (css.take p.toNat) = css.drop p.toNat): Check. The document's Put: columns of one shape, put upon one another. The mathematics of EVENODD: what is made is linear; all cells made, put upon one another, are the adjuster. The document's answers for EVENODD: a nought; columns put upon one another. EvenoddHolds: what is called, of two lists of columns that are right. -/
import Derived.Test.YtggdlklkjnbbjaaGreatDoorKEG4
import Derived.Test.YtggdlklkjnbbjaaGreatDoorKEG4x1
import Derived.Test.YtggdlklkjnbbjaaGreatDoorKEG2
import Derived.Test.YtggdlklkjnbbjaaGreatDoorKCA
import Derived.Test.YtggdlklkjnbbjaaGreatDoorKSAx1
import Derived.Test.YtggdlklkjnbbjaaGreatDoorKEG6
namespace Go.Proofs.YtggdlklkjnbbjaaGreatDoor.E
open Go.RowKit Go.Shelf Go.Proofs.YtggdlklkjnbbjaaGreatDoor.C
set_option linter.unusedSimpArgs false
set_option linter.unusedVariables false

end Go.Proofs.YtggdlklkjnbbjaaGreatDoor.E

namespace Go.Proofs.YtggdlklkjnbbjaaGreatDoor.E
open Go.RowKit Go.Shelf Go.Proofs.YtggdlklkjnbbjaaGreatDoor.C
set_option linter.unusedSimpArgs false
set_option linter.unusedVariables false

end Go.Proofs.YtggdlklkjnbbjaaGreatDoor.E

namespace Go.Proofs.YtggdlklkjnbbjaaGreatDoor.E
open Go.RowKit Go.Shelf Go.Proofs.YtggdlklkjnbbjaaGreatDoor.C
set_option linter.unusedSimpArgs false
set_option linter.unusedVariables false
attribute [local go_sem] Oper.semAt_some

section
variable {F : Fence} {n : Nat} {P : Program} {md : Region.Mode} {ops : Array Oper} {Q : Exit → Act → World → Prop} {S : World → Prop}
end
end Go.Proofs.YtggdlklkjnbbjaaGreatDoor.E

namespace Go.Proofs.YtggdlklkjnbbjaaGreatDoor.E
open Go.RowKit Go.Shelf Go.Proofs.YtggdlklkjnbbjaaGreatDoor.C
set_option linter.unusedSimpArgs false
set_option linter.unusedVariables false
end Go.Proofs.YtggdlklkjnbbjaaGreatDoor.E

namespace Go.Proofs.YtggdlklkjnbbjaaGreatDoor.E
open Go.RowKit Go.Shelf Go.Proofs.YtggdlklkjnbbjaaGreatDoor.C
set_option linter.unusedSimpArgs false
set_option linter.unusedVariables false

section
variable {Q : Nat → Prop} {base : Nat} {v : Value}
end
end Go.Proofs.YtggdlklkjnbbjaaGreatDoor.E

namespace Go.Proofs.YtggdlklkjnbbjaaGreatDoor.E
open Go.RowKit Go.Shelf Go.Proofs.YtggdlklkjnbbjaaGreatDoor.C
set_option linter.unusedSimpArgs false
set_option linter.unusedVariables false

theorem xa_flat {α : Type} (f : α → List UInt8) : ∀ l : List α, xa (l.flatMap f) = xa (l.map fun x => xa (f x))
  | [] => rfl
  | x :: l => by rw [List.flatMap_cons, xa_append, List.map_cons, xa_cons, xa_flat f l]
section
variable {p : Int} {a b css : List (List (List UInt8))}
end
end Go.Proofs.YtggdlklkjnbbjaaGreatDoor.E

namespace Go.Proofs.YtggdlklkjnbbjaaGreatDoor.E
open Go.RowKit Go.Shelf Go.Proofs.YtggdlklkjnbbjaaGreatDoor.C
set_option linter.unusedSimpArgs false
set_option linter.unusedVariables false

set_option maxHeartbeats 400000 in
theorem nought6_any (n : Nat) (hn : n ≤ 1000) (w : World) : Calls Tryz.prog 24 #[.int .i64 (n : Int)] w fun e w' => ∃ u, e = .returned u ∧ Bytes w'.heap.size w' u (List.replicate n 0) ∧ Below w.heap.size w w' := by
  obtain ⟨i0, hi, hz0, hz1, hz2⟩ := info_parts Tryz.infoByte
  have hmk := fun W : World => run_make (P := Tryz.prog) W 25 5 i0 (.int .u8 0) Tryz.underlying25 hi hz0 .i64 .i64 (n : Int) (n : Int) (by omega) (by omega) (by rw [hz2]; omega) (by omega)
  simp only [hz1, Nat.mul_one, Int.toNat_natCast] at hmk
  have hR := Row.made w n
  have hBz := below_one w (.cells (madeCells #[.int .u8 0] n) 5)
  go_enter Tryz.func24, Tryz.ntmps24
  go_wp2
  go_ret
  exact ⟨_, rfl, Row.bytes hR (by simp), hBz⟩
end Go.Proofs.YtggdlklkjnbbjaaGreatDoor.E

namespace Go.Proofs.YtggdlklkjnbbjaaGreatDoor.E
open Go.RowKit Go.Shelf Go.Proofs.YtggdlklkjnbbjaaGreatDoor.C
set_option linter.unusedSimpArgs false
set_option linter.unusedVariables false
/-- A block of no element is a row of the call's own. -/
theorem RowG.empty {α : Type} (r : Rep α) (t : TypeId) (d : α) (Q : Nat → Prop) {W : World} {base g : Nat} (hg : Blk W g t #[]) (hb : base ≤ g) : RowG r t d Q W base (.slice (some ⟨g, 0, none⟩) 0 0) [] :=
  ⟨[], ⟨rfl, .inr ⟨g, 0, #[], rfl, hb, hg, Nat.le_refl _, by unfold maxLen; omega, rfl, rfl⟩⟩, rfl, fun j y hy => by cases hy⟩
section
variable {p : Int} {a b : List (List (List UInt8))}
end
end Go.Proofs.YtggdlklkjnbbjaaGreatDoor.E

