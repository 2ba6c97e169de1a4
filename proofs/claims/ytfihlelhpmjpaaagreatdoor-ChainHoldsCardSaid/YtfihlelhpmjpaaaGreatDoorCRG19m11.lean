/- ring: the document's Turn. -/
import Derived.Test.YtfihlelhpmjpaaaGreatDoorCRMAm11
import Derived.Test.YtfihlelhpmjpaaaGreatDoorCRG19
namespace Go.Proofs.YtfihlelhpmjpaaaGreatDoor.Rg
open Go.RowKit Go.Shelf Go.Maps Go.Proofs.YtfihlelhpmjpaaaGreatDoor.C Go.Proofs.YtfihlelhpmjpaaaGreatDoor.E
set_option linter.unusedSimpArgs false
set_option linter.unusedVariables false
attribute [local go_sem] Oper.semAt_some

theorem RowG.empty {α : Type} (r : Rep α) (t : TypeId) (d : α) (Q : Nat → Prop) {W : World} {base g : Nat} (hg : Blk W g t #[]) (hb : base ≤ g) : RowG r t d Q W base (.slice (some ⟨g, 0, none⟩) 0 0) [] :=
  ⟨[], ⟨rfl, .inr ⟨g, 0, #[], rfl, hb, hg, Nat.le_refl _, by unfold maxLen; omega, rfl, rfl⟩⟩, rfl, fun j y hy => by cases hy⟩
section
open Go.Proofs.YtfihlelhpmjpaaaGreatDoor.E
end
end Go.Proofs.YtfihlelhpmjpaaaGreatDoor.Rg

