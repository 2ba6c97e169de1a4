/- A range over a function whose body keeps rows of its own (the blocks o): the iterator writes nothing there, the body nothing else that lies from the call on. -/
import Derived.Test.YtfihlelhpmjpaaaGreatDoorCRG6m10
import Derived.Test.YtfihlelhpmjpaaaGreatDoorCRG7
namespace Go.Proofs.YtfihlelhpmjpaaaGreatDoor.T
open Go.RowKit Go.Shelf
set_option linter.unusedVariables false
set_option linter.unusedSimpArgs false

theorem rowO_none (X : World) : RowO (fun _ => False) X := fun b e => e.elim
section
variable {β : Type} {B k : Nat} {I I' : β → (Nat → Prop) → World → Prop} {X Y Z : World} {o o' o'' : (Nat → Prop)}
theorem farO_pure (B : Nat) (p : β → (Nat → Prop) → Prop) : FarO B (fun s o (_ : World) => p s o) := fun _ _ _ _ _ hs _ _ => hs
theorem farO_blk {g : Nat} (hg : g < B) (t : TypeId) (f : β → Array Value) : FarO B (fun s (_ : (Nat → Prop)) W => Blk W g t (f s)) := fun _ _ _ _ _ hs hgr hr =>
  hs.grown hgr fun e => by have := (hr g e.symm).1; omega
theorem farO_below {n₀ : Nat} {w : World} (hn : n₀ ≤ w.heap.size) (hB : n₀ ≤ B) : FarO B (fun (_ : β) (_ : (Nat → Prop)) W => Below n₀ w W) := fun _ _ _ _ _ hs hgr hr =>
  hs.grown hgr (Nat.le_trans hn hs.size) fun r e => by have := (hr r e).1; omega
end

end Go.Proofs.YtfihlelhpmjpaaaGreatDoor.T

