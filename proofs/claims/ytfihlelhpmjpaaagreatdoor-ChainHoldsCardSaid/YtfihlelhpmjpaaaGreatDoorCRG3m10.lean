/- A range over a function whose body keeps a row of its own (block o): the iterator writes nothing there, the body nothing else that lies from the call on. -/
import Derived.Test.YtfihlelhpmjpaaaGreatDoorCRMAm11
import Derived.Test.YtfihlelhpmjpaaaGreatDoorCRG3
namespace Go.Proofs.YtfihlelhpmjpaaaGreatDoor
open Go.RowKit Go.Shelf
set_option linter.unusedVariables false

theorem rowO_none (X : World) : RowO none X := fun b e => by cases e
section
variable {β : Type} {B k : Nat} {I I' : β → Option Nat → World → Prop} {X Y Z : World} {o o' o'' : Option Nat}
theorem farO_pure (B : Nat) (p : β → Option Nat → Prop) : FarO B (fun s o (_ : World) => p s o) := fun _ _ _ _ _ hs _ _ => hs
theorem farO_blk {g : Nat} (hg : g < B) (t : TypeId) (f : β → Array Value) : FarO B (fun s (_ : Option Nat) W => Blk W g t (f s)) := fun _ _ _ _ _ hs hgr hr =>
  hs.grown hgr fun e => by have := (hr g e.symm).1; omega
theorem farO_below {n₀ : Nat} {w : World} (hn : n₀ ≤ w.heap.size) (hB : n₀ ≤ B) : FarO B (fun (_ : β) (_ : Option Nat) W => Below n₀ w W) := fun _ _ _ _ _ hs hgr hr =>
  hs.grown hgr (Nat.le_trans hn hs.size) fun r e => by have := (hr r e).1; omega
end

end Go.Proofs.YtfihlelhpmjpaaaGreatDoor

