/- What STAR's law of slants walks with: a range whose round is a known act, a turn's head. -/
import Derived.Test.YtcgnhfiadeceiaaGreatDoorJG16
import Derived.Test.YtcgnhfiadeceiaaGreatDoorJMA
namespace Go.Proofs.YtcgnhfiadeceiaaGreatDoor.T
open Go.RowKit Go.Shelf Go.Proofs.YtcgnhfiadeceiaaGreatDoor.C Go.Proofs.YtcgnhfiadeceiaaGreatDoor.E
set_option linter.unusedSimpArgs false
set_option linter.unusedVariables false

/-- What stands at a turn's head. -/
def TurnS (w w' : World) (g1 g2 g3 g4 : Nat) (p : Int) (d : Value) (many : Int) (L : Nat) (V : World) : Prop :=
  Blk V w.heap.size 3 #[.int .i64 p] ∧ Blk V g1 22 #[d] ∧ Blk V g2 3 #[.int .i64 many] ∧ Blk V g3 4 #[.bool false] ∧ Blk V g4 3 #[.int .i64 (L : Int)] ∧ Below w.heap.size w V ∧ Below w'.heap.size w' V
theorem TurnS.next {w w' V V' : World} {g1 g2 g3 g4 : Nat} {p : Int} {d : Value} {many : Int} {L : Nat} (h : TurnS w w' g1 g2 g3 g4 p d many L V) (hB : Below V.heap.size V V') : TurnS w w' g1 g2 g3 g4 p d many L V' := by
  obtain ⟨h1, h2, h3, h4, h5, h6, h7⟩ := h
  exact ⟨h1.below hB h1.lt, h2.below hB h2.lt, h3.below hB h3.lt, h4.below hB h4.lt, h5.below hB h5.lt, below_in h6 hB, below_in h7 hB⟩
end Go.Proofs.YtcgnhfiadeceiaaGreatDoor.T

