/- What STAR's law of slants walks with: a range whose round is a known act, a turn's head. -/
import Derived.Test.YtcgnhfiadeceiaaGreatDoorJG16
import Derived.Test.YtcgnhfiadeceiaaGreatDoorJG16x2
import Derived.Test.YtcgnhfiadeceiaaGreatDoorJMA
import Derived.Test.YtcgnhfiadeceiaaGreatDoorJG6x1
import Derived.Test.YtcgnhfiadeceiaaGreatDoorJG6x2
import Derived.Test.YtcgnhfiadeceiaaGreatDoorJG6x3
import Derived.Test.YtcgnhfiadeceiaaGreatDoorJG6x4
import Derived.Test.YtcgnhfiadeceiaaGreatDoorJG6x5
import Derived.Test.YtcgnhfiadeceiaaGreatDoorJG8x2
import Derived.Test.YtcgnhfiadeceiaaGreatDoorJG8x3
import Derived.Test.YtcgnhfiadeceiaaGreatDoorJG8x4
import Derived.Test.YtcgnhfiadeceiaaGreatDoorJG15x1
import Derived.Test.YtcgnhfiadeceiaaGreatDoorJG15x5
import Derived.Test.YtcgnhfiadeceiaaGreatDoorJG17x3
import Derived.Test.YtcgnhfiadeceiaaGreatDoorJG18
namespace Go.Proofs.YtcgnhfiadeceiaaGreatDoor.T
open Go.RowKit Go.Shelf Go.Proofs.YtcgnhfiadeceiaaGreatDoor.C Go.Proofs.YtcgnhfiadeceiaaGreatDoor.E
set_option linter.unusedSimpArgs false
set_option linter.unusedVariables false

theorem wpIn_rangeActT {α : Type} {F : Fence} {n : Nat} {P : Program} {g : Operand} {ps : Array Tmp} {assign body : Code} {Q : Exit → Act → World → Prop} {a : Act} {w : World}
    (hro : F.round = none) (h1 : 1 ≤ n) {gf : Nat} {lb : Array Value} (hg : a.eval g = .func (.func gf) #[] lb) (hFg : F.fn gf) (eg : ∀ args w, (callFunc gf args).run P w = .ok (.enter gf args) w)
    {encs : α → Array Value} {Ok : List α → α → World → Prop} {Kp : World → World → Prop} {S Sp : List α → Prop} {N : Nat} {w0 : World} (hseq : SeqT F (n - 1) P gf lb encs Ok Kp S Sp N w0)
    (hKt : ∀ {A B C : World}, Kp A B → Kp B C → Kp A C) (hKb : ∀ (W : World) (l : Nat) (ob : Obj), w.heap.size ≤ l → l < W.heap.size → (∃ r, W.heap[l]? = some (.loop r)) → Kp W (W.putObj l ob)) (hb0 : Below w0.heap.size w0 w) (hps : ∀ x, (encs x).size = ps.size)
    (I : List α → World → Prop) (Ix : Code → List α → World → Prop) (hI : FarO w.heap.size (fun pre o W => (o = fun _ => False) ∧ I pre W)) (hIx : ∀ c, FarO w.heap.size (fun pre o W => (o = fun _ => False) ∧ Ix c pre W)) (h0 : I [] w)
    (act : α → Act) (Pr : List α → α → World → Prop) (hPr : ∀ pre x (W : World) l ob r, W.heap[l]? = some (.loop r) → Pr pre x W → Pr pre x (W.putObj l ob))
    (hassign : ∀ (l : Nat) (pre : List α) (x : α) (W : World) (K : Act → World → Prop), w.heap.size ≤ W.heap.size → I pre W → Ok pre x W → (∀ W', Below W.heap.size W W' → Kp W W' → I pre W' → Pr pre x W' → K (act x) W') →
      assign.wpIn (F.inRound l) (n - 1 - 1) P (Exit.then K (fun _ _ _ => False)) { tmps := (ps.zip (encs x)).foldl (fun t (p, v) => t.setIfInBounds p v) a.tmps, defers := [] } W)
    (hbody : ∀ (l : Nat) (pre : List α) (x : α) (W : World), w.heap.size ≤ W.heap.size → I pre W → Pr pre x W → pre.length < N →
      body.wpIn (F.inRound l) (n - 1 - 1) P (postT w.heap.size Kp (fun pre o W => (o = fun _ => False) ∧ I pre W) (fun c pre o W => (o = fun _ => False) ∧ Ix c pre W) (pre ++ [x]) (fun _ => False) W) (act x) W)
    (hdone : ∀ (D : Nat) (xs : List α) (W : World), w.heap.size ≤ D → S xs → I xs W → W.heap[D]? = some (.deferred (some [])) → Q .normal { a with defers := { target := .collected D, args := #[] } :: a.defers } W)
    (hstop : ∀ (D : Nat) (c : Code) (pre : List α) (W : World), w.heap.size ≤ D → Sp pre → Ix c pre W → W.heap[D]? = some (.deferred (some [])) → c.wpIn F n P Q { a with defers := { target := .collected D, args := #[] } :: a.defers } W) :
    (Code.rangeFunc g ps assign body).wpIn F n P Q a w :=
  wpIn_rangeT hro h1 hg hFg eg hseq hKt hKb hb0 hps _ _ hI hIx (fun _ => False) (fun _ h => h.elim) ⟨rfl, h0⟩ (fun pre x o a' W => Pr pre x W ∧ a' = act x)
    (fun pre x o a' W l ob r hl _ _ h => ⟨hPr _ _ _ _ _ _ hl h.1, h.2⟩)
    (fun l pre x o W K hs hol hi hok hK => hassign l pre x W K hs hi.2 hok fun W' hb hk hi2 hp => hK _ _ (SinceO.below hb) hk ⟨hi.1, hi2⟩ ⟨hp, rfl⟩)
    (fun pre o W h => by obtain ⟨rfl, _⟩ := h; exact rowO_none W) (fun c pre o W h => by obtain ⟨rfl, _⟩ := h; exact rowO_none W)
    (fun l pre x o a' W hs hi ⟨hp, e⟩ hlt => by
      obtain ⟨rfl, hi⟩ := hi
      subst e
      exact hbody l pre x W hs hi hp hlt)
    (fun D xs o W hD _ hs hi hK _ => hdone D xs W hD hs hi.2 hK) (fun D c pre o W hD _ hs hi hK _ => hstop D c pre W hD hs hi.2 hK)
/-- What abides from a block on: cells below it. -/
theorem farO_turn {β : Type} {B n₀ N : Nat} {V : World} (q : β → Prop) (f : β → Array Value) (t : TypeId) (hN : N < B) (hn : n₀ ≤ V.heap.size) (hB : n₀ ≤ B) : FarO B (fun (s : β) (o : Nat → Prop) W => (o = fun _ => False) ∧ (q s ∧ Blk W N t (f s) ∧ Below n₀ V W)) := fun s o X Y row hs hgr hr =>
  ⟨hs.1, hs.2.1, hs.2.2.1.grown hgr (fun e => by have := (hr N e.symm).1; omega), hs.2.2.2.grown hgr (Nat.le_trans hn hs.2.2.2.size) fun r e => by have := (hr r e).1; omega⟩
end Go.Proofs.YtcgnhfiadeceiaaGreatDoor.T

