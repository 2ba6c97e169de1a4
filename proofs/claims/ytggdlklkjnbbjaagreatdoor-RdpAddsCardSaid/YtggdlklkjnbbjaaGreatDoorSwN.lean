/- A range over a function whose variable lies in a block of its own, anew each round. -/
import Derived.Test.YtggdlklkjnbbjaaGreatDoorSwM
namespace Go.Proofs.YtggdlklkjnbbjaaGreatDoor
open Go.RowKit Go.Shelf
set_option linter.unusedVariables false

theorem wpIn_rangeBox {α : Type} {F : Fence} {n : Nat} {P : Program} {g : Operand} {ps : Array Tmp} {assign body : Code} {Q : Exit → Act → World → Prop} {a : Act} {w : World}
    (hro : F.round = none) (h1 : 1 ≤ n) {gf : Nat} {lb : Array Value} (hg : a.eval g = .func (.func gf) #[] lb) (hFg : F.fn gf) (eg : ∀ args w, (callFunc gf args).run P w = .ok (.enter gf args) w)
    {encs : α → Array Value} {Kp : World → World → Prop} {S Sp : List α → Prop} {N : Nat} {w0 : World} (hseq : SeqFar F (n - 1) P gf lb encs Kp S Sp N w0)
    (hKt : ∀ {A B C : World}, Kp A B → Kp B C → Kp A C) (hKb : ∀ (W : World) (l : Nat) (o : Obj), w.heap.size ≤ l → Kp W (W.putObj l o)) (hb0 : Below w0.heap.size w0 w) (hps : ∀ x, (encs x).size = ps.size)
    (I : List α → World → Prop) (Ix : Code → List α → World → Prop) (hI : Far w.heap.size I) (hIx : ∀ c, Far w.heap.size (Ix c)) (h0 : I [] w)
    (t : TypeId) (cs : α → Array Value) (a₁ : α → Nat → Act)
    (hassign : ∀ (l : Nat) (pre : List α) (x : α) (W : World) (K : Act → World → Prop), w.heap.size ≤ W.heap.size → I pre W → (∀ Bx W', Since w.heap.size W W' → Kp W W' → I pre W' → Blk W' Bx t (cs x) → K (a₁ x Bx) W') →
      assign.wpIn (F.inRound l) (n - 1 - 1) P (Exit.then K (fun _ _ _ => False)) { tmps := (ps.zip (encs x)).foldl (fun t (p, v) => t.setIfInBounds p v) a.tmps, defers := [] } W)
    (hbody : ∀ (l : Nat) (pre : List α) (x : α) (Bx : Nat) (W : World), w.heap.size ≤ W.heap.size → I pre W → Blk W Bx t (cs x) → pre.length < N →
      body.wpIn (F.inRound l) (n - 1 - 1) P (postF w.heap.size Kp I Ix (pre ++ [x]) W) (a₁ x Bx) W)
    (hdone : ∀ (D : Nat) (xs : List α) (W : World), w.heap.size ≤ D → S xs → I xs W → W.heap[D]? = some (.deferred (some [])) → Q .normal { a with defers := { target := .collected D, args := #[] } :: a.defers } W)
    (hstop : ∀ (D : Nat) (c : Code) (pre : List α) (W : World), w.heap.size ≤ D → Sp pre → Ix c pre W → W.heap[D]? = some (.deferred (some [])) → c.wpIn F n P Q { a with defers := { target := .collected D, args := #[] } :: a.defers } W) :
    (Code.rangeFunc g ps assign body).wpIn F n P Q a w :=
  wpIn_rangeFar hro h1 hg hFg eg hseq hKt hKb hb0 hps I Ix hI hIx h0 (fun x a' W => ∃ Bx, Blk W Bx t (cs x) ∧ a' = a₁ x Bx)
    (fun x a' W l o r hl ⟨Bx, hb, e⟩ => ⟨Bx, (World.putObj_heap_other (fun e2 => by unfold Blk at hb; rw [e2, hl] at hb; cases hb)).trans hb, e⟩)
    (fun l pre x W K hs hi hK => hassign l pre x W K hs hi fun Bx W' h2 h3 h4 h5 => hK _ _ h2 h3 h4 ⟨Bx, h5, rfl⟩)
    (fun l pre x a' W hs hi ⟨Bx, hb, e⟩ hlt => by subst e; exact hbody l pre x Bx W hs hi hb hlt) hdone hstop
end Go.Proofs.YtggdlklkjnbbjaaGreatDoor
