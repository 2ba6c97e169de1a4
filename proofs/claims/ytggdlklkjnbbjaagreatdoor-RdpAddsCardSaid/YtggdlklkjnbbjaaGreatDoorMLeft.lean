/- A return behind whatever number of ranges over functions, each of which has collected nothing. -/
import Derived.Test.YtggdlklkjnbbjaaGreatDoorMRange
import Derived.Sort.LoopGhostIn
namespace Go.Proofs.YtggdlklkjnbbjaaGreatDoor
open Go.RowKit Go.Shelf
set_option linter.unusedVariables false

/-- What ranges have left behind for the return: lists that nothing was put on. -/
def Left (base : Nat) (W : World) (Ds : List Nat) : Prop := Ds.Nodup ∧ ∀ D, D ∈ Ds → base ≤ D ∧ W.heap[D]? = some (.deferred (some []))
def leftOf (Ds : List Nat) : List Deferred := Ds.map fun D => { target := .collected D, args := #[] }
theorem Left.nil (base : Nat) (W : World) : Left base W [] := ⟨List.nodup_nil, fun D h => by cases h⟩
theorem Left.lt {base : Nat} {W : World} {Ds : List Nat} (h : Left base W Ds) {D : Nat} (hD : D ∈ Ds) : D < W.heap.size := (Array.getElem?_eq_some_iff.1 (h.2 D hD).2).1
theorem Left.below {base : Nat} {W W' : World} {Ds : List Nat} (h : Left base W Ds) (hB : Below W.heap.size W W') : Left base W' Ds :=
  ⟨h.1, fun D hD => ⟨(h.2 D hD).1, (hB.block D (h.lt hD)).trans (h.2 D hD).2⟩⟩
theorem Left.set_ {base : Nat} {W : World} {Ds : List Nat} (h : Left base W Ds) (p : Addr) (v : Value) : Left base (W.setCell p v) Ds :=
  ⟨h.1, fun D hD => ⟨(h.2 D hD).1, (KeepsOthers.setCell W p v).same D _ (h.2 D hD).2 rfl⟩⟩
theorem Left.more {base : Nat} {W W' : World} {Ds : List Nat} (h : Left base W Ds) (hB : Below W.heap.size W W') {D : Nat} (hb : base ≤ D) (hn : W.heap.size ≤ D) (hD : W'.heap[D]? = some (.deferred (some []))) : Left base W' (D :: Ds) := by
  refine ⟨List.nodup_cons.2 ⟨fun hm => by have := h.lt hm; omega, h.1⟩, fun E hE => ?_⟩
  rcases List.mem_cons.1 hE with rfl | hE
  · exact ⟨hb, hD⟩
  · exact (h.below hB).2 E hE

theorem leaves_left {F : Fence} {n : Nat} {P : Program} {fn : Func} {tmps : Array Value} {R : Ending → World → Prop} (w : World) :
    ∀ (Ds : List Nat) (W : World), Left w.heap.size W Ds → Below w.heap.size w W → (∀ W' : World, Below w.heap.size w W' → LeavesInM F n P fn tmps R [] .returning W') → LeavesInM F n P fn tmps R (leftOf Ds) .returning W
  | [], W, _, hB, h => h W hB
  | D :: Ds, W, hL, hB, h => by
    obtain ⟨hb, hD⟩ := hL.2 D (.head _)
    have hn := List.nodup_cons.1 hL.1
    refine ⟨by simp, .inl ⟨_, _, rfl, run_takeDeferred hD, ?_⟩⟩
    refine leaves_left w Ds _ ⟨hn.2, fun E hE => ⟨(hL.2 E (.tail _ hE)).1, ?_⟩⟩ (hB.trans (belowK_b (w := w) (Nat.le_refl _) _ D _ _ hb hD rfl rfl)) h
    have hne : E ≠ D := fun e => hn.1 (by rw [← e]; exact hE)
    exact (World.putObj_heap_other hne).trans (hL.2 E (.tail _ hE)).2

/-- The same, where what lies in blocks is wanted behind. -/
theorem leaves_blks {F : Fence} {n : Nat} {P : Program} {fn : Func} {tmps : Array Value} {R : Ending → World → Prop} (w : World) :
    ∀ (Ds : List Nat) (W : World), Left w.heap.size W Ds → Below w.heap.size w W → (∀ W' : World, Below w.heap.size w W' → (∀ g t cs, Blk W g t cs → Blk W' g t cs) → LeavesInM F n P fn tmps R [] .returning W') → LeavesInM F n P fn tmps R (leftOf Ds) .returning W
  | [], W, _, hB, h => h W hB fun _ _ _ hb => hb
  | D :: Ds, W, hL, hB, h => by
    obtain ⟨hb, hD⟩ := hL.2 D (.head _)
    have hn := List.nodup_cons.1 hL.1
    refine ⟨by simp, .inl ⟨_, _, rfl, run_takeDeferred hD, ?_⟩⟩
    refine leaves_blks w Ds _ ⟨hn.2, fun E hE => ⟨(hL.2 E (.tail _ hE)).1, ?_⟩⟩ (hB.trans (belowK_b (w := w) (Nat.le_refl _) _ D _ _ hb hD rfl rfl)) (fun W' hB' hk => h W' hB' fun g t cs hg => hk g t cs ?_)
    · have hne : E ≠ D := fun e => hn.1 (by rw [← e]; exact hE)
      exact (World.putObj_heap_other hne).trans (hL.2 E (.tail _ hE)).2
    · have hne : g ≠ D := fun e => by unfold Blk at hg; rw [e, hD] at hg; cases hg
      exact (World.putObj_heap_other hne).trans hg

/-- Some places of a frame anew. -/
def sets (t : Array Value) : List Nat → List Value → Array Value
  | n :: ns, v :: vs => sets (t.setIfInBounds n v) ns vs
  | _, _ => t

/-- A loop whose rounds leave deferred lists behind: the places ns of its frame turn, all others stand. -/
theorem loop_left {F : Fence} {rm : Nat} {P : Program} {Q : Exit → Act → World → Prop} {t : Array Value} {w : World} {c : Code} (ns : List Nat)
    (Rel : Nat → List Value → List Nat → World → Prop) (n₀ : Nat) (vs₀ : List Value) (hv : sets t ns vs₀ = t) (h₀ : Rel n₀ vs₀ [] w)
    (round : ∀ m vs Ds w, Rel m vs Ds w → ∀ K : Act → World → Prop, (∀ m' vs' Ds' w', m' < m → Rel m' vs' Ds' w' → K { tmps := sets t ns vs', defers := leftOf Ds' } w') →
      c.wpIn F rm P (Exit.then K Q) { tmps := sets t ns vs, defers := leftOf Ds } w) :
    (Code.loop c).wpIn F rm P Q { tmps := t, defers := [] } w := by
  refine wpIn_loop_ghost (fun m a w => ∃ vs Ds, a = { tmps := sets t ns vs, defers := leftOf Ds } ∧ Rel m vs Ds w) n₀ ⟨vs₀, [], by rw [hv]; rfl, h₀⟩ ?_
  rintro m a W ⟨vs, Ds, rfl, hR⟩
  exact round m vs Ds W hR _ fun m' vs' Ds' w' hlt hR' => ⟨m', hlt, vs', Ds', rfl, hR'⟩
end Go.Proofs.YtggdlklkjnbbjaaGreatDoor
