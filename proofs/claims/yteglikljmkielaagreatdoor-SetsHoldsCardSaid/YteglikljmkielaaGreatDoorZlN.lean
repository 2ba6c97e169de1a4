/- Ranges over lines: what laws share. -/
import Derived.Test.YteglikljmkielaaGreatDoorZG2
namespace Go.Proofs.YteglikljmkielaaGreatDoor
open Go.RowKit Go.Shelf
set_option linter.unusedVariables false

/-- A range whose variable lies in a block of its own, of what comes Pr standing. -/
theorem wpIn_rangeBoxB {α : Type} {F : Fence} {n : Nat} {P : Program} {g : Operand} {ps : Array Tmp} {assign body : Code} {Q : Exit → Act → World → Prop} {a : Act} {w : World}
    (hro : F.round = none) (h1 : 1 ≤ n) {gf : Nat} {pa lb : Array Value} (hg : a.eval g = .func (.func gf) pa lb) (hFg : F.fn gf) (eg : ∀ args w, (callFunc gf args).run P w = .ok (.enter gf args) w)
    {encs : α → Array Value} {Ok : α → World → Prop} {Kp : World → World → Prop} {S Sp : List α → Prop} {N : Nat} {w0 : World} (hseq : SeqB F (n - 1) P gf pa lb encs Ok Kp S Sp N w0)
    (hKt : ∀ {A B C : World}, Kp A B → Kp B C → Kp A C) (hKb : ∀ (W : World) (l : Nat) (ob : Obj), w.heap.size ≤ l → l < W.heap.size → (∃ r, W.heap[l]? = some (.loop r)) → Kp W (W.putObj l ob)) (hb0 : Below w0.heap.size w0 w) (hps : ∀ x, (encs x).size = ps.size)
    (I : List α → Option Nat → World → Prop) (Ix : Code → List α → Option Nat → World → Prop) (hI : FarO w.heap.size I) (hIx : ∀ c, FarO w.heap.size (Ix c)) (o₀ : Option Nat) (ho₀ : ∀ b, o₀ = some b → b < w.heap.size) (h0 : I [] o₀ w)
    (Pr : α → World → Prop) (hPl : ∀ x (W : World) (l : Nat) (ob : Obj), (∃ r, W.heap[l]? = some (.loop r)) → Pr x W → Pr x (W.putObj l ob)) (t : TypeId) (cs : α → Array Value) (a₁ : α → Nat → Act)
    (hassign : ∀ (l : Nat) (pre : List α) (x : α) (o : Option Nat) (W : World) (K : Act → World → Prop), w.heap.size ≤ W.heap.size → (∀ b, o = some b → b < W.heap.size) → I pre o W → Ok x W → (∀ Bx W', SinceO w.heap.size o W W' → Kp W W' → I pre o W' → Blk W' Bx t (cs x) → some Bx ≠ o → w.heap.size ≤ Bx → Pr x W' → K (a₁ x Bx) W') →
      assign.wpIn (F.inRound l) (n - 1 - 1) P (Exit.then K (fun _ _ _ => False)) { tmps := (ps.zip (encs x)).foldl (fun t (p, v) => t.setIfInBounds p v) a.tmps, defers := [] } W)
    (hrow : ∀ pre o W, I pre o W → RowO o W) (hrowx : ∀ c pre o W, Ix c pre o W → RowO o W)
    (hbody : ∀ (l : Nat) (pre : List α) (x : α) (o : Option Nat) (Bx : Nat) (W : World), w.heap.size ≤ W.heap.size → I pre o W → Blk W Bx t (cs x) → some Bx ≠ o → w.heap.size ≤ Bx → Pr x W → pre.length < N →
      body.wpIn (F.inRound l) (n - 1 - 1) P (postO w.heap.size Kp I Ix (pre ++ [x]) o W) (a₁ x Bx) W)
    (hdone : ∀ (D : Nat) (xs : List α) (o : Option Nat) (W : World), w.heap.size ≤ D → FreshO o₀ o w → S xs → I xs o W → W.heap[D]? = some (.deferred (some [])) → some D ≠ o → Q .normal { a with defers := { target := .collected D, args := #[] } :: a.defers } W)
    (hstop : ∀ (D : Nat) (c : Code) (pre : List α) (o : Option Nat) (W : World), w.heap.size ≤ D → FreshO o₀ o w → Sp pre → Ix c pre o W → W.heap[D]? = some (.deferred (some [])) → some D ≠ o → c.wpIn F n P Q { a with defers := { target := .collected D, args := #[] } :: a.defers } W) :
    (Code.rangeFunc g ps assign body).wpIn F n P Q a w :=
  wpIn_rangeB hro h1 hg hFg eg hseq hKt hKb hb0 hps I Ix hI hIx o₀ ho₀ h0 (fun x o a' W => ∃ Bx, Blk W Bx t (cs x) ∧ some Bx ≠ o ∧ w.heap.size ≤ Bx ∧ Pr x W ∧ a' = a₁ x Bx)
    (fun x o a' W l ob r hl ⟨Bx, hb, hne, hle, hp, e⟩ => ⟨Bx, (World.putObj_heap_other (fun e2 => by unfold Blk at hb; rw [e2, hl] at hb; cases hb)).trans hb, hne, hle, hPl _ _ _ _ ⟨r, hl⟩ hp, e⟩)
    (fun l pre x o W K hs hol hi hok hK => hassign l pre x o W K hs hol hi hok fun Bx W' h2 h3 h4 h5 h6 h7 h8 => hK _ _ h2 h3 h4 ⟨Bx, h5, h6, h7, h8, rfl⟩) hrow hrowx
    (fun l pre x o a' W hs hi ⟨Bx, hb, hne, hle, hp, e⟩ hlt => by subst e; exact hbody l pre x o Bx W hs hi hb hne hle hp hlt) hdone hstop

theorem OwnA.far {w : World} {base : Nat} {v : Value} {l : List (Int × Int)} (h : OwnA w base v l) {p : Addr} (hp : some p.block ≠ v.ownBlock) (u : Value) : OwnA (w.setCell p u) base v l := by
  refine ⟨h.1, ?_⟩
  rcases h.2 with h1 | ⟨g, cap, cur, e, h2, hg, rest⟩
  · exact .inl h1
  · exact .inr ⟨g, cap, cur, e, h2, (Below.heap_setCell w p u g (fun e2 => hp (by rw [e, ← e2]; rfl))).trans hg, rest⟩
theorem cell_put {W : World} {l : Nat} {ob : Obj} {r : Loop} {a : Addr} {v : Value} (hl : W.heap[l]? = some (.loop r)) (h : W.cell? a = some v) : (W.putObj l ob).cell? a = some v := by
  have hne : l ≠ a.block := by
    intro e
    unfold World.cell? at h
    rw [← e, hl] at h
    cases h
  exact (World.cell?_of_block (World.putObj_heap_other (by first | exact hne | exact hne.symm))).trans h
theorem LineOk.put {k p : Int} {zs : List (Int × Int)} {x : (Int × Int) × Value} {W : World} {l : Nat} {ob : Obj} {r : Loop} (hl : W.heap[l]? = some (.loop r)) (h : LineOk k p zs x W) : LineOk k p zs x (W.putObj l ob) := by
  obtain ⟨h1, g, cap, e, hg, hc⟩ := h
  exact ⟨h1, g, cap, e, by simpa [World.putObj] using hg, fun j hj => ⟨cell_put hl (hc j hj).1, cell_put hl (hc j hj).2⟩⟩
theorem sinceO_set {B : Nat} {o : Option Nat} (X : World) {b : Nat} (hb : b < B) (i : Nat) (v : Value) : SinceO B o X (X.setCell ⟨b, i, none⟩ v) :=
  ⟨by simp, fun c h1 _ _ => Below.heap_setCell X _ v c (by simp; omega)⟩
theorem prefix_elem {zs : List (Int × Int)} {pre : List ((Int × Int) × Value)} {x : (Int × Int) × Value} (hp : pre.map (·.1) <+: zs) (h : pre.length < zs.length) (hx : x.1 = zs[pre.length]) : (pre ++ [x]).map (·.1) <+: zs := by
  have e := List.prefix_iff_eq_take.1 hp
  rw [List.length_map] at e
  rw [List.map_append, e, List.map_cons, List.map_nil, hx, ← List.take_succ_eq_append_getElem h]
  exact List.take_prefix _ _
theorem prefix_not {zs : List (Int × Int)} {pre : List ((Int × Int) × Value)} {x : (Int × Int) × Value} (h : ∀ h : pre.length < zs.length, x.1 ≠ zs[pre.length]) : ¬ ((pre ++ [x]).map (·.1) <+: zs) := by
  rintro ⟨t, ht⟩
  have hlen : pre.length < zs.length := by
    have := congrArg List.length ht
    simp at this
    omega
  refine h hlen ?_
  subst ht
  simp
end Go.Proofs.YteglikljmkielaaGreatDoor
