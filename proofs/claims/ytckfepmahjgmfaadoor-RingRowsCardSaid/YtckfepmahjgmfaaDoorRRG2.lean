/- A range over a function whose body keeps a row of its own (block o): the iterator writes nothing there, the body nothing else that lies from the call on. A walk, over which a range goes whose body keeps a row of its own: each round is told that the place is one. Walk, over whose places a range goes whose body keeps a row of its own. A range over an iterator that calls others, whose body keeps a row of its own: what a round keeps is told where it is left early, too. The function that goes over a diagonal. The columns of EVENODD: what a diagonal goes over, collected. The columns of EVENODD: a diagonal's cells, and the adjuster. The mathematics of EVENODD: the bytes at a place of cells that are put upon one another. The document's answers for EVENODD: the same columns. Lists that a call builds by append: of cells, of columns; which blocks they lie in. Lists that a call builds by append: many elements at once. The document's answers for EVENODD: a nought; columns put upon one another. The laws of EVENODD: columns that came in. ring: giving up, what is answered. Structs of many cells, loaded and stored whole. ring: a column under way: its values; its cells. -/
import Derived.Test.YtckfepmahjgmfaaDoorRRSA
import Derived.Test.YtckfepmahjgmfaaDoorRRG1
import Derived.Maps.OwnIn
import Derived.BigFrame
import Derived.Deep.Matrix
import Derived.ShutString
import Derived.ChangeOld
import Derived.Laws.CopyOwn
import Derived.Laws.Tables
import Derived.Test.YtckfepmahjgmfaaDoorRRMA
namespace Go.Proofs.YtckfepmahjgmfaaDoor
open Go.RowKit Go.Shelf
set_option linter.unusedVariables false

/-- I abides whatever happens from block B on, but in the body's row. -/
def FarO {β : Type} (B : Nat) (I : β → Option Nat → World → Prop) : Prop :=
  ∀ s o X Y row, I s o X → X.grownBy Y row → (∀ r, row = some r → B ≤ r ∧ some r ≠ o) → I s o Y
/-- What lay from B on lies as it lay, but for the body's row. -/
def SinceO (B : Nat) (o : Option Nat) (X Y : World) : Prop := X.heap.size ≤ Y.heap.size ∧ ∀ b, B ≤ b → b < X.heap.size → some b ≠ o → Y.heap[b]? = X.heap[b]?
/-- The body's row is a block of cells. -/
def RowO (o : Option Nat) (X : World) : Prop := ∀ b, o = some b → ∃ cs t fr, X.heap[b]? = some (.cells cs t fr)
theorem RowO.lt {o : Option Nat} {X : World} (h : RowO o X) : ∀ b, o = some b → b < X.heap.size := fun b e => by
  obtain ⟨_, _, _, hc⟩ := h b e
  exact (Array.getElem?_eq_some_iff.1 hc).1
theorem RowO.ne {o : Option Nat} {X : World} (h : RowO o X) {D : Nat} {ds : Option (List Deferred)} (hD : X.heap[D]? = some (.deferred ds)) : some D ≠ o := fun e => by
  obtain ⟨_, _, _, hc⟩ := h D e.symm
  rw [hD] at hc
  cases hc
theorem rowO_none (X : World) : RowO none X := fun b e => by cases e
/-- The body's row is what it was, or new. -/
def FreshO (o o' : Option Nat) (X : World) : Prop := o' = o ∨ ∃ b, o' = some b ∧ X.heap.size ≤ b

section
variable {β : Type} {B k : Nat} {I I' : β → Option Nat → World → Prop} {X Y Z : World} {o o' o'' : Option Nat}
theorem FarO.and (h : FarO B I) (h' : FarO B I') : FarO B (fun s o W => I s o W ∧ I' s o W) := fun s o X Y row hs hg hr => ⟨h s o X Y row hs.1 hg hr, h' s o X Y row hs.2 hg hr⟩
theorem FarO.less {B' : Nat} (h : FarO B I) (hB : B ≤ B') : FarO B' I := fun s o X Y row hs hg hr => h s o X Y row hs hg fun r e => ⟨by have := (hr r e).1; omega, (hr r e).2⟩
theorem farO_pure (B : Nat) (p : β → Option Nat → Prop) : FarO B (fun s o (_ : World) => p s o) := fun _ _ _ _ _ hs _ _ => hs
theorem farO_blk {g : Nat} (hg : g < B) (t : TypeId) (f : β → Array Value) : FarO B (fun s (_ : Option Nat) W => Blk W g t (f s)) := fun _ _ _ _ _ hs hgr hr =>
  hs.grown hgr fun e => by have := (hr g e.symm).1; omega
theorem farO_below {n₀ : Nat} {w : World} (hn : n₀ ≤ w.heap.size) (hB : n₀ ≤ B) : FarO B (fun (_ : β) (_ : Option Nat) W => Below n₀ w W) := fun _ _ _ _ _ hs hgr hr =>
  hs.grown hgr (Nat.le_trans hn hs.size) fun r e => by have := (hr r e).1; omega
theorem FarO.put (h : FarO B I) {s : β} {l : Nat} (hs : I s o X) (h1 : B ≤ l) (h2 : some l ≠ o) (ob : Obj) : I s o (X.putObj l ob) :=
  h s o X _ (some l) hs (grownBy_putObj' X l ob) fun r e => by injection e with e; subst e; exact ⟨h1, h2⟩
theorem FarO.lay (h : FarO B I) {s : β} (hs : I s o X) (ob : Obj) : I s o (X.alloc ob) := h s o X _ none hs (World.grownBy_alloc X ob none) fun r e => by cases e
theorem FarO.below (h : FarO B I) {s : β} (hs : I s o X) (hb : Below X.heap.size X Y) : I s o Y := h s o X Y none hs (grown_below hb) fun r e => by cases e
theorem SinceO.refl (B : Nat) (o : Option Nat) (X : World) : SinceO B o X X := ⟨Nat.le_refl _, fun _ _ _ _ => rfl⟩
theorem SinceO.below (hb : Below X.heap.size X Y) : SinceO B o X Y := ⟨hb.size, fun b _ h2 _ => hb.block b h2⟩
theorem SinceO.less {B' : Nat} (h : SinceO B o X Y) (hB : B ≤ B') : SinceO B' o X Y := ⟨h.1, fun b h1 h2 => h.2 b (by omega) h2⟩
theorem SinceO.trans (h : SinceO B o X Y) (hf : FreshO o o' X) (h' : SinceO B o' Y Z) : SinceO B o X Z := ⟨Nat.le_trans h.1 h'.1, fun b h1 h2 h3 => (h'.2 b h1 (by have := h.1; omega) (by
  rcases hf with rfl | ⟨c, rfl, hc⟩
  · exact h3
  · intro e; injection e with e; omega)).trans (h.2 b h1 h2 h3)⟩
theorem SinceO.trans_ (h : SinceO B o X Y) (h' : SinceO B o Y Z) : SinceO B o X Z := h.trans (.inl rfl) h'
theorem FreshO.trans (h : FreshO o o' X) (hs : X.heap.size ≤ Y.heap.size) (h' : FreshO o' o'' Y) : FreshO o o'' X := by
  rcases h' with rfl | ⟨c, rfl, hc⟩
  · exact h
  · exact .inr ⟨c, rfl, by omega⟩
theorem FreshO.later (h : FreshO o o' Y) (hs : X.heap.size ≤ Y.heap.size) : FreshO o o' X := h.imp id fun ⟨c, e, hc⟩ => ⟨c, e, by omega⟩
theorem FreshO.ne (h : FreshO o o' X) {b : Nat} (hb : b < X.heap.size) (hne : some b ≠ o) : some b ≠ o' := by
  rcases h with rfl | ⟨c, rfl, hc⟩
  · exact hne
  · intro e; injection e with e; omega
theorem SinceO.blk {g : Nat} {t : TypeId} {cs : Array Value} (h : SinceO B o X Y) (hb : Blk X g t cs) (hg : B ≤ g) (hne : some g ≠ o) : Blk Y g t cs := (h.2 g hg hb.lt hne).trans hb
theorem SinceO.keep {B' k : Nat} (h : SinceO B o X Y) (hB : B ≤ B') (hk : B' + k ≤ X.heap.size) (ho : ∀ b, o = some b → b < B' ∨ B' + k ≤ b) : Keep B' k X Y :=
  ⟨h.1, fun b h1 h2 => h.2 b (by omega) (by omega) (fun e => by have := ho b e.symm; omega)⟩
end

/-- What gf, with what it has captured, goes over: S, or (left early) Sp; its rounds leave alone what lies from its call on, but their own row, and keep Kp. -/
def SeqO {α : Type} (F : Fence) (n : Nat) (P : Program) (gf : Nat) (lb : Array Value) (encs : α → Array Value) (Ok : α → World → Prop) (Kp : World → World → Prop) (S Sp : List α → Prop) (N : Nat) (w : World) : Prop :=
  ∀ (l : Nat) (J Jx : List α → Option Nat → World → Prop) (W : World) (o₀ : Option Nat), Below w.heap.size w W → (∀ b, o₀ = some b → b < W.heap.size) → FarO W.heap.size J → FarO W.heap.size Jx → (∀ s o X, J s o X → RowO o X) → (∀ s o X, Jx s o X → RowO o X) →
    (∀ pre x o W1, J pre o W1 → Ok x W1 → pre.length < N → W.heap.size ≤ W1.heap.size → YieldAt F (n - 1) P l (encs x) W1 fun e W' => ∃ o', FreshO o o' W1 ∧ SinceO W.heap.size o W1 W' ∧
      ((e = .returned (.bool true) ∧ J (pre ++ [x]) o' W' ∧ Kp W1 W') ∨ (e = .returned (.bool false) ∧ Jx (pre ++ [x]) o' W'))) →
    J [] o₀ W →
    CallsIn F n P gf (#[.func (.yield l) #[] #[]] ++ lb) W fun e W' => (∃ v, e = .returned v) ∧ ∃ o', FreshO o₀ o' W ∧ ((∃ xs, S xs ∧ J xs o' W') ∨ (∃ pre, Sp pre ∧ Jx pre o' W'))

/-- How a round's body may be left. -/
def postO {α : Type} (B : Nat) (Kp : World → World → Prop) (I : List α → Option Nat → World → Prop) (Ix : Code → List α → Option Nat → World → Prop) (xs : List α) (o : Option Nat) (W : World) : Exit → Act → World → Prop
  | .normal, _, W' => ∃ o', FreshO o o' W ∧ SinceO B o W W' ∧ Kp W W' ∧ I xs o' W'
  | .ret, _, W' => ∃ o', FreshO o o' W ∧ SinceO B o W W' ∧ Ix .ret xs o' W'
  | .exit id, _, W' => ∃ o', FreshO o o' W ∧ SinceO B o W W' ∧ Ix (.exit id) xs o' W'
  | .goto t, _, W' => ∃ o', FreshO o o' W ∧ SinceO B o W W' ∧ Ix (.goto t) xs o' W'
  | .panic _, _, _ => False
  | .outgrown, _, _ => False
/-- The loop's two blocks lie so, and are not the body's row. -/
def HeldO (rec : LoopState → Option Code → Loop) (D : Nat) (st : LoopState) (pe : Option Code) (o : Option Nat) (X : World) : Prop := Held rec D st pe X ∧ some D ≠ o ∧ some (D + 1) ≠ o
theorem Held.lt0 {rec : LoopState → Option Code → Loop} {D : Nat} {st : LoopState} {pe : Option Code} {X : World} (h : Held rec D st pe X) : D < X.heap.size := by have := h.lt; omega
theorem HeldO.since {rec : LoopState → Option Code → Loop} {D B : Nat} {st : LoopState} {pe : Option Code} {X Y : World} {o o' : Option Nat} (h : HeldO rec D st pe o X) (hk : SinceO B o X Y) (hf : FreshO o o' X) (h1 : B ≤ D) : HeldO rec D st pe o' Y :=
  ⟨⟨(hk.2 _ (by omega) h.1.lt h.2.2).trans h.1.1, (hk.2 _ h1 h.1.lt0 h.2.1).trans h.1.2⟩, hf.ne h.1.lt0 h.2.1, hf.ne h.1.lt h.2.2⟩
theorem held_farO (rec : LoopState → Option Code → Loop) (D : Nat) (st : LoopState) (pe : Option Code) {β : Type} : FarO (D + 2) (fun (_ : β) o W => HeldO rec D st pe o W) := fun _ o X Y _ hs hg hr =>
  ⟨⟨(hg.block _ hs.1.lt (fun e => by have := (hr _ e.symm).1; omega)).trans hs.1.1, (hg.block D hs.1.lt0 (fun e => by have := (hr _ e.symm).1; omega)).trans hs.1.2⟩, hs.2⟩
theorem HeldO.turn {rec : LoopState → Option Code → Loop} {D : Nat} {st : LoopState} {pe : Option Code} {o : Option Nat} {X : World} (h : HeldO rec D st pe o X) (st' : LoopState) (pe' : Option Code) : HeldO rec D st' pe' o (X.putObj (D + 1) (.loop (rec st' pe'))) := ⟨h.1.turn st' pe', h.2⟩

/-- The law for a range that stands in no round. -/
theorem wpIn_rangeO {α : Type} {F : Fence} {n : Nat} {P : Program} {g : Operand} {ps : Array Tmp} {assign body : Code} {Q : Exit → Act → World → Prop} {a : Act} {w : World}
    (hro : F.round = none) (h1 : 1 ≤ n) {gf : Nat} {lb : Array Value} (hg : a.eval g = .func (.func gf) #[] lb) (hFg : F.fn gf) (eg : ∀ args w, (callFunc gf args).run P w = .ok (.enter gf args) w)
    {encs : α → Array Value} {Ok : α → World → Prop} {Kp : World → World → Prop} {S Sp : List α → Prop} {N : Nat} {w0 : World} (hseq : SeqO F (n - 1) P gf lb encs Ok Kp S Sp N w0)
    (hKt : ∀ {A B C : World}, Kp A B → Kp B C → Kp A C) (hKb : ∀ (W : World) (l : Nat) (ob : Obj), w.heap.size ≤ l → l < W.heap.size → (∃ r, W.heap[l]? = some (.loop r)) → Kp W (W.putObj l ob)) (hb0 : Below w0.heap.size w0 w) (hps : ∀ x, (encs x).size = ps.size)
    (I : List α → Option Nat → World → Prop) (Ix : Code → List α → Option Nat → World → Prop) (hI : FarO w.heap.size I) (hIx : ∀ c, FarO w.heap.size (Ix c)) (o₀ : Option Nat) (ho₀ : ∀ b, o₀ = some b → b < w.heap.size) (h0 : I [] o₀ w)
    (Ax : α → Option Nat → Act → World → Prop) (hAx : ∀ (x : α) (o : Option Nat) (a' : Act) (W : World) (l : Nat) (ob : Obj) (r : Loop), W.heap[l]? = some (.loop r) → Ax x o a' W → Ax x o a' (W.putObj l ob))
    (hassign : ∀ (l : Nat) (pre : List α) (x : α) (o : Option Nat) (W : World) (K : Act → World → Prop), w.heap.size ≤ W.heap.size → (∀ b, o = some b → b < W.heap.size) → I pre o W → Ok x W → (∀ a' W', SinceO w.heap.size o W W' → Kp W W' → I pre o W' → Ax x o a' W' → K a' W') →
      assign.wpIn (F.inRound l) (n - 1 - 1) P (Exit.then K (fun _ _ _ => False)) { tmps := (ps.zip (encs x)).foldl (fun t (p, v) => t.setIfInBounds p v) a.tmps, defers := [] } W)
    (hrow : ∀ pre o W, I pre o W → RowO o W) (hrowx : ∀ c pre o W, Ix c pre o W → RowO o W)
    (hbody : ∀ (l : Nat) (pre : List α) (x : α) (o : Option Nat) (a' : Act) (W : World), w.heap.size ≤ W.heap.size → I pre o W → Ax x o a' W → pre.length < N →
      body.wpIn (F.inRound l) (n - 1 - 1) P (postO w.heap.size Kp I Ix (pre ++ [x]) o W) a' W)
    (hdone : ∀ (D : Nat) (xs : List α) (o : Option Nat) (W : World), w.heap.size ≤ D → FreshO o₀ o w → S xs → I xs o W → W.heap[D]? = some (.deferred (some [])) → some D ≠ o → Q .normal { a with defers := { target := .collected D, args := #[] } :: a.defers } W)
    (hstop : ∀ (D : Nat) (c : Code) (pre : List α) (o : Option Nat) (W : World), w.heap.size ≤ D → FreshO o₀ o w → Sp pre → Ix c pre o W → W.heap[D]? = some (.deferred (some [])) → some D ≠ o → c.wpIn F n P Q { a with defers := { target := .collected D, args := #[] } :: a.defers } W) :
    (Code.rangeFunc g ps assign body).wpIn F n P Q a w := by
  refine wpIn_rangeFunc fun fn hfn => ?_
  rw [hro]
  obtain ⟨rec, hrec⟩ : ∃ rec : LoopState → Option Code → Loop, rec = fun st pe => { state := st, pending := pe, fn, tmps := a.tmps, params := ps, assign, body, defers := w.heap.size } := ⟨_, rfl⟩
  obtain ⟨W1, hW1⟩ : ∃ W1, (w.alloc (.deferred (some []))).alloc (.loop (rec .ready none)) = W1 := ⟨_, rfl⟩
  have s1 : W1.heap.size = w.heap.size + 2 := by rw [← hW1]; simp
  have n0 : some w.heap.size ≠ o₀ := fun e => by have := ho₀ _ e.symm; omega
  have n1 : some (w.heap.size + 1) ≠ o₀ := fun e => by have := ho₀ _ e.symm; omega
  have H1 : HeldO rec w.heap.size .ready none o₀ W1 := by
    rw [← hW1]
    refine ⟨⟨?_, (Below.heap_alloc _ _ _ (by simp)).trans (World.alloc_heap_new w _)⟩, n0, n1⟩
    have := World.alloc_heap_new (w.alloc (.deferred (some []))) (.loop (rec .ready none))
    rwa [World.size_alloc] at this
  have I1 : I [] o₀ W1 := by rw [← hW1]; exact hI.lay (hI.lay h0 _) _
  have B1 : Below w0.heap.size w0 W1 := by
    rw [← hW1]; exact hb0.trans ((((Below.refl _ w).alloc (Nat.le_refl _) _).alloc (by simp) _).mono hb0.size)
  refine ⟨w.heap.size + 1, [{ target := .collected w.heap.size, args := #[] }], W1, { target := .fn (.func gf) lb, args := #[.func (.yield (w.heap.size + 1)) #[] #[]] }, W1, gf,
    #[.func (.yield (w.heap.size + 1)) #[] #[]] ++ lb, W1, ?_, ?_, ?_, ?_, fun _ => h1, ?_⟩
  · rw [← hW1, hrec]; exact run_enterLoop_outer _ _ _ _ _
  · simp only [resolve, hg]
    simp [go_sem]
  · intro f' hf'
    simp [Target.leads] at hf'
    exact hf' ▸ hFg
  · simp [invoke, go_sem, eg]
  have hI' : FarO W1.heap.size I := hI.less (by omega)
  have hH := fun st pe => (s1 ▸ held_farO rec w.heap.size st pe (β := List α) : FarO W1.heap.size _)
  refine (hseq (w.heap.size + 1) (fun pre o W => I pre o W ∧ HeldO rec w.heap.size .ready none o W) (fun pre o W => ∃ c, Ix c pre o W ∧ HeldO rec w.heap.size .done (some c) o W) W1 o₀ B1 (fun b e => by have := ho₀ b e; omega) (hI'.and (hH _ _))
    (fun s o X Y row hs hgr hr => by
      obtain ⟨c, hc, hh⟩ := hs
      exact ⟨c, (hIx c).less (by omega) s o X Y row hc hgr hr, hH _ _ s o X Y row hh hgr hr⟩) (fun s o X h => hrow _ _ _ h.1) (fun s o X h => h.elim fun c h => hrowx _ _ _ _ h.1) ?_ ⟨I1, H1⟩).mono ?_
  · rintro pre x o W ⟨hi, hh⟩ hok hlen hsz
    rw [s1] at hsz
    have hy := run_yield (P := P) (args := encs x) hh.1.1 (by rw [hrec]; exact hps x)
    rw [hrec] at hy
    refine ⟨fn, _, assign, body, hy, roundIn_of_wpIn hfn (hassign _ pre x o W _ (by omega) (RowO.lt (hrow _ _ _ hi)) hi hok ?_)⟩
    intro a' Wa hka hpa hia hax
    have ha := hh.since hka (.inl rfl) (Nat.le_refl _)
    have hb := ha.turn .busy none
    have hbegin := run_beginRound (P := P) ha.1.1 (by rw [hrec])
    have ebusy : ({ rec .ready none with state := .busy } : Loop) = rec .busy none := by rw [hrec]
    rw [ebusy] at hbegin
    refine ⟨_, hbegin, ?_⟩
    have hsa := hka.1
    have hsb : (Wa.putObj (w.heap.size + 1) (.loop (rec .busy none))).heap.size = Wa.heap.size := by simp [World.putObj]
    refine wpIn_mono (hbody _ pre x o a' _ (by rw [hsb]; omega) (hI.put hia (by omega) ha.2.2 _) (hAx _ _ _ _ _ _ _ ha.1.1 hax) hlen) ?_
    have fin : ∀ (jump : Option Code) (o' : Option Nat) (W3 : World), FreshO o o' (Wa.putObj (w.heap.size + 1) (.loop (rec .busy none))) → SinceO w.heap.size o (Wa.putObj (w.heap.size + 1) (.loop (rec .busy none))) W3 →
        (Instr.endRound (w.heap.size + 1) jump).run P W3 = .ok (.bool jump.isNone) (W3.putObj (w.heap.size + 1) (.loop (rec (if jump.isNone then .ready else .done) jump))) ∧
        HeldO rec w.heap.size (if jump.isNone then .ready else .done) jump o' (W3.putObj (w.heap.size + 1) (.loop (rec (if jump.isNone then .ready else .done) jump))) ∧ HeldO rec w.heap.size .busy none o' W3 := fun jump o' W3 hf hk3 => by
      have h3 := hb.since hk3 hf (Nat.le_refl _)
      have he := run_endRound (P := P) jump h3.1.1
      have e2 : ({ rec .busy none with state := if jump.isNone then .ready else .done, pending := jump } : Loop) = rec (if jump.isNone then .ready else .done) jump := by rw [hrec]
      rw [e2] at he
      exact ⟨he, h3.turn _ _, h3⟩
    have putFar : ∀ (o : Option Nat) (V : World) (ob : Obj), SinceO W1.heap.size o V (V.putObj (w.heap.size + 1) ob) := fun o V ob => ⟨by simp [World.putObj], fun b h2 _ _ => World.putObj_heap_other (by omega)⟩
    have keepAll : ∀ (ob : Obj) (o' : Option Nat) (W3 : World), SinceO w.heap.size o (Wa.putObj (w.heap.size + 1) (.loop (rec .busy none))) W3 → SinceO W1.heap.size o W (W3.putObj (w.heap.size + 1) ob) := fun ob o' W3 hk3 =>
      (((hka.less (by omega)).trans_ (putFar o Wa _)).trans_ (hk3.less (by omega))).trans_ (putFar o W3 _)
    intro e a3 W3 hp
    cases e with
    | normal =>
      obtain ⟨o', hf3, hk3, hp3, hi3⟩ := hp
      obtain ⟨he, h4, h5⟩ := fin none o' W3 hf3 hk3
      exact ⟨_, _, he, o', hf3.later (by rw [hsb]; exact hsa), keepAll _ o' _ hk3, .inl ⟨rfl, ⟨hI.put hi3 (by omega) h5.2.2 _, h4⟩, hKt hpa (hKt (hKb _ _ _ (by omega) ha.1.lt ⟨_, ha.1.1⟩) (hKt hp3 (hKb _ _ _ (by omega) h5.1.lt ⟨_, h5.1.1⟩)))⟩⟩
    | ret =>
      obtain ⟨o', hf3, hk3, hi3⟩ := hp
      obtain ⟨he, h4, h5⟩ := fin (some .ret) o' W3 hf3 hk3
      exact ⟨_, _, he, o', hf3.later (by rw [hsb]; exact hsa), keepAll _ o' _ hk3, .inr ⟨rfl, .ret, (hIx _).put hi3 (by omega) h5.2.2 _, h4⟩⟩
    | exit id =>
      obtain ⟨o', hf3, hk3, hi3⟩ := hp
      obtain ⟨he, h4, h5⟩ := fin (some (.exit id)) o' W3 hf3 hk3
      exact ⟨_, _, he, o', hf3.later (by rw [hsb]; exact hsa), keepAll _ o' _ hk3, .inr ⟨rfl, .exit id, (hIx _).put hi3 (by omega) h5.2.2 _, h4⟩⟩
    | goto t =>
      obtain ⟨o', hf3, hk3, hi3⟩ := hp
      obtain ⟨he, h4, h5⟩ := fin (some (.goto t)) o' W3 hf3 hk3
      exact ⟨_, _, he, o', hf3.later (by rw [hsb]; exact hsa), keepAll _ o' _ hk3, .inr ⟨rfl, .goto t, (hIx _).put hi3 (by omega) h5.2.2 _, h4⟩⟩
    | panic ch => exact hp.elim
    | outgrown => exact hp.elim
  · rintro e W2 ⟨⟨v, rfl⟩, o', hfo, (⟨xs, hS, hi, hh⟩ | ⟨pre, hSp, c, hc, hh⟩)⟩
    · have he := run_endLoop (P := P) hh.1.1 (by rw [hrec]; simp)
      rw [show (rec .ready none).pending = none by rw [hrec]] at he
      exact ⟨none, _, he, hdone _ xs o' _ (Nat.le_refl _) (hfo.later (by omega)) hS (hI.put hi (by omega) hh.2.2 _) ((World.putObj_heap_other (by omega)).trans hh.1.2) hh.2.1⟩
    · have he := run_endLoop (P := P) hh.1.1 (by rw [hrec]; simp)
      rw [show (rec .done (some c)).pending = some c by rw [hrec]] at he
      exact ⟨some c, _, he, hstop _ c pre o' _ (Nat.le_refl _) (hfo.later (by omega)) hSp ((hIx c).put hc (by omega) hh.2.2 _) ((World.putObj_heap_other (by omega)).trans hh.1.2) hh.2.1⟩

end Go.Proofs.YtckfepmahjgmfaaDoor

namespace Go.Proofs.YtckfepmahjgmfaaDoor.E
open Go.RowKit Go.Shelf Go.Proofs.YtckfepmahjgmfaaDoor.C
set_option linter.unusedSimpArgs false
set_option linter.unusedVariables false
attribute [local go_sem] Oper.semAt_some

set_option maxHeartbeats 2000000 in
theorem walk1_inO (n : Nat) (hn : 1 ≤ n) (l g h lo m p : Nat) (hp : 0 < p) (hp2 : p ≤ 1000) (a s : Int) (a0 : 0 ≤ a) (a1 : a < p) (s0 : 0 ≤ s) (s1 : s < p) (hh1 : lo ≤ h) (hh : h < lo + m) (W : World) (hnW : lo + m ≤ W.heap.size) (J Jx : List Int → Option Nat → World → Prop) (o₀ : Option Nat) (ho₀ : ∀ b, o₀ = some b → b < W.heap.size)
    (hJ : FarO W.heap.size J)
    (hY : ∀ pre (x : Int) o W1, J pre o W1 → (0 ≤ x ∧ x < (p : Int)) → pre.length < p → W.heap.size ≤ W1.heap.size → YieldAt Fence.wide (n - 1) Tryd.prog l #[.int .i64 x] W1 fun e W' => ∃ o', FreshO o o' W1 ∧ SinceO W.heap.size o W1 W' ∧ ((e = .returned (.bool true) ∧ J (pre ++ [x]) o' W' ∧ Keep lo m W1 W') ∨ (e = .returned (.bool false) ∧ Jx (pre ++ [x]) o' W')))
    (bg : Blk W g 89 #[.int .i64 p, .int .i64 a]) (bh : Blk W h 87 #[.int .i64 s]) (h0 : J [] o₀ W) :
    CallsIn Fence.wide n Tryd.prog 85 #[.func (.yield l) #[] #[], .pointer (some ⟨g, 0, none⟩), .pointer (some ⟨h, 0, none⟩)] W fun e W' => (∃ v, e = .returned v) ∧ ∃ o', FreshO o₀ o' W ∧ ((∃ ys, ys = walkL p a s ∧ J ys o' W') ∨ (∃ pre, pre <+: walkL p a s ∧ Jx pre o' W')) := by
  have c0 : W.cell? ⟨g, 0, none⟩ = some (.int .i64 p) := bg.cell 0
  have c1 : W.cell? ⟨g, 1, none⟩ = some (.int .i64 a) := bg.cell 1
  refine callsIn_of_wp Tryd.func85 rfl trivial ?_ rfl
  simp only [Tryd.ntmps85, List.size_toArray, List.length_cons, List.length_nil, Nat.reduceAdd, Nat.reduceSub, Array.replicate_succ, Array.replicate_zero, List.push_toArray, List.append_toArray, List.nil_append, List.cons_append]
  refine wpIn_scope_wide ?_
  gi_wp2
  refine wpIn_label ?_
  obtain ⟨W0, hW0⟩ : ∃ W0, W.alloc (.cells #[.int .i64 p, .int .i64 a] 89) = W0 := ⟨_, rfl⟩
  have bD : Blk W0 W.heap.size 89 #[.int .i64 p, .int .i64 (walkAt p a s 0)] := by rw [← hW0, walkAt_zero p a s a0 (by omega)]; exact Blk.new W _ _
  have hJ0 : J [] o₀ W0 := by rw [← hW0]; exact hJ.lay h0 _
  have hB0 : Keep lo m W W0 := by rw [← hW0]; exact Keep.alloc hnW _
  rw [hW0]
  clear hW0
  have d0 : W0.cell? ⟨W.heap.size, 0, none⟩ = some (.int .i64 p) := bD.cell 0
  have d1 : W0.cell? ⟨W.heap.size, 1, none⟩ = some (.int .i64 (walkAt p a s 0)) := bD.cell 1
  gi_wp2
  clear d0 d1
  gi_loopw [8] (fun i wr => ∃ k : Nat, k ≤ p ∧ i = .int .i64 k ∧ Hid (∃ o, J ((walkL p a s).take k) o wr ∧ FreshO o₀ o W ∧ some W.heap.size ≠ o) ∧ Hid (Blk wr W.heap.size 89 #[.int .i64 p, .int .i64 (walkAt p a s k)]) ∧ Keep lo m W wr) (fun i _ => p - (intOf i).toNat)
  case atStart => exact ⟨0, Nat.zero_le _, rfl, Lib.hid ⟨o₀, hJ0, .inl rfl, fun e => by have := ho₀ _ e.symm; omega⟩, Lib.hid bD, hB0⟩
  case round =>
    obtain ⟨k, hk, rfl, HJ, HD, hB⟩ := hrel
    obtain ⟨o, hj, hfo, hno⟩ := HJ.out
    have HJ2 := Lib.hid hj
    by_cases hlt : k < p
    · have hdec : decide ((k : Int) < (p : Int)) = true := by simp; omega
      have HT := Lib.hid (walkL_next p a s k hlt)
      have hx := walkAt_lt p hp a s k
      have HN := Lib.hid (walkAt_next p a s k)
      have hD := HD.out
      have e0 : wr.cell? ⟨W.heap.size, 0, none⟩ = some (.int .i64 p) := hD.cell 0
      have e1 : wr.cell? ⟨W.heap.size, 1, none⟩ = some (.int .i64 (walkAt p a s k)) := hD.cell 1
      have hsz := hD.lt
      have HY := Lib.hid (hY _ (walkAt p a s k) o wr hj ⟨hx.1, by omega⟩ (by rw [List.length_take, walkL_len]; omega) (by omega))
      have HW := Lib.hid (fun V => with_any 87 _ plus_any enter_plus p (walkAt p a s k) s V (by omega) (by omega) hx.1 (by omega) s0 (by omega) (by omega) (by omega))
      clear hD HJ HJ2 hj
      simp only [HN.out] at HW
      generalize walkAt p a s k = x at *
      generalize hyy : walkAt p a s (k + 1) = y at *
      have HYY := Lib.hid hyy
      clear hyy
      obtain ⟨fn, tmps, assign, body, hy, hR⟩ := HY.out
      gi_wp2
      refine hR.mono ?_
      rintro e W3 ⟨o', hf3, hS3, (⟨rfl, hJ3, hk3⟩ | ⟨rfl, hJx3⟩)⟩
      all_goals have hfo' : FreshO o₀ o' W := hfo.trans (by omega) hf3
      all_goals have hno' : some W.heap.size ≠ o' := (by rcases hf3 with rfl | ⟨b2, rfl, hb2⟩; exact hno; intro e; injection e with e; omega)
      · have hD3 : Blk W3 W.heap.size 89 #[.int .i64 p, .int .i64 x] := (hS3.2 W.heap.size (Nat.le_refl _) (by omega) hno).trans HD.out
        have hB3 := hB.trans hk3
        have g0 : W3.cell? ⟨W.heap.size, 0, none⟩ = some (.int .i64 p) := hD3.cell 0
        have g1 : W3.cell? ⟨W.heap.size, 1, none⟩ = some (.int .i64 x) := hD3.cell 1
        have g2 : W3.cell? ⟨h, 0, none⟩ = some (.int .i64 s) := (hB3.blk bh hh1 hh).one
        have hl3 := hD3.lt
        gi_wp2_with (refine ⟨trivial, ?_⟩; gi_at_call 86; refine (callsIn_wide.2 (HW.out _)).mono ?_; rintro e W4 ⟨rfl, hB4⟩; have hD4 := hD3.below hB4 hD3.lt; have i0 := hD4.cell 0; have i1 := hD4.cell 1; have j0 := hD4.frozen 0; have j1 := hD4.frozen 1; simp only [List.getElem?_toArray, List.getElem?_cons_zero, List.getElem?_cons_succ] at i0 i1)
        go_roundw
        case rel =>
          refine ⟨k + 1, by omega, by go_num, Lib.hid ?_, Lib.hid (by rw [HYY.out]; exact (hD4.set_ 0 _).set_ 1 _), ((hB3.trans (Keep.below hB4 (by have := hB3.1; omega))).trans (Keep.setFar _ hnW _)).trans (Keep.setFar _ hnW _)⟩
          rw [HT.out]
          exact ⟨o', hJ _ o' W3 _ (some W.heap.size) hJ3 (grown_set (grown_set (grown_below hB4) 0 _) 1 _) (fun r e => by cases e; exact ⟨Nat.le_refl _, hno'⟩), hfo', hno'⟩
        case measure => simp [intOf]; omega
      · gi_wp2
        rw [Exit.noGoto_normal]
        go_end0
        exact ⟨⟨_, rfl⟩, o', hfo', .inr ⟨_, by rw [← HT.out]; exact List.take_prefix _ _, hJx3⟩⟩
    · obtain rfl : k = p := by omega
      have hdec : decide ((k : Int) < (k : Int)) = false := by simp
      have HF : Hid (J (walkL k a s) o wr) := by have := HJ2.out; rwa [List.take_of_length_le (by rw [walkL_len]; omega)] at this
      gi_wp2
      rw [Exit.noGoto_normal]
      go_end0
      exact ⟨⟨_, rfl⟩, o, hfo, .inl ⟨_, rfl, HF.out⟩⟩

end Go.Proofs.YtckfepmahjgmfaaDoor.E

namespace Go.Proofs.YtckfepmahjgmfaaDoor.E
open Go.RowKit Go.Shelf Go.Proofs.YtckfepmahjgmfaaDoor.C
set_option linter.unusedSimpArgs false
set_option linter.unusedVariables false

/-- What goes over the places zs of the prime p. -/
def WalkO (lo : Nat) (p : Int) (zs : List Int) (v : Value) (w : World) : Prop :=
  ∃ gf lb, v = .func (.func gf) #[] lb ∧ (∀ args W, (callFunc gf args).run Tryd.prog W = .ok (.enter gf args) W) ∧
    ∀ n, 1 ≤ n → SeqO Fence.wide n Tryd.prog gf lb (fun x : Int => #[.int .i64 x]) (fun x _ => 0 ≤ x ∧ x < p) (Keep lo (w.heap.size - lo)) (fun ys => ys = zs) (fun pre => pre <+: zs) zs.length w
theorem WalkO.less {lo lo' : Nat} {p : Int} {zs : List Int} {v : Value} {w : World} (h : WalkO lo p zs v w) (hl : lo' ≤ lo) (hw : lo ≤ w.heap.size) : WalkO lo' p zs v w := by
  obtain ⟨gf, lb, e, eg, hg⟩ := h
  exact ⟨gf, lb, e, eg, fun n hn l J Jx W o₀ hW ho₀ hJ hJx hr1 hr2 hY h0 => hg n hn l J Jx W o₀ hW ho₀ hJ hJx hr1 hr2 (fun pre x o W1 hj hok hl' hs => (hY pre x o W1 hj hok hl' hs).mono fun _ _ ⟨o', hf, hS, h⟩ => ⟨o', hf, hS, h.imp (fun ⟨h1, h2, h3⟩ => ⟨h1, h2, h3.less hl (by omega)⟩) id⟩) h0⟩
theorem walk_ofO (p a s : Int) (hf : Fine p [a]) (w : World) (h1 : -9223372036854775808 ≤ s) (h2 : s ≤ 9223372036854775807) :
    Calls Tryd.prog 66 #[.agg #[.int .i64 p, .int .i64 a], .int .i64 s] w fun e w' => ∃ v, e = .returned v ∧ WalkO w.heap.size p (walkN p a s) v w' ∧ Below w.heap.size w w' := by
  obtain ⟨hp, a0, a1⟩ := fine_one.1 hf
  have hb := prm_bounds hp
  rw [walkN_yes hf]
  obtain ⟨P, rfl⟩ : ∃ P : Nat, p = (P : Int) := ⟨p.toNat, by omega⟩
  refine (walk_any P (by omega) (by omega) a s w h1 h2).mono ?_
  rintro e w' ⟨g, h, rfl, bg, bh, hh, hB⟩
  refine ⟨_, rfl, ⟨_, _, rfl, enter_walk1, ?_⟩, hB⟩
  intro n hn l J Jx W o₀ hW ho₀ hJ hJx hr1 hr2 hY h0
  have hlt := bh.lt
  have hsz := hB.size
  refine walk1_inO n hn l g h w.heap.size (w'.heap.size - w.heap.size) P (by omega) (by omega) a (s % P) a0 (by omega) (Int.emod_nonneg _ (by omega)) (Int.emod_lt_of_pos _ (by omega)) hh (by omega) W (Nat.le_trans (by omega) hW.size) J Jx o₀ ho₀ hJ ?_ (bg.below hW bg.lt) (bh.below hW bh.lt) h0
  intro pre x o W1 hj hx hl hs
  exact hY pre x o W1 hj hx (by rw [Int.toNat_natCast, walkL_len]; exact hl) hs

set_option maxHeartbeats 1000000 in
theorem modWalk_anyO (p a s : Int) (hf : Fine p [a]) (w : World) (hL : Laid w) (h1 : -9223372036854775808 ≤ s) (h2 : s ≤ 9223372036854775807) :
    Calls Tryd.prog 43 #[.int .i64 p, .int .i64 a, .int .i64 s] w fun e w' => ∃ v, e = .returned v ∧ WalkO w.heap.size p (walkN p a s) v w' ∧ Below w.heap.size w w' := by
  have HA := Lib.hid (ask_one p a w hL)
  have HW := Lib.hid (fun W => walk_ofO p a s hf W h1 h2)
  have HF := Lib.hid hf
  clear hf
  go_enter Tryd.func43, Tryd.ntmps43
  go_wp2_with (first
    | (go_at_call 63; refine HA.out.mono ?_; rintro e w1 ⟨h1, _, hB⟩; obtain rfl := h1 HF.out)
    | (go_at_call 65; refine (sum_any _ _ _).mono ?_; rintro e w2 ⟨rfl, hB2⟩)
    | (go_at_call 66; refine (HW.out _).mono ?_; rintro e w3 ⟨v, rfl, hO, hB3⟩))
  go_ret
  exact ⟨_, rfl, hO.less (below_in (below_in ((Below.refl _ w).alloc (Nat.le_refl _) _) hB) hB2).size hB3.size, below_in (below_in (below_in ((Below.refl _ w).alloc (Nat.le_refl _) _) hB) hB2) hB3⟩
end Go.Proofs.YtckfepmahjgmfaaDoor.E

namespace Go.Proofs.YtckfepmahjgmfaaDoor.E
open Go.RowKit Go.Shelf Go.Proofs.YtckfepmahjgmfaaDoor.C
set_option linter.unusedSimpArgs false
set_option linter.unusedVariables false
attribute [local go_sem] Oper.semAt_some

theorem OwnS.far {w : World} {base : Nat} {v : Value} {l : List Value} (h : OwnS w base v l) {p : Addr} (hp : some p.block ≠ v.ownBlock) (u : Value) : OwnS (w.setCell p u) base v l := by
  refine ⟨h.1, ?_⟩
  rcases h.2 with h1 | ⟨g, cap, cur, e, h2, hg, rest⟩
  · exact .inl h1
  · exact .inr ⟨g, cap, cur, e, h2, (Below.heap_setCell w p u g (fun e2 => hp (by rw [e, ← e2]; rfl))).trans hg, rest⟩
theorem OwnS.kept {w w' : World} {base : Nat} {v : Value} {l : List Value} (h : OwnS w base v l) {row : Option Nat} (hg : w.grownBy w' row) (hne : v.ownBlock = none ∨ v.ownBlock ≠ row) : OwnS w' base v l := World.ownsRow.kept h hg hne
theorem OwnS.below {w w' : World} {base : Nat} {v : Value} {l : List Value} (h : OwnS w base v l) (hb : Below w.heap.size w w') : OwnS w' base v l := World.ownsRow.kept (row := none) h (grown_below hb) (by cases v.ownBlock <;> simp)
theorem OwnS.less {w : World} {base base' : Nat} {v : Value} {l : List Value} (h : OwnS w base v l) (hb : base' ≤ base) : OwnS w base' v l :=
  ⟨h.1, h.2.imp id fun ⟨g, cap, cur, e, h2, rest⟩ => ⟨g, cap, cur, e, by omega, rest⟩⟩
theorem OwnS.rowO {w : World} {base : Nat} {v : Value} {l : List Value} (h : OwnS w base v l) : RowO v.ownBlock w := fun b e => by
  rcases h.2 with ⟨rfl, _⟩ | ⟨g, cap, cur, rfl, _, hg, _⟩
  · cases e
  · injection e with e
    subst e
    exact ⟨_, _, _, hg⟩
end Go.Proofs.YtckfepmahjgmfaaDoor.E

namespace Go.Proofs.YtckfepmahjgmfaaDoor.E
open Go.RowKit Go.Shelf Go.Proofs.YtckfepmahjgmfaaDoor.C
set_option linter.unusedSimpArgs false
set_option linter.unusedVariables false
attribute [local go_sem] Oper.semAt_some

/-- The cell of a column and a row. -/
def cellOf_ (css : List (List (List UInt8))) (c r : Nat) : List UInt8 := (css[c]?.getD [])[r]?.getD []
end Go.Proofs.YtckfepmahjgmfaaDoor.E

namespace Go.Proofs.YtckfepmahjgmfaaDoor.E
open Go.RowKit Go.Shelf Go.Proofs.YtckfepmahjgmfaaDoor.C
set_option linter.unusedSimpArgs false
set_option linter.unusedVariables false

/-- The byte j of the cell of a column and a row. -/
def by_ (css : List (List (List UInt8))) (j c r : Nat) : UInt8 := at_ (cellOf_ css c r) j
section
variable {p : Int} {css : List (List (List UInt8))}
end
end Go.Proofs.YtckfepmahjgmfaaDoor.E

namespace Go.Proofs.YtckfepmahjgmfaaDoor.E
open Go.RowKit Go.Shelf Go.Proofs.YtckfepmahjgmfaaDoor.C
set_option linter.unusedSimpArgs false
set_option linter.unusedVariables false

theorem sameCol_any {B B' : Nat} (v1 v2 : Value) (ls os : List (List UInt8)) (w : World) (h1 : Many B w v1 ls) (h2 : Many B' w v2 os) (hls : ls.length ≤ 100000) (hos : os.length ≤ 100000) :
    Calls Tryd.prog 26 #[v1, v2] w fun e w' => e = .returned (.bool (decide (ls = os))) ∧ Below w.heap.size w w' := by
  have H := Lib.hid (rsame_any v1 v2 ls os w h1 h2 (by omega) (by omega))
  obtain ⟨A1, cap1, rfl, _, _⟩ := id h1
  obtain ⟨A2, cap2, rfl, _, _⟩ := id h2
  generalize decide (ls = os) = d at *
  go_enter Tryd.func26, Tryd.ntmps26
  go_wp2_with (go_at_call 45; refine H.out.mono ?_; rintro e w2 ⟨rfl, hB2⟩)
  go_ret
  exact ⟨rfl, hB2⟩
end Go.Proofs.YtckfepmahjgmfaaDoor.E

namespace Go.Proofs.YtckfepmahjgmfaaDoor.E
open Go.RowKit Go.Shelf Go.Proofs.YtckfepmahjgmfaaDoor.C
set_option linter.unusedSimpArgs false
set_option linter.unusedVariables false

/-- What a value reads as, and in which blocks. -/
structure Rep (α : Type) where
  R : (Nat → Prop) → World → Value → α → Prop
  imp : ∀ {P Q : Nat → Prop} {W : World} {v : Value} {x : α}, R P W v x → (∀ b, P b → Q b) → R Q W v x
  keep : ∀ {P : Nat → Prop} {W W' : World} {v : Value} {x : α}, R P W v x → Keeps P W W' → R P W' v x
  one : ∀ {P : Nat → Prop} {W : World} {v : Value} {x : α}, R P W v x → v.oneCell' = true
def bytesR : Rep (List UInt8) where
  R := BytesP
  imp := BytesP.imp
  keep := BytesP.keep
  one := fun ⟨_, _, e, _⟩ => by rw [e]; rfl
/-- A slice whose elements read as xs. -/
def SliceP {α : Type} (r : Rep α) (d : α) (P : Nat → Prop) (W : World) (v : Value) (xs : List α) : Prop :=
  ∃ A cap, v = .slice A xs.length cap ∧ xs.length ≤ cap ∧ (0 < xs.length → ∃ b off, A = some ⟨b, off, none⟩ ∧ P b ∧ ∀ j, j < xs.length → ∃ u, W.cell? ⟨b, off + j, none⟩ = some u ∧ r.R P W u (xs[j]?.getD d))
section
variable {α : Type} {r : Rep α} {d : α} {P Q : Nat → Prop} {W W' : World} {v : Value} {xs : List α}
theorem SliceP.imp (h : SliceP r d P W v xs) (hq : ∀ b, P b → Q b) : SliceP r d Q W v xs := by
  obtain ⟨A, cap, e, hc, hA⟩ := h
  refine ⟨A, cap, e, hc, fun hp => ?_⟩
  obtain ⟨b, off, e2, hb, hcell⟩ := hA hp
  exact ⟨b, off, e2, hq b hb, fun j hj => by obtain ⟨u, h1, h2⟩ := hcell j hj; exact ⟨u, h1, r.imp h2 hq⟩⟩
theorem SliceP.keep (h : SliceP r d P W v xs) (hk : Keeps P W W') : SliceP r d P W' v xs := by
  obtain ⟨A, cap, e, hc, hA⟩ := h
  refine ⟨A, cap, e, hc, fun hp => ?_⟩
  obtain ⟨b, off, e2, hb, hcell⟩ := hA hp
  exact ⟨b, off, e2, hb, fun j hj => by obtain ⟨u, h1, h2⟩ := hcell j hj; exact ⟨u, (World.cell?_of_block (hk b hb)).trans h1, r.keep h2 hk⟩⟩
end
def sliceR {α : Type} (r : Rep α) (d : α) : Rep (List α) where
  R := SliceP r d
  imp := SliceP.imp
  keep := SliceP.keep
  one := fun ⟨_, _, e, _⟩ => by rw [e]; rfl
def manyR : Rep (List (List UInt8)) := sliceR bytesR []
theorem Rep.below {α : Type} (r : Rep α) {P : Nat → Prop} {B : Nat} {W W' : World} {v : Value} {x : α} (h : r.R P W v x) (hP : ∀ b, P b → b < B) (hb : Below B W W') : r.R P W' v x := r.keep h fun b hp => hb.block b (hP b hp)

/-- A row of the call's own, of block type t, whose elements read as xs; these lie elsewhere, where Q holds. -/
def RowG {α : Type} (r : Rep α) (t : TypeId) (d : α) (Q : Nat → Prop) (W : World) (base : Nat) (v : Value) (xs : List α) : Prop :=
  ∃ us : List Value, W.ownsRow base t 1 v us.length us ∧ us.length = xs.length ∧ ∀ (j : Nat) (u : Value), us[j]? = some u → r.R (fun b => b < W.heap.size ∧ some b ≠ v.ownBlock ∧ Q b) W u (xs[j]?.getD d)
section
variable {α : Type} {r : Rep α} {t : TypeId} {d : α} {Q : Nat → Prop} {W W' : World} {base : Nat} {v : Value} {xs : List α}
theorem RowG.nil (r : Rep α) (t : TypeId) (d : α) (Q : Nat → Prop) (W : World) (base : Nat) : RowG r t d Q W base (.slice none 0 0) [] :=
  ⟨[], World.ownsRow_nil W base t 1, rfl, fun j u h => by cases h⟩
theorem RowG.kept (h : RowG r t d Q W base v xs) {row : Option Nat} (hg : W.grownBy W' row) (hne : v.ownBlock = none ∨ v.ownBlock ≠ row) (hQ : ∀ b, Q b → some b ≠ row) : RowG r t d Q W' base v xs := by
  obtain ⟨us, ho, hn, hr⟩ := h
  refine ⟨us, World.ownsRow.kept ho hg hne, hn, fun j u hu => ?_⟩
  exact r.imp (r.keep (hr j u hu) fun b hb => hg.block b hb.1 (hQ b hb.2.2)) fun b hb => ⟨Nat.lt_of_lt_of_le hb.1 hg.size, hb.2⟩
theorem RowG.below (h : RowG r t d Q W base v xs) (hb : Below W.heap.size W W') : RowG r t d Q W' base v xs :=
  h.kept (row := none) (grown_below hb) (by cases v.ownBlock <;> simp) (fun b _ => by simp)
theorem RowG.slice (h : RowG r t d Q W base v xs) {S : Nat → Prop} (hS : ∀ b, b < W.heap.size → (Q b ∨ base ≤ b) → S b) : SliceP r d S W v xs := by
  obtain ⟨us, ho, hn, hr⟩ := h
  rcases Nat.eq_zero_or_pos us.length with h0 | h0
  · rcases ho.2 with ⟨rfl, _⟩ | ⟨g, cap, cur, rfl, _, hg, hnc, _⟩
    · exact ⟨none, 0, by rw [← hn, h0], by omega, fun hp => by omega⟩
    · exact ⟨some ⟨g, 0, none⟩, cap, by rw [← hn], by omega, fun hp => by omega⟩
  · have hcp : ∀ g cap, v = .slice (some ⟨g, 0, none⟩) us.length cap → us.length ≤ cap := fun g cap e => by
      rcases ho.2 with ⟨_, h1⟩ | ⟨g2, cap2, cur, e2, _, _, hnc, _⟩
      · omega
      · rw [e] at e2
        injection e2 with _ _ e3
        omega
    obtain ⟨g, cap, e, hg, hg1⟩ := World.ownsRow.form ho h0
    have hcap := hcp g cap e
    subst e
    refine ⟨_, cap, by rw [← hn], by rw [← hn]; exact hcap, fun _ => ⟨g, 0, rfl, hS g (by omega) (.inr hg), fun j hj => ?_⟩⟩
    have hj2 : j < us.length := by omega
    refine ⟨us[j], ?_, r.imp (hr j us[j] (List.getElem?_eq_getElem hj2)) fun b hb => hS b hb.1 (.inl hb.2.2)⟩
    rw [Nat.zero_add, World.ownsRow.cellAt ho j (by omega), List.getElem?_eq_getElem hj2]
end
def RowM := RowG bytesR 48 []
section
variable {Q : Nat → Prop} {W W' : World} {base : Nat} {v : Value}
theorem RowM.many {ls : List (List UInt8)} (h : RowM Q W base v ls) {S : Nat → Prop} (hS : ∀ b, b < W.heap.size → (Q b ∨ base ≤ b) → S b) : manyR.R S W v ls := RowG.slice h hS
end
end Go.Proofs.YtckfepmahjgmfaaDoor.E

namespace Go.Proofs.YtckfepmahjgmfaaDoor.E
open Go.RowKit Go.Shelf Go.Proofs.YtckfepmahjgmfaaDoor.C
set_option linter.unusedSimpArgs false
set_option linter.unusedVariables false

section
variable {α : Type} {r : Rep α} {t : TypeId} {d : α} {Q : Nat → Prop} {W W' : World} {base : Nat} {v : Value} {xs : List α}
/-- A block of one element is a row of the call's own. -/
theorem RowG.one {g : Nat} {u : Value} {x : α} (hg : Blk W g t #[u]) (hb : base ≤ g) (hu : r.R (fun b => b < W.heap.size ∧ some b ≠ some g ∧ Q b) W u x) : RowG r t d Q W base (.slice (some ⟨g, 0, none⟩) 1 1) [x] :=
  ⟨[u], ⟨rfl, .inr ⟨g, 1, #[u], rfl, hb, hg, Nat.le_refl _, by unfold maxLen; omega, rfl, rfl⟩⟩, rfl, fun j y hy => by
    cases j with
    | zero => cases hy; exact hu
    | succ j => simp at hy⟩
set_option maxRecDepth 100000 in
/-- Elements more. -/
theorem RowG.append (i : TypeInfo) (hi : Tryd.prog.info? t = some i) (hz : i.zero = some (.slice none 0 0)) (h1 : i.size = 1) (h24 : i.bytes = 24) (T ty : TypeId) (hT : Tryd.prog.underlying T = some (.slice t))
    (h : RowG r t d Q W base v xs) {v2 : Value} {ys : List α} (h2 : SliceP r d (fun b => b < W.heap.size ∧ some b ≠ v.ownBlock ∧ Q b) W v2 ys) (hn2 : ∀ A cap, v2 = .slice A 0 cap → A = none → cap = 0) (hlen : xs.length ≤ 100000) (hlen2 : ys.length ≤ 100000) (hbase : base ≤ W.heap.size) :
    ∃ v' w', (Builtin.append_ #[T, T] ty #[v, v2]).run Tryd.prog W = .ok v' w' ∧ RowG r t d Q w' base v' (xs ++ ys) ∧ W.grownBy w' v.ownBlock ∧ (v'.ownBlock = v.ownBlock ∨ v'.ownBlock = some W.heap.size) := by
  obtain ⟨us, ho, hn, hr⟩ := h
  obtain ⟨A, cap, rfl, hc, hA⟩ := h2
  rcases A with _ | ad
  · have h0 : ys = [] := by
      rcases Nat.eq_zero_or_pos ys.length with h0 | h0
      · exact List.eq_nil_of_length_eq_zero h0
      · obtain ⟨b, off, h, _⟩ := hA h0
        cases h
    subst h0
    obtain rfl := hn2 none cap rfl rfl
    rw [List.append_nil]
    exact ⟨v, W, run_append_owned_none (P := Tryd.prog) (w := W) base T ty t i 1 hT hi v us.length us ho, ⟨us, ho, hn, hr⟩, World.grownBy.refl _ _, .inl rfl⟩
  have hus : ∃ us2 : List Value, us2.length = ys.length ∧ (∀ (j : Nat) (u : Value), us2[j]? = some u → W.cell? (ad.add j) = some u) ∧ ∀ (j : Nat) (u : Value), us2[j]? = some u → r.R (fun b => b < W.heap.size ∧ some b ≠ v.ownBlock ∧ Q b) W u (ys[j]?.getD d) := by
    rcases Nat.eq_zero_or_pos ys.length with h0 | h0
    · exact ⟨[], h0.symm, fun j u h => (by cases h), fun j u h => (by cases h)⟩
    · obtain ⟨b, off, e, hb, hcell⟩ := hA h0
      injection e with e
      subst e
      refine ⟨(List.range ys.length).map fun j => (W.cell? ⟨b, off + j, none⟩).getD undef, by simp, fun j u hu => ?_, fun j u hu => ?_⟩
      all_goals
        rw [List.getElem?_map] at hu
        rcases Nat.lt_or_ge j ys.length with hj | hj
        · rw [List.getElem?_range hj] at hu
          obtain ⟨u2, q1, q2⟩ := hcell j hj
          simp only [Option.map_some, q1, Option.getD_some, Option.some.injEq] at hu
          subst hu
          first | (rw [addr_add]; exact q1) | exact q2
        · rw [List.getElem?_eq_none (by simpa using hj)] at hu
          cases hu
  obtain ⟨us2, hl2, hc2, hr2⟩ := hus
  obtain ⟨v', w', hrun, o1, o2, _, o3⟩ := run_append_own_at (P := Tryd.prog) W base T ty t i (.slice none 0 0) 1 24 hT hi hz h1 h24 rfl (by omega) v us.length us ho ad ys.length cap us2 (by omega) hc2
    (by intro y hy; obtain ⟨j, hj⟩ := List.getElem?_of_mem hy; exact r.one (hr2 j y hj)) (by unfold maxLen; omega) (by omega) hbase
  have hk : ∀ {y : Value} {z : α}, r.R (fun b => b < W.heap.size ∧ some b ≠ v.ownBlock ∧ Q b) W y z → r.R (fun b => b < w'.heap.size ∧ some b ≠ v'.ownBlock ∧ Q b) w' y z := fun {y z} hy =>
    r.imp (r.keep hy fun b hb => o2.block b hb.1 hb.2.1) fun b hb => ⟨Nat.lt_of_lt_of_le hb.1 o2.size, by
      rcases o3 with e | e
      · rw [e]; exact hb.2.1
      · rw [e]; intro e2; injection e2 with e2; have := hb.1; omega, hb.2.2⟩
  refine ⟨v', w', hrun, ⟨us ++ us2, by rw [List.length_append, hl2]; exact o1, by rw [List.length_append, List.length_append, hn, hl2], fun j y hy => ?_⟩, o2, o3⟩
  rcases Nat.lt_or_ge j us.length with hj | hj
  · rw [List.getElem?_append_left hj] at hy
    rw [List.getElem?_append_left (by omega)]
    exact hk (hr j y hy)
  · rw [List.getElem?_append_right hj] at hy
    rw [List.getElem?_append_right (by omega), ← hn]
    exact hk (hr2 _ y hy)
end
end Go.Proofs.YtckfepmahjgmfaaDoor.E

namespace Go.Proofs.YtckfepmahjgmfaaDoor.E
open Go.RowKit Go.Shelf Go.Proofs.YtckfepmahjgmfaaDoor.C Go.ChangeShapes Go.WideShapes
set_option linter.unusedSimpArgs false
set_option linter.unusedVariables false

theorem wf_i64 {n : Int} (h : (Lit.int .i64 n).wf = true) : -9223372036854775808 ≤ n ∧ n ≤ 9223372036854775807 := by
  have := bounds_i64 h
  omega
end Go.Proofs.YtckfepmahjgmfaaDoor.E

namespace Go.Proofs.YtckfepmahjgmfaaDoor.Rg
open Go.RowKit Go.Shelf Go.Proofs.YtckfepmahjgmfaaDoor.C Go.Proofs.YtckfepmahjgmfaaDoor.E
set_option linter.unusedSimpArgs false
set_option linter.unusedVariables false

set_option maxHeartbeats 400000 in
theorem need_yes (w : World) : Calls Tryd.prog 49 #[.bool true] w fun e w' => e = .returned (.tuple #[]) ∧ w = w' := by
  go_enter Tryd.func49, Tryd.ntmps49
  go_wp2
  go_end0
  exact ⟨rfl, rfl⟩
set_option maxHeartbeats 400000 in
theorem need_no (w : World) : Calls Tryd.prog 49 #[.bool false] w fun e w' => e = .panicked gaveUp ∧ w = w' := by
  go_enter Tryd.func49, Tryd.ntmps49
  go_wp2
  exact ⟨rfl, rfl, rfl⟩
set_option maxHeartbeats 400000 in
theorem sureB (v : Value) (w : World) : Calls Tryd.prog 51 #[v, .int .i64 0] w fun e w' => e = .returned v ∧ w = w' := by
  go_enter Tryd.func51, Tryd.ntmps51
  go_wp2
  go_ret
  exact ⟨rfl, rfl⟩
set_option maxHeartbeats 400000 in
theorem sureI (n : Int) (w : World) : Calls Tryd.prog 76 #[.int .i64 n, .int .i64 0] w fun e w' => e = .returned (.int .i64 n) ∧ w = w' := by
  go_enter Tryd.func76, Tryd.ntmps76
  go_wp2
  go_ret
  exact ⟨rfl, rfl⟩
/-- What is answered when nothing gave up. -/
theorem idle_C (p : Addr) (w : World) :
    CallsD Tryd.prog 48 #[.pointer (some p)] .returning w fun e u' w' => e = .returned (.tuple #[]) ∧ u' = .returning ∧ w' = w := by
  have hta := assert_errno
  refine callsD_of_wpS Tryd.func48 rfl fun c₀ cs hu => ?_
  simp only [Tryd.ntmps48, List.size_toArray, List.length_cons, List.length_nil, Nat.reduceAdd, Nat.reduceSub, Array.replicate_succ, Array.replicate_zero, List.push_toArray, List.append_toArray, List.nil_append, List.cons_append]
  apply wpS_seq
  apply wpS_region
  simp [wpOpsS, go_sem, recoverD, hu, Exit.thenS]
  all_goals (refine wpS_of_wp ?_; go_wp2; cases c₀; simp_all [bodyPostS, results, Tryd.results48])
/-- What is answered when it gave up. -/
theorem caught_C (p : Addr) (x : Int) (w : World) (hc : w.cell? p = some (.int .i64 x)) (hz : w.frozen? p = false) :
    CallsD Tryd.prog 48 #[.pointer (some p)] (.panicking gaveUp) w fun e u' w' =>
      e = .returned (.tuple #[]) ∧ u' = .panicking [{ v := .iface 29 (.int .i64 2), recovered := true }] ∧ w' = w.setCell p (.int .i64 2) := by
  have hta := assert_errno
  refine callsD_of_wpS Tryd.func48 rfl fun c₀ cs hu => ?_
  simp only [Tryd.ntmps48, List.size_toArray, List.length_cons, List.length_nil, Nat.reduceAdd, Nat.reduceSub, Array.replicate_succ, Array.replicate_zero, List.push_toArray, List.append_toArray, List.nil_append, List.cons_append]
  apply wpS_seq
  apply wpS_region
  simp [wpOpsS, go_sem, recoverD, hu, Exit.thenS, gaveUp]
  all_goals (refine wpS_of_wp ?_; go_wp2; simp [bodyPostS, results, Tryd.results48])
set_option maxHeartbeats 400000 in
theorem ans_C_yes (f : Nat) (caps : Array Value) (w : World) (Post : Value → World → Prop) (hent : ∀ W, (callFunc f caps).run Tryd.prog W = .ok (.enter f caps) W)
    (h : ∀ W, Below w.heap.size w W → Blk W w.heap.size 29 #[.int .i64 0] → Calls Tryd.prog f caps W fun e w' => ∃ v, e = .returned v ∧ Post v w' ∧ Below W.heap.size W w') :
    Calls Tryd.prog 31 #[.func (.func f) #[] caps] w fun e w' => ∃ v W, e = .returned (.tuple #[v, .int .i64 0]) ∧ Post v W ∧ Blk W w.heap.size 29 #[.int .i64 0] ∧ w' = W.setCell ⟨w.heap.size, 0, none⟩ (.int .i64 0) ∧ Below w.heap.size w w' := by
  have hmf : ∀ (fn : Fn) (first cap : Array Value) (w : World), (Instr.makeFunc fn first cap).run Tryd.prog w = .ok (.func fn first cap) w := fun _ _ _ _ => rfl
  have h1 := h (w.alloc (.cells #[.int .i64 0] 29)) ((Below.refl _ w).alloc (Nat.le_refl _) _) (Blk.new w _ _)
  clear h
  go_enter_defers Tryd.func31, Tryd.ntmps31
  go_wp2
  refine h1.mono ?_
  rintro e w1 ⟨v, rfl, hv, hB1⟩
  have b1 : Blk w1 w.heap.size 29 #[.int .i64 0] := (Blk.new w _ _).below hB1 (by simp)
  have c1 := b1.cell 0
  have f1 := b1.frozen 0
  simp only [List.getElem?_toArray, List.getElem?_cons_zero] at c1
  go_wp2
  refine leaves_cons (f := 48) (args := #[.pointer (some ⟨w.heap.size, 0, none⟩)]) (by simp) (by simp [go_sem]) ?_
  refine (idle_C ⟨w.heap.size, 0, none⟩ _).mono ?_
  rintro e u' w'' ⟨rfl, rfl, rfl⟩
  have c2 : (w1.setCell ⟨w.heap.size, 0, none⟩ (.int .i64 0)).cell? ⟨w.heap.size, 0, none⟩ = some (.int .i64 0) := World.cell?_setCell_same' _ _ _ (by rw [c1]; rfl)
  simp [Go.Leaves, settle, results, Tryd.results31, go_sem, c2]
  exact ⟨w1, hv, b1, rfl, (((Below.refl _ w).alloc (Nat.le_refl _) _).trans (hB1.mono (by simp))).setCell (Nat.le_refl _) _⟩
set_option maxHeartbeats 400000 in
theorem ans_C_no (f : Nat) (caps : Array Value) (w : World) (hent : ∀ W, (callFunc f caps).run Tryd.prog W = .ok (.enter f caps) W)
    (h : ∀ W, Below w.heap.size w W → w.heap.size < W.heap.size → Calls Tryd.prog f caps W fun e w' => e = .panicked gaveUp ∧ Below W.heap.size W w') :
    Calls Tryd.prog 31 #[.func (.func f) #[] caps] w fun e w' => e = .returned (.tuple #[.slice none 0 0, .int .i64 2]) ∧ Below w.heap.size w w' := by
  have hmf : ∀ (fn : Fn) (first cap : Array Value) (w : World), (Instr.makeFunc fn first cap).run Tryd.prog w = .ok (.func fn first cap) w := fun _ _ _ _ => rfl
  have h1 := h (w.alloc (.cells #[.int .i64 0] 29)) ((Below.refl _ w).alloc (Nat.le_refl _) _) (by simp)
  clear h
  go_enter_defers Tryd.func31, Tryd.ntmps31
  go_wp2
  refine h1.mono ?_
  rintro e w1 ⟨rfl, hB1⟩
  have b1 : Blk w1 w.heap.size 29 #[.int .i64 0] := (Blk.new w _ _).below hB1 (by simp)
  have c1 := b1.cell 0
  have f1 := b1.frozen 0
  simp only [List.getElem?_toArray, List.getElem?_cons_zero] at c1
  refine leaves_cons (f := 48) (args := #[.pointer (some ⟨w.heap.size, 0, none⟩)]) (by simp) (by simp [go_sem]) ?_
  refine (caught_C ⟨w.heap.size, 0, none⟩ 0 _ c1 f1).mono ?_
  rintro e u' w'' ⟨rfl, rfl, rfl⟩
  have c2 : (w1.setCell ⟨w.heap.size, 0, none⟩ (.int .i64 2)).cell? ⟨w.heap.size, 0, none⟩ = some (.int .i64 2) := World.cell?_setCell_same' _ _ _ (by rw [c1]; rfl)
  simp [Go.Leaves, settle, results, Tryd.results31, go_sem, c2]
  exact (((Below.refl _ w).alloc (Nat.le_refl _) _).trans (hB1.mono (by simp))).setCell (Nat.le_refl _) _
end Go.Proofs.YtckfepmahjgmfaaDoor.Rg

namespace Go.Proofs.YtckfepmahjgmfaaDoor.Rg
open Go.RowKit Go.Shelf Go.Proofs.YtckfepmahjgmfaaDoor.C Go.Proofs.YtckfepmahjgmfaaDoor.E
set_option linter.unusedSimpArgs false
set_option linter.unusedVariables false

/-- What a load gives. -/
def LoadIs (P : Program) (t : TypeId) (ad : Addr) (v : Value) (w : World) : Prop := (loadVar t ad).run P w = .ok v w
section
variable {P : Program} {F : Fence} {n : Nat} {ops : Array Oper} {Q : Exit → Act → World → Prop} {rest : List Oper} {o : Oper} {a : Act} {w w' : World} {t : TypeId} {p x : Operand} {ad : Addr} {v : Value}
theorem exec_load {ρ : Operand → Value} (ho : o.op = .load t p) (hp : ρ p = .pointer (some ad)) (hv : LoadIs P t ad v w) : (execOp ρ o).run P w = .ok (.value v) w := by
  unfold execOp
  simp only [ho, hp, Instr.loadAt, Instr.sureAddr, Sem.run_bind, Sem.run_pure, Result.andThen_ok, show (loadVar t ad).run P w = .ok v w from hv]
theorem exec_store {ρ : Operand → Value} (ho : o.op = .store t p x) (hp : ρ p = .pointer (some ad)) (hx : ρ x = v) (hv : (storeVar t ad v).run P w = .ok () w') : (execOp ρ o).run P w = .ok .skip w' := by
  unfold execOp
  simp only [ho, hp, hx, Instr.storeAt, Instr.sureAddr, Sem.run_bind, Sem.run_pure, Result.andThen_ok, hv]
theorem wpListIn_loadS (hgd : o.guard = none) (ho : o.op = .load t p) (hp : a.eval p = .pointer (some ad)) (hv : LoadIs P t ad v w) (h : wpListIn F n P ops Q rest (a.put o.dst v) w) : wpListIn F n P ops Q (o :: rest) a w :=
  wpListIn_plain hgd fun K hK => by
    refine ⟨fun f hf => ?_, ?_⟩
    · simp [Oper.about, ho] at hf
    · rw [Oper.semAt_eq _ _ _ (by simp [ho]), exec_load ho hp hv]
      exact hK _ _ h
theorem wpListIn_storeS (hgd : o.guard = none) (ho : o.op = .store t p x) (hp : a.eval p = .pointer (some ad)) (hx : a.eval x = v) (hv : (storeVar t ad v).run P w = .ok () w') (h : wpListIn F n P ops Q rest (a.put o.dst undef) w') : wpListIn F n P ops Q (o :: rest) a w :=
  wpListIn_plain hgd fun K hK => by
    refine ⟨fun f hf => ?_, ?_⟩
    · simp [Oper.about, ho] at hf
    · rw [Oper.semAt_eq _ _ _ (by simp [ho]), exec_store ho hp hx hv]
      exact hK _ _ h
theorem results_cell {fn : Func} {tt : Tmp} {tmps : Array Value} (h : fn.results = #[.cell tt t]) (ht : tmps.getD tt undef = .pointer (some ad)) (hv : LoadIs P t ad v w) : (results fn tmps).run P w = .ok v w := by
  unfold LoadIs at hv
  have ht' : tmps[tt]?.getD undef = .pointer (some ad) := by simpa using ht
  simp [results, h, asAddr, ht', hv]
def aggOf (P : Program) (t : TypeId) : Bool := match P.underlying t with | some (.struct _) => true | some (.array _ _) => true | _ => false
theorem loadVar_at {g : Nat} {ty : TypeId} {cs : List Value} (h : Blk w g ty cs.toArray) (i m : Nat) (hn : i + m ≤ cs.length) (hu : aggOf P t = true) (hi : (P.info? t).map (·.size) = some m) :
    LoadIs P t ⟨g, i, none⟩ (.agg ((cs.drop i).take m).toArray) w := by
  have hl : ((cs.drop i).take m).length = m := by rw [List.length_take, List.length_drop]; omega
  have hc := run_loadCells_list (P := P) w ⟨g, i, none⟩ ((cs.drop i).take m) (fun j v hv => by
    have hj : j < m := by
      have := (List.getElem?_eq_some_iff.1 hv).1
      omega
    rw [addr_add, h.cell (i + j), List.getElem?_toArray]
    rw [List.getElem?_take_of_lt hj, List.getElem?_drop] at hv
    exact hv)
  rw [hl] at hc
  cases hq : P.info? t with
  | none => simp [hq] at hi
  | some f =>
    have hs : f.size = m := by simpa [hq] using hi
    have hagg : (isAgg t).run P w = .ok true w := by
      unfold aggOf at hu
      cases hd : P.underlying t with
      | none => rw [hd] at hu; cases hu
      | some d =>
        unfold isAgg
        rw [Sem.run_bind, run_underlying hd, Result.andThen_ok]
        cases d <;> simp_all
    unfold LoadIs loadVar
    simp [hagg, sizeOf, typeInfo, hq, hs, hc]
end
theorem load_whole {w : World} {g : Nat} {ty : TypeId} {cs : List Value} (h : Blk w g ty cs.toArray) (i : Nat) (hn : i + 17 ≤ cs.length) : LoadIs Tryd.prog 55 ⟨g, i, none⟩ (.agg ((cs.drop i).take 17).toArray) w :=
  loadVar_at h i 17 hn (by kernel_rfl) (by kernel_rfl)
theorem load_col {w : World} {g : Nat} {ty : TypeId} {cs : List Value} (h : Blk w g ty cs.toArray) (i : Nat) (hn : i + 18 ≤ cs.length) : LoadIs Tryd.prog 57 ⟨g, i, none⟩ (.agg ((cs.drop i).take 18).toArray) w :=
  loadVar_at h i 18 hn (by kernel_rfl) (by kernel_rfl)
theorem load_col0 {w : World} {g : Nat} {ty : TypeId} {cs : List Value} (h : Blk w g ty cs.toArray) (hn : cs.length = 18) : LoadIs Tryd.prog 57 ⟨g, 0, none⟩ (.agg cs.toArray) w := by
  have := load_col h 0 (by omega)
  rwa [List.drop_zero, List.take_of_length_le (by omega)] at this
theorem store_col0 {w : World} {g : Nat} {cs cs' : List Value} (h : Blk w g 57 cs.toArray) (hn : cs.length = 18) (hn' : cs'.length = 18) (h1 : ∀ v ∈ cs', v.oneCell' = true) : (storeVar 57 ⟨g, 0, none⟩ (.agg cs'.toArray)).run Tryd.prog w = .ok () (w.setRow g cs'.toArray) :=
  run_storeVar_row (P := Tryd.prog) w g _ _ cs.toArray cs'.toArray h (by rw [List.size_toArray, hn']; kernel_rfl) (by simp [hn, hn']) (by rw [Array.all_eq_true_iff_forall_mem]; intro v hv; exact h1 v (by simpa using hv))
end Go.Proofs.YtckfepmahjgmfaaDoor.Rg

namespace Go.Proofs.YtckfepmahjgmfaaDoor.Rg
open Go.RowKit Go.Shelf Go.Proofs.YtckfepmahjgmfaaDoor.C Go.Proofs.YtckfepmahjgmfaaDoor.E
set_option linter.unusedSimpArgs false
set_option linter.unusedVariables false
attribute [local go_sem] Oper.semAt_some

/-- The values of a column under way: its prime, and a cell for each of its rows. -/
def ColV (B : Nat) (W : World) (p n : Nat) (f : Nat → List UInt8) (vs : List Value) : Prop :=
  vs.length = 18 ∧ vs[0]? = some (.int .i64 (p : Int)) ∧ (∀ r, r < p → (f r).length = n ∧ ∃ u, vs[r + 1]? = some u ∧ Bytes B W u (f r)) ∧ ∀ v ∈ vs, v.oneCell' = true
section
variable {B B' p n : Nat} {W W' : World} {f : Nat → List UInt8} {vs : List Value}
theorem ColV.below (h : ColV B W p n f vs) (hb : Below B W W') : ColV B W' p n f vs := ⟨h.1, h.2.1, fun r hr => by obtain ⟨h1, u, h2, h3⟩ := h.2.2.1 r hr; exact ⟨h1, u, h2, h3.below hb⟩, h.2.2.2⟩
theorem ColV.more (h : ColV B W p n f vs) (hB : B ≤ B') : ColV B' W p n f vs := ⟨h.1, h.2.1, fun r hr => by obtain ⟨h1, u, h2, h3⟩ := h.2.2.1 r hr; exact ⟨h1, u, h2, h3.more hB⟩, h.2.2.2⟩
end
set_option maxHeartbeats 1000000 in
theorem cell_any (ws : List Value) (r : Nat) (u : Value) (hlen : ws.length = 17) (hr : ws[r]? = some u) (w : World) :
    Calls Tryd.prog 59 #[.agg ws.toArray, .int .i64 (r : Int)] w fun e w' => e = .returned u ∧ Below w.heap.size w w' := by
  have hlt : r < 17 := by have := (List.getElem?_eq_some_iff.1 hr).1; omega
  have b0 := Blk.new w 55 ws.toArray
  have c0 := b0.cell r
  rw [List.getElem?_toArray, hr] at c0
  have i1 : (0 : Int) ≤ (r : Int) := by omega
  have i2 : (r : Int) < 17 := by omega
  have i3 : r < 17 := by omega
  have hB := below_one w (.cells ws.toArray 55)
  clear hlen hr b0 hlt
  go_enter Tryd.func59, Tryd.ntmps59
  go_wp2
  go_ret
  exact ⟨rfl, hB⟩
set_option maxHeartbeats 1000000 in
theorem last_any (P Q : Nat) (hQ : P = Q + 1) (vs : List Value) (hP : P ≤ 17) (h0 : vs[0]? = some (.int .i64 (P : Int))) (w : World) :
    Calls Tryd.prog 53 #[.agg vs.toArray] w fun e w' => e = .returned (.int .i64 (Q : Int)) ∧ Below w.heap.size w w' := by
  have b0 := Blk.new w 57 vs.toArray
  have c0 := b0.cell 0
  rw [List.getElem?_toArray, h0] at c0
  have i1 : (0 : Int) ≤ (P : Int) := by omega
  have i2 : (P : Int) ≤ 17 := by omega
  have hB := below_one w (.cells vs.toArray 57)
  have HQ := Lib.hid hQ
  clear h0 b0 hP hQ
  go_enter Tryd.func53, Tryd.ntmps53
  go_wp2
  go_ret
  exact ⟨ret_i64 (by have := HQ.out; omega), hB⟩
set_option maxHeartbeats 1000000 in
theorem upon_any {B : Nat} (v : Value) (ls : List (List UInt8)) (w : World) (hB : B ≤ w.heap.size) (hM : Many B w v ls) (hls : ls.length ≤ 1000) (hok : XorOk ls) :
    Calls Tryd.prog 60 #[v] w fun e w' => ∃ u, e = .returned u ∧ Fresh w.heap.size w' u (xorOf ls) ∧ Below w.heap.size w w' := by
  have HX := Lib.hid (xor_yes ls v w hB hM (by omega) hok)
  obtain ⟨A, cap, rfl, _, _⟩ := id hM
  clear hM hok hls
  generalize ls.length = n at *
  go_enter Tryd.func60, Tryd.ntmps60
  go_wp2_with (first
    | (go_at_call 79; refine HX.out.mono ?_; rintro e w1 ⟨u, rfl, hF, hB1⟩)
    | (go_at_call 51; refine (sureB _ _).mono ?_; rintro e w2 ⟨rfl, rfl⟩))
  go_ret
  exact ⟨_, rfl, hF, hB1⟩
set_option maxHeartbeats 1000000 in
theorem place_any (P : Nat) (vs : List Value) (hP : (P : Int) ∈ prm) (h0 : vs[0]? = some (.int .i64 (P : Int))) (n : Int) (n1 : -9223372036854775808 ≤ n) (n2 : n ≤ 9223372036854775807) (w : World) (hL : Laid w) :
    Calls Tryd.prog 57 #[.agg vs.toArray, .int .i64 n] w fun e w' => e = .returned (.int .i64 (n % (P : Int))) ∧ Below w.heap.size w w' := by
  have b0 := Blk.new w 57 vs.toArray
  have c0 := b0.cell 0
  rw [List.getElem?_toArray, h0] at c0
  have hB := below_one w (.cells vs.toArray 57)
  have HO := Lib.hid ((modOf_any (P : Int) n (w.alloc (.cells vs.toArray 57)) (hL.next hB) n1 n2).mono fun e w' h => (⟨h.1 hP, h.2.2⟩ : _ ∧ _))
  clear h0 b0 hP hL
  go_enter Tryd.func57, Tryd.ntmps57
  go_wp2_with (first
    | (go_at_call 77; refine HO.out.mono ?_; rintro e w1 ⟨rfl, hB1⟩)
    | (go_at_call 76; refine (sureI _ _).mono ?_; rintro e w2 ⟨rfl, rfl⟩))
  go_ret
  exact ⟨rfl, below_in hB hB1⟩
end Go.Proofs.YtckfepmahjgmfaaDoor.Rg

