/- A range over a function whose body keeps a row of its own (block o): the iterator writes nothing there, the body nothing else that lies from the call on. -/
import Derived.Test.YtggdlklkjnbbjaaGreatDoorKSA
namespace Go.Proofs.YtggdlklkjnbbjaaGreatDoor
open Go.RowKit Go.Shelf
set_option linter.unusedVariables false

/-- I abides whatever happens from block B on, but in the body's row. -/
def FarO {β : Type} (B : Nat) (I : β → Option Nat → World → Prop) : Prop :=
  ∀ s o X Y row, I s o X → X.grownBy Y row → (∀ r, row = some r → B ≤ r ∧ some r ≠ o) → I s o Y
/-- What lay from B on lies as it lay, but for the body's row. -/
def SinceO (B : Nat) (o : Option Nat) (X Y : World) : Prop := X.heap.size ≤ Y.heap.size ∧ ∀ b, B ≤ b → b < X.heap.size → some b ≠ o → Y.heap[b]? = X.heap[b]?
/-- The body's row is a block of cells. -/
def RowO (o : Option Nat) (X : World) : Prop := ∀ b, o = some b → ∃ cs t fr, X.heap[b]? = some (.cells cs t fr)
theorem RowO.lt {o : Option Nat} {X : World} (h : RowO o X) : ∀ b, o = some b → b < X.heap.size := fun b e => by
  obtain ⟨_, _, _, hc⟩ := h b e
  exact (Array.getElem?_eq_some_iff.1 hc).1
theorem RowO.ne {o : Option Nat} {X : World} (h : RowO o X) {D : Nat} {ds : Option (List Deferred)} (hD : X.heap[D]? = some (.deferred ds)) : some D ≠ o := fun e => by
  obtain ⟨_, _, _, hc⟩ := h D e.symm
  rw [hD] at hc
  cases hc
/-- The body's row is what it was, or new. -/
def FreshO (o o' : Option Nat) (X : World) : Prop := o' = o ∨ ∃ b, o' = some b ∧ X.heap.size ≤ b

section
variable {β : Type} {B k : Nat} {I I' : β → Option Nat → World → Prop} {X Y Z : World} {o o' o'' : Option Nat}
theorem FarO.and (h : FarO B I) (h' : FarO B I') : FarO B (fun s o W => I s o W ∧ I' s o W) := fun s o X Y row hs hg hr => ⟨h s o X Y row hs.1 hg hr, h' s o X Y row hs.2 hg hr⟩
theorem FarO.less {B' : Nat} (h : FarO B I) (hB : B ≤ B') : FarO B' I := fun s o X Y row hs hg hr => h s o X Y row hs hg fun r e => ⟨by have := (hr r e).1; omega, (hr r e).2⟩
theorem farO_pure (B : Nat) (p : β → Option Nat → Prop) : FarO B (fun s o (_ : World) => p s o) := fun _ _ _ _ _ hs _ _ => hs
theorem FarO.put (h : FarO B I) {s : β} {l : Nat} (hs : I s o X) (h1 : B ≤ l) (h2 : some l ≠ o) (ob : Obj) : I s o (X.putObj l ob) :=
  h s o X _ (some l) hs (grownBy_putObj' X l ob) fun r e => by injection e with e; subst e; exact ⟨h1, h2⟩
theorem FarO.lay (h : FarO B I) {s : β} (hs : I s o X) (ob : Obj) : I s o (X.alloc ob) := h s o X _ none hs (World.grownBy_alloc X ob none) fun r e => by cases e
theorem FarO.below (h : FarO B I) {s : β} (hs : I s o X) (hb : Below X.heap.size X Y) : I s o Y := h s o X Y none hs (grown_below hb) fun r e => by cases e
theorem SinceO.refl (B : Nat) (o : Option Nat) (X : World) : SinceO B o X X := ⟨Nat.le_refl _, fun _ _ _ _ => rfl⟩
theorem SinceO.below (hb : Below X.heap.size X Y) : SinceO B o X Y := ⟨hb.size, fun b _ h2 _ => hb.block b h2⟩
theorem SinceO.less {B' : Nat} (h : SinceO B o X Y) (hB : B ≤ B') : SinceO B' o X Y := ⟨h.1, fun b h1 h2 => h.2 b (by omega) h2⟩
theorem SinceO.trans (h : SinceO B o X Y) (hf : FreshO o o' X) (h' : SinceO B o' Y Z) : SinceO B o X Z := ⟨Nat.le_trans h.1 h'.1, fun b h1 h2 h3 => (h'.2 b h1 (by have := h.1; omega) (by
  rcases hf with rfl | ⟨c, rfl, hc⟩
  · exact h3
  · intro e; injection e with e; omega)).trans (h.2 b h1 h2 h3)⟩
theorem SinceO.trans_ (h : SinceO B o X Y) (h' : SinceO B o Y Z) : SinceO B o X Z := h.trans (.inl rfl) h'
theorem FreshO.trans (h : FreshO o o' X) (hs : X.heap.size ≤ Y.heap.size) (h' : FreshO o' o'' Y) : FreshO o o'' X := by
  rcases h' with rfl | ⟨c, rfl, hc⟩
  · exact h
  · exact .inr ⟨c, rfl, by omega⟩
theorem FreshO.later (h : FreshO o o' Y) (hs : X.heap.size ≤ Y.heap.size) : FreshO o o' X := h.imp id fun ⟨c, e, hc⟩ => ⟨c, e, by omega⟩
theorem FreshO.ne (h : FreshO o o' X) {b : Nat} (hb : b < X.heap.size) (hne : some b ≠ o) : some b ≠ o' := by
  rcases h with rfl | ⟨c, rfl, hc⟩
  · exact hne
  · intro e; injection e with e; omega
theorem SinceO.blk {g : Nat} {t : TypeId} {cs : Array Value} (h : SinceO B o X Y) (hb : Blk X g t cs) (hg : B ≤ g) (hne : some g ≠ o) : Blk Y g t cs := (h.2 g hg hb.lt hne).trans hb
theorem SinceO.keep {B' k : Nat} (h : SinceO B o X Y) (hB : B ≤ B') (hk : B' + k ≤ X.heap.size) (ho : ∀ b, o = some b → b < B' ∨ B' + k ≤ b) : Keep B' k X Y :=
  ⟨h.1, fun b h1 h2 => h.2 b (by omega) (by omega) (fun e => by have := ho b e.symm; omega)⟩
end

/-- What gf, with what it has captured, goes over: S, or (left early) Sp; its rounds leave alone what lies from its call on, but their own row, and keep Kp. -/
def SeqO {α : Type} (F : Fence) (n : Nat) (P : Program) (gf : Nat) (lb : Array Value) (encs : α → Array Value) (Ok : α → World → Prop) (Kp : World → World → Prop) (S Sp : List α → Prop) (N : Nat) (w : World) : Prop :=
  ∀ (l : Nat) (J Jx : List α → Option Nat → World → Prop) (W : World) (o₀ : Option Nat), Below w.heap.size w W → (∀ b, o₀ = some b → b < W.heap.size) → FarO W.heap.size J → FarO W.heap.size Jx → (∀ s o X, J s o X → RowO o X) → (∀ s o X, Jx s o X → RowO o X) →
    (∀ pre x o W1, J pre o W1 → Ok x W1 → pre.length < N → W.heap.size ≤ W1.heap.size → YieldAt F (n - 1) P l (encs x) W1 fun e W' => ∃ o', FreshO o o' W1 ∧ SinceO W.heap.size o W1 W' ∧
      ((e = .returned (.bool true) ∧ J (pre ++ [x]) o' W' ∧ Kp W1 W') ∨ (e = .returned (.bool false) ∧ Jx (pre ++ [x]) o' W'))) →
    J [] o₀ W →
    CallsIn F n P gf (#[.func (.yield l) #[] #[]] ++ lb) W fun e W' => (∃ v, e = .returned v) ∧ ∃ o', FreshO o₀ o' W ∧ ((∃ xs, S xs ∧ J xs o' W') ∨ (∃ pre, Sp pre ∧ Jx pre o' W'))

/-- How a round's body may be left. -/
def postO {α : Type} (B : Nat) (Kp : World → World → Prop) (I : List α → Option Nat → World → Prop) (Ix : Code → List α → Option Nat → World → Prop) (xs : List α) (o : Option Nat) (W : World) : Exit → Act → World → Prop
  | .normal, _, W' => ∃ o', FreshO o o' W ∧ SinceO B o W W' ∧ Kp W W' ∧ I xs o' W'
  | .ret, _, W' => ∃ o', FreshO o o' W ∧ SinceO B o W W' ∧ Ix .ret xs o' W'
  | .exit id, _, W' => ∃ o', FreshO o o' W ∧ SinceO B o W W' ∧ Ix (.exit id) xs o' W'
  | .goto t, _, W' => ∃ o', FreshO o o' W ∧ SinceO B o W W' ∧ Ix (.goto t) xs o' W'
  | .panic _, _, _ => False
  | .outgrown, _, _ => False
/-- The loop's two blocks lie so, and are not the body's row. -/
def HeldO (rec : LoopState → Option Code → Loop) (D : Nat) (st : LoopState) (pe : Option Code) (o : Option Nat) (X : World) : Prop := Held rec D st pe X ∧ some D ≠ o ∧ some (D + 1) ≠ o
theorem Held.lt0 {rec : LoopState → Option Code → Loop} {D : Nat} {st : LoopState} {pe : Option Code} {X : World} (h : Held rec D st pe X) : D < X.heap.size := by have := h.lt; omega
theorem HeldO.since {rec : LoopState → Option Code → Loop} {D B : Nat} {st : LoopState} {pe : Option Code} {X Y : World} {o o' : Option Nat} (h : HeldO rec D st pe o X) (hk : SinceO B o X Y) (hf : FreshO o o' X) (h1 : B ≤ D) : HeldO rec D st pe o' Y :=
  ⟨⟨(hk.2 _ (by omega) h.1.lt h.2.2).trans h.1.1, (hk.2 _ h1 h.1.lt0 h.2.1).trans h.1.2⟩, hf.ne h.1.lt0 h.2.1, hf.ne h.1.lt h.2.2⟩
theorem held_farO (rec : LoopState → Option Code → Loop) (D : Nat) (st : LoopState) (pe : Option Code) {β : Type} : FarO (D + 2) (fun (_ : β) o W => HeldO rec D st pe o W) := fun _ o X Y _ hs hg hr =>
  ⟨⟨(hg.block _ hs.1.lt (fun e => by have := (hr _ e.symm).1; omega)).trans hs.1.1, (hg.block D hs.1.lt0 (fun e => by have := (hr _ e.symm).1; omega)).trans hs.1.2⟩, hs.2⟩
theorem HeldO.turn {rec : LoopState → Option Code → Loop} {D : Nat} {st : LoopState} {pe : Option Code} {o : Option Nat} {X : World} (h : HeldO rec D st pe o X) (st' : LoopState) (pe' : Option Code) : HeldO rec D st' pe' o (X.putObj (D + 1) (.loop (rec st' pe'))) := ⟨h.1.turn st' pe', h.2⟩

/-- The law for a range that stands in no round. -/
theorem wpIn_rangeO {α : Type} {F : Fence} {n : Nat} {P : Program} {g : Operand} {ps : Array Tmp} {assign body : Code} {Q : Exit → Act → World → Prop} {a : Act} {w : World}
    (hro : F.round = none) (h1 : 1 ≤ n) {gf : Nat} {lb : Array Value} (hg : a.eval g = .func (.func gf) #[] lb) (hFg : F.fn gf) (eg : ∀ args w, (callFunc gf args).run P w = .ok (.enter gf args) w)
    {encs : α → Array Value} {Ok : α → World → Prop} {Kp : World → World → Prop} {S Sp : List α → Prop} {N : Nat} {w0 : World} (hseq : SeqO F (n - 1) P gf lb encs Ok Kp S Sp N w0)
    (hKt : ∀ {A B C : World}, Kp A B → Kp B C → Kp A C) (hKb : ∀ (W : World) (l : Nat) (ob : Obj), w.heap.size ≤ l → l < W.heap.size → (∃ r, W.heap[l]? = some (.loop r)) → Kp W (W.putObj l ob)) (hb0 : Below w0.heap.size w0 w) (hps : ∀ x, (encs x).size = ps.size)
    (I : List α → Option Nat → World → Prop) (Ix : Code → List α → Option Nat → World → Prop) (hI : FarO w.heap.size I) (hIx : ∀ c, FarO w.heap.size (Ix c)) (o₀ : Option Nat) (ho₀ : ∀ b, o₀ = some b → b < w.heap.size) (h0 : I [] o₀ w)
    (Ax : α → Option Nat → Act → World → Prop) (hAx : ∀ (x : α) (o : Option Nat) (a' : Act) (W : World) (l : Nat) (ob : Obj) (r : Loop), W.heap[l]? = some (.loop r) → Ax x o a' W → Ax x o a' (W.putObj l ob))
    (hassign : ∀ (l : Nat) (pre : List α) (x : α) (o : Option Nat) (W : World) (K : Act → World → Prop), w.heap.size ≤ W.heap.size → (∀ b, o = some b → b < W.heap.size) → I pre o W → Ok x W → (∀ a' W', SinceO w.heap.size o W W' → Kp W W' → I pre o W' → Ax x o a' W' → K a' W') →
      assign.wpIn (F.inRound l) (n - 1 - 1) P (Exit.then K (fun _ _ _ => False)) { tmps := (ps.zip (encs x)).foldl (fun t (p, v) => t.setIfInBounds p v) a.tmps, defers := [] } W)
    (hrow : ∀ pre o W, I pre o W → RowO o W) (hrowx : ∀ c pre o W, Ix c pre o W → RowO o W)
    (hbody : ∀ (l : Nat) (pre : List α) (x : α) (o : Option Nat) (a' : Act) (W : World), w.heap.size ≤ W.heap.size → I pre o W → Ax x o a' W → pre.length < N →
      body.wpIn (F.inRound l) (n - 1 - 1) P (postO w.heap.size Kp I Ix (pre ++ [x]) o W) a' W)
    (hdone : ∀ (D : Nat) (xs : List α) (o : Option Nat) (W : World), w.heap.size ≤ D → FreshO o₀ o w → S xs → I xs o W → W.heap[D]? = some (.deferred (some [])) → some D ≠ o → Q .normal { a with defers := { target := .collected D, args := #[] } :: a.defers } W)
    (hstop : ∀ (D : Nat) (c : Code) (pre : List α) (o : Option Nat) (W : World), w.heap.size ≤ D → FreshO o₀ o w → Sp pre → Ix c pre o W → W.heap[D]? = some (.deferred (some [])) → some D ≠ o → c.wpIn F n P Q { a with defers := { target := .collected D, args := #[] } :: a.defers } W) :
    (Code.rangeFunc g ps assign body).wpIn F n P Q a w := by
  refine wpIn_rangeFunc fun fn hfn => ?_
  rw [hro]
  obtain ⟨rec, hrec⟩ : ∃ rec : LoopState → Option Code → Loop, rec = fun st pe => { state := st, pending := pe, fn, tmps := a.tmps, params := ps, assign, body, defers := w.heap.size } := ⟨_, rfl⟩
  obtain ⟨W1, hW1⟩ : ∃ W1, (w.alloc (.deferred (some []))).alloc (.loop (rec .ready none)) = W1 := ⟨_, rfl⟩
  have s1 : W1.heap.size = w.heap.size + 2 := by rw [← hW1]; simp
  have n0 : some w.heap.size ≠ o₀ := fun e => by have := ho₀ _ e.symm; omega
  have n1 : some (w.heap.size + 1) ≠ o₀ := fun e => by have := ho₀ _ e.symm; omega
  have H1 : HeldO rec w.heap.size .ready none o₀ W1 := by
    rw [← hW1]
    refine ⟨⟨?_, (Below.heap_alloc _ _ _ (by simp)).trans (World.alloc_heap_new w _)⟩, n0, n1⟩
    have := World.alloc_heap_new (w.alloc (.deferred (some []))) (.loop (rec .ready none))
    rwa [World.size_alloc] at this
  have I1 : I [] o₀ W1 := by rw [← hW1]; exact hI.lay (hI.lay h0 _) _
  have B1 : Below w0.heap.size w0 W1 := by
    rw [← hW1]; exact hb0.trans ((((Below.refl _ w).alloc (Nat.le_refl _) _).alloc (by simp) _).mono hb0.size)
  refine ⟨w.heap.size + 1, [{ target := .collected w.heap.size, args := #[] }], W1, { target := .fn (.func gf) lb, args := #[.func (.yield (w.heap.size + 1)) #[] #[]] }, W1, gf,
    #[.func (.yield (w.heap.size + 1)) #[] #[]] ++ lb, W1, ?_, ?_, ?_, ?_, fun _ => h1, ?_⟩
  · rw [← hW1, hrec]; exact run_enterLoop_outer _ _ _ _ _
  · simp only [resolve, hg]
    simp [go_sem]
  · intro f' hf'
    simp [Target.leads] at hf'
    exact hf' ▸ hFg
  · simp [invoke, go_sem, eg]
  have hI' : FarO W1.heap.size I := hI.less (by omega)
  have hH := fun st pe => (s1 ▸ held_farO rec w.heap.size st pe (β := List α) : FarO W1.heap.size _)
  refine (hseq (w.heap.size + 1) (fun pre o W => I pre o W ∧ HeldO rec w.heap.size .ready none o W) (fun pre o W => ∃ c, Ix c pre o W ∧ HeldO rec w.heap.size .done (some c) o W) W1 o₀ B1 (fun b e => by have := ho₀ b e; omega) (hI'.and (hH _ _))
    (fun s o X Y row hs hgr hr => by
      obtain ⟨c, hc, hh⟩ := hs
      exact ⟨c, (hIx c).less (by omega) s o X Y row hc hgr hr, hH _ _ s o X Y row hh hgr hr⟩) (fun s o X h => hrow _ _ _ h.1) (fun s o X h => h.elim fun c h => hrowx _ _ _ _ h.1) ?_ ⟨I1, H1⟩).mono ?_
  · rintro pre x o W ⟨hi, hh⟩ hok hlen hsz
    rw [s1] at hsz
    have hy := run_yield (P := P) (args := encs x) hh.1.1 (by rw [hrec]; exact hps x)
    rw [hrec] at hy
    refine ⟨fn, _, assign, body, hy, roundIn_of_wpIn hfn (hassign _ pre x o W _ (by omega) (RowO.lt (hrow _ _ _ hi)) hi hok ?_)⟩
    intro a' Wa hka hpa hia hax
    have ha := hh.since hka (.inl rfl) (Nat.le_refl _)
    have hb := ha.turn .busy none
    have hbegin := run_beginRound (P := P) ha.1.1 (by rw [hrec])
    have ebusy : ({ rec .ready none with state := .busy } : Loop) = rec .busy none := by rw [hrec]
    rw [ebusy] at hbegin
    refine ⟨_, hbegin, ?_⟩
    have hsa := hka.1
    have hsb : (Wa.putObj (w.heap.size + 1) (.loop (rec .busy none))).heap.size = Wa.heap.size := by simp [World.putObj]
    refine wpIn_mono (hbody _ pre x o a' _ (by rw [hsb]; omega) (hI.put hia (by omega) ha.2.2 _) (hAx _ _ _ _ _ _ _ ha.1.1 hax) hlen) ?_
    have fin : ∀ (jump : Option Code) (o' : Option Nat) (W3 : World), FreshO o o' (Wa.putObj (w.heap.size + 1) (.loop (rec .busy none))) → SinceO w.heap.size o (Wa.putObj (w.heap.size + 1) (.loop (rec .busy none))) W3 →
        (Instr.endRound (w.heap.size + 1) jump).run P W3 = .ok (.bool jump.isNone) (W3.putObj (w.heap.size + 1) (.loop (rec (if jump.isNone then .ready else .done) jump))) ∧
        HeldO rec w.heap.size (if jump.isNone then .ready else .done) jump o' (W3.putObj (w.heap.size + 1) (.loop (rec (if jump.isNone then .ready else .done) jump))) ∧ HeldO rec w.heap.size .busy none o' W3 := fun jump o' W3 hf hk3 => by
      have h3 := hb.since hk3 hf (Nat.le_refl _)
      have he := run_endRound (P := P) jump h3.1.1
      have e2 : ({ rec .busy none with state := if jump.isNone then .ready else .done, pending := jump } : Loop) = rec (if jump.isNone then .ready else .done) jump := by rw [hrec]
      rw [e2] at he
      exact ⟨he, h3.turn _ _, h3⟩
    have putFar : ∀ (o : Option Nat) (V : World) (ob : Obj), SinceO W1.heap.size o V (V.putObj (w.heap.size + 1) ob) := fun o V ob => ⟨by simp [World.putObj], fun b h2 _ _ => World.putObj_heap_other (by omega)⟩
    have keepAll : ∀ (ob : Obj) (o' : Option Nat) (W3 : World), SinceO w.heap.size o (Wa.putObj (w.heap.size + 1) (.loop (rec .busy none))) W3 → SinceO W1.heap.size o W (W3.putObj (w.heap.size + 1) ob) := fun ob o' W3 hk3 =>
      (((hka.less (by omega)).trans_ (putFar o Wa _)).trans_ (hk3.less (by omega))).trans_ (putFar o W3 _)
    intro e a3 W3 hp
    cases e with
    | normal =>
      obtain ⟨o', hf3, hk3, hp3, hi3⟩ := hp
      obtain ⟨he, h4, h5⟩ := fin none o' W3 hf3 hk3
      exact ⟨_, _, he, o', hf3.later (by rw [hsb]; exact hsa), keepAll _ o' _ hk3, .inl ⟨rfl, ⟨hI.put hi3 (by omega) h5.2.2 _, h4⟩, hKt hpa (hKt (hKb _ _ _ (by omega) ha.1.lt ⟨_, ha.1.1⟩) (hKt hp3 (hKb _ _ _ (by omega) h5.1.lt ⟨_, h5.1.1⟩)))⟩⟩
    | ret =>
      obtain ⟨o', hf3, hk3, hi3⟩ := hp
      obtain ⟨he, h4, h5⟩ := fin (some .ret) o' W3 hf3 hk3
      exact ⟨_, _, he, o', hf3.later (by rw [hsb]; exact hsa), keepAll _ o' _ hk3, .inr ⟨rfl, .ret, (hIx _).put hi3 (by omega) h5.2.2 _, h4⟩⟩
    | exit id =>
      obtain ⟨o', hf3, hk3, hi3⟩ := hp
      obtain ⟨he, h4, h5⟩ := fin (some (.exit id)) o' W3 hf3 hk3
      exact ⟨_, _, he, o', hf3.later (by rw [hsb]; exact hsa), keepAll _ o' _ hk3, .inr ⟨rfl, .exit id, (hIx _).put hi3 (by omega) h5.2.2 _, h4⟩⟩
    | goto t =>
      obtain ⟨o', hf3, hk3, hi3⟩ := hp
      obtain ⟨he, h4, h5⟩ := fin (some (.goto t)) o' W3 hf3 hk3
      exact ⟨_, _, he, o', hf3.later (by rw [hsb]; exact hsa), keepAll _ o' _ hk3, .inr ⟨rfl, .goto t, (hIx _).put hi3 (by omega) h5.2.2 _, h4⟩⟩
    | panic ch => exact hp.elim
    | outgrown => exact hp.elim
  · rintro e W2 ⟨⟨v, rfl⟩, o', hfo, (⟨xs, hS, hi, hh⟩ | ⟨pre, hSp, c, hc, hh⟩)⟩
    · have he := run_endLoop (P := P) hh.1.1 (by rw [hrec]; simp)
      rw [show (rec .ready none).pending = none by rw [hrec]] at he
      exact ⟨none, _, he, hdone _ xs o' _ (Nat.le_refl _) (hfo.later (by omega)) hS (hI.put hi (by omega) hh.2.2 _) ((World.putObj_heap_other (by omega)).trans hh.1.2) hh.2.1⟩
    · have he := run_endLoop (P := P) hh.1.1 (by rw [hrec]; simp)
      rw [show (rec .done (some c)).pending = some c by rw [hrec]] at he
      exact ⟨some c, _, he, hstop _ c pre o' _ (Nat.le_refl _) (hfo.later (by omega)) hSp ((hIx c).put hc (by omega) hh.2.2 _) ((World.putObj_heap_other (by omega)).trans hh.1.2) hh.2.1⟩

/-- The same, where the variable lies in a block of its own, anew each round. -/
theorem wpIn_rangeBoxO {α : Type} {F : Fence} {n : Nat} {P : Program} {g : Operand} {ps : Array Tmp} {assign body : Code} {Q : Exit → Act → World → Prop} {a : Act} {w : World}
    (hro : F.round = none) (h1 : 1 ≤ n) {gf : Nat} {lb : Array Value} (hg : a.eval g = .func (.func gf) #[] lb) (hFg : F.fn gf) (eg : ∀ args w, (callFunc gf args).run P w = .ok (.enter gf args) w)
    {encs : α → Array Value} {Ok : α → World → Prop} {Kp : World → World → Prop} {S Sp : List α → Prop} {N : Nat} {w0 : World} (hseq : SeqO F (n - 1) P gf lb encs Ok Kp S Sp N w0)
    (hKt : ∀ {A B C : World}, Kp A B → Kp B C → Kp A C) (hKb : ∀ (W : World) (l : Nat) (ob : Obj), w.heap.size ≤ l → l < W.heap.size → (∃ r, W.heap[l]? = some (.loop r)) → Kp W (W.putObj l ob)) (hb0 : Below w0.heap.size w0 w) (hps : ∀ x, (encs x).size = ps.size)
    (I : List α → Option Nat → World → Prop) (Ix : Code → List α → Option Nat → World → Prop) (hI : FarO w.heap.size I) (hIx : ∀ c, FarO w.heap.size (Ix c)) (o₀ : Option Nat) (ho₀ : ∀ b, o₀ = some b → b < w.heap.size) (h0 : I [] o₀ w)
    (Pr : α → Prop) (hPr : ∀ x W, Ok x W → Pr x) (t : TypeId) (cs : α → Array Value) (a₁ : α → Nat → Act)
    (hassign : ∀ (l : Nat) (pre : List α) (x : α) (o : Option Nat) (W : World) (K : Act → World → Prop), w.heap.size ≤ W.heap.size → (∀ b, o = some b → b < W.heap.size) → I pre o W → Ok x W → (∀ Bx W', SinceO w.heap.size o W W' → Kp W W' → I pre o W' → Blk W' Bx t (cs x) → some Bx ≠ o → w.heap.size ≤ Bx → K (a₁ x Bx) W') →
      assign.wpIn (F.inRound l) (n - 1 - 1) P (Exit.then K (fun _ _ _ => False)) { tmps := (ps.zip (encs x)).foldl (fun t (p, v) => t.setIfInBounds p v) a.tmps, defers := [] } W)
    (hrow : ∀ pre o W, I pre o W → RowO o W) (hrowx : ∀ c pre o W, Ix c pre o W → RowO o W)
    (hbody : ∀ (l : Nat) (pre : List α) (x : α) (o : Option Nat) (Bx : Nat) (W : World), w.heap.size ≤ W.heap.size → I pre o W → Blk W Bx t (cs x) → some Bx ≠ o → w.heap.size ≤ Bx → Pr x → pre.length < N →
      body.wpIn (F.inRound l) (n - 1 - 1) P (postO w.heap.size Kp I Ix (pre ++ [x]) o W) (a₁ x Bx) W)
    (hdone : ∀ (D : Nat) (xs : List α) (o : Option Nat) (W : World), w.heap.size ≤ D → FreshO o₀ o w → S xs → I xs o W → W.heap[D]? = some (.deferred (some [])) → some D ≠ o → Q .normal { a with defers := { target := .collected D, args := #[] } :: a.defers } W)
    (hstop : ∀ (D : Nat) (c : Code) (pre : List α) (o : Option Nat) (W : World), w.heap.size ≤ D → FreshO o₀ o w → Sp pre → Ix c pre o W → W.heap[D]? = some (.deferred (some [])) → some D ≠ o → c.wpIn F n P Q { a with defers := { target := .collected D, args := #[] } :: a.defers } W) :
    (Code.rangeFunc g ps assign body).wpIn F n P Q a w :=
  wpIn_rangeO hro h1 hg hFg eg hseq hKt hKb hb0 hps I Ix hI hIx o₀ ho₀ h0 (fun x o a' W => ∃ Bx, Blk W Bx t (cs x) ∧ some Bx ≠ o ∧ w.heap.size ≤ Bx ∧ Pr x ∧ a' = a₁ x Bx)
    (fun x o a' W l ob r hl ⟨Bx, hb, hne, hle, hp, e⟩ => ⟨Bx, (World.putObj_heap_other (fun e2 => by unfold Blk at hb; rw [e2, hl] at hb; cases hb)).trans hb, hne, hle, hp, e⟩)
    (fun l pre x o W K hs hol hi hok hK => hassign l pre x o W K hs hol hi hok fun Bx W' h2 h3 h4 h5 h6 h7 => hK _ _ h2 h3 h4 ⟨Bx, h5, h6, h7, hPr _ _ hok, rfl⟩) hrow hrowx
    (fun l pre x o a' W hs hi ⟨Bx, hb, hne, hle, hp, e⟩ hlt => by subst e; exact hbody l pre x o Bx W hs hi hb hne hle hp hlt) hdone hstop
end Go.Proofs.YtggdlklkjnbbjaaGreatDoor

