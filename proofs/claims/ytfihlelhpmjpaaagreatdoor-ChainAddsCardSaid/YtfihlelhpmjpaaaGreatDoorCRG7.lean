/- A range over a function whose body keeps rows of its own (the blocks o): the iterator writes nothing there, the body nothing else that lies from the call on. A walk, over which a range goes whose body -/
import Derived.Test.YtfihlelhpmjpaaaGreatDoorCRG6
namespace Go.Proofs.YtfihlelhpmjpaaaGreatDoor.T
open Go.RowKit Go.Shelf
set_option linter.unusedVariables false
set_option linter.unusedSimpArgs false

/-- I abides whatever happens from block B on, but in the body's row. -/
def FarO {β : Type} (B : Nat) (I : β → (Nat → Prop) → World → Prop) : Prop :=
  ∀ s o X Y row, I s o X → X.grownBy Y row → (∀ r, row = some r → B ≤ r ∧ ¬ o r) → I s o Y
/-- What lay from B on lies as it lay, but for the body's row. -/
def SinceO (B : Nat) (o : (Nat → Prop)) (X Y : World) : Prop := X.heap.size ≤ Y.heap.size ∧ ∀ b, B ≤ b → b < X.heap.size → ¬ o b → Y.heap[b]? = X.heap[b]?
/-- The body's row is a block of cells. -/
def RowO (o : (Nat → Prop)) (X : World) : Prop := ∀ b, o b → ∃ cs t fr, X.heap[b]? = some (.cells cs t fr)
theorem RowO.lt {o : (Nat → Prop)} {X : World} (h : RowO o X) : ∀ b, o b → b < X.heap.size := fun b e => by
  obtain ⟨_, _, _, hc⟩ := h b e
  exact (Array.getElem?_eq_some_iff.1 hc).1
theorem RowO.ne {o : (Nat → Prop)} {X : World} (h : RowO o X) {D : Nat} {ds : Option (List Deferred)} (hD : X.heap[D]? = some (.deferred ds)) : ¬ o D := fun e => by
  obtain ⟨_, _, _, hc⟩ := h D e
  rw [hD] at hc
  cases hc
/-- The body's row is what it was, or new. -/
def FreshO (o o' : (Nat → Prop)) (X : World) : Prop := ∀ b, o' b → o b ∨ X.heap.size ≤ b
theorem FreshO.refl (o : Nat → Prop) (X : World) : FreshO o o X := fun _ h => .inl h

section
variable {β : Type} {B k : Nat} {I I' : β → (Nat → Prop) → World → Prop} {X Y Z : World} {o o' o'' : (Nat → Prop)}
theorem FarO.and (h : FarO B I) (h' : FarO B I') : FarO B (fun s o W => I s o W ∧ I' s o W) := fun s o X Y row hs hg hr => ⟨h s o X Y row hs.1 hg hr, h' s o X Y row hs.2 hg hr⟩
theorem FarO.less {B' : Nat} (h : FarO B I) (hB : B ≤ B') : FarO B' I := fun s o X Y row hs hg hr => h s o X Y row hs hg fun r e => ⟨by have := (hr r e).1; omega, (hr r e).2⟩
theorem FarO.put (h : FarO B I) {s : β} {l : Nat} (hs : I s o X) (h1 : B ≤ l) (h2 : ¬ o l) (ob : Obj) : I s o (X.putObj l ob) :=
  h s o X _ (some l) hs (grownBy_putObj' X l ob) fun r e => by injection e with e; subst e; exact ⟨h1, h2⟩
theorem FarO.lay (h : FarO B I) {s : β} (hs : I s o X) (ob : Obj) : I s o (X.alloc ob) := h s o X _ none hs (World.grownBy_alloc X ob none) fun r e => by cases e
theorem FarO.below (h : FarO B I) {s : β} (hs : I s o X) (hb : Below X.heap.size X Y) : I s o Y := h s o X Y none hs (grown_below hb) fun r e => by cases e
theorem SinceO.refl (B : Nat) (o : (Nat → Prop)) (X : World) : SinceO B o X X := ⟨Nat.le_refl _, fun _ _ _ _ => rfl⟩
theorem SinceO.below (hb : Below X.heap.size X Y) : SinceO B o X Y := ⟨hb.size, fun b _ h2 _ => hb.block b h2⟩
theorem SinceO.less {B' : Nat} (h : SinceO B o X Y) (hB : B ≤ B') : SinceO B' o X Y := ⟨h.1, fun b h1 h2 => h.2 b (by omega) h2⟩
theorem SinceO.trans (h : SinceO B o X Y) (hf : FreshO o o' X) (h' : SinceO B o' Y Z) : SinceO B o X Z := ⟨Nat.le_trans h.1 h'.1, fun b h1 h2 h3 => (h'.2 b h1 (by have := h.1; omega) (fun e => (hf b e).elim h3 (fun e => by omega))).trans (h.2 b h1 h2 h3)⟩
theorem SinceO.trans_ (h : SinceO B o X Y) (h' : SinceO B o Y Z) : SinceO B o X Z := h.trans (FreshO.refl _ _) h'
theorem FreshO.trans (h : FreshO o o' X) (hs : X.heap.size ≤ Y.heap.size) (h' : FreshO o' o'' Y) : FreshO o o'' X := fun b e => (h' b e).elim (fun e => h b e) fun e => .inr (by omega)
theorem FreshO.later (h : FreshO o o' Y) (hs : X.heap.size ≤ Y.heap.size) : FreshO o o' X := fun b e => (h b e).imp id fun e => by omega
theorem FreshO.ne (h : FreshO o o' X) {b : Nat} (hb : b < X.heap.size) (hne : ¬ o b) : ¬ o' b := fun e => (h b e).elim hne fun e => by omega
theorem SinceO.blk {g : Nat} {t : TypeId} {cs : Array Value} (h : SinceO B o X Y) (hb : Blk X g t cs) (hg : B ≤ g) (hne : ¬ o g) : Blk Y g t cs := (h.2 g hg hb.lt hne).trans hb
theorem SinceO.keep {B' k : Nat} (h : SinceO B o X Y) (hB : B ≤ B') (hk : B' + k ≤ X.heap.size) (ho : ∀ b, o b → b < B' ∨ B' + k ≤ b) : Keep B' k X Y :=
  ⟨h.1, fun b h1 h2 => h.2 b (by omega) (by omega) (fun e => by have := ho b e; omega)⟩
end

def SeqT {α : Type} (F : Fence) (n : Nat) (P : Program) (gf : Nat) (lb : Array Value) (encs : α → Array Value) (Ok : List α → α → World → Prop) (Kp : World → World → Prop) (S Sp : List α → Prop) (N : Nat) (w : World) : Prop :=
  ∀ (l : Nat) (J Jx : List α → (Nat → Prop) → World → Prop) (W : World) (o₀ : (Nat → Prop)), Below w.heap.size w W → (∀ b, o₀ b → b < W.heap.size) → FarO W.heap.size J → FarO W.heap.size Jx → (∀ s o X, J s o X → RowO o X) → (∀ s o X, Jx s o X → RowO o X) →
    (∀ pre x o W1, J pre o W1 → Ok pre x W1 → pre.length < N → W.heap.size ≤ W1.heap.size → YieldAt F (n - 1) P l (encs x) W1 fun e W' => ∃ o', FreshO o o' W1 ∧ SinceO W.heap.size o W1 W' ∧
      ((e = .returned (.bool true) ∧ J (pre ++ [x]) o' W' ∧ Kp W1 W') ∨ (e = .returned (.bool false) ∧ Jx (pre ++ [x]) o' W' ∧ Kp W1 W'))) →
    J [] o₀ W →
    CallsIn F n P gf (#[.func (.yield l) #[] #[]] ++ lb) W fun e W' => (∃ v, e = .returned v) ∧ ∃ o', FreshO o₀ o' W ∧ ((∃ xs, S xs ∧ J xs o' W') ∨ (∃ pre, Sp pre ∧ Jx pre o' W'))

def postT {α : Type} (B : Nat) (Kp : World → World → Prop) (I : List α → (Nat → Prop) → World → Prop) (Ix : Code → List α → (Nat → Prop) → World → Prop) (xs : List α) (o : (Nat → Prop)) (W : World) : Exit → Act → World → Prop
  | .normal, _, W' => ∃ o', FreshO o o' W ∧ SinceO B o W W' ∧ Kp W W' ∧ I xs o' W'
  | .ret, _, W' => ∃ o', FreshO o o' W ∧ SinceO B o W W' ∧ Kp W W' ∧ Ix .ret xs o' W'
  | .exit id, _, W' => ∃ o', FreshO o o' W ∧ SinceO B o W W' ∧ Kp W W' ∧ Ix (.exit id) xs o' W'
  | .goto t, _, W' => ∃ o', FreshO o o' W ∧ SinceO B o W W' ∧ Kp W W' ∧ Ix (.goto t) xs o' W'
  | .panic _, _, _ => False
  | .outgrown, _, _ => False
/-- The loop's two blocks lie so, and are not the body's row. -/
def HeldO (rec : LoopState → Option Code → Loop) (D : Nat) (st : LoopState) (pe : Option Code) (o : (Nat → Prop)) (X : World) : Prop := Held rec D st pe X ∧ ¬ o D ∧ ¬ o (D + 1)
theorem _root_.Go.Proofs.YtfihlelhpmjpaaaGreatDoor.Held.lt0T {rec : LoopState → Option Code → Loop} {D : Nat} {st : LoopState} {pe : Option Code} {X : World} (h : Held rec D st pe X) : D < X.heap.size := by have := h.lt; omega
theorem HeldO.since {rec : LoopState → Option Code → Loop} {D B : Nat} {st : LoopState} {pe : Option Code} {X Y : World} {o o' : (Nat → Prop)} (h : HeldO rec D st pe o X) (hk : SinceO B o X Y) (hf : FreshO o o' X) (h1 : B ≤ D) : HeldO rec D st pe o' Y :=
  ⟨⟨(hk.2 _ (by omega) h.1.lt h.2.2).trans h.1.1, (hk.2 _ h1 h.1.lt0T h.2.1).trans h.1.2⟩, hf.ne h.1.lt0T h.2.1, hf.ne h.1.lt h.2.2⟩
theorem held_farO (rec : LoopState → Option Code → Loop) (D : Nat) (st : LoopState) (pe : Option Code) {β : Type} : FarO (D + 2) (fun (_ : β) o W => HeldO rec D st pe o W) := fun _ o X Y _ hs hg hr =>
  ⟨⟨(hg.block _ hs.1.lt (fun e => by have := (hr _ e.symm).1; omega)).trans hs.1.1, (hg.block D hs.1.lt0T (fun e => by have := (hr _ e.symm).1; omega)).trans hs.1.2⟩, hs.2⟩
theorem HeldO.turn {rec : LoopState → Option Code → Loop} {D : Nat} {st : LoopState} {pe : Option Code} {o : (Nat → Prop)} {X : World} (h : HeldO rec D st pe o X) (st' : LoopState) (pe' : Option Code) : HeldO rec D st' pe' o (X.putObj (D + 1) (.loop (rec st' pe'))) := ⟨h.1.turn st' pe', h.2⟩

theorem wpIn_rangeT {α : Type} {F : Fence} {n : Nat} {P : Program} {g : Operand} {ps : Array Tmp} {assign body : Code} {Q : Exit → Act → World → Prop} {a : Act} {w : World}
    (hro : F.round = none) (h1 : 1 ≤ n) {gf : Nat} {lb : Array Value} (hg : a.eval g = .func (.func gf) #[] lb) (hFg : F.fn gf) (eg : ∀ args w, (callFunc gf args).run P w = .ok (.enter gf args) w)
    {encs : α → Array Value} {Ok : List α → α → World → Prop} {Kp : World → World → Prop} {S Sp : List α → Prop} {N : Nat} {w0 : World} (hseq : SeqT F (n - 1) P gf lb encs Ok Kp S Sp N w0)
    (hKt : ∀ {A B C : World}, Kp A B → Kp B C → Kp A C) (hKb : ∀ (W : World) (l : Nat) (ob : Obj), w.heap.size ≤ l → l < W.heap.size → (∃ r, W.heap[l]? = some (.loop r)) → Kp W (W.putObj l ob)) (hb0 : Below w0.heap.size w0 w) (hps : ∀ x, (encs x).size = ps.size)
    (I : List α → (Nat → Prop) → World → Prop) (Ix : Code → List α → (Nat → Prop) → World → Prop) (hI : FarO w.heap.size I) (hIx : ∀ c, FarO w.heap.size (Ix c)) (o₀ : (Nat → Prop)) (ho₀ : ∀ b, o₀ b → b < w.heap.size) (h0 : I [] o₀ w)
    (Ax : List α → α → (Nat → Prop) → Act → World → Prop) (hAx : ∀ (pre : List α) (x : α) (o : (Nat → Prop)) (a' : Act) (W : World) (l : Nat) (ob : Obj) (r : Loop), W.heap[l]? = some (.loop r) → w.heap.size ≤ l → ¬ o l → Ax pre x o a' W → Ax pre x o a' (W.putObj l ob))
    (hassign : ∀ (l : Nat) (pre : List α) (x : α) (o : (Nat → Prop)) (W : World) (K : Act → World → Prop), w.heap.size ≤ W.heap.size → (∀ b, o b → b < W.heap.size) → I pre o W → Ok pre x W → (∀ a' W', SinceO w.heap.size o W W' → Kp W W' → I pre o W' → Ax pre x o a' W' → K a' W') →
      assign.wpIn (F.inRound l) (n - 1 - 1) P (Exit.then K (fun _ _ _ => False)) { tmps := (ps.zip (encs x)).foldl (fun t (p, v) => t.setIfInBounds p v) a.tmps, defers := [] } W)
    (hrow : ∀ pre o W, I pre o W → RowO o W) (hrowx : ∀ c pre o W, Ix c pre o W → RowO o W)
    (hbody : ∀ (l : Nat) (pre : List α) (x : α) (o : (Nat → Prop)) (a' : Act) (W : World), w.heap.size ≤ W.heap.size → I pre o W → Ax pre x o a' W → pre.length < N →
      body.wpIn (F.inRound l) (n - 1 - 1) P (postT w.heap.size Kp I Ix (pre ++ [x]) o W) a' W)
    (hdone : ∀ (D : Nat) (xs : List α) (o : (Nat → Prop)) (W : World), w.heap.size ≤ D → FreshO o₀ o w → S xs → I xs o W → W.heap[D]? = some (.deferred (some [])) → ¬ o D → Q .normal { a with defers := { target := .collected D, args := #[] } :: a.defers } W)
    (hstop : ∀ (D : Nat) (c : Code) (pre : List α) (o : (Nat → Prop)) (W : World), w.heap.size ≤ D → FreshO o₀ o w → Sp pre → Ix c pre o W → W.heap[D]? = some (.deferred (some [])) → ¬ o D → c.wpIn F n P Q { a with defers := { target := .collected D, args := #[] } :: a.defers } W) :
    (Code.rangeFunc g ps assign body).wpIn F n P Q a w := by
  refine wpIn_rangeFunc fun fn hfn => ?_
  rw [hro]
  obtain ⟨rec, hrec⟩ : ∃ rec : LoopState → Option Code → Loop, rec = fun st pe => { state := st, pending := pe, fn, tmps := a.tmps, params := ps, assign, body, defers := w.heap.size } := ⟨_, rfl⟩
  obtain ⟨W1, hW1⟩ : ∃ W1, (w.alloc (.deferred (some []))).alloc (.loop (rec .ready none)) = W1 := ⟨_, rfl⟩
  have s1 : W1.heap.size = w.heap.size + 2 := by rw [← hW1]; simp
  have n0 : ¬ o₀ w.heap.size := fun e => by have := ho₀ _ e; omega
  have n1 : ¬ o₀ (w.heap.size + 1) := fun e => by have := ho₀ _ e; omega
  have H1 : HeldO rec w.heap.size .ready none o₀ W1 := by
    rw [← hW1]
    refine ⟨⟨?_, (Below.heap_alloc _ _ _ (by simp)).trans (World.alloc_heap_new w _)⟩, n0, n1⟩
    have := World.alloc_heap_new (w.alloc (.deferred (some []))) (.loop (rec .ready none))
    rwa [World.size_alloc] at this
  have I1 : I [] o₀ W1 := by rw [← hW1]; exact hI.lay (hI.lay h0 _) _
  have B1 : Below w0.heap.size w0 W1 := by
    rw [← hW1]; exact hb0.trans ((((Below.refl _ w).alloc (Nat.le_refl _) _).alloc (by simp) _).mono hb0.size)
  refine ⟨w.heap.size + 1, [{ target := .collected w.heap.size, args := #[] }], W1, { target := .fn (.func gf) lb, args := #[.func (.yield (w.heap.size + 1)) #[] #[]] }, W1, gf,
    #[.func (.yield (w.heap.size + 1)) #[] #[]] ++ lb, W1, ?_, ?_, ?_, ?_, fun _ => h1, ?_⟩
  · rw [← hW1, hrec]; exact run_enterLoop_outer _ _ _ _ _
  · simp only [resolve, hg]
    simp [go_sem]
  · intro f' hf'
    simp [Target.leads] at hf'
    exact hf' ▸ hFg
  · simp [invoke, go_sem, eg]
  have hI' : FarO W1.heap.size I := hI.less (by omega)
  have hH := fun st pe => (s1 ▸ held_farO rec w.heap.size st pe (β := List α) : FarO W1.heap.size _)
  refine (hseq (w.heap.size + 1) (fun pre o W => I pre o W ∧ HeldO rec w.heap.size .ready none o W) (fun pre o W => ∃ c, Ix c pre o W ∧ HeldO rec w.heap.size .done (some c) o W) W1 o₀ B1 (fun b e => by have := ho₀ b e; omega) (hI'.and (hH _ _))
    (fun s o X Y row hs hgr hr => by
      obtain ⟨c, hc, hh⟩ := hs
      exact ⟨c, (hIx c).less (by omega) s o X Y row hc hgr hr, hH _ _ s o X Y row hh hgr hr⟩) (fun s o X h => hrow _ _ _ h.1) (fun s o X h => h.elim fun c h => hrowx _ _ _ _ h.1) ?_ ⟨I1, H1⟩).mono ?_
  · rintro pre x o W ⟨hi, hh⟩ hok hlen hsz
    rw [s1] at hsz
    have hy := run_yield (P := P) (args := encs x) hh.1.1 (by rw [hrec]; exact hps x)
    rw [hrec] at hy
    refine ⟨fn, _, assign, body, hy, roundIn_of_wpIn hfn (hassign _ pre x o W _ (by omega) (RowO.lt (hrow _ _ _ hi)) hi hok ?_)⟩
    intro a' Wa hka hpa hia hax
    have ha := hh.since hka (FreshO.refl _ _) (Nat.le_refl _)
    have hb := ha.turn .busy none
    have hbegin := run_beginRound (P := P) ha.1.1 (by rw [hrec])
    have ebusy : ({ rec .ready none with state := .busy } : Loop) = rec .busy none := by rw [hrec]
    rw [ebusy] at hbegin
    refine ⟨_, hbegin, ?_⟩
    have hsa := hka.1
    have hsb : (Wa.putObj (w.heap.size + 1) (.loop (rec .busy none))).heap.size = Wa.heap.size := by simp [World.putObj]
    refine wpIn_mono (hbody _ pre x o a' _ (by rw [hsb]; omega) (hI.put hia (by omega) ha.2.2 _) (hAx _ _ _ _ _ _ _ _ ha.1.1 (by omega) ha.2.2 hax) hlen) ?_
    have fin : ∀ (jump : Option Code) (o' : (Nat → Prop)) (W3 : World), FreshO o o' (Wa.putObj (w.heap.size + 1) (.loop (rec .busy none))) → SinceO w.heap.size o (Wa.putObj (w.heap.size + 1) (.loop (rec .busy none))) W3 →
        (Instr.endRound (w.heap.size + 1) jump).run P W3 = .ok (.bool jump.isNone) (W3.putObj (w.heap.size + 1) (.loop (rec (if jump.isNone then .ready else .done) jump))) ∧
        HeldO rec w.heap.size (if jump.isNone then .ready else .done) jump o' (W3.putObj (w.heap.size + 1) (.loop (rec (if jump.isNone then .ready else .done) jump))) ∧ HeldO rec w.heap.size .busy none o' W3 := fun jump o' W3 hf hk3 => by
      have h3 := hb.since hk3 hf (Nat.le_refl _)
      have he := run_endRound (P := P) jump h3.1.1
      have e2 : ({ rec .busy none with state := if jump.isNone then .ready else .done, pending := jump } : Loop) = rec (if jump.isNone then .ready else .done) jump := by rw [hrec]
      rw [e2] at he
      exact ⟨he, h3.turn _ _, h3⟩
    have putFar : ∀ (o : (Nat → Prop)) (V : World) (ob : Obj), SinceO W1.heap.size o V (V.putObj (w.heap.size + 1) ob) := fun o V ob => ⟨by simp [World.putObj], fun b h2 _ _ => World.putObj_heap_other (by omega)⟩
    have keepAll : ∀ (ob : Obj) (o' : (Nat → Prop)) (W3 : World), SinceO w.heap.size o (Wa.putObj (w.heap.size + 1) (.loop (rec .busy none))) W3 → SinceO W1.heap.size o W (W3.putObj (w.heap.size + 1) ob) := fun ob o' W3 hk3 =>
      (((hka.less (by omega)).trans_ (putFar o Wa _)).trans_ (hk3.less (by omega))).trans_ (putFar o W3 _)
    intro e a3 W3 hp
    cases e with
    | normal =>
      obtain ⟨o', hf3, hk3, hp3, hi3⟩ := hp
      obtain ⟨he, h4, h5⟩ := fin none o' W3 hf3 hk3
      exact ⟨_, _, he, o', hf3.later (by rw [hsb]; exact hsa), keepAll _ o' _ hk3, .inl ⟨rfl, ⟨hI.put hi3 (by omega) h5.2.2 _, h4⟩, hKt hpa (hKt (hKb _ _ _ (by omega) ha.1.lt ⟨_, ha.1.1⟩) (hKt hp3 (hKb _ _ _ (by omega) h5.1.lt ⟨_, h5.1.1⟩)))⟩⟩
    | ret =>
      obtain ⟨o', hf3, hk3, hp3, hi3⟩ := hp
      obtain ⟨he, h4, h5⟩ := fin (some .ret) o' W3 hf3 hk3
      exact ⟨_, _, he, o', hf3.later (by rw [hsb]; exact hsa), keepAll _ o' _ hk3, .inr ⟨rfl, ⟨.ret, (hIx _).put hi3 (by omega) h5.2.2 _, h4⟩, hKt hpa (hKt (hKb _ _ _ (by omega) ha.1.lt ⟨_, ha.1.1⟩) (hKt hp3 (hKb _ _ _ (by omega) h5.1.lt ⟨_, h5.1.1⟩)))⟩⟩
    | exit id =>
      obtain ⟨o', hf3, hk3, hp3, hi3⟩ := hp
      obtain ⟨he, h4, h5⟩ := fin (some (.exit id)) o' W3 hf3 hk3
      exact ⟨_, _, he, o', hf3.later (by rw [hsb]; exact hsa), keepAll _ o' _ hk3, .inr ⟨rfl, ⟨.exit id, (hIx _).put hi3 (by omega) h5.2.2 _, h4⟩, hKt hpa (hKt (hKb _ _ _ (by omega) ha.1.lt ⟨_, ha.1.1⟩) (hKt hp3 (hKb _ _ _ (by omega) h5.1.lt ⟨_, h5.1.1⟩)))⟩⟩
    | goto t =>
      obtain ⟨o', hf3, hk3, hp3, hi3⟩ := hp
      obtain ⟨he, h4, h5⟩ := fin (some (.goto t)) o' W3 hf3 hk3
      exact ⟨_, _, he, o', hf3.later (by rw [hsb]; exact hsa), keepAll _ o' _ hk3, .inr ⟨rfl, ⟨.goto t, (hIx _).put hi3 (by omega) h5.2.2 _, h4⟩, hKt hpa (hKt (hKb _ _ _ (by omega) ha.1.lt ⟨_, ha.1.1⟩) (hKt hp3 (hKb _ _ _ (by omega) h5.1.lt ⟨_, h5.1.1⟩)))⟩⟩
    | panic ch => exact hp.elim
    | outgrown => exact hp.elim
  · rintro e W2 ⟨⟨v, rfl⟩, o', hfo, (⟨xs, hS, hi, hh⟩ | ⟨pre, hSp, c, hc, hh⟩)⟩
    · have he := run_endLoop (P := P) hh.1.1 (by rw [hrec]; simp)
      rw [show (rec .ready none).pending = none by rw [hrec]] at he
      exact ⟨none, _, he, hdone _ xs o' _ (Nat.le_refl _) (hfo.later (by omega)) hS (hI.put hi (by omega) hh.2.2 _) ((World.putObj_heap_other (by omega)).trans hh.1.2) hh.2.1⟩
    · have he := run_endLoop (P := P) hh.1.1 (by rw [hrec]; simp)
      rw [show (rec .done (some c)).pending = some c by rw [hrec]] at he
      exact ⟨some c, _, he, hstop _ c pre o' _ (Nat.le_refl _) (hfo.later (by omega)) hSp ((hIx c).put hc (by omega) hh.2.2 _) ((World.putObj_heap_other (by omega)).trans hh.1.2) hh.2.1⟩

/-- The same, where the variable lies in a block of its own, anew each round. -/
theorem wpIn_rangeBoxT {α : Type} {F : Fence} {n : Nat} {P : Program} {g : Operand} {ps : Array Tmp} {assign body : Code} {Q : Exit → Act → World → Prop} {a : Act} {w : World}
    (hro : F.round = none) (h1 : 1 ≤ n) {gf : Nat} {lb : Array Value} (hg : a.eval g = .func (.func gf) #[] lb) (hFg : F.fn gf) (eg : ∀ args w, (callFunc gf args).run P w = .ok (.enter gf args) w)
    {encs : α → Array Value} {Ok : List α → α → World → Prop} {Kp : World → World → Prop} {S Sp : List α → Prop} {N : Nat} {w0 : World} (hseq : SeqT F (n - 1) P gf lb encs Ok Kp S Sp N w0)
    (hKt : ∀ {A B C : World}, Kp A B → Kp B C → Kp A C) (hKb : ∀ (W : World) (l : Nat) (ob : Obj), w.heap.size ≤ l → l < W.heap.size → (∃ r, W.heap[l]? = some (.loop r)) → Kp W (W.putObj l ob)) (hb0 : Below w0.heap.size w0 w) (hps : ∀ x, (encs x).size = ps.size)
    (I : List α → (Nat → Prop) → World → Prop) (Ix : Code → List α → (Nat → Prop) → World → Prop) (hI : FarO w.heap.size I) (hIx : ∀ c, FarO w.heap.size (Ix c)) (o₀ : (Nat → Prop)) (ho₀ : ∀ b, o₀ b → b < w.heap.size) (h0 : I [] o₀ w)
    (Pr : α → Prop) (hPr : ∀ pre x W, Ok pre x W → Pr x) (t : TypeId) (cs : α → Array Value) (a₁ : α → Nat → Act)
    (hassign : ∀ (l : Nat) (pre : List α) (x : α) (o : (Nat → Prop)) (W : World) (K : Act → World → Prop), w.heap.size ≤ W.heap.size → (∀ b, o b → b < W.heap.size) → I pre o W → Ok pre x W → (∀ Bx W', SinceO w.heap.size o W W' → Kp W W' → I pre o W' → Blk W' Bx t (cs x) → ¬ o Bx → w.heap.size ≤ Bx → K (a₁ x Bx) W') →
      assign.wpIn (F.inRound l) (n - 1 - 1) P (Exit.then K (fun _ _ _ => False)) { tmps := (ps.zip (encs x)).foldl (fun t (p, v) => t.setIfInBounds p v) a.tmps, defers := [] } W)
    (hrow : ∀ pre o W, I pre o W → RowO o W) (hrowx : ∀ c pre o W, Ix c pre o W → RowO o W)
    (hbody : ∀ (l : Nat) (pre : List α) (x : α) (o : (Nat → Prop)) (Bx : Nat) (W : World), w.heap.size ≤ W.heap.size → I pre o W → Blk W Bx t (cs x) → ¬ o Bx → w.heap.size ≤ Bx → Pr x → pre.length < N →
      body.wpIn (F.inRound l) (n - 1 - 1) P (postT w.heap.size Kp I Ix (pre ++ [x]) o W) (a₁ x Bx) W)
    (hdone : ∀ (D : Nat) (xs : List α) (o : (Nat → Prop)) (W : World), w.heap.size ≤ D → FreshO o₀ o w → S xs → I xs o W → W.heap[D]? = some (.deferred (some [])) → ¬ o D → Q .normal { a with defers := { target := .collected D, args := #[] } :: a.defers } W)
    (hstop : ∀ (D : Nat) (c : Code) (pre : List α) (o : (Nat → Prop)) (W : World), w.heap.size ≤ D → FreshO o₀ o w → Sp pre → Ix c pre o W → W.heap[D]? = some (.deferred (some [])) → ¬ o D → c.wpIn F n P Q { a with defers := { target := .collected D, args := #[] } :: a.defers } W) :
    (Code.rangeFunc g ps assign body).wpIn F n P Q a w :=
  wpIn_rangeT hro h1 hg hFg eg hseq hKt hKb hb0 hps I Ix hI hIx o₀ ho₀ h0 (fun _ x o a' W => ∃ Bx, Blk W Bx t (cs x) ∧ ¬ o Bx ∧ w.heap.size ≤ Bx ∧ Pr x ∧ a' = a₁ x Bx)
    (fun _ x o a' W l ob r hl _ _ ⟨Bx, hb, hne, hle, hp, e⟩ => ⟨Bx, (World.putObj_heap_other (fun e2 => by unfold Blk at hb; rw [e2, hl] at hb; cases hb)).trans hb, hne, hle, hp, e⟩)
    (fun l pre x o W K hs hol hi hok hK => hassign l pre x o W K hs hol hi hok fun Bx W' h2 h3 h4 h5 h6 h7 => hK _ _ h2 h3 h4 ⟨Bx, h5, h6, h7, hPr _ _ _ hok, rfl⟩) hrow hrowx
    (fun l pre x o a' W hs hi ⟨Bx, hb, hne, hle, hp, e⟩ hlt => by subst e; exact hbody l pre x o Bx W hs hi hb hne hle hp hlt) hdone hstop
end Go.Proofs.YtfihlelhpmjpaaaGreatDoor.T

namespace Go.Proofs.YtfihlelhpmjpaaaGreatDoor.T
open Go.RowKit Go.Shelf Go.Proofs.YtfihlelhpmjpaaaGreatDoor.C Go.Proofs.YtfihlelhpmjpaaaGreatDoor.E
set_option linter.unusedSimpArgs false
set_option linter.unusedVariables false
attribute [local go_sem] Oper.semAt_some

theorem walk1_inT (n : Nat) (hn : 1 ≤ n) (l g h lo m p : Nat) (hp : 0 < p) (hp2 : p ≤ 1000) (a s : Int) (a0 : 0 ≤ a) (a1 : a < p) (s0 : 0 ≤ s) (s1 : s < p) (hh1 : lo ≤ h) (hh : h < lo + m) (W : World) (hnW : lo + m ≤ W.heap.size) (J Jx : List Int → (Nat → Prop) → World → Prop) (o₀ : (Nat → Prop)) (ho₀ : ∀ b, o₀ b → b < W.heap.size)
    (hJ : FarO W.heap.size J)
    (hY : ∀ pre (x : Int) o W1, J pre o W1 → (0 ≤ x ∧ x < (p : Int)) ∧ pre ++ [x] <+: walkL p a s → pre.length < p → W.heap.size ≤ W1.heap.size → YieldAt Fence.wide (n - 1) Tryz.prog l #[.int .i64 x] W1 fun e W' => ∃ o', FreshO o o' W1 ∧ SinceO W.heap.size o W1 W' ∧ ((e = .returned (.bool true) ∧ J (pre ++ [x]) o' W' ∧ Keep lo m W1 W') ∨ (e = .returned (.bool false) ∧ Jx (pre ++ [x]) o' W' ∧ Keep lo m W1 W')))
    (bg : Blk W g 207 #[.int .i64 p, .int .i64 a]) (bh : Blk W h 205 #[.int .i64 s]) (h0 : J [] o₀ W) :
    CallsIn Fence.wide n Tryz.prog 232 #[.func (.yield l) #[] #[], .pointer (some ⟨g, 0, none⟩), .pointer (some ⟨h, 0, none⟩)] W fun e W' => (∃ v, e = .returned v) ∧ ∃ o', FreshO o₀ o' W ∧ ((∃ ys, ys = walkL p a s ∧ J ys o' W') ∨ (∃ pre, pre <+: walkL p a s ∧ Jx pre o' W')) := by
  have c0 : W.cell? ⟨g, 0, none⟩ = some (.int .i64 p) := bg.cell 0
  have c1 : W.cell? ⟨g, 1, none⟩ = some (.int .i64 a) := bg.cell 1
  refine callsIn_of_wp Tryz.func232 rfl trivial ?_ rfl
  simp only [Tryz.ntmps232, List.size_toArray, List.length_cons, List.length_nil, Nat.reduceAdd, Nat.reduceSub, Array.replicate_succ, Array.replicate_zero, List.push_toArray, List.append_toArray, List.nil_append, List.cons_append]
  refine wpIn_scope_wide ?_
  gi_wp2
  refine wpIn_label ?_
  obtain ⟨W0, hW0⟩ : ∃ W0, W.alloc (.cells #[.int .i64 p, .int .i64 a] 207) = W0 := ⟨_, rfl⟩
  have bD : Blk W0 W.heap.size 207 #[.int .i64 p, .int .i64 (walkAt p a s 0)] := by rw [← hW0, walkAt_zero p a s a0 (by omega)]; exact Blk.new W _ _
  have hJ0 : J [] o₀ W0 := by rw [← hW0]; exact hJ.lay h0 _
  have hB0 : Keep lo m W W0 := by rw [← hW0]; exact Keep.alloc hnW _
  rw [hW0]
  clear hW0
  have d0 : W0.cell? ⟨W.heap.size, 0, none⟩ = some (.int .i64 p) := bD.cell 0
  have d1 : W0.cell? ⟨W.heap.size, 1, none⟩ = some (.int .i64 (walkAt p a s 0)) := bD.cell 1
  gi_wp2
  clear d0 d1
  gi_loopw [8] (fun i wr => ∃ k : Nat, k ≤ p ∧ i = .int .i64 k ∧ Hid (∃ o, J ((walkL p a s).take k) o wr ∧ FreshO o₀ o W ∧ ¬ o W.heap.size) ∧ Hid (Blk wr W.heap.size 207 #[.int .i64 p, .int .i64 (walkAt p a s k)]) ∧ Keep lo m W wr) (fun i _ => p - (intOf i).toNat)
  case atStart => exact ⟨0, Nat.zero_le _, rfl, Lib.hid ⟨o₀, hJ0, FreshO.refl _ _, fun e => by have := ho₀ _ e; omega⟩, Lib.hid bD, hB0⟩
  case round =>
    obtain ⟨k, hk, rfl, HJ, HD, hB⟩ := hrel
    obtain ⟨o, hj, hfo, hno⟩ := HJ.out
    have HJ2 := Lib.hid hj
    by_cases hlt : k < p
    · have hdec : decide ((k : Int) < (p : Int)) = true := by simp; omega
      have HT := Lib.hid (walkL_next p a s k hlt)
      have hx := walkAt_lt p hp a s k
      have HN := Lib.hid (walkAt_next p a s k)
      have hD := HD.out
      have e0 : wr.cell? ⟨W.heap.size, 0, none⟩ = some (.int .i64 p) := hD.cell 0
      have e1 : wr.cell? ⟨W.heap.size, 1, none⟩ = some (.int .i64 (walkAt p a s k)) := hD.cell 1
      have hsz := hD.lt
      have HY := Lib.hid (hY _ (walkAt p a s k) o wr hj ⟨⟨hx.1, by omega⟩, by rw [← HT.out]; exact List.take_prefix _ _⟩ (by rw [List.length_take, walkL_len]; omega) (by omega))
      have HW := Lib.hid (fun V => with_any 234 _ plus_any enter_plus p (walkAt p a s k) s V (by omega) (by omega) hx.1 (by omega) s0 (by omega) (by omega) (by omega))
      clear hD HJ HJ2 hj
      simp only [HN.out] at HW
      generalize walkAt p a s k = x at *
      generalize hyy : walkAt p a s (k + 1) = y at *
      have HYY := Lib.hid hyy
      clear hyy
      obtain ⟨fn, tmps, assign, body, hy, hR⟩ := HY.out
      gi_wp2
      refine hR.mono ?_
      rintro e W3 ⟨o', hf3, hS3, (⟨rfl, hJ3, hk3⟩ | ⟨rfl, hJx3, _⟩)⟩
      all_goals have hfo' : FreshO o₀ o' W := hfo.trans (by omega) hf3
      all_goals have hno' : ¬ o' W.heap.size := fun e => (hf3 _ e).elim hno (fun e => by omega)
      · have hD3 : Blk W3 W.heap.size 207 #[.int .i64 p, .int .i64 x] := (hS3.2 W.heap.size (Nat.le_refl _) (by omega) hno).trans HD.out
        have hB3 := hB.trans hk3
        have g0 : W3.cell? ⟨W.heap.size, 0, none⟩ = some (.int .i64 p) := hD3.cell 0
        have g1 : W3.cell? ⟨W.heap.size, 1, none⟩ = some (.int .i64 x) := hD3.cell 1
        have g2 : W3.cell? ⟨h, 0, none⟩ = some (.int .i64 s) := (hB3.blk bh hh1 hh).one
        have hl3 := hD3.lt
        gi_wp2_with (refine ⟨trivial, ?_⟩; gi_at_call 233; refine (callsIn_wide.2 (HW.out _)).mono ?_; rintro e W4 ⟨rfl, hB4⟩; have hD4 := hD3.below hB4 hD3.lt; have i0 := hD4.cell 0; have i1 := hD4.cell 1; have j0 := hD4.frozen 0; have j1 := hD4.frozen 1; simp only [List.getElem?_toArray, List.getElem?_cons_zero, List.getElem?_cons_succ] at i0 i1)
        go_roundw
        case rel =>
          refine ⟨k + 1, by omega, by go_num, Lib.hid ?_, Lib.hid (by rw [HYY.out]; exact (hD4.set_ 0 _).set_ 1 _), ((hB3.trans (Keep.below hB4 (by have := hB3.1; omega))).trans (Keep.setFar _ hnW _)).trans (Keep.setFar _ hnW _)⟩
          rw [HT.out]
          exact ⟨o', hJ _ o' W3 _ (some W.heap.size) hJ3 (grown_set (grown_set (grown_below hB4) 0 _) 1 _) (fun r e => by cases e; exact ⟨Nat.le_refl _, hno'⟩), hfo', hno'⟩
        case measure => simp [intOf]; omega
      · gi_wp2
        rw [Exit.noGoto_normal]
        go_end0
        exact ⟨⟨_, rfl⟩, o', hfo', .inr ⟨_, by rw [← HT.out]; exact List.take_prefix _ _, hJx3⟩⟩
    · obtain rfl : k = p := by omega
      have hdec : decide ((k : Int) < (k : Int)) = false := by simp
      have HF : Hid (J (walkL k a s) o wr) := by have := HJ2.out; rwa [List.take_of_length_le (by rw [walkL_len]; omega)] at this
      gi_wp2
      rw [Exit.noGoto_normal]
      go_end0
      exact ⟨⟨_, rfl⟩, o, hfo, .inl ⟨_, rfl, HF.out⟩⟩

/-- What goes over the places zs of the prime p. -/
def WalkT (lo : Nat) (p : Int) (zs : List Int) (v : Value) (w : World) : Prop :=
  ∃ gf lb, v = .func (.func gf) #[] lb ∧ (∀ args W, (callFunc gf args).run Tryz.prog W = .ok (.enter gf args) W) ∧
    ∀ n, 1 ≤ n → SeqT Fence.wide n Tryz.prog gf lb (fun x : Int => #[.int .i64 x]) (fun pre x _ => (0 ≤ x ∧ x < p) ∧ pre ++ [x] <+: zs) (Keep lo (w.heap.size - lo)) (fun ys => ys = zs) (fun pre => pre <+: zs) zs.length w
theorem WalkT.less {lo lo' : Nat} {p : Int} {zs : List Int} {v : Value} {w : World} (h : WalkT lo p zs v w) (hl : lo' ≤ lo) (hw : lo ≤ w.heap.size) : WalkT lo' p zs v w := by
  obtain ⟨gf, lb, e, eg, hg⟩ := h
  exact ⟨gf, lb, e, eg, fun n hn l J Jx W o₀ hW ho₀ hJ hJx hr1 hr2 hY h0 => hg n hn l J Jx W o₀ hW ho₀ hJ hJx hr1 hr2 (fun pre x o W1 hj hok hl' hs => (hY pre x o W1 hj hok hl' hs).mono fun _ _ ⟨o', hf, hS, h⟩ => ⟨o', hf, hS, h.imp (fun ⟨h1, h2, h3⟩ => ⟨h1, h2, h3.less hl (by omega)⟩) (fun ⟨h1, h2, h3⟩ => ⟨h1, h2, h3.less hl (by omega)⟩)⟩) h0⟩
theorem walk_ofT (p a s : Int) (hf : Fine p [a]) (w : World) (h1 : -9223372036854775808 ≤ s) (h2 : s ≤ 9223372036854775807) :
    Calls Tryz.prog 181 #[.agg #[.int .i64 p, .int .i64 a], .int .i64 s] w fun e w' => ∃ v, e = .returned v ∧ WalkT w.heap.size p (walkN p a s) v w' ∧ Below w.heap.size w w' := by
  obtain ⟨hp, a0, a1⟩ := fine_one.1 hf
  have hb := prm_bounds hp
  rw [walkN_yes hf]
  obtain ⟨P, rfl⟩ : ∃ P : Nat, p = (P : Int) := ⟨p.toNat, by omega⟩
  refine (walk_any P (by omega) (by omega) a s w h1 h2).mono ?_
  rintro e w' ⟨g, h, rfl, bg, bh, hh, hB⟩
  refine ⟨_, rfl, ⟨_, _, rfl, enter_walk1, ?_⟩, hB⟩
  intro n hn l J Jx W o₀ hW ho₀ hJ hJx hr1 hr2 hY h0
  have hlt := bh.lt
  have hsz := hB.size
  refine walk1_inT n hn l g h w.heap.size (w'.heap.size - w.heap.size) P (by omega) (by omega) a (s % P) a0 (by omega) (Int.emod_nonneg _ (by omega)) (Int.emod_lt_of_pos _ (by omega)) hh (by omega) W (Nat.le_trans (by omega) hW.size) J Jx o₀ ho₀ hJ ?_ (bg.below hW bg.lt) (bh.below hW bh.lt) h0
  intro pre x o W1 hj hx hl hs
  exact hY pre x o W1 hj hx (by rw [Int.toNat_natCast, walkL_len]; exact hl) hs

set_option maxHeartbeats 1000000 in
theorem modWalk_anyT (p a s : Int) (hf : Fine p [a]) (w : World) (hL : Laid w) (h1 : -9223372036854775808 ≤ s) (h2 : s ≤ 9223372036854775807) :
    Calls Tryz.prog 125 #[.int .i64 p, .int .i64 a, .int .i64 s] w fun e w' => ∃ v, e = .returned v ∧ WalkT w.heap.size p (walkN p a s) v w' ∧ Below w.heap.size w w' := by
  have HA := Lib.hid (ask_one p a w hL)
  have HW := Lib.hid (fun W => walk_ofT p a s hf W h1 h2)
  have HF := Lib.hid hf
  clear hf
  go_enter Tryz.func125, Tryz.ntmps125
  go_wp2_with (first
    | (go_at_call 178; refine HA.out.mono ?_; rintro e w1 ⟨h1, _, hB⟩; obtain rfl := h1 HF.out)
    | (go_at_call 180; refine (sum_any _ _ _).mono ?_; rintro e w2 ⟨rfl, hB2⟩)
    | (go_at_call 181; refine (HW.out _).mono ?_; rintro e w3 ⟨v, rfl, hO, hB3⟩))
  go_ret
  exact ⟨_, rfl, hO.less (below_in (below_in ((Below.refl _ w).alloc (Nat.le_refl _) _) hB) hB2).size hB3.size, below_in (below_in (below_in ((Below.refl _ w).alloc (Nat.le_refl _) _) hB) hB2) hB3⟩
end Go.Proofs.YtfihlelhpmjpaaaGreatDoor.T

namespace Go.Proofs.YtfihlelhpmjpaaaGreatDoor.T
open Go.RowKit Go.Shelf Go.Maps Go.Proofs.YtfihlelhpmjpaaaGreatDoor.C Go.Proofs.YtfihlelhpmjpaaaGreatDoor.E
set_option linter.unusedSimpArgs false
set_option linter.unusedVariables false
attribute [local go_sem] Oper.semAt_some

/-- What goes over the rows that a walk comes to. -/
def RowsT (lo : Nat) (p : Int) (zs : List Int) (v : Value) (w : World) : Prop :=
  ∃ gf lb, v = .func (.func gf) #[] lb ∧ (∀ args W, (callFunc gf args).run Tryz.prog W = .ok (.enter gf args) W) ∧ (∀ W, (binOp .eql 139 v .nilFunc).run Tryz.prog W = .ok (.bool false) W) ∧
    ∀ n, 4 ≤ n → SeqT Fence.wide n Tryz.prog gf lb (fun x : Int => #[.int .i64 x]) (fun pre x _ => (0 ≤ x ∧ x < p - 1) ∧ pre ++ [x] <+: Rg.rowsF p zs) (Keep lo (w.heap.size - lo)) (fun ys => ys = Rg.rowsF p zs) (fun pre => pre <+: Rg.rowsF p zs) zs.length w
set_option maxRecDepth 100000 in
set_option maxHeartbeats 4000000 in
theorem rows1_inT (n : Nat) (hn : 4 ≤ n) (l g h lo N : Nat) (p : Int) (zs : List Int) (gf : Nat) (lb : Array Value) (w1 : World) (lo1 : Nat) (eg : ∀ args W, (callFunc gf args).run Tryz.prog W = .ok (.enter gf args) W)
    (hgo : ∀ n, 1 ≤ n → SeqT Fence.wide n Tryz.prog gf lb (fun x : Int => #[.int .i64 x]) (fun pre x _ => (0 ≤ x ∧ x < p) ∧ pre ++ [x] <+: zs) (Keep lo1 (w1.heap.size - lo1)) (fun ys => ys = zs) (fun pre => pre <+: zs) zs.length w1)
    (W : World) (hw1 : Below w1.heap.size w1 W) (hlo : lo ≤ lo1) (hl1 : lo1 ≤ w1.heap.size) (hN : w1.heap.size ≤ N) (hg : lo ≤ g ∧ g < N) (hh : lo ≤ h ∧ h < N) (hNW : N ≤ W.heap.size)
    (J Jx : List Int → (Nat → Prop) → World → Prop) (o₀ : (Nat → Prop)) (ho₀ : ∀ b, o₀ b → b < W.heap.size)
    (hJ : FarO W.heap.size J) (hJx : FarO W.heap.size Jx) (hr1 : ∀ s o X, J s o X → RowO o X) (hr2 : ∀ s o X, Jx s o X → RowO o X)
    (hY : ∀ pre x o W1, J pre o W1 → (0 ≤ x ∧ x < p - 1) ∧ pre ++ [x] <+: Rg.rowsF p zs → pre.length < zs.length → W.heap.size ≤ W1.heap.size → YieldAt Fence.wide (n - 1) Tryz.prog l #[.int .i64 x] W1 fun e W' => ∃ o', FreshO o o' W1 ∧ SinceO W.heap.size o W1 W' ∧ ((e = .returned (.bool true) ∧ J (pre ++ [x]) o' W' ∧ Keep lo (N - lo) W1 W') ∨ (e = .returned (.bool false) ∧ Jx (pre ++ [x]) o' W' ∧ Keep lo (N - lo) W1 W')))
    (bg : Blk W g 139 #[.func (.func gf) #[] lb]) (bh : Blk W h 3 #[.int .i64 (p - 1)]) (h0 : J [] o₀ W) :
    CallsIn Fence.wide n Tryz.prog 215 #[.func (.yield l) #[] #[], .pointer (some ⟨g, 0, none⟩), .pointer (some ⟨h, 0, none⟩)] W fun e W' => (∃ v, e = .returned v) ∧ ∃ o', FreshO o₀ o' W ∧ ((∃ ys, ys = Rg.rowsF p zs ∧ J ys o' W') ∨ (∃ pre, pre <+: Rg.rowsF p zs ∧ Jx pre o' W')) := by
  refine callsIn_of_wp_marks Tryz.func215 rfl trivial ?_ rfl
  simp only [Tryz.ntmps215, List.size_toArray, List.length_cons, List.length_nil, Nat.reduceAdd, Nat.reduceSub, Array.replicate_succ, Array.replicate_zero, List.push_toArray, List.append_toArray, List.nil_append, List.cons_append]
  obtain ⟨W0, hW0⟩ : ∃ W0, W.alloc (.cells #[.func (.yield l) #[] #[]] 28) = W0 := ⟨_, rfl⟩
  have hB0 : Below W.heap.size W W0 := by rw [← hW0]; exact below_one W _
  have bY : Blk W0 W.heap.size 28 #[.func (.yield l) #[] #[]] := by rw [← hW0]; exact Blk.new W _ _
  have s0 : W0.heap.size = W.heap.size + 1 := by rw [← hW0]; simp
  have bg0 := (bg.below hB0 bg.lt).one
  have bh0 := bh.below hB0 bh.lt
  have hJ0 := hJ.below h0 hB0
  have S0 := Lib.hid s0
  clear s0
  gi_wp2_with fail
  refine wpIn_scope_wide ?_
  gi_wp2_with fail
  refine wpIn_label ?_
  gi_wp2_with fail
  clear hW0 bg0
  have hBw := hw1.trans (hB0.mono hw1.size)
  refine wpIn_rangeT rfl (by omega) (gf := gf) (lb := lb) rfl trivial eg (hgo _ (by omega)) (fun h h' => h.trans h') (fun X l' ob hl' hlX _ => Keep.putFar X (by have := S0.out; omega) ob) hBw (fun _ => rfl)
    (fun pre o X => J (Rg.rowsF p pre) o X ∧ FreshO o₀ o W0 ∧ Blk X W.heap.size 28 #[.func (.yield l) #[] #[]] ∧ Blk X h 3 #[.int .i64 (p - 1)])
    (fun c pre o X => c = .exit 0 ∧ FreshO o₀ o W0 ∧ Jx (Rg.rowsF p pre) o X)
    ?hI ?hIx o₀ (fun b e => by have := ho₀ b e; have := S0.out; omega) ⟨hJ0, FreshO.refl _ _, bY, bh0⟩ (fun pre x o a' X => a' = ({ tmps := #[.func (.yield l) #[] #[], .pointer (some ⟨g, 0, none⟩), .pointer (some ⟨h, 0, none⟩), .pointer (some ⟨W.heap.size, 0, none⟩), .int .i64 x, .func (.func gf) #[] lb, .int .i64 x, undef, undef, undef, undef, undef, undef, undef, undef, undef], defers := [] } : Act) ∧ (0 ≤ x ∧ x < p) ∧ pre ++ [x] <+: zs) ?hAx ?assign ?row1 ?row2 ?body ?done ?stop
  case assign =>
    intro l' pre x o X K hsz ho hI hok hK
    gi_wp2
    exact hK _ _ (SinceO.refl _ _ _) (Keep.refl _ _ _) hI ⟨rfl, hok⟩
  case hI =>
    rintro s o X Y row ⟨h1, h2, h3, h4⟩ hgr hr
    have s0 := S0.out
    exact ⟨hJ _ o X Y row h1 hgr (fun r e => ⟨by have := (hr r e).1; omega, (hr r e).2⟩), h2, h3.grown hgr (fun e => by have := (hr _ e.symm).1; omega), h4.grown hgr (fun e => by have := (hr _ e.symm).1; omega)⟩
  case hIx =>
    rintro c s o X Y row ⟨h1, h2, h3⟩ hgr hr
    have s0 := S0.out
    exact ⟨h1, h2, hJx _ o X Y row h3 hgr (fun r e => ⟨by have := (hr r e).1; omega, (hr r e).2⟩)⟩
  case hAx => exact fun _ _ _ _ _ _ _ _ _ _ _ h => h
  case row1 => exact fun _ _ _ h => hr1 _ _ _ h.1
  case row2 => exact fun _ _ _ _ h => hr2 _ _ _ h.2.2
  case body =>
    rintro l' pre x o a' X hsz ⟨hj, hfo, bY, bH⟩ ⟨rfl, ⟨x0, x1⟩, hpx⟩ hln
    have s0 := S0.out
    have cY := bY.one
    have cH := bH.one
    have hYn : ¬ o W.heap.size := hfo.ne (by omega) (fun e => by have := ho₀ _ e; omega)
    have hsn := Rg.rowsF_snoc p pre x
    by_cases hx : x = p - 1
    · rw [if_pos hx] at hsn
      subst hx
      have HSN := Lib.hid hsn
      have hne : ((p - 1 : Int) != (p - 1)) = false := by simp
      clear hsn s0
      gi_wp2_with fail
      refine ⟨by simp, ?_⟩
      gi_wp2_with fail
      exact ⟨o, FreshO.refl _ _, SinceO.refl _ _ _, Keep.refl _ _ _, by rw [HSN.out]; exact hj, hfo, bY, bH⟩
    · rw [if_neg hx] at hsn
      obtain ⟨fn, tmps, asg, bdy, hy, hRr⟩ := YieldAt.deep (m := n - 1 - 1 - 1) (hY (Rg.rowsF p pre) x o X hj ⟨⟨x0, by omega⟩, by rw [← hsn]; exact hpx.filter _⟩ (by have := Rg.rowsF_len p pre; omega) (by omega))
      have HSN := Lib.hid hsn
      have hne : (x != p - 1) = true := by simpa using hx
      have hn3 : 1 ≤ n - 1 - 1 := by omega
      have HX := Lib.hid hx
      clear hsn s0 hx
      gi_wp2_with fail
      refine hRr.mono ?_
      rintro e W3 ⟨o', hf3, hS3, (⟨rfl, hJ3, hk3⟩ | ⟨rfl, hJx3, hk3⟩)⟩
      all_goals have hfo' := hfo.trans hsz hf3
      all_goals have s0 := S0.out
      · clear s0
        gi_wp2_with fail
        have s0 := S0.out
        exact ⟨o', hf3, hS3.less (by omega), hk3.less hlo (by omega), by rw [HSN.out]; exact hJ3, hfo', hS3.blk bY (Nat.le_refl _) hYn, (hk3.2 h hh.1 (by omega)).trans bH⟩
      · clear s0
        gi_wp2_with fail
        have s0 := S0.out
        exact ⟨o', hf3, hS3.less (by omega), hk3.less hlo (by omega), rfl, hfo', by rw [HSN.out]; exact hJx3⟩
  case done =>
    rintro D xs o X hD hfo rfl ⟨hj, _⟩ hK hne
    have s0 := S0.out
    gi_wp2
    rw [Exit.noGoto_normal]
    refine ⟨by simp, .inl ⟨_, _, rfl, run_takeDeferred hK, ?_⟩⟩
    exact ⟨_, results_none rfl _ _ _, ⟨_, rfl⟩, o, hfo.later hB0.size, .inl ⟨_, rfl, hJ.put hj (by omega) hne _⟩⟩
  case stop =>
    rintro D c pre o X hD hfo hSp ⟨rfl, _, hjx⟩ hK hne
    have s0 := S0.out
    gi_wp2
    rw [Exit.noGoto_normal]
    refine ⟨by simp, .inl ⟨_, _, rfl, run_takeDeferred hK, ?_⟩⟩
    exact ⟨_, results_none rfl _ _ _, ⟨_, rfl⟩, o, hfo.later hB0.size, .inr ⟨_, hSp.filter _, hJx.put hjx (by omega) hne _⟩⟩
set_option maxRecDepth 100000 in
set_option maxHeartbeats 4000000 in
theorem rowsT_yes (p by_ : Int) (hp : p ∈ prm) (y1 : -9223372036854775808 ≤ by_) (y2 : by_ ≤ 9223372036854775807) (w : World) (hL : Laid w) :
    Calls Tryz.prog 166 #[.int .i64 p, .int .i64 by_] w fun e w' => ∃ v, e = .returned v ∧ RowsT w.heap.size p (walkN p (p - 1) by_) v w' ∧ Below w.heap.size w w' := by
  have hb := prm_bounds hp
  have HW := Lib.hid (modWalk_anyT p (p - 1) by_ (fine_one.2 ⟨hp, by omega, by omega⟩) w hL y1 y2)
  clear hp
  have hmf : ∀ (fn : Fn) (first cap : Array Value) (w : World), (Instr.makeFunc fn first cap).run Tryz.prog w = .ok (.func fn first cap) w := fun _ _ _ _ => rfl
  go_enter Tryz.func166, Tryz.ntmps166
  go_wp2_with (go_at_call 125; refine HW.out.mono ?_; rintro e w1 ⟨v, rfl, HO, hB1⟩; obtain ⟨gf, lb, rfl, eg, hgo⟩ := HO; have hz := hB1.size)
  have hB2 := below_two w1 (.cells #[.func (.func gf) #[] lb] 139) (.cells #[.int .i64 (p - 1)] 3)
  have bg := (Blk.new w1 139 #[.func (.func gf) #[] lb]).alloc (.cells #[.int .i64 (p - 1)] 3)
  have bh := Blk.second w1 (.cells #[.func (.func gf) #[] lb] 139) 3 #[.int .i64 (p - 1)]
  have hs2 : ((w1.alloc (.cells #[.func (.func gf) #[] lb] 139)).alloc (.cells #[.int .i64 (p - 1)] 3)).heap.size = w1.heap.size + 2 := by simp
  go_ret
  generalize (w1.alloc (.cells #[.func (.func gf) #[] lb] 139)).alloc (.cells #[.int .i64 (p - 1)] 3) = w2 at *
  exact ⟨_, rfl, ⟨_, _, rfl, Rg.enter_rows1, Rg.eql_rows _ _, fun n hn l J Jx W o₀ hW ho₀ hJ hJx hr1 hr2 hY h0 => rows1_inT n hn l w1.heap.size (w1.heap.size + 1) w.heap.size w2.heap.size p (walkN p (p - 1) by_) gf lb w1 w.heap.size eg hgo W (hB2.trans (hW.mono hB2.size)) (Nat.le_refl _) hz hB2.size ⟨hz, by omega⟩ ⟨by omega, by omega⟩ hW.size J Jx o₀ ho₀ hJ hJx hr1 hr2 (fun pre x o W1 hj hx hl hs => hY pre x o W1 hj hx hl hs) (bg.below hW bg.lt) (bh.below hW bh.lt) h0⟩, below_in hB1 hB2⟩
end Go.Proofs.YtfihlelhpmjpaaaGreatDoor.T

namespace Go.Proofs.YtfihlelhpmjpaaaGreatDoor
open Go.RowKit Go.Shelf
set_option linter.unusedVariables false
set_option linter.unusedSimpArgs false

section
variable {F : Fence} {n : Nat} {P : Program} {md : Region.Mode} {ops : Array Oper} {Q : Exit → Act → World → Prop}
theorem count_set {listed : Array Bool} {i k : Nat} (h : listed.getD i true = false) (hk : listed.toList.count false ≤ k + 1) : (listed.setIfInBounds i true).toList.count false ≤ k := by
  have hi : i < listed.size := by
    rcases Nat.lt_or_ge i listed.size with h' | h'
    · exact h'
    · simp [Array.getElem?_eq_none h'] at h
  have hl : listed.toList[i]'(by simpa using hi) = false := by
    simp [hi] at h
    simpa using h
  rw [Array.toList_setIfInBounds, List.count_set (h := by simpa using hi), hl, if_pos (show (false == false) = true from rfl), if_neg (show ¬ ((true == false) = true) by decide)]
  omega
theorem wpAnyIn_inv (I : Array Bool → Act → World → Prop)
    (hstep : ∀ (i : Nat) (listed : Array Bool) (a : Act) (w : World), i ∈ Region.ready md ops listed → listed.size = ops.size → I listed a w → wpOpIn F n P ops Q i (I (listed.setIfInBounds i true)) a w)
    (hend : ∀ (listed : Array Bool) (a : Act) (w : World), listed.size = ops.size → I listed a w → Region.ready md ops listed = [] → Q .normal a w) :
    ∀ (k : Nat) (listed : Array Bool) (a : Act) (w : World), listed.size = ops.size → listed.toList.count false ≤ k → I listed a w → wpAnyIn F n P md ops Q k listed a w
  | 0, listed, a, w, hs, hc, hI => by
    have hr : Region.ready md ops listed = [] := by
      rw [List.eq_nil_iff_forall_not_mem]
      intro i hi
      have h := (mem_ready.1 hi).1
      have hil : i < listed.size := by
        rcases Nat.lt_or_ge i listed.size with h' | h'
        · exact h'
        · simp [Array.getElem?_eq_none h'] at h
      simp [hil] at h
      have hm : false ∈ listed.toList := by rw [← h]; simp
      have := List.count_pos_iff.2 hm
      omega
    exact ⟨hr, hend listed a w hs hI hr⟩
  | k + 1, listed, a, w, hs, hc, hI => ⟨hend listed a w hs hI, fun i hi => wpOpIn_mono (fun a' w' h => wpAnyIn_inv I hstep hend k _ a' w' (by simpa using hs) (count_set (mem_ready.1 hi).1 hc) h) (hstep i listed a w hi hs hI)⟩
/-- Each operation waits for earlier ones alone. -/
def onward (md : Region.Mode) (ops : Array Oper) : Bool := (List.range ops.size).all fun i => ((ops[i]?).map (·.after.all fun e => !Region.binds md e || decide (e.on < i))).getD true
theorem all_listed (h : onward md ops = true) {listed : Array Bool} (hs : listed.size = ops.size) (hr : Region.ready md ops listed = []) : ∀ i, i < ops.size → listed.getD i false = true := by
  intro i
  induction i using Nat.strongRecOn with
  | _ i ih =>
    intro hi
    have hn : i ∉ Region.ready md ops listed := by rw [hr]; simp
    rw [mem_ready] at hn
    have hil : i < listed.size := by omega
    cases hl : listed.getD i false with
    | true => rfl
    | false =>
      refine absurd ⟨?_, ops[i], Array.getElem?_eq_getElem hi, fun e he hb => ?_⟩ hn
      · simp [hil] at hl ⊢
        exact hl
      · have h1 := List.all_eq_true.1 h i (List.mem_range.2 hi)
        rw [Array.getElem?_eq_getElem hi] at h1
        simp only [Option.map_some, Option.getD_some, Array.all_eq_true_iff_forall_mem] at h1
        have h2 := h1 e he
        rw [hb] at h2
        have h3 : e.on < i := by simpa using h2
        exact ih e.on h3 (by omega)
theorem region_inv {id : Nat} {a : Act} {w : World} (hm : P.follows .mixedOrders = true) (ho : onward .any ops = true) (I : Array Bool → Act → World → Prop) (h0 : I (Array.replicate ops.size false) a w.drew)
    (hstep : ∀ (i : Nat) (listed : Array Bool) (a : Act) (w : World), i ∈ Region.ready .any ops listed → I listed a w → wpOpIn F n P ops Q i (I (listed.setIfInBounds i true)) a w)
    (hend : ∀ (listed : Array Bool) (a : Act) (w : World), (∀ i, i < ops.size → listed.getD i false = true) → I listed a w → Q .normal a w) : (Code.region id ops true).wpIn F n P Q a w :=
  wpIn_region_any hm (wpAnyIn_inv I (fun i l a w hi _ h => hstep i l a w hi h) (fun l a w hs hI hr => hend l a w (all_listed ho hs hr) hI) _ _ _ _ (by simp) (by simp) h0)
theorem listed_ne {listed : Array Bool} {i j : Nat} (h : i ≠ j) : (listed.setIfInBounds i true).getD j false = listed.getD j false := getD_set_ne false h
/-- What is ready: what it waits for is listed. -/
theorem ready_on {i : Nat} {o : Oper} {listed : Array Bool} (h : i ∈ Region.ready md ops listed) (ho : ops[i]? = some o) (js : List Nat) (hj : (js.all fun j => o.after.any fun e => Region.binds md e && e.on == j) = true) : ∀ j ∈ js, listed.getD j false = true := by
  obtain ⟨_, o', ho', hall⟩ := mem_ready.1 h
  rw [ho] at ho'
  cases ho'
  intro j hjm
  have h1 := List.all_eq_true.1 hj j hjm
  rw [← Array.any_toList, List.any_eq_true] at h1
  obtain ⟨e, he, h2⟩ := h1
  replace he := Array.mem_toList_iff.1 he
  rw [Bool.and_eq_true] at h2
  have h3 : e.on = j := by simpa using h2.2
  rw [← h3]
  exact hall e he h2.1
theorem wpOpIn_one {i : Nat} {o : Oper} {K : Act → World → Prop} {a : Act} {w : World} (ho : ops[i]? = some o) (hw : Region.wanted o (yielded ops a.tmps) = true) (h : Oper.wpIn F n P o a w K Q) : wpOpIn F n P ops Q i K a w := by
  unfold wpOpIn
  rw [ho]
  simp only [hw, if_true]
  exact h
end
end Go.Proofs.YtfihlelhpmjpaaaGreatDoor

namespace Go.Proofs.YtfihlelhpmjpaaaGreatDoor.Rg
open Go.RowKit Go.Shelf Go.Maps Go.Proofs.YtfihlelhpmjpaaaGreatDoor.C Go.Proofs.YtfihlelhpmjpaaaGreatDoor.E
set_option linter.unusedSimpArgs false
set_option linter.unusedVariables false

/-- What is held once these rows were put. -/
def hld (f : Nat → List UInt8) (z all : List UInt8) (l : List Int) : List UInt8 := l.foldl (fun h x => xorOf [h, xorOf [f x.toNat, all]]) z
theorem hld_snoc (f : Nat → List UInt8) (z all : List UInt8) (l : List Int) (x : Int) : hld f z all (l ++ [x]) = xorOf [hld f z all l, xorOf [f x.toNat, all]] := by unfold hld; rw [List.foldl_append]; rfl
theorem toNat_ne {x y : Int} (hx : 0 ≤ x) (hy : 0 ≤ y) (h : y ≠ x) : x.toNat ≠ y.toNat := by omega
/-- The block that a slice leads to. -/
def vblk : Value → Option Nat
  | .slice (some a) _ _ => some a.block
  | _ => none
/-- The blocks of some slices, from B on. -/
def ownV (B : Nat) (us : List Value) (b : Nat) : Prop := B ≤ b ∧ ∃ u ∈ us, vblk u = some b
theorem BytesA.vblk {A : Nat → Prop} {X Y : World} {u : Value} {l : List UInt8} (h : BytesA A X u l) (hs : X.heap.size ≤ Y.heap.size) (ho : ∀ b, b < X.heap.size → Rg.vblk u = some b → Y.heap[b]? = X.heap[b]?) : BytesA A Y u l := by
  obtain ⟨a, cap, rfl, hc, hb⟩ := h
  refine ⟨a, cap, rfl, hc, fun hp => ?_⟩
  obtain ⟨b, off, rfl, h1, h2, hcell⟩ := hb hp
  exact ⟨b, off, rfl, Nat.lt_of_lt_of_le h1 hs, h2, fun j hj => (World.cell?_of_block (ho b h1 rfl)).trans (hcell j hj)⟩
theorem fresh_vblk {B : Nat} {X Y : World} {u : Value} {l : List UInt8} (h : Fresh B X u l) (hs : X.heap.size ≤ Y.heap.size) (ho : ∀ b, b < X.heap.size → Rg.vblk u = some b → Y.heap[b]? = X.heap[b]?) : Fresh B Y u l := by
  obtain ⟨a, cap, rfl, hc, hb⟩ := h
  refine ⟨a, cap, rfl, hc, fun hp => ?_⟩
  obtain ⟨b, off, rfl, h1, h2, hcell⟩ := hb hp
  exact ⟨b, off, rfl, h1, Nat.lt_of_lt_of_le h2 hs, fun j hj => (World.cell?_of_block (ho b h2 rfl)).trans (hcell j hj)⟩
/-- What stands once these rows were put: what is held (hv, in gh), and what is made (ms, in gm). -/
structure Put (B gm gh Q : Nat) (f : Nat → List UInt8) (z all : List UInt8) (n : Nat) (pre : List Int) (X : World) (hv : Value) (ms : List Value) : Prop where
  lm : gm < B
  lh : gh < B
  bm : Blk X gm 57 ms.toArray
  bh : Blk X gh 57 #[hv]
  len : ms.length = Q
  held : BytesA (fun b => b = gm ∨ b = gh) X hv (hld f z all pre)
  inn : ∀ x ∈ pre, 0 ≤ x ∧ x.toNat < Q
  made : ∀ j x, pre[j]? = some x → x ∉ pre.drop (j + 1) → ∃ u, ms[x.toNat]? = some u ∧ Fresh B X u (hld f z all (pre.take (j + 1)))
  rows : ∀ u ∈ hv :: ms, ∀ b, vblk u = some b → ∃ cs t fr, X.heap[b]? = some (.cells cs t fr)
section
variable {gm gh Q n B : Nat} {f : Nat → List UInt8} {z all : List UInt8} {pre : List Int} {X Y : World} {hv : Value} {ms : List Value}
theorem Put.rowO (h : Put B gm gh Q f z all n pre X hv ms) : T.RowO (ownV B (hv :: ms)) X := fun b ⟨_, u, hu, e⟩ => h.rows u hu b e
theorem Put.far (h : Put B gm gh Q f z all n pre X hv ms) {row : Option Nat} (hg : X.grownBy Y row) (hr : ∀ r, row = some r → B ≤ r ∧ ¬ ownV B (hv :: ms) r) : Put B gm gh Q f z all n pre Y hv ms := by
  have hgm := h.lm
  have hgh := h.lh
  have hk : ∀ u ∈ hv :: ms, ∀ b, b < X.heap.size → vblk u = some b → Y.heap[b]? = X.heap[b]? := fun u hu b hb e => hg.block b hb (fun e2 => by
    have h1 := hr b e2.symm
    exact h1.2 ⟨h1.1, u, hu, e⟩)
  refine ⟨h.lm, h.lh, h.bm.grown hg (fun e => by have := (hr gm e.symm).1; omega), h.bh.grown hg (fun e => by have := (hr gh e.symm).1; omega), h.len, h.held.vblk hg.size (hk hv (.head _)), h.inn, fun j x hj hn => ?_, fun u hu b e => ?_⟩
  · obtain ⟨u, h1, h2⟩ := h.made j x hj hn
    exact ⟨u, h1, fresh_vblk h2 hg.size (hk u (.tail _ (List.mem_of_getElem? h1)))⟩
  · obtain ⟨cs, t, fr, h1⟩ := h.rows u hu b e
    exact ⟨cs, t, fr, (hk u hu b (Array.getElem?_eq_some_iff.1 h1).1 e).trans h1⟩
theorem Put.below (h : Put B gm gh Q f z all n pre X hv ms) (hb : Below X.heap.size X Y) : Put B gm gh Q f z all n pre Y hv ms := h.far (row := none) (grown_below hb) (fun r e => by cases e)
/-- A row more. -/
theorem Put.next (h : Put B gm gh Q f z all n pre X hv ms) {x : Int} {r : Value} {V : World} {base : Nat} (x0 : 0 ≤ x) (x1 : x.toNat < Q) (hne : gm ≠ gh) (hB : Below X.heap.size X V) (hr : Fresh base V r (xorOf [hld f z all pre, xorOf [f x.toNat, all]])) (hb : X.heap.size ≤ base) (hBX : B ≤ X.heap.size) (hn : 0 < (xorOf [hld f z all pre, xorOf [f x.toNat, all]]).length) :
    Put B gm gh Q f z all n (pre ++ [x]) ((V.setCell ⟨gh, 0, none⟩ r).setCell ⟨gm, x.toNat, none⟩ r) r (ms.set x.toNat r) ∧ T.FreshO (ownV B (hv :: ms)) (ownV B (r :: ms.set x.toNat r)) X := by
  have hlm := h.bm.lt
  have hlh := h.bh.lt
  have hO1 : Only (fun b => b = gm ∨ b = gh) V ((V.setCell ⟨gh, 0, none⟩ r).setCell ⟨gm, x.toNat, none⟩ r) := (Only.set (.inr rfl) _).trans (Only.set (.inl rfl) _)
  have hO : Only (fun b => b = gm ∨ b = gh) X ((V.setCell ⟨gh, 0, none⟩ r).setCell ⟨gm, x.toNat, none⟩ r) := (Only.below hB).trans hO1
  have hlm' := h.lm
  have hlh' := h.lh
  have hfa : Fresh B ((V.setCell ⟨gh, 0, none⟩ r).setCell ⟨gm, x.toNat, none⟩ r) r (hld f z all (pre ++ [x])) := by
    rw [hld_snoc]
    exact fresh_only (fresh_more hr (Nat.le_trans hBX hb)) hO1 (fun b e => by omega)
  have hra : BytesA (fun b => b = gm ∨ b = gh) ((V.setCell ⟨gh, 0, none⟩ r).setCell ⟨gm, x.toNat, none⟩ r) r (hld f z all (pre ++ [x])) := by
    rw [hld_snoc]
    exact (BytesA.of_fresh hr (fun b e => by omega)).only hO1
  obtain ⟨ra, rc, er, _, hrb⟩ := hr
  obtain ⟨b, off, e2, hb1, hb2, hcell⟩ := hrb hn
  have hvb : vblk r = some b := by rw [er, e2]; rfl
  have hcells : ∃ cs t fr, ((V.setCell ⟨gh, 0, none⟩ r).setCell ⟨gm, x.toNat, none⟩ r).heap[b]? = some (.cells cs t fr) := by
    have h0 := hcell 0 hn
    have hbe : ((V.setCell ⟨gh, 0, none⟩ r).setCell ⟨gm, x.toNat, none⟩ r).heap[b]? = V.heap[b]? := hO1.2 b hb2 (by omega)
    rw [hbe]
    unfold World.cell? at h0
    revert h0
    cases hh : V.heap[b]? with
    | none => simp
    | some ob => cases ob <;> simp
  refine ⟨⟨h.lm, h.lh, ?_, ?_, by rw [List.length_set]; exact h.len, hra, fun y hy => ?_, fun j y hj hny => ?_, fun u hu c e => ?_⟩, fun c hc => ?_⟩
  · have := ((h.bm.below hB hlm).far (p := ⟨gh, 0, none⟩) hne r).set_ x.toNat r
    rwa [List.setIfInBounds_toArray] at this
  · exact (((h.bh.below hB hlh).set_ 0 r)).far (p := ⟨gm, x.toNat, none⟩) (fun e => hne e.symm) r
  · rcases List.mem_append.1 hy with hy | hy
    · exact h.inn y hy
    · obtain rfl := List.mem_singleton.1 hy
      exact ⟨x0, x1⟩
  · rcases Nat.lt_or_ge j pre.length with hlt | hge
    · rw [List.getElem?_append_left hlt] at hj
      rw [List.drop_append_of_le_length (by omega)] at hny
      obtain ⟨u, h1, h2⟩ := h.made j y hj (fun e => hny (List.mem_append.2 (.inl e)))
      have hyx : y ≠ x := fun e => hny (List.mem_append.2 (.inr (by rw [e]; exact List.mem_singleton.2 rfl)))
      have hy0 := (h.inn y (List.mem_of_getElem? hj)).1
      refine ⟨u, by rw [List.getElem?_set_ne (toNat_ne x0 hy0 hyx)]; exact h1, ?_⟩
      rw [List.take_append_of_le_length (by omega)]
      exact fresh_only h2 hO (fun b e => by omega)
    · have hjl : j = pre.length := by
        have := (List.getElem?_eq_some_iff.1 hj).1
        rw [List.length_append, List.length_singleton] at this
        omega
      subst hjl
      rw [List.getElem?_append_right (Nat.le_refl _), Nat.sub_self] at hj
      obtain rfl : x = y := by simpa using hj
      refine ⟨r, List.getElem?_set_self (by rw [h.len]; exact x1), ?_⟩
      rw [List.take_of_length_le (by rw [List.length_append, List.length_singleton]; exact Nat.le_refl _)]
      exact hfa
  · have hold : u ∈ hv :: ms → ∃ cs t fr, ((V.setCell ⟨gh, 0, none⟩ r).setCell ⟨gm, x.toNat, none⟩ r).heap[c]? = some (.cells cs t fr) := fun hu => by
      obtain ⟨cs, t, fr, h1⟩ := h.rows u hu c e
      have hc := (Array.getElem?_eq_some_iff.1 h1).1
      by_cases h2 : c = gm
      · subst h2
        have := ((h.bm.below hB hlm).far (p := ⟨gh, 0, none⟩) hne r).set_ x.toNat r
        exact ⟨_, _, _, this⟩
      · by_cases h3 : c = gh
        · subst h3
          have := (((h.bh.below hB hlh).set_ 0 r)).far (p := ⟨gm, x.toNat, none⟩) (fun e => hne e.symm) r
          exact ⟨_, _, _, this⟩
        · exact ⟨cs, t, fr, (hO.2 c hc (fun e => e.elim h2 h3)).trans h1⟩
    rcases List.mem_cons.1 hu with rfl | hu
    · rw [hvb] at e
      injection e with e
      subst e
      exact hcells
    · rcases List.mem_or_eq_of_mem_set hu with h1 | rfl
      · exact hold (.tail _ h1)
      · rw [hvb] at e
        injection e with e
        subst e
        exact hcells
  · obtain ⟨hBc, u, hu, e⟩ := hc
    have hrc : vblk r = some c → ownV B (hv :: ms) c ∨ X.heap.size ≤ c := fun e => by
      rw [hvb] at e
      injection e with e
      exact .inr (by omega)
    rcases List.mem_cons.1 hu with rfl | hu
    · exact hrc e
    · rcases List.mem_or_eq_of_mem_set hu with h1 | rfl
      · exact .inl ⟨hBc, u, .tail _ h1, e⟩
      · exact hrc e
end
end Go.Proofs.YtfihlelhpmjpaaaGreatDoor.Rg

