/- A range over a function that calls other functions of whatever memory: the body leaves alone all that lies from the call on. -/
import Derived.Test.YtggdlklkjnbbjaaGreatDoorSwJ
import Derived.Test.YtggdlklkjnbbjaaGreatDoorMLeft
namespace Go.Proofs.YtggdlklkjnbbjaaGreatDoor
open Go.RowKit Go.Shelf
set_option linter.unusedVariables false

/-- I abides whatever happens from block B on. -/
def Far {β : Type} (B : Nat) (I : β → World → Prop) : Prop :=
  ∀ s X Y row, I s X → X.grownBy Y row → (∀ r, row = some r → B ≤ r) → I s Y
/-- What lay from B on lies as it lay. -/
def Since (B : Nat) (X Y : World) : Prop := X.heap.size ≤ Y.heap.size ∧ ∀ b, B ≤ b → b < X.heap.size → Y.heap[b]? = X.heap[b]?

section
variable {β : Type} {B k : Nat} {I I' : β → World → Prop} {X Y Z : World}
theorem Far.spares {B' : Nat} (h : Far B I) (hB : B ≤ B') (k : Nat) : Spares B' k I := fun s X Y row hs hg hr => h s X Y row hs hg fun r e => by have := hr r e; omega
theorem Far.and (h : Far B I) (h' : Far B I') : Far B (fun s W => I s W ∧ I' s W) := fun s X Y row hs hg hr => ⟨h s X Y row hs.1 hg hr, h' s X Y row hs.2 hg hr⟩
theorem Far.less {B' : Nat} (h : Far B I) (hB : B ≤ B') : Far B' I := fun s X Y row hs hg hr => h s X Y row hs hg fun r e => by have := hr r e; omega
theorem far_pure (B : Nat) (p : β → Prop) : Far B (fun s (_ : World) => p s) := fun _ _ _ _ hs _ _ => hs
theorem far_blk {g : Nat} (hg : g < B) (t : TypeId) (f : β → Array Value) : Far B (fun s W => Blk W g t (f s)) := fun _ _ _ _ hs hgr hr =>
  hs.grown hgr fun e => by have := hr g e.symm; omega
theorem far_below {n₀ : Nat} {w : World} (hn : n₀ ≤ w.heap.size) (hB : n₀ ≤ B) : Far B (fun (_ : β) W => Below n₀ w W) := fun _ _ _ _ hs hgr hr =>
  hs.grown hgr (Nat.le_trans hn hs.size) fun r e => by have := hr r e; omega
theorem Far.put (h : Far B I) {s : β} {l : Nat} (hs : I s X) (h1 : B ≤ l) (o : Obj) : I s (X.putObj l o) :=
  h s X _ (some l) hs (grownBy_putObj' X l o) fun r e => by injection e with e; omega
theorem Far.lay (h : Far B I) {s : β} (hs : I s X) (o : Obj) : I s (X.alloc o) := h s X _ none hs (World.grownBy_alloc X o none) fun r e => by cases e
theorem Far.below (h : Far B I) {s : β} (hs : I s X) (hb : Below X.heap.size X Y) : I s Y := h s X Y none hs (grown_below hb) fun r e => by cases e
theorem Since.refl (B : Nat) (X : World) : Since B X X := ⟨Nat.le_refl _, fun _ _ _ => rfl⟩
theorem Since.trans (h : Since B X Y) (h' : Since B Y Z) : Since B X Z := ⟨Nat.le_trans h.1 h'.1, fun b h1 h2 => (h'.2 b h1 (by have := h.1; omega)).trans (h.2 b h1 h2)⟩
theorem Since.below (hb : Below X.heap.size X Y) : Since B X Y := ⟨hb.size, fun b _ h2 => hb.block b h2⟩
theorem Since.setCell (X : World) {p : Addr} (hp : p.block < B) (v : Value) : Since B X (X.setCell p v) := ⟨by simp, fun b h1 _ => Below.heap_setCell X p v b (by omega)⟩
theorem Since.grown {row : Option Nat} (hg : X.grownBy Y row) (hr : ∀ r, row = some r → r < B) : Since B X Y := ⟨hg.size, fun b h1 h2 => hg.block b h2 (fun e => by have := hr b e.symm; omega)⟩
theorem Since.keep {B' k : Nat} (h : Since B X Y) (hB : B ≤ B') (hk : B' + k ≤ X.heap.size) : Keep B' k X Y := ⟨h.1, fun b h1 h2 => h.2 b (by omega) (by omega)⟩
theorem Since.less {B' : Nat} (h : Since B X Y) (hB : B ≤ B') : Since B' X Y := ⟨h.1, fun b h1 h2 => h.2 b (by omega) h2⟩
end

/-- What gf, with what it has captured, goes over: S, or (left early) Sp; its rounds leave alone what lies from its call on, and keep Kp. -/
def SeqFar {α : Type} (F : Fence) (n : Nat) (P : Program) (gf : Nat) (lb : Array Value) (encs : α → Array Value) (Kp : World → World → Prop) (S Sp : List α → Prop) (N : Nat) (w : World) : Prop :=
  ∀ (l : Nat) (J Jx : List α → World → Prop) (W : World), Below w.heap.size w W → Far W.heap.size J → Far W.heap.size Jx →
    (∀ pre x W1, J pre W1 → pre.length < N → W.heap.size ≤ W1.heap.size → YieldAt F (n - 1) P l (encs x) W1 fun e W' =>
      (e = .returned (.bool true) ∧ J (pre ++ [x]) W' ∧ Kp W1 W' ∧ Since W.heap.size W1 W') ∨ (e = .returned (.bool false) ∧ Jx (pre ++ [x]) W' ∧ Since W.heap.size W1 W')) →
    J [] W →
    CallsIn F n P gf (#[.func (.yield l) #[] #[]] ++ lb) W fun e W' => (∃ v, e = .returned v) ∧ ((∃ xs, S xs ∧ J xs W') ∨ (∃ pre, Sp pre ∧ Jx pre W'))

/-- How a round's body may be left. -/
def postF {α : Type} (B : Nat) (Kp : World → World → Prop) (I : List α → World → Prop) (Ix : Code → List α → World → Prop) (xs : List α) (W : World) : Exit → Act → World → Prop
  | .normal, _, W' => Since B W W' ∧ Kp W W' ∧ I xs W'
  | .ret, _, W' => Since B W W' ∧ Ix .ret xs W'
  | .exit id, _, W' => Since B W W' ∧ Ix (.exit id) xs W'
  | .goto t, _, W' => Since B W W' ∧ Ix (.goto t) xs W'
  | .panic _, _, _ => False
  | .outgrown, _, _ => False
theorem Held.since {rec : LoopState → Option Code → Loop} {D B : Nat} {st : LoopState} {pe : Option Code} {X Y : World} (h : Held rec D st pe X) (hk : Since B X Y) (h1 : B ≤ D) : Held rec D st pe Y :=
  ⟨(hk.2 _ (by omega) h.lt).trans h.1, (hk.2 _ h1 (by have := h.lt; omega)).trans h.2⟩
theorem held_far (rec : LoopState → Option Code → Loop) (D : Nat) (st : LoopState) (pe : Option Code) {β : Type} : Far (D + 2) (fun (_ : β) W => Held rec D st pe W) := fun _ X Y _ hs hg hr =>
  ⟨(hg.block _ hs.lt (fun e => by have := hr _ e.symm; omega)).trans hs.1, (hg.block D (by have := hs.lt; omega) (fun e => by have := hr _ e.symm; omega)).trans hs.2⟩

/-- The law for a range that stands in no round. -/
theorem wpIn_rangeFar {α : Type} {F : Fence} {n : Nat} {P : Program} {g : Operand} {ps : Array Tmp} {assign body : Code} {Q : Exit → Act → World → Prop} {a : Act} {w : World}
    (hro : F.round = none) (h1 : 1 ≤ n) {gf : Nat} {lb : Array Value} (hg : a.eval g = .func (.func gf) #[] lb) (hFg : F.fn gf) (eg : ∀ args w, (callFunc gf args).run P w = .ok (.enter gf args) w)
    {encs : α → Array Value} {Kp : World → World → Prop} {S Sp : List α → Prop} {N : Nat} {w0 : World} (hseq : SeqFar F (n - 1) P gf lb encs Kp S Sp N w0)
    (hKt : ∀ {A B C : World}, Kp A B → Kp B C → Kp A C) (hKb : ∀ (W : World) (l : Nat) (o : Obj), w.heap.size ≤ l → Kp W (W.putObj l o)) (hb0 : Below w0.heap.size w0 w) (hps : ∀ x, (encs x).size = ps.size)
    (I : List α → World → Prop) (Ix : Code → List α → World → Prop) (hI : Far w.heap.size I) (hIx : ∀ c, Far w.heap.size (Ix c)) (h0 : I [] w)
    (Ax : α → Act → World → Prop) (hAx : ∀ (x : α) (a' : Act) (W : World) (l : Nat) (o : Obj) (r : Loop), W.heap[l]? = some (.loop r) → Ax x a' W → Ax x a' (W.putObj l o))
    (hassign : ∀ (l : Nat) (pre : List α) (x : α) (W : World) (K : Act → World → Prop), w.heap.size ≤ W.heap.size → I pre W → (∀ a' W', Since w.heap.size W W' → Kp W W' → I pre W' → Ax x a' W' → K a' W') →
      assign.wpIn (F.inRound l) (n - 1 - 1) P (Exit.then K (fun _ _ _ => False)) { tmps := (ps.zip (encs x)).foldl (fun t (p, v) => t.setIfInBounds p v) a.tmps, defers := [] } W)
    (hbody : ∀ (l : Nat) (pre : List α) (x : α) (a' : Act) (W : World), w.heap.size ≤ W.heap.size → I pre W → Ax x a' W → pre.length < N →
      body.wpIn (F.inRound l) (n - 1 - 1) P (postF w.heap.size Kp I Ix (pre ++ [x]) W) a' W)
    (hdone : ∀ (D : Nat) (xs : List α) (W : World), w.heap.size ≤ D → S xs → I xs W → W.heap[D]? = some (.deferred (some [])) → Q .normal { a with defers := { target := .collected D, args := #[] } :: a.defers } W)
    (hstop : ∀ (D : Nat) (c : Code) (pre : List α) (W : World), w.heap.size ≤ D → Sp pre → Ix c pre W → W.heap[D]? = some (.deferred (some [])) → c.wpIn F n P Q { a with defers := { target := .collected D, args := #[] } :: a.defers } W) :
    (Code.rangeFunc g ps assign body).wpIn F n P Q a w := by
  refine wpIn_rangeFunc fun fn hfn => ?_
  rw [hro]
  obtain ⟨rec, hrec⟩ : ∃ rec : LoopState → Option Code → Loop, rec = fun st pe => { state := st, pending := pe, fn, tmps := a.tmps, params := ps, assign, body, defers := w.heap.size } := ⟨_, rfl⟩
  obtain ⟨W1, hW1⟩ : ∃ W1, (w.alloc (.deferred (some []))).alloc (.loop (rec .ready none)) = W1 := ⟨_, rfl⟩
  have s1 : W1.heap.size = w.heap.size + 2 := by rw [← hW1]; simp
  have H1 : Held rec w.heap.size .ready none W1 := by
    rw [← hW1]
    refine ⟨?_, (Below.heap_alloc _ _ _ (by simp)).trans (World.alloc_heap_new w _)⟩
    have := World.alloc_heap_new (w.alloc (.deferred (some []))) (.loop (rec .ready none))
    rwa [World.size_alloc] at this
  have I1 : I [] W1 := by rw [← hW1]; exact hI.lay (hI.lay h0 _) _
  have B1 : Below w0.heap.size w0 W1 := by
    rw [← hW1]; exact hb0.trans ((((Below.refl _ w).alloc (Nat.le_refl _) _).alloc (by simp) _).mono hb0.size)
  refine ⟨w.heap.size + 1, [{ target := .collected w.heap.size, args := #[] }], W1, { target := .fn (.func gf) lb, args := #[.func (.yield (w.heap.size + 1)) #[] #[]] }, W1, gf,
    #[.func (.yield (w.heap.size + 1)) #[] #[]] ++ lb, W1, ?_, ?_, ?_, ?_, fun _ => h1, ?_⟩
  · rw [← hW1, hrec]; exact run_enterLoop_outer _ _ _ _ _
  · simp only [resolve, hg]
    simp [go_sem]
  · intro f' hf'
    simp [Target.leads] at hf'
    exact hf' ▸ hFg
  · simp [invoke, go_sem, eg]
  have hI' : Far W1.heap.size I := hI.less (by omega)
  have hH := fun st pe => (s1 ▸ held_far rec w.heap.size st pe (β := List α) : Far W1.heap.size _)
  refine (hseq (w.heap.size + 1) (fun pre W => I pre W ∧ Held rec w.heap.size .ready none W) (fun pre W => ∃ c, Ix c pre W ∧ Held rec w.heap.size .done (some c) W) W1 B1 (hI'.and (hH _ _))
    (fun s X Y row hs hgr hr => by
      obtain ⟨c, hc, hh⟩ := hs
      exact ⟨c, (hIx c).less (by omega) s X Y row hc hgr hr, hH _ _ s X Y row hh hgr hr⟩) ?_ ⟨I1, H1⟩).mono ?_
  · rintro pre x W ⟨hi, hh⟩ hlen hsz
    rw [s1] at hsz
    have hy := run_yield (P := P) (args := encs x) hh.1 (by rw [hrec]; exact hps x)
    rw [hrec] at hy
    refine ⟨fn, _, assign, body, hy, roundIn_of_wpIn hfn (hassign _ pre x W _ (by omega) hi ?_)⟩
    intro a' Wa hka hpa hia hax
    have ha := hh.since hka (Nat.le_refl _)
    have hb := ha.turn .busy none
    have hbegin := run_beginRound (P := P) ha.1 (by rw [hrec])
    have ebusy : ({ rec .ready none with state := .busy } : Loop) = rec .busy none := by rw [hrec]
    rw [ebusy] at hbegin
    refine ⟨_, hbegin, ?_⟩
    have hsa := hka.1
    have hsb : (Wa.putObj (w.heap.size + 1) (.loop (rec .busy none))).heap.size = Wa.heap.size := by simp [World.putObj]
    refine wpIn_mono (hbody _ pre x a' _ (by rw [hsb]; omega) (hI.put hia (by omega) _) (hAx _ _ _ _ _ _ ha.1 hax) hlen) ?_
    have fin : ∀ (jump : Option Code) (W3 : World), Since w.heap.size (Wa.putObj (w.heap.size + 1) (.loop (rec .busy none))) W3 →
        (Instr.endRound (w.heap.size + 1) jump).run P W3 = .ok (.bool jump.isNone) (W3.putObj (w.heap.size + 1) (.loop (rec (if jump.isNone then .ready else .done) jump))) ∧
        Held rec w.heap.size (if jump.isNone then .ready else .done) jump (W3.putObj (w.heap.size + 1) (.loop (rec (if jump.isNone then .ready else .done) jump))) := fun jump W3 hk3 => by
      have h3 := hb.since hk3 (Nat.le_refl _)
      have he := run_endRound (P := P) jump h3.1
      have e2 : ({ rec .busy none with state := if jump.isNone then .ready else .done, pending := jump } : Loop) = rec (if jump.isNone then .ready else .done) jump := by rw [hrec]
      rw [e2] at he
      exact ⟨he, h3.turn _ _⟩
    have putFar : ∀ (V : World) (o : Obj), Since W1.heap.size V (V.putObj (w.heap.size + 1) o) := fun V o => ⟨by simp [World.putObj], fun b h2 _ => World.putObj_heap_other (by omega)⟩
    have keepAll : ∀ (o : Obj) (W3 : World), Since w.heap.size (Wa.putObj (w.heap.size + 1) (.loop (rec .busy none))) W3 → Since W1.heap.size W (W3.putObj (w.heap.size + 1) o) := fun o W3 hk3 =>
      (((hka.less (by omega)).trans (putFar Wa _)).trans (hk3.less (by omega))).trans (putFar W3 _)
    intro e a3 W3 hp
    cases e with
    | normal =>
      obtain ⟨hk3, hp3, hi3⟩ := hp
      obtain ⟨he, h4⟩ := fin none W3 hk3
      exact ⟨_, _, he, .inl ⟨rfl, ⟨hI.put hi3 (by omega) _, h4⟩, hKt hpa (hKt (hKb _ _ _ (by omega)) (hKt hp3 (hKb _ _ _ (by omega)))), keepAll _ _ hk3⟩⟩
    | ret =>
      obtain ⟨he, h4⟩ := fin (some .ret) W3 hp.1
      exact ⟨_, _, he, .inr ⟨rfl, ⟨.ret, (hIx _).put hp.2 (by omega) _, h4⟩, keepAll _ _ hp.1⟩⟩
    | exit id =>
      obtain ⟨he, h4⟩ := fin (some (.exit id)) W3 hp.1
      exact ⟨_, _, he, .inr ⟨rfl, ⟨.exit id, (hIx _).put hp.2 (by omega) _, h4⟩, keepAll _ _ hp.1⟩⟩
    | goto t =>
      obtain ⟨he, h4⟩ := fin (some (.goto t)) W3 hp.1
      exact ⟨_, _, he, .inr ⟨rfl, ⟨.goto t, (hIx _).put hp.2 (by omega) _, h4⟩, keepAll _ _ hp.1⟩⟩
    | panic ch => exact hp.elim
    | outgrown => exact hp.elim
  · rintro e W2 ⟨⟨v, rfl⟩, (⟨xs, hS, hi, hh⟩ | ⟨pre, hSp, c, hc, hh⟩)⟩
    · have he := run_endLoop (P := P) hh.1 (by rw [hrec]; simp)
      rw [show (rec .ready none).pending = none by rw [hrec]] at he
      exact ⟨none, _, he, hdone _ xs _ (Nat.le_refl _) hS (hI.put hi (by omega) _) ((World.putObj_heap_other (by omega)).trans hh.2)⟩
    · have he := run_endLoop (P := P) hh.1 (by rw [hrec]; simp)
      rw [show (rec .done (some c)).pending = some c by rw [hrec]] at he
      exact ⟨some c, _, he, hstop _ c pre _ (Nat.le_refl _) hSp ((hIx c).put hc (by omega) _) ((World.putObj_heap_other (by omega)).trans hh.2)⟩

/-- A round's contract, at the wide fence, holds at whatever depth. -/
theorem YieldAt.deep {n m : Nat} {P : Program} {l : Nat} {args : Array Value} {W : World} {R : Ending → World → Prop} (h : YieldAt Fence.wide n P l args W R) : YieldAt Fence.wide m P l args W R := by
  obtain ⟨fn, tmps, assign, body, hy, hR⟩ := h
  exact ⟨fn, tmps, assign, body, hy, hR.1, fun c cs _ => hR.2 c cs (room_wide _)⟩
end Go.Proofs.YtggdlklkjnbbjaaGreatDoor
