/- A range over a function that keeps blocks of its own between rounds: what it owes, and one law for whoever ranges over it. -/
import Derived.Test.YtggdlklkjnbbjaaGreatDoorMBase
namespace Go.Proofs.YtggdlklkjnbbjaaGreatDoor
open Go.RowKit

/-- I abides whatever happens to the k blocks from B on, and whatever is laid anew. -/
def Spares {β : Type} (B k : Nat) (I : β → World → Prop) : Prop :=
  ∀ s X Y row, I s X → X.grownBy Y row → (∀ r, row = some r → B ≤ r ∧ r < B + k) → I s Y
/-- The k blocks from B on lie as they lay. -/
def Keep (B k : Nat) (X Y : World) : Prop := X.heap.size ≤ Y.heap.size ∧ ∀ b, B ≤ b → b < B + k → Y.heap[b]? = X.heap[b]?

section
variable {β : Type} {B k : Nat} {I I' : β → World → Prop} {X Y Z : World}
theorem Spares.and (h : Spares B k I) (h' : Spares B k I') : Spares B k (fun s W => I s W ∧ I' s W) := fun s X Y row hs hg hr => ⟨h s X Y row hs.1 hg hr, h' s X Y row hs.2 hg hr⟩
theorem spares_pure (B k : Nat) (p : β → Prop) : Spares B k (fun s (_ : World) => p s) := fun _ _ _ _ hs _ _ => hs
theorem spares_blk {g : Nat} (hg : g < B) (t : TypeId) (f : β → Array Value) : Spares B k (fun s W => Blk W g t (f s)) := fun _ _ _ _ hs hgr hr =>
  hs.grown hgr fun e => by have := (hr g e.symm).1; omega
theorem spares_below {n₀ : Nat} {w : World} (hn : n₀ ≤ w.heap.size) (hB : n₀ ≤ B) : Spares B k (fun (_ : β) W => Below n₀ w W) := fun _ _ _ _ hs hgr hr =>
  hs.grown hgr (Nat.le_trans hn hs.size) fun r e => by have := (hr r e).1; omega
theorem spares_keep {B' k' : Nat} {w : World} (hB : B' + k' ≤ B) (hw : B' + k' ≤ w.heap.size) : Spares B k (fun (_ : β) W => Keep B' k' w W) := fun _ X Y _ hs hgr hr =>
  ⟨Nat.le_trans hs.1 hgr.size, fun b h1 h2 => (hgr.block b (Nat.lt_of_lt_of_le (by omega) hs.1) (fun e => by have := (hr b e.symm).1; omega)).trans (hs.2 b h1 h2)⟩
theorem Spares.less {B' k' : Nat} (h : Spares B k I) (h1 : B ≤ B') (h2 : B' + k' ≤ B + k) : Spares B' k' I := fun s X Y row hs hg hr => h s X Y row hs hg fun r e => by have := hr r e; omega
theorem Keep.refl (B k : Nat) (X : World) : Keep B k X X := ⟨Nat.le_refl _, fun _ _ _ => rfl⟩
theorem Keep.trans (h : Keep B k X Y) (h' : Keep B k Y Z) : Keep B k X Z := ⟨Nat.le_trans h.1 h'.1, fun b h1 h2 => (h'.2 b h1 h2).trans (h.2 b h1 h2)⟩
theorem Keep.setCell (X : World) {p : Addr} (hp : p.block < B) (v : Value) : Keep B k X (X.setCell p v) := ⟨by simp, fun b h1 _ => Below.heap_setCell X p v b (by omega)⟩
theorem Keep.setFar (X : World) {p : Addr} (hp : B + k ≤ p.block) (v : Value) : Keep B k X (X.setCell p v) := ⟨by simp, fun b _ h2 => Below.heap_setCell X p v b (by omega)⟩
theorem Keep.putFar (X : World) {l : Nat} (hl : B + k ≤ l) (o : Obj) : Keep B k X (X.putObj l o) := ⟨by simp [World.putObj], fun b _ h2 => World.putObj_heap_other (by omega)⟩
theorem Keep.blk {g : Nat} {t : TypeId} {cs : Array Value} (h : Keep B k X Y) (hb : Blk X g t cs) (h1 : B ≤ g) (h2 : g < B + k) : Blk Y g t cs := (h.2 g h1 h2).trans hb
theorem Keep.grown {row : Option Nat} (hg : X.grownBy Y row) (hX : B + k ≤ X.heap.size) (hr : ∀ r, row = some r → r < B ∨ B + k ≤ r) : Keep B k X Y :=
  ⟨hg.size, fun b h1 h2 => hg.block b (by omega) (fun e => by have := hr b e.symm; omega)⟩
theorem Keep.alloc {X : World} (h : B + k ≤ X.heap.size) (o : Obj) : Keep B k X (X.alloc o) := ⟨by simp, fun b _ h2 => Below.heap_alloc X o b (by omega)⟩
theorem Keep.drew (X : World) : Keep B k X X.drew := ⟨Nat.le_refl _, fun _ _ _ => rfl⟩
theorem Keep.below {N : Nat} (h : Below N X Y) (hN : B + k ≤ N) : Keep B k X Y := ⟨h.size, fun b _ h2 => h.block b (by omega)⟩
theorem Keep.putObj (X : World) {l : Nat} (hl : l < B) (o : Obj) : Keep B k X (X.putObj l o) := ⟨by simp [World.putObj], fun b h1 _ => World.putObj_heap_other (by omega)⟩
theorem Spares.put (h : Spares B k I) {s : β} {l : Nat} (hs : I s X) (h1 : B ≤ l) (h2 : l < B + k) (o : Obj) : I s (X.putObj l o) :=
  h s X _ (some l) hs (grownBy_putObj' X l o) fun r e => by injection e with e; omega
theorem Spares.lay (h : Spares B k I) {s : β} (hs : I s X) (o : Obj) : I s (X.alloc o) := h s X _ none hs (World.grownBy_alloc X o none) fun r e => by cases e
theorem Keep.less {B' k' : Nat} (h : Keep B k X Y) (h1 : B ≤ B') (h2 : B' + k' ≤ B + k) : Keep B' k' X Y := ⟨h.1, fun b h3 h4 => h.2 b (by omega) (by omega)⟩
end

/-- What gf, with what it has captured, goes over: S, or (left early) Sp; k blocks, the first that it lays, are its own: a round that goes on keeps them, and Kp. -/
def SeqOwn {α : Type} (F : Fence) (n : Nat) (P : Program) (gf : Nat) (lb : Array Value) (encs : α → Array Value) (k : Nat) (Kp : World → World → Prop) (S Sp : List α → Prop) (N : Nat) (w : World) : Prop :=
  ∀ (l : Nat) (J Jx : List α → World → Prop) (W : World), Below w.heap.size w W → Spares W.heap.size k J → Spares W.heap.size k Jx →
    (∀ pre x W1, J pre W1 → pre.length < N → W.heap.size + k ≤ W1.heap.size → YieldAt F (n - 1) P l (encs x) W1 fun e W' =>
      (e = .returned (.bool true) ∧ J (pre ++ [x]) W' ∧ Kp W1 W' ∧ Keep W.heap.size k W1 W') ∨ (e = .returned (.bool false) ∧ Jx (pre ++ [x]) W')) →
    J [] W →
    CallsIn F n P gf (#[.func (.yield l) #[] #[]] ++ lb) W fun e W' => (∃ v, e = .returned v) ∧ ((∃ xs, S xs ∧ J xs W') ∨ (∃ pre, Sp pre ∧ Jx pre W'))

/-- How a round's body may be left. -/
def postR {α : Type} (B k : Nat) (Kp : World → World → Prop) (I : List α → World → Prop) (Ix : Code → List α → World → Prop) (xs : List α) (W : World) : Exit → Act → World → Prop
  | .normal, _, W' => Keep B k W W' ∧ Kp W W' ∧ I xs W'
  | .ret, _, W' => Keep B k W W' ∧ Ix .ret xs W'
  | .exit id, _, W' => Keep B k W W' ∧ Ix (.exit id) xs W'
  | .goto t, _, W' => Keep B k W W' ∧ Ix (.goto t) xs W'
  | .panic _, _, _ => False
  | .outgrown, _, _ => False

/-- The loop's record and its block of deferred calls. -/
def Held (rec : LoopState → Option Code → Loop) (D : Nat) (st : LoopState) (pe : Option Code) (W : World) : Prop :=
  W.heap[D + 1]? = some (.loop (rec st pe)) ∧ W.heap[D]? = some (.deferred (some []))
theorem Held.keep {rec : LoopState → Option Code → Loop} {D B k : Nat} {st : LoopState} {pe : Option Code} {X Y : World} (h : Held rec D st pe X) (hk : Keep B k X Y) (h1 : B ≤ D) (h2 : D + 1 < B + k) : Held rec D st pe Y :=
  ⟨(hk.2 _ (by omega) h2).trans h.1, (hk.2 _ h1 (by omega)).trans h.2⟩
theorem Held.lt {rec : LoopState → Option Code → Loop} {D : Nat} {st : LoopState} {pe : Option Code} {X : World} (h : Held rec D st pe X) : D + 1 < X.heap.size := (Array.getElem?_eq_some_iff.1 h.1).1
theorem Held.turn {rec : LoopState → Option Code → Loop} {D : Nat} {st : LoopState} {pe : Option Code} {X : World} (h : Held rec D st pe X) (st' : LoopState) (pe' : Option Code) : Held rec D st' pe' (X.putObj (D + 1) (.loop (rec st' pe'))) :=
  ⟨World.putObj_heap_same h.lt, (World.putObj_heap_other (by omega)).trans h.2⟩
theorem held_spares (rec : LoopState → Option Code → Loop) (D : Nat) (st : LoopState) (pe : Option Code) {β : Type} (k : Nat) : Spares (D + 2) k (fun (_ : β) W => Held rec D st pe W) := fun _ X Y _ hs hg hr =>
  ⟨(hg.block _ hs.lt (fun e => by have := (hr _ e.symm).1; omega)).trans hs.1, (hg.block D (by have := hs.lt; omega) (fun e => by have := (hr _ e.symm).1; omega)).trans hs.2⟩

/-- The law for a range that stands in no round. -/
theorem wpIn_rangeOwn {α : Type} {F : Fence} {n : Nat} {P : Program} {g : Operand} {ps : Array Tmp} {assign body : Code} {Q : Exit → Act → World → Prop} {a : Act} {w : World}
    (hro : F.round = none) (h1 : 1 ≤ n) {gf : Nat} {lb : Array Value} (hg : a.eval g = .func (.func gf) #[] lb) (hFg : F.fn gf) (eg : ∀ args w, (callFunc gf args).run P w = .ok (.enter gf args) w)
    {encs : α → Array Value} {k : Nat} {Kp : World → World → Prop} {S Sp : List α → Prop} {N : Nat} {w0 : World} (hseq : SeqOwn F (n - 1) P gf lb encs k Kp S Sp N w0)
    (hKt : ∀ {A B C : World}, Kp A B → Kp B C → Kp A C) (hKb : ∀ (W : World) (l : Nat) (o : Obj), w.heap.size ≤ l → Kp W (W.putObj l o)) (hb0 : Below w0.heap.size w0 w) (hps : ∀ x, (encs x).size = ps.size)
    (I : List α → World → Prop) (Ix : Code → List α → World → Prop) (hI : Spares w.heap.size (2 + k) I) (hIx : ∀ c, Spares w.heap.size (2 + k) (Ix c)) (h0 : I [] w)
    (Ax : α → Act → World → Prop) (hAx : ∀ x a', Spares w.heap.size (2 + k) (fun (_ : Unit) W => Ax x a' W))
    (hassign : ∀ (l : Nat) (pre : List α) (x : α) (W : World) (K : Act → World → Prop), w.heap.size + (2 + k) ≤ W.heap.size → I pre W → (∀ a' W', Keep w.heap.size (2 + k) W W' → Kp W W' → I pre W' → Ax x a' W' → K a' W') →
      assign.wpIn (F.inRound l) (n - 1 - 1) P (Exit.then K (fun _ _ _ => False)) { tmps := (ps.zip (encs x)).foldl (fun t (p, v) => t.setIfInBounds p v) a.tmps, defers := [] } W)
    (hbody : ∀ (l : Nat) (pre : List α) (x : α) (a' : Act) (W : World), w.heap.size ≤ l → (∃ r, W.heap[l]? = some (.loop r)) → w.heap.size + (2 + k) ≤ W.heap.size → I pre W → Ax x a' W → pre.length < N →
      body.wpIn (F.inRound l) (n - 1 - 1) P (postR w.heap.size (2 + k) Kp I Ix (pre ++ [x]) W) a' W)
    (hdone : ∀ (D : Nat) (xs : List α) (W : World), w.heap.size ≤ D → S xs → I xs W → W.heap[D]? = some (.deferred (some [])) → Q .normal { a with defers := { target := .collected D, args := #[] } :: a.defers } W)
    (hstop : ∀ (D : Nat) (c : Code) (pre : List α) (W : World), w.heap.size ≤ D → Sp pre → Ix c pre W → W.heap[D]? = some (.deferred (some [])) → c.wpIn F n P Q { a with defers := { target := .collected D, args := #[] } :: a.defers } W) :
    (Code.rangeFunc g ps assign body).wpIn F n P Q a w := by
  refine wpIn_rangeFunc fun fn hfn => ?_
  rw [hro]
  obtain ⟨rec, hrec⟩ : ∃ rec : LoopState → Option Code → Loop, rec = fun st pe => { state := st, pending := pe, fn, tmps := a.tmps, params := ps, assign, body, defers := w.heap.size } := ⟨_, rfl⟩
  obtain ⟨W1, hW1⟩ : ∃ W1, (w.alloc (.deferred (some []))).alloc (.loop (rec .ready none)) = W1 := ⟨_, rfl⟩
  have s1 : W1.heap.size = w.heap.size + 2 := by rw [← hW1]; simp
  have H1 : Held rec w.heap.size .ready none W1 := by
    rw [← hW1]
    refine ⟨?_, (Below.heap_alloc _ _ _ (by simp)).trans (World.alloc_heap_new w _)⟩
    have := World.alloc_heap_new (w.alloc (.deferred (some []))) (.loop (rec .ready none))
    rwa [World.size_alloc] at this
  have I1 : I [] W1 := by rw [← hW1]; exact hI.lay (hI.lay h0 _) _
  have B1 : Below w0.heap.size w0 W1 := by
    rw [← hW1]; exact hb0.trans ((((Below.refl _ w).alloc (Nat.le_refl _) _).alloc (by simp) _).mono hb0.size)
  refine ⟨w.heap.size + 1, [{ target := .collected w.heap.size, args := #[] }], W1, { target := .fn (.func gf) lb, args := #[.func (.yield (w.heap.size + 1)) #[] #[]] }, W1, gf,
    #[.func (.yield (w.heap.size + 1)) #[] #[]] ++ lb, W1, ?_, ?_, ?_, ?_, fun _ => h1, ?_⟩
  · rw [← hW1, hrec]; exact run_enterLoop_outer _ _ _ _ _
  · simp only [resolve, hg]
    simp [go_sem]
  · intro f' hf'
    simp [Target.leads] at hf'
    exact hf' ▸ hFg
  · simp [invoke, go_sem, eg]
  have hI' : Spares W1.heap.size k I := hI.less (by omega) (by omega)
  have hH := fun st pe => (s1 ▸ held_spares rec w.heap.size st pe (β := List α) k : Spares W1.heap.size k _)
  refine (hseq (w.heap.size + 1) (fun pre W => I pre W ∧ Held rec w.heap.size .ready none W) (fun pre W => ∃ c, Ix c pre W ∧ Held rec w.heap.size .done (some c) W) W1 B1 (hI'.and (hH _ _))
    (fun s X Y row hs hgr hr => by
      obtain ⟨c, hc, hh⟩ := hs
      exact ⟨c, (hIx c).less (by omega) (by omega) s X Y row hc hgr hr, hH _ _ s X Y row hh hgr hr⟩) ?_ ⟨I1, H1⟩).mono ?_
  · rintro pre x W ⟨hi, hh⟩ hlen hsz
    rw [s1] at hsz
    have hy := run_yield (P := P) (args := encs x) hh.1 (by rw [hrec]; exact hps x)
    rw [hrec] at hy
    refine ⟨fn, _, assign, body, hy, roundIn_of_wpIn hfn (hassign _ pre x W _ (by omega) hi ?_)⟩
    intro a' Wa hka hpa hia hax
    have ha := hh.keep hka (Nat.le_refl _) (by omega)
    have hb := ha.turn .busy none
    have hbegin := run_beginRound (P := P) ha.1 (by rw [hrec])
    have ebusy : ({ rec .ready none with state := .busy } : Loop) = rec .busy none := by rw [hrec]
    rw [ebusy] at hbegin
    refine ⟨_, hbegin, ?_⟩
    have hsa := hka.1
    have hsb : (Wa.putObj (w.heap.size + 1) (.loop (rec .busy none))).heap.size = Wa.heap.size := by simp [World.putObj]
    refine wpIn_mono (hbody _ pre x a' _ (by omega) ⟨_, hb.1⟩ (by rw [hsb]; omega) (hI.put hia (by omega) (by omega) _) ((hAx x a').put (s := ()) hax (by omega) (by omega) _) hlen) ?_
    have fin : ∀ (jump : Option Code) (W3 : World), Keep w.heap.size (2 + k) (Wa.putObj (w.heap.size + 1) (.loop (rec .busy none))) W3 →
        (Instr.endRound (w.heap.size + 1) jump).run P W3 = .ok (.bool jump.isNone) (W3.putObj (w.heap.size + 1) (.loop (rec (if jump.isNone then .ready else .done) jump))) ∧
        Held rec w.heap.size (if jump.isNone then .ready else .done) jump (W3.putObj (w.heap.size + 1) (.loop (rec (if jump.isNone then .ready else .done) jump))) := fun jump W3 hk3 => by
      have h3 := hb.keep hk3 (Nat.le_refl _) (by omega)
      have he := run_endRound (P := P) jump h3.1
      have e2 : ({ rec .busy none with state := if jump.isNone then .ready else .done, pending := jump } : Loop) = rec (if jump.isNone then .ready else .done) jump := by rw [hrec]
      rw [e2] at he
      exact ⟨he, h3.turn _ _⟩
    have keepAll : ∀ (o : Obj) (W3 : World), Keep w.heap.size (2 + k) (Wa.putObj (w.heap.size + 1) (.loop (rec .busy none))) W3 → Keep W1.heap.size k W (W3.putObj (w.heap.size + 1) o) := fun o W3 hk3 =>
      (((hka.less (by omega) (by omega)).trans (Keep.putObj Wa (by omega) _)).trans (hk3.less (by omega) (by omega))).trans (Keep.putObj W3 (by omega) _)
    intro e a3 W3 hp
    cases e with
    | normal =>
      obtain ⟨hk3, hp3, hi3⟩ := hp
      obtain ⟨he, h4⟩ := fin none W3 hk3
      exact ⟨_, _, he, .inl ⟨rfl, ⟨hI.put hi3 (by omega) (by omega) _, h4⟩, hKt hpa (hKt (hKb _ _ _ (by omega)) (hKt hp3 (hKb _ _ _ (by omega)))), keepAll _ _ hk3⟩⟩
    | ret =>
      obtain ⟨he, h4⟩ := fin (some .ret) W3 hp.1
      exact ⟨_, _, he, .inr ⟨rfl, .ret, (hIx _).put hp.2 (by omega) (by omega) _, h4⟩⟩
    | exit id =>
      obtain ⟨he, h4⟩ := fin (some (.exit id)) W3 hp.1
      exact ⟨_, _, he, .inr ⟨rfl, .exit id, (hIx _).put hp.2 (by omega) (by omega) _, h4⟩⟩
    | goto t =>
      obtain ⟨he, h4⟩ := fin (some (.goto t)) W3 hp.1
      exact ⟨_, _, he, .inr ⟨rfl, .goto t, (hIx _).put hp.2 (by omega) (by omega) _, h4⟩⟩
    | panic ch => exact hp.elim
    | outgrown => exact hp.elim
  · rintro e W2 ⟨⟨v, rfl⟩, (⟨xs, hS, hi, hh⟩ | ⟨pre, hSp, c, hc, hh⟩)⟩
    · have he := run_endLoop (P := P) hh.1 (by rw [hrec]; simp)
      rw [show (rec .ready none).pending = none by rw [hrec]] at he
      exact ⟨none, _, he, hdone _ xs _ (Nat.le_refl _) hS (hI.put hi (by omega) (by omega) _) ((World.putObj_heap_other (by omega)).trans hh.2)⟩
    · have he := run_endLoop (P := P) hh.1 (by rw [hrec]; simp)
      rw [show (rec .done (some c)).pending = some c by rw [hrec]] at he
      exact ⟨some c, _, he, hstop _ c pre _ (Nat.le_refl _) hSp ((hIx c).put hc (by omega) (by omega) _) ((World.putObj_heap_other (by omega)).trans hh.2)⟩

/-- The same, where the assignment to the loop's variable lays nothing. -/
theorem wpIn_rangeOwn1 {α : Type} {F : Fence} {n : Nat} {P : Program} {g : Operand} {ps : Array Tmp} {assign body : Code} {Q : Exit → Act → World → Prop} {a : Act} {w : World}
    (hro : F.round = none) (h1 : 1 ≤ n) {gf : Nat} {lb : Array Value} (hg : a.eval g = .func (.func gf) #[] lb) (hFg : F.fn gf) (eg : ∀ args w, (callFunc gf args).run P w = .ok (.enter gf args) w)
    {encs : α → Array Value} {k lo m : Nat} {S Sp : List α → Prop} {N : Nat} {w0 : World} (hseq : SeqOwn F (n - 1) P gf lb encs k (Keep lo m) S Sp N w0) (hlo : lo + m ≤ w.heap.size)
    (hb0 : Below w0.heap.size w0 w) (hps : ∀ x, (encs x).size = ps.size)
    (I : List α → World → Prop) (Ix : Code → List α → World → Prop) (hI : Spares w.heap.size (2 + k) I) (hIx : ∀ c, Spares w.heap.size (2 + k) (Ix c)) (h0 : I [] w) (a₁ : α → Act)
    (hassign : ∀ (l : Nat) (x : α) (W : World) (K : Act → World → Prop), K (a₁ x) W →
      assign.wpIn (F.inRound l) (n - 1 - 1) P (Exit.then K (fun _ _ _ => False)) { tmps := (ps.zip (encs x)).foldl (fun t (p, v) => t.setIfInBounds p v) a.tmps, defers := [] } W)
    (hbody : ∀ (l : Nat) (pre : List α) (x : α) (W : World), w.heap.size + (2 + k) ≤ W.heap.size → I pre W → pre.length < N →
      body.wpIn (F.inRound l) (n - 1 - 1) P (postR w.heap.size (2 + k) (Keep lo m) I Ix (pre ++ [x]) W) (a₁ x) W)
    (hdone : ∀ (D : Nat) (xs : List α) (W : World), w.heap.size ≤ D → S xs → I xs W → W.heap[D]? = some (.deferred (some [])) → Q .normal { a with defers := { target := .collected D, args := #[] } :: a.defers } W)
    (hstop : ∀ (D : Nat) (c : Code) (pre : List α) (W : World), w.heap.size ≤ D → Sp pre → Ix c pre W → W.heap[D]? = some (.deferred (some [])) → c.wpIn F n P Q { a with defers := { target := .collected D, args := #[] } :: a.defers } W) :
    (Code.rangeFunc g ps assign body).wpIn F n P Q a w :=
  wpIn_rangeOwn hro h1 hg hFg eg hseq (fun h h' => h.trans h') (fun W l o hl => Keep.putFar W (by omega) o) hb0 hps I Ix hI hIx h0
    (fun x a' _ => a' = a₁ x) (fun _ _ _ _ _ _ hs _ _ => hs) (fun l pre x W K _ hi hK => hassign l x W K (hK _ _ (Keep.refl _ _ _) (Keep.refl _ _ _) hi rfl))
    (fun l pre x a' W _ _ hsz hi e hlen => by subst e; exact hbody l pre x W hsz hi hlen) hdone hstop
end Go.Proofs.YtggdlklkjnbbjaaGreatDoor
