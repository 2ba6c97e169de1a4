/- A range over a function with bound values (a method's value), whose body keeps a row of its own. Sets: over the cells that are made, each told to be one of them, with what asks for its members. Sets: over the cells that are made, each with its members. Sets: Lines. -/
import Derived.Test.YteglikljmkielaaGreatDoorZwK
import Derived.Test.YteglikljmkielaaGreatDoorZG1
import Derived.Shelf.RegionOpen
namespace Go.Proofs.YteglikljmkielaaGreatDoor
open Go.RowKit Go.Shelf
set_option linter.unusedVariables false

/-- What gf, with what it has bound and captured, goes over: S, or (left early) Sp; its rounds leave alone what lies from its call on, but their own row, and keep Kp. -/
def SeqB {α : Type} (F : Fence) (n : Nat) (P : Program) (gf : Nat) (pa lb : Array Value) (encs : α → Array Value) (Ok : α → World → Prop) (Kp : World → World → Prop) (S Sp : List α → Prop) (N : Nat) (w : World) : Prop :=
  ∀ (l : Nat) (J Jx : List α → Option Nat → World → Prop) (W : World) (o₀ : Option Nat), Below w.heap.size w W → (∀ b, o₀ = some b → b < W.heap.size) → FarO W.heap.size J → FarO W.heap.size Jx → (∀ s o X, J s o X → RowO o X) → (∀ s o X, Jx s o X → RowO o X) →
    (∀ pre x o W1, J pre o W1 → Ok x W1 → pre.length < N → W.heap.size ≤ W1.heap.size → YieldAt F (n - 1) P l (encs x) W1 fun e W' => ∃ o', FreshO o o' W1 ∧ SinceO W.heap.size o W1 W' ∧
      ((e = .returned (.bool true) ∧ J (pre ++ [x]) o' W' ∧ Kp W1 W') ∨ (e = .returned (.bool false) ∧ Jx (pre ++ [x]) o' W'))) →
    J [] o₀ W →
    CallsIn F n P gf (pa ++ #[.func (.yield l) #[] #[]] ++ lb) W fun e W' => (∃ v, e = .returned v) ∧ ∃ o', FreshO o₀ o' W ∧ ((∃ xs, S xs ∧ J xs o' W') ∨ (∃ pre, Sp pre ∧ Jx pre o' W'))

/-- The law for a range that stands in no round. -/
theorem wpIn_rangeB {α : Type} {F : Fence} {n : Nat} {P : Program} {g : Operand} {ps : Array Tmp} {assign body : Code} {Q : Exit → Act → World → Prop} {a : Act} {w : World}
    (hro : F.round = none) (h1 : 1 ≤ n) {gf : Nat} {pa lb : Array Value} (hg : a.eval g = .func (.func gf) pa lb) (hFg : F.fn gf) (eg : ∀ args w, (callFunc gf args).run P w = .ok (.enter gf args) w)
    {encs : α → Array Value} {Ok : α → World → Prop} {Kp : World → World → Prop} {S Sp : List α → Prop} {N : Nat} {w0 : World} (hseq : SeqB F (n - 1) P gf pa lb encs Ok Kp S Sp N w0)
    (hKt : ∀ {A B C : World}, Kp A B → Kp B C → Kp A C) (hKb : ∀ (W : World) (l : Nat) (ob : Obj), w.heap.size ≤ l → l < W.heap.size → (∃ r, W.heap[l]? = some (.loop r)) → Kp W (W.putObj l ob)) (hb0 : Below w0.heap.size w0 w) (hps : ∀ x, (encs x).size = ps.size)
    (I : List α → Option Nat → World → Prop) (Ix : Code → List α → Option Nat → World → Prop) (hI : FarO w.heap.size I) (hIx : ∀ c, FarO w.heap.size (Ix c)) (o₀ : Option Nat) (ho₀ : ∀ b, o₀ = some b → b < w.heap.size) (h0 : I [] o₀ w)
    (Ax : α → Option Nat → Act → World → Prop) (hAx : ∀ (x : α) (o : Option Nat) (a' : Act) (W : World) (l : Nat) (ob : Obj) (r : Loop), W.heap[l]? = some (.loop r) → Ax x o a' W → Ax x o a' (W.putObj l ob))
    (hassign : ∀ (l : Nat) (pre : List α) (x : α) (o : Option Nat) (W : World) (K : Act → World → Prop), w.heap.size ≤ W.heap.size → (∀ b, o = some b → b < W.heap.size) → I pre o W → Ok x W → (∀ a' W', SinceO w.heap.size o W W' → Kp W W' → I pre o W' → Ax x o a' W' → K a' W') →
      assign.wpIn (F.inRound l) (n - 1 - 1) P (Exit.then K (fun _ _ _ => False)) { tmps := (ps.zip (encs x)).foldl (fun t (p, v) => t.setIfInBounds p v) a.tmps, defers := [] } W)
    (hrow : ∀ pre o W, I pre o W → RowO o W) (hrowx : ∀ c pre o W, Ix c pre o W → RowO o W)
    (hbody : ∀ (l : Nat) (pre : List α) (x : α) (o : Option Nat) (a' : Act) (W : World), w.heap.size ≤ W.heap.size → I pre o W → Ax x o a' W → pre.length < N →
      body.wpIn (F.inRound l) (n - 1 - 1) P (postO w.heap.size Kp I Ix (pre ++ [x]) o W) a' W)
    (hdone : ∀ (D : Nat) (xs : List α) (o : Option Nat) (W : World), w.heap.size ≤ D → FreshO o₀ o w → S xs → I xs o W → W.heap[D]? = some (.deferred (some [])) → some D ≠ o → Q .normal { a with defers := { target := .collected D, args := #[] } :: a.defers } W)
    (hstop : ∀ (D : Nat) (c : Code) (pre : List α) (o : Option Nat) (W : World), w.heap.size ≤ D → FreshO o₀ o w → Sp pre → Ix c pre o W → W.heap[D]? = some (.deferred (some [])) → some D ≠ o → c.wpIn F n P Q { a with defers := { target := .collected D, args := #[] } :: a.defers } W) :
    (Code.rangeFunc g ps assign body).wpIn F n P Q a w := by
  refine wpIn_rangeFunc fun fn hfn => ?_
  rw [hro]
  obtain ⟨rec, hrec⟩ : ∃ rec : LoopState → Option Code → Loop, rec = fun st pe => { state := st, pending := pe, fn, tmps := a.tmps, params := ps, assign, body, defers := w.heap.size } := ⟨_, rfl⟩
  obtain ⟨W1, hW1⟩ : ∃ W1, (w.alloc (.deferred (some []))).alloc (.loop (rec .ready none)) = W1 := ⟨_, rfl⟩
  have s1 : W1.heap.size = w.heap.size + 2 := by rw [← hW1]; simp
  have n0 : some w.heap.size ≠ o₀ := fun e => by have := ho₀ _ e.symm; omega
  have n1 : some (w.heap.size + 1) ≠ o₀ := fun e => by have := ho₀ _ e.symm; omega
  have H1 : HeldO rec w.heap.size .ready none o₀ W1 := by
    rw [← hW1]
    refine ⟨⟨?_, (Below.heap_alloc _ _ _ (by simp)).trans (World.alloc_heap_new w _)⟩, n0, n1⟩
    have := World.alloc_heap_new (w.alloc (.deferred (some []))) (.loop (rec .ready none))
    rwa [World.size_alloc] at this
  have I1 : I [] o₀ W1 := by rw [← hW1]; exact hI.lay (hI.lay h0 _) _
  have B1 : Below w0.heap.size w0 W1 := by
    rw [← hW1]; exact hb0.trans ((((Below.refl _ w).alloc (Nat.le_refl _) _).alloc (by simp) _).mono hb0.size)
  refine ⟨w.heap.size + 1, [{ target := .collected w.heap.size, args := #[] }], W1, { target := .fn (.func gf) lb, args := pa ++ #[.func (.yield (w.heap.size + 1)) #[] #[]] }, W1, gf,
    pa ++ #[.func (.yield (w.heap.size + 1)) #[] #[]] ++ lb, W1, ?_, ?_, ?_, ?_, fun _ => h1, ?_⟩
  · rw [← hW1, hrec]; exact run_enterLoop_outer _ _ _ _ _
  · simp only [resolve, hg]
    simp [go_sem]
  · intro f' hf'
    simp [Target.leads] at hf'
    exact hf' ▸ hFg
  · simp [invoke, go_sem, eg]
  have hI' : FarO W1.heap.size I := hI.less (by omega)
  have hH := fun st pe => (s1 ▸ held_farO rec w.heap.size st pe (β := List α) : FarO W1.heap.size _)
  refine (hseq (w.heap.size + 1) (fun pre o W => I pre o W ∧ HeldO rec w.heap.size .ready none o W) (fun pre o W => ∃ c, Ix c pre o W ∧ HeldO rec w.heap.size .done (some c) o W) W1 o₀ B1 (fun b e => by have := ho₀ b e; omega) (hI'.and (hH _ _))
    (fun s o X Y row hs hgr hr => by
      obtain ⟨c, hc, hh⟩ := hs
      exact ⟨c, (hIx c).less (by omega) s o X Y row hc hgr hr, hH _ _ s o X Y row hh hgr hr⟩) (fun s o X h => hrow _ _ _ h.1) (fun s o X h => h.elim fun c h => hrowx _ _ _ _ h.1) ?_ ⟨I1, H1⟩).mono ?_
  · rintro pre x o W ⟨hi, hh⟩ hok hlen hsz
    rw [s1] at hsz
    have hy := run_yield (P := P) (args := encs x) hh.1.1 (by rw [hrec]; exact hps x)
    rw [hrec] at hy
    refine ⟨fn, _, assign, body, hy, roundIn_of_wpIn hfn (hassign _ pre x o W _ (by omega) (RowO.lt (hrow _ _ _ hi)) hi hok ?_)⟩
    intro a' Wa hka hpa hia hax
    have ha := hh.since hka (.inl rfl) (Nat.le_refl _)
    have hb := ha.turn .busy none
    have hbegin := run_beginRound (P := P) ha.1.1 (by rw [hrec])
    have ebusy : ({ rec .ready none with state := .busy } : Loop) = rec .busy none := by rw [hrec]
    rw [ebusy] at hbegin
    refine ⟨_, hbegin, ?_⟩
    have hsa := hka.1
    have hsb : (Wa.putObj (w.heap.size + 1) (.loop (rec .busy none))).heap.size = Wa.heap.size := by simp [World.putObj]
    refine wpIn_mono (hbody _ pre x o a' _ (by rw [hsb]; omega) (hI.put hia (by omega) ha.2.2 _) (hAx _ _ _ _ _ _ _ ha.1.1 hax) hlen) ?_
    have fin : ∀ (jump : Option Code) (o' : Option Nat) (W3 : World), FreshO o o' (Wa.putObj (w.heap.size + 1) (.loop (rec .busy none))) → SinceO w.heap.size o (Wa.putObj (w.heap.size + 1) (.loop (rec .busy none))) W3 →
        (Instr.endRound (w.heap.size + 1) jump).run P W3 = .ok (.bool jump.isNone) (W3.putObj (w.heap.size + 1) (.loop (rec (if jump.isNone then .ready else .done) jump))) ∧
        HeldO rec w.heap.size (if jump.isNone then .ready else .done) jump o' (W3.putObj (w.heap.size + 1) (.loop (rec (if jump.isNone then .ready else .done) jump))) ∧ HeldO rec w.heap.size .busy none o' W3 := fun jump o' W3 hf hk3 => by
      have h3 := hb.since hk3 hf (Nat.le_refl _)
      have he := run_endRound (P := P) jump h3.1.1
      have e2 : ({ rec .busy none with state := if jump.isNone then .ready else .done, pending := jump } : Loop) = rec (if jump.isNone then .ready else .done) jump := by rw [hrec]
      rw [e2] at he
      exact ⟨he, h3.turn _ _, h3⟩
    have putFar : ∀ (o : Option Nat) (V : World) (ob : Obj), SinceO W1.heap.size o V (V.putObj (w.heap.size + 1) ob) := fun o V ob => ⟨by simp [World.putObj], fun b h2 _ _ => World.putObj_heap_other (by omega)⟩
    have keepAll : ∀ (ob : Obj) (o' : Option Nat) (W3 : World), SinceO w.heap.size o (Wa.putObj (w.heap.size + 1) (.loop (rec .busy none))) W3 → SinceO W1.heap.size o W (W3.putObj (w.heap.size + 1) ob) := fun ob o' W3 hk3 =>
      (((hka.less (by omega)).trans_ (putFar o Wa _)).trans_ (hk3.less (by omega))).trans_ (putFar o W3 _)
    intro e a3 W3 hp
    cases e with
    | normal =>
      obtain ⟨o', hf3, hk3, hp3, hi3⟩ := hp
      obtain ⟨he, h4, h5⟩ := fin none o' W3 hf3 hk3
      exact ⟨_, _, he, o', hf3.later (by rw [hsb]; exact hsa), keepAll _ o' _ hk3, .inl ⟨rfl, ⟨hI.put hi3 (by omega) h5.2.2 _, h4⟩, hKt hpa (hKt (hKb _ _ _ (by omega) ha.1.lt ⟨_, ha.1.1⟩) (hKt hp3 (hKb _ _ _ (by omega) h5.1.lt ⟨_, h5.1.1⟩)))⟩⟩
    | ret =>
      obtain ⟨o', hf3, hk3, hi3⟩ := hp
      obtain ⟨he, h4, h5⟩ := fin (some .ret) o' W3 hf3 hk3
      exact ⟨_, _, he, o', hf3.later (by rw [hsb]; exact hsa), keepAll _ o' _ hk3, .inr ⟨rfl, .ret, (hIx _).put hi3 (by omega) h5.2.2 _, h4⟩⟩
    | exit id =>
      obtain ⟨o', hf3, hk3, hi3⟩ := hp
      obtain ⟨he, h4, h5⟩ := fin (some (.exit id)) o' W3 hf3 hk3
      exact ⟨_, _, he, o', hf3.later (by rw [hsb]; exact hsa), keepAll _ o' _ hk3, .inr ⟨rfl, .exit id, (hIx _).put hi3 (by omega) h5.2.2 _, h4⟩⟩
    | goto t =>
      obtain ⟨o', hf3, hk3, hi3⟩ := hp
      obtain ⟨he, h4, h5⟩ := fin (some (.goto t)) o' W3 hf3 hk3
      exact ⟨_, _, he, o', hf3.later (by rw [hsb]; exact hsa), keepAll _ o' _ hk3, .inr ⟨rfl, .goto t, (hIx _).put hi3 (by omega) h5.2.2 _, h4⟩⟩
    | panic ch => exact hp.elim
    | outgrown => exact hp.elim
  · rintro e W2 ⟨⟨v, rfl⟩, o', hfo, (⟨xs, hS, hi, hh⟩ | ⟨pre, hSp, c, hc, hh⟩)⟩
    · have he := run_endLoop (P := P) hh.1.1 (by rw [hrec]; simp)
      rw [show (rec .ready none).pending = none by rw [hrec]] at he
      exact ⟨none, _, he, hdone _ xs o' _ (Nat.le_refl _) (hfo.later (by omega)) hS (hI.put hi (by omega) hh.2.2 _) ((World.putObj_heap_other (by omega)).trans hh.1.2) hh.2.1⟩
    · have he := run_endLoop (P := P) hh.1.1 (by rw [hrec]; simp)
      rw [show (rec .done (some c)).pending = some c by rw [hrec]] at he
      exact ⟨some c, _, he, hstop _ c pre o' _ (Nat.le_refl _) (hfo.later (by omega)) hSp ((hIx c).put hc (by omega) hh.2.2 _) ((World.putObj_heap_other (by omega)).trans hh.1.2) hh.2.1⟩

end Go.Proofs.YteglikljmkielaaGreatDoor

namespace Go.Proofs.YteglikljmkielaaGreatDoor
open Go.RowKit Go.Shelf
set_option linter.unusedSimpArgs false
set_option linter.unusedVariables false
attribute [local go_sem] Oper.semAt_some

set_option maxRecDepth 100000 in
set_option maxHeartbeats 8000000 in
theorem made1m_in (n : Nat) (hn : 9 ≤ n) (l g lo mm : Nat) (k p d c : Int) (hR : RightC k p) (hd : d = p - shortN k) (hc : c = p - shortN k + madeN k) (hg : lo ≤ g ∧ g < lo + mm) (W : World) (hW : lo + mm ≤ W.heap.size) (hL : Laid W)
    (J Jx : List ((Int × Int) × Value) → Option Nat → World → Prop) (o₀ : Option Nat) (ho₀ : ∀ b, o₀ = some b → b < W.heap.size) (hJ : FarO W.heap.size J) (hJx : FarO W.heap.size Jx) (hr1 : ∀ s o X, J s o X → RowO o X) (hr2 : ∀ s o X, Jx s o X → RowO o X)
    (hY : ∀ pre x o W1, J pre o W1 → (x.1 ∈ flatC p (spanL d c) ∧ Asks (memB k p x.1.1 x.1.2) x.2 W1) → pre.length < 1000 → W.heap.size ≤ W1.heap.size → YieldAt Fence.wide (n - 1) Tryz.prog l #[.agg #[.int .i64 x.1.1, .int .i64 x.1.2], x.2] W1 fun e W' => ∃ o', FreshO o o' W1 ∧ SinceO W.heap.size o W1 W' ∧ ((e = .returned (.bool true) ∧ J (pre ++ [x]) o' W' ∧ KeepL lo mm W1 W') ∨ (e = .returned (.bool false) ∧ Jx (pre ++ [x]) o' W')))
    (bg : Blk W g 51 #[.int .i64 k, .int .i64 p, .int .i64 d, .int .i64 c]) (h0 : J [] o₀ W) :
    CallsIn Fence.wide n Tryz.prog 62 #[.func (.yield l) #[] #[], .pointer (some ⟨g, 0, none⟩)] W fun e W' => (∃ v, e = .returned v) ∧ ∃ o', FreshO o₀ o' W ∧ ((∃ xs, xs.map (·.1) = flatC p (spanL d c) ∧ J xs o' W') ∨ (∃ pre, pre.map (·.1) <+: flatC p (spanL d c) ∧ Jx pre o' W')) := by
  obtain ⟨p1, p2, s1, s2, m1, m2⟩ := hR.und
  have HS := Lib.hid (fun W => span_any d c (by omega) (by omega) (by omega) W)
  have hne : spanL d c ≠ [] := fun e => by have := spanL_len d c; rw [e] at this; simp at this; omega
  have hsl : (spanL d c).length ≤ 20 := by rw [spanL_len]; omega
  have hcs : ∀ x ∈ spanL d c, HasCol k p x := fun x hm => ⟨by have := (spanL_mem hm).1; omega, by have := (spanL_mem hm).2; omega⟩
  have HDn := Lib.hid (fun W hL base v hb ho => setsDown_any k p d c hR (spanL d c) hne hcs hsl W hL base v hb ho)
  have HDD := Lib.hid hd
  have HCC := Lib.hid hc
  have HHR := Lib.hid hR
  have HY := Lib.hid hY
  have HR1 := Lib.hid hr1
  have HR2 := Lib.hid hr2
  have HMC : Hid (∀ m ∈ flatC p (spanL d c), HasCell k p m.1 m.2 ∧ d ≤ m.1) := fun m hm => by
    obtain ⟨x, hx, hm⟩ := List.mem_flatMap.1 hm
    obtain ⟨y, hy, rfl⟩ := List.mem_map.1 hm
    exact ⟨⟨hcs x hx, (rows_walk p hR.2).2.2 y hy⟩, (spanL_mem hx).1⟩
  have hzl : (flatC p (spanL d c)).length ≤ 320 := by have := flatC_len p hR.2 (spanL d c); omega
  clear hd hc hR hY hr1 hr2 hne hsl hcs s1 s2 m1 m2
  generalize spanL d c = cs at *
  refine callsIn_of_wp_marks Tryz.func62 rfl trivial ?_ rfl
  simp only [Tryz.ntmps62, List.size_toArray, List.length_cons, List.length_nil, Nat.reduceAdd, Nat.reduceSub, Array.replicate_succ, Array.replicate_zero, List.push_toArray, List.append_toArray, List.nil_append, List.cons_append]
  obtain ⟨W0, hW0⟩ : ∃ W0, W.alloc (.cells #[.func (.yield l) #[] #[]] 94) = W0 := ⟨_, rfl⟩
  have hB : Below W.heap.size W W0 := by rw [← hW0]; exact below_one W _
  have bY : Blk W0 W.heap.size 94 #[.func (.yield l) #[] #[]] := by rw [← hW0]; exact Blk.new W _ _
  have bg0 := bg.below hB bg.lt
  have hL0 := hL.next hB
  have hJ0 : J [] o₀ W0 := hJ.below h0 hB
  have hs0 := hB.size
  gi_wp2_with fail
  clear hW0
  refine wpIn_wide.2 ?_
  go_region_held3 (fun W => W.cell? ⟨g, 0, none⟩ = some (.int .i64 k) ∧ W.cell? ⟨g, 1, none⟩ = some (.int .i64 p) ∧ W.cell? ⟨g, 2, none⟩ = some (.int .i64 d) ∧ W.cell? ⟨g, 3, none⟩ = some (.int .i64 c))
    (exact ⟨bg0.cell 0, bg0.cell 1, bg0.cell 2, bg0.cell 3⟩) (first
    | (go_at_call 57; refine (HS.out _).mono ?_; rintro e w1 ⟨u1, rfl, ho1, hB1⟩; (first | replace bg0 := bg0.below hB1 bg0.lt | replace bg0 := bg0.nextd hB1); (first | replace bY := bY.below hB1 bY.lt | replace bY := bY.nextd hB1); (first | replace hJ0 := hJ.below hJ0 hB1 | replace hJ0 := hJ.below (hJ.below hJ0 (Below.refl _ _).drew) hB1); (first | replace hB := below_in hB hB1 | replace hB := below_in hB.drew hB1); have hL1 := (by first | exact Laid.next (w := W0.drew) hL0 hB1 | exact Laid.next (w := W0) hL0 hB1 : Laid w1))
    | (go_at_call 56; refine (HDn.out _ hL1 W.heap.size _ hB.size (OwnI.less ho1 hs0)).mono ?_; rintro e w7 ⟨u2, rfl, hsq, hB2⟩; replace bg0 := bg0.below hB2 bg0.lt; replace bY := bY.below hB2 bY.lt; replace hJ0 := hJ.below hJ0 hB2; replace hB := below_in hB hB2))
  go_wp2_with fail
  obtain ⟨gf, lb, rfl, eg, hsg⟩ := hsq
  have s7 := hB.size
  have hL7 := hL.next hB
  have hYo : some W.heap.size ≠ o₀ := fun e => by have := ho₀ _ e.symm; omega
  gi_wp2_with fail
  refine wpIn_rangeBoxO rfl (by omega) (gf := gf) (lb := lb) rfl trivial eg (hsg (n - 1) (by omega)) (fun h h' => h.trans h') (fun V l ob hl _ hlp => ⟨Keep.putFar V (by omega) ob, fun h => laid_put h hlp ob⟩) (Below.refl _ _) (fun _ => rfl)
    (fun pre oX X => ∃ xs, xs.map (·.1) = pre ∧ J xs oX X ∧ FreshO o₀ oX w7 ∧ Laid X ∧ Keep lo mm w7 X ∧ SinceO W.heap.size o₀ w7 X)
    (fun c pre oX X => c = .ret ∧ ∃ xs, xs.map (·.1) = pre ∧ Jx xs oX X ∧ FreshO o₀ oX w7 ∧ SinceO W.heap.size o₀ w7 X)
    ?hI ?hIx o₀ (fun b e => by have := ho₀ b e; omega) ⟨[], rfl, hJ0, .inl rfl, hL7, Keep.refl _ _ _, SinceO.refl _ _ _⟩
    (fun z => z ∈ flatC p cs) (fun _ _ h => h) 59 (fun z : Int × Int => #[.int .i64 z.1, .int .i64 z.2]) ?a1
    ?assign (fun pre o X h => by obtain ⟨xs, _, h1, _⟩ := h; exact HR1.out _ _ _ h1) (fun c pre o X h => by obtain ⟨_, xs, _, h1, _⟩ := h; exact HR2.out _ _ _ h1) ?body ?done ?stop
  case hI =>
    rintro s o X Y row ⟨xs, e1, hj, hf, hl, hk, hst⟩ hgr hr
    exact ⟨xs, e1, hJ _ o X Y row hj hgr (fun r e => ⟨by have := (hr r e).1; omega, (hr r e).2⟩), hf, farO_laid (β := Unit) hL7 (Nat.le_refl _) () o X Y row hl hgr hr, farO_keep (β := Unit) w7 (Nat.le_refl _) (by omega) () o X Y row hk hgr hr, farO_since (β := Unit) w7 o₀ (Nat.le_refl _) () o X Y row hst hgr hr⟩
  case hIx =>
    rintro c s o X Y row ⟨e0, xs, e1, hj, hf, hst⟩ hgr hr
    exact ⟨e0, xs, e1, hJx _ o X Y row hj hgr (fun r e => ⟨by have := (hr r e).1; omega, (hr r e).2⟩), hf, farO_since (β := Unit) w7 o₀ (Nat.le_refl _) () o X Y row hst hgr hr⟩
  case assign =>
    rintro l' pre z oX X KK hsz holX ⟨xs, e1, hj, hfX, hl, hkX, hst⟩ _ hKK
    gi_wp2
    have hbx := Blk.new X 59 #[.int .i64 z.1, .int .i64 z.2]
    have hBz := below_one X (.cells #[.int .i64 z.1, .int .i64 z.2] 59)
    have hSi : SinceO w7.heap.size oX X (X.alloc (.cells #[.int .i64 z.1, .int .i64 z.2] 59)) := SinceO.below hBz
    have hKe : KeepL W.heap.size (w7.heap.size - W.heap.size) X (X.alloc (.cells #[.int .i64 z.1, .int .i64 z.2] 59)) := ⟨Keep.alloc (by omega) _, fun h => h.next hBz⟩
    have hj2 := hJ.below hj hBz
    have hl2 := hl.next hBz
    have hkX2 := hkX.trans (Keep.below hBz (by have := hkX.1; omega))
    have hst2 := hst.trans hfX (SinceO.below hBz)
    have hne : some X.heap.size ≠ oX := fun e => by have := holX _ e.symm; omega
    clear hBz holX
    generalize X.alloc (.cells #[.int .i64 z.1, .int .i64 z.2] 59) = X' at *
    generalize X.heap.size = Bx at *
    exact hKK Bx _ hSi hKe ⟨xs, e1, hj2, hfX, hl2, hkX2, hst2⟩ hbx hne hsz
  case body =>
    rintro l' pre z oX Bx X hsz ⟨xs, e1, hj, hfX, hl, hkX, hst⟩ hbx hneB hleB hzm hlz
    have hYc := (hst.blk bY (Nat.le_refl _) hYo).one
    have hgX := hkX.blk bg0 hg.1 hg.2
    have g0 := hgX.cell 0
    have g1 := hgX.cell 1
    have g2 := hgX.cell 2
    have g3 := hgX.cell 3
    have z0 := hbx.cell 0
    have z1 := hbx.cell 1
    simp only [List.getElem?_toArray, List.getElem?_cons_zero, List.getElem?_cons_succ] at g0 g1 g2 g3 z0 z1
    obtain ⟨hzc, hzd⟩ := HMC.out z hzm
    have HAs : Hid (∀ V, Laid V → Calls Tryz.prog 41 #[.agg #[.int .i64 k, .int .i64 p, .int .i64 d, .int .i64 c], .agg #[.int .i64 z.1, .int .i64 z.2]] V fun e w' => ∃ v, e = .returned v ∧ Asks (memB k p z.1 z.2) v w' ∧ Below V.heap.size V w') := fun V hV =>
      (asker_any k p d c z.1 z.2 _ HHR.out HDD.out hzc.1 rfl (role_made HHR.out hzc HDD.out hzd) V hV).mono fun e w' ⟨v, e2, hA, hBv⟩ => ⟨v, e2, (by rw [HDD.out] at hA; exact hA), hBv⟩
    have hlx : xs.length < 1000 := by rw [← List.length_map (f := (·.1)), e1]; exact hlz
    have hmo := (show Tryz.prog.follows .mixedOrders = true by kernel_rfl)
    clear hzc hzd
    have hn3 : 1 ≤ n - 1 - 1 := by omega
    have hj0 := hJ.below hj (Below.refl _ _).drew
    have hl0 : Laid X.drew := hl
    have HPost : Hid (∀ (X2 W3 : World) (v : Value) (o' : Option Nat), Below X.drew.heap.size X.drew X2 → FreshO oX o' X2 → SinceO W.heap.size oX X2 W3 →
        ((J (xs ++ [(z, v)]) o' W3 ∧ KeepL lo mm X2 W3) → ∃ o', FreshO oX o' X ∧ SinceO w7.heap.size oX X W3 ∧ KeepL W.heap.size (w7.heap.size - W.heap.size) X W3 ∧ ∃ xs', xs'.map (·.1) = pre ++ [z] ∧ J xs' o' W3 ∧ FreshO o₀ o' w7 ∧ Laid W3 ∧ Keep lo mm w7 W3 ∧ SinceO W.heap.size o₀ w7 W3) ∧
        (Jx (xs ++ [(z, v)]) o' W3 → ∃ o', FreshO oX o' X ∧ SinceO w7.heap.size oX X W3 ∧ Code.ret = Code.ret ∧ ∃ xs', xs'.map (·.1) = pre ++ [z] ∧ Jx xs' o' W3 ∧ FreshO o₀ o' w7 ∧ SinceO W.heap.size o₀ w7 W3)) := fun X2 W3 v o' hB2 hf3 hS3 => by
      have hBX : Below X.heap.size X X2 := below_in (Below.refl _ _).drew hB2
      have hSx : SinceO W.heap.size oX X W3 := (SinceO.below hBX).trans_ hS3
      have hfx : FreshO oX o' X := hf3.later hBX.size
      have hmap : (xs ++ [(z, v)]).map (·.1) = pre ++ [z] := by rw [List.map_append, e1]; rfl
      refine ⟨fun ⟨h1, h2⟩ => ⟨o', hfx, hSx.less (by omega), ⟨hSx.keep (Nat.le_refl _) (by omega) (fun b e => ?_), fun h => h2.2 (h.next hBX)⟩, _, hmap, h1, hfX.trans hsz hfx, h2.2 (hl.next hBX), hkX.trans ((Keep.below hBX (by omega)).trans h2.1), hst.trans hfX hSx⟩, fun h => ⟨o', hfx, hSx.less (by omega), rfl, _, hmap, h, hfX.trans hsz hfx, hst.trans hfX hSx⟩⟩
      rcases hfX with rfl | ⟨b2, rfl, hb2⟩
      · have := ho₀ b e; omega
      · injection e with e; omega
    have HJ := Lib.hid hJ
    have hWB : W.heap.size ≤ Bx := by omega
    have hYo' : some W.heap.size ≠ oX := hfX.ne (by have := bY.lt; omega) hYo
    have hWX : W.heap.size ≤ X.heap.size := by omega
    clear e1 hlz hj hJ hJx hst hkX hfX hl hbx hgX hW hsg hL7 s7 hL0 hL hs0 hB
    gi_wp2_with fail
    have hS : (fun V : World => V.cell? ⟨W.heap.size, 0, none⟩ = some (.func (.yield l) #[] #[]) ∧ V.cell? ⟨Bx, 0, none⟩ = some (.int .i64 z.1) ∧ V.cell? ⟨Bx, 1, none⟩ = some (.int .i64 z.2)) X.drew := ⟨hYc, z0, z1⟩
    refine region_HF (S := fun V => V.cell? ⟨W.heap.size, 0, none⟩ = some (.func (.yield l) #[] #[]) ∧ V.cell? ⟨Bx, 0, none⟩ = some (.int .i64 z.1) ∧ V.cell? ⟨Bx, 1, none⟩ = some (.int .i64 z.2)) (by kernel_rfl) ?_
    refine anyHF_take (i := 0) (d := 12) (v := .func (.yield l) #[] #[]) (by kernel_rfl) rfl (by kernel_rfl) (by kernel_rfl) (by kernel_rfl) rfl (fun _ _ _ h => h) ⟨Or.inl ⟨by rfl, fun w hS => by obtain ⟨h0, h1, h2⟩ := hS; go_simp⟩, fun _ => rfl⟩ hS ?_
    simp only [List.setIfInBounds_toArray, List.set_cons_zero, List.set_cons_succ]
    refine anyHF_take (i := 1) (d := 13) (v := .agg #[.int .i64 z.1, .int .i64 z.2]) (by kernel_rfl) rfl (by kernel_rfl) (by kernel_rfl) (by kernel_rfl) rfl (fun _ _ _ h => h) ⟨Or.inl ⟨by rfl, fun w hS => by obtain ⟨h0, h1, h2⟩ := hS; go_simp⟩, fun _ => rfl⟩ hS ?_
    simp only [List.setIfInBounds_toArray, List.set_cons_zero, List.set_cons_succ]
    refine anyHF_take (i := 3) (d := 15) (v := .agg #[.int .i64 z.1, .int .i64 z.2]) (by kernel_rfl) rfl (by kernel_rfl) (by kernel_rfl) (by kernel_rfl) rfl (fun _ _ _ h => h) ⟨Or.inl ⟨by rfl, fun w hS => by obtain ⟨h0, h1, h2⟩ := hS; go_simp⟩, fun _ => rfl⟩ hS ?_
    simp only [List.setIfInBounds_toArray, List.set_cons_zero, List.set_cons_succ]
    refine anyHF_one (i := 2) (by kernel_rfl) rfl (by kernel_rfl) (by rfl) ?_
    gi_wp2
    refine anyHF_one (i := 4) (by kernel_rfl) rfl (by kernel_rfl) (by rfl) ?_
    gi_wp2_with fail
    refine ⟨trivial, (CallsIn.inRound l' (callsIn_wide.2 (HAs.out _ hl0))).mono ?_⟩
    rintro e X2 ⟨v, rfl, hA, hB2⟩
    have hj2 := HJ.out.below hj0 hB2
    have hY2 := nextcd hYc hB2
    have y0 := nextcd z0 hB2
    have y1 := nextcd z1 hB2
    obtain ⟨fn, tmps, asg, bdy, hy, hRr⟩ := YieldAt.deep (m := n - 1 - 1 - 1) (HY.out xs (z, v) oX X2 hj2 ⟨hzm, hA⟩ hlx (by have := hB2.size; simp at this; omega))
    clear hS
    gi_wp2
    refine anyHF_one (i := 5) (by kernel_rfl) rfl (by kernel_rfl) (by rfl) ?_
    gi_wp2
    refine hRr.mono ?_
    rintro e W3 hw3
    obtain ⟨bb, rfl, o', hf3, hS3, hyes, hno⟩ := one_way hw3
    clear hw3 hRr hy
    have hX2 := hB2.size
    have cY3 : W3.cell? ⟨W.heap.size, 0, none⟩ = some (.func (.yield l) #[] #[]) := (World.cell?_of_block (hS3.2 W.heap.size (Nat.le_refl _) (cell_lt hY2) hYo')).trans hY2
    have cz0 : W3.cell? ⟨Bx, 0, none⟩ = some (.int .i64 z.1) := (World.cell?_of_block (hS3.2 Bx (by omega) (cell_lt y0) hneB)).trans y0
    have cz1 : W3.cell? ⟨Bx, 1, none⟩ = some (.int .i64 z.2) := (World.cell?_of_block (hS3.2 Bx (by omega) (cell_lt y1) hneB)).trans y1
    have hpo := HPost.out _ _ v _ hB2 hf3 hS3
    gi_wp2
    refine anyHF_one (i := 6) (by kernel_rfl) rfl (by kernel_rfl) (by rfl) ?_
    gi_wp2
    refine anyHF_done (by kernel_rfl) ?_ _
    clear HPost hYc z0 z1 g0 g1 g2 g3 hA HAs HJ HY hj0 hj2
    cases bb
    · gi_wp2
      obtain ⟨o2, a1, a2, _, a4⟩ := hpo.2 (hno (by trivial))
      exact ⟨o2, a1, a2, rfl, a4⟩
    · gi_wp2
      exact hpo.1 (hyes (by trivial))
  case done =>
    rintro D xs' oX X hD _ rfl ⟨xs, e1, hj, hfX, hl, hkX, hst⟩ hKD hneD
    have hfo : FreshO o₀ oX W := hfX.later s7
    gi_wp2
    exact leaves_farO (B := W.heap.size) (I := fun (_ : Unit) o X => J xs o X) (fun s o X Y row hs hg hr => hJ _ o X Y row hs hg hr) () oX (fun X h => HR1.out _ _ _ h) [D] _ ⟨by simp, fun E hE => by obtain rfl := List.mem_singleton.1 hE; exact ⟨by omega, hKD⟩⟩ hj (fun W' h => ⟨_, results_none rfl _ _ _, ⟨_, rfl⟩, oX, hfo, .inl ⟨xs, e1, h⟩⟩)
  case stop =>
    rintro D c pre oX X hD _ hSp ⟨rfl, xs, e1, hjx, hfX, hst⟩ hKD _
    have hfo : FreshO o₀ oX W := hfX.later s7
    gi_wp2
    exact leaves_farO (B := W.heap.size) (I := fun (_ : Unit) o X => Jx xs o X) (fun s o X Y row hs hg hr => hJx _ o X Y row hs hg hr) () oX (fun X h => HR2.out _ _ _ h) [D] _ ⟨by simp, fun E hE => by obtain rfl := List.mem_singleton.1 hE; exact ⟨by omega, hKD⟩⟩ hjx (fun W' h => ⟨_, results_none rfl _ _ _, ⟨_, rfl⟩, oX, hfo, .inr ⟨xs, by rw [e1]; exact hSp, h⟩⟩)
/-- The function v goes over the made cells zs, each with what asks for its members. -/
def Seqs2m (lo : Nat) (k p : Int) (zs : List (Int × Int)) (v : Value) (w : World) : Prop :=
  ∃ gf lb, v = .func (.func gf) #[] lb ∧ (∀ args W, (callFunc gf args).run Tryz.prog W = .ok (.enter gf args) W) ∧
    ∀ n, 9 ≤ n → SeqO Fence.wide n Tryz.prog gf lb (fun x : (Int × Int) × Value => #[.agg #[.int .i64 x.1.1, .int .i64 x.1.2], x.2]) (fun x W => x.1 ∈ zs ∧ Asks (memB k p x.1.1 x.1.2) x.2 W) (KeepL lo (w.heap.size - lo)) (fun ys => ys.map (·.1) = zs) (fun pre => pre.map (·.1) <+: zs) 1000 w
set_option maxHeartbeats 1000000 in
theorem madem_any (k p d c : Int) (hR : RightC k p) (hd : d = p - shortN k) (hc : c = p - shortN k + madeN k) (w : World) (hL : Laid w) :
    Calls Tryz.prog 50 #[.agg #[.int .i64 k, .int .i64 p, .int .i64 d, .int .i64 c]] w fun e w' => ∃ u, e = .returned u ∧ Seqs2m w.heap.size k p (flatC p (spanL d c)) u w' ∧ Below w.heap.size w w' := by
  have hmf := make_func
  have HDD := Lib.hid hd
  have HCC := Lib.hid hc
  clear hd hc
  have bg := Blk.new w 51 #[.int .i64 k, .int .i64 p, .int .i64 d, .int .i64 c]
  have hB := below_one w (.cells #[.int .i64 k, .int .i64 p, .int .i64 d, .int .i64 c] 51)
  go_enter Tryz.func50, Tryz.ntmps50
  go_wp2
  go_ret
  have hL2 := hL.next hB
  refine ⟨_, rfl, ⟨_, _, rfl, enter_made1, ?_⟩, hB⟩
  intro n hn l J Jx W o₀ hW ho₀ hJ hJx hr1 hr2 hY h0
  have hsz := hW.size
  simp at hsz
  exact made1m_in n hn l w.heap.size w.heap.size _ k p d c hR HDD.out HCC.out ⟨Nat.le_refl _, by simp⟩ W (by simp; omega) (hL2.next hW) J Jx o₀ ho₀ hJ hJx hr1 hr2 hY (bg.below hW bg.lt) h0

end Go.Proofs.YteglikljmkielaaGreatDoor

namespace Go.Proofs.YteglikljmkielaaGreatDoor
open Go.RowKit Go.Shelf
set_option linter.unusedSimpArgs false
set_option linter.unusedVariables false
attribute [local go_sem] Oper.semAt_some

/-- A made cell and its members, as they come. -/
def LineOk (k p : Int) (zs : List (Int × Int)) (x : (Int × Int) × Value) (W : World) : Prop := x.1 ∈ zs ∧ ReadP W.heap.size W x.2 (memL k p x.1.1 x.1.2)
set_option maxRecDepth 100000 in
set_option maxHeartbeats 8000000 in
theorem lines_in (n : Nat) (hn : 14 ≤ n) (l lo mm : Nat) (k p d c : Int) (hR : RightC k p) (hd : d = p - shortN k) (hc : c = p - shortN k + madeN k) (W : World) (hW : lo + mm ≤ W.heap.size) (hL : Laid W)
    (J Jx : List ((Int × Int) × Value) → Option Nat → World → Prop) (o₀ : Option Nat) (ho₀ : ∀ b, o₀ = some b → b < W.heap.size) (hJ : FarO W.heap.size J) (hJx : FarO W.heap.size Jx) (hr1 : ∀ s o X, J s o X → RowO o X) (hr2 : ∀ s o X, Jx s o X → RowO o X)
    (hY : ∀ pre x o W1, J pre o W1 → LineOk k p (flatC p (spanL d c)) x W1 → pre.length < 1000 → W.heap.size ≤ W1.heap.size → YieldAt Fence.wide (n - 1) Tryz.prog l #[.agg #[.int .i64 x.1.1, .int .i64 x.1.2], x.2] W1 fun e W' => ∃ o', FreshO o o' W1 ∧ SinceO W.heap.size o W1 W' ∧ ((e = .returned (.bool true) ∧ J (pre ++ [x]) o' W' ∧ KeepL lo mm W1 W') ∨ (e = .returned (.bool false) ∧ Jx (pre ++ [x]) o' W')))
    (h0 : J [] o₀ W) :
    CallsIn Fence.wide n Tryz.prog 35 #[.agg #[.int .i64 k, .int .i64 p, .int .i64 d, .int .i64 c], .func (.yield l) #[] #[]] W fun e W' => (∃ v, e = .returned v) ∧ ∃ o', FreshO o₀ o' W ∧ ((∃ xs, xs.map (·.1) = flatC p (spanL d c) ∧ J xs o' W') ∨ (∃ pre, pre.map (·.1) <+: flatC p (spanL d c) ∧ Jx pre o' W')) := by
  obtain ⟨p1, p2, s1, s2, m1, m2⟩ := hR.und
  have HM := Lib.hid (fun W hL => madem_any k p d c hR hd hc W hL)
  have HDD := Lib.hid hd
  have HHR := Lib.hid hR
  have HY := Lib.hid hY
  have HR1 := Lib.hid hr1
  have HR2 := Lib.hid hr2
  have HMC : Hid (∀ m ∈ flatC p (spanL d c), HasCell k p m.1 m.2 ∧ d ≤ m.1) := fun m hm => by
    obtain ⟨h3, h4⟩ := flatC_mem' hm
    have h5 := spanL_mem h3
    exact ⟨⟨⟨by omega, by omega⟩, h4⟩, h5.1⟩
  clear hd hc hR hY hr1 hr2 s1 s2 m1 m2
  generalize flatC p (spanL d c) = zs at *
  refine callsIn_of_wp_marks Tryz.func35 rfl trivial ?_ rfl
  simp only [Tryz.ntmps35, List.size_toArray, List.length_cons, List.length_nil, Nat.reduceAdd, Nat.reduceSub, Array.replicate_succ, Array.replicate_zero, List.push_toArray, List.append_toArray, List.nil_append, List.cons_append]
  obtain ⟨W0, hW0⟩ : ∃ W0, (W.alloc (.cells #[.int .i64 k, .int .i64 p, .int .i64 d, .int .i64 c] 51)).alloc (.cells #[.func (.yield l) #[] #[]] 58) = W0 := ⟨_, rfl⟩
  have hB : Below W.heap.size W W0 := by rw [← hW0]; exact below_two W _ _
  have bg0 : Blk W0 W.heap.size 51 #[.int .i64 k, .int .i64 p, .int .i64 d, .int .i64 c] := by rw [← hW0]; exact (Blk.new W _ _).alloc _
  have bY : Blk W0 (W.heap.size + 1) 58 #[.func (.yield l) #[] #[]] := by rw [← hW0]; exact Blk.second W _ _ _
  have hL0 := hL.next hB
  have hJ0 : J [] o₀ W0 := hJ.below h0 hB
  have hs0 := hB.size
  have hs02 : W0.heap.size = W.heap.size + 2 := by rw [← hW0]; simp
  have c0 := bg0.cell 0; have c1 := bg0.cell 1; have c2 := bg0.cell 2; have c3 := bg0.cell 3; simp only [List.getElem?_toArray, List.getElem?_cons_zero, List.getElem?_cons_succ] at c0 c1 c2 c3
  gi_wp2_with fail
  refine wpIn_scope_wide ?_
  gi_wp2_with fail
  refine wpIn_label ?_
  gi_wp2_with fail
  clear hW0
  refine ⟨trivial, fun _ => by omega, (callsIn_wide.2 (HM.out _ hL0)).mono ?_⟩
  rintro e w7 ⟨u7, rfl, ⟨gf, lb, rfl, eg, hsg⟩, hB7⟩
  clear c0 c1 c2 c3 HM
  replace bg0 := bg0.below hB7 bg0.lt
  replace bY := bY.below hB7 bY.lt
  replace hJ0 := hJ.below hJ0 hB7
  have hB := below_in hB hB7
  have s7 := hB7.size
  have hL7 := hL.next hB
  have hYo : some (W.heap.size + 1) ≠ o₀ := fun e => by have := ho₀ _ e.symm; omega
  have hCo : some W.heap.size ≠ o₀ := fun e => by have := ho₀ _ e.symm; omega
  gi_wp2_with fail
  refine wpIn_rangeBoxP rfl (by omega) (gf := gf) (lb := lb) rfl trivial eg (hsg _ (by omega)) (fun h h' => h.trans h') (fun V l ob hl _ hlp => ⟨Keep.putFar V (by omega) ob, fun h => laid_put h hlp ob⟩) (Below.refl _ _) (fun _ => rfl)
    (fun pre oX X => ∃ xs : List ((Int × Int) × Value), xs.map (·.1) = pre.map (·.1) ∧ J xs oX X ∧ FreshO o₀ oX w7 ∧ Laid X ∧ Keep lo mm w7 X ∧ SinceO W.heap.size o₀ w7 X)
    (fun q pre oX X => q = .exit 0 ∧ ∃ xs : List ((Int × Int) × Value), xs.map (·.1) = pre.map (·.1) ∧ Jx xs oX X ∧ FreshO o₀ oX w7 ∧ SinceO W.heap.size o₀ w7 X)
    ?hI ?hIx o₀ (fun b e => by have := ho₀ b e; omega) ⟨[], rfl, hJ0, .inl rfl, hL7, Keep.refl _ _ _, SinceO.refl _ _ _⟩
    (fun z X => z.1 ∈ zs ∧ Asks (memB k p z.1.1 z.1.2) z.2 X) (fun z V l ob hl h => ⟨h.1, h.2.sub (Sub.put hl ob)⟩) 59 (fun z : (Int × Int) × Value => #[.int .i64 z.1.1, .int .i64 z.1.2]) ?a1
    ?assign (fun pre o X h => by obtain ⟨xs, _, h1, _⟩ := h; exact HR1.out _ _ _ h1) (fun c pre o X h => by obtain ⟨_, xs, _, h1, _⟩ := h; exact HR2.out _ _ _ h1) ?body ?done ?stop
  case hI =>
    rintro s o X Y row ⟨xs, e1, hj, hf, hl, hk, hst⟩ hgr hr
    exact ⟨xs, e1, hJ _ o X Y row hj hgr (fun r e => ⟨by have := (hr r e).1; omega, (hr r e).2⟩), hf, farO_laid (β := Unit) hL7 (Nat.le_refl _) () o X Y row hl hgr hr, farO_keep (β := Unit) w7 (Nat.le_refl _) (by omega) () o X Y row hk hgr hr, farO_since (β := Unit) w7 o₀ (Nat.le_refl _) () o X Y row hst hgr hr⟩
  case hIx =>
    rintro c s o X Y row ⟨e0, xs, e1, hj, hf, hst⟩ hgr hr
    exact ⟨e0, xs, e1, hJx _ o X Y row hj hgr (fun r e => ⟨by have := (hr r e).1; omega, (hr r e).2⟩), hf, farO_since (β := Unit) w7 o₀ (Nat.le_refl _) () o X Y row hst hgr hr⟩
  case assign =>
    rintro l' pre z oX X KK hsz holX ⟨xs, e1, hj, hfX, hl, hkX, hst⟩ hok hKK
    gi_wp2
    have hbx := Blk.new X 59 #[.int .i64 z.1.1, .int .i64 z.1.2]
    have hBz := below_one X (.cells #[.int .i64 z.1.1, .int .i64 z.1.2] 59)
    have hSi : SinceO w7.heap.size oX X (X.alloc (.cells #[.int .i64 z.1.1, .int .i64 z.1.2] 59)) := SinceO.below hBz
    have hKe : KeepL W0.heap.size (w7.heap.size - W0.heap.size) X (X.alloc (.cells #[.int .i64 z.1.1, .int .i64 z.1.2] 59)) := ⟨Keep.alloc (by omega) _, fun h => h.next hBz⟩
    have hj2 := hJ.below hj hBz
    have hl2 := hl.next hBz
    have hkX2 := hkX.trans (Keep.below hBz (by have := hkX.1; omega))
    have hst2 := hst.trans hfX (SinceO.below hBz)
    have hne : some X.heap.size ≠ oX := fun e => by have := holX _ e.symm; omega
    have hok2 := And.intro hok.1 (hok.2.next hBz)
    clear hBz holX hok
    generalize X.alloc (.cells #[.int .i64 z.1.1, .int .i64 z.1.2] 59) = X' at *
    generalize X.heap.size = Bx at *
    exact hKK Bx _ hSi hKe ⟨xs, e1, hj2, hfX, hl2, hkX2, hst2⟩ hbx hne hsz hok2
  case body =>
    rintro l' pre z oX Bx X hsz ⟨xs, e1, hj, hfX, hl, hkX, hst⟩ hbx hneB hleB ⟨hzm, hask⟩ hlz
    obtain ⟨⟨zx, zy⟩, zv⟩ := z
    simp only at hzm hask hbx
    have hYc := (hst.blk bY (by omega) hYo).one
    have hgX := hst.blk bg0 (Nat.le_refl _) hCo
    have g0 := hgX.cell 0
    have g1 := hgX.cell 1
    have g2 := hgX.cell 2
    have g3 := hgX.cell 3
    have z0 := hbx.cell 0
    have z1 := hbx.cell 1
    simp only [List.getElem?_toArray, List.getElem?_cons_zero, List.getElem?_cons_succ] at g0 g1 g2 g3 z0 z1
    obtain ⟨hzc, hzd⟩ := HMC.out (zx, zy) hzm
    simp only at hzc hzd
    have hzd2 : p - shortN k ≤ zx := by rw [← HDD.out]; exact hzd
    have hzx : 1 ≤ zx ∧ zx ≤ 20 := by obtain ⟨q1, q2, q3, q4, q5, q6⟩ := HHR.out.und; have := hzc.1.2; omega
    have HAh := Lib.hid (fun V hV => ahead_any k p d c zx zy HHR.out hzx.1 hzx.2 (fun x hm => ⟨(spanL_mem hm).1, by have := (spanL_mem hm).2; have := hzc.1.2; omega⟩) V hV)
    have hzl : (flatC p (spanL 0 zx)).length ≤ 1000 := by have := flatC_len p HHR.out.2 (spanL 0 zx); rw [spanL_len] at this; omega
    have HGa := Lib.hid (fun lo v1 v2 V hL hlo h1 h2 => gathered_any (fun x y => memB k p zx zy x y) _ hzl lo v1 v2 V hL hlo h1 h2)
    have HTo : Hid (∀ V base v, base ≤ V.heap.size → OwnP V base v (memL k p zx zy) → Calls Tryz.prog 37 #[v] V fun e w' => ∃ u, e = .returned u ∧ ReadP w'.heap.size w' u (memL k p zx zy) ∧ Below base V w') := fun V base v hb ho =>
      (told_any V base v _ (memL_ne HHR.out hzc hzd2) (sorted_nodup (memL_sorted _ _ _ _)) (memL_len HHR.out hzc) hb ho).mono fun e w' ⟨u, s, e2, hp, hst, hrd, hBt⟩ => ⟨u, e2, by rw [sorted_one hp hst (memL_sorted _ _ _ _)] at hrd; exact hrd, hBt⟩
    change Hid (∀ (lo : Nat) (v1 v2 : Value) (V : World), Laid V → lo ≤ V.heap.size → Asks (fun x y => memB k p zx zy x y) v1 V → Seqs lo (flatC p (spanL 0 zx)) v2 V → Calls Tryz.prog 40 #[v1, v2] V fun e w' => ∃ u, e = .returned u ∧ OwnP w' V.heap.size u (memL k p zx zy) ∧ Below V.heap.size V w') at HGa
    have hlx : xs.length < 1000 := by rw [← List.length_map (f := (·.1)), e1, List.length_map]; exact hlz
    have hn3 : 1 ≤ n - 1 - 1 := by omega
    have HPost : Hid (∀ (X2 W3 : World) (v : Value) (o' : Option Nat), Below X.heap.size X X2 → FreshO oX o' X2 → SinceO W.heap.size oX X2 W3 →
        ((J (xs ++ [((zx, zy), v)]) o' W3 ∧ KeepL lo mm X2 W3) → ∃ o', FreshO oX o' X ∧ SinceO w7.heap.size oX X W3 ∧ KeepL W0.heap.size (w7.heap.size - W0.heap.size) X W3 ∧ ∃ xs' : List ((Int × Int) × Value), xs'.map (·.1) = (pre ++ [((zx, zy), zv)]).map (·.1) ∧ J xs' o' W3 ∧ FreshO o₀ o' w7 ∧ Laid W3 ∧ Keep lo mm w7 W3 ∧ SinceO W.heap.size o₀ w7 W3) ∧
        (Jx (xs ++ [((zx, zy), v)]) o' W3 → ∃ o', FreshO oX o' X ∧ SinceO w7.heap.size oX X W3 ∧ Code.exit 0 = Code.exit 0 ∧ ∃ xs' : List ((Int × Int) × Value), xs'.map (·.1) = (pre ++ [((zx, zy), zv)]).map (·.1) ∧ Jx xs' o' W3 ∧ FreshO o₀ o' w7 ∧ SinceO W.heap.size o₀ w7 W3)) := fun X2 W3 v o' hBX hf3 hS3 => by
      have hSx : SinceO W.heap.size oX X W3 := (SinceO.below hBX).trans_ hS3
      have hfx : FreshO oX o' X := hf3.later hBX.size
      have hmap : (xs ++ [((zx, zy), v)]).map (·.1) = (pre ++ [((zx, zy), zv)]).map (·.1) := by rw [List.map_append, e1, List.map_append]; rfl
      refine ⟨fun ⟨h1, h2⟩ => ⟨o', hfx, hSx.less (by omega), ⟨hSx.keep (by omega) (by omega) (fun b e => ?_), fun h => h2.2 (h.next hBX)⟩, _, hmap, h1, hfX.trans hsz hfx, h2.2 (hl.next hBX), hkX.trans ((Keep.below hBX (by omega)).trans h2.1), hst.trans hfX hSx⟩, fun h => ⟨o', hfx, hSx.less (by omega), rfl, _, hmap, h, hfX.trans hsz hfx, hst.trans hfX hSx⟩⟩
      rcases hfX with rfl | ⟨b2, rfl, hb2⟩
      · have := ho₀ b e; omega
      · injection e with e; omega
    have HJ := Lib.hid hJ
    have hWX : W.heap.size ≤ X.heap.size := by omega
    have hneY : some (W.heap.size + 1) ≠ oX := hfX.ne (by have := bY.lt; omega) hYo
    have hneC : some W.heap.size ≠ oX := hfX.ne (by have := bg0.lt; omega) hCo
    have hWB : W.heap.size ≤ Bx := by omega
    have hbl := hbx.lt
    have hYl : W.heap.size + 1 < X.heap.size := by have := bY.lt; omega
    clear hlz hst hkX hfX hW hL7 hL0 hL hs0 hB hbx hgX hzl bg0 bY hzc hzd hzd2 hzx e1 hJ0 h0 hJ hJx HMC ho₀ hYo hCo
    gi_wp2_with fail
    have hS : (fun V : World => V.cell? ⟨W.heap.size + 1, 0, none⟩ = some (.func (.yield l) #[] #[]) ∧ V.cell? ⟨W.heap.size, 0, none⟩ = some (.int .i64 k) ∧ V.cell? ⟨W.heap.size, 1, none⟩ = some (.int .i64 p) ∧ V.cell? ⟨W.heap.size, 2, none⟩ = some (.int .i64 d) ∧ V.cell? ⟨W.heap.size, 3, none⟩ = some (.int .i64 c) ∧ V.cell? ⟨Bx, 0, none⟩ = some (.int .i64 zx) ∧ V.cell? ⟨Bx, 1, none⟩ = some (.int .i64 zy)) X.drew := ⟨hYc, g0, g1, g2, g3, z0, z1⟩
    refine region_HF (S := (fun V : World => V.cell? ⟨W.heap.size + 1, 0, none⟩ = some (.func (.yield l) #[] #[]) ∧ V.cell? ⟨W.heap.size, 0, none⟩ = some (.int .i64 k) ∧ V.cell? ⟨W.heap.size, 1, none⟩ = some (.int .i64 p) ∧ V.cell? ⟨W.heap.size, 2, none⟩ = some (.int .i64 d) ∧ V.cell? ⟨W.heap.size, 3, none⟩ = some (.int .i64 c) ∧ V.cell? ⟨Bx, 0, none⟩ = some (.int .i64 zx) ∧ V.cell? ⟨Bx, 1, none⟩ = some (.int .i64 zy))) (by kernel_rfl) ?_
    refine anyHF_take (i := 0) (d := 10) (v := .func (.yield l) #[] #[]) (by kernel_rfl) rfl (by kernel_rfl) (by kernel_rfl) (by kernel_rfl) rfl (fun _ _ _ h => h) ⟨Or.inl ⟨by rfl, fun w hS => by obtain ⟨h0, h1, h2, h3, h4, h5, h6⟩ := hS; go_simp⟩, fun _ => rfl⟩ hS ?_
    simp only [List.setIfInBounds_toArray, List.set_cons_zero, List.set_cons_succ]
    refine anyHF_take (i := 1) (d := 11) (v := .agg #[.int .i64 zx, .int .i64 zy]) (by kernel_rfl) rfl (by kernel_rfl) (by kernel_rfl) (by kernel_rfl) rfl (fun _ _ _ h => h) ⟨Or.inl ⟨by rfl, fun w hS => by obtain ⟨h0, h1, h2, h3, h4, h5, h6⟩ := hS; go_simp⟩, fun _ => rfl⟩ hS ?_
    simp only [List.setIfInBounds_toArray, List.set_cons_zero, List.set_cons_succ]
    refine anyHF_take (i := 2) (d := 12) (v := zv) (by kernel_rfl) rfl (by kernel_rfl) (by kernel_rfl) (by kernel_rfl) rfl (fun _ _ _ h => h) ⟨Or.inl ⟨by rfl, fun w hS => by obtain ⟨h0, h1, h2, h3, h4, h5, h6⟩ := hS; go_simp⟩, fun _ => rfl⟩ hS ?_
    simp only [List.setIfInBounds_toArray, List.set_cons_zero, List.set_cons_succ]
    refine anyHF_take (i := 3) (d := 13) (v := .agg #[.int .i64 k, .int .i64 p, .int .i64 d, .int .i64 c]) (by kernel_rfl) rfl (by kernel_rfl) (by kernel_rfl) (by kernel_rfl) rfl (fun _ _ _ h => h) ⟨Or.inl ⟨by rfl, fun w hS => by obtain ⟨h0, h1, h2, h3, h4, h5, h6⟩ := hS; go_simp⟩, fun _ => rfl⟩ hS ?_
    simp only [List.setIfInBounds_toArray, List.set_cons_zero, List.set_cons_succ]
    refine anyHF_take (i := 4) (d := 14) (v := .agg #[.int .i64 zx, .int .i64 zy]) (by kernel_rfl) rfl (by kernel_rfl) (by kernel_rfl) (by kernel_rfl) rfl (fun _ _ _ h => h) ⟨Or.inl ⟨by rfl, fun w hS => by obtain ⟨h0, h1, h2, h3, h4, h5, h6⟩ := hS; go_simp⟩, fun _ => rfl⟩ hS ?_
    simp only [List.setIfInBounds_toArray, List.set_cons_zero, List.set_cons_succ]
    refine anyHF_one (i := 5) (by kernel_rfl) rfl (by kernel_rfl) (by rfl) ?_
    gi_wp2_with fail
    refine ⟨trivial, (CallsIn.inRound l' (callsIn_wide.2 (HAh.out X.drew hl))).mono ?_⟩
    rintro e X2 ⟨u2, rfl, hsq2, hB2⟩
    replace hB2 := below_undrew hB2
    have hl2 := hl.next hB2
    have hA2 := hask.next hB2
    have Y2 := nextc hYc hB2
    have q20 := nextc g0 hB2
    have q21 := nextc g1 hB2
    have q22 := nextc g2 hB2
    have q23 := nextc g3 hB2
    have r20 := nextc z0 hB2
    have r21 := nextc z1 hB2
    clear hS
    gi_wp2
    refine anyHF_one (i := 6) (by kernel_rfl) rfl (by kernel_rfl) (by rfl) ?_
    gi_wp2_with fail
    refine ⟨trivial, (CallsIn.inRound l' (callsIn_wide.2 (HGa.out X.heap.size zv u2 X2 hl2 hB2.size hA2 hsq2))).mono ?_⟩
    rintro e X3 ⟨u3, rfl, ho3, hB3⟩
    have hBX3 := below_in hB2 hB3
    have Y3 := nextc hYc hBX3
    have q30 := nextc g0 hBX3
    have q31 := nextc g1 hBX3
    have q32 := nextc g2 hBX3
    have q33 := nextc g3 hBX3
    have r30 := nextc z0 hBX3
    have r31 := nextc z1 hBX3
    gi_wp2
    refine anyHF_one (i := 7) (by kernel_rfl) rfl (by kernel_rfl) (by rfl) ?_
    gi_wp2_with fail
    refine ⟨trivial, (CallsIn.inRound l' (callsIn_wide.2 (HTo.out X3 X2.heap.size u3 hB3.size ho3))).mono ?_⟩
    rintro e X4 ⟨u4, rfl, hrd, hB4⟩
    have hBX4 : Below X.heap.size X X4 := hBX3.trans (hB4.mono hB2.size)
    have Y4 := nextc hYc hBX4
    have q40 := nextc g0 hBX4
    have q41 := nextc g1 hBX4
    have q42 := nextc g2 hBX4
    have q43 := nextc g3 hBX4
    have r40 := nextc z0 hBX4
    have r41 := nextc z1 hBX4
    have hj4 := HJ.out.below hj hBX4
    obtain ⟨fn, tmps, asg, bdy, hy, hRr⟩ := YieldAt.deep (m := n - 1 - 1 - 1) (HY.out xs ((zx, zy), u4) oX X4 hj4 ⟨hzm, hrd⟩ hlx (by have := hBX4.size; omega))
    gi_wp2
    refine anyHF_one (i := 8) (by kernel_rfl) rfl (by kernel_rfl) (by rfl) ?_
    gi_wp2
    refine hRr.mono ?_
    rintro e W3 hw3
    obtain ⟨bb, rfl, o', hf3, hS3, hyes, hno⟩ := one_way hw3
    clear hw3 hRr hy
    have hX4 := hBX4.size
    have cY3 : W3.cell? ⟨W.heap.size + 1, 0, none⟩ = some (.func (.yield l) #[] #[]) := (World.cell?_of_block (hS3.2 (W.heap.size + 1) (by omega) (by omega) hneY)).trans Y4
    have cg0 : W3.cell? ⟨W.heap.size, 0, none⟩ = some (.int .i64 k) := (World.cell?_of_block (hS3.2 W.heap.size (by omega) (by omega) hneC)).trans q40
    have cg1 : W3.cell? ⟨W.heap.size, 1, none⟩ = some (.int .i64 p) := (World.cell?_of_block (hS3.2 W.heap.size (by omega) (by omega) hneC)).trans q41
    have cg2 : W3.cell? ⟨W.heap.size, 2, none⟩ = some (.int .i64 d) := (World.cell?_of_block (hS3.2 W.heap.size (by omega) (by omega) hneC)).trans q42
    have cg3 : W3.cell? ⟨W.heap.size, 3, none⟩ = some (.int .i64 c) := (World.cell?_of_block (hS3.2 W.heap.size (by omega) (by omega) hneC)).trans q43
    have cz0 : W3.cell? ⟨Bx, 0, none⟩ = some (.int .i64 zx) := (World.cell?_of_block (hS3.2 Bx (by omega) (by omega) hneB)).trans r40
    have cz1 : W3.cell? ⟨Bx, 1, none⟩ = some (.int .i64 zy) := (World.cell?_of_block (hS3.2 Bx (by omega) (by omega) hneB)).trans r41
    have hpo := HPost.out _ _ u4 _ hBX4 hf3 hS3
    gi_wp2
    have hS : (fun V : World => V.cell? ⟨W.heap.size + 1, 0, none⟩ = some (.func (.yield l) #[] #[]) ∧ V.cell? ⟨W.heap.size, 0, none⟩ = some (.int .i64 k) ∧ V.cell? ⟨W.heap.size, 1, none⟩ = some (.int .i64 p) ∧ V.cell? ⟨W.heap.size, 2, none⟩ = some (.int .i64 d) ∧ V.cell? ⟨W.heap.size, 3, none⟩ = some (.int .i64 c) ∧ V.cell? ⟨Bx, 0, none⟩ = some (.int .i64 zx) ∧ V.cell? ⟨Bx, 1, none⟩ = some (.int .i64 zy)) W3 := ⟨cY3, cg0, cg1, cg2, cg3, cz0, cz1⟩
    refine anyHF_one (i := 9) (by kernel_rfl) rfl (by kernel_rfl) (by rfl) ?_
    gi_wp2
    refine anyHF_done (by kernel_rfl) ?_ _
    cases bb
    · gi_wp2
      obtain ⟨o2, a1, a2, _, a4⟩ := hpo.2 (hno (by trivial))
      exact ⟨o2, a1, a2, rfl, a4⟩
    · have hfin := hpo.1 (hyes (by trivial))
      rw [hs02] at hfin
      gi_wp2
      exact hfin
  case done =>
    rintro D xs' oX X hD _ hxs ⟨xs, e1, hj, hfX, hl, hkX, hst⟩ hKD hneD
    have hfo : FreshO o₀ oX W := hfX.later (by omega)
    gi_wp2
    exact leaves_farO (B := W.heap.size) (I := fun (_ : Unit) o X => J xs o X) (fun s o X Y row hs hg hr => hJ _ o X Y row hs hg hr) () oX (fun X h => HR1.out _ _ _ h) [D] _ ⟨by simp, fun E hE => by obtain rfl := List.mem_singleton.1 hE; exact ⟨by omega, hKD⟩⟩ hj (fun W' h => ⟨_, results_none rfl _ _ _, ⟨_, rfl⟩, oX, hfo, .inl ⟨xs, e1.trans hxs, h⟩⟩)
  case stop =>
    rintro D c pre oX X hD _ hSp ⟨rfl, xs, e1, hjx, hfX, hst⟩ hKD _
    have hfo : FreshO o₀ oX W := hfX.later (by omega)
    gi_wp2
    exact leaves_farO (B := W.heap.size) (I := fun (_ : Unit) o X => Jx xs o X) (fun s o X Y row hs hg hr => hJx _ o X Y row hs hg hr) () oX (fun X h => HR2.out _ _ _ h) [D] _ ⟨by simp, fun E hE => by obtain rfl := List.mem_singleton.1 hE; exact ⟨by omega, hKD⟩⟩ hjx (fun W' h => ⟨_, results_none rfl _ _ _, ⟨_, rfl⟩, oX, hfo, .inr ⟨xs, by rw [e1]; exact hSp, h⟩⟩)
end Go.Proofs.YteglikljmkielaaGreatDoor

namespace Go.Proofs.YteglikljmkielaaGreatDoor
open Go.RowKit Go.Shelf
set_option linter.unusedSimpArgs false
set_option linter.unusedVariables false
attribute [local go_sem] Oper.semAt_some

/-- The function v goes over the made cells zs, each with its members. -/
def LinesO (lo : Nat) (k p : Int) (zs : List (Int × Int)) (v : Value) (w : World) : Prop :=
  ∃ gf pa lb, v = .func (.func gf) pa lb ∧ (∀ args W, (callFunc gf args).run Tryz.prog W = .ok (.enter gf args) W) ∧ (∀ W, (binOp .eql 40 v .nilFunc).run Tryz.prog W = .ok (.bool false) W) ∧
    ∀ n, 14 ≤ n → SeqB Fence.wide n Tryz.prog gf pa lb (fun x : (Int × Int) × Value => #[.agg #[.int .i64 x.1.1, .int .i64 x.1.2], x.2]) (LineOk k p zs) (KeepL lo (w.heap.size - lo)) (fun ys => ys.map (·.1) = zs) (fun pre => pre.map (·.1) <+: zs) 1000 w
theorem eql_lines (k p d c : Int) (W : World) : (binOp .eql 40 (.func (.func 35) #[.agg #[.int .i64 k, .int .i64 p, .int .i64 d, .int .i64 c]] #[]) .nilFunc).run Tryz.prog W = .ok (.bool false) W := by kernel_rfl
theorem eql_lines1 (W : World) : (binOp .eql 40 (.func (.func 34) #[] #[]) .nilFunc).run Tryz.prog W = .ok (.bool false) W := by kernel_rfl
theorem enter_lines : ∀ args W, (callFunc 35 args).run Tryz.prog W = .ok (.enter 35 args) W := enters_of Tryz.func35 (by kernel_rfl) rfl
theorem enter_lines1 : ∀ args W, (callFunc 34 args).run Tryz.prog W = .ok (.enter 34 args) W := enters_of Tryz.func34 (by kernel_rfl) rfl

set_option maxRecDepth 100000 in
set_option maxHeartbeats 1000000 in
theorem setsLines_yes (k p : Int) (hR : RightC k p) (w : World) (hL : Laid w) : Calls Tryz.prog 19 #[.agg #[.int .i64 k, .int .i64 p]] w fun e w' => ∃ u, e = .returned u ∧ LinesO w.heap.size k p (flatC p (spanL (p - shortN k) (p - shortN k + madeN k))) u w' ∧ Below w.heap.size w w' := by
  have HA := Lib.hid (fun W hL => setsAsked_yes k p hR W hL)
  have HI := Lib.hid (fun n hn l lo mm W hW hL J Jx o₀ ho₀ hJ hJx hr1 hr2 hY h0 => lines_in n hn l lo mm k p _ _ hR rfl rfl W hW hL J Jx o₀ ho₀ hJ hJx hr1 hr2 hY h0)
  generalize flatC p (spanL (p - shortN k) (p - shortN k + madeN k)) = zs at *
  generalize p - shortN k + madeN k = c at *
  generalize p - shortN k = d at *
  clear hR
  have b0 := Blk.new w 24 #[.int .i64 k, .int .i64 p]
  have hB := below_one w (.cells #[.int .i64 k, .int .i64 p] 24)
  have hL0 := hL.next hB
  have c0 := b0.cell 0; have c1 := b0.cell 1; simp only [List.getElem?_toArray, List.getElem?_cons_zero, List.getElem?_cons_succ] at c0 c1
  go_enter Tryz.func19, Tryz.ntmps19
  go_wp2_with (go_at_call 33; refine (HA.out _ hL0).mono ?_; rintro e w1 ⟨rfl, hB1⟩)
  go_ret
  replace hB := below_in hB hB1
  replace hB := below_in hB (below_one w1 (.cells #[.int .i64 k, .int .i64 p, .int .i64 d, .int .i64 c] 51))
  have hL1 := hL.next hB
  refine ⟨_, rfl, ⟨35, #[.agg #[.int .i64 k, .int .i64 p, .int .i64 d, .int .i64 c]], #[], rfl, enter_lines, fun W => eql_lines k p d c W, ?_⟩, hB⟩
  intro n hn l J Jx W o₀ hW ho₀ hJ hJx hr1 hr2 hY h0
  have hs := hW.size
  have hs2 := hB.size
  exact HI.out n hn l w.heap.size _ W (by omega) (hL1.next hW) J Jx o₀ ho₀ hJ hJx hr1 hr2 hY h0

set_option maxRecDepth 100000 in
set_option maxHeartbeats 1000000 in
theorem setsLines_no (k p : Int) (hR : ¬ RightC k p) (w : World) (hL : Laid w) : Calls Tryz.prog 19 #[.agg #[.int .i64 k, .int .i64 p]] w fun e w' => ∃ u, e = .returned u ∧ LinesO w.heap.size k p [] u w' ∧ Below w.heap.size w w' := by
  have HA := Lib.hid (fun W hL => setsAsked_no k p hR W hL)
  clear hR
  have b0 := Blk.new w 24 #[.int .i64 k, .int .i64 p]
  have hB := below_one w (.cells #[.int .i64 k, .int .i64 p] 24)
  have hL0 := hL.next hB
  have c0 := b0.cell 0; have c1 := b0.cell 1; simp only [List.getElem?_toArray, List.getElem?_cons_zero, List.getElem?_cons_succ] at c0 c1
  go_enter Tryz.func19, Tryz.ntmps19
  go_wp2_with (go_at_call 33; refine (HA.out _ hL0).mono ?_; rintro e w1 ⟨rfl, hB1⟩)
  go_ret
  replace hB := below_in hB hB1
  replace hB := below_in hB (below_one w1 (.cells #[.int .i64 0, .int .i64 0, .int .i64 0, .int .i64 0] 51))
  refine ⟨_, rfl, ⟨34, #[], #[], rfl, enter_lines1, fun W => eql_lines1 W, ?_⟩, hB⟩
  intro n hn l J Jx W o₀ hW ho₀ hJ hJx hr1 hr2 hY h0
  refine callsIn_of_wp_marks Tryz.func34 rfl trivial ?_ rfl
  simp only [Tryz.ntmps34, List.size_toArray, List.length_cons, List.length_nil, Nat.reduceAdd, Nat.reduceSub, Array.replicate_succ, Array.replicate_zero, List.push_toArray, List.append_toArray, List.nil_append, List.cons_append]
  gi_wp2
  exact leaves_farO (B := W.heap.size) (I := fun (_ : Unit) o X => J [] o X) (fun s o X Y row hs hg hr => hJ _ o X Y row hs hg hr) () o₀ (fun X h => hr1 _ _ _ h) [] _ ⟨by simp, fun E hE => by cases hE⟩ h0 (fun W' h => ⟨_, results_none rfl _ _ _, ⟨_, rfl⟩, o₀, .inl rfl, .inl h⟩)
end Go.Proofs.YteglikljmkielaaGreatDoor
