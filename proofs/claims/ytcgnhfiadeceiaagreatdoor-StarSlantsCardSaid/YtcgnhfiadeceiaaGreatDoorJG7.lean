/- Sets: what a code under way is asked of a place. Sets: who is a member of a cell in a row: on its row, its diagonal, its slant. Sets: what asks places whether they are members of a cell. The places of a column, over which a range goes whose body keeps a row of its own. Sets: down columns, one behind the other. slices.SortFunc's contract at this program: its numbers. Places put in order: what the sort makes of a row of the call's own. slices.SortFunc over a row of places of the call's own. Places put in order, none of which is there twice. Sets: what goes down columns; what is gathered of such. Sets: what is gathered. Sets: the members of a cell that is made. Sets: a code under way. Places as the callers know them. Sets: what is answered of a place. Sets: Members. Sets: over the cells that are made, each with what asks for its members. Sets: the cells that are made; those of which a place is a member. Sets: what hangs on a data cell. Sets: what hangs on a data cell, by lists. Rows of places as the callers know them; grids of cells; the document's Same and Parity. The document's member. -/
import Derived.Test.YtcgnhfiadeceiaaGreatDoorJG6
import Derived.Test.YtcgnhfiadeceiaaGreatDoorJSA
import Derived.Maps.OwnSet
import Derived.Maps.OwnIn
import Derived.Laws.EntriesVeiled
import Derived.Test.YtcgnhfiadeceiaaGreatDoorJG3
import Derived.Test.YtcgnhfiadeceiaaGreatDoorJMA
import Derived.Deep.AppendLies
import Derived.RangeFuncNested
import Derived.Shelf.RegionOpen
import Derived.Test.YtcgnhfiadeceiaaGreatDoorJG2
import Derived.Laws.OwnMore
namespace Go.Proofs.YtcgnhfiadeceiaaGreatDoor
open Go.RowKit Go.Shelf
set_option linter.unusedSimpArgs false
set_option linter.unusedVariables false

instance (k p x y : Int) : Decidable (HasCell k p x y) := by unfold HasCell; infer_instance
/-- The two numbers of a cell's lines, 0 where there is no such cell. -/
def dgN2 (k p x y : Int) : Int := if HasCell k p x y then (x + y) % p else 0
def slN2 (k p x y : Int) : Int := if HasCell k p x y then (y - x) % p else 0
end Go.Proofs.YtcgnhfiadeceiaaGreatDoor

namespace Go.Proofs.YtcgnhfiadeceiaaGreatDoor
open Go.RowKit Go.Shelf
set_option linter.unusedSimpArgs false
set_option linter.unusedVariables false

/-- Is the cell x y a member of one of rows, of diagonals, of slants in a row? -/
def inRw (d row x y : Int) : Bool := decide (x < d ∧ y = row)
def onDg (k p d row x y : Int) : Bool := if k = 2 then decide ((x < d ∨ x = d) ∧ dgN2 k p x y = row) else decide (x < d ∧ (dgN2 k p x y = row ∨ dgN2 k p x y = p - 1))
def onSl (k p d row x y : Int) : Bool := decide (x < d ∧ (slN2 k p x y = row ∨ slN2 k p x y = p - 1))

end Go.Proofs.YtcgnhfiadeceiaaGreatDoor

namespace Go.Proofs.YtcgnhfiadeceiaaGreatDoor
open Go.RowKit Go.Shelf Go.Maps
set_option linter.unusedSimpArgs false
set_option linter.unusedVariables false

/-- Of a role's cell in a row: is the place x y a member? -/
def wayB (k p d row r x y : Int) : Bool := if r = 2 then inRw d row x y else if r = 3 then onDg k p d row x y else onSl k p d row x y
/-- W' has all that lies in cells in w as it lay. -/
def Sub (w W : World) : Prop := w.heap.size ≤ W.heap.size ∧ ∀ (b : Nat) (cs : Array Value) (t : TypeId) (fr : Nat × Nat), w.heap[b]? = some (.cells cs t fr) → W.heap[b]? = some (.cells cs t fr)
theorem Sub.below {w W : World} (h : Below w.heap.size w W) : Sub w W := ⟨h.size, fun b cs t fr hb => (h.block b (Array.getElem?_eq_some_iff.1 hb).1).trans hb⟩
theorem Sub.trans {a b c : World} (h : Sub a b) (h' : Sub b c) : Sub a c := ⟨Nat.le_trans h.1 h'.1, fun x cs t fr hx => h'.2 x cs t fr (h.2 x cs t fr hx)⟩
theorem Sub.blk {w W : World} (h : Sub w W) {g : Nat} {t : TypeId} {cs : Array Value} (hb : Blk w g t cs) : Blk W g t cs := h.2 g cs t (0, 0) hb
theorem Sub.laid {w W : World} (h : Sub w W) (hL : Laid w) : Laid W := by
  obtain ⟨⟨t1, f1, h1⟩, t2, f2, h2⟩ := hL
  exact ⟨⟨t1, f1, h.2 _ _ _ _ h1⟩, t2, f2, h.2 _ _ _ _ h2⟩
theorem Sub.put {w : World} {l : Nat} (hl : ∃ r, w.heap[l]? = some (.loop r)) (ob : Obj) : Sub w (w.putObj l ob) := by
  obtain ⟨r, hr⟩ := hl
  exact ⟨by simp [World.putObj], fun b cs t fr hb => (World.putObj_heap_other (fun e => by rw [e, hr] at hb; cases hb)).trans hb⟩
/-- The function v answers, in whatever world comes, whether a place is one of q. -/
def Asks (q : Int → Int → Bool) (v : Value) (w : World) : Prop :=
  ∃ gf lb, v = .func (.func gf) #[] lb ∧ (∀ args W, (callFunc gf args).run Tryz.prog W = .ok (.enter gf args) W) ∧
    ∀ x y W, Sub w W → Calls Tryz.prog gf (#[.agg #[.int .i64 x, .int .i64 y]] ++ lb) W fun e w' => e = .returned (.bool (q x y)) ∧ Below W.heap.size W w'
theorem Asks.sub {q : Int → Int → Bool} {v : Value} {w w' : World} (h : Asks q v w) (hB : Sub w w') : Asks q v w' := by
  obtain ⟨gf, lb, e, eg, hc⟩ := h
  exact ⟨gf, lb, e, eg, fun x y W hW => hc x y W (hB.trans hW)⟩
theorem Asks.next {q : Int → Int → Bool} {v : Value} {w w' : World} (h : Asks q v w) (hB : Below w.heap.size w w') : Asks q v w' := h.sub (Sub.below hB)
end Go.Proofs.YtcgnhfiadeceiaaGreatDoor

namespace Go.Proofs.YtcgnhfiadeceiaaGreatDoor
open Go.RowKit Go.Shelf
set_option linter.unusedSimpArgs false
set_option linter.unusedVariables false
attribute [local go_sem] Oper.semAt_some

theorem rowsL_mem {p y : Int} (hy : 0 ≤ y ∧ y < p - 1) : y ∈ rowsL p := by
  unfold rowsL
  exact List.mem_map.2 ⟨y.toNat, List.mem_range.2 (by omega), by omega⟩
set_option maxRecDepth 100000 in
set_option maxHeartbeats 2000000 in
theorem cellsDown_in (n : Nat) (hn : 4 ≤ n) (l g h lo mm : Nat) (k p s m col : Int) (hp : p ∈ prm) (hu : Und p s m) (hg1 : lo ≤ g) (hg2 : g < lo + mm) (hh1 : lo ≤ h) (hh2 : h < lo + mm) (W : World) (hW : lo + mm ≤ W.heap.size) (hL : Laid W) (J Jx : List Int → Option Nat → World → Prop) (o₀ : Option Nat) (ho₀ : ∀ b, o₀ = some b → b < W.heap.size)
    (hJ : FarO W.heap.size J) (hJx : FarO W.heap.size Jx) (hr1 : ∀ s o X, J s o X → RowO o X) (hr2 : ∀ s o X, Jx s o X → RowO o X)
    (hY : ∀ pre x o W1, J pre o W1 → x ∈ rowsL p → pre.length < p.toNat → W.heap.size ≤ W1.heap.size → YieldAt Fence.wide (n - 1) Tryz.prog l #[.agg #[.int .i64 col, .int .i64 x]] W1 fun e W' => ∃ o', FreshO o o' W1 ∧ SinceO W.heap.size o W1 W' ∧ ((e = .returned (.bool true) ∧ J (pre ++ [x]) o' W' ∧ Keep lo mm W1 W') ∨ (e = .returned (.bool false) ∧ Jx (pre ++ [x]) o' W')))
    (bg : Blk W g 93 #[.int .i64 k, .int .i64 p, .int .i64 s, .int .i64 m]) (bh : Blk W h 3 #[.int .i64 col]) (h0 : J [] o₀ W) :
    CallsIn Fence.wide n Tryz.prog 152 #[.func (.yield l) #[] #[], .pointer (some ⟨g, 0, none⟩), .pointer (some ⟨h, 0, none⟩)] W fun e W' => (∃ v, e = .returned v) ∧ ∃ o', FreshO o₀ o' W ∧ ((∃ ys, ys = rowsL p ∧ J ys o' W') ∨ (∃ pre, pre <+: rowsL p ∧ Jx pre o' W')) := by
  have HWk := Lib.hid (fun V hV => modWalk_any p 0 1 V hV (by omega) (by omega))
  refine callsIn_of_wp_marks Tryz.func152 rfl trivial ?_ rfl
  simp only [Tryz.ntmps152, List.size_toArray, List.length_cons, List.length_nil, Nat.reduceAdd, Nat.reduceSub, Array.replicate_succ, Array.replicate_zero, List.push_toArray, List.append_toArray, List.nil_append, List.cons_append]
  obtain ⟨W0, hW0⟩ : ∃ W0, W.alloc (.cells #[.func (.yield l) #[] #[]] 149) = W0 := ⟨_, rfl⟩
  have hB0 : Below W.heap.size W W0 := by rw [← hW0]; exact below_one W _
  have bY : Blk W0 W.heap.size 149 #[.func (.yield l) #[] #[]] := by rw [← hW0]; exact Blk.new W _ _
  have bg0 := bg.below hB0 bg.lt
  have bh0 := bh.below hB0 bh.lt
  have hL0 := hL.next hB0
  have hJ0 : J [] o₀ W0 := hJ.below h0 hB0
  have d1 : W0.cell? ⟨g, 1, none⟩ = some (.int .i64 p) := bg0.cell 1
  gi_wp2_with fail
  refine wpIn_scope_wide ?_
  gi_wp2_with fail
  refine wpIn_label ?_
  gi_wp2_with fail
  refine ⟨trivial, fun _ => by omega, (callsIn_wide.2 (HWk.out _ hL0)).mono ?_⟩
  rintro e v1 ⟨v, rfl, ⟨gf, lb, rfl, eg, eq, ⟨kk, hgo⟩⟩, hX⟩
  have bY1 := bY.below hX bY.lt
  have bg1 := bg0.below hX bg0.lt
  have bh1 := bh0.below hX bh0.lt
  have hJ1 : J [] o₀ v1 := hJ.below hJ0 hX
  have hlo := hX.size
  have hi := bY.lt
  clear eq hL0 bg0 bh0 d1 hJ0 HWk
  gi_wp2_with fail
  refine wpIn_rangeOwn1 rfl (by omega) (gf := gf) (lb := lb) rfl trivial eg (hgo _ (by omega)) (by omega) (Below.refl _ _) (fun _ => rfl)
    (fun pre V => (∃ o, J pre o V ∧ FreshO o₀ o W ∧ ∀ b, o = some b → b < W.heap.size ∨ v1.heap.size + (2 + kk) ≤ b) ∧ (∀ y ∈ pre, 0 ≤ y ∧ y < p - 1) ∧ Blk V W.heap.size 149 #[.func (.yield l) #[] #[]] ∧ Blk V g 93 #[.int .i64 k, .int .i64 p, .int .i64 s, .int .i64 m] ∧ Blk V h 3 #[.int .i64 col])
    (fun c pre V => c = .exit 0 ∧ ∃ q x o, pre = q ++ [x] ∧ FreshO o₀ o W ∧ (∀ b, o = some b → b < W.heap.size ∨ v1.heap.size + (2 + kk) ≤ b) ∧ ((¬ (0 ≤ x ∧ x < p - 1) ∧ J q o V) ∨ ((0 ≤ x ∧ x < p - 1) ∧ Jx pre o V)))
    ?hI ?hIx ⟨⟨o₀, hJ1, .inl rfl, fun b e => .inl (ho₀ b e)⟩, by simp, bY1, bg1, bh1⟩ ?a1 ?assign ?body ?done ?stop
  case hI =>
    refine Spares.and (fun s X Y row hs hg hr => ?_) ((spares_pure _ _ _).and ((spares_blk (by omega) _ (fun _ => _)).and ((spares_blk (by omega) _ (fun _ => _)).and (spares_blk (by omega) _ (fun _ => _)))))
    obtain ⟨o, h1, h2, h3⟩ := hs
    exact ⟨o, hJ s o X Y row h1 hg (fun r e => ⟨by have := hr r e; omega, fun e2 => by have := hr r e; have := h3 r e2.symm; omega⟩), h2, h3⟩
  case hIx =>
    rintro c pre X Y row ⟨h1, q, x, o, h2, hf, hb, h3⟩ hg hr
    have hr' : ∀ r, row = some r → W.heap.size ≤ r ∧ some r ≠ o := fun r e => ⟨by have := hr r e; omega, fun e2 => by have := hr r e; have := hb r e2.symm; omega⟩
    exact ⟨h1, q, x, o, h2, hf, hb, h3.imp (fun h => ⟨h.1, hJ _ _ _ _ _ h.2 hg hr'⟩) (fun h => ⟨h.1, hJx _ _ _ _ _ h.2 hg hr'⟩)⟩
  case assign =>
    intro l' x V K hK
    gi_wp2
    exact hK
  case body =>
    rintro l' pre x V hsz ⟨⟨o, hj, hfo, hbo⟩, hr, bY, bg, bh⟩ hlen
    have hYo : some W.heap.size ≠ o := fun e => by have := hbo _ e.symm; omega
    have hlen2 : pre.length < p.toNat := by
      obtain ⟨e1, e2, _⟩ := rows_walk p hp
      rw [e1, List.length_append] at hlen
      simp at hlen
      omega
    have hn3 : 1 ≤ n - 1 - 1 := by omega
    have c0 := bg.cell 0
    have c1 := bg.cell 1
    have c2 := bg.cell 2
    have c3 := bg.cell 3
    simp only [List.getElem?_toArray, List.getElem?_cons_zero, List.getElem?_cons_succ] at c0 c1 c2 c3
    by_cases hx : 0 ≤ x ∧ x < p - 1
    · have HR := Lib.hid (fun V => (hasRow_any k p s m x hu V).mono fun _ _ h => And.intro (h.1.trans (ret_bool (decide_eq_true hx))) h.2)
      gi_wp2_with fail
      refine ⟨trivial, (CallsIn.inRound l' (callsIn_wide.2 (HR.out V))).mono ?_⟩
      rintro e V1 ⟨rfl, hB1⟩
      have hj1 : J pre o V1 := hJ.below hj hB1
      have hs1 := hB1.size
      have cY := (bY.below hB1 bY.lt).one
      have cH := (bh.below hB1 bh.lt).one
      obtain ⟨fn, tmps, asg, bdy, hy, hR⟩ := YieldAt.deep (m := n - 1 - 1 - 1) (hY pre x o V1 hj1 (rowsL_mem hx) hlen2 (by omega))
      gi_wp2
      refine hR.mono ?_
      rintro e W3 ⟨o', hf3, hS3, (⟨rfl, hJ3, hk3⟩ | ⟨rfl, hJx3⟩)⟩
      · gi_wp2
        have hS : SinceO W.heap.size o V W3 := (SinceO.below hB1).trans_ hS3
        have hbo' : ∀ b, o' = some b → b < W.heap.size ∨ v1.heap.size + (2 + kk) ≤ b := fun b e => by
          rcases hf3 with rfl | ⟨b2, rfl, hb2⟩
          · exact hbo b e
          · injection e with e; omega
        have hfo' : FreshO o₀ o' W := hfo.trans (by omega) hf3
        have hkk : Keep lo mm V W3 := (Keep.below hB1 (by omega)).trans hk3
        refine ⟨hS.keep (by omega) hsz (fun b e => by have := hbo b e; omega), hS.keep (by omega) (by omega) (fun b e => by have := hbo b e; omega), ⟨o', hJ3, hfo', hbo'⟩, ?_, (hS.2 _ (Nat.le_refl _) bY.lt hYo).trans bY, hkk.blk bg hg1 hg2, hkk.blk bh hh1 hh2⟩
        intro y hy
        rcases List.mem_append.1 hy with h1 | h1
        · exact hr y h1
        · rw [List.mem_singleton.1 h1]; exact hx
      · gi_wp2
        have hS : SinceO W.heap.size o V W3 := (SinceO.below hB1).trans_ hS3
        have hbo' : ∀ b, o' = some b → b < W.heap.size ∨ v1.heap.size + (2 + kk) ≤ b := fun b e => by
          rcases hf3 with rfl | ⟨b2, rfl, hb2⟩
          · exact hbo b e
          · injection e with e; omega
        have hfo' : FreshO o₀ o' W := hfo.trans (by omega) hf3
        exact ⟨hS.keep (by omega) hsz (fun b e => by have := hbo b e; omega), rfl, pre, x, o', rfl, hfo', hbo', .inr ⟨hx, hJx3⟩⟩
    · have HR := Lib.hid (fun V => (hasRow_any k p s m x hu V).mono fun _ _ h => And.intro (h.1.trans (ret_bool (decide_eq_false hx))) h.2)
      gi_wp2_with (refine ⟨trivial, ?_⟩; gi_at_call 153; refine (callsIn_wide.2 (HR.out _)).mono ?_; rintro e V1 ⟨rfl, hB1⟩)
      refine ⟨fun _ h => (by cases h), ?_⟩
      gi_wp2
      have hS1 : Since W.heap.size V V1 := Since.below hB1
      exact ⟨hS1.keep (by omega) hsz, rfl, pre, x, o, rfl, hfo, hbo, .inl ⟨hx, hJ.below hj hB1⟩⟩
  case done =>
    rintro D xs V hD rfl ⟨_, hr, _⟩ _
    exfalso
    obtain ⟨e1, _, _⟩ := rows_walk p hp
    have := hr (p - 1) (by rw [e1]; simp)
    omega
  case stop =>
    rintro D c pre V hD hSp ⟨rfl, q, x, o, rfl, hfo, hbo, hq⟩ hK
    gi_wp2
    rw [Exit.noGoto_normal]
    refine ⟨by simp, .inl ⟨_, _, rfl, run_takeDeferred hK, ?_⟩⟩
    refine ⟨_, results_none rfl _ _ _, ⟨_, rfl⟩, o, hfo, ?_⟩
    rcases hq with ⟨hx, hq⟩ | ⟨hx, hq⟩
    · exact .inl ⟨q, rows_left p hp q x hSp hx, hJ.put hq (by omega) ((hr1 _ _ _ hq).ne hK) _⟩
    · exact .inr ⟨_, rows_some p hp q x hSp hx, hJx.put hq (by omega) ((hr2 _ _ _ hq).ne hK) _⟩

/-- What goes over places of the column col, and is no nil. -/
def PlacesO (lo : Nat) (col : Int) (zs : List Int) (N : Nat) (v : Value) (w : World) : Prop :=
  ∃ gf lb, v = .func (.func gf) #[] lb ∧ (∀ args W, (callFunc gf args).run Tryz.prog W = .ok (.enter gf args) W) ∧ (∀ W, (binOp .eql 126 v .nilFunc).run Tryz.prog W = .ok (.bool false) W) ∧
    ∀ n, 4 ≤ n → SeqO Fence.wide n Tryz.prog gf lb (fun x : Int => #[.agg #[.int .i64 col, .int .i64 x]]) (fun x _ => x ∈ zs) (Keep lo (w.heap.size - lo)) (fun ys => ys = zs) (fun pre => pre <+: zs) N w

set_option maxHeartbeats 400000 in
theorem cells1_inO (n l : Nat) (J Jx : List Int → Option Nat → World → Prop) (o₀ : Option Nat) (W : World) (h0 : J [] o₀ W) :
    CallsIn Fence.wide n Tryz.prog 131 (#[.func (.yield l) #[] #[]] ++ #[]) W fun e W' => (∃ v, e = .returned v) ∧ ∃ o', FreshO o₀ o' W ∧ ((∃ ys, ys = [] ∧ J ys o' W') ∨ (∃ pre, pre <+: [] ∧ Jx pre o' W')) := by
  refine callsIn_of_wp Tryz.func131 rfl trivial ?_ rfl
  simp only [Tryz.ntmps131, List.size_toArray, List.length_cons, List.length_nil, Nat.reduceAdd, Nat.reduceSub, Array.replicate_succ, Array.replicate_zero, List.push_toArray, List.append_toArray, List.nil_append, List.cons_append]
  gi_wp2
  go_end0
  exact ⟨⟨_, rfl⟩, o₀, .inl rfl, .inl ⟨_, rfl, h0⟩⟩

set_option maxHeartbeats 400000 in
theorem down_anyO (k p s m col : Int) (hp : p ∈ prm) (hu : Und p s m) (w : World) (hL : Laid w) :
    Calls Tryz.prog 130 #[.agg #[.int .i64 k, .int .i64 p, .int .i64 s, .int .i64 m], .int .i64 col] w fun e w' => ∃ v, e = .returned v ∧ PlacesO w.heap.size col (rowsL p) p.toNat v w' ∧ Below w.heap.size w w' := by
  have hmf := make_func
  go_enter Tryz.func130, Tryz.ntmps130
  go_wp2
  go_ret
  have hB := below_two w (.cells #[.int .i64 k, .int .i64 p, .int .i64 s, .int .i64 m] 93) (.cells #[.int .i64 col] 3)
  have bg := (Blk.new w 93 #[.int .i64 k, .int .i64 p, .int .i64 s, .int .i64 m]).alloc (.cells #[.int .i64 col] 3)
  have bh := Blk.second w (.cells #[.int .i64 k, .int .i64 p, .int .i64 s, .int .i64 m] 93) 3 #[.int .i64 col]
  have hL2 := hL.next hB
  refine ⟨_, rfl, ⟨_, _, rfl, enter_down1, eql_down1 _ _, ?_⟩, hB⟩
  intro n hn l J Jx W o₀ hW ho₀ hJ hJx hr1 hr2 hY h0
  exact cellsDown_in n hn l _ _ w.heap.size _ k p s m col hp hu (Nat.le_refl _) (by simp; omega) (by omega) (by simp; omega) W (by have := hW.size; simp at this ⊢; omega) (hL2.next hW) J Jx o₀ ho₀ hJ hJx hr1 hr2 hY (bg.below hW bg.lt) (bh.below hW bh.lt) h0

theorem PlacesO.less {lo lo' N : Nat} {col : Int} {zs : List Int} {v : Value} {w : World} (h : PlacesO lo col zs N v w) (hl : lo' ≤ lo) (hw : lo ≤ w.heap.size) : PlacesO lo' col zs N v w := by
  obtain ⟨gf, lb, e, eg, eq, hg⟩ := h
  exact ⟨gf, lb, e, eg, eq, fun n hn l J Jx W o₀ hW ho₀ hJ hJx hr1 hr2 hY h0 => hg n hn l J Jx W o₀ hW ho₀ hJ hJx hr1 hr2 (fun pre x o W1 hj hok hl' hs => (hY pre x o W1 hj hok hl' hs).mono fun _ _ ⟨o', hf, hS, h⟩ => ⟨o', hf, hS, h.imp (fun ⟨h1, h2, h3⟩ => ⟨h1, h2, h3.less hl (by omega)⟩) id⟩) h0⟩

theorem none_placesO (lo N : Nat) (x : Int) (w : World) : PlacesO lo x [] N (.func (.func 131) #[] #[]) w :=
  ⟨_, _, rfl, enter_cells1, eql_cells1, fun n _ l J Jx W o₀ _ _ _ _ _ _ _ h0 => cells1_inO n l J Jx o₀ W h0⟩

set_option maxHeartbeats 1000000 in
theorem shapeCells_anyO (k p x : Int) (w : World) (hL : Laid w) : Calls Tryz.prog 106 #[.agg #[.int .i64 k, .int .i64 p], .int .i64 x] w fun e w' => ∃ v, e = .returned v ∧ (∃ zs, Column k p x zs ∧ PlacesO w.heap.size x zs p.toNat v w') ∧ Below w.heap.size w w' := by
  have hB := below_one w (.cells #[.int .i64 k, .int .i64 p] 37)
  by_cases hR : RightC k p
  · by_cases hb : HasCol k p x
    · have HT := Lib.hid (toldS_yes 129 130 enter_hasColumn enter_down k p x hR _ (fun W hL => (hasColumn_any k p _ _ x hR.und W).mono fun _ _ h => ⟨h.1.trans (ret_bool (decide_eq_true hb)), h.2⟩)
        (fun v w' => PlacesO w.heap.size x (rowsL p) p.toNat v w') (fun W hL hs => (down_anyO k p _ _ x hR.2 hR.und W hL).mono fun _ _ ⟨v, h1, h2, h3⟩ => ⟨v, h1, h2.less (by have := hB.size; omega) h3.size, h3⟩) (hL.next hB))
      have HC : Hid (Column k p x (rowsL p)) := .inl ⟨hR, hb, rfl⟩
      clear hb hR
      generalize rowsL p = zs at *
      go_enter Tryz.func106, Tryz.ntmps106
      go_wp2_with (go_at_call 128; refine HT.out.mono ?_; rintro e w1 ⟨v, rfl, hv, hB1⟩)
      go_ret
      exact ⟨_, rfl, ⟨_, HC.out, hv⟩, below_in hB hB1⟩
    · have HT := Lib.hid (toldS_out 129 130 enter_hasColumn k p x hR (fun W hL => (hasColumn_any k p _ _ x hR.und W).mono fun _ _ h => ⟨h.1.trans (ret_bool (decide_eq_false hb)), h.2⟩) _ (hL.next hB))
      have HC : Hid (Column k p x []) := .inr ⟨fun h => hb h.2, rfl⟩
      clear hb hR
      go_enter Tryz.func106, Tryz.ntmps106
      go_wp2_with (go_at_call 128; refine HT.out.mono ?_; rintro e w1 ⟨rfl, hB1⟩)
      go_ret
      exact ⟨_, rfl, ⟨_, HC.out, none_placesO _ _ _ _⟩, below_in hB hB1⟩
  · have HT := Lib.hid (toldS_no 129 130 k p x hR _ (hL.next hB))
    have HC : Hid (Column k p x []) := .inr ⟨fun h => hR h.1, rfl⟩
    clear hR
    go_enter Tryz.func106, Tryz.ntmps106
    go_wp2_with (go_at_call 128; refine HT.out.mono ?_; rintro e w1 ⟨rfl, hB1⟩)
    go_ret
    exact ⟨_, rfl, ⟨_, HC.out, none_placesO _ _ _ _⟩, below_in hB hB1⟩
end Go.Proofs.YtcgnhfiadeceiaaGreatDoor

namespace Go.Proofs.YtcgnhfiadeceiaaGreatDoor
open Go.RowKit Go.Shelf
set_option linter.unusedSimpArgs false
set_option linter.unusedVariables false
attribute [local go_sem] Oper.semAt_some

section
variable {B lo mm : Nat} {X Y Z : World} {o o' : Option Nat}
theorem farO_since {β : Type} {B' : Nat} (V : World) (o₀ : Option Nat) (hB : V.heap.size ≤ B') : FarO B' (fun (_ : β) (_ : Option Nat) X => SinceO B o₀ V X) := fun s o X Y row hs hg hr =>
  ⟨Nat.le_trans hs.1 hg.size, fun b h1 h2 h3 => (hg.block b (by have := hs.1; omega) (fun e => by have := (hr b e.symm).1; omega)).trans (hs.2 b h1 h2 h3)⟩
end
/-- What keeps a stretch keeps what the program lays, too. -/
def KeepL (lo k : Nat) (X Y : World) : Prop := Keep lo k X Y ∧ (Laid X → Laid Y)
theorem KeepL.trans {lo k : Nat} {X Y Z : World} (h : KeepL lo k X Y) (h' : KeepL lo k Y Z) : KeepL lo k X Z := ⟨h.1.trans h'.1, fun hL => h'.2 (h.2 hL)⟩
/-- The places of columns, one behind the other. -/
def flatC (p : Int) (cs : List Int) : List (Int × Int) := cs.flatMap fun x => (rowsL p).map fun y => (x, y)
theorem flatC_next (p : Int) (cs : List Int) (i : Nat) (hi : i < cs.length) : flatC p (cs.take (i + 1)) = flatC p (cs.take i) ++ (rowsL p).map (fun y => (cs[i], y)) := by
  unfold flatC
  rw [List.take_succ_eq_append_getElem hi, List.flatMap_append, List.flatMap_singleton]
theorem flatC_len (p : Int) (hp : p ∈ prm) (cs : List Int) : (flatC p cs).length ≤ 16 * cs.length := by
  have hl := (rows_walk p hp).2.1
  have hb := prm_bounds hp
  have h16 : (rowsL p).length ≤ 16 := by omega
  unfold flatC
  induction cs with
  | nil => simp
  | cons x cs ih => rw [List.flatMap_cons, List.length_append, List.length_map, List.length_cons]; omega

end Go.Proofs.YtcgnhfiadeceiaaGreatDoor

namespace Go.Proofs.YtcgnhfiadeceiaaGreatDoor
open Go.RowKit Go.Shelf
set_option linter.unusedSimpArgs false
set_option linter.unusedVariables false
attribute [local go_sem] Oper.semAt_some

theorem OwnI.less {w : World} {base base' : Nat} {v : Value} {l : List Int} (h : OwnI w base v l) (hb : base' ≤ base) : OwnI w base' v l := ⟨h.1, h.2.imp id fun ⟨g, cap, cur, h1, h2, h3⟩ => ⟨g, cap, cur, h1, Nat.le_trans hb h2, h3⟩⟩
/-- The function v goes over the places zs. -/
def Seqs (lo : Nat) (zs : List (Int × Int)) (v : Value) (w : World) : Prop :=
  ∃ gf lb, v = .func (.func gf) #[] lb ∧ (∀ args W, (callFunc gf args).run Tryz.prog W = .ok (.enter gf args) W) ∧
    ∀ n, 6 ≤ n → SeqO Fence.wide n Tryz.prog gf lb (fun x : Int × Int => #[.agg #[.int .i64 x.1, .int .i64 x.2]]) (fun x _ => x ∈ zs) (KeepL lo (w.heap.size - lo)) (fun ys => ys = zs) (fun pre => pre <+: zs) 1000 w
theorem KeepL.less {lo lo' k k' : Nat} {X Y : World} (h : KeepL lo k X Y) (h1 : lo ≤ lo') (h2 : lo' + k' ≤ lo + k) : KeepL lo' k' X Y := ⟨h.1.less h1 h2, h.2⟩
theorem Seqs.less {lo lo' : Nat} {zs : List (Int × Int)} {v : Value} {w : World} (h : Seqs lo zs v w) (hl : lo' ≤ lo) (hw : lo ≤ w.heap.size) : Seqs lo' zs v w := by
  obtain ⟨gf, lb, e, eg, hg⟩ := h
  exact ⟨gf, lb, e, eg, fun n hn l J Jx W o₀ hW ho₀ hJ hJx hr1 hr2 hY h0 => hg n hn l J Jx W o₀ hW ho₀ hJ hJx hr1 hr2 (fun pre x o W1 hj hok hl' hs => (hY pre x o W1 hj hok hl' hs).mono fun _ _ ⟨o', hf, hS, h⟩ => ⟨o', hf, hS, h.imp (fun ⟨h1, h2, h3⟩ => ⟨h1, h2, h3.less hl (by omega)⟩) id⟩) h0⟩
end Go.Proofs.YtcgnhfiadeceiaaGreatDoor

namespace Go.Proofs.YtcgnhfiadeceiaaGreatDoor
open Go.RowKit Go.Shelf
set_option linter.unusedSimpArgs false
set_option linter.unusedVariables false

theorem Seqs.next {lo : Nat} {zs : List (Int × Int)} {v : Value} {w w' : World} (h : Seqs lo zs v w) (hB : Below w.heap.size w w') : Seqs lo zs v w' := by
  obtain ⟨gf, lb, e, eg, hg⟩ := h
  have hs := hB.size
  exact ⟨gf, lb, e, eg, fun n hn l J Jx W o₀ hW ho₀ hJ hJx hr1 hr2 hY h0 => hg n hn l J Jx W o₀ (below_in hB hW) ho₀ hJ hJx hr1 hr2 (fun pre x o W1 hj hok hl' hs' => (hY pre x o W1 hj hok hl' hs').mono fun _ _ ⟨o', hf, hS, h⟩ => ⟨o', hf, hS, h.imp (fun ⟨h1, h2, h3⟩ => ⟨h1, h2, h3.less (Nat.le_refl _) (by omega)⟩) id⟩) h0⟩
/-- Is the place x a member of the cell of column mx and row my? -/
def memB (k p mx my x y : Int) : Bool := wayB k p (p - shortN k) my (roleN (p - shortN k) mx) x y
/-- The members of a cell that is made. -/
def memL (k p mx my : Int) : List (Int × Int) := (flatC p (spanL 0 mx)).filter fun x => memB k p mx my x.1 x.2
theorem Laid.drew {W : World} (h : Laid W) : Laid W.drew := h
theorem spanL_mem {a b x : Int} (h : x ∈ spanL a b) : a ≤ x ∧ x < b := by
  unfold spanL at h
  obtain ⟨i, hi, rfl⟩ := List.mem_map.1 h
  have := List.mem_range.1 hi
  omega

end Go.Proofs.YtcgnhfiadeceiaaGreatDoor

namespace Go.Proofs.YtcgnhfiadeceiaaGreatDoor
open Go.RowKit Go.Shelf
set_option linter.unusedSimpArgs false
set_option linter.unusedVariables false

theorem Tryz.infoAt : (Tryz.prog.info? 71).map (fun i => (i.zero, i.size, i.bytes)) = some (some (.agg #[.int .i64 0, .int .i64 0]), 2, 16) := by kernel_rfl
/-- The cells cs bear the places s, as far as j of them. -/
def Bears (cs : Array Value) (s : List (Int × Int)) (j : Nat) : Prop := cs.size = s.length * 2 ∧ ∀ (i : Nat) (hi : i < s.length), i < j → cs[i * 2]? = some (.int .i64 (s[i]).1) ∧ cs[i * 2 + 1]? = some (.int .i64 (s[i]).2)
theorem Bears.next {cs : Array Value} {s : List (Int × Int)} {j : Nat} (h : Bears cs s j) (hj : j < s.length) {x y : Int} (hx : s[j] = (x, y)) : Bears ((cs.setIfInBounds (j * 2) (.int .i64 x)).setIfInBounds (j * 2 + 1) (.int .i64 y)) s (j + 1) := by
  refine ⟨by simp [h.1], fun i hi hij => ?_⟩
  have hs := h.1
  by_cases e : i = j
  · subst e
    rw [hx]
    exact ⟨by rw [Array.getElem?_setIfInBounds_ne (by omega), Array.getElem?_setIfInBounds_self_of_lt (by omega)], by rw [Array.getElem?_setIfInBounds_self_of_lt (by simp; omega)]⟩
  · obtain ⟨h1, h2⟩ := h.2 i hi (by omega)
    exact ⟨by rw [Array.getElem?_setIfInBounds_ne (by omega), Array.getElem?_setIfInBounds_ne (by omega)]; exact h1, by rw [Array.getElem?_setIfInBounds_ne (by omega), Array.getElem?_setIfInBounds_ne (by omega)]; exact h2⟩
/-- The slice value v reads as the places s, below block B. -/
def ReadP (B : Nat) (W : World) (v : Value) (s : List (Int × Int)) : Prop :=
  ∃ g cap, v = .slice (some ⟨g, 0, none⟩) s.length cap ∧ g < B ∧ ∀ (j : Nat) (hj : j < s.length), W.cell? ⟨g, j * 2, none⟩ = some (.int .i64 (s[j]).1) ∧ W.cell? ⟨g, j * 2 + 1, none⟩ = some (.int .i64 (s[j]).2)
theorem ReadP.below {B : Nat} {W W' : World} {v : Value} {s : List (Int × Int)} (h : ReadP B W v s) (hb : Below B W W') : ReadP B W' v s := by
  obtain ⟨g, cap, e, hg, hc⟩ := h
  exact ⟨g, cap, e, hg, fun j hj => ⟨(hb.cell (p := ⟨g, j * 2, none⟩) hg).trans (hc j hj).1, (hb.cell (p := ⟨g, j * 2 + 1, none⟩) hg).trans (hc j hj).2⟩⟩
theorem ReadP.next {W W' : World} {v : Value} {s : List (Int × Int)} (h : ReadP W.heap.size W v s) (hb : Below W.heap.size W W') : ReadP W'.heap.size W' v s := by
  obtain ⟨g, cap, e, hg, hc⟩ := h.below hb
  exact ⟨g, cap, e, Nat.lt_of_lt_of_le hg hb.size, hc⟩

end Go.Proofs.YtcgnhfiadeceiaaGreatDoor

namespace Go.Proofs.YtcgnhfiadeceiaaGreatDoor
open Go.RowKit Go.Shelf
set_option linter.unusedSimpArgs false
set_option linter.unusedVariables false

theorem memL_len {k p mx my : Int} (hR : RightC k p) (hc : HasCell k p mx my) : (memL k p mx my).length ≤ 1000 := by
  obtain ⟨p1, p2, s1, s2, m1, m2⟩ := hR.und
  have h1 := List.length_filter_le (fun x : Int × Int => memB k p mx my x.1 x.2) (flatC p (spanL 0 mx))
  have h2 := flatC_len p hR.2 (spanL 0 mx)
  rw [spanL_len] at h2
  have h3 := hc.1.2
  unfold memL
  omega
/-- What Members answers. -/
def MembersC (k p x y : Int) (w : World) (e : Ending) (w' : World) : Prop :=
  (¬ RightC k p → e = .returned (.tuple #[.slice none 0 0, .int .i64 2])) ∧
  (RightC k p → ¬ (HasCell k p x y ∧ p - shortN k ≤ x) → e = .returned (.tuple #[.slice none 0 0, .int .i64 4])) ∧
  (RightC k p → HasCell k p x y → p - shortN k ≤ x → ∃ u, e = .returned (.tuple #[u, .int .i64 0]) ∧ ReadP w'.heap.size w' u (memL k p x y)) ∧ Below w.heap.size w w'

theorem MembersC.form {k p x y : Int} {w w' : World} {e : Ending} (h : MembersC k p x y w e w') : ∃ (u : Value) (n : Int), e = .returned (.tuple #[u, .int .i64 n]) := by
  by_cases hR : RightC k p
  · by_cases hm : HasCell k p x y ∧ p - shortN k ≤ x
    · obtain ⟨u, e, _⟩ := h.2.2.1 hR hm.1 hm.2
      exact ⟨u, 0, e⟩
    · exact ⟨_, 4, h.2.1 hR hm⟩
  · exact ⟨_, 2, h.1 hR⟩

end Go.Proofs.YtcgnhfiadeceiaaGreatDoor

namespace Go.Proofs.YtcgnhfiadeceiaaGreatDoor
open Go.RowKit Go.Shelf

theorem flatC_mem' {p : Int} {cs : List Int} {z : Int × Int} (h : z ∈ flatC p cs) : z.1 ∈ cs ∧ 0 ≤ z.2 ∧ z.2 < p - 1 := by
  obtain ⟨x, hx, h⟩ := List.mem_flatMap.1 h
  obtain ⟨y, hy, rfl⟩ := List.mem_map.1 h
  unfold rowsL at hy
  obtain ⟨i, hi, rfl⟩ := List.mem_map.1 hy
  have := List.mem_range.1 hi
  exact ⟨hx, by simp only; omega, by simp only; omega⟩
theorem flatC_append (p : Int) (a b : List Int) : flatC p (a ++ b) = flatC p a ++ flatC p b := by unfold flatC; rw [List.flatMap_append]
theorem spanL_split (a b c : Int) (h1 : a ≤ b) (h2 : b ≤ c) : spanL a c = spanL a b ++ spanL b c := by
  unfold spanL
  rw [show (c - a).toNat = (b - a).toNat + (c - b).toNat by omega, List.range_add, List.map_append, List.map_map]
  congr 1
  apply List.map_congr_left
  intro i _
  simp only [Function.comp]
  omega
theorem memB_data {k p mx my x y : Int} (hR : RightC k p) (h : memB k p mx my x y = true) (hm : p - shortN k ≤ mx) : x < mx := by
  obtain ⟨p1, p2, s1, s2, m1, m2⟩ := hR.und
  unfold memB wayB at h
  split at h
  · have := (of_decide_eq_true h).1; omega
  · rename_i hr
    have : mx ≠ p - shortN k := fun e => hr (by rw [e]; exact if_pos rfl)
    split at h
    · unfold onDg at h
      split at h
      · have := (of_decide_eq_true h).1; omega
      · have := (of_decide_eq_true h).1; omega
    · have := (of_decide_eq_true h).1; omega
theorem memL_all {k p mx my : Int} (hR : RightC k p) (hc : HasCell k p mx my) (hm : p - shortN k ≤ mx) : (flatC p (spanL 0 (p - shortN k + madeN k))).filter (fun x => memB k p mx my x.1 x.2) = memL k p mx my := by
  obtain ⟨⟨h1, h2⟩, _⟩ := hc
  rw [spanL_split 0 mx _ h1 (by omega), flatC_append, List.filter_append]
  have : (flatC p (spanL mx (p - shortN k + madeN k))).filter (fun x => memB k p mx my x.1 x.2) = [] := by
    rw [List.filter_eq_nil_iff]
    intro z hz hb
    have h3 := spanL_mem (flatC_mem' hz).1
    have := memB_data hR hb hm
    omega
  rw [this, List.append_nil]
  rfl
end Go.Proofs.YtcgnhfiadeceiaaGreatDoor

namespace Go.Proofs.YtcgnhfiadeceiaaGreatDoor
open Go.RowKit Go.Shelf
set_option linter.unusedSimpArgs false
set_option linter.unusedVariables false

/-- The value v owns a row of its own, of the places l as callers know them. -/
def OwnA (w : World) (base : Nat) (v : Value) (l : List (Int × Int)) : Prop := w.ownsRow base 71 2 v l.length (codeCells l)
theorem ownA_nil (w : World) (base : Nat) : OwnA w base (.slice none 0 0) [] := World.ownsRow_nil w base _ 2
theorem OwnA.below {w w' : World} {base : Nat} {v : Value} {l : List (Int × Int)} (h : OwnA w base v l) (hb : Below w.heap.size w w') : OwnA w' base v l := by
  refine ⟨h.1, ?_⟩
  rcases h.2 with h1 | ⟨g, cap, cur, e, h2, hg, rest⟩
  · exact .inl h1
  · exact .inr ⟨g, cap, cur, e, h2, (hb.block g (Array.getElem?_eq_some_iff.1 hg).1).trans hg, rest⟩
theorem OwnA.own_le {w : World} {base : Nat} {v : Value} {l : List (Int × Int)} (h : OwnA w base v l) : ∀ k, v.ownBlock = some k → base ≤ k := fun k e => (World.ownsRow.lt h k e).1
theorem OwnA.ne {w : World} {base : Nat} {v : Value} {l : List (Int × Int)} (h : OwnA w base v l) {g : Nat} (hb : g < base) : some g ≠ v.ownBlock := fun e => by
  have := h.own_le g e.symm
  omega
theorem OwnA.less {w : World} {base base' : Nat} {v : Value} {l : List (Int × Int)} (h : OwnA w base v l) (hb : base' ≤ base) : OwnA w base' v l := ⟨h.1, h.2.imp id fun ⟨g, cap, cur, h1, h2, h3⟩ => ⟨g, cap, cur, h1, Nat.le_trans hb h2, h3⟩⟩
/-- The slice value v reads as the places l. -/
def ReadA (W : World) (v : Value) (l : List (Int × Int)) : Prop :=
  ∃ (p : Option Addr) (cap : Nat), v = .slice p l.length cap ∧ ∀ (j : Nat) (hj : j < l.length), ∃ g, p = some ⟨g, 0, none⟩ ∧ g < W.heap.size ∧ W.cell? ⟨g, j * 2, none⟩ = some (.int .i64 (l[j]).1) ∧ W.cell? ⟨g, j * 2 + 1, none⟩ = some (.int .i64 (l[j]).2)
theorem ReadA.next {W W' : World} {v : Value} {l : List (Int × Int)} (h : ReadA W v l) (hb : Below W.heap.size W W') : ReadA W' v l := by
  obtain ⟨p, cap, e, hc⟩ := h
  refine ⟨p, cap, e, fun j hj => ?_⟩
  obtain ⟨g, h1, h2, h3, h4⟩ := hc j hj
  exact ⟨g, h1, Nat.lt_of_lt_of_le h2 hb.size, nextc h3 hb, nextc h4 hb⟩
theorem ReadP.readA {W : World} {v : Value} {l : List (Int × Int)} (h : ReadP W.heap.size W v l) : ReadA W v l := by
  obtain ⟨g, cap, e, hg, hc⟩ := h
  exact ⟨some ⟨g, 0, none⟩, cap, e, fun j hj => ⟨g, rfl, hg, hc j hj⟩⟩
theorem OwnA.readA {w : World} {base : Nat} {v : Value} {l : List (Int × Int)} (h : OwnA w base v l) : ReadA w v l := by
  by_cases hl : l = []
  · subst hl
    rcases h.2 with ⟨rfl, _⟩ | ⟨g, cap, cur, e, _⟩
    · exact ⟨none, 0, rfl, fun j hj => absurd hj (Nat.not_lt_zero _)⟩
    · exact ⟨some ⟨g, 0, none⟩, cap, e, fun j hj => absurd hj (Nat.not_lt_zero _)⟩
  · obtain ⟨g, cap, rfl, hg, hg1⟩ := World.ownsRow.form h (List.length_pos_iff.2 hl)
    refine ⟨some ⟨g, 0, none⟩, cap, rfl, fun j hj => ⟨g, rfl, by omega, ?_⟩⟩
    obtain ⟨k0, k1⟩ := codeCells_at l j hj
    rw [Nat.mul_comm 2 j] at k0 k1
    exact ⟨(World.ownsRow.cellAt h (j * 2) (by omega)).trans k0, (World.ownsRow.cellAt h (j * 2 + 1) (by omega)).trans k1⟩
/-- append of one place more. -/
theorem OwnA.push {w : World} {base : Nat} {v : Value} {l : List (Int × Int)} {x y : Int} (h : w.ownsRow base 71 2 v (l.length + 1) (codeCells l ++ [.int .i64 x, .int .i64 y])) : OwnA w base v (l ++ [(x, y)]) := by
  unfold OwnA
  rw [List.length_append]
  unfold codeCells at *
  rw [List.flatMap_append]
  exact h

/-- The cells of j columns of R rows from column c on, and of n of the next one. -/
def grid (c : Int) (R j n : Nat) : List (Int × Int) := ((List.range j).flatMap fun (i : Nat) => (List.range R).map fun (r : Nat) => (c + (i : Int), (r : Int))) ++ (List.range n).map fun (r : Nat) => (c + (j : Int), (r : Int))
theorem grid_row (c : Int) (R j : Nat) : grid c R (j + 1) 0 = grid c R j R := by
  unfold grid
  rw [List.range_succ, List.flatMap_append]
  simp
theorem grid_one (c : Int) (R j n : Nat) : grid c R j (n + 1) = grid c R j n ++ [(c + (j : Int), (n : Int))] := by
  unfold grid
  rw [List.range_succ, List.map_append, List.append_assoc]
  rfl
theorem grid_flat (a b p : Int) : grid a (p - 1).toNat (b - a).toNat 0 = flatC p (spanL a b) := by
  unfold grid flatC spanL rowsL
  rw [List.flatMap_map]
  simp
  rfl
theorem grid_len (c : Int) (R j n : Nat) (hR : R ≤ 16) (hj : j ≤ 20) (hn : n ≤ R) : (grid c R j n).length ≤ 500 := by
  unfold grid
  rw [List.length_append, List.length_flatMap, List.length_map, List.length_range]
  have e : ((List.range j).map fun (i : Nat) => ((List.range R).map fun (r : Nat) => (c + (i : Int), (r : Int))).length) = (List.range j).map fun _ => R := by
    apply List.map_congr_left
    intro i _
    simp
  rw [e, List.map_const', List.sum_replicate_nat, List.length_range]
  have := Nat.mul_le_mul hj hR
  omega

end Go.Proofs.YtcgnhfiadeceiaaGreatDoor

namespace Go.Proofs.YtcgnhfiadeceiaaGreatDoor
open Go.RowKit Go.Shelf
set_option linter.unusedSimpArgs false
set_option linter.unusedVariables false
attribute [local go_sem] Oper.semAt_some

/-- What member answers, by roles, diagonal and slant. -/
def refB (k p my y r o dg sl : Int) : Bool :=
  if r = 2 then o == 1 && y == my else if r = 3 ∧ k = 2 then (o == 1 || o == 2) && dg == my else if r = 3 then o == 1 && (dg == my || dg == p - 1) else o == 1 && (sl == my || sl == p - 1)
theorem refB_mem {k p mx my x y : Int} (hR : RightC k p) (hc : HasCell k p mx my) (hm : p - shortN k ≤ mx) (hx : HasCell k p x y) : refB k p my y (rroleN (p - shortN k) mx) (rroleN (p - shortN k) x) ((x + y) % p) ((y - x) % p) = memB k p mx my x y := by
  have hu := hR.und
  obtain ⟨p1, p2, s1, s2, m1, m2⟩ := hu
  have e1 := role_eq (x := mx) ⟨hc.1.1, hc.1.2⟩ hR.und
  have e2 : (rroleN (p - shortN k) x = 1 ↔ x < p - shortN k) := by unfold rroleN; split <;> omega
  have e3 : (rroleN (p - shortN k) x = 2 ↔ x = p - shortN k) := by unfold rroleN; split <;> omega
  unfold memB wayB inRw onDg onSl dgN2 slN2
  rw [if_pos hx, if_pos hx, e1]
  unfold refB
  generalize rroleN (p - shortN k) mx = r at *
  generalize rroleN (p - shortN k) x = o at *
  generalize (x + y) % p = dg
  generalize (y - x) % p = sl
  generalize p - shortN k = d at *
  by_cases h2 : r = 2
  · rw [if_pos h2, if_pos h2, Bool.eq_iff_iff]
    simp [e2]
  · rw [if_neg h2, if_neg h2]
    by_cases h3 : r = 3
    · rw [if_pos h3]
      by_cases hk : k = 2
      · rw [if_pos ⟨h3, hk⟩, if_pos hk, Bool.eq_iff_iff]
        simp [e2, e3, h3]
      · rw [if_neg (fun h => hk h.2), if_pos h3, if_neg hk, Bool.eq_iff_iff]
        simp [e2]
    · rw [if_neg (fun h => h3 h.1), if_neg h3, if_neg h3, Bool.eq_iff_iff]
      simp [e2]

set_option maxRecDepth 100000 in
set_option maxHeartbeats 4000000 in
theorem member_walk (k p mx my x y r o dg sl : Int) (hb : -100 ≤ p ∧ p ≤ 100) (hRo : ∀ W, Calls Tryz.prog 102 #[.agg #[.int .i64 k, .int .i64 p], .int .i64 mx] W fun e w' => e = .returned (.int .i64 r) ∧ Below W.heap.size W w')
    (hOf : ∀ W, Calls Tryz.prog 102 #[.agg #[.int .i64 k, .int .i64 p], .int .i64 x] W fun e w' => e = .returned (.int .i64 o) ∧ Below W.heap.size W w')
    (hDg : ∀ W, Calls Tryz.prog 75 #[.agg #[.int .i64 k, .int .i64 p], .agg #[.int .i64 x, .int .i64 y]] W fun e w' => e = .returned (.int .i64 dg) ∧ Below W.heap.size W w')
    (hSl : ∀ W, Calls Tryz.prog 76 #[.agg #[.int .i64 k, .int .i64 p], .agg #[.int .i64 x, .int .i64 y]] W fun e w' => e = .returned (.int .i64 sl) ∧ Below W.heap.size W w') (w : World) :
    Calls Tryz.prog 74 #[.agg #[.int .i64 k, .int .i64 p], .agg #[.int .i64 mx, .int .i64 my], .agg #[.int .i64 x, .int .i64 y]] w fun e w' => e = .returned (.bool (refB k p my y r o dg sl)) ∧ Below w.heap.size w w' := by
  have HRo := Lib.hid hRo
  have HOf := Lib.hid hOf
  have HDg := Lib.hid hDg
  have HSl := Lib.hid hSl
  clear hRo hOf hDg hSl
  obtain ⟨W0, hW0⟩ : ∃ W0, ((w.alloc (.cells #[.int .i64 k, .int .i64 p] 37)).alloc (.cells #[.int .i64 mx, .int .i64 my] 71)).alloc (.cells #[.int .i64 x, .int .i64 y] 71) = W0 := ⟨_, rfl⟩
  have b0 : Blk W0 w.heap.size 37 #[.int .i64 k, .int .i64 p] := by rw [← hW0]; exact ((Blk.new w _ _).alloc _).alloc _
  have b1 : Blk W0 (w.heap.size + 1) 71 #[.int .i64 mx, .int .i64 my] := by rw [← hW0]; exact (Blk.second w _ _ _).alloc _
  have b2 : Blk W0 (w.heap.size + 1 + 1) 71 #[.int .i64 x, .int .i64 y] := by
    rw [← hW0]
    have := Blk.new ((w.alloc (.cells #[.int .i64 k, .int .i64 p] 37)).alloc (.cells #[.int .i64 mx, .int .i64 my] 71)) 71 #[.int .i64 x, .int .i64 y]
    rwa [World.size_alloc, World.size_alloc] at this
  have hB : Below w.heap.size w W0 := by rw [← hW0]; exact (below_two w _ _).alloc (by simp; omega) _
  have c0 := b0.cell 0
  have c1 := b0.cell 1
  have a0 := b1.cell 0
  have a1 := b1.cell 1
  have z0 := b2.cell 0
  have z1 := b2.cell 1
  simp only [List.getElem?_toArray, List.getElem?_cons_zero, List.getElem?_cons_succ] at c0 c1 a0 a1 z0 z1
  refine (callsIn_wide (n := 12)).1 ?_
  refine callsIn_of_wp_marks Tryz.func74 rfl trivial ?_ rfl
  simp only [Tryz.ntmps74, List.size_toArray, List.length_cons, List.length_nil, Nat.reduceAdd, Nat.reduceSub, Array.replicate_succ, Array.replicate_zero, List.push_toArray, List.append_toArray, List.nil_append, List.cons_append]
  gi_wp2_with fail
  clear hW0
  have hS : (fun V : World => V.cell? ⟨w.heap.size, 0, none⟩ = some (.int .i64 k) ∧ V.cell? ⟨w.heap.size, 1, none⟩ = some (.int .i64 p) ∧ V.cell? ⟨w.heap.size + 1, 0, none⟩ = some (.int .i64 mx) ∧ V.cell? ⟨w.heap.size + 1, 1, none⟩ = some (.int .i64 my) ∧ V.cell? ⟨w.heap.size + 1 + 1, 0, none⟩ = some (.int .i64 x) ∧ V.cell? ⟨w.heap.size + 1 + 1, 1, none⟩ = some (.int .i64 y)) _ := ⟨c0, c1, a0, a1, z0, z1⟩
  refine wpIn_mono (region_HF (Q := NoPanic _) (S := (fun V : World => V.cell? ⟨w.heap.size, 0, none⟩ = some (.int .i64 k) ∧ V.cell? ⟨w.heap.size, 1, none⟩ = some (.int .i64 p) ∧ V.cell? ⟨w.heap.size + 1, 0, none⟩ = some (.int .i64 mx) ∧ V.cell? ⟨w.heap.size + 1, 1, none⟩ = some (.int .i64 my) ∧ V.cell? ⟨w.heap.size + 1 + 1, 0, none⟩ = some (.int .i64 x) ∧ V.cell? ⟨w.heap.size + 1 + 1, 1, none⟩ = some (.int .i64 y))) (by kernel_rfl) ?_) NoPanic.imp
  refine anyHF_take (i := 0) (d := 11) (v := .agg #[.int .i64 k, .int .i64 p]) (by kernel_rfl) rfl (by kernel_rfl) (by kernel_rfl) (by kernel_rfl) rfl (fun _ _ _ h => h) ⟨Or.inl ⟨by rfl, fun w hS => by obtain ⟨h0, h1, h2, h3, h4, h5⟩ := hS; go_simp⟩, fun _ => rfl⟩ hS ?_
  simp only [List.setIfInBounds_toArray, List.set_cons_zero, List.set_cons_succ]
  refine anyHF_take (i := 1) (d := 12) (v := .pointer (some ⟨w.heap.size + 1, 0, none⟩)) (by kernel_rfl) rfl (by kernel_rfl) (by kernel_rfl) (by kernel_rfl) rfl (fun _ _ _ h => h) ⟨Or.inl ⟨by rfl, fun w hS => by obtain ⟨h0, h1, h2, h3, h4, h5⟩ := hS; go_simp⟩, fun _ => rfl⟩ hS ?_
  simp only [List.setIfInBounds_toArray, List.set_cons_zero, List.set_cons_succ]
  refine anyHF_take (i := 2) (d := 13) (v := .int .i64 mx) (by kernel_rfl) rfl (by kernel_rfl) (by kernel_rfl) (by kernel_rfl) rfl (fun _ _ _ h => h) ⟨Or.inl ⟨by rfl, fun w hS => by obtain ⟨h0, h1, h2, h3, h4, h5⟩ := hS; go_simp⟩, fun _ => rfl⟩ hS ?_
  simp only [List.setIfInBounds_toArray, List.set_cons_zero, List.set_cons_succ]
  refine anyHF_take (i := 4) (d := 15) (v := .agg #[.int .i64 k, .int .i64 p]) (by kernel_rfl) rfl (by kernel_rfl) (by kernel_rfl) (by kernel_rfl) rfl (fun _ _ _ h => h) ⟨Or.inl ⟨by rfl, fun w hS => by obtain ⟨h0, h1, h2, h3, h4, h5⟩ := hS; go_simp⟩, fun _ => rfl⟩ hS ?_
  simp only [List.setIfInBounds_toArray, List.set_cons_zero, List.set_cons_succ]
  refine anyHF_take (i := 5) (d := 16) (v := .pointer (some ⟨w.heap.size + 1 + 1, 0, none⟩)) (by kernel_rfl) rfl (by kernel_rfl) (by kernel_rfl) (by kernel_rfl) rfl (fun _ _ _ h => h) ⟨Or.inl ⟨by rfl, fun w hS => by obtain ⟨h0, h1, h2, h3, h4, h5⟩ := hS; go_simp⟩, fun _ => rfl⟩ hS ?_
  simp only [List.setIfInBounds_toArray, List.set_cons_zero, List.set_cons_succ]
  refine anyHF_take (i := 6) (d := 17) (v := .int .i64 x) (by kernel_rfl) rfl (by kernel_rfl) (by kernel_rfl) (by kernel_rfl) rfl (fun _ _ _ h => h) ⟨Or.inl ⟨by rfl, fun w hS => by obtain ⟨h0, h1, h2, h3, h4, h5⟩ := hS; go_simp⟩, fun _ => rfl⟩ hS ?_
  simp only [List.setIfInBounds_toArray, List.set_cons_zero, List.set_cons_succ]
  refine anyHF_one (i := 3) (by kernel_rfl) rfl (by kernel_rfl) (by rfl) ?_
  gi_wp2_with fail
  refine ⟨trivial, (callsIn_wide.2 (HRo.out _)).mono ?_⟩
  rintro e w1 ⟨rfl, hB1⟩
  replace hB1 := below_undrew hB1
  replace b0 := b0.below hB1 b0.lt
  replace b1 := b1.below hB1 b1.lt
  replace b2 := b2.below hB1 b2.lt
  replace hB := below_in hB hB1
  clear c0 c1 a0 a1 z0 z1
  have c0 := b0.cell 0
  have c1 := b0.cell 1
  have a0 := b1.cell 0
  have a1 := b1.cell 1
  have z0 := b2.cell 0
  have z1 := b2.cell 1
  simp only [List.getElem?_toArray, List.getElem?_cons_zero, List.getElem?_cons_succ] at c0 c1 a0 a1 z0 z1
  clear hS
  gi_wp2
  refine anyHF_one (i := 7) (by kernel_rfl) rfl (by kernel_rfl) (by rfl) ?_
  gi_wp2_with fail
  refine ⟨trivial, (callsIn_wide.2 (HOf.out _)).mono ?_⟩
  rintro e w1 ⟨rfl, hB1⟩
  replace b0 := b0.below hB1 b0.lt
  replace b1 := b1.below hB1 b1.lt
  replace b2 := b2.below hB1 b2.lt
  replace hB := below_in hB hB1
  clear c0 c1 a0 a1 z0 z1
  have c0 := b0.cell 0
  have c1 := b0.cell 1
  have a0 := b1.cell 0
  have a1 := b1.cell 1
  have z0 := b2.cell 0
  have z1 := b2.cell 1
  simp only [List.getElem?_toArray, List.getElem?_cons_zero, List.getElem?_cons_succ] at c0 c1 a0 a1 z0 z1
  gi_wp2
  refine anyHF_one (i := 8) (by kernel_rfl) rfl (by kernel_rfl) (by rfl) ?_
  gi_wp2
  refine anyHF_one (i := 9) (by kernel_rfl) rfl (by kernel_rfl) (by rfl) ?_
  gi_wp2
  refine anyHF_done (by kernel_rfl) ?_ _
  refine NoPanic.normal ?_
  gi_wp2_with fail
  have hS : (fun V : World => V.cell? ⟨w.heap.size, 0, none⟩ = some (.int .i64 k) ∧ V.cell? ⟨w.heap.size, 1, none⟩ = some (.int .i64 p) ∧ V.cell? ⟨w.heap.size + 1, 0, none⟩ = some (.int .i64 mx) ∧ V.cell? ⟨w.heap.size + 1, 1, none⟩ = some (.int .i64 my) ∧ V.cell? ⟨w.heap.size + 1 + 1, 0, none⟩ = some (.int .i64 x) ∧ V.cell? ⟨w.heap.size + 1 + 1, 1, none⟩ = some (.int .i64 y)) _ := ⟨c0, c1, a0, a1, z0, z1⟩
  refine wpIn_mono (region_HF (Q := NoPanic _) (S := (fun V : World => V.cell? ⟨w.heap.size, 0, none⟩ = some (.int .i64 k) ∧ V.cell? ⟨w.heap.size, 1, none⟩ = some (.int .i64 p) ∧ V.cell? ⟨w.heap.size + 1, 0, none⟩ = some (.int .i64 mx) ∧ V.cell? ⟨w.heap.size + 1, 1, none⟩ = some (.int .i64 my) ∧ V.cell? ⟨w.heap.size + 1 + 1, 0, none⟩ = some (.int .i64 x) ∧ V.cell? ⟨w.heap.size + 1 + 1, 1, none⟩ = some (.int .i64 y))) (by kernel_rfl) ?_) NoPanic.imp
  refine anyHF_take (i := 0) (d := 19) (v := .agg #[.int .i64 k, .int .i64 p]) (by kernel_rfl) rfl (by kernel_rfl) (by kernel_rfl) (by kernel_rfl) rfl (fun _ _ _ h => h) ⟨Or.inl ⟨by rfl, fun w hS => by obtain ⟨h0, h1, h2, h3, h4, h5⟩ := hS; go_simp⟩, fun _ => rfl⟩ hS ?_
  simp only [List.setIfInBounds_toArray, List.set_cons_zero, List.set_cons_succ]
  refine anyHF_take (i := 1) (d := 20) (v := .agg #[.int .i64 x, .int .i64 y]) (by kernel_rfl) rfl (by kernel_rfl) (by kernel_rfl) (by kernel_rfl) rfl (fun _ _ _ h => h) ⟨Or.inl ⟨by rfl, fun w hS => by obtain ⟨h0, h1, h2, h3, h4, h5⟩ := hS; go_simp⟩, fun _ => rfl⟩ hS ?_
  simp only [List.setIfInBounds_toArray, List.set_cons_zero, List.set_cons_succ]
  refine anyHF_take (i := 3) (d := 22) (v := .agg #[.int .i64 k, .int .i64 p]) (by kernel_rfl) rfl (by kernel_rfl) (by kernel_rfl) (by kernel_rfl) rfl (fun _ _ _ h => h) ⟨Or.inl ⟨by rfl, fun w hS => by obtain ⟨h0, h1, h2, h3, h4, h5⟩ := hS; go_simp⟩, fun _ => rfl⟩ hS ?_
  simp only [List.setIfInBounds_toArray, List.set_cons_zero, List.set_cons_succ]
  refine anyHF_take (i := 4) (d := 23) (v := .agg #[.int .i64 x, .int .i64 y]) (by kernel_rfl) rfl (by kernel_rfl) (by kernel_rfl) (by kernel_rfl) rfl (fun _ _ _ h => h) ⟨Or.inl ⟨by rfl, fun w hS => by obtain ⟨h0, h1, h2, h3, h4, h5⟩ := hS; go_simp⟩, fun _ => rfl⟩ hS ?_
  simp only [List.setIfInBounds_toArray, List.set_cons_zero, List.set_cons_succ]
  refine anyHF_one (i := 2) (by kernel_rfl) rfl (by kernel_rfl) (by rfl) ?_
  gi_wp2_with fail
  refine ⟨trivial, (callsIn_wide.2 (HDg.out _)).mono ?_⟩
  rintro e w1 ⟨rfl, hB1⟩
  replace hB1 := below_undrew hB1
  replace b0 := b0.below hB1 b0.lt
  replace b1 := b1.below hB1 b1.lt
  replace b2 := b2.below hB1 b2.lt
  replace hB := below_in hB hB1
  clear c0 c1 a0 a1 z0 z1
  have c0 := b0.cell 0
  have c1 := b0.cell 1
  have a0 := b1.cell 0
  have a1 := b1.cell 1
  have z0 := b2.cell 0
  have z1 := b2.cell 1
  simp only [List.getElem?_toArray, List.getElem?_cons_zero, List.getElem?_cons_succ] at c0 c1 a0 a1 z0 z1
  gi_wp2
  refine anyHF_one (i := 5) (by kernel_rfl) rfl (by kernel_rfl) (by rfl) ?_
  gi_wp2_with fail
  refine ⟨trivial, (callsIn_wide.2 (HSl.out _)).mono ?_⟩
  rintro e w1 ⟨rfl, hB1⟩
  replace b0 := b0.below hB1 b0.lt
  replace b1 := b1.below hB1 b1.lt
  replace b2 := b2.below hB1 b2.lt
  replace hB := below_in hB hB1
  clear c0 c1 a0 a1 z0 z1
  have c0 := b0.cell 0
  have c1 := b0.cell 1
  have a0 := b1.cell 0
  have a1 := b1.cell 1
  have z0 := b2.cell 0
  have z1 := b2.cell 1
  simp only [List.getElem?_toArray, List.getElem?_cons_zero, List.getElem?_cons_succ] at c0 c1 a0 a1 z0 z1
  gi_wp2
  refine anyHF_one (i := 6) (by kernel_rfl) rfl (by kernel_rfl) (by rfl) ?_
  gi_wp2
  refine anyHF_one (i := 7) (by kernel_rfl) rfl (by kernel_rfl) (by rfl) ?_
  gi_wp2
  refine anyHF_done (by kernel_rfl) ?_ _
  refine NoPanic.normal ?_
  clear hS HRo HOf HDg HSl
  cases hr2 : ((r == 2) : Bool) with
  | true =>
    cases ho1 : ((o == 1) : Bool) with
    | true =>
      cases hymy : ((y == my) : Bool) with
      | true =>
        gi_wp2
        exact ⟨.bool true, by simp [results, Tryz.results74, go_sem], ret_bool (by unfold refB; simp_all), hB⟩
      | false =>
        gi_wp2
        exact ⟨.bool false, by simp [results, Tryz.results74, go_sem], ret_bool (by unfold refB; simp_all), hB⟩
    | false =>
      gi_wp2
      exact ⟨.bool false, by simp [results, Tryz.results74, go_sem], ret_bool (by unfold refB; simp_all), hB⟩
  | false =>
    cases hr3 : ((r == 3) : Bool) with
    | true =>
      cases hk2 : ((k == 2) : Bool) with
      | true =>
        cases ho1 : ((o == 1) : Bool) with
        | true =>
          cases hdgmy : ((dg == my) : Bool) with
          | true =>
            gi_wp2
            exact ⟨.bool true, by simp [results, Tryz.results74, go_sem], ret_bool (by unfold refB; simp_all), hB⟩
          | false =>
            gi_wp2
            exact ⟨.bool false, by simp [results, Tryz.results74, go_sem], ret_bool (by unfold refB; simp_all), hB⟩
        | false =>
          cases ho2 : ((o == 2) : Bool) with
          | true =>
            cases hdgmy : ((dg == my) : Bool) with
            | true =>
              gi_wp2
              exact ⟨.bool true, by simp [results, Tryz.results74, go_sem], ret_bool (by unfold refB; simp_all), hB⟩
            | false =>
              gi_wp2
              exact ⟨.bool false, by simp [results, Tryz.results74, go_sem], ret_bool (by unfold refB; simp_all), hB⟩
          | false =>
            gi_wp2
            exact ⟨.bool false, by simp [results, Tryz.results74, go_sem], ret_bool (by unfold refB; simp_all), hB⟩
      | false =>
        cases ho1 : ((o == 1) : Bool) with
        | true =>
          cases hdgmy : ((dg == my) : Bool) with
          | true =>
            gi_wp2
            exact ⟨.bool true, by simp [results, Tryz.results74, go_sem], ret_bool (by unfold refB; simp_all), hB⟩
          | false =>
            cases hdgp : ((dg == p - 1) : Bool) with
            | true =>
              gi_wp2
              exact ⟨.bool true, by simp [results, Tryz.results74, go_sem], ret_bool (by unfold refB; simp_all), hB⟩
            | false =>
              gi_wp2
              exact ⟨.bool false, by simp [results, Tryz.results74, go_sem], ret_bool (by unfold refB; simp_all), hB⟩
        | false =>
          gi_wp2
          exact ⟨.bool false, by simp [results, Tryz.results74, go_sem], ret_bool (by unfold refB; simp_all), hB⟩
    | false =>
      cases ho1 : ((o == 1) : Bool) with
      | true =>
        cases hslmy : ((sl == my) : Bool) with
        | true =>
          gi_wp2
          exact ⟨.bool true, by simp [results, Tryz.results74, go_sem], ret_bool (by unfold refB; simp_all), hB⟩
        | false =>
          cases hslp : ((sl == p - 1) : Bool) with
          | true =>
            gi_wp2
            exact ⟨.bool true, by simp [results, Tryz.results74, go_sem], ret_bool (by unfold refB; simp_all), hB⟩
          | false =>
            gi_wp2
            exact ⟨.bool false, by simp [results, Tryz.results74, go_sem], ret_bool (by unfold refB; simp_all), hB⟩
      | false =>
        gi_wp2
        exact ⟨.bool false, by simp [results, Tryz.results74, go_sem], ret_bool (by unfold refB; simp_all), hB⟩
end Go.Proofs.YtcgnhfiadeceiaaGreatDoor

