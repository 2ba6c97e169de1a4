/- CellsHolds: what its loop keeps. -/
import Derived.Test.YtjkpmhannmbgfaaCLawKit
import Derived.Test.YtjkpmhannmbgfaaCHoldsMath
import Derived.Test.YtjkpmhannmbgfaaCHoldEnd
import Derived.Maps.OwnIn
import Derived.Maps.Range
import Derived.Deep.AppendLies
import Derived.Deep.RegionHeld3
namespace Go.Proofs.Ytjkpmhannmbgfaa.cellsHolds
open Go.ChangeShapes Go.WideShapes Go.ChangeAt Go.RowKit Go.Shelf
set_option linter.unusedVariables false

theorem grown_all {W W' : World} (h : Below W.heap.size W W') : W.grownBy W' none := ⟨h.os, h.tape, h.output, h.size, fun k hk _ => h.block k hk⟩
theorem grown_set (W : World) (p : Addr) (v : Value) : W.grownBy (W.setCell p v) (some p.block) := ⟨rfl, rfl, rfl, by simp, fun k _ hk => Below.heap_setCell W p v k (fun e => hk (by rw [e]))⟩
theorem left_grown {base : Nat} {W W' : World} {Ds : List Nat} {row : Option Nat} (h : Left base W Ds) (hg : W.grownBy W' row) (hr : ∀ g, row = some g → ∃ cs t fr, W.heap[g]? = some (.cells cs t fr)) : Left base W' Ds :=
  ⟨h.1, fun D hD => ⟨(h.2 D hD).1, (hg.block D (h.lt hD) (fun e => by
    obtain ⟨cs, t, fr, e2⟩ := hr D e.symm
    rw [(h.2 D hD).2] at e2; cases e2)).trans (h.2 D hD).2⟩⟩

/-- What stands: the place asked for, the flag, what was put upon one another. -/
def Stand (w V : World) (va : Value) (a : List UInt8) (bt : Int) (hb : Nat) (h : Bool) : Prop :=
  Below w.heap.size w V ∧ Blk V w.heap.size 3 #[.int .i64 bt] ∧ Blk V hb 4 #[.bool h] ∧ Bytes hb V va a ∧ w.heap.size < hb
section
variable {w V V' : World} {va : Value} {a : List UInt8} {bt : Int} {hb : Nat} {h h' : Bool}
theorem Stand.next (hS : Stand w V va a bt hb h) (hB : Below V.heap.size V V') : Stand w V' va a bt hb h :=
  ⟨hS.1.trans (hB.mono hS.1.size), hS.2.1.below hB hS.2.1.lt, hS.2.2.1.below hB hS.2.2.1.lt, hS.2.2.2.1.below (hB.mono (Nat.le_of_lt hS.2.2.1.lt)), hS.2.2.2.2⟩
theorem Stand.grown {row : Option Nat} (hS : Stand w V va a bt hb h) (hg : V.grownBy V' row) (hr : ∀ g, row = some g → hb < g) : Stand w V' va a bt hb h :=
  ⟨hS.1.grown hg hS.1.size (fun k e => by have := hr k e; have := hS.2.2.2.2; omega), hS.2.1.grown hg (fun e => by have := hr _ e.symm; have := hS.2.2.2.2; omega), hS.2.2.1.grown hg (fun e => by have := hr _ e.symm; omega),
    hS.2.2.2.1.below ((Below.refl hb V).grown hg (Nat.le_of_lt hS.2.2.1.lt) (fun k e => Nat.le_of_lt (hr k e))), hS.2.2.2.2⟩
theorem Stand.turn (hS : Stand w V va a bt hb h) (hg : V.grownBy V' (some hb)) (hh : Blk V' hb 4 #[.bool h']) : Stand w V' va a bt hb h' :=
  ⟨hS.1.grown hg hS.1.size (fun k e => by injection e with e; have := hS.2.2.2.2; omega), hS.2.1.grown hg (fun e => by injection e with e; have := hS.2.2.2.2; omega), hh,
    hS.2.2.2.1.below ((Below.refl hb V).grown hg (Nat.le_of_lt hS.2.2.1.lt) (fun k e => by injection e with e; omega)), hS.2.2.2.2⟩
end

/-- A row of the call's own, of lists that came in. -/
def OwnR (W : World) (B base : Nat) (v : Value) (rs : List (List UInt8)) : Prop :=
  ∃ vals, OwnV W base v vals ∧ vals.length = rs.length ∧ ∀ j, j < rs.length → Bytes B W (vals[j]?.getD undef) (rs[j]?.getD [])
section
variable {W W' : World} {B base : Nat} {v : Value} {rs : List (List UInt8)}
theorem ownR_nil (W : World) (B base : Nat) : OwnR W B base (.slice none 0 0) [] := ⟨[], ownV_nil _ _, rfl, fun j hj => absurd hj (by simp)⟩
theorem OwnR.grown {row : Option Nat} (h : OwnR W B base v rs) (hg : W.grownBy W' row) (hne : v.ownBlock = none ∨ v.ownBlock ≠ row) (hB : B ≤ W.heap.size) (hr : ∀ g, row = some g → B ≤ g) : OwnR W' B base v rs := by
  obtain ⟨vals, hV, hl, hE⟩ := h
  exact ⟨vals, World.ownsRow.kept hV hg hne, hl, fun j hj => (hE j hj).below ((Below.refl B W).grown hg hB hr)⟩
theorem OwnR.lt (h : OwnR W B base v rs) : ∀ g, v.ownBlock = some g → base ≤ g ∧ g < W.heap.size := by
  obtain ⟨vals, hV, _⟩ := h
  exact World.ownsRow.lt hV
theorem OwnR.cells (h : OwnR W B base v rs) : ∀ g, v.ownBlock = some g → ∃ cs t fr, W.heap[g]? = some (.cells cs t fr) := by
  obtain ⟨vals, hV, _⟩ := h
  intro g e
  rcases hV.2 with ⟨rfl, _⟩ | ⟨g', cap, cur, rfl, _, hg, _⟩
  · cases e
  · injection e with e; subst e; exact ⟨_, _, _, hg⟩
theorem OwnR.next (h : OwnR W B base v rs) (hB : Below W.heap.size W W') (hBs : B ≤ W.heap.size) : OwnR W' B base v rs :=
  h.grown (grown_all hB) (by cases hv : v.ownBlock <;> simp) hBs (fun g e => by cases e)
end

theorem wpListIn_oneR {F : Fence} {nF : Nat} (w : World) {ops : Array Oper} {rest : List Oper} {o : Oper} {a : Act} {Q : Exit → Act → World → Prop} (hgd : o.guard = none) (s x : Operand)
    (ho : o.op = .call { callee := .builtin .append, args := #[s, x], argTypes := #[22, 22] })
    (B base : Nat) (v : Value) (rs : List (List UInt8)) (hs : a.eval s = v) (hown : OwnR w B base v rs) (g : Nat) (u : Value) (l : List UInt8) (hx : a.eval x = .slice (some ⟨g, 0, none⟩) 1 1) (hu : w.cell? ⟨g, 0, none⟩ = some u) (hE : Bytes B w u l) (hBb : B ≤ base)
    (hlen : rs.length ≤ 1000000000) (hbase : base ≤ w.heap.size)
    (h : ∀ v' w', OwnR w' B base v' (rs ++ [l]) → w.grownBy w' v.ownBlock → wpListIn F nF Try.prog ops Q rest (a.put o.dst v') w') : wpListIn F nF Try.prog ops Q (o :: rest) a w := by
  have hlt := hown.lt
  obtain ⟨vals, hV, hl, hEs⟩ := hown
  obtain ⟨i, hi, hz0, hz1, hz2⟩ := info_parts Try.infoSlice
  refine wpListIn_append_own_at w hgd s x 22 ho base 25 i (.slice none 0 0) 1 24 Try.underlying22 hi hz0 hz1 hz2 rfl (by omega) v vals.length vals hs hV ⟨g, 0, none⟩ 1 1 [u] hx rfl
    (by intro j y hy
        match j with
        | 0 => simp at hy; subst hy; rw [addr_add]; exact hu
        | j + 1 => simp at hy)
    (by intro y hy; obtain rfl : y = u := (by simpa using hy); obtain ⟨A, cap, rfl, _⟩ := hE; rfl) (by unfold maxLen; omega) (by omega) hbase ?_
  intro v' w' h1 h2 _ h3
  have hbel : Below B w w' := (Below.refl B w).grown h2 (by omega) (fun k e => by have := (hlt k e).1; omega)
  refine h v' w' ⟨vals ++ [u], ?_, by rw [List.length_append, List.length_append, hl]; rfl, fun j hj => ?_⟩ h2
  · unfold OwnV
    rw [List.length_append]
    exact h1
  · rw [List.length_append, List.length_singleton] at hj
    by_cases hjl : j < rs.length
    · rw [List.getElem?_append_left (by omega), List.getElem?_append_left hjl]
      exact (hEs j hjl).below hbel
    · obtain rfl : j = rs.length := by omega
      rw [List.getElem?_append_right (by omega), List.getElem?_append_right (Nat.le_refl _), hl, Nat.sub_self]
      exact hE.below hbel

/-- A flag in block hb that is turned by each place that comes; all else lies as it lay in V. -/
def Turn (V : World) (hb : Nat) (f : Bool → Nat → Bool) (h0 : Bool) (pre : List Nat) (W : World) : Prop := V.grownBy W (some hb) ∧ Blk W hb 4 #[.bool (pre.foldl f h0)]
theorem turn_own (V : World) (hb : Nat) (f : Bool → Nat → Bool) (h0 : Bool) (B : Nat) (hB : V.heap.size ≤ B) : OwnFrom B (Turn V hb f h0) := fun s X Y row hs hg hr =>
  ⟨hs.1.andThen hg (fun j e => .inl (Nat.le_trans hB (hr j e).1)), hs.2.grown hg (fun e => by
    obtain ⟨o, ho, hc⟩ := (hr hb e.symm).2
    rw [show X.heap[hb]? = _ from hs.2] at ho; cases ho; cases hc)⟩
theorem Turn.set_ {V W : World} {hb : Nat} {f : Bool → Nat → Bool} {h0 : Bool} {pre : List Nat} (h : Turn V hb f h0 pre W) (x : Nat) (c : Bool) (hc : f (pre.foldl f h0) x = c) : Turn V hb f h0 (pre ++ [x]) (W.setCell ⟨hb, 0, none⟩ (.bool c)) :=
  ⟨h.1.trans (grown_set W ⟨hb, 0, none⟩ _), by rw [List.foldl_append]; show Blk _ _ _ #[.bool (f (pre.foldl f h0) x)]; rw [hc]; exact h.2.set_ 0 _⟩
theorem fresh_toP {base : Nat} {W : World} {v : Value} {l : List UInt8} {P : Nat → Prop} (h : Fresh base W v l) (hP : ∀ b, base ≤ b → b < W.heap.size → P b) : BytesP P W v l := by
  obtain ⟨A, cap, e, hc, hA⟩ := h
  refine ⟨A, cap, e, hc, fun hp => ?_⟩
  obtain ⟨b, off, e2, h1, h2, hcell⟩ := hA hp
  exact ⟨b, off, e2, hP b h1 h2, hcell⟩
theorem bit_eq (x b : Nat) (h : x = b) : ((x : Int) == (b : Int)) = true := by rw [h]; simp
theorem bit_ne (x b : Nat) (h : ¬ x = b) : ((x : Int) == (b : Int)) = false := by rw [beq_eq_false_iff_ne]; omega

theorem below_one (W : World) (o : Obj) : Below W.heap.size W (W.alloc o).drew := ((Below.refl _ W).alloc (Nat.le_refl _) _).drew
theorem below_two (W : World) (o o' : Obj) : Below W.heap.size W ((W.alloc o).alloc o').drew := (((Below.refl _ W).alloc (Nat.le_refl _) _).alloc (by simp) _).drew
theorem blk_one (W : World) (t : TypeId) (cs : Array Value) : Blk (W.alloc (.cells cs t)).drew W.heap.size t cs := Blk.new W t cs
theorem blk_first (W : World) (t : TypeId) (cs : Array Value) (o : Obj) : Blk ((W.alloc (.cells cs t)).alloc o).drew W.heap.size t cs := (Blk.new W t cs).alloc o
theorem blk_second (W : World) (t : TypeId) (cs : Array Value) (o : Obj) : Blk ((W.alloc o).alloc (.cells cs t)).drew (W.heap.size + 1) t cs := by
  have := Blk.new (W.alloc o) t cs
  rwa [World.size_alloc] at this

theorem ownV_one {w : World} {base g : Nat} {u : Value} (hb : base ≤ g) (hg : Blk w g 25 #[u]) : OwnV w base (.slice (some ⟨g, 0, none⟩) 1 1) [u] :=
  ⟨rfl, .inr ⟨g, 1, #[u], rfl, hb, hg, Nat.le_refl _, by unfold maxLen; omega, rfl, rfl⟩⟩
/-- append of a whole row to one that holds one value. -/
theorem step_all {w : World} {ops : Array Oper} {o : Oper} {a : Act} {K : Act → World → Prop} {Q : Exit → Act → World → Prop} {E : Prop} (hgd : o.guard = none) (s x : Operand)
    (ho : o.op = .call { callee := .builtin .append, args := #[s, x], argTypes := #[22, 22] })
    (W : World) (hW : Below W.heap.size W w) (g1 : Nat) (h1 : W.heap.size ≤ g1) (u : Value) (hg1 : Blk w g1 25 #[u]) (hs : a.eval s = .slice (some ⟨g1, 0, none⟩) 1 1)
    (gt cap base : Nat) (vals : List Value) (hx : a.eval x = .slice (some ⟨gt, 0, none⟩) vals.length cap) (hgt : gt < W.heap.size) (hc : ∀ j, j < vals.length → W.cell? ⟨gt, j, none⟩ = vals[j]?) (hone : ∀ u ∈ vals, u.oneCell' = true) (hle : vals.length ≤ 1000)
    (h : ∀ v' w', OwnV w' W.heap.size v' (u :: vals) → Below W.heap.size W w' → w.grownBy w' (some g1) → K (a.put o.dst v') w') :
    if Region.wanted o (yielded ops a.tmps) = true then Oper.wp Try.prog o a w K Q else E := by
  have hw : Region.wanted o (yielded ops a.tmps) = true := by simp [Region.wanted, hgd]
  rw [if_pos hw]
  obtain ⟨i, hi, hz0, hz1, hz2⟩ := info_parts Try.infoSlice
  obtain ⟨v', w', hrun, r1, r2, _, r3⟩ := run_append_own_at (P := Try.prog) w W.heap.size 22 o.type 25 i (.slice none 0 0) 1 24 Try.underlying22 hi hz0 hz1 hz2 rfl (by omega) _ 1 [u] (ownV_one h1 hg1) ⟨gt, 0, none⟩ vals.length cap vals (by simp)
    (by intro j y hy
        have hj : j < vals.length := (List.getElem?_eq_some_iff.1 hy).1
        rw [addr_add, Nat.zero_add]
        exact (hW.cell (p := ⟨gt, j, none⟩) hgt).trans ((hc j hj).trans hy)) hone (by unfold maxLen; omega) (by omega) hW.size
  unfold Oper.wp execOp
  simp only [ho, resolve, invoke, builtin, Sem.run_bind, Sem.run_pure, Result.andThen_ok, List.map_toArray, List.map_cons, List.map_nil, hs, hx, hrun]
  refine h v' w' ?_ (hW.grown r2 hW.size (fun k e => by injection e with e; simp at e; omega)) r2
  unfold OwnV
  rw [List.length_cons, Nat.add_comm]
  exact r1
/-- append of one value more. -/
theorem step_last {w : World} {ops : Array Oper} {o : Oper} {a : Act} {K : Act → World → Prop} {Q : Exit → Act → World → Prop} {E : Prop} (hgd : o.guard = none) (s x : Operand)
    (ho : o.op = .call { callee := .builtin .append, args := #[s, x], argTypes := #[22, 22] })
    (W : World) (hW : Below W.heap.size W w) (v : Value) (xs : List Value) (hs : a.eval s = v) (hown : OwnV w W.heap.size v xs) (g2 : Nat) (u : Value) (hg2 : Blk w g2 25 #[u]) (hx : a.eval x = .slice (some ⟨g2, 0, none⟩) 1 1) (hone : u.oneCell' = true) (hle : xs.length ≤ 1001)
    (h : ∀ v' w', OwnV w' W.heap.size v' (xs ++ [u]) → Below W.heap.size W w' → K (a.put o.dst v') w') :
    if Region.wanted o (yielded ops a.tmps) = true then Oper.wp Try.prog o a w K Q else E := by
  have hw : Region.wanted o (yielded ops a.tmps) = true := by simp [Region.wanted, hgd]
  rw [if_pos hw]
  obtain ⟨i, hi, hz0, hz1, hz2⟩ := info_parts Try.infoSlice
  have hlt := World.ownsRow.lt hown
  obtain ⟨v', w', hrun, r1, r2, _, r3⟩ := run_append_own_at (P := Try.prog) w W.heap.size 22 o.type 25 i (.slice none 0 0) 1 24 Try.underlying22 hi hz0 hz1 hz2 rfl (by omega) v xs.length xs hown ⟨g2, 0, none⟩ 1 1 [u] rfl
    (by intro j y hy
        match j with
        | 0 => simp at hy; subst hy; rw [addr_add]; exact hg2.one
        | j + 1 => simp at hy) (by intro y hy; obtain rfl : y = u := (by simpa using hy); exact hone) (by unfold maxLen; omega) (by omega) hW.size
  unfold Oper.wp execOp
  simp only [ho, resolve, invoke, builtin, Sem.run_bind, Sem.run_pure, Result.andThen_ok, List.map_toArray, List.map_cons, List.map_nil, hs, hx, hrun]
  refine h v' w' ?_ (hW.grown r2 hW.size (fun k e => (hlt k e).1))
  unfold OwnV
  rw [List.length_append]
  exact r1
theorem many_of {W : World} {B base : Nat} {v : Value} {vals : List Value} {L : List (List UInt8)} (hV : OwnV W base v vals) (hl : vals.length = L.length) (hE : ∀ j, j < L.length → Bytes B W (vals[j]?.getD undef) (L[j]?.getD [])) (hB : B ≤ W.heap.size) : Many W.heap.size W v L := by
  obtain ⟨A, cap, rfl, hc, hA⟩ := hV.cells
  refine ⟨A, cap, by rw [hl], by omega, fun hp => ?_⟩
  obtain ⟨g, rfl, _, h2, h3⟩ := hA (by omega)
  refine ⟨g, 0, rfl, h2, fun j hj => ⟨vals[j]?.getD undef, ?_, (hE j hj).more hB⟩⟩
  rw [Nat.zero_add, h3 j (by omega), List.getElem?_eq_getElem (by omega)]; rfl
theorem ends {W : World} {B : Nat} {u : Value} {c : List UInt8} {vals : List Value} {rs : List (List UInt8)} (hl : vals.length = rs.length) (hE : ∀ j, j < rs.length → Bytes B W (vals[j]?.getD undef) (rs[j]?.getD [])) (hu : Bytes B W u c) :
    ∀ j, j < (c :: rs ++ [c]).length → Bytes B W ((u :: vals ++ [u])[j]?.getD undef) ((c :: rs ++ [c])[j]?.getD []) := by
  intro j hj
  rcases j with _ | j
  · exact hu
  · have hj' : j < rs.length + 1 := by simpa using hj
    show Bytes B W ((vals ++ [u])[j]?.getD undef) ((rs ++ [c])[j]?.getD [])
    by_cases h : j < rs.length
    · rw [List.getElem?_append_left (by omega), List.getElem?_append_left h]; exact hE j h
    · obtain rfl : j = rs.length := by omega
      rw [List.getElem?_append_right (by omega), List.getElem?_append_right (Nat.le_refl _), hl, Nat.sub_self]; exact hu
end Go.Proofs.Ytjkpmhannmbgfaa.cellsHolds
