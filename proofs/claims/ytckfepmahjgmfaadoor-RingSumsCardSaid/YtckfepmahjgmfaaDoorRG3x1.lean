/- The mathematics of EVENODD: the bytes at a place of cells that are put upon one another. The document's answers for EVENODD: the same columns. Lists that a call builds by append: of cells, of columns; which blocks they lie in. Lists that a call builds by append: many elements at once. The document's answers for EVENODD: a nought; columns put upon one another. The laws of EVENODD: columns that came in. ring: giving up, what is answered. Structs of many cells, loaded and stored whole. ring: a column under way: its values; its cells. ring: a settled cell. ring: a range whose round is a known act and whose body keeps no row of its own; columns that are moved. -/
import Derived.Test.YtckfepmahjgmfaaDoorRG2
import Derived.Test.YtckfepmahjgmfaaDoorRG2x1
import Derived.Test.YtckfepmahjgmfaaDoorRG1
import Derived.Test.YtckfepmahjgmfaaDoorRG1x1
import Derived.BigFrame
import Derived.Test.YtckfepmahjgmfaaDoorRSA
import Derived.Test.YtckfepmahjgmfaaDoorRSAx1
import Derived.Deep.Matrix
import Derived.ShutString
import Derived.ChangeOld
import Derived.Laws.CopyOwn
import Derived.Laws.Tables
import Derived.Test.YtckfepmahjgmfaaDoorRMA
import Derived.Test.YtckfepmahjgmfaaDoorRMAx1
import Derived.Test.YtckfepmahjgmfaaDoorRCAx1
import Derived.Test.YtckfepmahjgmfaaDoorRG3
namespace Go.Proofs.YtckfepmahjgmfaaDoor.E
open Go.RowKit Go.Shelf Go.Proofs.YtckfepmahjgmfaaDoor.C
set_option linter.unusedSimpArgs false
set_option linter.unusedVariables false

section
variable {α : Type} {r : Rep α} {d : α} {P Q : Nat → Prop} {W W' : World} {v : Value} {xs : List α}
end
theorem manyR_iff {B : Nat} {W : World} {v : Value} {ls : List (List UInt8)} : manyR.R (· < B) W v ls ↔ Many B W v ls := Iff.rfl
section
variable {α : Type} {r : Rep α} {t : TypeId} {d : α} {Q : Nat → Prop} {W W' : World} {base : Nat} {v : Value} {xs : List α}
theorem RowG.own_le (h : RowG r t d Q W base v xs) (k : Nat) (e : v.ownBlock = some k) : base ≤ k := by
  obtain ⟨us, ho, _⟩ := h
  exact (World.ownsRow.lt ho k e).1
/-- An element more. -/
theorem RowG.push (i : TypeInfo) (hi : Tryd.prog.info? t = some i) (hz : i.zero = some (.slice none 0 0)) (h1 : i.size = 1) (h24 : i.bytes = 24) (T ty : TypeId) (hT : Tryd.prog.underlying T = some (.slice t))
    (h : RowG r t d Q W base v xs) (g : Nat) (tg : TypeId) (u : Value) (x : α) (hg : Blk W g tg #[u]) (hu : r.R (fun b => b < W.heap.size ∧ some b ≠ v.ownBlock ∧ Q b) W u x) (hlen : xs.length ≤ 100000) (hbase : base ≤ W.heap.size) :
    ∃ v' w', (Builtin.append_ #[T, T] ty #[v, .slice (some ⟨g, 0, none⟩) 1 1]).run Tryd.prog W = .ok v' w' ∧ RowG r t d Q w' base v' (xs ++ [x]) ∧ W.grownBy w' v.ownBlock ∧ (v'.ownBlock = v.ownBlock ∨ v'.ownBlock = some W.heap.size) := by
  obtain ⟨us, ho, hn, hr⟩ := h
  obtain ⟨v', w', hrun, o1, o2, _, o3⟩ := run_append_own_at (P := Tryd.prog) W base T ty t i (.slice none 0 0) 1 24 hT hi hz h1 h24 rfl (by omega) v us.length us ho ⟨g, 0, none⟩ 1 1 [u] rfl
    (by intro j y hy
        rw [addr_add, Nat.zero_add, hg.cell j, List.getElem?_toArray]
        exact hy) (by intro y hy; rw [List.mem_singleton.1 hy]; exact r.one hu) (by unfold maxLen; omega) (by omega) hbase
  have hk : ∀ {y : Value} {z : α}, r.R (fun b => b < W.heap.size ∧ some b ≠ v.ownBlock ∧ Q b) W y z → r.R (fun b => b < w'.heap.size ∧ some b ≠ v'.ownBlock ∧ Q b) w' y z := fun {y z} hy =>
    r.imp (r.keep hy fun b hb => o2.block b hb.1 hb.2.1) fun b hb => ⟨Nat.lt_of_lt_of_le hb.1 o2.size, by
      rcases o3 with e | e
      · rw [e]; exact hb.2.1
      · rw [e]; intro e2; injection e2 with e2; have := hb.1; omega, hb.2.2⟩
  refine ⟨v', w', hrun, ⟨us ++ [u], by rw [List.length_append]; exact o1, by rw [List.length_append, List.length_append, hn]; rfl, fun j y hy => ?_⟩, o2, o3⟩
  rcases Nat.lt_or_ge j us.length with hj | hj
  · rw [List.getElem?_append_left hj] at hy
    rw [List.getElem?_append_left (by omega)]
    exact hk (hr j y hy)
  · rw [List.getElem?_append_right hj] at hy
    rw [List.getElem?_append_right (by omega), ← hn]
    have hj0 : j - us.length = 0 := by
      rcases Nat.eq_zero_or_pos (j - us.length) with h0 | h0
      · exact h0
      · rw [List.getElem?_eq_none (by simp; omega)] at hy; cases hy
    rw [hj0] at hy ⊢
    cases hy
    exact hk hu
end
section
variable {Q : Nat → Prop} {W W' : World} {base : Nat} {v : Value}
end
end Go.Proofs.YtckfepmahjgmfaaDoor.E

namespace Go.Proofs.YtckfepmahjgmfaaDoor.E
open Go.RowKit Go.Shelf Go.Proofs.YtckfepmahjgmfaaDoor.C
set_option linter.unusedSimpArgs false
set_option linter.unusedVariables false

section
variable {α : Type} {r : Rep α} {t : TypeId} {d : α} {Q : Nat → Prop} {W W' : World} {base : Nat} {v : Value} {xs : List α}
set_option maxRecDepth 100000 in
/-- Elements more. -/
theorem RowG.append (i : TypeInfo) (hi : Tryd.prog.info? t = some i) (hz : i.zero = some (.slice none 0 0)) (h1 : i.size = 1) (h24 : i.bytes = 24) (T ty : TypeId) (hT : Tryd.prog.underlying T = some (.slice t))
    (h : RowG r t d Q W base v xs) {v2 : Value} {ys : List α} (h2 : SliceP r d (fun b => b < W.heap.size ∧ some b ≠ v.ownBlock ∧ Q b) W v2 ys) (hn2 : ∀ A cap, v2 = .slice A 0 cap → A = none → cap = 0) (hlen : xs.length ≤ 100000) (hlen2 : ys.length ≤ 100000) (hbase : base ≤ W.heap.size) :
    ∃ v' w', (Builtin.append_ #[T, T] ty #[v, v2]).run Tryd.prog W = .ok v' w' ∧ RowG r t d Q w' base v' (xs ++ ys) ∧ W.grownBy w' v.ownBlock ∧ (v'.ownBlock = v.ownBlock ∨ v'.ownBlock = some W.heap.size) := by
  obtain ⟨us, ho, hn, hr⟩ := h
  obtain ⟨A, cap, rfl, hc, hA⟩ := h2
  rcases A with _ | ad
  · have h0 : ys = [] := by
      rcases Nat.eq_zero_or_pos ys.length with h0 | h0
      · exact List.eq_nil_of_length_eq_zero h0
      · obtain ⟨b, off, h, _⟩ := hA h0
        cases h
    subst h0
    obtain rfl := hn2 none cap rfl rfl
    rw [List.append_nil]
    exact ⟨v, W, run_append_owned_none (P := Tryd.prog) (w := W) base T ty t i 1 hT hi v us.length us ho, ⟨us, ho, hn, hr⟩, World.grownBy.refl _ _, .inl rfl⟩
  have hus : ∃ us2 : List Value, us2.length = ys.length ∧ (∀ (j : Nat) (u : Value), us2[j]? = some u → W.cell? (ad.add j) = some u) ∧ ∀ (j : Nat) (u : Value), us2[j]? = some u → r.R (fun b => b < W.heap.size ∧ some b ≠ v.ownBlock ∧ Q b) W u (ys[j]?.getD d) := by
    rcases Nat.eq_zero_or_pos ys.length with h0 | h0
    · exact ⟨[], h0.symm, fun j u h => (by cases h), fun j u h => (by cases h)⟩
    · obtain ⟨b, off, e, hb, hcell⟩ := hA h0
      injection e with e
      subst e
      refine ⟨(List.range ys.length).map fun j => (W.cell? ⟨b, off + j, none⟩).getD undef, by simp, fun j u hu => ?_, fun j u hu => ?_⟩
      all_goals
        rw [List.getElem?_map] at hu
        rcases Nat.lt_or_ge j ys.length with hj | hj
        · rw [List.getElem?_range hj] at hu
          obtain ⟨u2, q1, q2⟩ := hcell j hj
          simp only [Option.map_some, q1, Option.getD_some, Option.some.injEq] at hu
          subst hu
          first | (rw [addr_add]; exact q1) | exact q2
        · rw [List.getElem?_eq_none (by simpa using hj)] at hu
          cases hu
  obtain ⟨us2, hl2, hc2, hr2⟩ := hus
  obtain ⟨v', w', hrun, o1, o2, _, o3⟩ := run_append_own_at (P := Tryd.prog) W base T ty t i (.slice none 0 0) 1 24 hT hi hz h1 h24 rfl (by omega) v us.length us ho ad ys.length cap us2 (by omega) hc2
    (by intro y hy; obtain ⟨j, hj⟩ := List.getElem?_of_mem hy; exact r.one (hr2 j y hj)) (by unfold maxLen; omega) (by omega) hbase
  have hk : ∀ {y : Value} {z : α}, r.R (fun b => b < W.heap.size ∧ some b ≠ v.ownBlock ∧ Q b) W y z → r.R (fun b => b < w'.heap.size ∧ some b ≠ v'.ownBlock ∧ Q b) w' y z := fun {y z} hy =>
    r.imp (r.keep hy fun b hb => o2.block b hb.1 hb.2.1) fun b hb => ⟨Nat.lt_of_lt_of_le hb.1 o2.size, by
      rcases o3 with e | e
      · rw [e]; exact hb.2.1
      · rw [e]; intro e2; injection e2 with e2; have := hb.1; omega, hb.2.2⟩
  refine ⟨v', w', hrun, ⟨us ++ us2, by rw [List.length_append, hl2]; exact o1, by rw [List.length_append, List.length_append, hn, hl2], fun j y hy => ?_⟩, o2, o3⟩
  rcases Nat.lt_or_ge j us.length with hj | hj
  · rw [List.getElem?_append_left hj] at hy
    rw [List.getElem?_append_left (by omega)]
    exact hk (hr j y hy)
  · rw [List.getElem?_append_right hj] at hy
    rw [List.getElem?_append_right (by omega), ← hn]
    exact hk (hr2 _ y hy)
end
end Go.Proofs.YtckfepmahjgmfaaDoor.E

namespace Go.Proofs.YtckfepmahjgmfaaDoor.E
open Go.RowKit Go.Shelf Go.Proofs.YtckfepmahjgmfaaDoor.C Go.ChangeShapes Go.WideShapes
set_option linter.unusedSimpArgs false
set_option linter.unusedVariables false

theorem open_cols {H : Type} {enc : TypeId × Value → H} {W : World} {base fuel : Nat} {v : Value} {x : DataW H × List MemPlace} (hf : DataW.trod enc Tryd.prog W base (fun _ => true) true fuel 25 [v] = some x) : ∃ css, Cols W.heap.size W v css := by
  rcases Deep.open_slice1 Tryd.underlying25 (by kernel_rfl) hf with ⟨hcs, _⟩ | ⟨a, len, cap, m, n, V, D, Pl, hcs, hb, hl, hm, hmm, hxx, hx⟩
  · obtain rfl : v = .slice none 0 0 := by simpa using hcs
    exact ⟨[], none, 0, rfl, Nat.le_refl _, fun h => absurd h (by simp)⟩
  · obtain rfl : v = .slice (some a) len cap := by simpa using hcs
    simp only [if_true] at hmm
    have hmm' := hmm.symm
    subst hmm'
    have each : ∀ r, ∃ ls : List (List UInt8), r < cap → W.cell? (a.add r) = some (V r) ∧ Many W.heap.size W (V r) ls := by
      intro r
      by_cases hr : r < cap
      · obtain ⟨ls, h1⟩ := open_col (hx r hr).2
        exact ⟨ls, fun _ => ⟨(hx r hr).1, h1⟩⟩
      · exact ⟨[], fun h => absurd h hr⟩
    let f : Nat → List (List UInt8) := fun r => (each r).choose
    have hff : ∀ r, r < cap → W.cell? (a.add r) = some (V r) ∧ Many W.heap.size W (V r) (f r) := fun r => (each r).choose_spec
    have hlen : ((List.range len).map f).length = len := by simp
    refine ⟨(List.range len).map f, some a, cap, by rw [hlen], by rw [hlen]; exact hl, fun hp => ?_⟩
    rw [hlen] at hp ⊢
    obtain ⟨b, off, spot⟩ := a
    have hc := (hff 0 (by omega)).1
    have hspot : spot = none := by simpa [Addr.add] using World.cell?_spot hc
    subst hspot
    refine ⟨b, off, rfl, ?_, fun j hj => ⟨V j, ?_, ?_⟩⟩
    · have := block_lt_of_cell hc
      simpa [Addr.add] using this
    · rw [← addr_add]; exact (hff j (by omega)).1
    · have e : ((List.range len).map f)[j]?.getD [] = f j := by
        rw [List.getElem?_map, List.getElem?_range hj]; rfl
      rw [e]
      exact (hff j (by omega)).2
end Go.Proofs.YtckfepmahjgmfaaDoor.E

