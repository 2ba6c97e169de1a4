/- Sets: over the cells that are made, each with what asks for its members. Sets: the cells that are made; those of which a place is a member. Sets: what hangs on a data cell. Sets: what hangs on a data cell, by lists. Rows of places as the callers know them; grids of cells; the document's Same and Parity. The document's member. The document's Members, Parity. The document's Parity. -/
import Derived.Test.YtggdlklkjnbbjaaGreatDoorKZG4
import Derived.Shelf.RegionOpen
import Derived.Test.YtggdlklkjnbbjaaGreatDoorKZwV
import Derived.Laws.OwnMore
namespace Go.Proofs.YtggdlklkjnbbjaaGreatDoor
open Go.RowKit Go.Shelf
set_option linter.unusedSimpArgs false
set_option linter.unusedVariables false
attribute [local go_sem] Oper.semAt_some

end Go.Proofs.YtggdlklkjnbbjaaGreatDoor

namespace Go.Proofs.YtggdlklkjnbbjaaGreatDoor
open Go.RowKit Go.Shelf
set_option linter.unusedSimpArgs false
set_option linter.unusedVariables false
attribute [local go_sem] Oper.semAt_some

end Go.Proofs.YtggdlklkjnbbjaaGreatDoor

namespace Go.Proofs.YtggdlklkjnbbjaaGreatDoor
open Go.RowKit Go.Shelf
set_option linter.unusedSimpArgs false
set_option linter.unusedVariables false

end Go.Proofs.YtggdlklkjnbbjaaGreatDoor

namespace Go.Proofs.YtggdlklkjnbbjaaGreatDoor
open Go.RowKit Go.Shelf

theorem flatC_mem' {p : Int} {cs : List Int} {z : Int × Int} (h : z ∈ flatC p cs) : z.1 ∈ cs ∧ 0 ≤ z.2 ∧ z.2 < p - 1 := by
  obtain ⟨x, hx, h⟩ := List.mem_flatMap.1 h
  obtain ⟨y, hy, rfl⟩ := List.mem_map.1 h
  unfold rowsL at hy
  obtain ⟨i, hi, rfl⟩ := List.mem_map.1 hy
  have := List.mem_range.1 hi
  exact ⟨hx, by simp only; omega, by simp only; omega⟩
theorem flatC_append (p : Int) (a b : List Int) : flatC p (a ++ b) = flatC p a ++ flatC p b := by unfold flatC; rw [List.flatMap_append]
theorem spanL_split (a b c : Int) (h1 : a ≤ b) (h2 : b ≤ c) : spanL a c = spanL a b ++ spanL b c := by
  unfold spanL
  rw [show (c - a).toNat = (b - a).toNat + (c - b).toNat by omega, List.range_add, List.map_append, List.map_map]
  congr 1
  apply List.map_congr_left
  intro i _
  simp only [Function.comp]
  omega
theorem memB_data {k p mx my x y : Int} (hR : RightC k p) (h : memB k p mx my x y = true) (hm : p - shortN k ≤ mx) : x < mx := by
  obtain ⟨p1, p2, s1, s2, m1, m2⟩ := hR.und
  unfold memB wayB at h
  split at h
  · have := (of_decide_eq_true h).1; omega
  · rename_i hr
    have : mx ≠ p - shortN k := fun e => hr (by rw [e]; exact if_pos rfl)
    split at h
    · unfold onDg at h
      split at h
      · have := (of_decide_eq_true h).1; omega
      · have := (of_decide_eq_true h).1; omega
    · have := (of_decide_eq_true h).1; omega
theorem memL_all {k p mx my : Int} (hR : RightC k p) (hc : HasCell k p mx my) (hm : p - shortN k ≤ mx) : (flatC p (spanL 0 (p - shortN k + madeN k))).filter (fun x => memB k p mx my x.1 x.2) = memL k p mx my := by
  obtain ⟨⟨h1, h2⟩, _⟩ := hc
  rw [spanL_split 0 mx _ h1 (by omega), flatC_append, List.filter_append]
  have : (flatC p (spanL mx (p - shortN k + madeN k))).filter (fun x => memB k p mx my x.1 x.2) = [] := by
    rw [List.filter_eq_nil_iff]
    intro z hz hb
    have h3 := spanL_mem (flatC_mem' hz).1
    have := memB_data hR hb hm
    omega
  rw [this, List.append_nil]
  rfl
end Go.Proofs.YtggdlklkjnbbjaaGreatDoor

namespace Go.Proofs.YtggdlklkjnbbjaaGreatDoor
open Go.RowKit Go.Shelf
set_option linter.unusedSimpArgs false
set_option linter.unusedVariables false

/-- The value v owns a row of its own, of the places l as callers know them. -/
def OwnA (w : World) (base : Nat) (v : Value) (l : List (Int × Int)) : Prop := w.ownsRow base 56 2 v l.length (codeCells l)
theorem ownA_nil (w : World) (base : Nat) : OwnA w base (.slice none 0 0) [] := World.ownsRow_nil w base _ 2
theorem OwnA.below {w w' : World} {base : Nat} {v : Value} {l : List (Int × Int)} (h : OwnA w base v l) (hb : Below w.heap.size w w') : OwnA w' base v l := by
  refine ⟨h.1, ?_⟩
  rcases h.2 with h1 | ⟨g, cap, cur, e, h2, hg, rest⟩
  · exact .inl h1
  · exact .inr ⟨g, cap, cur, e, h2, (hb.block g (Array.getElem?_eq_some_iff.1 hg).1).trans hg, rest⟩
theorem OwnA.own_le {w : World} {base : Nat} {v : Value} {l : List (Int × Int)} (h : OwnA w base v l) : ∀ k, v.ownBlock = some k → base ≤ k := fun k e => (World.ownsRow.lt h k e).1
theorem OwnA.ne {w : World} {base : Nat} {v : Value} {l : List (Int × Int)} (h : OwnA w base v l) {g : Nat} (hb : g < base) : some g ≠ v.ownBlock := fun e => by
  have := h.own_le g e.symm
  omega
theorem OwnA.less {w : World} {base base' : Nat} {v : Value} {l : List (Int × Int)} (h : OwnA w base v l) (hb : base' ≤ base) : OwnA w base' v l := ⟨h.1, h.2.imp id fun ⟨g, cap, cur, h1, h2, h3⟩ => ⟨g, cap, cur, h1, Nat.le_trans hb h2, h3⟩⟩
/-- The slice value v reads as the places l. -/
def ReadA (W : World) (v : Value) (l : List (Int × Int)) : Prop :=
  ∃ (p : Option Addr) (cap : Nat), v = .slice p l.length cap ∧ ∀ (j : Nat) (hj : j < l.length), ∃ g, p = some ⟨g, 0, none⟩ ∧ g < W.heap.size ∧ W.cell? ⟨g, j * 2, none⟩ = some (.int .i64 (l[j]).1) ∧ W.cell? ⟨g, j * 2 + 1, none⟩ = some (.int .i64 (l[j]).2)
theorem ReadA.next {W W' : World} {v : Value} {l : List (Int × Int)} (h : ReadA W v l) (hb : Below W.heap.size W W') : ReadA W' v l := by
  obtain ⟨p, cap, e, hc⟩ := h
  refine ⟨p, cap, e, fun j hj => ?_⟩
  obtain ⟨g, h1, h2, h3, h4⟩ := hc j hj
  exact ⟨g, h1, Nat.lt_of_lt_of_le h2 hb.size, nextc h3 hb, nextc h4 hb⟩
theorem ReadP.readA {W : World} {v : Value} {l : List (Int × Int)} (h : ReadP W.heap.size W v l) : ReadA W v l := by
  obtain ⟨g, cap, e, hg, hc⟩ := h
  exact ⟨some ⟨g, 0, none⟩, cap, e, fun j hj => ⟨g, rfl, hg, hc j hj⟩⟩
theorem OwnA.readA {w : World} {base : Nat} {v : Value} {l : List (Int × Int)} (h : OwnA w base v l) : ReadA w v l := by
  by_cases hl : l = []
  · subst hl
    rcases h.2 with ⟨rfl, _⟩ | ⟨g, cap, cur, e, _⟩
    · exact ⟨none, 0, rfl, fun j hj => absurd hj (Nat.not_lt_zero _)⟩
    · exact ⟨some ⟨g, 0, none⟩, cap, e, fun j hj => absurd hj (Nat.not_lt_zero _)⟩
  · obtain ⟨g, cap, rfl, hg, hg1⟩ := World.ownsRow.form h (List.length_pos_iff.2 hl)
    refine ⟨some ⟨g, 0, none⟩, cap, rfl, fun j hj => ⟨g, rfl, by omega, ?_⟩⟩
    obtain ⟨k0, k1⟩ := codeCells_at l j hj
    rw [Nat.mul_comm 2 j] at k0 k1
    exact ⟨(World.ownsRow.cellAt h (j * 2) (by omega)).trans k0, (World.ownsRow.cellAt h (j * 2 + 1) (by omega)).trans k1⟩
theorem readA_nil (W : World) : ReadA W (.slice none 0 0) [] := ⟨none, 0, rfl, fun j hj => absurd hj (Nat.not_lt_zero _)⟩
/-- append of one place more. -/
theorem OwnA.push {w : World} {base : Nat} {v : Value} {l : List (Int × Int)} {x y : Int} (h : w.ownsRow base 56 2 v (l.length + 1) (codeCells l ++ [.int .i64 x, .int .i64 y])) : OwnA w base v (l ++ [(x, y)]) := by
  unfold OwnA
  rw [List.length_append]
  unfold codeCells at *
  rw [List.flatMap_append]
  exact h

/-- The cells of j columns of R rows from column c on, and of n of the next one. -/
def grid (c : Int) (R j n : Nat) : List (Int × Int) := ((List.range j).flatMap fun (i : Nat) => (List.range R).map fun (r : Nat) => (c + (i : Int), (r : Int))) ++ (List.range n).map fun (r : Nat) => (c + (j : Int), (r : Int))
theorem grid_row (c : Int) (R j : Nat) : grid c R (j + 1) 0 = grid c R j R := by
  unfold grid
  rw [List.range_succ, List.flatMap_append]
  simp
theorem grid_one (c : Int) (R j n : Nat) : grid c R j (n + 1) = grid c R j n ++ [(c + (j : Int), (n : Int))] := by
  unfold grid
  rw [List.range_succ, List.map_append, List.append_assoc]
  rfl
theorem grid_flat (a b p : Int) : grid a (p - 1).toNat (b - a).toNat 0 = flatC p (spanL a b) := by
  unfold grid flatC spanL rowsL
  rw [List.flatMap_map]
  simp
  rfl
theorem grid_len (c : Int) (R j n : Nat) (hR : R ≤ 16) (hj : j ≤ 20) (hn : n ≤ R) : (grid c R j n).length ≤ 500 := by
  unfold grid
  rw [List.length_append, List.length_flatMap, List.length_map, List.length_range]
  have e : ((List.range j).map fun (i : Nat) => ((List.range R).map fun (r : Nat) => (c + (i : Int), (r : Int))).length) = (List.range j).map fun _ => R := by
    apply List.map_congr_left
    intro i _
    simp
  rw [e, List.map_const', List.sum_replicate_nat, List.length_range]
  have := Nat.mul_le_mul hj hR
  omega

end Go.Proofs.YtggdlklkjnbbjaaGreatDoor

namespace Go.Proofs.YtggdlklkjnbbjaaGreatDoor
open Go.RowKit Go.Shelf
set_option linter.unusedSimpArgs false
set_option linter.unusedVariables false
attribute [local go_sem] Oper.semAt_some

/-- What member answers, by roles, diagonal and slant. -/
def refB (k p my y r o dg sl : Int) : Bool :=
  if r = 2 then o == 1 && y == my else if r = 3 ∧ k = 2 then (o == 1 || o == 2) && dg == my else if r = 3 then o == 1 && (dg == my || dg == p - 1) else o == 1 && (sl == my || sl == p - 1)
theorem refB_mem {k p mx my x y : Int} (hR : RightC k p) (hc : HasCell k p mx my) (hm : p - shortN k ≤ mx) (hx : HasCell k p x y) : refB k p my y (rroleN (p - shortN k) mx) (rroleN (p - shortN k) x) ((x + y) % p) ((y - x) % p) = memB k p mx my x y := by
  have hu := hR.und
  obtain ⟨p1, p2, s1, s2, m1, m2⟩ := hu
  have e1 := role_eq (x := mx) ⟨hc.1.1, hc.1.2⟩ hR.und
  have e2 : (rroleN (p - shortN k) x = 1 ↔ x < p - shortN k) := by unfold rroleN; split <;> omega
  have e3 : (rroleN (p - shortN k) x = 2 ↔ x = p - shortN k) := by unfold rroleN; split <;> omega
  unfold memB wayB inRw onDg onSl dgN2 slN2
  rw [if_pos hx, if_pos hx, e1]
  unfold refB
  generalize rroleN (p - shortN k) mx = r at *
  generalize rroleN (p - shortN k) x = o at *
  generalize (x + y) % p = dg
  generalize (y - x) % p = sl
  generalize p - shortN k = d at *
  by_cases h2 : r = 2
  · rw [if_pos h2, if_pos h2, Bool.eq_iff_iff]
    simp [e2]
  · rw [if_neg h2, if_neg h2]
    by_cases h3 : r = 3
    · rw [if_pos h3]
      by_cases hk : k = 2
      · rw [if_pos ⟨h3, hk⟩, if_pos hk, Bool.eq_iff_iff]
        simp [e2, e3, h3]
      · rw [if_neg (fun h => hk h.2), if_pos h3, if_neg hk, Bool.eq_iff_iff]
        simp [e2]
    · rw [if_neg (fun h => h3 h.1), if_neg h3, if_neg h3, Bool.eq_iff_iff]
      simp [e2]

set_option maxRecDepth 100000 in
set_option maxHeartbeats 4000000 in
theorem member_walk (k p mx my x y r o dg sl : Int) (hb : -100 ≤ p ∧ p ≤ 100) (hRo : ∀ W, Calls Tryz.prog 138 #[.agg #[.int .i64 k, .int .i64 p], .int .i64 mx] W fun e w' => e = .returned (.int .i64 r) ∧ Below W.heap.size W w')
    (hOf : ∀ W, Calls Tryz.prog 138 #[.agg #[.int .i64 k, .int .i64 p], .int .i64 x] W fun e w' => e = .returned (.int .i64 o) ∧ Below W.heap.size W w')
    (hDg : ∀ W, Calls Tryz.prog 37 #[.agg #[.int .i64 k, .int .i64 p], .agg #[.int .i64 x, .int .i64 y]] W fun e w' => e = .returned (.int .i64 dg) ∧ Below W.heap.size W w')
    (hSl : ∀ W, Calls Tryz.prog 58 #[.agg #[.int .i64 k, .int .i64 p], .agg #[.int .i64 x, .int .i64 y]] W fun e w' => e = .returned (.int .i64 sl) ∧ Below W.heap.size W w') (w : World) :
    Calls Tryz.prog 102 #[.agg #[.int .i64 k, .int .i64 p], .agg #[.int .i64 mx, .int .i64 my], .agg #[.int .i64 x, .int .i64 y]] w fun e w' => e = .returned (.bool (refB k p my y r o dg sl)) ∧ Below w.heap.size w w' := by
  have HRo := Lib.hid hRo
  have HOf := Lib.hid hOf
  have HDg := Lib.hid hDg
  have HSl := Lib.hid hSl
  clear hRo hOf hDg hSl
  obtain ⟨W0, hW0⟩ : ∃ W0, ((w.alloc (.cells #[.int .i64 k, .int .i64 p] 37)).alloc (.cells #[.int .i64 mx, .int .i64 my] 56)).alloc (.cells #[.int .i64 x, .int .i64 y] 56) = W0 := ⟨_, rfl⟩
  have b0 : Blk W0 w.heap.size 37 #[.int .i64 k, .int .i64 p] := by rw [← hW0]; exact ((Blk.new w _ _).alloc _).alloc _
  have b1 : Blk W0 (w.heap.size + 1) 56 #[.int .i64 mx, .int .i64 my] := by rw [← hW0]; exact (Blk.second w _ _ _).alloc _
  have b2 : Blk W0 (w.heap.size + 1 + 1) 56 #[.int .i64 x, .int .i64 y] := by
    rw [← hW0]
    have := Blk.new ((w.alloc (.cells #[.int .i64 k, .int .i64 p] 37)).alloc (.cells #[.int .i64 mx, .int .i64 my] 56)) 56 #[.int .i64 x, .int .i64 y]
    rwa [World.size_alloc, World.size_alloc] at this
  have hB : Below w.heap.size w W0 := by rw [← hW0]; exact (below_two w _ _).alloc (by simp; omega) _
  have c0 := b0.cell 0
  have c1 := b0.cell 1
  have a0 := b1.cell 0
  have a1 := b1.cell 1
  have z0 := b2.cell 0
  have z1 := b2.cell 1
  simp only [List.getElem?_toArray, List.getElem?_cons_zero, List.getElem?_cons_succ] at c0 c1 a0 a1 z0 z1
  refine (callsIn_wide (n := 12)).1 ?_
  refine callsIn_of_wp_marks Tryz.func102 rfl trivial ?_ rfl
  simp only [Tryz.ntmps102, List.size_toArray, List.length_cons, List.length_nil, Nat.reduceAdd, Nat.reduceSub, Array.replicate_succ, Array.replicate_zero, List.push_toArray, List.append_toArray, List.nil_append, List.cons_append]
  gi_wp2_with fail
  clear hW0
  have hS : (fun V : World => V.cell? ⟨w.heap.size, 0, none⟩ = some (.int .i64 k) ∧ V.cell? ⟨w.heap.size, 1, none⟩ = some (.int .i64 p) ∧ V.cell? ⟨w.heap.size + 1, 0, none⟩ = some (.int .i64 mx) ∧ V.cell? ⟨w.heap.size + 1, 1, none⟩ = some (.int .i64 my) ∧ V.cell? ⟨w.heap.size + 1 + 1, 0, none⟩ = some (.int .i64 x) ∧ V.cell? ⟨w.heap.size + 1 + 1, 1, none⟩ = some (.int .i64 y)) _ := ⟨c0, c1, a0, a1, z0, z1⟩
  refine wpIn_mono (region_HF (Q := NoPanic _) (S := (fun V : World => V.cell? ⟨w.heap.size, 0, none⟩ = some (.int .i64 k) ∧ V.cell? ⟨w.heap.size, 1, none⟩ = some (.int .i64 p) ∧ V.cell? ⟨w.heap.size + 1, 0, none⟩ = some (.int .i64 mx) ∧ V.cell? ⟨w.heap.size + 1, 1, none⟩ = some (.int .i64 my) ∧ V.cell? ⟨w.heap.size + 1 + 1, 0, none⟩ = some (.int .i64 x) ∧ V.cell? ⟨w.heap.size + 1 + 1, 1, none⟩ = some (.int .i64 y))) (by kernel_rfl) ?_) NoPanic.imp
  refine anyHF_take (i := 0) (d := 11) (v := .agg #[.int .i64 k, .int .i64 p]) (by kernel_rfl) rfl (by kernel_rfl) (by kernel_rfl) (by kernel_rfl) rfl (fun _ _ _ h => h) ⟨Or.inl ⟨by rfl, fun w hS => by obtain ⟨h0, h1, h2, h3, h4, h5⟩ := hS; go_simp⟩, fun _ => rfl⟩ hS ?_
  simp only [List.setIfInBounds_toArray, List.set_cons_zero, List.set_cons_succ]
  refine anyHF_take (i := 1) (d := 12) (v := .pointer (some ⟨w.heap.size + 1, 0, none⟩)) (by kernel_rfl) rfl (by kernel_rfl) (by kernel_rfl) (by kernel_rfl) rfl (fun _ _ _ h => h) ⟨Or.inl ⟨by rfl, fun w hS => by obtain ⟨h0, h1, h2, h3, h4, h5⟩ := hS; go_simp⟩, fun _ => rfl⟩ hS ?_
  simp only [List.setIfInBounds_toArray, List.set_cons_zero, List.set_cons_succ]
  refine anyHF_take (i := 2) (d := 13) (v := .int .i64 mx) (by kernel_rfl) rfl (by kernel_rfl) (by kernel_rfl) (by kernel_rfl) rfl (fun _ _ _ h => h) ⟨Or.inl ⟨by rfl, fun w hS => by obtain ⟨h0, h1, h2, h3, h4, h5⟩ := hS; go_simp⟩, fun _ => rfl⟩ hS ?_
  simp only [List.setIfInBounds_toArray, List.set_cons_zero, List.set_cons_succ]
  refine anyHF_take (i := 4) (d := 15) (v := .agg #[.int .i64 k, .int .i64 p]) (by kernel_rfl) rfl (by kernel_rfl) (by kernel_rfl) (by kernel_rfl) rfl (fun _ _ _ h => h) ⟨Or.inl ⟨by rfl, fun w hS => by obtain ⟨h0, h1, h2, h3, h4, h5⟩ := hS; go_simp⟩, fun _ => rfl⟩ hS ?_
  simp only [List.setIfInBounds_toArray, List.set_cons_zero, List.set_cons_succ]
  refine anyHF_take (i := 5) (d := 16) (v := .pointer (some ⟨w.heap.size + 1 + 1, 0, none⟩)) (by kernel_rfl) rfl (by kernel_rfl) (by kernel_rfl) (by kernel_rfl) rfl (fun _ _ _ h => h) ⟨Or.inl ⟨by rfl, fun w hS => by obtain ⟨h0, h1, h2, h3, h4, h5⟩ := hS; go_simp⟩, fun _ => rfl⟩ hS ?_
  simp only [List.setIfInBounds_toArray, List.set_cons_zero, List.set_cons_succ]
  refine anyHF_take (i := 6) (d := 17) (v := .int .i64 x) (by kernel_rfl) rfl (by kernel_rfl) (by kernel_rfl) (by kernel_rfl) rfl (fun _ _ _ h => h) ⟨Or.inl ⟨by rfl, fun w hS => by obtain ⟨h0, h1, h2, h3, h4, h5⟩ := hS; go_simp⟩, fun _ => rfl⟩ hS ?_
  simp only [List.setIfInBounds_toArray, List.set_cons_zero, List.set_cons_succ]
  refine anyHF_one (i := 3) (by kernel_rfl) rfl (by kernel_rfl) (by rfl) ?_
  gi_wp2_with fail
  refine ⟨trivial, (callsIn_wide.2 (HRo.out _)).mono ?_⟩
  rintro e w1 ⟨rfl, hB1⟩
  replace hB1 := below_undrew hB1
  replace b0 := b0.below hB1 b0.lt
  replace b1 := b1.below hB1 b1.lt
  replace b2 := b2.below hB1 b2.lt
  replace hB := below_in hB hB1
  clear c0 c1 a0 a1 z0 z1
  have c0 := b0.cell 0
  have c1 := b0.cell 1
  have a0 := b1.cell 0
  have a1 := b1.cell 1
  have z0 := b2.cell 0
  have z1 := b2.cell 1
  simp only [List.getElem?_toArray, List.getElem?_cons_zero, List.getElem?_cons_succ] at c0 c1 a0 a1 z0 z1
  clear hS
  gi_wp2
  refine anyHF_one (i := 7) (by kernel_rfl) rfl (by kernel_rfl) (by rfl) ?_
  gi_wp2_with fail
  refine ⟨trivial, (callsIn_wide.2 (HOf.out _)).mono ?_⟩
  rintro e w1 ⟨rfl, hB1⟩
  replace b0 := b0.below hB1 b0.lt
  replace b1 := b1.below hB1 b1.lt
  replace b2 := b2.below hB1 b2.lt
  replace hB := below_in hB hB1
  clear c0 c1 a0 a1 z0 z1
  have c0 := b0.cell 0
  have c1 := b0.cell 1
  have a0 := b1.cell 0
  have a1 := b1.cell 1
  have z0 := b2.cell 0
  have z1 := b2.cell 1
  simp only [List.getElem?_toArray, List.getElem?_cons_zero, List.getElem?_cons_succ] at c0 c1 a0 a1 z0 z1
  gi_wp2
  refine anyHF_one (i := 8) (by kernel_rfl) rfl (by kernel_rfl) (by rfl) ?_
  gi_wp2
  refine anyHF_one (i := 9) (by kernel_rfl) rfl (by kernel_rfl) (by rfl) ?_
  gi_wp2
  refine anyHF_done (by kernel_rfl) ?_ _
  refine NoPanic.normal ?_
  gi_wp2_with fail
  have hS : (fun V : World => V.cell? ⟨w.heap.size, 0, none⟩ = some (.int .i64 k) ∧ V.cell? ⟨w.heap.size, 1, none⟩ = some (.int .i64 p) ∧ V.cell? ⟨w.heap.size + 1, 0, none⟩ = some (.int .i64 mx) ∧ V.cell? ⟨w.heap.size + 1, 1, none⟩ = some (.int .i64 my) ∧ V.cell? ⟨w.heap.size + 1 + 1, 0, none⟩ = some (.int .i64 x) ∧ V.cell? ⟨w.heap.size + 1 + 1, 1, none⟩ = some (.int .i64 y)) _ := ⟨c0, c1, a0, a1, z0, z1⟩
  refine wpIn_mono (region_HF (Q := NoPanic _) (S := (fun V : World => V.cell? ⟨w.heap.size, 0, none⟩ = some (.int .i64 k) ∧ V.cell? ⟨w.heap.size, 1, none⟩ = some (.int .i64 p) ∧ V.cell? ⟨w.heap.size + 1, 0, none⟩ = some (.int .i64 mx) ∧ V.cell? ⟨w.heap.size + 1, 1, none⟩ = some (.int .i64 my) ∧ V.cell? ⟨w.heap.size + 1 + 1, 0, none⟩ = some (.int .i64 x) ∧ V.cell? ⟨w.heap.size + 1 + 1, 1, none⟩ = some (.int .i64 y))) (by kernel_rfl) ?_) NoPanic.imp
  refine anyHF_take (i := 0) (d := 19) (v := .agg #[.int .i64 k, .int .i64 p]) (by kernel_rfl) rfl (by kernel_rfl) (by kernel_rfl) (by kernel_rfl) rfl (fun _ _ _ h => h) ⟨Or.inl ⟨by rfl, fun w hS => by obtain ⟨h0, h1, h2, h3, h4, h5⟩ := hS; go_simp⟩, fun _ => rfl⟩ hS ?_
  simp only [List.setIfInBounds_toArray, List.set_cons_zero, List.set_cons_succ]
  refine anyHF_take (i := 1) (d := 20) (v := .agg #[.int .i64 x, .int .i64 y]) (by kernel_rfl) rfl (by kernel_rfl) (by kernel_rfl) (by kernel_rfl) rfl (fun _ _ _ h => h) ⟨Or.inl ⟨by rfl, fun w hS => by obtain ⟨h0, h1, h2, h3, h4, h5⟩ := hS; go_simp⟩, fun _ => rfl⟩ hS ?_
  simp only [List.setIfInBounds_toArray, List.set_cons_zero, List.set_cons_succ]
  refine anyHF_take (i := 3) (d := 22) (v := .agg #[.int .i64 k, .int .i64 p]) (by kernel_rfl) rfl (by kernel_rfl) (by kernel_rfl) (by kernel_rfl) rfl (fun _ _ _ h => h) ⟨Or.inl ⟨by rfl, fun w hS => by obtain ⟨h0, h1, h2, h3, h4, h5⟩ := hS; go_simp⟩, fun _ => rfl⟩ hS ?_
  simp only [List.setIfInBounds_toArray, List.set_cons_zero, List.set_cons_succ]
  refine anyHF_take (i := 4) (d := 23) (v := .agg #[.int .i64 x, .int .i64 y]) (by kernel_rfl) rfl (by kernel_rfl) (by kernel_rfl) (by kernel_rfl) rfl (fun _ _ _ h => h) ⟨Or.inl ⟨by rfl, fun w hS => by obtain ⟨h0, h1, h2, h3, h4, h5⟩ := hS; go_simp⟩, fun _ => rfl⟩ hS ?_
  simp only [List.setIfInBounds_toArray, List.set_cons_zero, List.set_cons_succ]
  refine anyHF_one (i := 2) (by kernel_rfl) rfl (by kernel_rfl) (by rfl) ?_
  gi_wp2_with fail
  refine ⟨trivial, (callsIn_wide.2 (HDg.out _)).mono ?_⟩
  rintro e w1 ⟨rfl, hB1⟩
  replace hB1 := below_undrew hB1
  replace b0 := b0.below hB1 b0.lt
  replace b1 := b1.below hB1 b1.lt
  replace b2 := b2.below hB1 b2.lt
  replace hB := below_in hB hB1
  clear c0 c1 a0 a1 z0 z1
  have c0 := b0.cell 0
  have c1 := b0.cell 1
  have a0 := b1.cell 0
  have a1 := b1.cell 1
  have z0 := b2.cell 0
  have z1 := b2.cell 1
  simp only [List.getElem?_toArray, List.getElem?_cons_zero, List.getElem?_cons_succ] at c0 c1 a0 a1 z0 z1
  gi_wp2
  refine anyHF_one (i := 5) (by kernel_rfl) rfl (by kernel_rfl) (by rfl) ?_
  gi_wp2_with fail
  refine ⟨trivial, (callsIn_wide.2 (HSl.out _)).mono ?_⟩
  rintro e w1 ⟨rfl, hB1⟩
  replace b0 := b0.below hB1 b0.lt
  replace b1 := b1.below hB1 b1.lt
  replace b2 := b2.below hB1 b2.lt
  replace hB := below_in hB hB1
  clear c0 c1 a0 a1 z0 z1
  have c0 := b0.cell 0
  have c1 := b0.cell 1
  have a0 := b1.cell 0
  have a1 := b1.cell 1
  have z0 := b2.cell 0
  have z1 := b2.cell 1
  simp only [List.getElem?_toArray, List.getElem?_cons_zero, List.getElem?_cons_succ] at c0 c1 a0 a1 z0 z1
  gi_wp2
  refine anyHF_one (i := 6) (by kernel_rfl) rfl (by kernel_rfl) (by rfl) ?_
  gi_wp2
  refine anyHF_one (i := 7) (by kernel_rfl) rfl (by kernel_rfl) (by rfl) ?_
  gi_wp2
  refine anyHF_done (by kernel_rfl) ?_ _
  refine NoPanic.normal ?_
  clear hS HRo HOf HDg HSl
  cases hr2 : ((r == 2) : Bool) with
  | true =>
    cases ho1 : ((o == 1) : Bool) with
    | true =>
      cases hymy : ((y == my) : Bool) with
      | true =>
        gi_wp2
        exact ⟨.bool true, by simp [results, Tryz.results102, go_sem], ret_bool (by unfold refB; simp_all), hB⟩
      | false =>
        gi_wp2
        exact ⟨.bool false, by simp [results, Tryz.results102, go_sem], ret_bool (by unfold refB; simp_all), hB⟩
    | false =>
      gi_wp2
      exact ⟨.bool false, by simp [results, Tryz.results102, go_sem], ret_bool (by unfold refB; simp_all), hB⟩
  | false =>
    cases hr3 : ((r == 3) : Bool) with
    | true =>
      cases hk2 : ((k == 2) : Bool) with
      | true =>
        cases ho1 : ((o == 1) : Bool) with
        | true =>
          cases hdgmy : ((dg == my) : Bool) with
          | true =>
            gi_wp2
            exact ⟨.bool true, by simp [results, Tryz.results102, go_sem], ret_bool (by unfold refB; simp_all), hB⟩
          | false =>
            gi_wp2
            exact ⟨.bool false, by simp [results, Tryz.results102, go_sem], ret_bool (by unfold refB; simp_all), hB⟩
        | false =>
          cases ho2 : ((o == 2) : Bool) with
          | true =>
            cases hdgmy : ((dg == my) : Bool) with
            | true =>
              gi_wp2
              exact ⟨.bool true, by simp [results, Tryz.results102, go_sem], ret_bool (by unfold refB; simp_all), hB⟩
            | false =>
              gi_wp2
              exact ⟨.bool false, by simp [results, Tryz.results102, go_sem], ret_bool (by unfold refB; simp_all), hB⟩
          | false =>
            gi_wp2
            exact ⟨.bool false, by simp [results, Tryz.results102, go_sem], ret_bool (by unfold refB; simp_all), hB⟩
      | false =>
        cases ho1 : ((o == 1) : Bool) with
        | true =>
          cases hdgmy : ((dg == my) : Bool) with
          | true =>
            gi_wp2
            exact ⟨.bool true, by simp [results, Tryz.results102, go_sem], ret_bool (by unfold refB; simp_all), hB⟩
          | false =>
            cases hdgp : ((dg == p - 1) : Bool) with
            | true =>
              gi_wp2
              exact ⟨.bool true, by simp [results, Tryz.results102, go_sem], ret_bool (by unfold refB; simp_all), hB⟩
            | false =>
              gi_wp2
              exact ⟨.bool false, by simp [results, Tryz.results102, go_sem], ret_bool (by unfold refB; simp_all), hB⟩
        | false =>
          gi_wp2
          exact ⟨.bool false, by simp [results, Tryz.results102, go_sem], ret_bool (by unfold refB; simp_all), hB⟩
    | false =>
      cases ho1 : ((o == 1) : Bool) with
      | true =>
        cases hslmy : ((sl == my) : Bool) with
        | true =>
          gi_wp2
          exact ⟨.bool true, by simp [results, Tryz.results102, go_sem], ret_bool (by unfold refB; simp_all), hB⟩
        | false =>
          cases hslp : ((sl == p - 1) : Bool) with
          | true =>
            gi_wp2
            exact ⟨.bool true, by simp [results, Tryz.results102, go_sem], ret_bool (by unfold refB; simp_all), hB⟩
          | false =>
            gi_wp2
            exact ⟨.bool false, by simp [results, Tryz.results102, go_sem], ret_bool (by unfold refB; simp_all), hB⟩
      | false =>
        gi_wp2
        exact ⟨.bool false, by simp [results, Tryz.results102, go_sem], ret_bool (by unfold refB; simp_all), hB⟩
end Go.Proofs.YtggdlklkjnbbjaaGreatDoor

namespace Go.Proofs.YtggdlklkjnbbjaaGreatDoor
open Go.RowKit Go.Shelf
set_option linter.unusedSimpArgs false
set_option linter.unusedVariables false

theorem refMember_any (k p mx my x y : Int) (hR : RightC k p) (hc : HasCell k p mx my) (hm : p - shortN k ≤ mx) (hx : HasCell k p x y) (w : World) :
    Calls Tryz.prog 102 #[.agg #[.int .i64 k, .int .i64 p], .agg #[.int .i64 mx, .int .i64 my], .agg #[.int .i64 x, .int .i64 y]] w fun e w' => e = .returned (.bool (memB k p mx my x y)) ∧ Below w.heap.size w w' := by
  obtain ⟨p1, p2, s1, s2, m1, m2⟩ := hR.und
  have h := member_walk k p mx my x y _ _ _ _ (by omega) (fun W => refRole_any k p mx hR ⟨hc.1.1, by have := hc.1.2; omega⟩ W) (fun W => refRole_any k p x hR ⟨hx.1.1, by have := hx.1.2; omega⟩ W)
    (fun W => refDiagonal_any k p x y hR ⟨hx.1.1, by have := hx.1.2; omega⟩ ⟨hx.2.1, by have := hx.2.2; omega⟩ W) (fun W => refSlant_any k p x y hR ⟨hx.1.1, by have := hx.1.2; omega⟩ ⟨hx.2.1, by have := hx.2.2; omega⟩ W) w
  rw [refB_mem hR hc hm hx] at h
  exact h

set_option maxRecDepth 100000 in
set_option maxHeartbeats 2000000 in
theorem refMembers_any (k p mx my : Int) (hR : RightC k p) (hc : HasCell k p mx my) (hm : p - shortN k ≤ mx) (w : World) :
    Calls Tryz.prog 57 #[.agg #[.int .i64 k, .int .i64 p], .agg #[.int .i64 mx, .int .i64 my]] w fun e w' => ∃ v, e = .returned v ∧ OwnA w' w.heap.size v (memL k p mx my) ∧ Below w.heap.size w w' := by
  obtain ⟨p1, p2, s1, s2, m1, m2⟩ := hR.und
  have HME := Lib.hid (fun x y hx W => refMember_any k p mx my x y hR hc hm hx W)
  have HCo := Lib.hid (fun W => refCols_any k p hR W)
  have HRw := Lib.hid (fun W => refRows_any k p hR W)
  have HEND : Hid ((grid 0 (p - 1).toNat (p - shortN k + madeN k).toNat 0).filter (fun z => memB k p mx my z.1 z.2) = memL k p mx my) := by
    have := grid_flat 0 (p - shortN k + madeN k) p
    rw [Int.sub_zero] at this
    unfold Hid
    rw [this]
    exact memL_all hR hc hm
  unfold HasCell at HME
  generalize memL k p mx my = want at *
  generalize hq : (fun z : Int × Int => memB k p mx my z.1 z.2) = q at HEND
  have HQ := Lib.hid (fun x y => (congrFun hq (x, y) : memB k p mx my x y = q (x, y)))
  clear hq hc hm hR
  have hcc : 0 ≤ p - shortN k + madeN k ∧ p - shortN k + madeN k ≤ 20 := by omega
  generalize p - shortN k + madeN k = cc at *
  obtain ⟨C, rfl⟩ : ∃ C : Nat, cc = (C : Int) := ⟨cc.toNat, by omega⟩
  obtain ⟨R, hRR⟩ : ∃ R : Nat, p - 1 = (R : Int) := ⟨(p - 1).toNat, by omega⟩
  rw [hRR] at HRw HME HEND
  have hR16 : R ≤ 16 := by omega
  have hC19 : C ≤ 20 := by omega
  clear hRR p1 p2 s1 s2 m1 m2 hcc
  obtain ⟨W0, hW0⟩ : ∃ W0, (w.alloc (.cells #[.int .i64 k, .int .i64 p] 37)).alloc (.cells #[.int .i64 mx, .int .i64 my] 56) = W0 := ⟨_, rfl⟩
  have b0 : Blk W0 w.heap.size 37 #[.int .i64 k, .int .i64 p] := by rw [← hW0]; exact (Blk.new w _ _).alloc _
  have b1 : Blk W0 (w.heap.size + 1) 56 #[.int .i64 mx, .int .i64 my] := by rw [← hW0]; exact Blk.second w _ _ _
  have hB : Below w.heap.size w W0 := by rw [← hW0]; exact below_two w _ _
  go_enter Tryz.func57, Tryz.ntmps57
  go_wp2_with fail
  clear hW0
  go_loopw [5, 6] (fun v i wr => ∃ j : Nat, j ≤ C ∧ i = .int .i64 j ∧ OwnA wr (w.heap.size + 2) v ((grid 0 R j 0).filter q) ∧ Blk wr w.heap.size 37 #[.int .i64 k, .int .i64 p] ∧ Blk wr (w.heap.size + 1) 56 #[.int .i64 mx, .int .i64 my] ∧ Below w.heap.size w wr) (fun _ i _ => C - (intOf i).toNat)
  case atStart => exact ⟨0, by omega, rfl, ownA_nil _ _, b0, b1, hB⟩
  case round =>
    clear b0 b1 hB
    obtain ⟨j, hj, rfl, ho, b0, b1, hB⟩ := hrel
    have c0 := b0.cell 0; have c1 := b0.cell 1; have a0 := b1.cell 0; have a1 := b1.cell 1; simp only [List.getElem?_toArray, List.getElem?_cons_zero, List.getElem?_cons_succ] at c0 c1 a0 a1
    by_cases hlt : j < C
    · have hdec : decide ((j : Int) < (C : Int)) = true := by simp; omega
      go_wp2_with (go_at_call 54; refine (HCo.out _).mono ?_; rintro e w1 ⟨rfl, hB1⟩; replace ho := ho.below hB1; replace b0 := b0.below hB1 b0.lt; replace b1 := b1.below hB1 b1.lt; replace hB := below_in hB hB1; have c0 := b0.cell 0; have c1 := b0.cell 1; have a0 := b1.cell 0; have a1 := b1.cell 1; simp only [List.getElem?_toArray, List.getElem?_cons_zero, List.getElem?_cons_succ] at c0 c1 a0 a1)
      go_loopw [5, 7] (fun v i wz => ∃ n : Nat, n ≤ R ∧ i = .int .i64 n ∧ OwnA wz (w.heap.size + 2) v ((grid 0 R j n).filter q) ∧ Blk wz w.heap.size 37 #[.int .i64 k, .int .i64 p] ∧ Blk wz (w.heap.size + 1) 56 #[.int .i64 mx, .int .i64 my] ∧ Below w.heap.size w wz) (fun _ i _ => R - (intOf i).toNat)
      case atStart => exact ⟨0, by omega, rfl, ho, b0, b1, hB⟩
      case round =>
        clear ho b0 b1 hB c0 c1 a0 a1
        obtain ⟨n, hn, rfl, ho, b0, b1, hB⟩ := hrel
        have c0 := b0.cell 0; have c1 := b0.cell 1; have a0 := b1.cell 0; have a1 := b1.cell 1; simp only [List.getElem?_toArray, List.getElem?_cons_zero, List.getElem?_cons_succ] at c0 c1 a0 a1
        by_cases hlt2 : n < R
        · have hdec2 : decide ((n : Int) < (R : Int)) = true := by simp; omega
          have hfl : ((grid 0 R j n).filter q).length ≤ 500 := Nat.le_trans (List.length_filter_le _ _) (grid_len 0 R j n hR16 (by omega) (by omega))
          go_wp2_with fail
          refine (HRw.out _).mono ?_
          rintro e w1 ⟨rfl, hB1⟩
          replace ho := ho.below hB1
          replace b0 := b0.below hB1 b0.lt
          replace b1 := b1.below hB1 b1.lt
          replace hB := below_in hB hB1
          clear hB1 c0 c1 a0 a1
          have hBx := below_one w1 (.cells #[.int .i64 j, .int .i64 n] 56)
          have b2 := Blk.new w1 56 #[.int .i64 j, .int .i64 n]
          replace ho := ho.below hBx
          replace b0 := b0.below hBx b0.lt
          replace b1 := b1.below hBx b1.lt
          replace hB := below_in hB hBx
          have c0 := b0.cell 0; have c1 := b0.cell 1; have a0 := b1.cell 0; have a1 := b1.cell 1; simp only [List.getElem?_toArray, List.getElem?_cons_zero, List.getElem?_cons_succ] at c0 c1 a0 a1
          have z0 := b2.cell 0; have z1 := b2.cell 1; simp only [List.getElem?_toArray, List.getElem?_cons_zero, List.getElem?_cons_succ] at z0 z1
          have HM := Lib.hid (HME.out j n ⟨⟨by omega, by omega⟩, by omega, by omega⟩)
          have hqq := HQ.out (j : Int) (n : Int)
          rw [hqq] at HM
          clear hqq
          cases hqz : q ((j : Int), (n : Int)) with
          | false =>
            rw [hqz] at HM
            have hnx : (grid 0 R j (n + 1)).filter q = (grid 0 R j n).filter q := by rw [grid_one, List.filter_append]; simp [hqz]
            generalize (grid 0 R j n).filter q = l at *
            have HN := Lib.hid hnx
            clear hnx
            go_wp2_with (go_at_call 102; refine (HM.out _).mono ?_; rintro e w3 ⟨rfl, hB1⟩; replace ho := ho.below hB1; replace b0 := b0.below hB1 b0.lt; replace b1 := b1.below hB1 b1.lt; replace hB := below_in hB hB1)
            go_roundw
            case rel => exact ⟨n + 1, by omega, by go_num, by rw [HN.out]; exact ho, b0, b1, hB⟩
            case measure => simp [intOf]; omega
          | true =>
            rw [hqz] at HM
            have hnx : (grid 0 R j (n + 1)).filter q = (grid 0 R j n).filter q ++ [((j : Int), (n : Int))] := by rw [grid_one, List.filter_append]; simp [hqz]
            generalize (grid 0 R j n).filter q = l at *
            have HN := Lib.hid hnx
            clear hnx
            go_wp2_with fail
            refine (HM.out _).mono ?_
            rintro e w3 ⟨rfl, hB1⟩
            replace ho := ho.below hB1
            replace b0 := b0.below hB1 b0.lt
            replace b1 := b1.below hB1 b1.lt
            replace b2 := b2.below hB1 b2.lt
            replace hB := below_in hB hB1
            clear c0 c1 a0 a1 z0 z1
            have z0 := b2.cell 0; have z1 := b2.cell 1; simp only [List.getElem?_toArray, List.getElem?_cons_zero, List.getElem?_cons_succ] at z0 z1
            have hBy := below_one w3 (.cells #[.int .i64 j, .int .i64 n] 56)
            have HO := Lib.hid (ho.below hBy)
            have HU := Lib.hid (Blk.new w3 56 #[.int .i64 j, .int .i64 n])
            replace b0 := b0.below hBy b0.lt
            replace b1 := b1.below hBy b1.lt
            replace hB := below_in hB hBy
            have hs3 := hB.size
            have hs4 := b1.lt
            have ho4 := ho.own_le
            have hn0 := ho.ne (g := w.heap.size) (by omega)
            have hn1 := ho.ne (g := w.heap.size + 1) (by omega)
            go_wp2_with (at_builtin; refine wpList_code _ rfl _ _ 49 56 (.agg #[.int .i64 0, .int .i64 0]) 16 rfl Tryz.underlying49 Tryz.infoAt rfl (w.heap.size + 2) _ _ rfl _ HO.out _ 1 _ _ rfl HU.out (by omega) (by omega) (by omega) ?_; intro v2 w2 hown2 hgrow2)
            go_roundw
            case rel => exact ⟨n + 1, by omega, by go_num, by rw [HN.out]; exact OwnA.push hown2, b0.grown hgrow2 hn0, b1.grown hgrow2 hn1, hB.grown hgrow2 hB.size (fun r e => by have := ho4 r e; omega)⟩
            case measure => simp [intOf]; omega
        · obtain rfl : n = R := by omega
          have hdec2 : decide ((n : Int) < (n : Int)) = false := by simp
          go_wp2_with (go_at_call 55; refine (HRw.out _).mono ?_; rintro e w1 ⟨rfl, hB1⟩; replace ho := ho.below hB1; replace b0 := b0.below hB1 b0.lt; replace b1 := b1.below hB1 b1.lt; replace hB := below_in hB hB1; have c0 := b0.cell 0; have c1 := b0.cell 1; have a0 := b1.cell 0; have a1 := b1.cell 1; simp only [List.getElem?_toArray, List.getElem?_cons_zero, List.getElem?_cons_succ] at c0 c1 a0 a1)
          go_roundw
          case rel => exact ⟨j + 1, by omega, by go_num, by rw [grid_row]; exact ho, b0, b1, hB⟩
          case measure => simp [intOf]; omega
    · obtain rfl : j = C := by omega
      have hdec : decide ((j : Int) < (j : Int)) = false := by simp
      go_wp2_with (go_at_call 54; refine (HCo.out _).mono ?_; rintro e w1 ⟨rfl, hB1⟩; replace ho := ho.below hB1; replace b0 := b0.below hB1 b0.lt; replace b1 := b1.below hB1 b1.lt; replace hB := below_in hB hB1; have c0 := b0.cell 0; have c1 := b0.cell 1; have a0 := b1.cell 0; have a1 := b1.cell 1; simp only [List.getElem?_toArray, List.getElem?_cons_zero, List.getElem?_cons_succ] at c0 c1 a0 a1)
      have he := HEND.out
      simp only [Int.toNat_natCast] at he
      rw [he] at ho
      go_wp2
      go_ret
      exact ⟨_, rfl, ho.less (by omega), hB⟩
end Go.Proofs.YtggdlklkjnbbjaaGreatDoor

namespace Go.Proofs.YtggdlklkjnbbjaaGreatDoor
open Go.RowKit Go.Shelf
set_option linter.unusedSimpArgs false
set_option linter.unusedVariables false

set_option maxRecDepth 100000 in
set_option maxHeartbeats 2000000 in
theorem refParity_any (k p : Int) (hR : RightC k p) (w : World) :
    Calls Tryz.prog 76 #[.agg #[.int .i64 k, .int .i64 p]] w fun e w' => ∃ v, e = .returned v ∧ OwnA w' w.heap.size v (flatC p (spanL (p - shortN k) (p - shortN k + madeN k))) ∧ Below w.heap.size w w' := by
  obtain ⟨p1, p2, s1, s2, m1, m2⟩ := hR.und
  have HDa := Lib.hid (fun W => refData_any k p hR W)
  have HCo := Lib.hid (fun W => refCols_any k p hR W)
  have HRw := Lib.hid (fun W => refRows_any k p hR W)
  have HEND : Hid (grid (p - shortN k) (p - 1).toNat (madeN k).toNat 0 = flatC p (spanL (p - shortN k) (p - shortN k + madeN k))) := by
    have := grid_flat (p - shortN k) (p - shortN k + madeN k) p
    rwa [show p - shortN k + madeN k - (p - shortN k) = madeN k by omega] at this
  generalize flatC p (spanL (p - shortN k) (p - shortN k + madeN k)) = want at *
  clear hR
  have hd : 0 ≤ p - shortN k ∧ p - shortN k ≤ 17 := by omega
  generalize p - shortN k = d at *
  generalize madeN k = mm at *
  obtain ⟨C, rfl⟩ : ∃ C : Nat, mm = (C : Int) := ⟨mm.toNat, by omega⟩
  obtain ⟨R, hRR⟩ : ∃ R : Nat, p - 1 = (R : Int) := ⟨(p - 1).toNat, by omega⟩
  rw [hRR] at HRw HEND
  have hR16 : R ≤ 16 := by omega
  clear hRR p1 p2 s1 s2
  obtain ⟨W0, hW0⟩ : ∃ W0, w.alloc (.cells #[.int .i64 k, .int .i64 p] 37) = W0 := ⟨_, rfl⟩
  have b0 : Blk W0 w.heap.size 37 #[.int .i64 k, .int .i64 p] := by rw [← hW0]; exact Blk.new w _ _
  have hB : Below w.heap.size w W0 := by rw [← hW0]; exact below_one w _
  have c0 := b0.cell 0; have c1 := b0.cell 1; simp only [List.getElem?_toArray, List.getElem?_cons_zero, List.getElem?_cons_succ] at c0 c1
  go_enter Tryz.func76, Tryz.ntmps76
  go_wp2_with fail
  try rw [hW0]
  clear hW0
  go_wp2_with (go_at_call 53; refine (HDa.out _).mono ?_; rintro e w1 ⟨rfl, hB1⟩; replace b0 := b0.below hB1 b0.lt; replace hB := below_in hB hB1; clear hB1)
  clear c0 c1
  go_loopw [3, 4] (fun v i wr => ∃ j : Nat, j ≤ C ∧ i = .int .i64 (d + (j : Int)) ∧ OwnA wr (w.heap.size + 1) v (grid d R j 0) ∧ Blk wr w.heap.size 37 #[.int .i64 k, .int .i64 p] ∧ Below w.heap.size w wr) (fun _ i _ => (d + C).toNat - (intOf i).toNat)
  case atStart => exact ⟨0, by omega, by simp, ownA_nil _ _, b0, hB⟩
  case round =>
    clear b0 hB
    obtain ⟨j, hj, rfl, ho, b0, hB⟩ := hrel
    have c0 := b0.cell 0; have c1 := b0.cell 1; simp only [List.getElem?_toArray, List.getElem?_cons_zero, List.getElem?_cons_succ] at c0 c1
    by_cases hlt : j < C
    · have hdec : decide (d + (j : Int) < d + (C : Int)) = true := by simp; omega
      go_wp2_with (go_at_call 54; refine (HCo.out _).mono ?_; rintro e w1 ⟨rfl, hB1⟩; replace ho := ho.below hB1; replace b0 := b0.below hB1 b0.lt; replace hB := below_in hB hB1; have c0 := b0.cell 0; have c1 := b0.cell 1; simp only [List.getElem?_toArray, List.getElem?_cons_zero, List.getElem?_cons_succ] at c0 c1)
      go_loopw [3, 5] (fun v i wz => ∃ n : Nat, n ≤ R ∧ i = .int .i64 n ∧ OwnA wz (w.heap.size + 1) v (grid d R j n) ∧ Blk wz w.heap.size 37 #[.int .i64 k, .int .i64 p] ∧ Below w.heap.size w wz) (fun _ i _ => R - (intOf i).toNat)
      case atStart => exact ⟨0, by omega, rfl, ho, b0, hB⟩
      case round =>
        clear ho b0 hB c0 c1
        obtain ⟨n, hn, rfl, ho, b0, hB⟩ := hrel
        have c0 := b0.cell 0; have c1 := b0.cell 1; simp only [List.getElem?_toArray, List.getElem?_cons_zero, List.getElem?_cons_succ] at c0 c1
        by_cases hlt2 : n < R
        · have hdec2 : decide ((n : Int) < (R : Int)) = true := by simp; omega
          have hfl : (grid d R j n).length ≤ 500 := grid_len d R j n hR16 (by omega) (by omega)
          have HN := Lib.hid (grid_one d R j n)
          generalize grid d R j n = l at *
          go_wp2_with fail
          refine (HRw.out _).mono ?_
          rintro e w3 ⟨rfl, hB1⟩
          replace ho := ho.below hB1; replace b0 := b0.below hB1 b0.lt; replace hB := below_in hB hB1; have c0 := b0.cell 0; have c1 := b0.cell 1; simp only [List.getElem?_toArray, List.getElem?_cons_zero, List.getElem?_cons_succ] at c0 c1
          have hBy := below_one w3 (.cells #[.int .i64 (d + (j : Int)), .int .i64 n] 56)
          have HO := Lib.hid (ho.below hBy)
          have HU := Lib.hid (Blk.new w3 56 #[.int .i64 (d + (j : Int)), .int .i64 n])
          replace b0 := b0.below hBy b0.lt
          replace hB := below_in hB hBy
          have hs3 := hB.size
          have hs4 := b0.lt
          have ho4 := ho.own_le
          have hn0 := ho.ne (g := w.heap.size) (by omega)
          go_wp2_with (at_builtin; refine wpList_code _ rfl _ _ 49 56 (.agg #[.int .i64 0, .int .i64 0]) 16 rfl Tryz.underlying49 Tryz.infoAt rfl (w.heap.size + 1) _ _ rfl _ HO.out _ 1 _ _ rfl HU.out (by omega) (by omega) (by omega) ?_; intro v2 w2 hown2 hgrow2)
          go_roundw
          case rel => exact ⟨n + 1, by omega, by go_num, by rw [HN.out]; exact OwnA.push hown2, b0.grown hgrow2 hn0, hB.grown hgrow2 hB.size (fun r e => by have := ho4 r e; omega)⟩
          case measure => simp [intOf]; omega
        · obtain rfl : n = R := by omega
          have hdec2 : decide ((n : Int) < (n : Int)) = false := by simp
          go_wp2_with (go_at_call 55; refine (HRw.out _).mono ?_; rintro e w1 ⟨rfl, hB1⟩; replace ho := ho.below hB1; replace b0 := b0.below hB1 b0.lt; replace hB := below_in hB hB1; have c0 := b0.cell 0; have c1 := b0.cell 1; simp only [List.getElem?_toArray, List.getElem?_cons_zero, List.getElem?_cons_succ] at c0 c1)
          go_roundw
          case rel => exact ⟨j + 1, by omega, by go_num, by rw [grid_row]; exact ho, b0, hB⟩
          case measure => simp [intOf]; omega
    · obtain rfl : j = C := by omega
      have hdec : decide (d + (j : Int) < d + (j : Int)) = false := by simp
      go_wp2_with (go_at_call 54; refine (HCo.out _).mono ?_; rintro e w1 ⟨rfl, hB1⟩; replace ho := ho.below hB1; replace b0 := b0.below hB1 b0.lt; replace hB := below_in hB hB1; have c0 := b0.cell 0; have c1 := b0.cell 1; simp only [List.getElem?_toArray, List.getElem?_cons_zero, List.getElem?_cons_succ] at c0 c1)
      have he := HEND.out
      simp only [Int.toNat_natCast] at he
      rw [he] at ho
      go_wp2
      go_ret
      exact ⟨_, rfl, ho.less (by omega), hB⟩
end Go.Proofs.YtggdlklkjnbbjaaGreatDoor

