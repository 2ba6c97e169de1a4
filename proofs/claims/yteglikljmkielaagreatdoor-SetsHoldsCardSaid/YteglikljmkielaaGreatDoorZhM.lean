/- Sets: how often a place is met. -/
import Derived.Test.YteglikljmkielaaGreatDoorZlN
namespace Go.Proofs.YteglikljmkielaaGreatDoor
open Go.RowKit Go.Shelf

theorem nodup_count {l : List (Int × Int)} (h : l.Nodup) (a : Int × Int) : l.count a = if a ∈ l then 1 else 0 := by
  induction l with
  | nil => simp
  | cons e l ih =>
    obtain ⟨h1, h2⟩ := List.nodup_cons.1 h
    rw [List.count_cons, ih h2]
    by_cases ea : e = a
    · subst ea; simp [h1]
    · have : ¬ a = e := fun h => ea h.symm
      simp [ea, this]
/-- How many made cells of column col among l have the place (x, y). -/
def cntC (k p x y col : Int) (l : List (Int × Int)) : Nat := (l.filter fun z => decide (z.1 = col) && memB k p z.1 z.2 x y).length
theorem cntC_next (k p x y col : Int) (l : List (Int × Int)) (z : Int × Int) : cntC k p x y col (l ++ [z]) = cntC k p x y col l + (if z.1 = col then (if memB k p z.1 z.2 x y then 1 else 0) else 0) := by
  unfold cntC
  rw [List.filter_append, List.length_append]
  obtain ⟨z1, z2⟩ := z
  by_cases h : z1 = col
  · subst h
    cases hm : memB k p z1 z2 x y <;> simp [hm]
  · simp [h]
theorem memL_count_at {k p mx my x y : Int} (hR : RightC k p) (hm : p - shortN k ≤ mx) (hx : 0 ≤ x) (hy : 0 ≤ y ∧ y < p - 1) : (memL k p mx my).count (x, y) = if memB k p mx my x y then 1 else 0 := by
  rw [nodup_count (sorted_nodup (memL_sorted _ _ _ _))]
  by_cases h : memB k p mx my x y = true
  · rw [if_pos ((mem_memL hR hm hx hy).2 h), if_pos h]
  · rw [if_neg (fun h2 => h ((mem_memL hR hm hx hy).1 h2)), if_neg h]
def wantD (k p x y : Int) : Int := if (x + y) % p = p - 1 then (if k = 2 then 0 else p - 1) else 1
def codesH : List (Int × Int) := [1, 2, 3].flatMap fun k => [3, 5, 7, 11, 13].map fun p => (k, p)
set_option maxRecDepth 100000 in
theorem cnt_all : ∀ c ∈ codesH, ∀ x ∈ spanL 0 (c.2 - shortN c.1), ∀ y ∈ rowsL c.2,
    cntC c.1 c.2 x y (c.2 - shortN c.1) (flatC c.2 (spanL (c.2 - shortN c.1) (c.2 - shortN c.1 + madeN c.1))) = 1 ∧
    (cntC c.1 c.2 x y (c.2 - shortN c.1 + 1) (flatC c.2 (spanL (c.2 - shortN c.1) (c.2 - shortN c.1 + madeN c.1))) : Int) = wantD c.1 c.2 x y := by decide +kernel
theorem cnt_of {k p x y : Int} (hR : RightC k p) (hp : p ≤ 13) (hx : 0 ≤ x ∧ x < p - shortN k) (hy : 0 ≤ y ∧ y < p - 1) :
    cntC k p x y (p - shortN k) (flatC p (spanL (p - shortN k) (p - shortN k + madeN k))) = 1 ∧ (cntC k p x y (p - shortN k + 1) (flatC p (spanL (p - shortN k) (p - shortN k + madeN k))) : Int) = wantD k p x y := by
  refine cnt_all (k, p) ?_ x (spanL_mk hx.1 hx.2) y ?_
  · obtain ⟨⟨h1, h2⟩, h3⟩ := hR
    unfold codesH
    refine List.mem_flatMap.2 ⟨k, ?_, List.mem_map.2 ⟨p, ?_, rfl⟩⟩
    · have : k = 1 ∨ k = 2 ∨ k = 3 := by omega
      rcases this with rfl | rfl | rfl <;> decide
    · unfold prm at h3
      simp only [List.mem_cons, List.not_mem_nil, or_false] at h3 ⊢
      omega
  · unfold rowsL
    exact List.mem_map.2 ⟨y.toNat, List.mem_range.2 (by omega), by omega⟩

/-- What lies in memory while lines go over: the code, the answer, the place. -/
structure HFacts (V : World) (B0 B : Nat) (k p x y : Int) : Prop where
  b0 : Blk V B0 24 #[.int .i64 k, .int .i64 p]
  br : Blk V (B0 + 1) 4 #[.bool false]
  ba : Blk V B 26 #[.int .i64 x, .int .i64 y]
  hL : Laid V
  lo : B0 + 1 < B
  l1 : 1 < B
theorem HFacts.below {V V' : World} {B0 B : Nat} {k p x y : Int} (h : HFacts V B0 B k p x y) (hB : Below (B + 1) V V') : HFacts V' B0 B k p x y :=
  ⟨h.b0.below hB (by have := h.lo; omega), h.br.below hB (by have := h.lo; omega), h.ba.below hB (by omega), ⟨h.hL.1.below hB (by have := h.l1; omega), h.hL.2.below hB (by have := h.l1; omega)⟩, h.lo, h.l1⟩
theorem HFacts.next {V V' : World} {B0 B : Nat} {k p x y : Int} (h : HFacts V B0 B k p x y) (hB : Below V.heap.size V V') : HFacts V' B0 B k p x y := h.below (hB.mono (by have := h.ba.lt; omega))
theorem count_next (a : Int × Int) (l : List (Int × Int)) (j : Nat) (hj : j < l.length) : (l.take (j + 1)).count a = (l.take j).count a + (if l[j] = a then 1 else 0) := by
  rw [List.take_succ_eq_append_getElem hj, List.count_append, List.count_singleton]
  by_cases h : l[j] = a
  · simp [h]
  · simp [h]
theorem OwnA.since {X Y : World} {base B : Nat} {v : Value} {l : List (Int × Int)} (h : OwnA X base v l) (hs : SinceO B none X Y) (hb : B ≤ base) : OwnA Y base v l := by
  refine ⟨h.1, ?_⟩
  rcases h.2 with h1 | ⟨g, cap, cur, e, h2, hg, rest⟩
  · exact .inl h1
  · exact .inr ⟨g, cap, cur, e, h2, (hs.2 g (by omega) (Array.getElem?_eq_some_iff.1 hg).1 (by simp)).trans hg, rest⟩
theorem OwnA.kept {w w' : World} {base : Nat} {v : Value} {l : List (Int × Int)} (h : OwnA w base v l) {row : Option Nat} (hg : w.grownBy w' row) (hne : v.ownBlock = none ∨ v.ownBlock ≠ row) : OwnA w' base v l := World.ownsRow.kept h hg hne
theorem OwnA.rowO {w : World} {base : Nat} {v : Value} {l : List (Int × Int)} (h : OwnA w base v l) : RowO v.ownBlock w := fun b e => by
  rcases h.2 with ⟨rfl, _⟩ | ⟨g, cap, cur, rfl, _, hg, _⟩
  · cases e
  · injection e with e
    subst e
    exact ⟨_, _, _, hg⟩
theorem OwnA.blks {w w' : World} {base : Nat} {v : Value} {l : List (Int × Int)} (h : OwnA w base v l) (hk : ∀ g t cs, Blk w g t cs → Blk w' g t cs) : OwnA w' base v l :=
  ⟨h.1, h.2.imp id fun ⟨g, cap, cur, e, h2, hg, rest⟩ => ⟨g, cap, cur, e, h2, hk _ _ _ hg, rest⟩⟩
/-- A cell of a row of two cells or more lies in no block of one cell. -/
theorem cell_keep {X Y : World} {B g i : Nat} {v : Value} (h : X.cell? ⟨g, i, none⟩ = some v) (hg : g ≠ B + 1 + 1 ∧ g ≠ B + 1 + 1 + 1) (hb : Below (B + 1 + 1) X Y) (hs : SinceO (B + 4) none X Y) : Y.cell? ⟨g, i, none⟩ = some v := by
  rcases Nat.lt_or_ge g (B + 1 + 1) with h1 | h1
  · exact (hb.cell (p := ⟨g, i, none⟩) h1).trans h
  · exact (World.cell?_of_block (hs.2 g (by omega) (cell_lt h) (by simp))).trans h
theorem cell_apart {X : World} {g b : Nat} {t : TypeId} {u v : Value} (hb : Blk X b t #[u]) (h : X.cell? ⟨g, 1, none⟩ = some v) : g ≠ b := by
  intro e
  subst e
  have := hb.cell 1
  rw [this] at h
  simp at h
/-- append of a place, as callers know them, to a row of the call's own, inside a fence. -/
theorem wpListIn_at {F : Fence} {nF : Nat} (w : World) {ops : Array Oper} {rest : List Oper} {o : Oper} {a : Act} {Q : Exit → Act → World → Prop} (hgd : o.guard = none) (s x : Operand)
    (ho : o.op = .call { callee := .builtin .append, args := #[s, x], argTypes := #[27, 27] })
    (base : Nat) (v : Value) (l : List (Int × Int)) (hs : a.eval s = v) (hown : OwnA w base v l) (g : Nat) (p1 p2 : Int) (hx : a.eval x = .slice (some ⟨g, 0, none⟩) 1 1) (hu : Blk w g 26 #[.int .i64 p1, .int .i64 p2])
    (hlen : l.length ≤ 1000000000) (hbase : base ≤ w.heap.size)
    (h : ∀ v' w', OwnA w' base v' (l ++ [(p1, p2)]) → w.grownBy w' v.ownBlock → (v'.ownBlock = v.ownBlock ∨ v'.ownBlock = some w.heap.size) → wpListIn F nF Tryz.prog ops Q rest (a.put o.dst v') w') : wpListIn F nF Tryz.prog ops Q (o :: rest) a w := by
  obtain ⟨i, hi, hz0, hz1, hz2⟩ := info_parts Tryz.infoAt
  refine wpListIn_append_own_at w hgd s x 27 ho base 26 i (.agg #[.int .i64 0, .int .i64 0]) 2 16 Tryz.underlying27 hi hz0 hz1 hz2 rfl (by omega) v l.length (codeCells l) hs hown ⟨g, 0, none⟩ 1 1 [.int .i64 p1, .int .i64 p2] hx rfl
    (by intro j y hy
        rw [addr_add, Nat.zero_add, hu.cell j, List.getElem?_toArray]
        exact hy)
    (by intro y hy; simp only [List.mem_cons, List.not_mem_nil, or_false] at hy; rcases hy with rfl | rfl <;> rfl) (by unfold maxLen; omega) (by omega) hbase ?_
  intro v' w' h1 h2 h4 h3
  exact h v' w' (OwnA.push h1) h2 h3
end Go.Proofs.YteglikljmkielaaGreatDoor
