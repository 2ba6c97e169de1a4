/- All codes; what the law asks of an answer. -/
import Derived.Test.YtggdlklkjnbbjaaGreatDoorSwF
namespace Go.Proofs.YtggdlklkjnbbjaaGreatDoor
open Go.RowKit Go.Shelf
set_option linter.unusedSimpArgs false
set_option linter.unusedVariables false

theorem Tryz.infoCode : (Tryz.prog.info? 37).map (fun i => (i.zero, i.size, i.bytes)) = some (some (.agg #[.int .i64 0, .int .i64 0]), 2, 16) := by kernel_rfl

/-- append of one code more to a row of the call's own. -/
theorem wpList_code (w : World) {ops : Array Oper} {rest : List Oper} {o : Oper} {a : Act} {Q : Exit → Act → World → Prop} (hgd : o.guard = none) (s x : Operand) (t e : TypeId) (z : Value) (bytes : Nat)
    (ho : o.op = .call { callee := .builtin .append, args := #[s, x], argTypes := #[t, t] }) (ht : Tryz.prog.underlying t = some (.slice e)) (hinfo : (Tryz.prog.info? e).map (fun i => (i.zero, i.size, i.bytes)) = some (some z, 2, bytes)) (hzs : z.cells.size = 2)
    (base : Nat) (v : Value) (xs : List Value) (hs : a.eval s = v) (n : Nat) (hown : w.ownsRow base e 2 v n xs) (g : Nat) (c : Nat) (k p : Int) (hx : a.eval x = .slice (some ⟨g, 0, none⟩) 1 c) (hu : Blk w g e #[.int .i64 k, .int .i64 p])
    (hlen : n ≤ 1000000000) (hby2 : bytes ≤ 100) (hbase : base ≤ w.heap.size)
    (h : ∀ v' w', w'.ownsRow base e 2 v' (n + 1) (xs ++ [.int .i64 k, .int .i64 p]) → w.grownBy w' v.ownBlock → wpList Tryz.prog ops Q rest (a.put o.dst v') w') : wpList Tryz.prog ops Q (o :: rest) a w :=
  wpList_plain hgd fun K hK => by
    obtain ⟨i, hi, hz0, hz1, hz2⟩ := info_parts hinfo
    have hb : (n + 1) * bytes ≤ 140737488355328 := by
      have := Nat.mul_le_mul (show n + 1 ≤ 1000000001 by omega) hby2
      omega
    obtain ⟨v', w', hrun, r1, r2, _, r3⟩ := run_append_own_at (P := Tryz.prog) w base t o.type e i z 2 bytes ht hi hz0 hz1 hz2 hzs (by omega) v n xs hown ⟨g, 0, none⟩ 1 c [.int .i64 k, .int .i64 p] (by simp) (by
      intro j y hy
      rw [addr_add, Nat.zero_add, hu.cell j]
      rw [List.getElem?_toArray]
      exact hy) (by intro y hy; simp only [List.mem_cons, List.not_mem_nil, or_false] at hy; rcases hy with rfl | rfl <;> rfl) (by unfold maxLen; omega) hb hbase
    unfold Oper.wp execOp
    simp only [ho, resolve, invoke, builtin, Sem.run_bind, Sem.run_pure, Result.andThen_ok, List.map_toArray, List.map_cons, List.map_nil, hs, hx, hrun]
    exact hK _ _ (h v' w' r1 r2)

/-- All codes, by kinds, by primes. -/
def allC : List (Int × Int) := [1, 2, 3].flatMap fun k => prm.map fun p => (k, p)
def codeCells (l : List (Int × Int)) : List Value := l.flatMap fun c => [.int .i64 c.1, .int .i64 c.2]
theorem codeCells_len (l : List (Int × Int)) : (codeCells l).length = 2 * l.length := by
  unfold codeCells
  induction l with
  | nil => rfl
  | cons c l ih => rw [List.flatMap_cons, List.length_append, ih, List.length_cons]; simp; omega
theorem codeCells_at (l : List (Int × Int)) (j : Nat) (hj : j < l.length) : (codeCells l)[2 * j]? = some (.int .i64 (l[j]).1) ∧ (codeCells l)[2 * j + 1]? = some (.int .i64 (l[j]).2) := by
  unfold codeCells
  induction l generalizing j with
  | nil => simp at hj
  | cons c l ih =>
    cases j with
    | zero => exact ⟨rfl, rfl⟩
    | succ j =>
      have := ih j (by simpa using hj)
      exact this
theorem allC_next : ∀ j ∈ List.range 3, ∀ i ∈ List.range 6, allC.take (6 * j + (i + 1)) = allC.take (6 * j + i) ++ [(((j + 1 : Nat) : Int), prm[i]?.getD 0)] := by decide +kernel
theorem allC_len : allC.length = 18 := by decide +kernel
/-- The value v owns a row of its own, of the codes l. -/
def OwnC (w : World) (base : Nat) (v : Value) (l : List (Int × Int)) : Prop := w.ownsRow base 37 2 v l.length (codeCells l)
theorem ownC_nil (w : World) (base : Nat) : OwnC w base (.slice none 0 0) [] := World.ownsRow_nil w base _ 2
theorem OwnC.grown_ {w w' : World} {base : Nat} {v : Value} {l : List (Int × Int)} (h : OwnC w base v l) (hg : w.grownBy w' none) : OwnC w' base v l :=
  World.ownsRow.kept h hg (by cases hv : v.ownBlock <;> simp)
theorem OwnC.below {w w' : World} {base : Nat} {v : Value} {l : List (Int × Int)} (h : OwnC w base v l) (hb : Below w.heap.size w w') : OwnC w' base v l := by
  refine ⟨h.1, ?_⟩
  rcases h.2 with h1 | ⟨g, cap, cur, e, h2, hg, rest⟩
  · exact .inl h1
  · exact .inr ⟨g, cap, cur, e, h2, (hb.block g (Array.getElem?_eq_some_iff.1 hg).1).trans hg, rest⟩
theorem OwnC.ne {w : World} {base : Nat} {v : Value} {l : List (Int × Int)} (h : OwnC w base v l) {g : Nat} {t : TypeId} {cs : Array Value} (hb : Blk w g t cs) (ht : t ≠ 37) : some g ≠ v.ownBlock := by
  rcases h.2 with ⟨rfl, _⟩ | ⟨g', cap, cur, rfl, _, hg, _⟩
  · intro e; cases e
  · intro e
    injection e with e
    subst e
    unfold Blk at hb
    rw [hb] at hg
    injection hg with hg
    injection hg with _ h2 _
    exact ht h2
theorem OwnC.own_le {w : World} {base : Nat} {v : Value} {l : List (Int × Int)} (h : OwnC w base v l) : ∀ k, v.ownBlock = some k → base ≤ k := fun k e => (World.ownsRow.lt h k e).1
theorem OwnC.next {w : World} {base : Nat} {v : Value} {j i : Nat} {kk : Int} (hk : Hid (((j + 1 : Nat) : Int) = kk)) (hj : j < 3) (hi : i < 6) (h : w.ownsRow base 37 2 v ((allC.take (6 * j + i)).length + 1) (codeCells (allC.take (6 * j + i)) ++ [.int .i64 kk, .int .i64 (prm[i]?.getD 0)])) : OwnC w base v (allC.take (6 * j + (i + 1))) := by
  unfold Hid at hk
  subst hk
  have e := allC_next j (List.mem_range.2 hj) i (List.mem_range.2 hi)
  unfold OwnC
  rw [e, List.length_append]
  unfold codeCells at *
  rw [List.flatMap_append]
  exact h

end Go.Proofs.YtggdlklkjnbbjaaGreatDoor
