/- Cut: bytes filled up, and cut. -/
import Derived.Test.YtggdlklkjnbbjaaGreatDoorCwF
import Derived.ArgAppend
import Derived.Laws.IdiomCopy
namespace Go.Proofs.YtggdlklkjnbbjaaGreatDoor.C
open Go.RowKit Go.Shelf

/-- Bytes laid upon a row from a place on. -/
def lay : List UInt8 → Nat → List UInt8 → List UInt8
  | z, _, [] => z
  | z, o, y :: ys => lay (z.set o y) (o + 1) ys
theorem Row.setCells {g : Nat} : ∀ (ys : List UInt8) (o : Nat) (w : World) (z : List UInt8), Row w g z → Row (w.setCells g o (ys.map enc)) g (lay z o ys)
  | [], _, _, _, h => h
  | y :: ys, o, w, z, h => by
    rw [List.map_cons, World.setCells, lay]
    exact Row.setCells ys (o + 1) _ _ (h.set_ o y)
theorem lay_tab (n : Nat) : ∀ (ys : List UInt8) (o : Nat) (f : Nat → UInt8), lay (tab n f) o ys = tab n (fun j => if o ≤ j ∧ j < o + ys.length then at_ ys (j - o) else f j)
  | [], o, f => by
    rw [lay]
    exact tab_ext fun j _ => by rw [if_neg (by rw [List.length_nil]; omega)]
  | y :: ys, o, f => by
    rw [lay, tab_set, lay_tab n ys (o + 1)]
    refine tab_ext fun j _ => ?_
    by_cases h1 : j = o
    · subst h1
      rw [if_neg (by omega), if_pos rfl, if_pos (by simp), Nat.sub_self]; rfl
    · rw [if_neg h1]
      by_cases h2 : o + 1 ≤ j ∧ j < o + 1 + ys.length
      · rw [if_pos h2, if_pos (by rw [List.length_cons]; omega), show j - o = (j - (o + 1)) + 1 by omega]
        simp [at_]
      · rw [if_neg h2, if_neg (by rw [List.length_cons]; omega)]
theorem lay_noughts (n : Nat) (l : List UInt8) (_h : l.length ≤ n) : lay (List.replicate n 0) 0 l = tab n (at_ l) := by
  rw [show List.replicate n (0 : UInt8) = tab n (fun _ => 0) by unfold tab; rw [List.map_const', List.length_range], lay_tab]
  refine tab_ext fun j _ => ?_
  by_cases h : j < l.length
  · rw [if_pos (by omega), Nat.sub_zero]
  · rw [if_neg (by omega)]
    unfold at_
    rw [List.getElem?_eq_none (by omega)]; rfl

theorem below_setCells {g B : Nat} (hg : B ≤ g) : ∀ (vs : List Value) (o : Nat) (w : World), Below B w (w.setCells g o vs)
  | [], _, _ => Below.refl _ _
  | v :: vs, o, w => by
    rw [World.setCells]
    exact ((Below.refl B w).setCell (p := ⟨g, o, none⟩) hg v).trans (below_setCells hg vs (o + 1) _)

/-- append into a row that has room. -/
theorem run_room {P : Program} (w : World) (ty : TypeId) (i : TypeInfo) (ht : P.underlying 25 = some (.slice 5)) (hi : P.info? 5 = some i) (hsize : i.size = 1)
    (g N : Nat) (l : List UInt8) (sv : Value) (hR : Row w g (List.replicate N 0)) (hb : Bytes g w sv l) (hN : l.length ≤ N) :
    ∃ w', (Builtin.append_ #[25, 25] ty #[.slice (some ⟨g, 0, none⟩) 0 N, sv]).run P w = .ok (.slice (some ⟨g, 0, none⟩) l.length N) w' ∧ Row w' g (tab N (at_ l)) ∧ Below g w w' := by
  obtain ⟨A, cap, rfl, _, hA⟩ := hb
  rcases A with _ | ad
  · have hn : l = [] := by
      rcases Nat.eq_zero_or_pos l.length with h0 | h0
      · exact List.eq_nil_of_length_eq_zero h0
      · obtain ⟨b, off, h, _⟩ := hA h0
        cases h
    subst hn
    refine ⟨w, ?_, by rw [← lay_noughts N [] (by simp)]; exact hR, Below.refl _ _⟩
    simp [Builtin.append_, run_underlying ht, sizeOf, typeInfo, hi, Builtin.lenOf, Builtin.firstCells, storeCells]
  · have hcells : ∀ j u, (l.map enc)[j]? = some u → w.cell? (ad.add j) = some u := by
      intro j u hu
      have hj : j < l.length := by simpa using (List.getElem?_eq_some_iff.1 hu).1
      obtain ⟨b, off, h, _, hc⟩ := hA (by omega)
      injection h with h
      subst h
      rw [addr_add, hc j hj]
      rw [List.getElem?_map, List.getElem?_eq_getElem hj] at hu
      rw [List.getElem?_eq_getElem hj]
      exact hu
    have hrun := run_append_room_cells (P := P) w 25 ty 5 i ht hi g 0 0 N ad l.length cap (l.map enc) (by simp [hsize]) hcells (by intro u hu; obtain ⟨c, _, rfl⟩ := List.mem_map.1 hu; rfl) (by omega)
      (fun j hj => by rw [List.length_map] at hj; rw [Nat.zero_mul, Nat.zero_add, hR.cell (k := j) (by rw [List.length_replicate]; omega)]; rfl) (fun j _ => hR.frozen _)
    rw [Nat.zero_add, Nat.zero_mul] at hrun
    refine ⟨_, hrun, ?_, below_setCells (Nat.le_refl _) _ _ _⟩
    rw [← lay_noughts N l hN]
    exact Row.setCells l 0 w _ hR

theorem wpList_room {P : Program} (w : World) {ops : Array Oper} {rest : List Oper} {o : Oper} {a : Act} {Q : Exit → Act → World → Prop} (hgd : o.guard = none) (s x : Operand)
    (ho : o.op = .call { callee := .builtin .append, args := #[s, x], argTypes := #[25, 25] }) (i : TypeInfo) (ht : P.underlying 25 = some (.slice 5)) (hi : P.info? 5 = some i) (hsize : i.size = 1)
    (g N : Nat) (l : List UInt8) (sv : Value) (hs : a.eval s = .slice (some ⟨g, 0, none⟩) 0 N) (hx : a.eval x = sv) (hR : Row w g (List.replicate N 0)) (hb : Bytes g w sv l) (hN : l.length ≤ N)
    (h : ∀ w', Row w' g (tab N (at_ l)) → Below g w w' → wpList P ops Q rest (a.put o.dst (.slice (some ⟨g, 0, none⟩) l.length N)) w') : wpList P ops Q (o :: rest) a w :=
  wpList_plain hgd fun K hK => by
    obtain ⟨w', hrun, h2, h3⟩ := run_room (P := P) w o.type i ht hi hsize g N l sv hR hb hN
    unfold Oper.wp execOp
    simp only [ho, resolve, invoke, builtin, Sem.run_bind, Sem.run_pure, Result.andThen_ok, List.map_toArray, List.map_cons, List.map_nil, hs, hx, hrun]
    exact hK _ _ (h w' h2 h3)

theorem wrap64_nat (x : Nat) (h : x ≤ 9223372036854775807) : wrap64 (x : Int) = (x : Int) := by unfold wrap64; omega
/-- How many cells bytes fill. -/
def cellsFor (m n : Nat) : Nat := (m + n - 1) / n
theorem cellsFor_room (m n : Nat) (hn : 0 < n) : m ≤ cellsFor m n * n := by
  unfold cellsFor
  have h1 := Nat.div_add_mod (m + n - 1) n
  have h2 := Nat.mod_lt (m + n - 1) hn
  rw [Nat.mul_comm n] at h1
  omega
theorem cellsFor_le (m n : Nat) (hn : 0 < n) : cellsFor m n * n ≤ m + n := by
  unfold cellsFor
  have h1 := Nat.div_add_mod (m + n - 1) n
  rw [Nat.mul_comm n] at h1
  omega

/-- The cells of a row of cells, as far as k of them are cut off. -/
def cutAt (g n q k : Nat) : Array Value := ((List.range q).map fun j => if j < k then Value.slice (some ⟨g, j * n, none⟩) n n else Value.slice none 0 0).toArray
theorem cutAt_size (g n q k : Nat) : (cutAt g n q k).size = q := by simp [cutAt]
theorem cutAt_get (g n q k j : Nat) (hj : j < q) : (cutAt g n q k)[j]? = some (if j < k then Value.slice (some ⟨g, j * n, none⟩) n n else Value.slice none 0 0) := by
  simp [cutAt, hj]
theorem cutAt_set (g n q k : Nat) (_hk : k < q) : (cutAt g n q k).setIfInBounds k (.slice (some ⟨g, k * n, none⟩) n n) = cutAt g n q (k + 1) := by
  apply Array.ext_getElem?
  intro i
  rw [Array.getElem?_setIfInBounds, cutAt_size]
  by_cases hi : i < q
  · rw [cutAt_get _ _ _ _ _ hi, cutAt_get _ _ _ _ _ hi]
    by_cases h : k = i
    · subst h; simp [hi]
    · rw [if_neg h]
      by_cases h2 : i < k
      · simp [h2, show i < k + 1 by omega]
      · simp [h2, show ¬ i < k + 1 by omega]
  · have h1 : (cutAt g n q k)[i]? = none := Array.getElem?_eq_none (by rw [cutAt_size]; omega)
    have h2 : (cutAt g n q (k + 1))[i]? = none := Array.getElem?_eq_none (by rw [cutAt_size]; omega)
    rw [h1, h2]
    split
    · omega
    · rfl
theorem cutAt_none (g n q : Nat) : cutAt g n q 0 = madeCells #[.slice none 0 0] q := by
  apply Array.toList_inj.1
  rw [toList_madeCells_one]
  simp only [cutAt, Nat.not_lt_zero, if_false]
  rw [List.map_const', List.length_range]
theorem Tryz.infoSlice : (Tryz.prog.info? 25).map (fun i => (i.zero, i.size, i.bytes)) = some (some (.slice none 0 0), 1, 24) := by kernel_rfl

/-- A cell of a row of cells, cut off behind and ahead. -/
theorem run_cut (W : World) (g a b n N : Nat) (hab : a + n = b) (hb : b ≤ N) (h1 : 1 ≤ n) : (Instr.slice 25 (.slice (some ⟨g, 0, none⟩) N N) (some (.int .i64 (a : Int))) (some (.int .i64 (b : Int))) (some (.int .i64 (b : Int)))).run Tryz.prog W = .ok (.slice (some ⟨g, a, none⟩) n n) W := by
  subst hab
  have hel : Tryz.prog.elem 25 = 5 := by kernel_rfl
  have e := run_slice_lhm (P := Tryz.prog) W 25 (some ⟨g, 0, none⟩) N N (by rw [hel]; exact Tryz.underlying25) .i64 .i64 .i64 (a : Int) ((a + n : Nat) : Int) ((a + n : Nat) : Int) (by omega) (by omega) (by omega) (by omega)
  have hs : (sizeOf 5).run Tryz.prog W = .ok 1 W := Tryz.sizeOf5 W
  rw [e, hel, hs]
  simp only [Result.andThen_ok, sliced, Int.toNat_natCast]
  rw [if_neg (by omega), Option.map_some, addr_add, Nat.add_sub_cancel_left, Nat.mul_one, Nat.zero_add]

theorem wpList_cut (w : World) {ops : Array Oper} {rest : List Oper} {o : Oper} {a : Act} {Q : Exit → Act → World → Prop} (hgd : o.guard = none) (s lo hi mx : Operand)
    (ho : o.op = .slice 25 s (some lo) (some hi) (some mx)) (g x y n N : Nat) (hab : x + n = y) (hb : y ≤ N) (h1 : 1 ≤ n)
    (es : a.eval s = .slice (some ⟨g, 0, none⟩) N N) (el : a.eval lo = .int .i64 (x : Int)) (eh : a.eval hi = .int .i64 (y : Int)) (em : a.eval mx = .int .i64 (y : Int))
    (h : wpList Tryz.prog ops Q rest (a.put o.dst (.slice (some ⟨g, x, none⟩) n n)) w) : wpList Tryz.prog ops Q (o :: rest) a w :=
  wpList_plain hgd fun K hK => by
    have hel : Tryz.prog.elem 25 = 5 := by kernel_rfl
    have hat := run_sliceAt_slice (P := Tryz.prog) w 25 (.slice (some ⟨g, 0, none⟩) N N) (some (.int .i64 (x : Int))) (some (.int .i64 (y : Int))) (some (.int .i64 (y : Int))) (by rw [hel]; exact Tryz.underlying25)
    unfold Oper.wp execOp
    simp only [ho, Option.map_some, es, el, eh, em, hat, run_cut w g x y n N hab hb h1, Sem.run_bind, Sem.run_pure, Result.andThen_ok]
    exact hK _ _ h

end Go.Proofs.YtggdlklkjnbbjaaGreatDoor.C
