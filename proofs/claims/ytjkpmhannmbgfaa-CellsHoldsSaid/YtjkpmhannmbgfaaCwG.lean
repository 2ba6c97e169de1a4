/- Cut: bytes filled up, and cut. -/
import Derived.Test.YtjkpmhannmbgfaaCwF
import Derived.ArgAppend
import Derived.Laws.IdiomCopy
namespace Go.Proofs.Ytjkpmhannmbgfaa
open Go.RowKit Go.Shelf

/-- Bytes laid upon a row from a place on. -/
def lay : List UInt8 → Nat → List UInt8 → List UInt8
  | z, _, [] => z
  | z, o, y :: ys => lay (z.set o y) (o + 1) ys
theorem Row.setCells {g : Nat} : ∀ (ys : List UInt8) (o : Nat) (w : World) (z : List UInt8), Row w g z → Row (w.setCells g o (ys.map enc)) g (lay z o ys)
  | [], _, _, _, h => h
  | y :: ys, o, w, z, h => by
    rw [List.map_cons, World.setCells, lay]
    exact Row.setCells ys (o + 1) _ _ (h.set_ o y)
theorem lay_tab (n : Nat) : ∀ (ys : List UInt8) (o : Nat) (f : Nat → UInt8), lay (tab n f) o ys = tab n (fun j => if o ≤ j ∧ j < o + ys.length then at_ ys (j - o) else f j)
  | [], o, f => by
    rw [lay]
    exact tab_ext fun j _ => by rw [if_neg (by rw [List.length_nil]; omega)]
  | y :: ys, o, f => by
    rw [lay, tab_set, lay_tab n ys (o + 1)]
    refine tab_ext fun j _ => ?_
    by_cases h1 : j = o
    · subst h1
      rw [if_neg (by omega), if_pos rfl, if_pos (by simp), Nat.sub_self]; rfl
    · rw [if_neg h1]
      by_cases h2 : o + 1 ≤ j ∧ j < o + 1 + ys.length
      · rw [if_pos h2, if_pos (by rw [List.length_cons]; omega), show j - o = (j - (o + 1)) + 1 by omega]
        simp [at_]
      · rw [if_neg h2, if_neg (by rw [List.length_cons]; omega)]
theorem lay_noughts (n : Nat) (l : List UInt8) (_h : l.length ≤ n) : lay (List.replicate n 0) 0 l = tab n (at_ l) := by
  rw [show List.replicate n (0 : UInt8) = tab n (fun _ => 0) by unfold tab; rw [List.map_const', List.length_range], lay_tab]
  refine tab_ext fun j _ => ?_
  by_cases h : j < l.length
  · rw [if_pos (by omega), Nat.sub_zero]
  · rw [if_neg (by omega)]
    unfold at_
    rw [List.getElem?_eq_none (by omega)]; rfl

theorem below_setCells {g B : Nat} (hg : B ≤ g) : ∀ (vs : List Value) (o : Nat) (w : World), Below B w (w.setCells g o vs)
  | [], _, _ => Below.refl _ _
  | v :: vs, o, w => by
    rw [World.setCells]
    exact ((Below.refl B w).setCell (p := ⟨g, o, none⟩) hg v).trans (below_setCells hg vs (o + 1) _)

/-- append into a row that has room. -/
theorem run_room {P : Program} (w : World) (ty : TypeId) (i : TypeInfo) (ht : P.underlying 25 = some (.slice 5)) (hi : P.info? 5 = some i) (hsize : i.size = 1)
    (g N : Nat) (l : List UInt8) (sv : Value) (hR : Row w g (List.replicate N 0)) (hb : Bytes g w sv l) (hN : l.length ≤ N) :
    ∃ w', (Builtin.append_ #[25, 25] ty #[.slice (some ⟨g, 0, none⟩) 0 N, sv]).run P w = .ok (.slice (some ⟨g, 0, none⟩) l.length N) w' ∧ Row w' g (tab N (at_ l)) ∧ Below g w w' := by
  obtain ⟨A, cap, rfl, _, hA⟩ := hb
  rcases A with _ | ad
  · have hn : l = [] := by
      rcases Nat.eq_zero_or_pos l.length with h0 | h0
      · exact List.eq_nil_of_length_eq_zero h0
      · obtain ⟨b, off, h, _⟩ := hA h0
        cases h
    subst hn
    refine ⟨w, ?_, by rw [← lay_noughts N [] (by simp)]; exact hR, Below.refl _ _⟩
    simp [Builtin.append_, run_underlying ht, sizeOf, typeInfo, hi, Builtin.lenOf, Builtin.firstCells, storeCells]
  · have hcells : ∀ j u, (l.map enc)[j]? = some u → w.cell? (ad.add j) = some u := by
      intro j u hu
      have hj : j < l.length := by simpa using (List.getElem?_eq_some_iff.1 hu).1
      obtain ⟨b, off, h, _, hc⟩ := hA (by omega)
      injection h with h
      subst h
      rw [addr_add, hc j hj]
      rw [List.getElem?_map, List.getElem?_eq_getElem hj] at hu
      rw [List.getElem?_eq_getElem hj]
      exact hu
    have hrun := run_append_room_cells (P := P) w 25 ty 5 i ht hi g 0 0 N ad l.length cap (l.map enc) (by simp [hsize]) hcells (by intro u hu; obtain ⟨c, _, rfl⟩ := List.mem_map.1 hu; rfl) (by omega)
      (fun j hj => by rw [List.length_map] at hj; rw [Nat.zero_mul, Nat.zero_add, hR.cell (k := j) (by rw [List.length_replicate]; omega)]; rfl) (fun j _ => hR.frozen _)
    rw [Nat.zero_add, Nat.zero_mul] at hrun
    refine ⟨_, hrun, ?_, below_setCells (Nat.le_refl _) _ _ _⟩
    rw [← lay_noughts N l hN]
    exact Row.setCells l 0 w _ hR

theorem wpList_room {P : Program} (w : World) {ops : Array Oper} {rest : List Oper} {o : Oper} {a : Act} {Q : Exit → Act → World → Prop} (hgd : o.guard = none) (s x : Operand)
    (ho : o.op = .call { callee := .builtin .append, args := #[s, x], argTypes := #[25, 25] }) (i : TypeInfo) (ht : P.underlying 25 = some (.slice 5)) (hi : P.info? 5 = some i) (hsize : i.size = 1)
    (g N : Nat) (l : List UInt8) (sv : Value) (hs : a.eval s = .slice (some ⟨g, 0, none⟩) 0 N) (hx : a.eval x = sv) (hR : Row w g (List.replicate N 0)) (hb : Bytes g w sv l) (hN : l.length ≤ N)
    (h : ∀ w', Row w' g (tab N (at_ l)) → Below g w w' → wpList P ops Q rest (a.put o.dst (.slice (some ⟨g, 0, none⟩) l.length N)) w') : wpList P ops Q (o :: rest) a w :=
  wpList_plain hgd fun K hK => by
    obtain ⟨w', hrun, h2, h3⟩ := run_room (P := P) w o.type i ht hi hsize g N l sv hR hb hN
    unfold Oper.wp execOp
    simp only [ho, resolve, invoke, builtin, Sem.run_bind, Sem.run_pure, Result.andThen_ok, List.map_toArray, List.map_cons, List.map_nil, hs, hx, hrun]
    exact hK _ _ (h w' h2 h3)

theorem wrap64_nat (x : Nat) (h : x ≤ 9223372036854775807) : wrap64 (x : Int) = (x : Int) := by unfold wrap64; omega
/-- How many cells bytes fill. -/
def cellsFor (m n : Nat) : Nat := (m + n - 1) / n
theorem cellsFor_room (m n : Nat) (hn : 0 < n) : m ≤ cellsFor m n * n := by
  unfold cellsFor
  have h1 := Nat.div_add_mod (m + n - 1) n
  have h2 := Nat.mod_lt (m + n - 1) hn
  rw [Nat.mul_comm n] at h1
  omega
theorem cellsFor_le (m n : Nat) (hn : 0 < n) : cellsFor m n * n ≤ m + n := by
  unfold cellsFor
  have h1 := Nat.div_add_mod (m + n - 1) n
  rw [Nat.mul_comm n] at h1
  omega

set_option maxHeartbeats 1000000 in
theorem filled_any (v : Value) (l : List UInt8) (n : Nat) (h1 : 1 ≤ n) (h64 : n ≤ 64) (hlen : l.length ≤ 1048576) (w : World) (hb : Bytes w.heap.size w v l) :
    Calls Try.prog 44 #[v, .int .i64 (n : Int)] w fun e w' => ∃ g, e = .returned (.slice (some ⟨g, 0, none⟩) (cellsFor l.length n * n) (cellsFor l.length n * n)) ∧ w.heap.size ≤ g ∧ Row w' g (tab (cellsFor l.length n * n) (at_ l)) ∧ Below w.heap.size w w' := by
  have hroom := cellsFor_room l.length n h1
  have hle := cellsFor_le l.length n h1
  have hq : Int.tdiv ((l.length : Int) + (n : Int) - 1) (n : Int) = ((cellsFor l.length n : Nat) : Int) := by
    rw [show (l.length : Int) + (n : Int) - 1 = ((l.length + n - 1 : Nat) : Int) by omega]
    exact (Int.ofNat_tdiv _ _).symm
  have hmul : ((cellsFor l.length n : Nat) : Int) * (n : Int) = ((cellsFor l.length n * n : Nat) : Int) := by push_cast; rfl
  have hn0 : ¬ (n : Int) = 0 := by omega
  have hqN : cellsFor l.length n ≤ cellsFor l.length n * n := Nat.le_mul_of_pos_right _ h1
  have wq := wrap64_nat (cellsFor l.length n) (by omega)
  have wN := wrap64_nat (cellsFor l.length n * n) (by omega)
  generalize cellsFor l.length n = q at *
  generalize hN : q * n = N at *
  clear hN
  obtain ⟨i0, hi, hz0, hz1, hz2⟩ := info_parts Try.infoByte
  have hmk := fun W : World => run_make (P := Try.prog) W 25 5 i0 (.int .u8 0) Try.underlying25 hi hz0 .i64 .i64 0 (N : Int) (by omega) (by omega) (by rw [hz2]; omega) (by omega)
  simp only [hz1, Nat.mul_one, Int.toNat_natCast, Int.toNat_zero] at hmk
  have hR := Lib.hid (Row.made w N)
  have hb1 := Lib.hid (hb.below ((Below.refl _ w).alloc (Nat.le_refl _) (.cells (madeCells #[.int .u8 0] N) 5)))
  obtain ⟨A, cap, rfl, _, _⟩ := hb
  go_enter Try.func44, Try.ntmps44
  go_wp2_with (at_builtin; refine wpList_room _ rfl _ _ rfl i0 Try.underlying25 hi hz1 w.heap.size N l _ rfl rfl hR.out hb1.out hroom ?_; intro w2 hR2 hB2)
  go_ret
  exact ⟨_, rfl, Nat.le_refl _, hR2, ((Below.refl _ w).alloc (Nat.le_refl _) _).trans hB2⟩

/-- The cells of a row of cells, as far as k of them are cut off. -/
def cutAt (g n q k : Nat) : Array Value := ((List.range q).map fun j => if j < k then Value.slice (some ⟨g, j * n, none⟩) n n else Value.slice none 0 0).toArray
theorem cutAt_size (g n q k : Nat) : (cutAt g n q k).size = q := by simp [cutAt]
theorem cutAt_get (g n q k j : Nat) (hj : j < q) : (cutAt g n q k)[j]? = some (if j < k then Value.slice (some ⟨g, j * n, none⟩) n n else Value.slice none 0 0) := by
  simp [cutAt, hj]
theorem cutAt_set (g n q k : Nat) (_hk : k < q) : (cutAt g n q k).setIfInBounds k (.slice (some ⟨g, k * n, none⟩) n n) = cutAt g n q (k + 1) := by
  apply Array.ext_getElem?
  intro i
  rw [Array.getElem?_setIfInBounds, cutAt_size]
  by_cases hi : i < q
  · rw [cutAt_get _ _ _ _ _ hi, cutAt_get _ _ _ _ _ hi]
    by_cases h : k = i
    · subst h; simp [hi]
    · rw [if_neg h]
      by_cases h2 : i < k
      · simp [h2, show i < k + 1 by omega]
      · simp [h2, show ¬ i < k + 1 by omega]
  · have h1 : (cutAt g n q k)[i]? = none := Array.getElem?_eq_none (by rw [cutAt_size]; omega)
    have h2 : (cutAt g n q (k + 1))[i]? = none := Array.getElem?_eq_none (by rw [cutAt_size]; omega)
    rw [h1, h2]
    split
    · omega
    · rfl
theorem cutAt_none (g n q : Nat) : cutAt g n q 0 = madeCells #[.slice none 0 0] q := by
  apply Array.toList_inj.1
  rw [toList_madeCells_one]
  simp only [cutAt, Nat.not_lt_zero, if_false]
  rw [List.map_const', List.length_range]
theorem Try.infoSlice : (Try.prog.info? 25).map (fun i => (i.zero, i.size, i.bytes)) = some (some (.slice none 0 0), 1, 24) := by kernel_rfl

/-- A cell of a row of cells, cut off behind and ahead. -/
theorem run_cut (W : World) (g a b n N : Nat) (hab : a + n = b) (hb : b ≤ N) (h1 : 1 ≤ n) : (Instr.slice 25 (.slice (some ⟨g, 0, none⟩) N N) (some (.int .i64 (a : Int))) (some (.int .i64 (b : Int))) (some (.int .i64 (b : Int)))).run Try.prog W = .ok (.slice (some ⟨g, a, none⟩) n n) W := by
  subst hab
  have hel : Try.prog.elem 25 = 5 := by kernel_rfl
  have e := run_slice_lhm (P := Try.prog) W 25 (some ⟨g, 0, none⟩) N N (by rw [hel]; exact Try.underlying25) .i64 .i64 .i64 (a : Int) ((a + n : Nat) : Int) ((a + n : Nat) : Int) (by omega) (by omega) (by omega) (by omega)
  have hs : (sizeOf 5).run Try.prog W = .ok 1 W := Try.sizeOf5 W
  rw [e, hel, hs]
  simp only [Result.andThen_ok, sliced, Int.toNat_natCast]
  rw [if_neg (by omega), Option.map_some, addr_add, Nat.add_sub_cancel_left, Nat.mul_one, Nat.zero_add]

theorem wpList_cut (w : World) {ops : Array Oper} {rest : List Oper} {o : Oper} {a : Act} {Q : Exit → Act → World → Prop} (hgd : o.guard = none) (s lo hi mx : Operand)
    (ho : o.op = .slice 25 s (some lo) (some hi) (some mx)) (g x y n N : Nat) (hab : x + n = y) (hb : y ≤ N) (h1 : 1 ≤ n)
    (es : a.eval s = .slice (some ⟨g, 0, none⟩) N N) (el : a.eval lo = .int .i64 (x : Int)) (eh : a.eval hi = .int .i64 (y : Int)) (em : a.eval mx = .int .i64 (y : Int))
    (h : wpList Try.prog ops Q rest (a.put o.dst (.slice (some ⟨g, x, none⟩) n n)) w) : wpList Try.prog ops Q (o :: rest) a w :=
  wpList_plain hgd fun K hK => by
    have hel : Try.prog.elem 25 = 5 := by kernel_rfl
    have hat := run_sliceAt_slice (P := Try.prog) w 25 (.slice (some ⟨g, 0, none⟩) N N) (some (.int .i64 (x : Int))) (some (.int .i64 (y : Int))) (some (.int .i64 (y : Int))) (by rw [hel]; exact Try.underlying25)
    unfold Oper.wp execOp
    simp only [ho, Option.map_some, es, el, eh, em, hat, run_cut w g x y n N hab hb h1, Sem.run_bind, Sem.run_pure, Result.andThen_ok]
    exact hK _ _ h

set_option maxHeartbeats 400000 in
theorem cutUp_any (g n q N : Nat) (z : List UInt8) (h1 : 1 ≤ n) (h64 : n ≤ 64) (hN : q * n = N) (hq : q ≤ 2000000) (w : World) (hR : Row w g z) :
    Calls Try.prog 43 #[.slice (some ⟨g, 0, none⟩) N N, .int .i64 (n : Int)] w fun e w' => ∃ g2, e = .returned (.slice (some ⟨g2, 0, none⟩) q q) ∧ w.heap.size ≤ g2 ∧ Blk w' g2 25 (cutAt g n q q) ∧ Row w' g z ∧ Below w.heap.size w w' := by
  have hNle : N ≤ 128000000 := by
    have := Nat.mul_le_mul hq h64
    omega
  have hdiv : Int.tdiv (N : Int) (n : Int) = (q : Int) := by
    rw [← Int.ofNat_tdiv, ← hN, Nat.mul_div_cancel _ h1]
  have hn0 : ¬ (n : Int) = 0 := by omega
  have wq := wrap64_nat q (by omega)
  obtain ⟨i0, hi, hz0, hz1, hz2⟩ := info_parts Try.infoSlice
  have hmk := fun W : World => run_make (P := Try.prog) W 22 25 i0 (.slice none 0 0) Try.underlying22 hi hz0 .i64 .i64 (q : Int) (q : Int) (by omega) (by omega) (by rw [hz2]; omega) (by omega)
  simp only [hz1, Nat.mul_one, Int.toNat_natCast] at hmk
  have hgw := hR.lt
  go_enter Try.func43, Try.ntmps43
  go_wp2
  go_loopw [14] (fun i wr => ∃ k : Nat, k ≤ q ∧ i = .int .i64 k ∧ Hid (Blk wr w.heap.size 25 (cutAt g n q k)) ∧ Hid (Row wr g z) ∧ Below w.heap.size w wr) (fun i _ => q - (intOf i).toNat)
  case atStart =>
    refine ⟨0, Nat.zero_le _, rfl, Lib.hid ?_, Lib.hid (hR.alloc _), (Below.refl _ w).alloc (Nat.le_refl _) _⟩
    rw [cutAt_none]
    exact Blk.new w _ _
  case round =>
    obtain ⟨k, hk, rfl, B1, R, hB⟩ := hrel
    by_cases hlt : k < q
    · have hdec : decide ((k : Int) < (q : Int)) = true := by simp; omega
      have hc1 : wr.cell? ⟨w.heap.size, k, none⟩ = some (.slice none 0 0) := by rw [B1.out.cell, cutAt_get _ _ _ _ _ hlt]; simp
      have hf1 := B1.out.frozen k
      have hle : (k + 1) * n ≤ N := by rw [← hN]; exact Nat.mul_le_mul_right n hlt
      have hab : k * n + n = (k + 1) * n := (Nat.succ_mul k n).symm
      have E1 : Hid (wrap64 ((k : Int) * (n : Int)) = ((k * n : Nat) : Int)) := by
        unfold Hid
        rw [show (k : Int) * (n : Int) = ((k * n : Nat) : Int) by push_cast; rfl]
        exact wrap64_nat (k * n) (by omega)
      have E2 : Hid (wrap64 (((k : Int) + 1) * (n : Int)) = (((k + 1) * n : Nat) : Int)) := by
        unfold Hid
        rw [show ((k : Int) + 1) * (n : Int) = (((k + 1) * n : Nat) : Int) by push_cast; rfl]
        exact wrap64_nat ((k + 1) * n) (by omega)
      have HS := Lib.hid (cutAt_set g n q k hlt)
      have HAB := Lib.hid hab
      have HLE := Lib.hid hle
      clear hab hle
      generalize k * n = a at *
      generalize (k + 1) * n = b at *
      go_wp2_with (refine wpList_cut _ rfl _ _ _ _ rfl g a b n N HAB.out HLE.out h1 rfl (congrArg (Value.int .i64) E1.out) (congrArg (Value.int .i64) E2.out) (congrArg (Value.int .i64) E2.out) ?_)
      go_roundw
      case rel =>
        refine ⟨k + 1, by omega, by go_num, Lib.hid ?_, Lib.hid (R.out.far (by simp; omega) _), hB.setCell (Nat.le_refl _) _⟩
        have := B1.out.set_ k (.slice (some ⟨g, a, none⟩) n n)
        rwa [HS.out] at this
      case measure => simp [intOf]; omega
    · obtain rfl : k = q := by omega
      have e1 : decide ((k : Int) < (k : Int)) = false := by simp
      go_wp2
      go_ret
      exact ⟨_, rfl, Nat.le_refl _, B1.out, R.out, hB⟩
end Go.Proofs.Ytjkpmhannmbgfaa
