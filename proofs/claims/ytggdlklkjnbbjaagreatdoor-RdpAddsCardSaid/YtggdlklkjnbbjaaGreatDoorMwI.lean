/- The document's answers. -/
import Derived.Test.YtggdlklkjnbbjaaGreatDoorMwH
namespace Go.Proofs.YtggdlklkjnbbjaaGreatDoor
open Go.RowKit

set_option maxHeartbeats 400000 in
theorem rprimes_any (w : World) : Calls Tryz.prog 100 #[] w fun e w' => e = .returned (.slice (some ⟨w.heap.size, 0, none⟩) 6 6) ∧ w.alloc (.cells prmCells 3) = w' := by
  go_enter Tryz.func100, Tryz.ntmps100
  go_wp2
  go_ret
  exact ⟨rfl, rfl⟩

theorem prm_at (g : Nat) (W : World) (t : TypeId) (h : Blk W g t prmCells) (k : Nat) (hk : k < 6) : W.cell? ⟨g, k, none⟩ = some (.int .i64 (prm[k]?.getD 0)) := by
  rw [h.cell k, prm_cells, List.getElem?_toArray, List.getElem?_map, List.getElem?_eq_getElem (show k < prm.length from hk)]; rfl

set_option maxHeartbeats 400000 in
theorem right_any (p : Int) (w : World) : Calls Tryz.prog 51 #[.int .i64 p] w fun e w' => e = .returned (.bool (decide (p ∈ prm))) ∧ Below w.heap.size w w' := by
  have HC := Lib.hid (prm_at w.heap.size _ 3 (Blk.new w 3 prmCells))
  have HB := Lib.hid ((Below.refl _ w).alloc (Nat.le_refl _) (.cells prmCells 3))
  go_enter Tryz.func51, Tryz.ntmps51
  go_wp2_with (go_at_call 100; refine (rprimes_any _).mono ?_; rintro e w1 ⟨rfl, hw1⟩)
  rw [hw1] at HC HB
  clear hw1
  go_loop [4] (fun i => ∃ k : Nat, k ≤ 6 ∧ i = .int .i64 k ∧ Hid (∀ j, j < k → prm[j]?.getD 0 ≠ p)) (fun i => 6 - (intOf i).toNat)
  case atStart => exact ⟨0, by omega, rfl, Lib.hid (fun j hj => absurd hj (by omega))⟩
  case round =>
    obtain ⟨k, hk, rfl, HG⟩ := hrel
    by_cases hlt : k < 6
    · have hdec : decide ((k : Int) < 6) = true := by simp; omega
      have hc := HC.out k hlt
      have HM : Hid (prm[k]?.getD 0 ∈ prm) := by
        unfold Hid; rw [List.getElem?_eq_getElem (show k < prm.length from hlt)]; exact List.getElem_mem _
      have HS : Hid (prm[k]?.getD 0 ≠ p → ∀ j, j < k + 1 → prm[j]?.getD 0 ≠ p) := by
        intro h j hj
        rcases Nat.lt_or_ge j k with h1 | h1
        · exact HG.out j h1
        · obtain rfl : j = k := by omega
          exact h
      generalize prm[k]?.getD 0 = x at *
      by_cases hx : x = p
      · subst hx
        have hd : ((x : Int) == x) = true := by simp
        go_wp2
        go_ret
        exact ⟨ret_bool (decide_eq_true HM.out).symm, HB.out⟩
      · have hd : ((x : Int) == p) = false := by simpa using hx
        have HS2 := Lib.hid (HS.out hx)
        clear hx HS
        go_wp2
        go_round
        case rel => exact ⟨k + 1, by omega, by go_num, HS2⟩
        case measure => simp [intOf]; omega
    · obtain rfl : k = 6 := by omega
      have hdec : decide (((6 : Nat) : Int) < 6) = false := by simp
      have HN : Hid (p ∉ prm) := fun h => by
        obtain ⟨j, hj, e⟩ := List.mem_iff_getElem.1 h
        exact HG.out j hj (by rw [List.getElem?_eq_getElem hj]; exact e)
      go_wp2
      go_ret
      exact ⟨ret_bool (decide_eq_false HN.out).symm, HB.out⟩

theorem tmod_two (p n : Int) : (n.tmod p + p) % p = n % p := by
  rw [Int.add_emod_right, Int.tmod_def, Int.sub_mul_emod_self_left]

set_option maxHeartbeats 400000 in
theorem rof_any (p n : Int) (w : World) (hp : 0 < p) (hp2 : p ≤ 1000) (_h1 : -9223372036854775808 ≤ n) (_h2 : n ≤ 9223372036854775807) :
    Calls Tryz.prog 103 #[.int .i64 p, .int .i64 n] w fun e w' => e = .returned (.int .i64 (n % p)) ∧ w = w' := by
  have HE := Lib.hid (tmod_two p n)
  have b1 : -p < n.tmod p ∧ n.tmod p < p := by
    have h2 := Int.emod_nonneg n (show p ≠ 0 by omega)
    have h3 := Int.emod_lt_of_pos n hp
    have h5 := Int.tmod_eq_emod (a := n) (b := p)
    rw [h5]; split <;> omega
  go_enter Tryz.func103, Tryz.ntmps103
  go_wp2
  go_ret
  exact ⟨ret_i64 HE.out, rfl⟩

/-- The first of the numbers below p that is such; 0 if none is. -/
def firstN (p : Int) (t : Nat → Bool) : Nat := ((List.range p.toNat).find? t).getD 0
theorem firstN_yes {p : Int} {t : Nat → Bool} {k : Nat} (hk : (k : Int) < p) (ht : t k = true) (hn : ∀ j, j < k → t j = false) : firstN p t = k := by
  unfold firstN
  rw [List.find?_range_eq_some.2 ⟨ht, List.mem_range.2 (by omega), fun j hj => by rw [hn j hj]; rfl⟩]; rfl
theorem firstN_no {p : Int} {t : Nat → Bool} (h : ∀ j : Nat, (j : Int) < p → t j = false) : firstN p t = 0 := by
  unfold firstN
  rw [List.find?_eq_none.2 fun k hk => by rw [h k (by have := List.mem_range.1 hk; omega)]; simp]; rfl

theorem Tryz.infoInt : (Tryz.prog.info? 3).map (fun i => (i.zero, i.size, i.bytes)) = some (some (.int .i64 0), 1, 8) := by kernel_rfl

/-- append of one number more to a row of the call's own. -/
theorem wpList_one (w : World) {ops : Array Oper} {rest : List Oper} {o : Oper} {a : Act} {Q : Exit → Act → World → Prop} (hgd : o.guard = none) (s x : Operand) (t e : TypeId) (z : Value) (bytes : Nat)
    (ho : o.op = .call { callee := .builtin .append, args := #[s, x], argTypes := #[t, t] }) (ht : Tryz.prog.underlying t = some (.slice e)) (hinfo : (Tryz.prog.info? e).map (fun i => (i.zero, i.size, i.bytes)) = some (some z, 1, bytes)) (hzs : z.cells.size = 1)
    (base : Nat) (v : Value) (xs : List Value) (hs : a.eval s = v) (n : Nat) (hown : w.ownsRow base e 1 v n xs) (ad : Addr) (c : Nat) (u : Value) (hx : a.eval x = .slice (some ad) 1 c) (hu : w.cell? (ad.add 0) = some u) (h1 : u.oneCell' = true)
    (hlen : n ≤ 1000000000) (hby2 : bytes ≤ 100) (hbase : base ≤ w.heap.size)
    (h : ∀ v' w', w'.ownsRow base e 1 v' (n + 1) (xs ++ [u]) → w.grownBy w' v.ownBlock → (v'.ownBlock = v.ownBlock ∨ v'.ownBlock = some w.heap.size) → wpList Tryz.prog ops Q rest (a.put o.dst v') w') : wpList Tryz.prog ops Q (o :: rest) a w :=
  wpList_plain hgd fun K hK => by
    obtain ⟨i, hi, hz0, hz1, hz2⟩ := info_parts hinfo
    have hb : (n + 1) * bytes ≤ 140737488355328 := by
      have := Nat.mul_le_mul (show n + 1 ≤ 1000000001 by omega) hby2
      omega
    obtain ⟨v', w', hrun, r1, r2, _, r3⟩ := run_append_own_at (P := Tryz.prog) w base t o.type e i z 1 bytes ht hi hz0 hz1 hz2 hzs (by omega) v n xs hown ad 1 c [u] (by simp) (by
      intro j y hy
      match j with
      | 0 => simp at hy; subst hy; exact hu
      | j + 1 => simp at hy) (by intro y hy; obtain rfl : y = u := (by simpa using hy); exact h1) (by unfold maxLen; omega) hb hbase
    unfold Oper.wp execOp
    simp only [ho, resolve, invoke, builtin, Sem.run_bind, Sem.run_pure, Result.andThen_ok, List.map_toArray, List.map_cons, List.map_nil, hs, hx, hrun]
    exact hK _ _ (h v' w' r1 r2 r3)

/-- The value v owns a row of its own, whose cells are the numbers l. -/
def OwnI (w : World) (base : Nat) (v : Value) (l : List Int) : Prop := w.ownsRow base 3 1 v l.length (l.map (Value.int .i64))
theorem ownI_nil (w : World) (base : Nat) : OwnI w base (.slice none 0 0) [] := World.ownsRow_nil w base _ 1
theorem OwnI.grown_ {w w' : World} {base : Nat} {v : Value} {l : List Int} (h : OwnI w base v l) (hg : w.grownBy w' none) : OwnI w' base v l :=
  World.ownsRow.kept h hg (by cases hv : v.ownBlock <;> simp)
theorem below_grown {B : Nat} {a w w' : World} {row : Option Nat} (h : Below B a w) (hg : w.grownBy w' row) (hB : B ≤ w.heap.size) (hr : ∀ k, row = some k → B ≤ k) : Below B a w' := h.grown hg hB hr
theorem OwnI.ints {w : World} {base : Nat} {v : Value} {l : List Int} (h : OwnI w base v l) : Ints w.heap.size w v l := by
  rcases h.2 with ⟨rfl, h0⟩ | ⟨g, cap, cur, rfl, _, hg, hn, _, hsz, ht⟩
  · have : l = [] := List.eq_nil_of_length_eq_zero h0
    subst this
    exact Ints.nil_ _ _ _ _
  · refine ⟨_, cap, rfl, hn, fun hp => ⟨g, 0, rfl, ?_, fun j hj => ?_⟩⟩
    · exact (Array.getElem?_eq_some_iff.1 hg).1
    · rw [Nat.zero_add, cell_of_row w g j cur _ (0, 0) hg]
      have e : (l.map (Value.int .i64))[j]? = some (Value.int .i64 (l[j]?.getD 0)) := by
        rw [List.getElem?_map, List.getElem?_eq_getElem hj]; rfl
      rw [← ht, List.getElem?_take_of_lt (by omega)] at e
      rw [Array.getElem?_toList] at e
      exact e

/-- What the document's Meet tells. -/
def rmeetN (b : Int) (zs : List Int) : Int := if b ∈ zs then ((ahead b zs : Nat) : Int) else -1

end Go.Proofs.YtggdlklkjnbbjaaGreatDoor
