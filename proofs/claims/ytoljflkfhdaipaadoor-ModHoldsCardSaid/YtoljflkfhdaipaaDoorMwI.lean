/- The document's answers. -/
import Derived.Test.YtoljflkfhdaipaaDoorMwH
namespace Go.Proofs.YtoljflkfhdaipaaDoor
open Go.RowKit

set_option maxHeartbeats 400000 in
theorem rprimes_any (w : World) : Calls Tryd.prog 9 #[] w fun e w' => e = .returned (.slice (some ⟨w.heap.size, 0, none⟩) 6 6) ∧ w.alloc (.cells prmCells 3) = w' := by
  go_enter Tryd.func9, Tryd.ntmps9
  go_wp2
  go_ret
  exact ⟨rfl, rfl⟩

theorem prm_at (g : Nat) (W : World) (t : TypeId) (h : Blk W g t prmCells) (k : Nat) (hk : k < 6) : W.cell? ⟨g, k, none⟩ = some (.int .i64 (prm[k]?.getD 0)) := by
  rw [h.cell k, prm_cells, List.getElem?_toArray, List.getElem?_map, List.getElem?_eq_getElem (show k < prm.length from hk)]; rfl

set_option maxHeartbeats 400000 in
theorem right_any (p : Int) (w : World) : Calls Tryd.prog 10 #[.int .i64 p] w fun e w' => e = .returned (.bool (decide (p ∈ prm))) ∧ Below w.heap.size w w' := by
  have HC := Lib.hid (prm_at w.heap.size _ 3 (Blk.new w 3 prmCells))
  have HB := Lib.hid ((Below.refl _ w).alloc (Nat.le_refl _) (.cells prmCells 3))
  go_enter Tryd.func10, Tryd.ntmps10
  go_wp2_with (go_at_call 9; refine (rprimes_any _).mono ?_; rintro e w1 ⟨rfl, hw1⟩)
  rw [hw1] at HC HB
  clear hw1
  go_loop [4] (fun i => ∃ k : Nat, k ≤ 6 ∧ i = .int .i64 k ∧ Hid (∀ j, j < k → prm[j]?.getD 0 ≠ p)) (fun i => 6 - (intOf i).toNat)
  case atStart => exact ⟨0, by omega, rfl, Lib.hid (fun j hj => absurd hj (by omega))⟩
  case round =>
    obtain ⟨k, hk, rfl, HG⟩ := hrel
    by_cases hlt : k < 6
    · have hdec : decide ((k : Int) < 6) = true := by simp; omega
      have hc := HC.out k hlt
      have HM : Hid (prm[k]?.getD 0 ∈ prm) := by
        unfold Hid; rw [List.getElem?_eq_getElem (show k < prm.length from hlt)]; exact List.getElem_mem _
      have HS : Hid (prm[k]?.getD 0 ≠ p → ∀ j, j < k + 1 → prm[j]?.getD 0 ≠ p) := by
        intro h j hj
        rcases Nat.lt_or_ge j k with h1 | h1
        · exact HG.out j h1
        · obtain rfl : j = k := by omega
          exact h
      generalize prm[k]?.getD 0 = x at *
      by_cases hx : x = p
      · subst hx
        have hd : ((x : Int) == x) = true := by simp
        go_wp2
        go_ret
        exact ⟨ret_bool (decide_eq_true HM.out).symm, HB.out⟩
      · have hd : ((x : Int) == p) = false := by simpa using hx
        have HS2 := Lib.hid (HS.out hx)
        clear hx HS
        go_wp2
        go_round
        case rel => exact ⟨k + 1, by omega, by go_num, HS2⟩
        case measure => simp [intOf]; omega
    · obtain rfl : k = 6 := by omega
      have hdec : decide (((6 : Nat) : Int) < 6) = false := by simp
      have HN : Hid (p ∉ prm) := fun h => by
        obtain ⟨j, hj, e⟩ := List.mem_iff_getElem.1 h
        exact HG.out j hj (by rw [List.getElem?_eq_getElem hj]; exact e)
      go_wp2
      go_ret
      exact ⟨ret_bool (decide_eq_false HN.out).symm, HB.out⟩

set_option maxHeartbeats 400000 in
theorem at_any (p n : Int) (w : World) : Calls Tryd.prog 15 #[.int .i64 p, .int .i64 n] w fun e w' => e = .returned (.bool (decide (0 ≤ n ∧ n < p))) ∧ w = w' := by
  by_cases h1 : 0 ≤ n
  · have d1 : decide (0 ≤ n) = true := by simpa using h1
    go_enter Tryd.func15, Tryd.ntmps15
    go_wp2
    go_ret
    exact ⟨ret_bool (by rw [decide_eq_decide]; omega), rfl⟩
  · have d1 : decide (0 ≤ n) = false := by simpa using h1
    go_enter Tryd.func15, Tryd.ntmps15
    go_wp2
    go_ret
    exact ⟨rfl, rfl⟩

theorem tmod_two (p n : Int) : (n.tmod p + p) % p = n % p := by
  rw [Int.add_emod_right, Int.tmod_def, Int.sub_mul_emod_self_left]

set_option maxHeartbeats 400000 in
theorem rof_any (p n : Int) (w : World) (hp : 0 < p) (hp2 : p ≤ 1000) (_h1 : -9223372036854775808 ≤ n) (_h2 : n ≤ 9223372036854775807) :
    Calls Tryd.prog 14 #[.int .i64 p, .int .i64 n] w fun e w' => e = .returned (.int .i64 (n % p)) ∧ w = w' := by
  have HE := Lib.hid (tmod_two p n)
  have b1 : -p < n.tmod p ∧ n.tmod p < p := by
    have h2 := Int.emod_nonneg n (show p ≠ 0 by omega)
    have h3 := Int.emod_lt_of_pos n hp
    have h5 := Int.tmod_eq_emod (a := n) (b := p)
    rw [h5]; split <;> omega
  go_enter Tryd.func14, Tryd.ntmps14
  go_wp2
  go_ret
  exact ⟨ret_i64 HE.out, rfl⟩

/-- The first of the numbers below p that is such; 0 if none is. -/
def firstN (p : Int) (t : Nat → Bool) : Nat := ((List.range p.toNat).find? t).getD 0
theorem firstN_yes {p : Int} {t : Nat → Bool} {k : Nat} (hk : (k : Int) < p) (ht : t k = true) (hn : ∀ j, j < k → t j = false) : firstN p t = k := by
  unfold firstN
  rw [List.find?_range_eq_some.2 ⟨ht, List.mem_range.2 (by omega), fun j hj => by rw [hn j hj]; rfl⟩]; rfl
theorem firstN_no {p : Int} {t : Nat → Bool} (h : ∀ j : Nat, (j : Int) < p → t j = false) : firstN p t = 0 := by
  unfold firstN
  rw [List.find?_eq_none.2 fun k hk => by rw [h k (by have := List.mem_range.1 hk; omega)]; simp]; rfl

set_option maxHeartbeats 400000 in
theorem rinverse_any (p a : Int) (w : World) (hp : 0 < p) (hp2 : p ≤ 17) (a0 : 0 ≤ a) (a1 : a < p) :
    Calls Tryd.prog 21 #[.int .i64 p, .int .i64 a] w fun e w' => e = .returned (.int .i64 (firstN p (fun b => a * (b : Int) % p == 1) : Nat)) ∧ w = w' := by
  go_enter Tryd.func21, Tryd.ntmps21
  go_wp2
  go_loop [5] (fun i => ∃ k : Nat, (k : Int) ≤ p ∧ i = .int .i64 k ∧ Hid (∀ j : Nat, j < k → (a * (j : Int) % p == 1) = false)) (fun i => p.toNat - (intOf i).toNat)
  case atStart => exact ⟨0, by omega, rfl, Lib.hid (fun j hj => absurd hj (by omega))⟩
  case round =>
    obtain ⟨k, hk, rfl, HG⟩ := hrel
    by_cases hlt : (k : Int) < p
    · have hdec : decide ((k : Int) < p) = true := by simpa using hlt
      have hm1 := Int.mul_nonneg a0 (show 0 ≤ (k : Int) by omega)
      have hm2 : a * (k : Int) ≤ 1000 := by have := Int.mul_le_mul (show a ≤ 17 by omega) (show (k : Int) ≤ 17 by omega) (by omega) (by omega); omega
      have hwz : ∃ z, Hid (a * (k : Int) = z) ∧ wrap64 (a * (k : Int)) = z ∧ 0 ≤ z ∧ z ≤ 1000 := ⟨a * (k : Int), Lib.hid rfl, by unfold wrap64; omega, hm1, hm2⟩
      obtain ⟨z, HZ, hz2, hz3, hz4⟩ := hwz
      clear hm1 hm2
      have HY : Hid ((z % p == 1) = true → firstN p (fun b => a * (b : Int) % p == 1) = k) := fun h => firstN_yes hlt (by rw [HZ.out]; exact h) HG.out
      have HN : Hid ((z % p == 1) = false → ∀ j : Nat, j < k + 1 → (a * (j : Int) % p == 1) = false) := by
        intro h j hj
        rcases Nat.lt_or_ge j k with h1 | h1
        · exact HG.out j h1
        · obtain rfl : j = k := by omega
          rw [HZ.out]; exact h
      cases ht : (z % p == 1) with
      | true =>
        have HY2 := Lib.hid (HY.out ht)
        clear HY HN
        go_wp2
        go_ret
        exact ⟨ret_i64 (by rw [HY2.out]), rfl⟩
      | false =>
        have HN2 := Lib.hid (HN.out ht)
        clear HY HN
        go_wp2
        go_round
        case rel => exact ⟨k + 1, by omega, by go_num, HN2⟩
        case measure => simp [intOf]; omega
    · have hdec : decide ((k : Int) < p) = false := decide_eq_false hlt
      have HF : Hid (firstN p (fun b => a * (b : Int) % p == 1) = 0) := firstN_no fun j hj => HG.out j (by omega)
      clear hlt
      go_wp2
      go_ret
      exact ⟨ret_i64 (by rw [HF.out]; rfl), rfl⟩

set_option maxHeartbeats 400000 in
theorem rhalf_any (p a : Int) (w : World) (hp : 0 < p) (hp2 : p ≤ 17)  :
    Calls Tryd.prog 22 #[.int .i64 p, .int .i64 a] w fun e w' => e = .returned (.int .i64 (firstN p (fun b => ((b : Int) + b) % p == a) : Nat)) ∧ w = w' := by
  go_enter Tryd.func22, Tryd.ntmps22
  go_wp2
  go_loop [5] (fun i => ∃ k : Nat, (k : Int) ≤ p ∧ i = .int .i64 k ∧ Hid (∀ j : Nat, j < k → (((j : Int) + j) % p == a) = false)) (fun i => p.toNat - (intOf i).toNat)
  case atStart => exact ⟨0, by omega, rfl, Lib.hid (fun j hj => absurd hj (by omega))⟩
  case round =>
    obtain ⟨k, hk, rfl, HG⟩ := hrel
    by_cases hlt : (k : Int) < p
    · have hdec : decide ((k : Int) < p) = true := by simpa using hlt
      have HY : Hid ((((k : Int) + k) % p == a) = true → firstN p (fun b => ((b : Int) + b) % p == a) = k) := fun h => firstN_yes hlt (by exact h) HG.out
      have HN : Hid ((((k : Int) + k) % p == a) = false → ∀ j : Nat, j < k + 1 → (((j : Int) + j) % p == a) = false) := by
        intro h j hj
        rcases Nat.lt_or_ge j k with h1 | h1
        · exact HG.out j h1
        · obtain rfl : j = k := by omega
          exact h
      cases ht : (((k : Int) + k) % p == a) with
      | true =>
        have HY2 := Lib.hid (HY.out ht)
        clear HY HN
        go_wp2
        go_ret
        exact ⟨ret_i64 (by rw [HY2.out]), rfl⟩
      | false =>
        have HN2 := Lib.hid (HN.out ht)
        clear HY HN
        go_wp2
        go_round
        case rel => exact ⟨k + 1, by omega, by go_num, HN2⟩
        case measure => simp [intOf]; omega
    · have hdec : decide ((k : Int) < p) = false := decide_eq_false hlt
      have HF : Hid (firstN p (fun b => ((b : Int) + b) % p == a) = 0) := firstN_no fun j hj => HG.out j (by omega)
      clear hlt
      go_wp2
      go_ret
      exact ⟨ret_i64 (by rw [HF.out]; rfl), rfl⟩

theorem Tryd.infoInt : (Tryd.prog.info? 3).map (fun i => (i.zero, i.size, i.bytes)) = some (some (.int .i64 0), 1, 8) := by kernel_rfl

/-- append of one number more to a row of the call's own. -/
theorem wpList_one (w : World) {ops : Array Oper} {rest : List Oper} {o : Oper} {a : Act} {Q : Exit → Act → World → Prop} (hgd : o.guard = none) (s x : Operand) (t e : TypeId) (z : Value) (bytes : Nat)
    (ho : o.op = .call { callee := .builtin .append, args := #[s, x], argTypes := #[t, t] }) (ht : Tryd.prog.underlying t = some (.slice e)) (hinfo : (Tryd.prog.info? e).map (fun i => (i.zero, i.size, i.bytes)) = some (some z, 1, bytes)) (hzs : z.cells.size = 1)
    (base : Nat) (v : Value) (xs : List Value) (hs : a.eval s = v) (n : Nat) (hown : w.ownsRow base e 1 v n xs) (ad : Addr) (c : Nat) (u : Value) (hx : a.eval x = .slice (some ad) 1 c) (hu : w.cell? (ad.add 0) = some u) (h1 : u.oneCell' = true)
    (hlen : n ≤ 1000000000) (hby2 : bytes ≤ 100) (hbase : base ≤ w.heap.size)
    (h : ∀ v' w', w'.ownsRow base e 1 v' (n + 1) (xs ++ [u]) → w.grownBy w' v.ownBlock → (v'.ownBlock = v.ownBlock ∨ v'.ownBlock = some w.heap.size) → wpList Tryd.prog ops Q rest (a.put o.dst v') w') : wpList Tryd.prog ops Q (o :: rest) a w :=
  wpList_plain hgd fun K hK => by
    obtain ⟨i, hi, hz0, hz1, hz2⟩ := info_parts hinfo
    have hb : (n + 1) * bytes ≤ 140737488355328 := by
      have := Nat.mul_le_mul (show n + 1 ≤ 1000000001 by omega) hby2
      omega
    obtain ⟨v', w', hrun, r1, r2, _, r3⟩ := run_append_own_at (P := Tryd.prog) w base t o.type e i z 1 bytes ht hi hz0 hz1 hz2 hzs (by omega) v n xs hown ad 1 c [u] (by simp) (by
      intro j y hy
      match j with
      | 0 => simp at hy; subst hy; exact hu
      | j + 1 => simp at hy) (by intro y hy; obtain rfl : y = u := (by simpa using hy); exact h1) (by unfold maxLen; omega) hb hbase
    unfold Oper.wp execOp
    simp only [ho, resolve, invoke, builtin, Sem.run_bind, Sem.run_pure, Result.andThen_ok, List.map_toArray, List.map_cons, List.map_nil, hs, hx, hrun]
    exact hK _ _ (h v' w' r1 r2 r3)

/-- The value v owns a row of its own, whose cells are the numbers l. -/
def OwnI (w : World) (base : Nat) (v : Value) (l : List Int) : Prop := w.ownsRow base 3 1 v l.length (l.map (Value.int .i64))
theorem ownI_nil (w : World) (base : Nat) : OwnI w base (.slice none 0 0) [] := World.ownsRow_nil w base _ 1
theorem OwnI.grown_ {w w' : World} {base : Nat} {v : Value} {l : List Int} (h : OwnI w base v l) (hg : w.grownBy w' none) : OwnI w' base v l :=
  World.ownsRow.kept h hg (by cases hv : v.ownBlock <;> simp)
theorem below_grown {B : Nat} {a w w' : World} {row : Option Nat} (h : Below B a w) (hg : w.grownBy w' row) (hB : B ≤ w.heap.size) (hr : ∀ k, row = some k → B ≤ k) : Below B a w' := h.grown hg hB hr
theorem OwnI.ints {w : World} {base : Nat} {v : Value} {l : List Int} (h : OwnI w base v l) : Ints w.heap.size w v l := by
  rcases h.2 with ⟨rfl, h0⟩ | ⟨g, cap, cur, rfl, _, hg, hn, _, hsz, ht⟩
  · have : l = [] := List.eq_nil_of_length_eq_zero h0
    subst this
    exact Ints.nil_ _ _ _ _
  · refine ⟨_, cap, rfl, hn, fun hp => ⟨g, 0, rfl, ?_, fun j hj => ?_⟩⟩
    · exact (Array.getElem?_eq_some_iff.1 hg).1
    · rw [Nat.zero_add, cell_of_row w g j cur _ (0, 0) hg]
      have e : (l.map (Value.int .i64))[j]? = some (Value.int .i64 (l[j]?.getD 0)) := by
        rw [List.getElem?_map, List.getElem?_eq_getElem hj]; rfl
      rw [← ht, List.getElem?_take_of_lt (by omega)] at e
      rw [Array.getElem?_toList] at e
      exact e

set_option maxHeartbeats 600000 in
theorem rwalk_any (P : Nat) (a s : Int) (hp : 0 < P) (hp2 : P ≤ 17) (a0 : 0 ≤ a) (a1 : a < P) (s1 : -9223372036854775808 ≤ s) (s2 : s ≤ 9223372036854775807) (w : World) :
    Calls Tryd.prog 25 #[.int .i64 P, .int .i64 a, .int .i64 s] w fun e w' => ∃ v, e = .returned v ∧ OwnI w' w.heap.size v (walkL P a (s % (P : Int))) ∧ Below w.heap.size w w' := by
  have q0 := Int.emod_nonneg s (show (P : Int) ≠ 0 by omega)
  have q1 := Int.emod_lt_of_pos s (show (0 : Int) < P by omega)
  have HO1 := Lib.hid (fun W => rof_any P s W (by omega) (by omega) s1 s2)
  generalize s % (P : Int) = q at *
  go_enter Tryd.func25, Tryd.ntmps25
  go_wp2_with fail
  go_loopw [7, 8] (fun v i wr => ∃ k : Nat, k ≤ P ∧ i = .int .i64 k ∧ OwnI wr w.heap.size v ((walkL P a q).take k) ∧ Below w.heap.size w wr) (fun _ i _ => P - (intOf i).toNat)
  case atStart => exact ⟨0, Nat.zero_le _, rfl, ownI_nil _ _, Below.refl _ _⟩
  case round =>
    obtain ⟨k, hk, rfl, hown, hB⟩ := hrel
    by_cases hlt : k < P
    · have hdec : decide ((k : Int) < (P : Int)) = true := by simp; omega
      have hm1 := Int.mul_nonneg (show 0 ≤ (k : Int) by omega) q0
      have hm2 : (k : Int) * q ≤ 1000 := by have := Int.mul_le_mul (show (k : Int) ≤ 17 by omega) (show q ≤ 17 by omega) q0 (by omega); omega
      have hwz : ∃ z, Hid ((a + (k : Int) * q) % (P : Int) = (a + z) % (P : Int)) ∧ wrap64 ((k : Int) * q) = z ∧ 0 ≤ z ∧ z ≤ 1000 := ⟨(k : Int) * q, Lib.hid rfl, by unfold wrap64; omega, hm1, hm2⟩
      obtain ⟨z, HZ, hz2, hz3, hz4⟩ := hwz
      have HO2 := Lib.hid (fun W => rof_any P (a + z) W (by omega) (by omega) (by omega) (by omega))
      have HT := Lib.hid (walkL_next P a q k hlt)
      have hlen : ((walkL P a q).take k).length ≤ 17 := by rw [List.length_take, walkL_len]; omega
      have e2 : (a + z) % (P : Int) = walkAt P a q k := HZ.out.symm
      simp only [e2] at HO2
      clear e2 HZ hm1 hm2
      generalize walkAt P a q k = x at *
      have HO := Lib.hid (hown.grown_ (World.grownBy_alloc wr (.cells #[.int .i64 x] 3) none))
      have HU := Lib.hid (Blk.one (Blk.new wr 3 #[.int .i64 x]))
      go_wp2_with (first
        | (go_at_call_of 14 (Value.int IntKind.i64 s); refine (HO1.out _).mono ?_; rintro e w1 ⟨rfl, rfl⟩)
        | (go_at_call 14; refine (HO2.out _).mono ?_; rintro e w1 ⟨rfl, rfl⟩)
        | (at_builtin; refine wpList_one _ rfl _ _ 22 3 (.int .i64 0) 8 rfl Tryd.underlying22 Tryd.infoInt rfl w.heap.size _ _ rfl _ HO.out ⟨wr.heap.size, 0, none⟩ 1 _ rfl HU.out rfl (by omega) (by omega) (by have := hB.size; simp; omega) ?_; intro v2 w2 hown2 hgrow2 _))
      go_roundw
      case rel =>
        refine ⟨k + 1, by omega, by go_num, ?_, below_grown (hB.alloc hB.size _) hgrow2 (by have := hB.size; simp; omega) (fun g e => (World.ownsRow.lt HO.out g e).1)⟩
        unfold OwnI
        rw [HT.out, List.map_append, List.length_append]
        exact hown2
      case measure => simp [intOf]; omega
    · obtain rfl : k = P := by omega
      have hdec : decide ((k : Int) < (k : Int)) = false := by simp
      rw [List.take_of_length_le (by rw [walkL_len]; omega)] at hown
      go_wp2
      go_ret
      exact ⟨_, rfl, hown, hB⟩
/-- What the document's Meet tells. -/
def rmeetN (b : Int) (zs : List Int) : Int := if b ∈ zs then ((ahead b zs : Nat) : Int) else -1

set_option maxHeartbeats 600000 in
theorem rmeet_any (P : Nat) (a s b : Int) (hp : 0 < P) (hp2 : P ≤ 17) (a0 : 0 ≤ a) (a1 : a < P) (s1 : -9223372036854775808 ≤ s) (s2 : s ≤ 9223372036854775807) (w : World) :
    Calls Tryd.prog 28 #[.int .i64 P, .int .i64 a, .int .i64 s, .int .i64 b] w fun e w' => e = .returned (.int .i64 (rmeetN b (walkL P a (s % (P : Int))))) ∧ Below w.heap.size w w' := by
  have HW := Lib.hid (rwalk_any P a s hp hp2 a0 a1 s1 s2 w)
  have hlen : (walkL P a (s % (P : Int))).length ≤ 17 := by rw [walkL_len]; omega
  generalize walkL P a (s % (P : Int)) = zs at *
  go_enter Tryd.func28, Tryd.ntmps28
  go_wp2_with fail
  refine HW.out.mono ?_
  rintro e w1 ⟨v, rfl, hown, hB⟩
  obtain ⟨A, cap, rfl, _, hA⟩ := hown.ints
  clear hown
  go_wp2
  go_loop [10] (fun i => ∃ k : Nat, k ≤ zs.length ∧ i = .int .i64 k ∧ Hid (b ∉ zs.take k)) (fun i => zs.length - (intOf i).toNat)
  case atStart => exact ⟨0, Nat.zero_le _, rfl, Lib.hid (by simp)⟩
  case round =>
    obtain ⟨k, hk, rfl, HN⟩ := hrel
    by_cases hlt : k < zs.length
    · have hdec : decide ((k : Int) < (zs.length : Int)) = true := by simp; omega
      obtain ⟨g, off, rfl, hg, hcell⟩ := hA (by omega)
      have hc := hcell k hlt
      have HT := Lib.hid (take_next zs hlt)
      have hlk : (zs.take k).length = k := by rw [List.length_take]; omega
      clear hcell
      generalize zs[k]?.getD 0 = x at hc HT
      by_cases hx : x = b
      · subst hx
        have hd : ((x : Int) == x) = true := by simp
        have HF : Hid (rmeetN x zs = (k : Int)) := by
          obtain ⟨h1, h2⟩ := ahead_of (s := x) (zs := zs) (pre := zs.take k) (by rw [← HT.out]; exact List.take_prefix _ _) HN.out
          unfold rmeetN Hid
          rw [if_pos h1, h2, hlk]
        clear hlk
        go_wp2
        go_ret
        exact ⟨ret_i64 (by rw [HF.out]), hB⟩
      · have hd : ((x : Int) == b) = false := by simpa using hx
        have HN2 : Hid (b ∉ zs.take (k + 1)) := by
          unfold Hid
          rw [HT.out, List.mem_append, List.mem_singleton]
          exact fun h => h.elim HN.out fun e => hx e.symm
        clear hlk hx
        go_wp2
        go_round
        case rel => exact ⟨k + 1, by omega, by go_num, HN2⟩
        case measure => simp [intOf]; omega
    · obtain rfl : k = zs.length := by omega
      have hdec : decide ((zs.length : Int) < (zs.length : Int)) = false := by simp
      have HF : Hid (rmeetN b zs = -1) := by
        have := HN.out
        rw [List.take_length] at this
        exact if_neg this
      clear HN
      go_wp2
      go_ret
      exact ⟨ret_i64 (by rw [HF.out]), hB⟩
end Go.Proofs.YtoljflkfhdaipaaDoor
