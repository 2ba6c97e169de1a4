/- chain: the mathematics: the cells told are the lost ones. chain: the columns filled are the lost ones. chain: both lost columns told. -/
import Derived.Test.YthmkgdkfehgpkaaGreatDoorCOG17
namespace Go.Proofs.YthmkgdkfehgpkaaGreatDoor.Ch
open Go.RowKit Go.Shelf Go.Proofs.YthmkgdkfehgpkaaGreatDoor.C Go.Proofs.YthmkgdkfehgpkaaGreatDoor.E Go.Proofs.YthmkgdkfehgpkaaGreatDoor.Rg Go.Proofs.YthmkgdkfehgpkaaGreatDoor.T
set_option linter.unusedSimpArgs false
set_option linter.unusedVariables false

theorem list_at {n : Nat} {a b : List UInt8} (ha : a.length = n) (hb : b.length = n) (h : ∀ j, at_ a j = at_ b j) : a = b := by
  refine List.ext_getElem (by omega) fun j h1 h2 => ?_
  have := h j
  unfold at_ at this
  rwa [List.getElem?_eq_getElem h1, List.getElem?_eq_getElem h2] at this
section
variable {P Q n : Nat} {R D A B : List (List UInt8)} {a b : Int}
theorem whole_app (hQ : P = Q + 1) (hR : GoodC Q n R) : (List.range P).map (wholeF Q n R) = R ++ [List.replicate n 0] := by
  refine List.ext_getElem? fun i => ?_
  rcases Nat.lt_or_ge i P with hi | hi
  · rw [List.getElem?_map, List.getElem?_range hi]
    show some (wholeF Q n R i) = _
    unfold wholeF
    rcases Nat.lt_or_ge i Q with h | h
    · rw [if_pos h, List.getElem?_append_left (by rw [hR.1]; exact h), List.getElem?_eq_getElem (by rw [hR.1]; exact h)]
      rfl
    · rw [if_neg (by omega), List.getElem?_append_right (by rw [hR.1]; exact h), hR.1, show i - Q = 0 by omega]
      rfl
  · rw [List.getElem?_eq_none (by simp; exact hi), List.getElem?_eq_none (by rw [List.length_append, hR.1]; simp; omega)]
theorem al_list (hQ : P = Q + 1) (hR : GoodC Q n R) (j : Nat) : xa (R.map (at_ · j)) = al P (Bt P Q n R j) := by
  have h := al_whole hQ hR j
  rw [whole_app hQ hR, at_xorOf (n := n) (by simp) (fun l hl => by
    rcases List.mem_append.1 hl with h | h
    · obtain ⟨i, hi, rfl⟩ := List.getElem_of_mem h
      have := (hR.2 i (by rw [← hR.1]; exact hi)).2
      rwa [List.getElem?_eq_getElem hi] at this
    · rw [List.mem_singleton.1 h]; simp), List.map_append, xa_append] at h
  rw [← h]
  simp [xa_cons, xa_nil, at_nought]
theorem adj_at (hQ : P = Q + 1) (hR : GoodC Q n R) (hD : GoodC Q n D) (hq : 0 < Q) (j : Nat) : at_ (adjF R D) j = al P (Bt P Q n R j) ^^^ al P (Bt P Q n D j) := by
  have hm : ∀ {c : List (List UInt8)}, GoodC Q n c → ∀ l ∈ c, l.length = n := fun {c} hc l hl => by
    obtain ⟨i, hi, rfl⟩ := List.getElem_of_mem hl
    have := (hc.2 i (by rw [← hc.1]; exact hi)).2
    rwa [List.getElem?_eq_getElem hi] at this
  unfold adjF
  rw [at_xorOf (n := n) (by rw [List.length_append, hR.1]; omega) (fun l hl => (List.mem_append.1 hl).elim (hm hR l) (hm hD l)), List.map_append, xa_append, al_list hQ hR, al_list hQ hD]
theorem adj_len (hR : GoodC Q n R) (hq : 0 < Q) : (adjF R D).length = n := by
  unfold adjF
  rw [xorOf_len, List.getElem?_append_left (by rw [hR.1]; exact hq)]
  exact (hR.2 0 hq).2
theorem step_even (hQ : P = Q + 1) (hR : GoodC Q n R) (hD : GoodC Q n D) (hq : 0 < Q) (k x y : Int) (hk : k % 2 = 0) (j : Nat) : at_ (stepF P Q n R D (k, x, y)) j = Bt P Q n D j (x + y) ^^^ (al P (Bt P Q n R j) ^^^ al P (Bt P Q n D j)) := by
  unfold stepF
  rw [if_pos hk, at_two (n := n) (whole_len hD _) (adj_len hR hq), adj_at hQ hR hD hq]
  rfl
theorem step_odd (hQ : P = Q + 1) (k x y : Int) (hk : ¬ k % 2 = 0) (hy : 0 ≤ y ∧ y < (P : Int) - 1) (j : Nat) : at_ (stepF P Q n R D (k, x, y)) j = Bt P Q n R j y := by
  unfold stepF
  rw [if_neg hk, bt_at hQ R j (i := y.toNat) (by omega) (by rw [Int.emod_eq_of_lt hy.1 (by omega)]; omega)]
/-- What is lost, by what rows and diagonals tell of it. -/
structure Solves (P Q n : Nat) (R D A B : List (List UInt8)) (a b : Int) : Prop where
  gA : GoodC Q n A
  gB : GoodC Q n B
  hR : ∀ j r, Bt P Q n R j r = Bt P Q n A j r ^^^ Bt P Q n B j r
  hD : ∀ j r, Bt P Q n D j r = tu a (Bt P Q n A j) r ^^^ tu b (Bt P Q n B j) r
theorem told_at (d : Dims P Q n) (hR : GoodC Q n R) (hD : GoodC Q n D) (h : Solves P Q n R D A B a b) (hab : (a - b) % (P : Int) ≠ 0) {rs : List Int} (hrs : rowsF (P : Int) (walkN (P : Int) ((P : Int) - 1) (a - b)) = rs) (j : Nat) :
    ∀ m, m < 2 * rs.length → at_ (aheadF P Q n R D ((chn a b rs).take (m + 1))) j = (if m % 2 = 0 then Bt P Q n B j (rs[m / 2]?.getD 0) else Bt P Q n A j (rs[m / 2]?.getD 0)) := by
  have hQ := d.hQ
  have hpb := prm_bounds d.hp
  have hq : 0 < Q := by omega
  have hra := rows_are hQ d.hp hab
  rw [hrs] at hra
  have hrl : rs.length = Q := by rw [hra]; simp
  have hri : ∀ i, i < Q → rs[i]?.getD 0 = ((P : Int) - 1 + ((i : Int) + 1) * (a - b)) % (P : Int) := fun i hi => by rw [hra, List.getElem?_map, List.getElem?_range hi]; rfl
  have hper : ∀ (c : List (List UInt8)) (r s : Int), r % (P : Int) = s % (P : Int) → Bt P Q n c j r = Bt P Q n c j s := fun c r s e => (Bt.per hQ c j).1 r s e
  have hgo : ∀ i, i < Q → 0 ≤ rs[i]?.getD 0 ∧ rs[i]?.getD 0 < (P : Int) - 1 := fun i hi => by
    have hm : rs[i]?.getD 0 ∈ rowsF (P : Int) (walkN (P : Int) ((P : Int) - 1) (a - b)) := by rw [hrs, List.getElem?_eq_getElem (by omega)]; exact List.getElem_mem _
    unfold rowsF at hm
    have hne := (List.mem_filter.1 hm).2
    have hne2 : rs[i]?.getD 0 ≠ (P : Int) - 1 := by simpa using hne
    have h0 := Int.emod_nonneg ((P : Int) - 1 + ((i : Int) + 1) * (a - b)) (show (P : Int) ≠ 0 by omega)
    have h1 := Int.emod_lt_of_pos ((P : Int) - 1 + ((i : Int) + 1) * (a - b)) (show (0 : Int) < (P : Int) by omega)
    rw [← hri i hi] at h0 h1
    omega
  have hback : ∀ i, i < Q → (rs[i]?.getD 0 - (a - b)) % (P : Int) = ((P : Int) - 1 + (i : Int) * (a - b)) % (P : Int) := fun i hi => by
    rw [hri i hi, Int.sub_emod, Int.emod_emod, ← Int.sub_emod, Int.add_mul, Int.one_mul]
    congr 1
    omega
  have hch : ∀ m, m < 2 * rs.length → (chn a b rs)[m]? = some ((m : Int), (if m % 2 = 0 then b else a), rs[m / 2]?.getD 0) := fun m hm => by
    unfold chn
    rw [List.getElem?_map, List.getElem?_range hm]
    rfl
  have hnext : ∀ m, m < 2 * rs.length → at_ (aheadF P Q n R D ((chn a b rs).take (m + 1))) j = at_ (aheadF P Q n R D ((chn a b rs).take m)) j ^^^ at_ (stepF P Q n R D ((m : Int), (if m % 2 = 0 then b else a), rs[m / 2]?.getD 0)) j := fun m hm => by
    rw [List.take_add_one, hch m hm]
    show at_ (aheadF P Q n R D ((chn a b rs).take m ++ [_])) j = _
    rw [aheadF_snoc]
    exact at_two (n := n) (aheadF_len P Q n R D _) (stepF_len hQ hR hD _ (hgo (m / 2) (by omega))) j
  have hbn : ∀ x : Int, Bt P Q n A j (x - (a - b)) ^^^ (Bt P Q n D j (b + x) ^^^ (al P (Bt P Q n R j) ^^^ al P (Bt P Q n D j))) = Bt P Q n B j x := next_b hQ d.hp (Bt.per hQ A j) (Bt.per hQ B j) (h.hR j) (h.hD j)
  have han : ∀ x : Int, Bt P Q n B j x ^^^ Bt P Q n R j x = Bt P Q n A j x := next_a (h.hR j)
  intro m
  induction m with
  | zero =>
    intro hm
    rw [hnext 0 hm, if_pos (by rfl), if_pos (by rfl), step_even hQ hR hD hq _ _ _ (by rfl), Nat.zero_div, ← hbn]
    congr 1
    rw [hper A _ (-1) (by rw [hback 0 hq, last_mod hQ]; show ((P : Int) - 1 + 0 * (a - b)) % (P : Int) = _; rw [Int.zero_mul, Int.add_zero, Int.emod_eq_of_lt (by omega) (by omega)]; omega), (Bt.per hQ A j).2]
    exact at_nought n j
  | succ m ih =>
    intro hm
    rw [hnext (m + 1) hm, ih (by omega)]
    by_cases h2 : m % 2 = 0
    · rw [if_pos h2, if_neg (show ¬ (m + 1) % 2 = 0 by omega), if_neg (show ¬ (m + 1) % 2 = 0 by omega), step_odd hQ _ _ _ (by omega) (hgo _ (by omega)), show (m + 1) / 2 = m / 2 by omega]
      exact han _
    · rw [if_neg h2, if_pos (show (m + 1) % 2 = 0 by omega), if_pos (show (m + 1) % 2 = 0 by omega), step_even hQ hR hD hq _ _ _ (by omega), ← hbn]
      congr 1
      refine hper A _ _ ?_
      rw [hback _ (by omega), hri _ (by omega), Int.emod_emod, show (((m + 1) / 2 : Nat) : Int) = ((m / 2 : Nat) : Int) + 1 by omega]
theorem told_is (d : Dims P Q n) (hR : GoodC Q n R) (hD : GoodC Q n D) (h : Solves P Q n R D A B a b) (hab : (a - b) % (P : Int) ≠ 0) {rs : List Int} (hrs : rowsF (P : Int) (walkN (P : Int) ((P : Int) - 1) (a - b)) = rs) (m : Nat) (hm : m < 2 * rs.length) (r : Nat) (hr : r < Q) (hrm : rs[m / 2]?.getD 0 = (r : Int)) :
    (toldF P Q n R D (chn a b rs))[m]?.getD [] = if m % 2 = 0 then B[r]?.getD [] else A[r]?.getD [] := by
  have e : (toldF P Q n R D (chn a b rs))[m]?.getD [] = aheadF P Q n R D ((chn a b rs).take (m + 1)) := by
    unfold toldF
    rw [List.getElem?_map, List.getElem?_range (by rw [chn_len]; exact hm)]
    rfl
  rw [e]
  have hQ := d.hQ
  refine list_at (n := n) (aheadF_len P Q n R D _) (by split; exact (h.gB.2 r hr).2; exact (h.gA.2 r hr).2) fun j => ?_
  rw [told_at d hR hD h hab hrs j m hm, hrm]
  have hmod : ((r : Int)) % (P : Int) = (r : Int) := Int.emod_eq_of_lt (by omega) (by omega)
  split
  · exact bt_at hQ B j hr hmod
  · exact bt_at hQ A j hr hmod
end
end Go.Proofs.YthmkgdkfehgpkaaGreatDoor.Ch

namespace Go.Proofs.YthmkgdkfehgpkaaGreatDoor.Ch
open Go.RowKit Go.Shelf Go.Proofs.YthmkgdkfehgpkaaGreatDoor.C Go.Proofs.YthmkgdkfehgpkaaGreatDoor.E Go.Proofs.YthmkgdkfehgpkaaGreatDoor.Rg Go.Proofs.YthmkgdkfehgpkaaGreatDoor.T
set_option linter.unusedSimpArgs false
set_option linter.unusedVariables false

theorem fill_some (us : List Value) (col : Int) (r : Nat) : ∀ (l : List (Int × Int × Int)) (c : Array Value), r < c.size → ((∃ x ∈ l, x.2.1 = col ∧ x.2.2.toNat = r) → ∃ x ∈ l, x.2.1 = col ∧ x.2.2.toNat = r ∧ (l.foldl (fun arr x => if x.2.1 = col then arr.setIfInBounds x.2.2.toNat (us[x.1.toNat]?.getD undef) else arr) c)[r]? = some (us[x.1.toNat]?.getD undef)) ∧
    ((∀ x ∈ l, ¬ (x.2.1 = col ∧ x.2.2.toNat = r)) → (l.foldl (fun arr x => if x.2.1 = col then arr.setIfInBounds x.2.2.toNat (us[x.1.toNat]?.getD undef) else arr) c)[r]? = c[r]?)
  | [], c, hc => ⟨fun ⟨x, h, _⟩ => (by cases h), fun _ => rfl⟩
  | z :: l, c, hc => by
    have hs : (if z.2.1 = col then c.setIfInBounds z.2.2.toNat (us[z.1.toNat]?.getD undef) else c).size = c.size := by split <;> simp
    have ih := fill_some us col r l (if z.2.1 = col then c.setIfInBounds z.2.2.toNat (us[z.1.toNat]?.getD undef) else c) (by rw [hs]; exact hc)
    have hz : ¬ (z.2.1 = col ∧ z.2.2.toNat = r) → (if z.2.1 = col then c.setIfInBounds z.2.2.toNat (us[z.1.toNat]?.getD undef) else c)[r]? = c[r]? := fun h => by
      split
      · rename_i h1
        exact Array.getElem?_setIfInBounds_ne (fun e => h ⟨h1, e⟩)
      · rfl
    refine ⟨fun hx => ?_, fun hn => ?_⟩
    · by_cases hl : ∃ x ∈ l, x.2.1 = col ∧ x.2.2.toNat = r
      · obtain ⟨x, h1, h2, h3, h4⟩ := ih.1 hl
        exact ⟨x, List.mem_cons_of_mem _ h1, h2, h3, h4⟩
      · obtain ⟨x, hxm, hx1, hx2⟩ := hx
        rcases List.mem_cons.1 hxm with rfl | hxl
        · refine ⟨x, List.mem_cons_self, hx1, hx2, ?_⟩
          refine (ih.2 fun y hy hyc => hl ⟨y, hy, hyc.1, hyc.2⟩).trans ?_
          rw [if_pos hx1, hx2]
          exact Array.getElem?_setIfInBounds_self_of_lt hc
        · exact absurd ⟨x, hxl, hx1, hx2⟩ hl
    · exact (ih.2 fun y hy => hn y (List.mem_cons_of_mem _ hy)).trans (hz (hn z List.mem_cons_self))
theorem cover_fin : ∀ p ∈ prm, ∀ s ∈ List.range 17, (s : Int) < p → s ≠ 0 → ∀ r ∈ List.range (p - 1).toNat, ∃ k ∈ List.range (p - 1).toNat, (p - 1 + ((k : Int) + 1) * (s : Int)) % p = (r : Int) := by decide +kernel
section
variable {P Q n : Nat} {R D A B : List (List UInt8)} {a b : Int}
theorem rows_cover (hQ : P = Q + 1) (hp : (P : Int) ∈ prm) (hab : (a - b) % (P : Int) ≠ 0) {rs : List Int} (hrs : rowsF (P : Int) (walkN (P : Int) ((P : Int) - 1) (a - b)) = rs) {r : Nat} (hr : r < Q) : ∃ i, i < rs.length ∧ rs[i]?.getD 0 = (r : Int) := by
  have hpb := prm_bounds hp
  have hra := rows_are hQ hp hab
  rw [hrs] at hra
  have h0 := Int.emod_nonneg (a - b) (show (P : Int) ≠ 0 by omega)
  have h1 := Int.emod_lt_of_pos (a - b) (show (0 : Int) < (P : Int) by omega)
  obtain ⟨s, hs⟩ : ∃ s : Nat, (a - b) % (P : Int) = (s : Int) := ⟨((a - b) % (P : Int)).toNat, by omega⟩
  obtain ⟨k, hk, hkr⟩ := cover_fin (P : Int) hp s (List.mem_range.2 (by omega)) (by omega) (by intro e; exact hab (by rw [hs, e]; rfl)) r (List.mem_range.2 (by omega))
  have hk2 := List.mem_range.1 hk
  refine ⟨k, by rw [hra]; simp; omega, ?_⟩
  rw [hra, List.getElem?_map, List.getElem?_range (by omega)]
  show ((P : Int) - 1 + ((k : Int) + 1) * (a - b)) % (P : Int) = (r : Int)
  rw [← hkr, ← hs, Int.add_emod, Int.mul_emod, ← Int.mul_emod, ← Int.add_emod]
  rw [Int.add_emod ((P : Int) - 1) (((k : Int) + 1) * ((a - b) % (P : Int))), Int.mul_emod, Int.emod_emod, ← Int.mul_emod, ← Int.add_emod]
theorem fill_many {us : List Value} (d : Dims P Q n) (hR : GoodC Q n R) (hD : GoodC Q n D) (h : Solves P Q n R D A B a b) (hab : (a - b) % (P : Int) ≠ 0) {rs : List Int} (hrs : rowsF (P : Int) (walkN (P : Int) ((P : Int) - 1) (a - b)) = rs) {W : World} (hus : ∀ (j : Nat) (u : Value), us[j]? = some u → Bytes W.heap.size W u ((toldF P Q n R D (chn a b rs))[j]?.getD [])) (hul : us.length = 2 * rs.length) (col : Int) (hcol : col = a ∨ col = b) {g : Nat} (hg : Blk W g 63 (fillF us Q col (chn a b rs))) :
    Many W.heap.size W (.slice (some ⟨g, 0, none⟩) Q Q) (if col = b then B else A) := by
  have hQ := d.hQ
  have hne : a ≠ b := fun e => hab (by rw [e, Int.sub_self]; rfl)
  have hlen : (if col = b then B else A).length = Q := by split; exact h.gB.1; exact h.gA.1
  refine ⟨_, Q, by rw [hlen], by omega, fun _ => ⟨g, 0, rfl, hg.lt, fun r hr => ?_⟩⟩
  rw [hlen] at hr
  have hmem : ∀ x ∈ chn a b rs, ∃ m, m < 2 * rs.length ∧ x = ((m : Int), (if m % 2 = 0 then b else a), rs[m / 2]?.getD 0) := fun x hx => by
    unfold chn at hx
    obtain ⟨m, hm, rfl⟩ := List.mem_map.1 hx
    exact ⟨m, List.mem_range.1 hm, rfl⟩
  obtain ⟨i, hi, hir⟩ := rows_cover hQ d.hp hab hrs hr
  have hpos : ∀ i, i < rs.length → 0 ≤ rs[i]?.getD 0 := fun i hi => by
    have hra := rows_are hQ d.hp hab
    rw [hrs] at hra
    have hiQ : i < Q := by rw [hra] at hi; simpa using hi
    have e : rs[i]?.getD 0 = ((P : Int) - 1 + ((i : Int) + 1) * (a - b)) % (P : Int) := by rw [hra, List.getElem?_map, List.getElem?_range hiQ]; rfl
    rw [e]
    exact Int.emod_nonneg _ (by omega)
  have hex : ∃ x ∈ chn a b rs, x.2.1 = col ∧ x.2.2.toNat = r := by
    obtain ⟨m, hm, hmc, hmi⟩ : ∃ m, m < 2 * rs.length ∧ (if m % 2 = 0 then b else a) = col ∧ m / 2 = i := by
      by_cases hcb : col = b
      · exact ⟨2 * i, by omega, by rw [if_pos (by omega), hcb], by omega⟩
      · exact ⟨2 * i + 1, by omega, by rw [if_neg (by omega)]; rcases hcol with h | h; exact h.symm; exact absurd h hcb, by omega⟩
    refine ⟨((m : Int), (if m % 2 = 0 then b else a), rs[m / 2]?.getD 0), ?_, hmc, by show (rs[m / 2]?.getD 0).toNat = r; rw [hmi, hir]; rfl⟩
    unfold chn
    exact List.mem_map.2 ⟨m, List.mem_range.2 hm, rfl⟩
  obtain ⟨x, hx, hx1, hx2, hx3⟩ := (fill_some us col r (chn a b rs) (Array.replicate Q (.slice none 0 0)) (by simp; exact hr)).1 hex
  obtain ⟨m, hm, rfl⟩ := hmem x hx
  have hrm : rs[m / 2]?.getD 0 = (r : Int) := by
    have h1 := hpos (m / 2) (by omega)
    have h2 : (rs[m / 2]?.getD 0).toNat = r := hx2
    omega
  have ht := told_is d hR hD h hab hrs m hm r hr hrm
  have hmu : us[m]? = some (us[m]'(by omega)) := List.getElem?_eq_getElem (by omega)
  refine ⟨us[m]'(by omega), ?_, ?_⟩
  · rw [Nat.zero_add]
    refine (hg.cell r).trans ?_
    refine Eq.trans hx3 ?_
    show some (us[((m : Int)).toNat]?.getD undef) = _
    rw [Int.toNat_natCast, hmu]
    rfl
  · have hb := hus m _ hmu
    rw [ht] at hb
    have hx1b : (if m % 2 = 0 then b else a) = col := hx1
    have e : (if col = b then B else A) = if m % 2 = 0 then B else A := by
      by_cases h2 : m % 2 = 0
      · rw [if_pos h2] at hx1b
        rw [if_pos hx1b.symm, if_pos h2]
      · rw [if_neg h2] at hx1b
        rw [if_neg (by rw [← hx1b]; exact hne), if_neg h2]
    rw [e]
    by_cases h2 : m % 2 = 0
    · rw [if_pos h2] at hb ⊢; exact hb
    · rw [if_neg h2] at hb ⊢; exact hb
theorem fill_cols {us : List Value} (d : Dims P Q n) (hR : GoodC Q n R) (hD : GoodC Q n D) (h : Solves P Q n R D A B a b) (hab : (a - b) % (P : Int) ≠ 0) {rs : List Int} (hrs : rowsF (P : Int) (walkN (P : Int) ((P : Int) - 1) (a - b)) = rs) {W : World} (hus : ∀ (j : Nat) (u : Value), us[j]? = some u → Bytes W.heap.size W u ((toldF P Q n R D (chn a b rs))[j]?.getD [])) (hul : us.length = 2 * rs.length) {gC : Nat} (hc : ColT us Q a b (chn a b rs) gC W) : Cols W.heap.size W (.slice (some ⟨gC, 0, none⟩) 2 2) [A, B] := by
  obtain ⟨c0, c1, hC, h0, h1⟩ := hc
  have hne : ¬ a = b := fun e => hab (by rw [e, Int.sub_self]; rfl)
  have m0 := fill_many d hR hD h hab hrs hus hul a (.inl rfl) h0
  have m1 := fill_many d hR hD h hab hrs hus hul b (.inr rfl) h1
  rw [if_neg hne] at m0
  rw [if_pos rfl] at m1
  exact Rg.cols_two hC m0 m1 hC.lt
end
end Go.Proofs.YthmkgdkfehgpkaaGreatDoor.Ch

namespace Go.Proofs.YthmkgdkfehgpkaaGreatDoor.T
open Go.RowKit Go.Shelf Go.Maps Go.Proofs.YthmkgdkfehgpkaaGreatDoor.C Go.Proofs.YthmkgdkfehgpkaaGreatDoor.E Go.Proofs.YthmkgdkfehgpkaaGreatDoor.Ch
set_option linter.unusedSimpArgs false
set_option linter.unusedVariables false
attribute [local go_sem] Oper.semAt_some

/-- What must stay for the sums to be told. -/
def StayT (w0 W0 : World) (E : Nat → Prop) (V : World) : Prop := Below w0.heap.size w0 V ∧ W0.heap.size ≤ V.heap.size ∧ ∀ b, b < W0.heap.size → ¬ E b → V.heap[b]? = W0.heap[b]?
theorem StayT.one {w0 W0 : World} {E : Nat → Prop} {X Y : World} (h : StayT w0 W0 E X) (hB : Below X.heap.size X Y) : StayT w0 W0 E Y :=
  ⟨below_in h.1 hB, Nat.le_trans h.2.1 hB.size, fun b h1 h2 => (hB.block b (Nat.lt_of_lt_of_le h1 h.2.1)).trans (h.2.2 b h1 h2)⟩
theorem StayT.two {w0 W0 : World} {E : Nat → Prop} {X Y : World} {row : Option Nat} {lo : Nat} (h : StayT w0 W0 E X) (hg : X.grownBy Y row) (hr : ∀ r, row = some r → lo ≤ r) (h0 : w0.heap.size ≤ lo) (h1 : W0.heap.size ≤ lo) : StayT w0 W0 E Y :=
  ⟨below_grown h.1 hg h.1.size (fun r e => Nat.le_trans h0 (hr r e)), Nat.le_trans h.2.1 hg.size, fun b h2 h3 => (hg.block b (Nat.lt_of_lt_of_le h2 h.2.1) (fun e => by have := hr b e.symm; omega)).trans (h.2.2 b h2 h3)⟩
theorem StayT.three {w0 W0 : World} {E : Nat → Prop} {X : World} {p : Addr} {u : Value} {lo gr : Nat} (h : StayT w0 W0 E X) (hp : p.block = gr ∨ lo ≤ p.block) (h0 : w0.heap.size ≤ lo) (h1 : W0.heap.size ≤ lo) (hg : w0.heap.size ≤ gr) (hE : W0.heap.size ≤ gr ∨ E gr) : StayT w0 W0 E (X.setCell p u) :=
  ⟨h.1.setCell (by rcases hp with h | h <;> omega) _, by simp; exact h.2.1, fun b h2 h3 => (Below.heap_setCell X p u b (fun e => by
    rcases hp with hp | hp
    · rcases hE with hE | hE
      · omega
      · rw [e, hp] at h3; exact h3 hE
    · omega)).trans (h.2.2 b h2 h3)⟩
set_option maxRecDepth 100000 in
set_option maxHeartbeats 8000000 in
theorem recovered_any {B P Q n : Nat} (d : Rg.Dims P Q n) (a b : Int) (ha : 0 ≤ a) (hab : a < b) (hb : b < (P : Int)) (gl gc co N cc : Nat) (nA : Option Addr) (nc : Nat) (css : List (List (List UInt8))) (hN : N = P + 2) (hcl : css.length = N) (hg : ∀ c, c < N → GoodC Q n (css[c]?.getD [])) (A Bc : List (List UInt8)) (hsol : Solves P Q n (rsF P Q css) (dsF P Q css) A Bc a b) (w : World) (hL : Laid w) (hB : B ≤ w.heap.size) (hgl : gl < w.heap.size) (cA : w.cell? ⟨gl, 0, none⟩ = some (.int .i64 a)) (cB : w.cell? ⟨gl, 1, none⟩ = some (.int .i64 b)) (hC : Cols B w (.slice (some ⟨gc, co, none⟩) N cc) css) (hno : Bytes B w (.slice nA n nc) (List.replicate n 0)) :
    Calls Tryz.prog 42 #[.agg #[.int .i64 (P : Int), .slice (some ⟨gl, 0, none⟩) 2 2, .slice (some ⟨gc, co, none⟩) N cc, .slice nA n nc]] w fun e w' => ∃ gC, e = .returned (.slice (some ⟨gC, 0, none⟩) 2 2) ∧ Cols w'.heap.size w' (.slice (some ⟨gC, 0, none⟩) 2 2) [A, Bc] ∧ Below w.heap.size w w' := by
  have hRD := rd_good d hN hcl hg
  have HSU0 := fun (V : World) (hV : Below w.heap.size w V) => sums_any d (some ⟨gl, 0, none⟩) 2 2 gc co N cc nA nc css hN hcl hg V (hL.next hV) (Nat.le_trans hB hV.size) (hC.below (hV.mono hB)) (hno.below (hV.mono hB))
  generalize rsF P Q css = R at *
  generalize dsF P Q css = D at *
  obtain ⟨w0, hw0⟩ : ∃ x, w.alloc (.cells #[.int .i64 (P : Int), .slice (some ⟨gl, 0, none⟩) 2 2, .slice (some ⟨gc, co, none⟩) N cc, .slice nA n nc] 82) = x := ⟨_, rfl⟩
  obtain ⟨g0, hg0⟩ : ∃ x, w.heap.size = x := ⟨_, rfl⟩
  have b0 : Blk w0 g0 82 #[.int .i64 (P : Int), .slice (some ⟨gl, 0, none⟩) 2 2, .slice (some ⟨gc, co, none⟩) N cc, .slice nA n nc] := by rw [← hw0, ← hg0]; exact Blk.new w _ _
  have hB0 : Below w.heap.size w w0 := by rw [← hw0]; exact below_one w _
  have HSU := Lib.hid (fun (V : World) (hV : Below w0.heap.size w0 V) => HSU0 V (below_in hB0 hV))
  have HSS : Hid (∀ V, Below w0.heap.size w0 V → (fun U : World => U.cell? ⟨g0, 0, none⟩ = some (.int .i64 (P : Int)) ∧ U.cell? ⟨g0, 1, none⟩ = some (.slice (some ⟨gl, 0, none⟩) 2 2) ∧ U.cell? ⟨g0, 2, none⟩ = some (.slice (some ⟨gc, co, none⟩) N cc) ∧ U.cell? ⟨g0, 3, none⟩ = some (.slice nA n nc)) V) := fun V hV => by
    have h := b0.below hV b0.lt
    exact ⟨h.cell 0, h.cell 1, h.cell 2, h.cell 3⟩
  have HALL := Lib.hid (And.intro d (And.intro ha (And.intro hab (And.intro hb (And.intro hsol (And.intro hRD (And.intro hL (And.intro hgl (And.intro cA (And.intro cB (And.intro hno (And.intro hB (And.intro hB0 hg0)))))))))))))
  have hab2 : (a - b) % (P : Int) ≠ 0 := fun h => by
    have h1 := Int.emod_eq_of_lt (show (0 : Int) ≤ a - b + (P : Int) * 1 by omega) (show a - b + (P : Int) * 1 < (P : Int) by omega)
    rw [Int.add_mul_emod_self_left] at h1
    omega
  have hgl0w : g0 < w0.heap.size := b0.lt
  obtain ⟨rs, hrs⟩ : ∃ x, Rg.rowsF (P : Int) (walkN (P : Int) ((P : Int) - 1) (a - b)) = x := ⟨_, rfl⟩
  have HRS := Lib.hid hrs
  have HAB := Lib.hid hab2
  have HRL : Hid (rs.length ≤ 100) := by unfold Hid; rw [← hrs]; exact rows_len (P : Int) a b d.hp
  have HRQ : Hid (0 < rs.length) := by
    unfold Hid
    have hpb := prm_bounds d.hp
    have hQ := d.hQ
    rw [← hrs, Rg.rows_are hQ d.hp hab2]
    simp
    omega
  have HNO := Lib.hid (fun (V : World) (hV : Below w0.heap.size w0 V) => (hno.below ((below_in hB0 hV).mono hB)).more (Nat.le_trans hB hB0.size))
  have HCH0 := Lib.hid (fun (V : World) (hV : Below w0.heap.size w0 V) => (by
    have h := chain_any (P : Int) a b d.hp ⟨ha, by omega⟩ ⟨by omega, hb⟩ gl V (hL.next (below_in hB0 hV)) (Nat.lt_of_lt_of_le hgl (below_in hB0 hV).size) (((below_in hB0 hV).cell (p := ⟨gl, 0, none⟩) hgl).trans cA) (((below_in hB0 hV).cell (p := ⟨gl, 1, none⟩) hgl).trans cB)
    rw [hrs] at h
    exact h : Calls Tryz.prog 37 #[.agg #[.int .i64 (P : Int), .slice (some ⟨gl, 0, none⟩) 2 2]] V fun e w' => ∃ v, e = .returned v ∧ ChainT V.heap.size (P : Int) a b rs v w' ∧ Below V.heap.size V w'))
  have HG0 := Lib.hid hg0
  have HL0 := Lib.hid b0.lt
  have HW0 := Lib.hid hw0
  have hBx := (Below.refl w0.heap.size w0).drew
  have hS : (fun U : World => U.cell? ⟨g0, 0, none⟩ = some (.int .i64 (P : Int)) ∧ U.cell? ⟨g0, 1, none⟩ = some (.slice (some ⟨gl, 0, none⟩) 2 2) ∧ U.cell? ⟨g0, 2, none⟩ = some (.slice (some ⟨gc, co, none⟩) N cc) ∧ U.cell? ⟨g0, 3, none⟩ = some (.slice nA n nc)) w0.drew := HSS.out _ hBx
  clear hrs hab2 hgl0w HSU0 d ha hab hb hN hcl hg hsol hRD hL hgl cA cB hC hno hB hB0 b0 hw0 hg0
  refine (callsIn_wide (n := 9)).1 ?_
  refine callsIn_of_wp_marks Tryz.func42 rfl trivial ?_ rfl
  simp only [Tryz.ntmps42, List.size_toArray, List.length_cons, List.length_nil, Nat.reduceAdd, Nat.reduceSub, Array.replicate_succ, Array.replicate_zero, List.push_toArray, List.append_toArray, List.nil_append, List.cons_append]
  gi_wp2_with fail
  (try rw [HG0.out]); (try rw [HW0.out])
  refine wpIn_mono (region_HF (Q := NoPanic _) (S := (fun U : World => U.cell? ⟨g0, 0, none⟩ = some (.int .i64 (P : Int)) ∧ U.cell? ⟨g0, 1, none⟩ = some (.slice (some ⟨gl, 0, none⟩) 2 2) ∧ U.cell? ⟨g0, 2, none⟩ = some (.slice (some ⟨gc, co, none⟩) N cc) ∧ U.cell? ⟨g0, 3, none⟩ = some (.slice nA n nc))) (by kernel_rfl) ?_) NoPanic.imp
  refine anyHF_take (i := 0) (d := 4) (v := .agg #[.int .i64 (P : Int), .slice (some ⟨gl, 0, none⟩) 2 2, .slice (some ⟨gc, co, none⟩) N cc, .slice nA n nc]) (by kernel_rfl) rfl (by kernel_rfl) (by kernel_rfl) (by kernel_rfl) rfl (fun _ _ _ h => h) ⟨Or.inl ⟨by rfl, fun w hS => by obtain ⟨h0, h1, h2, h3⟩ := hS; go_simp⟩, fun _ => rfl⟩ hS ?_
  simp only [List.setIfInBounds_toArray, List.set_cons_zero, List.set_cons_succ]
  refine anyHF_take (i := 2) (d := 6) (v := .pointer (some ⟨g0, 3, none⟩)) (by kernel_rfl) rfl (by kernel_rfl) (by kernel_rfl) (by kernel_rfl) rfl (fun _ _ _ h => h) ⟨Or.inl ⟨by rfl, fun w hS => by obtain ⟨h0, h1, h2, h3⟩ := hS; go_simp⟩, fun _ => rfl⟩ hS ?_
  simp only [List.setIfInBounds_toArray, List.set_cons_zero, List.set_cons_succ]
  refine anyHF_take (i := 3) (d := 7) (v := .slice nA n nc) (by kernel_rfl) rfl (by kernel_rfl) (by kernel_rfl) (by kernel_rfl) rfl (fun _ _ _ h => h) ⟨Or.inl ⟨by rfl, fun w hS => by obtain ⟨h0, h1, h2, h3⟩ := hS; go_simp⟩, fun _ => rfl⟩ hS ?_
  simp only [List.setIfInBounds_toArray, List.set_cons_zero, List.set_cons_succ]
  refine Rg.anyHF_both (i := 1) (j := 5) (by kernel_rfl) rfl rfl (by rfl) (by rfl) ?c1a ?c1b
  case c1a =>
    gi_wp2_with fail
    refine ⟨trivial, (callsIn_wide.2 (HSU.out _ hBx (fun _ => False) (fun b e => e.elim))).mono ?_⟩
    rintro e v2 ⟨f1, f2, rfl, hT, hB⟩
    have hTw := hT
    obtain ⟨gt4, gt1, gt5, gt3, rfl, rfl, _⟩ := id hT
    clear hT
    obtain ⟨ws, hws⟩ : ∃ x, v2 = x := ⟨_, rfl⟩
    have HWS := Lib.hid hws
    clear hws
    have HTW := Lib.hid hTw
    clear hTw
    replace hBx := below_in hBx hB
    clear hS
    have hS : (fun U : World => U.cell? ⟨g0, 0, none⟩ = some (.int .i64 (P : Int)) ∧ U.cell? ⟨g0, 1, none⟩ = some (.slice (some ⟨gl, 0, none⟩) 2 2) ∧ U.cell? ⟨g0, 2, none⟩ = some (.slice (some ⟨gc, co, none⟩) N cc) ∧ U.cell? ⟨g0, 3, none⟩ = some (.slice nA n nc)) v2 := HSS.out _ hBx
    clear hB
    gi_wp2
    try (refine ⟨hS, ?_⟩)
    refine anyHF_take (i := 4) (d := 8) (v := .agg #[.func (.func 109) #[] #[.pointer (some ⟨gt4, 0, none⟩), .pointer (some ⟨gt1, 0, none⟩), .pointer (some ⟨gt5, 0, none⟩)], .func (.func 111) #[] #[.pointer (some ⟨gt3, 0, none⟩)], .slice nA n nc]) (by kernel_rfl) rfl (by kernel_rfl) (by kernel_rfl) (by kernel_rfl) rfl (fun _ _ _ h => h) ⟨Or.inl ⟨by rfl, fun w hS => by obtain ⟨h0, h1, h2, h3⟩ := hS; go_simp⟩, fun _ => rfl⟩ hS ?_
    simp only [List.setIfInBounds_toArray, List.set_cons_zero, List.set_cons_succ]
    refine anyHF_one (i := 5) (by kernel_rfl) rfl (by kernel_rfl) (by rfl) ?_
    have hB : Below v2.heap.size v2 (v2.alloc (.cells #[.nilFunc, .nilFunc, .slice none 0 0] 117)) := below_one v2 _
    have bR : Blk (v2.alloc (.cells #[.nilFunc, .nilFunc, .slice none 0 0] 117)) v2.heap.size 117 #[.nilFunc, .nilFunc, .slice none 0 0] := Blk.new v2 _ _
    have hgl0 := hBx.size
    obtain ⟨v3, he⟩ : ∃ x, (v2.alloc (.cells #[.nilFunc, .nilFunc, .slice none 0 0] 117)) = x := ⟨_, rfl⟩
    obtain ⟨gr, hgr⟩ : ∃ x, v2.heap.size = x := ⟨_, rfl⟩
    rw [he] at hB bR
    rw [hgr] at bR
    replace hBx := below_in hBx hB
    clear hS
    have hS : (fun U : World => U.cell? ⟨g0, 0, none⟩ = some (.int .i64 (P : Int)) ∧ U.cell? ⟨g0, 1, none⟩ = some (.slice (some ⟨gl, 0, none⟩) 2 2) ∧ U.cell? ⟨g0, 2, none⟩ = some (.slice (some ⟨gc, co, none⟩) N cc) ∧ U.cell? ⟨g0, 3, none⟩ = some (.slice nA n nc)) v3 := HSS.out _ hBx
    gi_wp2
    (try rw [hgr]); (try rw [he])
    try (refine ⟨hS, ?_⟩)
    have hAl := hB
    clear hB he
    refine anyHF_one (i := 6) (by kernel_rfl) rfl (by kernel_rfl) (by rfl) ?_
    have hn0 : ¬ gr = g0 := by have := HL0.out; omega
    have hn1 : ¬ g0 = gr := fun e => hn0 e.symm
    have k0 : v3.cell? ⟨gr, 0, none⟩ = some .nilFunc := bR.cell 0
    have k1 : v3.cell? ⟨gr, 1, none⟩ = some .nilFunc := bR.cell 1
    have k2 : v3.cell? ⟨gr, 2, none⟩ = some (.slice none 0 0) := bR.cell 2
    have f0 := bR.frozen 0
    have f1_ := bR.frozen 1
    have f2_ := bR.frozen 2
    have yR : Blk (((v3.setCell ⟨gr, 0, none⟩ (.func (.func 109) #[] #[.pointer (some ⟨gt4, 0, none⟩), .pointer (some ⟨gt1, 0, none⟩), .pointer (some ⟨gt5, 0, none⟩)])).setCell ⟨gr, 1, none⟩ (.func (.func 111) #[] #[.pointer (some ⟨gt3, 0, none⟩)])).setCell ⟨gr, 2, none⟩ (.slice nA n nc)) gr 117 #[.func (.func 109) #[] #[.pointer (some ⟨gt4, 0, none⟩), .pointer (some ⟨gt1, 0, none⟩), .pointer (some ⟨gt5, 0, none⟩)], .func (.func 111) #[] #[.pointer (some ⟨gt3, 0, none⟩)], .slice nA n nc] := ((bR.set_ 0 _).set_ 1 _).set_ 2 _
    have hkz : ∀ b, b ≠ gr → (((v3.setCell ⟨gr, 0, none⟩ (.func (.func 109) #[] #[.pointer (some ⟨gt4, 0, none⟩), .pointer (some ⟨gt1, 0, none⟩), .pointer (some ⟨gt5, 0, none⟩)])).setCell ⟨gr, 1, none⟩ (.func (.func 111) #[] #[.pointer (some ⟨gt3, 0, none⟩)])).setCell ⟨gr, 2, none⟩ (.slice nA n nc)).heap[b]? = v3.heap[b]? := fun b hb => ((Below.heap_setCell _ ⟨gr, 2, none⟩ _ b hb).trans (Below.heap_setCell _ ⟨gr, 1, none⟩ _ b hb)).trans (Below.heap_setCell _ ⟨gr, 0, none⟩ _ b hb)
    have hBz : Below w0.heap.size w0 (((v3.setCell ⟨gr, 0, none⟩ (.func (.func 109) #[] #[.pointer (some ⟨gt4, 0, none⟩), .pointer (some ⟨gt1, 0, none⟩), .pointer (some ⟨gt5, 0, none⟩)])).setCell ⟨gr, 1, none⟩ (.func (.func 111) #[] #[.pointer (some ⟨gt3, 0, none⟩)])).setCell ⟨gr, 2, none⟩ (.slice nA n nc)) := ((hBx.setCell (by show w0.heap.size ≤ gr; omega) _).setCell (by show w0.heap.size ≤ gr; omega) _).setCell (by show w0.heap.size ≤ gr; omega) _
    have hzz : (((v3.setCell ⟨gr, 0, none⟩ (.func (.func 109) #[] #[.pointer (some ⟨gt4, 0, none⟩), .pointer (some ⟨gt1, 0, none⟩), .pointer (some ⟨gt5, 0, none⟩)])).setCell ⟨gr, 1, none⟩ (.func (.func 111) #[] #[.pointer (some ⟨gt3, 0, none⟩)])).setCell ⟨gr, 2, none⟩ (.slice nA n nc)).heap.size = v3.heap.size := by simp
    obtain ⟨X1, hX1⟩ : ∃ x, (((v3.setCell ⟨gr, 0, none⟩ (.func (.func 109) #[] #[.pointer (some ⟨gt4, 0, none⟩), .pointer (some ⟨gt1, 0, none⟩), .pointer (some ⟨gt5, 0, none⟩)])).setCell ⟨gr, 1, none⟩ (.func (.func 111) #[] #[.pointer (some ⟨gt3, 0, none⟩)])).setCell ⟨gr, 2, none⟩ (.slice nA n nc)) = x := ⟨_, rfl⟩
    rw [hX1] at yR hkz hBz hzz
    gi_wp2
    (try rw [hX1])
    clear hX1 k0 k1 k2 f0 f1_ f2_ hS
    have hS : (fun U : World => U.cell? ⟨g0, 0, none⟩ = some (.int .i64 (P : Int)) ∧ U.cell? ⟨g0, 1, none⟩ = some (.slice (some ⟨gl, 0, none⟩) 2 2) ∧ U.cell? ⟨g0, 2, none⟩ = some (.slice (some ⟨gc, co, none⟩) N cc) ∧ U.cell? ⟨g0, 3, none⟩ = some (.slice nA n nc)) X1 := HSS.out _ hBz
    try (refine ⟨hS, ?_⟩)
    refine anyHF_done (by kernel_rfl) ?_ _
    refine NoPanic.normal ?_
    clear hS
    have HST : Hid (StayT w0 v2 (fun _ => False) X1) := ⟨hBz, by rw [hzz]; exact hAl.size, fun b h1 _ => (hkz b (by omega)).trans (hAl.block b h1)⟩
    have HEg : Hid (v2.heap.size ≤ gr ∨ (fun _ => False) gr) := .inl (Nat.le_of_eq hgr)
    have HTS := Lib.hid (SumsT.imp (S1 := StayT w0 v2 (fun _ => False)) HTW.out (fun V hV => ⟨HALL.out.2.2.2.2.2.2.1.next (below_in HALL.out.2.2.2.2.2.2.2.2.2.2.2.2.1 hV.1), hV.2.1, hV.2.2⟩))
    have HXL : Hid (v2.heap.size ≤ X1.heap.size ∧ w0.heap.size ≤ gr ∧ gr < X1.heap.size) := ⟨by rw [hzz]; exact hAl.size, by omega, yR.lt⟩
    have hBd := (Below.refl X1.heap.size X1).drew
    replace yR := yR.below hBd yR.lt
    clear hBx hkz hzz hgl0 hgr bR hn0 hn1 hAl HTW
    have hent := enter_cell
    gi_wp2_with fail
    have HCH := HCH0
    have hBx := hBz.drew
    clear hBz hBd
    have HSX : Hid (∀ V, Below w0.heap.size w0 V → (fun U : World => U.cell? ⟨g0, 0, none⟩ = some (.int .i64 (P : Int)) ∧ U.cell? ⟨g0, 1, none⟩ = some (.slice (some ⟨gl, 0, none⟩) 2 2)) V) := fun V hV => ⟨(HSS.out V hV).1, (HSS.out V hV).2.1⟩
    clear HSS
    have HSS := HSX
    have hS : (fun U : World => U.cell? ⟨g0, 0, none⟩ = some (.int .i64 (P : Int)) ∧ U.cell? ⟨g0, 1, none⟩ = some (.slice (some ⟨gl, 0, none⟩) 2 2)) X1.drew := HSS.out _ hBx
    refine wpIn_mono (region_HF (Q := NoPanic _) (S := (fun U : World => U.cell? ⟨g0, 0, none⟩ = some (.int .i64 (P : Int)) ∧ U.cell? ⟨g0, 1, none⟩ = some (.slice (some ⟨gl, 0, none⟩) 2 2))) (by kernel_rfl) ?_) NoPanic.imp
    refine anyHF_take (i := 0) (d := 9) (v := .pointer (some ⟨g0, 0, none⟩)) (by kernel_rfl) rfl (by kernel_rfl) (by kernel_rfl) (by kernel_rfl) rfl (fun _ _ _ h => h) ⟨Or.inl ⟨by rfl, fun w hS => by obtain ⟨h0, h1⟩ := hS; go_simp⟩, fun _ => rfl⟩ hS ?_
    simp only [List.setIfInBounds_toArray, List.set_cons_zero, List.set_cons_succ]
    refine anyHF_take (i := 1) (d := 10) (v := .agg #[.int .i64 (P : Int), .slice (some ⟨gl, 0, none⟩) 2 2]) (by kernel_rfl) rfl (by kernel_rfl) (by kernel_rfl) (by kernel_rfl) rfl (fun _ _ _ h => h) ⟨Or.inl ⟨by rfl, fun w hS => by obtain ⟨h0, h1⟩ := hS; go_simp⟩, fun _ => rfl⟩ hS ?_
    simp only [List.setIfInBounds_toArray, List.set_cons_zero, List.set_cons_succ]
    refine anyHF_take (i := 2) (d := 11) (v := .pointer (some ⟨g0, 0, none⟩)) (by kernel_rfl) rfl (by kernel_rfl) (by kernel_rfl) (by kernel_rfl) rfl (fun _ _ _ h => h) ⟨Or.inl ⟨by rfl, fun w hS => by obtain ⟨h0, h1⟩ := hS; go_simp⟩, fun _ => rfl⟩ hS ?_
    simp only [List.setIfInBounds_toArray, List.set_cons_zero, List.set_cons_succ]
    refine anyHF_take (i := 3) (d := 12) (v := .agg #[.int .i64 (P : Int), .slice (some ⟨gl, 0, none⟩) 2 2]) (by kernel_rfl) rfl (by kernel_rfl) (by kernel_rfl) (by kernel_rfl) rfl (fun _ _ _ h => h) ⟨Or.inl ⟨by rfl, fun w hS => by obtain ⟨h0, h1⟩ := hS; go_simp⟩, fun _ => rfl⟩ hS ?_
    simp only [List.setIfInBounds_toArray, List.set_cons_zero, List.set_cons_succ]
    refine anyHF_take (i := 5) (d := 14) (v := .func (.func 83) #[.pointer (some ⟨gr, 0, none⟩)] #[]) (by kernel_rfl) rfl (by kernel_rfl) (by kernel_rfl) (by kernel_rfl) rfl (fun _ _ _ h => h) ⟨Or.inl ⟨by rfl, fun w hS => by obtain ⟨h0, h1⟩ := hS; go_simp⟩, fun _ => rfl⟩ hS ?_
    simp only [List.setIfInBounds_toArray, List.set_cons_zero, List.set_cons_succ]
    refine anyHF_one (i := 4) (by kernel_rfl) rfl (by kernel_rfl) (by rfl) ?_
    gi_wp2_with fail
    refine ⟨trivial, (callsIn_wide.2 (HCH.out _ hBx)).mono ?_⟩
    rintro e v101 ⟨vch, rfl, hCT, hB⟩
    have hCTh := Lib.hid hCT
    obtain ⟨gf, lb, rfl, _⟩ := id hCT
    clear hCT
    have HBc := Lib.hid hB
    replace yR := yR.below hB yR.lt
    replace hBx := below_in hBx hB
    clear hS
    have hS : (fun U : World => U.cell? ⟨g0, 0, none⟩ = some (.int .i64 (P : Int)) ∧ U.cell? ⟨g0, 1, none⟩ = some (.slice (some ⟨gl, 0, none⟩) 2 2)) v101 := HSS.out _ hBx
    clear hB
    gi_wp2
    try (refine ⟨hS, ?_⟩)
    refine anyHF_one (i := 6) (by kernel_rfl) rfl (by kernel_rfl) (by rfl) ?_
    have HG9 := gatheredB_any HALL.out.1 HALL.out.2.2.2.2.2.1.1 HALL.out.2.2.2.2.2.1.2 HTS.out X1.drew.heap.size a b ⟨by have := HALL.out.2.1; omega, by have := HALL.out; omega⟩ ⟨by have := HALL.out; omega, by have := HALL.out; omega⟩ rs HRL.out _ v101 HBc.out.size hCTh.out gr HXL.out.2.1 HXL.out.2.2 hBx (fun X Y h hb => h.one hb) (fun X Y row h hg hr => h.two hg hr (Nat.le_trans HXL.out.2.1 (Nat.le_of_lt HXL.out.2.2)) HXL.out.1) (fun X p u h hp => h.three hp (Nat.le_trans HXL.out.2.1 (Nat.le_of_lt HXL.out.2.2)) HXL.out.1 HXL.out.2.1 HEg.out) (HST.out.one (below_undrew HBc.out)) nA nc yR (HNO.out _ hBx)
    gi_wp2_with fail
    refine ⟨trivial, (callsIn_wide.2 HG9).mono ?_⟩
    rintro e v102 ⟨At, c1, rfl, hMt, hB9⟩
    clear HG9
    obtain ⟨gt, ot, us, rfl, _, hgt, hul, hus, _, _⟩ := many_form hMt (by have := HRQ.out; omega) (by rw [toldF_len, chn_len])
    have HUS := Lib.hid (And.intro hgt (And.intro hul hus))
    clear hgt hul hus hMt yR hBx
    have hBx := hB9
    clear hB9
    clear hS
    have hS : (fun U : World => U.cell? ⟨g0, 0, none⟩ = some (.int .i64 (P : Int)) ∧ U.cell? ⟨g0, 1, none⟩ = some (.slice (some ⟨gl, 0, none⟩) 2 2)) v102 := HSS.out _ hBx
    gi_wp2
    try (refine ⟨hS, ?_⟩)
    refine anyHF_one (i := 7) (by kernel_rfl) rfl (by kernel_rfl) (by rfl) ?_
    have HC9 := columns_any HALL.out.1.hQ HALL.out.1.hp a b ⟨by have := HALL.out; omega, by have := HALL.out; omega⟩ ⟨by have := HALL.out; omega, by have := HALL.out; omega⟩ (by have := HALL.out; omega) rs HRS.out HRL.out gl gt ot (2 * rs.length) c1 us rfl HUS.out.2.1 (fun u hu => by obtain ⟨j, hj⟩ := List.getElem?_of_mem hu; obtain ⟨A2, c2, e2, _⟩ := (HUS.out.2.2 j u hj).2; exact ⟨A2, _, c2, e2⟩) v102 (HALL.out.2.2.2.2.2.2.1.next (below_in HALL.out.2.2.2.2.2.2.2.2.2.2.2.2.1 hBx)) (Nat.lt_of_lt_of_le HALL.out.2.2.2.2.2.2.2.1 (below_in HALL.out.2.2.2.2.2.2.2.2.2.2.2.2.1 hBx).size) HUS.out.1 (((below_in HALL.out.2.2.2.2.2.2.2.2.2.2.2.2.1 hBx).cell (p := ⟨gl, 0, none⟩) HALL.out.2.2.2.2.2.2.2.1).trans HALL.out.2.2.2.2.2.2.2.2.1) (((below_in HALL.out.2.2.2.2.2.2.2.2.2.2.2.2.1 hBx).cell (p := ⟨gl, 1, none⟩) HALL.out.2.2.2.2.2.2.2.1).trans HALL.out.2.2.2.2.2.2.2.2.2.1) (fun j u hj => (HUS.out.2.2 j u hj).1)
    gi_wp2_with fail
    refine ⟨trivial, (callsIn_wide.2 (HC9)).mono ?_⟩
    rintro e v103 ⟨gC, rfl, hCo, hB⟩
    have hFIN := fill_cols HALL.out.1 HALL.out.2.2.2.2.2.1.1 HALL.out.2.2.2.2.2.1.2 HALL.out.2.2.2.2.1 HAB.out HRS.out (W := v103) (fun j u hj => ((HUS.out.2.2 j u hj).2.below hB).more hB.size) HUS.out.2.1 hCo
    clear HC9 hCo
    replace hBx := below_in hBx hB
    clear hS
    have hS : (fun U : World => U.cell? ⟨g0, 0, none⟩ = some (.int .i64 (P : Int)) ∧ U.cell? ⟨g0, 1, none⟩ = some (.slice (some ⟨gl, 0, none⟩) 2 2)) v103 := HSS.out _ hBx
    clear hB
    gi_wp2
    try (refine ⟨hS, ?_⟩)
    refine anyHF_one (i := 8) (by kernel_rfl) rfl (by kernel_rfl) (by rfl) ?_
    gi_wp2
    refine anyHF_done (by kernel_rfl) ?_ _
    refine NoPanic.normal ?_
    clear hS
    gi_wp2_with fail
    exact ⟨.slice (some ⟨gC, 0, none⟩) 2 2, by simp [results, Tryz.results42, go_sem], gC, rfl, hFIN, below_in HALL.out.2.2.2.2.2.2.2.2.2.2.2.2.1 hBx⟩
  case c1b =>
    have hB : Below w0.drew.heap.size w0.drew (w0.drew.alloc (.cells #[.nilFunc, .nilFunc, .slice none 0 0] 117)) := below_one w0.drew _
    have bR : Blk (w0.drew.alloc (.cells #[.nilFunc, .nilFunc, .slice none 0 0] 117)) w0.drew.heap.size 117 #[.nilFunc, .nilFunc, .slice none 0 0] := Blk.new w0.drew _ _
    have hgl0 := hBx.size
    obtain ⟨v4, he⟩ : ∃ x, (w0.drew.alloc (.cells #[.nilFunc, .nilFunc, .slice none 0 0] 117)) = x := ⟨_, rfl⟩
    obtain ⟨gr, hgr⟩ : ∃ x, w0.drew.heap.size = x := ⟨_, rfl⟩
    rw [he] at hB bR
    rw [hgr] at bR
    replace hBx := below_in hBx hB
    clear hS
    have hS : (fun U : World => U.cell? ⟨g0, 0, none⟩ = some (.int .i64 (P : Int)) ∧ U.cell? ⟨g0, 1, none⟩ = some (.slice (some ⟨gl, 0, none⟩) 2 2) ∧ U.cell? ⟨g0, 2, none⟩ = some (.slice (some ⟨gc, co, none⟩) N cc) ∧ U.cell? ⟨g0, 3, none⟩ = some (.slice nA n nc)) v4 := HSS.out _ hBx
    gi_wp2
    (try rw [hgr]); (try rw [he])
    try (refine ⟨hS, ?_⟩)
    have hAl := hB
    clear hB he
    refine anyHF_one (i := 1) (by kernel_rfl) rfl (by kernel_rfl) (by rfl) ?_
    gi_wp2_with fail
    refine ⟨trivial, (callsIn_wide.2 (HSU.out _ hBx (fun b => b = gr) (fun b e => ⟨_, by subst e; exact bR⟩))).mono ?_⟩
    rintro e v5 ⟨f1, f2, rfl, hT, hB⟩
    have hTw := hT
    obtain ⟨gt4, gt1, gt5, gt3, rfl, rfl, _⟩ := id hT
    clear hT
    obtain ⟨ws, hws⟩ : ∃ x, v5 = x := ⟨_, rfl⟩
    have HWS := Lib.hid hws
    clear hws
    have HTW := Lib.hid hTw
    clear hTw
    replace bR := bR.below hB bR.lt
    replace hBx := below_in hBx hB
    clear hS
    have hS : (fun U : World => U.cell? ⟨g0, 0, none⟩ = some (.int .i64 (P : Int)) ∧ U.cell? ⟨g0, 1, none⟩ = some (.slice (some ⟨gl, 0, none⟩) 2 2) ∧ U.cell? ⟨g0, 2, none⟩ = some (.slice (some ⟨gc, co, none⟩) N cc) ∧ U.cell? ⟨g0, 3, none⟩ = some (.slice nA n nc)) v5 := HSS.out _ hBx
    clear hB
    gi_wp2
    try (refine ⟨hS, ?_⟩)
    refine anyHF_take (i := 4) (d := 8) (v := .agg #[.func (.func 109) #[] #[.pointer (some ⟨gt4, 0, none⟩), .pointer (some ⟨gt1, 0, none⟩), .pointer (some ⟨gt5, 0, none⟩)], .func (.func 111) #[] #[.pointer (some ⟨gt3, 0, none⟩)], .slice nA n nc]) (by kernel_rfl) rfl (by kernel_rfl) (by kernel_rfl) (by kernel_rfl) rfl (fun _ _ _ h => h) ⟨Or.inl ⟨by rfl, fun w hS => by obtain ⟨h0, h1, h2, h3⟩ := hS; go_simp⟩, fun _ => rfl⟩ hS ?_
    simp only [List.setIfInBounds_toArray, List.set_cons_zero, List.set_cons_succ]
    refine anyHF_one (i := 6) (by kernel_rfl) rfl (by kernel_rfl) (by rfl) ?_
    have hn0 : ¬ gr = g0 := by have := HL0.out; omega
    have hn1 : ¬ g0 = gr := fun e => hn0 e.symm
    have k0 : v5.cell? ⟨gr, 0, none⟩ = some .nilFunc := bR.cell 0
    have k1 : v5.cell? ⟨gr, 1, none⟩ = some .nilFunc := bR.cell 1
    have k2 : v5.cell? ⟨gr, 2, none⟩ = some (.slice none 0 0) := bR.cell 2
    have f0 := bR.frozen 0
    have f1_ := bR.frozen 1
    have f2_ := bR.frozen 2
    have yR : Blk (((v5.setCell ⟨gr, 0, none⟩ (.func (.func 109) #[] #[.pointer (some ⟨gt4, 0, none⟩), .pointer (some ⟨gt1, 0, none⟩), .pointer (some ⟨gt5, 0, none⟩)])).setCell ⟨gr, 1, none⟩ (.func (.func 111) #[] #[.pointer (some ⟨gt3, 0, none⟩)])).setCell ⟨gr, 2, none⟩ (.slice nA n nc)) gr 117 #[.func (.func 109) #[] #[.pointer (some ⟨gt4, 0, none⟩), .pointer (some ⟨gt1, 0, none⟩), .pointer (some ⟨gt5, 0, none⟩)], .func (.func 111) #[] #[.pointer (some ⟨gt3, 0, none⟩)], .slice nA n nc] := ((bR.set_ 0 _).set_ 1 _).set_ 2 _
    have hkz : ∀ b, b ≠ gr → (((v5.setCell ⟨gr, 0, none⟩ (.func (.func 109) #[] #[.pointer (some ⟨gt4, 0, none⟩), .pointer (some ⟨gt1, 0, none⟩), .pointer (some ⟨gt5, 0, none⟩)])).setCell ⟨gr, 1, none⟩ (.func (.func 111) #[] #[.pointer (some ⟨gt3, 0, none⟩)])).setCell ⟨gr, 2, none⟩ (.slice nA n nc)).heap[b]? = v5.heap[b]? := fun b hb => ((Below.heap_setCell _ ⟨gr, 2, none⟩ _ b hb).trans (Below.heap_setCell _ ⟨gr, 1, none⟩ _ b hb)).trans (Below.heap_setCell _ ⟨gr, 0, none⟩ _ b hb)
    have hBz : Below w0.heap.size w0 (((v5.setCell ⟨gr, 0, none⟩ (.func (.func 109) #[] #[.pointer (some ⟨gt4, 0, none⟩), .pointer (some ⟨gt1, 0, none⟩), .pointer (some ⟨gt5, 0, none⟩)])).setCell ⟨gr, 1, none⟩ (.func (.func 111) #[] #[.pointer (some ⟨gt3, 0, none⟩)])).setCell ⟨gr, 2, none⟩ (.slice nA n nc)) := ((hBx.setCell (by show w0.heap.size ≤ gr; omega) _).setCell (by show w0.heap.size ≤ gr; omega) _).setCell (by show w0.heap.size ≤ gr; omega) _
    have hzz : (((v5.setCell ⟨gr, 0, none⟩ (.func (.func 109) #[] #[.pointer (some ⟨gt4, 0, none⟩), .pointer (some ⟨gt1, 0, none⟩), .pointer (some ⟨gt5, 0, none⟩)])).setCell ⟨gr, 1, none⟩ (.func (.func 111) #[] #[.pointer (some ⟨gt3, 0, none⟩)])).setCell ⟨gr, 2, none⟩ (.slice nA n nc)).heap.size = v5.heap.size := by simp
    obtain ⟨X1, hX1⟩ : ∃ x, (((v5.setCell ⟨gr, 0, none⟩ (.func (.func 109) #[] #[.pointer (some ⟨gt4, 0, none⟩), .pointer (some ⟨gt1, 0, none⟩), .pointer (some ⟨gt5, 0, none⟩)])).setCell ⟨gr, 1, none⟩ (.func (.func 111) #[] #[.pointer (some ⟨gt3, 0, none⟩)])).setCell ⟨gr, 2, none⟩ (.slice nA n nc)) = x := ⟨_, rfl⟩
    rw [hX1] at yR hkz hBz hzz
    gi_wp2
    (try rw [hX1])
    clear hX1 k0 k1 k2 f0 f1_ f2_ hS
    have hS : (fun U : World => U.cell? ⟨g0, 0, none⟩ = some (.int .i64 (P : Int)) ∧ U.cell? ⟨g0, 1, none⟩ = some (.slice (some ⟨gl, 0, none⟩) 2 2) ∧ U.cell? ⟨g0, 2, none⟩ = some (.slice (some ⟨gc, co, none⟩) N cc) ∧ U.cell? ⟨g0, 3, none⟩ = some (.slice nA n nc)) X1 := HSS.out _ hBz
    try (refine ⟨hS, ?_⟩)
    refine anyHF_done (by kernel_rfl) ?_ _
    refine NoPanic.normal ?_
    clear hS
    have HST : Hid (StayT w0 v5 (fun b => b = gr) X1) := ⟨hBz, by rw [hzz]; exact Nat.le_refl _, fun b h1 h2 => hkz b h2⟩
    have HEg : Hid (v5.heap.size ≤ gr ∨ (fun b => b = gr) gr) := .inr rfl
    have HTS := Lib.hid (SumsT.imp (S1 := StayT w0 v5 (fun b => b = gr)) HTW.out (fun V hV => ⟨HALL.out.2.2.2.2.2.2.1.next (below_in HALL.out.2.2.2.2.2.2.2.2.2.2.2.2.1 hV.1), hV.2.1, hV.2.2⟩))
    have HXL : Hid (v5.heap.size ≤ X1.heap.size ∧ w0.heap.size ≤ gr ∧ gr < X1.heap.size) := ⟨by rw [hzz]; exact Nat.le_refl _, by omega, yR.lt⟩
    have hBd := (Below.refl X1.heap.size X1).drew
    replace yR := yR.below hBd yR.lt
    clear hBx hkz hzz hgl0 hgr bR hn0 hn1 hAl HTW
    have hent := enter_cell
    gi_wp2_with fail
    have HCH := HCH0
    have hBx := hBz.drew
    clear hBz hBd
    have HSX : Hid (∀ V, Below w0.heap.size w0 V → (fun U : World => U.cell? ⟨g0, 0, none⟩ = some (.int .i64 (P : Int)) ∧ U.cell? ⟨g0, 1, none⟩ = some (.slice (some ⟨gl, 0, none⟩) 2 2)) V) := fun V hV => ⟨(HSS.out V hV).1, (HSS.out V hV).2.1⟩
    clear HSS
    have HSS := HSX
    have hS : (fun U : World => U.cell? ⟨g0, 0, none⟩ = some (.int .i64 (P : Int)) ∧ U.cell? ⟨g0, 1, none⟩ = some (.slice (some ⟨gl, 0, none⟩) 2 2)) X1.drew := HSS.out _ hBx
    refine wpIn_mono (region_HF (Q := NoPanic _) (S := (fun U : World => U.cell? ⟨g0, 0, none⟩ = some (.int .i64 (P : Int)) ∧ U.cell? ⟨g0, 1, none⟩ = some (.slice (some ⟨gl, 0, none⟩) 2 2))) (by kernel_rfl) ?_) NoPanic.imp
    refine anyHF_take (i := 0) (d := 9) (v := .pointer (some ⟨g0, 0, none⟩)) (by kernel_rfl) rfl (by kernel_rfl) (by kernel_rfl) (by kernel_rfl) rfl (fun _ _ _ h => h) ⟨Or.inl ⟨by rfl, fun w hS => by obtain ⟨h0, h1⟩ := hS; go_simp⟩, fun _ => rfl⟩ hS ?_
    simp only [List.setIfInBounds_toArray, List.set_cons_zero, List.set_cons_succ]
    refine anyHF_take (i := 1) (d := 10) (v := .agg #[.int .i64 (P : Int), .slice (some ⟨gl, 0, none⟩) 2 2]) (by kernel_rfl) rfl (by kernel_rfl) (by kernel_rfl) (by kernel_rfl) rfl (fun _ _ _ h => h) ⟨Or.inl ⟨by rfl, fun w hS => by obtain ⟨h0, h1⟩ := hS; go_simp⟩, fun _ => rfl⟩ hS ?_
    simp only [List.setIfInBounds_toArray, List.set_cons_zero, List.set_cons_succ]
    refine anyHF_take (i := 2) (d := 11) (v := .pointer (some ⟨g0, 0, none⟩)) (by kernel_rfl) rfl (by kernel_rfl) (by kernel_rfl) (by kernel_rfl) rfl (fun _ _ _ h => h) ⟨Or.inl ⟨by rfl, fun w hS => by obtain ⟨h0, h1⟩ := hS; go_simp⟩, fun _ => rfl⟩ hS ?_
    simp only [List.setIfInBounds_toArray, List.set_cons_zero, List.set_cons_succ]
    refine anyHF_take (i := 3) (d := 12) (v := .agg #[.int .i64 (P : Int), .slice (some ⟨gl, 0, none⟩) 2 2]) (by kernel_rfl) rfl (by kernel_rfl) (by kernel_rfl) (by kernel_rfl) rfl (fun _ _ _ h => h) ⟨Or.inl ⟨by rfl, fun w hS => by obtain ⟨h0, h1⟩ := hS; go_simp⟩, fun _ => rfl⟩ hS ?_
    simp only [List.setIfInBounds_toArray, List.set_cons_zero, List.set_cons_succ]
    refine anyHF_take (i := 5) (d := 14) (v := .func (.func 83) #[.pointer (some ⟨gr, 0, none⟩)] #[]) (by kernel_rfl) rfl (by kernel_rfl) (by kernel_rfl) (by kernel_rfl) rfl (fun _ _ _ h => h) ⟨Or.inl ⟨by rfl, fun w hS => by obtain ⟨h0, h1⟩ := hS; go_simp⟩, fun _ => rfl⟩ hS ?_
    simp only [List.setIfInBounds_toArray, List.set_cons_zero, List.set_cons_succ]
    refine anyHF_one (i := 4) (by kernel_rfl) rfl (by kernel_rfl) (by rfl) ?_
    gi_wp2_with fail
    refine ⟨trivial, (callsIn_wide.2 (HCH.out _ hBx)).mono ?_⟩
    rintro e v201 ⟨vch, rfl, hCT, hB⟩
    have hCTh := Lib.hid hCT
    obtain ⟨gf, lb, rfl, _⟩ := id hCT
    clear hCT
    have HBc := Lib.hid hB
    replace yR := yR.below hB yR.lt
    replace hBx := below_in hBx hB
    clear hS
    have hS : (fun U : World => U.cell? ⟨g0, 0, none⟩ = some (.int .i64 (P : Int)) ∧ U.cell? ⟨g0, 1, none⟩ = some (.slice (some ⟨gl, 0, none⟩) 2 2)) v201 := HSS.out _ hBx
    clear hB
    gi_wp2
    try (refine ⟨hS, ?_⟩)
    refine anyHF_one (i := 6) (by kernel_rfl) rfl (by kernel_rfl) (by rfl) ?_
    have HG9 := gatheredB_any HALL.out.1 HALL.out.2.2.2.2.2.1.1 HALL.out.2.2.2.2.2.1.2 HTS.out X1.drew.heap.size a b ⟨by have := HALL.out.2.1; omega, by have := HALL.out; omega⟩ ⟨by have := HALL.out; omega, by have := HALL.out; omega⟩ rs HRL.out _ v201 HBc.out.size hCTh.out gr HXL.out.2.1 HXL.out.2.2 hBx (fun X Y h hb => h.one hb) (fun X Y row h hg hr => h.two hg hr (Nat.le_trans HXL.out.2.1 (Nat.le_of_lt HXL.out.2.2)) HXL.out.1) (fun X p u h hp => h.three hp (Nat.le_trans HXL.out.2.1 (Nat.le_of_lt HXL.out.2.2)) HXL.out.1 HXL.out.2.1 (.inr rfl)) (HST.out.one (below_undrew HBc.out)) nA nc yR (HNO.out _ hBx)
    gi_wp2_with fail
    refine ⟨trivial, (callsIn_wide.2 HG9).mono ?_⟩
    rintro e v202 ⟨At, c1, rfl, hMt, hB9⟩
    clear HG9
    obtain ⟨gt, ot, us, rfl, _, hgt, hul, hus, _, _⟩ := many_form hMt (by have := HRQ.out; omega) (by rw [toldF_len, chn_len])
    have HUS := Lib.hid (And.intro hgt (And.intro hul hus))
    clear hgt hul hus hMt yR hBx
    have hBx := hB9
    clear hB9
    clear hS
    have hS : (fun U : World => U.cell? ⟨g0, 0, none⟩ = some (.int .i64 (P : Int)) ∧ U.cell? ⟨g0, 1, none⟩ = some (.slice (some ⟨gl, 0, none⟩) 2 2)) v202 := HSS.out _ hBx
    gi_wp2
    try (refine ⟨hS, ?_⟩)
    refine anyHF_one (i := 7) (by kernel_rfl) rfl (by kernel_rfl) (by rfl) ?_
    have HC9 := columns_any HALL.out.1.hQ HALL.out.1.hp a b ⟨by have := HALL.out; omega, by have := HALL.out; omega⟩ ⟨by have := HALL.out; omega, by have := HALL.out; omega⟩ (by have := HALL.out; omega) rs HRS.out HRL.out gl gt ot (2 * rs.length) c1 us rfl HUS.out.2.1 (fun u hu => by obtain ⟨j, hj⟩ := List.getElem?_of_mem hu; obtain ⟨A2, c2, e2, _⟩ := (HUS.out.2.2 j u hj).2; exact ⟨A2, _, c2, e2⟩) v202 (HALL.out.2.2.2.2.2.2.1.next (below_in HALL.out.2.2.2.2.2.2.2.2.2.2.2.2.1 hBx)) (Nat.lt_of_lt_of_le HALL.out.2.2.2.2.2.2.2.1 (below_in HALL.out.2.2.2.2.2.2.2.2.2.2.2.2.1 hBx).size) HUS.out.1 (((below_in HALL.out.2.2.2.2.2.2.2.2.2.2.2.2.1 hBx).cell (p := ⟨gl, 0, none⟩) HALL.out.2.2.2.2.2.2.2.1).trans HALL.out.2.2.2.2.2.2.2.2.1) (((below_in HALL.out.2.2.2.2.2.2.2.2.2.2.2.2.1 hBx).cell (p := ⟨gl, 1, none⟩) HALL.out.2.2.2.2.2.2.2.1).trans HALL.out.2.2.2.2.2.2.2.2.2.1) (fun j u hj => (HUS.out.2.2 j u hj).1)
    gi_wp2_with fail
    refine ⟨trivial, (callsIn_wide.2 (HC9)).mono ?_⟩
    rintro e v203 ⟨gC, rfl, hCo, hB⟩
    have hFIN := fill_cols HALL.out.1 HALL.out.2.2.2.2.2.1.1 HALL.out.2.2.2.2.2.1.2 HALL.out.2.2.2.2.1 HAB.out HRS.out (W := v203) (fun j u hj => ((HUS.out.2.2 j u hj).2.below hB).more hB.size) HUS.out.2.1 hCo
    clear HC9 hCo
    replace hBx := below_in hBx hB
    clear hS
    have hS : (fun U : World => U.cell? ⟨g0, 0, none⟩ = some (.int .i64 (P : Int)) ∧ U.cell? ⟨g0, 1, none⟩ = some (.slice (some ⟨gl, 0, none⟩) 2 2)) v203 := HSS.out _ hBx
    clear hB
    gi_wp2
    try (refine ⟨hS, ?_⟩)
    refine anyHF_one (i := 8) (by kernel_rfl) rfl (by kernel_rfl) (by rfl) ?_
    gi_wp2
    refine anyHF_done (by kernel_rfl) ?_ _
    refine NoPanic.normal ?_
    clear hS
    gi_wp2_with fail
    exact ⟨.slice (some ⟨gC, 0, none⟩) 2 2, by simp [results, Tryz.results42, go_sem], gC, rfl, hFIN, below_in HALL.out.2.2.2.2.2.2.2.2.2.2.2.2.1 hBx⟩
end Go.Proofs.YthmkgdkfehgpkaaGreatDoor.T

