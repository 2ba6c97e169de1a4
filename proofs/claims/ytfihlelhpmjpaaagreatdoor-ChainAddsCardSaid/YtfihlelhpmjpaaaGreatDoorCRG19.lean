/- chain: the mathematics: the cells told are the lost ones. ring: the document's Turn. chain: the mathematics of the document's formula, and of what EVENODD made. chain: the columns filled are the lost  -/
import Derived.Test.YtfihlelhpmjpaaaGreatDoorCRG18
namespace Go.Proofs.YtfihlelhpmjpaaaGreatDoor.Ch
open Go.RowKit Go.Shelf Go.Proofs.YtfihlelhpmjpaaaGreatDoor.C Go.Proofs.YtfihlelhpmjpaaaGreatDoor.E Go.Proofs.YtfihlelhpmjpaaaGreatDoor.Rg Go.Proofs.YtfihlelhpmjpaaaGreatDoor.T
set_option linter.unusedSimpArgs false
set_option linter.unusedVariables false

theorem list_at {n : Nat} {a b : List UInt8} (ha : a.length = n) (hb : b.length = n) (h : ∀ j, at_ a j = at_ b j) : a = b := by
  refine List.ext_getElem (by omega) fun j h1 h2 => ?_
  have := h j
  unfold at_ at this
  rwa [List.getElem?_eq_getElem h1, List.getElem?_eq_getElem h2] at this
section
variable {P Q n : Nat} {R D A B : List (List UInt8)} {a b : Int}
theorem whole_app (hQ : P = Q + 1) (hR : GoodC Q n R) : (List.range P).map (wholeF Q n R) = R ++ [List.replicate n 0] := by
  refine List.ext_getElem? fun i => ?_
  rcases Nat.lt_or_ge i P with hi | hi
  · rw [List.getElem?_map, List.getElem?_range hi]
    show some (wholeF Q n R i) = _
    unfold wholeF
    rcases Nat.lt_or_ge i Q with h | h
    · rw [if_pos h, List.getElem?_append_left (by rw [hR.1]; exact h), List.getElem?_eq_getElem (by rw [hR.1]; exact h)]
      rfl
    · rw [if_neg (by omega), List.getElem?_append_right (by rw [hR.1]; exact h), hR.1, show i - Q = 0 by omega]
      rfl
  · rw [List.getElem?_eq_none (by simp; exact hi), List.getElem?_eq_none (by rw [List.length_append, hR.1]; simp; omega)]
theorem al_list (hQ : P = Q + 1) (hR : GoodC Q n R) (j : Nat) : xa (R.map (at_ · j)) = al P (Bt P Q n R j) := by
  have h := al_whole hQ hR j
  rw [whole_app hQ hR, at_xorOf (n := n) (by simp) (fun l hl => by
    rcases List.mem_append.1 hl with h | h
    · obtain ⟨i, hi, rfl⟩ := List.getElem_of_mem h
      have := (hR.2 i (by rw [← hR.1]; exact hi)).2
      rwa [List.getElem?_eq_getElem hi] at this
    · rw [List.mem_singleton.1 h]; simp), List.map_append, xa_append] at h
  rw [← h]
  simp [xa_cons, xa_nil, at_nought]
theorem adj_at (hQ : P = Q + 1) (hR : GoodC Q n R) (hD : GoodC Q n D) (hq : 0 < Q) (j : Nat) : at_ (adjF R D) j = al P (Bt P Q n R j) ^^^ al P (Bt P Q n D j) := by
  have hm : ∀ {c : List (List UInt8)}, GoodC Q n c → ∀ l ∈ c, l.length = n := fun {c} hc l hl => by
    obtain ⟨i, hi, rfl⟩ := List.getElem_of_mem hl
    have := (hc.2 i (by rw [← hc.1]; exact hi)).2
    rwa [List.getElem?_eq_getElem hi] at this
  unfold adjF
  rw [at_xorOf (n := n) (by rw [List.length_append, hR.1]; omega) (fun l hl => (List.mem_append.1 hl).elim (hm hR l) (hm hD l)), List.map_append, xa_append, al_list hQ hR, al_list hQ hD]
theorem adj_len (hR : GoodC Q n R) (hq : 0 < Q) : (adjF R D).length = n := by
  unfold adjF
  rw [xorOf_len, List.getElem?_append_left (by rw [hR.1]; exact hq)]
  exact (hR.2 0 hq).2
theorem step_even (hQ : P = Q + 1) (hR : GoodC Q n R) (hD : GoodC Q n D) (hq : 0 < Q) (k x y : Int) (hk : k % 2 = 0) (j : Nat) : at_ (stepF P Q n R D (k, x, y)) j = Bt P Q n D j (x + y) ^^^ (al P (Bt P Q n R j) ^^^ al P (Bt P Q n D j)) := by
  unfold stepF
  rw [if_pos hk, at_two (n := n) (whole_len hD _) (adj_len hR hq), adj_at hQ hR hD hq]
  rfl
theorem step_odd (hQ : P = Q + 1) (k x y : Int) (hk : ¬ k % 2 = 0) (hy : 0 ≤ y ∧ y < (P : Int) - 1) (j : Nat) : at_ (stepF P Q n R D (k, x, y)) j = Bt P Q n R j y := by
  unfold stepF
  rw [if_neg hk, bt_at hQ R j (i := y.toNat) (by omega) (by rw [Int.emod_eq_of_lt hy.1 (by omega)]; omega)]
/-- What is lost, by what rows and diagonals tell of it. -/
structure Solves (P Q n : Nat) (R D A B : List (List UInt8)) (a b : Int) : Prop where
  gA : GoodC Q n A
  gB : GoodC Q n B
  hR : ∀ j r, Bt P Q n R j r = Bt P Q n A j r ^^^ Bt P Q n B j r
  hD : ∀ j r, Bt P Q n D j r = tu a (Bt P Q n A j) r ^^^ tu b (Bt P Q n B j) r
theorem told_at (d : Dims P Q n) (hR : GoodC Q n R) (hD : GoodC Q n D) (h : Solves P Q n R D A B a b) (hab : (a - b) % (P : Int) ≠ 0) {rs : List Int} (hrs : rowsF (P : Int) (walkN (P : Int) ((P : Int) - 1) (a - b)) = rs) (j : Nat) :
    ∀ m, m < 2 * rs.length → at_ (aheadF P Q n R D ((chn a b rs).take (m + 1))) j = (if m % 2 = 0 then Bt P Q n B j (rs[m / 2]?.getD 0) else Bt P Q n A j (rs[m / 2]?.getD 0)) := by
  have hQ := d.hQ
  have hpb := prm_bounds d.hp
  have hq : 0 < Q := by omega
  have hra := rows_are hQ d.hp hab
  rw [hrs] at hra
  have hrl : rs.length = Q := by rw [hra]; simp
  have hri : ∀ i, i < Q → rs[i]?.getD 0 = ((P : Int) - 1 + ((i : Int) + 1) * (a - b)) % (P : Int) := fun i hi => by rw [hra, List.getElem?_map, List.getElem?_range hi]; rfl
  have hper : ∀ (c : List (List UInt8)) (r s : Int), r % (P : Int) = s % (P : Int) → Bt P Q n c j r = Bt P Q n c j s := fun c r s e => (Bt.per hQ c j).1 r s e
  have hgo : ∀ i, i < Q → 0 ≤ rs[i]?.getD 0 ∧ rs[i]?.getD 0 < (P : Int) - 1 := fun i hi => by
    have hm : rs[i]?.getD 0 ∈ rowsF (P : Int) (walkN (P : Int) ((P : Int) - 1) (a - b)) := by rw [hrs, List.getElem?_eq_getElem (by omega)]; exact List.getElem_mem _
    unfold rowsF at hm
    have hne := (List.mem_filter.1 hm).2
    have hne2 : rs[i]?.getD 0 ≠ (P : Int) - 1 := by simpa using hne
    have h0 := Int.emod_nonneg ((P : Int) - 1 + ((i : Int) + 1) * (a - b)) (show (P : Int) ≠ 0 by omega)
    have h1 := Int.emod_lt_of_pos ((P : Int) - 1 + ((i : Int) + 1) * (a - b)) (show (0 : Int) < (P : Int) by omega)
    rw [← hri i hi] at h0 h1
    omega
  have hback : ∀ i, i < Q → (rs[i]?.getD 0 - (a - b)) % (P : Int) = ((P : Int) - 1 + (i : Int) * (a - b)) % (P : Int) := fun i hi => by
    rw [hri i hi, Int.sub_emod, Int.emod_emod, ← Int.sub_emod, Int.add_mul, Int.one_mul]
    congr 1
    omega
  have hch : ∀ m, m < 2 * rs.length → (chn a b rs)[m]? = some ((m : Int), (if m % 2 = 0 then b else a), rs[m / 2]?.getD 0) := fun m hm => by
    unfold chn
    rw [List.getElem?_map, List.getElem?_range hm]
    rfl
  have hnext : ∀ m, m < 2 * rs.length → at_ (aheadF P Q n R D ((chn a b rs).take (m + 1))) j = at_ (aheadF P Q n R D ((chn a b rs).take m)) j ^^^ at_ (stepF P Q n R D ((m : Int), (if m % 2 = 0 then b else a), rs[m / 2]?.getD 0)) j := fun m hm => by
    rw [List.take_add_one, hch m hm]
    show at_ (aheadF P Q n R D ((chn a b rs).take m ++ [_])) j = _
    rw [aheadF_snoc]
    exact at_two (n := n) (aheadF_len P Q n R D _) (stepF_len hQ hR hD _ (hgo (m / 2) (by omega))) j
  have hbn : ∀ x : Int, Bt P Q n A j (x - (a - b)) ^^^ (Bt P Q n D j (b + x) ^^^ (al P (Bt P Q n R j) ^^^ al P (Bt P Q n D j))) = Bt P Q n B j x := next_b hQ d.hp (Bt.per hQ A j) (Bt.per hQ B j) (h.hR j) (h.hD j)
  have han : ∀ x : Int, Bt P Q n B j x ^^^ Bt P Q n R j x = Bt P Q n A j x := next_a (h.hR j)
  intro m
  induction m with
  | zero =>
    intro hm
    rw [hnext 0 hm, if_pos (by rfl), if_pos (by rfl), step_even hQ hR hD hq _ _ _ (by rfl), Nat.zero_div, ← hbn]
    congr 1
    rw [hper A _ (-1) (by rw [hback 0 hq, last_mod hQ]; show ((P : Int) - 1 + 0 * (a - b)) % (P : Int) = _; rw [Int.zero_mul, Int.add_zero, Int.emod_eq_of_lt (by omega) (by omega)]; omega), (Bt.per hQ A j).2]
    exact at_nought n j
  | succ m ih =>
    intro hm
    rw [hnext (m + 1) hm, ih (by omega)]
    by_cases h2 : m % 2 = 0
    · rw [if_pos h2, if_neg (show ¬ (m + 1) % 2 = 0 by omega), if_neg (show ¬ (m + 1) % 2 = 0 by omega), step_odd hQ _ _ _ (by omega) (hgo _ (by omega)), show (m + 1) / 2 = m / 2 by omega]
      exact han _
    · rw [if_neg h2, if_pos (show (m + 1) % 2 = 0 by omega), if_pos (show (m + 1) % 2 = 0 by omega), step_even hQ hR hD hq _ _ _ (by omega), ← hbn]
      congr 1
      refine hper A _ _ ?_
      rw [hback _ (by omega), hri _ (by omega), Int.emod_emod, show (((m + 1) / 2 : Nat) : Int) = ((m / 2 : Nat) : Int) + 1 by omega]
theorem told_is (d : Dims P Q n) (hR : GoodC Q n R) (hD : GoodC Q n D) (h : Solves P Q n R D A B a b) (hab : (a - b) % (P : Int) ≠ 0) {rs : List Int} (hrs : rowsF (P : Int) (walkN (P : Int) ((P : Int) - 1) (a - b)) = rs) (m : Nat) (hm : m < 2 * rs.length) (r : Nat) (hr : r < Q) (hrm : rs[m / 2]?.getD 0 = (r : Int)) :
    (toldF P Q n R D (chn a b rs))[m]?.getD [] = if m % 2 = 0 then B[r]?.getD [] else A[r]?.getD [] := by
  have e : (toldF P Q n R D (chn a b rs))[m]?.getD [] = aheadF P Q n R D ((chn a b rs).take (m + 1)) := by
    unfold toldF
    rw [List.getElem?_map, List.getElem?_range (by rw [chn_len]; exact hm)]
    rfl
  rw [e]
  have hQ := d.hQ
  refine list_at (n := n) (aheadF_len P Q n R D _) (by split; exact (h.gB.2 r hr).2; exact (h.gA.2 r hr).2) fun j => ?_
  rw [told_at d hR hD h hab hrs j m hm, hrm]
  have hmod : ((r : Int)) % (P : Int) = (r : Int) := Int.emod_eq_of_lt (by omega) (by omega)
  split
  · exact bt_at hQ B j hr hmod
  · exact bt_at hQ A j hr hmod
end
end Go.Proofs.YtfihlelhpmjpaaaGreatDoor.Ch

namespace Go.Proofs.YtfihlelhpmjpaaaGreatDoor.Rg
open Go.RowKit Go.Shelf Go.Maps Go.Proofs.YtfihlelhpmjpaaaGreatDoor.C Go.Proofs.YtfihlelhpmjpaaaGreatDoor.E
set_option linter.unusedSimpArgs false
set_option linter.unusedVariables false
attribute [local go_sem] Oper.semAt_some

section
open Go.Proofs.YtfihlelhpmjpaaaGreatDoor.E
end
/-- What has been turned: so many cells lie in their places. -/
def Trn (P : Nat) (o : Nat) (f : Nat → List UInt8) (B gT : Nat) (k : Nat) (X : World) : Prop :=
  ∃ cur : List Value, Blk X gT 57 cur.toArray ∧ cur.length = P ∧ ∀ j, j < k → ∃ u, cur[(j + o) % P]? = some u ∧ Bytes B X u (f j)
theorem Trn.next {P o : Nat} {f : Nat → List UInt8} {B gT k t : Nat} {X : World} {u : Value} (h : Trn P o f B gT k X) (hk : k < P) (ht : (k + o) % P = t) (hB : B ≤ gT) (hu : Bytes B X u (f k)) : Trn P o f B gT (k + 1) (X.setCell ⟨gT, t, none⟩ u) := by
  obtain ⟨cur, hb, hl, hc⟩ := h
  have htl : t < cur.length := by rw [hl, ← ht]; exact Nat.mod_lt _ (by omega)
  have hX : Below gT X (X.setCell ⟨gT, t, none⟩ u) := (Below.refl gT X).setCell (Nat.le_refl _) _
  have hk2 : ∀ {v : Value} {l : List UInt8}, Bytes B X v l → Bytes B (X.setCell ⟨gT, t, none⟩ u) v l := fun hv => hv.below (hX.mono hB)
  refine ⟨cur.set t u, by have := hb.set_ t u; rwa [List.setIfInBounds_toArray] at this, by rw [List.length_set]; exact hl, fun j hj => ?_⟩
  by_cases e : j = k
  · subst e
    rw [ht]
    exact ⟨u, by rw [List.getElem?_set_self htl], hk2 hu⟩
  · obtain ⟨x, h1, h2⟩ := hc j (by omega)
    refine ⟨x, ?_, hk2 h2⟩
    rw [List.getElem?_set_ne, h1]
    intro e2
    have e3 : (k + o) % P = (j + o) % P := by rw [ht, e2]
    have e4 := Nat.sub_mod_eq_zero_of_mod_eq e3
    rw [show k + o - (j + o) = k - j by omega, Nat.mod_eq_of_lt (by omega)] at e4
    omega
end Go.Proofs.YtfihlelhpmjpaaaGreatDoor.Rg

namespace Go.Proofs.YtfihlelhpmjpaaaGreatDoor.Ch
open Go.RowKit Go.Shelf Go.Proofs.YtfihlelhpmjpaaaGreatDoor.C Go.Proofs.YtfihlelhpmjpaaaGreatDoor.E Go.Proofs.YtfihlelhpmjpaaaGreatDoor.Rg
set_option linter.unusedSimpArgs false
set_option linter.unusedVariables false

section
variable {P Q n : Nat} {css : List (List (List UInt8))} {fr : List (List UInt8)} {L : List Int} {f : Int}
end
section
variable {P Q n : Nat} {css : List (List (List UInt8))} {L : List Int}
theorem bt_lost (d : Dims P Q n) {c : Nat} (hc : c < css.length) (j : Nat) (r : Int) : Bt P Q n ((lostC L Q n css)[c]?.getD []) j r = if (c : Int) ∈ L then 0 else Bt P Q n (css[c]?.getD []) j r := by
  rw [lostC_at L Q n css hc]
  split
  · exact bt_noC d.hQ j r
  · rfl
theorem tu_noC (d : Dims P Q n) {c : Nat} (hc : c < css.length) (a : Int) (j : Nat) (r : Int) : tu a (Bt P Q n ((lostC L Q n css)[c]?.getD []) j) r = if (c : Int) ∈ L then 0 else tu a (Bt P Q n (css[c]?.getD []) j) r := by
  unfold tu
  rw [bt_lost d hc, bt_lost d hc]
  split
  · rfl
  · rfl
theorem lostC_goods (d : Dims P Q n) (hgood : ∀ i : Nat, i < css.length → (i : Int) ∉ L → GoodC Q n (css[i]?.getD [])) : ∀ c, c < css.length → GoodC Q n ((lostC L Q n css)[c]?.getD []) := fun c hc => by
  rw [lostC_at L Q n css hc]
  split
  · exact noC_good d.h1 d.h64
  · rename_i h
    exact hgood c hc h
theorem take_at {α : Type} (l : List α) (d : α) {m i : Nat} (h : i < m) : (l.take m)[i]?.getD d = l[i]?.getD d := by
  rw [List.getElem?_take, if_pos h]
theorem bt_rs (d : Dims P Q n) {cs2 : List (List (List UInt8))} {N : Nat} (hN : N = P + 2) (hcl : cs2.length = N) (hg : ∀ c, c < N → GoodC Q n (cs2[c]?.getD [])) (j : Nat) (r : Int) :
    Bt P Q n (rsF P Q cs2) j r = Bt P Q n (cs2[P]?.getD []) j r ^^^ xa ((List.range P).map fun c : Nat => Bt P Q n (cs2[c]?.getD []) j r) := by
  obtain ⟨hok, hn⟩ := take_ok d hN hcl hg
  unfold rsF
  rw [bt_sum2 d (hg P (by omega)) (rowsMade_good d hok hn), bt_rows d hok hn]
  congr 2
  refine List.map_congr_left fun c hc => ?_
  rw [take_at _ _ (List.mem_range.1 hc)]
theorem bt_ds (d : Dims P Q n) {cs2 : List (List (List UInt8))} {N : Nat} (hN : N = P + 2) (hcl : cs2.length = N) (hg : ∀ c, c < N → GoodC Q n (cs2[c]?.getD [])) (j : Nat) (r : Int) :
    Bt P Q n (dsF P Q cs2) j r = Bt P Q n (cs2[P + 1]?.getD []) j r ^^^ xa ((List.range P).map fun c : Nat => tu (c : Int) (Bt P Q n (cs2[c]?.getD []) j) r) := by
  obtain ⟨hok, hn⟩ := take_ok d hN hcl hg
  unfold dsF
  rw [bt_sum2 d (hg (P + 1) (by omega)) (diagsMade_good d hok hn), bt_diags d hok hn]
  congr 2
  refine List.map_congr_left fun c hc => ?_
  rw [take_at _ _ (List.mem_range.1 hc)]
end
section
variable {P Q n : Nat} {R D : List (List UInt8)} {a b : Int}
end
/- What is put upon one another solves what is put upon one another. -/
section
variable {P Q n : Nat} {R D A B R' D' A' B' : List (List UInt8)} {a b : Int}
end
/- Sums of which some lack. -/
theorem xa_one (P a : Nat) (ha : a < P) (f : Nat → UInt8) : xa ((List.range P).map fun c => if c = a then f c else 0) = f a := by
  induction P with
  | zero => omega
  | succ P ih =>
    rw [List.range_succ, List.map_append, xa_append, List.map_cons, List.map_nil, xa_cons, xa_nil, UInt8.xor_zero]
    by_cases h : P = a
    · subst h
      rw [if_pos rfl, show (List.range P).map (fun c => if c = P then f c else 0) = (List.range P).map (fun _ => (0 : UInt8)) from List.map_congr_left fun c hc => by rw [if_neg (by have := List.mem_range.1 hc; omega)], List.map_const', xa_zero, UInt8.zero_xor]
    · rw [ih (by omega), if_neg h, UInt8.xor_zero]
theorem xa_lack2 (P a b : Nat) (ha : a < P) (hb : b < P) (hab : a ≠ b) (f : Nat → UInt8) : xa ((List.range P).map f) ^^^ xa ((List.range P).map fun c : Nat => if (c : Int) ∈ [(a : Int), (b : Int)] then 0 else f c) = f a ^^^ f b := by
  rw [← xa_add, ← xa_one P a ha f, ← xa_one P b hb f, ← xa_add]
  congr 1
  refine List.map_congr_left fun c _ => ?_
  by_cases h1 : c = a
  · subst h1
    rw [if_pos (by simp), if_pos rfl, if_neg hab]
  · by_cases h2 : c = b
    · subst h2
      rw [if_pos (by simp), if_pos rfl, if_neg (fun h => hab h.symm), UInt8.xor_comm]
    · rw [if_neg (by simp; omega), if_neg h1, if_neg h2, UInt8.xor_self]; rfl
theorem xa_lack1 (P a : Nat) (ha : a < P) {L : List Int} (hL : ∀ c : Nat, c < P → ((c : Int) ∈ L ↔ c = a)) (f : Nat → UInt8) : xa ((List.range P).map f) ^^^ xa ((List.range P).map fun c : Nat => if (c : Int) ∈ L then 0 else f c) = f a := by
  rw [← xa_add, ← xa_one P a ha f]
  congr 1
  refine List.map_congr_left fun c hc => ?_
  have hc' := List.mem_range.1 hc
  by_cases h1 : c = a
  · rw [if_pos ((hL c hc').2 h1), if_pos h1, UInt8.xor_zero]
  · rw [if_neg (fun h => h1 ((hL c hc').1 h)), if_neg h1, UInt8.xor_self]
/- Of what EVENODD made two columns, or one, are lost. -/
section
variable {P Q n : Nat} {css cs2 : List (List (List UInt8))}
/-- Columns of data, and what is made of them, with something else in some places. -/
structure Bad (P Q n : Nat) (css cs2 : List (List (List UInt8))) (L : List Int) : Prop where
  hok : DataOk (P : Int) css
  hn : (firstC css).length = n
  hl : cs2.length = P + 2
  hd : ∀ c : Nat, c < P → (c : Int) ∉ L → cs2[c]?.getD [] = css[c]?.getD []
  hr : (P : Int) ∉ L → cs2[P]?.getD [] = rowsMade Q css
  hs : ((P + 1 : Nat) : Int) ∉ L → cs2[P + 1]?.getD [] = diagsMade (P : Int) Q css
variable {L : List Int}
theorem Bad.good (d : Dims P Q n) (h : Bad P Q n css cs2 L) : ∀ i : Nat, i < cs2.length → (i : Int) ∉ L → GoodC Q n (cs2[i]?.getD []) := fun i hi hm => by
  have hl := h.hl
  rcases Nat.lt_or_ge i P with h1 | h1
  · rw [h.hd i h1 hm]; exact good_of d h.hok h.hn i h1
  · by_cases h2 : i = P
    · subst h2; rw [h.hr hm]; exact rowsMade_good d h.hok h.hn
    · obtain rfl : i = P + 1 := by omega
      rw [h.hs hm]; exact diagsMade_good d h.hok h.hn
theorem Bad.rows (d : Dims P Q n) (h : Bad P Q n css cs2 L) (hP : (P : Int) ∉ L) (j : Nat) (r : Int) : Bt P Q n (rsF P Q (lostC L Q n cs2)) j r = xa ((List.range P).map fun c : Nat => Bt P Q n (css[c]?.getD []) j r) ^^^ xa ((List.range P).map fun c : Nat => if (c : Int) ∈ L then 0 else Bt P Q n (css[c]?.getD []) j r) := by
  have hl := h.hl
  have hgl := lostC_goods d (h.good d)
  rw [bt_rs d rfl (by rw [lostC_len, h.hl]) (fun c hc => hgl c (by omega)), bt_lost d (by omega), if_neg hP, h.hr hP, bt_rows d h.hok h.hn]
  congr 2
  refine List.map_congr_left fun c hc => ?_
  have hc' := List.mem_range.1 hc
  rw [bt_lost d (by omega)]
  split
  · rfl
  · rename_i hm
    rw [h.hd c hc' hm]
theorem Bad.diags (d : Dims P Q n) (h : Bad P Q n css cs2 L) (hP : ((P + 1 : Nat) : Int) ∉ L) (j : Nat) (r : Int) : Bt P Q n (dsF P Q (lostC L Q n cs2)) j r = xa ((List.range P).map fun c : Nat => tu (c : Int) (Bt P Q n (css[c]?.getD []) j) r) ^^^ xa ((List.range P).map fun c : Nat => if (c : Int) ∈ L then 0 else tu (c : Int) (Bt P Q n (css[c]?.getD []) j) r) := by
  have hl := h.hl
  have hgl := lostC_goods d (h.good d)
  rw [bt_ds d rfl (by rw [lostC_len, h.hl]) (fun c hc => hgl c (by omega)), bt_lost d (by omega), if_neg hP, h.hs hP, bt_diags d h.hok h.hn]
  congr 2
  refine List.map_congr_left fun c hc => ?_
  have hc' := List.mem_range.1 hc
  rw [tu_noC d (by omega)]
  split
  · rfl
  · rename_i hm
    rw [h.hd c hc' hm]
theorem Bad.solves {a b : Nat} (d : Dims P Q n) (h : Bad P Q n css cs2 [(a : Int), (b : Int)]) (hab : a < b) (hb : b < P) : Solves P Q n (rsF P Q (lostC [(a : Int), (b : Int)] Q n cs2)) (dsF P Q (lostC [(a : Int), (b : Int)] Q n cs2)) (css[a]?.getD []) (css[b]?.getD []) (a : Int) (b : Int) :=
  ⟨good_of d h.hok h.hn a (by omega), good_of d h.hok h.hn b hb, fun j r => by
    rw [h.rows d (by simp; omega)]
    exact xa_lack2 P a b (by omega) hb (by omega) (fun c : Nat => Bt P Q n (css[c]?.getD []) j r), fun j r => by
    rw [h.diags d (by simp; omega)]
    exact xa_lack2 P a b (by omega) hb (by omega) (fun c : Nat => tu (c : Int) (Bt P Q n (css[c]?.getD []) j) r)⟩
theorem Bad.alone {a : Nat} (d : Dims P Q n) (h : Bad P Q n css cs2 [(a : Int), (P : Int)]) (ha : a < P) : turnC P Q n (dsF P Q (lostC [(a : Int), (P : Int)] Q n cs2)) (-(a : Int)) = css[a]?.getD [] := by
  have hl := h.hl
  have hgl := lostC_goods d (h.good d)
  have gD := (rd_good d rfl (by rw [lostC_len, h.hl]) (fun c hc => hgl c (by omega))).2
  have gA := good_of d h.hok h.hn a ha
  refine col_ext d.hQ (turn_good d.h1 d.h64 gD _) gA fun j r => ?_
  rw [bt_turn d.hQ gD]
  have e : Bt P Q n (dsF P Q (lostC [(a : Int), (P : Int)] Q n cs2)) j = tu (a : Int) (Bt P Q n (css[a]?.getD []) j) := funext fun s => by
    rw [h.diags d (by simp; omega)]
    exact xa_lack1 P a ha (fun c hc => by simp; omega) (fun c : Nat => tu (c : Int) (Bt P Q n (css[c]?.getD []) j) s)
  rw [e, tu_tu (P := P), show (a : Int) + -(a : Int) = 0 by omega, tu_zero (Bt.per d.hQ _ j).2]
end
end Go.Proofs.YtfihlelhpmjpaaaGreatDoor.Ch

namespace Go.Proofs.YtfihlelhpmjpaaaGreatDoor.Ch
open Go.RowKit Go.Shelf Go.Proofs.YtfihlelhpmjpaaaGreatDoor.C Go.Proofs.YtfihlelhpmjpaaaGreatDoor.E Go.Proofs.YtfihlelhpmjpaaaGreatDoor.Rg Go.Proofs.YtfihlelhpmjpaaaGreatDoor.T
set_option linter.unusedSimpArgs false
set_option linter.unusedVariables false

theorem fill_some (us : List Value) (col : Int) (r : Nat) : ∀ (l : List (Int × Int × Int)) (c : Array Value), r < c.size → ((∃ x ∈ l, x.2.1 = col ∧ x.2.2.toNat = r) → ∃ x ∈ l, x.2.1 = col ∧ x.2.2.toNat = r ∧ (l.foldl (fun arr x => if x.2.1 = col then arr.setIfInBounds x.2.2.toNat (us[x.1.toNat]?.getD undef) else arr) c)[r]? = some (us[x.1.toNat]?.getD undef)) ∧
    ((∀ x ∈ l, ¬ (x.2.1 = col ∧ x.2.2.toNat = r)) → (l.foldl (fun arr x => if x.2.1 = col then arr.setIfInBounds x.2.2.toNat (us[x.1.toNat]?.getD undef) else arr) c)[r]? = c[r]?)
  | [], c, hc => ⟨fun ⟨x, h, _⟩ => (by cases h), fun _ => rfl⟩
  | z :: l, c, hc => by
    have hs : (if z.2.1 = col then c.setIfInBounds z.2.2.toNat (us[z.1.toNat]?.getD undef) else c).size = c.size := by split <;> simp
    have ih := fill_some us col r l (if z.2.1 = col then c.setIfInBounds z.2.2.toNat (us[z.1.toNat]?.getD undef) else c) (by rw [hs]; exact hc)
    have hz : ¬ (z.2.1 = col ∧ z.2.2.toNat = r) → (if z.2.1 = col then c.setIfInBounds z.2.2.toNat (us[z.1.toNat]?.getD undef) else c)[r]? = c[r]? := fun h => by
      split
      · rename_i h1
        exact Array.getElem?_setIfInBounds_ne (fun e => h ⟨h1, e⟩)
      · rfl
    refine ⟨fun hx => ?_, fun hn => ?_⟩
    · by_cases hl : ∃ x ∈ l, x.2.1 = col ∧ x.2.2.toNat = r
      · obtain ⟨x, h1, h2, h3, h4⟩ := ih.1 hl
        exact ⟨x, List.mem_cons_of_mem _ h1, h2, h3, h4⟩
      · obtain ⟨x, hxm, hx1, hx2⟩ := hx
        rcases List.mem_cons.1 hxm with rfl | hxl
        · refine ⟨x, List.mem_cons_self, hx1, hx2, ?_⟩
          refine (ih.2 fun y hy hyc => hl ⟨y, hy, hyc.1, hyc.2⟩).trans ?_
          rw [if_pos hx1, hx2]
          exact Array.getElem?_setIfInBounds_self_of_lt hc
        · exact absurd ⟨x, hxl, hx1, hx2⟩ hl
    · exact (ih.2 fun y hy => hn y (List.mem_cons_of_mem _ hy)).trans (hz (hn z List.mem_cons_self))
theorem cover_fin : ∀ p ∈ prm, ∀ s ∈ List.range 17, (s : Int) < p → s ≠ 0 → ∀ r ∈ List.range (p - 1).toNat, ∃ k ∈ List.range (p - 1).toNat, (p - 1 + ((k : Int) + 1) * (s : Int)) % p = (r : Int) := by decide +kernel
section
variable {P Q n : Nat} {R D A B : List (List UInt8)} {a b : Int}
theorem rows_cover (hQ : P = Q + 1) (hp : (P : Int) ∈ prm) (hab : (a - b) % (P : Int) ≠ 0) {rs : List Int} (hrs : rowsF (P : Int) (walkN (P : Int) ((P : Int) - 1) (a - b)) = rs) {r : Nat} (hr : r < Q) : ∃ i, i < rs.length ∧ rs[i]?.getD 0 = (r : Int) := by
  have hpb := prm_bounds hp
  have hra := rows_are hQ hp hab
  rw [hrs] at hra
  have h0 := Int.emod_nonneg (a - b) (show (P : Int) ≠ 0 by omega)
  have h1 := Int.emod_lt_of_pos (a - b) (show (0 : Int) < (P : Int) by omega)
  obtain ⟨s, hs⟩ : ∃ s : Nat, (a - b) % (P : Int) = (s : Int) := ⟨((a - b) % (P : Int)).toNat, by omega⟩
  obtain ⟨k, hk, hkr⟩ := cover_fin (P : Int) hp s (List.mem_range.2 (by omega)) (by omega) (by intro e; exact hab (by rw [hs, e]; rfl)) r (List.mem_range.2 (by omega))
  have hk2 := List.mem_range.1 hk
  refine ⟨k, by rw [hra]; simp; omega, ?_⟩
  rw [hra, List.getElem?_map, List.getElem?_range (by omega)]
  show ((P : Int) - 1 + ((k : Int) + 1) * (a - b)) % (P : Int) = (r : Int)
  rw [← hkr, ← hs, Int.add_emod, Int.mul_emod, ← Int.mul_emod, ← Int.add_emod]
  rw [Int.add_emod ((P : Int) - 1) (((k : Int) + 1) * ((a - b) % (P : Int))), Int.mul_emod, Int.emod_emod, ← Int.mul_emod, ← Int.add_emod]
theorem fill_many {us : List Value} (d : Dims P Q n) (hR : GoodC Q n R) (hD : GoodC Q n D) (h : Solves P Q n R D A B a b) (hab : (a - b) % (P : Int) ≠ 0) {rs : List Int} (hrs : rowsF (P : Int) (walkN (P : Int) ((P : Int) - 1) (a - b)) = rs) {W : World} (hus : ∀ (j : Nat) (u : Value), us[j]? = some u → Bytes W.heap.size W u ((toldF P Q n R D (chn a b rs))[j]?.getD [])) (hul : us.length = 2 * rs.length) (col : Int) (hcol : col = a ∨ col = b) {g : Nat} (hg : Blk W g 57 (fillF us Q col (chn a b rs))) :
    Many W.heap.size W (.slice (some ⟨g, 0, none⟩) Q Q) (if col = b then B else A) := by
  have hQ := d.hQ
  have hne : a ≠ b := fun e => hab (by rw [e, Int.sub_self]; rfl)
  have hlen : (if col = b then B else A).length = Q := by split; exact h.gB.1; exact h.gA.1
  refine ⟨_, Q, by rw [hlen], by omega, fun _ => ⟨g, 0, rfl, hg.lt, fun r hr => ?_⟩⟩
  rw [hlen] at hr
  have hmem : ∀ x ∈ chn a b rs, ∃ m, m < 2 * rs.length ∧ x = ((m : Int), (if m % 2 = 0 then b else a), rs[m / 2]?.getD 0) := fun x hx => by
    unfold chn at hx
    obtain ⟨m, hm, rfl⟩ := List.mem_map.1 hx
    exact ⟨m, List.mem_range.1 hm, rfl⟩
  obtain ⟨i, hi, hir⟩ := rows_cover hQ d.hp hab hrs hr
  have hpos : ∀ i, i < rs.length → 0 ≤ rs[i]?.getD 0 := fun i hi => by
    have hra := rows_are hQ d.hp hab
    rw [hrs] at hra
    have hiQ : i < Q := by rw [hra] at hi; simpa using hi
    have e : rs[i]?.getD 0 = ((P : Int) - 1 + ((i : Int) + 1) * (a - b)) % (P : Int) := by rw [hra, List.getElem?_map, List.getElem?_range hiQ]; rfl
    rw [e]
    exact Int.emod_nonneg _ (by omega)
  have hex : ∃ x ∈ chn a b rs, x.2.1 = col ∧ x.2.2.toNat = r := by
    obtain ⟨m, hm, hmc, hmi⟩ : ∃ m, m < 2 * rs.length ∧ (if m % 2 = 0 then b else a) = col ∧ m / 2 = i := by
      by_cases hcb : col = b
      · exact ⟨2 * i, by omega, by rw [if_pos (by omega), hcb], by omega⟩
      · exact ⟨2 * i + 1, by omega, by rw [if_neg (by omega)]; rcases hcol with h | h; exact h.symm; exact absurd h hcb, by omega⟩
    refine ⟨((m : Int), (if m % 2 = 0 then b else a), rs[m / 2]?.getD 0), ?_, hmc, by show (rs[m / 2]?.getD 0).toNat = r; rw [hmi, hir]; rfl⟩
    unfold chn
    exact List.mem_map.2 ⟨m, List.mem_range.2 hm, rfl⟩
  obtain ⟨x, hx, hx1, hx2, hx3⟩ := (fill_some us col r (chn a b rs) (Array.replicate Q (.slice none 0 0)) (by simp; exact hr)).1 hex
  obtain ⟨m, hm, rfl⟩ := hmem x hx
  have hrm : rs[m / 2]?.getD 0 = (r : Int) := by
    have h1 := hpos (m / 2) (by omega)
    have h2 : (rs[m / 2]?.getD 0).toNat = r := hx2
    omega
  have ht := told_is d hR hD h hab hrs m hm r hr hrm
  have hmu : us[m]? = some (us[m]'(by omega)) := List.getElem?_eq_getElem (by omega)
  refine ⟨us[m]'(by omega), ?_, ?_⟩
  · rw [Nat.zero_add]
    refine (hg.cell r).trans ?_
    refine Eq.trans hx3 ?_
    show some (us[((m : Int)).toNat]?.getD undef) = _
    rw [Int.toNat_natCast, hmu]
    rfl
  · have hb := hus m _ hmu
    rw [ht] at hb
    have hx1b : (if m % 2 = 0 then b else a) = col := hx1
    have e : (if col = b then B else A) = if m % 2 = 0 then B else A := by
      by_cases h2 : m % 2 = 0
      · rw [if_pos h2] at hx1b
        rw [if_pos hx1b.symm, if_pos h2]
      · rw [if_neg h2] at hx1b
        rw [if_neg (by rw [← hx1b]; exact hne), if_neg h2]
    rw [e]
    by_cases h2 : m % 2 = 0
    · rw [if_pos h2] at hb ⊢; exact hb
    · rw [if_neg h2] at hb ⊢; exact hb
theorem fill_cols {us : List Value} (d : Dims P Q n) (hR : GoodC Q n R) (hD : GoodC Q n D) (h : Solves P Q n R D A B a b) (hab : (a - b) % (P : Int) ≠ 0) {rs : List Int} (hrs : rowsF (P : Int) (walkN (P : Int) ((P : Int) - 1) (a - b)) = rs) {W : World} (hus : ∀ (j : Nat) (u : Value), us[j]? = some u → Bytes W.heap.size W u ((toldF P Q n R D (chn a b rs))[j]?.getD [])) (hul : us.length = 2 * rs.length) {gC : Nat} (hc : ColT us Q a b (chn a b rs) gC W) : Cols W.heap.size W (.slice (some ⟨gC, 0, none⟩) 2 2) [A, B] := by
  obtain ⟨c0, c1, hC, h0, h1⟩ := hc
  have hne : ¬ a = b := fun e => hab (by rw [e, Int.sub_self]; rfl)
  have m0 := fill_many d hR hD h hab hrs hus hul a (.inl rfl) h0
  have m1 := fill_many d hR hD h hab hrs hus hul b (.inr rfl) h1
  rw [if_neg hne] at m0
  rw [if_pos rfl] at m1
  exact Rg.cols_two hC m0 m1 hC.lt
end
end Go.Proofs.YtfihlelhpmjpaaaGreatDoor.Ch

