/- ring: the mathematics of turned, stretched and slackened columns, byte by byte. The laws of ring: contracts as the laws want them. IsZero. -/
import Derived.Test.YtckfepmahjgmfaaDoorRG9
import Derived.Test.YtckfepmahjgmfaaDoorRG6
import Derived.Test.YtckfepmahjgmfaaDoorRCA
namespace Go.Proofs.YtckfepmahjgmfaaDoor.Rg
open Go.RowKit Go.Shelf Go.Proofs.YtckfepmahjgmfaaDoor.C Go.Proofs.YtckfepmahjgmfaaDoor.E
set_option linter.unusedSimpArgs false
set_option linter.unusedVariables false

theorem xx (a b : UInt8) : a ^^^ (a ^^^ b) = b := by rw [← UInt8.xor_assoc, UInt8.xor_self, UInt8.zero_xor]
theorem xlc (a b c : UInt8) : a ^^^ (b ^^^ c) = b ^^^ (a ^^^ c) := by rw [← UInt8.xor_assoc, UInt8.xor_comm a b, UInt8.xor_assoc]
theorem x_of {a b : UInt8} (h : a ^^^ b = 0) : a = b := by
  have := congrArg (· ^^^ b) h
  simpa [UInt8.xor_assoc] using this
/-- A function of rows, whatever number they are told by; nought in the last one. -/
def Per (P : Nat) (x : Int → UInt8) : Prop := (∀ r s : Int, r % (P : Int) = s % (P : Int) → x r = x s) ∧ x (-1) = 0
def tu (a : Int) (x : Int → UInt8) (r : Int) : UInt8 := x (r - a) ^^^ x (-1 - a)
def st (a : Int) (x : Int → UInt8) (r : Int) : UInt8 := x r ^^^ tu a x r
theorem mod_sub {P : Nat} {r s : Int} (h : r % (P : Int) = s % (P : Int)) (a : Int) : (r - a) % (P : Int) = (s - a) % (P : Int) := by
  rw [Int.sub_emod, h, ← Int.sub_emod]
theorem Per.tu {P : Nat} {x : Int → UInt8} (h : Per P x) (a : Int) : Per P (tu a x) :=
  ⟨fun r s e => by unfold Rg.tu; rw [h.1 _ _ (mod_sub e a)], by unfold Rg.tu; exact UInt8.xor_self⟩
theorem Per.add {P : Nat} {x y : Int → UInt8} (h : Per P x) (h' : Per P y) : Per P (fun r => x r ^^^ y r) :=
  ⟨fun r s e => by show x r ^^^ y r = x s ^^^ y s; rw [h.1 _ _ e, h'.1 _ _ e], by show x (-1) ^^^ y (-1) = 0; rw [h.2, h'.2]; rfl⟩
theorem Per.st {P : Nat} {x : Int → UInt8} (h : Per P x) (a : Int) : Per P (st a x) := h.add (h.tu a)
theorem reach {P : Nat} (hp : (P : Int) ∈ prm) {a : Int} (ha : a % (P : Int) ≠ 0) (r : Int) : ∃ m : Nat, r % (P : Int) = (-1 + (m : Int) * a) % (P : Int) := by
  have hb := prm_bounds hp
  have h0 := Int.emod_nonneg a (show (P : Int) ≠ 0 by omega)
  have h1 := Int.emod_lt_of_pos a (show (0 : Int) < P by omega)
  obtain ⟨i, _, _, hi⟩ := inv_ex (P : Int) hp (a % (P : Int)) h0 h1 ha
  have h2 := Int.emod_nonneg r (show (P : Int) ≠ 0 by omega)
  have h3 := Int.emod_lt_of_pos r (show (0 : Int) < P by omega)
  refine ⟨((r % (P : Int) - -1) % (P : Int) * i % (P : Int)).toNat, (walk_comes P (by omega) (-1) (r % (P : Int)) (a % (P : Int)) i hi h2 h3).symm.trans ?_⟩
  generalize ((r % (P : Int) - -1) % (P : Int) * i % (P : Int)).toNat = m
  unfold walkAt
  rw [Int.add_emod, Int.mul_emod, Int.emod_emod_of_dvd _ (Int.dvd_refl _), ← Int.mul_emod, ← Int.add_emod]
theorem prm_odd {P Q : Nat} (hQ : P = Q + 1) (hp : (P : Int) ∈ prm) : Q % 2 = 0 := by
  have h : ∀ p ∈ prm, (p - 1) % 2 = 0 := by decide
  have := h _ hp
  omega
theorem st_inj {P Q : Nat} (hQ : P = Q + 1) (hp : (P : Int) ∈ prm) {a : Int} (ha : a % (P : Int) ≠ 0) {x y : Int → UInt8} (hx : Per P x) (hy : Per P y) (h : ∀ r, st a x r = st a y r) (r : Int) : x r = y r := by
  obtain ⟨E, hE⟩ : ∃ E : Int → UInt8, E = fun r => x r ^^^ y r := ⟨_, rfl⟩
  have pE : Per P E := by rw [hE]; exact hx.add hy
  have e1 : ∀ r, E r = E (r - a) ^^^ E (-1 - a) := fun r => by
    have := h r
    unfold st tu at this
    apply x_of
    rw [hE]
    show (x r ^^^ y r) ^^^ ((x (r - a) ^^^ y (r - a)) ^^^ (x (-1 - a) ^^^ y (-1 - a))) = 0
    have e : (x r ^^^ (x (r - a) ^^^ x (-1 - a))) ^^^ (y r ^^^ (y (r - a) ^^^ y (-1 - a))) = 0 := by rw [this]; exact UInt8.xor_self
    rw [← e]
    simp only [UInt8.xor_assoc, UInt8.xor_comm, xlc, xx, UInt8.xor_self, UInt8.xor_zero, UInt8.zero_xor]
  have e2 : ∀ m : Nat, E (-1 + (m : Int) * a) = if m % 2 = 0 then 0 else E (-1 - a) := by
    intro m
    induction m with
    | zero => rw [if_pos rfl]; simpa using pE.2
    | succ m ih =>
      rw [e1, show -1 + ((m + 1 : Nat) : Int) * a - a = -1 + (m : Int) * a by rw [Int.natCast_add, Int.add_mul]; omega, ih]
      rcases Nat.mod_two_eq_zero_or_one m with h2 | h2
      · rw [if_pos h2, if_neg (by omega), UInt8.zero_xor]
      · rw [if_neg (by omega), if_pos (by omega), UInt8.xor_self]
  have e3 : E (-1 - a) = 0 := by
    have := e2 Q
    rw [if_pos (prm_odd hQ hp)] at this
    rw [← this]
    refine pE.1 _ _ ?_
    have hPz : (Q : Int) = (P : Int) - 1 := by omega
    rw [hPz, show -1 + ((P : Int) - 1) * a = -1 - a + (P : Int) * a by rw [Int.sub_mul]; omega, Int.add_mul_emod_self_left]
  obtain ⟨m, hm⟩ := reach hp ha r
  have e4 : E r = 0 := by rw [pE.1 _ _ hm, e2, e3]; split <;> rfl
  rw [hE] at e4
  exact x_of e4
/-- What the cells of all rows come to. -/
def al (P : Nat) (x : Int → UInt8) : UInt8 := xa ((List.range P).map fun i : Nat => x (i : Int))
/-- What slackens: its rows' steps are those of the column, and what all come to. -/
theorem st_slack {P : Nat} {x k : Int → UInt8} {b : Int} (hx : Per P x) (hk : Per P k) (h : ∀ r, k r ^^^ k (r - b) = x r ^^^ al P x) (r : Int) : st b k r = x r := by
  have h1 := h (-1)
  rw [hk.2, hx.2, UInt8.zero_xor, UInt8.zero_xor] at h1
  unfold st tu
  rw [h1, ← UInt8.xor_assoc, h, UInt8.xor_assoc, UInt8.xor_self, UInt8.xor_zero]
theorem tu_tu {P : Nat} {x : Int → UInt8} (a b : Int) (r : Int) : tu b (tu a x) r = tu (a + b) x r := by
  unfold tu
  rw [show r - b - a = r - (a + b) by omega, show -1 - b - a = -1 - (a + b) by omega]
  simp only [UInt8.xor_assoc, UInt8.xor_comm, xlc, xx, UInt8.xor_self, UInt8.xor_zero, UInt8.zero_xor]
theorem tu_own {P : Nat} {x : Int → UInt8} (hx : Per P x) (r : Int) : tu (P : Int) x r = x r := by
  unfold tu
  rw [hx.1 (r - P) r (by rw [Int.sub_emod_right]), hx.1 (-1 - P) (-1) (by rw [Int.sub_emod_right]), hx.2, UInt8.xor_zero]
/-- A column's byte, its row told by any number. -/
def Bt (P Q n : Nat) (c : List (List UInt8)) (j : Nat) (r : Int) : UInt8 := at_ (wholeF Q n c (r % (P : Int)).toNat) j
theorem at_nought (n j : Nat) : at_ (List.replicate n 0) j = 0 := by
  unfold at_
  rw [List.getElem?_replicate]
  split <;> rfl
theorem last_mod {P Q : Nat} (hQ : P = Q + 1) : (-1 : Int) % (P : Int) = (Q : Int) := by
  rw [show (-1 : Int) = (Q : Int) + (P : Int) * (-1) by omega, Int.add_mul_emod_self_left, Int.emod_eq_of_lt (by omega) (by omega)]
theorem Bt.per {P Q n : Nat} (hQ : P = Q + 1) (c : List (List UInt8)) (j : Nat) : Per P (Bt P Q n c j) :=
  ⟨fun r s e => by unfold Bt; rw [e], by unfold Bt wholeF; rw [last_mod hQ, Int.toNat_natCast, if_neg (Nat.lt_irrefl _)]; exact at_nought n j⟩
theorem row_lt {P Q : Nat} (hQ : P = Q + 1) (r : Int) : (∃ i : Nat, i < Q ∧ r % (P : Int) = (i : Int)) ∨ r % (P : Int) = (-1) % (P : Int) := by
  have h2 := Int.emod_nonneg r (show (P : Int) ≠ 0 by omega)
  have h3 := Int.emod_lt_of_pos r (show (0 : Int) < P by omega)
  rw [last_mod hQ]
  by_cases h : r % (P : Int) = (Q : Int)
  · exact .inr h
  · exact .inl ⟨(r % (P : Int)).toNat, by omega, by omega⟩
theorem row_get (Q : Nat) (F : Nat → List UInt8) {i : Nat} (hi : i < Q) : (((List.range Q).map F)[i]?).getD [] = F i := by
  rw [List.getElem?_map, List.getElem?_range hi]
  rfl
theorem made_good {Q n : Nat} (h1 : 1 ≤ n) (h64 : n ≤ 64) (F : Nat → List UInt8) (hF : ∀ i, i < Q → (F i).length = n) : GoodC Q n ((List.range Q).map F) :=
  ⟨by simp, fun r hr => by rw [row_get Q F hr]; exact ⟨by unfold Cell; rw [hF r hr]; exact ⟨h1, h64⟩, hF r hr⟩⟩
theorem bt_at {P Q n : Nat} (hQ : P = Q + 1) (c : List (List UInt8)) (j : Nat) {i : Nat} (hi : i < Q) {r : Int} (hr : r % (P : Int) = (i : Int)) : Bt P Q n c j r = at_ (c[i]?.getD []) j := by
  unfold Bt wholeF
  rw [hr, Int.toNat_natCast, if_pos hi]
/-- What is made row by row, its bytes told by a function of any row's number. -/
theorem bt_made {P Q n : Nat} (hQ : P = Q + 1) (F : Nat → List UInt8) (j : Nat) (G : Int → UInt8) (hG : Per P G) (h : ∀ i, i < Q → at_ (F i) j = G (i : Int)) (r : Int) : Bt P Q n ((List.range Q).map F) j r = G r := by
  rcases row_lt hQ r with ⟨i, hi, e⟩ | e
  · rw [bt_at hQ _ j hi e, row_get Q F hi, h i hi]
    exact hG.1 _ _ (by rw [e, Int.emod_eq_of_lt (by omega) (by omega)])
  · rw [(Bt.per hQ _ j).1 _ _ e, (Bt.per hQ _ j).2, hG.1 _ _ e, hG.2]
theorem col_ext {P Q n : Nat} (hQ : P = Q + 1) {c d : List (List UInt8)} (hc : GoodC Q n c) (hd : GoodC Q n d) (h : ∀ j r, Bt P Q n c j r = Bt P Q n d j r) : c = d := by
  refine List.ext_getElem? fun i => ?_
  by_cases hi : i < Q
  · have h1 : (c[i]?.getD []) = (d[i]?.getD []) := ext_at ((hc.2 i hi).2.trans (hd.2 i hi).2.symm) fun j => by
      have := h j (i : Int)
      rwa [bt_at hQ c j hi (Int.emod_eq_of_lt (by omega) (by omega)), bt_at hQ d j hi (Int.emod_eq_of_lt (by omega) (by omega))] at this
    obtain ⟨u, hu⟩ : ∃ u, c[i]? = some u := ⟨_, List.getElem?_eq_getElem (by rw [hc.1]; exact hi)⟩
    obtain ⟨v, hv⟩ : ∃ v, d[i]? = some v := ⟨_, List.getElem?_eq_getElem (by rw [hd.1]; exact hi)⟩
    rw [hu, hv] at h1 ⊢
    exact congrArg some h1
  · rw [List.getElem?_eq_none (by rw [hc.1]; omega), List.getElem?_eq_none (by rw [hd.1]; omega)]
theorem whole_len {Q n : Nat} {c : List (List UInt8)} (hc : GoodC Q n c) (r : Nat) : (wholeF Q n c r).length = n := by
  unfold wholeF
  split
  · exact (hc.2 r ‹_›).2
  · simp
theorem mv_len {P Q n : Nat} {c : List (List UInt8)} (hc : GoodC Q n c) (b : Int) (r : Nat) : (mvF P b (wholeF Q n c) r).length = n := whole_len hc _
theorem at_mv {P Q n : Nat} (c : List (List UInt8)) (b : Int) (r j : Nat) : at_ (mvF P b (wholeF Q n c) r) j = Bt P Q n c j ((r : Int) - b) := rfl
theorem at_two {n : Nat} {a b : List UInt8} (ha : a.length = n) (hb : b.length = n) (j : Nat) : at_ (xorOf [a, b]) j = at_ a j ^^^ at_ b j := by
  rw [at_xorOf (n := n) (by simp) (by intro l hl; simp only [List.mem_cons, List.not_mem_nil, or_false] at hl; rcases hl with rfl | rfl <;> assumption)]
  simp [xa]
theorem len_two {n : Nat} {a b : List UInt8} (ha : a.length = n) (hb : b.length = n) : (xorOf [a, b]).length = n :=
  xorOf_len_of (by simp) (by intro l hl; simp only [List.mem_cons, List.not_mem_nil, or_false] at hl; rcases hl with rfl | rfl <;> assumption)
theorem xorOf_one (a : List UInt8) : xorOf [a] = a := by
  refine ext_at (xorOf_len_of (by simp) (by simp)) fun j => ?_
  rw [at_xorOf (n := a.length) (by simp) (by simp)]
  simp [xa]
/-- The column turned, as it is told. -/
def turnC (P Q n : Nat) (c : List (List UInt8)) (b : Int) : List (List UInt8) := (List.range Q).map fun r => xorOf [mvF P b (wholeF Q n c) r, mvF P b (wholeF Q n c) Q]
theorem turn_row (P Q n : Nat) (c : List (List UInt8)) (b : Int) : rowK 1 Q (fun _ r => xorOf [mvF P b (wholeF Q n c) r, mvF P b (wholeF Q n c) Q]) = turnC P Q n c b := by
  unfold rowK turnC
  refine List.map_congr_left fun r _ => ?_
  exact xorOf_one _
theorem turn_good {P Q n : Nat} (h1 : 1 ≤ n) (h64 : n ≤ 64) {c : List (List UInt8)} (hc : GoodC Q n c) (b : Int) : GoodC Q n (turnC P Q n c b) :=
  made_good h1 h64 _ fun i _ => len_two (mv_len hc b i) (mv_len hc b Q)
theorem bt_turn {P Q n : Nat} (hQ : P = Q + 1) {c : List (List UInt8)} (hc : GoodC Q n c) (b : Int) (j : Nat) (r : Int) : Bt P Q n (turnC P Q n c b) j r = tu b (Bt P Q n c j) r := by
  refine bt_made hQ _ j _ ((Bt.per hQ c j).tu b) (fun i hi => ?_) r
  rw [at_two (mv_len hc b i) (mv_len hc b Q), at_mv, at_mv]
  unfold tu
  rw [(Bt.per hQ c j).1 ((Q : Int) - b) (-1 - b) (mod_sub (by rw [last_mod hQ, Int.emod_eq_of_lt (by omega) (by omega)]) b)]
/-- The column stretched. -/
def strC (P Q n : Nat) (c : List (List UInt8)) (b : Int) : List (List UInt8) := rowK 2 Q (fun i r => if i = 0 then xorOf [wholeF Q n c r, wholeF Q n c Q] else xorOf [mvF P b (wholeF Q n c) r, mvF P b (wholeF Q n c) Q])
theorem str_good {P Q n : Nat} (h1 : 1 ≤ n) (h64 : n ≤ 64) {c : List (List UInt8)} (hc : GoodC Q n c) (b : Int) : GoodC Q n (strC P Q n c b) :=
  made_good h1 h64 _ fun i _ => len_two (len_two (whole_len hc i) (whole_len hc Q)) (len_two (mv_len hc b i) (mv_len hc b Q))
theorem bt_str {P Q n : Nat} (hQ : P = Q + 1) {c : List (List UInt8)} (hc : GoodC Q n c) (b : Int) (j : Nat) (r : Int) : Bt P Q n (strC P Q n c b) j r = st b (Bt P Q n c j) r := by
  refine bt_made hQ _ j _ ((Bt.per hQ c j).st b) (fun i hi => ?_) r
  show at_ (xorOf [xorOf [wholeF Q n c i, wholeF Q n c Q], xorOf [mvF P b (wholeF Q n c) i, mvF P b (wholeF Q n c) Q]]) j = _
  rw [at_two (len_two (whole_len hc i) (whole_len hc Q)) (len_two (mv_len hc b i) (mv_len hc b Q)), at_two (whole_len hc i) (whole_len hc Q), at_two (mv_len hc b i) (mv_len hc b Q), at_mv, at_mv]
  unfold st tu
  rw [(Bt.per hQ c j).1 ((Q : Int) - b) (-1 - b) (mod_sub (by rw [last_mod hQ, Int.emod_eq_of_lt (by omega) (by omega)]) b)]
  have e1 : at_ (wholeF Q n c i) j = Bt P Q n c j (i : Int) := by unfold Bt; rw [Int.emod_eq_of_lt (by omega) (by omega), Int.toNat_natCast]
  have e2 : at_ (wholeF Q n c Q) j = 0 := by unfold wholeF; rw [if_neg (Nat.lt_irrefl _)]; exact at_nought n j
  rw [e1, e2, UInt8.xor_zero]
/-- Columns put upon one another. -/
theorem sum_good {Q n : Nat} (h1 : 1 ≤ n) (h64 : n ≤ 64) {css : List (List (List UInt8))} (h0 : 0 < css.length) (hc : ∀ c ∈ css, GoodC Q n c) : GoodC Q n (rowK css.length Q (fun i r => (css[i]?.getD [])[r]?.getD [])) := by
  refine made_good h1 h64 _ fun r hr => xorOf_len_of (by simpa using h0) fun l hl => ?_
  obtain ⟨i, hi, rfl⟩ := List.mem_map.1 hl
  have hi2 := List.mem_range.1 hi
  show ((css[i]?.getD [])[r]?.getD []).length = n
  rw [List.getElem?_eq_getElem hi2]
  exact ((hc _ (List.getElem_mem hi2)).2 r hr).2
theorem get_map {α β : Type} (l : List α) (d : α) (g : α → β) : (List.range l.length).map (fun i => g (l[i]?.getD d)) = l.map g := by
  refine List.ext_getElem? fun i => ?_
  rw [List.getElem?_map, List.getElem?_map]
  by_cases hi : i < l.length
  · rw [List.getElem?_range hi, List.getElem?_eq_getElem hi]; simp [List.getElem?_eq_getElem hi]
  · rw [List.getElem?_eq_none (by simpa using Nat.le_of_not_lt hi), List.getElem?_eq_none (Nat.le_of_not_lt hi)]; rfl
theorem xa_zero : ∀ k : Nat, xa (List.replicate k 0) = 0 := by
  intro k
  induction k with
  | zero => rfl
  | succ k ih => rw [List.replicate_succ, xa_cons, ih]; rfl
theorem per_sum {P : Nat} {α : Type} (l : List α) (x : α → Int → UInt8) (h : ∀ a ∈ l, Per P (x a)) : Per P (fun r => xa (l.map fun a => x a r)) := by
  refine ⟨fun r s e => ?_, ?_⟩
  · show xa _ = xa _
    congr 1
    exact List.map_congr_left fun a ha => (h a ha).1 _ _ e
  · show xa _ = 0
    rw [List.map_congr_left (g := fun _ => (0 : UInt8)) fun a ha => (h a ha).2]
    rw [List.map_const']
    exact xa_zero _
theorem bt_sum {P Q n : Nat} (hQ : P = Q + 1) {css : List (List (List UInt8))} (h0 : 0 < css.length) (hc : ∀ c ∈ css, GoodC Q n c) (j : Nat) (r : Int) : Bt P Q n (rowK css.length Q (fun i r => (css[i]?.getD [])[r]?.getD [])) j r = xa (css.map fun c => Bt P Q n c j r) := by
  refine bt_made hQ _ j _ (per_sum css (fun c => Bt P Q n c j) fun c _ => Bt.per hQ c j) (fun i hi => ?_) r
  rw [at_xorOf (n := n) (by simpa using h0) (fun l hl => by
    obtain ⟨k, hk, rfl⟩ := List.mem_map.1 hl
    have hi2 := List.mem_range.1 hk
    show ((css[k]?.getD [])[i]?.getD []).length = n
    rw [List.getElem?_eq_getElem hi2]
    exact ((hc _ (List.getElem_mem hi2)).2 i hi).2), List.map_map]
  congr 1
  rw [← get_map css [] (fun c => Bt P Q n c j (i : Int))]
  refine List.map_congr_left fun k _ => ?_
  exact (bt_at hQ _ j hi (Int.emod_eq_of_lt (by omega) (by omega))).symm
/-- The rows in the order of steps, the last one left out. -/
theorem rows_fin : ∀ p ∈ prm, ∀ s ∈ List.range 17, (s : Int) < p → s ≠ 0 → rowsF p (walkL p.toNat (p - 1) (s : Int)) = (List.range (p - 1).toNat).map (fun k : Nat => (p - 1 + ((k : Int) + 1) * (s : Int)) % p) := by decide +kernel
theorem mul_mod (P : Nat) (x m b : Int) : (x + m * (b % (P : Int))) % (P : Int) = (x + m * b) % (P : Int) := by
  rw [Int.add_emod, Int.mul_emod, Int.emod_emod_of_dvd _ (Int.dvd_refl _), ← Int.mul_emod, ← Int.add_emod]
theorem rows_are {P Q : Nat} (hQ : P = Q + 1) (hp : (P : Int) ∈ prm) {b : Int} (hb : b % (P : Int) ≠ 0) : rowsF P (walkN P ((P : Int) - 1) b) = (List.range Q).map (fun k : Nat => ((P : Int) - 1 + ((k : Int) + 1) * b) % (P : Int)) := by
  have hpb := prm_bounds hp
  have h0 := Int.emod_nonneg b (show (P : Int) ≠ 0 by omega)
  have h1 := Int.emod_lt_of_pos b (show (0 : Int) < P by omega)
  obtain ⟨s, hs⟩ : ∃ s : Nat, b % (P : Int) = (s : Int) := ⟨(b % (P : Int)).toNat, by omega⟩
  have h := rows_fin _ hp s (List.mem_range.2 (by omega)) (by omega) (by omega)
  rw [walkN_yes (fine_one.2 ⟨hp, by omega, by omega⟩), hs, h, show ((P : Int) - 1).toNat = Q by omega]
  refine List.map_congr_left fun k _ => ?_
  rw [← hs, mul_mod]
/-- How far the heap has come. -/
def sofar (P : Nat) (x : Int → UInt8) (b : Int) (m : Nat) : UInt8 := xa ((List.range m).map fun k : Nat => x (-1 + ((k : Int) + 1) * b) ^^^ al P x)
theorem sofar_next (P : Nat) (x : Int → UInt8) (b : Int) (m : Nat) : sofar P x b (m + 1) = sofar P x b m ^^^ (x (-1 + ((m : Int) + 1) * b) ^^^ al P x) := by
  unfold sofar
  rw [List.range_succ, List.map_append, xa_append]
  simp [xa]
theorem xa_xorc (l : List UInt8) (a : UInt8) : xa (l.map fun x => x ^^^ a) = xa l ^^^ (if l.length % 2 = 0 then 0 else a) := by
  induction l with
  | nil => simp [xa]
  | cons y l ih =>
    rw [List.map_cons, xa_cons, xa_cons, ih, List.length_cons]
    rcases Nat.mod_two_eq_zero_or_one l.length with h2 | h2
    · rw [if_pos h2, if_neg (by omega)]; simp only [UInt8.xor_assoc, UInt8.xor_comm, xlc, xx, UInt8.xor_self, UInt8.xor_zero, UInt8.zero_xor]
    · rw [if_neg (by omega), if_pos (by omega)]; simp only [UInt8.xor_assoc, UInt8.xor_comm, xlc, xx, UInt8.xor_self, UInt8.xor_zero, UInt8.zero_xor]
theorem perm_fin : ∀ p ∈ prm, ∀ s ∈ List.range 17, (s : Int) < p → s ≠ 0 → ((List.range p.toNat).map (fun k : Nat => (-1 + (k : Int) * (s : Int)) % p)).isPerm ((List.range p.toNat).map fun k : Nat => (k : Int)) = true := by decide +kernel
/-- All places come by steps. -/
theorem all_steps {P : Nat} (hp : (P : Int) ∈ prm) {b : Int} (hb : b % (P : Int) ≠ 0) {x : Int → UInt8} (hx : Per P x) : xa ((List.range P).map fun k : Nat => x (-1 + (k : Int) * b)) = al P x := by
  have hpb := prm_bounds hp
  have h0 := Int.emod_nonneg b (show (P : Int) ≠ 0 by omega)
  have h1 := Int.emod_lt_of_pos b (show (0 : Int) < P by omega)
  obtain ⟨s, hs⟩ : ∃ s : Nat, b % (P : Int) = (s : Int) := ⟨(b % (P : Int)).toNat, by omega⟩
  have h := xa_perm ((List.isPerm_iff.1 (perm_fin _ hp s (List.mem_range.2 (by omega)) (by omega) (by omega))).map x)
  rw [Int.toNat_natCast, List.map_map, List.map_map] at h
  unfold al
  refine Eq.trans ?_ h
  congr 1
  refine List.map_congr_left fun k _ => ?_
  refine hx.1 _ _ ?_
  rw [← hs, Int.emod_emod_of_dvd _ (Int.dvd_refl _), mul_mod]
theorem sofar_all {P Q : Nat} (hQ : P = Q + 1) (hp : (P : Int) ∈ prm) {b : Int} (hb : b % (P : Int) ≠ 0) {x : Int → UInt8} (hx : Per P x) : sofar P x b Q = al P x := by
  have h := all_steps hp hb hx
  have hr : List.range P = 0 :: (List.range Q).map Nat.succ := by rw [hQ, List.range_succ_eq_map]
  rw [hr, List.map_cons, xa_cons, List.map_map] at h
  have e0 : x (-1 + ((0 : Nat) : Int) * b) = 0 := by rw [show -1 + ((0 : Nat) : Int) * b = -1 by simp]; exact hx.2
  rw [e0, UInt8.zero_xor] at h
  unfold sofar
  have e := xa_xorc ((List.range Q).map fun k : Nat => x (-1 + ((k : Int) + 1) * b)) (al P x)
  rw [List.map_map, List.length_map, List.length_range, if_pos (prm_odd hQ hp), UInt8.xor_zero] at e
  refine Eq.trans e (Eq.trans ?_ h)
  congr 1
/-- What the slackened column's bytes are. -/
theorem slack_steps {P Q : Nat} (hQ : P = Q + 1) (hp : (P : Int) ∈ prm) {b : Int} (hb : b % (P : Int) ≠ 0) {x k : Int → UInt8} (hx : Per P x) (hk : Per P k) (h : ∀ m, m ≤ Q → k (-1 + (m : Int) * b) = sofar P x b m) (r : Int) : k r ^^^ k (r - b) = x r ^^^ al P x := by
  obtain ⟨m0, hm0⟩ := reach hp hb r
  obtain ⟨m, hm, hmQ⟩ : ∃ m : Nat, r % (P : Int) = (-1 + (m : Int) * b) % (P : Int) ∧ m ≤ Q := by
    refine ⟨m0 % P, hm0.trans ?_, by have := Nat.mod_lt m0 (show 0 < P by omega); omega⟩
    have e : (m0 : Int) = ((m0 % P : Nat) : Int) + (P : Int) * ((m0 / P : Nat) : Int) := by rw [← Int.natCast_mul, ← Int.natCast_add, Nat.mod_add_div]
    rw [e, Int.add_mul, ← Int.add_assoc, Int.mul_assoc, Int.add_mul_emod_self_left]
  rw [hk.1 _ _ hm, hk.1 _ _ (mod_sub hm b), hx.1 _ _ hm]
  rcases m with _ | m
  · rw [show -1 + ((0 : Nat) : Int) * b - b = -1 - b by simp, show -1 + ((0 : Nat) : Int) * b = -1 by simp, hk.2, hx.2]
    have e : k (-1 - b) = sofar P x b Q := by
      rw [← h Q (Nat.le_refl _)]
      refine hk.1 _ _ ?_
      rw [show (-1 : Int) + (Q : Int) * b = -1 - b + (P : Int) * b by rw [hQ, Int.natCast_add, Int.add_mul]; omega, Int.add_mul_emod_self_left]
    rw [e, sofar_all hQ hp hb hx]
  · rw [show -1 + ((m + 1 : Nat) : Int) * b - b = -1 + (m : Int) * b by rw [Int.natCast_add, Int.add_mul]; omega, h _ hmQ, h _ (by omega), sofar_next, show ((m + 1 : Nat) : Int) = (m : Int) + 1 by omega]
    simp only [UInt8.xor_assoc, UInt8.xor_comm, xlc, xx, UInt8.xor_self, UInt8.xor_zero, UInt8.zero_xor]
theorem al_whole {P Q n : Nat} (hQ : P = Q + 1) {c : List (List UInt8)} (hc : GoodC Q n c) (j : Nat) : at_ (xorOf ((List.range P).map (wholeF Q n c))) j = al P (Bt P Q n c j) := by
  rw [at_xorOf (n := n) (by simp; omega) (fun l hl => by obtain ⟨i, _, rfl⟩ := List.mem_map.1 hl; exact whole_len hc i), List.map_map]
  unfold al
  congr 1
  refine List.map_congr_left fun i hi => ?_
  have := List.mem_range.1 hi
  show at_ (wholeF Q n c i) j = _
  unfold Bt
  rw [Int.emod_eq_of_lt (by omega) (by omega), Int.toNat_natCast]
theorem whole_all_len {P Q n : Nat} (hQ : P = Q + 1) {c : List (List UInt8)} (hc : GoodC Q n c) : (xorOf ((List.range P).map (wholeF Q n c))).length = n :=
  xorOf_len_of (by simp; omega) (fun l hl => by obtain ⟨i, _, rfl⟩ := List.mem_map.1 hl; exact whole_len hc i)
/-- What is held when so many rows have come. -/
theorem hld_at {P Q n : Nat} (hQ : P = Q + 1) {c : List (List UInt8)} (hc : GoodC Q n c) (b : Int) (j : Nat) : ∀ m : Nat, at_ (hld (wholeF Q n c) (wholeF Q n c Q) (xorOf ((List.range P).map (wholeF Q n c))) ((List.range m).map (fun k : Nat => ((P : Int) - 1 + ((k : Int) + 1) * b) % (P : Int)))) j = sofar P (Bt P Q n c j) b m := by
  intro m
  induction m with
  | zero => show at_ (wholeF Q n c Q) j = _; unfold wholeF; rw [if_neg (Nat.lt_irrefl _)]; exact at_nought n j
  | succ m ih =>
    rw [List.range_succ, List.map_append, List.map_cons, List.map_nil, hld_snoc, at_two (hld_len (whole_len hc Q) _) (len_two (whole_len hc _) (whole_all_len hQ hc)), at_two (whole_len hc _) (whole_all_len hQ hc), ih, sofar_next, al_whole hQ hc]
    congr 2
    show Bt P Q n c j ((P : Int) - 1 + ((m : Int) + 1) * b) = _
    refine (Bt.per hQ c j).1 _ _ ?_
    rw [show (P : Int) - 1 + ((m : Int) + 1) * b = (-1 + ((m : Int) + 1) * b) + (P : Int) * 1 by omega, Int.add_mul_emod_self_left]
theorem slack_good {P Q n : Nat} (hQ : P = Q + 1) (h1 : 1 ≤ n) (h64 : n ≤ 64) {c : List (List UInt8)} (hc : GoodC Q n c) (b : Int) : GoodC Q n (slackL P Q (wholeF Q n c) b) :=
  made_good h1 h64 _ fun i _ => hld_len (whole_len hc Q) _
theorem idx_map {α : Type} [BEq α] [LawfulBEq α] : ∀ (l : List α), l.Nodup → ∀ m (hm : m < l.length), l.idxOf l[m] = m := by
  intro l
  induction l with
  | nil => intro _ m hm; simp at hm
  | cons a l ih =>
    intro hn m hm
    rw [List.nodup_cons] at hn
    rcases m with _ | m
    · simp
    · rw [List.idxOf_cons]
      have : (a == (a :: l)[m + 1]) = false := by
        rw [beq_eq_false_iff_ne]
        intro e
        exact hn.1 (by rw [e]; simp)
      rw [this]
      simp only [List.getElem_cons_succ, cond_false]
      rw [ih hn.2 m (by simpa using hm)]
theorem bt_slack {P Q n : Nat} (hQ : P = Q + 1) (hp : (P : Int) ∈ prm) {c : List (List UInt8)} (hc : GoodC Q n c) {b : Int} (hb : b % (P : Int) ≠ 0) (j : Nat) (r : Int) :
    Bt P Q n (slackL P Q (wholeF Q n c) b) j r ^^^ Bt P Q n (slackL P Q (wholeF Q n c) b) j (r - b) = Bt P Q n c j r ^^^ al P (Bt P Q n c j) := by
  obtain ⟨h1, h2, h3⟩ := slack_rows P Q hQ hp b hb
  refine slack_steps hQ hp hb (Bt.per hQ c j) (Bt.per hQ _ j) (fun m hm => ?_) r
  rcases m with _ | m
  · rw [show -1 + ((0 : Nat) : Int) * b = -1 by simp, (Bt.per hQ _ j).2]; rfl
  · rw [rows_are hQ hp hb] at h1 h3
    have hl : m < ((List.range Q).map (fun k : Nat => ((P : Int) - 1 + ((k : Int) + 1) * b) % (P : Int))).length := by simp; omega
    have hg : ((List.range Q).map (fun k : Nat => ((P : Int) - 1 + ((k : Int) + 1) * b) % (P : Int)))[m] = ((P : Int) - 1 + ((m : Int) + 1) * b) % (P : Int) := by simp
    have hi := idx_map _ h1 m hl
    rw [hg] at hi
    have h4 := h3 (((P : Int) - 1 + ((m : Int) + 1) * b) % (P : Int)) (by rw [← hg]; exact List.getElem_mem hl)
    obtain ⟨i, hiQ⟩ : ∃ i : Nat, ((P : Int) - 1 + ((m : Int) + 1) * b) % (P : Int) = (i : Int) := ⟨(((P : Int) - 1 + ((m : Int) + 1) * b) % (P : Int)).toNat, by omega⟩
    have hi3 : i < Q := by omega
    have e : (-1 + ((m + 1 : Nat) : Int) * b) % (P : Int) = (i : Int) := by
      rw [← hiQ, show (P : Int) - 1 + ((m : Int) + 1) * b = (-1 + ((m + 1 : Nat) : Int) * b) + (P : Int) * 1 by rw [show ((m + 1 : Nat) : Int) = (m : Int) + 1 by omega]; omega, Int.add_mul_emod_self_left]
    rw [bt_at hQ _ j hi3 e]
    unfold slackL
    rw [row_get Q _ hi3, rows_are hQ hp hb, ← hiQ, hi, ← List.map_take, List.take_range, Nat.min_eq_left (by omega)]
    exact hld_at hQ hc b j (m + 1)
/-- Stretched, the slackened column is the column. -/
theorem str_slack {P Q n : Nat} (hQ : P = Q + 1) (hp : (P : Int) ∈ prm) (h1 : 1 ≤ n) (h64 : n ≤ 64) {c : List (List UInt8)} (hc : GoodC Q n c) {b : Int} (hb : b % (P : Int) ≠ 0) : strC P Q n (slackL P Q (wholeF Q n c) b) b = c := by
  have hg := slack_good hQ h1 h64 hc b
  refine col_ext hQ (str_good h1 h64 hg b) hc fun j r => ?_
  rw [bt_str hQ hg]
  exact st_slack (Bt.per hQ c j) (Bt.per hQ _ j) (fun r => bt_slack hQ hp hc hb j r) r
/-- One column alone, stretched, is a given one. -/
theorem str_inj {P Q n : Nat} (hQ : P = Q + 1) (hp : (P : Int) ∈ prm) {c d : List (List UInt8)} (hc : GoodC Q n c) (hd : GoodC Q n d) {b : Int} (hb : b % (P : Int) ≠ 0) (h : strC P Q n c b = strC P Q n d b) : c = d := by
  refine col_ext hQ hc hd fun j r => ?_
  refine st_inj hQ hp hb (Bt.per hQ c j) (Bt.per hQ d j) (fun r => ?_) r
  rw [← bt_str hQ hc, ← bt_str hQ hd, h]
theorem slack_str {P Q n : Nat} (hQ : P = Q + 1) (hp : (P : Int) ∈ prm) (h1 : 1 ≤ n) (h64 : n ≤ 64) {c : List (List UInt8)} (hc : GoodC Q n c) {b : Int} (hb : b % (P : Int) ≠ 0) : slackL P Q (wholeF Q n (strC P Q n c b)) b = c :=
  str_inj hQ hp (slack_good hQ h1 h64 (str_good h1 h64 hc b) b) hc hb (str_slack hQ hp h1 h64 (str_good h1 h64 hc b) hb)
theorem turn_turn {P Q n : Nat} (hQ : P = Q + 1) (h1 : 1 ≤ n) (h64 : n ≤ 64) {c : List (List UInt8)} (hc : GoodC Q n c) (a b : Int) : turnC P Q n (turnC P Q n c a) b = turnC P Q n c (a + b) := by
  refine col_ext hQ (turn_good h1 h64 (turn_good h1 h64 hc a) b) (turn_good h1 h64 hc _) fun j r => ?_
  rw [bt_turn hQ (turn_good h1 h64 hc a), bt_turn hQ hc, show Bt P Q n (turnC P Q n c a) j = tu a (Bt P Q n c j) from funext fun r => bt_turn hQ hc a j r]
  exact tu_tu (P := P) a b r
theorem turn_own {P Q n : Nat} (hQ : P = Q + 1) (h1 : 1 ≤ n) (h64 : n ≤ 64) {c : List (List UInt8)} (hc : GoodC Q n c) : turnC P Q n c (P : Int) = c :=
  col_ext hQ (turn_good h1 h64 hc _) hc fun j r => by rw [bt_turn hQ hc]; exact tu_own (Bt.per hQ c j) r
/-- Columns of one list put upon one another, as it is told. -/
def sumC (Q : Nat) (css : List (List (List UInt8))) : List (List UInt8) := rowK css.length Q (fun i r => (css[i]?.getD [])[r]?.getD [])
theorem sum_two {P Q n : Nat} (hQ : P = Q + 1) (h1 : 1 ≤ n) (h64 : n ≤ 64) {c d : List (List UInt8)} (hc : GoodC Q n c) (hd : GoodC Q n d) (a : Int) : turnC P Q n (sumC Q [c, d]) a = sumC Q [turnC P Q n c a, turnC P Q n d a] := by
  have g2 : ∀ x ∈ [c, d], GoodC Q n x := by intro x hx; simp only [List.mem_cons, List.not_mem_nil, or_false] at hx; rcases hx with rfl | rfl <;> assumption
  have gt : ∀ x ∈ [turnC P Q n c a, turnC P Q n d a], GoodC Q n x := by intro x hx; simp only [List.mem_cons, List.not_mem_nil, or_false] at hx; rcases hx with rfl | rfl <;> exact turn_good h1 h64 (by assumption) a
  have gs := sum_good h1 h64 (by simp) g2
  refine col_ext hQ (turn_good h1 h64 gs a) (sum_good h1 h64 (by simp) gt) fun j r => ?_
  have e := fun r => bt_sum hQ (by simp) g2 j r
  refine (bt_turn hQ gs a j r).trans (Eq.trans ?_ (bt_sum hQ (by simp) gt j r).symm)
  unfold tu
  rw [e, e]
  simp only [List.map_cons, List.map_nil, xa_cons, xa_nil, UInt8.xor_zero, bt_turn hQ hc, bt_turn hQ hd]
  unfold tu
  simp only [UInt8.xor_assoc, UInt8.xor_comm, xlc, xx, UInt8.xor_self, UInt8.xor_zero, UInt8.zero_xor]
end Go.Proofs.YtckfepmahjgmfaaDoor.Rg

namespace Go.Proofs.YtckfepmahjgmfaaDoor.Rg
open Go.RowKit Go.Shelf Go.Proofs.YtckfepmahjgmfaaDoor.C Go.Proofs.YtckfepmahjgmfaaDoor.E
set_option linter.unusedSimpArgs false
set_option linter.unusedVariables false
attribute [local go_sem] Oper.semAt_some

theorem cols_two {W : World} {B g : Nat} {va vb : Value} {a b : List (List UInt8)} (h : Blk W g 23 #[va, vb]) (h1 : Many B W va a) (h2 : Many B W vb b) (hg : g < B) : Cols B W (.slice (some ⟨g, 0, none⟩) 2 2) [a, b] := by
  obtain ⟨A, cap, rfl, _, _⟩ := id h1
  obtain ⟨A', cap', rfl, _, _⟩ := id h2
  exact ⟨some ⟨g, 0, none⟩, 2, rfl, Nat.le_refl _, fun _ => ⟨g, 0, rfl, hg, fun j hj => by
    have hj2 : j = 0 ∨ j = 1 := (by have : j < 2 := hj; omega)
    rcases hj2 with rfl | rfl
    · exact ⟨_, h.cell 0, h1⟩
    · exact ⟨_, h.cell 1, h2⟩⟩⟩
/-- What columns are that may be. -/
theorem right_yes {p : Int} {css : List (List (List UInt8))} (h : RightD p css) (h0 : 0 < css.length) : ∃ P Q n : Nat, p = (P : Int) ∧ P = Q + 1 ∧ (P : Int) ∈ prm ∧ 1 ≤ n ∧ n ≤ 64 ∧ (firstC css).length = n ∧ ∀ j, j < css.length → GoodC Q n (css[j]?.getD []) := by
  have hb := prm_bounds h.1
  have hg := (rightD_iff h.1 h0).1 h
  obtain ⟨P, rfl⟩ : ∃ P : Nat, p = (P : Int) := ⟨p.toNat, by omega⟩
  have h1 := ((hg 0 h0).2 0 (by omega))
  refine ⟨P, P - 1, _, rfl, by omega, h.1, ?_, ?_, rfl, fun j hj => ?_⟩
  · rw [← h1.2]; exact h1.1.1
  · rw [← h1.2]; exact h1.1.2
  · have := hg j hj
    rwa [show ((P : Int) - 1).toNat = P - 1 by omega] at this
theorem right_of_good {P Q n : Nat} (hQ : P = Q + 1) (hp : (P : Int) ∈ prm) {css : List (List (List UInt8))} (h0 : 0 < css.length) (hg : ∀ j, j < css.length → GoodC Q n (css[j]?.getD [])) : RightD (P : Int) css ∧ (firstC css).length = n := by
  have hb := prm_bounds hp
  have hf : (firstC css).length = n := by
    have := ((hg 0 h0).2 0 (by omega)).2
    unfold firstC
    exact this
  refine ⟨(rightD_iff hp h0).2 fun j hj => ?_, hf⟩
  rw [hf, show ((P : Int) - 1).toNat = Q by omega]
  exact hg j hj
theorem ok_of {P Q n : Nat} (hQ : P = Q + 1) (hp : (P : Int) ∈ prm) (h1 : 1 ≤ n) (h64 : n ≤ 64) {c : List (List UInt8)} (hc : GoodC Q n c) : ColOk P n c := ⟨hp, by rw [show P - 1 = Q by omega]; exact hc, h1, h64⟩
theorem out_slice {B Q n : Nat} {W : World} {u : Value} {c : List (List UInt8)} (h : FreshMany B W u c) (hc : GoodC Q n c) : ∃ A k, u = .slice A Q k ∧ Many W.heap.size W (.slice A Q k) c := by
  have hm := h.many
  obtain ⟨A, cap, e, _⟩ := id h
  rw [hc.1] at e
  subst e
  exact ⟨A, cap, rfl, hm⟩
/-- A prime, the number of its rows, a cell's length. -/
structure Dims (P Q n : Nat) : Prop where
  hQ : P = Q + 1
  hp : (P : Int) ∈ prm
  h1 : 1 ≤ n
  h64 : n ≤ 64
variable {P Q n : Nat}
theorem turnY (d : Dims P Q n) (b : Int) (y1 : -9223372036854775808 ≤ b) (y2 : b ≤ 9223372036854775807) (c : List (List UInt8)) (hc : GoodC Q n c) (v : Value) (w : World) (hL : Laid w) (hM : Many w.heap.size w v c) :
    Calls Tryd.prog 14 #[.int .i64 (P : Int), v, .int .i64 b] w fun e w' => ∃ A k, e = .returned (.tuple #[.slice A Q k, .int .i64 0]) ∧ Many w'.heap.size w' (.slice A Q k) (turnC P Q n c b) ∧ Below w.heap.size w w' := by
  refine (turn_yes P Q n d.hQ c v b y1 y2 (ok_of d.hQ d.hp d.h1 d.h64 hc) w hL (Nat.le_refl _) hM).mono ?_
  rintro e w' ⟨u, rfl, hf, hB⟩
  rw [turn_row] at hf
  obtain ⟨A, k, rfl, hm⟩ := out_slice hf (turn_good d.h1 d.h64 hc b)
  exact ⟨A, k, rfl, hm, hB⟩
theorem strY (d : Dims P Q n) (b : Int) (y1 : -9223372036854775808 ≤ b) (y2 : b ≤ 9223372036854775807) (c : List (List UInt8)) (hc : GoodC Q n c) (v : Value) (w : World) (hL : Laid w) (hM : Many w.heap.size w v c) :
    Calls Tryd.prog 15 #[.int .i64 (P : Int), v, .int .i64 b] w fun e w' => ∃ A k, e = .returned (.tuple #[.slice A Q k, .int .i64 0]) ∧ Many w'.heap.size w' (.slice A Q k) (strC P Q n c b) ∧ Below w.heap.size w w' := by
  refine (stretch_yes P Q n d.hQ c v b y1 y2 (ok_of d.hQ d.hp d.h1 d.h64 hc) w hL (Nat.le_refl _) hM).mono ?_
  rintro e w' ⟨u, rfl, hf, hB⟩
  obtain ⟨A, k, rfl, hm⟩ := out_slice hf (str_good d.h1 d.h64 hc b)
  exact ⟨A, k, rfl, hm, hB⟩
theorem slackY (d : Dims P Q n) (b : Int) (y1 : -9223372036854775808 ≤ b) (y2 : b ≤ 9223372036854775807) (hb : b % (P : Int) ≠ 0) (c : List (List UInt8)) (hc : GoodC Q n c) (v : Value) (w : World) (hL : Laid w) (hM : Many w.heap.size w v c) :
    Calls Tryd.prog 18 #[.int .i64 (P : Int), v, .int .i64 b] w fun e w' => ∃ A k, e = .returned (.tuple #[.slice A Q k, .int .i64 0]) ∧ Many w'.heap.size w' (.slice A Q k) (slackL P Q (wholeF Q n c) b) ∧ Below w.heap.size w w' := by
  refine (slacken_yes P Q n d.hQ c v b y1 y2 (ok_of d.hQ d.hp d.h1 d.h64 hc) hb w hL (Nat.le_refl _) hM).mono ?_
  rintro e w' ⟨u, rfl, hf, hB⟩
  obtain ⟨A, k, rfl, hm⟩ := out_slice hf (slack_good d.hQ d.h1 d.h64 hc b)
  exact ⟨A, k, rfl, hm, hB⟩
theorem sumY (d : Dims P Q n) (css : List (List (List UInt8))) (h0 : 0 < css.length) (hl : css.length ≤ 100) (hg : ∀ j, j < css.length → GoodC Q n (css[j]?.getD [])) (v : Value) (w : World) (hL : Laid w) (hC : Cols w.heap.size w v css) :
    Calls Tryd.prog 21 #[.int .i64 (P : Int), v] w fun e w' => ∃ A k, e = .returned (.tuple #[.slice A Q k, .int .i64 0]) ∧ Many w'.heap.size w' (.slice A Q k) (sumC Q css) ∧ Below w.heap.size w w' := by
  obtain ⟨hr, hf⟩ := right_of_good d.hQ d.hp h0 hg
  have hgs : GoodC Q n (sumC Q css) := sum_good d.h1 d.h64 h0 fun c hc => by
    obtain ⟨i, hi, rfl⟩ := List.mem_iff_getElem.1 hc
    have := hg i hi
    rwa [List.getElem?_eq_getElem hi] at this
  refine (sum_yes P Q n d.hQ css v hr hf d.h1 d.h64 h0 hl w hL (Nat.le_refl _) hC).mono ?_
  rintro e w' ⟨u, rfl, hu, hB⟩
  obtain ⟨A, k, rfl, hm⟩ := out_slice hu hgs
  exact ⟨A, k, rfl, hm, hB⟩
theorem sameY (d : Dims P Q n) (c e : List (List UInt8)) (hc : GoodC Q n c) (he : c = e) (u v : Value) (w : World) (h1 : Many w.heap.size w u c) (h2 : Many w.heap.size w v e) :
    Calls Tryd.prog 26 #[u, v] w fun e w' => e = .returned (.bool true) ∧ Below w.heap.size w w' := by
  have hl : Q ≤ 100000 := by have := prm_bounds d.hp; have := d.hQ; omega
  have h := sameCol_any u v c e w h1 h2 (by rw [hc.1]; exact hl) (by rw [← he, hc.1]; exact hl)
  rwa [show decide (c = e) = true by simpa using he] at h
theorem rem_zero {p : Nat} (a : Int) (h : a % (p : Int) = 0) : (a.tmod (p : Int)) = 0 := Int.tmod_eq_zero_of_dvd (Int.dvd_of_emod_eq_zero h)
theorem rem_not {p : Nat} (a : Int) (h : a % (p : Int) ≠ 0) : (a.tmod (p : Int)) ≠ 0 := fun e => h (Int.emod_eq_zero_of_dvd (Int.dvd_of_tmod_eq_zero e))
end Go.Proofs.YtckfepmahjgmfaaDoor.Rg

