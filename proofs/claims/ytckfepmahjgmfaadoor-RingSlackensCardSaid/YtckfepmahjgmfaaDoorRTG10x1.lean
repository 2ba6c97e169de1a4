/- ring: the mathematics of turned, stretched and slackened columns, byte by byte. The laws of ring: contracts as the laws want them. -/
import Derived.Test.YtckfepmahjgmfaaDoorRTG9
import Derived.Test.YtckfepmahjgmfaaDoorRTG9x1
import Derived.Test.YtckfepmahjgmfaaDoorRTG6
import Derived.Test.YtckfepmahjgmfaaDoorRTG3x1
import Derived.Test.YtckfepmahjgmfaaDoorRTG10
namespace Go.Proofs.YtckfepmahjgmfaaDoor.Rg
open Go.RowKit Go.Shelf Go.Proofs.YtckfepmahjgmfaaDoor.C Go.Proofs.YtckfepmahjgmfaaDoor.E
set_option linter.unusedSimpArgs false
set_option linter.unusedVariables false

theorem xx (a b : UInt8) : a ^^^ (a ^^^ b) = b := by rw [← UInt8.xor_assoc, UInt8.xor_self, UInt8.zero_xor]
theorem xlc (a b c : UInt8) : a ^^^ (b ^^^ c) = b ^^^ (a ^^^ c) := by rw [← UInt8.xor_assoc, UInt8.xor_comm a b, UInt8.xor_assoc]
theorem x_of {a b : UInt8} (h : a ^^^ b = 0) : a = b := by
  have := congrArg (· ^^^ b) h
  simpa [UInt8.xor_assoc] using this
theorem reach {P : Nat} (hp : (P : Int) ∈ prm) {a : Int} (ha : a % (P : Int) ≠ 0) (r : Int) : ∃ m : Nat, r % (P : Int) = (-1 + (m : Int) * a) % (P : Int) := by
  have hb := prm_bounds hp
  have h0 := Int.emod_nonneg a (show (P : Int) ≠ 0 by omega)
  have h1 := Int.emod_lt_of_pos a (show (0 : Int) < P by omega)
  obtain ⟨i, _, _, hi⟩ := inv_ex (P : Int) hp (a % (P : Int)) h0 h1 ha
  have h2 := Int.emod_nonneg r (show (P : Int) ≠ 0 by omega)
  have h3 := Int.emod_lt_of_pos r (show (0 : Int) < P by omega)
  refine ⟨((r % (P : Int) - -1) % (P : Int) * i % (P : Int)).toNat, (walk_comes P (by omega) (-1) (r % (P : Int)) (a % (P : Int)) i hi h2 h3).symm.trans ?_⟩
  generalize ((r % (P : Int) - -1) % (P : Int) * i % (P : Int)).toNat = m
  unfold walkAt
  rw [Int.add_emod, Int.mul_emod, Int.emod_emod_of_dvd _ (Int.dvd_refl _), ← Int.mul_emod, ← Int.add_emod]
theorem prm_odd {P Q : Nat} (hQ : P = Q + 1) (hp : (P : Int) ∈ prm) : Q % 2 = 0 := by
  have h : ∀ p ∈ prm, (p - 1) % 2 = 0 := by decide
  have := h _ hp
  omega
theorem st_inj {P Q : Nat} (hQ : P = Q + 1) (hp : (P : Int) ∈ prm) {a : Int} (ha : a % (P : Int) ≠ 0) {x y : Int → UInt8} (hx : Per P x) (hy : Per P y) (h : ∀ r, st a x r = st a y r) (r : Int) : x r = y r := by
  obtain ⟨E, hE⟩ : ∃ E : Int → UInt8, E = fun r => x r ^^^ y r := ⟨_, rfl⟩
  have pE : Per P E := by rw [hE]; exact hx.add hy
  have e1 : ∀ r, E r = E (r - a) ^^^ E (-1 - a) := fun r => by
    have := h r
    unfold st tu at this
    apply x_of
    rw [hE]
    show (x r ^^^ y r) ^^^ ((x (r - a) ^^^ y (r - a)) ^^^ (x (-1 - a) ^^^ y (-1 - a))) = 0
    have e : (x r ^^^ (x (r - a) ^^^ x (-1 - a))) ^^^ (y r ^^^ (y (r - a) ^^^ y (-1 - a))) = 0 := by rw [this]; exact UInt8.xor_self
    rw [← e]
    simp only [UInt8.xor_assoc, UInt8.xor_comm, xlc, xx, UInt8.xor_self, UInt8.xor_zero, UInt8.zero_xor]
  have e2 : ∀ m : Nat, E (-1 + (m : Int) * a) = if m % 2 = 0 then 0 else E (-1 - a) := by
    intro m
    induction m with
    | zero => rw [if_pos rfl]; simpa using pE.2
    | succ m ih =>
      rw [e1, show -1 + ((m + 1 : Nat) : Int) * a - a = -1 + (m : Int) * a by rw [Int.natCast_add, Int.add_mul]; omega, ih]
      rcases Nat.mod_two_eq_zero_or_one m with h2 | h2
      · rw [if_pos h2, if_neg (by omega), UInt8.zero_xor]
      · rw [if_neg (by omega), if_pos (by omega), UInt8.xor_self]
  have e3 : E (-1 - a) = 0 := by
    have := e2 Q
    rw [if_pos (prm_odd hQ hp)] at this
    rw [← this]
    refine pE.1 _ _ ?_
    have hPz : (Q : Int) = (P : Int) - 1 := by omega
    rw [hPz, show -1 + ((P : Int) - 1) * a = -1 - a + (P : Int) * a by rw [Int.sub_mul]; omega, Int.add_mul_emod_self_left]
  obtain ⟨m, hm⟩ := reach hp ha r
  have e4 : E r = 0 := by rw [pE.1 _ _ hm, e2, e3]; split <;> rfl
  rw [hE] at e4
  exact x_of e4
/-- What the cells of all rows come to. -/
def al (P : Nat) (x : Int → UInt8) : UInt8 := xa ((List.range P).map fun i : Nat => x (i : Int))
/-- What slackens: its rows' steps are those of the column, and what all come to. -/
theorem st_slack {P : Nat} {x k : Int → UInt8} {b : Int} (hx : Per P x) (hk : Per P k) (h : ∀ r, k r ^^^ k (r - b) = x r ^^^ al P x) (r : Int) : st b k r = x r := by
  have h1 := h (-1)
  rw [hk.2, hx.2, UInt8.zero_xor, UInt8.zero_xor] at h1
  unfold st tu
  rw [h1, ← UInt8.xor_assoc, h, UInt8.xor_assoc, UInt8.xor_self, UInt8.xor_zero]
/-- The rows in the order of steps, the last one left out. -/
theorem rows_fin : ∀ p ∈ prm, ∀ s ∈ List.range 17, (s : Int) < p → s ≠ 0 → rowsF p (walkL p.toNat (p - 1) (s : Int)) = (List.range (p - 1).toNat).map (fun k : Nat => (p - 1 + ((k : Int) + 1) * (s : Int)) % p) := by decide +kernel
theorem mul_mod (P : Nat) (x m b : Int) : (x + m * (b % (P : Int))) % (P : Int) = (x + m * b) % (P : Int) := by
  rw [Int.add_emod, Int.mul_emod, Int.emod_emod_of_dvd _ (Int.dvd_refl _), ← Int.mul_emod, ← Int.add_emod]
theorem rows_are {P Q : Nat} (hQ : P = Q + 1) (hp : (P : Int) ∈ prm) {b : Int} (hb : b % (P : Int) ≠ 0) : rowsF P (walkN P ((P : Int) - 1) b) = (List.range Q).map (fun k : Nat => ((P : Int) - 1 + ((k : Int) + 1) * b) % (P : Int)) := by
  have hpb := prm_bounds hp
  have h0 := Int.emod_nonneg b (show (P : Int) ≠ 0 by omega)
  have h1 := Int.emod_lt_of_pos b (show (0 : Int) < P by omega)
  obtain ⟨s, hs⟩ : ∃ s : Nat, b % (P : Int) = (s : Int) := ⟨(b % (P : Int)).toNat, by omega⟩
  have h := rows_fin _ hp s (List.mem_range.2 (by omega)) (by omega) (by omega)
  rw [walkN_yes (fine_one.2 ⟨hp, by omega, by omega⟩), hs, h, show ((P : Int) - 1).toNat = Q by omega]
  refine List.map_congr_left fun k _ => ?_
  rw [← hs, mul_mod]
/-- How far the heap has come. -/
def sofar (P : Nat) (x : Int → UInt8) (b : Int) (m : Nat) : UInt8 := xa ((List.range m).map fun k : Nat => x (-1 + ((k : Int) + 1) * b) ^^^ al P x)
theorem sofar_next (P : Nat) (x : Int → UInt8) (b : Int) (m : Nat) : sofar P x b (m + 1) = sofar P x b m ^^^ (x (-1 + ((m : Int) + 1) * b) ^^^ al P x) := by
  unfold sofar
  rw [List.range_succ, List.map_append, xa_append]
  simp [xa]
theorem xa_xorc (l : List UInt8) (a : UInt8) : xa (l.map fun x => x ^^^ a) = xa l ^^^ (if l.length % 2 = 0 then 0 else a) := by
  induction l with
  | nil => simp [xa]
  | cons y l ih =>
    rw [List.map_cons, xa_cons, xa_cons, ih, List.length_cons]
    rcases Nat.mod_two_eq_zero_or_one l.length with h2 | h2
    · rw [if_pos h2, if_neg (by omega)]; simp only [UInt8.xor_assoc, UInt8.xor_comm, xlc, xx, UInt8.xor_self, UInt8.xor_zero, UInt8.zero_xor]
    · rw [if_neg (by omega), if_pos (by omega)]; simp only [UInt8.xor_assoc, UInt8.xor_comm, xlc, xx, UInt8.xor_self, UInt8.xor_zero, UInt8.zero_xor]
theorem perm_fin : ∀ p ∈ prm, ∀ s ∈ List.range 17, (s : Int) < p → s ≠ 0 → ((List.range p.toNat).map (fun k : Nat => (-1 + (k : Int) * (s : Int)) % p)).isPerm ((List.range p.toNat).map fun k : Nat => (k : Int)) = true := by decide +kernel
/-- All places come by steps. -/
theorem all_steps {P : Nat} (hp : (P : Int) ∈ prm) {b : Int} (hb : b % (P : Int) ≠ 0) {x : Int → UInt8} (hx : Per P x) : xa ((List.range P).map fun k : Nat => x (-1 + (k : Int) * b)) = al P x := by
  have hpb := prm_bounds hp
  have h0 := Int.emod_nonneg b (show (P : Int) ≠ 0 by omega)
  have h1 := Int.emod_lt_of_pos b (show (0 : Int) < P by omega)
  obtain ⟨s, hs⟩ : ∃ s : Nat, b % (P : Int) = (s : Int) := ⟨(b % (P : Int)).toNat, by omega⟩
  have h := xa_perm ((List.isPerm_iff.1 (perm_fin _ hp s (List.mem_range.2 (by omega)) (by omega) (by omega))).map x)
  rw [Int.toNat_natCast, List.map_map, List.map_map] at h
  unfold al
  refine Eq.trans ?_ h
  congr 1
  refine List.map_congr_left fun k _ => ?_
  refine hx.1 _ _ ?_
  rw [← hs, Int.emod_emod_of_dvd _ (Int.dvd_refl _), mul_mod]
theorem sofar_all {P Q : Nat} (hQ : P = Q + 1) (hp : (P : Int) ∈ prm) {b : Int} (hb : b % (P : Int) ≠ 0) {x : Int → UInt8} (hx : Per P x) : sofar P x b Q = al P x := by
  have h := all_steps hp hb hx
  have hr : List.range P = 0 :: (List.range Q).map Nat.succ := by rw [hQ, List.range_succ_eq_map]
  rw [hr, List.map_cons, xa_cons, List.map_map] at h
  have e0 : x (-1 + ((0 : Nat) : Int) * b) = 0 := by rw [show -1 + ((0 : Nat) : Int) * b = -1 by simp]; exact hx.2
  rw [e0, UInt8.zero_xor] at h
  unfold sofar
  have e := xa_xorc ((List.range Q).map fun k : Nat => x (-1 + ((k : Int) + 1) * b)) (al P x)
  rw [List.map_map, List.length_map, List.length_range, if_pos (prm_odd hQ hp), UInt8.xor_zero] at e
  refine Eq.trans e (Eq.trans ?_ h)
  congr 1
/-- What the slackened column's bytes are. -/
theorem slack_steps {P Q : Nat} (hQ : P = Q + 1) (hp : (P : Int) ∈ prm) {b : Int} (hb : b % (P : Int) ≠ 0) {x k : Int → UInt8} (hx : Per P x) (hk : Per P k) (h : ∀ m, m ≤ Q → k (-1 + (m : Int) * b) = sofar P x b m) (r : Int) : k r ^^^ k (r - b) = x r ^^^ al P x := by
  obtain ⟨m0, hm0⟩ := reach hp hb r
  obtain ⟨m, hm, hmQ⟩ : ∃ m : Nat, r % (P : Int) = (-1 + (m : Int) * b) % (P : Int) ∧ m ≤ Q := by
    refine ⟨m0 % P, hm0.trans ?_, by have := Nat.mod_lt m0 (show 0 < P by omega); omega⟩
    have e : (m0 : Int) = ((m0 % P : Nat) : Int) + (P : Int) * ((m0 / P : Nat) : Int) := by rw [← Int.natCast_mul, ← Int.natCast_add, Nat.mod_add_div]
    rw [e, Int.add_mul, ← Int.add_assoc, Int.mul_assoc, Int.add_mul_emod_self_left]
  rw [hk.1 _ _ hm, hk.1 _ _ (mod_sub hm b), hx.1 _ _ hm]
  rcases m with _ | m
  · rw [show -1 + ((0 : Nat) : Int) * b - b = -1 - b by simp, show -1 + ((0 : Nat) : Int) * b = -1 by simp, hk.2, hx.2]
    have e : k (-1 - b) = sofar P x b Q := by
      rw [← h Q (Nat.le_refl _)]
      refine hk.1 _ _ ?_
      rw [show (-1 : Int) + (Q : Int) * b = -1 - b + (P : Int) * b by rw [hQ, Int.natCast_add, Int.add_mul]; omega, Int.add_mul_emod_self_left]
    rw [e, sofar_all hQ hp hb hx]
  · rw [show -1 + ((m + 1 : Nat) : Int) * b - b = -1 + (m : Int) * b by rw [Int.natCast_add, Int.add_mul]; omega, h _ hmQ, h _ (by omega), sofar_next, show ((m + 1 : Nat) : Int) = (m : Int) + 1 by omega]
    simp only [UInt8.xor_assoc, UInt8.xor_comm, xlc, xx, UInt8.xor_self, UInt8.xor_zero, UInt8.zero_xor]
theorem al_whole {P Q n : Nat} (hQ : P = Q + 1) {c : List (List UInt8)} (hc : GoodC Q n c) (j : Nat) : at_ (xorOf ((List.range P).map (wholeF Q n c))) j = al P (Bt P Q n c j) := by
  rw [at_xorOf (n := n) (by simp; omega) (fun l hl => by obtain ⟨i, _, rfl⟩ := List.mem_map.1 hl; exact whole_len hc i), List.map_map]
  unfold al
  congr 1
  refine List.map_congr_left fun i hi => ?_
  have := List.mem_range.1 hi
  show at_ (wholeF Q n c i) j = _
  unfold Bt
  rw [Int.emod_eq_of_lt (by omega) (by omega), Int.toNat_natCast]
theorem whole_all_len {P Q n : Nat} (hQ : P = Q + 1) {c : List (List UInt8)} (hc : GoodC Q n c) : (xorOf ((List.range P).map (wholeF Q n c))).length = n :=
  xorOf_len_of (by simp; omega) (fun l hl => by obtain ⟨i, _, rfl⟩ := List.mem_map.1 hl; exact whole_len hc i)
/-- What is held when so many rows have come. -/
theorem hld_at {P Q n : Nat} (hQ : P = Q + 1) {c : List (List UInt8)} (hc : GoodC Q n c) (b : Int) (j : Nat) : ∀ m : Nat, at_ (hld (wholeF Q n c) (wholeF Q n c Q) (xorOf ((List.range P).map (wholeF Q n c))) ((List.range m).map (fun k : Nat => ((P : Int) - 1 + ((k : Int) + 1) * b) % (P : Int)))) j = sofar P (Bt P Q n c j) b m := by
  intro m
  induction m with
  | zero => show at_ (wholeF Q n c Q) j = _; unfold wholeF; rw [if_neg (Nat.lt_irrefl _)]; exact at_nought n j
  | succ m ih =>
    rw [List.range_succ, List.map_append, List.map_cons, List.map_nil, hld_snoc, at_two (hld_len (whole_len hc Q) _) (len_two (whole_len hc _) (whole_all_len hQ hc)), at_two (whole_len hc _) (whole_all_len hQ hc), ih, sofar_next, al_whole hQ hc]
    congr 2
    show Bt P Q n c j ((P : Int) - 1 + ((m : Int) + 1) * b) = _
    refine (Bt.per hQ c j).1 _ _ ?_
    rw [show (P : Int) - 1 + ((m : Int) + 1) * b = (-1 + ((m : Int) + 1) * b) + (P : Int) * 1 by omega, Int.add_mul_emod_self_left]
theorem slack_good {P Q n : Nat} (hQ : P = Q + 1) (h1 : 1 ≤ n) (h64 : n ≤ 64) {c : List (List UInt8)} (hc : GoodC Q n c) (b : Int) : GoodC Q n (slackL P Q (wholeF Q n c) b) :=
  made_good h1 h64 _ fun i _ => hld_len (whole_len hc Q) _
theorem idx_map {α : Type} [BEq α] [LawfulBEq α] : ∀ (l : List α), l.Nodup → ∀ m (hm : m < l.length), l.idxOf l[m] = m := by
  intro l
  induction l with
  | nil => intro _ m hm; simp at hm
  | cons a l ih =>
    intro hn m hm
    rw [List.nodup_cons] at hn
    rcases m with _ | m
    · simp
    · rw [List.idxOf_cons]
      have : (a == (a :: l)[m + 1]) = false := by
        rw [beq_eq_false_iff_ne]
        intro e
        exact hn.1 (by rw [e]; simp)
      rw [this]
      simp only [List.getElem_cons_succ, cond_false]
      rw [ih hn.2 m (by simpa using hm)]
theorem bt_slack {P Q n : Nat} (hQ : P = Q + 1) (hp : (P : Int) ∈ prm) {c : List (List UInt8)} (hc : GoodC Q n c) {b : Int} (hb : b % (P : Int) ≠ 0) (j : Nat) (r : Int) :
    Bt P Q n (slackL P Q (wholeF Q n c) b) j r ^^^ Bt P Q n (slackL P Q (wholeF Q n c) b) j (r - b) = Bt P Q n c j r ^^^ al P (Bt P Q n c j) := by
  obtain ⟨h1, h2, h3⟩ := slack_rows P Q hQ hp b hb
  refine slack_steps hQ hp hb (Bt.per hQ c j) (Bt.per hQ _ j) (fun m hm => ?_) r
  rcases m with _ | m
  · rw [show -1 + ((0 : Nat) : Int) * b = -1 by simp, (Bt.per hQ _ j).2]; rfl
  · rw [rows_are hQ hp hb] at h1 h3
    have hl : m < ((List.range Q).map (fun k : Nat => ((P : Int) - 1 + ((k : Int) + 1) * b) % (P : Int))).length := by simp; omega
    have hg : ((List.range Q).map (fun k : Nat => ((P : Int) - 1 + ((k : Int) + 1) * b) % (P : Int)))[m] = ((P : Int) - 1 + ((m : Int) + 1) * b) % (P : Int) := by simp
    have hi := idx_map _ h1 m hl
    rw [hg] at hi
    have h4 := h3 (((P : Int) - 1 + ((m : Int) + 1) * b) % (P : Int)) (by rw [← hg]; exact List.getElem_mem hl)
    obtain ⟨i, hiQ⟩ : ∃ i : Nat, ((P : Int) - 1 + ((m : Int) + 1) * b) % (P : Int) = (i : Int) := ⟨(((P : Int) - 1 + ((m : Int) + 1) * b) % (P : Int)).toNat, by omega⟩
    have hi3 : i < Q := by omega
    have e : (-1 + ((m + 1 : Nat) : Int) * b) % (P : Int) = (i : Int) := by
      rw [← hiQ, show (P : Int) - 1 + ((m : Int) + 1) * b = (-1 + ((m + 1 : Nat) : Int) * b) + (P : Int) * 1 by rw [show ((m + 1 : Nat) : Int) = (m : Int) + 1 by omega]; omega, Int.add_mul_emod_self_left]
    rw [bt_at hQ _ j hi3 e]
    unfold slackL
    rw [row_get Q _ hi3, rows_are hQ hp hb, ← hiQ, hi, ← List.map_take, List.take_range, Nat.min_eq_left (by omega)]
    exact hld_at hQ hc b j (m + 1)
/-- Stretched, the slackened column is the column. -/
theorem str_slack {P Q n : Nat} (hQ : P = Q + 1) (hp : (P : Int) ∈ prm) (h1 : 1 ≤ n) (h64 : n ≤ 64) {c : List (List UInt8)} (hc : GoodC Q n c) {b : Int} (hb : b % (P : Int) ≠ 0) : strC P Q n (slackL P Q (wholeF Q n c) b) b = c := by
  have hg := slack_good hQ h1 h64 hc b
  refine col_ext hQ (str_good h1 h64 hg b) hc fun j r => ?_
  rw [bt_str hQ hg]
  exact st_slack (Bt.per hQ c j) (Bt.per hQ _ j) (fun r => bt_slack hQ hp hc hb j r) r
/-- One column alone, stretched, is a given one. -/
theorem str_inj {P Q n : Nat} (hQ : P = Q + 1) (hp : (P : Int) ∈ prm) {c d : List (List UInt8)} (hc : GoodC Q n c) (hd : GoodC Q n d) {b : Int} (hb : b % (P : Int) ≠ 0) (h : strC P Q n c b = strC P Q n d b) : c = d := by
  refine col_ext hQ hc hd fun j r => ?_
  refine st_inj hQ hp hb (Bt.per hQ c j) (Bt.per hQ d j) (fun r => ?_) r
  rw [← bt_str hQ hc, ← bt_str hQ hd, h]
end Go.Proofs.YtckfepmahjgmfaaDoor.Rg

namespace Go.Proofs.YtckfepmahjgmfaaDoor.Rg
open Go.RowKit Go.Shelf Go.Proofs.YtckfepmahjgmfaaDoor.C Go.Proofs.YtckfepmahjgmfaaDoor.E
set_option linter.unusedSimpArgs false
set_option linter.unusedVariables false
attribute [local go_sem] Oper.semAt_some

variable {P Q n : Nat}
theorem slackY (d : Dims P Q n) (b : Int) (y1 : -9223372036854775808 ≤ b) (y2 : b ≤ 9223372036854775807) (hb : b % (P : Int) ≠ 0) (c : List (List UInt8)) (hc : GoodC Q n c) (v : Value) (w : World) (hL : Laid w) (hM : Many w.heap.size w v c) :
    Calls Tryd.prog 18 #[.int .i64 (P : Int), v, .int .i64 b] w fun e w' => ∃ A k, e = .returned (.tuple #[.slice A Q k, .int .i64 0]) ∧ Many w'.heap.size w' (.slice A Q k) (slackL P Q (wholeF Q n c) b) ∧ Below w.heap.size w w' := by
  refine (slacken_yes P Q n d.hQ c v b y1 y2 (ok_of d.hQ d.hp d.h1 d.h64 hc) hb w hL (Nat.le_refl _) hM).mono ?_
  rintro e w' ⟨u, rfl, hf, hB⟩
  obtain ⟨A, k, rfl, hm⟩ := out_slice hf (slack_good d.hQ d.h1 d.h64 hc b)
  exact ⟨A, k, rfl, hm, hB⟩
theorem rem_zero {p : Nat} (a : Int) (h : a % (p : Int) = 0) : (a.tmod (p : Int)) = 0 := Int.tmod_eq_zero_of_dvd (Int.dvd_of_emod_eq_zero h)
theorem rem_not {p : Nat} (a : Int) (h : a % (p : Int) ≠ 0) : (a.tmod (p : Int)) ≠ 0 := fun e => h (Int.emod_eq_zero_of_dvd (Int.dvd_of_tmod_eq_zero e))
end Go.Proofs.YtckfepmahjgmfaaDoor.Rg

