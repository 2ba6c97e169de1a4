/- ModHolds: a walk by a step that has an inverse comes to each place once, and when. -/
import Derived.Test.YtoljflkfhdaipaaDoorMLawKit
namespace Go.Proofs.YtoljflkfhdaipaaDoor.modHolds
open Go.RowKit

theorem back_add (p x y : Int) : ((x + y) % p - y) % p = x % p := by
  rw [Int.sub_emod, Int.emod_emod_of_dvd _ (Int.dvd_refl p), ← Int.sub_emod, Int.add_sub_cancel]
theorem mul_in (p a b : Int) : a % p * b % p = a * b % p := by
  rw [Int.mul_emod, Int.emod_emod_of_dvd _ (Int.dvd_refl p), ← Int.mul_emod]
theorem add_in (p a b : Int) : (a + b % p) % p = (a + b) % p := by
  rw [Int.add_emod, Int.emod_emod_of_dvd _ (Int.dvd_refl p), ← Int.add_emod]
theorem mul_back (p s i a : Int) (h : s * i % p = 1) : a * s % p * i % p = a % p := by
  rw [mul_in, Int.mul_assoc, Int.mul_comm, ← mul_in, h, Int.one_mul]
theorem mul_back' (p s i a : Int) (h : s * i % p = 1) : a * i % p * s % p = a % p := mul_back p i s a (by rw [Int.mul_comm]; exact h)

theorem walk_inj (p : Nat) (x s i : Int) (h : s * i % (p : Int) = 1) {k k' : Nat} (hk : k < p) (hk' : k' < p) (e : walkAt p x s k = walkAt p x s k') : k = k' := by
  unfold walkAt at e
  have e2 : ((k : Int) * s) % (p : Int) = ((k' : Int) * s) % (p : Int) := by
    rw [Int.emod_eq_emod_iff_emod_sub_eq_zero] at e ⊢
    rw [show x + (k : Int) * s - (x + (k' : Int) * s) = (k : Int) * s - (k' : Int) * s by omega] at e
    exact e
  have e3 := congrArg (fun z => z * i % (p : Int)) e2
  simp only [mul_back _ _ _ _ h] at e3
  rw [Int.emod_eq_of_lt (by omega) (by omega), Int.emod_eq_of_lt (by omega) (by omega)] at e3
  omega
theorem walk_nodup (p : Nat) (x s i : Int) (h : s * i % (p : Int) = 1) : (walkL p x s).Nodup := by
  unfold walkL List.Nodup
  rw [List.pairwise_map]
  refine List.Pairwise.imp_of_mem ?_ (List.pairwise_lt_range (n := p))
  intro a b ha hb hlt e
  have := walk_inj p x s i h (List.mem_range.1 ha) (List.mem_range.1 hb) e
  omega
theorem walk_in (p : Nat) (hp : 0 < p) (x s : Int) : ∀ z ∈ walkL p x s, 0 ≤ z ∧ z < p := by
  intro z hz
  unfold walkL at hz
  obtain ⟨k, _, rfl⟩ := List.mem_map.1 hz
  exact walkAt_lt p hp x s k

theorem walk_comes (p : Nat) (hp : 0 < p) (x y s i : Int) (h : s * i % (p : Int) = 1) (y0 : 0 ≤ y) (y1 : y < p) : walkAt p x s ((y - x) % (p : Int) * i % (p : Int)).toNat = y := by
  have h0 := Int.emod_nonneg ((y - x) % (p : Int) * i) (show (p : Int) ≠ 0 by omega)
  unfold walkAt
  rw [Int.toNat_of_nonneg h0, ← add_in, mul_back' _ _ _ _ h, add_in, add_in, show x + (y - x) = y by omega, Int.emod_eq_of_lt y0 y1]

theorem walk_ahead (p : Nat) (hp : 0 < p) (x y s i : Int) (h : s * i % (p : Int) = 1) (y0 : 0 ≤ y) (y1 : y < p) :
    y ∈ walkL p x s ∧ ((ahead y (walkL p x s) : Nat) : Int) = (y - x) % (p : Int) * i % (p : Int) := by
  have hc := walk_comes p hp x y s i h y0 y1
  have h0 := Int.emod_nonneg ((y - x) % (p : Int) * i) (show (p : Int) ≠ 0 by omega)
  have h1 := Int.emod_lt_of_pos ((y - x) % (p : Int) * i) (show (0 : Int) < p by omega)
  generalize (y - x) % (p : Int) * i % (p : Int) = z at *
  obtain ⟨k, rfl⟩ : ∃ k : Nat, z = (k : Int) := ⟨z.toNat, by omega⟩
  rw [Int.toNat_natCast] at hc
  have hk : k < p := by omega
  have hn : y ∉ (walkL p x s).take k := by
    intro hm
    obtain ⟨j, hj, e⟩ := List.mem_iff_getElem.1 hm
    rw [List.length_take, walkL_len] at hj
    rw [List.getElem_take] at e
    have e2 : walkAt p x s j = y := by rw [← e]; unfold walkL; rw [List.getElem_map, List.getElem_range]
    have := walk_inj p x s i h (show j < p by omega) hk (e2.trans hc.symm)
    omega
  have hpre : (walkL p x s).take k ++ [y] <+: walkL p x s := by
    rw [← hc, ← walkL_next p x s k hk]
    exact List.take_prefix _ _
  obtain ⟨m1, m2⟩ := ahead_of hpre hn
  refine ⟨m1, ?_⟩
  rw [m2, List.length_take, walkL_len]
  omega

theorem inverse_fact : ∀ p ∈ prm, ∀ m ∈ List.range 17, (m : Int) < p → m ≠ 0 → (lookN p (m : Int) (fun n => (n : Int) * (m : Int) % p == 1)).2 = 0 ∧
    (0 ≤ (lookN p (m : Int) (fun n => (n : Int) * (m : Int) % p == 1)).1 ∧ (lookN p (m : Int) (fun n => (n : Int) * (m : Int) % p == 1)).1 < p) ∧
    (m : Int) * (lookN p (m : Int) (fun n => (n : Int) * (m : Int) % p == 1)).1 % p = 1 := by decide +kernel
theorem inverse_pair (p : Int) (hp : p ∈ prm) (m : Int) (h0 : 0 ≤ m) (hm : m < p) (hne : m ≠ 0) :
    ∃ i, lookN p m (fun n => (n : Int) * m % p == 1) = (i, 0) ∧ (0 ≤ i ∧ i < p) ∧ m * i % p = 1 := by
  obtain ⟨k, rfl⟩ : ∃ k : Nat, m = (k : Int) := ⟨m.toNat, by omega⟩
  obtain ⟨h1, h2, h3⟩ := inverse_fact p hp k (List.mem_range.2 (by have := prm_bounds hp; omega)) hm (by omega)
  exact ⟨_, Prod.ext rfl h1, h2, h3⟩

theorem meet_fact (p : Int) (hp : p ∈ prm) (x t y i : Int) (x0 : 0 ≤ x) (x1 : x < p) (y0 : 0 ≤ y) (y1 : y < p) (h : t % p * i % p = 1) : meetN p x t y = ((y - x) % p * i % p, 0) := by
  have hb := prm_bounds hp
  have hw : walkN p x t = walkL p.toNat x (t % p) := if_pos ⟨hp, x0, x1⟩
  obtain ⟨P, rfl⟩ : ∃ P : Nat, p = (P : Int) := ⟨p.toNat, by omega⟩
  rw [Int.toNat_natCast] at hw
  obtain ⟨h1, h2⟩ := walk_ahead P (by omega) x y (t % P) i h y0 y1
  unfold meetN
  rw [if_pos ⟨hp, ⟨x0, x1⟩, y0, y1⟩, hw, if_pos h1, h2]
end Go.Proofs.YtoljflkfhdaipaaDoor.modHolds
