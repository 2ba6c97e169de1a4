/- ShapeHolds: what its loops reckon: diagonals and slants of a column. -/
import Derived.Test.YthhgalhabdkikaaDoorSwL
namespace Go.Proofs.YthhgalhabdkikaaDoor

/-- Fewer, by what each of the rows has. -/
def downTo (f : Int → Int) (t : Int) (pre : List Int) : Int := pre.foldl (fun a x => a - f x) t
theorem downTo_next (f : Int → Int) (t : Int) (pre : List Int) (x : Int) : downTo f t (pre ++ [x]) = downTo f t pre - f x := by unfold downTo; rw [List.foldl_append]; rfl
theorem downTo_bounds (f : Int → Int) (t : Int) (hf : ∀ x, 0 ≤ f x ∧ f x ≤ 17) : ∀ (n : Nat) (pre : List Int), pre.length = n → t - 17 * n ≤ downTo f t pre ∧ downTo f t pre ≤ t
  | 0, pre, h => by rw [List.eq_nil_of_length_eq_zero h]; unfold downTo; simp
  | n + 1, pre, h => by
    obtain ⟨q, y, rfl⟩ : ∃ q y, pre = q ++ [y] := ⟨pre.dropLast, pre.getLast (by intro e; rw [e] at h; cases h), (List.dropLast_concat_getLast _).symm⟩
    have := downTo_bounds f t hf n q (by rw [List.length_append] at h; simp at h; omega)
    have hy := hf y
    rw [downTo_next]
    omega
def dgI (p c x : Int) : Int := (c + x) % p
def slI (p c x : Int) : Int := (x - c) % p
def dgLackI (p c : Int) : Int := (c + (p - 1)) % p
def slLackI (p c : Int) : Int := (p - 1 - c) % p
def lacksD (p f : Int) (n : Nat) : List Int := (List.range n).map fun (i : Nat) => dgLackI p (f + (i : Int))
def lacksS (p f : Int) (n : Nat) : List Int := (List.range n).map fun (i : Nat) => slLackI p (f + (i : Int))
theorem holds_dg : ∀ p ∈ prm, ∀ c ∈ List.range 24, downTo (dgI p (c : Int)) (p * (p - 1) / 2) (rowsL p) = dgLackI p (c : Int) ∧ downTo (slI p (c : Int)) (p * (p - 1) / 2) (rowsL p) = slLackI p (c : Int) := by decide +kernel
theorem holds_lack : ∀ p ∈ prm, ∀ f ∈ List.range 8, (lacksD p (f : Int) p.toNat).Nodup ∧ (lacksS p (f : Int) p.toNat).Nodup := by decide +kernel
theorem holds_tot : ∀ p ∈ prm, 0 ≤ p * (p - 1) ∧ p * (p - 1) ≤ 1000 ∧ 0 ≤ p * (p - 1) / 2 ∧ p * (p - 1) / 2 ≤ 500 ∧ (p * (p - 1)).tdiv 2 = p * (p - 1) / 2 := by decide +kernel
theorem lack_new {α : Type} (f : Nat → α) (n : Nat) (h : ((List.range n).map f).Nodup) {k : Nat} (hk : k < n) : f k ∉ (List.range k).map f := by
  intro hm
  have e : (List.range (k + 1)).map f = ((List.range n).map f).take (k + 1) := by
    rw [← List.map_take, List.take_range, Nat.min_eq_left (show k + 1 ≤ n from hk)]
  have h2 : ((List.range (k + 1)).map f).Nodup := by rw [e]; exact h.sublist (List.take_sublist _ _)
  rw [List.range_succ, List.map_append] at h2
  exact (List.nodup_append.1 h2).2.2 (f k) hm (f k) (by simp) rfl
theorem rows_nodup : ∀ p ∈ prm, (rowsL p).Nodup := by decide +kernel
theorem lacksD_next (p f : Int) (n : Nat) : lacksD p f (n + 1) = lacksD p f n ++ [dgLackI p (f + n)] := by unfold lacksD; rw [List.range_succ, List.map_append]; rfl
theorem lacksS_next (p f : Int) (n : Nat) : lacksS p f (n + 1) = lacksS p f n ++ [slLackI p (f + n)] := by unfold lacksS; rw [List.range_succ, List.map_append]; rfl
theorem dg_lt {p : Int} (hp : p ∈ prm) (c x : Int) : (0 ≤ dgI p c x ∧ dgI p c x < p) ∧ (0 ≤ slI p c x ∧ slI p c x < p) := by
  have := prm_bounds hp
  exact ⟨⟨Int.emod_nonneg _ (by omega), Int.emod_lt_of_pos _ (by omega)⟩, Int.emod_nonneg _ (by omega), Int.emod_lt_of_pos _ (by omega)⟩
theorem lack_lt {p : Int} (hp : p ∈ prm) (c : Int) : (0 ≤ dgLackI p c ∧ dgLackI p c < p) ∧ (0 ≤ slLackI p c ∧ slLackI p c < p) := by
  have := prm_bounds hp
  exact ⟨⟨Int.emod_nonneg _ (by omega), Int.emod_lt_of_pos _ (by omega)⟩, Int.emod_nonneg _ (by omega), Int.emod_lt_of_pos _ (by omega)⟩
theorem dg_inj {p : Int} (hp : p ∈ prm) (c x y : Int) (hx : 0 ≤ x ∧ x < p) (hy : 0 ≤ y ∧ y < p) : (dgI p c x = dgI p c y → x = y) ∧ (slI p c x = slI p c y → x = y) := by
  unfold prm at hp
  simp only [List.mem_cons, List.not_mem_nil, or_false] at hp
  unfold dgI slI
  rcases hp with rfl | rfl | rfl | rfl | rfl | rfl <;> constructor <;> intro h <;> omega

/-- No row twice, and each is one. -/
def Good (p : Int) (pre : List Int) : Prop := pre.Nodup ∧ ∀ y ∈ pre, 0 ≤ y ∧ y < p - 1
theorem good_rows {p : Int} (hp : p ∈ prm) {pre : List Int} (h : pre <+: rowsL p) : Good p pre := by
  have hn := rows_nodup p hp
  obtain ⟨t, ht⟩ := h
  refine ⟨?_, fun y hy => (rows_walk p hp).2.2 y (by rw [← ht]; simp [hy])⟩
  rw [← ht] at hn
  exact (List.nodup_append.1 hn).1
theorem good_next {p : Int} {pre : List Int} {x : Int} (h : Good p pre) (hx : 0 ≤ x ∧ x < p - 1) (hn : x ∉ pre) : Good p (pre ++ [x]) := by
  refine ⟨List.nodup_append.2 ⟨h.1, by simp, fun a ha b hb => ?_⟩, fun y hy => ?_⟩
  · rw [List.mem_singleton] at hb
    rintro rfl
    exact hn (hb ▸ ha)
  · rw [List.mem_append, List.mem_singleton] at hy
    rcases hy with hy | rfl
    · exact h.2 y hy
    · exact hx
theorem keys_new {p : Int} (hp : p ∈ prm) (c : Int) {pre : List Int} {x : Int} (h : Good p pre) (hx : 0 ≤ x ∧ x < p - 1) (hn : x ∉ pre) : dgI p c x ∉ pre.map (dgI p c) ∧ slI p c x ∉ pre.map (slI p c) := by
  constructor <;> intro hm <;> obtain ⟨y, hy, e⟩ := List.mem_map.1 hm
  · have := (dg_inj hp c y x ⟨(h.2 y hy).1, by have := (h.2 y hy).2; omega⟩ ⟨hx.1, by omega⟩).1 e
    exact hn (this ▸ hy)
  · have := (dg_inj hp c y x ⟨(h.2 y hy).1, by have := (h.2 y hy).2; omega⟩ ⟨hx.1, by omega⟩).2 e
    exact hn (this ▸ hy)
theorem keys_nodup {p : Int} (hp : p ∈ prm) (c : Int) {pre : List Int} (h : Good p pre) : (pre.map (dgI p c)).Nodup ∧ (pre.map (slI p c)).Nodup := by
  obtain ⟨hn, hr⟩ := h
  constructor
  · refine List.pairwise_map.2 (hn.imp_of_mem fun ha hb hne e => hne ((dg_inj hp c _ _ ⟨(hr _ ha).1, by have := (hr _ ha).2; omega⟩ ⟨(hr _ hb).1, by have := (hr _ hb).2; omega⟩).1 e))
  · refine List.pairwise_map.2 (hn.imp_of_mem fun ha hb hne e => hne ((dg_inj hp c _ _ ⟨(hr _ ha).1, by have := (hr _ ha).2; omega⟩ ⟨(hr _ hb).1, by have := (hr _ hb).2; omega⟩).2 e))
end Go.Proofs.YthhgalhabdkikaaDoor
