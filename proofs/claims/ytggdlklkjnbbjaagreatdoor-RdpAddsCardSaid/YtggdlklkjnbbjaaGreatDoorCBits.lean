/- The places of bits of bytes, one behind the other. -/
import Derived.Test.YtggdlklkjnbbjaaGreatDoorCMath
import Derived.Lib.BitFns
namespace Go.Proofs.YtggdlklkjnbbjaaGreatDoor.C

def bit (x : UInt8) (t : Nat) : Bool := decide (x.toNat / 2 ^ t % 2 = 1)
/-- The places of the bits of byte number j, as far as bit i. -/
def bitsTo (j : Nat) (x : UInt8) (i : Nat) : List Nat := ((List.range i).filter (bit x)).map (8 * j + ·)
theorem bitsTo_zero (j : Nat) (x : UInt8) : bitsTo j x 0 = [] := rfl
theorem bitsTo_yes (j : Nat) (x : UInt8) (i : Nat) (h : bit x i = true) : bitsTo j x (i + 1) = bitsTo j x i ++ [8 * j + i] := by
  unfold bitsTo; rw [List.range_succ, List.filter_append, List.map_append]; simp [h]
theorem bitsTo_no (j : Nat) (x : UInt8) (i : Nat) (h : bit x i = false) : bitsTo j x (i + 1) = bitsTo j x i := by
  unfold bitsTo; rw [List.range_succ, List.filter_append, List.map_append]; simp [h]
theorem bitsTo_len (j : Nat) (x : UInt8) (i : Nat) : (bitsTo j x i).length ≤ i := by
  unfold bitsTo
  rw [List.length_map]
  have := List.length_filter_le (bit x) (List.range i)
  simpa using this
theorem below_len : ∀ n : Fin 256, n.val < 2 ^ Lib.bitLen n.val := by decide +kernel
theorem bitLen_le (x : UInt8) : Lib.bitLen x.toNat ≤ 8 := Lib.bitLen_le8 ⟨x.toNat, by have := x.toNat_lt; omega⟩
theorem bit_behind (x : UInt8) (t : Nat) (h : Lib.bitLen x.toNat ≤ t) : bit x t = false := by
  have h1 := below_len ⟨x.toNat, by have := x.toNat_lt; omega⟩
  have h2 : x.toNat < 2 ^ t := Nat.lt_of_lt_of_le h1 (Nat.pow_le_pow_right (by omega) h)
  unfold bit
  rw [Nat.div_eq_of_lt h2]; rfl
theorem bitsTo_more (j : Nat) (x : UInt8) (i : Nat) (h : Lib.bitLen x.toNat ≤ i) : bitsTo j x i = bitsTo j x (Lib.bitLen x.toNat) := by
  obtain ⟨d, rfl⟩ : ∃ d, i = Lib.bitLen x.toNat + d := ⟨i - Lib.bitLen x.toNat, by omega⟩
  clear h
  induction d with
  | zero => rfl
  | succ d ih => rw [← Nat.add_assoc, bitsTo_no _ _ _ (bit_behind x _ (by omega)), ih]

/-- What has come when k bytes are over, and i bits of the next one. -/
def came (l : List UInt8) (k i : Nat) : List Nat := ((List.range k).flatMap fun j => bitsTo j (at_ l j) 8) ++ bitsTo k (at_ l k) i
/-- The places of the bits of bytes. -/
def places (l : List UInt8) : List Nat := (List.range l.length).flatMap fun j => bitsTo j (at_ l j) 8
theorem came_none (l : List UInt8) : came l 0 0 = [] := rfl
theorem came_all (l : List UInt8) : came l l.length 0 = places l := by unfold came places; rw [bitsTo_zero, List.append_nil]
theorem came_over (l : List UInt8) (k i : Nat) (h : Lib.bitLen (at_ l k).toNat ≤ i) : came l k i = came l (k + 1) 0 := by
  unfold came
  rw [bitsTo_zero, List.append_nil, List.range_succ, List.flatMap_append, bitsTo_more _ _ i h, ← bitsTo_more _ _ 8 (bitLen_le _)]
  simp
theorem came_yes (l : List UInt8) (k i : Nat) (h : bit (at_ l k) i = true) : came l k (i + 1) = came l k i ++ [8 * k + i] := by
  unfold came; rw [bitsTo_yes _ _ _ h, List.append_assoc]
theorem came_no (l : List UInt8) (k i : Nat) (h : bit (at_ l k) i = false) : came l k (i + 1) = came l k i := by
  unfold came; rw [bitsTo_no _ _ _ h]
theorem came_len (l : List UInt8) (k i : Nat) : (came l k i).length ≤ 8 * k + i := by
  have h : ((List.range k).flatMap fun j => bitsTo j (at_ l j) 8).length ≤ 8 * k := by
    induction k with
    | zero => simp
    | succ k ih =>
      rw [List.range_succ, List.flatMap_append, List.length_append]
      have := bitsTo_len k (at_ l k) 8
      simp only [List.flatMap_cons, List.flatMap_nil, List.append_nil]
      omega
  unfold came
  rw [List.length_append]
  have := bitsTo_len k (at_ l k) i
  omega
theorem places_nil : places [] = [] := rfl
theorem bitsTo_prefix (j : Nat) (x : UInt8) (i d : Nat) : bitsTo j x i <+: bitsTo j x (i + d) := by
  induction d with
  | zero => exact List.prefix_refl _
  | succ d ih =>
    refine ih.trans ?_
    rw [← Nat.add_assoc]
    cases h : bit x (i + d)
    · rw [bitsTo_no _ _ _ h]
      exact List.prefix_refl _
    · rw [bitsTo_yes _ _ _ h]
      exact List.prefix_append _ _
theorem came_prefix (l : List UInt8) (k i : Nat) (hk : k < l.length) (hi : i ≤ 8) : came l k i <+: places l := by
  obtain ⟨d, hd⟩ : ∃ d, l.length = k + 1 + d := ⟨l.length - (k + 1), by omega⟩
  unfold places
  rw [hd]
  clear hd hk
  induction d with
  | zero =>
    obtain ⟨e, he⟩ : ∃ e, i + e = 8 := ⟨8 - i, by omega⟩
    unfold came
    rw [Nat.add_zero, List.range_succ, List.flatMap_append]
    simp only [List.flatMap_cons, List.flatMap_nil, List.append_nil]
    exact (List.prefix_append_right_inj _).2 (by
      have := bitsTo_prefix k (at_ l k) i e
      rwa [he] at this)
  | succ d ih =>
    refine ih.trans ?_
    rw [← Nat.add_assoc, List.range_succ, List.flatMap_append]
    exact List.prefix_append _ _
end Go.Proofs.YtggdlklkjnbbjaaGreatDoor.C
