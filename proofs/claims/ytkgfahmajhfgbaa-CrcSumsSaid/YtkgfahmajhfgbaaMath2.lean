/- The plain mathematics of faults: three lists put upon one another; a window of four bytes; what is sealed leaves one residue. -/
import Derived.Test.YtkgfahmajhfgbaaWorks
namespace Go.Proofs.Ytkgfahmajhfgbaa

theorem stepB_xor3 (a b c : Nat) (x y z : UInt8) : stepB (a ^^^ b ^^^ c) (x ^^^ y ^^^ z) = stepB a x ^^^ stepB b y ^^^ stepB c z := by
  unfold stepB
  rw [← halvedN_xor, ← halvedN_xor, UInt8.toNat_xor, UInt8.toNat_xor]
  congr 1
  rw [xor_swap (a ^^^ b) c, xor_swap a b]

theorem st_xor3 : ∀ (l1 l2 l3 : List UInt8) (a b c : Nat), l1.length = l2.length → l1.length = l3.length →
    st (a ^^^ b ^^^ c) (List.zipWith (· ^^^ ·) (List.zipWith (· ^^^ ·) l1 l2) l3) = st a l1 ^^^ st b l2 ^^^ st c l3
  | [], [], [], _, _, _, _, _ => rfl
  | x :: l1, y :: l2, z :: l3, a, b, c, h1, h2 => by
    simp only [List.zipWith_cons_cons, st_cons]
    rw [stepB_xor3]
    exact st_xor3 l1 l2 l3 _ _ _ (by simpa using h1) (by simpa using h2)
  | _ :: _, [], _, _, _, _, h, _ => by simp at h
  | _ :: _, _ :: _, [], _, _, _, _, h => by simp at h
  | [], _ :: _, _, _, _, _, h, _ => by simp at h
  | [], [], _ :: _, _, _, _, _, h => by simp at h

theorem sum_xor3 (l1 l2 l3 l4 : List UInt8) (h2 : l1.length = l2.length) (h3 : l1.length = l3.length) (h4 : l1.length = l4.length)
    (h : ∀ i, i < l1.length → l4[i]?.getD 0 = (l1[i]?.getD 0) ^^^ (l2[i]?.getD 0) ^^^ (l3[i]?.getD 0)) : sum l4 = sum l1 ^^^ sum l2 ^^^ sum l3 := by
  have e : l4 = List.zipWith (· ^^^ ·) (List.zipWith (· ^^^ ·) l1 l2) l3 := by
    apply List.ext_getElem
    · simp only [List.length_zipWith]; omega
    · intro i hi1 hi2
      have hi : i < l1.length := by omega
      have := h i hi
      rw [List.getElem?_eq_getElem hi1, List.getElem?_eq_getElem hi, List.getElem?_eq_getElem (by omega), List.getElem?_eq_getElem (by omega)] at this
      simpa using this
  unfold sum more
  rw [Nat.zero_xor, e]
  have hF : (4294967295 : Nat) = 4294967295 ^^^ 4294967295 ^^^ 4294967295 := by decide +kernel
  conv => lhs; rw [show st 4294967295 (List.zipWith (· ^^^ ·) (List.zipWith (· ^^^ ·) l1 l2) l3) = st (4294967295 ^^^ 4294967295 ^^^ 4294967295) (List.zipWith (· ^^^ ·) (List.zipWith (· ^^^ ·) l1 l2) l3) by rw [← hF]]
  rw [st_xor3 l1 l2 l3 _ _ _ h2 h3]
  generalize st 4294967295 l1 = a
  generalize st 4294967295 l2 = b
  generalize st 4294967295 l3 = c
  rw [xor_swap a _ b _, xor_swap (a ^^^ b) _ c _, Nat.xor_self, Nat.zero_xor]

/-- The number whose bytes these are, the lowest one ahead. -/
def leN : List UInt8 → Nat
  | [] => 0
  | c :: r => c.toNat ^^^ 2 ^ 8 * leN r

theorem st_leN : ∀ (m : List UInt8) (w : Nat), st w m = halvedN (8 * m.length) (w ^^^ leN m)
  | [], w => by simp [st_nil, leN, halvedN]
  | c :: r, w => by
    rw [st_cons, st_leN r, List.length_cons, Nat.mul_add, Nat.mul_one, Nat.add_comm (8 * r.length) 8, halvedN_add]
    congr 1
    rw [leN, ← Nat.xor_assoc, halvedN_xor, halvedN_shift]
    rfl

theorem leN_cons (c : UInt8) (r : List UInt8) : leN (c :: r) = 256 * leN r + c.toNat := by
  have hc : c.toNat < 2 ^ 8 := byte_lt c
  rw [leN, Nat.xor_comm, ← parts_xor 8 (leN r) c.toNat hc]

theorem leN_lt : ∀ m : List UInt8, leN m < 256 ^ m.length
  | [] => by simp [leN]
  | c :: r => by
    have := leN_lt r
    have hc := byte_lt c
    rw [leN_cons, List.length_cons, Nat.pow_succ]
    omega

theorem leN_inj : ∀ (m m' : List UInt8), m.length = m'.length → leN m = leN m' → m = m'
  | [], [], _, _ => rfl
  | c :: r, c' :: r', hl, h => by
    have hc := byte_lt c
    have hc' := byte_lt c'
    rw [leN_cons, leN_cons] at h
    have e1 : c.toNat = c'.toNat := by omega
    have e2 : leN r = leN r' := by omega
    rw [UInt8.toNat_inj.1 e1, leN_inj r r' (by simpa using hl) e2]
  | [], _ :: _, hl, _ => by simp at hl
  | _ :: _, [], hl, _ => by simp at hl

theorem leN_lt32 {m : List UInt8} (h : m.length ≤ 4) : leN m < 4294967296 := by
  have h1 := leN_lt m
  have h2 : 256 ^ m.length ≤ 256 ^ 4 := Nat.pow_le_pow_right (by omega) h
  have h3 : (256 : Nat) ^ 4 = 4294967296 := by decide
  omega

theorem halvedN_inj (k : Nat) {a b : Nat} (ha : a < 4294967296) (hb : b < 4294967296) (h : halvedN k a = halvedN k b) : a = b := by
  apply xor_zero_eq
  apply halvedN_zero k (xor_lt ha hb)
  rw [halvedN_xor, h, Nat.xor_self]

theorem xor_right_inj {a b c : Nat} (h : a ^^^ b = a ^^^ c) : b = c := by
  have e : a ^^^ (a ^^^ b) = a ^^^ (a ^^^ c) := by rw [h]
  rwa [← Nat.xor_assoc, ← Nat.xor_assoc, Nat.xor_self, Nat.zero_xor, Nat.zero_xor] at e

theorem st_inj : ∀ (q : List UInt8) {a b : Nat}, a < 4294967296 → b < 4294967296 → st a q = st b q → a = b
  | [], _, _, _, _, h => h
  | c :: q, a, b, ha, hb, h => by
    have h1 := st_inj q (stepB_lt ha c) (stepB_lt hb c) h
    have hc : c.toNat < 4294967296 := by have := byte_lt c; omega
    have h2 := halvedN_inj 8 (xor_lt ha hc) (xor_lt hb hc) h1
    rw [Nat.xor_comm a, Nat.xor_comm b] at h2
    exact xor_right_inj h2

/-- Bytes that differ in a window of at most four leave unlike states. -/
theorem st_window {w : Nat} (hw : w < 4294967296) (p m m' q : List UInt8) (hl : m.length = m'.length) (h4 : m.length ≤ 4) (h : st w (p ++ m ++ q) = st w (p ++ m' ++ q)) : m = m' := by
  rw [st_append, st_append, st_append w (p ++ m') q, st_append w p m'] at h
  have hp := st_lt hw p
  have h1 := st_inj q (st_lt hp m) (st_lt hp m') h
  rw [st_leN m, st_leN m', ← hl] at h1
  have h2 := halvedN_inj _ (xor_lt hp (leN_lt32 h4)) (xor_lt hp (leN_lt32 (by omega))) h1
  exact leN_inj m m' hl (xor_right_inj h2)

theorem leN_le4 {x : Nat} (hx : x < 4294967296) : leN (le4 x) = x := by
  have e : ∀ n : Nat, (UInt8.ofNat n).toNat = n % 256 := by intro n; simp
  unfold le4
  rw [leN_cons, leN_cons, leN_cons, leN_cons, leN, e, e, e, e]
  omega

/-- What is sealed, and nothing else, leaves one residue. -/
theorem seals_iff (l : List UInt8) : Seals l ↔ 4 ≤ l.length ∧ st 4294967295 l = halvedN 32 4294967295 := by
  unfold Seals
  refine and_congr_right fun h4 => ?_
  have e : l = body l ++ tail l := (List.take_append_drop _ l).symm
  have ht : (tail l).length = 4 := by unfold tail; rw [List.length_drop]; omega
  have hb := st_lt (show 4294967295 < 4294967296 by omega) (body l)
  have es : st 4294967295 l = halvedN 32 (st 4294967295 (body l) ^^^ leN (tail l)) := by
    conv => lhs; rw [e]
    rw [st_append, st_leN (tail l), ht]
  rw [es]
  have hsum : sum (body l) = st 4294967295 (body l) ^^^ 4294967295 := by unfold sum more; rw [Nat.zero_xor]
  constructor
  · intro h
    rw [h, leN_le4 (sum_lt _), hsum, ← Nat.xor_assoc, Nat.xor_self, Nat.zero_xor]
  · intro h
    have h1 := halvedN_inj 32 (xor_lt hb (leN_lt32 (by omega))) (by omega) h
    apply leN_inj _ _ (by rw [ht, le4_len])
    rw [leN_le4 (sum_lt _), hsum]
    apply xor_right_inj (a := st 4294967295 (body l))
    rw [h1, ← Nat.xor_assoc, Nat.xor_self, Nat.zero_xor]

theorem sum_window (p m m' q : List UInt8) (hl : m.length = m'.length) (h4 : m.length ≤ 4) (h : sum (p ++ m ++ q) = sum (p ++ m' ++ q)) : m = m' := by
  unfold sum more at h
  rw [Nat.zero_xor, Nat.xor_comm (st 4294967295 (p ++ m ++ q)), Nat.xor_comm (st 4294967295 (p ++ m' ++ q))] at h
  exact st_window (show 4294967295 < 4294967296 by omega) p m m' q hl h4 (xor_right_inj h)

theorem seals_window (p m m' q : List UInt8) (hl : m.length = m'.length) (h4 : m.length ≤ 4) (hs : Seals (p ++ m ++ q)) (hs' : Seals (p ++ m' ++ q)) : m = m' :=
  st_window (show 4294967295 < 4294967296 by omega) p m m' q hl h4 (((seals_iff _).1 hs).2.trans ((seals_iff _).1 hs').2.symm)

end Go.Proofs.Ytkgfahmajhfgbaa
