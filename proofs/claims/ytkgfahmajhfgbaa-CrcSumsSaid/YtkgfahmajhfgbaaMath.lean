/- The plain mathematics of the sum: halving is linear and loses nothing; the sum's step over a byte; what differs in at most four bytes has another sum. -/
import Derived.WalkKit
namespace Go.Proofs.Ytkgfahmajhfgbaa

def halved (w : Nat) : Nat := if w % 2 = 0 then w / 2 else (w / 2) ^^^ 2197175160

def halvedN : Nat → Nat → Nat
  | 0, w => w
  | k + 1, w => halvedN k (halved w)

theorem xor_half (a b : Nat) : (a ^^^ b) / 2 = a / 2 ^^^ b / 2 := by
  have h : (a ^^^ b) >>> 1 = a >>> 1 ^^^ b >>> 1 := Nat.shiftRight_xor_distrib
  simpa only [Nat.shiftRight_eq_div_pow, Nat.pow_one] using h

theorem xor_odd (a b : Nat) : (a ^^^ b) % 2 = (a % 2 + b % 2) % 2 := by
  have h : ∀ x y : Nat, x < 2 → y < 2 → x ^^^ y = (x + y) % 2 := by
    intro x y hx hy
    have hx' : x = 0 ∨ x = 1 := by omega
    have hy' : y = 0 ∨ y = 1 := by omega
    rcases hx' with rfl | rfl <;> rcases hy' with rfl | rfl <;> rfl
  have e : (a ^^^ b) % 2 ^ 1 = a % 2 ^ 1 ^^^ b % 2 ^ 1 := Nat.xor_mod_two_pow
  simp only [Nat.pow_one] at e
  rw [e]
  exact h _ _ (Nat.mod_lt _ (by omega)) (Nat.mod_lt _ (by omega))

theorem xor_swap (a b c d : Nat) : (a ^^^ b) ^^^ (c ^^^ d) = (a ^^^ c) ^^^ (b ^^^ d) := by
  rw [Nat.xor_assoc, Nat.xor_assoc, ← Nat.xor_assoc b c d, Nat.xor_comm b c, Nat.xor_assoc c b d]

theorem xor_zero_eq {a b : Nat} (h : a ^^^ b = 0) : a = b := by
  have e : (a ^^^ b) ^^^ b = 0 ^^^ b := by rw [h]
  rwa [Nat.xor_assoc, Nat.xor_self, Nat.xor_zero, Nat.zero_xor] at e

theorem halved_xor (a b : Nat) : halved (a ^^^ b) = halved a ^^^ halved b := by
  unfold halved
  rw [xor_half, xor_odd]
  have ha : a % 2 = 0 ∨ a % 2 = 1 := by omega
  have hb : b % 2 = 0 ∨ b % 2 = 1 := by omega
  rcases ha with ha | ha <;> rcases hb with hb | hb <;> simp only [ha, hb, Nat.add_zero, Nat.zero_add, Nat.zero_mod, Nat.reduceAdd, Nat.reduceMod, if_true, if_false, Nat.one_ne_zero]
  · rw [Nat.xor_assoc]
  · rw [Nat.xor_assoc, Nat.xor_assoc, Nat.xor_comm 2197175160]
  · rw [xor_swap, Nat.xor_self, Nat.xor_zero]

theorem halved_lt {w : Nat} (h : w < 4294967296) : halved w < 4294967296 := by
  unfold halved
  split
  · omega
  · exact Nat.xor_lt_two_pow (n := 32) (by omega) (by omega)

theorem halved_zero {d : Nat} (h : d < 4294967296) (e : halved d = 0) : d = 0 := by
  unfold halved at e
  split at e
  · omega
  · have : d / 2 = 2197175160 := xor_zero_eq e
    omega

theorem halvedN_xor (k a b : Nat) : halvedN k (a ^^^ b) = halvedN k a ^^^ halvedN k b := by
  induction k generalizing a b with
  | zero => rfl
  | succ k ih => rw [halvedN, halvedN, halvedN, halved_xor, ih]

theorem halvedN_lt (k : Nat) {w : Nat} (h : w < 4294967296) : halvedN k w < 4294967296 := by
  induction k generalizing w with
  | zero => exact h
  | succ k ih => exact ih (halved_lt h)

theorem halvedN_zero (k : Nat) {d : Nat} (h : d < 4294967296) (e : halvedN k d = 0) : d = 0 := by
  induction k generalizing d with
  | zero => exact e
  | succ k ih => exact halved_zero h (ih (halved_lt h) e)

theorem halvedN_of_zero (k : Nat) : halvedN k 0 = 0 := by
  induction k with
  | zero => rfl
  | succ k ih => rw [halvedN]; exact ih

theorem halvedN_add (j k w : Nat) : halvedN (j + k) w = halvedN k (halvedN j w) := by
  induction j generalizing w with
  | zero => simp [halvedN]
  | succ j ih => rw [Nat.succ_add, halvedN, halvedN, ih]

theorem halvedN_shift (k h : Nat) : halvedN k (2 ^ k * h) = h := by
  induction k generalizing h with
  | zero => simp [halvedN]
  | succ k ih =>
    have e : halved (2 ^ (k + 1) * h) = 2 ^ k * h := by
      have e2 : 2 ^ (k + 1) * h = 2 * (2 ^ k * h) := by rw [Nat.pow_succ, Nat.mul_comm (2 ^ k) 2, Nat.mul_assoc]
      unfold halved
      rw [e2, if_pos (by omega)]; omega
    rw [halvedN, e, ih]

theorem parts_xor (k h r : Nat) (hr : r < 2 ^ k) : 2 ^ k * h + r = 2 ^ k * h ^^^ r := by
  apply Nat.eq_of_testBit_eq
  intro j
  rw [Nat.testBit_xor, Nat.testBit_two_pow_mul_add _ hr, Nat.testBit_two_pow_mul]
  by_cases hj : j < k
  · simp [hj, Nat.not_le.2 hj]
  · have : r.testBit j = false := Nat.testBit_lt_two_pow (Nat.lt_of_lt_of_le hr (Nat.pow_le_pow_right (by omega) (by omega)))
    simp [hj, this, Nat.not_lt.1 hj]

/-- The share of a half byte, and what is left. -/
theorem nib_eq (w : Nat) : w / 16 ^^^ halvedN 4 (w % 16) = halvedN 4 w := by
  have e : w = 2 ^ 4 * (w / 16) ^^^ w % 16 := by
    rw [← parts_xor 4 (w / 16) (w % 16) (by omega)]; omega
  conv => rhs; rw [e]
  rw [halvedN_xor, halvedN_shift]

def stepB (w : Nat) (c : UInt8) : Nat := halvedN 8 (w ^^^ c.toNat)
def st (w : Nat) (l : List UInt8) : Nat := l.foldl stepB w
/-- The sum of bytes behind others that have the sum s. -/
def more (s : Nat) (l : List UInt8) : Nat := st (s ^^^ 4294967295) l ^^^ 4294967295
def sum (l : List UInt8) : Nat := more 0 l

theorem st_append (w : Nat) (a b : List UInt8) : st w (a ++ b) = st (st w a) b := by simp [st]
theorem st_nil (w : Nat) : st w [] = w := rfl
theorem st_cons (w : Nat) (c : UInt8) (l : List UInt8) : st w (c :: l) = st (stepB w c) l := rfl
theorem st_snoc (w : Nat) (l : List UInt8) (c : UInt8) : st w (l ++ [c]) = stepB (st w l) c := by simp [st]

theorem byte_lt (c : UInt8) : c.toNat < 256 := by have := c.toNat_lt; omega
theorem xor_lt {a b : Nat} (ha : a < 4294967296) (hb : b < 4294967296) : a ^^^ b < 4294967296 := Nat.xor_lt_two_pow (n := 32) ha hb
theorem stepB_lt {w : Nat} (h : w < 4294967296) (c : UInt8) : stepB w c < 4294967296 :=
  halvedN_lt 8 (xor_lt h (by have := byte_lt c; omega))
theorem st_lt {w : Nat} (h : w < 4294967296) (l : List UInt8) : st w l < 4294967296 := by
  induction l generalizing w with
  | nil => exact h
  | cons c l ih => exact ih (stepB_lt h c)
theorem more_lt {s : Nat} (h : s < 4294967296) (l : List UInt8) : more s l < 4294967296 := xor_lt (st_lt (xor_lt h (by omega)) l) (by omega)
theorem sum_lt (l : List UInt8) : sum l < 4294967296 := more_lt (by omega) l
theorem more_append (s : Nat) (a b : List UInt8) : more s (a ++ b) = more (more s a) b := by
  simp only [more, st_append, Nat.xor_assoc, Nat.xor_self, Nat.xor_zero]
theorem more_nil (s : Nat) : more s [] = s := by simp [more, st_nil, Nat.xor_assoc]

/-- The document's own way: bit by bit. -/
def step1 (w bit : Nat) : Nat := if w % 2 ≠ bit then (w / 2) ^^^ 2197175160 else w / 2
def bitsOf : Nat → Nat → Nat → Nat
  | 0, w, _ => w
  | k + 1, w, x => bitsOf k (step1 w (x % 2)) (x / 2)

theorem halved_step1 (w x : Nat) : halved (w ^^^ x) = step1 w (x % 2) ^^^ (x / 2) := by
  unfold halved step1
  rw [xor_half, xor_odd]
  have hw : w % 2 = 0 ∨ w % 2 = 1 := by omega
  have hx : x % 2 = 0 ∨ x % 2 = 1 := by omega
  rcases hw with hw | hw <;> rcases hx with hx | hx <;> simp only [hw, hx, Nat.add_zero, Nat.zero_add, Nat.zero_mod, Nat.reduceAdd, Nat.reduceMod, if_true, if_false, Nat.one_ne_zero, ne_eq, not_true_eq_false, not_false_eq_true, Nat.zero_ne_one]
  all_goals rw [Nat.xor_assoc, Nat.xor_comm (x / 2), ← Nat.xor_assoc]

theorem halvedN_bits (k w x : Nat) : halvedN k (w ^^^ x) = bitsOf k w x ^^^ (x / 2 ^ k) := by
  induction k generalizing w x with
  | zero => simp [halvedN, bitsOf]
  | succ k ih => rw [halvedN, bitsOf, halved_step1, ih, Nat.div_div_eq_div_mul, Nat.pow_succ, Nat.mul_comm 2]

theorem stepB_bits (w : Nat) (c : UInt8) : stepB w c = bitsOf 8 w c.toNat := by
  have := byte_lt c
  rw [stepB, halvedN_bits, show c.toNat / 2 ^ 8 = 0 by omega, Nat.xor_zero]

theorem bitsOf_succ (k w x : Nat) : bitsOf (k + 1) w x = step1 (bitsOf k w x) (x / 2 ^ k % 2) := by
  induction k generalizing w x with
  | zero => simp [bitsOf]
  | succ k ih => rw [bitsOf, ih, bitsOf, Nat.div_div_eq_div_mul, Nat.pow_succ, Nat.mul_comm 2]

theorem step1_lt {w : Nat} (h : w < 4294967296) (bit : Nat) : step1 w bit < 4294967296 := by
  unfold step1
  split
  · exact xor_lt (by omega) (by omega)
  · omega
theorem bitsOf_lt (k : Nat) {w : Nat} (h : w < 4294967296) (x : Nat) : bitsOf k w x < 4294967296 := by
  induction k generalizing w x with
  | zero => exact h
  | succ k ih => exact ih (step1_lt h _) _

theorem compl_xor {w : Nat} (h : w < 4294967296) : 4294967295 - w = w ^^^ 4294967295 := by
  have := parts_xor 32 0 w (by omega)
  apply Nat.eq_of_testBit_eq
  intro j
  rw [Nat.testBit_xor, show (4294967295 : Nat) - w = 2 ^ 32 - (w + 1) by omega, Nat.testBit_two_pow_sub_succ (by omega), show (4294967295 : Nat) = 2 ^ 32 - 1 by omega, Nat.testBit_two_pow_sub_one]
  by_cases hj : j < 32
  · simp [hj]
  · have : w.testBit j = false := Nat.testBit_lt_two_pow (Nat.lt_of_lt_of_le h (by rw [show (4294967296 : Nat) = 2 ^ 32 by omega]; exact Nat.pow_le_pow_right (by omega) (by omega)))
    simp [hj, this]

end Go.Proofs.Ytkgfahmajhfgbaa
