/- CellsHolds: bits of what is xored, the order it is xored in, and a row put twice. -/
import Derived.Test.YtjkpmhannmbgfaaCBits
import Derived.Test.YtjkpmhannmbgfaaCwD
namespace Go.Proofs.Ytjkpmhannmbgfaa

/-- Whether bit number b of a row is set. -/
def bitAt (l : List UInt8) (b : Nat) : Bool := decide (b < 8 * l.length) && bit (at_ l (b / 8)) (b % 8)

theorem bitsTo_turn (b j : Nat) (x : UInt8) (h0 : Bool) : ∀ i, (bitsTo j x i).foldl (fun h y => h != (y == b)) h0 = (h0 != (decide (8 * j ≤ b ∧ b < 8 * j + i) && bit x (b - 8 * j)))
  | 0 => by
    have : decide (8 * j ≤ b ∧ b < 8 * j + 0) = false := decide_eq_false (by omega)
    rw [this]; simp [bitsTo_zero]
  | i + 1 => by
    have ih := bitsTo_turn b j x h0 i
    by_cases hb : b = 8 * j + i
    · subst hb
      have e1 : decide (8 * j ≤ 8 * j + i ∧ 8 * j + i < 8 * j + i) = false := by simp
      have e2 : decide (8 * j ≤ 8 * j + i ∧ 8 * j + i < 8 * j + (i + 1)) = true := by simp
      rw [e1] at ih
      rw [e2, show 8 * j + i - 8 * j = i by omega]
      cases h : bit x i
      · rw [bitsTo_no _ _ _ h, ih]; simp
      · rw [bitsTo_yes _ _ _ h, List.foldl_append, ih]; simp
    · have e1 : decide (8 * j ≤ b ∧ b < 8 * j + (i + 1)) = decide (8 * j ≤ b ∧ b < 8 * j + i) := by
        apply decide_eq_decide.2; omega
      have e2 : (8 * j + i == b) = false := by simp; omega
      rw [e1]
      cases h : bit x i
      · rw [bitsTo_no _ _ _ h, ih]
      · rw [bitsTo_yes _ _ _ h, List.foldl_append, ih]
        simp only [List.foldl_cons, List.foldl_nil, e2, Bool.bne_false]

theorem rows_turn (l : List UInt8) (b : Nat) (h0 : Bool) : ∀ k, ((List.range k).flatMap fun j => bitsTo j (at_ l j) 8).foldl (fun h y => h != (y == b)) h0 = (h0 != (decide (b < 8 * k) && bit (at_ l (b / 8)) (b % 8)))
  | 0 => by simp
  | k + 1 => by
    rw [List.range_succ, List.flatMap_append, List.foldl_append, rows_turn l b h0 k]
    simp only [List.flatMap_cons, List.flatMap_nil, List.append_nil]
    rw [bitsTo_turn]
    by_cases h1 : b < 8 * k
    · have e1 : decide (b < 8 * k) = true := decide_eq_true h1
      have e2 : decide (8 * k ≤ b ∧ b < 8 * k + 8) = false := decide_eq_false (by omega)
      have e3 : decide (b < 8 * (k + 1)) = true := decide_eq_true (by omega)
      rw [e1, e2, e3]; simp
    · by_cases h2 : b < 8 * k + 8
      · have e1 : decide (b < 8 * k) = false := decide_eq_false h1
        have e2 : decide (8 * k ≤ b ∧ b < 8 * k + 8) = true := decide_eq_true (by omega)
        have e3 : decide (b < 8 * (k + 1)) = true := decide_eq_true (by omega)
        rw [e1, e2, e3, show b / 8 = k by omega, show b - 8 * k = b % 8 by omega]; simp
      · have e1 : decide (b < 8 * k) = false := decide_eq_false h1
        have e2 : decide (8 * k ≤ b ∧ b < 8 * k + 8) = false := decide_eq_false (by omega)
        have e3 : decide (b < 8 * (k + 1)) = false := decide_eq_false (by omega)
        rw [e1, e2, e3]; simp

/-- A flag that is turned at the place b, over all the places of a row. -/
theorem places_turn (l : List UInt8) (b : Nat) (h0 : Bool) : (places l).foldl (fun h y => h != (y == b)) h0 = (h0 != bitAt l b) := rows_turn l b h0 l.length

theorem mem_turn (b : Nat) : ∀ (xs : List Nat) (h0 : Bool), xs.foldl (fun h y => h || (y == b)) h0 = (h0 || decide (b ∈ xs))
  | [], h0 => by simp
  | x :: xs, h0 => by
    rw [List.foldl_cons, mem_turn b xs]
    by_cases hx : x = b
    · subst hx; simp
    · have e : (x == b) = false := by simpa using hx
      have e2 : decide (b ∈ x :: xs) = decide (b ∈ xs) := by
        apply decide_eq_decide.2
        rw [List.mem_cons]
        exact ⟨fun h => h.resolve_left (fun e => hx e.symm), .inr⟩
      rw [e, e2, Bool.or_false]

theorem mem_bitsTo (b j : Nat) (x : UInt8) (i : Nat) : b ∈ bitsTo j x i ↔ 8 * j ≤ b ∧ b < 8 * j + i ∧ bit x (b - 8 * j) = true := by
  unfold bitsTo
  rw [List.mem_map]
  constructor
  · rintro ⟨t, ht, rfl⟩
    rw [List.mem_filter, List.mem_range] at ht
    exact ⟨by omega, by omega, by rw [show 8 * j + t - 8 * j = t by omega]; exact ht.2⟩
  · rintro ⟨h1, h2, h3⟩
    exact ⟨b - 8 * j, by rw [List.mem_filter, List.mem_range]; exact ⟨by omega, h3⟩, by omega⟩
theorem mem_places (l : List UInt8) (b : Nat) : b ∈ places l ↔ bitAt l b = true := by
  unfold places bitAt
  rw [List.mem_flatMap, Bool.and_eq_true, decide_eq_true_iff]
  constructor
  · rintro ⟨j, hj, hm⟩
    rw [List.mem_range] at hj
    rw [mem_bitsTo] at hm
    obtain ⟨h1, h2, h3⟩ := hm
    have e : b / 8 = j := by omega
    rw [e, show b % 8 = b - 8 * j by omega]
    exact ⟨by omega, h3⟩
  · rintro ⟨h1, h2⟩
    refine ⟨b / 8, List.mem_range.2 (by omega), ?_⟩
    rw [mem_bitsTo]
    exact ⟨by omega, by omega, by rw [show b - 8 * (b / 8) = b % 8 by omega]; exact h2⟩
theorem places_has (l : List UInt8) (b : Nat) (h0 : Bool) : (places l).foldl (fun h y => h || (y == b)) h0 = (h0 || bitAt l b) := by
  rw [mem_turn]
  congr 1
  rw [Bool.eq_iff_iff, decide_eq_true_iff, mem_places]

theorem bit_xor (x y : UInt8) (t : Nat) : bit (x ^^^ y) t = (bit x t != bit y t) := by
  have e : ∀ z : UInt8, bit z t = z.toNat.testBit t := fun z => (Nat.testBit_eq_decide_div_mod_eq).symm
  rw [e, e, e, UInt8.toNat_xor, Nat.testBit_xor]

theorem bitAt_xorB (a c : List UInt8) (b : Nat) (h : c.length = a.length) : bitAt (xorB a c) b = (bitAt a b != bitAt c b) := by
  unfold bitAt
  rw [xorB_len, h]
  by_cases hb : b < 8 * a.length
  · rw [decide_eq_true hb, xorB_at a c _ (by omega), bit_xor]; simp
  · rw [decide_eq_false hb]; simp
theorem bitAt_xors (b : Nat) : ∀ (ls : List (List UInt8)) (z : List UInt8), (∀ l ∈ ls, l.length = z.length) → bitAt (xors z ls) b = ls.foldl (fun h l => h != bitAt l b) (bitAt z b)
  | [], z, _ => rfl
  | l :: ls, z, h => by
    show bitAt (xors (xorB z l) ls) b = _
    rw [bitAt_xors b ls (xorB z l) (fun m hm => by rw [xorB_len]; exact h m (.tail _ hm)), bitAt_xorB z l b (h l (.head _))]; rfl

/-- Turning goes in whatever order. -/
theorem turn_out (f : List UInt8 → Bool) : ∀ (ls : List (List UInt8)) (h0 : Bool), ls.foldl (fun h l => h != f l) h0 = (h0 != ls.foldr (fun l h => f l != h) false)
  | [], h0 => by simp
  | l :: ls, h0 => by rw [List.foldl_cons, turn_out f ls, List.foldr_cons]; simp
theorem turn_app (f : List UInt8 → Bool) : ∀ (a b : List (List UInt8)), (a ++ b).foldr (fun l h => f l != h) false = (a.foldr (fun l h => f l != h) false != b.foldr (fun l h => f l != h) false)
  | [], b => by simp
  | l :: a, b => by rw [List.cons_append, List.foldr_cons, turn_app f a b, List.foldr_cons]; simp
theorem turn_rev (f : List UInt8 → Bool) : ∀ (ls : List (List UInt8)), ls.reverse.foldr (fun l h => f l != h) false = ls.foldr (fun l h => f l != h) false
  | [] => rfl
  | l :: ls => by rw [List.reverse_cons, turn_app, turn_rev f ls, List.foldr_cons, List.foldr_cons, List.foldr_nil, Bool.bne_false]; cases f l <;> simp
theorem turn_back (f : List UInt8 → Bool) (ls : List (List UInt8)) (h0 : Bool) : ls.reverse.foldl (fun h l => h != f l) h0 = ls.foldl (fun h l => h != f l) h0 := by rw [turn_out, turn_out, turn_rev]

/-- The same with bytes. -/
def sumAt (j : Nat) (ls : List (List UInt8)) : UInt8 := ls.foldr (fun l h => at_ l j ^^^ h) 0
theorem sumAt_app (j : Nat) : ∀ (a b : List (List UInt8)), sumAt j (a ++ b) = sumAt j a ^^^ sumAt j b
  | [], b => (UInt8.zero_xor).symm
  | l :: a, b => by
    show at_ l j ^^^ sumAt j (a ++ b) = (at_ l j ^^^ sumAt j a) ^^^ sumAt j b
    rw [sumAt_app j a b, UInt8.xor_assoc]
theorem sumAt_one (j : Nat) (l : List UInt8) : sumAt j [l] = at_ l j := UInt8.xor_zero
theorem sumAt_rev (j : Nat) : ∀ (ls : List (List UInt8)), sumAt j ls.reverse = sumAt j ls
  | [] => rfl
  | l :: ls => by
    rw [List.reverse_cons, sumAt_app, sumAt_rev j ls, sumAt_one, UInt8.xor_comm]; rfl
theorem at_xors (j : Nat) : ∀ (ls : List (List UInt8)) (z : List UInt8), j < z.length → at_ (xors z ls) j = at_ z j ^^^ sumAt j ls
  | [], z, _ => (UInt8.xor_zero).symm
  | l :: ls, z, h => by
    show at_ (xors (xorB z l) ls) j = at_ z j ^^^ (at_ l j ^^^ sumAt j ls)
    rw [at_xors j ls (xorB z l) (by rw [xorB_len]; exact h), xorB_at z l j h, UInt8.xor_assoc]

/-- The list behind one of its rows, and that row once more behind it: what is xored is the same. -/
theorem xorOf_turned (ls : List (List UInt8)) (c : List UInt8) (hc : c.length = (ls[0]?.getD []).length) : xorOf (c :: ls.reverse ++ [c]) = xorOf ls := by
  have e : ∀ a b : List UInt8, a.length = b.length → (∀ j, j < a.length → at_ a j = at_ b j) → a = b := fun a b hl h => by
    rw [tab_of a, tab_of b, hl]; exact tab_ext fun j hj => h j (by omega)
  have hlen : (xorOf (c :: ls.reverse ++ [c])).length = (xorOf ls).length := by rw [xorOf_len, xorOf_len]; exact hc
  refine e _ _ hlen fun j hj => ?_
  rw [xorOf_len] at hj
  have hj' : j < c.length := hj
  unfold xorOf
  rw [at_xors j _ _ (by rw [List.length_replicate]; exact hj), at_xors j _ _ (by rw [List.length_replicate]; omega)]
  have z1 : ∀ n, at_ (List.replicate n (0 : UInt8)) j = 0 := fun n => by
    unfold at_
    rw [List.getElem?_replicate]; split <;> rfl
  rw [z1, z1, UInt8.zero_xor, UInt8.zero_xor]
  show sumAt j ([c] ++ ls.reverse ++ [c]) = sumAt j ls
  rw [sumAt_app, sumAt_app, sumAt_one, sumAt_rev, UInt8.xor_comm (at_ c j), UInt8.xor_assoc, UInt8.xor_self, UInt8.xor_zero]
theorem allLen_iff (n : Nat) (ls : List (List UInt8)) : AllLen n ls ↔ ∀ l ∈ ls, l.length = n := by
  constructor
  · intro h l hl
    obtain ⟨j, hj, rfl⟩ := List.mem_iff_getElem.1 hl
    have := h j hj
    rwa [List.getElem?_eq_getElem hj] at this
  · intro h j hj
    rw [List.getElem?_eq_getElem hj]
    exact h _ (List.getElem_mem hj)
theorem xorOk_turned (ls : List (List UInt8)) (c : List UInt8) (h : XorOk ls) (hc : c.length = (ls[0]?.getD []).length) : XorOk (c :: ls.reverse ++ [c]) := by
  obtain ⟨h1, h2, h3⟩ := h
  refine ⟨by simp, ?_, ?_⟩
  · show Cell c
    unfold Cell at h2 ⊢; rw [hc]; exact h2
  · show AllLen c.length _
    rw [allLen_iff] at h3 ⊢
    intro l hl
    simp only [List.cons_append, List.mem_cons, List.mem_append, List.mem_reverse, List.not_mem_nil, or_false] at hl
    rcases hl with rfl | hl | rfl
    · rfl
    · rw [hc]; exact h3 l hl
    · rfl

/-- Whether the xor has the bit b: so many rows have it. -/
theorem bitAt_xorOf (ls : List (List UInt8)) (b : Nat) (h : ∀ l ∈ ls, l.length = (ls[0]?.getD []).length) : bitAt (xorOf ls) b = ls.reverse.foldl (fun h l => h != bitAt l b) false := by
  rw [turn_back]
  unfold xorOf
  rw [bitAt_xors b ls _ (fun l hl => by rw [List.length_replicate]; exact h l hl)]
  congr 1
  unfold bitAt
  have z1 : ∀ n, at_ (List.replicate n (0 : UInt8)) (b / 8) = 0 := fun n => by
    unfold at_
    rw [List.getElem?_replicate]; split <;> rfl
  rw [z1]
  have : bit 0 (b % 8) = false := by simp [bit]
  rw [this, Bool.and_false]
end Go.Proofs.Ytjkpmhannmbgfaa
