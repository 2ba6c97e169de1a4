/- The plain mathematics of cells: lists by places; lists put upon one another; places of bits. -/
import Derived.WalkKit
namespace Go.Proofs.YtggdlklkjnbbjaaGreatDoor.C

/-- The byte at a place, 0 behind the end. -/
def at_ (l : List UInt8) (j : Nat) : UInt8 := l[j]?.getD 0
def tab (n : Nat) (f : Nat → UInt8) : List UInt8 := (List.range n).map f
theorem tab_len (n : Nat) (f : Nat → UInt8) : (tab n f).length = n := by simp [tab]
theorem tab_at (n : Nat) (f : Nat → UInt8) (j : Nat) (hj : j < n) : at_ (tab n f) j = f j := by simp [tab, at_, hj]
theorem tab_of (l : List UInt8) : l = tab l.length (at_ l) := by
  apply List.ext_getElem
  · rw [tab_len]
  · intro j h1 h2
    simp [tab, at_, h1]
theorem tab_ext {n : Nat} {f g : Nat → UInt8} (h : ∀ j, j < n → f j = g j) : tab n f = tab n g := by
  unfold tab
  apply List.map_congr_left
  intro j hj
  exact h j (List.mem_range.1 hj)
theorem tab_set (n : Nat) (f : Nat → UInt8) (k : Nat) (c : UInt8) : (tab n f).set k c = tab n (fun j => if j = k then c else f j) := by
  apply List.ext_getElem
  · simp [tab]
  · intro j h1 h2
    simp only [tab, List.getElem_set, List.getElem_map, List.getElem_range]
    by_cases h : k = j
    · simp [h]
    · simp [h, Ne.symm h]

/-- Two lists put upon one another. -/
def xorB (a b : List UInt8) : List UInt8 := tab a.length (fun j => at_ a j ^^^ at_ b j)
theorem xorB_len (a b : List UInt8) : (xorB a b).length = a.length := tab_len _ _
theorem xorB_at (a b : List UInt8) (j : Nat) (hj : j < a.length) : at_ (xorB a b) j = at_ a j ^^^ at_ b j := tab_at _ _ _ hj
/-- .. as far as place k. -/
def xorTo (a b : List UInt8) (k : Nat) : List UInt8 := tab a.length (fun j => if j < k then at_ a j ^^^ at_ b j else at_ a j)
theorem xorTo_len (a b : List UInt8) (k : Nat) : (xorTo a b k).length = a.length := tab_len _ _
theorem xorTo_zero (a b : List UInt8) : xorTo a b 0 = a := by
  unfold xorTo
  conv => rhs; rw [tab_of a]
  exact tab_ext fun j _ => by simp
theorem xorTo_all (a b : List UInt8) (k : Nat) (hk : a.length ≤ k) : xorTo a b k = xorB a b := tab_ext fun j hj => by rw [if_pos (by omega)]
theorem xorTo_at (a b : List UInt8) (k : Nat) (hk : k < a.length) : (xorTo a b k)[k]?.getD 0 = at_ a k := by
  have := tab_at a.length (fun j => if j < k then at_ a j ^^^ at_ b j else at_ a j) k hk
  exact this.trans (if_neg (Nat.lt_irrefl k))
theorem xorTo_next (a b : List UInt8) (k : Nat) : (xorTo a b k).set k (at_ a k ^^^ at_ b k) = xorTo a b (k + 1) := by
  unfold xorTo
  rw [tab_set]
  refine tab_ext fun j hj => ?_
  by_cases h : j = k
  · subst h; simp
  · by_cases h2 : j < k
    · simp [h, h2, show j < k + 1 by omega]
    · simp [h, h2, show ¬ j < k + 1 by omega]

/-- All lists put upon a first one. -/
def xors (z : List UInt8) (ls : List (List UInt8)) : List UInt8 := ls.foldl xorB z
theorem xors_len (z : List UInt8) (ls : List (List UInt8)) : (xors z ls).length = z.length := by
  unfold xors
  induction ls generalizing z with
  | nil => rfl
  | cons a ls ih => rw [List.foldl_cons, ih, xorB_len]
theorem xors_next (z : List UInt8) (ls : List (List UInt8)) (k : Nat) (hk : k < ls.length) : xors z (ls.take (k + 1)) = xorB (xors z (ls.take k)) (ls[k]?.getD []) := by
  unfold xors
  rw [List.take_succ_eq_append_getElem hk, List.foldl_append, List.getElem?_eq_getElem hk]; rfl
end Go.Proofs.YtggdlklkjnbbjaaGreatDoor.C
