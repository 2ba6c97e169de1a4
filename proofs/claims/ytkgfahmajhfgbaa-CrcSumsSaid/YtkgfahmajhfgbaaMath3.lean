/- The plain mathematics of a window: bytes put upon some of a list that follow one another. -/
import Derived.Test.YtkgfahmajhfgbaaWalkJ
namespace Go.Proofs.Ytkgfahmajhfgbaa

/-- The bytes put upon those of the list from place p on, as far as there are any. -/
def xw (l : List UInt8) (p : Nat) : List UInt8 → List UInt8
  | [] => l
  | c :: r => xw (l.set p ((l[p]?.getD 0) ^^^ c)) (p + 1) r

theorem xw_len : ∀ (r l : List UInt8) (p : Nat), (xw l p r).length = l.length
  | [], _, _ => rfl
  | c :: r, l, p => by rw [xw, xw_len r]; simp

theorem xw_snoc : ∀ (r l : List UInt8) (p : Nat) (c : UInt8), xw l p (r ++ [c]) = (xw l p r).set (p + r.length) (((xw l p r)[p + r.length]?.getD 0) ^^^ c)
  | [], _, _, _ => rfl
  | d :: r, l, p, c => by
    rw [List.cons_append, xw, xw_snoc r, xw, List.length_cons, show p + 1 + r.length = p + (r.length + 1) by omega]

theorem xw_out : ∀ (r l : List UInt8) (p i : Nat), i < p ∨ p + r.length ≤ i → (xw l p r)[i]? = l[i]?
  | [], _, _, _, _ => rfl
  | c :: r, l, p, i, h => by
    rw [List.length_cons] at h
    rw [xw, xw_out r _ (p + 1) i (by omega), List.getElem?_set_ne (by omega)]

theorem xw_in : ∀ (r l : List UInt8) (p j : Nat), j < r.length → p + j < l.length → (xw l p r)[p + j]?.getD 0 = (l[p + j]?.getD 0) ^^^ (r[j]?.getD 0)
  | [], _, _, _, h, _ => by simp at h
  | c :: r, l, p, 0, _, hl => by
    rw [xw, xw_out r _ (p + 1) (p + 0) (by omega), Nat.add_zero, List.getElem?_set_self (by omega)]
    rfl
  | c :: r, l, p, j + 1, h, hl => by
    have := xw_in r (l.set p ((l[p]?.getD 0) ^^^ c)) (p + 1) j (by simpa using h) (by simp; omega)
    rw [show p + 1 + j = p + (j + 1) by omega] at this
    rw [xw, this, List.getElem?_set_ne (by omega)]
    rfl

theorem window_split {X l : List UInt8} (p : Nat) (hl : X.length = l.length) (h : ∀ i, i < p ∨ p + 4 ≤ i → X[i]? = l[i]?) : X = l.take p ++ (X.drop p).take 4 ++ l.drop (p + 4) := by
  have e : X = X.take p ++ (X.drop p).take 4 ++ X.drop (p + 4) := by
    rw [List.append_assoc]
    conv => lhs; rw [← List.take_append_drop p X]
    congr 1
    conv => lhs; rw [← List.take_append_drop 4 (X.drop p)]
    rw [List.drop_drop]
  have e1 : X.take p = l.take p := by
    apply List.ext_getElem?
    intro i
    by_cases hi : i < p
    · rw [List.getElem?_take_of_lt hi, List.getElem?_take_of_lt hi, h i (.inl hi)]
    · rw [List.getElem?_eq_none (by rw [List.length_take]; omega), List.getElem?_eq_none (by rw [List.length_take]; omega)]
  have e2 : X.drop (p + 4) = l.drop (p + 4) := by
    apply List.ext_getElem?
    intro i
    rw [List.getElem?_drop, List.getElem?_drop, h _ (.inr (by omega))]
  rw [e1, e2] at e
  exact e

theorem window_mids {X l : List UInt8} (p : Nat) (hl : X.length = l.length) : ((X.drop p).take 4).length = ((l.drop p).take 4).length ∧ ((X.drop p).take 4).length ≤ 4 := by
  refine ⟨by simp only [List.length_take, List.length_drop, hl], ?_⟩
  rw [List.length_take]
  omega

/-- A list in which a window was changed has another sum, unless it is the same list. -/
theorem window_sum {X l : List UInt8} (p : Nat) (hl : X.length = l.length) (h : ∀ i, i < p ∨ p + 4 ≤ i → X[i]? = l[i]?) (hs : sum X = sum l) : X = l := by
  have e1 := window_split p hl h
  have e2 := window_split (X := l) p rfl (fun _ _ => rfl)
  obtain ⟨m1, m2⟩ := window_mids p hl
  have hm : (X.drop p).take 4 = (l.drop p).take 4 := sum_window _ _ _ _ m1 m2 (by rw [← e1, ← e2]; exact hs)
  rw [e1, hm, ← e2]

theorem window_seals {X l : List UInt8} (p : Nat) (hl : X.length = l.length) (h : ∀ i, i < p ∨ p + 4 ≤ i → X[i]? = l[i]?) (h1 : Seals X) (h2 : Seals l) : X = l := by
  have e1 := window_split p hl h
  have e2 := window_split (X := l) p rfl (fun _ _ => rfl)
  obtain ⟨m1, m2⟩ := window_mids p hl
  have hm : (X.drop p).take 4 = (l.drop p).take 4 := seals_window _ _ _ _ m1 m2 (by rw [← e1]; exact h1) (by rw [← e2]; exact h2)
  rw [e1, hm, ← e2]

theorem xor_self_zero {a c : UInt8} (h : a ^^^ c = a) : c = 0 := by
  have e : a ^^^ (a ^^^ c) = a ^^^ a := by rw [h]
  rwa [← UInt8.xor_assoc, UInt8.xor_self, UInt8.zero_xor] at e

/-- Sealed bytes upon which others were put, not all noughts, are not sealed. -/
theorem xw_seals {l bs : List UInt8} {p : Nat} (hs : Seals l) (hb : bs.length = 4) (hp : p + 4 ≤ l.length) (hne : ¬ bs = [0, 0, 0, 0]) : ¬ Seals (xw l p bs) := by
  intro h
  have e := window_seals p (xw_len bs l p) (fun i hi => xw_out bs l p i (by omega)) h hs
  apply hne
  have hz : ∀ j, j < 4 → bs[j]?.getD 0 = 0 := fun j hj => by
    have := xw_in bs l p j (by omega) (by omega)
    rw [e] at this
    exact xor_self_zero this.symm
  match bs, hb with
  | [a, b, c, d], _ =>
    have h0 := hz 0 (by omega)
    have h1 := hz 1 (by omega)
    have h2 := hz 2 (by omega)
    have h3 := hz 3 (by omega)
    simp at h0 h1 h2 h3
    rw [h0, h1, h2, h3]

theorem xw_sum {l bs : List UInt8} {p : Nat} (hb : bs.length = 4) (h : sum (xw l p bs) = sum l) : xw l p bs = l :=
  window_sum p (xw_len bs l p) (fun i hi => xw_out bs l p i (by omega)) h
end Go.Proofs.Ytkgfahmajhfgbaa
