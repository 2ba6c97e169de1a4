/- Glue. -/
import Derived.Test.YtggdlklkjnbbjaaGreatDoorCwI
namespace Go.Proofs.YtggdlklkjnbbjaaGreatDoor.C
open Go.RowKit Go.Shelf

theorem lengthOf_alike (ls : List (List UInt8)) (v : Value) (w : World) (hM : Many w.heap.size w v ls) (hls : ls.length ≤ 140737488351232) (hal : Alike ls) :
    Calls Tryz.prog 149 #[v] w fun e w' => e = .returned (.int .i64 ((ls[0]?.getD []).length : Int)) ∧ Below w.heap.size w w' := by
  by_cases h0 : ls = []
  · subst h0
    refine (lengthOf_none v w hM).mono ?_
    rintro e w' ⟨rfl, rfl⟩
    exact ⟨rfl, Below.refl _ _⟩
  · rcases hal with h | ⟨hc, ha⟩
    · exact absurd h h0
    · exact lengthOf_yes ls v w (Nat.le_refl _) hM hls (List.length_pos_iff.2 h0) hc ha

theorem flat_alike (ls : List (List UInt8)) (n : Nat) (h : AllLen n ls) : ls.flatten.length = ls.length * n := by
  induction ls with
  | nil => simp
  | cons a ls ih =>
    have h1 : a.length = n := h 0 (by simp)
    have h2 := ih fun j hj => by
      have := h (j + 1) (by simpa using hj)
      simpa using this
    rw [List.flatten_cons, List.length_append, h2, h1, List.length_cons, Nat.succ_mul]; omega
theorem flat_of (ls : List (List UInt8)) (hal : Alike ls) : ls.flatten.length = ls.length * (ls[0]?.getD []).length := by
  rcases hal with rfl | ⟨_, h⟩
  · rfl
  · exact flat_alike ls _ h

theorem Fresh.take_ {base : Nat} {w : World} {A : Option Addr} {n cap : Nat} {l : List UInt8} (h : Fresh base w (.slice A n cap) l) {m : Nat} (hm : m ≤ n) : Fresh base w (.slice A m m) (l.take m) := by
  obtain ⟨A', cap', e, hc, hA⟩ := h
  injection e with e1 e2 e3
  subst e1 e2 e3
  have hl : (l.take m).length = m := by rw [List.length_take]; omega
  refine ⟨A, m, by rw [hl], by omega, fun hp => ?_⟩
  obtain ⟨b, off, e, h1, h2, hcell⟩ := hA (by omega)
  exact ⟨b, off, e, h1, h2, fun j hj => by rw [hcell j (by omega), List.getElem?_take_of_lt (by omega)]⟩

/-- So many bytes of cells can be glued. -/
def GlueOk (ls : List (List UInt8)) (many : Int) : Prop :=
  Alike ls ∧ (0 ≤ many ∧ 0 ≤ (ls.flatten.length : Int) - many ∧ (ls.flatten.length : Int) - many < max ((ls[0]?.getD []).length : Int) 1) ∧ places (ls.flatten.drop many.toNat) = []

theorem head_le {ls : List (List UInt8)} (h : Alike ls) : (ls[0]?.getD []).length ≤ 64 := by
  rcases h with rfl | h
  · simp
  · exact h.1.2

end Go.Proofs.YtggdlklkjnbbjaaGreatDoor.C
