/- What several laws of the sums share: the sum of lists that were laid in a row, in whatever later world. -/
import Derived.Test.YtkgfahmajhfgbaaMath3
namespace Go.Proofs.Ytkgfahmajhfgbaa
open Go.RowKit

theorem many_of {V w : World} {g : Nat} {t : TypeId} {vs : List Value} {ls : List (List UInt8)} (h : Blk V g t vs.toArray) (hB : Below w.heap.size w V) (hl : vs.length = ls.length)
    (hb : ∀ j, j < ls.length → Bytes w.heap.size w (vs[j]?.getD undef) (ls[j]?.getD [])) {n : Nat} (hn : ls.length = n) : Many V.heap.size V (.slice (some ⟨g, 0, none⟩) n n) ls := by
  subst hn
  refine ⟨_, _, rfl, Nat.le_refl _, fun _ => ⟨g, 0, rfl, h.lt, fun j hj => ⟨vs[j]?.getD undef, ?_, ((hb j hj).below hB).more hB.size⟩⟩⟩
  rw [Nat.zero_add, h.cell j, List.getElem?_toArray, List.getElem?_eq_getElem (by omega)]; rfl

theorem sum_row {w : World} (vs : List Value) (ls : List (List UInt8)) (hl : vs.length = ls.length) (hb : ∀ j, j < ls.length → Bytes w.heap.size w (vs[j]?.getD undef) (ls[j]?.getD []))
    (hlen : ∀ j : Nat, (ls[j]?.getD []).length ≤ 140737488351232) (hlen2 : ls.length ≤ 140737488351232) {n : Nat} (hn : ls.length = n) {s : Nat} (hs : sum ls.flatten = s) (V : World) (g : Nat) (hB : Below w.heap.size w V) (h : Blk V g 24 vs.toArray) :
    Calls Try.prog 11 #[.slice (some ⟨g, 0, none⟩) n n] V fun e w' => e = .returned (.int .u32 (s : Int)) ∧ Below w.heap.size w w' := by
  subst hs
  refine (sum_any _ ls hlen hlen2 V (many_of h hB hl hb hn)).mono ?_
  rintro e w' ⟨rfl, hB'⟩
  exact ⟨rfl, Below.next hB hB'⟩

/-- The sum of one list. -/
theorem sum_row1 {w : World} (v : Value) (l : List UInt8) (hb : Bytes w.heap.size w v l) (hl : l.length ≤ 140737488351232) (V : World) (g : Nat) (hB : Below w.heap.size w V) (h : Blk V g 24 #[v]) :
    Calls Try.prog 11 #[.slice (some ⟨g, 0, none⟩) 1 1] V fun e w' => e = .returned (.int .u32 ((sum l : Nat) : Int)) ∧ Below V.heap.size V w' := by
  have := sum_any _ [l] (fun j => by match j with | 0 => exact hl | j + 1 => exact Nat.zero_le _) (by simp) V (many_of (vs := [v]) h hB rfl (fun j hj => by match j, hj with | 0, _ => exact hb) (n := 1) rfl)
  simpa using this

theorem Blk.drew_ {w : World} {g : Nat} {t : TypeId} {cs : Array Value} (h : Blk w g t cs) : Blk w.drew g t cs := h
theorem blk_first (w : World) (o : Obj) (t : TypeId) (cs : Array Value) : Blk ((w.alloc (.cells cs t)).alloc o).drew w.heap.size t cs := ((Blk.new w t cs).alloc o).drew_
theorem blk_second (w : World) (o : Obj) (t : TypeId) (cs : Array Value) : Blk ((w.alloc o).alloc (.cells cs t)).drew (w.heap.size + 1) t cs := by
  have := Blk.new (w.alloc o) t cs
  rw [World.size_alloc] at this
  exact this
theorem below_two (w : World) (o o' : Obj) : Below w.heap.size w ((w.alloc o).alloc o').drew := (((Below.refl _ w).alloc (Nat.le_refl _) _).alloc (by simp) _).drew
theorem below_one (w : World) (o : Obj) : Below w.heap.size w (w.alloc o).drew := ((Below.refl _ w).alloc (Nat.le_refl _) _).drew

theorem two_lt0 (w : World) (o o' : Obj) : w.heap.size < ((w.alloc o).alloc o').drew.heap.size := by
  show w.heap.size < ((w.alloc o).alloc o').heap.size
  rw [World.size_alloc, World.size_alloc]; omega
theorem two_lt1 (w : World) (o o' : Obj) : w.heap.size + 1 < ((w.alloc o).alloc o').drew.heap.size := by
  show w.heap.size + 1 < ((w.alloc o).alloc o').heap.size
  rw [World.size_alloc, World.size_alloc]; omega

theorem works_in {w : World} (V : World) (hB : Below w.heap.size w V) : Calls Try.prog 10 #[] V fun e w' => e = .returned (.bool true) ∧ Below w.heap.size w w' := by
  refine (works_any V).mono ?_
  rintro e w' ⟨rfl, hB'⟩
  exact ⟨rfl, Below.next hB hB'⟩

theorem text_in {w : World} {v : Value} {l : List UInt8} (hb : Bytes w.heap.size w v l) (W : World) (hB : Below w.heap.size w W) : (convert 24 9 v).run Try.prog W = .ok (.string (text l)) W :=
  run_text W 9 Try.underlying24 Try.underlying5 Try.underlying9 (hb.below hB)

theorem sums_differ {a b : List UInt8} (h : ¬ sum a = sum b) : decide (((sum a : Nat) : Int) = ((sum b : Nat) : Int)) = false := by
  rw [decide_eq_false_iff_not]
  intro e
  exact h (by exact_mod_cast e)
end Go.Proofs.Ytkgfahmajhfgbaa
