/- A code under way: its rows, its columns; what it has. -/
import Derived.Test.YtcbkdbnpcpgadaaDoorMwI
namespace Go.Proofs.YtcbkdbnpcpgadaaDoor
open Go.RowKit Go.Shelf

/-- What a code under way is: of a prime; a kind's two numbers. -/
structure Und (p s m : Int) : Prop where
  p1 : 3 ≤ p
  p2 : p ≤ 17
  s1 : 0 ≤ s
  s2 : s ≤ 1
  m1 : 2 ≤ m
  m2 : m ≤ 3
theorem below_one (w : World) (o : Obj) : Below w.heap.size w (w.alloc o) := (Below.refl _ w).alloc (Nat.le_refl _) _
theorem below_two (w : World) (o o' : Obj) : Below w.heap.size w ((w.alloc o).alloc o') := (below_one w o).alloc (by simp) _
theorem cell_lt {W : World} {g i : Nat} {v : Value} (h : W.cell? ⟨g, i, none⟩ = some v) : g < W.heap.size := by
  rcases Nat.lt_or_ge g W.heap.size with h1 | h1
  · exact h1
  · unfold World.cell? at h
    rw [show W.heap[g]? = none from Array.getElem?_eq_none h1] at h
    cases h
theorem nextc {W W' : World} {g i : Nat} {v : Value} (h : W.cell? ⟨g, i, none⟩ = some v) (hB : Below W.heap.size W W') : W'.cell? ⟨g, i, none⟩ = some v := (hB.cell (p := ⟨g, i, none⟩) (cell_lt h)).trans h
theorem nextcd {W W' : World} {g i : Nat} {v : Value} (h : W.cell? ⟨g, i, none⟩ = some v) (hB : Below W.drew.heap.size W.drew W') : W'.cell? ⟨g, i, none⟩ = some v := nextc (W := W.drew) h hB
theorem Blk.nextd {W W' : World} {g : Nat} {t : TypeId} {cs : Array Value} (h : Blk W g t cs) (hB : Below W.drew.heap.size W.drew W') : Blk W' g t cs := Blk.below (w := W.drew) h hB (show g < W.heap.size from h.lt)
theorem below_drewN {B : Nat} {W W' : World} (h : Below B W W') (n : Nat) : Below B W (W'.drewN n) := h.trans ⟨rfl, rfl, rfl, Nat.le_refl _, fun _ _ => rfl⟩
theorem Blk.second (w : World) (o : Obj) (t : TypeId) (cs : Array Value) : Blk ((w.alloc o).alloc (.cells cs t)) (w.heap.size + 1) t cs := by
  have := Blk.new (w.alloc o) t cs
  rwa [World.size_alloc] at this

set_option maxHeartbeats 400000 in
theorem rows_any (k p s m : Int) (hu : Und p s m) (w : World) : Calls Tryd.prog 72 #[(.agg #[.int .i64 k, .int .i64 p, .int .i64 s, .int .i64 m])] w fun e w' => e = .returned (.int .i64 (p - 1)) ∧ Below w.heap.size w w' := by
  obtain ⟨p1, p2, s1, s2, m1, m2⟩ := hu
  go_enter Tryd.func72, Tryd.ntmps72
  go_wp2
  go_ret
  exact ⟨rfl, (Below.refl _ _).alloc (Nat.le_refl _) _⟩

set_option maxHeartbeats 400000 in
theorem data_any (k p s m : Int) (hu : Und p s m) (w : World) : Calls Tryd.prog 53 #[(.agg #[.int .i64 k, .int .i64 p, .int .i64 s, .int .i64 m])] w fun e w' => e = .returned (.int .i64 (p - s)) ∧ Below w.heap.size w w' := by
  obtain ⟨p1, p2, s1, s2, m1, m2⟩ := hu
  go_enter Tryd.func53, Tryd.ntmps53
  go_wp2
  go_ret
  exact ⟨rfl, (Below.refl _ _).alloc (Nat.le_refl _) _⟩

end Go.Proofs.YtcbkdbnpcpgadaaDoor
