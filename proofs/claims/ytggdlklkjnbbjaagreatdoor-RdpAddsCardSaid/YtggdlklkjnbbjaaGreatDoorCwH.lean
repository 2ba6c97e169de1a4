/- Cut. -/
import Derived.Test.YtggdlklkjnbbjaaGreatDoorCwG
namespace Go.Proofs.YtggdlklkjnbbjaaGreatDoor.C
open Go.RowKit Go.Shelf

/-- The value v reads as the lists ls; all of it lies in blocks from base on. -/
def FreshMany (base : Nat) (W : World) (v : Value) (ls : List (List UInt8)) : Prop :=
  ∃ A cap, v = .slice A ls.length cap ∧ ls.length ≤ cap ∧ (0 < ls.length → ∃ b off, A = some ⟨b, off, none⟩ ∧ base ≤ b ∧ b < W.heap.size ∧ ∀ j, j < ls.length → ∃ u, W.cell? ⟨b, off + j, none⟩ = some u ∧ Fresh base W u (ls[j]?.getD []))

section
variable {W W' : World} {base base' : Nat} {v : Value} {ls : List (List UInt8)}
theorem FreshMany.many (h : FreshMany base W v ls) : Many W.heap.size W v ls := by
  obtain ⟨A, cap, e, hc, hA⟩ := h
  refine ⟨A, cap, e, hc, fun hp => ?_⟩
  obtain ⟨b, off, e2, _, hb, hcell⟩ := hA hp
  refine ⟨b, off, e2, hb, fun j hj => ?_⟩
  obtain ⟨u, hu, hF⟩ := hcell j hj
  exact ⟨u, hu, hF.bytes⟩
theorem FreshMany.keep (h : FreshMany base W v ls) (hs : W.heap.size ≤ W'.heap.size) (hk : ∀ p : Addr, base ≤ p.block → p.block < W.heap.size → W'.cell? p = W.cell? p) : FreshMany base W' v ls := by
  obtain ⟨A, cap, e, hc, hA⟩ := h
  refine ⟨A, cap, e, hc, fun hp => ?_⟩
  obtain ⟨b, off, e2, hb1, hb2, hcell⟩ := hA hp
  refine ⟨b, off, e2, hb1, by omega, fun j hj => ?_⟩
  obtain ⟨u, hu, hF⟩ := hcell j hj
  exact ⟨u, (hk ⟨b, off + j, none⟩ hb1 hb2).trans hu, hF.keep hs hk⟩
theorem FreshMany.below (h : FreshMany base W v ls) (hb : Below W.heap.size W W') : FreshMany base W' v ls := h.keep hb.size fun _ _ hp => hb.cell hp
theorem FreshMany.set_ (h : FreshMany base W v ls) {p : Addr} (hp : p.block < base) (u : Value) : FreshMany base (W.setCell p u) v ls :=
  h.keep (by simp [World.setCell]) fun q hq _ => World.cell?_of_block (Below.heap_setCell W p u q.block (by omega))
theorem FreshMany.less (h : FreshMany base W v ls) (hb : base' ≤ base) : FreshMany base' W v ls := by
  obtain ⟨A, cap, e, hc, hA⟩ := h
  refine ⟨A, cap, e, hc, fun hp => ?_⟩
  obtain ⟨b, off, e2, hb1, hb2, hcell⟩ := hA hp
  refine ⟨b, off, e2, by omega, hb2, fun j hj => ?_⟩
  obtain ⟨u, hu, hF⟩ := hcell j hj
  exact ⟨u, hu, hF.less hb⟩
end

/-- Bytes cut into cells of length n. -/
def cutL (n : Nat) (l : List UInt8) : List (List UInt8) := (List.range (cellsFor l.length n)).map fun j => tab n (fun i => at_ l (j * n + i))
theorem cutL_len (n : Nat) (l : List UInt8) : (cutL n l).length = cellsFor l.length n := by simp [cutL]
theorem cutL_at (n : Nat) (l : List UInt8) (j : Nat) (hj : j < cellsFor l.length n) : (cutL n l)[j]?.getD [] = tab n (fun i => at_ l (j * n + i)) := by simp [cutL, hj]

theorem cut_fresh {W : World} {g g2 n q base : Nat} {l : List UInt8} (hq : q = cellsFor l.length n) (hB : Blk W g2 25 (cutAt g n q q)) (hR : Row W g (tab (q * n) (at_ l))) (h1 : base ≤ g) (h2 : base ≤ g2) :
    FreshMany base W (.slice (some ⟨g2, 0, none⟩) q q) (cutL n l) := by
  refine ⟨some ⟨g2, 0, none⟩, q, by rw [cutL_len, hq], by rw [cutL_len, hq]; exact Nat.le_refl _, fun _ => ⟨g2, 0, rfl, h2, hB.lt, fun j hj => ?_⟩⟩
  rw [cutL_len, ← hq] at hj
  refine ⟨.slice (some ⟨g, j * n, none⟩) n n, ?_, ?_⟩
  · rw [Nat.zero_add, hB.cell, cutAt_get _ _ _ _ _ hj, if_pos hj]
  · rw [cutL_at n l j (by omega)]
    refine ⟨some ⟨g, j * n, none⟩, n, by rw [tab_len], by rw [tab_len]; exact Nat.le_refl _, fun _ => ⟨g, j * n, rfl, h1, hR.lt, fun i hi => ?_⟩⟩
    rw [tab_len] at hi
    have hlt : j * n + i < q * n := by
      have := Nat.mul_le_mul_right n (show j + 1 ≤ q from hj)
      rw [Nat.succ_mul] at this
      omega
    rw [hR.cell (k := j * n + i) (by rw [tab_len]; exact hlt)]
    have e1 := tab_at (q * n) (at_ l) (j * n + i) hlt
    have e2 := tab_at n (fun i => at_ l (j * n + i)) i hi
    exact congrArg (fun x : UInt8 => some (Value.int .u8 (x.toNat : Int))) (e1.trans e2.symm)

end Go.Proofs.YtggdlklkjnbbjaaGreatDoor.C
