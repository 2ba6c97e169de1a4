/- The document's Put, Xor. -/
import Derived.Test.YtcbkdbnpcpgadaaDoorCwK
import Derived.Deep.RegionLaw
namespace Go.Proofs.YtcbkdbnpcpgadaaDoor.C
open Go.RowKit Go.Shelf

theorem OwnB.grown_ {w w' : World} {base : Nat} {v : Value} {l : List UInt8} (h : OwnB w base v l) (hg : w.grownBy w' none) : OwnB w' base v l :=
  World.ownsRow.kept h hg (by cases hv : v.ownBlock <;> simp)
theorem grown_drew {a w : World} {row : Option Nat} (h : a.grownBy w row) : a.grownBy w.drew row := ⟨h.os, h.tape, h.output, h.size, h.block⟩
theorem one_bytes (w : World) (c : UInt8) : Bytes (w.heap.size + 1) (w.alloc (.cells #[.int .u8 (c.toNat : Int)] 5)) (.slice (some ⟨w.heap.size, 0, none⟩) 1 1) [c] := by
  refine ⟨_, 1, rfl, Nat.le_refl _, fun _ => ⟨w.heap.size, 0, rfl, by omega, fun j hj => ?_⟩⟩
  obtain rfl : j = 0 := by simpa using hj
  exact (Blk.new w _ _).one

theorem xorB_take (a b : List UInt8) (k : Nat) (hk : k < a.length) : (xorB a b).take (k + 1) = (xorB a b).take k ++ [at_ a k ^^^ at_ b k] := by
  rw [List.take_succ_eq_append_getElem (by rw [xorB_len]; exact hk)]
  have := xorB_at a b k hk
  unfold at_ at this ⊢
  rw [List.getElem?_eq_getElem (by rw [xorB_len]; exact hk)] at this
  rw [← this]; rfl

theorem alike_not {ls : List (List UInt8)} {k : Nat} (hk : k < ls.length) (h : ¬ (Cell (ls[k]?.getD []) ∧ (ls[k]?.getD []).length = (ls[0]?.getD []).length)) : ¬ XorOk ls := by
  rintro ⟨h0, hc, ha⟩
  refine h ⟨?_, ha k hk⟩
  have e1 := ha k hk
  unfold Cell at hc ⊢
  omega
theorem alike_all {ls : List (List UInt8)} (h0 : 0 < ls.length) (h : ∀ j, j < ls.length → Cell (ls[j]?.getD []) ∧ (ls[j]?.getD []).length = (ls[0]?.getD []).length) : XorOk ls :=
  ⟨h0, (h 0 h0).1, fun j hj => (h j hj).2⟩

theorem Fresh.grown_ {base : Nat} {W W' : World} {v : Value} {l : List UInt8} (h : Fresh base W v l) (hg : W.grownBy W' none) : Fresh base W' v l :=
  h.keep hg.size fun p _ hp => World.cell?_of_block (hg.block p.block hp (by simp))

end Go.Proofs.YtcbkdbnpcpgadaaDoor.C
