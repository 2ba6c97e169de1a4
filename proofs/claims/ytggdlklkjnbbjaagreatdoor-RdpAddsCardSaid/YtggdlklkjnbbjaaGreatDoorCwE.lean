/- The places of bits: what bits hands back goes over them; Len8. -/
import Derived.Test.YtggdlklkjnbbjaaGreatDoorCwD
import Derived.Test.YtggdlklkjnbbjaaGreatDoorCBits
import Derived.RangeFuncNested
import Derived.WalkMore
import Derived.Outline
import Derived.RangeFuncBound
import Derived.RangeFuncCalls
import Derived.RangeFuncLeaves
import Derived.Shelf.Abstract
import Derived.Shelf.RegionOpen
import Derived.OwnWalkIn
import Derived.TacticsInMore
import Derived.LoopNIn
import Derived.LoopIn
import Derived.Lib.Walk
import Derived.Lib.Small
import Derived.Laws.ShiftsVarLaws
namespace Go.Proofs.YtggdlklkjnbbjaaGreatDoor.C
open Go.RowKit Go.Shelf
attribute [local go_sem] Oper.semAt_some

theorem bit_and (x : UInt8) (i : Nat) : bits .and .u8 ((x.toNat : Int) / 2 ^ i) 1 = if bit x i = true then 1 else 0 := by
  have hx := byte_lt x
  have hd : x.toNat / 2 ^ i < 256 := Nat.lt_of_le_of_lt (Nat.div_le_self _ _) hx
  rw [show (x.toNat : Int) / 2 ^ i = ((x.toNat / 2 ^ i : Nat) : Int) by push_cast; rfl, show (1 : Int) = ((1 : Nat) : Int) from rfl, u8_and_nat _ 1 hd (by omega), Nat.and_one_is_mod]
  unfold bit
  by_cases h : x.toNat / 2 ^ i % 2 = 1
  · rw [h]; simp
  · rw [show x.toNat / 2 ^ i % 2 = 0 by omega]; simp

/-- The blocks of which P speaks lie as they lay. -/
def Keeps (P : Nat → Prop) (W W' : World) : Prop := ∀ b, P b → W'.heap[b]? = W.heap[b]?
theorem Keeps.refl (P : Nat → Prop) (W : World) : Keeps P W W := fun _ _ => rfl
theorem Keeps.trans {P : Nat → Prop} {A B C : World} (h : Keeps P A B) (k : Keeps P B C) : Keeps P A C := fun b hb => (k b hb).trans (h b hb)
theorem Keeps.cell {P : Nat → Prop} {A B : World} (h : Keeps P A B) {p : Addr} (hp : P p.block) : B.cell? p = A.cell? p := World.cell?_of_block (h p.block hp)
theorem keeps_put {P : Nat → Prop} {N : Nat} (hP : ∀ b, P b → b < N) (W : World) (l : Nat) (o o' : Obj) (hl : N ≤ l) (_ : W.heap[l]? = some o) (_ : o.isCells = false) (_ : o.isWalk = false) : Keeps P W (W.putObj l o') := fun b hb => World.putObj_heap_other (by have := hP b hb; omega)
/-- The value v reads as the bytes l, in a block of which P speaks. -/
def BytesP (P : Nat → Prop) (W : World) (v : Value) (l : List UInt8) : Prop :=
  ∃ A cap, v = .slice A l.length cap ∧ l.length ≤ cap ∧ (0 < l.length → ∃ b off, A = some ⟨b, off, none⟩ ∧ P b ∧ ∀ j, j < l.length → W.cell? ⟨b, off + j, none⟩ = some (.int .u8 ((l[j]?.getD 0).toNat : Int)))
theorem Bytes.toP {n : Nat} {W : World} {v : Value} {l : List UInt8} (h : Bytes n W v l) : BytesP (· < n) W v l := h
theorem BytesP.keep {P : Nat → Prop} {W W' : World} {v : Value} {l : List UInt8} (h : BytesP P W v l) (hk : Keeps P W W') : BytesP P W' v l := by
  obtain ⟨A, cap, e, hc, hA⟩ := h
  refine ⟨A, cap, e, hc, fun hp => ?_⟩
  obtain ⟨b, off, e2, hb, hcell⟩ := hA hp
  exact ⟨b, off, e2, hb, fun j hj => (hk.cell (p := ⟨b, off + j, none⟩) hb).trans (hcell j hj)⟩

end Go.Proofs.YtggdlklkjnbbjaaGreatDoor.C
