/- Check, IsZero, Bits. -/
import Derived.Test.YtggdlklkjnbbjaaGreatDoorCwE
import Derived.Lib.SliceRun
namespace Go.Proofs.YtggdlklkjnbbjaaGreatDoor.C
open Go.RowKit Go.Shelf

set_option maxHeartbeats 400000 in
theorem check_any (v : Value) (l : List UInt8) {B : Nat} (w : World) (hb : Bytes B w v l) :
    Calls Tryz.prog 137 #[v] w fun e w' => e = .returned (.int .i64 (if Cell l then 0 else 2)) ∧ Below w.heap.size w w' := by
  by_cases hc : Cell l
  · have H := Lib.hid (cellOf_yes v l w hb hc)
    rw [if_pos hc]
    clear hc
    obtain ⟨A, cap, rfl, _, _⟩ := hb
    go_enter Tryz.func137, Tryz.ntmps137
    go_wp2_with (go_at_call 158; refine H.out.mono ?_; rintro e w1 ⟨rfl, hB1⟩)
    go_ret
    exact ⟨rfl, hB1.alloc hB1.size _⟩
  · have H := Lib.hid (cellOf_no v l w hb hc)
    rw [if_neg hc]
    clear hc
    obtain ⟨A, cap, rfl, _, _⟩ := hb
    go_enter Tryz.func137, Tryz.ntmps137
    go_wp2_with (go_at_call 158; refine H.out.mono ?_; rintro e w1 ⟨rfl, hB1⟩)
    go_ret
    exact ⟨rfl, hB1.alloc hB1.size _⟩

/-- The bytes of a cell; what is none is without a byte here. -/
def cellBytes (l : List UInt8) : List UInt8 := if Cell l then l else []
theorem cellBytes_le (l : List UInt8) : (cellBytes l).length ≤ 64 := by
  unfold cellBytes
  split
  · rename_i h; exact h.2
  · simp

theorem Fresh.toP {base : Nat} {W : World} {v : Value} {l : List UInt8} (h : Fresh base W v l) : BytesP (fun b => base ≤ b ∧ b < W.heap.size) W v l := by
  obtain ⟨A, cap, e, hc, hA⟩ := h
  refine ⟨A, cap, e, hc, fun hp => ?_⟩
  obtain ⟨b, off, e2, h1, h2, hcell⟩ := hA hp
  exact ⟨b, off, e2, ⟨h1, h2⟩, hcell⟩
end Go.Proofs.YtggdlklkjnbbjaaGreatDoor.C
