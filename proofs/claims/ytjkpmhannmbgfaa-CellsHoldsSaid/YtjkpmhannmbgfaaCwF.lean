/- Check, IsZero, Bits. -/
import Derived.Test.YtjkpmhannmbgfaaCwE
import Derived.Lib.SliceRun
namespace Go.Proofs.Ytjkpmhannmbgfaa
open Go.RowKit Go.Shelf

set_option maxHeartbeats 400000 in
theorem clone_any (v : Value) (l : List UInt8) (hlen : l.length ≤ 140737488351232) (w : World) (hb : Bytes w.heap.size w v l) :
    Calls Try.prog 52 #[v] w fun e w' => ∃ v', e = .returned v' ∧ Fresh w.heap.size w' v' l ∧ Below w.heap.size w w' := by
  obtain ⟨i0, hi, hz0, hz1, hz2⟩ := info_parts Try.infoByte
  have HB := Lib.hid hb
  have hq : ∀ (W : World) (a : Option Addr) (n c : Nat), (binOp .eql 25 (.slice a n c) (.slice none 0 0)).run Try.prog W = .ok (.bool a.isNone) W := fun W a n c => Lib.run_eql_slice_nil W _ _ a n c 0 0 Try.underlying25
  obtain ⟨A, cap, rfl, _, hA⟩ := id hb
  clear hb
  cases A with
  | none =>
    have hn : l = [] := by
      rcases Nat.eq_zero_or_pos l.length with h0 | h0
      · exact List.eq_nil_of_length_eq_zero h0
      · obtain ⟨b, off, h, _⟩ := hA h0
        cases h
    subst hn
    go_enter Try.func52, Try.ntmps52
    go_wp2
    go_ret
    exact ⟨_, rfl, Fresh.nil_ _ _ _ _, Below.refl _ _⟩
  | some x =>
    have hown : OwnB (w.alloc (.cells #[] 5)) w.heap.size (.slice (some ⟨w.heap.size, 0, none⟩) 0 0) [] :=
      World.ownsRow_made w _ 0 (Nat.le_refl _) (by unfold maxLen; omega) rfl
    have hb1 : Bytes w.heap.size (w.alloc (.cells #[] 5)) (.slice (some x) l.length cap) l := HB.out.below ((Below.refl _ w).alloc (Nat.le_refl _) _)
    have HO := Lib.hid hown
    have HB1 := Lib.hid hb1
    clear hown hb1 HB hA
    go_enter Try.func52, Try.ntmps52
    go_wp2_with (at_builtin; refine wpList_app _ rfl _ _ rfl w.heap.size i0 Try.underlying25 hi hz0 hz1 hz2 _ [] rfl HO.out w.heap.size _ l rfl HB1.out (by simp; omega) (by simp) ?_; intro v' w1 hown1 hgrow1 _)
    go_ret
    exact ⟨_, rfl, (OwnB.fresh hown1 : Fresh w.heap.size w1 v' ([] ++ l)), below_grown ((Below.refl _ w).alloc (Nat.le_refl _) _) hgrow1 (by simp) (fun k e => by cases e; exact Nat.le_refl _)⟩

set_option maxHeartbeats 400000 in
theorem check_any (v : Value) (l : List UInt8) {B : Nat} (w : World) (hb : Bytes B w v l) :
    Calls Try.prog 18 #[v] w fun e w' => e = .returned (.int .i64 (if Cell l then 0 else 2)) ∧ Below w.heap.size w w' := by
  by_cases hc : Cell l
  · have H := Lib.hid (cellOf_yes v l w hb hc)
    rw [if_pos hc]
    clear hc
    obtain ⟨A, cap, rfl, _, _⟩ := hb
    go_enter Try.func18, Try.ntmps18
    go_wp2_with (go_at_call 35; refine H.out.mono ?_; rintro e w1 ⟨rfl, hB1⟩)
    go_ret
    exact ⟨rfl, hB1.alloc hB1.size _⟩
  · have H := Lib.hid (cellOf_no v l w hb hc)
    rw [if_neg hc]
    clear hc
    obtain ⟨A, cap, rfl, _, _⟩ := hb
    go_enter Try.func18, Try.ntmps18
    go_wp2_with (go_at_call 35; refine H.out.mono ?_; rintro e w1 ⟨rfl, hB1⟩)
    go_ret
    exact ⟨rfl, hB1.alloc hB1.size _⟩

set_option maxHeartbeats 400000 in
theorem isZero_any (v : Value) (l : List UInt8) (w : World) (hb : Bytes w.heap.size w v l) :
    Calls Try.prog 16 #[v] w fun e w' => e = .returned (.bool (decide (Cell l ∧ places l = []))) ∧ Below w.heap.size w w' := by
  by_cases hc : Cell l
  · have H := Lib.hid (cellOf_yes v l w hb hc)
    have H2 := Lib.hid (fun (W : World) (hB : Below w.heap.size w W) => noBit_any v l W ((hb.below hB).more hB.size) (Nat.le_trans hc.2 (by omega)))
    obtain ⟨A, cap, rfl, _, _⟩ := hb
    have hd : decide (Cell l ∧ places l = []) = decide (places l = []) := by simp [hc]
    rw [hd]
    clear hd hc
    generalize decide (places l = []) = d at H2
    go_enter Try.func16, Try.ntmps16
    go_wp2_with (first
      | (go_at_call 35; refine H.out.mono ?_; rintro e w1 ⟨rfl, hB1⟩)
      | (go_at_call 36; refine (H2.out _ (hB1.alloc hB1.size _)).mono ?_; rintro e w2 ⟨rfl, hB2⟩))
    go_ret
    exact ⟨rfl, Below.next (hB1.alloc hB1.size _) hB2⟩
  · have H := Lib.hid (cellOf_no v l w hb hc)
    obtain ⟨A, cap, rfl, _, _⟩ := hb
    have hd : decide (Cell l ∧ places l = []) = false := decide_eq_false fun h => hc h.1
    rw [hd]
    clear hd hc
    go_enter Try.func16, Try.ntmps16
    go_wp2_with (go_at_call 35; refine H.out.mono ?_; rintro e w1 ⟨rfl, hB1⟩)
    go_ret
    exact ⟨rfl, hB1.alloc hB1.size _⟩

set_option maxHeartbeats 400000 in
theorem copied_any (v : Value) (l : List UInt8) (hlen : l.length ≤ 140737488351232) (w : World) (hb : Bytes w.heap.size w v l) :
    Calls Try.prog 37 #[v] w fun e w' => ∃ v', e = .returned v' ∧ Fresh w.heap.size w' v' l ∧ Below w.heap.size w w' := by
  have H := Lib.hid (clone_any v l hlen w hb)
  obtain ⟨A, cap, rfl, _, _⟩ := hb
  go_enter Try.func37, Try.ntmps37
  go_wp2_with (go_at_call 52; refine H.out.mono ?_; rintro e w1 ⟨v', rfl, hF1, hB1⟩)
  go_ret
  exact ⟨_, rfl, hF1, hB1⟩

/-- The bytes of a cell; what is none is without a byte here. -/
def cellBytes (l : List UInt8) : List UInt8 := if Cell l then l else []
theorem cellBytes_le (l : List UInt8) : (cellBytes l).length ≤ 64 := by
  unfold cellBytes
  split
  · rename_i h; exact h.2
  · simp

theorem Fresh.toP {base : Nat} {W : World} {v : Value} {l : List UInt8} (h : Fresh base W v l) : BytesP (fun b => base ≤ b ∧ b < W.heap.size) W v l := by
  obtain ⟨A, cap, e, hc, hA⟩ := h
  refine ⟨A, cap, e, hc, fun hp => ?_⟩
  obtain ⟨b, off, e2, h1, h2, hcell⟩ := hA hp
  exact ⟨b, off, e2, ⟨h1, h2⟩, hcell⟩
/-- What Bits hands back. -/
def Seq (w : World) (l : List UInt8) (e : Ending) (w' : World) : Prop :=
  ∃ g v', e = .returned (.func (.func 53) #[] #[.pointer (some ⟨g, 0, none⟩)]) ∧ w.heap.size ≤ g ∧ Blk w' g 52 #[v'] ∧ Fresh w.heap.size w' v' (cellBytes l) ∧ Below w.heap.size w w'

set_option maxHeartbeats 1000000 in
theorem bitsOf_any (v : Value) (l : List UInt8) (w : World) (hb : Bytes w.heap.size w v l) : Calls Try.prog 20 #[v] w (Seq w l) := by
  have key : ∀ (u : Value) (b : Bool), Calls Try.prog 35 #[v] w (fun e w' => e = .returned (.tuple #[.agg #[u], .bool b]) ∧ Below w.heap.size w w') → Bytes w.heap.size w u (cellBytes l) → Calls Try.prog 20 #[v] w (Seq w l) := by
    intro u b h hu
    have H := Lib.hid h
    have hle := cellBytes_le l
    have H2 := Lib.hid (fun (W : World) (hB : Below w.heap.size w W) => copied_any u (cellBytes l) (by omega) W ((hu.below hB).more hB.size))
    obtain ⟨A, cap, rfl, _, _⟩ := hb
    obtain ⟨A2, cap2, rfl, _, _⟩ := id hu
    clear h hu
    go_enter Try.func20, Try.ntmps20
    go_wp2_with (first
      | (go_at_call 35; refine H.out.mono ?_; rintro e w1 ⟨rfl, hB1⟩)
      | (go_at_call 37; refine (H2.out _ (hB1.alloc hB1.size _)).mono ?_; rintro e w2 ⟨v2, rfl, hF2, hB2⟩)
      | (go_at_call 38; refine (bits_any v2 (cellBytes l) w2 hF2.bytes).mono ?_; rintro e w3 ⟨rfl, rfl⟩))
    go_ret
    have hB12 := Below.next (hB1.alloc hB1.size (.cells #[.slice A2 (cellBytes l).length cap2] 54)) hB2
    exact ⟨_, v2, rfl, hB12.size, Blk.new _ _ _, (hF2.below ((Below.refl _ _).alloc (Nat.le_refl _) _)).less (hB1.alloc hB1.size (.cells #[.slice A2 (cellBytes l).length cap2] 54)).size, hB12.alloc hB12.size _⟩
  by_cases hc : Cell l
  · exact key v true (cellOf_yes v l w hb hc) (by unfold cellBytes; rw [if_pos hc]; exact hb)
  · exact key _ false (cellOf_no v l w hb hc) (by unfold cellBytes; rw [if_neg hc]; exact Bytes.nil_ _ _ _ _)
end Go.Proofs.Ytjkpmhannmbgfaa
