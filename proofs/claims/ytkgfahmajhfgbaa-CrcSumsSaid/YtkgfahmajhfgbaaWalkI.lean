/- Seal, Open; the document's own Open. -/
import Derived.Test.YtkgfahmajhfgbaaWalkH
namespace Go.Proofs.Ytkgfahmajhfgbaa
open Go.RowKit

def body (l : List UInt8) : List UInt8 := l.take (l.length - 4)
def tail (l : List UInt8) : List UInt8 := l.drop (l.length - 4)
/-- The bytes are sealed. -/
def Seals (l : List UInt8) : Prop := 4 ≤ l.length ∧ tail l = le4 (sum (body l))

theorem Below.next {a b c : World} (h : Below a.heap.size a b) (k : Below b.heap.size b c) : Below a.heap.size a c := h.trans (k.mono h.size)
theorem body_le (l : List UInt8) : (body l).length ≤ l.length := by unfold body; rw [List.length_take]; omega

theorem field_word (a : Int) (v : Value) (w : World) : (Instr.field 47 (.agg #[.int .u32 a, v]) 0).run Try.prog w = .ok (.int .u32 a) w := by kernel_rfl

set_option maxHeartbeats 400000 in
theorem seal_yes (v : Value) (l : List UInt8) (hlen : l.length ≤ 1048576) (w : World) (hb : Bytes w.heap.size w v l) :
    Calls Try.prog 15 #[v] w fun e w' => ∃ v', e = .returned (.tuple #[v', .int .i64 0]) ∧ OwnB w' w.heap.size v' (l ++ le4 (sum l)) ∧ Below w.heap.size w w' := by
  have h1 := sealOf_any v l (by omega) w hb
  have h2 := fun w1 : World => fun hb1 : Bytes w1.heap.size w1 v l => sealed_any (sum l) (sum_lt l) v l (by omega) w1 hb1
  obtain ⟨A, cap, rfl, _, _⟩ := id hb
  have H1 := Lib.hid h1
  have H2 := Lib.hid h2
  clear h1 h2
  have hdec : decide ((1048576 : Int) < (l.length : Int)) = false := by simp; omega
  go_enter Try.func15, Try.ntmps15
  go_wp2_with (first | (go_at_call 22; refine H1.out.mono ?_; rintro e w1 ⟨rfl, hB1⟩) | (go_at_call 23; refine (H2.out w1 ((hb.below hB1).more hB1.size)).mono ?_; rintro e w2 ⟨v2, rfl, hown2, hB2⟩))
  go_ret2
  exact ⟨v2, rfl, World.ownsRow.mono hown2 hB1.size, Below.next hB1 hB2⟩

set_option maxHeartbeats 400000 in
theorem seal_no (v : Value) (l : List UInt8) (hlen : 1048576 < l.length) (hlen2 : l.length ≤ 140737488351232) (w : World) (hb : Bytes w.heap.size w v l) :
    Calls Try.prog 15 #[v] w fun e w' => e = .returned (.tuple #[.slice none 0 0, .int .i64 3]) ∧ w = w' := by
  obtain ⟨A, cap, rfl, _, _⟩ := id hb
  have hdec : decide ((1048576 : Int) < (l.length : Int)) = true := by simp; omega
  go_enter Try.func15, Try.ntmps15
  go_wp2
  go_ret2
  exact ⟨rfl, rfl⟩

set_option maxHeartbeats 400000 in
theorem open_yes (v : Value) (l : List UInt8) (hlen : l.length ≤ 140737488351232) (w : World) (hb : Bytes w.heap.size w v l) (hs : Seals l) :
    Calls Try.prog 16 #[v] w fun e w' => ∃ v', e = .returned (.tuple #[v', .int .i64 0]) ∧ OwnB w' w.heap.size v' (body l) ∧ Below w.heap.size w w' := by
  have h1 := cut_any v l 4 (by omega) w hb hs.1
  rw [show ((4 : Nat) : Int) = 4 from rfl] at h1
  have hbl := body_le l
  have h2 := fun (w1 : World) (v1 : Value) (hb1 : Bytes w1.heap.size w1 v1 (body l)) => sealOf_any v1 (body l) (by omega) w1 hb1
  have h3 := fun (w1 : World) (v1 : Value) (hb1 : Bytes w1.heap.size w1 v1 (tail l)) => stands_any (sum (body l)) (sum_lt _) v1 (tail l) (by unfold tail; rw [List.length_drop]; have := hs.1; omega) w1 hb1
  rw [show decide (tail l = le4 (sum (body l))) = true from decide_eq_true hs.2] at h3
  have h4 := fun (w1 : World) (v1 : Value) (hb1 : Bytes w1.heap.size w1 v1 (body l)) => copied_any v1 (body l) 0 (by omega) w1 hb1
  rw [show ((0 : Nat) : Int) = 0 from rfl] at h4
  have H1 := Lib.hid h1
  have H2 := Lib.hid h2
  have H3 := Lib.hid h3
  have H4 := Lib.hid h4
  clear h1 h2 h3 h4 hs
  obtain ⟨A, cap, rfl, _, _⟩ := id hb
  have hfw := field_word
  go_enter Try.func16, Try.ntmps16
  go_wp2_with (first | (go_at_call 24; refine H1.out.mono ?_; rintro e w1 ⟨v1, v2, rfl, hb1, hb2, rfl⟩) | (go_at_call 22; refine (H2.out w.drew v1 hb1).mono ?_; rintro e w2 ⟨rfl, hB2⟩) | (go_at_call 25; refine (H3.out w2 v2 (Bytes.more (Bytes.below (W := w.drew) hb2 hB2) hB2.size)).mono ?_; rintro e w3 ⟨rfl, hB3⟩) | (go_at_call 26; refine (H4.out w3 v1 (Bytes.more (Bytes.below (W := w.drew) hb1 (Below.next hB2 hB3)) (Below.next hB2 hB3).size)).mono ?_; rintro e w4 ⟨v4, rfl, hown4, hB4⟩))
  go_ret2
  have hB := Below.undrew (Below.next hB2 hB3)
  exact ⟨v4, rfl, World.ownsRow.mono hown4 hB.size, Below.next hB hB4⟩

set_option maxHeartbeats 400000 in
theorem open_no (v : Value) (l : List UInt8) (hlen : l.length ≤ 140737488351232) (w : World) (hb : Bytes w.heap.size w v l) (hs : ¬ Seals l) :
    Calls Try.prog 16 #[v] w fun e w' => e = .returned (.tuple #[.slice none 0 0, .int .i64 110]) ∧ Below w.heap.size w w' := by
  by_cases hl : 4 ≤ l.length
  · have h1 := cut_any v l 4 (by omega) w hb hl
    rw [show ((4 : Nat) : Int) = 4 from rfl] at h1
    have hbl := body_le l
    have h2 := fun (w1 : World) (v1 : Value) (hb1 : Bytes w1.heap.size w1 v1 (body l)) => sealOf_any v1 (body l) (by omega) w1 hb1
    have h3 := fun (w1 : World) (v1 : Value) (hb1 : Bytes w1.heap.size w1 v1 (tail l)) => stands_any (sum (body l)) (sum_lt _) v1 (tail l) (by unfold tail; rw [List.length_drop]; omega) w1 hb1
    rw [show decide (tail l = le4 (sum (body l))) = false from decide_eq_false fun e => hs ⟨hl, e⟩] at h3
    have H1 := Lib.hid h1
    have H2 := Lib.hid h2
    have H3 := Lib.hid h3
    clear h1 h2 h3 hs
    obtain ⟨A, cap, rfl, _, _⟩ := id hb
    have hfw := field_word
    go_enter Try.func16, Try.ntmps16
    go_wp2_with (first | (go_at_call 24; refine H1.out.mono ?_; rintro e w1 ⟨v1, v2, rfl, hb1, hb2, rfl⟩) | (go_at_call 22; refine (H2.out w.drew v1 hb1).mono ?_; rintro e w2 ⟨rfl, hB2⟩) | (go_at_call 25; refine (H3.out w2 v2 (Bytes.more (Bytes.below (W := w.drew) hb2 hB2) hB2.size)).mono ?_; rintro e w3 ⟨rfl, hB3⟩))
    go_ret2
    exact ⟨rfl, Below.undrew (Below.next hB2 hB3)⟩
  · have h1 := cut_no v l 4 (by omega) (by omega) w hb (by omega)
    rw [show ((4 : Nat) : Int) = 4 from rfl] at h1
    have H1 := Lib.hid h1
    clear h1 hs
    obtain ⟨A, cap, rfl, _, _⟩ := id hb
    have hfw := field_word
    go_enter Try.func16, Try.ntmps16
    go_wp2_with (go_at_call 24; refine H1.out.mono ?_; rintro e w1 ⟨rfl, rfl⟩)
    go_ret2
    exact ⟨rfl, Below.refl _ _⟩
end Go.Proofs.Ytkgfahmajhfgbaa
