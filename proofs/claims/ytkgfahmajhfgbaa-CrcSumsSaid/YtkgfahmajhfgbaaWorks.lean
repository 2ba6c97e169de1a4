/- The chapter's rows: works answers true. -/
import Derived.Test.YtkgfahmajhfgbaaWalkI
import Derived.Lib.SlBytesConst
namespace Go.Proofs.Ytkgfahmajhfgbaa
open Go.RowKit

theorem le4_len (x : Nat) : (le4 x).length = 4 := rfl
theorem body_seal (l : List UInt8) (x : Nat) : body (l ++ le4 x) = l := by
  unfold body; rw [List.length_append, le4_len, Nat.add_sub_cancel, List.take_left]
theorem tail_seal (l : List UInt8) (x : Nat) : tail (l ++ le4 x) = le4 x := by
  unfold tail; rw [List.length_append, le4_len, Nat.add_sub_cancel, List.drop_left]
theorem seals_seal (l : List UInt8) : Seals (l ++ le4 (sum l)) := ⟨by rw [List.length_append, le4_len]; omega, by rw [tail_seal, body_seal]⟩

theorem Bytes.form {B : Nat} {w : World} {v : Value} {l : List UInt8} (h : Bytes B w v l) {n : Nat} (hn : l.length = n) : ∃ A cap, v = .slice A n cap := by
  obtain ⟨A, cap, e, _⟩ := h
  exact ⟨A, cap, by rw [e, hn]⟩
theorem const_bytes {w : World} {fr : Nat × Nat} (l : List UInt8) (B : Nat) (hB : w.heap.size < B) : Bytes B (w.alloc (.cells (l.map enc).toArray 5 fr)) (.slice (some ⟨w.heap.size, 0, none⟩) l.length l.length) l := by
  refine ⟨_, _, rfl, Nat.le_refl _, fun _ => ⟨w.heap.size, 0, rfl, hB, fun j hj => ?_⟩⟩
  rw [Nat.zero_add, World.cell?_alloc_mark, List.getElem?_toArray, List.getElem?_map, List.getElem?_eq_getElem hj]; rfl

theorem Many.two {w : World} {v1 v2 : Value} {l1 l2 : List UInt8} {t : TypeId} (h1 : Bytes w.heap.size w v1 l1) (h2 : Bytes w.heap.size w v2 l2) :
    Many (w.alloc (.cells #[v1, v2] t)).heap.size (w.alloc (.cells #[v1, v2] t)) (.slice (some ⟨w.heap.size, 0, none⟩) 2 2) [l1, l2] := by
  refine ⟨_, 2, rfl, Nat.le_refl _, fun _ => ⟨w.heap.size, 0, rfl, by simp, fun j hj => ?_⟩⟩
  have hk : ∀ {v : Value} {l : List UInt8}, Bytes w.heap.size w v l → Bytes (w.alloc (.cells #[v1, v2] t)).heap.size (w.alloc (.cells #[v1, v2] t)) v l := fun h => (h.below ((Below.refl _ w).alloc (Nat.le_refl _) _)).more (by simp)
  match j, hj with
  | 0, _ => exact ⟨v1, (Blk.new w t #[v1, v2]).cell 0, hk h1⟩
  | 1, _ => exact ⟨v2, (Blk.new w t #[v1, v2]).cell 1, hk h2⟩

theorem sum_check : ((sum [[49, 50, 51, 52], [53, 54, 55, 56, 57]].flatten : Nat) : Int) = 3808858755 := by decide +kernel
theorem sum_nil : ((sum [].flatten : Nat) : Int) = 0 := by decide +kernel

set_option maxHeartbeats 1000000 in
theorem works_any (w : World) :
    Calls Try.prog 10 #[] w fun e w' => e = .returned (.bool true) ∧ Below w.heap.size w w' := by
  have kc := fun (w : World) (C : Array Value) (n c : Nat) => Lib.run_convert_bytes_const (P := Try.prog) w 24 5 C n c Try.underlying24 Try.underlying5
  have hs2 : Hid (∀ W : World, Calls Try.prog 11 #[.slice none 0 0] W fun e w' => e = .returned (.int .u32 0) ∧ Below W.heap.size W w') := fun W => by
    have := sum_any _ [] (by intro j; simp) (by simp) W (Many.nil_ _ _ none 0)
    rwa [sum_nil] at this
  go_enter Try.func10, Try.ntmps10
  go_wp2_with fail
  refine (seal_yes _ [104, 105] (by simp) _ (const_bytes [104, 105] _ (by simp))).mono ?_
  rintro e w1 ⟨v1, rfl, hown1, hB1⟩
  obtain ⟨A1, cap1, rfl⟩ := hown1.bytes.form (n := 6) rfl
  go_wp2_with fail
  refine (open_yes _ _ (by simp [le4_len]) w1 hown1.bytes (seals_seal _)).mono ?_
  rintro e w2 ⟨v2, rfl, hown2, hB2⟩
  rw [body_seal] at hown2
  go_wp2_with fail
  refine (open_no _ [97, 98, 99] (by simp) _ (const_bytes [97, 98, 99] _ (by simp)) (fun h => absurd h.1 (by simp))).mono ?_
  rintro e w3 ⟨rfl, hB3⟩
  have kc2 := Lib.run_convert_bytes_const (P := Try.prog) (w3.alloc (.cells #[.int .u8 49, .int .u8 50, .int .u8 51, .int .u8 52] 5 (4, 5))) 24 5 #[.int .u8 53, .int .u8 54, .int .u8 55, .int .u8 56, .int .u8 57] 5 5 Try.underlying24 Try.underlying5
  rw [World.size_alloc] at kc2
  have hsum := sum_any _ [[49, 50, 51, 52], [53, 54, 55, 56, 57]] (by intro j; match j with | 0 => simp | 1 => simp | j + 2 => simp) (by simp) _
    (Many.two (t := 24) ((const_bytes [49, 50, 51, 52] (w3.heap.size + 1) (fr := (4, 5)) (w := w3) (by omega)).below ((Below.refl _ _).alloc (by simp) (.cells ([53, 54, 55, 56, 57].map enc).toArray 5 (5, 6))) |>.more (by simp))
      (const_bytes [53, 54, 55, 56, 57] _ (fr := (5, 6)) (w := w3.alloc (.cells ([49, 50, 51, 52].map enc).toArray 5 (4, 5))) (by simp)))
  rw [show (((w3.alloc (.cells ([49, 50, 51, 52].map enc).toArray 5 (4, 5))).alloc (.cells ([53, 54, 55, 56, 57].map enc).toArray 5 (5, 6))).heap.size) = w3.heap.size + 1 + 1 by simp, show (w3.alloc (.cells ([49, 50, 51, 52].map enc).toArray 5 (4, 5))).heap.size = w3.heap.size + 1 by simp, sum_check] at hsum
  go_wp2_with fail
  refine hsum.mono ?_
  rintro e w4 ⟨rfl, hB4⟩
  have HB34 : Below w3.heap.size w3 w4 := Below.trans ((((Below.refl w3.heap.size w3).alloc (Nat.le_refl _) _).alloc (by simp) _).alloc (by simp; omega) _) (hB4.mono (by simp; omega))
  have hb3 : Bytes w4.heap.size w4 v2 [104, 105] := by
    have h3 := hown2.bytes.below (((Below.refl w2.heap.size w2).alloc (Nat.le_refl _) _).trans (hB3.mono (by simp)))
    have hz3 : w2.heap.size ≤ w3.heap.size := by have := hB3.size; simp at this; omega
    exact ((h3.more hz3).below HB34).more HB34.size
  go_wp2_with fail
  refine (hs2.out w4).mono ?_
  rintro e w5 ⟨rfl, hB5⟩
  have htx := run_text (P := Try.prog) w5 9 Try.underlying24 Try.underlying5 Try.underlying9 (hb3.below hB5)
  go_wp2_with (go_at_call 18; refine (num_any _ _).mono ?_; rintro e w6 ⟨rfl, rfl⟩)
  go_ret
  have q1 : Below w.heap.size w w1 := ((Below.refl _ w).alloc (Nat.le_refl _) _).trans (hB1.mono (by simp))
  have q3 : Below w2.heap.size w2 w3 := ((Below.refl _ w2).alloc (Nat.le_refl _) _).trans (hB3.mono (by simp))
  exact ⟨rfl, Below.next (Below.next (Below.next (Below.next q1 hB2) q3) HB34) hB5⟩
end Go.Proofs.Ytkgfahmajhfgbaa
