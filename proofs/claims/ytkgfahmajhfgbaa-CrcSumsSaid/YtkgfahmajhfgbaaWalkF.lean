/- Sum, More; the document's own sum, bit by bit; Four. -/
import Derived.Test.YtkgfahmajhfgbaaWalkE
namespace Go.Proofs.Ytkgfahmajhfgbaa
open Go.RowKit

theorem Many.one {w : World} {v : Value} {l : List UInt8} {t : TypeId} (h : Bytes w.heap.size w v l) :
    Many (w.alloc (.cells #[v] t)).heap.size (w.alloc (.cells #[v] t)) (.slice (some ⟨w.heap.size, 0, none⟩) 1 1) [l] := by
  refine ⟨_, 1, rfl, Nat.le_refl _, fun _ => ⟨w.heap.size, 0, rfl, by simp, fun j hj => ?_⟩⟩
  obtain rfl : j = 0 := by simpa using hj
  exact ⟨v, (Blk.new w t #[v]).cell 0, (h.below ((Below.refl _ w).alloc (Nat.le_refl _) _)).more (by simp)⟩

set_option maxHeartbeats 400000 in
theorem sum_any (sv : Value) (ls : List (List UInt8)) (hlen : ∀ j : Nat, (ls[j]?.getD []).length ≤ 140737488351232) (hlen2 : ls.length ≤ 140737488351232) (w : World) (hM : Many w.heap.size w sv ls) :
    Calls Try.prog 11 #[sv] w fun e w' => e = .returned (.int .u32 ((sum ls.flatten : Nat) : Int)) ∧ Below w.heap.size w w' := by
  have h := behind_any 0 (by omega) sv ls hlen hlen2 w hM
  rw [show ((0 : Nat) : Int) = 0 from rfl] at h
  obtain ⟨A, cap, rfl, _, _⟩ := id hM
  go_enter Try.func11, Try.ntmps11
  go_wp2_with (go_at_call 20; refine h.mono ?_; rintro e w1 ⟨rfl, hB1⟩)
  go_ret
  exact ⟨rfl, hB1⟩

set_option maxHeartbeats 400000 in
theorem more_any (s : Nat) (hs : s < 4294967296) (v : Value) (l : List UInt8) (hlen : l.length ≤ 140737488351232) (w : World) (hb : Bytes w.heap.size w v l) :
    Calls Try.prog 12 #[.int .u32 (s : Int), v] w fun e w' => e = .returned (.int .u32 ((more s l : Nat) : Int)) ∧ Below w.heap.size w w' := by
  have h := behind_any s hs (.slice (some ⟨w.heap.size, 0, none⟩) 1 1) [l] (by intro j; cases j <;> simp [hlen]) (by simp) _ (Many.one (t := 24) hb)
  obtain ⟨A, cap, rfl, _, _⟩ := id hb
  have H := Lib.hid h
  clear h
  go_enter Try.func12, Try.ntmps12
  go_wp2_with (go_at_call 20; refine H.out.mono ?_; rintro e w1 ⟨rfl, hB1⟩)
  go_ret
  exact ⟨by simp, ((Below.refl _ w).alloc (Nat.le_refl _) _).trans (hB1.mono (by simp))⟩

set_option maxHeartbeats 1000000 in
theorem through_any (x : Nat) (hx : x < 4294967296) (v : Value) (l : List UInt8) (hlen : l.length ≤ 140737488351232) (w : World) (hb : Bytes w.heap.size w v l) :
    Calls Try.prog 21 #[.int .u32 (x : Int), v] w fun e w' => e = .returned (.int .u32 ((st x l : Nat) : Int)) ∧ w = w' := by
  obtain ⟨A, cap, rfl, _, hA⟩ := hb
  go_enter Try.func21, Try.ntmps21
  go_wp2
  go_loop [0, 5] (fun u i => ∃ k : Nat, k ≤ l.length ∧ i = .int .i64 k ∧ u = .int .u32 ((st x (l.take k) : Nat) : Int)) (fun _ i => l.length - (intOf i).toNat)
  case atStart => exact ⟨0, Nat.zero_le _, rfl, rfl⟩
  case round =>
    obtain ⟨k, hk, rfl, rfl⟩ := hrel
    have hst := st_lt hx (l.take k)
    by_cases hlt : k < l.length
    · have hdec : decide ((k : Int) < (l.length : Int)) = true := by simp; omega
      obtain ⟨b, off, rfl, hb, hcell⟩ := hA (by omega)
      have hc1 : w.cell? ⟨b, off + k, none⟩ = some (.int .u8 ((l[k]?.getD 0).toNat : Int)) := hcell k hlt
      have HN : Hid (st x (l.take (k + 1)) = bitsOf 8 (st x (l.take k)) (l[k]?.getD 0).toNat) := by
        rw [List.take_succ_eq_append_getElem hlt, st_snoc, stepB_bits, List.getElem?_eq_getElem hlt]; rfl
      clear hcell hA
      generalize l[k]?.getD 0 = c at hc1 HN
      have hc8 := byte_lt c
      generalize st x (l.take k) = y at hst HN
      go_wp2
      go_loop [0, 6, 7] (fun u z j => ∃ i : Nat, i ≤ 8 ∧ j = .int .i64 i ∧ u = .int .u32 ((bitsOf i y c.toNat : Nat) : Int) ∧ z = .int .u32 ((c.toNat / 2 ^ i : Nat) : Int)) (fun _ _ j => 8 - (intOf j).toNat)
      case atStart => exact ⟨0, Nat.zero_le _, rfl, rfl, by simp⟩
      case round =>
        obtain ⟨i, hi, rfl, rfl, rfl⟩ := hrel
        by_cases hl8 : i < 8
        · have hbl := bitsOf_lt i hst c.toNat
          have HS : Hid (bitsOf (i + 1) y c.toNat = step1 (bitsOf i y c.toNat) (c.toNat / 2 ^ i % 2)) := bitsOf_succ _ _ _
          have HD : Hid (c.toNat / 2 ^ (i + 1) = c.toNat / 2 ^ i / 2) := by unfold Hid; rw [Nat.div_div_eq_div_mul, Nat.pow_succ]
          have hz : c.toNat / 2 ^ i < 256 := Nat.lt_of_le_of_lt (Nat.div_le_self _ _) hc8
          generalize c.toNat / 2 ^ i = z at hz HS HD
          generalize bitsOf i y c.toNat = q at hbl HS
          have hcall := step_any q (z % 2) w hbl (by omega)
          rw [show ((z % 2 : Nat) : Int) = (z : Int) % 2 by omega] at hcall
          have HC := Lib.hid hcall
          clear hcall
          go_wp2_with (go_at_call 29; refine HC.out.mono ?_; rintro e w' ⟨rfl, rfl⟩)
          go_round
          case rel => exact ⟨i + 1, by omega, by go_num, by rw [HS.out], by rw [HD.out]; go_num⟩
          case measure => simp [intOf]; omega
        · obtain rfl : i = 8 := by omega
          go_wp2
          go_round
          case rel => exact ⟨k + 1, by omega, by go_num, by rw [HN.out]⟩
          case measure => simp [intOf]; omega
    · obtain rfl : k = l.length := by omega
      go_wp2
      go_ret
      exact ⟨rfl, rfl⟩

set_option maxHeartbeats 400000 in
theorem rsum_any (v : Value) (l : List UInt8) (hlen : l.length ≤ 140737488351232) (w : World) (hb : Bytes w.heap.size w v l) :
    Calls Try.prog 13 #[v] w fun e w' => e = .returned (.int .u32 ((sum l : Nat) : Int)) ∧ w = w' := by
  have h := through_any 4294967295 (by omega) v l hlen w hb
  rw [show ((4294967295 : Nat) : Int) = 4294967295 from rfl] at h
  obtain ⟨A, cap, rfl, _, _⟩ := id hb
  have hst := st_lt (show 4294967295 < 4294967296 by omega) l
  have HE : Hid (4294967295 - st 4294967295 l = sum l) := by unfold Hid; rw [compl_xor hst]; rfl
  generalize st 4294967295 l = y at h hst HE
  have H := Lib.hid h
  clear h
  go_enter Try.func13, Try.ntmps13
  go_wp2_with (go_at_call 21; refine H.out.mono ?_; rintro e w1 ⟨rfl, rfl⟩)
  go_ret
  exact ⟨ret_u32 (by rw [← HE.out]; omega), rfl⟩

set_option maxHeartbeats 400000 in
theorem rmore_any (s : Nat) (hs : s < 4294967296) (v : Value) (l : List UInt8) (hlen : l.length ≤ 140737488351232) (w : World) (hb : Bytes w.heap.size w v l) :
    Calls Try.prog 14 #[.int .u32 (s : Int), v] w fun e w' => e = .returned (.int .u32 ((more s l : Nat) : Int)) ∧ w = w' := by
  have h := through_any (4294967295 - s) (by omega) v l hlen w hb
  rw [show ((4294967295 - s : Nat) : Int) = 4294967295 - (s : Int) by omega] at h
  obtain ⟨A, cap, rfl, _, _⟩ := id hb
  have hst := st_lt (show 4294967295 - s < 4294967296 by omega) l
  have HE : Hid (4294967295 - st (4294967295 - s) l = more s l) := by unfold Hid; rw [compl_xor hst, compl_xor hs]; rfl
  generalize st (4294967295 - s) l = y at h hst HE
  have H := Lib.hid h
  clear h
  go_enter Try.func14, Try.ntmps14
  go_wp2_with (go_at_call 21; refine H.out.mono ?_; rintro e w1 ⟨rfl, rfl⟩)
  go_ret
  exact ⟨ret_u32 (by rw [← HE.out]; omega), rfl⟩
end Go.Proofs.Ytkgfahmajhfgbaa
