/- The shares of the half bytes: what halfByteShares hands back. -/
import Derived.Test.YtkgfahmajhfgbaaMem
namespace Go.Proofs.Ytkgfahmajhfgbaa
open Go.RowKit

def shAt (i : Nat) : Value := .int .u32 ((halvedN 4 i : Nat) : Int)
def shTab (k : Nat) : Array Value := ((List.range 16).map fun i => if i < k then shAt i else Value.int .u32 0).toArray
theorem shTab_size (k : Nat) : (shTab k).size = 16 := by simp [shTab]
theorem shTab_get (k i : Nat) (hi : i < 16) : (shTab k)[i]? = some (if i < k then shAt i else Value.int .u32 0) := by
  simp [shTab, hi]
theorem shTab_set (k : Nat) (hk : k < 16) : (shTab k).setIfInBounds k (shAt k) = shTab (k + 1) := by
  apply Array.ext_getElem?
  intro i
  rw [Array.getElem?_setIfInBounds, shTab_size]
  by_cases hi : i < 16
  · rw [shTab_get _ _ hi, shTab_get _ _ hi]
    by_cases h : k = i
    · subst h; simp [hk]
    · rw [if_neg h]
      by_cases h2 : i < k
      · simp [h2, show i < k + 1 by omega]
      · simp [h2, show ¬ i < k + 1 by omega]
  · have h1 : (shTab k)[i]? = none := Array.getElem?_eq_none (by rw [shTab_size]; omega)
    have h2 : (shTab (k + 1))[i]? = none := Array.getElem?_eq_none (by rw [shTab_size]; omega)
    rw [h1, h2]
    split
    · simp_all
    · rfl
def zeros16 : Array Value := shTab 0
theorem halvedN_next (j x : Nat) : halvedN (j + 1) x = halved (halvedN j x) := by rw [halvedN_add]; rfl

set_option maxHeartbeats 1000000 in
theorem shares_any (w : World) :
    Calls Try.prog 31 #[] w fun e w' => e = .returned (.agg (shTab 16)) ∧ Below w.heap.size w w' := by
  go_enter Try.func31, Try.ntmps31
  go_wp2
  go_loopw [4] (fun i wr => ∃ k : Nat, k ≤ 16 ∧ i = .int .i64 k ∧ Hid (Blk wr (w.heap.size + 1) 60 (shTab k)) ∧ Hid (Blk wr w.heap.size 60 (shTab 0)) ∧ Below w.heap.size w wr)
    (fun i _ => 16 - (intOf i).toNat)
  case atStart =>
    refine ⟨0, by omega, rfl, Lib.hid (heap_alloc2_new w _ _), Lib.hid (heap_alloc2_old w _ _), ((Below.refl _ _).alloc (Nat.le_refl _) _).alloc (by simp) _⟩
  case round =>
    obtain ⟨k, hk, rfl, B1, B0, hB⟩ := hrel
    obtain ⟨wo, hwo⟩ : ∃ wo : World, wo = wr := ⟨_, rfl⟩
    by_cases hlt : k < 16
    · have hdec : decide ((k : Int) < 16) = true := by simp; omega
      have hcell : wr.cell? ⟨w.heap.size + 1, k, none⟩ = some (.int .u32 0) := by rw [B1.out.cell, shTab_get _ _ hlt]; simp
      have hfr : wr.frozen? ⟨w.heap.size + 1, k, none⟩ = false := B1.out.frozen k
      go_wp2
      go_loop [3, 9] (fun x j => ∃ i : Nat, i ≤ 4 ∧ j = .int .i64 i ∧ x = .int .u32 ((halvedN i k : Nat) : Int)) (fun _ j => 4 - (intOf j).toNat)
      case atStart => exact ⟨0, by omega, rfl, rfl⟩
      case round =>
        obtain ⟨i, hi, rfl, rfl⟩ := hrel
        have hb := halvedN_lt i (w := k) (by omega)
        by_cases hl4 : i < 4
        · go_wp2_with (go_at_call 34; refine (halved_any _ _ hb).mono ?_; rintro e w' ⟨rfl, rfl⟩)
          go_round
          case rel => exact ⟨i + 1, by omega, by go_num, by rw [halvedN_next]⟩
          case measure => simp [intOf]; omega
        · obtain rfl : i = 4 := by omega
          go_wp2
          go_roundw
          case rel =>
            refine ⟨k + 1, by omega, by go_num, Lib.hid ?_, Lib.hid (B0.out.far (by simp) _), hB.setCell (by simp) _⟩
            have := B1.out.set_ k (shAt k)
            rwa [shTab_set k hlt] at this
          case measure => simp [intOf]; omega
    · obtain rfl : k = 16 := by omega
      go_wp2_with (first | (refine wpList_load_row rfl 60 _ rfl (w.heap.size + 1) rfl _ _ (0, 0) _ B1.out Try.underlying60 rfl (by kernel_rfl) ?_) | (refine wpList_store_row rfl 60 _ _ rfl w.heap.size (shTab 16) rfl rfl _ _ B0.out (by kernel_rfl) (by kernel_rfl) (by kernel_rfl) ?_))
      refine bodyPost_ret (results_cell_row rfl _ _ w.heap.size _ (shTab 16) _ _ rfl (B0.out.setRow (shTab 16)) Try.underlying60 rfl (by kernel_rfl)) rfl ?_
      exact ⟨rfl, below_setRow hB (Nat.le_refl _) _⟩
end Go.Proofs.Ytkgfahmajhfgbaa
