/- Contracts of the functions that only reckon: halved, step, num. -/
import Derived.Test.YtkgfahmajhfgbaaRows
import Derived.Test.YtkgfahmajhfgbaaMath
import Derived.WalkKit
import Derived.WalkSpells
import Derived.WalkLawsBesides
import Derived.Laws.BitsAllLaws
import Derived.Lib.Hide
namespace Go.Proofs.Ytkgfahmajhfgbaa
open Go.RowKit

theorem ret_u32 {a b : Int} (h : a = b) : Ending.returned (.int .u32 a) = .returned (.int .u32 b) := by rw [h]

set_option maxHeartbeats 400000 in
theorem halved_any (x : Nat) (w : World) (hx : x < 4294967296) :
    Calls Try.prog 34 #[.int .u32 (x : Int)] w fun e w' => e = .returned (.int .u32 ((halved x : Nat) : Int)) ∧ w = w' := by
  by_cases h : x % 2 = 0
  · have e0 : bits .and .u32 (x : Int) 1 = 0 := by
      rw [show (1 : Int) = ((1 : Nat) : Int) from rfl, u32_and_nat x 1 (by omega) (by omega), Nat.and_one_is_mod, h]; rfl
    have ef : halved x = x / 2 := by unfold halved; rw [if_pos h]
    go_enter Try.func34, Try.ntmps34
    go_wp2
    go_ret
    exact ⟨ret_u32 (by rw [ef]; omega), rfl⟩
  · have e0 : bits .and .u32 (x : Int) 1 = 1 := by
      rw [show (1 : Int) = ((1 : Nat) : Int) from rfl, u32_and_nat x 1 (by omega) (by omega), Nat.and_one_is_mod, show x % 2 = 1 by omega]
    have ef : ((halved x : Nat) : Int) = bits .xor .u32 ((x / 2 : Nat) : Int) 2197175160 := by
      rw [show (2197175160 : Int) = ((2197175160 : Nat) : Int) from rfl, u32_xor_nat _ _ (by omega) (by omega)]
      unfold halved; rw [if_neg h]
    have EF := Lib.hid ef
    clear ef
    go_enter Try.func34, Try.ntmps34
    go_wp2
    go_ret
    exact ⟨ret_u32 (by rw [EF.out]; rfl), rfl⟩

set_option maxHeartbeats 400000 in
theorem step_any (x b : Nat) (w : World) (hx : x < 4294967296) (hb : b < 2) :
    Calls Try.prog 29 #[.int .u32 (x : Int), .int .u32 (b : Int)] w fun e w' => e = .returned (.int .u32 ((step1 x b : Nat) : Int)) ∧ w = w' := by
  by_cases h : x % 2 ≠ b
  · have ef : ((step1 x b : Nat) : Int) = bits .xor .u32 ((x / 2 : Nat) : Int) 2197175160 := by
      rw [show (2197175160 : Int) = ((2197175160 : Nat) : Int) from rfl, u32_xor_nat _ _ (by omega) (by omega)]
      unfold step1; rw [if_pos h]
    have EF := Lib.hid ef
    have h1 : (((x : Int) % 2) != (b : Int)) = true := by rw [bne_iff_ne]; omega
    clear ef
    go_enter Try.func29, Try.ntmps29
    go_wp2
    go_ret
    exact ⟨ret_u32 (by rw [EF.out]; rfl), rfl⟩
  · have ef : step1 x b = x / 2 := by unfold step1; rw [if_neg h]
    have EF := Lib.hid ef
    have h1 : (((x : Int) % 2) != (b : Int)) = false := by rw [bne_eq_false_iff_eq]; omega
    clear ef
    go_enter Try.func29, Try.ntmps29
    go_wp2
    go_ret
    exact ⟨ret_u32 (by rw [EF.out]; omega), rfl⟩

set_option maxHeartbeats 400000 in
theorem num_any (x : Int) (w : World) :
    Calls Try.prog 18 #[.int .i64 x] w fun e w' => e = .returned (.int .i64 x) ∧ w = w' := by
  go_enter Try.func18, Try.ntmps18
  go_wp2
  go_ret
  exact ⟨rfl, rfl⟩

end Go.Proofs.Ytkgfahmajhfgbaa
