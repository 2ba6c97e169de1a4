/- Check, Of, sums, differences, products. -/
import Derived.Test.YtggdlklkjnbbjaaGreatDoorMwE
namespace Go.Proofs.YtggdlklkjnbbjaaGreatDoor
open Go.RowKit Go.Shelf

theorem prm_bounds {p : Int} (h : p ∈ prm) : 3 ≤ p ∧ p ≤ 17 := by
  unfold prm at h
  simp only [List.mem_cons, List.not_mem_nil, or_false] at h
  omega
theorem fine_nil {p : Int} : Fine p [] ↔ p ∈ prm := ⟨fun h => h.1, fun h => ⟨h, fun j hj => absurd hj (by simp)⟩⟩
theorem fine_one {p a : Int} : Fine p [a] ↔ p ∈ prm ∧ 0 ≤ a ∧ a < p := by
  refine ⟨fun h => ⟨h.1, h.2 0 (by simp)⟩, fun h => ⟨h.1, fun j hj => ?_⟩⟩
  obtain rfl : j = 0 := by simpa using hj
  exact h.2
theorem fine_two {p a b : Int} : Fine p [a, b] ↔ p ∈ prm ∧ (0 ≤ a ∧ a < p) ∧ 0 ≤ b ∧ b < p := by
  refine ⟨fun h => ⟨h.1, h.2 0 (by simp), h.2 1 (by simp)⟩, fun h => ⟨h.1, fun j hj => ?_⟩⟩
  match j, hj with
  | 0, _ => exact h.2.1
  | 1, _ => exact h.2.2

/-- Numbers laid for a call of asked. -/
theorem ask_nil (p : Int) (w : World) (hL : Laid w) : Calls Tryz.prog 152 #[.int .i64 p, .slice none 0 0] w (Asked p [] w) :=
  asked_any p _ [] (by simp) w hL (Ints.nil_ _ _ _ _)
theorem ask_one (p a : Int) (w : World) (hL : Laid w) : Calls Tryz.prog 152 #[.int .i64 p, .slice (some ⟨w.heap.size, 0, none⟩) 1 1] (w.alloc (.cells #[.int .i64 a] 3)) (Asked p [a] (w.alloc (.cells #[.int .i64 a] 3))) :=
  asked_any p _ [a] (by simp) _ (hL.next ((Below.refl _ w).alloc (Nat.le_refl _) _)) ((Blk.new w 3 (([a].map (Value.int .i64)).toArray)).ints rfl)
theorem ask_two (p a b : Int) (w : World) (hL : Laid w) : Calls Tryz.prog 152 #[.int .i64 p, .slice (some ⟨w.heap.size, 0, none⟩) 2 2] (w.alloc (.cells #[.int .i64 a, .int .i64 b] 3)) (Asked p [a, b] (w.alloc (.cells #[.int .i64 a, .int .i64 b] 3))) :=
  asked_any p _ [a, b] (by simp) _ (hL.next ((Below.refl _ w).alloc (Nat.le_refl _) _)) ((Blk.new w 3 (([a, b].map (Value.int .i64)).toArray)).ints rfl)

/-- A number and an error, told. -/
def Tells (c : Prop) (n bad : Int) (w : World) (e : Ending) (w' : World) : Prop :=
  (c → e = .returned (.tuple #[.int .i64 n, .int .i64 0])) ∧ (¬ c → e = .returned (.tuple #[.int .i64 0, .int .i64 bad])) ∧ Below w.heap.size w w'

set_option maxHeartbeats 400000 in
theorem check_any (p : Int) (w : World) (hL : Laid w) : Calls Tryz.prog 157 #[.int .i64 p] w fun e w' => e = .returned (.int .i64 (if p ∈ prm then 0 else 2)) ∧ Below w.heap.size w w' := by
  have HA := Lib.hid (ask_nil p w hL)
  by_cases hp : p ∈ prm
  · rw [if_pos hp]
    have hf := fine_nil.2 hp
    go_enter Tryz.func157, Tryz.ntmps157
    go_wp2_with (go_at_call 152; refine HA.out.mono ?_; rintro e w1 ⟨h1, _, hB⟩; obtain rfl := h1 hf)
    go_ret
    exact ⟨rfl, hB⟩
  · rw [if_neg hp]
    have hf := fun h => hp (fine_nil.1 h)
    go_enter Tryz.func157, Tryz.ntmps157
    go_wp2_with (go_at_call 152; refine HA.out.mono ?_; rintro e w1 ⟨_, h1, hB⟩; obtain rfl := h1 hf)
    go_ret
    exact ⟨rfl, hB⟩

set_option maxHeartbeats 400000 in
theorem modOf_any (p n : Int) (w : World) (hL : Laid w) (h1 : -9223372036854775808 ≤ n) (h2 : n ≤ 9223372036854775807) :
    Calls Tryz.prog 234 #[.int .i64 p, .int .i64 n] w (Tells (p ∈ prm) (n % p) 2 w) := by
  have HA := Lib.hid (ask_nil p w hL)
  by_cases hp : p ∈ prm
  · have hf := fine_nil.2 hp
    have hb := prm_bounds hp
    have HO := Lib.hid (fun W => of_any p n W (by omega) (by omega) h1 h2)
    have HP := Lib.hid hp
    clear hp
    go_enter Tryz.func234, Tryz.ntmps234
    go_wp2_with (first
      | (go_at_call 152; refine HA.out.mono ?_; rintro e w1 ⟨h1, _, hB⟩; obtain rfl := h1 hf)
      | (go_at_call 170; refine (HO.out _).mono ?_; rintro e w1 ⟨rfl, rfl⟩))
    go_ret2
    exact ⟨fun _ => rfl, fun h => absurd HP.out h, hB⟩
  · have hf := fun h => hp (fine_nil.1 h)
    have HP := Lib.hid hp
    clear hp
    go_enter Tryz.func234, Tryz.ntmps234
    go_wp2_with (go_at_call 152; refine HA.out.mono ?_; rintro e w1 ⟨_, h1, hB⟩; obtain rfl := h1 hf)
    go_ret2
    exact ⟨fun h => absurd h HP.out, fun _ => rfl, hB⟩

theorem field_at (p x : Int) (W : World) : (Instr.field 159 (.agg #[.int .i64 p, .int .i64 x]) 1).run Tryz.prog W = .ok (.int .i64 x) W := by kernel_rfl
end Go.Proofs.YtggdlklkjnbbjaaGreatDoor
