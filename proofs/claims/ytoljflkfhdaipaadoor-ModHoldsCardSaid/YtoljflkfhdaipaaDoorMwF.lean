/- Check, Of, sums, differences, products. -/
import Derived.Test.YtoljflkfhdaipaaDoorMwE
namespace Go.Proofs.YtoljflkfhdaipaaDoor
open Go.RowKit Go.Shelf

theorem prm_bounds {p : Int} (h : p ∈ prm) : 3 ≤ p ∧ p ≤ 17 := by
  unfold prm at h
  simp only [List.mem_cons, List.not_mem_nil, or_false] at h
  omega
theorem fine_nil {p : Int} : Fine p [] ↔ p ∈ prm := ⟨fun h => h.1, fun h => ⟨h, fun j hj => absurd hj (by simp)⟩⟩
theorem fine_one {p a : Int} : Fine p [a] ↔ p ∈ prm ∧ 0 ≤ a ∧ a < p := by
  refine ⟨fun h => ⟨h.1, h.2 0 (by simp)⟩, fun h => ⟨h.1, fun j hj => ?_⟩⟩
  obtain rfl : j = 0 := by simpa using hj
  exact h.2
theorem fine_two {p a b : Int} : Fine p [a, b] ↔ p ∈ prm ∧ (0 ≤ a ∧ a < p) ∧ 0 ≤ b ∧ b < p := by
  refine ⟨fun h => ⟨h.1, h.2 0 (by simp), h.2 1 (by simp)⟩, fun h => ⟨h.1, fun j hj => ?_⟩⟩
  match j, hj with
  | 0, _ => exact h.2.1
  | 1, _ => exact h.2.2

/-- Numbers laid for a call of asked. -/
theorem ask_nil (p : Int) (w : World) (hL : Laid w) : Calls Tryd.prog 29 #[.int .i64 p, .slice none 0 0] w (Asked p [] w) :=
  asked_any p _ [] (by simp) w hL (Ints.nil_ _ _ _ _)
theorem ask_one (p a : Int) (w : World) (hL : Laid w) : Calls Tryd.prog 29 #[.int .i64 p, .slice (some ⟨w.heap.size, 0, none⟩) 1 1] (w.alloc (.cells #[.int .i64 a] 3)) (Asked p [a] (w.alloc (.cells #[.int .i64 a] 3))) :=
  asked_any p _ [a] (by simp) _ (hL.next ((Below.refl _ w).alloc (Nat.le_refl _) _)) ((Blk.new w 3 (([a].map (Value.int .i64)).toArray)).ints rfl)
theorem ask_two (p a b : Int) (w : World) (hL : Laid w) : Calls Tryd.prog 29 #[.int .i64 p, .slice (some ⟨w.heap.size, 0, none⟩) 2 2] (w.alloc (.cells #[.int .i64 a, .int .i64 b] 3)) (Asked p [a, b] (w.alloc (.cells #[.int .i64 a, .int .i64 b] 3))) :=
  asked_any p _ [a, b] (by simp) _ (hL.next ((Below.refl _ w).alloc (Nat.le_refl _) _)) ((Blk.new w 3 (([a, b].map (Value.int .i64)).toArray)).ints rfl)

/-- A number and an error, told. -/
def Tells (c : Prop) (n bad : Int) (w : World) (e : Ending) (w' : World) : Prop :=
  (c → e = .returned (.tuple #[.int .i64 n, .int .i64 0])) ∧ (¬ c → e = .returned (.tuple #[.int .i64 0, .int .i64 bad])) ∧ Below w.heap.size w w'

set_option maxHeartbeats 400000 in
theorem check_any (p : Int) (w : World) (hL : Laid w) : Calls Tryd.prog 13 #[.int .i64 p] w fun e w' => e = .returned (.int .i64 (if p ∈ prm then 0 else 2)) ∧ Below w.heap.size w w' := by
  have HA := Lib.hid (ask_nil p w hL)
  by_cases hp : p ∈ prm
  · rw [if_pos hp]
    have hf := fine_nil.2 hp
    go_enter Tryd.func13, Tryd.ntmps13
    go_wp2_with (go_at_call 29; refine HA.out.mono ?_; rintro e w1 ⟨h1, _, hB⟩; obtain rfl := h1 hf)
    go_ret
    exact ⟨rfl, hB⟩
  · rw [if_neg hp]
    have hf := fun h => hp (fine_nil.1 h)
    go_enter Tryd.func13, Tryd.ntmps13
    go_wp2_with (go_at_call 29; refine HA.out.mono ?_; rintro e w1 ⟨_, h1, hB⟩; obtain rfl := h1 hf)
    go_ret
    exact ⟨rfl, hB⟩

set_option maxHeartbeats 400000 in
theorem modOf_any (p n : Int) (w : World) (hL : Laid w) (h1 : -9223372036854775808 ≤ n) (h2 : n ≤ 9223372036854775807) :
    Calls Tryd.prog 11 #[.int .i64 p, .int .i64 n] w (Tells (p ∈ prm) (n % p) 2 w) := by
  have HA := Lib.hid (ask_nil p w hL)
  by_cases hp : p ∈ prm
  · have hf := fine_nil.2 hp
    have hb := prm_bounds hp
    have HO := Lib.hid (fun W => of_any p n W (by omega) (by omega) h1 h2)
    have HP := Lib.hid hp
    clear hp
    go_enter Tryd.func11, Tryd.ntmps11
    go_wp2_with (first
      | (go_at_call 29; refine HA.out.mono ?_; rintro e w1 ⟨h1, _, hB⟩; obtain rfl := h1 hf)
      | (go_at_call 30; refine (HO.out _).mono ?_; rintro e w1 ⟨rfl, rfl⟩))
    go_ret2
    exact ⟨fun _ => rfl, fun h => absurd HP.out h, hB⟩
  · have hf := fun h => hp (fine_nil.1 h)
    have HP := Lib.hid hp
    clear hp
    go_enter Tryd.func11, Tryd.ntmps11
    go_wp2_with (go_at_call 29; refine HA.out.mono ?_; rintro e w1 ⟨_, h1, hB⟩; obtain rfl := h1 hf)
    go_ret2
    exact ⟨fun h => absurd h HP.out, fun _ => rfl, hB⟩

theorem field_at (p x : Int) (W : World) : (Instr.field 56 (.agg #[.int .i64 p, .int .i64 x]) 1).run Tryd.prog W = .ok (.int .i64 x) W := by kernel_rfl
set_option maxHeartbeats 1000000 in
theorem reckoned_any (f : Nat) (r : Int → Int → Int) (hr : Reckons f r) (ef : ∀ args W, (callFunc f args).run Tryd.prog W = .ok (.enter f args) W) (p a b : Int) (w : World) (hL : Laid w)
    (hz : 0 ≤ a → a ≤ 17 → 0 ≤ b → b ≤ 17 → -1000 ≤ r a b ∧ r a b ≤ 1000) :
    Calls Tryd.prog 31 #[.func (.func f) #[] #[], .int .i64 p, .int .i64 a, .int .i64 b] w (Tells (Fine p [a, b]) (r a b % p) 2 w) := by
  have HA := Lib.hid (ask_two p a b w hL)
  by_cases hp : Fine p [a, b]
  · obtain ⟨hp1, ⟨ha1, ha2⟩, hb1, hb2⟩ := fine_two.1 hp
    have hb := prm_bounds hp1
    have hz2 := hz ha1 (by omega) hb1 (by omega)
    have HW := Lib.hid (fun V => with_any f r hr ef p a b V (by omega) (by omega) ha1 (by omega) hb1 (by omega) (by omega) (by omega))
    have HP := Lib.hid hp
    clear hp hz hz2 hr
    have hfd := field_at
    generalize r a b = z at *
    go_enter Tryd.func31, Tryd.ntmps31
    go_wp2_with (first
      | (go_at_call 29; refine HA.out.mono ?_; rintro e w1 ⟨h1, _, hB⟩; obtain rfl := h1 HP.out)
      | (go_at_call 41; refine (sum_any _ _ _).mono ?_; rintro e w2 ⟨rfl, hB2⟩)
      | (go_at_call 37; refine (HW.out _).mono ?_; rintro e w3 ⟨rfl, hB3⟩))
    go_ret2
    exact ⟨fun _ => rfl, fun h => absurd HP.out h, below_in (below_in (below_in ((Below.refl _ w).alloc (Nat.le_refl _) _) hB) hB2) hB3⟩
  · have HP := Lib.hid hp
    clear hp
    go_enter Tryd.func31, Tryd.ntmps31
    go_wp2_with (go_at_call 29; refine HA.out.mono ?_; rintro e w1 ⟨_, h1, hB⟩; obtain rfl := h1 HP.out)
    go_ret2
    exact ⟨fun h => absurd h HP.out, fun _ => rfl, below_in ((Below.refl _ w).alloc (Nat.le_refl _) _) hB⟩

theorem reckon_calls (f : Nat) (r : Int → Int → Int) (hr : Reckons f r) (ef : ∀ args W, (callFunc f args).run Tryd.prog W = .ok (.enter f args) W) (p a b : Int) (w : World) (hL : Laid w) (hz : 0 ≤ a → a ≤ 17 → 0 ≤ b → b ≤ 17 → -1000 ≤ r a b ∧ r a b ≤ 1000) :
    Hid (Calls Tryd.prog 31 #[.func (.func f) #[] #[], .int .i64 p, .int .i64 a, .int .i64 b] w (Tells (Fine p [a, b]) (r a b % p) 2 w)) := Lib.hid (reckoned_any f r hr ef p a b w hL hz)

set_option maxHeartbeats 400000 in
theorem add_any (p a b : Int) (w : World) (hL : Laid w) : Calls Tryd.prog 16 #[.int .i64 p, .int .i64 a, .int .i64 b] w (Tells (Fine p [a, b]) ((a + b) % p) 2 w) := by
  have HR := reckon_calls 32 (fun x y => x + y) plus_any enter_plus p a b w hL (fun h1 h2 h3 h4 => ⟨by omega, by omega⟩)
  by_cases hp : Fine p [a, b]
  · have HP := Lib.hid hp
    clear hp
    go_enter Tryd.func16, Tryd.ntmps16
    go_wp2_with (go_at_call 31; refine HR.out.mono ?_; rintro e w1 ⟨h1, _, hB⟩; obtain rfl := h1 HP.out)
    go_ret2
    exact ⟨fun _ => rfl, fun h => absurd HP.out h, hB⟩
  · have HP := Lib.hid hp
    clear hp
    go_enter Tryd.func16, Tryd.ntmps16
    go_wp2_with (go_at_call 31; refine HR.out.mono ?_; rintro e w1 ⟨_, h1, hB⟩; obtain rfl := h1 HP.out)
    go_ret2
    exact ⟨fun h => absurd h HP.out, fun _ => rfl, hB⟩

set_option maxHeartbeats 400000 in
theorem sub_any (p a b : Int) (w : World) (hL : Laid w) : Calls Tryd.prog 17 #[.int .i64 p, .int .i64 a, .int .i64 b] w (Tells (Fine p [a, b]) ((a - b) % p) 2 w) := by
  have HR := reckon_calls 33 (fun x y => x - y) less_any enter_less p a b w hL (fun h1 h2 h3 h4 => ⟨by omega, by omega⟩)
  by_cases hp : Fine p [a, b]
  · have HP := Lib.hid hp
    clear hp
    go_enter Tryd.func17, Tryd.ntmps17
    go_wp2_with (go_at_call 31; refine HR.out.mono ?_; rintro e w1 ⟨h1, _, hB⟩; obtain rfl := h1 HP.out)
    go_ret2
    exact ⟨fun _ => rfl, fun h => absurd HP.out h, hB⟩
  · have HP := Lib.hid hp
    clear hp
    go_enter Tryd.func17, Tryd.ntmps17
    go_wp2_with (go_at_call 31; refine HR.out.mono ?_; rintro e w1 ⟨_, h1, hB⟩; obtain rfl := h1 HP.out)
    go_ret2
    exact ⟨fun h => absurd h HP.out, fun _ => rfl, hB⟩

set_option maxHeartbeats 400000 in
theorem mul_any (p a b : Int) (w : World) (hL : Laid w) : Calls Tryd.prog 18 #[.int .i64 p, .int .i64 a, .int .i64 b] w (Tells (Fine p [a, b]) ((a * b) % p) 2 w) := by
  have HR := reckon_calls 34 (fun x y => x * y) times_any enter_times p a b w hL (fun h1 h2 h3 h4 => ⟨by have := Int.mul_nonneg h1 h3; omega, by have := Int.mul_le_mul h2 h4 h3 (by omega); omega⟩)
  by_cases hp : Fine p [a, b]
  · have HP := Lib.hid hp
    clear hp
    go_enter Tryd.func18, Tryd.ntmps18
    go_wp2_with (go_at_call 31; refine HR.out.mono ?_; rintro e w1 ⟨h1, _, hB⟩; obtain rfl := h1 HP.out)
    go_ret2
    exact ⟨fun _ => rfl, fun h => absurd HP.out h, hB⟩
  · have HP := Lib.hid hp
    clear hp
    go_enter Tryd.func18, Tryd.ntmps18
    go_wp2_with (go_at_call 31; refine HR.out.mono ?_; rintro e w1 ⟨_, h1, hB⟩; obtain rfl := h1 HP.out)
    go_ret2
    exact ⟨fun h => absurd h HP.out, fun _ => rfl, hB⟩
end Go.Proofs.YtoljflkfhdaipaaDoor
