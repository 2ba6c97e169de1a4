/- Places put in order: what the sort makes of a row of the call's own. -/
import Derived.Test.YteglikljmkielaaGreatDoorZwS
import Derived.Test.YteglikljmkielaaGreatDoorSwG
namespace Go.Proofs.YteglikljmkielaaGreatDoor
open Go.RowKit Go.Shelf
set_option linter.unusedSimpArgs false
set_option linter.unusedVariables false

/-- What the program's comparison tells. -/
def cmpF (x y : Int × Int) : Int := if aheadB x y then -1 else if aheadB y x then 1 else 0
theorem ltOf_cmpF (x y : Int × Int) : ltOf cmpF x y = aheadB x y := by
  unfold ltOf cmpF
  cases h : aheadB x y <;> simp
  cases h2 : aheadB y x <;> simp
theorem swo_cmpF : Go.Sort.SWO (ltOf cmpF) where
  irrefl x := by rw [ltOf_cmpF]; unfold aheadB; simp
  trans x y z h1 h2 := by rw [ltOf_cmpF] at *; unfold aheadB at *; simp at *; omega
  ntrans x y z h1 h2 := by rw [ltOf_cmpF] at *; unfold aheadB at *; simp at *; omega
def encP (x : Int × Int) : List Value := [.int .i64 x.1, .int .i64 x.2]
theorem enter_odd1 : ∀ args W, (callFunc 64 args).run Tryz.prog W = .ok (.enter 64 args) W := enters_of Tryz.func64 (by kernel_rfl) rfl
theorem enter_before : ∀ args W, (callFunc 36 args).run Tryz.prog W = .ok (.enter 36 args) W := enters_of Tryz.func36 (by kernel_rfl) rfl

theorem grow_two (W : World) (os : Array Obj) (o o' : Obj) : ((Go.Sort.grow W os).alloc o).alloc o' = Go.Sort.grow W (os ++ #[o] ++ #[o']) := by
  rw [Go.Sort.alloc_eq_grow, Go.Sort.alloc_eq_grow, Go.Sort.grow_grow, Go.Sort.grow_grow, Array.append_assoc]

set_option maxHeartbeats 1000000 in
theorem odd1_any (hb : Nat) (x1 x2 y1 y2 : Int) (w : World) (hf : w.cell? ⟨hb, 0, none⟩ = some (.func (.func 36) #[] #[])) :
    Calls Tryz.prog 64 #[.agg #[.int .i64 x1, .int .i64 x2], .agg #[.int .i64 y1, .int .i64 y2], .pointer (some ⟨hb, 0, none⟩)] w fun e w' => e = .returned (.int .i64 (cmpF (x1, x2) (y1, y2))) ∧ ∃ q os, w' = Go.Sort.grow (w.drewN q) os := by
  obtain ⟨W0, hW0⟩ : ∃ W0, (w.alloc (.cells #[.int .i64 x1, .int .i64 x2] 59)).alloc (.cells #[.int .i64 y1, .int .i64 y2] 59) = W0 := ⟨_, rfl⟩
  have b0 : Blk W0 w.heap.size 59 #[.int .i64 x1, .int .i64 x2] := by rw [← hW0]; exact (Blk.new w _ _).alloc _
  have b1 : Blk W0 (w.heap.size + 1) 59 #[.int .i64 y1, .int .i64 y2] := by rw [← hW0]; exact Blk.second w _ _ _
  have hB : Below w.heap.size w W0 := by rw [← hW0]; exact below_two w _ _
  have HG : Hid (∃ os, W0 = Go.Sort.grow w os) := ⟨_, by rw [← hW0]; exact (by rw [Go.Sort.alloc_eq_grow, Go.Sort.alloc_eq_grow, Go.Sort.grow_grow])⟩
  have c0 := b0.cell 0
  have c1 := b0.cell 1
  have z0 := b1.cell 0
  have z1 := b1.cell 1
  simp only [List.getElem?_toArray, List.getElem?_cons_zero, List.getElem?_cons_succ] at c0 c1 z0 z1
  have hf0 := nextc hf hB
  have hff := nextc hf hB
  have HC := Lib.hid (show cmpF (x1, x2) (y1, y2) = cmpF (x1, x2) (y1, y2) from rfl)
  cases h1 : aheadB (x1, x2) (y1, y2) with
  | true =>
    have HR : Hid (cmpF (x1, x2) (y1, y2) = -1) := by unfold Hid cmpF; rw [h1]; rfl
    have HA := Lib.hid (fun W => before_any x1 x2 y1 y2 W)
    rw [h1] at HA
    go_enter Tryz.func64, Tryz.ntmps64
    go_wp2_with fail
    clear hW0
    go_wp2_with (go_at_call 36; refine (HA.out _).mono ?_; rintro e w1 ⟨rfl, hw1⟩)
    go_ret
    obtain ⟨os, hos⟩ := HG.out
    exact ⟨by rw [HR.out]; rfl, 0, _, by rw [hos]; exact grow_two _ _ _ _⟩
  | false =>
    have HA := Lib.hid (fun W => before_any x1 x2 y1 y2 W)
    rw [h1] at HA
    cases h2 : aheadB (y1, y2) (x1, x2) with
    | true =>
      have HR : Hid (cmpF (x1, x2) (y1, y2) = 1) := by unfold Hid cmpF; rw [h1, h2]; rfl
      have HA2 := Lib.hid (fun W => before_any y1 y2 x1 x2 W)
      rw [h2] at HA2
      go_enter Tryz.func64, Tryz.ntmps64
      go_wp2_with fail
      clear hW0
      refine (HA.out _).mono ?_
      rintro e w1 ⟨rfl, hw1⟩
      have hB1 : Below W0.heap.size W0 w1 := by rw [hw1]; exact below_two _ _ _
      have HW1 := Lib.hid hw1
      clear hw1
      replace c0 := nextc c0 hB1
      replace c1 := nextc c1 hB1
      replace z0 := nextc z0 hB1
      replace z1 := nextc z1 hB1
      replace hf0 := nextc hf0 hB1
      go_wp2_with (go_at_call 36; refine (HA2.out _).mono ?_; rintro e w2 ⟨rfl, hw2⟩)
      go_ret
      obtain ⟨os, hos⟩ := HG.out
      have hw1 := HW1.out
      rw [hos, grow_two] at hw1
      exact ⟨by rw [HR.out]; rfl, 0, _, by rw [hw1]; exact grow_two _ _ _ _⟩
    | false =>
      have HR : Hid (cmpF (x1, x2) (y1, y2) = 0) := by unfold Hid cmpF; rw [h1, h2]; rfl
      have HA2 := Lib.hid (fun W => before_any y1 y2 x1 x2 W)
      rw [h2] at HA2
      go_enter Tryz.func64, Tryz.ntmps64
      go_wp2_with fail
      clear hW0
      refine (HA.out _).mono ?_
      rintro e w1 ⟨rfl, hw1⟩
      have hB1 : Below W0.heap.size W0 w1 := by rw [hw1]; exact below_two _ _ _
      have HW1 := Lib.hid hw1
      clear hw1
      replace c0 := nextc c0 hB1
      replace c1 := nextc c1 hB1
      replace z0 := nextc z0 hB1
      replace z1 := nextc z1 hB1
      replace hf0 := nextc hf0 hB1
      go_wp2_with (go_at_call 36; refine (HA2.out _).mono ?_; rintro e w2 ⟨rfl, hw2⟩)
      go_ret
      obtain ⟨os, hos⟩ := HG.out
      have hw1 := HW1.out
      rw [hos, grow_two] at hw1
      exact ⟨by rw [HR.out]; rfl, 0, _, by rw [hw1]; exact grow_two _ _ _ _⟩

/-- The value v owns a row of its own, of the places l. -/
def OwnP (w : World) (base : Nat) (v : Value) (l : List (Int × Int)) : Prop := w.ownsRow base 59 2 v l.length (codeCells l)
theorem ownP_nil (w : World) (base : Nat) : OwnP w base (.slice none 0 0) [] := World.ownsRow_nil w base _ 2
theorem codeCells_enc (l : List (Int × Int)) : Go.Sort.flatK encP 2 l.toArray = (codeCells l).toArray := by
  apply Array.ext
  · rw [Go.Sort.size_flatK, List.size_toArray, List.size_toArray, codeCells_len]; omega
  · intro t h1 h2
    rw [Go.Sort.size_flatK, List.size_toArray] at h1
    have h3 := Go.Sort.get_flatK encP 2 l.toArray t (by rw [List.size_toArray]; exact h1)
    rw [getElem!_pos _ t (by rw [Go.Sort.size_flatK, List.size_toArray]; exact h1)] at h3
    rw [h3]
    obtain ⟨e1, e2⟩ := codeCells_at l (t / 2) (by omega)
    have hl : t / 2 < l.length := by omega
    rw [show (l.toArray)[t / 2]! = l[t / 2] by rw [getElem!_pos _ _ (by rw [List.size_toArray]; exact hl)]; rfl]
    rw [List.getElem_toArray]
    rcases Nat.mod_two_eq_zero_or_one t with h | h
    · rw [h]
      rw [List.getElem?_eq_getElem (by rw [codeCells_len]; omega)] at e1
      injection e1 with e1
      rw [show (codeCells l)[t] = (codeCells l)[2 * (t / 2)]'(by rw [codeCells_len]; omega) by congr 1; omega, e1]; rfl
    · rw [h]
      rw [List.getElem?_eq_getElem (by rw [codeCells_len]; omega)] at e2
      injection e2 with e2
      rw [show (codeCells l)[t] = (codeCells l)[2 * (t / 2) + 1]'(by rw [codeCells_len]; omega) by congr 1; omega, e2]; rfl

theorem sortWorld_heap (W : World) (g n : Nat) (d : Array (Int × Int)) (os : Array Obj) (b : Nat) (hb : b ≠ g) (hlt : b < W.heap.size) : (Go.Proofs.sortWorldK encP 2 W g 0 n d os).heap[b]? = W.heap[b]? := by
  unfold Go.Proofs.sortWorldK
  rw [Go.Sort.heap_grow_old _ _ (by rw [Go.Sort.size_putRowK]; exact hlt)]
  unfold Go.Sort.putRowK Go.Sort.putRow Go.Sort.mapBlock Go.Sort.ahead
  simp [Array.getElem?_modify, hb.symm]
theorem sortWorld_grown (W : World) (g n : Nat) (d : Array (Int × Int)) (os : Array Obj) : W.grownBy (Go.Proofs.sortWorldK encP 2 W g 0 n d os) (some g) :=
  ⟨rfl, rfl, rfl, by unfold Go.Proofs.sortWorldK; rw [Go.Sort.size_grow, Go.Sort.size_putRowK]; exact Nat.le_add_right _ _, fun k hk hne => sortWorld_heap W g n d os k (fun e => hne (by rw [e])) hk⟩
end Go.Proofs.YteglikljmkielaaGreatDoor
