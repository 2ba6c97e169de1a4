/- Of what length lists are: lengthOf; Zero, Xor. -/
import Derived.Test.YtggdlklkjnbbjaaGreatDoorCwB
namespace Go.Proofs.YtggdlklkjnbbjaaGreatDoor.C
open Go.RowKit Go.Shelf

theorem enter_eqlen (args : Array Value) (w : World) : (callFunc 165 args).run Tryz.prog w = .ok (.enter 165 args) w := (enters_of Tryz.func165 (by kernel_rfl) rfl) args w

set_option maxHeartbeats 400000 in
theorem eqlen_any {B : Nat} (v : Value) (l : List UInt8) (n : Nat) (g : Nat) (w : World) (hb : Bytes B w v l) (hg : w.cell? ⟨g, 0, none⟩ = some (.int .i64 (n : Int))) :
    Calls Tryz.prog 165 #[v, .pointer (some ⟨g, 0, none⟩)] w fun e w' => e = .returned (.bool (decide (l.length = n))) ∧ w = w' := by
  obtain ⟨A, cap, rfl, _, _⟩ := hb
  go_enter Tryz.func165, Tryz.ntmps165
  go_wp2
  go_ret
  exact ⟨ret_bool (by rw [Bool.eq_iff_iff]; simp; omega), rfl⟩

/-- All of the first k lists have the length n. -/
def allTo (n : Nat) (ls : List (List UInt8)) (k : Nat) : Prop := ∀ j, j < k → (ls[j]?.getD []).length = n

set_option maxHeartbeats 400000 in
theorem every_any {B : Nat} (n g : Nat) (ls : List (List UInt8)) (v : Value) (w : World) (hM : Many B w v ls) (hg : w.cell? ⟨g, 0, none⟩ = some (.int .i64 (n : Int))) (hls : ls.length ≤ 140737488351232) (b : Bool) (hbb : b = true ↔ AllLen n ls) :
    Calls Tryz.prog 164 #[.func (.func 165) #[] #[.pointer (some ⟨g, 0, none⟩)], v] w fun e w' => e = .returned (.bool b) ∧ w = w' := by
  obtain ⟨A, cap, rfl, _, _⟩ := id hM
  have hent := enter_eqlen
  go_enter Tryz.func164, Tryz.ntmps164
  go_wp2
  go_loop [9] (fun i => ∃ k : Nat, k ≤ ls.length ∧ i = .int .i64 k ∧ Hid (allTo n ls k)) (fun i => ls.length - (intOf i).toNat)
  case atStart => exact ⟨0, Nat.zero_le _, rfl, Lib.hid fun j hj => absurd hj (by omega)⟩
  case round =>
    obtain ⟨k, hk, rfl, HA⟩ := hrel
    by_cases hlt : k < ls.length
    · have hdec : decide ((k : Int) < (ls.length : Int)) = true := by simp; omega
      obtain ⟨b1, off, rfl, hb, hrow⟩ := many_at hM (by omega)
      obtain ⟨A1, cp, hc, hB1⟩ := hrow k hlt
      have hE := Lib.hid (eqlen_any _ _ n g w hB1 hg)
      clear hrow hB1
      have HL : Hid ((ls[k]?.getD []).length = n → ∀ j, j < k + 1 → (ls[j]?.getD []).length = n) := by
        intro h j hj
        rcases Nat.lt_or_ge j k with h1 | h1
        · exact HA.out j h1
        · obtain rfl : j = k := by omega
          exact h
      have HM : Hid (¬ (ls[k]?.getD []).length = n → ¬ AllLen n ls) := fun h h2 => h (h2 k hlt)
      generalize (ls[k]?.getD []).length = q at hc hE HL HM
      by_cases hln : q = n
      · rw [decide_eq_true hln] at hE
        have HL2 := Lib.hid (HL.out hln)
        subst hln
        go_wp2_with (go_at_call 165; refine hE.out.mono ?_; rintro e w2 ⟨rfl, rfl⟩)
        go_round
        case rel =>
          exact ⟨k + 1, by omega, by go_num, HL2⟩
        case measure => simp [intOf]; omega
      · rw [decide_eq_false hln] at hE
        go_wp2_with (go_at_call 165; refine hE.out.mono ?_; rintro e w2 ⟨rfl, rfl⟩)
        go_ret
        refine ⟨ret_bool ?_, rfl⟩
        rw [eq_comm, Bool.eq_false_iff]
        exact fun h => HM.out hln (hbb.1 h)
    · obtain rfl : k = ls.length := by omega
      have e1 : decide ((ls.length : Int) < (ls.length : Int)) = false := by simp
      go_wp2
      go_ret
      exact ⟨ret_bool (hbb.2 HA.out).symm, rfl⟩

/-- The lists are cells of one length. -/
def Alike (ls : List (List UInt8)) : Prop := ls = [] ∨ (Cell (ls[0]?.getD []) ∧ AllLen (ls[0]?.getD []).length ls)

set_option maxHeartbeats 400000 in
theorem lengthOf_none (v : Value) (w : World) {B : Nat} (hM : Many B w v []) :
    Calls Tryz.prog 149 #[v] w fun e w' => e = .returned (.int .i64 0) ∧ w = w' := by
  obtain ⟨A, cap, rfl, _, _⟩ := id hM
  go_enter Tryz.func149, Tryz.ntmps149
  go_wp2
  go_ret
  exact ⟨rfl, rfl⟩

set_option maxHeartbeats 400000 in
theorem lengthOf_yes (ls : List (List UInt8)) (v : Value) (w : World) {B : Nat} (hB : B ≤ w.heap.size) (hM : Many B w v ls) (hls : ls.length ≤ 140737488351232) (h0 : 0 < ls.length) (hc : Cell (ls[0]?.getD [])) (hal : AllLen (ls[0]?.getD []).length ls) :
    Calls Tryz.prog 149 #[v] w fun e w' => e = .returned (.int .i64 ((ls[0]?.getD []).length : Int)) ∧ Below w.heap.size w w' := by
  obtain ⟨A, cap, rfl, _, _⟩ := id hM
  obtain ⟨b1, off, rfl, hb, hrow⟩ := many_at hM (by omega)
  obtain ⟨A1, cp, hc0, hB1⟩ := hrow 0 h0
  rw [Nat.add_zero] at hc0
  have e0 : ((ls.length : Int) == 0) = false := by rw [beq_eq_false_iff_ne]; omega
  have h1 := fun W : World => isLength_any ((ls[0]?.getD []).length : Int) W
  rw [cell_dec, decide_eq_true hc] at h1
  have H1 := Lib.hid h1
  have HE := Lib.hid (every_any (ls[0]?.getD []).length w.heap.size ls _ _ (hM.below (((Below.refl _ w).alloc (Nat.le_refl _) (.cells #[.int .i64 ((ls[0]?.getD []).length : Int)] 3)).mono hB)) (Blk.one (Blk.new w 3 #[.int .i64 ((ls[0]?.getD []).length : Int)])) hls true ⟨fun _ => hal, fun _ => rfl⟩)
  clear h1 hrow hB1
  generalize (ls[0]?.getD []).length = q at hc0 H1 HE
  have hmf : ∀ (fn : Fn) (first cap : Array Value) (w : World), (Instr.makeFunc fn first cap).run Tryz.prog w = .ok (.func fn first cap) w := fun _ _ _ _ => rfl
  go_enter Tryz.func149, Tryz.ntmps149
  go_wp2_with (first
    | (go_at_call 163; refine (H1.out _).mono ?_; rintro e w' ⟨rfl, rfl⟩)
    | (go_at_call 164; refine HE.out.mono ?_; rintro e w' ⟨rfl, rfl⟩)
    | (go_at_call 162; refine (need_yes _).mono ?_; rintro e w' ⟨rfl, rfl⟩))
  go_ret
  exact ⟨rfl, (Below.refl _ w).alloc (Nat.le_refl _) _⟩

set_option maxHeartbeats 400000 in
theorem lengthOf_no (ls : List (List UInt8)) (v : Value) (w : World) {B : Nat} (hB : B ≤ w.heap.size) (hM : Many B w v ls) (hls : ls.length ≤ 140737488351232) (hno : ¬ Alike ls) :
    Calls Tryz.prog 149 #[v] w fun e w' => e = .panicked gaveUp ∧ Below w.heap.size w w' := by
  have h0 : 0 < ls.length := by
    rcases Nat.eq_zero_or_pos ls.length with h | h
    · exact absurd (.inl (List.eq_nil_of_length_eq_zero h)) hno
    · exact h
  obtain ⟨A, cap, rfl, _, _⟩ := id hM
  obtain ⟨b1, off, rfl, hb, hrow⟩ := many_at hM (by omega)
  obtain ⟨A1, cp, hc0, hB1⟩ := hrow 0 h0
  rw [Nat.add_zero] at hc0
  have e0 : ((ls.length : Int) == 0) = false := by rw [beq_eq_false_iff_ne]; omega
  have h1 := fun W : World => isLength_any ((ls[0]?.getD []).length : Int) W
  rw [cell_dec] at h1
  have hmf : ∀ (fn : Fn) (first cap : Array Value) (w : World), (Instr.makeFunc fn first cap).run Tryz.prog w = .ok (.func fn first cap) w := fun _ _ _ _ => rfl
  by_cases hc : Cell (ls[0]?.getD [])
  · have hal : ¬ AllLen (ls[0]?.getD []).length ls := fun h => hno (.inr ⟨hc, h⟩)
    rw [decide_eq_true hc] at h1
    have H1 := Lib.hid h1
    have HE := Lib.hid (every_any (ls[0]?.getD []).length w.heap.size ls _ _ (hM.below (((Below.refl _ w).alloc (Nat.le_refl _) (.cells #[.int .i64 ((ls[0]?.getD []).length : Int)] 3)).mono hB)) (Blk.one (Blk.new w 3 #[.int .i64 ((ls[0]?.getD []).length : Int)])) hls false ⟨fun h => (by cases h), fun h => absurd h hal⟩)
    clear h1 hrow hB1 hno
    generalize (ls[0]?.getD []).length = q at hc0 H1 HE
    go_enter Tryz.func149, Tryz.ntmps149
    go_wp2_with (first
      | (go_at_call 163; refine (H1.out _).mono ?_; rintro e w' ⟨rfl, rfl⟩)
      | (go_at_call 164; refine HE.out.mono ?_; rintro e w' ⟨rfl, rfl⟩)
      | (go_at_call 162; refine (need_no _).mono ?_; rintro e w' ⟨rfl, rfl⟩))
    exact ⟨rfl, rfl, (Below.refl _ w).alloc (Nat.le_refl _) _⟩
  · rw [decide_eq_false hc] at h1
    have H1 := Lib.hid h1
    clear h1 hrow hB1 hno
    generalize (ls[0]?.getD []).length = q at hc0 H1
    go_enter Tryz.func149, Tryz.ntmps149
    go_wp2_with (first
      | (go_at_call 163; refine (H1.out _).mono ?_; rintro e w' ⟨rfl, rfl⟩)
      | (go_at_call 162; refine (need_no _).mono ?_; rintro e w' ⟨rfl, rfl⟩))
    exact ⟨rfl, rfl, (Below.refl _ w).alloc (Nat.le_refl _) _⟩
end Go.Proofs.YtggdlklkjnbbjaaGreatDoor.C
