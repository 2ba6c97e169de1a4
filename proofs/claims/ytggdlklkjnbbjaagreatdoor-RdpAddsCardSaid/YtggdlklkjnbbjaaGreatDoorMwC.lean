/- What is asked of a prime and its places. -/
import Derived.Test.YtggdlklkjnbbjaaGreatDoorMwB
namespace Go.Proofs.YtggdlklkjnbbjaaGreatDoor
open Go.RowKit Go.Shelf

theorem enter_values1 : Enters Tryz.prog 178 := enters_of Tryz.func178 (by kernel_rfl) rfl

set_option maxHeartbeats 400000 in
theorem has_any (p n : Int) (w : World) : Calls Tryz.prog 169 #[.int .i64 p, .int .i64 n] w fun e w' => e = .returned (.bool (decide (0 ≤ n ∧ n < p))) ∧ w = w' := by
  by_cases h1 : 0 ≤ n
  · have d1 : decide (0 ≤ n) = true := by simpa using h1
    go_enter Tryz.func169, Tryz.ntmps169
    go_wp2
    go_ret
    exact ⟨ret_bool (by rw [decide_eq_decide]; omega), rfl⟩
  · have d1 : decide (0 ≤ n) = false := by simpa using h1
    go_enter Tryz.func169, Tryz.ntmps169
    go_wp2
    go_ret
    exact ⟨rfl, rfl⟩

/-- A prime, and places of it. -/
def Fine (p : Int) (ns : List Int) : Prop := p ∈ prm ∧ ∀ j, j < ns.length → 0 ≤ ns[j]?.getD 0 ∧ ns[j]?.getD 0 < p
def Asked (p : Int) (ns : List Int) (w : World) (e : Ending) (w' : World) : Prop :=
  (Fine p ns → e = .returned (.tuple #[.int .i64 p, .int .i64 0])) ∧ (¬ Fine p ns → e = .returned (.tuple #[.int .i64 0, .int .i64 2])) ∧ Below w.heap.size w w'

set_option maxRecDepth 100000 in
set_option maxHeartbeats 1000000 in
theorem asked_any (p : Int) (v : Value) (ns : List Int) (hns : ns.length ≤ 1000) (w : World) (hL : Laid w) (hv : Ints w.heap.size w v ns) :
    Calls Tryz.prog 152 #[.int .i64 p, v] w (Asked p ns w) := by
  obtain ⟨A, cap, rfl, _, hA⟩ := id hv
  have HP := Lib.hid (primes_any w hL)
  go_enter Tryz.func152, Tryz.ntmps152
  go_wp2
  refine wp_scope_jumps 0 (fun a' w' => ¬ Fine p ns ∧ Below w.heap.size w w' ∧ ∃ (u0 u1 u2 u3 u4 u5 u6 u7 u8 u9 u10 u11 u12 u13 u14 u15 u16 u17 u18 u19 u20 u21 u22 u23 u24 u25 u26 u27 u28 u29 u30 : Value), a' = { tmps := #[u0, u1, u2, u3, u4, u5, u6, u7, u8, u9, u10, u11, u12, u13, u14, u15, u16, u17, u18, u19, u20, u21, u22, u23, u24, u25, u26, u27, u28, u29, u30], defers := [] }) (fun _ _ => 0) rfl ?_ ?_
  · go_wp2_with fail
    refine HP.out.mono ?_
    rintro e w1 ⟨g, rfl, hg, hB1⟩
    go_wp2_with fail
    refine (values_any _ _ _ _).mono ?_
    rintro e w2 ⟨rfl, hw2⟩
    have hs1 := hB1.size
    have bv : Blk w2 w1.heap.size 109 #[.slice (some ⟨g, 0, none⟩) 6 6] := by rw [← hw2]; exact Blk.new _ _ _
    have bg : Blk w2 g 182 prmCells := by rw [← hw2]; exact hg.alloc _
    have hB2 : Below w.heap.size w w2 := by rw [← hw2]; exact hB1.alloc hs1 _
    clear hw2
    have hgo : Goes 0 w2.heap.size 178 #[.pointer (some ⟨w1.heap.size, 0, none⟩)] prm w2 :=
      values_goes _ 0 _ g prm (by decide) w2 (Nat.zero_le _) bg.lt (Nat.le_refl _) bv.lt bv.one (fun j hj => by rw [bg.cell j, prm_cells, List.getElem?_toArray, List.getElem?_map, List.getElem?_eq_getElem hj]; rfl)
    go_wp2_with fail
    refine (first_any p _ _ prm (by decide) w2 enter_values1 0 (Nat.zero_le _) hgo).mono ?_
    rintro e w3 ⟨rfl, hB3⟩
    have hB := below_in hB2 hB3
    clear hgo bv bg hB1 hB2 hB3 hs1 HP
    generalize ahead p prm = a0
    by_cases hp : p ∈ prm
    · rw [decide_eq_true hp]
      go_wp2
      go_loop [21] (fun i => ∃ k : Nat, k ≤ ns.length ∧ i = .int .i64 k ∧ Hid (∀ j, j < k → 0 ≤ ns[j]?.getD 0 ∧ ns[j]?.getD 0 < p)) (fun i => ns.length - (intOf i).toNat)
      case atStart => exact ⟨0, Nat.zero_le _, rfl, Lib.hid (fun j hj => absurd hj (by omega))⟩
      case round =>
        obtain ⟨k, hk, rfl, HG⟩ := hrel
        by_cases hlt : k < ns.length
        · have hdec : decide ((k : Int) < (ns.length : Int)) = true := by simp; omega
          obtain ⟨b, off, rfl, hb, hcell⟩ := hA (by omega)
          have hc := (hB.cell (p := ⟨b, off + k, none⟩) hb).trans (hcell k hlt)
          have HS : Hid (0 ≤ ns[k]?.getD 0 ∧ ns[k]?.getD 0 < p → ∀ j, j < k + 1 → 0 ≤ ns[j]?.getD 0 ∧ ns[j]?.getD 0 < p) := by
            intro h j hj
            rcases Nat.lt_or_ge j k with h1 | h1
            · exact HG.out j h1
            · obtain rfl : j = k := by omega
              exact h
          have HN : Hid (¬ (0 ≤ ns[k]?.getD 0 ∧ ns[k]?.getD 0 < p) → ¬ Fine p ns) := fun h hf => h (hf.2 k hlt)
          clear hcell
          generalize ns[k]?.getD 0 = x at hc HS HN
          by_cases hx : 0 ≤ x ∧ x < p
          · have HH := Lib.hid (fun W => has_any p x W)
            rw [decide_eq_true hx] at HH
            have HS2 := Lib.hid (HS.out hx)
            clear HS HN hx
            go_wp2_with (go_at_call 169; refine (HH.out _).mono ?_; rintro e w' ⟨rfl, rfl⟩)
            go_round
            case rel => exact ⟨k + 1, by omega, by go_num, HS2⟩
            case measure => simp [intOf]; omega
          · have HH := Lib.hid (fun W => has_any p x W)
            rw [decide_eq_false hx] at HH
            have HN2 := Lib.hid (HN.out hx)
            clear HS HN hx
            go_wp2_with (go_at_call 169; refine (HH.out _).mono ?_; rintro e w' ⟨rfl, rfl⟩)
            go_step3
            exact ⟨rfl, HN2.out, hB, _, _, _, _, _, _, _, _, _, _, _, _, _, _, _, _, _, _, _, _, _, _, _, _, _, _, _, _, _, _, _, rfl⟩
        · obtain rfl : k = ns.length := by omega
          have hdec : decide ((ns.length : Int) < (ns.length : Int)) = false := by simp
          have HF : Hid (Fine p ns) := ⟨hp, HG.out⟩
          clear hp HG
          go_wp2
          simp only [Exit.jump]
          go_ret2
          exact ⟨fun _ => rfl, fun h => absurd HF.out h, hB⟩
    · rw [decide_eq_false hp]
      have HN2 : Hid (¬ Fine p ns) := fun h => hp h.1
      clear hp
      go_wp2
      go_step3
      exact ⟨rfl, HN2.out, hB, _, _, _, _, _, _, _, _, _, _, _, _, _, _, _, _, _, _, _, _, _, _, _, _, _, _, _, _, _, _, _, rfl⟩
  · rintro a' w' ⟨hno, hB, u0, u1, u2, u3, u4, u5, u6, u7, u8, u9, u10, u11, u12, u13, u14, u15, u16, u17, u18, u19, u20, u21, u22, u23, u24, u25, u26, u27, u28, u29, u30, rfl⟩
    have HN2 := Lib.hid hno
    clear hno
    go_wp2
    simp only [Exit.jump]
    go_ret2
    exact ⟨fun h => absurd h HN2.out, fun _ => rfl, hB⟩
end Go.Proofs.YtggdlklkjnbbjaaGreatDoor
