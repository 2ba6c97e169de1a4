/- The columns of EVENODD: giving up, what is answered; a prime of the code. The columns of EVENODD: together. -/
import Derived.OrdersIn
import Derived.OrdersHeld
import Derived.Test.YtfihlelhpmjpaaaGreatDoorCRMAm11
import Derived.Test.YtfihlelhpmjpaaaGreatDoorCRG1
namespace Go.Proofs.YtfihlelhpmjpaaaGreatDoor.E
open Go.RowKit Go.Shelf Go.Proofs.YtfihlelhpmjpaaaGreatDoor.C
set_option linter.unusedSimpArgs false
set_option linter.unusedVariables false

set_option maxHeartbeats 400000 in
theorem primeOf_no (p : Int) (hR : ¬ RightC 1 p) (w : World) (hL : Laid w) : Calls Tryz.prog 154 #[.int .i64 p] w fun e w' => e = .panicked gaveUp ∧ Below w.heap.size w w' := by
  have HC := Lib.hid (fun W hL => (shapeCheck_any 1 p W hL).mono fun e w' h => And.intro (h.2.1 hR) h.2.2)
  clear hR
  go_enter Tryz.func154, Tryz.ntmps154
  go_wp2_with (first
    | (go_at_call 205; refine (code_any p _).mono ?_; rintro e w1 ⟨rfl, hB1⟩; replace hL := hL.next hB1)
    | (go_at_call 115; refine (HC.out _ hL).mono ?_; rintro e w2 ⟨rfl, hB2⟩)
    | (go_at_call 204; refine (need_no _).mono ?_; rintro e w3 ⟨rfl, rfl⟩))
  exact ⟨rfl, rfl, below_in hB1 hB2⟩
end Go.Proofs.YtfihlelhpmjpaaaGreatDoor.E

namespace Go.Proofs.YtfihlelhpmjpaaaGreatDoor.E
open Go.RowKit Go.Shelf Go.Proofs.YtfihlelhpmjpaaaGreatDoor.C
set_option linter.unusedSimpArgs false
set_option linter.unusedVariables false

set_option maxRecDepth 100000 in
set_option maxHeartbeats 1000000 in
theorem together_no {B : Nat} (p : Int) (R : Nat) (hR : RightC 1 p) (hr : p - 1 = (R : Int)) (v : Value) (css : List (List (List UInt8))) (w : World) (hL : Laid w) (hB : B ≤ w.heap.size) (hC : Cols B w v css) (hlen : css.length ≤ 1000) (hcl : ∀ j, j < css.length → (css[j]?.getD []).length ≤ 1000) (hno : ¬ TogOk R css) :
    Calls Tryz.prog 155 #[.int .i64 p, v] w fun e w' => e = .panicked gaveUp ∧ Below w.heap.size w w' := by
  have HRw := Lib.hid (fun W hL => rows_any p hR W hL)
  rw [hr] at HRw
  have hR2 : 2 ≤ R := by have := hR.und.p1; omega
  have hR3 : R ≤ 16 := by have := hR.und.p2; omega
  have HNO := Lib.hid hno
  have HCL := Lib.hid hcl
  clear hno hcl
  have hBz := below_one w (.cells #[.int .i64 0, .slice none 0 0] 166)
  have bz := Blk.new w 166 #[.int .i64 0, .slice none 0 0]
  have hL1 := hL.next hBz
  by_cases hl0 : 0 < css.length
  case neg =>
    have hd0 : decide (0 < (css.length : Int)) = false := decide_eq_false (by omega)
    obtain ⟨A, cap, rfl, _, _⟩ := id hC
    clear hr hR hC HNO
    go_enter Tryz.func155, Tryz.ntmps155
    go_wp2_with (go_at_call 204; refine (need_no _).mono ?_; rintro e w3 ⟨rfl, rfl⟩)
    exact ⟨rfl, rfl, hBz⟩
  obtain ⟨b0, off0, cap, rfl, hcap, hb0, hrow⟩ := hC.at_ hl0
  have HRow := Lib.hid hrow
  clear hr hR hC hrow
  have hd0 : decide (0 < (css.length : Int)) = true := by simp; omega
  go_enter Tryz.func155, Tryz.ntmps155
  go_wp2_with (go_at_call 204; refine (need_yes _).mono ?_; rintro e w3 ⟨rfl, rfl⟩)
  refine (HRw.out _ hL1).mono ?_
  rintro e w1 ⟨rfl, hB1⟩
  have hBw := below_in hBz hB1
  clear hBz hB1 hL1 HRw hL bz
  obtain ⟨u0, hu0, hm0⟩ := HRow.out 0 hl0
  obtain ⟨A0, cap0, rfl, hcap0, _⟩ := id hm0
  rw [Nat.add_zero] at hu0
  have HM0 := Lib.hid hm0
  clear hm0
  go_wp2
  go_loopw [16] (fun i wr => ∃ k : Nat, k ≤ css.length ∧ i = .int .i64 k ∧ Hid (∀ j, j < k → (css[j]?.getD []).length = R ∧ (Cell (firstC css) ∧ AllLen (firstC css).length (css[j]?.getD []))) ∧ Below w.heap.size w wr) (fun i _ => css.length - (intOf i).toNat)
  case atStart => exact ⟨0, Nat.zero_le _, rfl, Lib.hid (fun j hj => absurd hj (by omega)), hBw⟩
  case round =>
    clear hBw
    obtain ⟨k, hk, rfl, HA, hBr⟩ := hrel
    by_cases hlt : k < css.length
    · have hdec : decide ((k : Int) < (css.length : Int)) = true := by simp; omega
      obtain ⟨u, hu, hmu⟩ := HRow.out k hlt
      have hkl := HCL.out k hlt
      obtain ⟨Au, capu, rfl, _, _⟩ := id hmu
      have xk : wr.cell? ⟨b0, off0 + k, none⟩ = some (.slice Au (css[k]?.getD []).length capu) := (hBr.cell (p := ⟨b0, off0 + k, none⟩) (by exact Nat.lt_of_lt_of_le hb0 hB)).trans hu
      by_cases hlk : (css[k]?.getD []).length = R
      · have hlen0 : (css[0]?.getD []).length = R := by
          rcases Nat.eq_zero_or_pos k with h | h
          · subst h; exact hlk
          · exact (HA.out 0 h).1
        obtain ⟨b1, off1, hA0, hb1, hrow1⟩ := many_at HM0.out (by rw [hlen0]; omega)
        subst hA0
        obtain ⟨c0v, hc0, hbc0⟩ := (by
          obtain ⟨A9, cp9, hc9, hB9⟩ := hrow1 0 (by rw [hlen0]; omega)
          exact ⟨_, hc9, hB9⟩ : ∃ c0v, w.cell? ⟨b1, off1 + 0, none⟩ = some c0v ∧ Bytes B w c0v (firstC css))
        rw [Nat.add_zero] at hc0
        clear hrow1
        have x0 : wr.cell? ⟨b0, off0, none⟩ = some (.slice (some ⟨b1, off1, none⟩) (css[0]?.getD []).length cap0) := (hBr.cell (p := ⟨b0, off0, none⟩) (by exact Nat.lt_of_lt_of_le hb0 hB)).trans hu0
        have y0 : wr.cell? ⟨b1, off1, none⟩ = some c0v := (hBr.cell (p := ⟨b1, off1, none⟩) (by exact Nat.lt_of_lt_of_le hb1 hB)).trans hc0
        have HAA := fun b hb => areAlike_any c0v (.slice Au (css[k]?.getD []).length capu) (firstC css) (css[k]?.getD []) wr (hbc0.below (hBr.mono hB)) (hmu.below (hBr.mono hB)) hkl b hb
        rw [hlk] at xk HAA
        rw [hlen0] at x0
        have hRR : ((R : Int) == (R : Int)) = true := by simp
        have i1 : (0 : Int) < (R : Int) := by omega
        have i2 : (0 : Int) < (css.length : Int) := by omega
        by_cases hg : Cell (firstC css) ∧ AllLen (firstC css).length (css[k]?.getD [])
        · have HAA2 := Lib.hid (HAA true (by simp [hg]))
          have HA2 : Hid (∀ j, j < k + 1 → (css[j]?.getD []).length = R ∧ (Cell (firstC css) ∧ AllLen (firstC css).length (css[j]?.getD []))) := fun j hj => by
            rcases Nat.lt_or_ge j k with h1 | h1
            · exact HA.out j h1
            · obtain rfl : j = k := by omega
              exact ⟨hlk, hg⟩
          clear HAA HA hg hlk hlen0
          go_wp2_with (first
            | (go_at_call 207; refine HAA2.out.mono ?_; rintro e w4 ⟨rfl, hB4⟩)
            | (go_at_call 204; refine (need_yes _).mono ?_; rintro e w3 ⟨rfl, rfl⟩))
          go_roundw
          case rel => exact ⟨k + 1, by omega, by go_num, HA2, below_in hBr hB4⟩
          case measure => simp [intOf]; omega
        · have HAA2 := Lib.hid (HAA false (by simp; exact fun h1 h2 => hg ⟨h1, h2⟩))
          clear HAA HA hg hlk hlen0
          go_wp2_with (first
            | (go_at_call 207; refine HAA2.out.mono ?_; rintro e w4 ⟨rfl, hB4⟩)
            | (go_at_call 204; refine (need_no _).mono ?_; rintro e w3 ⟨rfl, rfl⟩))
          exact ⟨rfl, rfl, below_in hBr hB4⟩
      · have hRR : (((css[k]?.getD []).length : Int) == (R : Int)) = false := by simp; omega
        generalize (css[k]?.getD []).length = q at xk hRR
        clear hlk
        go_wp2_with (go_at_call 204; refine (need_no _).mono ?_; rintro e w3 ⟨rfl, rfl⟩)
        exact ⟨rfl, rfl, hBr⟩
    · obtain rfl : k = css.length := by omega
      exact absurd ⟨hl0, HA.out⟩ HNO.out
end Go.Proofs.YtfihlelhpmjpaaaGreatDoor.E

