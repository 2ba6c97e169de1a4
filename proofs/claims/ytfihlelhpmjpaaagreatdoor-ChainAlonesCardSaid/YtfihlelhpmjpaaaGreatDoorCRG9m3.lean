/- chain: primes, and columns of data that are lost. -/
import Derived.Test.YtfihlelhpmjpaaaGreatDoorCRG2m3
import Derived.Test.YtfihlelhpmjpaaaGreatDoorCRG9
namespace Go.Proofs.YtfihlelhpmjpaaaGreatDoor.Ch
open Go.RowKit Go.Shelf Go.Proofs.YtfihlelhpmjpaaaGreatDoor.C Go.Proofs.YtfihlelhpmjpaaaGreatDoor.E
set_option linter.unusedSimpArgs false
set_option linter.unusedVariables false
attribute [local go_sem] Oper.semAt_some

set_option maxHeartbeats 1000000 in
theorem primeOf_no (p : Int) (hp : p ∉ prm) (w : World) (hL : Laid w) : Calls Tryz.prog 67 #[.int .i64 p] w fun e w' => e = .panicked (gave 2) ∧ Below w.heap.size w w' := by
  have HC := Lib.hid (fun W hL => (shapeCheck_any 1 p W hL).mono fun e w' h => And.intro (h.2.1 (fun h => hp h.2)) h.2.2)
  clear hp
  go_enter Tryz.func67, Tryz.ntmps67
  go_wp2_with (first
    | (go_at_call 116; refine (code_any p _).mono ?_; rintro e w1 ⟨rfl, hB1⟩; replace hL := hL.next hB1)
    | (go_at_call 115; refine (HC.out _ hL).mono ?_; rintro e w2 ⟨rfl, hB2⟩)
    | (go_at_call 92; refine (need_no _ _).mono ?_; rintro e w3 ⟨rfl, rfl⟩))
  exact ⟨rfl, rfl, below_in hB1 hB2⟩
set_option maxRecDepth 100000 in
set_option maxHeartbeats 4000000 in
theorem asked_no4 (p : Int) (hp : p ∈ prm) (A : Option Addr) (N cap : Nat) (hN : (N : Int) = p + 2) (g : Nat) (ls : List Int) (hls : ls.length ≤ 1000) (z : Nat) (hz : z < ls.length) (hgood : ∀ i, i < z → GoodL p ls i) (hbad : ¬ GoodL p ls z) (w : World) (hL : Laid w) (hg : g < w.heap.size) (hcell : ∀ j, j < ls.length → w.cell? ⟨g, j, none⟩ = some (.int .i64 (ls[j]?.getD 0))) :
    Calls Tryz.prog 45 #[.int .i64 p, .slice A N cap, .slice (some ⟨g, 0, none⟩) ls.length ls.length] w fun e w' => e = .panicked (gave 4) ∧ Below w.heap.size w w' := by
  have HP := Lib.hid (fun W hL => primeOf_yes p hp W hL)
  have HC := Lib.hid (fun W hL => cols_any p hp W hL)
  have hBz := below_one w (.cells #[.int .i64 0, .slice none 0 0] 70)
  have HLO := Lib.hid (fun (W : World) (hB : Below w.heap.size w W) => losing_no p hp g ls hls z hz hgood hbad W (hL.next hB) (Nat.lt_of_lt_of_le hg hB.size) (fun j hj => (hB.cell (p := ⟨g, j, none⟩) hg).trans (hcell j hj)))
  have he : ((N : Int) == p + 2) = true := by simp; omega
  obtain ⟨w0, hw0⟩ : ∃ x, w.alloc (.cells #[.int .i64 0, .slice none 0 0] 70) = x := ⟨_, rfl⟩
  rw [hw0] at hBz
  clear hcell hgood hp hN hbad hz
  generalize p + 2 = q at *
  generalize ls.length = n at *
  go_enter Tryz.func45, Tryz.ntmps45
  go_wp2_with (first
    | (go_at_call 67; (try rw [hw0]); refine (HP.out _ (hL.next hBz)).mono ?_; rintro e w1 ⟨rfl, hB1⟩)
    | (go_at_call 93; refine (HC.out _ (hL.next (below_in hBz hB1))).mono ?_; rintro e w2 ⟨rfl, hB2⟩; replace hB2 := below_in hB1 hB2)
    | (go_at_call 92; refine (need_yes _ _).mono ?_; rintro e w3 ⟨rfl, rfl⟩)
    | (go_at_call 68; refine (HLO.out _ (below_in hBz hB2)).mono ?_; rintro e w4 ⟨rfl, hB4⟩))
  exact ⟨rfl, rfl, below_in (below_in hBz hB2) hB4⟩
set_option maxRecDepth 100000 in
set_option maxHeartbeats 4000000 in
theorem asked_no2 (p : Int) (A B : Option Addr) (N cap n m : Nat) (hno : ¬ (p ∈ prm ∧ (N : Int) = p + 2)) (w : World) (hL : Laid w) :
    Calls Tryz.prog 45 #[.int .i64 p, .slice A N cap, .slice B n m] w fun e w' => e = .panicked (gave 2) ∧ Below w.heap.size w w' := by
  have hBz := below_one w (.cells #[.int .i64 0, .slice none 0 0] 70)
  obtain ⟨w0, hw0⟩ : ∃ x, w.alloc (.cells #[.int .i64 0, .slice none 0 0] 70) = x := ⟨_, rfl⟩
  rw [hw0] at hBz
  by_cases hp : p ∈ prm
  · have HP := Lib.hid (fun W hL => primeOf_yes p hp W hL)
    have HC := Lib.hid (fun W hL => cols_any p hp W hL)
    have he : ((N : Int) == p + 2) = false := by
      rw [beq_eq_false_iff_ne]
      exact fun h => hno ⟨hp, h⟩
    clear hno hp
    generalize p + 2 = q at *
    go_enter Tryz.func45, Tryz.ntmps45
    go_wp2_with (first
      | (go_at_call 67; (try rw [hw0]); refine (HP.out _ (hL.next hBz)).mono ?_; rintro e w1 ⟨rfl, hB1⟩)
      | (go_at_call 93; refine (HC.out _ (hL.next (below_in hBz hB1))).mono ?_; rintro e w2 ⟨rfl, hB2⟩; replace hB2 := below_in hB1 hB2)
      | (go_at_call 92; refine (need_no _ _).mono ?_; rintro e w3 ⟨rfl, rfl⟩))
    exact ⟨rfl, rfl, below_in hBz hB2⟩
  · have HP := Lib.hid (fun W hL => primeOf_no p hp W hL)
    clear hno hp
    go_enter Tryz.func45, Tryz.ntmps45
    go_wp2_with (go_at_call 67; (try rw [hw0]); refine (HP.out _ (hL.next hBz)).mono ?_; rintro e w1 ⟨rfl, hB1⟩)
    exact ⟨rfl, rfl, below_in hBz hB1⟩
end Go.Proofs.YtfihlelhpmjpaaaGreatDoor.Ch

