/- All codes, as the program and as the document tell them; the law's num and told. -/
import Derived.Test.YthhgalhabdkikaaDoorSwG
namespace Go.Proofs.YthhgalhabdkikaaDoor
open Go.RowKit Go.Shelf
set_option linter.unusedSimpArgs false
set_option linter.unusedVariables false

set_option maxHeartbeats 1000000 in
theorem shapeAll_any (w : World) (hL : Laid w) : Calls Tryd.prog 17 #[] w fun e w' => ∃ v, e = .returned v ∧ OwnC w' w.heap.size v allC ∧ Below w.heap.size w w' := by
  have hB := below_one w (.cells #[.int .i64 1, .int .i64 2, .int .i64 3] 22)
  have HG := Lib.hid (gathered_any w.heap.size _ (hL.next hB) (Blk.new w _ _))
  go_enter Tryd.func17, Tryd.ntmps17
  go_wp2_with (go_at_call 40; refine HG.out.mono ?_; rintro e w1 ⟨v, rfl, ho, hB1⟩)
  go_ret
  exact ⟨_, rfl, ⟨ho.1, ho.2.imp id fun ⟨g, cap, cur, h1, h2, h3⟩ => ⟨g, cap, cur, h1, by simp at h2; omega, h3⟩⟩, below_in hB hB1⟩

set_option maxRecDepth 100000 in
set_option maxHeartbeats 1000000 in
theorem refAll_any (w : World) :
    Calls Tryd.prog 18 #[] w fun e w' => ∃ v, e = .returned v ∧ OwnC w' w.heap.size v allC ∧ Below w.heap.size w w' := by
  go_enter Tryd.func18, Tryd.ntmps18
  go_wp2
  go_loopw [1, 2] (fun v i wr => ∃ j : Nat, j ≤ 3 ∧ i = .int .i64 ((j : Int) + 1) ∧ OwnC wr w.heap.size v (allC.take (6 * j)) ∧ Below w.heap.size w wr) (fun _ i _ => 4 - (intOf i).toNat)
  case atStart => exact ⟨0, by omega, rfl, ownC_nil _ _, Below.refl _ _⟩
  case round =>
    obtain ⟨j, hj, rfl, hown, hB⟩ := hrel
    by_cases hlt : j < 3
    · obtain ⟨kk, hkk⟩ : ∃ kk : Int, (j : Int) + 1 = kk := ⟨_, rfl⟩
      have HK := Lib.hid (show ((j + 1 : Nat) : Int) = kk by omega)
      have hk1 : 1 ≤ kk := by omega
      have hk2 : kk ≤ 3 := by omega
      rw [hkk]
      have hdec : decide (kk ≤ 3) = true := by simpa using hk2
      clear hkk
      have hgp := Blk.new wr 3 prmCells
      have hown1 := hown.below (below_one wr (.cells prmCells 3))
      have hBw := below_in hB (below_one wr (.cells prmCells 3))
      obtain ⟨wo, hwo⟩ : ∃ x, x = wr := ⟨_, rfl⟩
      subst hwo
      go_wp2_with (go_at_call 41; refine (rprimes_any _).mono ?_; rintro e w1 ⟨rfl, hw1⟩; rw [hw1] at hgp hown1 hBw; clear hw1)
      obtain ⟨gp, hgpe⟩ : ∃ gp, wo.heap.size = gp := ⟨_, rfl⟩
      rw [hgpe] at hgp ⊢
      clear hgpe hown hB
      go_loopw [1, 4] (fun v i wz => ∃ n : Nat, n ≤ 6 ∧ i = .int .i64 n ∧ OwnC wz w.heap.size v (allC.take (6 * j + n)) ∧ Blk wz gp 3 prmCells ∧ Below w.heap.size w wz) (fun _ i _ => 6 - (intOf i).toNat)
      case atStart => exact ⟨0, by omega, rfl, hown1, hgp, hBw⟩
      case round =>
        obtain ⟨n, hn, rfl, hown, hgp, hB⟩ := hrel
        by_cases hlt2 : n < 6
        · have hdec2 : decide ((n : Int) < 6) = true := by simp; omega
          have cp := prm_at gp _ _ hgp n hlt2
          have hne := hown.ne hgp (by decide)
          have hol := hown.own_le
          have HN := Lib.hid (fun W v2 h => OwnC.next (w := W) (base := w.heap.size) (v := v2) HK hlt hlt2 h)
          have hlen : (allC.take (6 * j + n)).length ≤ 18 := by rw [List.length_take]; have := allC_len; omega
          generalize prm[n]?.getD 0 = p at *
          have HO := Lib.hid (hown.grown_ (World.grownBy_alloc wr (.cells #[.int .i64 kk, .int .i64 p] 24) none))
          have HU := Lib.hid (Blk.new wr 24 #[.int .i64 kk, .int .i64 p])
          have hgp2 := hgp.alloc (.cells #[.int .i64 kk, .int .i64 p] 24)
          go_wp2_with (first | (go_at_call 41; refine (rprimes_any _).mono ?_; rintro e w1 ⟨rfl, hw1⟩) | (at_builtin; refine wpList_code _ rfl _ _ 30 24 (.agg #[.int .i64 0, .int .i64 0]) 16 rfl Tryd.underlying30 Tryd.infoCode rfl w.heap.size _ _ rfl _ HO.out _ 1 _ _ rfl HU.out (by rw [List.length_take]; omega) (by omega) (by have := hB.size; simp; omega) ?_; intro v2 w2 hown2 hgrow2))
          go_roundw
          case rel => exact ⟨n + 1, by omega, by go_num, HN.out _ _ hown2, hgp2.grown hgrow2 hne, below_grown (hB.alloc hB.size _) hgrow2 (by have := hB.size; simp; omega) hol⟩
          case measure => simp [intOf]; omega
        · obtain rfl : n = 6 := by omega
          have hdec2 : decide (((6 : Nat) : Int) < 6) = false := by simp
          go_wp2
          go_roundw
          case rel => exact ⟨j + 1, by omega, by have := HK.out; simp; omega, by rw [show 6 * (j + 1) = 6 * j + 6 by omega]; exact hown, hB⟩
          case measure => simp [intOf]; omega
    · obtain rfl : j = 3 := by omega
      have hdec : decide (((3 : Nat) : Int) + 1 ≤ 3) = false := by simp
      rw [List.take_of_length_le (by rw [allC_len]; omega)] at hown
      go_wp2
      go_ret
      exact ⟨_, rfl, hown, hB⟩

set_option maxHeartbeats 400000 in
theorem num_any (x : Int) (w : World) : Calls Tryd.prog 19 #[.int .i64 x] w fun e w' => e = .returned (.int .i64 x) ∧ w = w' := by
  go_enter Tryd.func19, Tryd.ntmps19
  go_wp2
  go_ret
  exact ⟨rfl, rfl⟩
/-- What told tells. -/
def toldB (n e no want : Int) : Bool := n == (if no = 0 then want else 0) && e == no
set_option maxHeartbeats 400000 in
theorem told_any (n e no want : Int) (w : World) : Calls Tryd.prog 21 #[.int .i64 n, .int .i64 e, .int .i64 no, .int .i64 want] w fun e' w' => e' = .returned (.bool (toldB n e no want)) ∧ w = w' := by
  by_cases hno : no = 0
  · subst hno
    cases h : (n == want) with
    | true =>
      have HE : Hid (toldB n e 0 want = (e == 0)) := by unfold toldB Hid; rw [if_pos rfl, h, Bool.true_and]
      go_enter Tryd.func21, Tryd.ntmps21
      go_wp2_with (go_at_call 19; refine (num_any _ _).mono ?_; rintro e w' ⟨rfl, rfl⟩)
      go_ret
      exact ⟨ret_bool HE.out.symm, rfl⟩
    | false =>
      have HE : Hid (toldB n e 0 want = false) := by unfold toldB Hid; rw [if_pos rfl, h, Bool.false_and]
      go_enter Tryd.func21, Tryd.ntmps21
      go_wp2
      go_ret
      exact ⟨ret_bool HE.out.symm, rfl⟩
  · have hn : ((no : Int) == 0) = false := by simpa using hno
    cases h : (n == 0) with
    | true =>
      have HE : Hid (toldB n e no want = (e == no)) := by unfold toldB Hid; rw [if_neg hno, h, Bool.true_and]
      go_enter Tryd.func21, Tryd.ntmps21
      go_wp2_with (go_at_call 19; refine (num_any _ _).mono ?_; rintro e w' ⟨rfl, rfl⟩)
      go_ret
      exact ⟨ret_bool HE.out.symm, rfl⟩
    | false =>
      have HE : Hid (toldB n e no want = false) := by unfold toldB Hid; rw [if_neg hno, h, Bool.false_and]
      go_enter Tryd.func21, Tryd.ntmps21
      go_wp2
      go_ret
      exact ⟨ret_bool HE.out.symm, rfl⟩

end Go.Proofs.YthhgalhabdkikaaDoor
