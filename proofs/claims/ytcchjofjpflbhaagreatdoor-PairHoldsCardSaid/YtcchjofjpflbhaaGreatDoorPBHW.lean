/- -/
import Derived.Test.YtcchjofjpflbhaaGreatDoorPBY
import Derived.Test.YtcchjofjpflbhaaGreatDoorCards
import Derived.Test.YtcchjofjpflbhaaGreatDoorTie
import Derived.SevenTiedAt
namespace Go.Proofs.YtcchjofjpflbhaaGreatDoor.pairHolds
open Go.ChangeShapes Go.WideShapes Go.ChangeAt Go.RowKit Go.Shelf
set_option linter.unusedVariables false
set_option linter.unusedSimpArgs false
attribute [local go_sem] Oper.semAt_some

open Go.Proofs.YtcchjofjpflbhaaGreatDoor.E Go.Proofs.YtcchjofjpflbhaaGreatDoor.C Go.Proofs.YtcchjofjpflbhaaGreatDoor.T Go.Proofs.YtcchjofjpflbhaaGreatDoor.Ch in
set_option maxRecDepth 100000 in
set_option maxHeartbeats 4000000 in
theorem nf (p : Int) (v : Value) (css : List (List (List UInt8))) (x0 x1 : Int) (vj : Value) (cj : List (List UInt8)) (w : World) (hL : Laid w) (wp : -9223372036854775808 ≤ p ∧ p ≤ 9223372036854775807) (hC : Cols w.heap.size w v css) (wx : -9223372036854775808 ≤ x0 ∧ x0 ≤ 9223372036854775807) (wy : -9223372036854775808 ≤ x1 ∧ x1 ≤ 9223372036854775807) (hJ : Many w.heap.size w vj cj) (hf : ¬ Few6 css) :
    Calls Tryz.prog 7 #[.int .i64 p, v, .agg #[.int .i64 x0, .int .i64 x1], vj] w fun e w' => e = .returned (.bool true) ∧ Below w.heap.size w w' := by
  obtain ⟨w0, hw0⟩ : ∃ x, w.alloc (.cells #[.int .i64 x0, .int .i64 x1] 22) = x := ⟨_, rfl⟩
  obtain ⟨g0, hg0⟩ : ∃ g, w.heap.size = g := ⟨_, rfl⟩
  have b0 : Blk w0 g0 22 #[.int .i64 x0, .int .i64 x1] := by rw [← hw0, ← hg0]; exact Blk.new w _ _
  have hB0 : Below w.heap.size w w0 := by rw [← hw0]; exact below_one w _
  have HW0 := Lib.hid hw0
  have HG0 := Lib.hid hg0
  have HLW := Lib.hid (fun (U : World) (hU : Below w.heap.size w U) => hL.next hU)
  have hs0 : w.heap.size < w0.heap.size := by rw [hg0]; exact b0.lt
  obtain ⟨A, cap, rfl, _, _⟩ := id hC
  have hBw := hB0
  have hBW0 := Below.refl w0.heap.size w0
  have HF := Lib.hid (fun (U : World) (hU : Below w.heap.size w U) => few6_any _ css U (hC.below hU) false (by simp [hf]))
  clear hL hw0 hg0 hs0 hf hC hJ
  generalize css.length = N at *
  go_enter Tryz.func7, Tryz.ntmps7
  have k0 : w0.cell? ⟨g0, 0, none⟩ = some (.int .i64 x0) := b0.cell 0
  have k1 : w0.cell? ⟨g0, 1, none⟩ = some (.int .i64 x1) := b0.cell 1
  go_wp2_with fail
  (try rw [HW0.out]); (try rw [HG0.out])
  refine (HF.out _ hBw).mono ?_
  rintro e w' ⟨rfl, rfl⟩
  go_wp2_with fail
  refine (works12_any _ (HLW.out _ hBw)).mono ?_
  rintro e wz ⟨rfl, hBz⟩
  go_wp2
  go_ret
  exact ⟨rfl, below_in hBw hBz⟩
open Go.Proofs.YtcchjofjpflbhaaGreatDoor.E Go.Proofs.YtcchjofjpflbhaaGreatDoor.C Go.Proofs.YtcchjofjpflbhaaGreatDoor.T Go.Proofs.YtcchjofjpflbhaaGreatDoor.Ch in
set_option maxRecDepth 100000 in
set_option maxHeartbeats 4000000 in
theorem nr (p : Int) (v : Value) (css : List (List (List UInt8))) (x0 x1 : Int) (vj : Value) (cj : List (List UInt8)) (w : World) (hL : Laid w) (wp : -9223372036854775808 ≤ p ∧ p ≤ 9223372036854775807) (hC : Cols w.heap.size w v css) (wx : -9223372036854775808 ≤ x0 ∧ x0 ≤ 9223372036854775807) (wy : -9223372036854775808 ≤ x1 ∧ x1 ≤ 9223372036854775807) (hJ : Many w.heap.size w vj cj) (hf : Few6 css) (hr : ¬ RightD p css) :
    Calls Tryz.prog 7 #[.int .i64 p, v, .agg #[.int .i64 x0, .int .i64 x1], vj] w fun e w' => e = .returned (.bool true) ∧ Below w.heap.size w w' := by
  obtain ⟨w0, hw0⟩ : ∃ x, w.alloc (.cells #[.int .i64 x0, .int .i64 x1] 22) = x := ⟨_, rfl⟩
  obtain ⟨g0, hg0⟩ : ∃ g, w.heap.size = g := ⟨_, rfl⟩
  have b0 : Blk w0 g0 22 #[.int .i64 x0, .int .i64 x1] := by rw [← hw0, ← hg0]; exact Blk.new w _ _
  have hB0 : Below w.heap.size w w0 := by rw [← hw0]; exact below_one w _
  have HW0 := Lib.hid hw0
  have HG0 := Lib.hid hg0
  have HLW := Lib.hid (fun (U : World) (hU : Below w.heap.size w U) => hL.next hU)
  have hs0 : w.heap.size < w0.heap.size := by rw [hg0]; exact b0.lt
  obtain ⟨A, cap, rfl, _, _⟩ := id hC
  have hBw := hB0
  have hBW0 := Below.refl w0.heap.size w0
  have HF := Lib.hid (fun (U : World) (hU : Below w.heap.size w U) => few6_any _ css U (hC.below hU) true (by simp [hf]))
  have HR := Lib.hid (fun (U : World) (hU : Below w.heap.size w U) => right6_any p _ css U hU.size (hC.below hU) (by have := hf.1; omega) false (by simp [hr]))
  clear hL hw0 hg0 hs0 hf hr hC hJ
  generalize css.length = N at *
  go_enter Tryz.func7, Tryz.ntmps7
  have k0 : w0.cell? ⟨g0, 0, none⟩ = some (.int .i64 x0) := b0.cell 0
  have k1 : w0.cell? ⟨g0, 1, none⟩ = some (.int .i64 x1) := b0.cell 1
  go_wp2_with fail
  (try rw [HW0.out]); (try rw [HG0.out])
  refine (HF.out _ hBw).mono ?_
  rintro e w' ⟨rfl, rfl⟩
  go_wp2_with fail
  refine (HR.out _ hBw).mono ?_
  rintro e w1 ⟨rfl, hB1⟩
  clear k0 k1
  replace b0 := b0.below hB1 b0.lt
  have k0 : w1.cell? ⟨g0, 0, none⟩ = some (.int .i64 x0) := b0.cell 0
  have k1 : w1.cell? ⟨g0, 1, none⟩ = some (.int .i64 x1) := b0.cell 1
  replace hBw := below_in hBw hB1
  go_wp2_with fail
  refine (works12_any _ (HLW.out _ hBw)).mono ?_
  rintro e wz ⟨rfl, hBz⟩
  go_wp2
  go_ret
  exact ⟨rfl, below_in hBw hBz⟩
open Go.Proofs.YtcchjofjpflbhaaGreatDoor.E Go.Proofs.YtcchjofjpflbhaaGreatDoor.C Go.Proofs.YtcchjofjpflbhaaGreatDoor.T Go.Proofs.YtcchjofjpflbhaaGreatDoor.Ch in
set_option maxRecDepth 100000 in
set_option maxHeartbeats 4000000 in
theorem nl (p : Int) (v : Value) (css : List (List (List UInt8))) (x0 x1 : Int) (vj : Value) (cj : List (List UInt8)) (w : World) (hL : Laid w) (wp : -9223372036854775808 ≤ p ∧ p ≤ 9223372036854775807) (hC : Cols w.heap.size w v css) (wx : -9223372036854775808 ≤ x0 ∧ x0 ≤ 9223372036854775807) (wy : -9223372036854775808 ≤ x1 ∧ x1 ≤ 9223372036854775807) (hJ : Many w.heap.size w vj cj) (hf : Few6 css) (hr : RightD p css) (hl : (css.length : Int) ≠ p - 1) :
    Calls Tryz.prog 7 #[.int .i64 p, v, .agg #[.int .i64 x0, .int .i64 x1], vj] w fun e w' => e = .returned (.bool true) ∧ Below w.heap.size w w' := by
  obtain ⟨w0, hw0⟩ : ∃ x, w.alloc (.cells #[.int .i64 x0, .int .i64 x1] 22) = x := ⟨_, rfl⟩
  obtain ⟨g0, hg0⟩ : ∃ g, w.heap.size = g := ⟨_, rfl⟩
  have b0 : Blk w0 g0 22 #[.int .i64 x0, .int .i64 x1] := by rw [← hw0, ← hg0]; exact Blk.new w _ _
  have hB0 : Below w.heap.size w w0 := by rw [← hw0]; exact below_one w _
  have HW0 := Lib.hid hw0
  have HG0 := Lib.hid hg0
  have HLW := Lib.hid (fun (U : World) (hU : Below w.heap.size w U) => hL.next hU)
  have hs0 : w.heap.size < w0.heap.size := by rw [hg0]; exact b0.lt
  obtain ⟨A, cap, rfl, _, _⟩ := id hC
  have hBw := hB0
  have hBW0 := Below.refl w0.heap.size w0
  have HF := Lib.hid (fun (U : World) (hU : Below w.heap.size w U) => few6_any _ css U (hC.below hU) true (by simp [hf]))
  have HR := Lib.hid (fun (U : World) (hU : Below w.heap.size w U) => right6_any p _ css U hU.size (hC.below hU) (by have := hf.1; omega) true (by simp [hr]))
  have hne : ((css.length : Int) != p - 1) = true := bne_iff_ne.2 hl
  have hpb0 := prm_bounds hr.1
  have hwq : IntKind.i64.wrap (p - 1) = p - 1 := IntWalk.i64_in _ (by omega)
  clear hpb0 hL hw0 hg0 hs0 hf hr hl hC hJ
  generalize css.length = N at *
  go_enter Tryz.func7, Tryz.ntmps7
  have k0 : w0.cell? ⟨g0, 0, none⟩ = some (.int .i64 x0) := b0.cell 0
  have k1 : w0.cell? ⟨g0, 1, none⟩ = some (.int .i64 x1) := b0.cell 1
  go_wp2_with fail
  (try rw [HW0.out]); (try rw [HG0.out])
  refine (HF.out _ hBw).mono ?_
  rintro e w' ⟨rfl, rfl⟩
  go_wp2_with fail
  refine (HR.out _ hBw).mono ?_
  rintro e w1 ⟨rfl, hB1⟩
  clear k0 k1
  replace b0 := b0.below hB1 b0.lt
  have k0 : w1.cell? ⟨g0, 0, none⟩ = some (.int .i64 x0) := b0.cell 0
  have k1 : w1.cell? ⟨g0, 1, none⟩ = some (.int .i64 x1) := b0.cell 1
  replace hBw := below_in hBw hB1
  go_wp2_with fail
  refine (works12_any _ (HLW.out _ hBw)).mono ?_
  rintro e wz ⟨rfl, hBz⟩
  go_wp2
  go_ret
  exact ⟨rfl, below_in hBw hBz⟩
open Go.Proofs.YtcchjofjpflbhaaGreatDoor.E Go.Proofs.YtcchjofjpflbhaaGreatDoor.C Go.Proofs.YtcchjofjpflbhaaGreatDoor.T Go.Proofs.YtcchjofjpflbhaaGreatDoor.Ch in
set_option maxRecDepth 100000 in
set_option maxHeartbeats 4000000 in
theorem nt (p : Int) (v : Value) (css : List (List (List UInt8))) (x0 x1 : Int) (vj : Value) (cj : List (List UInt8)) (w : World) (hL : Laid w) (wp : -9223372036854775808 ≤ p ∧ p ≤ 9223372036854775807) (hC : Cols w.heap.size w v css) (wx : -9223372036854775808 ≤ x0 ∧ x0 ≤ 9223372036854775807) (wy : -9223372036854775808 ≤ x1 ∧ x1 ≤ 9223372036854775807) (hJ : Many w.heap.size w vj cj) (hf : Few6 css) (hr : RightD p css) (hl : (css.length : Int) = p - 1) (hth : ¬ (0 ≤ x0 ∧ x0 < x1 ∧ x1 < p)) :
    Calls Tryz.prog 7 #[.int .i64 p, v, .agg #[.int .i64 x0, .int .i64 x1], vj] w fun e w' => e = .returned (.bool true) ∧ Below w.heap.size w w' := by
  obtain ⟨w0, hw0⟩ : ∃ x, w.alloc (.cells #[.int .i64 x0, .int .i64 x1] 22) = x := ⟨_, rfl⟩
  obtain ⟨g0, hg0⟩ : ∃ g, w.heap.size = g := ⟨_, rfl⟩
  have b0 : Blk w0 g0 22 #[.int .i64 x0, .int .i64 x1] := by rw [← hw0, ← hg0]; exact Blk.new w _ _
  have hB0 : Below w.heap.size w w0 := by rw [← hw0]; exact below_one w _
  have HW0 := Lib.hid hw0
  have HG0 := Lib.hid hg0
  have HLW := Lib.hid (fun (U : World) (hU : Below w.heap.size w U) => hL.next hU)
  have hs0 : w.heap.size < w0.heap.size := by rw [hg0]; exact b0.lt
  obtain ⟨A, cap, rfl, _, _⟩ := id hC
  have hBw := hB0
  have hBW0 := Below.refl w0.heap.size w0
  have HF := Lib.hid (fun (U : World) (hU : Below w.heap.size w U) => few6_any _ css U (hC.below hU) true (by simp [hf]))
  have HR := Lib.hid (fun (U : World) (hU : Below w.heap.size w U) => right6_any p _ css U hU.size (hC.below hU) (by have := hf.1; omega) true (by simp [hr]))
  have hne : ((css.length : Int) != p - 1) = false := by rw [hl]; simp
  have hpb0 := prm_bounds hr.1
  have hwq : IntKind.i64.wrap (p - 1) = p - 1 := IntWalk.i64_in _ (by omega)
  have HTH := Lib.hid (fun W => there12_any p x0 x1 W)
  rw [decide_eq_false hth] at HTH
  clear hpb0 hL hw0 hg0 hs0 hf hr hl hth hC hJ
  generalize css.length = N at *
  go_enter Tryz.func7, Tryz.ntmps7
  have k0 : w0.cell? ⟨g0, 0, none⟩ = some (.int .i64 x0) := b0.cell 0
  have k1 : w0.cell? ⟨g0, 1, none⟩ = some (.int .i64 x1) := b0.cell 1
  go_wp2_with fail
  (try rw [HW0.out]); (try rw [HG0.out])
  refine (HF.out _ hBw).mono ?_
  rintro e w' ⟨rfl, rfl⟩
  go_wp2_with fail
  refine (HR.out _ hBw).mono ?_
  rintro e w1 ⟨rfl, hB1⟩
  clear k0 k1
  replace b0 := b0.below hB1 b0.lt
  have k0 : w1.cell? ⟨g0, 0, none⟩ = some (.int .i64 x0) := b0.cell 0
  have k1 : w1.cell? ⟨g0, 1, none⟩ = some (.int .i64 x1) := b0.cell 1
  replace hBw := below_in hBw hB1
  go_wp2_with fail
  refine (HTH.out _).mono ?_
  rintro e w' ⟨rfl, rfl⟩
  go_wp2_with fail
  refine (works12_any _ (HLW.out _ hBw)).mono ?_
  rintro e wz ⟨rfl, hBz⟩
  go_wp2
  go_ret
  exact ⟨rfl, below_in hBw hBz⟩
open Go.Proofs.YtcchjofjpflbhaaGreatDoor.E Go.Proofs.YtcchjofjpflbhaaGreatDoor.C Go.Proofs.YtcchjofjpflbhaaGreatDoor.T Go.Proofs.YtcchjofjpflbhaaGreatDoor.Ch in
set_option maxRecDepth 100000 in
set_option maxHeartbeats 4000000 in
theorem yes (p : Int) (v : Value) (css : List (List (List UInt8))) (x0 x1 : Int) (vj : Value) (cj : List (List UInt8)) (w : World) (hL : Laid w) (wp : -9223372036854775808 ≤ p ∧ p ≤ 9223372036854775807) (hC : Cols w.heap.size w v css) (wx : -9223372036854775808 ≤ x0 ∧ x0 ≤ 9223372036854775807) (wy : -9223372036854775808 ≤ x1 ∧ x1 ≤ 9223372036854775807) (hJ : Many w.heap.size w vj cj) (hf : Few6 css) (hr : RightD p css) (hl : (css.length : Int) = p - 1) (hth : 0 ≤ x0 ∧ x0 < x1 ∧ x1 < p) :
    Calls Tryz.prog 7 #[.int .i64 p, v, .agg #[.int .i64 x0, .int .i64 x1], vj] w fun e w' => e = .returned (.bool true) ∧ Below w.heap.size w w' := by
  obtain ⟨a, rfl⟩ : ∃ a : Nat, x0 = (a : Int) := ⟨x0.toNat, by omega⟩
  obtain ⟨b, rfl⟩ : ∃ b : Nat, x1 = (b : Int) := ⟨x1.toNat, by omega⟩
  obtain ⟨w0, hw0⟩ : ∃ x, w.alloc (.cells #[.int .i64 (a : Int), .int .i64 (b : Int)] 22) = x := ⟨_, rfl⟩
  obtain ⟨g0, hg0⟩ : ∃ g, w.heap.size = g := ⟨_, rfl⟩
  have b0 : Blk w0 g0 22 #[.int .i64 (a : Int), .int .i64 (b : Int)] := by rw [← hw0, ← hg0]; exact Blk.new w _ _
  have hB0 : Below w.heap.size w w0 := by rw [← hw0]; exact below_one w _
  have HW0 := Lib.hid hw0
  have HG0 := Lib.hid hg0
  have HLW := Lib.hid (fun (U : World) (hU : Below w.heap.size w U) => hL.next hU)
  have hs0 : w.heap.size < w0.heap.size := by rw [hg0]; exact b0.lt
  obtain ⟨A, cap, rfl, _, _⟩ := id hC
  have hBw := hB0
  have hBW0 := Below.refl w0.heap.size w0
  obtain ⟨Aj, kj, rfl, _, _⟩ := id hJ
  have HF := Lib.hid (fun (U : World) (hU : Below w.heap.size w U) => few6_any _ css U (hC.below hU) true (by simp [hf]))
  have HR := Lib.hid (fun (U : World) (hU : Below w.heap.size w U) => right6_any p _ css U hU.size (hC.below hU) (by have := hf.1; omega) true (by simp [hr]))
  have hne : ((css.length : Int) != p - 1) = false := by rw [hl]; simp
  have HTH := Lib.hid (fun W => there12_any p (a : Int) (b : Int) W)
  rw [decide_eq_true hth] at HTH
  obtain ⟨P, Q, n, rfl, hQ, hp, h1, h64, hn, hg⟩ := Go.Proofs.YtcchjofjpflbhaaGreatDoor.Rg.right_yes hr hr.2.1
  have d : Go.Proofs.YtcchjofjpflbhaaGreatDoor.Rg.Dims P Q n := ⟨hQ, hp, h1, h64⟩
  have hpb := prm_bounds hp
  have hlQ : css.length = Q := by omega
  have hab : a < b := Int.ofNat_lt.1 hth.2.1
  have hbP : b < P := Int.ofNat_lt.1 hth.2.2
  have hok : Go.Proofs.YtcchjofjpflbhaaGreatDoor.R.DataR (P : Int) css := ⟨hr, hl⟩
  have ok := rdp_ok d hok hn
  have HEN := Lib.hid (fun (U : World) (hU : Below w.heap.size w U) => encR_all d hok hn (B := w.heap.size) (.slice A css.length cap) U hU.size (hC.below hU))
  have HAL : Hid ((css ++ Go.Proofs.YtcchjofjpflbhaaGreatDoor.R.rdpOf (P : Int) css).length = P + 1) := ok.hl
  have hc2 : BadP P (css ++ Go.Proofs.YtcchjofjpflbhaaGreatDoor.R.rdpOf (P : Int) css) (((css ++ Go.Proofs.YtcchjofjpflbhaaGreatDoor.R.rdpOf (P : Int) css).set a cj).set b []) [(a : Int), (b : Int)] := badP_two ok.hl
  have hc3 : BadP P (css ++ Go.Proofs.YtcchjofjpflbhaaGreatDoor.R.rdpOf (P : Int) css) (((css ++ Go.Proofs.YtcchjofjpflbhaaGreatDoor.R.rdpOf (P : Int) css).set b []).set P cj) [(b : Int), (P : Int)] := badP_two ok.hl
  have HRC := Lib.hid (fun (U : World) (g k : Nat) (hU : Below w.heap.size w U) (h : Cols U.heap.size U (.slice (some ⟨g, 0, none⟩) (P + 1) k) (((css ++ Go.Proofs.YtcchjofjpflbhaaGreatDoor.R.rdpOf (P : Int) css).set a cj).set b [])) => pRecover_yes (B := U.heap.size) d (a : Int) (b : Int) hth.1 hth.2.1 hth.2.2 _ (P + 1) hc2.hl rfl (hc2.good ok) (some ⟨g, 0, none⟩) k _ _ (hc2.solves d ok hab hbP) U (hL.next hU) (Nat.le_refl _) h)
  have HAO := Lib.hid (fun (U : World) (g k : Nat) (hU : Below w.heap.size w U) (h : Cols U.heap.size U (.slice (some ⟨g, 0, none⟩) (P + 1) k) (((css ++ Go.Proofs.YtcchjofjpflbhaaGreatDoor.R.rdpOf (P : Int) css).set b []).set P cj)) => pRow_yes (B := U.heap.size) d (b : Int) (by omega) hth.2.2 _ (P + 1) hc3.hl rfl (hc3.good ok) (some ⟨g, 0, none⟩) k U (hL.next hU) (Nat.le_refl _) h)
  rw [hc3.row d ok hbP] at HAO
  have gA := ok.hg a (by omega)
  have gB := ok.hg b (by omega)
  have HSA := Lib.hid (fun (u v : Value) (U : World) (h1 : Many U.heap.size U u ((css ++ Go.Proofs.YtcchjofjpflbhaaGreatDoor.R.rdpOf (P : Int) css)[a]?.getD [])) (h2 : Many U.heap.size U v ((css ++ Go.Proofs.YtcchjofjpflbhaaGreatDoor.R.rdpOf (P : Int) css)[a]?.getD [])) => Go.Proofs.YtcchjofjpflbhaaGreatDoor.Rg.sameY d _ _ gA rfl u v U h1 h2)
  have HSB := Lib.hid (fun (u v : Value) (U : World) (h1 : Many U.heap.size U u ((css ++ Go.Proofs.YtcchjofjpflbhaaGreatDoor.R.rdpOf (P : Int) css)[b]?.getD [])) (h2 : Many U.heap.size U v ((css ++ Go.Proofs.YtcchjofjpflbhaaGreatDoor.R.rdpOf (P : Int) css)[b]?.getD [])) => Go.Proofs.YtcchjofjpflbhaaGreatDoor.Rg.sameY d _ _ gB rfl u v U h1 h2)
  have HOR := Lib.hid (fun (U : World) (hU : Below w.heap.size w U) => pOrder_yes (P : Int) (a : Int) (b : Int) hp hth.1 hth.2.1 hth.2.2 U (hL.next hU))
  have HARM1 := Lib.hid (fun (U : World) (hU : Below w.heap.size w U) => lawArm_any (P : Int) (a : Int) (b : Int) (armP (P : Int) (a : Int) (b : Int)) (armP_len hp) U (hL.next hU) (Lib.hid fun V hV => Arm_yes (P : Int) (a : Int) (b : Int) hp (by omega) ⟨hth.1, by omega⟩ ⟨by omega, hth.2.2⟩ V hV))
  have HARM2 := Lib.hid (fun (U : World) (hU : Below w.heap.size w U) => lawArm_any (P : Int) (b : Int) (a : Int) (armP (P : Int) (b : Int) (a : Int)) (armP_len hp) U (hL.next hU) (Lib.hid fun V hV => Arm_yes (P : Int) (b : Int) (a : Int) hp (by omega) ⟨by omega, hth.2.2⟩ ⟨hth.1, by omega⟩ V hV))
  have HRS := Lib.hid (chkO_is hp hab hth.2.2)
  generalize orderP (P : Int) (a : Int) (b : Int) = lo at *
  generalize armP (P : Int) (a : Int) (b : Int) = la at *
  generalize armP (P : Int) (b : Int) (a : Int) = lb at *
  have HJ := Lib.hid (fun (U : World) (hU : Below w.heap.size w U) => hJ.below hU)
  have HPQ := Lib.hid hQ
  have HP17 : Hid (P ≤ 17) := by unfold Hid; omega
  have HP3 : Hid (3 ≤ P) := by unfold Hid; omega
  have hmm := @run_makeMap Tryz.prog
  have j1 : (a : Int) < (P : Int) + 1 := by omega
  have j2 : (b : Int) < (P : Int) + 1 := by omega
  have j3 : (P : Int) < (P : Int) + 1 := by omega
  have i1 : (0 : Int) ≤ (a : Int) := hth.1
  have i2 : (0 : Int) ≤ (b : Int) := Int.natCast_nonneg b
  have iP : (0 : Int) ≤ (P : Int) := Int.natCast_nonneg P
  have HAB := Lib.hid (And.intro hab (And.intro hbP hlQ))
  have HGQ := Lib.hid (And.intro gA.1 gB.1)
  generalize (css ++ Go.Proofs.YtcchjofjpflbhaaGreatDoor.R.rdpOf (P : Int) css) = allC at *
  obtain ⟨cA, hcA⟩ : ∃ x, allC[a]?.getD [] = x := ⟨_, rfl⟩
  obtain ⟨cB, hcB⟩ : ∃ x, allC[b]?.getD [] = x := ⟨_, rfl⟩
  rw [hcA] at HSA HGQ
  rw [hcB] at HSB HAO HGQ
  rw [hcA, hcB] at HRC
  have HLAa := Lib.hid hcA
  have HLAb := Lib.hid hcB
  clear hcA hcB
  obtain ⟨na, hna⟩ : ∃ x, la.length = x := ⟨_, rfl⟩
  obtain ⟨nb, hnb⟩ : ∃ x, lb.length = x := ⟨_, rfl⟩
  obtain ⟨M, hM⟩ : ∃ x, lo.length = x := ⟨_, rfl⟩
  have hab5 : (na : Int) + (nb : Int) = 2 * (P : Int) - 2 := by have := HRS.out.2.1; omega
  have hno0 : (M : Int) = 2 * (P : Int) - 2 := by have := HRS.out.1; omega
  have HM2 : Hid (M = 2 * Q) := by unfold Hid; omega
  have HNA := Lib.hid hna
  have HNB := Lib.hid hnb
  have HLM := Lib.hid hM
  have hwab : IntKind.i64.wrap ((na : Int) + (nb : Int)) = (na : Int) + (nb : Int) := IntWalk.i64_in _ (by omega)
  have hnab5 : (((na : Int) + (nb : Int)) != 2 * (P : Int) - 2) = false := by rw [hab5]; simp
  have hno : ((M : Int) != 2 * (P : Int) - 2) = false := by rw [hno0]; simp
  clear hab5 hno0 hna hnb hM
  have hwz0 : IntKind.i64.wrap 0 = 0 := rfl
  have hwP2 : IntKind.i64.wrap (2 * (P : Int)) = 2 * (P : Int) := IntWalk.i64_in _ (by omega)
  have hwP3 : IntKind.i64.wrap (2 * (P : Int) - 2) = 2 * (P : Int) - 2 := IntWalk.i64_in _ (by omega)
  have hwP1 : IntKind.i64.wrap ((P : Int) - 1) = (P : Int) - 1 := IntWalk.i64_in _ (by omega)
  have HS0 := Lib.hid hs0
  generalize hgl : cj.length = lj at *
  clear hw0 hg0 hL hC hJ hB0 hs0 hf hr hl hth hQ hp h1 h64 hn hg hpb hlQ hab hbP hok ok hc2 hc3 gA gB hgl d
  generalize css.length = N at *
  go_enter Tryz.func7, Tryz.ntmps7
  have k0 : w0.cell? ⟨g0, 0, none⟩ = some (.int .i64 (a : Int)) := b0.cell 0
  have k1 : w0.cell? ⟨g0, 1, none⟩ = some (.int .i64 (b : Int)) := b0.cell 1
  go_wp2_with fail
  (try rw [HW0.out]); (try rw [HG0.out])
  refine (HF.out _ hBw).mono ?_
  rintro e w' ⟨rfl, rfl⟩
  go_wp2_with fail
  refine (HR.out _ hBw).mono ?_
  rintro e w1 ⟨rfl, hB1⟩
  replace b0 := b0.below hB1 b0.lt
  clear k0 k1
  have k0 : w1.cell? ⟨g0, 0, none⟩ = some (.int .i64 (a : Int)) := b0.cell 0
  have k1 : w1.cell? ⟨g0, 1, none⟩ = some (.int .i64 (b : Int)) := b0.cell 1
  replace hBw := below_in hBw hB1
  replace hBW0 := below_in hBW0 hB1
  clear hB1
  go_wp2_with fail
  refine (HTH.out _).mono ?_
  rintro e w' ⟨rfl, rfl⟩
  go_wp2_with fail
  refine (HEN.out _ hBw).mono ?_
  rintro e w2 ⟨u, rfl, hu, hB1⟩
  obtain ⟨bu, ou, ku, eu, hku, hbu, hrowu⟩ := hu.at_ (by rw [HAL.out]; omega)
  rw [HAL.out] at eu hku
  subst eu
  obtain ⟨ua, hua, hma⟩ := hrowu a (by rw [HAL.out]; have := HAB.out; omega)
  obtain ⟨ub, hub, hmb⟩ := hrowu b (by rw [HAL.out]; have := HAB.out; omega)
  rw [HLAa.out] at hma
  rw [HLAb.out] at hmb
  obtain ⟨Ca, qa, rfl, _, _⟩ := id hma
  obtain ⟨Cb, qb, rfl, _, _⟩ := id hmb
  rw [HGQ.out.1] at hua hma
  rw [HGQ.out.2] at hub hmb
  replace b0 := b0.below hB1 b0.lt
  replace hBw := below_in hBw hB1
  have hg0z := b0.lt
  have hwz := hBw.size
  have H2 : Hid (∀ U, Below w2.heap.size w2 U → Below w.heap.size w U ∧ Blk U g0 22 #[.int .i64 (a : Int), .int .i64 (b : Int)] ∧ Cols w2.heap.size U (.slice (some ⟨bu, ou, none⟩) (P + 1) ku) allC ∧ U.cell? ⟨bu, ou + a, none⟩ = some (.slice Ca Q qa) ∧ U.cell? ⟨bu, ou + b, none⟩ = some (.slice Cb Q qb) ∧ Many w2.heap.size U (.slice Ca Q qa) cA ∧ Many w2.heap.size U (.slice Cb Q qb) cB) := fun U hU => ⟨below_in hBw hU, b0.below hU b0.lt, hu.below hU, (hU.cell (p := ⟨bu, ou + a, none⟩) hbu).trans hua, (hU.cell (p := ⟨bu, ou + b, none⟩) hbu).trans hub, hma.below hU, hmb.below hU⟩
  have hB := Below.refl w2.heap.size w2
  clear hB1 k0 k1 HEN HF HR HTH hrowu hua hub hma hmb hu b0 hBw
  have hAA := below_one w2 (.cells #[] 50)
  obtain ⟨eA, heA⟩ : ∃ x, w2.alloc (.cells #[] 50) = x := ⟨_, rfl⟩
  obtain ⟨zA, hzA⟩ : ∃ x, w2.heap.size = x := ⟨_, rfl⟩
  have HZA := Lib.hid hzA
  have HROA : Hid (RowC (fun _ => True) eA zA (.slice (some ⟨zA, 0, none⟩) 0 0) []) := by unfold Hid; rw [← heA, ← hzA]; exact Go.Proofs.YtcchjofjpflbhaaGreatDoor.Rg.RowG.empty _ _ _ _ (Blk.new w2 50 #[]) (Nat.le_refl _)
  rw [heA] at hAA
  have HXA := Lib.hid (app_far hAA (by rw [hzA]; exact Nat.le_refl _) HROA.out (((H2.out _ hB).2.2.1.more hB.size).below hAA))
  have HSZA : Hid (zA ≤ eA.heap.size) := by unfold Hid; rw [← hzA]; exact hAA.size
  have hzwA : w2.heap.size ≤ zA := by rw [← hzA]; exact hB.size
  have HBA := Lib.hid (below_in hB hAA)
  have HEA := Lib.hid heA
  clear hB hzA heA hAA
  go_wp2_with (at_builtin; ((try rw [HZA.out]); (try rw [HEA.out]); refine wpList_appStripe _ rfl _ _ rfl [] allC rfl HROA.out rfl HXA.out (by have := HP17.out; rw [HAL.out]; omega) (by simp) (by have := HP17.out; rw [HAL.out]; omega) HSZA.out ?_; intro vbA rA hrowA hgrowA _; rw [List.nil_append] at hrowA; obtain ⟨gbA, cbA, curA, hveA, hcbA, hgbA, bBA, hcsA, hcuA⟩ := rowC_blkT hrowA (by rw [HAL.out]; omega); rw [HAL.out] at hveA hcbA hcsA; subst hveA))
  have hBgA : Below zA eA rA := below_grown (Below.refl _ _) hgrowA HSZA.out (fun q e => RowG.own_le HROA.out q e)
  have hB : Below w2.heap.size w2 rA := HBA.out.trans (hBgA.mono hzwA)
  have hgzA : w2.heap.size ≤ gbA := Nat.le_trans hzwA hgbA
  have hvjA : manyR.R (fun b => b < rA.heap.size ∧ b ≠ gbA) rA (.slice Aj lj kj) cj := manyR.imp (manyR_iff.2 (HJ.out _ (H2.out _ hB).1)) (fun k hk => by have hk2 : k < w.heap.size := hk; have hs := hB.size; exact ⟨by omega, by omega⟩)
  have hniA : manyR.R (fun b => b < rA.heap.size ∧ b ≠ gbA) rA (.slice none 0 0) [] := ⟨none, 0, rfl, Nat.le_refl _, fun h => absurd h (Nat.lt_irrefl _)⟩
  clear hBgA hgrowA hrowA HBA HROA HXA HSZA hzwA hgbA
  have HSB2 : Hid (∀ U, Below w2.heap.size w2 U → (fun U : World => U.cell? ⟨g0, 0, none⟩ = some (.int .i64 (a : Int)) ∧ U.cell? ⟨g0, 1, none⟩ = some (.int .i64 (b : Int))) U) := fun U hU => ⟨(H2.out U hU).2.1.cell 0, (H2.out U hU).2.1.cell 1⟩
  go_wp2_with fail
  have hS : (fun U : World => U.cell? ⟨g0, 0, none⟩ = some (.int .i64 (a : Int)) ∧ U.cell? ⟨g0, 1, none⟩ = some (.int .i64 (b : Int))) rA.drew := HSB2.out _ hB.drew
  refine (wpIn_wide (n := 12)).1 (wpIn_mono (region_HF (Q := NoPanic _) (S := (fun U : World => U.cell? ⟨g0, 0, none⟩ = some (.int .i64 (a : Int)) ∧ U.cell? ⟨g0, 1, none⟩ = some (.int .i64 (b : Int)))) (by kernel_rfl) ?_) NoPanic.imp)
  refine anyHF_take (i := 0) (d := 53) (v := .slice (some ⟨gbA, 0, none⟩) (P + 1) cbA) (by kernel_rfl) rfl (by kernel_rfl) (by kernel_rfl) (by kernel_rfl) rfl (fun _ _ _ h => h) ⟨Or.inl ⟨by rfl, fun w hS => by obtain ⟨h0, h1⟩ := hS; go_simp⟩, fun _ => rfl⟩ hS ?_
  simp only [List.setIfInBounds_toArray, List.set_cons_zero, List.set_cons_succ]
  refine anyHF_take (i := 1) (d := 54) (v := .pointer (some ⟨g0, 0, none⟩)) (by kernel_rfl) rfl (by kernel_rfl) (by kernel_rfl) (by kernel_rfl) rfl (fun _ _ _ h => h) ⟨Or.inl ⟨by rfl, fun w hS => by obtain ⟨h0, h1⟩ := hS; go_simp⟩, fun _ => rfl⟩ hS ?_
  simp only [List.setIfInBounds_toArray, List.set_cons_zero, List.set_cons_succ]
  refine anyHF_take (i := 2) (d := 55) (v := .int .i64 (a : Int)) (by kernel_rfl) rfl (by kernel_rfl) (by kernel_rfl) (by kernel_rfl) rfl (fun _ _ _ h => h) ⟨Or.inl ⟨by rfl, fun w hS => by obtain ⟨h0, h1⟩ := hS; go_simp⟩, fun _ => rfl⟩ hS ?_
  simp only [List.setIfInBounds_toArray, List.set_cons_zero, List.set_cons_succ]
  refine anyHF_take (i := 3) (d := 56) (v := .slice (some ⟨gbA, 0, none⟩) (P + 1) cbA) (by kernel_rfl) rfl (by kernel_rfl) (by kernel_rfl) (by kernel_rfl) rfl (fun _ _ _ h => h) ⟨Or.inl ⟨by rfl, fun w hS => by obtain ⟨h0, h1⟩ := hS; go_simp⟩, fun _ => rfl⟩ hS ?_
  simp only [List.setIfInBounds_toArray, List.set_cons_zero, List.set_cons_succ]
  refine anyHF_take (i := 4) (d := 57) (v := .pointer (some ⟨g0, 1, none⟩)) (by kernel_rfl) rfl (by kernel_rfl) (by kernel_rfl) (by kernel_rfl) rfl (fun _ _ _ h => h) ⟨Or.inl ⟨by rfl, fun w hS => by obtain ⟨h0, h1⟩ := hS; go_simp⟩, fun _ => rfl⟩ hS ?_
  simp only [List.setIfInBounds_toArray, List.set_cons_zero, List.set_cons_succ]
  refine anyHF_take (i := 5) (d := 58) (v := .int .i64 (b : Int)) (by kernel_rfl) rfl (by kernel_rfl) (by kernel_rfl) (by kernel_rfl) rfl (fun _ _ _ h => h) ⟨Or.inl ⟨by rfl, fun w hS => by obtain ⟨h0, h1⟩ := hS; go_simp⟩, fun _ => rfl⟩ hS ?_
  simp only [List.setIfInBounds_toArray, List.set_cons_zero, List.set_cons_succ]
  refine anyHF_take (i := 6) (d := 59) (v := .slice Aj lj kj) (by kernel_rfl) rfl (by kernel_rfl) (by kernel_rfl) (by kernel_rfl) rfl (fun _ _ _ h => h) ⟨Or.inl ⟨by rfl, fun w hS => by obtain ⟨h0, h1⟩ := hS; go_simp⟩, fun _ => rfl⟩ hS ?_
  simp only [List.setIfInBounds_toArray, List.set_cons_zero, List.set_cons_succ]
  refine anyHF_take (i := 7) (d := 60) (v := .pointer (some ⟨gbA, a, none⟩)) (by kernel_rfl) rfl (by kernel_rfl) (by kernel_rfl) (by kernel_rfl) rfl (fun _ _ _ h => h) ⟨Or.inl ⟨by rfl, fun w hS => by obtain ⟨h0, h1⟩ := hS; go_simp⟩, fun _ => rfl⟩ hS ?_
  simp only [List.setIfInBounds_toArray, List.set_cons_zero, List.set_cons_succ]
  refine anyHF_one (i := 8) (by kernel_rfl) rfl (by kernel_rfl) (by rfl) ?_
  have hf1 := bBA.frozen a
  obtain ⟨old1, hold1⟩ : ∃ old, rA.cell? ⟨gbA, a, none⟩ = some old := ⟨_, by rw [bBA.cell a, Array.getElem?_eq_getElem (by have := HAB.out; omega)]⟩
  have hB1 : Below w2.heap.size w2 (rA.setCell ⟨gbA, a, none⟩ (.slice Aj lj kj)) := hB.setCell (p := ⟨gbA, a, none⟩) hgzA _
  have bB1 := bBA.set_ a (.slice Aj lj kj)
  clear hS
  have hS9 : (fun U : World => U.cell? ⟨g0, 0, none⟩ = some (.int .i64 (a : Int)) ∧ U.cell? ⟨g0, 1, none⟩ = some (.int .i64 (b : Int))) rA := HSB2.out rA hB
  have hS : (fun U : World => U.cell? ⟨g0, 0, none⟩ = some (.int .i64 (a : Int)) ∧ U.cell? ⟨g0, 1, none⟩ = some (.int .i64 (b : Int))) (rA.setCell ⟨gbA, a, none⟩ (.slice Aj lj kj)).drew := HSB2.out _ hB1.drew
  gi_wp2
  try (first | refine ⟨hS, ?_⟩ | refine ⟨hS9, ?_⟩)
  refine anyHF_take (i := 9) (d := 61) (v := .pointer (some ⟨gbA, b, none⟩)) (by kernel_rfl) rfl (by kernel_rfl) (by kernel_rfl) (by kernel_rfl) rfl (fun _ _ _ h => h) ⟨Or.inl ⟨by rfl, fun w hS => by obtain ⟨h0, h1⟩ := hS; go_simp⟩, fun _ => rfl⟩ hS ?_
  simp only [List.setIfInBounds_toArray, List.set_cons_zero, List.set_cons_succ]
  refine anyHF_one (i := 10) (by kernel_rfl) rfl (by kernel_rfl) (by rfl) ?_
  have hf2 := bB1.frozen b
  have hf2r : rA.frozen? ⟨gbA, b, none⟩ = false := bBA.frozen b
  have hnab : ¬ a = b := by have := HAB.out; omega
  have hnba : ¬ b = a := by have := HAB.out; omega
  obtain ⟨old2, hold2r⟩ : ∃ old, rA.cell? ⟨gbA, b, none⟩ = some old := ⟨_, by rw [show rA.cell? ⟨gbA, b, none⟩ = _ from bBA.cell b, Array.getElem?_eq_getElem (by have := HAB.out; omega)]⟩
  have hold2 : (rA.setCell ⟨gbA, a, none⟩ (.slice Aj lj kj)).cell? ⟨gbA, b, none⟩ = some old2 := by rw [bB1.cell b, Array.getElem?_setIfInBounds_ne (by omega), ← hold2r]; exact (bBA.cell b).symm
  have hB2 : Below w2.heap.size w2 ((rA.setCell ⟨gbA, a, none⟩ (.slice Aj lj kj)).setCell ⟨gbA, b, none⟩ (.slice none 0 0)) := hB1.setCell (p := ⟨gbA, b, none⟩) hgzA _
  clear hS
  have hS : (fun U : World => U.cell? ⟨g0, 0, none⟩ = some (.int .i64 (a : Int)) ∧ U.cell? ⟨g0, 1, none⟩ = some (.int .i64 (b : Int))) ((rA.setCell ⟨gbA, a, none⟩ (.slice Aj lj kj)).setCell ⟨gbA, b, none⟩ (.slice none 0 0)).drew := HSB2.out _ hB2.drew
  gi_wp2
  try (first | refine ⟨hS, ?_⟩ | refine ⟨hS9, ?_⟩)
  refine anyHF_done (by kernel_rfl) ?_ _
  refine NoPanic.normal ?_
  clear hS
  have hC5 : Cols ((rA.setCell ⟨gbA, a, none⟩ (.slice Aj lj kj)).setCell ⟨gbA, b, none⟩ (.slice none 0 0)).heap.size ((rA.setCell ⟨gbA, a, none⟩ (.slice Aj lj kj)).setCell ⟨gbA, b, none⟩ (.slice none 0 0)) (.slice (some ⟨gbA, 0, none⟩) (P + 1) cbA) ((allC.set a cj).set b []) := cols_two_set bBA HAL.out hcbA hcsA hcuA (by have := HAB.out; omega) (by have := HAB.out; omega) (by have := HAB.out; omega) hvjA hniA _ rfl
  replace hC5 : Cols ((rA.setCell ⟨gbA, a, none⟩ (.slice Aj lj kj)).setCell ⟨gbA, b, none⟩ (.slice none 0 0)).drew.heap.size ((rA.setCell ⟨gbA, a, none⟩ (.slice Aj lj kj)).setCell ⟨gbA, b, none⟩ (.slice none 0 0)).drew _ _ := hC5
  replace hB2 := hB2.drew
  obtain ⟨X5, hX5⟩ : ∃ x, ((rA.setCell ⟨gbA, a, none⟩ (.slice Aj lj kj)).setCell ⟨gbA, b, none⟩ (.slice none 0 0)).drew = x := ⟨_, rfl⟩
  rw [hX5] at hC5 hB2 ⊢
  clear hX5 hS9 hold1 hold2 hold2r hf2r hnab hnba hf1 hf2 bB1 bBA hcuA hcsA hB1 hB hvjA hniA
  have hB := hB2
  clear hB2
  have kk := (H2.out _ hB).2.1
  have k0 := kk.cell 0
  have k1 := kk.cell 1
  simp only [List.getElem?_toArray, List.getElem?_cons_zero, List.getElem?_cons_succ] at k0 k1
  clear kk
  go_wp2_with fail
  refine (HRC.out _ _ _ (H2.out _ hB).1 hC5).mono ?_
  rintro e w3 ⟨ul, rfl, hl, hB3⟩
  replace hB := below_in hB hB3
  clear k0 k1 hC5 hB3 HRC
  obtain ⟨bl, ol, kl, el, hkl, hbl, hrowl⟩ := hl.at_ (by simp)
  have el' : ul = .slice (some ⟨bl, ol, none⟩) 2 kl := el
  subst el'
  clear el
  obtain ⟨la, hla, hmla⟩ := hrowl 0 (by simp)
  obtain ⟨lb, hlb, hmlb⟩ := hrowl 1 (by simp)
  replace hmla : Many w3.heap.size w3 la cA := hmla
  replace hmlb : Many w3.heap.size w3 lb cB := hmlb
  obtain ⟨Da, pa, rfl, _, _⟩ := id hmla
  obtain ⟨Db, pb, rfl, _, _⟩ := id hmlb
  rw [HGQ.out.1] at hla hmla
  rw [HGQ.out.2] at hlb hmlb
  rw [Nat.add_zero] at hla
  have HC7 : Hid (∀ U, Below w3.heap.size w3 U → Below w2.heap.size w2 U → (fun U : World => U.cell? ⟨g0, 0, none⟩ = some (.int .i64 (a : Int)) ∧ U.cell? ⟨g0, 1, none⟩ = some (.int .i64 (b : Int)) ∧ U.cell? ⟨bl, ol, none⟩ = some (.slice Da Q pa) ∧ U.cell? ⟨bl, ol + 1, none⟩ = some (.slice Db Q pb) ∧ U.cell? ⟨bu, ou + a, none⟩ = some (.slice Ca Q qa) ∧ U.cell? ⟨bu, ou + b, none⟩ = some (.slice Cb Q qb)) U) := fun U h3 h2 => ⟨(H2.out U h2).2.1.cell 0, (H2.out U h2).2.1.cell 1, (h3.cell (p := ⟨bl, ol, none⟩) hbl).trans hla, (h3.cell (p := ⟨bl, ol + 1, none⟩) hbl).trans hlb, (H2.out U h2).2.2.2.1, (H2.out U h2).2.2.2.2.1⟩
  clear hrowl hla hlb hl
  go_wp2_with fail
  have hB3 : Below w3.heap.size w3 w3.drew := (Below.refl _ _).drew
  replace hB := hB.drew
  replace hmla : Many w3.drew.heap.size w3.drew _ _ := hmla
  replace hmlb : Many w3.drew.heap.size w3.drew _ _ := hmlb
  have hS : (fun U : World => U.cell? ⟨g0, 0, none⟩ = some (.int .i64 (a : Int)) ∧ U.cell? ⟨g0, 1, none⟩ = some (.int .i64 (b : Int)) ∧ U.cell? ⟨bl, ol, none⟩ = some (.slice Da Q pa) ∧ U.cell? ⟨bl, ol + 1, none⟩ = some (.slice Db Q pb) ∧ U.cell? ⟨bu, ou + a, none⟩ = some (.slice Ca Q qa) ∧ U.cell? ⟨bu, ou + b, none⟩ = some (.slice Cb Q qb)) w3.drew := HC7.out _ hB3 hB
  refine (wpIn_wide (n := 12)).1 (wpIn_mono (region_HF (Q := NoPanic _) (S := (fun U : World => U.cell? ⟨g0, 0, none⟩ = some (.int .i64 (a : Int)) ∧ U.cell? ⟨g0, 1, none⟩ = some (.int .i64 (b : Int)) ∧ U.cell? ⟨bl, ol, none⟩ = some (.slice Da Q pa) ∧ U.cell? ⟨bl, ol + 1, none⟩ = some (.slice Db Q pb) ∧ U.cell? ⟨bu, ou + a, none⟩ = some (.slice Ca Q qa) ∧ U.cell? ⟨bu, ou + b, none⟩ = some (.slice Cb Q qb))) (by kernel_rfl) ?_) NoPanic.imp)
  refine anyHF_take (i := 0) (d := 72) (v := .int .i64 0) (by kernel_rfl) rfl (by kernel_rfl) (by kernel_rfl) (by kernel_rfl) rfl (fun _ _ _ h => h) ⟨Or.inl ⟨by rfl, fun w hS => by obtain ⟨h0, h1, h2, h3, h4, h5⟩ := hS; go_simp⟩, fun _ => rfl⟩ hS ?_
  simp only [List.setIfInBounds_toArray, List.set_cons_zero, List.set_cons_succ]
  refine anyHF_one (i := 1) (by kernel_rfl) rfl (by kernel_rfl) (by rfl) ?_
  gi_wp2_with fail
  refine ⟨trivial, (callsIn_wide.2 (num12_any _ _)).mono ?_⟩
  rintro e wn ⟨rfl, rfl⟩
  gi_wp2
  try (refine ⟨hS, ?_⟩)
  refine anyHF_take (i := 2) (d := 74) (v := .bool false) (by kernel_rfl) rfl (by kernel_rfl) (by kernel_rfl) (by kernel_rfl) rfl (fun _ _ _ h => h) ⟨Or.inl ⟨by rfl, fun w hS => by obtain ⟨h0, h1, h2, h3, h4, h5⟩ := hS; go_simp⟩, fun _ => rfl⟩ hS ?_
  simp only [List.setIfInBounds_toArray, List.set_cons_zero, List.set_cons_succ]
  refine anyHF_take (i := 3) (d := 75) (v := .bool false) (by kernel_rfl) rfl (by kernel_rfl) (by kernel_rfl) (by kernel_rfl) rfl (fun _ _ _ h => h) ⟨Or.inl ⟨by rfl, fun w hS => by obtain ⟨h0, h1, h2, h3, h4, h5⟩ := hS; go_simp⟩, fun _ => rfl⟩ hS ?_
  simp only [List.setIfInBounds_toArray, List.set_cons_zero, List.set_cons_succ]
  refine anyHF_take (i := 4) (d := 76) (v := .slice (some ⟨bl, ol, none⟩) 2 kl) (by kernel_rfl) rfl (by kernel_rfl) (by kernel_rfl) (by kernel_rfl) rfl (fun _ _ _ h => h) ⟨Or.inl ⟨by rfl, fun w hS => by obtain ⟨h0, h1, h2, h3, h4, h5⟩ := hS; go_simp⟩, fun _ => rfl⟩ hS ?_
  simp only [List.setIfInBounds_toArray, List.set_cons_zero, List.set_cons_succ]
  refine anyHF_take (i := 5) (d := 77) (v := .int .i64 2) (by kernel_rfl) rfl (by kernel_rfl) (by kernel_rfl) (by kernel_rfl) rfl (fun _ _ _ h => h) ⟨Or.inl ⟨by rfl, fun w hS => by obtain ⟨h0, h1, h2, h3, h4, h5⟩ := hS; go_simp⟩, fun _ => rfl⟩ hS ?_
  simp only [List.setIfInBounds_toArray, List.set_cons_zero, List.set_cons_succ]
  refine anyHF_take (i := 6) (d := 78) (v := .bool false) (by kernel_rfl) rfl (by kernel_rfl) (by kernel_rfl) (by kernel_rfl) rfl (fun _ _ _ h => h) ⟨Or.inl ⟨by rfl, fun w hS => by obtain ⟨h0, h1, h2, h3, h4, h5⟩ := hS; go_simp⟩, fun _ => rfl⟩ hS ?_
  simp only [List.setIfInBounds_toArray, List.set_cons_zero, List.set_cons_succ]
  refine anyHF_take (i := 7) (d := 79) (v := .bool false) (by kernel_rfl) rfl (by kernel_rfl) (by kernel_rfl) (by kernel_rfl) rfl (fun _ _ _ h => h) ⟨Or.inl ⟨by rfl, fun w hS => by obtain ⟨h0, h1, h2, h3, h4, h5⟩ := hS; go_simp⟩, fun _ => rfl⟩ hS ?_
  simp only [List.setIfInBounds_toArray, List.set_cons_zero, List.set_cons_succ]
  refine anyHF_take (i := 8) (d := 80) (v := .bool false) (by kernel_rfl) rfl (by kernel_rfl) (by kernel_rfl) (by kernel_rfl) rfl (fun _ _ _ h => h) ⟨Or.inl ⟨by rfl, fun w hS => by obtain ⟨h0, h1, h2, h3, h4, h5⟩ := hS; go_simp⟩, fun _ => rfl⟩ hS ?_
  simp only [List.setIfInBounds_toArray, List.set_cons_zero, List.set_cons_succ]
  refine anyHF_take (i := 9) (d := 81) (v := .slice (some ⟨bl, ol, none⟩) 2 kl) (by kernel_rfl) rfl (by kernel_rfl) (by kernel_rfl) (by kernel_rfl) rfl (fun _ _ _ h => h) ⟨Or.inl ⟨by rfl, fun w hS => by obtain ⟨h0, h1, h2, h3, h4, h5⟩ := hS; go_simp⟩, fun _ => rfl⟩ hS ?_
  simp only [List.setIfInBounds_toArray, List.set_cons_zero, List.set_cons_succ]
  refine anyHF_take (i := 10) (d := 82) (v := .pointer (some ⟨bl, ol, none⟩)) (by kernel_rfl) rfl (by kernel_rfl) (by kernel_rfl) (by kernel_rfl) rfl (fun _ _ _ h => h) ⟨Or.inl ⟨by rfl, fun w hS => by obtain ⟨h0, h1, h2, h3, h4, h5⟩ := hS; go_simp⟩, fun _ => rfl⟩ hS ?_
  simp only [List.setIfInBounds_toArray, List.set_cons_zero, List.set_cons_succ]
  refine anyHF_take (i := 11) (d := 83) (v := .slice Da Q pa) (by kernel_rfl) rfl (by kernel_rfl) (by kernel_rfl) (by kernel_rfl) rfl (fun _ _ _ h => h) ⟨Or.inl ⟨by rfl, fun w hS => by obtain ⟨h0, h1, h2, h3, h4, h5⟩ := hS; go_simp⟩, fun _ => rfl⟩ hS ?_
  simp only [List.setIfInBounds_toArray, List.set_cons_zero, List.set_cons_succ]
  refine anyHF_take (i := 12) (d := 84) (v := .slice (some ⟨bu, ou, none⟩) (P + 1) ku) (by kernel_rfl) rfl (by kernel_rfl) (by kernel_rfl) (by kernel_rfl) rfl (fun _ _ _ h => h) ⟨Or.inl ⟨by rfl, fun w hS => by obtain ⟨h0, h1, h2, h3, h4, h5⟩ := hS; go_simp⟩, fun _ => rfl⟩ hS ?_
  simp only [List.setIfInBounds_toArray, List.set_cons_zero, List.set_cons_succ]
  refine anyHF_take (i := 13) (d := 85) (v := .pointer (some ⟨g0, 0, none⟩)) (by kernel_rfl) rfl (by kernel_rfl) (by kernel_rfl) (by kernel_rfl) rfl (fun _ _ _ h => h) ⟨Or.inl ⟨by rfl, fun w hS => by obtain ⟨h0, h1, h2, h3, h4, h5⟩ := hS; go_simp⟩, fun _ => rfl⟩ hS ?_
  simp only [List.setIfInBounds_toArray, List.set_cons_zero, List.set_cons_succ]
  refine anyHF_take (i := 14) (d := 86) (v := .int .i64 (a : Int)) (by kernel_rfl) rfl (by kernel_rfl) (by kernel_rfl) (by kernel_rfl) rfl (fun _ _ _ h => h) ⟨Or.inl ⟨by rfl, fun w hS => by obtain ⟨h0, h1, h2, h3, h4, h5⟩ := hS; go_simp⟩, fun _ => rfl⟩ hS ?_
  simp only [List.setIfInBounds_toArray, List.set_cons_zero, List.set_cons_succ]
  refine anyHF_take (i := 15) (d := 87) (v := .pointer (some ⟨bu, ou + a, none⟩)) (by kernel_rfl) rfl (by kernel_rfl) (by kernel_rfl) (by kernel_rfl) rfl (fun _ _ _ h => h) ⟨Or.inl ⟨by rfl, fun w hS => by obtain ⟨h0, h1, h2, h3, h4, h5⟩ := hS; go_simp⟩, fun _ => rfl⟩ hS ?_
  simp only [List.setIfInBounds_toArray, List.set_cons_zero, List.set_cons_succ]
  refine anyHF_take (i := 16) (d := 88) (v := .slice Ca Q qa) (by kernel_rfl) rfl (by kernel_rfl) (by kernel_rfl) (by kernel_rfl) rfl (fun _ _ _ h => h) ⟨Or.inl ⟨by rfl, fun w hS => by obtain ⟨h0, h1, h2, h3, h4, h5⟩ := hS; go_simp⟩, fun _ => rfl⟩ hS ?_
  simp only [List.setIfInBounds_toArray, List.set_cons_zero, List.set_cons_succ]
  refine anyHF_one (i := 17) (by kernel_rfl) rfl (by kernel_rfl) (by rfl) ?_
  gi_wp2_with fail
  refine ⟨trivial, (callsIn_wide.2 (HSA.out _ _ _ hmla (((H2.out _ hB).2.2.2.2.2.1).more hB.size))).mono ?_⟩
  rintro e y1 ⟨rfl, hBn⟩
  replace hB := below_in hB hBn
  replace hB3 := below_in hB3 hBn
  replace hmlb := (hmlb.below hBn).more hBn.size
  clear hBn
  clear hS
  have hS : (fun U : World => U.cell? ⟨g0, 0, none⟩ = some (.int .i64 (a : Int)) ∧ U.cell? ⟨g0, 1, none⟩ = some (.int .i64 (b : Int)) ∧ U.cell? ⟨bl, ol, none⟩ = some (.slice Da Q pa) ∧ U.cell? ⟨bl, ol + 1, none⟩ = some (.slice Db Q pb) ∧ U.cell? ⟨bu, ou + a, none⟩ = some (.slice Ca Q qa) ∧ U.cell? ⟨bu, ou + b, none⟩ = some (.slice Cb Q qb)) y1 := HC7.out _ hB3 hB
  gi_wp2
  try (refine ⟨hS, ?_⟩)
  refine anyHF_take (i := 18) (d := 90) (v := .bool false) (by kernel_rfl) rfl (by kernel_rfl) (by kernel_rfl) (by kernel_rfl) rfl (fun _ _ _ h => h) ⟨Or.inl ⟨by rfl, fun w hS => by obtain ⟨h0, h1, h2, h3, h4, h5⟩ := hS; go_simp⟩, fun _ => rfl⟩ hS ?_
  simp only [List.setIfInBounds_toArray, List.set_cons_zero, List.set_cons_succ]
  refine anyHF_take (i := 19) (d := 91) (v := .bool false) (by kernel_rfl) rfl (by kernel_rfl) (by kernel_rfl) (by kernel_rfl) rfl (fun _ _ _ h => h) ⟨Or.inl ⟨by rfl, fun w hS => by obtain ⟨h0, h1, h2, h3, h4, h5⟩ := hS; go_simp⟩, fun _ => rfl⟩ hS ?_
  simp only [List.setIfInBounds_toArray, List.set_cons_zero, List.set_cons_succ]
  refine anyHF_take (i := 20) (d := 92) (v := .bool false) (by kernel_rfl) rfl (by kernel_rfl) (by kernel_rfl) (by kernel_rfl) rfl (fun _ _ _ h => h) ⟨Or.inl ⟨by rfl, fun w hS => by obtain ⟨h0, h1, h2, h3, h4, h5⟩ := hS; go_simp⟩, fun _ => rfl⟩ hS ?_
  simp only [List.setIfInBounds_toArray, List.set_cons_zero, List.set_cons_succ]
  refine anyHF_take (i := 21) (d := 93) (v := .slice (some ⟨bl, ol, none⟩) 2 kl) (by kernel_rfl) rfl (by kernel_rfl) (by kernel_rfl) (by kernel_rfl) rfl (fun _ _ _ h => h) ⟨Or.inl ⟨by rfl, fun w hS => by obtain ⟨h0, h1, h2, h3, h4, h5⟩ := hS; go_simp⟩, fun _ => rfl⟩ hS ?_
  simp only [List.setIfInBounds_toArray, List.set_cons_zero, List.set_cons_succ]
  refine anyHF_take (i := 22) (d := 94) (v := .pointer (some ⟨bl, ol + 1, none⟩)) (by kernel_rfl) rfl (by kernel_rfl) (by kernel_rfl) (by kernel_rfl) rfl (fun _ _ _ h => h) ⟨Or.inl ⟨by rfl, fun w hS => by obtain ⟨h0, h1, h2, h3, h4, h5⟩ := hS; go_simp⟩, fun _ => rfl⟩ hS ?_
  simp only [List.setIfInBounds_toArray, List.set_cons_zero, List.set_cons_succ]
  refine anyHF_take (i := 23) (d := 95) (v := .slice Db Q pb) (by kernel_rfl) rfl (by kernel_rfl) (by kernel_rfl) (by kernel_rfl) rfl (fun _ _ _ h => h) ⟨Or.inl ⟨by rfl, fun w hS => by obtain ⟨h0, h1, h2, h3, h4, h5⟩ := hS; go_simp⟩, fun _ => rfl⟩ hS ?_
  simp only [List.setIfInBounds_toArray, List.set_cons_zero, List.set_cons_succ]
  refine anyHF_take (i := 24) (d := 96) (v := .slice (some ⟨bu, ou, none⟩) (P + 1) ku) (by kernel_rfl) rfl (by kernel_rfl) (by kernel_rfl) (by kernel_rfl) rfl (fun _ _ _ h => h) ⟨Or.inl ⟨by rfl, fun w hS => by obtain ⟨h0, h1, h2, h3, h4, h5⟩ := hS; go_simp⟩, fun _ => rfl⟩ hS ?_
  simp only [List.setIfInBounds_toArray, List.set_cons_zero, List.set_cons_succ]
  refine anyHF_take (i := 25) (d := 97) (v := .pointer (some ⟨g0, 1, none⟩)) (by kernel_rfl) rfl (by kernel_rfl) (by kernel_rfl) (by kernel_rfl) rfl (fun _ _ _ h => h) ⟨Or.inl ⟨by rfl, fun w hS => by obtain ⟨h0, h1, h2, h3, h4, h5⟩ := hS; go_simp⟩, fun _ => rfl⟩ hS ?_
  simp only [List.setIfInBounds_toArray, List.set_cons_zero, List.set_cons_succ]
  refine anyHF_take (i := 26) (d := 98) (v := .int .i64 (b : Int)) (by kernel_rfl) rfl (by kernel_rfl) (by kernel_rfl) (by kernel_rfl) rfl (fun _ _ _ h => h) ⟨Or.inl ⟨by rfl, fun w hS => by obtain ⟨h0, h1, h2, h3, h4, h5⟩ := hS; go_simp⟩, fun _ => rfl⟩ hS ?_
  simp only [List.setIfInBounds_toArray, List.set_cons_zero, List.set_cons_succ]
  refine anyHF_take (i := 27) (d := 99) (v := .pointer (some ⟨bu, ou + b, none⟩)) (by kernel_rfl) rfl (by kernel_rfl) (by kernel_rfl) (by kernel_rfl) rfl (fun _ _ _ h => h) ⟨Or.inl ⟨by rfl, fun w hS => by obtain ⟨h0, h1, h2, h3, h4, h5⟩ := hS; go_simp⟩, fun _ => rfl⟩ hS ?_
  simp only [List.setIfInBounds_toArray, List.set_cons_zero, List.set_cons_succ]
  refine anyHF_take (i := 28) (d := 100) (v := .slice Cb Q qb) (by kernel_rfl) rfl (by kernel_rfl) (by kernel_rfl) (by kernel_rfl) rfl (fun _ _ _ h => h) ⟨Or.inl ⟨by rfl, fun w hS => by obtain ⟨h0, h1, h2, h3, h4, h5⟩ := hS; go_simp⟩, fun _ => rfl⟩ hS ?_
  simp only [List.setIfInBounds_toArray, List.set_cons_zero, List.set_cons_succ]
  refine anyHF_one (i := 29) (by kernel_rfl) rfl (by kernel_rfl) (by rfl) ?_
  gi_wp2_with fail
  refine ⟨trivial, (callsIn_wide.2 (HSB.out _ _ _ hmlb (((H2.out _ hB).2.2.2.2.2.2).more hB.size))).mono ?_⟩
  rintro e y2 ⟨rfl, hBn⟩
  replace hB := below_in hB hBn
  replace hB3 := below_in hB3 hBn
  replace hmlb := (hmlb.below hBn).more hBn.size
  clear hBn
  clear hS
  have hS : (fun U : World => U.cell? ⟨g0, 0, none⟩ = some (.int .i64 (a : Int)) ∧ U.cell? ⟨g0, 1, none⟩ = some (.int .i64 (b : Int)) ∧ U.cell? ⟨bl, ol, none⟩ = some (.slice Da Q pa) ∧ U.cell? ⟨bl, ol + 1, none⟩ = some (.slice Db Q pb) ∧ U.cell? ⟨bu, ou + a, none⟩ = some (.slice Ca Q qa) ∧ U.cell? ⟨bu, ou + b, none⟩ = some (.slice Cb Q qb)) y2 := HC7.out _ hB3 hB
  gi_wp2
  try (refine ⟨hS, ?_⟩)
  refine anyHF_take (i := 30) (d := 102) (v := .bool false) (by kernel_rfl) rfl (by kernel_rfl) (by kernel_rfl) (by kernel_rfl) rfl (fun _ _ _ h => h) ⟨Or.inl ⟨by rfl, fun w hS => by obtain ⟨h0, h1, h2, h3, h4, h5⟩ := hS; go_simp⟩, fun _ => rfl⟩ hS ?_
  simp only [List.setIfInBounds_toArray, List.set_cons_zero, List.set_cons_succ]
  refine anyHF_take (i := 31) (d := 103) (v := .bool false) (by kernel_rfl) rfl (by kernel_rfl) (by kernel_rfl) (by kernel_rfl) rfl (fun _ _ _ h => h) ⟨Or.inl ⟨by rfl, fun w hS => by obtain ⟨h0, h1, h2, h3, h4, h5⟩ := hS; go_simp⟩, fun _ => rfl⟩ hS ?_
  simp only [List.setIfInBounds_toArray, List.set_cons_zero, List.set_cons_succ]
  refine anyHF_done (by kernel_rfl) ?_ _
  refine NoPanic.normal ?_
  clear hS hmla hmlb HC7 hB3
  have hAB := below_one y2 (.cells #[] 50)
  obtain ⟨eB, heB⟩ : ∃ x, y2.alloc (.cells #[] 50) = x := ⟨_, rfl⟩
  obtain ⟨zB, hzB⟩ : ∃ x, y2.heap.size = x := ⟨_, rfl⟩
  have HZB := Lib.hid hzB
  have HROB : Hid (RowC (fun _ => True) eB zB (.slice (some ⟨zB, 0, none⟩) 0 0) []) := by unfold Hid; rw [← heB, ← hzB]; exact Go.Proofs.YtcchjofjpflbhaaGreatDoor.Rg.RowG.empty _ _ _ _ (Blk.new y2 50 #[]) (Nat.le_refl _)
  rw [heB] at hAB
  have HXB := Lib.hid (app_far hAB (by rw [hzB]; exact Nat.le_refl _) HROB.out (((H2.out _ hB).2.2.1.more hB.size).below hAB))
  have HSZB : Hid (zB ≤ eB.heap.size) := by unfold Hid; rw [← hzB]; exact hAB.size
  have hzwB : w2.heap.size ≤ zB := by rw [← hzB]; exact hB.size
  have HBB := Lib.hid (below_in hB hAB)
  have HEB := Lib.hid heB
  clear hB hzB heB hAB
  go_wp2_with (at_builtin; ((try rw [HZB.out]); (try rw [HEB.out]); refine wpList_appStripe _ rfl _ _ rfl [] allC rfl HROB.out rfl HXB.out (by have := HP17.out; rw [HAL.out]; omega) (by simp) (by have := HP17.out; rw [HAL.out]; omega) HSZB.out ?_; intro vbB rB hrowB hgrowB _; rw [List.nil_append] at hrowB; obtain ⟨gbB, cbB, curB, hveB, hcbB, hgbB, bBB, hcsB, hcuB⟩ := rowC_blkT hrowB (by rw [HAL.out]; omega); rw [HAL.out] at hveB hcbB hcsB; subst hveB; have hBgB : Below zB eB rB := below_grown (Below.refl _ _) hgrowB HSZB.out (fun q e => RowG.own_le HROB.out q e); have hB : Below w2.heap.size w2 rB := HBB.out.trans (hBgB.mono hzwB); have hgzB : w2.heap.size ≤ gbB := Nat.le_trans hzwB hgbB; have hvjB : manyR.R (fun b => b < rB.heap.size ∧ b ≠ gbB) rB (.slice Aj lj kj) cj := manyR.imp (manyR_iff.2 (HJ.out _ (H2.out _ hB).1)) (fun k hk => by have hk2 : k < w.heap.size := hk; have hs := hB.size; exact ⟨by omega, by omega⟩); have hniB : manyR.R (fun b => b < rB.heap.size ∧ b ≠ gbB) rB (.slice none 0 0) [] := ⟨none, 0, rfl, Nat.le_refl _, fun h => absurd h (Nat.lt_irrefl _)⟩; have kk := (H2.out _ hB).2.1; have k0 := kk.cell 0; have k1 := kk.cell 1; simp only [List.getElem?_toArray, List.getElem?_cons_zero, List.getElem?_cons_succ] at k0 k1; clear kk; have hf1 := bBB.frozen b; obtain ⟨old1, hold1⟩ : ∃ old, rB.cell? ⟨gbB, b, none⟩ = some old := ⟨_, by rw [bBB.cell b, Array.getElem?_eq_getElem (by have := HAB.out; omega)]⟩; have bB1 := bBB.set_ b (.slice none 0 0); have hf2 := bB1.frozen P; have hf2r : rB.frozen? ⟨gbB, P, none⟩ = false := bBB.frozen P; have hnab : ¬ b = P := (by have := HAB.out; omega); have hnba : ¬ P = b := (by have := HAB.out; omega); obtain ⟨old2, hold2r⟩ : ∃ old, rB.cell? ⟨gbB, P, none⟩ = some old := ⟨_, by rw [bBB.cell P, Array.getElem?_eq_getElem (by omega)]⟩; have hold2 : (rB.setCell ⟨gbB, b, none⟩ (.slice none 0 0)).cell? ⟨gbB, P, none⟩ = some old2 := (by rw [bB1.cell P, Array.getElem?_setIfInBounds_ne (by omega), ← hold2r]; exact (bBB.cell P).symm); have hB1 : Below w2.heap.size w2 (rB.setCell ⟨gbB, b, none⟩ (.slice none 0 0)) := hB.setCell (p := ⟨gbB, b, none⟩) hgzB _; have hB2 : Below w2.heap.size w2 ((rB.setCell ⟨gbB, b, none⟩ (.slice none 0 0)).setCell ⟨gbB, P, none⟩ (.slice Aj lj kj)) := hB1.setCell (p := ⟨gbB, P, none⟩) hgzB _; have hC5 : Cols ((rB.setCell ⟨gbB, b, none⟩ (.slice none 0 0)).setCell ⟨gbB, P, none⟩ (.slice Aj lj kj)).heap.size ((rB.setCell ⟨gbB, b, none⟩ (.slice none 0 0)).setCell ⟨gbB, P, none⟩ (.slice Aj lj kj)) (.slice (some ⟨gbB, 0, none⟩) (P + 1) cbB) ((allC.set b []).set P cj) := cols_two_set bBB HAL.out hcbB hcsB hcuB (by have := HAB.out; omega) (by omega) (by have := HAB.out; omega) hniB hvjB _ rfl; have q0 := ((H2.out _ hB2).2.1).cell 0; have q1 := ((H2.out _ hB2).2.1).cell 1; simp only [List.getElem?_toArray, List.getElem?_cons_zero, List.getElem?_cons_succ] at q0 q1; obtain ⟨X6, hX6⟩ : ∃ x, ((rB.setCell ⟨gbB, b, none⟩ (.slice none 0 0)).setCell ⟨gbB, P, none⟩ (.slice Aj lj kj)) = x := ⟨_, rfl⟩; rw [hX6] at hC5 hB2 q0 q1; have HX6 := Lib.hid hX6; clear hX6 bB1 bBB hcuB hcsB hB1 hB hvjB hniB))
  clear hBgB hgrowB hrowB HBB HROB HXB HSZB hzwB hgbB
  (try rw [HX6.out])
  refine (HAO.out _ _ _ (H2.out _ hB2).1 hC5).mono ?_
  rintro e w4 ⟨uc, rfl, hcm, hB3⟩
  have hB := below_in hB2 hB3
  clear q0 q1 k0 k1 hold1 hold2 hold2r hf2r hnab hnba hf1 hf2 hC5 hB2 hB3 HX6
  obtain ⟨Dc, pc, euc, _⟩ := id hcm
  rw [HGQ.out.2] at euc
  subst euc
  have kk := (H2.out _ hB).2.1
  have k0 := kk.cell 0
  have k1 := kk.cell 1
  simp only [List.getElem?_toArray, List.getElem?_cons_zero, List.getElem?_cons_succ] at k0 k1
  clear kk
  go_wp2_with fail
  refine (HOR.out _ (H2.out _ hB).1).mono ?_
  rintro e w5 ⟨uo, rfl, hown, hB3⟩
  replace hB := below_in hB hB3
  replace hcm := (hcm.below hB3).more hB3.size
  clear k0 k1 hB3
  obtain ⟨oA, oc, eo, hord⟩ := hown.readA
  clear hown
  have eo' : uo = .slice oA lo.length oc := eo
  clear eo
  rw [HLM.out] at eo'
  subst eo'
  obtain ⟨go, hgoA, hgo, hx1, hx2⟩ := hord 0 (by rw [HLM.out, HM2.out]; have := HPQ.out; have := HP3.out; omega)
  clear hx1 hx2
  subst hgoA
  have HORD : Hid (∀ U, Below w5.heap.size w5 U → ∀ (k : Nat) (hk : k < lo.length), U.cell? ⟨go, k * 2, none⟩ = some (.int .i64 (lo[k]).1) ∧ U.cell? ⟨go, k * 2 + 1, none⟩ = some (.int .i64 (lo[k]).2)) := fun U hU k hk => by
    obtain ⟨g, e1, hg5, h1, h2⟩ := hord k hk
    injection e1 with e1
    injection e1 with e1 _ _
    subst e1
    exact ⟨(hU.cell (p := ⟨go, k * 2, none⟩) hg5).trans h1, (hU.cell (p := ⟨go, k * 2 + 1, none⟩) hg5).trans h2⟩
  clear hord
  have HCKX : Hid (∀ U, Below w2.heap.size w2 U → (fun U : World => U.cell? ⟨g0, 0, none⟩ = some (.int .i64 (a : Int)) ∧ U.cell? ⟨g0, 1, none⟩ = some (.int .i64 (b : Int)) ∧ U.cell? ⟨bu, ou + b, none⟩ = some (.slice Cb Q qb)) U) := fun U hU => ⟨(H2.out U hU).2.1.cell 0, (H2.out U hU).2.1.cell 1, (H2.out U hU).2.2.2.2.1⟩
  go_wp2_with fail
  have hS : (fun U : World => U.cell? ⟨g0, 0, none⟩ = some (.int .i64 (a : Int)) ∧ U.cell? ⟨g0, 1, none⟩ = some (.int .i64 (b : Int)) ∧ U.cell? ⟨bu, ou + b, none⟩ = some (.slice Cb Q qb)) w5.drew := HCKX.out _ hB.drew
  have hBo := (Below.refl w5.heap.size w5).drew
  replace hB := hB.drew
  replace hcm : Many w5.drew.heap.size w5.drew _ _ := hcm
  refine (wpIn_wide (n := 12)).1 (wpIn_mono (region_HF (Q := NoPanic _) (S := (fun U : World => U.cell? ⟨g0, 0, none⟩ = some (.int .i64 (a : Int)) ∧ U.cell? ⟨g0, 1, none⟩ = some (.int .i64 (b : Int)) ∧ U.cell? ⟨bu, ou + b, none⟩ = some (.slice Cb Q qb))) (by kernel_rfl) ?_) NoPanic.imp)
  refine anyHF_take (i := 0) (d := 132) (v := .int .i64 0) (by kernel_rfl) rfl (by kernel_rfl) (by kernel_rfl) (by kernel_rfl) rfl (fun _ _ _ h => h) ⟨Or.inl ⟨by rfl, fun w hS => by obtain ⟨h0, h1, h2⟩ := hS; go_simp⟩, fun _ => rfl⟩ hS ?_
  simp only [List.setIfInBounds_toArray, List.set_cons_zero, List.set_cons_succ]
  refine anyHF_take (i := 2) (d := 134) (v := .int .i64 0) (by kernel_rfl) rfl (by kernel_rfl) (by kernel_rfl) (by kernel_rfl) rfl (fun _ _ _ h => h) ⟨Or.inl ⟨by rfl, fun w hS => by obtain ⟨h0, h1, h2⟩ := hS; go_simp⟩, fun _ => rfl⟩ hS ?_
  simp only [List.setIfInBounds_toArray, List.set_cons_zero, List.set_cons_succ]
  refine anyHF_one (i := 1) (by kernel_rfl) rfl (by kernel_rfl) (by rfl) ?_
  gi_wp2_with fail
  refine ⟨trivial, (callsIn_wide.2 (num12_any _ _)).mono ?_⟩
  rintro e wn ⟨rfl, rfl⟩
  gi_wp2
  try (refine ⟨hS, ?_⟩)
  refine anyHF_one (i := 3) (by kernel_rfl) rfl (by kernel_rfl) (by rfl) ?_
  gi_wp2_with fail
  refine ⟨trivial, (callsIn_wide.2 (num12_any _ _)).mono ?_⟩
  rintro e wn ⟨rfl, rfl⟩
  gi_wp2
  try (refine ⟨hS, ?_⟩)
  refine anyHF_take (i := 4) (d := 136) (v := .int .i64 0) (by kernel_rfl) rfl (by kernel_rfl) (by kernel_rfl) (by kernel_rfl) rfl (fun _ _ _ h => h) ⟨Or.inl ⟨by rfl, fun w hS => by obtain ⟨h0, h1, h2⟩ := hS; go_simp⟩, fun _ => rfl⟩ hS ?_
  simp only [List.setIfInBounds_toArray, List.set_cons_zero, List.set_cons_succ]
  refine anyHF_take (i := 5) (d := 137) (v := .bool false) (by kernel_rfl) rfl (by kernel_rfl) (by kernel_rfl) (by kernel_rfl) rfl (fun _ _ _ h => h) ⟨Or.inl ⟨by rfl, fun w hS => by obtain ⟨h0, h1, h2⟩ := hS; go_simp⟩, fun _ => rfl⟩ hS ?_
  simp only [List.setIfInBounds_toArray, List.set_cons_zero, List.set_cons_succ]
  refine anyHF_take (i := 6) (d := 138) (v := .bool false) (by kernel_rfl) rfl (by kernel_rfl) (by kernel_rfl) (by kernel_rfl) rfl (fun _ _ _ h => h) ⟨Or.inl ⟨by rfl, fun w hS => by obtain ⟨h0, h1, h2⟩ := hS; go_simp⟩, fun _ => rfl⟩ hS ?_
  simp only [List.setIfInBounds_toArray, List.set_cons_zero, List.set_cons_succ]
  refine anyHF_take (i := 7) (d := 139) (v := .slice Dc Q pc) (by kernel_rfl) rfl (by kernel_rfl) (by kernel_rfl) (by kernel_rfl) rfl (fun _ _ _ h => h) ⟨Or.inl ⟨by rfl, fun w hS => by obtain ⟨h0, h1, h2⟩ := hS; go_simp⟩, fun _ => rfl⟩ hS ?_
  simp only [List.setIfInBounds_toArray, List.set_cons_zero, List.set_cons_succ]
  refine anyHF_take (i := 8) (d := 140) (v := .slice (some ⟨bu, ou, none⟩) (P + 1) ku) (by kernel_rfl) rfl (by kernel_rfl) (by kernel_rfl) (by kernel_rfl) rfl (fun _ _ _ h => h) ⟨Or.inl ⟨by rfl, fun w hS => by obtain ⟨h0, h1, h2⟩ := hS; go_simp⟩, fun _ => rfl⟩ hS ?_
  simp only [List.setIfInBounds_toArray, List.set_cons_zero, List.set_cons_succ]
  refine anyHF_take (i := 9) (d := 141) (v := .pointer (some ⟨g0, 1, none⟩)) (by kernel_rfl) rfl (by kernel_rfl) (by kernel_rfl) (by kernel_rfl) rfl (fun _ _ _ h => h) ⟨Or.inl ⟨by rfl, fun w hS => by obtain ⟨h0, h1, h2⟩ := hS; go_simp⟩, fun _ => rfl⟩ hS ?_
  simp only [List.setIfInBounds_toArray, List.set_cons_zero, List.set_cons_succ]
  refine anyHF_take (i := 10) (d := 142) (v := .int .i64 (b : Int)) (by kernel_rfl) rfl (by kernel_rfl) (by kernel_rfl) (by kernel_rfl) rfl (fun _ _ _ h => h) ⟨Or.inl ⟨by rfl, fun w hS => by obtain ⟨h0, h1, h2⟩ := hS; go_simp⟩, fun _ => rfl⟩ hS ?_
  simp only [List.setIfInBounds_toArray, List.set_cons_zero, List.set_cons_succ]
  refine anyHF_take (i := 11) (d := 143) (v := .pointer (some ⟨bu, ou + b, none⟩)) (by kernel_rfl) rfl (by kernel_rfl) (by kernel_rfl) (by kernel_rfl) rfl (fun _ _ _ h => h) ⟨Or.inl ⟨by rfl, fun w hS => by obtain ⟨h0, h1, h2⟩ := hS; go_simp⟩, fun _ => rfl⟩ hS ?_
  simp only [List.setIfInBounds_toArray, List.set_cons_zero, List.set_cons_succ]
  refine anyHF_take (i := 12) (d := 144) (v := .slice Cb Q qb) (by kernel_rfl) rfl (by kernel_rfl) (by kernel_rfl) (by kernel_rfl) rfl (fun _ _ _ h => h) ⟨Or.inl ⟨by rfl, fun w hS => by obtain ⟨h0, h1, h2⟩ := hS; go_simp⟩, fun _ => rfl⟩ hS ?_
  simp only [List.setIfInBounds_toArray, List.set_cons_zero, List.set_cons_succ]
  refine anyHF_one (i := 13) (by kernel_rfl) rfl (by kernel_rfl) (by rfl) ?_
  gi_wp2_with fail
  refine ⟨trivial, (callsIn_wide.2 (HSB.out _ _ _ hcm (((H2.out _ hB).2.2.2.2.2.2).more hB.size))).mono ?_⟩
  rintro e y5 ⟨rfl, hBn⟩
  replace hB := below_in hB hBn
  replace hBo := below_in hBo hBn
  clear hBn hcm
  clear hS
  have hS : (fun U : World => U.cell? ⟨g0, 0, none⟩ = some (.int .i64 (a : Int)) ∧ U.cell? ⟨g0, 1, none⟩ = some (.int .i64 (b : Int)) ∧ U.cell? ⟨bu, ou + b, none⟩ = some (.slice Cb Q qb)) y5 := HCKX.out _ hB
  gi_wp2
  try (refine ⟨hS, ?_⟩)
  refine anyHF_take (i := 14) (d := 146) (v := .bool false) (by kernel_rfl) rfl (by kernel_rfl) (by kernel_rfl) (by kernel_rfl) rfl (fun _ _ _ h => h) ⟨Or.inl ⟨by rfl, fun w hS => by obtain ⟨h0, h1, h2⟩ := hS; go_simp⟩, fun _ => rfl⟩ hS ?_
  simp only [List.setIfInBounds_toArray, List.set_cons_zero, List.set_cons_succ]
  refine anyHF_take (i := 15) (d := 147) (v := .bool false) (by kernel_rfl) rfl (by kernel_rfl) (by kernel_rfl) (by kernel_rfl) rfl (fun _ _ _ h => h) ⟨Or.inl ⟨by rfl, fun w hS => by obtain ⟨h0, h1, h2⟩ := hS; go_simp⟩, fun _ => rfl⟩ hS ?_
  simp only [List.setIfInBounds_toArray, List.set_cons_zero, List.set_cons_succ]
  refine anyHF_take (i := 16) (d := 148) (v := .bool false) (by kernel_rfl) rfl (by kernel_rfl) (by kernel_rfl) (by kernel_rfl) rfl (fun _ _ _ h => h) ⟨Or.inl ⟨by rfl, fun w hS => by obtain ⟨h0, h1, h2⟩ := hS; go_simp⟩, fun _ => rfl⟩ hS ?_
  simp only [List.setIfInBounds_toArray, List.set_cons_zero, List.set_cons_succ]
  refine anyHF_take (i := 17) (d := 149) (v := .slice (some ⟨go, 0, none⟩) M oc) (by kernel_rfl) rfl (by kernel_rfl) (by kernel_rfl) (by kernel_rfl) rfl (fun _ _ _ h => h) ⟨Or.inl ⟨by rfl, fun w hS => by obtain ⟨h0, h1, h2⟩ := hS; go_simp⟩, fun _ => rfl⟩ hS ?_
  simp only [List.setIfInBounds_toArray, List.set_cons_zero, List.set_cons_succ]
  refine anyHF_take (i := 18) (d := 150) (v := .int .i64 (M : Int)) (by kernel_rfl) rfl (by kernel_rfl) (by kernel_rfl) (by kernel_rfl) rfl (fun _ _ _ h => h) ⟨Or.inl ⟨by rfl, fun w hS => by obtain ⟨h0, h1, h2⟩ := hS; go_simp⟩, fun _ => rfl⟩ hS ?_
  simp only [List.setIfInBounds_toArray, List.set_cons_zero, List.set_cons_succ]
  refine anyHF_take (i := 19) (d := 151) (v := .int .i64 (P : Int)) (by kernel_rfl) rfl (by kernel_rfl) (by kernel_rfl) (by kernel_rfl) rfl (fun _ _ _ h => h) ⟨Or.inl ⟨by rfl, fun w hS => by obtain ⟨h0, h1, h2⟩ := hS; go_simp⟩, fun _ => rfl⟩ hS ?_
  simp only [List.setIfInBounds_toArray, List.set_cons_zero, List.set_cons_succ]
  refine anyHF_take (i := 20) (d := 152) (v := .int .i64 (2 * (P : Int))) (by kernel_rfl) rfl (by kernel_rfl) (by kernel_rfl) (by kernel_rfl) rfl (fun _ _ _ h => h) ⟨Or.inl ⟨by rfl, fun w hS => by obtain ⟨h0, h1, h2⟩ := hS; go_simp⟩, fun _ => rfl⟩ hS ?_
  simp only [List.setIfInBounds_toArray, List.set_cons_zero, List.set_cons_succ]
  refine anyHF_take (i := 21) (d := 153) (v := .int .i64 (2 * (P : Int) - 2)) (by kernel_rfl) rfl (by kernel_rfl) (by kernel_rfl) (by kernel_rfl) rfl (fun _ _ _ h => h) ⟨Or.inl ⟨by rfl, fun w hS => by obtain ⟨h0, h1, h2⟩ := hS; go_simp⟩, fun _ => rfl⟩ hS ?_
  simp only [List.setIfInBounds_toArray, List.set_cons_zero, List.set_cons_succ]
  refine anyHF_take (i := 22) (d := 154) (v := .bool false) (by kernel_rfl) rfl (by kernel_rfl) (by kernel_rfl) (by kernel_rfl) rfl (fun _ _ _ h => h) ⟨Or.inl ⟨by rfl, fun w hS => by obtain ⟨h0, h1, h2⟩ := hS; go_simp⟩, fun _ => rfl⟩ hS ?_
  simp only [List.setIfInBounds_toArray, List.set_cons_zero, List.set_cons_succ]
  refine anyHF_take (i := 23) (d := 155) (v := .bool false) (by kernel_rfl) rfl (by kernel_rfl) (by kernel_rfl) (by kernel_rfl) rfl (fun _ _ _ h => h) ⟨Or.inl ⟨by rfl, fun w hS => by obtain ⟨h0, h1, h2⟩ := hS; go_simp⟩, fun _ => rfl⟩ hS ?_
  simp only [List.setIfInBounds_toArray, List.set_cons_zero, List.set_cons_succ]
  refine anyHF_take (i := 24) (d := 156) (v := .bool false) (by kernel_rfl) rfl (by kernel_rfl) (by kernel_rfl) (by kernel_rfl) rfl (fun _ _ _ h => h) ⟨Or.inl ⟨by rfl, fun w hS => by obtain ⟨h0, h1, h2⟩ := hS; go_simp⟩, fun _ => rfl⟩ hS ?_
  simp only [List.setIfInBounds_toArray, List.set_cons_zero, List.set_cons_succ]
  refine anyHF_take (i := 25) (d := 157) (v := .int .i64 (P : Int)) (by kernel_rfl) rfl (by kernel_rfl) (by kernel_rfl) (by kernel_rfl) rfl (fun _ _ _ h => h) ⟨Or.inl ⟨by rfl, fun w hS => by obtain ⟨h0, h1, h2⟩ := hS; go_simp⟩, fun _ => rfl⟩ hS ?_
  simp only [List.setIfInBounds_toArray, List.set_cons_zero, List.set_cons_succ]
  refine anyHF_take (i := 26) (d := 158) (v := .pointer (some ⟨g0, 0, none⟩)) (by kernel_rfl) rfl (by kernel_rfl) (by kernel_rfl) (by kernel_rfl) rfl (fun _ _ _ h => h) ⟨Or.inl ⟨by rfl, fun w hS => by obtain ⟨h0, h1, h2⟩ := hS; go_simp⟩, fun _ => rfl⟩ hS ?_
  simp only [List.setIfInBounds_toArray, List.set_cons_zero, List.set_cons_succ]
  refine anyHF_take (i := 27) (d := 159) (v := .int .i64 (a : Int)) (by kernel_rfl) rfl (by kernel_rfl) (by kernel_rfl) (by kernel_rfl) rfl (fun _ _ _ h => h) ⟨Or.inl ⟨by rfl, fun w hS => by obtain ⟨h0, h1, h2⟩ := hS; go_simp⟩, fun _ => rfl⟩ hS ?_
  simp only [List.setIfInBounds_toArray, List.set_cons_zero, List.set_cons_succ]
  refine anyHF_take (i := 28) (d := 160) (v := .pointer (some ⟨g0, 1, none⟩)) (by kernel_rfl) rfl (by kernel_rfl) (by kernel_rfl) (by kernel_rfl) rfl (fun _ _ _ h => h) ⟨Or.inl ⟨by rfl, fun w hS => by obtain ⟨h0, h1, h2⟩ := hS; go_simp⟩, fun _ => rfl⟩ hS ?_
  simp only [List.setIfInBounds_toArray, List.set_cons_zero, List.set_cons_succ]
  refine anyHF_take (i := 29) (d := 161) (v := .int .i64 (b : Int)) (by kernel_rfl) rfl (by kernel_rfl) (by kernel_rfl) (by kernel_rfl) rfl (fun _ _ _ h => h) ⟨Or.inl ⟨by rfl, fun w hS => by obtain ⟨h0, h1, h2⟩ := hS; go_simp⟩, fun _ => rfl⟩ hS ?_
  simp only [List.setIfInBounds_toArray, List.set_cons_zero, List.set_cons_succ]
  refine anyHF_take (i := 32) (d := 164) (v := .int .i64 (P : Int)) (by kernel_rfl) rfl (by kernel_rfl) (by kernel_rfl) (by kernel_rfl) rfl (fun _ _ _ h => h) ⟨Or.inl ⟨by rfl, fun w hS => by obtain ⟨h0, h1, h2⟩ := hS; go_simp⟩, fun _ => rfl⟩ hS ?_
  simp only [List.setIfInBounds_toArray, List.set_cons_zero, List.set_cons_succ]
  refine anyHF_take (i := 33) (d := 165) (v := .pointer (some ⟨g0, 1, none⟩)) (by kernel_rfl) rfl (by kernel_rfl) (by kernel_rfl) (by kernel_rfl) rfl (fun _ _ _ h => h) ⟨Or.inl ⟨by rfl, fun w hS => by obtain ⟨h0, h1, h2⟩ := hS; go_simp⟩, fun _ => rfl⟩ hS ?_
  simp only [List.setIfInBounds_toArray, List.set_cons_zero, List.set_cons_succ]
  refine anyHF_take (i := 34) (d := 166) (v := .int .i64 (b : Int)) (by kernel_rfl) rfl (by kernel_rfl) (by kernel_rfl) (by kernel_rfl) rfl (fun _ _ _ h => h) ⟨Or.inl ⟨by rfl, fun w hS => by obtain ⟨h0, h1, h2⟩ := hS; go_simp⟩, fun _ => rfl⟩ hS ?_
  simp only [List.setIfInBounds_toArray, List.set_cons_zero, List.set_cons_succ]
  refine anyHF_take (i := 35) (d := 167) (v := .pointer (some ⟨g0, 0, none⟩)) (by kernel_rfl) rfl (by kernel_rfl) (by kernel_rfl) (by kernel_rfl) rfl (fun _ _ _ h => h) ⟨Or.inl ⟨by rfl, fun w hS => by obtain ⟨h0, h1, h2⟩ := hS; go_simp⟩, fun _ => rfl⟩ hS ?_
  simp only [List.setIfInBounds_toArray, List.set_cons_zero, List.set_cons_succ]
  refine anyHF_take (i := 36) (d := 168) (v := .int .i64 (a : Int)) (by kernel_rfl) rfl (by kernel_rfl) (by kernel_rfl) (by kernel_rfl) rfl (fun _ _ _ h => h) ⟨Or.inl ⟨by rfl, fun w hS => by obtain ⟨h0, h1, h2⟩ := hS; go_simp⟩, fun _ => rfl⟩ hS ?_
  simp only [List.setIfInBounds_toArray, List.set_cons_zero, List.set_cons_succ]
  refine anyHF_take (i := 40) (d := 172) (v := .int .i64 (P : Int)) (by kernel_rfl) rfl (by kernel_rfl) (by kernel_rfl) (by kernel_rfl) rfl (fun _ _ _ h => h) ⟨Or.inl ⟨by rfl, fun w hS => by obtain ⟨h0, h1, h2⟩ := hS; go_simp⟩, fun _ => rfl⟩ hS ?_
  simp only [List.setIfInBounds_toArray, List.set_cons_zero, List.set_cons_succ]
  refine anyHF_take (i := 41) (d := 173) (v := .int .i64 (2 * (P : Int))) (by kernel_rfl) rfl (by kernel_rfl) (by kernel_rfl) (by kernel_rfl) rfl (fun _ _ _ h => h) ⟨Or.inl ⟨by rfl, fun w hS => by obtain ⟨h0, h1, h2⟩ := hS; go_simp⟩, fun _ => rfl⟩ hS ?_
  simp only [List.setIfInBounds_toArray, List.set_cons_zero, List.set_cons_succ]
  refine anyHF_take (i := 42) (d := 174) (v := .int .i64 (2 * (P : Int) - 2)) (by kernel_rfl) rfl (by kernel_rfl) (by kernel_rfl) (by kernel_rfl) rfl (fun _ _ _ h => h) ⟨Or.inl ⟨by rfl, fun w hS => by obtain ⟨h0, h1, h2⟩ := hS; go_simp⟩, fun _ => rfl⟩ hS ?_
  simp only [List.setIfInBounds_toArray, List.set_cons_zero, List.set_cons_succ]
  refine anyHF_one (i := 30) (by kernel_rfl) rfl (by kernel_rfl) (by rfl) ?_
  gi_wp2_with fail
  refine ⟨trivial, (callsIn_wide.2 (HARM1.out _ (H2.out _ hB).1)).mono ?_⟩
  rintro e y6 ⟨um, rfl, hum, hBn⟩
  obtain ⟨Am1, cm1, em, _⟩ := hum.readA
  have em' : um = .slice Am1 la.length cm1 := em
  rw [HNA.out] at em'
  subst em'
  clear em hum
  replace hB := below_in hB hBn
  replace hBo := below_in hBo hBn
  clear hBn
  clear hS
  have hS : (fun U : World => U.cell? ⟨g0, 0, none⟩ = some (.int .i64 (a : Int)) ∧ U.cell? ⟨g0, 1, none⟩ = some (.int .i64 (b : Int)) ∧ U.cell? ⟨bu, ou + b, none⟩ = some (.slice Cb Q qb)) y6 := HCKX.out _ hB
  gi_wp2
  try (refine ⟨hS, ?_⟩)
  refine anyHF_take (i := 31) (d := 163) (v := .int .i64 (na : Int)) (by kernel_rfl) rfl (by kernel_rfl) (by kernel_rfl) (by kernel_rfl) rfl (fun _ _ _ h => h) ⟨Or.inl ⟨by rfl, fun w hS => by obtain ⟨h0, h1, h2⟩ := hS; go_simp⟩, fun _ => rfl⟩ hS ?_
  simp only [List.setIfInBounds_toArray, List.set_cons_zero, List.set_cons_succ]
  refine anyHF_one (i := 37) (by kernel_rfl) rfl (by kernel_rfl) (by rfl) ?_
  gi_wp2_with fail
  refine ⟨trivial, (callsIn_wide.2 (HARM2.out _ (H2.out _ hB).1)).mono ?_⟩
  rintro e w6 ⟨um, rfl, hum, hBn⟩
  obtain ⟨Am2, cm2, em, _⟩ := hum.readA
  have em' : um = .slice Am2 lb.length cm2 := em
  rw [HNB.out] at em'
  subst em'
  clear em hum
  replace hB := below_in hB hBn
  replace hBo := below_in hBo hBn
  clear hBn
  clear hS
  have hS : (fun U : World => U.cell? ⟨g0, 0, none⟩ = some (.int .i64 (a : Int)) ∧ U.cell? ⟨g0, 1, none⟩ = some (.int .i64 (b : Int)) ∧ U.cell? ⟨bu, ou + b, none⟩ = some (.slice Cb Q qb)) w6 := HCKX.out _ hB
  gi_wp2
  try (refine ⟨hS, ?_⟩)
  refine anyHF_take (i := 38) (d := 170) (v := .int .i64 (nb : Int)) (by kernel_rfl) rfl (by kernel_rfl) (by kernel_rfl) (by kernel_rfl) rfl (fun _ _ _ h => h) ⟨Or.inl ⟨by rfl, fun w hS => by obtain ⟨h0, h1, h2⟩ := hS; go_simp⟩, fun _ => rfl⟩ hS ?_
  simp only [List.setIfInBounds_toArray, List.set_cons_zero, List.set_cons_succ]
  refine anyHF_take (i := 39) (d := 171) (v := .int .i64 ((na : Int) + (nb : Int))) (by kernel_rfl) rfl (by kernel_rfl) (by kernel_rfl) (by kernel_rfl) rfl (fun _ _ _ h => h) ⟨Or.inl ⟨by rfl, fun w hS => by obtain ⟨h0, h1, h2⟩ := hS; go_simp⟩, fun _ => rfl⟩ hS ?_
  simp only [List.setIfInBounds_toArray, List.set_cons_zero, List.set_cons_succ]
  refine anyHF_take (i := 43) (d := 175) (v := .bool false) (by kernel_rfl) rfl (by kernel_rfl) (by kernel_rfl) (by kernel_rfl) rfl (fun _ _ _ h => h) ⟨Or.inl ⟨by rfl, fun w hS => by obtain ⟨h0, h1, h2⟩ := hS; go_simp⟩, fun _ => rfl⟩ hS ?_
  simp only [List.setIfInBounds_toArray, List.set_cons_zero, List.set_cons_succ]
  refine anyHF_take (i := 44) (d := 176) (v := .bool false) (by kernel_rfl) rfl (by kernel_rfl) (by kernel_rfl) (by kernel_rfl) rfl (fun _ _ _ h => h) ⟨Or.inl ⟨by rfl, fun w hS => by obtain ⟨h0, h1, h2⟩ := hS; go_simp⟩, fun _ => rfl⟩ hS ?_
  simp only [List.setIfInBounds_toArray, List.set_cons_zero, List.set_cons_succ]
  refine anyHF_done (by kernel_rfl) ?_ _
  refine NoPanic.normal ?_
  clear hS HCKX
  have hgo6 : go < w6.heap.size := Nat.lt_of_lt_of_le hgo hBo.size
  have HORD6 : Hid (∀ (k : Nat) (hk : k < lo.length), w6.cell? ⟨go, k * 2, none⟩ = some (.int .i64 (lo[k]).1) ∧ w6.cell? ⟨go, k * 2 + 1, none⟩ = some (.int .i64 (lo[k]).2)) := HORD.out w6 hBo
  clear HORD hBo hgo HARM1 HARM2
  obtain ⟨gm, hgm⟩ : ∃ x, w6.heap.size = x := ⟨_, rfl⟩
  have hmp0 : AtMap (w6.alloc (.map #[] 0)) gm [] := by rw [← hgm]; exact AtMap.made w6
  have hBm0 := below_one w6 (.map #[] 0)
  obtain ⟨w7, hw7⟩ : ∃ x, w6.alloc (.map #[] 0) = x := ⟨_, rfl⟩
  rw [hw7] at hmp0 hBm0
  rw [hgm] at hBm0 hgo6
  have hB2g : w2.heap.size ≤ gm := by rw [← hgm]; exact hB.size
  have HLT := Lib.hid (And.intro hgo6 hB2g)
  have HB6 := Lib.hid hB
  have HGM := Lib.hid (And.intro hgm hw7)
  clear hgm hw7 hB hgo6
  go_wp2_with fail
  (try rw [HGM.out.2]); (try rw [HGM.out.1])
  go_loopw [18] (fun i wr => ∃ k : Nat, k ≤ M ∧ i = .int .i64 k ∧ AtMap wr gm (lo.take k) ∧ Below gm w6 wr) (fun i _ => M - (intOf i).toNat)
  case atStart => exact ⟨0, Nat.zero_le _, rfl, hmp0, hBm0⟩
  case round =>
    have hMs : M ≤ 100 := by have := HM2.out; have := HPQ.out; have := HP17.out; omega
    obtain ⟨k, hk, rfl, hmp, hBr⟩ := hrel
    clear hmp0 hBm0
    have hB : Below w2.heap.size w2 wr := HB6.out.trans (hBr.mono HLT.out.2)
    by_cases hlt : k < M
    · have HKM := Lib.hid hlt
      have hdec : decide ((k : Int) < (M : Int)) = true := by simp; omega
      have hkl : k < lo.length := by rw [HLM.out]; exact hlt
      obtain ⟨hc0, hc1⟩ := HORD6.out k hkl
      replace hc0 := (hBr.cell (p := ⟨go, k * 2, none⟩) HLT.out.1).trans hc0
      replace hc1 := (hBr.cell (p := ⟨go, k * 2 + 1, none⟩) HLT.out.1).trans hc1
      have hz := HRS.out.2.2.2 lo[k] (List.getElem_mem hkl)
      have hnew := nd_new HRS.out.2.2.1 hkl
      have HTK : Hid (lo.take (k + 1) = lo.take k ++ [lo[k]]) := by unfold Hid; rw [List.take_add_one, List.getElem?_eq_getElem hkl]; rfl
      generalize lo[k] = zz at *
      obtain ⟨col, row⟩ := zz
      dsimp only at hc0 hc1 hz
      obtain ⟨hcc, hr0, hr1⟩ := hz
      generalize lo.take k = pre at *
      have hA := below_one wr (.cells #[.int .i64 col, .int .i64 row] 31)
      have bT := Blk.new wr 31 #[.int .i64 col, .int .i64 row]
      have t0 := bT.cell 0
      have t1 := bT.cell 1
      simp only [List.getElem?_toArray, List.getElem?_cons_zero, List.getElem?_cons_succ] at t0 t1
      have hmx := hmp.below hA hmp.lt
      have hlk := hmx.look col row hnew
      obtain ⟨X, hput, hmq, hBX⟩ := hmx.put col row hnew
      have HR := Lib.hid (And.intro hmq ((hBr.trans (hA.mono (Nat.le_of_lt hmp.lt))).trans hBX))
      have kk := ((H2.out _ hB).2.1).below hA ((H2.out _ hB).2.1).lt
      have k0 := kk.cell 0
      have k1 := kk.cell 1
      simp only [List.getElem?_toArray, List.getElem?_cons_zero, List.getElem?_cons_succ] at k0 k1
      have d3 : decide (row < 0) = false := decide_eq_false (by omega)
      have d4 : decide ((P : Int) - 1 ≤ row) = false := decide_eq_false (by omega)
      have i5 : (0 : Int) ≤ (k : Int) := by omega
      have i6 : (k : Int) < (M : Int) := by omega
      clear hmq hBX hmx bT kk hnew hmp hA hkl
      rcases hcc with rfl | rfl
      · have d1 : ((a : Int) != (a : Int)) = false := by simp
        go_wp2
        go_roundw
        case rel => exact ⟨k + 1, Nat.succ_le_of_lt HKM.out, by go_num, by rw [HTK.out]; exact HR.out.1, HR.out.2⟩
        case measure => (have := HKM.out; simp [intOf]; omega)
      · have d1 : ((b : Int) != (a : Int)) = true := by rw [bne_iff_ne]; have := HAB.out; omega
        have d2 : ((b : Int) != (b : Int)) = false := by simp
        go_wp2
        go_roundw
        case rel => exact ⟨k + 1, Nat.succ_le_of_lt HKM.out, by go_num, by rw [HTK.out]; exact HR.out.1, HR.out.2⟩
        case measure => (have := HKM.out; simp [intOf]; omega)
    · obtain rfl : k = M := by omega
      have e1 : decide ((k : Int) < (k : Int)) = false := by simp
      have hBw := (H2.out _ hB).1
      go_wp2_with fail
      refine (works12_any _ (HLW.out _ hBw)).mono ?_
      rintro e wz ⟨rfl, hBz⟩
      go_wp2
      go_ret
      exact ⟨rfl, below_in hBw hBz⟩
open Go.Proofs.YtcchjofjpflbhaaGreatDoor.E Go.Proofs.YtcchjofjpflbhaaGreatDoor.C Go.Proofs.YtcchjofjpflbhaaGreatDoor.T Go.Proofs.YtcchjofjpflbhaaGreatDoor.Ch in
set_option maxRecDepth 100000 in
set_option maxHeartbeats 4000000 in
theorem walk (p : Int) (v : Value) (css : List (List (List UInt8))) (x0 x1 : Int) (vj : Value) (cj : List (List UInt8)) (w : World) (hL : Laid w) (wp : -9223372036854775808 ≤ p ∧ p ≤ 9223372036854775807) (hC : Cols w.heap.size w v css) (wx : -9223372036854775808 ≤ x0 ∧ x0 ≤ 9223372036854775807) (wy : -9223372036854775808 ≤ x1 ∧ x1 ≤ 9223372036854775807) (hJ : Many w.heap.size w vj cj) :
    Calls Tryz.prog 7 #[.int .i64 p, v, .agg #[.int .i64 x0, .int .i64 x1], vj] w fun e w' => e = .returned (.bool true) ∧ Below w.heap.size w w' := by
  by_cases hf : Few6 css
  case neg => exact nf p v css x0 x1 vj cj w hL wp hC wx wy hJ hf
  by_cases hr : RightD p css
  case neg => exact nr p v css x0 x1 vj cj w hL wp hC wx wy hJ hf hr
  by_cases hl : (css.length : Int) = p - 1
  case neg => exact nl p v css x0 x1 vj cj w hL wp hC wx wy hJ hf hr hl
  by_cases hth : 0 ≤ x0 ∧ x0 < x1 ∧ x1 < p
  case neg => exact nt p v css x0 x1 vj cj w hL wp hC wx wy hJ hf hr hl hth
  exact yes p v css x0 x1 vj cj w hL wp hC wx wy hJ hf hr hl hth

end Go.Proofs.YtcchjofjpflbhaaGreatDoor.pairHolds

namespace Go.Proofs.YtcchjofjpflbhaaGreatDoor.pairHolds
open Go.ChangeShapes Go.WideShapes Go.ChangeAt Go.RowKit Go.Shelf
set_option linter.unusedVariables false
set_option linter.unusedSimpArgs false
attribute [local go_sem] Oper.semAt_some

set_option maxRecDepth 100000 in
theorem lifted (os : Os) (started : os.Started) (H : Type) (enc : TypeId × Value → H) :
    ReturnsInHanded {} Tryz.checked os 7 .any (fun w args => (Rows.pairHoldsSpec.pre enc Tryz.prog Tryz.f7 [] false w args ∧ laidMetH Tryz.prog laidL w) ∧ sizedMet enc Tryz.prog Tryz.f7 (OpenSpec.ofChange Rows.pairHoldsSpec) false w args)
      (Rows.pairHoldsSpec.post enc Tryz.prog Tryz.f7 false true false false) := by
  refine returnsInHanded_of_change_and (C := Tryz.checked) (X := fun w _ => laidMetH Tryz.prog laidL w) (fun _ _ _ hh h => h.of_heap hh) own started (by kernel_rfl) Tryz.func7
    (ChangeSpec.witness_shaped (enc := enc) (C := Tryz.checked) (os := os) (X := fun w _ => laidMetH Tryz.prog laidL w) false (World.doorLaid Tryz.prog 200 os) #[.int .i64 0, .slice none 0 0, .agg #[.int .i64 0, .int .i64 0], .slice none 0 0] 8 rfl (World.shaped_of_RefB (by kernel_rfl) (by kernel_rfl)) (by kernel_rfl) (by kernel_rfl) (by kernel_rfl) (door_met os _)) ?_
  intro W base args ds gs before hval0 hW _ _ hL0 _
  have hL := laid_of hL0
  have hval : ∀ (j : Nat) t v, Tryz.f7.params[j]? = some t → args[j]? = some v → Value.okWide Tryz.prog W .any base t v := hval0
  have hW' := hW
  obtain ⟨p, q, hA0, hV, rfl, hfz, hnd⟩ := hW
  have hA : DataW.TrodAll enc Tryz.prog W 0 (fun _ => true) true Tryz.f7.params.toList args.toList ds p := hA0
  rw [Tryz.params7] at hA hval
  obtain ⟨v0, vs0, d0, ds0, p0, q0, hargs, rfl, rfl, h0, r0⟩ := trodAll_cons hA
  obtain ⟨v1, vs1, d1, ds1, p1, q1, rfl, rfl, rfl, h1, r1⟩ := trodAll_cons r0
  obtain ⟨v2, vs2, d2, ds2, p2, q2, rfl, rfl, rfl, h2, r2⟩ := trodAll_cons r1
  obtain ⟨v3, vs3, d3, ds3, p3, q3, rfl, rfl, rfl, h3, r3⟩ := trodAll_cons r2
  obtain ⟨rfl, rfl, rfl⟩ := trodAll_nil r3
  obtain rfl : args = #[v0, v1, v2, v3] := by cases args; simp_all
  obtain ⟨rfl, rfl⟩ := trodVars_none hV
  obtain ⟨a0, rfl, rfl, rfl, w0⟩ := open_int Tryz.underlying3 (hval 0 3 v0 rfl rfl) h0
  have k1 := h1
  have lt1 : ∀ x ∈ p1, x.block < W.heap.size := by obtain ⟨m, hm⟩ := k1; exact DataW.trod_lt m _ _ _ hm
  obtain ⟨a1, len1, cap1, rfl⟩ := okWide_slice Tryz.underlying40 (hval 1 40 v1 rfl rfl)
  obtain ⟨l1, w1⟩ : ∃ css, E.Cols W.heap.size W (.slice a1 len1 cap1) css := by obtain ⟨fuel, hf⟩ := h1; exact E.open_cols hf
  have k2 := h2
  have lt2 : ∀ x ∈ p2, x.block < W.heap.size := by obtain ⟨m, hm⟩ := k2; exact DataW.trod_lt m _ _ _ hm
  obtain ⟨x2, y2, rfl, w2⟩ := Cd.open_two (hval 2 22 v2 rfl rfl) h2
  have k3 := h3
  have lt3 : ∀ x ∈ p3, x.block < W.heap.size := by obtain ⟨m, hm⟩ := k3; exact DataW.trod_lt m _ _ _ hm
  obtain ⟨a3, len3, cap3, rfl⟩ := okWide_slice Tryz.underlying50 (hval 3 50 v3 rfl rfl)
  obtain ⟨l3, w3⟩ : ∃ cs, C.Many W.heap.size W (.slice a3 len3 cap3) cs := by obtain ⟨fuel, hf⟩ := h3; exact E.open_col hf
  clear hA0 hval0
  simp only [List.append_nil] at hW'
  refine (walk a0 _ l1 x2 y2 _ l3 W hL (E.wf_i64 w0) w1 (E.wf_i64 w2.1) (E.wf_i64 w2.2) w3).mono fun e W' ⟨he, bel⟩ => ?_
  subst he
  exact ⟨_, rfl, _, _, _, [], _, [], hW', trodAll_mk1 (shut_bool Tryz.underlying4 _), (trodAll_cons_mk (shut_int Tryz.underlying3 w0) (trodAll_cons_mk (Below.trod laidOut (by kernel_rfl) (of_decide_eq_true (by kernel_rfl)) k1 bel lt1) (trodAll_cons_mk (Below.trod laidOut (by kernel_rfl) (of_decide_eq_true (by kernel_rfl)) k2 bel lt2) (trodAll_cons_mk (Below.trod laidOut (by kernel_rfl) (of_decide_eq_true (by kernel_rfl)) k3 bel lt3) trodAll_mk0)))), rfl, bel.frame _, fun h => by cases h⟩

end Go.Proofs.YtcchjofjpflbhaaGreatDoor.pairHolds

