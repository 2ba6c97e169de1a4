/- The law ChainAlones answers true for every input and leaves its arguments as they were. -/
import Derived.Test.YtfihlelhpmjpaaaGreatDoorCRG21m2
import Derived.Test.YtfihlelhpmjpaaaGreatDoorCards
import Derived.Test.YtfihlelhpmjpaaaGreatDoorTie
import Derived.SevenTiedAt
namespace Go.Proofs.YtfihlelhpmjpaaaGreatDoor.chainAlones
open Go.ChangeShapes Go.WideShapes Go.ChangeAt Go.RowKit Go.Shelf
set_option linter.unusedVariables false
set_option linter.unusedSimpArgs false
attribute [local go_sem] Oper.semAt_some

open Go.Proofs.YtfihlelhpmjpaaaGreatDoor.E Go.Proofs.YtfihlelhpmjpaaaGreatDoor.C Go.Proofs.YtfihlelhpmjpaaaGreatDoor.T Go.Proofs.YtfihlelhpmjpaaaGreatDoor.Ch in
set_option maxRecDepth 100000 in
set_option maxHeartbeats 4000000 in
theorem nf (p : Int) (v : Value) (css : List (List (List UInt8))) (a : Int) (w : World) (hL : Laid w) (wp : -9223372036854775808 ≤ p ∧ p ≤ 9223372036854775807) (hC : Cols w.heap.size w v css) (wa : -9223372036854775808 ≤ a ∧ a ≤ 9223372036854775807) (hfew : ¬ Few6 css) :
    Calls Tryz.prog 4 #[.int .i64 p, v, .int .i64 a] w fun e w' => e = .returned (.bool true) ∧ Below w.heap.size w w' := by
  have HF := Lib.hid (few6_any _ _ w hC false (by simp [hfew]))
  have HLW := Lib.hid (fun (U : World) (hU : Below w.heap.size w U) => hL.next hU)
  obtain ⟨A, cap, rfl, hcap0, _⟩ := id hC
  have hBw := Below.refl w.heap.size w
  clear hC hL
  go_enter Tryz.func4, Tryz.ntmps4
  go_wp2_with fail
  refine (HF.out).mono ?_
  rintro e y0 ⟨rfl, rfl⟩
  go_wp2_with fail
  refine (works11_any _ (HLW.out _ hBw)).mono ?_
  rintro e wz ⟨rfl, hBz⟩
  go_wp2
  go_ret
  exact ⟨rfl, below_in hBw hBz⟩
open Go.Proofs.YtfihlelhpmjpaaaGreatDoor.E Go.Proofs.YtfihlelhpmjpaaaGreatDoor.C Go.Proofs.YtfihlelhpmjpaaaGreatDoor.T Go.Proofs.YtfihlelhpmjpaaaGreatDoor.Ch in
set_option maxRecDepth 100000 in
set_option maxHeartbeats 4000000 in
theorem c2a_in (p : Int) (v : Value) (css : List (List (List UInt8))) (a : Int) (w : World) (hL : Laid w) (wp : -9223372036854775808 ≤ p ∧ p ≤ 9223372036854775807) (hC : Cols w.heap.size w v css) (wa : -9223372036854775808 ≤ a ∧ a ≤ 9223372036854775807) (hfew : Few6 css) (hp : p ∉ prm) (hno : ¬ (p ∈ prm ∧ (css.length : Int) = p + 2)) (hth : 0 ≤ a ∧ a < p) :
    Calls Tryz.prog 4 #[.int .i64 p, v, .int .i64 a] w fun e w' => e = .returned (.bool true) ∧ Below w.heap.size w w' := by
  have HF := Lib.hid (few6_any _ _ w hC true (by simp [hfew]))
  have HLW := Lib.hid (fun (U : World) (hU : Below w.heap.size w U) => hL.next hU)
  obtain ⟨A, cap, rfl, hcap0, _⟩ := id hC
  have HRC := Lib.hid (alone_no2 p a A css.length cap hno w hL)
  have HR := Lib.hid (fun W => right_any p W)
  have e1 : decide (0 ≤ a) = true := decide_eq_true hth.1
  have e2 : decide (a < p) = true := decide_eq_true hth.2
  rw [decide_eq_false hp] at HR
  clear hC hL hno hfew hp hth
  generalize css.length = N at *
  go_enter Tryz.func4, Tryz.ntmps4
  go_wp2_with fail
  refine (HF.out).mono ?_
  rintro e y0 ⟨rfl, rfl⟩
  go_wp2_with fail
  refine (HRC.out).mono ?_
  rintro e y1 ⟨rfl, hB⟩
  have hBw := hB
  clear hB
  go_wp2_with fail
  refine (HR.out y1).mono ?_
  rintro e y2 ⟨rfl, hB⟩
  replace hBw := below_in hBw hB
  clear hB
  go_wp2_with fail
  refine (num11_any _ _).mono ?_
  rintro e y3 ⟨rfl, rfl⟩
  go_wp2_with fail
  refine (works11_any _ (HLW.out _ hBw)).mono ?_
  rintro e wz ⟨rfl, hBz⟩
  go_wp2
  go_ret
  exact ⟨rfl, below_in hBw hBz⟩
open Go.Proofs.YtfihlelhpmjpaaaGreatDoor.E Go.Proofs.YtfihlelhpmjpaaaGreatDoor.C Go.Proofs.YtfihlelhpmjpaaaGreatDoor.T Go.Proofs.YtfihlelhpmjpaaaGreatDoor.Ch in
set_option maxRecDepth 100000 in
set_option maxHeartbeats 4000000 in
theorem c2b_in (p : Int) (v : Value) (css : List (List (List UInt8))) (a : Int) (w : World) (hL : Laid w) (wp : -9223372036854775808 ≤ p ∧ p ≤ 9223372036854775807) (hC : Cols w.heap.size w v css) (wa : -9223372036854775808 ≤ a ∧ a ≤ 9223372036854775807) (hfew : Few6 css) (hp : p ∈ prm) (hno : ¬ (p ∈ prm ∧ (css.length : Int) = p + 2)) (hth : 0 ≤ a ∧ a < p) :
    Calls Tryz.prog 4 #[.int .i64 p, v, .int .i64 a] w fun e w' => e = .returned (.bool true) ∧ Below w.heap.size w w' := by
  have HF := Lib.hid (few6_any _ _ w hC true (by simp [hfew]))
  have HLW := Lib.hid (fun (U : World) (hU : Below w.heap.size w U) => hL.next hU)
  obtain ⟨A, cap, rfl, hcap0, _⟩ := id hC
  have HRC := Lib.hid (alone_no2 p a A css.length cap hno w hL)
  have HR := Lib.hid (fun W => right_any p W)
  have e1 : decide (0 ≤ a) = true := decide_eq_true hth.1
  have e2 : decide (a < p) = true := decide_eq_true hth.2
  have hpb := prm_bounds hp
  rw [decide_eq_true hp] at HR
  have hw2 : IntKind.i64.wrap (p + 2) = p + 2 := IntWalk.i64_in _ (by omega)
  have hne : ((css.length : Int) != p + 2) = true := bne_iff_ne.2 (fun h => hno ⟨hp, h⟩)
  clear hC hL hno hfew hp hpb hth
  generalize css.length = N at *
  go_enter Tryz.func4, Tryz.ntmps4
  go_wp2_with fail
  refine (HF.out).mono ?_
  rintro e y0 ⟨rfl, rfl⟩
  go_wp2_with fail
  refine (HRC.out).mono ?_
  rintro e y1 ⟨rfl, hB⟩
  have hBw := hB
  clear hB
  go_wp2_with fail
  refine (HR.out y1).mono ?_
  rintro e y2 ⟨rfl, hB⟩
  replace hBw := below_in hBw hB
  clear hB
  go_wp2_with fail
  refine (num11_any _ _).mono ?_
  rintro e y3 ⟨rfl, rfl⟩
  go_wp2_with fail
  refine (works11_any _ (HLW.out _ hBw)).mono ?_
  rintro e wz ⟨rfl, hBz⟩
  go_wp2
  go_ret
  exact ⟨rfl, below_in hBw hBz⟩
open Go.Proofs.YtfihlelhpmjpaaaGreatDoor.E Go.Proofs.YtfihlelhpmjpaaaGreatDoor.C Go.Proofs.YtfihlelhpmjpaaaGreatDoor.T Go.Proofs.YtfihlelhpmjpaaaGreatDoor.Ch in
set_option maxRecDepth 100000 in
set_option maxHeartbeats 4000000 in
theorem c2a_neg (p : Int) (v : Value) (css : List (List (List UInt8))) (a : Int) (w : World) (hL : Laid w) (wp : -9223372036854775808 ≤ p ∧ p ≤ 9223372036854775807) (hC : Cols w.heap.size w v css) (wa : -9223372036854775808 ≤ a ∧ a ≤ 9223372036854775807) (hfew : Few6 css) (hp : p ∉ prm) (hno : ¬ (p ∈ prm ∧ (css.length : Int) = p + 2)) (hx : ¬ 0 ≤ a) :
    Calls Tryz.prog 4 #[.int .i64 p, v, .int .i64 a] w fun e w' => e = .returned (.bool true) ∧ Below w.heap.size w w' := by
  have HF := Lib.hid (few6_any _ _ w hC true (by simp [hfew]))
  have HLW := Lib.hid (fun (U : World) (hU : Below w.heap.size w U) => hL.next hU)
  obtain ⟨A, cap, rfl, hcap0, _⟩ := id hC
  have HRC := Lib.hid (alone_no2 p a A css.length cap hno w hL)
  have HR := Lib.hid (fun W => right_any p W)
  have e1 : decide (0 ≤ a) = false := decide_eq_false hx
  rw [decide_eq_false hp] at HR
  clear hC hL hno hfew hp hx
  generalize css.length = N at *
  go_enter Tryz.func4, Tryz.ntmps4
  go_wp2_with fail
  refine (HF.out).mono ?_
  rintro e y0 ⟨rfl, rfl⟩
  go_wp2_with fail
  refine (HRC.out).mono ?_
  rintro e y1 ⟨rfl, hB⟩
  have hBw := hB
  clear hB
  go_wp2_with fail
  refine (HR.out y1).mono ?_
  rintro e y2 ⟨rfl, hB⟩
  replace hBw := below_in hBw hB
  clear hB
  go_wp2_with fail
  refine (num11_any _ _).mono ?_
  rintro e y3 ⟨rfl, rfl⟩
  go_wp2_with fail
  refine (works11_any _ (HLW.out _ hBw)).mono ?_
  rintro e wz ⟨rfl, hBz⟩
  go_wp2
  go_ret
  exact ⟨rfl, below_in hBw hBz⟩
open Go.Proofs.YtfihlelhpmjpaaaGreatDoor.E Go.Proofs.YtfihlelhpmjpaaaGreatDoor.C Go.Proofs.YtfihlelhpmjpaaaGreatDoor.T Go.Proofs.YtfihlelhpmjpaaaGreatDoor.Ch in
set_option maxRecDepth 100000 in
set_option maxHeartbeats 4000000 in
theorem c2b_neg (p : Int) (v : Value) (css : List (List (List UInt8))) (a : Int) (w : World) (hL : Laid w) (wp : -9223372036854775808 ≤ p ∧ p ≤ 9223372036854775807) (hC : Cols w.heap.size w v css) (wa : -9223372036854775808 ≤ a ∧ a ≤ 9223372036854775807) (hfew : Few6 css) (hp : p ∈ prm) (hno : ¬ (p ∈ prm ∧ (css.length : Int) = p + 2)) (hx : ¬ 0 ≤ a) :
    Calls Tryz.prog 4 #[.int .i64 p, v, .int .i64 a] w fun e w' => e = .returned (.bool true) ∧ Below w.heap.size w w' := by
  have HF := Lib.hid (few6_any _ _ w hC true (by simp [hfew]))
  have HLW := Lib.hid (fun (U : World) (hU : Below w.heap.size w U) => hL.next hU)
  obtain ⟨A, cap, rfl, hcap0, _⟩ := id hC
  have HRC := Lib.hid (alone_no2 p a A css.length cap hno w hL)
  have HR := Lib.hid (fun W => right_any p W)
  have e1 : decide (0 ≤ a) = false := decide_eq_false hx
  have hpb := prm_bounds hp
  rw [decide_eq_true hp] at HR
  have hw2 : IntKind.i64.wrap (p + 2) = p + 2 := IntWalk.i64_in _ (by omega)
  have hne : ((css.length : Int) != p + 2) = true := bne_iff_ne.2 (fun h => hno ⟨hp, h⟩)
  clear hC hL hno hfew hp hpb hx
  generalize css.length = N at *
  go_enter Tryz.func4, Tryz.ntmps4
  go_wp2_with fail
  refine (HF.out).mono ?_
  rintro e y0 ⟨rfl, rfl⟩
  go_wp2_with fail
  refine (HRC.out).mono ?_
  rintro e y1 ⟨rfl, hB⟩
  have hBw := hB
  clear hB
  go_wp2_with fail
  refine (HR.out y1).mono ?_
  rintro e y2 ⟨rfl, hB⟩
  replace hBw := below_in hBw hB
  clear hB
  go_wp2_with fail
  refine (num11_any _ _).mono ?_
  rintro e y3 ⟨rfl, rfl⟩
  go_wp2_with fail
  refine (works11_any _ (HLW.out _ hBw)).mono ?_
  rintro e wz ⟨rfl, hBz⟩
  go_wp2
  go_ret
  exact ⟨rfl, below_in hBw hBz⟩
open Go.Proofs.YtfihlelhpmjpaaaGreatDoor.E Go.Proofs.YtfihlelhpmjpaaaGreatDoor.C Go.Proofs.YtfihlelhpmjpaaaGreatDoor.T Go.Proofs.YtfihlelhpmjpaaaGreatDoor.Ch in
set_option maxRecDepth 100000 in
set_option maxHeartbeats 4000000 in
theorem c2a_far (p : Int) (v : Value) (css : List (List (List UInt8))) (a : Int) (w : World) (hL : Laid w) (wp : -9223372036854775808 ≤ p ∧ p ≤ 9223372036854775807) (hC : Cols w.heap.size w v css) (wa : -9223372036854775808 ≤ a ∧ a ≤ 9223372036854775807) (hfew : Few6 css) (hp : p ∉ prm) (hno : ¬ (p ∈ prm ∧ (css.length : Int) = p + 2)) (hx : 0 ≤ a ∧ ¬ a < p) :
    Calls Tryz.prog 4 #[.int .i64 p, v, .int .i64 a] w fun e w' => e = .returned (.bool true) ∧ Below w.heap.size w w' := by
  have HF := Lib.hid (few6_any _ _ w hC true (by simp [hfew]))
  have HLW := Lib.hid (fun (U : World) (hU : Below w.heap.size w U) => hL.next hU)
  obtain ⟨A, cap, rfl, hcap0, _⟩ := id hC
  have HRC := Lib.hid (alone_no2 p a A css.length cap hno w hL)
  have HR := Lib.hid (fun W => right_any p W)
  have e1 : decide (0 ≤ a) = true := decide_eq_true hx.1
  have e2 : decide (a < p) = false := decide_eq_false hx.2
  rw [decide_eq_false hp] at HR
  clear hC hL hno hfew hp hx
  generalize css.length = N at *
  go_enter Tryz.func4, Tryz.ntmps4
  go_wp2_with fail
  refine (HF.out).mono ?_
  rintro e y0 ⟨rfl, rfl⟩
  go_wp2_with fail
  refine (HRC.out).mono ?_
  rintro e y1 ⟨rfl, hB⟩
  have hBw := hB
  clear hB
  go_wp2_with fail
  refine (HR.out y1).mono ?_
  rintro e y2 ⟨rfl, hB⟩
  replace hBw := below_in hBw hB
  clear hB
  go_wp2_with fail
  refine (num11_any _ _).mono ?_
  rintro e y3 ⟨rfl, rfl⟩
  go_wp2_with fail
  refine (works11_any _ (HLW.out _ hBw)).mono ?_
  rintro e wz ⟨rfl, hBz⟩
  go_wp2
  go_ret
  exact ⟨rfl, below_in hBw hBz⟩
open Go.Proofs.YtfihlelhpmjpaaaGreatDoor.E Go.Proofs.YtfihlelhpmjpaaaGreatDoor.C Go.Proofs.YtfihlelhpmjpaaaGreatDoor.T Go.Proofs.YtfihlelhpmjpaaaGreatDoor.Ch in
set_option maxRecDepth 100000 in
set_option maxHeartbeats 4000000 in
theorem c2b_far (p : Int) (v : Value) (css : List (List (List UInt8))) (a : Int) (w : World) (hL : Laid w) (wp : -9223372036854775808 ≤ p ∧ p ≤ 9223372036854775807) (hC : Cols w.heap.size w v css) (wa : -9223372036854775808 ≤ a ∧ a ≤ 9223372036854775807) (hfew : Few6 css) (hp : p ∈ prm) (hno : ¬ (p ∈ prm ∧ (css.length : Int) = p + 2)) (hx : 0 ≤ a ∧ ¬ a < p) :
    Calls Tryz.prog 4 #[.int .i64 p, v, .int .i64 a] w fun e w' => e = .returned (.bool true) ∧ Below w.heap.size w w' := by
  have HF := Lib.hid (few6_any _ _ w hC true (by simp [hfew]))
  have HLW := Lib.hid (fun (U : World) (hU : Below w.heap.size w U) => hL.next hU)
  obtain ⟨A, cap, rfl, hcap0, _⟩ := id hC
  have HRC := Lib.hid (alone_no2 p a A css.length cap hno w hL)
  have HR := Lib.hid (fun W => right_any p W)
  have e1 : decide (0 ≤ a) = true := decide_eq_true hx.1
  have e2 : decide (a < p) = false := decide_eq_false hx.2
  have hpb := prm_bounds hp
  rw [decide_eq_true hp] at HR
  have hw2 : IntKind.i64.wrap (p + 2) = p + 2 := IntWalk.i64_in _ (by omega)
  have hne : ((css.length : Int) != p + 2) = true := bne_iff_ne.2 (fun h => hno ⟨hp, h⟩)
  clear hC hL hno hfew hp hpb hx
  generalize css.length = N at *
  go_enter Tryz.func4, Tryz.ntmps4
  go_wp2_with fail
  refine (HF.out).mono ?_
  rintro e y0 ⟨rfl, rfl⟩
  go_wp2_with fail
  refine (HRC.out).mono ?_
  rintro e y1 ⟨rfl, hB⟩
  have hBw := hB
  clear hB
  go_wp2_with fail
  refine (HR.out y1).mono ?_
  rintro e y2 ⟨rfl, hB⟩
  replace hBw := below_in hBw hB
  clear hB
  go_wp2_with fail
  refine (num11_any _ _).mono ?_
  rintro e y3 ⟨rfl, rfl⟩
  go_wp2_with fail
  refine (works11_any _ (HLW.out _ hBw)).mono ?_
  rintro e wz ⟨rfl, hBz⟩
  go_wp2
  go_ret
  exact ⟨rfl, below_in hBw hBz⟩
open Go.Proofs.YtfihlelhpmjpaaaGreatDoor.E Go.Proofs.YtfihlelhpmjpaaaGreatDoor.C Go.Proofs.YtfihlelhpmjpaaaGreatDoor.T Go.Proofs.YtfihlelhpmjpaaaGreatDoor.Ch in
set_option maxRecDepth 100000 in
set_option maxHeartbeats 4000000 in
theorem c4_neg (p : Int) (v : Value) (css : List (List (List UInt8))) (a : Int) (w : World) (hL : Laid w) (wp : -9223372036854775808 ≤ p ∧ p ≤ 9223372036854775807) (hC : Cols w.heap.size w v css) (wa : -9223372036854775808 ≤ a ∧ a ≤ 9223372036854775807) (hfew : Few6 css) (hp : p ∈ prm) (hN : (css.length : Int) = p + 2) (hx : ¬ 0 ≤ a) :
    Calls Tryz.prog 4 #[.int .i64 p, v, .int .i64 a] w fun e w' => e = .returned (.bool true) ∧ Below w.heap.size w w' := by
  have HF := Lib.hid (few6_any _ _ w hC true (by simp [hfew]))
  have HLW := Lib.hid (fun (U : World) (hU : Below w.heap.size w U) => hL.next hU)
  obtain ⟨A, cap, rfl, hcap0, _⟩ := id hC
  have HRC := Lib.hid (alone_no4 p a hp A css.length cap hN (fun h => hx h.1) w hL)
  have hpb := prm_bounds hp
  have HR := Lib.hid (fun W => right_any p W)
  rw [decide_eq_true hp] at HR
  have hw2 : IntKind.i64.wrap (p + 2) = p + 2 := IntWalk.i64_in _ (by omega)
  have hne : ((css.length : Int) != p + 2) = false := by rw [hN]; simp
  have e1 : decide (0 ≤ a) = false := decide_eq_false hx
  clear hC hL hfew hp hpb hx hN
  generalize css.length = N at *
  go_enter Tryz.func4, Tryz.ntmps4
  go_wp2_with fail
  refine (HF.out).mono ?_
  rintro e y0 ⟨rfl, rfl⟩
  go_wp2_with fail
  refine (HRC.out).mono ?_
  rintro e y1 ⟨rfl, hB⟩
  have hBw := hB
  clear hB
  go_wp2_with fail
  refine (HR.out y1).mono ?_
  rintro e y2 ⟨rfl, hB⟩
  replace hBw := below_in hBw hB
  clear hB
  go_wp2_with fail
  refine (num11_any _ _).mono ?_
  rintro e y3 ⟨rfl, rfl⟩
  go_wp2_with fail
  refine (works11_any _ (HLW.out _ hBw)).mono ?_
  rintro e wz ⟨rfl, hBz⟩
  go_wp2
  go_ret
  exact ⟨rfl, below_in hBw hBz⟩
open Go.Proofs.YtfihlelhpmjpaaaGreatDoor.E Go.Proofs.YtfihlelhpmjpaaaGreatDoor.C Go.Proofs.YtfihlelhpmjpaaaGreatDoor.T Go.Proofs.YtfihlelhpmjpaaaGreatDoor.Ch in
set_option maxRecDepth 100000 in
set_option maxHeartbeats 4000000 in
theorem c4_far (p : Int) (v : Value) (css : List (List (List UInt8))) (a : Int) (w : World) (hL : Laid w) (wp : -9223372036854775808 ≤ p ∧ p ≤ 9223372036854775807) (hC : Cols w.heap.size w v css) (wa : -9223372036854775808 ≤ a ∧ a ≤ 9223372036854775807) (hfew : Few6 css) (hp : p ∈ prm) (hN : (css.length : Int) = p + 2) (hx : 0 ≤ a ∧ ¬ a < p) :
    Calls Tryz.prog 4 #[.int .i64 p, v, .int .i64 a] w fun e w' => e = .returned (.bool true) ∧ Below w.heap.size w w' := by
  have HF := Lib.hid (few6_any _ _ w hC true (by simp [hfew]))
  have HLW := Lib.hid (fun (U : World) (hU : Below w.heap.size w U) => hL.next hU)
  obtain ⟨A, cap, rfl, hcap0, _⟩ := id hC
  have HRC := Lib.hid (alone_no4 p a hp A css.length cap hN (fun h => hx.2 h.2) w hL)
  have hpb := prm_bounds hp
  have HR := Lib.hid (fun W => right_any p W)
  rw [decide_eq_true hp] at HR
  have hw2 : IntKind.i64.wrap (p + 2) = p + 2 := IntWalk.i64_in _ (by omega)
  have hne : ((css.length : Int) != p + 2) = false := by rw [hN]; simp
  have e1 : decide (0 ≤ a) = true := decide_eq_true hx.1
  have e2 : decide (a < p) = false := decide_eq_false hx.2
  clear hC hL hfew hp hpb hx hN
  generalize css.length = N at *
  go_enter Tryz.func4, Tryz.ntmps4
  go_wp2_with fail
  refine (HF.out).mono ?_
  rintro e y0 ⟨rfl, rfl⟩
  go_wp2_with fail
  refine (HRC.out).mono ?_
  rintro e y1 ⟨rfl, hB⟩
  have hBw := hB
  clear hB
  go_wp2_with fail
  refine (HR.out y1).mono ?_
  rintro e y2 ⟨rfl, hB⟩
  replace hBw := below_in hBw hB
  clear hB
  go_wp2_with fail
  refine (num11_any _ _).mono ?_
  rintro e y3 ⟨rfl, rfl⟩
  go_wp2_with fail
  refine (works11_any _ (HLW.out _ hBw)).mono ?_
  rintro e wz ⟨rfl, hBz⟩
  go_wp2
  go_ret
  exact ⟨rfl, below_in hBw hBz⟩
open Go.Proofs.YtfihlelhpmjpaaaGreatDoor.E Go.Proofs.YtfihlelhpmjpaaaGreatDoor.C Go.Proofs.YtfihlelhpmjpaaaGreatDoor.T Go.Proofs.YtfihlelhpmjpaaaGreatDoor.Ch in
set_option maxRecDepth 100000 in
set_option maxHeartbeats 4000000 in
theorem cK (p : Int) (v : Value) (css : List (List (List UInt8))) (a : Int) (w : World) (hL : Laid w) (wp : -9223372036854775808 ≤ p ∧ p ≤ 9223372036854775807) (hC : Cols w.heap.size w v css) (wa : -9223372036854775808 ≤ a ∧ a ≤ 9223372036854775807) (hfew : Few6 css) (hp : p ∈ prm) (hN : (css.length : Int) = p + 2) (hth : 0 ≤ a ∧ a < p) (hrt : ¬ RightD p (kept [a, p] css css.length)) :
    Calls Tryz.prog 4 #[.int .i64 p, v, .int .i64 a] w fun e w' => e = .returned (.bool true) ∧ Below w.heap.size w w' := by
  have HF := Lib.hid (few6_any _ _ w hC true (by simp [hfew]))
  have HLW := Lib.hid (fun (U : World) (hU : Below w.heap.size w U) => hL.next hU)
  obtain ⟨A, cap, rfl, hcap0, _⟩ := id hC
  have HRC := Lib.hid (alone_noK (B := w.heap.size) p a hp hth.1 hth.2 css css.length rfl A cap hN (fun j hj => ((few_len hfew).2 j 0).1) hrt w hL (Nat.le_refl _) hC)
  have hpb := prm_bounds hp
  have HR := Lib.hid (fun W => right_any p W)
  rw [decide_eq_true hp] at HR
  have hw2 : IntKind.i64.wrap (p + 2) = p + 2 := IntWalk.i64_in _ (by omega)
  have hne : ((css.length : Int) != p + 2) = false := by rw [hN]; simp
  have e1 : decide (0 ≤ a) = true := decide_eq_true hth.1
  have e2 : decide (a < p) = true := decide_eq_true hth.2
  have HRT := Lib.hid (fun (V : World) (g : Nat) (hV : Below w.heap.size w V) (bE : Blk V g 3 #[.int .i64 a, .int .i64 p]) => right11_any (B := w.heap.size) p (p + 2) hp g 2 [a, p] (by simp) css hN (by omega) (by have := hfew.1; omega) (.slice A css.length cap) V hV.size bE.lt (two_cell bE) (hC.below hV) false (by simp [hrt]))
  clear hC hL hfew hp hpb hth hN hrt
  generalize css.length = N at *
  go_enter Tryz.func4, Tryz.ntmps4
  go_wp2_with fail
  refine (HF.out).mono ?_
  rintro e y0 ⟨rfl, rfl⟩
  go_wp2_with fail
  refine (HRC.out).mono ?_
  rintro e y1 ⟨rfl, hB⟩
  have hBw := hB
  clear hB
  go_wp2_with fail
  refine (HR.out y1).mono ?_
  rintro e y2 ⟨rfl, hB⟩
  replace hBw := below_in hBw hB
  clear hB
  have hA3 := below_one y2 (.cells #[.int .i64 a, .int .i64 p] 3)
  have bA3 := Blk.new y2 3 #[.int .i64 a, .int .i64 p]
  replace hBw := below_in hBw hA3
  clear hA3
  go_wp2_with fail
  refine (HRT.out _ _ hBw bA3).mono ?_
  rintro e y4 ⟨rfl, hB⟩
  replace hBw := below_in hBw hB
  clear hB
  go_wp2_with fail
  refine (num11_any _ _).mono ?_
  rintro e y5 ⟨rfl, rfl⟩
  go_wp2_with fail
  refine (works11_any _ (HLW.out _ hBw)).mono ?_
  rintro e wz ⟨rfl, hBz⟩
  go_wp2
  go_ret
  exact ⟨rfl, below_in hBw hBz⟩
open Go.Proofs.YtfihlelhpmjpaaaGreatDoor.E Go.Proofs.YtfihlelhpmjpaaaGreatDoor.C Go.Proofs.YtfihlelhpmjpaaaGreatDoor.T Go.Proofs.YtfihlelhpmjpaaaGreatDoor.Ch in
set_option maxRecDepth 100000 in
set_option maxHeartbeats 4000000 in
theorem yes (p : Int) (v : Value) (css : List (List (List UInt8))) (a : Int) (w : World) (hL : Laid w) (wp : -9223372036854775808 ≤ p ∧ p ≤ 9223372036854775807) (hC : Cols w.heap.size w v css) (wa : -9223372036854775808 ≤ a ∧ a ≤ 9223372036854775807) (hfew : Few6 css) (hp : p ∈ prm) (hN : (css.length : Int) = p + 2) (hth : 0 ≤ a ∧ a < p) (hrt : RightD p (kept [a, p] css css.length)) :
    Calls Tryz.prog 4 #[.int .i64 p, v, .int .i64 a] w fun e w' => e = .returned (.bool true) ∧ Below w.heap.size w w' := by
  have HF := Lib.hid (few6_any _ _ w hC true (by simp [hfew]))
  have HLW := Lib.hid (fun (U : World) (hU : Below w.heap.size w U) => hL.next hU)
  obtain ⟨A, cap, rfl, hcap0, _⟩ := id hC
  have hpb := prm_bounds hp
  have HR := Lib.hid (fun W => right_any p W)
  rw [decide_eq_true hp] at HR
  have hw2 : IntKind.i64.wrap (p + 2) = p + 2 := IntWalk.i64_in _ (by omega)
  have hne : ((css.length : Int) != p + 2) = false := by rw [hN]; simp
  have e1 : decide (0 ≤ a) = true := decide_eq_true hth.1
  have e2 : decide (a < p) = true := decide_eq_true hth.2
  have HRT := Lib.hid (fun (V : World) (g : Nat) (hV : Below w.heap.size w V) (bE : Blk V g 3 #[.int .i64 a, .int .i64 p]) => right11_any (B := w.heap.size) p (p + 2) hp g 2 [a, p] (by simp) css hN (by omega) (by have := hfew.1; omega) (.slice A css.length cap) V hV.size bE.lt (two_cell bE) (hC.below hV) true (by simp [hrt]))
  obtain ⟨P, Q, n, rfl, hQ, _, h1, h64, _, hg⟩ := Go.Proofs.YtfihlelhpmjpaaaGreatDoor.Rg.right_yes hrt hrt.2.1
  have d : Go.Proofs.YtfihlelhpmjpaaaGreatDoor.Rg.Dims P Q n := ⟨hQ, hp, h1, h64⟩
  have hgood := kept_good hg
  have hNP : css.length = P + 2 := by omega
  have hP1 : ((P + 1 : Nat) : Int) ∉ [a, (P : Int)] := by simp; omega
  have eD := ds_is (L2 := [a]) d hNP hgood hP1 (fun c hc => by simp; omega)
  have gD : GoodC Q n (dsF P Q (lostC [a, (P : Int)] Q n css)) := by rw [eD]; exact sumsD_good d (hgood (P + 1) (by omega) hP1) P
  have HRC := Lib.hid (alone2_yes (B := w.heap.size) d a hth.1 hth.2 css css.length rfl hNP hgood A cap w hL (Nat.le_refl _) hC)
  have HRD := Lib.hid (fun (V : World) (hV : Below w.heap.size w V) => alone11_any (B := w.heap.size) d a hth.1 hth.2 css css.length rfl hNP hgood A cap V hV.size (hC.below hV) _ eD.symm)
  have HSM := Lib.hid (fun (u v : Value) (V : World) (h1 : Many V.heap.size V u _) (h2 : Many V.heap.size V v _) => Go.Proofs.YtfihlelhpmjpaaaGreatDoor.Rg.sameY d _ _ (Go.Proofs.YtfihlelhpmjpaaaGreatDoor.Rg.turn_good (P := P) d.h1 d.h64 gD (-a)) rfl u v V h1 h2)
  generalize Go.Proofs.YtfihlelhpmjpaaaGreatDoor.Rg.turnC P Q n (dsF P Q (lostC [a, (P : Int)] Q n css)) (-a) = Ac at *
  clear hC hL hfew hp hpb hth hN hrt gD eD hP1 hNP hgood d hg h1 h64 hQ
  generalize css.length = N at *
  go_enter Tryz.func4, Tryz.ntmps4
  go_wp2_with fail
  refine (HF.out).mono ?_
  rintro e y0 ⟨rfl, rfl⟩
  go_wp2_with fail
  refine (HRC.out).mono ?_
  rintro e y1 ⟨u, rfl, hu, hB⟩
  obtain ⟨Au, ku, eu, _⟩ := id hu
  generalize Ac.length = lq at eu
  subst eu
  have hBw := hB
  clear hB
  go_wp2_with fail
  refine (HR.out y1).mono ?_
  rintro e y2 ⟨rfl, hB⟩
  replace hu := (hu.below hB).more hB.size
  replace hBw := below_in hBw hB
  clear hB
  have hA3 := below_one y2 (.cells #[.int .i64 a, .int .i64 (P : Int)] 3)
  have bA3 := Blk.new y2 3 #[.int .i64 a, .int .i64 (P : Int)]
  replace hu := (hu.below hA3).more hA3.size
  replace hBw := below_in hBw hA3
  clear hA3
  go_wp2_with fail
  refine (HRT.out _ _ hBw bA3).mono ?_
  rintro e y4 ⟨rfl, hB⟩
  clear bA3
  replace hu := (hu.below hB).more hB.size
  replace hBw := below_in hBw hB
  clear hB
  go_wp2_with fail
  refine (num11_any _ _).mono ?_
  rintro e y5 ⟨rfl, rfl⟩
  go_wp2_with fail
  refine (HRD.out _ hBw).mono ?_
  rintro e y6 ⟨g, rfl, hv, hB⟩
  replace hu := (hu.below hB).more hB.size
  replace hBw := below_in hBw hB
  clear hB
  go_wp2_with fail
  refine (HSM.out _ _ _ hu hv).mono ?_
  rintro e y7 ⟨rfl, hB⟩
  clear hv
  replace hu := (hu.below hB).more hB.size
  replace hBw := below_in hBw hB
  clear hB
  go_wp2_with fail
  refine (works11_any _ (HLW.out _ hBw)).mono ?_
  rintro e wz ⟨rfl, hBz⟩
  go_wp2
  go_ret
  exact ⟨rfl, below_in hBw hBz⟩
open Go.Proofs.YtfihlelhpmjpaaaGreatDoor.E Go.Proofs.YtfihlelhpmjpaaaGreatDoor.C Go.Proofs.YtfihlelhpmjpaaaGreatDoor.T Go.Proofs.YtfihlelhpmjpaaaGreatDoor.Ch in
set_option maxRecDepth 100000 in
set_option maxHeartbeats 4000000 in
theorem walk (p : Int) (v : Value) (css : List (List (List UInt8))) (a : Int) (w : World) (hL : Laid w) (wp : -9223372036854775808 ≤ p ∧ p ≤ 9223372036854775807) (hC : Cols w.heap.size w v css) (wa : -9223372036854775808 ≤ a ∧ a ≤ 9223372036854775807) :
    Calls Tryz.prog 4 #[.int .i64 p, v, .int .i64 a] w fun e w' => e = .returned (.bool true) ∧ Below w.heap.size w w' := by
  by_cases hfew : ¬ Few6 css
  · exact nf p v css a w hL wp hC wa hfew
  replace hfew := Classical.not_not.1 hfew
  by_cases hp : p ∈ prm
  · by_cases hN : (css.length : Int) = p + 2
    · by_cases h0 : 0 ≤ a
      · by_cases h1 : a < p
        · by_cases hrt : RightD p (kept [a, p] css css.length)
          · exact yes p v css a w hL wp hC wa hfew hp hN ⟨h0, h1⟩ hrt
          · exact cK p v css a w hL wp hC wa hfew hp hN ⟨h0, h1⟩ hrt
        · exact c4_far p v css a w hL wp hC wa hfew hp hN ⟨h0, h1⟩
      · exact c4_neg p v css a w hL wp hC wa hfew hp hN h0
    · by_cases h0 : 0 ≤ a
      · by_cases h1 : a < p
        · exact c2b_in p v css a w hL wp hC wa hfew hp (fun h => hN h.2) ⟨h0, h1⟩
        · exact c2b_far p v css a w hL wp hC wa hfew hp (fun h => hN h.2) ⟨h0, h1⟩
      · exact c2b_neg p v css a w hL wp hC wa hfew hp (fun h => hN h.2) h0
  · by_cases h0 : 0 ≤ a
    · by_cases h1 : a < p
      · exact c2a_in p v css a w hL wp hC wa hfew hp (fun h => hp h.1) ⟨h0, h1⟩
      · exact c2a_far p v css a w hL wp hC wa hfew hp (fun h => hp h.1) ⟨h0, h1⟩
    · exact c2a_neg p v css a w hL wp hC wa hfew hp (fun h => hp h.1) h0

set_option maxRecDepth 100000 in
theorem lifted (os : Os) (started : os.Started) (H : Type) (enc : TypeId × Value → H) :
    ReturnsInHanded {} Tryz.checked os 4 .any (fun w args => (Rows.chainAlonesSpec.pre enc Tryz.prog Tryz.f4 [] false w args ∧ laidMetH Tryz.prog laidL w) ∧ sizedMet enc Tryz.prog Tryz.f4 (OpenSpec.ofChange Rows.chainAlonesSpec) false w args)
      (Rows.chainAlonesSpec.post enc Tryz.prog Tryz.f4 false true false false) := by
  refine returnsInHanded_of_change_and (C := Tryz.checked) (X := fun w _ => laidMetH Tryz.prog laidL w) (fun _ _ _ hh h => h.of_heap hh) own started (by kernel_rfl) Tryz.func4
    (ChangeSpec.witness_shaped (enc := enc) (C := Tryz.checked) (os := os) (X := fun w _ => laidMetH Tryz.prog laidL w) false (World.doorLaid Tryz.prog 200 os) #[.int .i64 0, .slice none 0 0, .int .i64 0] 8 rfl (World.shaped_of_RefB (by kernel_rfl) (by kernel_rfl)) (by kernel_rfl) (by kernel_rfl) (by kernel_rfl) (door_met os _)) ?_
  intro W base args ds gs before hval0 hW _ _ hL0 _
  have hL := laid_of hL0
  have hval : ∀ (j : Nat) t v, Tryz.f4.params[j]? = some t → args[j]? = some v → Value.okWide Tryz.prog W .any base t v := hval0
  have hW' := hW
  obtain ⟨p, q, hA0, hV, rfl, hfz, hnd⟩ := hW
  have hA : DataW.TrodAll enc Tryz.prog W 0 (fun _ => true) true Tryz.f4.params.toList args.toList ds p := hA0
  rw [Tryz.params4] at hA hval
  obtain ⟨v0, vs0, d0, ds0, p0, q0, hargs, rfl, rfl, h0, r0⟩ := trodAll_cons hA
  obtain ⟨v1, vs1, d1, ds1, p1, q1, rfl, rfl, rfl, h1, r1⟩ := trodAll_cons r0
  obtain ⟨v2, vs2, d2, ds2, p2, q2, rfl, rfl, rfl, h2, r2⟩ := trodAll_cons r1
  obtain ⟨rfl, rfl, rfl⟩ := trodAll_nil r2
  obtain rfl : args = #[v0, v1, v2] := by cases args; simp_all
  obtain ⟨rfl, rfl⟩ := trodVars_none hV
  obtain ⟨a0, rfl, rfl, rfl, w0⟩ := open_int Tryz.underlying3 (hval 0 3 v0 rfl rfl) h0
  have k1 := h1
  have lt1 : ∀ x ∈ p1, x.block < W.heap.size := by obtain ⟨m, hm⟩ := k1; exact DataW.trod_lt m _ _ _ hm
  obtain ⟨a1, len1, cap1, rfl⟩ := okWide_slice Tryz.underlying22 (hval 1 22 v1 rfl rfl)
  obtain ⟨l1, w1⟩ : ∃ css, E.Cols W.heap.size W (.slice a1 len1 cap1) css := by obtain ⟨fuel, hf⟩ := h1; exact E.open_cols hf
  obtain ⟨a2, rfl, rfl, rfl, w2⟩ := open_int Tryz.underlying3 (hval 2 3 v2 rfl rfl) h2
  clear hA0 hval0
  simp only [List.append_nil] at hW'
  refine (walk a0 _ l1 a2 W hL (E.wf_i64 w0) w1 (E.wf_i64 w2)).mono fun e W' ⟨he, bel⟩ => ?_
  subst he
  exact ⟨_, rfl, _, _, _, [], _, [], hW', trodAll_mk1 (shut_bool Tryz.underlying4 _), (trodAll_cons_mk (shut_int Tryz.underlying3 w0) (trodAll_cons_mk (Below.trod laidOut (by kernel_rfl) (of_decide_eq_true (by kernel_rfl)) k1 bel lt1) (trodAll_cons_mk (shut_int Tryz.underlying3 w2) trodAll_mk0))), rfl, bel.frame _, fun h => by cases h⟩

theorem over : Rows.chainAlonesRow.holds Tryz.pinned (OpenSpec.ofChange Rows.chainAlonesSpec) :=
  OpenClaim.holds_of_wide 4 Tryz.f4 rfl rfl rfl rfl rfl rfl rfl ⟨rfl, rfl, rfl, rfl, rfl⟩ rfl rfl rfl rfl rfl (by kernel_rfl) Tryz.func4 (by kernel_rfl)
    (of_decide_eq_true (by kernel_rfl)) (by unfold Func.isWrapper; first | (rw [if_pos (by decide +kernel)]; kernel_rfl) | (rw [if_neg (by decide +kernel)]; exact ⟨rfl, rfl⟩))
    (fun os started H enc _ => lifted os started H enc)

/-- The tied card: the row, and the tie that is given. -/
theorem chainAlones_holds : Rows.ChainAlonesCardSaid :=
  Claim7.holds_tied_plain_at .later [] [.data, .data] true (true, "04234f3f060f9d3c1fcc54ee3ea50096c353507eb5b730862edaf3c413619c3f") true over (fun _ h => by cases h) (by kernel_rfl) (fun _ h => by cases h) chainAlones_row_tie rfl ⟨rfl, rfl⟩ (by kernel_rfl) rfl
    (fun f fn hf hfn => by
      obtain rfl : f = 4 := Option.some.inj ((show Tryz.prog.funcNamed "palisade/palisadelaw11.ChainAlones" = some 4 by kernel_rfl).symm.trans hf) |>.symm
      obtain rfl : fn = Tryz.f4 := (Option.some.inj (Tryz.func4.symm.trans hfn)).symm
      exact ⟨by kernel_rfl, fun j t ht => by
        rw [Tryz.params4] at ht
        have hm : t ∈ [3, 22, 3] := by simpa using Array.mem_of_getElem? ht
        have hall : ([3, 22, 3].all fun u => !Tryz.prog.wantsStandIn u) = true := by kernel_rfl
        exact (show Tryz.prog.wantsStandIn t = false by simpa using List.all_eq_true.1 hall t hm)⟩)
    (by kernel_rfl)
end Go.Proofs.YtfihlelhpmjpaaaGreatDoor.chainAlones
