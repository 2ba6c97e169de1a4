/- The law RingHolds answers true for every input and leaves its arguments as they were. -/
import Derived.Test.YtckfepmahjgmfaaDoorRSA
import Derived.Test.YtckfepmahjgmfaaDoorCards
import Derived.Test.YtckfepmahjgmfaaDoorTie
import Derived.SevenTiedAt
import Derived.Test.YtckfepmahjgmfaaDoorRG10
import Derived.Test.YtckfepmahjgmfaaDoorRG3
namespace Go.Proofs.YtckfepmahjgmfaaDoor.ringHolds
open Go.ChangeShapes Go.WideShapes Go.ChangeAt Go.RowKit Go.Shelf
set_option linter.unusedVariables false
set_option linter.unusedSimpArgs false
attribute [local go_sem] Oper.semAt_some

open Go.Proofs.YtckfepmahjgmfaaDoor.E Go.Proofs.YtckfepmahjgmfaaDoor.C Go.Proofs.YtckfepmahjgmfaaDoor.Rg in
set_option maxRecDepth 100000 in
set_option maxHeartbeats 4000000 in
theorem nf (p : Int) (v : Value) (c : List (List UInt8)) (v2 : Value) (d : List (List UInt8)) (a b : Int) (w : World) (hL : Laid w) (wp : -9223372036854775808 ≤ p ∧ p ≤ 9223372036854775807) (hC : Many w.heap.size w v c) (hD : Many w.heap.size w v2 d) (wa : -9223372036854775808 ≤ a ∧ a ≤ 9223372036854775807) (wb : -9223372036854775808 ≤ b ∧ b ≤ 9223372036854775807) (hfew : ¬ Few6 [c, d]) :
    Calls Tryd.prog 7 #[.int .i64 p, v, v2, .int .i64 a, .int .i64 b] w fun e w' => e = .returned (.bool true) ∧ Below w.heap.size w w' := by
  obtain ⟨A, ca, rfl, _, _⟩ := id hC
  obtain ⟨A', cb, rfl, _, _⟩ := id hD
  obtain ⟨nc, hnc⟩ : ∃ x, c.length = x := ⟨_, rfl⟩
  obtain ⟨nd, hnd⟩ : ∃ x, d.length = x := ⟨_, rfl⟩
  rw [hnc] at hC ⊢
  rw [hnd] at hD ⊢
  have hA0 := below_one w (.cells #[.slice A nc ca, .slice A' nd cb] 23)
  have bA0 := Blk.new w 23 #[.slice A nc ca, .slice A' nd cb]
  replace hC := (hC.below hA0).more hA0.size
  replace hD := (hD.below hA0).more hA0.size
  have hBw := hA0
  have HF := Lib.hid (few6_any _ _ (w.alloc (.cells #[.slice A nc ca, .slice A' nd cb] 23)) (cols_two bA0 hC hD bA0.lt) false (by simp [hfew]))
  clear bA0
  go_enter Tryd.func7, Tryd.ntmps7
  go_wp2_with fail
  refine HF.out.mono ?_
  rintro e w0 ⟨rfl, rfl⟩
  clear HF
  go_wp2_with fail
  refine (works_any _ (hL.next hBw)).mono ?_
  rintro e wz ⟨rfl, hBz⟩
  go_wp2
  go_ret
  exact ⟨rfl, below_in hBw hBz⟩
open Go.Proofs.YtckfepmahjgmfaaDoor.E Go.Proofs.YtckfepmahjgmfaaDoor.C Go.Proofs.YtckfepmahjgmfaaDoor.Rg in
set_option maxRecDepth 100000 in
set_option maxHeartbeats 4000000 in
theorem nr (p : Int) (v : Value) (c : List (List UInt8)) (v2 : Value) (d : List (List UInt8)) (a b : Int) (w : World) (hL : Laid w) (wp : -9223372036854775808 ≤ p ∧ p ≤ 9223372036854775807) (hC : Many w.heap.size w v c) (hD : Many w.heap.size w v2 d) (wa : -9223372036854775808 ≤ a ∧ a ≤ 9223372036854775807) (wb : -9223372036854775808 ≤ b ∧ b ≤ 9223372036854775807) (hfew : Few6 [c, d]) (hrt : ¬ RightD p [c, d]) :
    Calls Tryd.prog 7 #[.int .i64 p, v, v2, .int .i64 a, .int .i64 b] w fun e w' => e = .returned (.bool true) ∧ Below w.heap.size w w' := by
  obtain ⟨A, ca, rfl, _, _⟩ := id hC
  obtain ⟨A', cb, rfl, _, _⟩ := id hD
  obtain ⟨nc, hnc⟩ : ∃ x, c.length = x := ⟨_, rfl⟩
  obtain ⟨nd, hnd⟩ : ∃ x, d.length = x := ⟨_, rfl⟩
  rw [hnc] at hC ⊢
  rw [hnd] at hD ⊢
  have hA0 := below_one w (.cells #[.slice A nc ca, .slice A' nd cb] 23)
  have bA0 := Blk.new w 23 #[.slice A nc ca, .slice A' nd cb]
  replace hC := (hC.below hA0).more hA0.size
  replace hD := (hD.below hA0).more hA0.size
  have hBw := hA0
  have HF := Lib.hid (few6_any _ _ (w.alloc (.cells #[.slice A nc ca, .slice A' nd cb] 23)) (cols_two bA0 hC hD bA0.lt) true (by simp [hfew]))
  clear bA0
  go_enter Tryd.func7, Tryd.ntmps7
  go_wp2_with fail
  refine HF.out.mono ?_
  rintro e w0 ⟨rfl, rfl⟩
  clear HF
  obtain ⟨w0, hw0⟩ : ∃ x, (w.alloc (.cells #[.slice A nc ca, .slice A' nd cb] 23)) = x := ⟨_, rfl⟩
  rw [hw0] at hC hD hBw hA0 ⊢
  clear hw0 hA0
  have hA1 := below_one w0 (.cells #[.slice A nc ca, .slice A' nd cb] 23)
  have bA1 := Blk.new w0 23 #[.slice A nc ca, .slice A' nd cb]
  replace hC := (hC.below hA1).more hA1.size
  replace hD := (hD.below hA1).more hA1.size
  replace hBw := below_in hBw hA1
  have HR := Lib.hid (right6_any p _ [c, d] (w0.alloc (.cells #[.slice A nc ca, .slice A' nd cb] 23)) (Nat.le_refl _) (cols_two bA1 hC hD bA1.lt) (by show 2 ≤ 1000; omega) false (by simp [hrt]))
  clear bA1
  go_wp2_with fail
  refine (HR.out).mono ?_
  rintro e w1 ⟨rfl, hB⟩
  clear HR
  replace hC := (hC.below hB).more hB.size
  replace hD := (hD.below hB).more hB.size
  replace hBw := below_in hBw hB
  clear hB
  go_wp2_with fail
  refine (works_any _ (hL.next hBw)).mono ?_
  rintro e wz ⟨rfl, hBz⟩
  go_wp2
  go_ret
  exact ⟨rfl, below_in hBw hBz⟩
open Go.Proofs.YtckfepmahjgmfaaDoor.E Go.Proofs.YtckfepmahjgmfaaDoor.C Go.Proofs.YtckfepmahjgmfaaDoor.Rg in
set_option maxRecDepth 100000 in
set_option maxHeartbeats 4000000 in
theorem x1 (p : Int) (v : Value) (c : List (List UInt8)) (v2 : Value) (d : List (List UInt8)) (a b : Int) (w : World) (hL : Laid w) (wp : -9223372036854775808 ≤ p ∧ p ≤ 9223372036854775807) (hC : Many w.heap.size w v c) (hD : Many w.heap.size w v2 d) (wa : -9223372036854775808 ≤ a ∧ a ≤ 9223372036854775807) (wb : -9223372036854775808 ≤ b ∧ b ≤ 9223372036854775807) (hfew : Few6 [c, d]) (hrt : RightD p [c, d]) (g1 : a < -1000) :
    Calls Tryd.prog 7 #[.int .i64 p, v, v2, .int .i64 a, .int .i64 b] w fun e w' => e = .returned (.bool true) ∧ Below w.heap.size w w' := by
  obtain ⟨A, ca, rfl, _, _⟩ := id hC
  obtain ⟨A', cb, rfl, _, _⟩ := id hD
  obtain ⟨nc, hnc⟩ : ∃ x, c.length = x := ⟨_, rfl⟩
  obtain ⟨nd, hnd⟩ : ∃ x, d.length = x := ⟨_, rfl⟩
  rw [hnc] at hC ⊢
  rw [hnd] at hD ⊢
  have hA0 := below_one w (.cells #[.slice A nc ca, .slice A' nd cb] 23)
  have bA0 := Blk.new w 23 #[.slice A nc ca, .slice A' nd cb]
  replace hC := (hC.below hA0).more hA0.size
  replace hD := (hD.below hA0).more hA0.size
  have hBw := hA0
  have HF := Lib.hid (few6_any _ _ (w.alloc (.cells #[.slice A nc ca, .slice A' nd cb] 23)) (cols_two bA0 hC hD bA0.lt) true (by simp [hfew]))
  clear bA0
  have d1 : decide (a < -1000) = true := decide_eq_true g1
  go_enter Tryd.func7, Tryd.ntmps7
  go_wp2_with fail
  refine HF.out.mono ?_
  rintro e w0 ⟨rfl, rfl⟩
  clear HF
  obtain ⟨w0, hw0⟩ : ∃ x, (w.alloc (.cells #[.slice A nc ca, .slice A' nd cb] 23)) = x := ⟨_, rfl⟩
  rw [hw0] at hC hD hBw hA0 ⊢
  clear hw0 hA0
  have hA1 := below_one w0 (.cells #[.slice A nc ca, .slice A' nd cb] 23)
  have bA1 := Blk.new w0 23 #[.slice A nc ca, .slice A' nd cb]
  replace hC := (hC.below hA1).more hA1.size
  replace hD := (hD.below hA1).more hA1.size
  replace hBw := below_in hBw hA1
  have HR := Lib.hid (right6_any p _ [c, d] (w0.alloc (.cells #[.slice A nc ca, .slice A' nd cb] 23)) (Nat.le_refl _) (cols_two bA1 hC hD bA1.lt) (by show 2 ≤ 1000; omega) true (by simp [hrt]))
  clear bA1
  go_wp2_with fail
  refine (HR.out).mono ?_
  rintro e w1 ⟨rfl, hB⟩
  clear HR
  replace hC := (hC.below hB).more hB.size
  replace hD := (hD.below hB).more hB.size
  replace hBw := below_in hBw hB
  clear hB
  go_wp2_with fail
  refine (works_any _ (hL.next hBw)).mono ?_
  rintro e wz ⟨rfl, hBz⟩
  go_wp2
  go_ret
  exact ⟨rfl, below_in hBw hBz⟩
open Go.Proofs.YtckfepmahjgmfaaDoor.E Go.Proofs.YtckfepmahjgmfaaDoor.C Go.Proofs.YtckfepmahjgmfaaDoor.Rg in
set_option maxRecDepth 100000 in
set_option maxHeartbeats 4000000 in
theorem x2 (p : Int) (v : Value) (c : List (List UInt8)) (v2 : Value) (d : List (List UInt8)) (a b : Int) (w : World) (hL : Laid w) (wp : -9223372036854775808 ≤ p ∧ p ≤ 9223372036854775807) (hC : Many w.heap.size w v c) (hD : Many w.heap.size w v2 d) (wa : -9223372036854775808 ≤ a ∧ a ≤ 9223372036854775807) (wb : -9223372036854775808 ≤ b ∧ b ≤ 9223372036854775807) (hfew : Few6 [c, d]) (hrt : RightD p [c, d]) (g1 : ¬ a < -1000) (g2 : 1000 < a) :
    Calls Tryd.prog 7 #[.int .i64 p, v, v2, .int .i64 a, .int .i64 b] w fun e w' => e = .returned (.bool true) ∧ Below w.heap.size w w' := by
  obtain ⟨A, ca, rfl, _, _⟩ := id hC
  obtain ⟨A', cb, rfl, _, _⟩ := id hD
  obtain ⟨nc, hnc⟩ : ∃ x, c.length = x := ⟨_, rfl⟩
  obtain ⟨nd, hnd⟩ : ∃ x, d.length = x := ⟨_, rfl⟩
  rw [hnc] at hC ⊢
  rw [hnd] at hD ⊢
  have hA0 := below_one w (.cells #[.slice A nc ca, .slice A' nd cb] 23)
  have bA0 := Blk.new w 23 #[.slice A nc ca, .slice A' nd cb]
  replace hC := (hC.below hA0).more hA0.size
  replace hD := (hD.below hA0).more hA0.size
  have hBw := hA0
  have HF := Lib.hid (few6_any _ _ (w.alloc (.cells #[.slice A nc ca, .slice A' nd cb] 23)) (cols_two bA0 hC hD bA0.lt) true (by simp [hfew]))
  clear bA0
  have d1 : decide (a < -1000) = false := decide_eq_false g1
  have d2 : decide (1000 < a) = true := decide_eq_true g2
  go_enter Tryd.func7, Tryd.ntmps7
  go_wp2_with fail
  refine HF.out.mono ?_
  rintro e w0 ⟨rfl, rfl⟩
  clear HF
  obtain ⟨w0, hw0⟩ : ∃ x, (w.alloc (.cells #[.slice A nc ca, .slice A' nd cb] 23)) = x := ⟨_, rfl⟩
  rw [hw0] at hC hD hBw hA0 ⊢
  clear hw0 hA0
  have hA1 := below_one w0 (.cells #[.slice A nc ca, .slice A' nd cb] 23)
  have bA1 := Blk.new w0 23 #[.slice A nc ca, .slice A' nd cb]
  replace hC := (hC.below hA1).more hA1.size
  replace hD := (hD.below hA1).more hA1.size
  replace hBw := below_in hBw hA1
  have HR := Lib.hid (right6_any p _ [c, d] (w0.alloc (.cells #[.slice A nc ca, .slice A' nd cb] 23)) (Nat.le_refl _) (cols_two bA1 hC hD bA1.lt) (by show 2 ≤ 1000; omega) true (by simp [hrt]))
  clear bA1
  go_wp2_with fail
  refine (HR.out).mono ?_
  rintro e w1 ⟨rfl, hB⟩
  clear HR
  replace hC := (hC.below hB).more hB.size
  replace hD := (hD.below hB).more hB.size
  replace hBw := below_in hBw hB
  clear hB
  go_wp2_with fail
  refine (works_any _ (hL.next hBw)).mono ?_
  rintro e wz ⟨rfl, hBz⟩
  go_wp2
  go_ret
  exact ⟨rfl, below_in hBw hBz⟩
open Go.Proofs.YtckfepmahjgmfaaDoor.E Go.Proofs.YtckfepmahjgmfaaDoor.C Go.Proofs.YtckfepmahjgmfaaDoor.Rg in
set_option maxRecDepth 100000 in
set_option maxHeartbeats 4000000 in
theorem x3 (p : Int) (v : Value) (c : List (List UInt8)) (v2 : Value) (d : List (List UInt8)) (a b : Int) (w : World) (hL : Laid w) (wp : -9223372036854775808 ≤ p ∧ p ≤ 9223372036854775807) (hC : Many w.heap.size w v c) (hD : Many w.heap.size w v2 d) (wa : -9223372036854775808 ≤ a ∧ a ≤ 9223372036854775807) (wb : -9223372036854775808 ≤ b ∧ b ≤ 9223372036854775807) (hfew : Few6 [c, d]) (hrt : RightD p [c, d]) (g1 : ¬ a < -1000) (g2 : ¬ 1000 < a) (g3 : b < -1000) :
    Calls Tryd.prog 7 #[.int .i64 p, v, v2, .int .i64 a, .int .i64 b] w fun e w' => e = .returned (.bool true) ∧ Below w.heap.size w w' := by
  obtain ⟨A, ca, rfl, _, _⟩ := id hC
  obtain ⟨A', cb, rfl, _, _⟩ := id hD
  obtain ⟨nc, hnc⟩ : ∃ x, c.length = x := ⟨_, rfl⟩
  obtain ⟨nd, hnd⟩ : ∃ x, d.length = x := ⟨_, rfl⟩
  rw [hnc] at hC ⊢
  rw [hnd] at hD ⊢
  have hA0 := below_one w (.cells #[.slice A nc ca, .slice A' nd cb] 23)
  have bA0 := Blk.new w 23 #[.slice A nc ca, .slice A' nd cb]
  replace hC := (hC.below hA0).more hA0.size
  replace hD := (hD.below hA0).more hA0.size
  have hBw := hA0
  have HF := Lib.hid (few6_any _ _ (w.alloc (.cells #[.slice A nc ca, .slice A' nd cb] 23)) (cols_two bA0 hC hD bA0.lt) true (by simp [hfew]))
  clear bA0
  have d1 : decide (a < -1000) = false := decide_eq_false g1
  have d2 : decide (1000 < a) = false := decide_eq_false g2
  have d3 : decide (b < -1000) = true := decide_eq_true g3
  go_enter Tryd.func7, Tryd.ntmps7
  go_wp2_with fail
  refine HF.out.mono ?_
  rintro e w0 ⟨rfl, rfl⟩
  clear HF
  obtain ⟨w0, hw0⟩ : ∃ x, (w.alloc (.cells #[.slice A nc ca, .slice A' nd cb] 23)) = x := ⟨_, rfl⟩
  rw [hw0] at hC hD hBw hA0 ⊢
  clear hw0 hA0
  have hA1 := below_one w0 (.cells #[.slice A nc ca, .slice A' nd cb] 23)
  have bA1 := Blk.new w0 23 #[.slice A nc ca, .slice A' nd cb]
  replace hC := (hC.below hA1).more hA1.size
  replace hD := (hD.below hA1).more hA1.size
  replace hBw := below_in hBw hA1
  have HR := Lib.hid (right6_any p _ [c, d] (w0.alloc (.cells #[.slice A nc ca, .slice A' nd cb] 23)) (Nat.le_refl _) (cols_two bA1 hC hD bA1.lt) (by show 2 ≤ 1000; omega) true (by simp [hrt]))
  clear bA1
  go_wp2_with fail
  refine (HR.out).mono ?_
  rintro e w1 ⟨rfl, hB⟩
  clear HR
  replace hC := (hC.below hB).more hB.size
  replace hD := (hD.below hB).more hB.size
  replace hBw := below_in hBw hB
  clear hB
  go_wp2_with fail
  refine (works_any _ (hL.next hBw)).mono ?_
  rintro e wz ⟨rfl, hBz⟩
  go_wp2
  go_ret
  exact ⟨rfl, below_in hBw hBz⟩
open Go.Proofs.YtckfepmahjgmfaaDoor.E Go.Proofs.YtckfepmahjgmfaaDoor.C Go.Proofs.YtckfepmahjgmfaaDoor.Rg in
set_option maxRecDepth 100000 in
set_option maxHeartbeats 4000000 in
theorem x4 (p : Int) (v : Value) (c : List (List UInt8)) (v2 : Value) (d : List (List UInt8)) (a b : Int) (w : World) (hL : Laid w) (wp : -9223372036854775808 ≤ p ∧ p ≤ 9223372036854775807) (hC : Many w.heap.size w v c) (hD : Many w.heap.size w v2 d) (wa : -9223372036854775808 ≤ a ∧ a ≤ 9223372036854775807) (wb : -9223372036854775808 ≤ b ∧ b ≤ 9223372036854775807) (hfew : Few6 [c, d]) (hrt : RightD p [c, d]) (g1 : ¬ a < -1000) (g2 : ¬ 1000 < a) (g3 : ¬ b < -1000) (g4 : 1000 < b) :
    Calls Tryd.prog 7 #[.int .i64 p, v, v2, .int .i64 a, .int .i64 b] w fun e w' => e = .returned (.bool true) ∧ Below w.heap.size w w' := by
  obtain ⟨A, ca, rfl, _, _⟩ := id hC
  obtain ⟨A', cb, rfl, _, _⟩ := id hD
  obtain ⟨nc, hnc⟩ : ∃ x, c.length = x := ⟨_, rfl⟩
  obtain ⟨nd, hnd⟩ : ∃ x, d.length = x := ⟨_, rfl⟩
  rw [hnc] at hC ⊢
  rw [hnd] at hD ⊢
  have hA0 := below_one w (.cells #[.slice A nc ca, .slice A' nd cb] 23)
  have bA0 := Blk.new w 23 #[.slice A nc ca, .slice A' nd cb]
  replace hC := (hC.below hA0).more hA0.size
  replace hD := (hD.below hA0).more hA0.size
  have hBw := hA0
  have HF := Lib.hid (few6_any _ _ (w.alloc (.cells #[.slice A nc ca, .slice A' nd cb] 23)) (cols_two bA0 hC hD bA0.lt) true (by simp [hfew]))
  clear bA0
  have d1 : decide (a < -1000) = false := decide_eq_false g1
  have d2 : decide (1000 < a) = false := decide_eq_false g2
  have d3 : decide (b < -1000) = false := decide_eq_false g3
  have d4 : decide (1000 < b) = true := decide_eq_true g4
  go_enter Tryd.func7, Tryd.ntmps7
  go_wp2_with fail
  refine HF.out.mono ?_
  rintro e w0 ⟨rfl, rfl⟩
  clear HF
  obtain ⟨w0, hw0⟩ : ∃ x, (w.alloc (.cells #[.slice A nc ca, .slice A' nd cb] 23)) = x := ⟨_, rfl⟩
  rw [hw0] at hC hD hBw hA0 ⊢
  clear hw0 hA0
  have hA1 := below_one w0 (.cells #[.slice A nc ca, .slice A' nd cb] 23)
  have bA1 := Blk.new w0 23 #[.slice A nc ca, .slice A' nd cb]
  replace hC := (hC.below hA1).more hA1.size
  replace hD := (hD.below hA1).more hA1.size
  replace hBw := below_in hBw hA1
  have HR := Lib.hid (right6_any p _ [c, d] (w0.alloc (.cells #[.slice A nc ca, .slice A' nd cb] 23)) (Nat.le_refl _) (cols_two bA1 hC hD bA1.lt) (by show 2 ≤ 1000; omega) true (by simp [hrt]))
  clear bA1
  go_wp2_with fail
  refine (HR.out).mono ?_
  rintro e w1 ⟨rfl, hB⟩
  clear HR
  replace hC := (hC.below hB).more hB.size
  replace hD := (hD.below hB).more hB.size
  replace hBw := below_in hBw hB
  clear hB
  go_wp2_with fail
  refine (works_any _ (hL.next hBw)).mono ?_
  rintro e wz ⟨rfl, hBz⟩
  go_wp2
  go_ret
  exact ⟨rfl, below_in hBw hBz⟩
open Go.Proofs.YtckfepmahjgmfaaDoor.E Go.Proofs.YtckfepmahjgmfaaDoor.C Go.Proofs.YtckfepmahjgmfaaDoor.Rg in
set_option maxRecDepth 100000 in
set_option maxHeartbeats 4000000 in
theorem z0 (p : Int) (v : Value) (c : List (List UInt8)) (v2 : Value) (d : List (List UInt8)) (a b : Int) (w : World) (hL : Laid w) (wp : -9223372036854775808 ≤ p ∧ p ≤ 9223372036854775807) (hC : Many w.heap.size w v c) (hD : Many w.heap.size w v2 d) (wa : -9223372036854775808 ≤ a ∧ a ≤ 9223372036854775807) (wb : -9223372036854775808 ≤ b ∧ b ≤ 9223372036854775807) (hfew : Few6 [c, d]) (hrt : RightD p [c, d]) (g1 : ¬ a < -1000) (g2 : ¬ 1000 < a) (g3 : ¬ b < -1000) (g4 : ¬ 1000 < b) (hz0 : a % p = 0) :
    Calls Tryd.prog 7 #[.int .i64 p, v, v2, .int .i64 a, .int .i64 b] w fun e w' => e = .returned (.bool true) ∧ Below w.heap.size w w' := by
  obtain ⟨A, ca, rfl, _, _⟩ := id hC
  obtain ⟨A', cb, rfl, _, _⟩ := id hD
  obtain ⟨nc, hnc⟩ : ∃ x, c.length = x := ⟨_, rfl⟩
  obtain ⟨nd, hnd⟩ : ∃ x, d.length = x := ⟨_, rfl⟩
  rw [hnc] at hC ⊢
  rw [hnd] at hD ⊢
  have hA0 := below_one w (.cells #[.slice A nc ca, .slice A' nd cb] 23)
  have bA0 := Blk.new w 23 #[.slice A nc ca, .slice A' nd cb]
  replace hC := (hC.below hA0).more hA0.size
  replace hD := (hD.below hA0).more hA0.size
  have hBw := hA0
  have HF := Lib.hid (few6_any _ _ (w.alloc (.cells #[.slice A nc ca, .slice A' nd cb] 23)) (cols_two bA0 hC hD bA0.lt) true (by simp [hfew]))
  clear bA0
  have d1 : decide (a < -1000) = false := decide_eq_false g1
  have d2 : decide (1000 < a) = false := decide_eq_false g2
  have d3 : decide (b < -1000) = false := decide_eq_false g3
  have d4 : decide (1000 < b) = false := decide_eq_false g4
  go_enter Tryd.func7, Tryd.ntmps7
  go_wp2_with fail
  refine HF.out.mono ?_
  rintro e w0 ⟨rfl, rfl⟩
  clear HF
  obtain ⟨w0, hw0⟩ : ∃ x, (w.alloc (.cells #[.slice A nc ca, .slice A' nd cb] 23)) = x := ⟨_, rfl⟩
  rw [hw0] at hC hD hBw hA0 ⊢
  clear hw0 hA0
  have hA1 := below_one w0 (.cells #[.slice A nc ca, .slice A' nd cb] 23)
  have bA1 := Blk.new w0 23 #[.slice A nc ca, .slice A' nd cb]
  replace hC := (hC.below hA1).more hA1.size
  replace hD := (hD.below hA1).more hA1.size
  replace hBw := below_in hBw hA1
  have HR := Lib.hid (right6_any p _ [c, d] (w0.alloc (.cells #[.slice A nc ca, .slice A' nd cb] 23)) (Nat.le_refl _) (cols_two bA1 hC hD bA1.lt) (by show 2 ≤ 1000; omega) true (by simp [hrt]))
  clear bA1
  go_wp2_with fail
  refine (HR.out).mono ?_
  rintro e w1 ⟨rfl, hB⟩
  clear HR
  replace hC := (hC.below hB).more hB.size
  replace hD := (hD.below hB).more hB.size
  replace hBw := below_in hBw hB
  clear hB
  obtain ⟨P, Q, n, rfl, hQ, hp, h1, h64, _, hg⟩ := right_yes hrt (by show 0 < 2; omega)
  have gc : GoodC Q n c := hg 0 (by show 0 < 2; omega)
  have gd : GoodC Q n d := hg 1 (by show 1 < 2; omega)
  clear hg
  have D : Dims P Q n := ⟨hQ, hp, h1, h64⟩
  have hpb := prm_bounds hp
  obtain rfl : Q = nc := by rw [← hnc, gc.1]
  obtain rfl : Q = nd := by rw [← hnd, gd.1]
  clear hQ hp h1 h64 hnc hnd hrt hfew
  have gx := turn_good (P := P) D.h1 D.h64 gc a
  go_wp2_with fail
  refine (turnY D (a) (by omega) (by omega) c gc _ _ (hL.next hBw) hC).mono ?_
  rintro e y0 ⟨A0, k0, rfl, hx, hB⟩
  replace hC := (hC.below hB).more hB.size
  replace hD := (hD.below hB).more hB.size
  replace hBw := below_in hBw hB
  clear hB
  go_wp2_with fail
  refine (turnY D (b) (by omega) (by omega) (turnC P Q n c a) gx _ _ (hL.next hBw) hx).mono ?_
  rintro e y1 ⟨A1, k1, rfl, hy, hB⟩
  replace hC := (hC.below hB).more hB.size
  replace hD := (hD.below hB).more hB.size
  replace hx := (hx.below hB).more hB.size
  replace hBw := below_in hBw hB
  clear hB
  go_wp2_with fail
  refine (turnY D (a + b) (by omega) (by omega) c gc _ _ (hL.next hBw) hC).mono ?_
  rintro e y2 ⟨A2, k2, rfl, hz, hB⟩
  replace hC := (hC.below hB).more hB.size
  replace hD := (hD.below hB).more hB.size
  replace hx := (hx.below hB).more hB.size
  replace hy := (hy.below hB).more hB.size
  replace hBw := below_in hBw hB
  clear hB
  go_wp2_with fail
  refine (turnY D ((P : Int)) (by omega) (by omega) c gc _ _ (hL.next hBw) hC).mono ?_
  rintro e y3 ⟨A3, k3, rfl, ho, hB⟩
  replace hC := (hC.below hB).more hB.size
  replace hD := (hD.below hB).more hB.size
  replace hx := (hx.below hB).more hB.size
  replace hy := (hy.below hB).more hB.size
  replace hz := (hz.below hB).more hB.size
  replace hBw := below_in hBw hB
  clear hB
  go_wp2_with fail
  refine (num_any _ _).mono ?_
  rintro e w' ⟨rfl, rfl⟩
  go_wp2_with fail
  refine (num_any _ _).mono ?_
  rintro e w' ⟨rfl, rfl⟩
  go_wp2_with fail
  refine (num_any _ _).mono ?_
  rintro e w' ⟨rfl, rfl⟩
  go_wp2_with fail
  refine (num_any _ _).mono ?_
  rintro e w' ⟨rfl, rfl⟩
  go_wp2_with fail
  refine (sameY D _ _ (turn_good D.h1 D.h64 gx b) (turn_turn D.hQ D.h1 D.h64 gc a b) _ _ _ hy hz).mono ?_
  rintro e y4 ⟨rfl, hB⟩
  replace hC := (hC.below hB).more hB.size
  replace hD := (hD.below hB).more hB.size
  replace hx := (hx.below hB).more hB.size
  replace hy := (hy.below hB).more hB.size
  replace hz := (hz.below hB).more hB.size
  replace ho := (ho.below hB).more hB.size
  replace hBw := below_in hBw hB
  clear hB
  go_wp2_with fail
  refine (sameY D _ _ (turn_good D.h1 D.h64 gc (P : Int)) (turn_own D.hQ D.h1 D.h64 gc) _ _ _ ho hC).mono ?_
  rintro e y5 ⟨rfl, hB⟩
  replace hC := (hC.below hB).more hB.size
  replace hD := (hD.below hB).more hB.size
  replace hx := (hx.below hB).more hB.size
  replace hy := (hy.below hB).more hB.size
  replace hz := (hz.below hB).more hB.size
  replace ho := (ho.below hB).more hB.size
  replace hBw := below_in hBw hB
  clear hB
  clear hy hz ho
  go_wp2_with fail
  skip
  have hA2 := below_one y5 (.cells #[.slice A Q ca, .slice A' Q cb] 23)
  have bA2 := Blk.new y5 23 #[.slice A Q ca, .slice A' Q cb]
  replace hC := (hC.below hA2).more hA2.size
  replace hD := (hD.below hA2).more hA2.size
  replace hx := (hx.below hA2).more hA2.size
  replace hBw := below_in hBw hA2
  have gcd : ∀ j, j < [c, d].length → GoodC Q n ([c, d][j]?.getD []) := fun j hj => by
    have hj2 : j = 0 ∨ j = 1 := (by have : j < 2 := hj; omega)
    rcases hj2 with rfl | rfl
    · exact gc
    · exact gd
  go_wp2_with fail
  refine (sumY D [c, d] (by show 0 < 2; omega) (by show 2 ≤ 100; omega) gcd _ _ (hL.next hBw) (cols_two bA2 hC hD bA2.lt)).mono ?_
  rintro e ys ⟨As, ks, rfl, hs, hB⟩
  clear bA2
  replace hC := (hC.below hB).more hB.size
  replace hD := (hD.below hB).more hB.size
  replace hx := (hx.below hB).more hB.size
  replace hBw := below_in hBw hB
  clear hB
  have gs : GoodC Q n (sumC Q [c, d]) := sum_good D.h1 D.h64 (by show 0 < 2; omega) (by intro x hx; simp only [List.mem_cons, List.not_mem_nil, or_false] at hx; rcases hx with rfl | rfl <;> assumption)
  go_wp2_with fail
  refine (turnY D (a) (by omega) (by omega) d gd _ _ (hL.next hBw) hD).mono ?_
  rintro e y6 ⟨A6, k6, rfl, hu, hB⟩
  replace hC := (hC.below hB).more hB.size
  replace hD := (hD.below hB).more hB.size
  replace hx := (hx.below hB).more hB.size
  replace hs := (hs.below hB).more hB.size
  replace hBw := below_in hBw hB
  clear hB
  have gu := turn_good (P := P) D.h1 D.h64 gd a
  go_wp2_with fail
  refine (turnY D (a) (by omega) (by omega) _ gs _ _ (hL.next hBw) hs).mono ?_
  rintro e y7 ⟨A7, k7, rfl, hv, hB⟩
  replace hC := (hC.below hB).more hB.size
  replace hD := (hD.below hB).more hB.size
  replace hx := (hx.below hB).more hB.size
  replace hs := (hs.below hB).more hB.size
  replace hu := (hu.below hB).more hB.size
  replace hBw := below_in hBw hB
  clear hB
  go_wp2_with fail
  skip
  have hA3 := below_one y7 (.cells #[.slice A0 Q k0, .slice A6 Q k6] 23)
  have bA3 := Blk.new y7 23 #[.slice A0 Q k0, .slice A6 Q k6]
  replace hC := (hC.below hA3).more hA3.size
  replace hD := (hD.below hA3).more hA3.size
  replace hx := (hx.below hA3).more hA3.size
  replace hs := (hs.below hA3).more hA3.size
  replace hu := (hu.below hA3).more hA3.size
  replace hv := (hv.below hA3).more hA3.size
  replace hBw := below_in hBw hA3
  have gxu : ∀ j, j < [turnC P Q n c a, turnC P Q n d a].length → GoodC Q n ([turnC P Q n c a, turnC P Q n d a][j]?.getD []) := fun j hj => by
    have hj2 : j = 0 ∨ j = 1 := (by have : j < 2 := hj; omega)
    rcases hj2 with rfl | rfl
    · exact gx
    · exact gu
  go_wp2_with fail
  refine (sumY D _ (by show 0 < 2; omega) (by show 2 ≤ 100; omega) gxu _ _ (hL.next hBw) (cols_two bA3 hx hu bA3.lt)).mono ?_
  rintro e yw ⟨Aw, kw, rfl, hw, hB⟩
  clear bA3
  replace hC := (hC.below hB).more hB.size
  replace hD := (hD.below hB).more hB.size
  replace hx := (hx.below hB).more hB.size
  replace hs := (hs.below hB).more hB.size
  replace hu := (hu.below hB).more hB.size
  replace hv := (hv.below hB).more hB.size
  replace hBw := below_in hBw hB
  clear hB
  go_wp2_with fail
  refine (num_any _ _).mono ?_
  rintro e w' ⟨rfl, rfl⟩
  go_wp2_with fail
  refine (num_any _ _).mono ?_
  rintro e w' ⟨rfl, rfl⟩
  go_wp2_with fail
  refine (num_any _ _).mono ?_
  rintro e w' ⟨rfl, rfl⟩
  go_wp2_with fail
  refine (num_any _ _).mono ?_
  rintro e w' ⟨rfl, rfl⟩
  go_wp2_with fail
  refine (sameY D _ _ (turn_good D.h1 D.h64 gs a) (sum_two D.hQ D.h1 D.h64 gc gd a) _ _ _ hv hw).mono ?_
  rintro e y8 ⟨rfl, hB⟩
  replace hC := (hC.below hB).more hB.size
  replace hD := (hD.below hB).more hB.size
  replace hx := (hx.below hB).more hB.size
  replace hs := (hs.below hB).more hB.size
  replace hu := (hu.below hB).more hB.size
  replace hv := (hv.below hB).more hB.size
  replace hw := (hw.below hB).more hB.size
  replace hBw := below_in hBw hB
  clear hB
  clear hs hu hv hw hx hD
  have hr0 := rem_zero a hz0
  have hPn : ((P : Int) == 0) = false := by rw [beq_eq_false_iff_ne]; omega
  have hPz : (P : Int) ≠ 0 := by omega
  go_wp2_with fail
  refine (works_any _ (hL.next hBw)).mono ?_
  rintro e wz ⟨rfl, hBz⟩
  go_wp2
  go_ret
  exact ⟨rfl, below_in hBw hBz⟩
open Go.Proofs.YtckfepmahjgmfaaDoor.E Go.Proofs.YtckfepmahjgmfaaDoor.C Go.Proofs.YtckfepmahjgmfaaDoor.Rg in
set_option maxRecDepth 100000 in
set_option maxHeartbeats 4000000 in
theorem z1 (p : Int) (v : Value) (c : List (List UInt8)) (v2 : Value) (d : List (List UInt8)) (a b : Int) (w : World) (hL : Laid w) (wp : -9223372036854775808 ≤ p ∧ p ≤ 9223372036854775807) (hC : Many w.heap.size w v c) (hD : Many w.heap.size w v2 d) (wa : -9223372036854775808 ≤ a ∧ a ≤ 9223372036854775807) (wb : -9223372036854775808 ≤ b ∧ b ≤ 9223372036854775807) (hfew : Few6 [c, d]) (hrt : RightD p [c, d]) (g1 : ¬ a < -1000) (g2 : ¬ 1000 < a) (g3 : ¬ b < -1000) (g4 : ¬ 1000 < b) (hz0 : a % p ≠ 0) :
    Calls Tryd.prog 7 #[.int .i64 p, v, v2, .int .i64 a, .int .i64 b] w fun e w' => e = .returned (.bool true) ∧ Below w.heap.size w w' := by
  obtain ⟨A, ca, rfl, _, _⟩ := id hC
  obtain ⟨A', cb, rfl, _, _⟩ := id hD
  obtain ⟨nc, hnc⟩ : ∃ x, c.length = x := ⟨_, rfl⟩
  obtain ⟨nd, hnd⟩ : ∃ x, d.length = x := ⟨_, rfl⟩
  rw [hnc] at hC ⊢
  rw [hnd] at hD ⊢
  have hA0 := below_one w (.cells #[.slice A nc ca, .slice A' nd cb] 23)
  have bA0 := Blk.new w 23 #[.slice A nc ca, .slice A' nd cb]
  replace hC := (hC.below hA0).more hA0.size
  replace hD := (hD.below hA0).more hA0.size
  have hBw := hA0
  have HF := Lib.hid (few6_any _ _ (w.alloc (.cells #[.slice A nc ca, .slice A' nd cb] 23)) (cols_two bA0 hC hD bA0.lt) true (by simp [hfew]))
  clear bA0
  have d1 : decide (a < -1000) = false := decide_eq_false g1
  have d2 : decide (1000 < a) = false := decide_eq_false g2
  have d3 : decide (b < -1000) = false := decide_eq_false g3
  have d4 : decide (1000 < b) = false := decide_eq_false g4
  go_enter Tryd.func7, Tryd.ntmps7
  go_wp2_with fail
  refine HF.out.mono ?_
  rintro e w0 ⟨rfl, rfl⟩
  clear HF
  obtain ⟨w0, hw0⟩ : ∃ x, (w.alloc (.cells #[.slice A nc ca, .slice A' nd cb] 23)) = x := ⟨_, rfl⟩
  rw [hw0] at hC hD hBw hA0 ⊢
  clear hw0 hA0
  have hA1 := below_one w0 (.cells #[.slice A nc ca, .slice A' nd cb] 23)
  have bA1 := Blk.new w0 23 #[.slice A nc ca, .slice A' nd cb]
  replace hC := (hC.below hA1).more hA1.size
  replace hD := (hD.below hA1).more hA1.size
  replace hBw := below_in hBw hA1
  have HR := Lib.hid (right6_any p _ [c, d] (w0.alloc (.cells #[.slice A nc ca, .slice A' nd cb] 23)) (Nat.le_refl _) (cols_two bA1 hC hD bA1.lt) (by show 2 ≤ 1000; omega) true (by simp [hrt]))
  clear bA1
  go_wp2_with fail
  refine (HR.out).mono ?_
  rintro e w1 ⟨rfl, hB⟩
  clear HR
  replace hC := (hC.below hB).more hB.size
  replace hD := (hD.below hB).more hB.size
  replace hBw := below_in hBw hB
  clear hB
  obtain ⟨P, Q, n, rfl, hQ, hp, h1, h64, _, hg⟩ := right_yes hrt (by show 0 < 2; omega)
  have gc : GoodC Q n c := hg 0 (by show 0 < 2; omega)
  have gd : GoodC Q n d := hg 1 (by show 1 < 2; omega)
  clear hg
  have D : Dims P Q n := ⟨hQ, hp, h1, h64⟩
  have hpb := prm_bounds hp
  obtain rfl : Q = nc := by rw [← hnc, gc.1]
  obtain rfl : Q = nd := by rw [← hnd, gd.1]
  clear hQ hp h1 h64 hnc hnd hrt hfew
  have gx := turn_good (P := P) D.h1 D.h64 gc a
  go_wp2_with fail
  refine (turnY D (a) (by omega) (by omega) c gc _ _ (hL.next hBw) hC).mono ?_
  rintro e y0 ⟨A0, k0, rfl, hx, hB⟩
  replace hC := (hC.below hB).more hB.size
  replace hD := (hD.below hB).more hB.size
  replace hBw := below_in hBw hB
  clear hB
  go_wp2_with fail
  refine (turnY D (b) (by omega) (by omega) (turnC P Q n c a) gx _ _ (hL.next hBw) hx).mono ?_
  rintro e y1 ⟨A1, k1, rfl, hy, hB⟩
  replace hC := (hC.below hB).more hB.size
  replace hD := (hD.below hB).more hB.size
  replace hx := (hx.below hB).more hB.size
  replace hBw := below_in hBw hB
  clear hB
  go_wp2_with fail
  refine (turnY D (a + b) (by omega) (by omega) c gc _ _ (hL.next hBw) hC).mono ?_
  rintro e y2 ⟨A2, k2, rfl, hz, hB⟩
  replace hC := (hC.below hB).more hB.size
  replace hD := (hD.below hB).more hB.size
  replace hx := (hx.below hB).more hB.size
  replace hy := (hy.below hB).more hB.size
  replace hBw := below_in hBw hB
  clear hB
  go_wp2_with fail
  refine (turnY D ((P : Int)) (by omega) (by omega) c gc _ _ (hL.next hBw) hC).mono ?_
  rintro e y3 ⟨A3, k3, rfl, ho, hB⟩
  replace hC := (hC.below hB).more hB.size
  replace hD := (hD.below hB).more hB.size
  replace hx := (hx.below hB).more hB.size
  replace hy := (hy.below hB).more hB.size
  replace hz := (hz.below hB).more hB.size
  replace hBw := below_in hBw hB
  clear hB
  go_wp2_with fail
  refine (num_any _ _).mono ?_
  rintro e w' ⟨rfl, rfl⟩
  go_wp2_with fail
  refine (num_any _ _).mono ?_
  rintro e w' ⟨rfl, rfl⟩
  go_wp2_with fail
  refine (num_any _ _).mono ?_
  rintro e w' ⟨rfl, rfl⟩
  go_wp2_with fail
  refine (num_any _ _).mono ?_
  rintro e w' ⟨rfl, rfl⟩
  go_wp2_with fail
  refine (sameY D _ _ (turn_good D.h1 D.h64 gx b) (turn_turn D.hQ D.h1 D.h64 gc a b) _ _ _ hy hz).mono ?_
  rintro e y4 ⟨rfl, hB⟩
  replace hC := (hC.below hB).more hB.size
  replace hD := (hD.below hB).more hB.size
  replace hx := (hx.below hB).more hB.size
  replace hy := (hy.below hB).more hB.size
  replace hz := (hz.below hB).more hB.size
  replace ho := (ho.below hB).more hB.size
  replace hBw := below_in hBw hB
  clear hB
  go_wp2_with fail
  refine (sameY D _ _ (turn_good D.h1 D.h64 gc (P : Int)) (turn_own D.hQ D.h1 D.h64 gc) _ _ _ ho hC).mono ?_
  rintro e y5 ⟨rfl, hB⟩
  replace hC := (hC.below hB).more hB.size
  replace hD := (hD.below hB).more hB.size
  replace hx := (hx.below hB).more hB.size
  replace hy := (hy.below hB).more hB.size
  replace hz := (hz.below hB).more hB.size
  replace ho := (ho.below hB).more hB.size
  replace hBw := below_in hBw hB
  clear hB
  clear hy hz ho
  go_wp2_with fail
  skip
  have hA2 := below_one y5 (.cells #[.slice A Q ca, .slice A' Q cb] 23)
  have bA2 := Blk.new y5 23 #[.slice A Q ca, .slice A' Q cb]
  replace hC := (hC.below hA2).more hA2.size
  replace hD := (hD.below hA2).more hA2.size
  replace hx := (hx.below hA2).more hA2.size
  replace hBw := below_in hBw hA2
  have gcd : ∀ j, j < [c, d].length → GoodC Q n ([c, d][j]?.getD []) := fun j hj => by
    have hj2 : j = 0 ∨ j = 1 := (by have : j < 2 := hj; omega)
    rcases hj2 with rfl | rfl
    · exact gc
    · exact gd
  go_wp2_with fail
  refine (sumY D [c, d] (by show 0 < 2; omega) (by show 2 ≤ 100; omega) gcd _ _ (hL.next hBw) (cols_two bA2 hC hD bA2.lt)).mono ?_
  rintro e ys ⟨As, ks, rfl, hs, hB⟩
  clear bA2
  replace hC := (hC.below hB).more hB.size
  replace hD := (hD.below hB).more hB.size
  replace hx := (hx.below hB).more hB.size
  replace hBw := below_in hBw hB
  clear hB
  have gs : GoodC Q n (sumC Q [c, d]) := sum_good D.h1 D.h64 (by show 0 < 2; omega) (by intro x hx; simp only [List.mem_cons, List.not_mem_nil, or_false] at hx; rcases hx with rfl | rfl <;> assumption)
  go_wp2_with fail
  refine (turnY D (a) (by omega) (by omega) d gd _ _ (hL.next hBw) hD).mono ?_
  rintro e y6 ⟨A6, k6, rfl, hu, hB⟩
  replace hC := (hC.below hB).more hB.size
  replace hD := (hD.below hB).more hB.size
  replace hx := (hx.below hB).more hB.size
  replace hs := (hs.below hB).more hB.size
  replace hBw := below_in hBw hB
  clear hB
  have gu := turn_good (P := P) D.h1 D.h64 gd a
  go_wp2_with fail
  refine (turnY D (a) (by omega) (by omega) _ gs _ _ (hL.next hBw) hs).mono ?_
  rintro e y7 ⟨A7, k7, rfl, hv, hB⟩
  replace hC := (hC.below hB).more hB.size
  replace hD := (hD.below hB).more hB.size
  replace hx := (hx.below hB).more hB.size
  replace hs := (hs.below hB).more hB.size
  replace hu := (hu.below hB).more hB.size
  replace hBw := below_in hBw hB
  clear hB
  go_wp2_with fail
  skip
  have hA3 := below_one y7 (.cells #[.slice A0 Q k0, .slice A6 Q k6] 23)
  have bA3 := Blk.new y7 23 #[.slice A0 Q k0, .slice A6 Q k6]
  replace hC := (hC.below hA3).more hA3.size
  replace hD := (hD.below hA3).more hA3.size
  replace hx := (hx.below hA3).more hA3.size
  replace hs := (hs.below hA3).more hA3.size
  replace hu := (hu.below hA3).more hA3.size
  replace hv := (hv.below hA3).more hA3.size
  replace hBw := below_in hBw hA3
  have gxu : ∀ j, j < [turnC P Q n c a, turnC P Q n d a].length → GoodC Q n ([turnC P Q n c a, turnC P Q n d a][j]?.getD []) := fun j hj => by
    have hj2 : j = 0 ∨ j = 1 := (by have : j < 2 := hj; omega)
    rcases hj2 with rfl | rfl
    · exact gx
    · exact gu
  go_wp2_with fail
  refine (sumY D _ (by show 0 < 2; omega) (by show 2 ≤ 100; omega) gxu _ _ (hL.next hBw) (cols_two bA3 hx hu bA3.lt)).mono ?_
  rintro e yw ⟨Aw, kw, rfl, hw, hB⟩
  clear bA3
  replace hC := (hC.below hB).more hB.size
  replace hD := (hD.below hB).more hB.size
  replace hx := (hx.below hB).more hB.size
  replace hs := (hs.below hB).more hB.size
  replace hu := (hu.below hB).more hB.size
  replace hv := (hv.below hB).more hB.size
  replace hBw := below_in hBw hB
  clear hB
  go_wp2_with fail
  refine (num_any _ _).mono ?_
  rintro e w' ⟨rfl, rfl⟩
  go_wp2_with fail
  refine (num_any _ _).mono ?_
  rintro e w' ⟨rfl, rfl⟩
  go_wp2_with fail
  refine (num_any _ _).mono ?_
  rintro e w' ⟨rfl, rfl⟩
  go_wp2_with fail
  refine (num_any _ _).mono ?_
  rintro e w' ⟨rfl, rfl⟩
  go_wp2_with fail
  refine (sameY D _ _ (turn_good D.h1 D.h64 gs a) (sum_two D.hQ D.h1 D.h64 gc gd a) _ _ _ hv hw).mono ?_
  rintro e y8 ⟨rfl, hB⟩
  replace hC := (hC.below hB).more hB.size
  replace hD := (hD.below hB).more hB.size
  replace hx := (hx.below hB).more hB.size
  replace hs := (hs.below hB).more hB.size
  replace hu := (hu.below hB).more hB.size
  replace hv := (hv.below hB).more hB.size
  replace hw := (hw.below hB).more hB.size
  replace hBw := below_in hBw hB
  clear hB
  clear hs hu hv hw hx hD
  have hr0 : (a.tmod (P : Int) == 0) = false := beq_eq_false_iff_ne.2 (rem_not a hz0)
  have hPn : ((P : Int) == 0) = false := by rw [beq_eq_false_iff_ne]; omega
  have hPz : (P : Int) ≠ 0 := by omega
  go_wp2_with fail
  refine (strY D a (by omega) (by omega) c gc _ _ (hL.next hBw) hC).mono ?_
  rintro e y9 ⟨A9, k9, rfl, hs, hB⟩
  replace hC := (hC.below hB).more hB.size
  replace hBw := below_in hBw hB
  clear hB
  have gs2 := str_good D.h1 D.h64 gc a (P := P)
  go_wp2_with fail
  refine (slackY D a (by omega) (by omega) hz0 _ gs2 _ _ (hL.next hBw) hs).mono ?_
  rintro e y10 ⟨A10, k10, rfl, ht, hB⟩
  replace hC := (hC.below hB).more hB.size
  replace hs := (hs.below hB).more hB.size
  replace hBw := below_in hBw hB
  clear hB
  go_wp2_with fail
  refine (slackY D a (by omega) (by omega) hz0 c gc _ _ (hL.next hBw) hC).mono ?_
  rintro e y11 ⟨A11, k11, rfl, hk, hB⟩
  replace hC := (hC.below hB).more hB.size
  replace hs := (hs.below hB).more hB.size
  replace ht := (ht.below hB).more hB.size
  replace hBw := below_in hBw hB
  clear hB
  have gk := slack_good D.hQ D.h1 D.h64 gc a
  go_wp2_with fail
  refine (strY D a (by omega) (by omega) _ gk _ _ (hL.next hBw) hk).mono ?_
  rintro e y12 ⟨A12, k12, rfl, hl, hB⟩
  replace hC := (hC.below hB).more hB.size
  replace hs := (hs.below hB).more hB.size
  replace ht := (ht.below hB).more hB.size
  replace hk := (hk.below hB).more hB.size
  replace hBw := below_in hBw hB
  clear hB
  go_wp2_with fail
  refine (num_any _ _).mono ?_
  rintro e w' ⟨rfl, rfl⟩
  go_wp2_with fail
  refine (num_any _ _).mono ?_
  rintro e w' ⟨rfl, rfl⟩
  go_wp2_with fail
  refine (num_any _ _).mono ?_
  rintro e w' ⟨rfl, rfl⟩
  go_wp2_with fail
  refine (num_any _ _).mono ?_
  rintro e w' ⟨rfl, rfl⟩
  go_wp2_with fail
  refine (sameY D _ _ (slack_good D.hQ D.h1 D.h64 gs2 a) (slack_str D.hQ D.hp D.h1 D.h64 gc hz0) _ _ _ ht hC).mono ?_
  rintro e y13 ⟨rfl, hB⟩
  replace hC := (hC.below hB).more hB.size
  replace hs := (hs.below hB).more hB.size
  replace ht := (ht.below hB).more hB.size
  replace hk := (hk.below hB).more hB.size
  replace hl := (hl.below hB).more hB.size
  replace hBw := below_in hBw hB
  clear hB
  go_wp2_with fail
  refine (sameY D _ _ (str_good D.h1 D.h64 gk a) (str_slack D.hQ D.hp D.h1 D.h64 gc hz0) _ _ _ hl hC).mono ?_
  rintro e y14 ⟨rfl, hB⟩
  replace hC := (hC.below hB).more hB.size
  replace hs := (hs.below hB).more hB.size
  replace ht := (ht.below hB).more hB.size
  replace hk := (hk.below hB).more hB.size
  replace hl := (hl.below hB).more hB.size
  replace hBw := below_in hBw hB
  clear hB
  go_wp2_with fail
  refine (works_any _ (hL.next hBw)).mono ?_
  rintro e wz ⟨rfl, hBz⟩
  go_wp2
  go_ret
  exact ⟨rfl, below_in hBw hBz⟩
open Go.Proofs.YtckfepmahjgmfaaDoor.E Go.Proofs.YtckfepmahjgmfaaDoor.C Go.Proofs.YtckfepmahjgmfaaDoor.Rg in
set_option maxRecDepth 100000 in
set_option maxHeartbeats 4000000 in
theorem walk (p : Int) (v : Value) (c : List (List UInt8)) (v2 : Value) (d : List (List UInt8)) (a b : Int) (w : World) (hL : Laid w) (wp : -9223372036854775808 ≤ p ∧ p ≤ 9223372036854775807) (hC : Many w.heap.size w v c) (hD : Many w.heap.size w v2 d) (wa : -9223372036854775808 ≤ a ∧ a ≤ 9223372036854775807) (wb : -9223372036854775808 ≤ b ∧ b ≤ 9223372036854775807) :
    Calls Tryd.prog 7 #[.int .i64 p, v, v2, .int .i64 a, .int .i64 b] w fun e w' => e = .returned (.bool true) ∧ Below w.heap.size w w' := by
  by_cases hfew : ¬ Few6 [c, d]
  · exact nf p v c v2 d a b w hL wp hC hD wa wb hfew
  replace hfew := Classical.not_not.1 hfew
  by_cases hrt : ¬ RightD p [c, d]
  · exact nr p v c v2 d a b w hL wp hC hD wa wb hfew hrt
  replace hrt := Classical.not_not.1 hrt
  by_cases g1 : a < -1000
  · exact x1 p v c v2 d a b w hL wp hC hD wa wb hfew hrt g1
  by_cases g2 : 1000 < a
  · exact x2 p v c v2 d a b w hL wp hC hD wa wb hfew hrt g1 g2
  by_cases g3 : b < -1000
  · exact x3 p v c v2 d a b w hL wp hC hD wa wb hfew hrt g1 g2 g3
  by_cases g4 : 1000 < b
  · exact x4 p v c v2 d a b w hL wp hC hD wa wb hfew hrt g1 g2 g3 g4
  by_cases hz0 : a % p = 0
  · exact z0 p v c v2 d a b w hL wp hC hD wa wb hfew hrt g1 g2 g3 g4 hz0
  exact z1 p v c v2 d a b w hL wp hC hD wa wb hfew hrt g1 g2 g3 g4 hz0

set_option maxRecDepth 100000 in
theorem lifted (os : Os) (started : os.Started) (H : Type) (enc : TypeId × Value → H) :
    ReturnsInHanded {} Tryd.checked os 7 .any (fun w args => (Rows.ringHoldsSpec.pre enc Tryd.prog Tryd.f7 [] false w args ∧ laidMetH Tryd.prog laidL w) ∧ sizedMet enc Tryd.prog Tryd.f7 (OpenSpec.ofChange Rows.ringHoldsSpec) false w args)
      (Rows.ringHoldsSpec.post enc Tryd.prog Tryd.f7 false true false false) := by
  refine returnsInHanded_of_change_and (C := Tryd.checked) (X := fun w _ => laidMetH Tryd.prog laidL w) (fun _ _ _ hh h => h.of_heap hh) own started (by kernel_rfl) Tryd.func7
    (ChangeSpec.witness_shaped (enc := enc) (C := Tryd.checked) (os := os) (X := fun w _ => laidMetH Tryd.prog laidL w) false (World.doorLaid Tryd.prog 200 os) #[.int .i64 0, .slice none 0 0, .slice none 0 0, .int .i64 0, .int .i64 0] 8 rfl (World.shaped_of_RefB (by kernel_rfl) (by kernel_rfl)) (by kernel_rfl) (by kernel_rfl) (by kernel_rfl) (door_met os _)) ?_
  intro W base args ds gs before hval0 hW _ _ hL0 _
  have hL := laid_of hL0
  have hval : ∀ (j : Nat) t v, Tryd.f7.params[j]? = some t → args[j]? = some v → Value.okWide Tryd.prog W .any base t v := hval0
  have hW' := hW
  obtain ⟨p, q, hA0, hV, rfl, hfz, hnd⟩ := hW
  have hA : DataW.TrodAll enc Tryd.prog W 0 (fun _ => true) true Tryd.f7.params.toList args.toList ds p := hA0
  rw [Tryd.params7] at hA hval
  obtain ⟨v0, vs0, d0, ds0, p0, q0, hargs, rfl, rfl, h0, r0⟩ := trodAll_cons hA
  obtain ⟨v1, vs1, d1, ds1, p1, q1, rfl, rfl, rfl, h1, r1⟩ := trodAll_cons r0
  obtain ⟨v2, vs2, d2, ds2, p2, q2, rfl, rfl, rfl, h2, r2⟩ := trodAll_cons r1
  obtain ⟨v3, vs3, d3, ds3, p3, q3, rfl, rfl, rfl, h3, r3⟩ := trodAll_cons r2
  obtain ⟨v4, vs4, d4, ds4, p4, q4, rfl, rfl, rfl, h4, r4⟩ := trodAll_cons r3
  obtain ⟨rfl, rfl, rfl⟩ := trodAll_nil r4
  obtain rfl : args = #[v0, v1, v2, v3, v4] := by cases args; simp_all
  obtain ⟨rfl, rfl⟩ := trodVars_none hV
  obtain ⟨a0, rfl, rfl, rfl, w0⟩ := open_int Tryd.underlying3 (hval 0 3 v0 rfl rfl) h0
  have k1 := h1
  have lt1 : ∀ x ∈ p1, x.block < W.heap.size := by obtain ⟨m, hm⟩ := k1; exact DataW.trod_lt m _ _ _ hm
  obtain ⟨a1, len1, cap1, rfl⟩ := okWide_slice Tryd.underlying23 (hval 1 23 v1 rfl rfl)
  obtain ⟨l1, w1⟩ : ∃ cs, C.Many W.heap.size W (.slice a1 len1 cap1) cs := by obtain ⟨fuel, hf⟩ := h1; exact E.open_col hf
  have k2 := h2
  have lt2 : ∀ x ∈ p2, x.block < W.heap.size := by obtain ⟨m, hm⟩ := k2; exact DataW.trod_lt m _ _ _ hm
  obtain ⟨a2, len2, cap2, rfl⟩ := okWide_slice Tryd.underlying23 (hval 2 23 v2 rfl rfl)
  obtain ⟨l2, w2⟩ : ∃ cs, C.Many W.heap.size W (.slice a2 len2 cap2) cs := by obtain ⟨fuel, hf⟩ := h2; exact E.open_col hf
  obtain ⟨a3, rfl, rfl, rfl, w3⟩ := open_int Tryd.underlying3 (hval 3 3 v3 rfl rfl) h3
  obtain ⟨a4, rfl, rfl, rfl, w4⟩ := open_int Tryd.underlying3 (hval 4 3 v4 rfl rfl) h4
  clear hA0 hval0
  simp only [List.append_nil] at hW'
  refine (walk a0 _ l1 _ l2 a3 a4 W hL (E.wf_i64 w0) w1 w2 (E.wf_i64 w3) (E.wf_i64 w4)).mono fun e W' ⟨he, bel⟩ => ?_
  subst he
  exact ⟨_, rfl, _, _, _, [], _, [], hW', trodAll_mk1 (shut_bool Tryd.underlying4 _), (trodAll_cons_mk (shut_int Tryd.underlying3 w0) (trodAll_cons_mk (Below.trod laidOut (by kernel_rfl) (of_decide_eq_true (by kernel_rfl)) k1 bel lt1) (trodAll_cons_mk (Below.trod laidOut (by kernel_rfl) (of_decide_eq_true (by kernel_rfl)) k2 bel lt2) (trodAll_cons_mk (shut_int Tryd.underlying3 w3) (trodAll_cons_mk (shut_int Tryd.underlying3 w4) trodAll_mk0))))), rfl, bel.frame _, fun h => by cases h⟩

theorem over : Rows.ringHoldsRow.holds Tryd.pinned (OpenSpec.ofChange Rows.ringHoldsSpec) :=
  OpenClaim.holds_of_wide 7 Tryd.f7 rfl rfl rfl rfl rfl rfl rfl ⟨rfl, rfl, rfl, rfl, rfl⟩ rfl rfl rfl rfl rfl (by kernel_rfl) Tryd.func7 (by kernel_rfl)
    (of_decide_eq_true (by kernel_rfl)) (by unfold Func.isWrapper; first | (rw [if_pos (by decide +kernel)]; kernel_rfl) | (rw [if_neg (by decide +kernel)]; exact ⟨rfl, rfl⟩))
    (fun os started H enc _ => lifted os started H enc)

/-- The tied card: the row, and the tie that is given. -/
theorem ringHolds_holds : Rows.RingHoldsCardSaid :=
  Claim7.holds_tied_plain_at .later [] [.data, .data] true (true, "99df5f4bcb019dcdec7cff5fcc9a2e8187eb1342bd2c8a4118c04815654cb552") true over (fun _ h => by cases h) (by kernel_rfl) (fun _ h => by cases h) ringHolds_row_tie rfl ⟨rfl, rfl⟩ (by kernel_rfl) rfl
    (fun f fn hf hfn => by
      obtain rfl : f = 7 := Option.some.inj ((show Tryd.prog.funcNamed "palisade/palisadelaw10.RingHolds" = some 7 by kernel_rfl).symm.trans hf) |>.symm
      obtain rfl : fn = Tryd.f7 := (Option.some.inj (Tryd.func7.symm.trans hfn)).symm
      exact ⟨by kernel_rfl, fun j t ht => by
        rw [Tryd.params7] at ht
        have hm : t ∈ [3, 23, 23, 3, 3] := by simpa using Array.mem_of_getElem? ht
        have hall : ([3, 23, 23, 3, 3].all fun u => !Tryd.prog.wantsStandIn u) = true := by kernel_rfl
        exact (show Tryd.prog.wantsStandIn t = false by simpa using List.all_eq_true.1 hall t hm)⟩)
    (by kernel_rfl)
end Go.Proofs.YtckfepmahjgmfaaDoor.ringHolds
