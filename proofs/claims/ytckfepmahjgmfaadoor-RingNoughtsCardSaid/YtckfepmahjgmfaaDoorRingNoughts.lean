/- The law RingNoughts answers true for every input and leaves its arguments as they were. -/
import Derived.Test.YtckfepmahjgmfaaDoorRSA
import Derived.Test.YtckfepmahjgmfaaDoorRMAx1
import Derived.Test.YtckfepmahjgmfaaDoorRSAx1
import Derived.Test.YtckfepmahjgmfaaDoorRCAx1
import Derived.Test.YtckfepmahjgmfaaDoorRG1x1
import Derived.Test.YtckfepmahjgmfaaDoorRG2x1
import Derived.Test.YtckfepmahjgmfaaDoorRG3x1
import Derived.Test.YtckfepmahjgmfaaDoorRG6x1
import Derived.Test.YtckfepmahjgmfaaDoorRG9x1
import Derived.Test.YtckfepmahjgmfaaDoorRG10x1
import Derived.Test.YtckfepmahjgmfaaDoorRCAx2
import Derived.Test.YtckfepmahjgmfaaDoorRG3x2
import Derived.Test.YtckfepmahjgmfaaDoorRG9x2
import Derived.Test.YtckfepmahjgmfaaDoorRG10x2
import Derived.Test.YtckfepmahjgmfaaDoorCards
import Derived.Test.YtckfepmahjgmfaaDoorTie
import Derived.SevenTiedAt
import Derived.Test.YtckfepmahjgmfaaDoorRG10
import Derived.Test.YtckfepmahjgmfaaDoorRG3
namespace Go.Proofs.YtckfepmahjgmfaaDoor.ringNoughts
open Go.ChangeShapes Go.WideShapes Go.ChangeAt Go.RowKit Go.Shelf
set_option linter.unusedVariables false
set_option linter.unusedSimpArgs false
attribute [local go_sem] Oper.semAt_some

open Go.Proofs.YtckfepmahjgmfaaDoor.E Go.Proofs.YtckfepmahjgmfaaDoor.C Go.Proofs.YtckfepmahjgmfaaDoor.Rg in
theorem bits_none (j : Nat) : bitsTo j 0 8 = [] := rfl
open Go.Proofs.YtckfepmahjgmfaaDoor.E Go.Proofs.YtckfepmahjgmfaaDoor.C Go.Proofs.YtckfepmahjgmfaaDoor.Rg in
theorem places_none {l : List UInt8} (h : ∀ j, at_ l j = 0) : places l = [] := by
  unfold places
  rw [List.flatMap_eq_nil_iff]
  intro j hj
  rw [h j]
  exact bits_none j
open Go.Proofs.YtckfepmahjgmfaaDoor.E Go.Proofs.YtckfepmahjgmfaaDoor.C Go.Proofs.YtckfepmahjgmfaaDoor.Rg in
theorem freshMany_R {base : Nat} {W : World} {v : Value} {ls : List (List UInt8)} (h : FreshMany base W v ls) : manyR.R (fun b => base ≤ b ∧ b < W.heap.size) W v ls := by
  obtain ⟨A, cap, e, hc, hA⟩ := h
  refine ⟨A, cap, e, hc, fun hp => ?_⟩
  obtain ⟨b, off, e2, hb1, hb2, hcell⟩ := hA hp
  refine ⟨b, off, e2, ⟨hb1, hb2⟩, fun j hj => ?_⟩
  obtain ⟨u, hu, A2, cap2, e3, hc2, hA2⟩ := hcell j hj
  refine ⟨u, hu, A2, cap2, e3, hc2, fun hp2 => ?_⟩
  obtain ⟨b2, off2, e4, hb3, hb4, hcell2⟩ := hA2 hp2
  exact ⟨b2, off2, e4, ⟨hb3, hb4⟩, hcell2⟩
open Go.Proofs.YtckfepmahjgmfaaDoor.E Go.Proofs.YtckfepmahjgmfaaDoor.C Go.Proofs.YtckfepmahjgmfaaDoor.Rg in
theorem turnF {P Q n : Nat} (d : Dims P Q n) (b : Int) (y1 : -9223372036854775808 ≤ b) (y2 : b ≤ 9223372036854775807) (c : List (List UInt8)) (hc : GoodC Q n c) (v : Value) (w : World) (hL : Laid w) (hM : Many w.heap.size w v c) :
    Calls Tryd.prog 14 #[.int .i64 (P : Int), v, .int .i64 b] w fun e w' => ∃ A k, e = .returned (.tuple #[.slice A Q k, .int .i64 0]) ∧ FreshMany w.heap.size w' (.slice A Q k) (turnC P Q n c b) ∧ Below w.heap.size w w' := by
  refine (turn_yes P Q n d.hQ c v b y1 y2 (ok_of d.hQ d.hp d.h1 d.h64 hc) w hL (Nat.le_refl _) hM).mono ?_
  rintro e w' ⟨u, rfl, hf, hB⟩
  rw [turn_row] at hf
  obtain ⟨A, k, rfl, hm⟩ := out_slice hf (turn_good d.h1 d.h64 hc b)
  exact ⟨A, k, rfl, hf, hB⟩
open Go.Proofs.YtckfepmahjgmfaaDoor.E Go.Proofs.YtckfepmahjgmfaaDoor.C Go.Proofs.YtckfepmahjgmfaaDoor.Rg in
theorem back_fin : ∀ p ∈ prm, ∀ r ∈ List.range 17, (r : Int) < p → ((List.range p.toNat).map (fun k : Nat => ((r : Int) - (k : Int)) % p)).isPerm ((List.range p.toNat).map fun k : Nat => (k : Int)) = true := by decide +kernel
open Go.Proofs.YtckfepmahjgmfaaDoor.E Go.Proofs.YtckfepmahjgmfaaDoor.C Go.Proofs.YtckfepmahjgmfaaDoor.Rg in
theorem all_back {P : Nat} (hp : (P : Int) ∈ prm) {x : Int → UInt8} (hx : Per P x) (r : Int) : xa ((List.range P).map fun k : Nat => x (r - (k : Int))) = al P x := by
  have hpb := prm_bounds hp
  have h0 := Int.emod_nonneg r (show (P : Int) ≠ 0 by omega)
  have h1 := Int.emod_lt_of_pos r (show (0 : Int) < P by omega)
  obtain ⟨s, hs⟩ : ∃ s : Nat, r % (P : Int) = (s : Int) := ⟨(r % (P : Int)).toNat, by omega⟩
  have h := xa_perm ((List.isPerm_iff.1 (back_fin _ hp s (List.mem_range.2 (by omega)) (by omega))).map x)
  rw [Int.toNat_natCast, List.map_map, List.map_map] at h
  unfold al
  refine Eq.trans ?_ h
  congr 1
  refine List.map_congr_left fun k _ => ?_
  refine hx.1 _ _ ?_
  show _ = ((s : Int) - (k : Int)) % (P : Int) % (P : Int)
  rw [Int.emod_emod_of_dvd _ (Int.dvd_refl _), ← hs]
  exact mod_sub (Int.emod_emod_of_dvd _ (Int.dvd_refl _)).symm _
open Go.Proofs.YtckfepmahjgmfaaDoor.E Go.Proofs.YtckfepmahjgmfaaDoor.C Go.Proofs.YtckfepmahjgmfaaDoor.Rg in
theorem xa_both {α : Type} (f g : α → UInt8) : ∀ l : List α, xa (l.map fun x => f x ^^^ g x) = xa (l.map f) ^^^ xa (l.map g) := by
  intro l
  induction l with
  | nil => simp [xa]
  | cons y l ih =>
    rw [List.map_cons, List.map_cons, List.map_cons, xa_cons, xa_cons, xa_cons, ih]
    simp only [UInt8.xor_assoc, UInt8.xor_comm, xlc]
/-- The turns that have come. -/
def turns (P Q n : Nat) (c : List (List UInt8)) (k : Nat) : List (List (List UInt8)) := (List.range k).map fun j : Nat => Go.Proofs.YtckfepmahjgmfaaDoor.Rg.turnC P Q n c (j : Int)
theorem turns_next (P Q n : Nat) (c : List (List UInt8)) (k : Nat) : turns P Q n c k ++ [Go.Proofs.YtckfepmahjgmfaaDoor.Rg.turnC P Q n c (k : Int)] = turns P Q n c (k + 1) := by
  unfold turns
  rw [List.range_succ, List.map_append]
  rfl
theorem turns_len (P Q n : Nat) (c : List (List UInt8)) (k : Nat) : (turns P Q n c k).length = k := by unfold turns; simp
open Go.Proofs.YtckfepmahjgmfaaDoor.E Go.Proofs.YtckfepmahjgmfaaDoor.C Go.Proofs.YtckfepmahjgmfaaDoor.Rg in
theorem turns_good {P Q n : Nat} (D : Dims P Q n) {c : List (List UInt8)} (hc : GoodC Q n c) (k : Nat) : ∀ d ∈ turns P Q n c k, GoodC Q n d := by
  intro d hd
  obtain ⟨j, _, rfl⟩ := List.mem_map.1 hd
  exact turn_good D.h1 D.h64 hc _
open Go.Proofs.YtckfepmahjgmfaaDoor.E Go.Proofs.YtckfepmahjgmfaaDoor.C Go.Proofs.YtckfepmahjgmfaaDoor.Rg in
theorem turns_nought {P Q n : Nat} (D : Dims P Q n) {c : List (List UInt8)} (hc : GoodC Q n c) (r : Nat) (hr : r < Q) (j : Nat) : at_ ((sumC Q (turns P Q n c P))[r]?.getD []) j = 0 := by
  have hQ := D.hQ
  have hl : 0 < (turns P Q n c P).length := by rw [turns_len]; omega
  have h := bt_sum D.hQ hl (turns_good D hc P) j (r : Int)
  rw [bt_at D.hQ _ j hr (Int.emod_eq_of_lt (by omega) (by omega))] at h
  refine h.trans ?_
  unfold turns
  rw [List.map_map]
  have e : ((fun c => Bt P Q n c j (r : Int)) ∘ fun k : Nat => turnC P Q n c (k : Int)) = fun k : Nat => Bt P Q n c j ((r : Int) - (k : Int)) ^^^ Bt P Q n c j (-1 - (k : Int)) := by
    funext k
    exact bt_turn D.hQ hc (k : Int) j (r : Int)
  rw [e, xa_both, all_back D.hp (Bt.per D.hQ c j), all_back D.hp (Bt.per D.hQ c j), UInt8.xor_self]
open Go.Proofs.YtckfepmahjgmfaaDoor.E Go.Proofs.YtckfepmahjgmfaaDoor.C Go.Proofs.YtckfepmahjgmfaaDoor.Rg in
set_option maxRecDepth 100000 in
set_option maxHeartbeats 4000000 in
theorem nf (p : Int) (v : Value) (c : List (List UInt8)) (a b : Int) (w : World) (hL : Laid w) (wp : -9223372036854775808 ≤ p ∧ p ≤ 9223372036854775807) (hC : Many w.heap.size w v c) (wa : -9223372036854775808 ≤ a ∧ a ≤ 9223372036854775807) (wb : -9223372036854775808 ≤ b ∧ b ≤ 9223372036854775807) (hfew : ¬ Few6 [c]) :
    Calls Tryd.prog 8 #[.int .i64 p, v, .int .i64 a, .int .i64 b] w fun e w' => e = .returned (.bool true) ∧ Below w.heap.size w w' := by
  obtain ⟨A, ca, rfl, _, _⟩ := id hC
  obtain ⟨nc, hnc⟩ : ∃ x, c.length = x := ⟨_, rfl⟩
  rw [hnc] at hC ⊢
  have hA0 := below_one w (.cells #[.slice A nc ca] 23)
  have bA0 := Blk.new w 23 #[.slice A nc ca]
  replace hC := (hC.below hA0).more hA0.size
  have hBw := hA0
  have HF := Lib.hid (few6_any _ _ (w.alloc (.cells #[.slice A nc ca] 23)) (cols_one bA0 hC bA0.lt) false (by simp [hfew]))
  clear bA0
  go_enter Tryd.func8, Tryd.ntmps8
  go_wp2_with fail
  refine HF.out.mono ?_
  rintro e w0 ⟨rfl, rfl⟩
  clear HF
  go_wp2_with fail
  refine (works_any _ (hL.next hBw)).mono ?_
  rintro e wz ⟨rfl, hBz⟩
  go_wp2
  go_ret
  exact ⟨rfl, below_in hBw hBz⟩
open Go.Proofs.YtckfepmahjgmfaaDoor.E Go.Proofs.YtckfepmahjgmfaaDoor.C Go.Proofs.YtckfepmahjgmfaaDoor.Rg in
set_option maxRecDepth 100000 in
set_option maxHeartbeats 4000000 in
theorem nr (p : Int) (v : Value) (c : List (List UInt8)) (a b : Int) (w : World) (hL : Laid w) (wp : -9223372036854775808 ≤ p ∧ p ≤ 9223372036854775807) (hC : Many w.heap.size w v c) (wa : -9223372036854775808 ≤ a ∧ a ≤ 9223372036854775807) (wb : -9223372036854775808 ≤ b ∧ b ≤ 9223372036854775807) (hfew : Few6 [c]) (hrt : ¬ RightD p [c]) :
    Calls Tryd.prog 8 #[.int .i64 p, v, .int .i64 a, .int .i64 b] w fun e w' => e = .returned (.bool true) ∧ Below w.heap.size w w' := by
  obtain ⟨A, ca, rfl, _, _⟩ := id hC
  obtain ⟨nc, hnc⟩ : ∃ x, c.length = x := ⟨_, rfl⟩
  rw [hnc] at hC ⊢
  have hA0 := below_one w (.cells #[.slice A nc ca] 23)
  have bA0 := Blk.new w 23 #[.slice A nc ca]
  replace hC := (hC.below hA0).more hA0.size
  have hBw := hA0
  have HF := Lib.hid (few6_any _ _ (w.alloc (.cells #[.slice A nc ca] 23)) (cols_one bA0 hC bA0.lt) true (by simp [hfew]))
  clear bA0
  go_enter Tryd.func8, Tryd.ntmps8
  go_wp2_with fail
  refine HF.out.mono ?_
  rintro e w0 ⟨rfl, rfl⟩
  clear HF
  have HR := Lib.hid (right_one p _ c (w.alloc (.cells #[.slice A nc ca] 23)) (Nat.le_refl _) hC false (by simp [hrt]))
  go_wp2_with fail
  refine (HR.out).mono ?_
  rintro e w1 ⟨rfl, hB⟩
  clear HR
  replace hC := (hC.below hB).more hB.size
  replace hBw := below_in hBw hB
  clear hB
  go_wp2_with fail
  refine (works_any _ (hL.next hBw)).mono ?_
  rintro e wz ⟨rfl, hBz⟩
  go_wp2
  go_ret
  exact ⟨rfl, below_in hBw hBz⟩
open Go.Proofs.YtckfepmahjgmfaaDoor.E Go.Proofs.YtckfepmahjgmfaaDoor.C Go.Proofs.YtckfepmahjgmfaaDoor.Rg in
set_option maxRecDepth 100000 in
set_option maxHeartbeats 4000000 in
theorem x1 (p : Int) (v : Value) (c : List (List UInt8)) (a b : Int) (w : World) (hL : Laid w) (wp : -9223372036854775808 ≤ p ∧ p ≤ 9223372036854775807) (hC : Many w.heap.size w v c) (wa : -9223372036854775808 ≤ a ∧ a ≤ 9223372036854775807) (wb : -9223372036854775808 ≤ b ∧ b ≤ 9223372036854775807) (hfew : Few6 [c]) (hrt : RightD p [c]) (g1 : a < -1000) :
    Calls Tryd.prog 8 #[.int .i64 p, v, .int .i64 a, .int .i64 b] w fun e w' => e = .returned (.bool true) ∧ Below w.heap.size w w' := by
  obtain ⟨A, ca, rfl, _, _⟩ := id hC
  obtain ⟨nc, hnc⟩ : ∃ x, c.length = x := ⟨_, rfl⟩
  rw [hnc] at hC ⊢
  have hA0 := below_one w (.cells #[.slice A nc ca] 23)
  have bA0 := Blk.new w 23 #[.slice A nc ca]
  replace hC := (hC.below hA0).more hA0.size
  have hBw := hA0
  have HF := Lib.hid (few6_any _ _ (w.alloc (.cells #[.slice A nc ca] 23)) (cols_one bA0 hC bA0.lt) true (by simp [hfew]))
  clear bA0
  have d1 : decide (a < -1000) = true := decide_eq_true g1
  go_enter Tryd.func8, Tryd.ntmps8
  go_wp2_with fail
  refine HF.out.mono ?_
  rintro e w0 ⟨rfl, rfl⟩
  clear HF
  have HR := Lib.hid (right_one p _ c (w.alloc (.cells #[.slice A nc ca] 23)) (Nat.le_refl _) hC true (by simp [hrt]))
  go_wp2_with fail
  refine (HR.out).mono ?_
  rintro e w1 ⟨rfl, hB⟩
  clear HR
  replace hC := (hC.below hB).more hB.size
  replace hBw := below_in hBw hB
  clear hB
  go_wp2_with fail
  refine (works_any _ (hL.next hBw)).mono ?_
  rintro e wz ⟨rfl, hBz⟩
  go_wp2
  go_ret
  exact ⟨rfl, below_in hBw hBz⟩
open Go.Proofs.YtckfepmahjgmfaaDoor.E Go.Proofs.YtckfepmahjgmfaaDoor.C Go.Proofs.YtckfepmahjgmfaaDoor.Rg in
set_option maxRecDepth 100000 in
set_option maxHeartbeats 4000000 in
theorem x2 (p : Int) (v : Value) (c : List (List UInt8)) (a b : Int) (w : World) (hL : Laid w) (wp : -9223372036854775808 ≤ p ∧ p ≤ 9223372036854775807) (hC : Many w.heap.size w v c) (wa : -9223372036854775808 ≤ a ∧ a ≤ 9223372036854775807) (wb : -9223372036854775808 ≤ b ∧ b ≤ 9223372036854775807) (hfew : Few6 [c]) (hrt : RightD p [c]) (g1 : ¬ a < -1000) (g2 : 1000 < a) :
    Calls Tryd.prog 8 #[.int .i64 p, v, .int .i64 a, .int .i64 b] w fun e w' => e = .returned (.bool true) ∧ Below w.heap.size w w' := by
  obtain ⟨A, ca, rfl, _, _⟩ := id hC
  obtain ⟨nc, hnc⟩ : ∃ x, c.length = x := ⟨_, rfl⟩
  rw [hnc] at hC ⊢
  have hA0 := below_one w (.cells #[.slice A nc ca] 23)
  have bA0 := Blk.new w 23 #[.slice A nc ca]
  replace hC := (hC.below hA0).more hA0.size
  have hBw := hA0
  have HF := Lib.hid (few6_any _ _ (w.alloc (.cells #[.slice A nc ca] 23)) (cols_one bA0 hC bA0.lt) true (by simp [hfew]))
  clear bA0
  have d1 : decide (a < -1000) = false := decide_eq_false g1
  have d2 : decide (1000 < a) = true := decide_eq_true g2
  go_enter Tryd.func8, Tryd.ntmps8
  go_wp2_with fail
  refine HF.out.mono ?_
  rintro e w0 ⟨rfl, rfl⟩
  clear HF
  have HR := Lib.hid (right_one p _ c (w.alloc (.cells #[.slice A nc ca] 23)) (Nat.le_refl _) hC true (by simp [hrt]))
  go_wp2_with fail
  refine (HR.out).mono ?_
  rintro e w1 ⟨rfl, hB⟩
  clear HR
  replace hC := (hC.below hB).more hB.size
  replace hBw := below_in hBw hB
  clear hB
  go_wp2_with fail
  refine (works_any _ (hL.next hBw)).mono ?_
  rintro e wz ⟨rfl, hBz⟩
  go_wp2
  go_ret
  exact ⟨rfl, below_in hBw hBz⟩
open Go.Proofs.YtckfepmahjgmfaaDoor.E Go.Proofs.YtckfepmahjgmfaaDoor.C Go.Proofs.YtckfepmahjgmfaaDoor.Rg in
set_option maxRecDepth 100000 in
set_option maxHeartbeats 4000000 in
theorem x3 (p : Int) (v : Value) (c : List (List UInt8)) (a b : Int) (w : World) (hL : Laid w) (wp : -9223372036854775808 ≤ p ∧ p ≤ 9223372036854775807) (hC : Many w.heap.size w v c) (wa : -9223372036854775808 ≤ a ∧ a ≤ 9223372036854775807) (wb : -9223372036854775808 ≤ b ∧ b ≤ 9223372036854775807) (hfew : Few6 [c]) (hrt : RightD p [c]) (g1 : ¬ a < -1000) (g2 : ¬ 1000 < a) (g3 : b < -1000) :
    Calls Tryd.prog 8 #[.int .i64 p, v, .int .i64 a, .int .i64 b] w fun e w' => e = .returned (.bool true) ∧ Below w.heap.size w w' := by
  obtain ⟨A, ca, rfl, _, _⟩ := id hC
  obtain ⟨nc, hnc⟩ : ∃ x, c.length = x := ⟨_, rfl⟩
  rw [hnc] at hC ⊢
  have hA0 := below_one w (.cells #[.slice A nc ca] 23)
  have bA0 := Blk.new w 23 #[.slice A nc ca]
  replace hC := (hC.below hA0).more hA0.size
  have hBw := hA0
  have HF := Lib.hid (few6_any _ _ (w.alloc (.cells #[.slice A nc ca] 23)) (cols_one bA0 hC bA0.lt) true (by simp [hfew]))
  clear bA0
  have d1 : decide (a < -1000) = false := decide_eq_false g1
  have d2 : decide (1000 < a) = false := decide_eq_false g2
  have d3 : decide (b < -1000) = true := decide_eq_true g3
  go_enter Tryd.func8, Tryd.ntmps8
  go_wp2_with fail
  refine HF.out.mono ?_
  rintro e w0 ⟨rfl, rfl⟩
  clear HF
  have HR := Lib.hid (right_one p _ c (w.alloc (.cells #[.slice A nc ca] 23)) (Nat.le_refl _) hC true (by simp [hrt]))
  go_wp2_with fail
  refine (HR.out).mono ?_
  rintro e w1 ⟨rfl, hB⟩
  clear HR
  replace hC := (hC.below hB).more hB.size
  replace hBw := below_in hBw hB
  clear hB
  go_wp2_with fail
  refine (works_any _ (hL.next hBw)).mono ?_
  rintro e wz ⟨rfl, hBz⟩
  go_wp2
  go_ret
  exact ⟨rfl, below_in hBw hBz⟩
open Go.Proofs.YtckfepmahjgmfaaDoor.E Go.Proofs.YtckfepmahjgmfaaDoor.C Go.Proofs.YtckfepmahjgmfaaDoor.Rg in
set_option maxRecDepth 100000 in
set_option maxHeartbeats 4000000 in
theorem x4 (p : Int) (v : Value) (c : List (List UInt8)) (a b : Int) (w : World) (hL : Laid w) (wp : -9223372036854775808 ≤ p ∧ p ≤ 9223372036854775807) (hC : Many w.heap.size w v c) (wa : -9223372036854775808 ≤ a ∧ a ≤ 9223372036854775807) (wb : -9223372036854775808 ≤ b ∧ b ≤ 9223372036854775807) (hfew : Few6 [c]) (hrt : RightD p [c]) (g1 : ¬ a < -1000) (g2 : ¬ 1000 < a) (g3 : ¬ b < -1000) (g4 : 1000 < b) :
    Calls Tryd.prog 8 #[.int .i64 p, v, .int .i64 a, .int .i64 b] w fun e w' => e = .returned (.bool true) ∧ Below w.heap.size w w' := by
  obtain ⟨A, ca, rfl, _, _⟩ := id hC
  obtain ⟨nc, hnc⟩ : ∃ x, c.length = x := ⟨_, rfl⟩
  rw [hnc] at hC ⊢
  have hA0 := below_one w (.cells #[.slice A nc ca] 23)
  have bA0 := Blk.new w 23 #[.slice A nc ca]
  replace hC := (hC.below hA0).more hA0.size
  have hBw := hA0
  have HF := Lib.hid (few6_any _ _ (w.alloc (.cells #[.slice A nc ca] 23)) (cols_one bA0 hC bA0.lt) true (by simp [hfew]))
  clear bA0
  have d1 : decide (a < -1000) = false := decide_eq_false g1
  have d2 : decide (1000 < a) = false := decide_eq_false g2
  have d3 : decide (b < -1000) = false := decide_eq_false g3
  have d4 : decide (1000 < b) = true := decide_eq_true g4
  go_enter Tryd.func8, Tryd.ntmps8
  go_wp2_with fail
  refine HF.out.mono ?_
  rintro e w0 ⟨rfl, rfl⟩
  clear HF
  have HR := Lib.hid (right_one p _ c (w.alloc (.cells #[.slice A nc ca] 23)) (Nat.le_refl _) hC true (by simp [hrt]))
  go_wp2_with fail
  refine (HR.out).mono ?_
  rintro e w1 ⟨rfl, hB⟩
  clear HR
  replace hC := (hC.below hB).more hB.size
  replace hBw := below_in hBw hB
  clear hB
  go_wp2_with fail
  refine (works_any _ (hL.next hBw)).mono ?_
  rintro e wz ⟨rfl, hBz⟩
  go_wp2
  go_ret
  exact ⟨rfl, below_in hBw hBz⟩
open Go.Proofs.YtckfepmahjgmfaaDoor.E Go.Proofs.YtckfepmahjgmfaaDoor.C Go.Proofs.YtckfepmahjgmfaaDoor.Rg in
set_option maxRecDepth 100000 in
set_option maxHeartbeats 4000000 in
theorem y1 (p : Int) (v : Value) (c : List (List UInt8)) (a b : Int) (w : World) (hL : Laid w) (wp : -9223372036854775808 ≤ p ∧ p ≤ 9223372036854775807) (hC : Many w.heap.size w v c) (wa : -9223372036854775808 ≤ a ∧ a ≤ 9223372036854775807) (wb : -9223372036854775808 ≤ b ∧ b ≤ 9223372036854775807) (hfew : Few6 [c]) (hrt : RightD p [c]) (g1 : ¬ a < -1000) (g2 : ¬ 1000 < a) (g3 : ¬ b < -1000) (g4 : ¬ 1000 < b) (za : a % p = 0) :
    Calls Tryd.prog 8 #[.int .i64 p, v, .int .i64 a, .int .i64 b] w fun e w' => e = .returned (.bool true) ∧ Below w.heap.size w w' := by
  obtain ⟨A, ca, rfl, _, _⟩ := id hC
  obtain ⟨nc, hnc⟩ : ∃ x, c.length = x := ⟨_, rfl⟩
  rw [hnc] at hC ⊢
  have hA0 := below_one w (.cells #[.slice A nc ca] 23)
  have bA0 := Blk.new w 23 #[.slice A nc ca]
  replace hC := (hC.below hA0).more hA0.size
  have hBw := hA0
  have HF := Lib.hid (few6_any _ _ (w.alloc (.cells #[.slice A nc ca] 23)) (cols_one bA0 hC bA0.lt) true (by simp [hfew]))
  clear bA0
  have d1 : decide (a < -1000) = false := decide_eq_false g1
  have d2 : decide (1000 < a) = false := decide_eq_false g2
  have d3 : decide (b < -1000) = false := decide_eq_false g3
  have d4 : decide (1000 < b) = false := decide_eq_false g4
  have hpb := prm_bounds hrt.1
  obtain ⟨P, rfl⟩ : ∃ P : Nat, p = (P : Int) := ⟨p.toNat, by omega⟩
  have hPz : (P : Int) ≠ 0 := by omega
  have hPn : ((P : Int) == 0) = false := by rw [beq_eq_false_iff_ne]; omega
  have ra := rem_zero a za
  go_enter Tryd.func8, Tryd.ntmps8
  go_wp2_with fail
  refine HF.out.mono ?_
  rintro e w0 ⟨rfl, rfl⟩
  clear HF
  have HR := Lib.hid (right_one (P : Int) _ c (w.alloc (.cells #[.slice A nc ca] 23)) (Nat.le_refl _) hC true (by simp [hrt]))
  go_wp2_with fail
  refine (HR.out).mono ?_
  rintro e w1 ⟨rfl, hB⟩
  clear HR
  replace hC := (hC.below hB).more hB.size
  replace hBw := below_in hBw hB
  clear hB
  go_wp2_with fail
  refine (works_any _ (hL.next hBw)).mono ?_
  rintro e wz ⟨rfl, hBz⟩
  go_wp2
  go_ret
  exact ⟨rfl, below_in hBw hBz⟩
open Go.Proofs.YtckfepmahjgmfaaDoor.E Go.Proofs.YtckfepmahjgmfaaDoor.C Go.Proofs.YtckfepmahjgmfaaDoor.Rg in
set_option maxRecDepth 100000 in
set_option maxHeartbeats 4000000 in
theorem y2 (p : Int) (v : Value) (c : List (List UInt8)) (a b : Int) (w : World) (hL : Laid w) (wp : -9223372036854775808 ≤ p ∧ p ≤ 9223372036854775807) (hC : Many w.heap.size w v c) (wa : -9223372036854775808 ≤ a ∧ a ≤ 9223372036854775807) (wb : -9223372036854775808 ≤ b ∧ b ≤ 9223372036854775807) (hfew : Few6 [c]) (hrt : RightD p [c]) (g1 : ¬ a < -1000) (g2 : ¬ 1000 < a) (g3 : ¬ b < -1000) (g4 : ¬ 1000 < b) (za : a % p ≠ 0) (zb : b % p = 0) :
    Calls Tryd.prog 8 #[.int .i64 p, v, .int .i64 a, .int .i64 b] w fun e w' => e = .returned (.bool true) ∧ Below w.heap.size w w' := by
  obtain ⟨A, ca, rfl, _, _⟩ := id hC
  obtain ⟨nc, hnc⟩ : ∃ x, c.length = x := ⟨_, rfl⟩
  rw [hnc] at hC ⊢
  have hA0 := below_one w (.cells #[.slice A nc ca] 23)
  have bA0 := Blk.new w 23 #[.slice A nc ca]
  replace hC := (hC.below hA0).more hA0.size
  have hBw := hA0
  have HF := Lib.hid (few6_any _ _ (w.alloc (.cells #[.slice A nc ca] 23)) (cols_one bA0 hC bA0.lt) true (by simp [hfew]))
  clear bA0
  have d1 : decide (a < -1000) = false := decide_eq_false g1
  have d2 : decide (1000 < a) = false := decide_eq_false g2
  have d3 : decide (b < -1000) = false := decide_eq_false g3
  have d4 : decide (1000 < b) = false := decide_eq_false g4
  have hpb := prm_bounds hrt.1
  obtain ⟨P, rfl⟩ : ∃ P : Nat, p = (P : Int) := ⟨p.toNat, by omega⟩
  have hPz : (P : Int) ≠ 0 := by omega
  have hPn : ((P : Int) == 0) = false := by rw [beq_eq_false_iff_ne]; omega
  have ra : (a.tmod (P : Int) == 0) = false := beq_eq_false_iff_ne.2 (rem_not a za)
  have rb := rem_zero b zb
  go_enter Tryd.func8, Tryd.ntmps8
  go_wp2_with fail
  refine HF.out.mono ?_
  rintro e w0 ⟨rfl, rfl⟩
  clear HF
  have HR := Lib.hid (right_one (P : Int) _ c (w.alloc (.cells #[.slice A nc ca] 23)) (Nat.le_refl _) hC true (by simp [hrt]))
  go_wp2_with fail
  refine (HR.out).mono ?_
  rintro e w1 ⟨rfl, hB⟩
  clear HR
  replace hC := (hC.below hB).more hB.size
  replace hBw := below_in hBw hB
  clear hB
  go_wp2_with fail
  refine (works_any _ (hL.next hBw)).mono ?_
  rintro e wz ⟨rfl, hBz⟩
  go_wp2
  go_ret
  exact ⟨rfl, below_in hBw hBz⟩
open Go.Proofs.YtckfepmahjgmfaaDoor.E Go.Proofs.YtckfepmahjgmfaaDoor.C Go.Proofs.YtckfepmahjgmfaaDoor.Rg in
set_option maxRecDepth 100000 in
set_option maxHeartbeats 4000000 in
theorem main (p : Int) (v : Value) (c : List (List UInt8)) (a b : Int) (w : World) (hL : Laid w) (wp : -9223372036854775808 ≤ p ∧ p ≤ 9223372036854775807) (hC : Many w.heap.size w v c) (wa : -9223372036854775808 ≤ a ∧ a ≤ 9223372036854775807) (wb : -9223372036854775808 ≤ b ∧ b ≤ 9223372036854775807) (hfew : Few6 [c]) (hrt : RightD p [c]) (g1 : ¬ a < -1000) (g2 : ¬ 1000 < a) (g3 : ¬ b < -1000) (g4 : ¬ 1000 < b) (za : a % p ≠ 0) (zb : b % p ≠ 0) :
    Calls Tryd.prog 8 #[.int .i64 p, v, .int .i64 a, .int .i64 b] w fun e w' => e = .returned (.bool true) ∧ Below w.heap.size w w' := by
  obtain ⟨A, ca, rfl, _, _⟩ := id hC
  obtain ⟨nc, hnc⟩ : ∃ x, c.length = x := ⟨_, rfl⟩
  rw [hnc] at hC ⊢
  have hA0 := below_one w (.cells #[.slice A nc ca] 23)
  have bA0 := Blk.new w 23 #[.slice A nc ca]
  replace hC := (hC.below hA0).more hA0.size
  have hBw := hA0
  have HF := Lib.hid (few6_any _ _ (w.alloc (.cells #[.slice A nc ca] 23)) (cols_one bA0 hC bA0.lt) true (by simp [hfew]))
  clear bA0
  have d1 : decide (a < -1000) = false := decide_eq_false g1
  have d2 : decide (1000 < a) = false := decide_eq_false g2
  have d3 : decide (b < -1000) = false := decide_eq_false g3
  have d4 : decide (1000 < b) = false := decide_eq_false g4
  obtain ⟨P, Q, n, rfl, hQ, hp, h1, h64, _, hg⟩ := right_yes hrt (by show 0 < 1; omega)
  have gc : GoodC Q n c := hg 0 (by show 0 < 1; omega)
  clear hg
  have hpb := prm_bounds hp
  have hPz : (P : Int) ≠ 0 := by omega
  have hPn : ((P : Int) == 0) = false := by rw [beq_eq_false_iff_ne]; omega
  have D : Dims P Q n := ⟨hQ, hp, h1, h64⟩
  have ra : (a.tmod (P : Int) == 0) = false := beq_eq_false_iff_ne.2 (rem_not a za)
  have rb : (b.tmod (P : Int) == 0) = false := beq_eq_false_iff_ne.2 (rem_not b zb)
  have HQ1 := Lib.hid hQ
  clear hQ hp h1 h64
  go_enter Tryd.func8, Tryd.ntmps8
  go_wp2_with fail
  refine HF.out.mono ?_
  rintro e w0 ⟨rfl, rfl⟩
  clear HF
  have HR := Lib.hid (right_one (P : Int) _ c (w.alloc (.cells #[.slice A nc ca] 23)) (Nat.le_refl _) hC true (by simp [hrt]))
  go_wp2_with fail
  refine (HR.out).mono ?_
  rintro e w1 ⟨rfl, hB⟩
  clear HR
  replace hC := (hC.below hB).more hB.size
  replace hBw := below_in hBw hB
  clear hB
  obtain rfl : Q = nc := by rw [← hnc, gc.1]
  clear hnc hrt hfew d1 d2 d3 d4 hA0
  go_wp2
  go_loopw [9, 10] (fun l i wr => ∃ k : Nat, k ≤ P ∧ i = .int .i64 k ∧ RowC (fun _ => True) wr w1.heap.size l (turns P Q n c k) ∧ Below w1.heap.size w1 wr) (fun _ i _ => P - (intOf i).toNat)
  case atStart => exact ⟨0, Nat.zero_le _, rfl, RowG.nil _ _ _ _ _ _, Below.refl _ _⟩
  case round =>
    obtain ⟨k, hk, rfl, hrow, hBr⟩ := hrel
    have hCr := (hC.below hBr).more hBr.size
    by_cases hlt : k < P
    · have hdec : decide ((k : Int) < (P : Int)) = true := by simp; omega
      have i1 : (0 : Int) ≤ (k : Int) := by omega
      have i2 : (k : Int) < (P : Int) := by omega
      have HT := Lib.hid (turnF D (k : Int) (by omega) (by omega) c gc _ wr (hL.next (below_in hBw hBr)) hCr)
      have HNX := Lib.hid (turns_next P Q n c k)
      have HPL := Lib.hid (turns_len P Q n c k)
      go_wp2_with fail
      refine HT.out.mono ?_
      rintro e w2 ⟨At, kt, rfl, hf, hB2⟩
      have hOWN : ∀ b, Value.ownBlock u9 = some b → b < wr.heap.size := fun b e => RowG.own_lt hrow b e
      have hOLE : ∀ b, Value.ownBlock u9 = some b → w1.heap.size ≤ b := fun b e => RowG.own_le hrow b e
      have hrow2 := RowG.below hrow hB2
      have hA := below_one w2 (.cells #[.slice At Q kt] 23)
      have HROWC := Lib.hid (RowG.below hrow2 hA)
      have HBLK := Lib.hid (Blk.new w2 23 #[.slice At Q kt])
      have hz2 := hB2.size
      have hz3 := hA.size
      have hzr := hBr.size
      have HCP := Lib.hid (manyR.imp (freshMany_R (hf.below hA)) (fun b hb => (⟨hb.2, fun e => (by have := hOWN b e.symm; have := hb.1; omega), trivial⟩ : b < (w2.alloc (.cells #[.slice At Q kt] 23)).heap.size ∧ some b ≠ Value.ownBlock u9 ∧ True)))
      clear hrow hrow2 hf
      go_wp2_with (first
        | (go_at_call 25; refine (num_any _ _).mono ?_; rintro e w' ⟨rfl, rfl⟩)
        | (at_builtin; refine wpList_pushC (T := 25) _ rfl _ _ rfl Tryd.underlying25 (turns P Q n c k) rfl HROWC.out w2.heap.size 23 _ (turnC P Q n c (k : Int)) rfl HBLK.out HCP.out (by have := HPL.out; omega) (by omega) ?_; intro v' w4 hrow4 hgrow hown))
      have hB4 : Below w1.heap.size w1 w4 := below_grown (below_in hBr (below_in hB2 hA)) hgrow (by omega) (fun b e => hOLE b e)
      rw [HNX.out] at hrow4
      try go_wp2
      go_roundw
      case rel => exact ⟨k + 1, by omega, by go_num, hrow4, hB4⟩
      case measure => simp [intOf]; omega
    · obtain rfl : k = P := by omega
      have e1 : decide ((k : Int) < (k : Int)) = false := by simp
      have hBw2 := below_in hBw hBr
      have hcols := RowC.cols hrow
      have hlen := turns_len k Q n c k
      have hcf := id hcols
      obtain ⟨At, kt, het, _, _⟩ := hcf
      rw [hlen] at het
      subst het
      have HSU := Lib.hid (sumY D (turns k Q n c k) (by rw [hlen]; omega) (by rw [hlen]; omega) (fun j hj => by have := turns_good D gc k _ (List.getElem_mem hj); rwa [List.getElem?_eq_getElem hj]) _ wr (hL.next hBw2) hcols)
      clear hrow hcols
      go_wp2_with fail
      refine HSU.out.mono ?_
      rintro e w2 ⟨As, ks, rfl, hs, hB2⟩
      have hC2 := (hCr.below hB2).more hB2.size
      replace hBw2 := below_in hBw2 hB2
      have gS : GoodC Q n (sumC Q (turns k Q n c k)) := sum_good D.h1 D.h64 (by rw [hlen]; omega) (turns_good D gc k)
      have hq1 : ((k : Int) - 1) = (Q : Int) := by have := HQ1.out; omega
      have hneq : ((Q : Int) != (k : Int) - 1) = false := by rw [hq1]; simp
      have hs2 : Many w2.heap.size w2 (.slice As (sumC Q (turns k Q n c k)).length ks) (sumC Q (turns k Q n c k)) := by rw [gS.1]; exact hs
      obtain ⟨bs, os, rfl, hbs, hrs⟩ := many_at hs2 (by rw [gS.1]; have := HQ1.out; omega)
      have HRS := Lib.hid (fun r (hr : r < Q) => hrs r (by rw [gS.1]; exact hr))
      have HGS := Lib.hid gS
      have HZ := Lib.hid (fun r (hr : r < Q) => turns_nought D gc r hr)
      clear hrs hs2 hs gS HSU hlen
      generalize sumC Q (turns k Q n c k) = sm at *
      have hQ0 : (0 : Int) ≤ (Q : Int) := by omega
      rw [hq1] at hneq
      skip
      go_wp2_with (go_at_call 25; refine (num_any _ _).mono ?_; rintro e w' ⟨rfl, rfl⟩)
      go_loopw [15] (fun i wr => ∃ r : Nat, r ≤ Q ∧ i = .int .i64 r ∧ Below w2.heap.size w2 wr) (fun i _ => Q - (intOf i).toNat)
      case atStart => exact ⟨0, Nat.zero_le _, rfl, Below.refl _ _⟩
      case round =>
        obtain ⟨r, hr, rfl, hBz⟩ := hrel
        by_cases hltr : r < Q
        · have hdec : decide ((r : Int) < (k : Int) - 1) = true := by rw [hq1]; simp; omega
          obtain ⟨A1, cp, hcell, hby⟩ := HRS.out r hltr
          have hcr := (hBz.cell (p := ⟨bs, os + r, none⟩) hbs).trans hcell
          have i1 : (0 : Int) ≤ (r : Int) := by omega
          have i2 : (r : Int) < (Q : Int) := by omega
          have g := HGS.out.2 r hltr
          have HIZ := Lib.hid (isZero_any _ _ wr ((hby.below hBz).more hBz.size))
          rw [decide_eq_true (⟨g.1, places_none fun j => HZ.out r hltr j⟩ : Cell (sm[r]?.getD []) ∧ places (sm[r]?.getD []) = [])] at HIZ
          clear hcell hby g
          generalize (sm[r]?.getD []).length = lr at *
          go_wp2_with (go_at_call 27; refine HIZ.out.mono ?_; rintro e w5 ⟨rfl, hB5⟩)
          go_roundw
          case rel => exact ⟨r + 1, by omega, by go_num, below_in hBz hB5⟩
          case measure => simp [intOf]; omega
        · obtain rfl : r = Q := by omega
          have hdec : decide ((r : Int) < (k : Int) - 1) = false := by rw [hq1]; simp
          replace hBw2 := below_in hBw2 hBz
          replace hC2 := (hC2.below hBz).more hBz.size
          have ga := slack_good D.hQ D.h1 D.h64 gc a
          have gb := slack_good D.hQ D.h1 D.h64 gc b
          go_wp2_with fail
          refine (slackY D a (by omega) (by omega) za c gc _ _ (hL.next hBw2) hC2).mono ?_
          rintro e v1 ⟨B1, q1, rfl, hx, hB⟩
          replace hC2 := (hC2.below hB).more hB.size
          replace hBw2 := below_in hBw2 hB
          clear hB
          go_wp2_with fail
          refine (slackY D b (by omega) (by omega) zb _ ga _ _ (hL.next hBw2) hx).mono ?_
          rintro e v2 ⟨B2, q2, rfl, hy, hB⟩
          replace hC2 := (hC2.below hB).more hB.size
          replace hx := (hx.below hB).more hB.size
          replace hBw2 := below_in hBw2 hB
          clear hB
          go_wp2_with fail
          refine (slackY D b (by omega) (by omega) zb c gc _ _ (hL.next hBw2) hC2).mono ?_
          rintro e v3 ⟨B3, q3, rfl, hz, hB⟩
          replace hC2 := (hC2.below hB).more hB.size
          replace hx := (hx.below hB).more hB.size
          replace hy := (hy.below hB).more hB.size
          replace hBw2 := below_in hBw2 hB
          clear hB
          go_wp2_with fail
          refine (slackY D a (by omega) (by omega) za _ gb _ _ (hL.next hBw2) hz).mono ?_
          rintro e v4 ⟨B4, q4, rfl, hw, hB⟩
          replace hC2 := (hC2.below hB).more hB.size
          replace hx := (hx.below hB).more hB.size
          replace hy := (hy.below hB).more hB.size
          replace hz := (hz.below hB).more hB.size
          replace hBw2 := below_in hBw2 hB
          clear hB
          go_wp2_with fail
          refine (num_any _ _).mono ?_
          rintro e w' ⟨rfl, rfl⟩
          go_wp2_with fail
          refine (num_any _ _).mono ?_
          rintro e w' ⟨rfl, rfl⟩
          go_wp2_with fail
          refine (num_any _ _).mono ?_
          rintro e w' ⟨rfl, rfl⟩
          go_wp2_with fail
          refine (num_any _ _).mono ?_
          rintro e w' ⟨rfl, rfl⟩
          go_wp2_with fail
          refine (sameY D _ _ (slack_good D.hQ D.h1 D.h64 ga b) (slack_slack D.hQ D.hp D.h1 D.h64 gc za zb) _ _ _ hy hw).mono ?_
          rintro e v5 ⟨rfl, hB⟩
          replace hC2 := (hC2.below hB).more hB.size
          replace hx := (hx.below hB).more hB.size
          replace hy := (hy.below hB).more hB.size
          replace hz := (hz.below hB).more hB.size
          replace hw := (hw.below hB).more hB.size
          replace hBw2 := below_in hBw2 hB
          clear hB
          go_wp2_with fail
          refine (works_any _ (hL.next hBw2)).mono ?_
          rintro e wz ⟨rfl, hBz9⟩
          go_wp2
          go_ret
          exact ⟨rfl, below_in hBw2 hBz9⟩
open Go.Proofs.YtckfepmahjgmfaaDoor.E Go.Proofs.YtckfepmahjgmfaaDoor.C Go.Proofs.YtckfepmahjgmfaaDoor.Rg in
set_option maxRecDepth 100000 in
set_option maxHeartbeats 4000000 in
theorem walk (p : Int) (v : Value) (c : List (List UInt8)) (a b : Int) (w : World) (hL : Laid w) (wp : -9223372036854775808 ≤ p ∧ p ≤ 9223372036854775807) (hC : Many w.heap.size w v c) (wa : -9223372036854775808 ≤ a ∧ a ≤ 9223372036854775807) (wb : -9223372036854775808 ≤ b ∧ b ≤ 9223372036854775807) :
    Calls Tryd.prog 8 #[.int .i64 p, v, .int .i64 a, .int .i64 b] w fun e w' => e = .returned (.bool true) ∧ Below w.heap.size w w' := by
  by_cases hfew : ¬ Few6 [c]
  · exact nf p v c a b w hL wp hC wa wb hfew
  replace hfew := Classical.not_not.1 hfew
  by_cases hrt : ¬ RightD p [c]
  · exact nr p v c a b w hL wp hC wa wb hfew hrt
  replace hrt := Classical.not_not.1 hrt
  by_cases g1 : a < -1000
  · exact x1 p v c a b w hL wp hC wa wb hfew hrt g1
  by_cases g2 : 1000 < a
  · exact x2 p v c a b w hL wp hC wa wb hfew hrt g1 g2
  by_cases g3 : b < -1000
  · exact x3 p v c a b w hL wp hC wa wb hfew hrt g1 g2 g3
  by_cases g4 : 1000 < b
  · exact x4 p v c a b w hL wp hC wa wb hfew hrt g1 g2 g3 g4
  by_cases za : a % p = 0
  · exact y1 p v c a b w hL wp hC wa wb hfew hrt g1 g2 g3 g4 za
  by_cases zb : b % p = 0
  · exact y2 p v c a b w hL wp hC wa wb hfew hrt g1 g2 g3 g4 za zb
  exact main p v c a b w hL wp hC wa wb hfew hrt g1 g2 g3 g4 za zb

set_option maxRecDepth 100000 in
theorem lifted (os : Os) (started : os.Started) (H : Type) (enc : TypeId × Value → H) :
    ReturnsInHanded {} Tryd.checked os 8 .any (fun w args => (Rows.ringNoughtsSpec.pre enc Tryd.prog Tryd.f8 [] false w args ∧ laidMetH Tryd.prog laidL w) ∧ sizedMet enc Tryd.prog Tryd.f8 (OpenSpec.ofChange Rows.ringNoughtsSpec) false w args)
      (Rows.ringNoughtsSpec.post enc Tryd.prog Tryd.f8 false true false false) := by
  refine returnsInHanded_of_change_and (C := Tryd.checked) (X := fun w _ => laidMetH Tryd.prog laidL w) (fun _ _ _ hh h => h.of_heap hh) own started (by kernel_rfl) Tryd.func8
    (ChangeSpec.witness_shaped (enc := enc) (C := Tryd.checked) (os := os) (X := fun w _ => laidMetH Tryd.prog laidL w) false (World.doorLaid Tryd.prog 200 os) #[.int .i64 0, .slice none 0 0, .int .i64 0, .int .i64 0] 8 rfl (World.shaped_of_RefB (by kernel_rfl) (by kernel_rfl)) (by kernel_rfl) (by kernel_rfl) (by kernel_rfl) (door_met os _)) ?_
  intro W base args ds gs before hval0 hW _ _ hL0 _
  have hL := laid_of hL0
  have hval : ∀ (j : Nat) t v, Tryd.f8.params[j]? = some t → args[j]? = some v → Value.okWide Tryd.prog W .any base t v := hval0
  have hW' := hW
  obtain ⟨p, q, hA0, hV, rfl, hfz, hnd⟩ := hW
  have hA : DataW.TrodAll enc Tryd.prog W 0 (fun _ => true) true Tryd.f8.params.toList args.toList ds p := hA0
  rw [Tryd.params8] at hA hval
  obtain ⟨v0, vs0, d0, ds0, p0, q0, hargs, rfl, rfl, h0, r0⟩ := trodAll_cons hA
  obtain ⟨v1, vs1, d1, ds1, p1, q1, rfl, rfl, rfl, h1, r1⟩ := trodAll_cons r0
  obtain ⟨v2, vs2, d2, ds2, p2, q2, rfl, rfl, rfl, h2, r2⟩ := trodAll_cons r1
  obtain ⟨v3, vs3, d3, ds3, p3, q3, rfl, rfl, rfl, h3, r3⟩ := trodAll_cons r2
  obtain ⟨rfl, rfl, rfl⟩ := trodAll_nil r3
  obtain rfl : args = #[v0, v1, v2, v3] := by cases args; simp_all
  obtain ⟨rfl, rfl⟩ := trodVars_none hV
  obtain ⟨a0, rfl, rfl, rfl, w0⟩ := open_int Tryd.underlying3 (hval 0 3 v0 rfl rfl) h0
  have k1 := h1
  have lt1 : ∀ x ∈ p1, x.block < W.heap.size := by obtain ⟨m, hm⟩ := k1; exact DataW.trod_lt m _ _ _ hm
  obtain ⟨a1, len1, cap1, rfl⟩ := okWide_slice Tryd.underlying23 (hval 1 23 v1 rfl rfl)
  obtain ⟨l1, w1⟩ : ∃ cs, C.Many W.heap.size W (.slice a1 len1 cap1) cs := by obtain ⟨fuel, hf⟩ := h1; exact E.open_col hf
  obtain ⟨a2, rfl, rfl, rfl, w2⟩ := open_int Tryd.underlying3 (hval 2 3 v2 rfl rfl) h2
  obtain ⟨a3, rfl, rfl, rfl, w3⟩ := open_int Tryd.underlying3 (hval 3 3 v3 rfl rfl) h3
  clear hA0 hval0
  simp only [List.append_nil] at hW'
  refine (walk a0 _ l1 a2 a3 W hL (E.wf_i64 w0) w1 (E.wf_i64 w2) (E.wf_i64 w3)).mono fun e W' ⟨he, bel⟩ => ?_
  subst he
  exact ⟨_, rfl, _, _, _, [], _, [], hW', trodAll_mk1 (shut_bool Tryd.underlying4 _), (trodAll_cons_mk (shut_int Tryd.underlying3 w0) (trodAll_cons_mk (Below.trod laidOut (by kernel_rfl) (of_decide_eq_true (by kernel_rfl)) k1 bel lt1) (trodAll_cons_mk (shut_int Tryd.underlying3 w2) (trodAll_cons_mk (shut_int Tryd.underlying3 w3) trodAll_mk0)))), rfl, bel.frame _, fun h => by cases h⟩

theorem over : Rows.ringNoughtsRow.holds Tryd.pinned (OpenSpec.ofChange Rows.ringNoughtsSpec) :=
  OpenClaim.holds_of_wide 8 Tryd.f8 rfl rfl rfl rfl rfl rfl rfl ⟨rfl, rfl, rfl, rfl, rfl⟩ rfl rfl rfl rfl rfl (by kernel_rfl) Tryd.func8 (by kernel_rfl)
    (of_decide_eq_true (by kernel_rfl)) (by unfold Func.isWrapper; first | (rw [if_pos (by decide +kernel)]; kernel_rfl) | (rw [if_neg (by decide +kernel)]; exact ⟨rfl, rfl⟩))
    (fun os started H enc _ => lifted os started H enc)

/-- The tied card: the row, and the tie that is given. -/
theorem ringNoughts_holds : Rows.RingNoughtsCardSaid :=
  Claim7.holds_tied_plain_at .later [] [.data, .data] true (true, "99df5f4bcb019dcdec7cff5fcc9a2e8187eb1342bd2c8a4118c04815654cb552") true over (fun _ h => by cases h) (by kernel_rfl) (fun _ h => by cases h) ringNoughts_row_tie rfl ⟨rfl, rfl⟩ (by kernel_rfl) rfl
    (fun f fn hf hfn => by
      obtain rfl : f = 8 := Option.some.inj ((show Tryd.prog.funcNamed "palisade/palisadelaw10.RingNoughts" = some 8 by kernel_rfl).symm.trans hf) |>.symm
      obtain rfl : fn = Tryd.f8 := (Option.some.inj (Tryd.func8.symm.trans hfn)).symm
      exact ⟨by kernel_rfl, fun j t ht => by
        rw [Tryd.params8] at ht
        have hm : t ∈ [3, 23, 3, 3] := by simpa using Array.mem_of_getElem? ht
        have hall : ([3, 23, 3, 3].all fun u => !Tryd.prog.wantsStandIn u) = true := by kernel_rfl
        exact (show Tryd.prog.wantsStandIn t = false by simpa using List.all_eq_true.1 hall t hm)⟩)
    (by kernel_rfl)
end Go.Proofs.YtckfepmahjgmfaaDoor.ringNoughts
