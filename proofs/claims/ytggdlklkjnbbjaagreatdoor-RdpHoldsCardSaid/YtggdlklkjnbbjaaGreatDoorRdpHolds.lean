/- The law RdpHolds answers true for every input and leaves its arguments as they were. -/
import Derived.Test.YtggdlklkjnbbjaaGreatDoorKSA
import Derived.Test.YtggdlklkjnbbjaaGreatDoorKSAx1
import Derived.Test.YtggdlklkjnbbjaaGreatDoorKEG4x1
import Derived.Test.YtggdlklkjnbbjaaGreatDoorKEG6x1
import Derived.Test.YtggdlklkjnbbjaaGreatDoorKZG5x1
import Derived.Test.YtggdlklkjnbbjaaGreatDoorKRG2x1
import Derived.Test.YtggdlklkjnbbjaaGreatDoorKRG3x1
import Derived.Test.YtggdlklkjnbbjaaGreatDoorCards
import Derived.Test.YtggdlklkjnbbjaaGreatDoorTie
import Derived.SevenTiedAt
import Derived.Test.YtggdlklkjnbbjaaGreatDoorKRG3
namespace Go.Proofs.YtggdlklkjnbbjaaGreatDoor.rdpHolds
open Go.ChangeShapes Go.WideShapes Go.ChangeAt Go.RowKit Go.Shelf
set_option linter.unusedVariables false
set_option linter.unusedSimpArgs false
attribute [local go_sem] Oper.semAt_some

theorem upd {α : Type} : (∀ (l : List α) (i : Nat) (a : α), l.toArray.setIfInBounds i a = (l.set i a).toArray) ∧ (∀ (x : α) (xs : List α) (a : α), (x :: xs).set 0 a = a :: xs) ∧ (∀ (x : α) (xs : List α) (i : Nat) (a : α), (x :: xs).set (i + 1) a = x :: xs.set i a) :=
  ⟨fun _ _ _ => List.setIfInBounds_toArray .., fun _ _ _ => rfl, fun _ _ _ _ => rfl⟩
theorem at_eq2 (a b c d : Int) (W : World) : (binOp .eql 56 (.agg #[.int .i64 a, .int .i64 b]) (.agg #[.int .i64 c, .int .i64 d])).run Tryz.prog W = .ok (.bool (a == c && b == d)) W := by
  go_simp
  by_cases h1 : a = c <;> by_cases h2 : b = d <;> simp [h1, h2]
open Go.Proofs.YtggdlklkjnbbjaaGreatDoor.E Go.Proofs.YtggdlklkjnbbjaaGreatDoor.C Go.Proofs.YtggdlklkjnbbjaaGreatDoor.R in
set_option maxRecDepth 100000 in
set_option maxHeartbeats 4000000 in
theorem n1 (p : Int) (v : Value) (a : List (List (List UInt8))) (x y : Int) (v2 : Value) (bs : List UInt8) (w : World) (hL : Laid w) (wp : -9223372036854775808 ≤ p ∧ p ≤ 9223372036854775807) (hC : Cols w.heap.size w v a) (wx : -9223372036854775808 ≤ x ∧ x ≤ 9223372036854775807) (wy : -9223372036854775808 ≤ y ∧ y ≤ 9223372036854775807) (hD : Bytes w.heap.size w v2 bs) (hf0 : ¬ Few6 a) :
    Calls Tryz.prog 8 #[.int .i64 p, v, .agg #[.int .i64 x, .int .i64 y], v2] w fun e w' => e = .returned (.bool true) ∧ Below w.heap.size w w' := by
  obtain ⟨A, cap, rfl, -, -⟩ := id hC
  obtain ⟨A', cap', rfl, -, -⟩ := id hD
  obtain ⟨W1, hW1⟩ : ∃ W1, w.alloc (.cells #[.int .i64 x, .int .i64 y] 56) = W1 := ⟨_, rfl⟩
  have b6 : Blk W1 w.heap.size 56 #[.int .i64 x, .int .i64 y] := by rw [← hW1]; exact Blk.new _ _ _
  have hB1 : Below w.heap.size w W1 := by rw [← hW1]; exact below_one w _
  have HLW := Lib.hid (fun (U : World) (hU : Below w.heap.size w U) => hL.next hU)
  have HF0 := Lib.hid (fun (U : World) (hU : Below w.heap.size w U) => few6_any _ a U (hC.below hU) false (by simp [hf0]))
  clear hf0 hC hD
  generalize a.length = na at *
  generalize bs.length = nb at *
  go_enter Tryz.func8, Tryz.ntmps8
  go_wp2_with fail
  try rw [hW1]
  go_wp2_with (first
    | (go_at_call 10; refine (HF0.out _ hB1).mono ?_; rintro e w' ⟨rfl, rfl⟩)
    | (go_at_call 26; refine (Go.Proofs.YtggdlklkjnbbjaaGreatDoor.R.works_any _ (HLW.out _ hB1)).mono ?_; rintro e wz ⟨rfl, hBz⟩))
  go_ret
  exact ⟨rfl, below_in hB1 hBz⟩

open Go.Proofs.YtggdlklkjnbbjaaGreatDoor.E Go.Proofs.YtggdlklkjnbbjaaGreatDoor.C Go.Proofs.YtggdlklkjnbbjaaGreatDoor.R in
set_option maxRecDepth 100000 in
set_option maxHeartbeats 4000000 in
theorem n2 (p : Int) (v : Value) (a : List (List (List UInt8))) (x y : Int) (v2 : Value) (bs : List UInt8) (w : World) (hL : Laid w) (wp : -9223372036854775808 ≤ p ∧ p ≤ 9223372036854775807) (hC : Cols w.heap.size w v a) (wx : -9223372036854775808 ≤ x ∧ x ≤ 9223372036854775807) (wy : -9223372036854775808 ≤ y ∧ y ≤ 9223372036854775807) (hD : Bytes w.heap.size w v2 bs) (hf0 : Few6 a) (hr0 : ¬ DataR p a) :
    Calls Tryz.prog 8 #[.int .i64 p, v, .agg #[.int .i64 x, .int .i64 y], v2] w fun e w' => e = .returned (.bool true) ∧ Below w.heap.size w w' := by
  obtain ⟨A, cap, rfl, -, -⟩ := id hC
  obtain ⟨A', cap', rfl, -, -⟩ := id hD
  obtain ⟨W1, hW1⟩ : ∃ W1, w.alloc (.cells #[.int .i64 x, .int .i64 y] 56) = W1 := ⟨_, rfl⟩
  have b6 : Blk W1 w.heap.size 56 #[.int .i64 x, .int .i64 y] := by rw [← hW1]; exact Blk.new _ _ _
  have hB1 : Below w.heap.size w W1 := by rw [← hW1]; exact below_one w _
  have HLW := Lib.hid (fun (U : World) (hU : Below w.heap.size w U) => hL.next hU)
  have HF0 := Lib.hid (fun (U : World) (hU : Below w.heap.size w U) => few6_any _ a U (hC.below hU) true (by simp [hf0]))
  have HR0 := Lib.hid (fun (U : World) (hU : Below w.heap.size w U) => Go.Proofs.YtggdlklkjnbbjaaGreatDoor.R.lright_any p _ a U hU.size (hC.below hU) (by have := hf0.1; omega) false (by simp [hr0]))
  clear hf0 hr0 hC hD
  generalize a.length = na at *
  generalize bs.length = nb at *
  go_enter Tryz.func8, Tryz.ntmps8
  go_wp2_with fail
  try rw [hW1]
  go_wp2_with (first
    | (go_at_call 10; refine (HF0.out _ hB1).mono ?_; rintro e w' ⟨rfl, rfl⟩)
    | (go_at_call 28; refine (HR0.out _ hB1).mono ?_; rintro e w2 ⟨rfl, hBn⟩; have hB2 := below_in hB1 hBn; have hQ2 := below_in (Below.refl W1.heap.size W1) hBn; clear hBn)
    | (go_at_call 26; refine (Go.Proofs.YtggdlklkjnbbjaaGreatDoor.R.works_any _ (HLW.out _ hB2)).mono ?_; rintro e wz ⟨rfl, hBz⟩))
  go_ret
  exact ⟨rfl, below_in hB2 hBz⟩

open Go.Proofs.YtggdlklkjnbbjaaGreatDoor.E Go.Proofs.YtggdlklkjnbbjaaGreatDoor.C Go.Proofs.YtggdlklkjnbbjaaGreatDoor.R in
set_option maxRecDepth 100000 in
set_option maxHeartbeats 4000000 in
theorem c1 (p : Int) (v : Value) (a : List (List (List UInt8))) (x y : Int) (v2 : Value) (bs : List UInt8) (w : World) (hL : Laid w) (wp : -9223372036854775808 ≤ p ∧ p ≤ 9223372036854775807) (hC : Cols w.heap.size w v a) (wx : -9223372036854775808 ≤ x ∧ x ≤ 9223372036854775807) (wy : -9223372036854775808 ≤ y ∧ y ≤ 9223372036854775807) (hD : Bytes w.heap.size w v2 bs) (hf0 : Few6 a) (hr0 : DataR p a) (hc : ¬ HasCell 2 p x y) :
    Calls Tryz.prog 8 #[.int .i64 p, v, .agg #[.int .i64 x, .int .i64 y], v2] w fun e w' => e = .returned (.bool true) ∧ Below w.heap.size w w' := by
  obtain ⟨A, cap, rfl, -, -⟩ := id hC
  obtain ⟨A', cap', rfl, -, -⟩ := id hD
  obtain ⟨W1, hW1⟩ : ∃ W1, w.alloc (.cells #[.int .i64 x, .int .i64 y] 56) = W1 := ⟨_, rfl⟩
  have b6 : Blk W1 w.heap.size 56 #[.int .i64 x, .int .i64 y] := by rw [← hW1]; exact Blk.new _ _ _
  have hB1 : Below w.heap.size w W1 := by rw [← hW1]; exact below_one w _
  have HLW := Lib.hid (fun (U : World) (hU : Below w.heap.size w U) => hL.next hU)
  have HF0 := Lib.hid (fun (U : World) (hU : Below w.heap.size w U) => few6_any _ a U (hC.below hU) true (by simp [hf0]))
  have HR0 := Lib.hid (fun (U : World) (hU : Below w.heap.size w U) => Go.Proofs.YtggdlklkjnbbjaaGreatDoor.R.lright_any p _ a U hU.size (hC.below hU) (by have := hf0.1; omega) true (by simp [hr0]))
  obtain ⟨n1, n2, n3, n4, n5, n6⟩ := dataR_n hr0
  have hal24 := hf0.1
  have hp := hr0.1.1
  obtain ⟨hall, hG⟩ := allR_of hr0
  have hwn := wrong_none hr0
  have hff := first_app (a := a) (by omega) (rdpOf p a)
  have HE2 := Lib.hid (fun (U : World) (hU : Below w.heap.size w U) => Go.Proofs.YtggdlklkjnbbjaaGreatDoor.R.encode_yes (B := w.heap.size) p _ a hr0 U (hL.next hU) hU.size (hC.below hU))
  have HNO := Lib.hid (fun U : World => nought6_any (firstC a).length (by omega) U)
  have hsm := diags_left hr0
  have hrl := restOf_len hr0
  have hrd : restOf p a = adjOf p ((a ++ rdpOf p a).take p.toNat) := rfl
  obtain ⟨al, hal⟩ : ∃ al, a ++ rdpOf p a = al := ⟨_, rfl⟩
  have HXL : Hid ((rdpOf p a).length = 2) := rfl
  rw [hal] at hall hG hwn hff hsm hrd
  have HAL := Lib.hid hal
  have HRX := Lib.hid (fun (U : World) (u : Value) (hCU : Cols U.heap.size U u al) => right6_any p u _ U (Nat.le_refl _) hCU (by have := hall.2; omega) true (by simp only [true_iff]; exact hall.1))
  have HLA := Lib.hid (fun (U : World) (u : Value) (hU : Laid U) (hX : Cols U.heap.size U u al) => Go.Proofs.YtggdlklkjnbbjaaGreatDoor.R.left_yes p u _ hall U hU (Nat.le_refl _) hX)
  rw [← hrd] at HLA
  have HCK := Lib.hid (fun (U : World) (u : Value) (hU : Laid U) (hX : Cols U.heap.size U u al) => Go.Proofs.YtggdlklkjnbbjaaGreatDoor.R.check_yes p u _ hall U hU (Nat.le_refl _) hX)
  rw [hwn] at HCK
  simp only [decide_true] at HCK
  have HWN := Lib.hid hwn
  obtain ⟨b1, off1, cq, e1, _, hb1, hrow⟩ := hC.at_ (by omega)
  injection e1 with e1 _ e1c
  subst e1
  subst e1c
  obtain ⟨u9, hu9, hm9⟩ := hrow 0 (by omega)
  obtain ⟨A9, cap9, rfl, -, -⟩ := id hm9
  have hGa := togOk_grid hr0.1.2
  have hc0 := (hGa 0 (by omega)).1
  obtain ⟨b9, off9, rfl, hb9, hrow9⟩ := many_at hm9 (by omega)
  obtain ⟨B9, cp9, hx9, hby9⟩ := hrow9 0 (by omega)
  rw [Nat.add_zero] at hu9 hx9
  rw [hc0] at hu9
  have hx9 : w.cell? ⟨b9, off9, none⟩ = some (.slice B9 (firstC a).length cp9) := hx9
  have HD1 := Lib.hid (fun (U : World) (hU : Below w.heap.size w U) => (hU.cell (p := ⟨b1, off1, none⟩) hb1).trans hu9)
  have HD9 := Lib.hid (fun (U : World) (hU : Below w.heap.size w U) => (hU.cell (p := ⟨b9, off9, none⟩) hb9).trans hx9)
  have HAC := Lib.hid (fun (U : World) (hU : Below w.heap.size w U) => hC.below hU)
  have HBY := Lib.hid (fun (U : World) (hU : Below w.heap.size w U) => hD.below hU)
  obtain ⟨R, hR⟩ : ∃ R : Nat, (p - 1).toNat = R := ⟨_, rfl⟩
  obtain ⟨l9, hl9⟩ : ∃ l9 : Nat, (firstC a).length = l9 := ⟨_, rfl⟩
  rw [hl9] at hG hsm hrl HNO HD9 n5 n6
  rw [hR] at hG HD1 n4
  have hlen : al.length = R + 2 := by have := hall.2; omega
  obtain ⟨N, hNl⟩ : ∃ N, al.length = N := ⟨_, rfl⟩
  have HNL : Hid (N = R + 2) := hNl.symm.trans hlen
  have HAN := Lib.hid hNl
  obtain ⟨P, rfl⟩ : ∃ P : Nat, p = (P : Int) := ⟨p.toNat, by omega⟩
  have hPR : P = R + 1 := by omega
  have q1 : wrap64 ((P : Int) - 1) = (R : Int) := by rw [IntWalk.wrap64_in _ (by omega)]; omega
  rw [Int.toNat_natCast] at hsm
  obtain ⟨cs, hcs⟩ : ∃ cs, al[P]?.getD [] = cs := ⟨_, rfl⟩
  have hcl : cs.length = R := by rw [← hcs]; exact (hG P (by omega)).1
  have HCL : Hid (∀ k, k < R → (cs[k]?.getD []).length = l9) := fun k hk => by rw [← hcs]; exact (hG P (by omega)).2 k hk
  rw [hcs] at hsm
  have HSM := Lib.hid hsm
  have HRL := Lib.hid hrl
  have HCS := Lib.hid hcs
  have HG := Lib.hid hG
  have HALL := Lib.hid hall
  have HFF : Hid ((firstC al).length = l9) := by unfold Hid; rw [hff]; exact hl9
  have HLEN := Lib.hid hlen
  have HPR := Lib.hid hPR
  have HCSL := Lib.hid hcl
  have HN := Lib.hid (⟨n2, n3, n4, n5, n6⟩ : 3 ≤ (P : Int) ∧ (P : Int) ≤ 17 ∧ (P : Int) - 1 = (R : Int) ∧ 1 ≤ l9 ∧ l9 ≤ 64)
  have HNA : Hid (a.length = R) := by unfold Hid; omega
  have HPM := Lib.hid hp
  have hx0 : (0 : Int) < (a.length : Int) := by omega
  have hx1 : (0 : Int) < (R : Int) := by omega
  have hx2 : ¬ R = 0 := by omega
  have hx3 : (P : Int) ≤ 17 := by omega
  have hR16 : R ≤ 16 := by omega
  have hx4 : 3 ≤ (P : Int) := by omega
  clear hNl hf0 hr0 hall hG hwn hff hsm hrl hrd hal hp hC hD hrow hrow9 hby9 hu9 hx9 hm9 hc0 hGa hR hl9 hlen hPR hcs hcl n1 n2 n3 n4 n5 n6 hal24 wp
  generalize restOf (P : Int) a = rest at *
  generalize rdpOf (P : Int) a = ra at *
  generalize hna : a.length = na at *
  have HNE := Lib.hid hna
  clear hna
  generalize hnb : bs.length = nb at *
  have HNB := Lib.hid hnb
  have HBS : Hid (∀ U, Below w.heap.size w U → Bytes w.heap.size U (.slice A' nb cap') bs) := by
    intro U hU
    have h := HBY.out U hU
    exact h
  clear hnb
  have HHC := Lib.hid hc
  clear hc
  refine (callsIn_wide (n := 9)).1 ?_
  refine callsIn_of_wp_marks Tryz.func8 rfl trivial ?_ rfl
  simp only [Tryz.ntmps8, List.size_toArray, List.length_cons, List.length_nil, Nat.reduceAdd, Nat.reduceSub, Array.replicate_succ, Array.replicate_zero, List.push_toArray, List.append_toArray, List.nil_append, List.cons_append]
  refine (wpIn_wide (n := 9)).2 ?_
  go_wp2_with fail
  try rw [hW1]
  go_wp2_with (first
    | (go_at_call 10; refine (HF0.out _ hB1).mono ?_; rintro e w' ⟨rfl, rfl⟩)
    | (go_at_call 28; refine (HR0.out _ hB1).mono ?_; rintro e w2 ⟨rfl, hBn⟩; have hB2 := below_in hB1 hBn; have hQ2 := below_in (Below.refl W1.heap.size W1) hBn; clear hBn)
    | (go_at_call 27; refine (HE2.out _ hB2).mono ?_; rintro e w3 ⟨l, rfl, hl, hBn⟩; have hB3 := below_in hB2 hBn; have hQ3 := below_in hQ2 hBn; obtain ⟨Al, cl, hle, _, _⟩ := id hl; rw [HXL.out] at hle; subst hle; have HXC := Lib.hid (fun (U : World) (hU : Below w3.heap.size w3 U) => hl.below hU); have HAC3 := Lib.hid (fun (U : World) (hU : Below w3.heap.size w3 U) => (HAC.out U (below_in hB3 hU)).more hB3.size); have hT3 := Below.refl w3.heap.size w3; clear hl hBn; have hV1 := below_one w3 (.cells #[] 44); have hBV1 := below_in hT3 hV1; have HRE1 := Lib.hid (RowG.empty manyR 44 [] (fun _ => True) (Blk.new w3 44 #[]) (Nat.le_refl w3.heap.size)); have HAE1 := Lib.hid (app_far hBV1 hT3.size HRE1.out (HAC3.out _ hBV1)); have HSE1 := Lib.hid hV1.size)
    | (go_at_call 29; refine (Go.Proofs.YtggdlklkjnbbjaaGreatDoor.R.num_any _ _).mono ?_; rintro e w' ⟨rfl, rfl⟩)
    | (at_builtin; refine wpList_appCw (T := 22) _ rfl _ _ rfl Tryz.underlying22 [] a rfl HRE1.out rfl HAE1.out (by have := HNE.out; have := HNA.out; omega) (by simp) (by have := HNE.out; have := HNA.out; have := HN.out; omega) HSE1.out ?_; intro va1 wa1 hrow hgrow hoo; clear hoo; have hDa1 := below_grown hV1 hgrow hV1.size (fun g e => RowG.own_le HRE1.out g e); have hBa1 := below_in hT3 hDa1; have HRF1 := Lib.hid hrow; have HSF1 := Lib.hid hDa1.size; have HXF1 := Lib.hid (app_far hBa1 hT3.size HRF1.out (HXC.out _ hBa1)); clear hrow hgrow)
    | (at_builtin; refine wpList_appCw (T := 22) _ rfl _ _ rfl Tryz.underlying22 ([] ++ a) ra rfl HRF1.out rfl HXF1.out (by have := HXL.out; omega) (by have := HNE.out; have := HNA.out; have := HN.out; simp; omega) (by have := HXL.out; omega) HSF1.out ?_; intro vb1 wb1 hrow hgrow hoo; clear hoo; have hDb1 := below_grown hDa1 hgrow hDa1.size (fun g e => RowG.own_le HRF1.out g e); have hBb1 := below_in hT3 hDb1; rw [List.nil_append, HAL.out] at hrow; have hcol1 := RowC.cols hrow; have HROW1 := Lib.hid hrow; clear hrow hgrow)
    | (go_at_call 15; refine (HRX.out _ _ hcol1).mono ?_; rintro e w4 ⟨rfl, hBn⟩; have hT4 := below_in hBb1 hBn; clear hBn; have hV2 := below_one w4 (.cells #[] 44); have hBV2 := below_in hT4 hV2; have HRE2 := Lib.hid (RowG.empty manyR 44 [] (fun _ => True) (Blk.new w4 44 #[]) (Nat.le_refl w4.heap.size)); have HAE2 := Lib.hid (app_far hBV2 hT4.size HRE2.out (HAC3.out _ hBV2)); have HSE2 := Lib.hid hV2.size)
    | (at_builtin; refine wpList_appC (T := 22) _ rfl _ _ rfl Tryz.underlying22 [] a rfl HRE2.out rfl HAE2.out (by have := HNE.out; have := HNA.out; omega) (by simp) (by have := HNE.out; have := HNA.out; have := HN.out; omega) HSE2.out ?_; intro va2 wa2 hrow hgrow hoo; clear hoo; have hDa2 := below_grown hV2 hgrow hV2.size (fun g e => RowG.own_le HRE2.out g e); have hBa2 := below_in hT4 hDa2; have HRF2 := Lib.hid hrow; have HSF2 := Lib.hid hDa2.size; have HXF2 := Lib.hid (app_far hBa2 hT4.size HRF2.out (HXC.out _ hBa2)); clear hrow hgrow)
    | (at_builtin; refine wpList_appC (T := 22) _ rfl _ _ rfl Tryz.underlying22 ([] ++ a) ra rfl HRF2.out rfl HXF2.out (by have := HXL.out; omega) (by have := HNE.out; have := HNA.out; have := HN.out; simp; omega) (by have := HXL.out; omega) HSF2.out ?_; intro vb2 wb2 hrow hgrow hoo; clear hoo; have hDb2 := below_grown hDa2 hgrow hDa2.size (fun g e => RowG.own_le HRF2.out g e); have hBb2 := below_in hT4 hDb2; rw [List.nil_append, HAL.out] at hrow; have hcol2 := RowC.cols hrow; have HROW2 := Lib.hid hrow; clear hrow hgrow)
    | (go_at_call 32; refine (HLA.out _ _ (HLW.out _ (below_in hB3 hBb2)) hcol2).mono ?_; rintro e w6 ⟨s6, rfl, hs6, hBn⟩; have hT6 := below_in hBb2 hBn; have hU6 := hBn; have hcol6 := (hcol2.below hBn).more hBn.size; obtain ⟨As, cs6, hse, _, _⟩ := id hs6; rw [HRL.out] at hse; subst hse; clear hBn)
    | (go_at_call 31; refine (HCK.out _ _ (HLW.out _ (below_in hB3 hT6)) hcol6).mono ?_; rintro e w7 ⟨rfl, hBn⟩; have hT7 := below_in hT6 hBn; have hU7 := below_in hU6 hBn; have hB7 := below_in hB3 hT7; have hd1 := HD1.out _ hB7; have hd9 := HD9.out _ hB7; have hs7 := (hs6.below hBn).more hBn.size)
    | (go_at_call 24; refine (HNO.out _).mono ?_; rintro e w8 ⟨u8, rfl, hu8, hBn⟩; have hU8 := below_in hU7 hBn; have hT8 := below_in hT7 hBn; have hs8 := (hs7.below hBn).more hBn.size; clear hs6 hs7 hcol1 hcol6 hBn hT6 hT7 hU6 hU7))
  obtain ⟨gA, offA, capA, eA, hcA, hgA, hrowA⟩ := hcol2.at_ (by have := HLEN.out; omega)
  rw [HAN.out] at eA
  subst eA
  obtain ⟨up, hup, hmp⟩ := hrowA P (by have := HLEN.out; have := HPR.out; omega)
  rw [HCS.out] at hmp
  obtain ⟨bp, offp, capp, hcpp, rfl, hbp, hrowp⟩ : ∃ b off cap, R ≤ cap ∧ up = .slice (some ⟨b, off, none⟩) R cap ∧ b < wb2.heap.size ∧ ∀ k, k < R → ∃ B c, wb2.cell? ⟨b, off + k, none⟩ = some (.slice B l9 c) ∧ Bytes wb2.heap.size wb2 (.slice B l9 c) (cs[k]?.getD []) := by
    obtain ⟨Ap, cp, rfl, hcp, _⟩ := id hmp
    rw [HCSL.out] at hcp
    obtain ⟨b, off, rfl, hb, hr⟩ := many_at hmp (by rw [HCSL.out]; omega)
    rw [HCSL.out]
    exact ⟨b, off, cp, hcp, rfl, hb, fun k hk => by
      obtain ⟨B, c, h1, h2⟩ := hr k (by rw [HCSL.out]; exact hk)
      rw [HCL.out k hk] at h1 h2
      exact ⟨B, c, h1, h2⟩⟩
  have HROWP := Lib.hid hrowp
  have HUP := Lib.hid hup
  have HTK : Hid (cs.take R = cs) := by unfold Hid; rw [← HCSL.out, List.take_length]
  have HXN : Hid (∀ k, k < R → xors (List.replicate l9 0) (cs.take (k + 1)) = xorB (xors (List.replicate l9 0) (cs.take k)) (cs[k]?.getD [])) := fun k hk => xors_next _ _ k (by rw [HCSL.out]; exact hk)
  have HXL9 : Hid (∀ k, (xors (List.replicate l9 0) (cs.take k)).length = l9) := fun k => by rw [xors_len, List.length_replicate]
  have iP0 : (0 : Int) ≤ (P : Int) := by omega
  have iP1 : (P : Int) < (N : Int) := by have := HNL.out; have := HPR.out; omega
  clear hd1 hd9 hrowp hup hrowA
  go_loopw [16, 17] (fun u i wr => ∃ k : Nat, k ≤ R ∧ i = .int .i64 k ∧ Bytes wr.heap.size wr u (xors (List.replicate l9 0) (cs.take k)) ∧ Below w8.heap.size w8 wr) (fun _ i _ => R - (intOf i).toNat)
  case atStart => exact ⟨0, Nat.zero_le _, rfl, hu8, Below.refl _ _⟩
  case round =>
    obtain ⟨k, hk, rfl, hur, hBr⟩ := hrel
    by_cases hlt : k < R
    · have hdec : decide ((k : Int) < (R : Int)) = true := by simp; omega
      have hdec2 : decide ((k : Int) < (P : Int) - 1) = true := by have := HPR.out; simp; omega
      have i1 : (0 : Int) ≤ (k : Int) := by omega
      have i2 : (k : Int) < (R : Int) := by omega
      obtain ⟨Bk, ck, hxk, hyk⟩ := HROWP.out k hlt
      have hUr := below_in hU8 hBr
      have z0 := (hUr.cell (p := ⟨gA, offA + P, none⟩) hgA).trans HUP.out
      have z1 := (hUr.cell (p := ⟨bp, offp + k, none⟩) hbp).trans hxk
      have HPK := Lib.hid (rput_any u16 (.slice Bk l9 ck) _ _ wr hur ((hyk.below hUr).more hUr.size) (by rw [HXL9.out, HCL.out k hlt]; exact Nat.le_refl _) (by rw [HXL9.out]; have := HN.out.2.2.2.2; omega))
      have HXK := Lib.hid (HXN.out k hlt)
      obtain ⟨Au, cu, hue, _, _⟩ := id hur
      rw [HXL9.out] at hue
      subst hue
      clear hur hxk hyk
      go_wp2_with (go_at_call 25; refine HPK.out.mono ?_; rintro e w9 ⟨u, rfl, hu, hBn⟩)
      go_roundw
      case rel => exact ⟨k + 1, by omega, by go_num, by rw [HXK.out]; exact hu.bytes, below_in hBr hBn⟩
      case measure => simp [intOf]; omega
    · have hkR : R = k := by omega
      subst hkR
      have e1 : decide ((R : Int) < (R : Int)) = false := by simp
      have e2 : decide ((R : Int) < (P : Int) - 1) = false := by have := HPR.out; simp; omega
      rw [HTK.out, HSM.out] at hur
      obtain ⟨Au, cu, hue, _, _⟩ := id hur
      rw [HRL.out] at hue
      subst hue
      have hUr := below_in hU8 hBr
      have hTr := below_in hT8 hBr
      have hWr := below_in hB3 hTr
      have q3 := run_txt wr hur
      have q4 := run_txt wr (hs8.below hBr)
      clear hs8 hU8 hBr
      go_wp2_with (first
        | (go_at_call 29; refine (Go.Proofs.YtggdlklkjnbbjaaGreatDoor.R.num_any _ _).mono ?_; rintro e w' ⟨rfl, rfl⟩))
      clear q3 q4
      have b6r := b6.below (below_in hQ3 hTr) b6.lt
      have HSS : Hid (∀ V : World, Below wr.heap.size wr V → (fun V : World => V.cell? ⟨w.heap.size, 0, none⟩ = some (.int .i64 x) ∧ V.cell? ⟨w.heap.size, 1, none⟩ = some (.int .i64 y) ∧ (convert 25 9 (.slice A' nb cap')).run Tryz.prog V = .ok (.string (text bs)) V) V) := fun V hV => by
        have h6 := b6r.below hV b6r.lt
        have k0 := h6.cell 0
        have k1 := h6.cell 1
        simp only [List.getElem?_toArray, List.getElem?_cons_zero, List.getElem?_cons_succ] at k0 k1
        have ht := run_txt V (HBS.out V (below_in hWr hV))
        skip
        exact ⟨k0, k1, ht⟩
      clear b6r
      have hB9 : Below wr.heap.size wr wr.drew := (Below.refl _ _).drew
      have hS : (fun V : World => V.cell? ⟨w.heap.size, 0, none⟩ = some (.int .i64 x) ∧ V.cell? ⟨w.heap.size, 1, none⟩ = some (.int .i64 y) ∧ (convert 25 9 (.slice A' nb cap')).run Tryz.prog V = .ok (.string (text bs)) V) wr.drew := HSS.out _ hB9
      refine (wpIn_wide (n := 12)).1 (wpIn_mono (region_HF (Q := NoPanic _) (S := (fun V : World => V.cell? ⟨w.heap.size, 0, none⟩ = some (.int .i64 x) ∧ V.cell? ⟨w.heap.size, 1, none⟩ = some (.int .i64 y) ∧ (convert 25 9 (.slice A' nb cap')).run Tryz.prog V = .ok (.string (text bs)) V)) (by kernel_rfl) ?_) NoPanic.imp)
      refine anyHF_take (i := 0) (d := 112) (v := .int .i64 (P : Int)) (by kernel_rfl) rfl (by kernel_rfl) (by kernel_rfl) (by kernel_rfl) rfl (fun _ _ _ h => h) ⟨Or.inl ⟨by rfl, fun w hS => by obtain ⟨h0, h1, h2⟩ := hS; go_simp⟩, fun _ => rfl⟩ hS ?_
      simp only [upd]
      refine anyHF_take (i := 2) (d := 114) (v := .agg #[.int .i64 x, .int .i64 y]) (by kernel_rfl) rfl (by kernel_rfl) (by kernel_rfl) (by kernel_rfl) rfl (fun _ _ _ h => h) ⟨Or.inl ⟨by rfl, fun w hS => by obtain ⟨h0, h1, h2⟩ := hS; go_simp⟩, fun _ => rfl⟩ hS ?_
      simp only [upd]
      refine anyHF_one (i := 1) (by kernel_rfl) rfl (by kernel_rfl) (by rfl) ?_
      gi_wp2_with fail
      refine ⟨trivial, (callsIn_wide.2 (Go.Proofs.YtggdlklkjnbbjaaGreatDoor.R.lcode_any _ _)).mono ?_⟩
      rintro e wc ⟨rfl, hBn⟩
      replace hB9 := below_in hB9 hBn
      clear hS hBn
      have hS : (fun V : World => V.cell? ⟨w.heap.size, 0, none⟩ = some (.int .i64 x) ∧ V.cell? ⟨w.heap.size, 1, none⟩ = some (.int .i64 y) ∧ (convert 25 9 (.slice A' nb cap')).run Tryz.prog V = .ok (.string (text bs)) V) wc := HSS.out _ hB9
      gi_wp2
      try (refine ⟨hS, ?_⟩)
      refine anyHF_one (i := 3) (by kernel_rfl) rfl (by kernel_rfl) (by rfl) ?_
      gi_wp2_with fail
      refine ⟨trivial, (callsIn_wide.2 (refThere_any 2 (P : Int) x y ⟨by decide, HPM.out⟩ _)).mono ?_⟩
      rintro e wc2 ⟨ht1, ht2, hBn⟩
      have he := ht2 HHC.out
      subst he
      clear ht1 ht2
      replace hB9 := below_in hB9 hBn
      clear hS hBn
      have hS : (fun V : World => V.cell? ⟨w.heap.size, 0, none⟩ = some (.int .i64 x) ∧ V.cell? ⟨w.heap.size, 1, none⟩ = some (.int .i64 y) ∧ (convert 25 9 (.slice A' nb cap')).run Tryz.prog V = .ok (.string (text bs)) V) wc2 := HSS.out _ hB9
      gi_wp2
      try (refine ⟨hS, ?_⟩)
      refine anyHF_take (i := 4) (d := 116) (v := .bool true) (by kernel_rfl) rfl (by kernel_rfl) (by kernel_rfl) (by kernel_rfl) rfl (fun _ _ _ h => h) ⟨Or.inl ⟨by rfl, fun w hS => by obtain ⟨h0, h1, h2⟩ := hS; go_simp⟩, fun _ => rfl⟩ hS ?_
      simp only [upd]
      refine anyHF_take (i := 5) (d := 117) (v := .bool true) (by kernel_rfl) rfl (by kernel_rfl) (by kernel_rfl) (by kernel_rfl) rfl (fun _ _ _ h => h) ⟨Or.inl ⟨by rfl, fun w hS => by obtain ⟨h0, h1, h2⟩ := hS; go_simp⟩, fun _ => rfl⟩ hS ?_
      simp only [upd]
      refine anyHF_take (i := 6) (d := 118) (v := undef) (by kernel_rfl) rfl (by kernel_rfl) (by kernel_rfl) (by kernel_rfl) rfl (fun _ _ _ h => h) ⟨Or.inr ⟨by rfl, rfl⟩, fun _ => rfl⟩ hS ?_
      simp only [upd]
      refine anyHF_take (i := 7) (d := 119) (v := undef) (by kernel_rfl) rfl (by kernel_rfl) (by kernel_rfl) (by kernel_rfl) rfl (fun _ _ _ h => h) ⟨Or.inr ⟨by rfl, rfl⟩, fun _ => rfl⟩ hS ?_
      simp only [upd]
      refine anyHF_take (i := 8) (d := 120) (v := undef) (by kernel_rfl) rfl (by kernel_rfl) (by kernel_rfl) (by kernel_rfl) rfl (fun _ _ _ h => h) ⟨Or.inr ⟨by rfl, rfl⟩, fun _ => rfl⟩ hS ?_
      simp only [upd]
      refine anyHF_take (i := 9) (d := 121) (v := undef) (by kernel_rfl) rfl (by kernel_rfl) (by kernel_rfl) (by kernel_rfl) rfl (fun _ _ _ h => h) ⟨Or.inr ⟨by rfl, rfl⟩, fun _ => rfl⟩ hS ?_
      simp only [upd]
      refine anyHF_take (i := 10) (d := 122) (v := undef) (by kernel_rfl) rfl (by kernel_rfl) (by kernel_rfl) (by kernel_rfl) rfl (fun _ _ _ h => h) ⟨Or.inr ⟨by rfl, rfl⟩, fun _ => rfl⟩ hS ?_
      simp only [upd]
      refine anyHF_take (i := 11) (d := 123) (v := .bool true) (by kernel_rfl) rfl (by kernel_rfl) (by kernel_rfl) (by kernel_rfl) rfl (fun _ _ _ h => h) ⟨Or.inl ⟨by rfl, fun w hS => by obtain ⟨h0, h1, h2⟩ := hS; go_simp⟩, fun _ => rfl⟩ hS ?_
      simp only [upd]
      refine anyHF_take (i := 12) (d := 124) (v := .bool true) (by kernel_rfl) rfl (by kernel_rfl) (by kernel_rfl) (by kernel_rfl) rfl (fun _ _ _ h => h) ⟨Or.inl ⟨by rfl, fun w hS => by obtain ⟨h0, h1, h2⟩ := hS; go_simp⟩, fun _ => rfl⟩ hS ?_
      simp only [upd]
      refine anyHF_take (i := 13) (d := 125) (v := undef) (by kernel_rfl) rfl (by kernel_rfl) (by kernel_rfl) (by kernel_rfl) rfl (fun _ _ _ h => h) ⟨Or.inr ⟨by rfl, rfl⟩, fun _ => rfl⟩ hS ?_
      simp only [upd]
      refine anyHF_take (i := 14) (d := 126) (v := undef) (by kernel_rfl) rfl (by kernel_rfl) (by kernel_rfl) (by kernel_rfl) rfl (fun _ _ _ h => h) ⟨Or.inr ⟨by rfl, rfl⟩, fun _ => rfl⟩ hS ?_
      simp only [upd]
      refine anyHF_take (i := 15) (d := 127) (v := undef) (by kernel_rfl) rfl (by kernel_rfl) (by kernel_rfl) (by kernel_rfl) rfl (fun _ _ _ h => h) ⟨Or.inr ⟨by rfl, rfl⟩, fun _ => rfl⟩ hS ?_
      simp only [upd]
      refine anyHF_take (i := 16) (d := 128) (v := undef) (by kernel_rfl) rfl (by kernel_rfl) (by kernel_rfl) (by kernel_rfl) rfl (fun _ _ _ h => h) ⟨Or.inr ⟨by rfl, rfl⟩, fun _ => rfl⟩ hS ?_
      simp only [upd]
      refine anyHF_skip (i := 17) (d := 129) (by kernel_rfl) rfl (by rfl) rfl wide_fn hS ?_
      simp only [upd]
      refine anyHF_take (i := 18) (d := 130) (v := undef) (by kernel_rfl) rfl (by kernel_rfl) (by kernel_rfl) (by kernel_rfl) rfl (fun _ _ _ h => h) ⟨Or.inr ⟨by rfl, rfl⟩, fun _ => rfl⟩ hS ?_
      simp only [upd]
      refine anyHF_take (i := 19) (d := 131) (v := undef) (by kernel_rfl) rfl (by kernel_rfl) (by kernel_rfl) (by kernel_rfl) rfl (fun _ _ _ h => h) ⟨Or.inr ⟨by rfl, rfl⟩, fun _ => rfl⟩ hS ?_
      simp only [upd]
      refine anyHF_take (i := 20) (d := 132) (v := .bool true) (by kernel_rfl) rfl (by kernel_rfl) (by kernel_rfl) (by kernel_rfl) rfl (fun _ _ _ h => h) ⟨Or.inl ⟨by rfl, fun w hS => by obtain ⟨h0, h1, h2⟩ := hS; go_simp⟩, fun _ => rfl⟩ hS ?_
      simp only [upd]
      refine anyHF_done (by kernel_rfl) ?_ _
      refine NoPanic.normal ?_
      clear hS
      go_wp2_with (go_at_call 26; refine (Go.Proofs.YtggdlklkjnbbjaaGreatDoor.R.works_any _ (HLW.out _ (below_in hWr hB9))).mono ?_; rintro e wz ⟨rfl, hBz⟩)
      exact ⟨_, by simp [results, Tryz.results8, go_sem], rfl, below_in (below_in hWr hB9) hBz⟩

open Go.Proofs.YtggdlklkjnbbjaaGreatDoor.E Go.Proofs.YtggdlklkjnbbjaaGreatDoor.C Go.Proofs.YtggdlklkjnbbjaaGreatDoor.R in
set_option maxRecDepth 100000 in
set_option maxHeartbeats 4000000 in
theorem c2 (p : Int) (v : Value) (a : List (List (List UInt8))) (x y : Int) (v2 : Value) (bs : List UInt8) (w : World) (hL : Laid w) (wp : -9223372036854775808 ≤ p ∧ p ≤ 9223372036854775807) (hC : Cols w.heap.size w v a) (wx : -9223372036854775808 ≤ x ∧ x ≤ 9223372036854775807) (wy : -9223372036854775808 ≤ y ∧ y ≤ 9223372036854775807) (hD : Bytes w.heap.size w v2 bs) (hf0 : Few6 a) (hr0 : DataR p a) (hc : HasCell 2 p x y) (hb : ¬ bs.length = (firstC a).length) :
    Calls Tryz.prog 8 #[.int .i64 p, v, .agg #[.int .i64 x, .int .i64 y], v2] w fun e w' => e = .returned (.bool true) ∧ Below w.heap.size w w' := by
  obtain ⟨A, cap, rfl, -, -⟩ := id hC
  obtain ⟨A', cap', rfl, -, -⟩ := id hD
  obtain ⟨W1, hW1⟩ : ∃ W1, w.alloc (.cells #[.int .i64 x, .int .i64 y] 56) = W1 := ⟨_, rfl⟩
  have b6 : Blk W1 w.heap.size 56 #[.int .i64 x, .int .i64 y] := by rw [← hW1]; exact Blk.new _ _ _
  have hB1 : Below w.heap.size w W1 := by rw [← hW1]; exact below_one w _
  have HLW := Lib.hid (fun (U : World) (hU : Below w.heap.size w U) => hL.next hU)
  have HF0 := Lib.hid (fun (U : World) (hU : Below w.heap.size w U) => few6_any _ a U (hC.below hU) true (by simp [hf0]))
  have HR0 := Lib.hid (fun (U : World) (hU : Below w.heap.size w U) => Go.Proofs.YtggdlklkjnbbjaaGreatDoor.R.lright_any p _ a U hU.size (hC.below hU) (by have := hf0.1; omega) true (by simp [hr0]))
  obtain ⟨n1, n2, n3, n4, n5, n6⟩ := dataR_n hr0
  have hal24 := hf0.1
  have hp := hr0.1.1
  obtain ⟨hall, hG⟩ := allR_of hr0
  have hwn := wrong_none hr0
  have hff := first_app (a := a) (by omega) (rdpOf p a)
  have HE2 := Lib.hid (fun (U : World) (hU : Below w.heap.size w U) => Go.Proofs.YtggdlklkjnbbjaaGreatDoor.R.encode_yes (B := w.heap.size) p _ a hr0 U (hL.next hU) hU.size (hC.below hU))
  have HNO := Lib.hid (fun U : World => nought6_any (firstC a).length (by omega) U)
  have hsm := diags_left hr0
  have hrl := restOf_len hr0
  have hrd : restOf p a = adjOf p ((a ++ rdpOf p a).take p.toNat) := rfl
  obtain ⟨al, hal⟩ : ∃ al, a ++ rdpOf p a = al := ⟨_, rfl⟩
  have HXL : Hid ((rdpOf p a).length = 2) := rfl
  rw [hal] at hall hG hwn hff hsm hrd
  have HAL := Lib.hid hal
  have HRX := Lib.hid (fun (U : World) (u : Value) (hCU : Cols U.heap.size U u al) => right6_any p u _ U (Nat.le_refl _) hCU (by have := hall.2; omega) true (by simp only [true_iff]; exact hall.1))
  have HLA := Lib.hid (fun (U : World) (u : Value) (hU : Laid U) (hX : Cols U.heap.size U u al) => Go.Proofs.YtggdlklkjnbbjaaGreatDoor.R.left_yes p u _ hall U hU (Nat.le_refl _) hX)
  rw [← hrd] at HLA
  have HCK := Lib.hid (fun (U : World) (u : Value) (hU : Laid U) (hX : Cols U.heap.size U u al) => Go.Proofs.YtggdlklkjnbbjaaGreatDoor.R.check_yes p u _ hall U hU (Nat.le_refl _) hX)
  rw [hwn] at HCK
  simp only [decide_true] at HCK
  have HWN := Lib.hid hwn
  obtain ⟨b1, off1, cq, e1, _, hb1, hrow⟩ := hC.at_ (by omega)
  injection e1 with e1 _ e1c
  subst e1
  subst e1c
  obtain ⟨u9, hu9, hm9⟩ := hrow 0 (by omega)
  obtain ⟨A9, cap9, rfl, -, -⟩ := id hm9
  have hGa := togOk_grid hr0.1.2
  have hc0 := (hGa 0 (by omega)).1
  obtain ⟨b9, off9, rfl, hb9, hrow9⟩ := many_at hm9 (by omega)
  obtain ⟨B9, cp9, hx9, hby9⟩ := hrow9 0 (by omega)
  rw [Nat.add_zero] at hu9 hx9
  rw [hc0] at hu9
  have hx9 : w.cell? ⟨b9, off9, none⟩ = some (.slice B9 (firstC a).length cp9) := hx9
  have HD1 := Lib.hid (fun (U : World) (hU : Below w.heap.size w U) => (hU.cell (p := ⟨b1, off1, none⟩) hb1).trans hu9)
  have HD9 := Lib.hid (fun (U : World) (hU : Below w.heap.size w U) => (hU.cell (p := ⟨b9, off9, none⟩) hb9).trans hx9)
  have HAC := Lib.hid (fun (U : World) (hU : Below w.heap.size w U) => hC.below hU)
  have HBY := Lib.hid (fun (U : World) (hU : Below w.heap.size w U) => hD.below hU)
  obtain ⟨R, hR⟩ : ∃ R : Nat, (p - 1).toNat = R := ⟨_, rfl⟩
  obtain ⟨l9, hl9⟩ : ∃ l9 : Nat, (firstC a).length = l9 := ⟨_, rfl⟩
  rw [hl9] at hb
  have HBL := Lib.hid hb
  clear hb
  rw [hl9] at hG hsm hrl HNO HD9 n5 n6
  rw [hR] at hG HD1 n4
  have hlen : al.length = R + 2 := by have := hall.2; omega
  obtain ⟨N, hNl⟩ : ∃ N, al.length = N := ⟨_, rfl⟩
  have HNL : Hid (N = R + 2) := hNl.symm.trans hlen
  have HAN := Lib.hid hNl
  obtain ⟨P, rfl⟩ : ∃ P : Nat, p = (P : Int) := ⟨p.toNat, by omega⟩
  have hPR : P = R + 1 := by omega
  have q1 : wrap64 ((P : Int) - 1) = (R : Int) := by rw [IntWalk.wrap64_in _ (by omega)]; omega
  rw [Int.toNat_natCast] at hsm
  obtain ⟨cs, hcs⟩ : ∃ cs, al[P]?.getD [] = cs := ⟨_, rfl⟩
  have hcl : cs.length = R := by rw [← hcs]; exact (hG P (by omega)).1
  have HCL : Hid (∀ k, k < R → (cs[k]?.getD []).length = l9) := fun k hk => by rw [← hcs]; exact (hG P (by omega)).2 k hk
  rw [hcs] at hsm
  have HSM := Lib.hid hsm
  have HRL := Lib.hid hrl
  have HCS := Lib.hid hcs
  have HG := Lib.hid hG
  have HALL := Lib.hid hall
  have HFF : Hid ((firstC al).length = l9) := by unfold Hid; rw [hff]; exact hl9
  have HLEN := Lib.hid hlen
  have HPR := Lib.hid hPR
  have HCSL := Lib.hid hcl
  have HN := Lib.hid (⟨n2, n3, n4, n5, n6⟩ : 3 ≤ (P : Int) ∧ (P : Int) ≤ 17 ∧ (P : Int) - 1 = (R : Int) ∧ 1 ≤ l9 ∧ l9 ≤ 64)
  have HNA : Hid (a.length = R) := by unfold Hid; omega
  have HPM := Lib.hid hp
  have hx0 : (0 : Int) < (a.length : Int) := by omega
  have hx1 : (0 : Int) < (R : Int) := by omega
  have hx2 : ¬ R = 0 := by omega
  have hx3 : (P : Int) ≤ 17 := by omega
  have hR16 : R ≤ 16 := by omega
  have hx4 : 3 ≤ (P : Int) := by omega
  clear hNl hf0 hr0 hall hG hwn hff hsm hrl hrd hal hp hC hD hrow hrow9 hby9 hu9 hx9 hm9 hc0 hGa hR hl9 hlen hPR hcs hcl n1 n2 n3 n4 n5 n6 hal24 wp
  generalize restOf (P : Int) a = rest at *
  generalize rdpOf (P : Int) a = ra at *
  generalize hna : a.length = na at *
  have HNE := Lib.hid hna
  clear hna
  generalize hnb : bs.length = nb at *
  have HNB := Lib.hid hnb
  have HBS : Hid (∀ U, Below w.heap.size w U → Bytes w.heap.size U (.slice A' nb cap') bs) := by
    intro U hU
    have h := HBY.out U hU
    exact h
  clear hnb
  have HHC := Lib.hid hc
  have hbn : ¬ (nb : Int) = (l9 : Int) := by have := HNB.out; have := HBL.out; omega
  clear hc
  refine (callsIn_wide (n := 9)).1 ?_
  refine callsIn_of_wp_marks Tryz.func8 rfl trivial ?_ rfl
  simp only [Tryz.ntmps8, List.size_toArray, List.length_cons, List.length_nil, Nat.reduceAdd, Nat.reduceSub, Array.replicate_succ, Array.replicate_zero, List.push_toArray, List.append_toArray, List.nil_append, List.cons_append]
  refine (wpIn_wide (n := 9)).2 ?_
  go_wp2_with fail
  try rw [hW1]
  go_wp2_with (first
    | (go_at_call 10; refine (HF0.out _ hB1).mono ?_; rintro e w' ⟨rfl, rfl⟩)
    | (go_at_call 28; refine (HR0.out _ hB1).mono ?_; rintro e w2 ⟨rfl, hBn⟩; have hB2 := below_in hB1 hBn; have hQ2 := below_in (Below.refl W1.heap.size W1) hBn; clear hBn)
    | (go_at_call 27; refine (HE2.out _ hB2).mono ?_; rintro e w3 ⟨l, rfl, hl, hBn⟩; have hB3 := below_in hB2 hBn; have hQ3 := below_in hQ2 hBn; obtain ⟨Al, cl, hle, _, _⟩ := id hl; rw [HXL.out] at hle; subst hle; have HXC := Lib.hid (fun (U : World) (hU : Below w3.heap.size w3 U) => hl.below hU); have HAC3 := Lib.hid (fun (U : World) (hU : Below w3.heap.size w3 U) => (HAC.out U (below_in hB3 hU)).more hB3.size); have hT3 := Below.refl w3.heap.size w3; clear hl hBn; have hV1 := below_one w3 (.cells #[] 44); have hBV1 := below_in hT3 hV1; have HRE1 := Lib.hid (RowG.empty manyR 44 [] (fun _ => True) (Blk.new w3 44 #[]) (Nat.le_refl w3.heap.size)); have HAE1 := Lib.hid (app_far hBV1 hT3.size HRE1.out (HAC3.out _ hBV1)); have HSE1 := Lib.hid hV1.size)
    | (go_at_call 29; refine (Go.Proofs.YtggdlklkjnbbjaaGreatDoor.R.num_any _ _).mono ?_; rintro e w' ⟨rfl, rfl⟩)
    | (at_builtin; refine wpList_appCw (T := 22) _ rfl _ _ rfl Tryz.underlying22 [] a rfl HRE1.out rfl HAE1.out (by have := HNE.out; have := HNA.out; omega) (by simp) (by have := HNE.out; have := HNA.out; have := HN.out; omega) HSE1.out ?_; intro va1 wa1 hrow hgrow hoo; clear hoo; have hDa1 := below_grown hV1 hgrow hV1.size (fun g e => RowG.own_le HRE1.out g e); have hBa1 := below_in hT3 hDa1; have HRF1 := Lib.hid hrow; have HSF1 := Lib.hid hDa1.size; have HXF1 := Lib.hid (app_far hBa1 hT3.size HRF1.out (HXC.out _ hBa1)); clear hrow hgrow)
    | (at_builtin; refine wpList_appCw (T := 22) _ rfl _ _ rfl Tryz.underlying22 ([] ++ a) ra rfl HRF1.out rfl HXF1.out (by have := HXL.out; omega) (by have := HNE.out; have := HNA.out; have := HN.out; simp; omega) (by have := HXL.out; omega) HSF1.out ?_; intro vb1 wb1 hrow hgrow hoo; clear hoo; have hDb1 := below_grown hDa1 hgrow hDa1.size (fun g e => RowG.own_le HRF1.out g e); have hBb1 := below_in hT3 hDb1; rw [List.nil_append, HAL.out] at hrow; have hcol1 := RowC.cols hrow; have HROW1 := Lib.hid hrow; clear hrow hgrow)
    | (go_at_call 15; refine (HRX.out _ _ hcol1).mono ?_; rintro e w4 ⟨rfl, hBn⟩; have hT4 := below_in hBb1 hBn; clear hBn; have hV2 := below_one w4 (.cells #[] 44); have hBV2 := below_in hT4 hV2; have HRE2 := Lib.hid (RowG.empty manyR 44 [] (fun _ => True) (Blk.new w4 44 #[]) (Nat.le_refl w4.heap.size)); have HAE2 := Lib.hid (app_far hBV2 hT4.size HRE2.out (HAC3.out _ hBV2)); have HSE2 := Lib.hid hV2.size)
    | (at_builtin; refine wpList_appC (T := 22) _ rfl _ _ rfl Tryz.underlying22 [] a rfl HRE2.out rfl HAE2.out (by have := HNE.out; have := HNA.out; omega) (by simp) (by have := HNE.out; have := HNA.out; have := HN.out; omega) HSE2.out ?_; intro va2 wa2 hrow hgrow hoo; clear hoo; have hDa2 := below_grown hV2 hgrow hV2.size (fun g e => RowG.own_le HRE2.out g e); have hBa2 := below_in hT4 hDa2; have HRF2 := Lib.hid hrow; have HSF2 := Lib.hid hDa2.size; have HXF2 := Lib.hid (app_far hBa2 hT4.size HRF2.out (HXC.out _ hBa2)); clear hrow hgrow)
    | (at_builtin; refine wpList_appC (T := 22) _ rfl _ _ rfl Tryz.underlying22 ([] ++ a) ra rfl HRF2.out rfl HXF2.out (by have := HXL.out; omega) (by have := HNE.out; have := HNA.out; have := HN.out; simp; omega) (by have := HXL.out; omega) HSF2.out ?_; intro vb2 wb2 hrow hgrow hoo; clear hoo; have hDb2 := below_grown hDa2 hgrow hDa2.size (fun g e => RowG.own_le HRF2.out g e); have hBb2 := below_in hT4 hDb2; rw [List.nil_append, HAL.out] at hrow; have hcol2 := RowC.cols hrow; have HROW2 := Lib.hid hrow; clear hrow hgrow)
    | (go_at_call 32; refine (HLA.out _ _ (HLW.out _ (below_in hB3 hBb2)) hcol2).mono ?_; rintro e w6 ⟨s6, rfl, hs6, hBn⟩; have hT6 := below_in hBb2 hBn; have hU6 := hBn; have hcol6 := (hcol2.below hBn).more hBn.size; obtain ⟨As, cs6, hse, _, _⟩ := id hs6; rw [HRL.out] at hse; subst hse; clear hBn)
    | (go_at_call 31; refine (HCK.out _ _ (HLW.out _ (below_in hB3 hT6)) hcol6).mono ?_; rintro e w7 ⟨rfl, hBn⟩; have hT7 := below_in hT6 hBn; have hU7 := below_in hU6 hBn; have hB7 := below_in hB3 hT7; have hd1 := HD1.out _ hB7; have hd9 := HD9.out _ hB7; have hs7 := (hs6.below hBn).more hBn.size)
    | (go_at_call 24; refine (HNO.out _).mono ?_; rintro e w8 ⟨u8, rfl, hu8, hBn⟩; have hU8 := below_in hU7 hBn; have hT8 := below_in hT7 hBn; have hs8 := (hs7.below hBn).more hBn.size; clear hs6 hs7 hcol1 hcol6 hBn hT6 hT7 hU6 hU7))
  obtain ⟨gA, offA, capA, eA, hcA, hgA, hrowA⟩ := hcol2.at_ (by have := HLEN.out; omega)
  rw [HAN.out] at eA
  subst eA
  obtain ⟨up, hup, hmp⟩ := hrowA P (by have := HLEN.out; have := HPR.out; omega)
  rw [HCS.out] at hmp
  obtain ⟨bp, offp, capp, hcpp, rfl, hbp, hrowp⟩ : ∃ b off cap, R ≤ cap ∧ up = .slice (some ⟨b, off, none⟩) R cap ∧ b < wb2.heap.size ∧ ∀ k, k < R → ∃ B c, wb2.cell? ⟨b, off + k, none⟩ = some (.slice B l9 c) ∧ Bytes wb2.heap.size wb2 (.slice B l9 c) (cs[k]?.getD []) := by
    obtain ⟨Ap, cp, rfl, hcp, _⟩ := id hmp
    rw [HCSL.out] at hcp
    obtain ⟨b, off, rfl, hb, hr⟩ := many_at hmp (by rw [HCSL.out]; omega)
    rw [HCSL.out]
    exact ⟨b, off, cp, hcp, rfl, hb, fun k hk => by
      obtain ⟨B, c, h1, h2⟩ := hr k (by rw [HCSL.out]; exact hk)
      rw [HCL.out k hk] at h1 h2
      exact ⟨B, c, h1, h2⟩⟩
  have HROWP := Lib.hid hrowp
  have HUP := Lib.hid hup
  have HTK : Hid (cs.take R = cs) := by unfold Hid; rw [← HCSL.out, List.take_length]
  have HXN : Hid (∀ k, k < R → xors (List.replicate l9 0) (cs.take (k + 1)) = xorB (xors (List.replicate l9 0) (cs.take k)) (cs[k]?.getD [])) := fun k hk => xors_next _ _ k (by rw [HCSL.out]; exact hk)
  have HXL9 : Hid (∀ k, (xors (List.replicate l9 0) (cs.take k)).length = l9) := fun k => by rw [xors_len, List.length_replicate]
  have iP0 : (0 : Int) ≤ (P : Int) := by omega
  have iP1 : (P : Int) < (N : Int) := by have := HNL.out; have := HPR.out; omega
  clear hd1 hd9 hrowp hup hrowA
  go_loopw [16, 17] (fun u i wr => ∃ k : Nat, k ≤ R ∧ i = .int .i64 k ∧ Bytes wr.heap.size wr u (xors (List.replicate l9 0) (cs.take k)) ∧ Below w8.heap.size w8 wr) (fun _ i _ => R - (intOf i).toNat)
  case atStart => exact ⟨0, Nat.zero_le _, rfl, hu8, Below.refl _ _⟩
  case round =>
    obtain ⟨k, hk, rfl, hur, hBr⟩ := hrel
    by_cases hlt : k < R
    · have hdec : decide ((k : Int) < (R : Int)) = true := by simp; omega
      have hdec2 : decide ((k : Int) < (P : Int) - 1) = true := by have := HPR.out; simp; omega
      have i1 : (0 : Int) ≤ (k : Int) := by omega
      have i2 : (k : Int) < (R : Int) := by omega
      obtain ⟨Bk, ck, hxk, hyk⟩ := HROWP.out k hlt
      have hUr := below_in hU8 hBr
      have z0 := (hUr.cell (p := ⟨gA, offA + P, none⟩) hgA).trans HUP.out
      have z1 := (hUr.cell (p := ⟨bp, offp + k, none⟩) hbp).trans hxk
      have HPK := Lib.hid (rput_any u16 (.slice Bk l9 ck) _ _ wr hur ((hyk.below hUr).more hUr.size) (by rw [HXL9.out, HCL.out k hlt]; exact Nat.le_refl _) (by rw [HXL9.out]; have := HN.out.2.2.2.2; omega))
      have HXK := Lib.hid (HXN.out k hlt)
      obtain ⟨Au, cu, hue, _, _⟩ := id hur
      rw [HXL9.out] at hue
      subst hue
      clear hur hxk hyk
      go_wp2_with (go_at_call 25; refine HPK.out.mono ?_; rintro e w9 ⟨u, rfl, hu, hBn⟩)
      go_roundw
      case rel => exact ⟨k + 1, by omega, by go_num, by rw [HXK.out]; exact hu.bytes, below_in hBr hBn⟩
      case measure => simp [intOf]; omega
    · have hkR : R = k := by omega
      subst hkR
      have e1 : decide ((R : Int) < (R : Int)) = false := by simp
      have e2 : decide ((R : Int) < (P : Int) - 1) = false := by have := HPR.out; simp; omega
      rw [HTK.out, HSM.out] at hur
      obtain ⟨Au, cu, hue, _, _⟩ := id hur
      rw [HRL.out] at hue
      subst hue
      have hUr := below_in hU8 hBr
      have hTr := below_in hT8 hBr
      have hWr := below_in hB3 hTr
      have q3 := run_txt wr hur
      have q4 := run_txt wr (hs8.below hBr)
      clear hs8 hU8 hBr
      go_wp2_with (first
        | (go_at_call 29; refine (Go.Proofs.YtggdlklkjnbbjaaGreatDoor.R.num_any _ _).mono ?_; rintro e w' ⟨rfl, rfl⟩))
      clear q3 q4
      have b6r := b6.below (below_in hQ3 hTr) b6.lt
      have HSS : Hid (∀ V : World, Below wr.heap.size wr V → (fun V : World => V.cell? ⟨w.heap.size, 0, none⟩ = some (.int .i64 x) ∧ V.cell? ⟨w.heap.size, 1, none⟩ = some (.int .i64 y) ∧ (convert 25 9 (.slice A' nb cap')).run Tryz.prog V = .ok (.string (text bs)) V) V) := fun V hV => by
        have h6 := b6r.below hV b6r.lt
        have k0 := h6.cell 0
        have k1 := h6.cell 1
        simp only [List.getElem?_toArray, List.getElem?_cons_zero, List.getElem?_cons_succ] at k0 k1
        have ht := run_txt V (HBS.out V (below_in hWr hV))
        skip
        exact ⟨k0, k1, ht⟩
      clear b6r
      have hB9 : Below wr.heap.size wr wr.drew := (Below.refl _ _).drew
      have hS : (fun V : World => V.cell? ⟨w.heap.size, 0, none⟩ = some (.int .i64 x) ∧ V.cell? ⟨w.heap.size, 1, none⟩ = some (.int .i64 y) ∧ (convert 25 9 (.slice A' nb cap')).run Tryz.prog V = .ok (.string (text bs)) V) wr.drew := HSS.out _ hB9
      refine (wpIn_wide (n := 12)).1 (wpIn_mono (region_HF (Q := NoPanic _) (S := (fun V : World => V.cell? ⟨w.heap.size, 0, none⟩ = some (.int .i64 x) ∧ V.cell? ⟨w.heap.size, 1, none⟩ = some (.int .i64 y) ∧ (convert 25 9 (.slice A' nb cap')).run Tryz.prog V = .ok (.string (text bs)) V)) (by kernel_rfl) ?_) NoPanic.imp)
      refine anyHF_take (i := 0) (d := 112) (v := .int .i64 (P : Int)) (by kernel_rfl) rfl (by kernel_rfl) (by kernel_rfl) (by kernel_rfl) rfl (fun _ _ _ h => h) ⟨Or.inl ⟨by rfl, fun w hS => by obtain ⟨h0, h1, h2⟩ := hS; go_simp⟩, fun _ => rfl⟩ hS ?_
      simp only [upd]
      refine anyHF_take (i := 2) (d := 114) (v := .agg #[.int .i64 x, .int .i64 y]) (by kernel_rfl) rfl (by kernel_rfl) (by kernel_rfl) (by kernel_rfl) rfl (fun _ _ _ h => h) ⟨Or.inl ⟨by rfl, fun w hS => by obtain ⟨h0, h1, h2⟩ := hS; go_simp⟩, fun _ => rfl⟩ hS ?_
      simp only [upd]
      refine anyHF_one (i := 1) (by kernel_rfl) rfl (by kernel_rfl) (by rfl) ?_
      gi_wp2_with fail
      refine ⟨trivial, (callsIn_wide.2 (Go.Proofs.YtggdlklkjnbbjaaGreatDoor.R.lcode_any _ _)).mono ?_⟩
      rintro e wc ⟨rfl, hBn⟩
      replace hB9 := below_in hB9 hBn
      clear hS hBn
      have hS : (fun V : World => V.cell? ⟨w.heap.size, 0, none⟩ = some (.int .i64 x) ∧ V.cell? ⟨w.heap.size, 1, none⟩ = some (.int .i64 y) ∧ (convert 25 9 (.slice A' nb cap')).run Tryz.prog V = .ok (.string (text bs)) V) wc := HSS.out _ hB9
      gi_wp2
      try (refine ⟨hS, ?_⟩)
      refine anyHF_one (i := 3) (by kernel_rfl) rfl (by kernel_rfl) (by rfl) ?_
      gi_wp2_with fail
      refine ⟨trivial, (callsIn_wide.2 (refThere_any 2 (P : Int) x y ⟨by decide, HPM.out⟩ _)).mono ?_⟩
      rintro e wc2 ⟨ht1, ht2, hBn⟩
      have he := ht1 HHC.out
      subst he
      clear ht1 ht2
      replace hB9 := below_in hB9 hBn
      clear hS hBn
      have hS : (fun V : World => V.cell? ⟨w.heap.size, 0, none⟩ = some (.int .i64 x) ∧ V.cell? ⟨w.heap.size, 1, none⟩ = some (.int .i64 y) ∧ (convert 25 9 (.slice A' nb cap')).run Tryz.prog V = .ok (.string (text bs)) V) wc2 := HSS.out _ hB9
      gi_wp2
      try (refine ⟨hS, ?_⟩)
      refine anyHF_take (i := 4) (d := 116) (v := .bool false) (by kernel_rfl) rfl (by kernel_rfl) (by kernel_rfl) (by kernel_rfl) rfl (fun _ _ _ h => h) ⟨Or.inl ⟨by rfl, fun w hS => by obtain ⟨h0, h1, h2⟩ := hS; go_simp⟩, fun _ => rfl⟩ hS ?_
      simp only [upd]
      refine anyHF_take (i := 5) (d := 117) (v := .bool false) (by kernel_rfl) rfl (by kernel_rfl) (by kernel_rfl) (by kernel_rfl) rfl (fun _ _ _ h => h) ⟨Or.inl ⟨by rfl, fun w hS => by obtain ⟨h0, h1, h2⟩ := hS; go_simp⟩, fun _ => rfl⟩ hS ?_
      simp only [upd]
      refine anyHF_take (i := 6) (d := 118) (v := .slice A' nb cap') (by kernel_rfl) rfl (by kernel_rfl) (by kernel_rfl) (by kernel_rfl) rfl (fun _ _ _ h => h) ⟨Or.inl ⟨by rfl, fun w hS => by obtain ⟨h0, h1, h2⟩ := hS; go_simp⟩, fun _ => rfl⟩ hS ?_
      simp only [upd]
      refine anyHF_take (i := 7) (d := 119) (v := .int .i64 (nb : Int)) (by kernel_rfl) rfl (by kernel_rfl) (by kernel_rfl) (by kernel_rfl) rfl (fun _ _ _ h => h) ⟨Or.inl ⟨by rfl, fun w hS => by obtain ⟨h0, h1, h2⟩ := hS; go_simp⟩, fun _ => rfl⟩ hS ?_
      simp only [upd]
      refine anyHF_take (i := 8) (d := 120) (v := .slice Au l9 cu) (by kernel_rfl) rfl (by kernel_rfl) (by kernel_rfl) (by kernel_rfl) rfl (fun _ _ _ h => h) ⟨Or.inl ⟨by rfl, fun w hS => by obtain ⟨h0, h1, h2⟩ := hS; go_simp⟩, fun _ => rfl⟩ hS ?_
      simp only [upd]
      refine anyHF_take (i := 9) (d := 121) (v := .int .i64 (l9 : Int)) (by kernel_rfl) rfl (by kernel_rfl) (by kernel_rfl) (by kernel_rfl) rfl (fun _ _ _ h => h) ⟨Or.inl ⟨by rfl, fun w hS => by obtain ⟨h0, h1, h2⟩ := hS; go_simp⟩, fun _ => rfl⟩ hS ?_
      simp only [upd]
      refine anyHF_take (i := 10) (d := 122) (v := .bool true) (by kernel_rfl) rfl (by kernel_rfl) (by kernel_rfl) (by kernel_rfl) rfl (fun _ _ _ h => h) ⟨Or.inl ⟨by rfl, fun w hS => by obtain ⟨h0, h1, h2⟩ := hS; go_simp⟩, fun _ => rfl⟩ hS ?_
      simp only [upd]
      refine anyHF_take (i := 11) (d := 123) (v := .bool true) (by kernel_rfl) rfl (by kernel_rfl) (by kernel_rfl) (by kernel_rfl) rfl (fun _ _ _ h => h) ⟨Or.inl ⟨by rfl, fun w hS => by obtain ⟨h0, h1, h2⟩ := hS; go_simp⟩, fun _ => rfl⟩ hS ?_
      simp only [upd]
      refine anyHF_take (i := 12) (d := 124) (v := .bool true) (by kernel_rfl) rfl (by kernel_rfl) (by kernel_rfl) (by kernel_rfl) rfl (fun _ _ _ h => h) ⟨Or.inl ⟨by rfl, fun w hS => by obtain ⟨h0, h1, h2⟩ := hS; go_simp⟩, fun _ => rfl⟩ hS ?_
      simp only [upd]
      refine anyHF_take (i := 13) (d := 125) (v := undef) (by kernel_rfl) rfl (by kernel_rfl) (by kernel_rfl) (by kernel_rfl) rfl (fun _ _ _ h => h) ⟨Or.inr ⟨by rfl, rfl⟩, fun _ => rfl⟩ hS ?_
      simp only [upd]
      refine anyHF_take (i := 14) (d := 126) (v := undef) (by kernel_rfl) rfl (by kernel_rfl) (by kernel_rfl) (by kernel_rfl) rfl (fun _ _ _ h => h) ⟨Or.inr ⟨by rfl, rfl⟩, fun _ => rfl⟩ hS ?_
      simp only [upd]
      refine anyHF_take (i := 15) (d := 127) (v := undef) (by kernel_rfl) rfl (by kernel_rfl) (by kernel_rfl) (by kernel_rfl) rfl (fun _ _ _ h => h) ⟨Or.inr ⟨by rfl, rfl⟩, fun _ => rfl⟩ hS ?_
      simp only [upd]
      refine anyHF_take (i := 16) (d := 128) (v := undef) (by kernel_rfl) rfl (by kernel_rfl) (by kernel_rfl) (by kernel_rfl) rfl (fun _ _ _ h => h) ⟨Or.inr ⟨by rfl, rfl⟩, fun _ => rfl⟩ hS ?_
      simp only [upd]
      refine anyHF_skip (i := 17) (d := 129) (by kernel_rfl) rfl (by rfl) rfl wide_fn hS ?_
      simp only [upd]
      refine anyHF_take (i := 18) (d := 130) (v := undef) (by kernel_rfl) rfl (by kernel_rfl) (by kernel_rfl) (by kernel_rfl) rfl (fun _ _ _ h => h) ⟨Or.inr ⟨by rfl, rfl⟩, fun _ => rfl⟩ hS ?_
      simp only [upd]
      refine anyHF_take (i := 19) (d := 131) (v := undef) (by kernel_rfl) rfl (by kernel_rfl) (by kernel_rfl) (by kernel_rfl) rfl (fun _ _ _ h => h) ⟨Or.inr ⟨by rfl, rfl⟩, fun _ => rfl⟩ hS ?_
      simp only [upd]
      refine anyHF_take (i := 20) (d := 132) (v := .bool true) (by kernel_rfl) rfl (by kernel_rfl) (by kernel_rfl) (by kernel_rfl) rfl (fun _ _ _ h => h) ⟨Or.inl ⟨by rfl, fun w hS => by obtain ⟨h0, h1, h2⟩ := hS; go_simp⟩, fun _ => rfl⟩ hS ?_
      simp only [upd]
      refine anyHF_done (by kernel_rfl) ?_ _
      refine NoPanic.normal ?_
      clear hS
      go_wp2_with (go_at_call 26; refine (Go.Proofs.YtggdlklkjnbbjaaGreatDoor.R.works_any _ (HLW.out _ (below_in hWr hB9))).mono ?_; rintro e wz ⟨rfl, hBz⟩)
      exact ⟨_, by simp [results, Tryz.results8, go_sem], rfl, below_in (below_in hWr hB9) hBz⟩

open Go.Proofs.YtggdlklkjnbbjaaGreatDoor.E Go.Proofs.YtggdlklkjnbbjaaGreatDoor.C Go.Proofs.YtggdlklkjnbbjaaGreatDoor.R in
set_option maxRecDepth 100000 in
set_option maxHeartbeats 4000000 in
theorem c3 (p : Int) (v : Value) (a : List (List (List UInt8))) (x y : Int) (v2 : Value) (bs : List UInt8) (w : World) (hL : Laid w) (wp : -9223372036854775808 ≤ p ∧ p ≤ 9223372036854775807) (hC : Cols w.heap.size w v a) (wx : -9223372036854775808 ≤ x ∧ x ≤ 9223372036854775807) (wy : -9223372036854775808 ≤ y ∧ y ≤ 9223372036854775807) (hD : Bytes w.heap.size w v2 bs) (hf0 : Few6 a) (hr0 : DataR p a) (hc : HasCell 2 p x y) (hb : bs.length = (firstC a).length) (hb0 : bs = List.replicate bs.length 0) :
    Calls Tryz.prog 8 #[.int .i64 p, v, .agg #[.int .i64 x, .int .i64 y], v2] w fun e w' => e = .returned (.bool true) ∧ Below w.heap.size w w' := by
  obtain ⟨A, cap, rfl, -, -⟩ := id hC
  obtain ⟨A', cap', rfl, -, -⟩ := id hD
  obtain ⟨W1, hW1⟩ : ∃ W1, w.alloc (.cells #[.int .i64 x, .int .i64 y] 56) = W1 := ⟨_, rfl⟩
  have b6 : Blk W1 w.heap.size 56 #[.int .i64 x, .int .i64 y] := by rw [← hW1]; exact Blk.new _ _ _
  have hB1 : Below w.heap.size w W1 := by rw [← hW1]; exact below_one w _
  have HLW := Lib.hid (fun (U : World) (hU : Below w.heap.size w U) => hL.next hU)
  have HF0 := Lib.hid (fun (U : World) (hU : Below w.heap.size w U) => few6_any _ a U (hC.below hU) true (by simp [hf0]))
  have HR0 := Lib.hid (fun (U : World) (hU : Below w.heap.size w U) => Go.Proofs.YtggdlklkjnbbjaaGreatDoor.R.lright_any p _ a U hU.size (hC.below hU) (by have := hf0.1; omega) true (by simp [hr0]))
  obtain ⟨n1, n2, n3, n4, n5, n6⟩ := dataR_n hr0
  have hal24 := hf0.1
  have hp := hr0.1.1
  obtain ⟨hall, hG⟩ := allR_of hr0
  have hwn := wrong_none hr0
  have hff := first_app (a := a) (by omega) (rdpOf p a)
  have HE2 := Lib.hid (fun (U : World) (hU : Below w.heap.size w U) => Go.Proofs.YtggdlklkjnbbjaaGreatDoor.R.encode_yes (B := w.heap.size) p _ a hr0 U (hL.next hU) hU.size (hC.below hU))
  have HNO := Lib.hid (fun U : World => nought6_any (firstC a).length (by omega) U)
  have hsm := diags_left hr0
  have hrl := restOf_len hr0
  have hrd : restOf p a = adjOf p ((a ++ rdpOf p a).take p.toNat) := rfl
  obtain ⟨al, hal⟩ : ∃ al, a ++ rdpOf p a = al := ⟨_, rfl⟩
  have HXL : Hid ((rdpOf p a).length = 2) := rfl
  rw [hal] at hall hG hwn hff hsm hrd
  have HAL := Lib.hid hal
  have HRX := Lib.hid (fun (U : World) (u : Value) (hCU : Cols U.heap.size U u al) => right6_any p u _ U (Nat.le_refl _) hCU (by have := hall.2; omega) true (by simp only [true_iff]; exact hall.1))
  have HLA := Lib.hid (fun (U : World) (u : Value) (hU : Laid U) (hX : Cols U.heap.size U u al) => Go.Proofs.YtggdlklkjnbbjaaGreatDoor.R.left_yes p u _ hall U hU (Nat.le_refl _) hX)
  rw [← hrd] at HLA
  have HCK := Lib.hid (fun (U : World) (u : Value) (hU : Laid U) (hX : Cols U.heap.size U u al) => Go.Proofs.YtggdlklkjnbbjaaGreatDoor.R.check_yes p u _ hall U hU (Nat.le_refl _) hX)
  rw [hwn] at HCK
  simp only [decide_true] at HCK
  have HWN := Lib.hid hwn
  obtain ⟨b1, off1, cq, e1, _, hb1, hrow⟩ := hC.at_ (by omega)
  injection e1 with e1 _ e1c
  subst e1
  subst e1c
  obtain ⟨u9, hu9, hm9⟩ := hrow 0 (by omega)
  obtain ⟨A9, cap9, rfl, -, -⟩ := id hm9
  have hGa := togOk_grid hr0.1.2
  have hc0 := (hGa 0 (by omega)).1
  obtain ⟨b9, off9, rfl, hb9, hrow9⟩ := many_at hm9 (by omega)
  obtain ⟨B9, cp9, hx9, hby9⟩ := hrow9 0 (by omega)
  rw [Nat.add_zero] at hu9 hx9
  rw [hc0] at hu9
  have hx9 : w.cell? ⟨b9, off9, none⟩ = some (.slice B9 (firstC a).length cp9) := hx9
  have HD1 := Lib.hid (fun (U : World) (hU : Below w.heap.size w U) => (hU.cell (p := ⟨b1, off1, none⟩) hb1).trans hu9)
  have HD9 := Lib.hid (fun (U : World) (hU : Below w.heap.size w U) => (hU.cell (p := ⟨b9, off9, none⟩) hb9).trans hx9)
  have HAC := Lib.hid (fun (U : World) (hU : Below w.heap.size w U) => hC.below hU)
  have HBY := Lib.hid (fun (U : World) (hU : Below w.heap.size w U) => hD.below hU)
  obtain ⟨R, hR⟩ : ∃ R : Nat, (p - 1).toNat = R := ⟨_, rfl⟩
  obtain ⟨l9, hl9⟩ : ∃ l9 : Nat, (firstC a).length = l9 := ⟨_, rfl⟩
  rw [hl9] at hb
  have hnb9 := hb
  clear hb
  rw [hl9] at hG hsm hrl HNO HD9 n5 n6
  rw [hR] at hG HD1 n4
  have hlen : al.length = R + 2 := by have := hall.2; omega
  obtain ⟨N, hNl⟩ : ∃ N, al.length = N := ⟨_, rfl⟩
  have HNL : Hid (N = R + 2) := hNl.symm.trans hlen
  have HAN := Lib.hid hNl
  obtain ⟨P, rfl⟩ : ∃ P : Nat, p = (P : Int) := ⟨p.toNat, by omega⟩
  have hPR : P = R + 1 := by omega
  have q1 : wrap64 ((P : Int) - 1) = (R : Int) := by rw [IntWalk.wrap64_in _ (by omega)]; omega
  rw [Int.toNat_natCast] at hsm
  obtain ⟨cs, hcs⟩ : ∃ cs, al[P]?.getD [] = cs := ⟨_, rfl⟩
  have hcl : cs.length = R := by rw [← hcs]; exact (hG P (by omega)).1
  have HCL : Hid (∀ k, k < R → (cs[k]?.getD []).length = l9) := fun k hk => by rw [← hcs]; exact (hG P (by omega)).2 k hk
  rw [hcs] at hsm
  have HSM := Lib.hid hsm
  have HRL := Lib.hid hrl
  have HCS := Lib.hid hcs
  have HG := Lib.hid hG
  have HALL := Lib.hid hall
  have HFF : Hid ((firstC al).length = l9) := by unfold Hid; rw [hff]; exact hl9
  have HLEN := Lib.hid hlen
  have HPR := Lib.hid hPR
  have HCSL := Lib.hid hcl
  have HN := Lib.hid (⟨n2, n3, n4, n5, n6⟩ : 3 ≤ (P : Int) ∧ (P : Int) ≤ 17 ∧ (P : Int) - 1 = (R : Int) ∧ 1 ≤ l9 ∧ l9 ≤ 64)
  have HNA : Hid (a.length = R) := by unfold Hid; omega
  have HPM := Lib.hid hp
  have hx0 : (0 : Int) < (a.length : Int) := by omega
  have hx1 : (0 : Int) < (R : Int) := by omega
  have hx2 : ¬ R = 0 := by omega
  have hx3 : (P : Int) ≤ 17 := by omega
  have hR16 : R ≤ 16 := by omega
  have hx4 : 3 ≤ (P : Int) := by omega
  clear hNl hf0 hr0 hall hG hwn hff hsm hrl hrd hal hp hC hD hrow hrow9 hby9 hu9 hx9 hm9 hc0 hGa hR hl9 hlen hPR hcs hcl n1 n2 n3 n4 n5 n6 hal24 wp
  generalize restOf (P : Int) a = rest at *
  generalize rdpOf (P : Int) a = ra at *
  generalize hna : a.length = na at *
  have HNE := Lib.hid hna
  clear hna
  rw [hnb9] at HBY ⊢
  have hnb : bs.length = l9 := hnb9
  clear hnb9
  have HNB := Lib.hid hnb
  have HBS : Hid (∀ U, Below w.heap.size w U → Bytes w.heap.size U (.slice A' l9 cap') bs) := by
    intro U hU
    have h := HBY.out U hU
    exact h
  clear hnb
  have HHC := Lib.hid hc
  have HBZ := Lib.hid hb0
  clear hc hb0
  refine (callsIn_wide (n := 9)).1 ?_
  refine callsIn_of_wp_marks Tryz.func8 rfl trivial ?_ rfl
  simp only [Tryz.ntmps8, List.size_toArray, List.length_cons, List.length_nil, Nat.reduceAdd, Nat.reduceSub, Array.replicate_succ, Array.replicate_zero, List.push_toArray, List.append_toArray, List.nil_append, List.cons_append]
  refine (wpIn_wide (n := 9)).2 ?_
  go_wp2_with fail
  try rw [hW1]
  go_wp2_with (first
    | (go_at_call 10; refine (HF0.out _ hB1).mono ?_; rintro e w' ⟨rfl, rfl⟩)
    | (go_at_call 28; refine (HR0.out _ hB1).mono ?_; rintro e w2 ⟨rfl, hBn⟩; have hB2 := below_in hB1 hBn; have hQ2 := below_in (Below.refl W1.heap.size W1) hBn; clear hBn)
    | (go_at_call 27; refine (HE2.out _ hB2).mono ?_; rintro e w3 ⟨l, rfl, hl, hBn⟩; have hB3 := below_in hB2 hBn; have hQ3 := below_in hQ2 hBn; obtain ⟨Al, cl, hle, _, _⟩ := id hl; rw [HXL.out] at hle; subst hle; have HXC := Lib.hid (fun (U : World) (hU : Below w3.heap.size w3 U) => hl.below hU); have HAC3 := Lib.hid (fun (U : World) (hU : Below w3.heap.size w3 U) => (HAC.out U (below_in hB3 hU)).more hB3.size); have hT3 := Below.refl w3.heap.size w3; clear hl hBn; have hV1 := below_one w3 (.cells #[] 44); have hBV1 := below_in hT3 hV1; have HRE1 := Lib.hid (RowG.empty manyR 44 [] (fun _ => True) (Blk.new w3 44 #[]) (Nat.le_refl w3.heap.size)); have HAE1 := Lib.hid (app_far hBV1 hT3.size HRE1.out (HAC3.out _ hBV1)); have HSE1 := Lib.hid hV1.size)
    | (go_at_call 29; refine (Go.Proofs.YtggdlklkjnbbjaaGreatDoor.R.num_any _ _).mono ?_; rintro e w' ⟨rfl, rfl⟩)
    | (at_builtin; refine wpList_appCw (T := 22) _ rfl _ _ rfl Tryz.underlying22 [] a rfl HRE1.out rfl HAE1.out (by have := HNE.out; have := HNA.out; omega) (by simp) (by have := HNE.out; have := HNA.out; have := HN.out; omega) HSE1.out ?_; intro va1 wa1 hrow hgrow hoo; clear hoo; have hDa1 := below_grown hV1 hgrow hV1.size (fun g e => RowG.own_le HRE1.out g e); have hBa1 := below_in hT3 hDa1; have HRF1 := Lib.hid hrow; have HSF1 := Lib.hid hDa1.size; have HXF1 := Lib.hid (app_far hBa1 hT3.size HRF1.out (HXC.out _ hBa1)); clear hrow hgrow)
    | (at_builtin; refine wpList_appCw (T := 22) _ rfl _ _ rfl Tryz.underlying22 ([] ++ a) ra rfl HRF1.out rfl HXF1.out (by have := HXL.out; omega) (by have := HNE.out; have := HNA.out; have := HN.out; simp; omega) (by have := HXL.out; omega) HSF1.out ?_; intro vb1 wb1 hrow hgrow hoo; clear hoo; have hDb1 := below_grown hDa1 hgrow hDa1.size (fun g e => RowG.own_le HRF1.out g e); have hBb1 := below_in hT3 hDb1; rw [List.nil_append, HAL.out] at hrow; have hcol1 := RowC.cols hrow; have HROW1 := Lib.hid hrow; clear hrow hgrow)
    | (go_at_call 15; refine (HRX.out _ _ hcol1).mono ?_; rintro e w4 ⟨rfl, hBn⟩; have hT4 := below_in hBb1 hBn; clear hBn; have hV2 := below_one w4 (.cells #[] 44); have hBV2 := below_in hT4 hV2; have HRE2 := Lib.hid (RowG.empty manyR 44 [] (fun _ => True) (Blk.new w4 44 #[]) (Nat.le_refl w4.heap.size)); have HAE2 := Lib.hid (app_far hBV2 hT4.size HRE2.out (HAC3.out _ hBV2)); have HSE2 := Lib.hid hV2.size)
    | (at_builtin; refine wpList_appC (T := 22) _ rfl _ _ rfl Tryz.underlying22 [] a rfl HRE2.out rfl HAE2.out (by have := HNE.out; have := HNA.out; omega) (by simp) (by have := HNE.out; have := HNA.out; have := HN.out; omega) HSE2.out ?_; intro va2 wa2 hrow hgrow hoo; clear hoo; have hDa2 := below_grown hV2 hgrow hV2.size (fun g e => RowG.own_le HRE2.out g e); have hBa2 := below_in hT4 hDa2; have HRF2 := Lib.hid hrow; have HSF2 := Lib.hid hDa2.size; have HXF2 := Lib.hid (app_far hBa2 hT4.size HRF2.out (HXC.out _ hBa2)); clear hrow hgrow)
    | (at_builtin; refine wpList_appC (T := 22) _ rfl _ _ rfl Tryz.underlying22 ([] ++ a) ra rfl HRF2.out rfl HXF2.out (by have := HXL.out; omega) (by have := HNE.out; have := HNA.out; have := HN.out; simp; omega) (by have := HXL.out; omega) HSF2.out ?_; intro vb2 wb2 hrow hgrow hoo; clear hoo; have hDb2 := below_grown hDa2 hgrow hDa2.size (fun g e => RowG.own_le HRF2.out g e); have hBb2 := below_in hT4 hDb2; rw [List.nil_append, HAL.out] at hrow; have hcol2 := RowC.cols hrow; have HROW2 := Lib.hid hrow; clear hrow hgrow)
    | (go_at_call 32; refine (HLA.out _ _ (HLW.out _ (below_in hB3 hBb2)) hcol2).mono ?_; rintro e w6 ⟨s6, rfl, hs6, hBn⟩; have hT6 := below_in hBb2 hBn; have hU6 := hBn; have hcol6 := (hcol2.below hBn).more hBn.size; obtain ⟨As, cs6, hse, _, _⟩ := id hs6; rw [HRL.out] at hse; subst hse; clear hBn)
    | (go_at_call 31; refine (HCK.out _ _ (HLW.out _ (below_in hB3 hT6)) hcol6).mono ?_; rintro e w7 ⟨rfl, hBn⟩; have hT7 := below_in hT6 hBn; have hU7 := below_in hU6 hBn; have hB7 := below_in hB3 hT7; have hd1 := HD1.out _ hB7; have hd9 := HD9.out _ hB7; have hs7 := (hs6.below hBn).more hBn.size)
    | (go_at_call 24; refine (HNO.out _).mono ?_; rintro e w8 ⟨u8, rfl, hu8, hBn⟩; have hU8 := below_in hU7 hBn; have hT8 := below_in hT7 hBn; have hs8 := (hs7.below hBn).more hBn.size; clear hs6 hs7 hcol1 hcol6 hBn hT6 hT7 hU6 hU7))
  obtain ⟨gA, offA, capA, eA, hcA, hgA, hrowA⟩ := hcol2.at_ (by have := HLEN.out; omega)
  rw [HAN.out] at eA
  subst eA
  obtain ⟨up, hup, hmp⟩ := hrowA P (by have := HLEN.out; have := HPR.out; omega)
  rw [HCS.out] at hmp
  obtain ⟨bp, offp, capp, hcpp, rfl, hbp, hrowp⟩ : ∃ b off cap, R ≤ cap ∧ up = .slice (some ⟨b, off, none⟩) R cap ∧ b < wb2.heap.size ∧ ∀ k, k < R → ∃ B c, wb2.cell? ⟨b, off + k, none⟩ = some (.slice B l9 c) ∧ Bytes wb2.heap.size wb2 (.slice B l9 c) (cs[k]?.getD []) := by
    obtain ⟨Ap, cp, rfl, hcp, _⟩ := id hmp
    rw [HCSL.out] at hcp
    obtain ⟨b, off, rfl, hb, hr⟩ := many_at hmp (by rw [HCSL.out]; omega)
    rw [HCSL.out]
    exact ⟨b, off, cp, hcp, rfl, hb, fun k hk => by
      obtain ⟨B, c, h1, h2⟩ := hr k (by rw [HCSL.out]; exact hk)
      rw [HCL.out k hk] at h1 h2
      exact ⟨B, c, h1, h2⟩⟩
  have HROWP := Lib.hid hrowp
  have HUP := Lib.hid hup
  have HTK : Hid (cs.take R = cs) := by unfold Hid; rw [← HCSL.out, List.take_length]
  have HXN : Hid (∀ k, k < R → xors (List.replicate l9 0) (cs.take (k + 1)) = xorB (xors (List.replicate l9 0) (cs.take k)) (cs[k]?.getD [])) := fun k hk => xors_next _ _ k (by rw [HCSL.out]; exact hk)
  have HXL9 : Hid (∀ k, (xors (List.replicate l9 0) (cs.take k)).length = l9) := fun k => by rw [xors_len, List.length_replicate]
  have iP0 : (0 : Int) ≤ (P : Int) := by omega
  have iP1 : (P : Int) < (N : Int) := by have := HNL.out; have := HPR.out; omega
  clear hd1 hd9 hrowp hup hrowA
  go_loopw [16, 17] (fun u i wr => ∃ k : Nat, k ≤ R ∧ i = .int .i64 k ∧ Bytes wr.heap.size wr u (xors (List.replicate l9 0) (cs.take k)) ∧ Below w8.heap.size w8 wr) (fun _ i _ => R - (intOf i).toNat)
  case atStart => exact ⟨0, Nat.zero_le _, rfl, hu8, Below.refl _ _⟩
  case round =>
    obtain ⟨k, hk, rfl, hur, hBr⟩ := hrel
    by_cases hlt : k < R
    · have hdec : decide ((k : Int) < (R : Int)) = true := by simp; omega
      have hdec2 : decide ((k : Int) < (P : Int) - 1) = true := by have := HPR.out; simp; omega
      have i1 : (0 : Int) ≤ (k : Int) := by omega
      have i2 : (k : Int) < (R : Int) := by omega
      obtain ⟨Bk, ck, hxk, hyk⟩ := HROWP.out k hlt
      have hUr := below_in hU8 hBr
      have z0 := (hUr.cell (p := ⟨gA, offA + P, none⟩) hgA).trans HUP.out
      have z1 := (hUr.cell (p := ⟨bp, offp + k, none⟩) hbp).trans hxk
      have HPK := Lib.hid (rput_any u16 (.slice Bk l9 ck) _ _ wr hur ((hyk.below hUr).more hUr.size) (by rw [HXL9.out, HCL.out k hlt]; exact Nat.le_refl _) (by rw [HXL9.out]; have := HN.out.2.2.2.2; omega))
      have HXK := Lib.hid (HXN.out k hlt)
      obtain ⟨Au, cu, hue, _, _⟩ := id hur
      rw [HXL9.out] at hue
      subst hue
      clear hur hxk hyk
      go_wp2_with (go_at_call 25; refine HPK.out.mono ?_; rintro e w9 ⟨u, rfl, hu, hBn⟩)
      go_roundw
      case rel => exact ⟨k + 1, by omega, by go_num, by rw [HXK.out]; exact hu.bytes, below_in hBr hBn⟩
      case measure => simp [intOf]; omega
    · have hkR : R = k := by omega
      subst hkR
      have e1 : decide ((R : Int) < (R : Int)) = false := by simp
      have e2 : decide ((R : Int) < (P : Int) - 1) = false := by have := HPR.out; simp; omega
      rw [HTK.out, HSM.out] at hur
      obtain ⟨Au, cu, hue, _, _⟩ := id hur
      rw [HRL.out] at hue
      subst hue
      have hUr := below_in hU8 hBr
      have hTr := below_in hT8 hBr
      have hWr := below_in hB3 hTr
      have q3 := run_txt wr hur
      have q4 := run_txt wr (hs8.below hBr)
      clear hs8 hU8 hBr
      go_wp2_with (first
        | (go_at_call 29; refine (Go.Proofs.YtggdlklkjnbbjaaGreatDoor.R.num_any _ _).mono ?_; rintro e w' ⟨rfl, rfl⟩))
      clear q3 q4
      have b6r := b6.below (below_in hQ3 hTr) b6.lt
      have HSS : Hid (∀ V : World, Below wr.heap.size wr V → (fun V : World => V.cell? ⟨w.heap.size, 0, none⟩ = some (.int .i64 x) ∧ V.cell? ⟨w.heap.size, 1, none⟩ = some (.int .i64 y) ∧ (convert 25 9 (.slice A' l9 cap')).run Tryz.prog V = .ok (.string (text (List.replicate l9 0))) V) V) := fun V hV => by
        have h6 := b6r.below hV b6r.lt
        have k0 := h6.cell 0
        have k1 := h6.cell 1
        simp only [List.getElem?_toArray, List.getElem?_cons_zero, List.getElem?_cons_succ] at k0 k1
        have ht := run_txt V (HBS.out V (below_in hWr hV))
        rw [HBZ.out, HNB.out] at ht
        exact ⟨k0, k1, ht⟩
      clear b6r
      have hB9 : Below wr.heap.size wr wr.drew := (Below.refl _ _).drew
      have hS : (fun V : World => V.cell? ⟨w.heap.size, 0, none⟩ = some (.int .i64 x) ∧ V.cell? ⟨w.heap.size, 1, none⟩ = some (.int .i64 y) ∧ (convert 25 9 (.slice A' l9 cap')).run Tryz.prog V = .ok (.string (text (List.replicate l9 0))) V) wr.drew := HSS.out _ hB9
      refine (wpIn_wide (n := 12)).1 (wpIn_mono (region_HF (Q := NoPanic _) (S := (fun V : World => V.cell? ⟨w.heap.size, 0, none⟩ = some (.int .i64 x) ∧ V.cell? ⟨w.heap.size, 1, none⟩ = some (.int .i64 y) ∧ (convert 25 9 (.slice A' l9 cap')).run Tryz.prog V = .ok (.string (text (List.replicate l9 0))) V)) (by kernel_rfl) ?_) NoPanic.imp)
      refine anyHF_take (i := 0) (d := 112) (v := .int .i64 (P : Int)) (by kernel_rfl) rfl (by kernel_rfl) (by kernel_rfl) (by kernel_rfl) rfl (fun _ _ _ h => h) ⟨Or.inl ⟨by rfl, fun w hS => by obtain ⟨h0, h1, h2⟩ := hS; go_simp⟩, fun _ => rfl⟩ hS ?_
      simp only [upd]
      refine anyHF_take (i := 2) (d := 114) (v := .agg #[.int .i64 x, .int .i64 y]) (by kernel_rfl) rfl (by kernel_rfl) (by kernel_rfl) (by kernel_rfl) rfl (fun _ _ _ h => h) ⟨Or.inl ⟨by rfl, fun w hS => by obtain ⟨h0, h1, h2⟩ := hS; go_simp⟩, fun _ => rfl⟩ hS ?_
      simp only [upd]
      refine anyHF_one (i := 1) (by kernel_rfl) rfl (by kernel_rfl) (by rfl) ?_
      gi_wp2_with fail
      refine ⟨trivial, (callsIn_wide.2 (Go.Proofs.YtggdlklkjnbbjaaGreatDoor.R.lcode_any _ _)).mono ?_⟩
      rintro e wc ⟨rfl, hBn⟩
      replace hB9 := below_in hB9 hBn
      clear hS hBn
      have hS : (fun V : World => V.cell? ⟨w.heap.size, 0, none⟩ = some (.int .i64 x) ∧ V.cell? ⟨w.heap.size, 1, none⟩ = some (.int .i64 y) ∧ (convert 25 9 (.slice A' l9 cap')).run Tryz.prog V = .ok (.string (text (List.replicate l9 0))) V) wc := HSS.out _ hB9
      gi_wp2
      try (refine ⟨hS, ?_⟩)
      refine anyHF_one (i := 3) (by kernel_rfl) rfl (by kernel_rfl) (by rfl) ?_
      gi_wp2_with fail
      refine ⟨trivial, (callsIn_wide.2 (refThere_any 2 (P : Int) x y ⟨by decide, HPM.out⟩ _)).mono ?_⟩
      rintro e wc2 ⟨ht1, ht2, hBn⟩
      have he := ht1 HHC.out
      subst he
      clear ht1 ht2
      replace hB9 := below_in hB9 hBn
      clear hS hBn
      have hS : (fun V : World => V.cell? ⟨w.heap.size, 0, none⟩ = some (.int .i64 x) ∧ V.cell? ⟨w.heap.size, 1, none⟩ = some (.int .i64 y) ∧ (convert 25 9 (.slice A' l9 cap')).run Tryz.prog V = .ok (.string (text (List.replicate l9 0))) V) wc2 := HSS.out _ hB9
      gi_wp2
      try (refine ⟨hS, ?_⟩)
      refine anyHF_take (i := 4) (d := 116) (v := .bool false) (by kernel_rfl) rfl (by kernel_rfl) (by kernel_rfl) (by kernel_rfl) rfl (fun _ _ _ h => h) ⟨Or.inl ⟨by rfl, fun w hS => by obtain ⟨h0, h1, h2⟩ := hS; go_simp⟩, fun _ => rfl⟩ hS ?_
      simp only [upd]
      refine anyHF_take (i := 5) (d := 117) (v := .bool false) (by kernel_rfl) rfl (by kernel_rfl) (by kernel_rfl) (by kernel_rfl) rfl (fun _ _ _ h => h) ⟨Or.inl ⟨by rfl, fun w hS => by obtain ⟨h0, h1, h2⟩ := hS; go_simp⟩, fun _ => rfl⟩ hS ?_
      simp only [upd]
      refine anyHF_take (i := 6) (d := 118) (v := .slice A' l9 cap') (by kernel_rfl) rfl (by kernel_rfl) (by kernel_rfl) (by kernel_rfl) rfl (fun _ _ _ h => h) ⟨Or.inl ⟨by rfl, fun w hS => by obtain ⟨h0, h1, h2⟩ := hS; go_simp⟩, fun _ => rfl⟩ hS ?_
      simp only [upd]
      refine anyHF_take (i := 7) (d := 119) (v := .int .i64 (l9 : Int)) (by kernel_rfl) rfl (by kernel_rfl) (by kernel_rfl) (by kernel_rfl) rfl (fun _ _ _ h => h) ⟨Or.inl ⟨by rfl, fun w hS => by obtain ⟨h0, h1, h2⟩ := hS; go_simp⟩, fun _ => rfl⟩ hS ?_
      simp only [upd]
      refine anyHF_take (i := 8) (d := 120) (v := .slice Au l9 cu) (by kernel_rfl) rfl (by kernel_rfl) (by kernel_rfl) (by kernel_rfl) rfl (fun _ _ _ h => h) ⟨Or.inl ⟨by rfl, fun w hS => by obtain ⟨h0, h1, h2⟩ := hS; go_simp⟩, fun _ => rfl⟩ hS ?_
      simp only [upd]
      refine anyHF_take (i := 9) (d := 121) (v := .int .i64 (l9 : Int)) (by kernel_rfl) rfl (by kernel_rfl) (by kernel_rfl) (by kernel_rfl) rfl (fun _ _ _ h => h) ⟨Or.inl ⟨by rfl, fun w hS => by obtain ⟨h0, h1, h2⟩ := hS; go_simp⟩, fun _ => rfl⟩ hS ?_
      simp only [upd]
      refine anyHF_take (i := 10) (d := 122) (v := .bool false) (by kernel_rfl) rfl (by kernel_rfl) (by kernel_rfl) (by kernel_rfl) rfl (fun _ _ _ h => h) ⟨Or.inl ⟨by rfl, fun w hS => by obtain ⟨h0, h1, h2⟩ := hS; go_simp⟩, fun _ => rfl⟩ hS ?_
      simp only [upd]
      refine anyHF_take (i := 11) (d := 123) (v := .bool false) (by kernel_rfl) rfl (by kernel_rfl) (by kernel_rfl) (by kernel_rfl) rfl (fun _ _ _ h => h) ⟨Or.inl ⟨by rfl, fun w hS => by obtain ⟨h0, h1, h2⟩ := hS; go_simp⟩, fun _ => rfl⟩ hS ?_
      simp only [upd]
      refine anyHF_take (i := 12) (d := 124) (v := .bool false) (by kernel_rfl) rfl (by kernel_rfl) (by kernel_rfl) (by kernel_rfl) rfl (fun _ _ _ h => h) ⟨Or.inl ⟨by rfl, fun w hS => by obtain ⟨h0, h1, h2⟩ := hS; go_simp⟩, fun _ => rfl⟩ hS ?_
      simp only [upd]
      refine anyHF_take (i := 13) (d := 125) (v := .slice A' l9 cap') (by kernel_rfl) rfl (by kernel_rfl) (by kernel_rfl) (by kernel_rfl) rfl (fun _ _ _ h => h) ⟨Or.inl ⟨by rfl, fun w hS => by obtain ⟨h0, h1, h2⟩ := hS; go_simp⟩, fun _ => rfl⟩ hS ?_
      simp only [upd]
      refine anyHF_take (i := 14) (d := 126) (v := .string (text (List.replicate l9 0))) (by kernel_rfl) rfl (by kernel_rfl) (by kernel_rfl) (by kernel_rfl) rfl (fun _ _ _ h => h) ⟨Or.inl ⟨by rfl, fun w hS => by obtain ⟨h0, h1, h2⟩ := hS; go_simp⟩, fun _ => rfl⟩ hS ?_
      simp only [upd]
      refine anyHF_take (i := 15) (d := 127) (v := .slice Au l9 cu) (by kernel_rfl) rfl (by kernel_rfl) (by kernel_rfl) (by kernel_rfl) rfl (fun _ _ _ h => h) ⟨Or.inl ⟨by rfl, fun w hS => by obtain ⟨h0, h1, h2⟩ := hS; go_simp⟩, fun _ => rfl⟩ hS ?_
      simp only [upd]
      refine anyHF_take (i := 16) (d := 128) (v := .int .i64 (l9 : Int)) (by kernel_rfl) rfl (by kernel_rfl) (by kernel_rfl) (by kernel_rfl) rfl (fun _ _ _ h => h) ⟨Or.inl ⟨by rfl, fun w hS => by obtain ⟨h0, h1, h2⟩ := hS; go_simp⟩, fun _ => rfl⟩ hS ?_
      simp only [upd]
      refine anyHF_one (i := 17) (by kernel_rfl) rfl (by kernel_rfl) (by rfl) ?_
      gi_wp2_with fail
      refine ⟨trivial, (callsIn_wide.2 (HNO.out _)).mono ?_⟩
      rintro e wn ⟨uz, rfl, huz, hBn⟩
      replace hB9 := below_in hB9 hBn
      have t2 := run_txt wn huz
      clear hS hBn
      have hS : (fun V : World => V.cell? ⟨w.heap.size, 0, none⟩ = some (.int .i64 x) ∧ V.cell? ⟨w.heap.size, 1, none⟩ = some (.int .i64 y) ∧ (convert 25 9 (.slice A' l9 cap')).run Tryz.prog V = .ok (.string (text (List.replicate l9 0))) V) wn := HSS.out _ hB9
      gi_wp2
      try (refine ⟨hS, ?_⟩)
      refine anyHF_one (i := 18) (by kernel_rfl) rfl (by kernel_rfl) (by rfl) ?_
      gi_wp2
      try (refine ⟨hS, ?_⟩)
      refine anyHF_take (i := 19) (d := 131) (v := .bool true) (by kernel_rfl) rfl (by kernel_rfl) (by kernel_rfl) (by kernel_rfl) rfl (fun _ _ _ h => h) ⟨Or.inl ⟨by rfl, fun w hS => by obtain ⟨h0, h1, h2⟩ := hS; go_simp⟩, fun _ => rfl⟩ hS ?_
      simp only [upd]
      refine anyHF_take (i := 20) (d := 132) (v := .bool true) (by kernel_rfl) rfl (by kernel_rfl) (by kernel_rfl) (by kernel_rfl) rfl (fun _ _ _ h => h) ⟨Or.inl ⟨by rfl, fun w hS => by obtain ⟨h0, h1, h2⟩ := hS; go_simp⟩, fun _ => rfl⟩ hS ?_
      simp only [upd]
      refine anyHF_done (by kernel_rfl) ?_ _
      refine NoPanic.normal ?_
      clear hS
      go_wp2_with (go_at_call 26; refine (Go.Proofs.YtggdlklkjnbbjaaGreatDoor.R.works_any _ (HLW.out _ (below_in hWr hB9))).mono ?_; rintro e wz ⟨rfl, hBz⟩)
      exact ⟨_, by simp [results, Tryz.results8, go_sem], rfl, below_in (below_in hWr hB9) hBz⟩

open Go.Proofs.YtggdlklkjnbbjaaGreatDoor.E Go.Proofs.YtggdlklkjnbbjaaGreatDoor.C Go.Proofs.YtggdlklkjnbbjaaGreatDoor.R in
set_option maxRecDepth 100000 in
set_option maxHeartbeats 4000000 in
theorem c4 (p : Int) (v : Value) (a : List (List (List UInt8))) (x y : Int) (v2 : Value) (bs : List UInt8) (w : World) (hL : Laid w) (wp : -9223372036854775808 ≤ p ∧ p ≤ 9223372036854775807) (hC : Cols w.heap.size w v a) (wx : -9223372036854775808 ≤ x ∧ x ≤ 9223372036854775807) (wy : -9223372036854775808 ≤ y ∧ y ≤ 9223372036854775807) (hD : Bytes w.heap.size w v2 bs) (hf0 : Few6 a) (hr0 : DataR p a) (hc : HasCell 2 p x y) (hb : bs.length = (firstC a).length) (hb0 : bs ≠ List.replicate bs.length 0) :
    Calls Tryz.prog 8 #[.int .i64 p, v, .agg #[.int .i64 x, .int .i64 y], v2] w fun e w' => e = .returned (.bool true) ∧ Below w.heap.size w w' := by
  obtain ⟨⟨hcx0, hcx1⟩, hcy0, hcy1⟩ := id hc
  obtain ⟨X, rfl⟩ : ∃ X : Nat, x = (X : Int) := ⟨x.toNat, by omega⟩
  obtain ⟨Y, rfl⟩ : ∃ Y : Nat, y = (Y : Int) := ⟨y.toNat, by omega⟩
  have hcx2 : (X : Int) < p + 1 := by have h : (X : Int) < p - shortN 2 + madeN 2 := hcx1; have e : p - shortN 2 + madeN 2 = p + 1 := by unfold shortN madeN; simp; omega
                                      omega
  have HHC := Lib.hid hc
  clear hc hcx1
  obtain ⟨A, cap, rfl, -, -⟩ := id hC
  obtain ⟨A', cap', rfl, -, -⟩ := id hD
  obtain ⟨W1, hW1⟩ : ∃ W1, w.alloc (.cells #[.int .i64 (X : Int), .int .i64 (Y : Int)] 56) = W1 := ⟨_, rfl⟩
  have b6 : Blk W1 w.heap.size 56 #[.int .i64 (X : Int), .int .i64 (Y : Int)] := by rw [← hW1]; exact Blk.new _ _ _
  have hB1 : Below w.heap.size w W1 := by rw [← hW1]; exact below_one w _
  have HLW := Lib.hid (fun (U : World) (hU : Below w.heap.size w U) => hL.next hU)
  have HF0 := Lib.hid (fun (U : World) (hU : Below w.heap.size w U) => few6_any _ a U (hC.below hU) true (by simp [hf0]))
  have HR0 := Lib.hid (fun (U : World) (hU : Below w.heap.size w U) => Go.Proofs.YtggdlklkjnbbjaaGreatDoor.R.lright_any p _ a U hU.size (hC.below hU) (by have := hf0.1; omega) true (by simp [hr0]))
  obtain ⟨n1, n2, n3, n4, n5, n6⟩ := dataR_n hr0
  have hal24 := hf0.1
  have hp := hr0.1.1
  obtain ⟨hall, hG⟩ := allR_of hr0
  have hwn := wrong_none hr0
  have hff := first_app (a := a) (by omega) (rdpOf p a)
  have HE2 := Lib.hid (fun (U : World) (hU : Below w.heap.size w U) => Go.Proofs.YtggdlklkjnbbjaaGreatDoor.R.encode_yes (B := w.heap.size) p _ a hr0 U (hL.next hU) hU.size (hC.below hU))
  have HNO := Lib.hid (fun U : World => nought6_any (firstC a).length (by omega) U)
  have hsm := diags_left hr0
  have hrl := restOf_len hr0
  have hrd : restOf p a = adjOf p ((a ++ rdpOf p a).take p.toNat) := rfl
  obtain ⟨al, hal⟩ : ∃ al, a ++ rdpOf p a = al := ⟨_, rfl⟩
  have HXL : Hid ((rdpOf p a).length = 2) := rfl
  rw [hal] at hall hG hwn hff hsm hrd
  have HAL := Lib.hid hal
  have HRX := Lib.hid (fun (U : World) (u : Value) (hCU : Cols U.heap.size U u al) => right6_any p u _ U (Nat.le_refl _) hCU (by have := hall.2; omega) true (by simp only [true_iff]; exact hall.1))
  have HLA := Lib.hid (fun (U : World) (u : Value) (hU : Laid U) (hX : Cols U.heap.size U u al) => Go.Proofs.YtggdlklkjnbbjaaGreatDoor.R.left_yes p u _ hall U hU (Nat.le_refl _) hX)
  rw [← hrd] at HLA
  have HCK := Lib.hid (fun (U : World) (u : Value) (hU : Laid U) (hX : Cols U.heap.size U u al) => Go.Proofs.YtggdlklkjnbbjaaGreatDoor.R.check_yes p u _ hall U hU (Nat.le_refl _) hX)
  rw [hwn] at HCK
  simp only [decide_true] at HCK
  have HWN := Lib.hid hwn
  obtain ⟨b1, off1, cq, e1, _, hb1, hrow⟩ := hC.at_ (by omega)
  injection e1 with e1 _ e1c
  subst e1
  subst e1c
  obtain ⟨u9, hu9, hm9⟩ := hrow 0 (by omega)
  obtain ⟨A9, cap9, rfl, -, -⟩ := id hm9
  have hGa := togOk_grid hr0.1.2
  have hc0 := (hGa 0 (by omega)).1
  obtain ⟨b9, off9, rfl, hb9, hrow9⟩ := many_at hm9 (by omega)
  obtain ⟨B9, cp9, hx9, hby9⟩ := hrow9 0 (by omega)
  rw [Nat.add_zero] at hu9 hx9
  rw [hc0] at hu9
  have hx9 : w.cell? ⟨b9, off9, none⟩ = some (.slice B9 (firstC a).length cp9) := hx9
  have HD1 := Lib.hid (fun (U : World) (hU : Below w.heap.size w U) => (hU.cell (p := ⟨b1, off1, none⟩) hb1).trans hu9)
  have HD9 := Lib.hid (fun (U : World) (hU : Below w.heap.size w U) => (hU.cell (p := ⟨b9, off9, none⟩) hb9).trans hx9)
  have HAC := Lib.hid (fun (U : World) (hU : Below w.heap.size w U) => hC.below hU)
  have HBY := Lib.hid (fun (U : World) (hU : Below w.heap.size w U) => hD.below hU)
  obtain ⟨R, hR⟩ : ∃ R : Nat, (p - 1).toNat = R := ⟨_, rfl⟩
  obtain ⟨l9, hl9⟩ : ∃ l9 : Nat, (firstC a).length = l9 := ⟨_, rfl⟩
  rw [hl9] at hb
  have hnb9 := hb
  clear hb
  rw [hl9] at hG hsm hrl HNO HD9 n5 n6
  rw [hR] at hG HD1 n4
  have hlen : al.length = R + 2 := by have := hall.2; omega
  obtain ⟨N, hNl⟩ : ∃ N, al.length = N := ⟨_, rfl⟩
  have HNL : Hid (N = R + 2) := hNl.symm.trans hlen
  have HAN := Lib.hid hNl
  obtain ⟨P, rfl⟩ : ∃ P : Nat, p = (P : Int) := ⟨p.toNat, by omega⟩
  have hPR : P = R + 1 := by omega
  have q1 : wrap64 ((P : Int) - 1) = (R : Int) := by rw [IntWalk.wrap64_in _ (by omega)]; omega
  rw [Int.toNat_natCast] at hsm
  obtain ⟨cs, hcs⟩ : ∃ cs, al[P]?.getD [] = cs := ⟨_, rfl⟩
  have hcl : cs.length = R := by rw [← hcs]; exact (hG P (by omega)).1
  have HCL : Hid (∀ k, k < R → (cs[k]?.getD []).length = l9) := fun k hk => by rw [← hcs]; exact (hG P (by omega)).2 k hk
  rw [hcs] at hsm
  have HSM := Lib.hid hsm
  have HRL := Lib.hid hrl
  have HCS := Lib.hid hcs
  have HG := Lib.hid hG
  have HALL := Lib.hid hall
  have HFF : Hid ((firstC al).length = l9) := by unfold Hid; rw [hff]; exact hl9
  have HLEN := Lib.hid hlen
  have HPR := Lib.hid hPR
  have HCSL := Lib.hid hcl
  have HN := Lib.hid (⟨n2, n3, n4, n5, n6⟩ : 3 ≤ (P : Int) ∧ (P : Int) ≤ 17 ∧ (P : Int) - 1 = (R : Int) ∧ 1 ≤ l9 ∧ l9 ≤ 64)
  have HNA : Hid (a.length = R) := by unfold Hid; omega
  have HPM := Lib.hid hp
  have hx0 : (0 : Int) < (a.length : Int) := by omega
  have hx1 : (0 : Int) < (R : Int) := by omega
  have hx2 : ¬ R = 0 := by omega
  have hx3 : (P : Int) ≤ 17 := by omega
  have hR16 : R ≤ 16 := by omega
  have hx4 : 3 ≤ (P : Int) := by omega
  clear hNl hf0 hr0 hall hG hwn hff hsm hrl hrd hal hp hC hD hrow hrow9 hby9 hu9 hx9 hm9 hc0 hGa hR hl9 hlen hPR hcs hcl n1 n2 n3 n4 n5 n6 hal24 wp
  generalize restOf (P : Int) a = rest at *
  generalize rdpOf (P : Int) a = ra at *
  generalize hna : a.length = na at *
  have HNE := Lib.hid hna
  clear hna
  rw [hnb9] at HBY ⊢
  have hnb : bs.length = l9 := hnb9
  clear hnb9
  have HNB := Lib.hid hnb
  have HBS : Hid (∀ U, Below w.heap.size w U → Bytes w.heap.size U (.slice A' l9 cap') bs) := by
    intro U hU
    have h := HBY.out U hU
    exact h
  clear hnb
  have iX0 : (0 : Int) ≤ (X : Int) := by omega
  have iX1 : (X : Int) < (N : Int) := by have := HNL.out; have := HPR.out; omega
  have iY0 : (0 : Int) ≤ (Y : Int) := by omega
  have iY1 : (Y : Int) < (R : Int) := by have := HPR.out; omega
  have HX := Lib.hid (hcx2 : (X : Int) < (P : Int) + 1)
  have HY := Lib.hid (hcy1 : (Y : Int) < (P : Int) - 1)
  clear hcx2 hcy1 hcx0 hcy0
  have HB0 := Lib.hid hb0
  have hdif := Lib.hid (texts_differ (a := bs) (b := List.replicate l9 0) (by rw [← HNB.out]; exact hb0))
  clear hb0
  refine (callsIn_wide (n := 9)).1 ?_
  refine callsIn_of_wp_marks Tryz.func8 rfl trivial ?_ rfl
  simp only [Tryz.ntmps8, List.size_toArray, List.length_cons, List.length_nil, Nat.reduceAdd, Nat.reduceSub, Array.replicate_succ, Array.replicate_zero, List.push_toArray, List.append_toArray, List.nil_append, List.cons_append]
  refine (wpIn_wide (n := 9)).2 ?_
  go_wp2_with fail
  try rw [hW1]
  go_wp2_with (first
    | (go_at_call 10; refine (HF0.out _ hB1).mono ?_; rintro e w' ⟨rfl, rfl⟩)
    | (go_at_call 28; refine (HR0.out _ hB1).mono ?_; rintro e w2 ⟨rfl, hBn⟩; have hB2 := below_in hB1 hBn; have hQ2 := below_in (Below.refl W1.heap.size W1) hBn; clear hBn)
    | (go_at_call 27; refine (HE2.out _ hB2).mono ?_; rintro e w3 ⟨l, rfl, hl, hBn⟩; have hB3 := below_in hB2 hBn; have hQ3 := below_in hQ2 hBn; obtain ⟨Al, cl, hle, _, _⟩ := id hl; rw [HXL.out] at hle; subst hle; have HXC := Lib.hid (fun (U : World) (hU : Below w3.heap.size w3 U) => hl.below hU); have HAC3 := Lib.hid (fun (U : World) (hU : Below w3.heap.size w3 U) => (HAC.out U (below_in hB3 hU)).more hB3.size); have hT3 := Below.refl w3.heap.size w3; clear hl hBn; have hV1 := below_one w3 (.cells #[] 44); have hBV1 := below_in hT3 hV1; have HRE1 := Lib.hid (RowG.empty manyR 44 [] (fun _ => True) (Blk.new w3 44 #[]) (Nat.le_refl w3.heap.size)); have HAE1 := Lib.hid (app_far hBV1 hT3.size HRE1.out (HAC3.out _ hBV1)); have HSE1 := Lib.hid hV1.size)
    | (go_at_call 29; refine (Go.Proofs.YtggdlklkjnbbjaaGreatDoor.R.num_any _ _).mono ?_; rintro e w' ⟨rfl, rfl⟩)
    | (at_builtin; refine wpList_appCw (T := 22) _ rfl _ _ rfl Tryz.underlying22 [] a rfl HRE1.out rfl HAE1.out (by have := HNE.out; have := HNA.out; omega) (by simp) (by have := HNE.out; have := HNA.out; have := HN.out; omega) HSE1.out ?_; intro va1 wa1 hrow hgrow hoo; clear hoo; have hDa1 := below_grown hV1 hgrow hV1.size (fun g e => RowG.own_le HRE1.out g e); have hBa1 := below_in hT3 hDa1; have HRF1 := Lib.hid hrow; have HSF1 := Lib.hid hDa1.size; have HXF1 := Lib.hid (app_far hBa1 hT3.size HRF1.out (HXC.out _ hBa1)); clear hrow hgrow)
    | (at_builtin; refine wpList_appCw (T := 22) _ rfl _ _ rfl Tryz.underlying22 ([] ++ a) ra rfl HRF1.out rfl HXF1.out (by have := HXL.out; omega) (by have := HNE.out; have := HNA.out; have := HN.out; simp; omega) (by have := HXL.out; omega) HSF1.out ?_; intro vb1 wb1 hrow hgrow hoo; clear hoo; have hDb1 := below_grown hDa1 hgrow hDa1.size (fun g e => RowG.own_le HRF1.out g e); have hBb1 := below_in hT3 hDb1; rw [List.nil_append, HAL.out] at hrow; have hcol1 := RowC.cols hrow; have HROW1 := Lib.hid hrow; clear hrow hgrow)
    | (go_at_call 15; refine (HRX.out _ _ hcol1).mono ?_; rintro e w4 ⟨rfl, hBn⟩; have hT4 := below_in hBb1 hBn; clear hBn; have hV2 := below_one w4 (.cells #[] 44); have hBV2 := below_in hT4 hV2; have HRE2 := Lib.hid (RowG.empty manyR 44 [] (fun _ => True) (Blk.new w4 44 #[]) (Nat.le_refl w4.heap.size)); have HAE2 := Lib.hid (app_far hBV2 hT4.size HRE2.out (HAC3.out _ hBV2)); have HSE2 := Lib.hid hV2.size)
    | (at_builtin; refine wpList_appC (T := 22) _ rfl _ _ rfl Tryz.underlying22 [] a rfl HRE2.out rfl HAE2.out (by have := HNE.out; have := HNA.out; omega) (by simp) (by have := HNE.out; have := HNA.out; have := HN.out; omega) HSE2.out ?_; intro va2 wa2 hrow hgrow hoo; clear hoo; have hDa2 := below_grown hV2 hgrow hV2.size (fun g e => RowG.own_le HRE2.out g e); have hBa2 := below_in hT4 hDa2; have HRF2 := Lib.hid hrow; have HSF2 := Lib.hid hDa2.size; have HXF2 := Lib.hid (app_far hBa2 hT4.size HRF2.out (HXC.out _ hBa2)); clear hrow hgrow)
    | (at_builtin; refine wpList_appC (T := 22) _ rfl _ _ rfl Tryz.underlying22 ([] ++ a) ra rfl HRF2.out rfl HXF2.out (by have := HXL.out; omega) (by have := HNE.out; have := HNA.out; have := HN.out; simp; omega) (by have := HXL.out; omega) HSF2.out ?_; intro vb2 wb2 hrow hgrow hoo; clear hoo; have hDb2 := below_grown hDa2 hgrow hDa2.size (fun g e => RowG.own_le HRF2.out g e); have hBb2 := below_in hT4 hDb2; rw [List.nil_append, HAL.out] at hrow; have hcol2 := RowC.cols hrow; have HROW2 := Lib.hid hrow; clear hrow hgrow)
    | (go_at_call 32; refine (HLA.out _ _ (HLW.out _ (below_in hB3 hBb2)) hcol2).mono ?_; rintro e w6 ⟨s6, rfl, hs6, hBn⟩; have hT6 := below_in hBb2 hBn; have hU6 := hBn; have hcol6 := (hcol2.below hBn).more hBn.size; obtain ⟨As, cs6, hse, _, _⟩ := id hs6; rw [HRL.out] at hse; subst hse; clear hBn)
    | (go_at_call 31; refine (HCK.out _ _ (HLW.out _ (below_in hB3 hT6)) hcol6).mono ?_; rintro e w7 ⟨rfl, hBn⟩; have hT7 := below_in hT6 hBn; have hU7 := below_in hU6 hBn; have hB7 := below_in hB3 hT7; have hd1 := HD1.out _ hB7; have hd9 := HD9.out _ hB7; have hs7 := (hs6.below hBn).more hBn.size)
    | (go_at_call 24; refine (HNO.out _).mono ?_; rintro e w8 ⟨u8, rfl, hu8, hBn⟩; have hU8 := below_in hU7 hBn; have hT8 := below_in hT7 hBn; have hs8 := (hs7.below hBn).more hBn.size; clear hs6 hs7 hcol1 hcol6 hBn hT6 hT7 hU6 hU7))
  obtain ⟨gA, offA, capA, eA, hcA, hgA, hrowA⟩ := hcol2.at_ (by have := HLEN.out; omega)
  rw [HAN.out] at eA
  subst eA
  obtain ⟨up, hup, hmp⟩ := hrowA P (by have := HLEN.out; have := HPR.out; omega)
  rw [HCS.out] at hmp
  obtain ⟨bp, offp, capp, hcpp, rfl, hbp, hrowp⟩ : ∃ b off cap, R ≤ cap ∧ up = .slice (some ⟨b, off, none⟩) R cap ∧ b < wb2.heap.size ∧ ∀ k, k < R → ∃ B c, wb2.cell? ⟨b, off + k, none⟩ = some (.slice B l9 c) ∧ Bytes wb2.heap.size wb2 (.slice B l9 c) (cs[k]?.getD []) := by
    obtain ⟨Ap, cp, rfl, hcp, _⟩ := id hmp
    rw [HCSL.out] at hcp
    obtain ⟨b, off, rfl, hb, hr⟩ := many_at hmp (by rw [HCSL.out]; omega)
    rw [HCSL.out]
    exact ⟨b, off, cp, hcp, rfl, hb, fun k hk => by
      obtain ⟨B, c, h1, h2⟩ := hr k (by rw [HCSL.out]; exact hk)
      rw [HCL.out k hk] at h1 h2
      exact ⟨B, c, h1, h2⟩⟩
  have HROWP := Lib.hid hrowp
  have HUP := Lib.hid hup
  obtain ⟨ux, hux, hmx⟩ := hrowA X (by have := HLEN.out; have := HNL.out; omega)
  obtain ⟨xs, hxs⟩ : ∃ xs, al[X]?.getD [] = xs := ⟨_, rfl⟩
  have hxl : xs.length = R := by rw [← hxs]; exact (HG.out X (by have := HLEN.out; have := HNL.out; omega)).1
  have hyl : (xs[Y]?.getD []).length = l9 := by rw [← hxs]; exact (HG.out X (by have := HLEN.out; have := HNL.out; omega)).2 Y (by omega)
  rw [hxs] at hmx
  obtain ⟨Ax, cpx, rfl, hcpx, _⟩ := id hmx
  rw [hxl] at hcpx hux hmx
  obtain ⟨bX, offX, rfl, hbX, hrX⟩ := many_at (by rw [hxl]; exact hmx : Many wb2.heap.size wb2 (.slice Ax xs.length cpx) xs) (by rw [hxl]; omega)
  obtain ⟨BY, cY, hBYc, hBYb⟩ := hrX Y (by rw [hxl]; omega)
  rw [hyl] at hBYc hBYb
  obtain ⟨cy, hcy⟩ : ∃ cy, xs[Y]?.getD [] = cy := ⟨_, rfl⟩
  rw [hcy] at hBYb hyl
  have HMX := Lib.hid (fun (U : World) (hU : Below wb2.heap.size wb2 U) => (hmx.below hU))
  have HUX := Lib.hid (fun (U : World) (hU : Below wb2.heap.size wb2 U) => (hU.cell (p := ⟨gA, offA + X, none⟩) hgA).trans hux)
  have HUY := Lib.hid (fun (U : World) (hU : Below wb2.heap.size wb2 U) => (hU.cell (p := ⟨bX, offX + Y, none⟩) hbX).trans hBYc)
  have HYB := Lib.hid (fun (U : World) (hU : Below wb2.heap.size wb2 U) => (hBYb.below hU))
  have HXS := Lib.hid hxs
  have HXSL := Lib.hid hxl
  have HCY := Lib.hid hcy
  have HCYL := Lib.hid hyl
  clear hux hmx hxs hxl hyl hcpx hrX hBYc hBYb hcy
  have HTK : Hid (cs.take R = cs) := by unfold Hid; rw [← HCSL.out, List.take_length]
  have HXN : Hid (∀ k, k < R → xors (List.replicate l9 0) (cs.take (k + 1)) = xorB (xors (List.replicate l9 0) (cs.take k)) (cs[k]?.getD [])) := fun k hk => xors_next _ _ k (by rw [HCSL.out]; exact hk)
  have HXL9 : Hid (∀ k, (xors (List.replicate l9 0) (cs.take k)).length = l9) := fun k => by rw [xors_len, List.length_replicate]
  have iP0 : (0 : Int) ≤ (P : Int) := by omega
  have iP1 : (P : Int) < (N : Int) := by have := HNL.out; have := HPR.out; omega
  clear hd1 hd9 hrowp hup hrowA
  go_loopw [16, 17] (fun u i wr => ∃ k : Nat, k ≤ R ∧ i = .int .i64 k ∧ Bytes wr.heap.size wr u (xors (List.replicate l9 0) (cs.take k)) ∧ Below w8.heap.size w8 wr) (fun _ i _ => R - (intOf i).toNat)
  case atStart => exact ⟨0, Nat.zero_le _, rfl, hu8, Below.refl _ _⟩
  case round =>
    obtain ⟨k, hk, rfl, hur, hBr⟩ := hrel
    by_cases hlt : k < R
    · have hdec : decide ((k : Int) < (R : Int)) = true := by simp; omega
      have hdec2 : decide ((k : Int) < (P : Int) - 1) = true := by have := HPR.out; simp; omega
      have i1 : (0 : Int) ≤ (k : Int) := by omega
      have i2 : (k : Int) < (R : Int) := by omega
      obtain ⟨Bk, ck, hxk, hyk⟩ := HROWP.out k hlt
      have hUr := below_in hU8 hBr
      have z0 := (hUr.cell (p := ⟨gA, offA + P, none⟩) hgA).trans HUP.out
      have z1 := (hUr.cell (p := ⟨bp, offp + k, none⟩) hbp).trans hxk
      have HPK := Lib.hid (rput_any u16 (.slice Bk l9 ck) _ _ wr hur ((hyk.below hUr).more hUr.size) (by rw [HXL9.out, HCL.out k hlt]; exact Nat.le_refl _) (by rw [HXL9.out]; have := HN.out.2.2.2.2; omega))
      have HXK := Lib.hid (HXN.out k hlt)
      obtain ⟨Au, cu, hue, _, _⟩ := id hur
      rw [HXL9.out] at hue
      subst hue
      clear hur hxk hyk
      go_wp2_with (go_at_call 25; refine HPK.out.mono ?_; rintro e w9 ⟨u, rfl, hu, hBn⟩)
      go_roundw
      case rel => exact ⟨k + 1, by omega, by go_num, by rw [HXK.out]; exact hu.bytes, below_in hBr hBn⟩
      case measure => simp [intOf]; omega
    · have hkR : R = k := by omega
      subst hkR
      have e1 : decide ((R : Int) < (R : Int)) = false := by simp
      have e2 : decide ((R : Int) < (P : Int) - 1) = false := by have := HPR.out; simp; omega
      rw [HTK.out, HSM.out] at hur
      obtain ⟨Au, cu, hue, _, _⟩ := id hur
      rw [HRL.out] at hue
      subst hue
      have hUr := below_in hU8 hBr
      have hTr := below_in hT8 hBr
      have hWr := below_in hB3 hTr
      have q3 := run_txt wr hur
      have q4 := run_txt wr (hs8.below hBr)
      clear hs8 hU8 hBr
      go_wp2_with (first
        | (go_at_call 29; refine (Go.Proofs.YtggdlklkjnbbjaaGreatDoor.R.num_any _ _).mono ?_; rintro e w' ⟨rfl, rfl⟩))
      clear q3 q4
      have HALC := Lib.hid (fun (U : World) (hU : Below wr.heap.size wr U) => ((hcol2.below (below_in hUr hU)).more hUr.size : Cols wr.heap.size U _ al))
      have b6r := b6.below (below_in hQ3 hTr) b6.lt
      have HSS : Hid (∀ V : World, Below wr.heap.size wr V → (fun V : World => V.cell? ⟨w.heap.size, 0, none⟩ = some (.int .i64 (X : Int)) ∧ V.cell? ⟨w.heap.size, 1, none⟩ = some (.int .i64 (Y : Int)) ∧ (convert 25 9 (.slice A' l9 cap')).run Tryz.prog V = .ok (.string (text bs)) V) V) := fun V hV => by
        have h6 := b6r.below hV b6r.lt
        have k0 := h6.cell 0
        have k1 := h6.cell 1
        simp only [List.getElem?_toArray, List.getElem?_cons_zero, List.getElem?_cons_succ] at k0 k1
        exact ⟨k0, k1, run_txt V (HBS.out V (below_in hWr hV))⟩
      clear b6r
      have hdf := hdif.out
      have hB9 : Below wr.heap.size wr wr.drew := (Below.refl _ _).drew
      have hS : (fun V : World => V.cell? ⟨w.heap.size, 0, none⟩ = some (.int .i64 (X : Int)) ∧ V.cell? ⟨w.heap.size, 1, none⟩ = some (.int .i64 (Y : Int)) ∧ (convert 25 9 (.slice A' l9 cap')).run Tryz.prog V = .ok (.string (text bs)) V) wr.drew := HSS.out _ hB9
      refine (wpIn_wide (n := 12)).1 (wpIn_mono (region_HF (Q := NoPanic _) (S := (fun V : World => V.cell? ⟨w.heap.size, 0, none⟩ = some (.int .i64 (X : Int)) ∧ V.cell? ⟨w.heap.size, 1, none⟩ = some (.int .i64 (Y : Int)) ∧ (convert 25 9 (.slice A' l9 cap')).run Tryz.prog V = .ok (.string (text bs)) V)) (by kernel_rfl) ?_) NoPanic.imp)
      refine anyHF_take (i := 0) (d := 112) (v := .int .i64 (P : Int)) (by kernel_rfl) rfl (by kernel_rfl) (by kernel_rfl) (by kernel_rfl) rfl (fun _ _ _ h => h) ⟨Or.inl ⟨by rfl, fun w hS => by obtain ⟨h0, h1, h2⟩ := hS; go_simp⟩, fun _ => rfl⟩ hS ?_
      simp only [upd]
      refine anyHF_take (i := 2) (d := 114) (v := .agg #[.int .i64 (X : Int), .int .i64 (Y : Int)]) (by kernel_rfl) rfl (by kernel_rfl) (by kernel_rfl) (by kernel_rfl) rfl (fun _ _ _ h => h) ⟨Or.inl ⟨by rfl, fun w hS => by obtain ⟨h0, h1, h2⟩ := hS; go_simp⟩, fun _ => rfl⟩ hS ?_
      simp only [upd]
      refine anyHF_one (i := 1) (by kernel_rfl) rfl (by kernel_rfl) (by rfl) ?_
      gi_wp2_with fail
      refine ⟨trivial, (callsIn_wide.2 (Go.Proofs.YtggdlklkjnbbjaaGreatDoor.R.lcode_any _ _)).mono ?_⟩
      rintro e wc ⟨rfl, hBn⟩
      replace hB9 := below_in hB9 hBn
      clear hS hBn
      have hS : (fun V : World => V.cell? ⟨w.heap.size, 0, none⟩ = some (.int .i64 (X : Int)) ∧ V.cell? ⟨w.heap.size, 1, none⟩ = some (.int .i64 (Y : Int)) ∧ (convert 25 9 (.slice A' l9 cap')).run Tryz.prog V = .ok (.string (text bs)) V) wc := HSS.out _ hB9
      gi_wp2
      try (refine ⟨hS, ?_⟩)
      refine anyHF_one (i := 3) (by kernel_rfl) rfl (by kernel_rfl) (by rfl) ?_
      gi_wp2_with fail
      refine ⟨trivial, (callsIn_wide.2 (refThere_any 2 (P : Int) (X : Int) (Y : Int) ⟨by decide, HPM.out⟩ _)).mono ?_⟩
      rintro e wc2 ⟨ht1, ht2, hBn⟩
      have he := ht1 HHC.out
      subst he
      clear ht1 ht2
      replace hB9 := below_in hB9 hBn
      clear hS hBn
      have hS : (fun V : World => V.cell? ⟨w.heap.size, 0, none⟩ = some (.int .i64 (X : Int)) ∧ V.cell? ⟨w.heap.size, 1, none⟩ = some (.int .i64 (Y : Int)) ∧ (convert 25 9 (.slice A' l9 cap')).run Tryz.prog V = .ok (.string (text bs)) V) wc2 := HSS.out _ hB9
      gi_wp2
      try (refine ⟨hS, ?_⟩)
      refine anyHF_take (i := 4) (d := 116) (v := .bool false) (by kernel_rfl) rfl (by kernel_rfl) (by kernel_rfl) (by kernel_rfl) rfl (fun _ _ _ h => h) ⟨Or.inl ⟨by rfl, fun w hS => by obtain ⟨h0, h1, h2⟩ := hS; go_simp⟩, fun _ => rfl⟩ hS ?_
      simp only [upd]
      refine anyHF_take (i := 5) (d := 117) (v := .bool false) (by kernel_rfl) rfl (by kernel_rfl) (by kernel_rfl) (by kernel_rfl) rfl (fun _ _ _ h => h) ⟨Or.inl ⟨by rfl, fun w hS => by obtain ⟨h0, h1, h2⟩ := hS; go_simp⟩, fun _ => rfl⟩ hS ?_
      simp only [upd]
      refine anyHF_take (i := 6) (d := 118) (v := .slice A' l9 cap') (by kernel_rfl) rfl (by kernel_rfl) (by kernel_rfl) (by kernel_rfl) rfl (fun _ _ _ h => h) ⟨Or.inl ⟨by rfl, fun w hS => by obtain ⟨h0, h1, h2⟩ := hS; go_simp⟩, fun _ => rfl⟩ hS ?_
      simp only [upd]
      refine anyHF_take (i := 7) (d := 119) (v := .int .i64 (l9 : Int)) (by kernel_rfl) rfl (by kernel_rfl) (by kernel_rfl) (by kernel_rfl) rfl (fun _ _ _ h => h) ⟨Or.inl ⟨by rfl, fun w hS => by obtain ⟨h0, h1, h2⟩ := hS; go_simp⟩, fun _ => rfl⟩ hS ?_
      simp only [upd]
      refine anyHF_take (i := 8) (d := 120) (v := .slice Au l9 cu) (by kernel_rfl) rfl (by kernel_rfl) (by kernel_rfl) (by kernel_rfl) rfl (fun _ _ _ h => h) ⟨Or.inl ⟨by rfl, fun w hS => by obtain ⟨h0, h1, h2⟩ := hS; go_simp⟩, fun _ => rfl⟩ hS ?_
      simp only [upd]
      refine anyHF_take (i := 9) (d := 121) (v := .int .i64 (l9 : Int)) (by kernel_rfl) rfl (by kernel_rfl) (by kernel_rfl) (by kernel_rfl) rfl (fun _ _ _ h => h) ⟨Or.inl ⟨by rfl, fun w hS => by obtain ⟨h0, h1, h2⟩ := hS; go_simp⟩, fun _ => rfl⟩ hS ?_
      simp only [upd]
      refine anyHF_take (i := 10) (d := 122) (v := .bool false) (by kernel_rfl) rfl (by kernel_rfl) (by kernel_rfl) (by kernel_rfl) rfl (fun _ _ _ h => h) ⟨Or.inl ⟨by rfl, fun w hS => by obtain ⟨h0, h1, h2⟩ := hS; go_simp⟩, fun _ => rfl⟩ hS ?_
      simp only [upd]
      refine anyHF_take (i := 11) (d := 123) (v := .bool false) (by kernel_rfl) rfl (by kernel_rfl) (by kernel_rfl) (by kernel_rfl) rfl (fun _ _ _ h => h) ⟨Or.inl ⟨by rfl, fun w hS => by obtain ⟨h0, h1, h2⟩ := hS; go_simp⟩, fun _ => rfl⟩ hS ?_
      simp only [upd]
      refine anyHF_take (i := 12) (d := 124) (v := .bool false) (by kernel_rfl) rfl (by kernel_rfl) (by kernel_rfl) (by kernel_rfl) rfl (fun _ _ _ h => h) ⟨Or.inl ⟨by rfl, fun w hS => by obtain ⟨h0, h1, h2⟩ := hS; go_simp⟩, fun _ => rfl⟩ hS ?_
      simp only [upd]
      refine anyHF_take (i := 13) (d := 125) (v := .slice A' l9 cap') (by kernel_rfl) rfl (by kernel_rfl) (by kernel_rfl) (by kernel_rfl) rfl (fun _ _ _ h => h) ⟨Or.inl ⟨by rfl, fun w hS => by obtain ⟨h0, h1, h2⟩ := hS; go_simp⟩, fun _ => rfl⟩ hS ?_
      simp only [upd]
      refine anyHF_take (i := 14) (d := 126) (v := .string (text bs)) (by kernel_rfl) rfl (by kernel_rfl) (by kernel_rfl) (by kernel_rfl) rfl (fun _ _ _ h => h) ⟨Or.inl ⟨by rfl, fun w hS => by obtain ⟨h0, h1, h2⟩ := hS; go_simp⟩, fun _ => rfl⟩ hS ?_
      simp only [upd]
      refine anyHF_take (i := 15) (d := 127) (v := .slice Au l9 cu) (by kernel_rfl) rfl (by kernel_rfl) (by kernel_rfl) (by kernel_rfl) rfl (fun _ _ _ h => h) ⟨Or.inl ⟨by rfl, fun w hS => by obtain ⟨h0, h1, h2⟩ := hS; go_simp⟩, fun _ => rfl⟩ hS ?_
      simp only [upd]
      refine anyHF_take (i := 16) (d := 128) (v := .int .i64 (l9 : Int)) (by kernel_rfl) rfl (by kernel_rfl) (by kernel_rfl) (by kernel_rfl) rfl (fun _ _ _ h => h) ⟨Or.inl ⟨by rfl, fun w hS => by obtain ⟨h0, h1, h2⟩ := hS; go_simp⟩, fun _ => rfl⟩ hS ?_
      simp only [upd]
      refine anyHF_one (i := 17) (by kernel_rfl) rfl (by kernel_rfl) (by rfl) ?_
      gi_wp2_with fail
      refine ⟨trivial, (callsIn_wide.2 (HNO.out _)).mono ?_⟩
      rintro e wn ⟨uz, rfl, huz, hBn⟩
      replace hB9 := below_in hB9 hBn
      have t2 := run_txt wn huz
      clear hS hBn
      have hS : (fun V : World => V.cell? ⟨w.heap.size, 0, none⟩ = some (.int .i64 (X : Int)) ∧ V.cell? ⟨w.heap.size, 1, none⟩ = some (.int .i64 (Y : Int)) ∧ (convert 25 9 (.slice A' l9 cap')).run Tryz.prog V = .ok (.string (text bs)) V) wn := HSS.out _ hB9
      gi_wp2
      try (refine ⟨hS, ?_⟩)
      refine anyHF_one (i := 18) (by kernel_rfl) rfl (by kernel_rfl) (by rfl) ?_
      gi_wp2
      try (refine ⟨hS, ?_⟩)
      refine anyHF_take (i := 19) (d := 131) (v := .bool false) (by kernel_rfl) rfl (by kernel_rfl) (by kernel_rfl) (by kernel_rfl) rfl (fun _ _ _ h => h) ⟨Or.inl ⟨by rfl, fun w hS => by obtain ⟨h0, h1, h2⟩ := hS; go_simp⟩, fun _ => rfl⟩ hS ?_
      simp only [upd]
      refine anyHF_take (i := 20) (d := 132) (v := .bool false) (by kernel_rfl) rfl (by kernel_rfl) (by kernel_rfl) (by kernel_rfl) rfl (fun _ _ _ h => h) ⟨Or.inl ⟨by rfl, fun w hS => by obtain ⟨h0, h1, h2⟩ := hS; go_simp⟩, fun _ => rfl⟩ hS ?_
      simp only [upd]
      refine anyHF_done (by kernel_rfl) ?_ _
      refine NoPanic.normal ?_
      clear hS hdf
      have HS19 : Hid (∀ V : World, Below wr.heap.size wr V → (fun V : World => V.cell? ⟨w.heap.size, 0, none⟩ = some (.int .i64 (X : Int)) ∧ V.cell? ⟨w.heap.size, 1, none⟩ = some (.int .i64 (Y : Int)) ∧ V.cell? ⟨gA, offA + X, none⟩ = some (.slice (some ⟨bX, offX, none⟩) R cpx)) V) := fun V hV => ⟨(HSS.out V hV).1, (HSS.out V hV).2.1, HUX.out V (below_in hUr hV)⟩
      have hV3 := below_one wn (.cells #[] 44)
      have hBV3 := below_in hB9 hV3
      have HRE3 := Lib.hid (RowG.empty manyR 44 [] (fun _ => True) (Blk.new wn 44 #[]) (Nat.le_refl wn.heap.size))
      have HAE3 := Lib.hid (app_far hBV3 hB9.size HRE3.out (HALC.out _ hBV3))
      have HSE3 := Lib.hid hV3.size
      go_wp2_with (at_builtin; refine wpList_appC (T := 22) _ rfl _ _ rfl Tryz.underlying22 [] al rfl HRE3.out rfl HAE3.out (by have := HLEN.out; omega) (by simp) (by have := HLEN.out; have := HN.out; omega) HSE3.out ?_; intro vb wb hrow hgrow hoo; clear hoo; have hD3 := below_grown hV3 hgrow hV3.size (fun g e => RowG.own_le HRE3.out g e); have hB10 := below_in hB9 hD3; rw [List.nil_append] at hrow; obtain ⟨g18, cap18, cur18, e18, hg18, hb18, hc18, hj18⟩ := RowG.blk hrow (by have := HLEN.out; omega); rw [HAN.out] at e18 hc18 hj18; subst e18; have HJ18 := Lib.hid hj18; clear hrow hgrow hj18)
      have hS : (fun V : World => V.cell? ⟨w.heap.size, 0, none⟩ = some (.int .i64 (X : Int)) ∧ V.cell? ⟨w.heap.size, 1, none⟩ = some (.int .i64 (Y : Int)) ∧ V.cell? ⟨gA, offA + X, none⟩ = some (.slice (some ⟨bX, offX, none⟩) R cpx)) wb.drew := HS19.out _ (hB10.drew)
      refine (wpIn_wide (n := 12)).1 (wpIn_mono (region_HF (Q := NoPanic _) (S := (fun V : World => V.cell? ⟨w.heap.size, 0, none⟩ = some (.int .i64 (X : Int)) ∧ V.cell? ⟨w.heap.size, 1, none⟩ = some (.int .i64 (Y : Int)) ∧ V.cell? ⟨gA, offA + X, none⟩ = some (.slice (some ⟨bX, offX, none⟩) R cpx))) (by kernel_rfl) ?_) NoPanic.imp)
      refine anyHF_take (i := 0) (d := 137) (v := .slice (some ⟨g18, 0, none⟩) N cap18) (by kernel_rfl) rfl (by kernel_rfl) (by kernel_rfl) (by kernel_rfl) rfl (fun _ _ _ h => h) ⟨Or.inl ⟨by rfl, fun w hS => by obtain ⟨h0, h1, h2⟩ := hS; go_simp⟩, fun _ => rfl⟩ hS ?_
      simp only [upd]
      refine anyHF_take (i := 1) (d := 138) (v := .pointer (some ⟨w.heap.size, 0, none⟩)) (by kernel_rfl) rfl (by kernel_rfl) (by kernel_rfl) (by kernel_rfl) rfl (fun _ _ _ h => h) ⟨Or.inl ⟨by rfl, fun w hS => by obtain ⟨h0, h1, h2⟩ := hS; go_simp⟩, fun _ => rfl⟩ hS ?_
      simp only [upd]
      refine anyHF_take (i := 2) (d := 139) (v := .int .i64 (X : Int)) (by kernel_rfl) rfl (by kernel_rfl) (by kernel_rfl) (by kernel_rfl) rfl (fun _ _ _ h => h) ⟨Or.inl ⟨by rfl, fun w hS => by obtain ⟨h0, h1, h2⟩ := hS; go_simp⟩, fun _ => rfl⟩ hS ?_
      simp only [upd]
      refine anyHF_take (i := 4) (d := 141) (v := .slice (some ⟨gA, offA, none⟩) N capA) (by kernel_rfl) rfl (by kernel_rfl) (by kernel_rfl) (by kernel_rfl) rfl (fun _ _ _ h => h) ⟨Or.inl ⟨by rfl, fun w hS => by obtain ⟨h0, h1, h2⟩ := hS; go_simp⟩, fun _ => rfl⟩ hS ?_
      simp only [upd]
      refine anyHF_take (i := 5) (d := 142) (v := .pointer (some ⟨w.heap.size, 0, none⟩)) (by kernel_rfl) rfl (by kernel_rfl) (by kernel_rfl) (by kernel_rfl) rfl (fun _ _ _ h => h) ⟨Or.inl ⟨by rfl, fun w hS => by obtain ⟨h0, h1, h2⟩ := hS; go_simp⟩, fun _ => rfl⟩ hS ?_
      simp only [upd]
      refine anyHF_take (i := 6) (d := 143) (v := .int .i64 (X : Int)) (by kernel_rfl) rfl (by kernel_rfl) (by kernel_rfl) (by kernel_rfl) rfl (fun _ _ _ h => h) ⟨Or.inl ⟨by rfl, fun w hS => by obtain ⟨h0, h1, h2⟩ := hS; go_simp⟩, fun _ => rfl⟩ hS ?_
      simp only [upd]
      refine anyHF_take (i := 7) (d := 144) (v := .pointer (some ⟨gA, offA + X, none⟩)) (by kernel_rfl) rfl (by kernel_rfl) (by kernel_rfl) (by kernel_rfl) rfl (fun _ _ _ h => h) ⟨Or.inl ⟨by rfl, fun w hS => by obtain ⟨h0, h1, h2⟩ := hS; go_simp⟩, fun _ => rfl⟩ hS ?_
      simp only [upd]
      refine anyHF_take (i := 8) (d := 145) (v := .slice (some ⟨bX, offX, none⟩) R cpx) (by kernel_rfl) rfl (by kernel_rfl) (by kernel_rfl) (by kernel_rfl) rfl (fun _ _ _ h => h) ⟨Or.inl ⟨by rfl, fun w hS => by obtain ⟨h0, h1, h2⟩ := hS; go_simp⟩, fun _ => rfl⟩ hS ?_
      simp only [upd]
      refine anyHF_one (i := 3) (by kernel_rfl) rfl (by kernel_rfl) (by rfl) ?_
      have hBc : Below wb.heap.size wb (wb.alloc (.cells #[] 25)).drew := (below_one wb _).drew
      have hre : RowM (fun b => b < wr.heap.size) (wb.alloc (.cells #[] 25)).drew wb.heap.size (.slice (some ⟨wb.heap.size, 0, none⟩) 0 0) [] := RowG.empty bytesR 25 [] _ (show Blk (wb.alloc (.cells #[] 25)).drew wb.heap.size 25 #[] from Blk.new wb _ _) (Nat.le_refl _)
      clear hS
      have hS : (fun V : World => V.cell? ⟨w.heap.size, 0, none⟩ = some (.int .i64 (X : Int)) ∧ V.cell? ⟨w.heap.size, 1, none⟩ = some (.int .i64 (Y : Int)) ∧ V.cell? ⟨gA, offA + X, none⟩ = some (.slice (some ⟨bX, offX, none⟩) R cpx)) (wb.alloc (.cells #[] 25)).drew := HS19.out _ (below_in hB10 hBc)
      gi_wp2
      try (refine ⟨hS, ?_⟩)
      generalize (wb.alloc (.cells #[] 25)).drew = w19 at *
      refine anyHF_one (i := 9) (by kernel_rfl) rfl (by kernel_rfl) (by rfl) ?_
      have HRE19 := Lib.hid hre
      have hs10 := hB10.size
      have hsr := hUr.size
      have hsc := hBc.size
      have HMQ : Hid (manyR.R (fun b => b < w19.heap.size ∧ some b ≠ (Value.slice (some ⟨wb.heap.size, 0, none⟩) 0 0).ownBlock ∧ b < wr.heap.size) w19 (.slice (some ⟨bX, offX, none⟩) R cpx) xs) := manyR.imp (manyR_iff.2 (HMX.out w19 (below_in hUr (below_in hB10 hBc)))) fun b hb => by have h1 : b < wb2.heap.size := hb; exact ⟨by omega, fun e => by injection e with e; have e2 : b = wb.heap.size := e; omega, by omega⟩
      clear hre
      refine opIn_appM (T := 44) (v := .slice (some ⟨wb.heap.size, 0, none⟩) 0 0) (v2 := .slice (some ⟨bX, offX, none⟩) R cpx) _ (.tmp 140) (.tmp 145) rfl Tryz.underlying44 [] xs rfl HRE19.out rfl HMQ.out (by have := HXSL.out; omega) (by simp) (by have := HXSL.out; omega) hsc ?_
      intro v19 w20 hrow19 hgrow19
      have hB20 : Below wb.heap.size wb w20 := below_grown hBc hgrow19 hsc (fun g e => RowG.own_le HRE19.out g e)
      rw [List.nil_append] at hrow19
      obtain ⟨g19, cap19, cur19, e19, hg19, hb19, hc19, hj19⟩ := RowG.blk hrow19 (by have := HXSL.out; omega)
      rw [HXSL.out] at e19 hc19 hj19
      subst e19
      have HJ19 := Lib.hid hj19
      clear hS hrow19 hgrow19 hj19 hs10 hsr hsc
      have hS : (fun V : World => V.cell? ⟨w.heap.size, 0, none⟩ = some (.int .i64 (X : Int)) ∧ V.cell? ⟨w.heap.size, 1, none⟩ = some (.int .i64 (Y : Int)) ∧ V.cell? ⟨gA, offA + X, none⟩ = some (.slice (some ⟨bX, offX, none⟩) R cpx)) w20 := HS19.out _ (below_in hB10 hB20)
      gi_wp2_with fail
      try (refine ⟨hS, ?_⟩)
      refine anyHF_take (i := 10) (d := 147) (v := .pointer (some ⟨g18, X, none⟩)) (by kernel_rfl) rfl (by kernel_rfl) (by kernel_rfl) (by kernel_rfl) rfl (fun _ _ _ h => h) ⟨Or.inl ⟨by rfl, fun w hS => by obtain ⟨h0, h1, h2⟩ := hS; go_simp⟩, fun _ => rfl⟩ hS ?_
      simp only [upd]
      refine anyHF_one (i := 11) (by kernel_rfl) rfl (by kernel_rfl) (by rfl) ?_
      have hbb := hb18.below hB20 hb18.lt
      have c0 := hbb.cell X
      have f0 := hbb.frozen X
      have hcs18 : X < cur18.size := by obtain ⟨u, h1, _⟩ := HJ18.out X (by omega); exact (Array.getElem?_eq_some_iff.1 h1).1
      rw [Array.getElem?_eq_getElem hcs18] at c0
      generalize cur18[X]'_ = o18 at c0
      have hb18n := hbb.set_ X (.slice (some ⟨g19, 0, none⟩) R cap19)
      have hne19 : g19 ≠ g18 := by have := hb18.lt; omega
      have hb19n := hb19.far (p := ⟨g18, X, none⟩) hne19 (.slice (some ⟨g19, 0, none⟩) R cap19)
      have hB21 : Below wn.heap.size wn (w20.setCell ⟨g18, X, none⟩ (.slice (some ⟨g19, 0, none⟩) R cap19)) := (below_in hD3 hB20).setCell hg18 _
      have HK21 : Hid (∀ b, b < wb.heap.size → b ≠ g18 → (w20.setCell ⟨g18, X, none⟩ (.slice (some ⟨g19, 0, none⟩) R cap19)).heap[b]? = wb.heap[b]?) := fun b h1 h2 => (Below.heap_setCell w20 ⟨g18, X, none⟩ (.slice (some ⟨g19, 0, none⟩) R cap19) b h2).trans (hB20.block b h1)
      have HL21 : Hid (∀ b, b ≠ g18 → (w20.setCell ⟨g18, X, none⟩ (.slice (some ⟨g19, 0, none⟩) R cap19)).heap[b]? = w20.heap[b]?) := fun b h2 => Below.heap_setCell w20 ⟨g18, X, none⟩ (.slice (some ⟨g19, 0, none⟩) R cap19) b h2
      have hz20 : wb.heap.size ≤ w20.heap.size := hB20.size
      have hz21 : (w20.setCell ⟨g18, X, none⟩ (.slice (some ⟨g19, 0, none⟩) R cap19)).heap.size = w20.heap.size := by simp
      have HZ21 := Lib.hid hz21
      clear hz21
      clear hS
      have hS : (fun V : World => V.cell? ⟨w.heap.size, 0, none⟩ = some (.int .i64 (X : Int)) ∧ V.cell? ⟨w.heap.size, 1, none⟩ = some (.int .i64 (Y : Int)) ∧ V.cell? ⟨gA, offA + X, none⟩ = some (.slice (some ⟨bX, offX, none⟩) R cpx)) (w20.setCell ⟨g18, X, none⟩ (.slice (some ⟨g19, 0, none⟩) R cap19)) := HS19.out _ (below_in hB9 hB21)
      gi_wp2
      try (refine ⟨hS, ?_⟩)
      refine anyHF_done (by kernel_rfl) ?_ _
      refine NoPanic.normal ?_
      clear hS
      obtain ⟨w21, hw21⟩ : ∃ w21, w20.setCell ⟨g18, X, none⟩ (.slice (some ⟨g19, 0, none⟩) R cap19) = w21 := ⟨_, rfl⟩
      rw [hw21] at hb18n hb19n hB21 HK21 HL21 HZ21 ⊢
      clear hw21
      go_wp2
      have hW21 := below_in hB9 hB21
      have HS20 : Hid (∀ V : World, Below w21.heap.size w21 V → (fun V : World => V.cell? ⟨w.heap.size, 0, none⟩ = some (.int .i64 (X : Int)) ∧ V.cell? ⟨w.heap.size, 1, none⟩ = some (.int .i64 (Y : Int)) ∧ V.cell? ⟨gA, offA + X, none⟩ = some (.slice (some ⟨bX, offX, none⟩) R cpx) ∧ V.cell? ⟨bX, offX + Y, none⟩ = some (.slice BY l9 cY) ∧ V.cell? ⟨g18, X, none⟩ = some (.slice (some ⟨g19, 0, none⟩) R cap19)) V) := fun V hV => ⟨(HSS.out V (below_in hW21 hV)).1, (HSS.out V (below_in hW21 hV)).2.1, HUX.out V (below_in hUr (below_in hW21 hV)), HUY.out V (below_in hUr (below_in hW21 hV)), ((hb18n.below hV hb18n.lt).cell X).trans (Array.getElem?_setIfInBounds_self_of_lt hcs18)⟩
      have hdr : Below w21.heap.size w21 w21.drew := (Below.refl _ _).drew
      have HPUT := Lib.hid (rput_any (.slice BY l9 cY) (.slice A' l9 cap') cy bs w21.drew ((HYB.out _ (below_in hUr (below_in hW21 hdr))).more (below_in hUr (below_in hW21 hdr)).size) ((HBS.out _ (below_in hWr (below_in hW21 hdr))).more (below_in hWr (below_in hW21 hdr)).size) (by rw [HCYL.out, HNB.out]; exact Nat.le_refl _) (by rw [HCYL.out]; have := HN.out; omega))
      have HXB : Hid ((xorB cy bs).length = l9) := by unfold Hid; rw [xorB_len]; exact HCYL.out
      have hS : (fun V : World => V.cell? ⟨w.heap.size, 0, none⟩ = some (.int .i64 (X : Int)) ∧ V.cell? ⟨w.heap.size, 1, none⟩ = some (.int .i64 (Y : Int)) ∧ V.cell? ⟨gA, offA + X, none⟩ = some (.slice (some ⟨bX, offX, none⟩) R cpx) ∧ V.cell? ⟨bX, offX + Y, none⟩ = some (.slice BY l9 cY) ∧ V.cell? ⟨g18, X, none⟩ = some (.slice (some ⟨g19, 0, none⟩) R cap19)) w21.drew := HS20.out _ hdr
      refine (wpIn_wide (n := 12)).1 (wpIn_mono (region_HF (Q := NoPanic _) (S := (fun V : World => V.cell? ⟨w.heap.size, 0, none⟩ = some (.int .i64 (X : Int)) ∧ V.cell? ⟨w.heap.size, 1, none⟩ = some (.int .i64 (Y : Int)) ∧ V.cell? ⟨gA, offA + X, none⟩ = some (.slice (some ⟨bX, offX, none⟩) R cpx) ∧ V.cell? ⟨bX, offX + Y, none⟩ = some (.slice BY l9 cY) ∧ V.cell? ⟨g18, X, none⟩ = some (.slice (some ⟨g19, 0, none⟩) R cap19))) (by kernel_rfl) ?_) NoPanic.imp)
      refine anyHF_take (i := 0) (d := 148) (v := .slice (some ⟨g18, 0, none⟩) N cap18) (by kernel_rfl) rfl (by kernel_rfl) (by kernel_rfl) (by kernel_rfl) rfl (fun _ _ _ h => h) ⟨Or.inl ⟨by rfl, fun w hS => by obtain ⟨h0, h1, h2, h3, h4⟩ := hS; go_simp⟩, fun _ => rfl⟩ hS ?_
      simp only [upd]
      refine anyHF_take (i := 1) (d := 149) (v := .pointer (some ⟨w.heap.size, 0, none⟩)) (by kernel_rfl) rfl (by kernel_rfl) (by kernel_rfl) (by kernel_rfl) rfl (fun _ _ _ h => h) ⟨Or.inl ⟨by rfl, fun w hS => by obtain ⟨h0, h1, h2, h3, h4⟩ := hS; go_simp⟩, fun _ => rfl⟩ hS ?_
      simp only [upd]
      refine anyHF_take (i := 2) (d := 150) (v := .int .i64 (X : Int)) (by kernel_rfl) rfl (by kernel_rfl) (by kernel_rfl) (by kernel_rfl) rfl (fun _ _ _ h => h) ⟨Or.inl ⟨by rfl, fun w hS => by obtain ⟨h0, h1, h2, h3, h4⟩ := hS; go_simp⟩, fun _ => rfl⟩ hS ?_
      simp only [upd]
      refine anyHF_take (i := 3) (d := 151) (v := .pointer (some ⟨g18, X, none⟩)) (by kernel_rfl) rfl (by kernel_rfl) (by kernel_rfl) (by kernel_rfl) rfl (fun _ _ _ h => h) ⟨Or.inl ⟨by rfl, fun w hS => by obtain ⟨h0, h1, h2, h3, h4⟩ := hS; go_simp⟩, fun _ => rfl⟩ hS ?_
      simp only [upd]
      refine anyHF_take (i := 4) (d := 152) (v := .slice (some ⟨g19, 0, none⟩) R cap19) (by kernel_rfl) rfl (by kernel_rfl) (by kernel_rfl) (by kernel_rfl) rfl (fun _ _ _ h => h) ⟨Or.inl ⟨by rfl, fun w hS => by obtain ⟨h0, h1, h2, h3, h4⟩ := hS; go_simp⟩, fun _ => rfl⟩ hS ?_
      simp only [upd]
      refine anyHF_take (i := 5) (d := 153) (v := .pointer (some ⟨w.heap.size, 1, none⟩)) (by kernel_rfl) rfl (by kernel_rfl) (by kernel_rfl) (by kernel_rfl) rfl (fun _ _ _ h => h) ⟨Or.inl ⟨by rfl, fun w hS => by obtain ⟨h0, h1, h2, h3, h4⟩ := hS; go_simp⟩, fun _ => rfl⟩ hS ?_
      simp only [upd]
      refine anyHF_take (i := 6) (d := 154) (v := .int .i64 (Y : Int)) (by kernel_rfl) rfl (by kernel_rfl) (by kernel_rfl) (by kernel_rfl) rfl (fun _ _ _ h => h) ⟨Or.inl ⟨by rfl, fun w hS => by obtain ⟨h0, h1, h2, h3, h4⟩ := hS; go_simp⟩, fun _ => rfl⟩ hS ?_
      simp only [upd]
      refine anyHF_take (i := 7) (d := 155) (v := .slice (some ⟨gA, offA, none⟩) N capA) (by kernel_rfl) rfl (by kernel_rfl) (by kernel_rfl) (by kernel_rfl) rfl (fun _ _ _ h => h) ⟨Or.inl ⟨by rfl, fun w hS => by obtain ⟨h0, h1, h2, h3, h4⟩ := hS; go_simp⟩, fun _ => rfl⟩ hS ?_
      simp only [upd]
      refine anyHF_take (i := 8) (d := 156) (v := .pointer (some ⟨w.heap.size, 0, none⟩)) (by kernel_rfl) rfl (by kernel_rfl) (by kernel_rfl) (by kernel_rfl) rfl (fun _ _ _ h => h) ⟨Or.inl ⟨by rfl, fun w hS => by obtain ⟨h0, h1, h2, h3, h4⟩ := hS; go_simp⟩, fun _ => rfl⟩ hS ?_
      simp only [upd]
      refine anyHF_take (i := 9) (d := 157) (v := .int .i64 (X : Int)) (by kernel_rfl) rfl (by kernel_rfl) (by kernel_rfl) (by kernel_rfl) rfl (fun _ _ _ h => h) ⟨Or.inl ⟨by rfl, fun w hS => by obtain ⟨h0, h1, h2, h3, h4⟩ := hS; go_simp⟩, fun _ => rfl⟩ hS ?_
      simp only [upd]
      refine anyHF_take (i := 10) (d := 158) (v := .pointer (some ⟨gA, offA + X, none⟩)) (by kernel_rfl) rfl (by kernel_rfl) (by kernel_rfl) (by kernel_rfl) rfl (fun _ _ _ h => h) ⟨Or.inl ⟨by rfl, fun w hS => by obtain ⟨h0, h1, h2, h3, h4⟩ := hS; go_simp⟩, fun _ => rfl⟩ hS ?_
      simp only [upd]
      refine anyHF_take (i := 11) (d := 159) (v := .slice (some ⟨bX, offX, none⟩) R cpx) (by kernel_rfl) rfl (by kernel_rfl) (by kernel_rfl) (by kernel_rfl) rfl (fun _ _ _ h => h) ⟨Or.inl ⟨by rfl, fun w hS => by obtain ⟨h0, h1, h2, h3, h4⟩ := hS; go_simp⟩, fun _ => rfl⟩ hS ?_
      simp only [upd]
      refine anyHF_take (i := 12) (d := 160) (v := .pointer (some ⟨w.heap.size, 1, none⟩)) (by kernel_rfl) rfl (by kernel_rfl) (by kernel_rfl) (by kernel_rfl) rfl (fun _ _ _ h => h) ⟨Or.inl ⟨by rfl, fun w hS => by obtain ⟨h0, h1, h2, h3, h4⟩ := hS; go_simp⟩, fun _ => rfl⟩ hS ?_
      simp only [upd]
      refine anyHF_take (i := 13) (d := 161) (v := .int .i64 (Y : Int)) (by kernel_rfl) rfl (by kernel_rfl) (by kernel_rfl) (by kernel_rfl) rfl (fun _ _ _ h => h) ⟨Or.inl ⟨by rfl, fun w hS => by obtain ⟨h0, h1, h2, h3, h4⟩ := hS; go_simp⟩, fun _ => rfl⟩ hS ?_
      simp only [upd]
      refine anyHF_take (i := 14) (d := 162) (v := .pointer (some ⟨bX, offX + Y, none⟩)) (by kernel_rfl) rfl (by kernel_rfl) (by kernel_rfl) (by kernel_rfl) rfl (fun _ _ _ h => h) ⟨Or.inl ⟨by rfl, fun w hS => by obtain ⟨h0, h1, h2, h3, h4⟩ := hS; go_simp⟩, fun _ => rfl⟩ hS ?_
      simp only [upd]
      refine anyHF_take (i := 15) (d := 163) (v := .slice BY l9 cY) (by kernel_rfl) rfl (by kernel_rfl) (by kernel_rfl) (by kernel_rfl) rfl (fun _ _ _ h => h) ⟨Or.inl ⟨by rfl, fun w hS => by obtain ⟨h0, h1, h2, h3, h4⟩ := hS; go_simp⟩, fun _ => rfl⟩ hS ?_
      simp only [upd]
      refine anyHF_take (i := 16) (d := 164) (v := .slice A' l9 cap') (by kernel_rfl) rfl (by kernel_rfl) (by kernel_rfl) (by kernel_rfl) rfl (fun _ _ _ h => h) ⟨Or.inl ⟨by rfl, fun w hS => by obtain ⟨h0, h1, h2, h3, h4⟩ := hS; go_simp⟩, fun _ => rfl⟩ hS ?_
      simp only [upd]
      refine anyHF_one (i := 17) (by kernel_rfl) rfl (by kernel_rfl) (by rfl) ?_
      gi_wp2_with fail
      refine ⟨trivial, (callsIn_wide.2 HPUT.out).mono ?_⟩
      rintro e w22 ⟨u, rfl, hu, hB22⟩
      replace hu := hu.fresh
      obtain ⟨Au2, cu2, hue, _, _⟩ := id hu
      rw [HXB.out] at hue
      subst hue
      replace hB22 := below_undrew hB22
      clear hS
      have hS : (fun V : World => V.cell? ⟨w.heap.size, 0, none⟩ = some (.int .i64 (X : Int)) ∧ V.cell? ⟨w.heap.size, 1, none⟩ = some (.int .i64 (Y : Int)) ∧ V.cell? ⟨gA, offA + X, none⟩ = some (.slice (some ⟨bX, offX, none⟩) R cpx) ∧ V.cell? ⟨bX, offX + Y, none⟩ = some (.slice BY l9 cY) ∧ V.cell? ⟨g18, X, none⟩ = some (.slice (some ⟨g19, 0, none⟩) R cap19)) w22 := HS20.out _ hB22
      gi_wp2
      try (refine ⟨hS, ?_⟩)
      refine anyHF_take (i := 18) (d := 166) (v := .pointer (some ⟨g19, Y, none⟩)) (by kernel_rfl) rfl (by kernel_rfl) (by kernel_rfl) (by kernel_rfl) rfl (fun _ _ _ h => h) ⟨Or.inl ⟨by rfl, fun w hS => by obtain ⟨h0, h1, h2, h3, h4⟩ := hS; go_simp⟩, fun _ => rfl⟩ hS ?_
      simp only [upd]
      refine anyHF_one (i := 19) (by kernel_rfl) rfl (by kernel_rfl) (by rfl) ?_
      have hbb := hb19n.below hB22 hb19n.lt
      have hbc := hb18n.below hB22 hb18n.lt
      have c0 := hbb.cell Y
      have f0 := hbb.frozen Y
      have hcs19 : Y < cur19.size := by obtain ⟨u, h1, _⟩ := HJ19.out Y (by omega); exact (Array.getElem?_eq_some_iff.1 h1).1
      rw [Array.getElem?_eq_getElem hcs19] at c0
      generalize cur19[Y]'_ = o19 at c0
      have hb19f := hbb.set_ Y (.slice Au2 l9 cu2)
      have hb18f := hbc.far (p := ⟨g19, Y, none⟩) (Ne.symm hne19) (.slice Au2 l9 cu2)
      have hB23 : Below wn.heap.size wn (w22.setCell ⟨g19, Y, none⟩ (.slice Au2 l9 cu2)) := (below_in hB21 hB22).setCell (Nat.le_trans hD3.size hg19) _
      have HK23 : Hid (∀ b, b < w21.heap.size → b ≠ g19 → (w22.setCell ⟨g19, Y, none⟩ (.slice Au2 l9 cu2)).heap[b]? = w21.heap[b]?) := fun b h1 h2 => (Below.heap_setCell w22 ⟨g19, Y, none⟩ (.slice Au2 l9 cu2) b h2).trans (hB22.block b h1)
      have hlg : g19 < w21.heap.size := hb19n.lt
      have HB23 : Hid (Bytes (w22.setCell ⟨g19, Y, none⟩ (.slice Au2 l9 cu2)).heap.size (w22.setCell ⟨g19, Y, none⟩ (.slice Au2 l9 cu2)) (.slice Au2 l9 cu2) (xorB cy bs)) := (hu.set_ (p := ⟨g19, Y, none⟩) hlg (.slice Au2 l9 cu2)).bytes
      have hS4 : (fun V : World => V.cell? ⟨w.heap.size, 0, none⟩ = some (.int .i64 (X : Int)) ∧ V.cell? ⟨w.heap.size, 1, none⟩ = some (.int .i64 (Y : Int)) ∧ V.cell? ⟨gA, offA + X, none⟩ = some (.slice (some ⟨bX, offX, none⟩) R cpx) ∧ V.cell? ⟨bX, offX + Y, none⟩ = some (.slice BY l9 cY) ∧ V.cell? ⟨g18, X, none⟩ = some (.slice (some ⟨g19, 0, none⟩) R cap19)) (w22.setCell ⟨g19, Y, none⟩ (.slice Au2 l9 cu2)) := by obtain ⟨s0, s1, s2, s3, s4⟩ := hS; have hz4 := hb18n.lt; have hz5 := hUr.size; have hz6 := hW21.size; have hz7 := hB10.size; have hz8 := (b6.below (below_in hQ3 hTr) b6.lt).lt; exact ⟨(World.cell?_of_block (Below.heap_setCell w22 ⟨g19, Y, none⟩ _ _ (by simp; omega))).trans s0, (World.cell?_of_block (Below.heap_setCell w22 ⟨g19, Y, none⟩ _ _ (by simp; omega))).trans s1, (World.cell?_of_block (Below.heap_setCell w22 ⟨g19, Y, none⟩ _ _ (by simp; omega))).trans s2, (World.cell?_of_block (Below.heap_setCell w22 ⟨g19, Y, none⟩ _ _ (by simp; omega))).trans s3, (World.cell?_of_block (Below.heap_setCell w22 ⟨g19, Y, none⟩ _ _ (by simpa using Ne.symm hne19))).trans s4⟩
      clear hS
      have hS := hS4
      clear hS4
      gi_wp2
      try (refine ⟨hS, ?_⟩)
      refine anyHF_done (by kernel_rfl) ?_ _
      refine NoPanic.normal ?_
      clear hS HPUT
      obtain ⟨w23, hw23⟩ : ∃ w23, w22.setCell ⟨g19, Y, none⟩ (.slice Au2 l9 cu2) = w23 := ⟨_, rfl⟩
      rw [hw23] at hb18f hb19f hB23 HK23 HB23 ⊢
      clear hw23
      have hD9 := hB9.size
      have hz4 := hb18f.lt
      have hz5 := hb19f.lt
      have hz6 := hD3.size
      have hz7 := HZ21.out
      have hyl2 : (xorB cy bs).length = (firstC al).length := by rw [HXB.out, HFF.out]
      have hPR := HPR.out
      have hAN := HAN.out
      have hNL := HNL.out
      have hcell : cellOf_ al X Y = cy := by unfold cellOf_; rw [HXS.out, HCY.out]
      have hR2 : ((P : Int) - 1).toNat = R := by omega
      have hchg := allR_chg (X := X) (Y := Y) (c := xorB cy bs) HALL.out (by omega) (by omega) hyl2
      have HALC2 := Lib.hid hchg.1
      have hone := wrong_one HALL.out HWN.out (x := (X : Int)) (y := (Y : Int)) ⟨by omega, by omega⟩ ⟨by omega, by have := HY.out; omega⟩ (b := bs) (by rw [HNB.out, HFF.out]) HB0.out
      rw [Int.toNat_natCast, Int.toNat_natCast, hcell] at hone
      have HONE := Lib.hid hone
      have htc := tell_any HPM.out (x := (X : Int)) (y := (Y : Int)) ⟨by omega, by have := HX.out; omega⟩ ⟨by omega, HY.out⟩
      have HTLL : Hid ((tellL (P : Int) (X : Int) (Y : Int)).length ≤ 2) := by
        unfold Hid
        by_cases hxp : (X : Int) = (P : Int)
        · rw [htc.1 hxp]; omega
        · rcases htc.2 hxp with h | ⟨h, _⟩ <;> omega
      have HTC := Lib.hid htc
      have HOWN0 : Hid (R ≤ X → ((X : Int), (Y : Int)) ∈ tellL (P : Int) (X : Int) (Y : Int)) := fun hrx => tell_own ⟨by omega, by have := HX.out; omega⟩ ⟨by omega, HY.out⟩
      have hkw : ∀ b, b < wb.heap.size → b ≠ g18 → w23.heap[b]? = wb.heap[b]? := fun b h1 h2 => (HK23.out b (by omega) (by omega)).trans (HK21.out b h1 h2)
      have hne : ∀ j, j < al.length → j ≠ X → ∃ u, (cur18.setIfInBounds X (.slice (some ⟨g19, 0, none⟩) R cap19))[j]? = some u ∧ Many w23.heap.size w23 u (al[j]?.getD []) := fun j hj hjx => by
        obtain ⟨u, h1, h2⟩ := HJ18.out j (by omega)
        exact ⟨u, by rw [Array.getElem?_setIfInBounds_ne (Ne.symm hjx)]; exact h1, manyR_iff.1 (manyR.imp (manyR.keep h2 fun b hb => hkw b hb.1 hb.2.1) fun b hb => by have := hb.1; omega)⟩
      have hne2 : ∀ i, i < (al[X]?.getD []).length → i ≠ Y → ∃ u, (cur19.setIfInBounds Y (.slice Au2 l9 cu2))[i]? = some u ∧ Bytes w23.heap.size w23 u ((al[X]?.getD [])[i]?.getD []) := fun i hi hiy => by
        rw [HXS.out] at hi ⊢
        rw [HXSL.out] at hi
        obtain ⟨u, h1, h2⟩ := HJ19.out i hi
        exact ⟨u, by rw [Array.getElem?_setIfInBounds_ne (Ne.symm hiy)]; exact h1, (bytesR.imp (bytesR.keep h2 fun b hb => (HK23.out b (by have := hb.1; omega) hb.2.1).trans (HL21.out b (by have := hb.2.2; omega))) fun b hb => by have := hb.1; omega : BytesP (· < w23.heap.size) w23 u _)⟩
      have hC23 := cols_chg (B := w23.heap.size) (W := w23) (g := g18) (cap := cap18) (g2 := g19) (cap2 := cap19) (all := al) (X := X) (Y := Y) (c := xorB cy bs) (uy := .slice Au2 l9 cu2) hz4 hz5 hb18f (by omega) (by omega) (by rw [HXS.out, HXSL.out]; omega) hne (by rw [HXS.out, HXSL.out]; exact Array.getElem?_setIfInBounds_self_of_lt hcs18) hb19f (by rw [HXS.out, HXSL.out]; exact hc19) hne2 (Array.getElem?_setIfInBounds_self_of_lt hcs19) HB23.out
      rw [HAN.out] at hC23
      have hW23 := below_in (below_in hWr hB9) hB23
      have b63 := b6.below (below_in (below_in hQ3 hTr) (below_in hB9 hB23)) b6.lt
      clear hD9 hz4 hz5 hz6 hz7 hyl2 hPR hAN hNL hcell hR2 hchg hone htc hkw hne hne2 HK21 HK23 HL21 HJ18 HJ19 hb18f hb19f hb18n hb19n hb18 hb19 hcs18 hcs19 hc18 hc19 hg18 hg19 hB21 hB22 hB20 hbb hbc c0 f0 hne19 hz20 HZ21
      go_wp2_with fail
      obtain ⟨w24, hw24⟩ : ∃ w24, (w23.alloc (.cells #[.int .i64 0] 3)).alloc (.cells #[.bool false] 4) = w24 := ⟨_, rfl⟩
      have bn : Blk w24 w23.heap.size 3 #[.int .i64 (([] : List (Int × Int)).length : Int)] := by rw [← hw24]; exact (Blk.new w23 _ _).alloc _
      have bo : Blk w24 (w23.heap.size + 1) 4 #[.bool (decide (((X : Int), (Y : Int)) ∈ ([] : List (Int × Int))))] := by rw [← hw24]; exact Blk.second w23 _ _ _
      have hB24 : Below w23.heap.size w23 w24 := by rw [← hw24]; exact below_two w23 _ _
      have hC24 := (hC23.below hB24).more hB24.size
      have HWR := Lib.hid (Go.Proofs.YtggdlklkjnbbjaaGreatDoor.R.wrongs_yes (P : Int) (.slice (some ⟨g18, 0, none⟩) N cap18) _ HALC2.out w24 (HLW.out _ (below_in hW23 hB24)) (Nat.le_refl _) hC24)
      rw [HONE.out] at HWR
      obtain ⟨tl, htl⟩ : ∃ tl, tellL (P : Int) (X : Int) (Y : Int) = tl := ⟨_, rfl⟩
      rw [htl] at HWR
      have HTL := Lib.hid htl
      clear hC24 htl
      rw [hw24]
      refine HWR.out.mono ?_
      rintro e w25 ⟨gs, us, rfl, hbs, hrs, hBn⟩
      have hB25 := below_in hB24 hBn
      have bn5 := bn.below hBn bn.lt
      have bo5 := bo.below hBn bo.lt
      have hgn := blk_ne hbs bn5 (by decide)
      have hgo := blk_ne hbs bo5 (by decide)
      have htl5 : tl.length ≤ 1000 := by have := HTLL.out; rw [HTL.out] at this; omega
      have hSQ := Lib.hid (fun n => values_seqG gs (fun b => b < w25.heap.size ∧ b ≠ w23.heap.size ∧ b ≠ w23.heap.size + 1) us tl htl5 w25 hbs ⟨hbs.lt, hgn, hgo⟩ (fun b hb => hb.1) hrs (fun q c h0 e => ⟨by obtain ⟨q', c', e3, hA⟩ := hrs; obtain ⟨g, h1, h2, _⟩ := hA 0 h0; rw [e] at e3; injection e3 with e3 _ _; rw [← e3] at h1; injection h1 with h1; subst h1; exact h2, read_apart hrs bn5 q c h0 e, read_apart hrs bo5 q c h0 e⟩) n)
      have hlt1 := bn5.lt
      have hlt2 := bo5.lt
      have hFI : Hid (FarO w25.heap.size (fun (pre : List (Int × Int)) (o : Option Nat) V => o = none ∧ Blk V w23.heap.size 3 #[.int .i64 (pre.length : Int)] ∧ Blk V (w23.heap.size + 1) 4 #[.bool (decide (((X : Int), (Y : Int)) ∈ pre))] ∧ Below w23.heap.size w23 V)) := by
        rintro s o V Z row ⟨h2, h3, h4, h5⟩ hgr hr
        exact ⟨h2, farO_blkV (by omega) h3 hgr hr, farO_blkV (by omega) h4 hgr hr, h5.grown hgr h5.size (fun r e => by have := (hr r e).1; omega)⟩
      have HTP : Hid (X = P → tl.length = 1) := fun e => by rw [← HTL.out]; exact HTC.out.1 (by omega)
      have HTA : Hid (¬ X = P → tl.length = 2 ∨ (tl.length = 1 ∧ ((X : Int) + (Y : Int)) % (P : Int) = (R : Int))) := fun e => by
        have h := HTC.out.2 (by omega)
        have := HPR.out
        rw [HTL.out] at h
        rcases h with h | ⟨h1, h2⟩
        · exact .inl h
        · exact .inr ⟨h1, by rw [h2]; omega⟩
      have HOWN : Hid (R ≤ X → ((X : Int), (Y : Int)) ∈ tl) := fun e => by rw [← HTL.out]; exact HOWN0.out e
      clear bn bo hbs hrs hgn hgo hBn hB24 HWR hw24
      go_wp2_with fail
      refine (wpIn_wide (n := 9)).1 ?_
      refine wpIn_rangeBoxQ rfl (by omega) (gf := 124) (lb := #[.pointer (some ⟨gs, 0, none⟩)]) rfl trivial Go.Proofs.YtggdlklkjnbbjaaGreatDoor.R.enter_values0 (hSQ.out _ (by omega)) (fun h h' => h.trans h') (fun V l ob hl _ hlp => KeepP.putFar V (by omega) ob) (Below.refl _ _) (fun _ => rfl)
        (fun pre o V => o = none ∧ Blk V w23.heap.size 3 #[.int .i64 (pre.length : Int)] ∧ Blk V (w23.heap.size + 1) 4 #[.bool (decide (((X : Int), (Y : Int)) ∈ pre))] ∧ Below w23.heap.size w23 V)
        (fun _ _ _ _ => False) hFI.out (fun c s o V Z row hs _ _ => hs) none (fun b e => by cases e) ⟨rfl, bn5, bo5, hB25⟩
        56 (fun z => #[.int .i64 z.1, .int .i64 z.2]) ?actR ?assignR
        (fun pre o V h => by obtain ⟨rfl, _⟩ := h; intro b e; cases e) (fun c pre o V h => h.elim) ?bodyR ?doneR (fun D c pre o V _ _ _ h => h.elim)
      case assignR =>
        intro l' pre z o V K hsz ho hI2 hok hK
        have hlay := below_one V (.cells #[.int .i64 z.1, .int .i64 z.2] 56)
        have hbz := Blk.new V 56 #[.int .i64 z.1, .int .i64 z.2]
        have hkp : KeepP (fun b => b < w25.heap.size ∧ b ≠ w23.heap.size ∧ b ≠ w23.heap.size + 1) V (V.alloc (.cells #[.int .i64 z.1, .int .i64 z.2] 56)) := KeepP.below hlay (fun b hb => by have := hb.1; omega)
        have hI3 := hFI.out.lay hI2 (.cells #[.int .i64 z.1, .int .i64 z.2] 56)
        have hsi := SinceO.below (B := w25.heap.size) (o := o) hlay
        obtain ⟨gx, hgx⟩ : ∃ gx, Hid (V.heap.size = gx) := ⟨_, rfl⟩
        unfold encA
        gi_wp2_with fail
        rw [hgx.out] at hbz ⊢
        exact hK gx _ hsi hkp hI3 hbz
      case bodyR =>
        rintro l' pre z o gx V hsz ⟨rfl, hn, hw, hB⟩ hbg hlen
        obtain ⟨zx, zy⟩ := z
        have h6 := b63.below hB b63.lt
        have a0 := h6.cell 0
        have a1 := h6.cell 1
        have k0 := hbg.cell 0
        have k1 := hbg.cell 1
        simp only [List.getElem?_toArray, List.getElem?_cons_zero, List.getElem?_cons_succ] at k0 k1 a0 a1
        have c1 := hn.one
        have f1 := hn.frozen 0
        have hne : w23.heap.size + 1 ≠ w23.heap.size := by omega
        have hw1 := hw.far (p := ⟨w23.heap.size, 0, none⟩) hne (.int .i64 ((pre.length : Int) + 1))
        have hgn := blk_ne hbg hn (by decide)
        have h6n := blk_ne h6 hn (by decide)
        have hbg1 := hbg.far (p := ⟨w23.heap.size, 0, none⟩) hgn (.int .i64 ((pre.length : Int) + 1))
        have h61 := h6.far (p := ⟨w23.heap.size, 0, none⟩) h6n (.int .i64 ((pre.length : Int) + 1))
        have k2 := hbg1.cell 0
        have k3 := hbg1.cell 1
        have a2 := h61.cell 0
        have a3 := h61.cell 1
        simp only [List.getElem?_toArray, List.getElem?_cons_zero, List.getElem?_cons_succ] at k2 k3 a2 a3
        have c2 := hw.one
        have c3 := hw1.one
        have f2 := hw1.frozen 0
        have hl1 : Hid (((pre ++ [(zx, zy)]).length : Int) = (pre.length : Int) + 1) := by unfold Hid; rw [List.length_append]; rfl
        have hfin : ∀ b : Bool, b = decide (((X : Int), (Y : Int)) ∈ pre ++ [(zx, zy)]) → ∀ Z, Z = (V.setCell ⟨w23.heap.size, 0, none⟩ (.int .i64 ((pre.length : Int) + 1))).setCell ⟨w23.heap.size + 1, 0, none⟩ (.bool b) → ∃ o', FreshO none o' V ∧ SinceO w25.heap.size none V Z ∧ KeepP (fun b => b < w25.heap.size ∧ b ≠ w23.heap.size ∧ b ≠ w23.heap.size + 1) V Z ∧ o' = none ∧ Blk Z w23.heap.size 3 #[.int .i64 ((pre ++ [(zx, zy)]).length : Int)] ∧ Blk Z (w23.heap.size + 1) 4 #[.bool (decide (((X : Int), (Y : Int)) ∈ pre ++ [(zx, zy)]))] ∧ Below w23.heap.size w23 Z := by
          rintro b hb Z rfl
          refine ⟨none, .inl rfl, ⟨by simp, fun d h1 h2 h3 => (Below.heap_setCell _ ⟨w23.heap.size + 1, 0, none⟩ (.bool b) d (by simp; omega)).trans (Below.heap_setCell V ⟨w23.heap.size, 0, none⟩ _ d (by simp; omega))⟩, (KeepP.setFar V (by simp) _).trans (KeepP.setFar _ (by simp) _), rfl, ?_, ?_, (hB.setCell (Nat.le_refl _) _).setCell (by simp) _⟩
          · rw [hl1.out]; exact (hn.set_ 0 _).far (p := ⟨w23.heap.size + 1, 0, none⟩) (Ne.symm hne) _
          · rw [← hb]; exact hw1.set_ 0 _
        have HFIN := Lib.hid hfin
        clear hfin hn hw hB hw1 hbg hbg1 h61 h6 k0 k1 a0 a1
        by_cases hq : ((X : Int), (Y : Int)) ∈ pre
        · have hq1 : ((X : Int), (Y : Int)) ∈ pre ++ [(zx, zy)] := List.mem_append_left _ hq
          have HQ1 := Lib.hid hq1
          rw [decide_eq_true hq] at c2 c3
          clear hq hq1
          gi_wp2
          obtain ⟨o', y1, y2, y3, y4, y5, y6, y7⟩ := HFIN.out true (by rw [decide_eq_true HQ1.out]) _ rfl
          exact ⟨o', y1, y2, y3, y4, y5, y6, y7⟩
        · rw [decide_eq_false hq] at c2 c3
          by_cases hz : ((X : Int), (Y : Int)) = (zx, zy)
          · have hq1 : ((X : Int), (Y : Int)) ∈ pre ++ [(zx, zy)] := List.mem_append_right _ (List.mem_singleton.2 hz)
            have HQ1 := Lib.hid hq1
            have hz1 : zx = (X : Int) := (congrArg Prod.fst hz).symm
            have hz2 : zy = (Y : Int) := (congrArg Prod.snd hz).symm
            have hcmp : ∀ W, (binOp .eql 56 (.agg #[.int .i64 zx, .int .i64 zy]) (.agg #[.int .i64 (X : Int), .int .i64 (Y : Int)])).run Tryz.prog W = .ok (.bool true) W := fun W => by rw [at_eq2, hz1, hz2]; simp
            clear hq hq1 hz hz1 hz2
            gi_wp2
            obtain ⟨o', y1, y2, y3, y4, y5, y6, y7⟩ := HFIN.out true (by rw [decide_eq_true HQ1.out]) _ rfl
            exact ⟨o', y1, y2, y3, y4, y5, y6, y7⟩
          · have hq1 : ¬ ((X : Int), (Y : Int)) ∈ pre ++ [(zx, zy)] := by rw [List.mem_append]; rintro (h | h); exact hq h; exact hz (List.mem_singleton.1 h)
            have HQ1 := Lib.hid hq1
            have hz2 : (zx == (X : Int) && zy == (Y : Int)) = false := by
              by_cases e1 : zx = (X : Int)
              · by_cases e2 : zy = (Y : Int)
                · exact absurd (by rw [e1, e2]) hz
                · simp [e2]
              · simp [e1]
            have hcmp : ∀ W, (binOp .eql 56 (.agg #[.int .i64 zx, .int .i64 zy]) (.agg #[.int .i64 (X : Int), .int .i64 (Y : Int)])).run Tryz.prog W = .ok (.bool false) W := fun W => by rw [at_eq2, hz2]
            clear hq hq1 hz hz2
            gi_wp2
            obtain ⟨o', y1, y2, y3, y4, y5, y6, y7⟩ := HFIN.out false (by rw [decide_eq_false HQ1.out]) _ rfl
            exact ⟨o', y1, y2, y3, y4, y5, y6, y7⟩
      case doneR =>
        rintro D xs_ o V hD hfo hxs hI hK hne
        rw [hxs] at hI
        obtain ⟨rfl, hn, hw, hB⟩ := hI
        have hWV := below_in hW23 hB
        have hz1 := hWV.size
        have hz2 := hB25.size
        have hz3 := hW23.size
        have h6 := b63.below hB b63.lt
        have a0 := h6.cell 0
        have a1 := h6.cell 1
        simp only [List.getElem?_toArray, List.getElem?_cons_zero, List.getElem?_cons_succ] at a0 a1
        clear hxs hfo hFI hSQ bn5 bo5 hB25
        obtain ⟨own, hown⟩ : ∃ own, decide (((X : Int), (Y : Int)) ∈ tl) = own := ⟨_, rfl⟩
        rw [hown] at hw
        by_cases hXR : X < R
        · have dX : decide ((X : Int) < (R : Int)) = true := decide_eq_true (by omega)
          have dX2 : decide ((X : Int) < (P : Int) - 1) = true := decide_eq_true (by have := HPR.out; omega)
          have q2 : IntKind.i64.wrap ((P : Int) - 1) = (R : Int) := (IntWalk.i64_left _).trans q1
          clear hown
          rcases HTA.out (by have := HPR.out; omega) with h2 | ⟨h1, hdg⟩
          · rw [h2] at hn
            have hn : Blk V w23.heap.size 3 #[.int .i64 2] := hn
            have hS0 := True.intro
            have HSD : Hid (∀ U : World, Below V.heap.size V U → (fun V : World => V.cell? ⟨w.heap.size, 0, none⟩ = some (.int .i64 (X : Int)) ∧ V.cell? ⟨w.heap.size, 1, none⟩ = some (.int .i64 (Y : Int)) ∧ V.cell? ⟨w23.heap.size, 0, none⟩ = some (.int .i64 2) ∧ V.cell? ⟨w23.heap.size + 1, 0, none⟩ = some (.bool own)) U) := fun U hU => ⟨(hU.cell (p := ⟨w.heap.size, 0, none⟩) h6.lt).trans a0, (hU.cell (p := ⟨w.heap.size, 1, none⟩) h6.lt).trans a1, (hU.cell (p := ⟨w23.heap.size, 0, none⟩) hn.lt).trans hn.one, (hU.cell (p := ⟨w23.heap.size + 1, 0, none⟩) hw.lt).trans hw.one⟩
            have c6 := h6.cell 0
            simp only [List.getElem?_toArray, List.getElem?_cons_zero] at c6
            go_wp2
            have hB9 : Below V.heap.size V V.drew := (Below.refl _ _).drew
            have hS : (fun V : World => V.cell? ⟨w.heap.size, 0, none⟩ = some (.int .i64 (X : Int)) ∧ V.cell? ⟨w.heap.size, 1, none⟩ = some (.int .i64 (Y : Int)) ∧ V.cell? ⟨w23.heap.size, 0, none⟩ = some (.int .i64 2) ∧ V.cell? ⟨w23.heap.size + 1, 0, none⟩ = some (.bool own)) V.drew := HSD.out _ hB9
            refine (wpIn_wide (n := 12)).1 (wpIn_mono (region_HF (Q := NoPanic _) (S := (fun V : World => V.cell? ⟨w.heap.size, 0, none⟩ = some (.int .i64 (X : Int)) ∧ V.cell? ⟨w.heap.size, 1, none⟩ = some (.int .i64 (Y : Int)) ∧ V.cell? ⟨w23.heap.size, 0, none⟩ = some (.int .i64 2) ∧ V.cell? ⟨w23.heap.size + 1, 0, none⟩ = some (.bool own))) (by kernel_rfl) ?_) NoPanic.imp)
            refine anyHF_take (i := 0) (d := 185) (v := .int .i64 2) (by kernel_rfl) rfl (by kernel_rfl) (by kernel_rfl) (by kernel_rfl) rfl (fun _ _ _ h => h) ⟨Or.inl ⟨by rfl, fun w hS => by obtain ⟨h0, h1, h2, h3⟩ := hS; go_simp⟩, fun _ => rfl⟩ hS ?_
            simp only [upd]
            refine anyHF_take (i := 1) (d := 186) (v := .bool true) (by kernel_rfl) rfl (by kernel_rfl) (by kernel_rfl) (by kernel_rfl) rfl (fun _ _ _ h => h) ⟨Or.inl ⟨by rfl, fun w hS => by obtain ⟨h0, h1, h2, h3⟩ := hS; go_simp⟩, fun _ => rfl⟩ hS ?_
            simp only [upd]
            refine anyHF_take (i := 2) (d := 187) (v := .bool true) (by kernel_rfl) rfl (by kernel_rfl) (by kernel_rfl) (by kernel_rfl) rfl (fun _ _ _ h => h) ⟨Or.inl ⟨by rfl, fun w hS => by obtain ⟨h0, h1, h2, h3⟩ := hS; go_simp⟩, fun _ => rfl⟩ hS ?_
            simp only [upd]
            refine anyHF_take (i := 3) (d := 188) (v := undef) (by kernel_rfl) rfl (by kernel_rfl) (by kernel_rfl) (by kernel_rfl) rfl (fun _ _ _ h => h) ⟨Or.inr ⟨by rfl, rfl⟩, fun _ => rfl⟩ hS ?_
            simp only [upd]
            refine anyHF_take (i := 4) (d := 189) (v := undef) (by kernel_rfl) rfl (by kernel_rfl) (by kernel_rfl) (by kernel_rfl) rfl (fun _ _ _ h => h) ⟨Or.inr ⟨by rfl, rfl⟩, fun _ => rfl⟩ hS ?_
            simp only [upd]
            refine anyHF_take (i := 5) (d := 190) (v := undef) (by kernel_rfl) rfl (by kernel_rfl) (by kernel_rfl) (by kernel_rfl) rfl (fun _ _ _ h => h) ⟨Or.inr ⟨by rfl, rfl⟩, fun _ => rfl⟩ hS ?_
            simp only [upd]
            refine anyHF_take (i := 6) (d := 191) (v := undef) (by kernel_rfl) rfl (by kernel_rfl) (by kernel_rfl) (by kernel_rfl) rfl (fun _ _ _ h => h) ⟨Or.inr ⟨by rfl, rfl⟩, fun _ => rfl⟩ hS ?_
            simp only [upd]
            refine anyHF_take (i := 8) (d := 193) (v := undef) (by kernel_rfl) rfl (by kernel_rfl) (by kernel_rfl) (by kernel_rfl) rfl (fun _ _ _ h => h) ⟨Or.inr ⟨by rfl, rfl⟩, fun _ => rfl⟩ hS ?_
            simp only [upd]
            refine anyHF_take (i := 10) (d := 195) (v := undef) (by kernel_rfl) rfl (by kernel_rfl) (by kernel_rfl) (by kernel_rfl) rfl (fun _ _ _ h => h) ⟨Or.inr ⟨by rfl, rfl⟩, fun _ => rfl⟩ hS ?_
            simp only [upd]
            refine anyHF_take (i := 11) (d := 196) (v := undef) (by kernel_rfl) rfl (by kernel_rfl) (by kernel_rfl) (by kernel_rfl) rfl (fun _ _ _ h => h) ⟨Or.inr ⟨by rfl, rfl⟩, fun _ => rfl⟩ hS ?_
            simp only [upd]
            refine anyHF_skip (i := 7) (d := 192) (by kernel_rfl) rfl (by rfl) rfl wide_fn hS ?_
            simp only [upd]
            refine anyHF_skip (i := 9) (d := 194) (by kernel_rfl) rfl (by rfl) rfl wide_fn hS ?_
            simp only [upd]
            refine anyHF_take (i := 12) (d := 197) (v := undef) (by kernel_rfl) rfl (by kernel_rfl) (by kernel_rfl) (by kernel_rfl) rfl (fun _ _ _ h => h) ⟨Or.inr ⟨by rfl, rfl⟩, fun _ => rfl⟩ hS ?_
            simp only [upd]
            refine anyHF_take (i := 13) (d := 198) (v := undef) (by kernel_rfl) rfl (by kernel_rfl) (by kernel_rfl) (by kernel_rfl) rfl (fun _ _ _ h => h) ⟨Or.inr ⟨by rfl, rfl⟩, fun _ => rfl⟩ hS ?_
            simp only [upd]
            refine anyHF_take (i := 14) (d := 199) (v := .bool true) (by kernel_rfl) rfl (by kernel_rfl) (by kernel_rfl) (by kernel_rfl) rfl (fun _ _ _ h => h) ⟨Or.inl ⟨by rfl, fun w hS => by obtain ⟨h0, h1, h2, h3⟩ := hS; go_simp⟩, fun _ => rfl⟩ hS ?_
            simp only [upd]
            refine anyHF_take (i := 15) (d := 200) (v := .bool true) (by kernel_rfl) rfl (by kernel_rfl) (by kernel_rfl) (by kernel_rfl) rfl (fun _ _ _ h => h) ⟨Or.inl ⟨by rfl, fun w hS => by obtain ⟨h0, h1, h2, h3⟩ := hS; go_simp⟩, fun _ => rfl⟩ hS ?_
            simp only [upd]
            refine anyHF_one (i := 16) (by kernel_rfl) rfl (by kernel_rfl) (by rfl) ?_
            gi_wp2_with fail
            refine ⟨trivial, (callsIn_wide.2 (Go.Proofs.YtggdlklkjnbbjaaGreatDoor.R.works_any _ (HLW.out _ (below_in hWV hB9)))).mono ?_⟩
            rintro e wz ⟨rfl, hBn⟩
            replace hB9 := below_in hB9 hBn
            clear hS hBn
            have hS : (fun V : World => V.cell? ⟨w.heap.size, 0, none⟩ = some (.int .i64 (X : Int)) ∧ V.cell? ⟨w.heap.size, 1, none⟩ = some (.int .i64 (Y : Int)) ∧ V.cell? ⟨w23.heap.size, 0, none⟩ = some (.int .i64 2) ∧ V.cell? ⟨w23.heap.size + 1, 0, none⟩ = some (.bool own)) wz := HSD.out _ hB9
            gi_wp2
            try (refine ⟨hS, ?_⟩)
            refine anyHF_take (i := 17) (d := 202) (v := .bool true) (by kernel_rfl) rfl (by kernel_rfl) (by kernel_rfl) (by kernel_rfl) rfl (fun _ _ _ h => h) ⟨Or.inl ⟨by rfl, fun w hS => by obtain ⟨h0, h1, h2, h3⟩ := hS; go_simp⟩, fun _ => rfl⟩ hS ?_
            simp only [upd]
            refine anyHF_one (i := 18) (by kernel_rfl) rfl (by kernel_rfl) (by rfl) ?_
            gi_wp2
            refine anyHF_done (by kernel_rfl) ?_ _
            refine NoPanic.normal ?_
            clear hS
            go_wp2
            refine leaves_blks w [D] _ ⟨by simp, fun E hE => ?_⟩ (below_in hWV hB9) (fun W' hB' hk => ?_)
            · obtain rfl := List.mem_singleton.1 hE
              have hDX : E < V.heap.size := by
                rcases Nat.lt_or_ge E V.heap.size with h | h
                · exact h
                · rw [Array.getElem?_eq_none h] at hK; cases hK
              exact ⟨by omega, (hB9.block E hDX).trans hK⟩
            · exact ⟨.bool true, by simp [results, Tryz.results8, go_sem], rfl, hB'⟩
          · rw [h1] at hn
            have hn : Blk V w23.heap.size 3 #[.int .i64 1] := hn
            have HDG := Lib.hid hdg
            clear hdg
            have HSD : Hid (∀ U : World, Below V.heap.size V U → (fun V : World => V.cell? ⟨w.heap.size, 0, none⟩ = some (.int .i64 (X : Int)) ∧ V.cell? ⟨w.heap.size, 1, none⟩ = some (.int .i64 (Y : Int)) ∧ V.cell? ⟨w23.heap.size, 0, none⟩ = some (.int .i64 1) ∧ V.cell? ⟨w23.heap.size + 1, 0, none⟩ = some (.bool own)) U) := fun U hU => ⟨(hU.cell (p := ⟨w.heap.size, 0, none⟩) h6.lt).trans a0, (hU.cell (p := ⟨w.heap.size, 1, none⟩) h6.lt).trans a1, (hU.cell (p := ⟨w23.heap.size, 0, none⟩) hn.lt).trans hn.one, (hU.cell (p := ⟨w23.heap.size + 1, 0, none⟩) hw.lt).trans hw.one⟩
            have c6 := h6.cell 0
            simp only [List.getElem?_toArray, List.getElem?_cons_zero] at c6
            go_wp2
            have hB9 : Below V.heap.size V V.drew := (Below.refl _ _).drew
            have hS : (fun V : World => V.cell? ⟨w.heap.size, 0, none⟩ = some (.int .i64 (X : Int)) ∧ V.cell? ⟨w.heap.size, 1, none⟩ = some (.int .i64 (Y : Int)) ∧ V.cell? ⟨w23.heap.size, 0, none⟩ = some (.int .i64 1) ∧ V.cell? ⟨w23.heap.size + 1, 0, none⟩ = some (.bool own)) V.drew := HSD.out _ hB9
            refine (wpIn_wide (n := 12)).1 (wpIn_mono (region_HF (Q := NoPanic _) (S := (fun V : World => V.cell? ⟨w.heap.size, 0, none⟩ = some (.int .i64 (X : Int)) ∧ V.cell? ⟨w.heap.size, 1, none⟩ = some (.int .i64 (Y : Int)) ∧ V.cell? ⟨w23.heap.size, 0, none⟩ = some (.int .i64 1) ∧ V.cell? ⟨w23.heap.size + 1, 0, none⟩ = some (.bool own))) (by kernel_rfl) ?_) NoPanic.imp)
            refine anyHF_take (i := 0) (d := 185) (v := .int .i64 1) (by kernel_rfl) rfl (by kernel_rfl) (by kernel_rfl) (by kernel_rfl) rfl (fun _ _ _ h => h) ⟨Or.inl ⟨by rfl, fun w hS => by obtain ⟨h0, h1, h2, h3⟩ := hS; go_simp⟩, fun _ => rfl⟩ hS ?_
            simp only [upd]
            refine anyHF_take (i := 1) (d := 186) (v := .bool false) (by kernel_rfl) rfl (by kernel_rfl) (by kernel_rfl) (by kernel_rfl) rfl (fun _ _ _ h => h) ⟨Or.inl ⟨by rfl, fun w hS => by obtain ⟨h0, h1, h2, h3⟩ := hS; go_simp⟩, fun _ => rfl⟩ hS ?_
            simp only [upd]
            refine anyHF_take (i := 2) (d := 187) (v := .bool false) (by kernel_rfl) rfl (by kernel_rfl) (by kernel_rfl) (by kernel_rfl) rfl (fun _ _ _ h => h) ⟨Or.inl ⟨by rfl, fun w hS => by obtain ⟨h0, h1, h2, h3⟩ := hS; go_simp⟩, fun _ => rfl⟩ hS ?_
            simp only [upd]
            refine anyHF_take (i := 3) (d := 188) (v := .int .i64 1) (by kernel_rfl) rfl (by kernel_rfl) (by kernel_rfl) (by kernel_rfl) rfl (fun _ _ _ h => h) ⟨Or.inl ⟨by rfl, fun w hS => by obtain ⟨h0, h1, h2, h3⟩ := hS; go_simp⟩, fun _ => rfl⟩ hS ?_
            simp only [upd]
            refine anyHF_take (i := 4) (d := 189) (v := .bool true) (by kernel_rfl) rfl (by kernel_rfl) (by kernel_rfl) (by kernel_rfl) rfl (fun _ _ _ h => h) ⟨Or.inl ⟨by rfl, fun w hS => by obtain ⟨h0, h1, h2, h3⟩ := hS; go_simp⟩, fun _ => rfl⟩ hS ?_
            simp only [upd]
            refine anyHF_take (i := 5) (d := 190) (v := .bool true) (by kernel_rfl) rfl (by kernel_rfl) (by kernel_rfl) (by kernel_rfl) rfl (fun _ _ _ h => h) ⟨Or.inl ⟨by rfl, fun w hS => by obtain ⟨h0, h1, h2, h3⟩ := hS; go_simp⟩, fun _ => rfl⟩ hS ?_
            simp only [upd]
            refine anyHF_take (i := 6) (d := 191) (v := .int .i64 (P : Int)) (by kernel_rfl) rfl (by kernel_rfl) (by kernel_rfl) (by kernel_rfl) rfl (fun _ _ _ h => h) ⟨Or.inl ⟨by rfl, fun w hS => by obtain ⟨h0, h1, h2, h3⟩ := hS; go_simp⟩, fun _ => rfl⟩ hS ?_
            simp only [upd]
            refine anyHF_take (i := 8) (d := 193) (v := .agg #[.int .i64 (X : Int), .int .i64 (Y : Int)]) (by kernel_rfl) rfl (by kernel_rfl) (by kernel_rfl) (by kernel_rfl) rfl (fun _ _ _ h => h) ⟨Or.inl ⟨by rfl, fun w hS => by obtain ⟨h0, h1, h2, h3⟩ := hS; go_simp⟩, fun _ => rfl⟩ hS ?_
            simp only [upd]
            refine anyHF_take (i := 10) (d := 195) (v := .int .i64 (P : Int)) (by kernel_rfl) rfl (by kernel_rfl) (by kernel_rfl) (by kernel_rfl) rfl (fun _ _ _ h => h) ⟨Or.inl ⟨by rfl, fun w hS => by obtain ⟨h0, h1, h2, h3⟩ := hS; go_simp⟩, fun _ => rfl⟩ hS ?_
            simp only [upd]
            refine anyHF_take (i := 11) (d := 196) (v := .int .i64 (R : Int)) (by kernel_rfl) rfl (by kernel_rfl) (by kernel_rfl) (by kernel_rfl) rfl (fun _ _ _ h => h) ⟨Or.inl ⟨by rfl, fun w hS => by obtain ⟨h0, h1, h2, h3⟩ := hS; go_simp⟩, fun _ => rfl⟩ hS ?_
            simp only [upd]
            refine anyHF_one (i := 7) (by kernel_rfl) rfl (by kernel_rfl) (by rfl) ?_
            gi_wp2_with fail
            refine ⟨trivial, (callsIn_wide.2 (Go.Proofs.YtggdlklkjnbbjaaGreatDoor.R.lcode_any _ _)).mono ?_⟩
            rintro e wc ⟨rfl, hBn⟩
            replace hB9 := below_in hB9 hBn
            clear hS hBn
            have hS : (fun V : World => V.cell? ⟨w.heap.size, 0, none⟩ = some (.int .i64 (X : Int)) ∧ V.cell? ⟨w.heap.size, 1, none⟩ = some (.int .i64 (Y : Int)) ∧ V.cell? ⟨w23.heap.size, 0, none⟩ = some (.int .i64 1) ∧ V.cell? ⟨w23.heap.size + 1, 0, none⟩ = some (.bool own)) wc := HSD.out _ hB9
            gi_wp2
            try (refine ⟨hS, ?_⟩)
            refine anyHF_one (i := 9) (by kernel_rfl) rfl (by kernel_rfl) (by rfl) ?_
            gi_wp2_with fail
            refine ⟨trivial, (callsIn_wide.2 (refDiagonal_any 2 (P : Int) (X : Int) (Y : Int) ⟨by decide, HPM.out⟩ (by have := HX.out; omega) (by have := HY.out; omega) _)).mono ?_⟩
            rintro e wd ⟨rfl, hBn⟩
            rw [HDG.out]
            replace hB9 := below_in hB9 hBn
            clear hS hBn
            have hS : (fun V : World => V.cell? ⟨w.heap.size, 0, none⟩ = some (.int .i64 (X : Int)) ∧ V.cell? ⟨w.heap.size, 1, none⟩ = some (.int .i64 (Y : Int)) ∧ V.cell? ⟨w23.heap.size, 0, none⟩ = some (.int .i64 1) ∧ V.cell? ⟨w23.heap.size + 1, 0, none⟩ = some (.bool own)) wd := HSD.out _ hB9
            gi_wp2
            try (refine ⟨hS, ?_⟩)
            refine anyHF_take (i := 12) (d := 197) (v := .bool true) (by kernel_rfl) rfl (by kernel_rfl) (by kernel_rfl) (by kernel_rfl) rfl (fun _ _ _ h => h) ⟨Or.inl ⟨by rfl, fun w hS => by obtain ⟨h0, h1, h2, h3⟩ := hS; go_simp⟩, fun _ => rfl⟩ hS ?_
            simp only [upd]
            refine anyHF_take (i := 13) (d := 198) (v := .bool true) (by kernel_rfl) rfl (by kernel_rfl) (by kernel_rfl) (by kernel_rfl) rfl (fun _ _ _ h => h) ⟨Or.inl ⟨by rfl, fun w hS => by obtain ⟨h0, h1, h2, h3⟩ := hS; go_simp⟩, fun _ => rfl⟩ hS ?_
            simp only [upd]
            refine anyHF_take (i := 14) (d := 199) (v := .bool true) (by kernel_rfl) rfl (by kernel_rfl) (by kernel_rfl) (by kernel_rfl) rfl (fun _ _ _ h => h) ⟨Or.inl ⟨by rfl, fun w hS => by obtain ⟨h0, h1, h2, h3⟩ := hS; go_simp⟩, fun _ => rfl⟩ hS ?_
            simp only [upd]
            refine anyHF_take (i := 15) (d := 200) (v := .bool true) (by kernel_rfl) rfl (by kernel_rfl) (by kernel_rfl) (by kernel_rfl) rfl (fun _ _ _ h => h) ⟨Or.inl ⟨by rfl, fun w hS => by obtain ⟨h0, h1, h2, h3⟩ := hS; go_simp⟩, fun _ => rfl⟩ hS ?_
            simp only [upd]
            refine anyHF_one (i := 16) (by kernel_rfl) rfl (by kernel_rfl) (by rfl) ?_
            gi_wp2_with fail
            refine ⟨trivial, (callsIn_wide.2 (Go.Proofs.YtggdlklkjnbbjaaGreatDoor.R.works_any _ (HLW.out _ (below_in hWV hB9)))).mono ?_⟩
            rintro e wz ⟨rfl, hBn⟩
            replace hB9 := below_in hB9 hBn
            clear hS hBn
            have hS : (fun V : World => V.cell? ⟨w.heap.size, 0, none⟩ = some (.int .i64 (X : Int)) ∧ V.cell? ⟨w.heap.size, 1, none⟩ = some (.int .i64 (Y : Int)) ∧ V.cell? ⟨w23.heap.size, 0, none⟩ = some (.int .i64 1) ∧ V.cell? ⟨w23.heap.size + 1, 0, none⟩ = some (.bool own)) wz := HSD.out _ hB9
            gi_wp2
            try (refine ⟨hS, ?_⟩)
            refine anyHF_take (i := 17) (d := 202) (v := .bool true) (by kernel_rfl) rfl (by kernel_rfl) (by kernel_rfl) (by kernel_rfl) rfl (fun _ _ _ h => h) ⟨Or.inl ⟨by rfl, fun w hS => by obtain ⟨h0, h1, h2, h3⟩ := hS; go_simp⟩, fun _ => rfl⟩ hS ?_
            simp only [upd]
            refine anyHF_one (i := 18) (by kernel_rfl) rfl (by kernel_rfl) (by rfl) ?_
            gi_wp2
            refine anyHF_done (by kernel_rfl) ?_ _
            refine NoPanic.normal ?_
            clear hS
            go_wp2
            refine leaves_blks w [D] _ ⟨by simp, fun E hE => ?_⟩ (below_in hWV hB9) (fun W' hB' hk => ?_)
            · obtain rfl := List.mem_singleton.1 hE
              have hDX : E < V.heap.size := by
                rcases Nat.lt_or_ge E V.heap.size with h | h
                · exact h
                · rw [Array.getElem?_eq_none h] at hK; cases hK
              exact ⟨by omega, (hB9.block E hDX).trans hK⟩
            · exact ⟨.bool true, by simp [results, Tryz.results8, go_sem], rfl, hB'⟩
        · have dX : decide ((X : Int) < (R : Int)) = false := decide_eq_false (by omega)
          have dX2 : decide ((X : Int) < (P : Int) - 1) = false := decide_eq_false (by have := HPR.out; omega)
          have q2 : IntKind.i64.wrap ((P : Int) - 1) = (R : Int) := (IntWalk.i64_left _).trans q1
          obtain rfl : own = true := by rw [← hown]; exact decide_eq_true (HOWN.out (by omega))
          clear hown
          have c6 := h6.cell 0
          simp only [List.getElem?_toArray, List.getElem?_cons_zero] at c6
          by_cases hXP : X = P
          · subst hXP
            have h1 : tl.length = 1 := HTP.out rfl
            rw [h1] at hn
            have hn : Blk V w23.heap.size 3 #[.int .i64 1] := hn
            have hB9 : Below V.heap.size V V := Below.refl _ _
            have cn := hn.one
            have cw := hw.one
            have eP : ((X : Int) == (X : Int)) = true := by simp
            go_wp2_with (go_at_call 26; refine (Go.Proofs.YtggdlklkjnbbjaaGreatDoor.R.works_any _ (HLW.out _ hWV)).mono ?_; rintro e wz ⟨rfl, hBn⟩; replace hB9 := below_in hB9 hBn)
            refine leaves_blks w [D] _ ⟨by simp, fun E hE => ?_⟩ (below_in hWV hB9) (fun W' hB' hk => ?_)
            · obtain rfl := List.mem_singleton.1 hE
              have hDX : E < V.heap.size := by
                rcases Nat.lt_or_ge E V.heap.size with h | h
                · exact h
                · rw [Array.getElem?_eq_none h] at hK; cases hK
              exact ⟨by omega, (hB9.block E hDX).trans hK⟩
            · exact ⟨.bool true, by simp [results, Tryz.results8, go_sem], rfl, hB'⟩
          · have eP : ((X : Int) == (P : Int)) = false := by rw [beq_eq_false_iff_ne]; omega
            rcases HTA.out hXP with h2 | ⟨h1, hdg⟩
            · rw [h2] at hn
              have hn : Blk V w23.heap.size 3 #[.int .i64 2] := hn
              have HSD : Hid (∀ U : World, Below V.heap.size V U → (fun V : World => V.cell? ⟨w.heap.size, 0, none⟩ = some (.int .i64 (X : Int)) ∧ V.cell? ⟨w.heap.size, 1, none⟩ = some (.int .i64 (Y : Int)) ∧ V.cell? ⟨w23.heap.size, 0, none⟩ = some (.int .i64 2) ∧ V.cell? ⟨w23.heap.size + 1, 0, none⟩ = some (.bool true)) U) := fun U hU => ⟨(hU.cell (p := ⟨w.heap.size, 0, none⟩) h6.lt).trans a0, (hU.cell (p := ⟨w.heap.size, 1, none⟩) h6.lt).trans a1, (hU.cell (p := ⟨w23.heap.size, 0, none⟩) hn.lt).trans hn.one, (hU.cell (p := ⟨w23.heap.size + 1, 0, none⟩) hw.lt).trans hw.one⟩
              go_wp2
              have hB9 : Below V.heap.size V V.drew := (Below.refl _ _).drew
              have hS : (fun V : World => V.cell? ⟨w.heap.size, 0, none⟩ = some (.int .i64 (X : Int)) ∧ V.cell? ⟨w.heap.size, 1, none⟩ = some (.int .i64 (Y : Int)) ∧ V.cell? ⟨w23.heap.size, 0, none⟩ = some (.int .i64 2) ∧ V.cell? ⟨w23.heap.size + 1, 0, none⟩ = some (.bool true)) V.drew := HSD.out _ hB9
              refine (wpIn_wide (n := 12)).1 (wpIn_mono (region_HF (Q := NoPanic _) (S := (fun V : World => V.cell? ⟨w.heap.size, 0, none⟩ = some (.int .i64 (X : Int)) ∧ V.cell? ⟨w.heap.size, 1, none⟩ = some (.int .i64 (Y : Int)) ∧ V.cell? ⟨w23.heap.size, 0, none⟩ = some (.int .i64 2) ∧ V.cell? ⟨w23.heap.size + 1, 0, none⟩ = some (.bool true))) (by kernel_rfl) ?_) NoPanic.imp)
              refine anyHF_take (i := 0) (d := 216) (v := .bool true) (by kernel_rfl) rfl (by kernel_rfl) (by kernel_rfl) (by kernel_rfl) rfl (fun _ _ _ h => h) ⟨Or.inl ⟨by rfl, fun w hS => by obtain ⟨h0, h1, h2, h3⟩ := hS; go_simp⟩, fun _ => rfl⟩ hS ?_
              simp only [upd]
              refine anyHF_take (i := 1) (d := 217) (v := .bool true) (by kernel_rfl) rfl (by kernel_rfl) (by kernel_rfl) (by kernel_rfl) rfl (fun _ _ _ h => h) ⟨Or.inl ⟨by rfl, fun w hS => by obtain ⟨h0, h1, h2, h3⟩ := hS; go_simp⟩, fun _ => rfl⟩ hS ?_
              simp only [upd]
              refine anyHF_take (i := 2) (d := 218) (v := .int .i64 2) (by kernel_rfl) rfl (by kernel_rfl) (by kernel_rfl) (by kernel_rfl) rfl (fun _ _ _ h => h) ⟨Or.inl ⟨by rfl, fun w hS => by obtain ⟨h0, h1, h2, h3⟩ := hS; go_simp⟩, fun _ => rfl⟩ hS ?_
              simp only [upd]
              refine anyHF_take (i := 3) (d := 219) (v := .bool true) (by kernel_rfl) rfl (by kernel_rfl) (by kernel_rfl) (by kernel_rfl) rfl (fun _ _ _ h => h) ⟨Or.inl ⟨by rfl, fun w hS => by obtain ⟨h0, h1, h2, h3⟩ := hS; go_simp⟩, fun _ => rfl⟩ hS ?_
              simp only [upd]
              refine anyHF_take (i := 4) (d := 220) (v := .bool true) (by kernel_rfl) rfl (by kernel_rfl) (by kernel_rfl) (by kernel_rfl) rfl (fun _ _ _ h => h) ⟨Or.inl ⟨by rfl, fun w hS => by obtain ⟨h0, h1, h2, h3⟩ := hS; go_simp⟩, fun _ => rfl⟩ hS ?_
              simp only [upd]
              refine anyHF_take (i := 5) (d := 221) (v := undef) (by kernel_rfl) rfl (by kernel_rfl) (by kernel_rfl) (by kernel_rfl) rfl (fun _ _ _ h => h) ⟨Or.inr ⟨by rfl, rfl⟩, fun _ => rfl⟩ hS ?_
              simp only [upd]
              refine anyHF_take (i := 6) (d := 222) (v := undef) (by kernel_rfl) rfl (by kernel_rfl) (by kernel_rfl) (by kernel_rfl) rfl (fun _ _ _ h => h) ⟨Or.inr ⟨by rfl, rfl⟩, fun _ => rfl⟩ hS ?_
              simp only [upd]
              refine anyHF_take (i := 7) (d := 223) (v := undef) (by kernel_rfl) rfl (by kernel_rfl) (by kernel_rfl) (by kernel_rfl) rfl (fun _ _ _ h => h) ⟨Or.inr ⟨by rfl, rfl⟩, fun _ => rfl⟩ hS ?_
              simp only [upd]
              refine anyHF_take (i := 8) (d := 224) (v := undef) (by kernel_rfl) rfl (by kernel_rfl) (by kernel_rfl) (by kernel_rfl) rfl (fun _ _ _ h => h) ⟨Or.inr ⟨by rfl, rfl⟩, fun _ => rfl⟩ hS ?_
              simp only [upd]
              refine anyHF_take (i := 10) (d := 226) (v := undef) (by kernel_rfl) rfl (by kernel_rfl) (by kernel_rfl) (by kernel_rfl) rfl (fun _ _ _ h => h) ⟨Or.inr ⟨by rfl, rfl⟩, fun _ => rfl⟩ hS ?_
              simp only [upd]
              refine anyHF_take (i := 12) (d := 228) (v := undef) (by kernel_rfl) rfl (by kernel_rfl) (by kernel_rfl) (by kernel_rfl) rfl (fun _ _ _ h => h) ⟨Or.inr ⟨by rfl, rfl⟩, fun _ => rfl⟩ hS ?_
              simp only [upd]
              refine anyHF_take (i := 13) (d := 229) (v := undef) (by kernel_rfl) rfl (by kernel_rfl) (by kernel_rfl) (by kernel_rfl) rfl (fun _ _ _ h => h) ⟨Or.inr ⟨by rfl, rfl⟩, fun _ => rfl⟩ hS ?_
              simp only [upd]
              refine anyHF_skip (i := 9) (d := 225) (by kernel_rfl) rfl (by rfl) rfl wide_fn hS ?_
              simp only [upd]
              refine anyHF_skip (i := 11) (d := 227) (by kernel_rfl) rfl (by rfl) rfl wide_fn hS ?_
              simp only [upd]
              refine anyHF_take (i := 14) (d := 230) (v := undef) (by kernel_rfl) rfl (by kernel_rfl) (by kernel_rfl) (by kernel_rfl) rfl (fun _ _ _ h => h) ⟨Or.inr ⟨by rfl, rfl⟩, fun _ => rfl⟩ hS ?_
              simp only [upd]
              refine anyHF_take (i := 15) (d := 231) (v := undef) (by kernel_rfl) rfl (by kernel_rfl) (by kernel_rfl) (by kernel_rfl) rfl (fun _ _ _ h => h) ⟨Or.inr ⟨by rfl, rfl⟩, fun _ => rfl⟩ hS ?_
              simp only [upd]
              refine anyHF_take (i := 16) (d := 232) (v := .bool true) (by kernel_rfl) rfl (by kernel_rfl) (by kernel_rfl) (by kernel_rfl) rfl (fun _ _ _ h => h) ⟨Or.inl ⟨by rfl, fun w hS => by obtain ⟨h0, h1, h2, h3⟩ := hS; go_simp⟩, fun _ => rfl⟩ hS ?_
              simp only [upd]
              refine anyHF_take (i := 17) (d := 233) (v := .bool true) (by kernel_rfl) rfl (by kernel_rfl) (by kernel_rfl) (by kernel_rfl) rfl (fun _ _ _ h => h) ⟨Or.inl ⟨by rfl, fun w hS => by obtain ⟨h0, h1, h2, h3⟩ := hS; go_simp⟩, fun _ => rfl⟩ hS ?_
              simp only [upd]
              refine anyHF_take (i := 18) (d := 234) (v := .bool true) (by kernel_rfl) rfl (by kernel_rfl) (by kernel_rfl) (by kernel_rfl) rfl (fun _ _ _ h => h) ⟨Or.inl ⟨by rfl, fun w hS => by obtain ⟨h0, h1, h2, h3⟩ := hS; go_simp⟩, fun _ => rfl⟩ hS ?_
              simp only [upd]
              refine anyHF_one (i := 19) (by kernel_rfl) rfl (by kernel_rfl) (by rfl) ?_
              gi_wp2_with fail
              refine ⟨trivial, (callsIn_wide.2 (Go.Proofs.YtggdlklkjnbbjaaGreatDoor.R.works_any _ (HLW.out _ (below_in hWV hB9)))).mono ?_⟩
              rintro e wz ⟨rfl, hBn⟩
              replace hB9 := below_in hB9 hBn
              clear hS hBn
              have hS : (fun V : World => V.cell? ⟨w.heap.size, 0, none⟩ = some (.int .i64 (X : Int)) ∧ V.cell? ⟨w.heap.size, 1, none⟩ = some (.int .i64 (Y : Int)) ∧ V.cell? ⟨w23.heap.size, 0, none⟩ = some (.int .i64 2) ∧ V.cell? ⟨w23.heap.size + 1, 0, none⟩ = some (.bool true)) wz := HSD.out _ hB9
              gi_wp2
              try (refine ⟨hS, ?_⟩)
              refine anyHF_take (i := 20) (d := 236) (v := .bool true) (by kernel_rfl) rfl (by kernel_rfl) (by kernel_rfl) (by kernel_rfl) rfl (fun _ _ _ h => h) ⟨Or.inl ⟨by rfl, fun w hS => by obtain ⟨h0, h1, h2, h3⟩ := hS; go_simp⟩, fun _ => rfl⟩ hS ?_
              simp only [upd]
              refine anyHF_one (i := 21) (by kernel_rfl) rfl (by kernel_rfl) (by rfl) ?_
              gi_wp2
              refine anyHF_done (by kernel_rfl) ?_ _
              refine NoPanic.normal ?_
              clear hS
              go_wp2
              refine leaves_blks w [D] _ ⟨by simp, fun E hE => ?_⟩ (below_in hWV hB9) (fun W' hB' hk => ?_)
              · obtain rfl := List.mem_singleton.1 hE
                have hDX : E < V.heap.size := by
                  rcases Nat.lt_or_ge E V.heap.size with h | h
                  · exact h
                  · rw [Array.getElem?_eq_none h] at hK; cases hK
                exact ⟨by omega, (hB9.block E hDX).trans hK⟩
              · exact ⟨.bool true, by simp [results, Tryz.results8, go_sem], rfl, hB'⟩
            · rw [h1] at hn
              have hn : Blk V w23.heap.size 3 #[.int .i64 1] := hn
              have HDG := Lib.hid hdg
              clear hdg
              have HSD : Hid (∀ U : World, Below V.heap.size V U → (fun V : World => V.cell? ⟨w.heap.size, 0, none⟩ = some (.int .i64 (X : Int)) ∧ V.cell? ⟨w.heap.size, 1, none⟩ = some (.int .i64 (Y : Int)) ∧ V.cell? ⟨w23.heap.size, 0, none⟩ = some (.int .i64 1) ∧ V.cell? ⟨w23.heap.size + 1, 0, none⟩ = some (.bool true)) U) := fun U hU => ⟨(hU.cell (p := ⟨w.heap.size, 0, none⟩) h6.lt).trans a0, (hU.cell (p := ⟨w.heap.size, 1, none⟩) h6.lt).trans a1, (hU.cell (p := ⟨w23.heap.size, 0, none⟩) hn.lt).trans hn.one, (hU.cell (p := ⟨w23.heap.size + 1, 0, none⟩) hw.lt).trans hw.one⟩
              go_wp2
              have hB9 : Below V.heap.size V V.drew := (Below.refl _ _).drew
              have hS : (fun V : World => V.cell? ⟨w.heap.size, 0, none⟩ = some (.int .i64 (X : Int)) ∧ V.cell? ⟨w.heap.size, 1, none⟩ = some (.int .i64 (Y : Int)) ∧ V.cell? ⟨w23.heap.size, 0, none⟩ = some (.int .i64 1) ∧ V.cell? ⟨w23.heap.size + 1, 0, none⟩ = some (.bool true)) V.drew := HSD.out _ hB9
              refine (wpIn_wide (n := 12)).1 (wpIn_mono (region_HF (Q := NoPanic _) (S := (fun V : World => V.cell? ⟨w.heap.size, 0, none⟩ = some (.int .i64 (X : Int)) ∧ V.cell? ⟨w.heap.size, 1, none⟩ = some (.int .i64 (Y : Int)) ∧ V.cell? ⟨w23.heap.size, 0, none⟩ = some (.int .i64 1) ∧ V.cell? ⟨w23.heap.size + 1, 0, none⟩ = some (.bool true))) (by kernel_rfl) ?_) NoPanic.imp)
              refine anyHF_take (i := 0) (d := 216) (v := .bool true) (by kernel_rfl) rfl (by kernel_rfl) (by kernel_rfl) (by kernel_rfl) rfl (fun _ _ _ h => h) ⟨Or.inl ⟨by rfl, fun w hS => by obtain ⟨h0, h1, h2, h3⟩ := hS; go_simp⟩, fun _ => rfl⟩ hS ?_
              simp only [upd]
              refine anyHF_take (i := 1) (d := 217) (v := .bool true) (by kernel_rfl) rfl (by kernel_rfl) (by kernel_rfl) (by kernel_rfl) rfl (fun _ _ _ h => h) ⟨Or.inl ⟨by rfl, fun w hS => by obtain ⟨h0, h1, h2, h3⟩ := hS; go_simp⟩, fun _ => rfl⟩ hS ?_
              simp only [upd]
              refine anyHF_take (i := 2) (d := 218) (v := .int .i64 1) (by kernel_rfl) rfl (by kernel_rfl) (by kernel_rfl) (by kernel_rfl) rfl (fun _ _ _ h => h) ⟨Or.inl ⟨by rfl, fun w hS => by obtain ⟨h0, h1, h2, h3⟩ := hS; go_simp⟩, fun _ => rfl⟩ hS ?_
              simp only [upd]
              refine anyHF_take (i := 3) (d := 219) (v := .bool false) (by kernel_rfl) rfl (by kernel_rfl) (by kernel_rfl) (by kernel_rfl) rfl (fun _ _ _ h => h) ⟨Or.inl ⟨by rfl, fun w hS => by obtain ⟨h0, h1, h2, h3⟩ := hS; go_simp⟩, fun _ => rfl⟩ hS ?_
              simp only [upd]
              refine anyHF_take (i := 4) (d := 220) (v := .bool false) (by kernel_rfl) rfl (by kernel_rfl) (by kernel_rfl) (by kernel_rfl) rfl (fun _ _ _ h => h) ⟨Or.inl ⟨by rfl, fun w hS => by obtain ⟨h0, h1, h2, h3⟩ := hS; go_simp⟩, fun _ => rfl⟩ hS ?_
              simp only [upd]
              refine anyHF_take (i := 5) (d := 221) (v := .int .i64 1) (by kernel_rfl) rfl (by kernel_rfl) (by kernel_rfl) (by kernel_rfl) rfl (fun _ _ _ h => h) ⟨Or.inl ⟨by rfl, fun w hS => by obtain ⟨h0, h1, h2, h3⟩ := hS; go_simp⟩, fun _ => rfl⟩ hS ?_
              simp only [upd]
              refine anyHF_take (i := 6) (d := 222) (v := .bool true) (by kernel_rfl) rfl (by kernel_rfl) (by kernel_rfl) (by kernel_rfl) rfl (fun _ _ _ h => h) ⟨Or.inl ⟨by rfl, fun w hS => by obtain ⟨h0, h1, h2, h3⟩ := hS; go_simp⟩, fun _ => rfl⟩ hS ?_
              simp only [upd]
              refine anyHF_take (i := 7) (d := 223) (v := .bool true) (by kernel_rfl) rfl (by kernel_rfl) (by kernel_rfl) (by kernel_rfl) rfl (fun _ _ _ h => h) ⟨Or.inl ⟨by rfl, fun w hS => by obtain ⟨h0, h1, h2, h3⟩ := hS; go_simp⟩, fun _ => rfl⟩ hS ?_
              simp only [upd]
              refine anyHF_take (i := 8) (d := 224) (v := .int .i64 (P : Int)) (by kernel_rfl) rfl (by kernel_rfl) (by kernel_rfl) (by kernel_rfl) rfl (fun _ _ _ h => h) ⟨Or.inl ⟨by rfl, fun w hS => by obtain ⟨h0, h1, h2, h3⟩ := hS; go_simp⟩, fun _ => rfl⟩ hS ?_
              simp only [upd]
              refine anyHF_take (i := 10) (d := 226) (v := .agg #[.int .i64 (X : Int), .int .i64 (Y : Int)]) (by kernel_rfl) rfl (by kernel_rfl) (by kernel_rfl) (by kernel_rfl) rfl (fun _ _ _ h => h) ⟨Or.inl ⟨by rfl, fun w hS => by obtain ⟨h0, h1, h2, h3⟩ := hS; go_simp⟩, fun _ => rfl⟩ hS ?_
              simp only [upd]
              refine anyHF_take (i := 12) (d := 228) (v := .int .i64 (P : Int)) (by kernel_rfl) rfl (by kernel_rfl) (by kernel_rfl) (by kernel_rfl) rfl (fun _ _ _ h => h) ⟨Or.inl ⟨by rfl, fun w hS => by obtain ⟨h0, h1, h2, h3⟩ := hS; go_simp⟩, fun _ => rfl⟩ hS ?_
              simp only [upd]
              refine anyHF_take (i := 13) (d := 229) (v := .int .i64 (R : Int)) (by kernel_rfl) rfl (by kernel_rfl) (by kernel_rfl) (by kernel_rfl) rfl (fun _ _ _ h => h) ⟨Or.inl ⟨by rfl, fun w hS => by obtain ⟨h0, h1, h2, h3⟩ := hS; go_simp⟩, fun _ => rfl⟩ hS ?_
              simp only [upd]
              refine anyHF_one (i := 9) (by kernel_rfl) rfl (by kernel_rfl) (by rfl) ?_
              gi_wp2_with fail
              refine ⟨trivial, (callsIn_wide.2 (Go.Proofs.YtggdlklkjnbbjaaGreatDoor.R.lcode_any _ _)).mono ?_⟩
              rintro e wc ⟨rfl, hBn⟩
              replace hB9 := below_in hB9 hBn
              clear hS hBn
              have hS : (fun V : World => V.cell? ⟨w.heap.size, 0, none⟩ = some (.int .i64 (X : Int)) ∧ V.cell? ⟨w.heap.size, 1, none⟩ = some (.int .i64 (Y : Int)) ∧ V.cell? ⟨w23.heap.size, 0, none⟩ = some (.int .i64 1) ∧ V.cell? ⟨w23.heap.size + 1, 0, none⟩ = some (.bool true)) wc := HSD.out _ hB9
              gi_wp2
              try (refine ⟨hS, ?_⟩)
              refine anyHF_one (i := 11) (by kernel_rfl) rfl (by kernel_rfl) (by rfl) ?_
              gi_wp2_with fail
              refine ⟨trivial, (callsIn_wide.2 (refDiagonal_any 2 (P : Int) (X : Int) (Y : Int) ⟨by decide, HPM.out⟩ (by have := HX.out; omega) (by have := HY.out; omega) _)).mono ?_⟩
              rintro e wd ⟨rfl, hBn⟩
              rw [HDG.out]
              replace hB9 := below_in hB9 hBn
              clear hS hBn
              have hS : (fun V : World => V.cell? ⟨w.heap.size, 0, none⟩ = some (.int .i64 (X : Int)) ∧ V.cell? ⟨w.heap.size, 1, none⟩ = some (.int .i64 (Y : Int)) ∧ V.cell? ⟨w23.heap.size, 0, none⟩ = some (.int .i64 1) ∧ V.cell? ⟨w23.heap.size + 1, 0, none⟩ = some (.bool true)) wd := HSD.out _ hB9
              gi_wp2
              try (refine ⟨hS, ?_⟩)
              refine anyHF_take (i := 14) (d := 230) (v := .bool true) (by kernel_rfl) rfl (by kernel_rfl) (by kernel_rfl) (by kernel_rfl) rfl (fun _ _ _ h => h) ⟨Or.inl ⟨by rfl, fun w hS => by obtain ⟨h0, h1, h2, h3⟩ := hS; go_simp⟩, fun _ => rfl⟩ hS ?_
              simp only [upd]
              refine anyHF_take (i := 15) (d := 231) (v := .bool true) (by kernel_rfl) rfl (by kernel_rfl) (by kernel_rfl) (by kernel_rfl) rfl (fun _ _ _ h => h) ⟨Or.inl ⟨by rfl, fun w hS => by obtain ⟨h0, h1, h2, h3⟩ := hS; go_simp⟩, fun _ => rfl⟩ hS ?_
              simp only [upd]
              refine anyHF_take (i := 16) (d := 232) (v := .bool true) (by kernel_rfl) rfl (by kernel_rfl) (by kernel_rfl) (by kernel_rfl) rfl (fun _ _ _ h => h) ⟨Or.inl ⟨by rfl, fun w hS => by obtain ⟨h0, h1, h2, h3⟩ := hS; go_simp⟩, fun _ => rfl⟩ hS ?_
              simp only [upd]
              refine anyHF_take (i := 17) (d := 233) (v := .bool true) (by kernel_rfl) rfl (by kernel_rfl) (by kernel_rfl) (by kernel_rfl) rfl (fun _ _ _ h => h) ⟨Or.inl ⟨by rfl, fun w hS => by obtain ⟨h0, h1, h2, h3⟩ := hS; go_simp⟩, fun _ => rfl⟩ hS ?_
              simp only [upd]
              refine anyHF_take (i := 18) (d := 234) (v := .bool true) (by kernel_rfl) rfl (by kernel_rfl) (by kernel_rfl) (by kernel_rfl) rfl (fun _ _ _ h => h) ⟨Or.inl ⟨by rfl, fun w hS => by obtain ⟨h0, h1, h2, h3⟩ := hS; go_simp⟩, fun _ => rfl⟩ hS ?_
              simp only [upd]
              refine anyHF_one (i := 19) (by kernel_rfl) rfl (by kernel_rfl) (by rfl) ?_
              gi_wp2_with fail
              refine ⟨trivial, (callsIn_wide.2 (Go.Proofs.YtggdlklkjnbbjaaGreatDoor.R.works_any _ (HLW.out _ (below_in hWV hB9)))).mono ?_⟩
              rintro e wz ⟨rfl, hBn⟩
              replace hB9 := below_in hB9 hBn
              clear hS hBn
              have hS : (fun V : World => V.cell? ⟨w.heap.size, 0, none⟩ = some (.int .i64 (X : Int)) ∧ V.cell? ⟨w.heap.size, 1, none⟩ = some (.int .i64 (Y : Int)) ∧ V.cell? ⟨w23.heap.size, 0, none⟩ = some (.int .i64 1) ∧ V.cell? ⟨w23.heap.size + 1, 0, none⟩ = some (.bool true)) wz := HSD.out _ hB9
              gi_wp2
              try (refine ⟨hS, ?_⟩)
              refine anyHF_take (i := 20) (d := 236) (v := .bool true) (by kernel_rfl) rfl (by kernel_rfl) (by kernel_rfl) (by kernel_rfl) rfl (fun _ _ _ h => h) ⟨Or.inl ⟨by rfl, fun w hS => by obtain ⟨h0, h1, h2, h3⟩ := hS; go_simp⟩, fun _ => rfl⟩ hS ?_
              simp only [upd]
              refine anyHF_one (i := 21) (by kernel_rfl) rfl (by kernel_rfl) (by rfl) ?_
              gi_wp2
              refine anyHF_done (by kernel_rfl) ?_ _
              refine NoPanic.normal ?_
              clear hS
              go_wp2
              refine leaves_blks w [D] _ ⟨by simp, fun E hE => ?_⟩ (below_in hWV hB9) (fun W' hB' hk => ?_)
              · obtain rfl := List.mem_singleton.1 hE
                have hDX : E < V.heap.size := by
                  rcases Nat.lt_or_ge E V.heap.size with h | h
                  · exact h
                  · rw [Array.getElem?_eq_none h] at hK; cases hK
                exact ⟨by omega, (hB9.block E hDX).trans hK⟩
              · exact ⟨.bool true, by simp [results, Tryz.results8, go_sem], rfl, hB'⟩

open Go.Proofs.YtggdlklkjnbbjaaGreatDoor.E Go.Proofs.YtggdlklkjnbbjaaGreatDoor.C Go.Proofs.YtggdlklkjnbbjaaGreatDoor.R in
set_option maxRecDepth 100000 in
set_option maxHeartbeats 4000000 in
theorem walk (p : Int) (v : Value) (a : List (List (List UInt8))) (x y : Int) (v2 : Value) (bs : List UInt8) (w : World) (hL : Laid w) (wp : -9223372036854775808 ≤ p ∧ p ≤ 9223372036854775807) (hC : Cols w.heap.size w v a) (wx : -9223372036854775808 ≤ x ∧ x ≤ 9223372036854775807) (wy : -9223372036854775808 ≤ y ∧ y ≤ 9223372036854775807) (hD : Bytes w.heap.size w v2 bs) :
    Calls Tryz.prog 8 #[.int .i64 p, v, .agg #[.int .i64 x, .int .i64 y], v2] w fun e w' => e = .returned (.bool true) ∧ Below w.heap.size w w' := by
  by_cases hf0 : Few6 a
  case neg => exact n1 p v a x y v2 bs w hL wp hC wx wy hD hf0
  by_cases hr0 : DataR p a
  case neg => exact n2 p v a x y v2 bs w hL wp hC wx wy hD hf0 hr0
  by_cases hc : HasCell 2 p x y
  case neg => exact c1 p v a x y v2 bs w hL wp hC wx wy hD hf0 hr0 hc
  by_cases hb : bs.length = (firstC a).length
  case neg => exact c2 p v a x y v2 bs w hL wp hC wx wy hD hf0 hr0 hc hb
  by_cases hb0 : bs = List.replicate bs.length 0
  case pos => exact c3 p v a x y v2 bs w hL wp hC wx wy hD hf0 hr0 hc hb hb0
  exact c4 p v a x y v2 bs w hL wp hC wx wy hD hf0 hr0 hc hb hb0

set_option maxRecDepth 100000 in
theorem lifted (os : Os) (started : os.Started) (H : Type) (enc : TypeId × Value → H) :
    ReturnsInHanded {} Tryz.checked os 8 .any (fun w args => (Rows.rdpHoldsSpec.pre enc Tryz.prog Tryz.f8 [] false w args ∧ laidMetH Tryz.prog laidL w) ∧ sizedMet enc Tryz.prog Tryz.f8 (OpenSpec.ofChange Rows.rdpHoldsSpec) false w args)
      (Rows.rdpHoldsSpec.post enc Tryz.prog Tryz.f8 false true false false) := by
  refine returnsInHanded_of_change_and (C := Tryz.checked) (X := fun w _ => laidMetH Tryz.prog laidL w) (fun _ _ _ hh h => h.of_heap hh) own started (by kernel_rfl) Tryz.func8
    (ChangeSpec.witness_shaped (enc := enc) (C := Tryz.checked) (os := os) (X := fun w _ => laidMetH Tryz.prog laidL w) false (World.doorLaid Tryz.prog 200 os) #[.int .i64 0, .slice none 0 0, .agg #[.int .i64 0, .int .i64 0], .slice none 0 0] 8 rfl (World.shaped_of_RefB (by kernel_rfl) (by kernel_rfl)) (by kernel_rfl) (by kernel_rfl) (by kernel_rfl) (door_met os _)) ?_
  intro W base args ds gs before hval0 hW _ _ hL0 _
  have hL := laid_of hL0
  have hval : ∀ (j : Nat) t v, Tryz.f8.params[j]? = some t → args[j]? = some v → Value.okWide Tryz.prog W .any base t v := hval0
  have hW' := hW
  obtain ⟨p, q, hA0, hV, rfl, hfz, hnd⟩ := hW
  have hA : DataW.TrodAll enc Tryz.prog W 0 (fun _ => true) true Tryz.f8.params.toList args.toList ds p := hA0
  rw [Tryz.params8] at hA hval
  obtain ⟨v0, vs0, d0, ds0, p0, q0, hargs, rfl, rfl, h0, r0⟩ := trodAll_cons hA
  obtain ⟨v1, vs1, d1, ds1, p1, q1, rfl, rfl, rfl, h1, r1⟩ := trodAll_cons r0
  obtain ⟨v2, vs2, d2, ds2, p2, q2, rfl, rfl, rfl, h2, r2⟩ := trodAll_cons r1
  obtain ⟨v3, vs3, d3, ds3, p3, q3, rfl, rfl, rfl, h3, r3⟩ := trodAll_cons r2
  obtain ⟨rfl, rfl, rfl⟩ := trodAll_nil r3
  obtain rfl : args = #[v0, v1, v2, v3] := by cases args; simp_all
  obtain ⟨rfl, rfl⟩ := trodVars_none hV
  obtain ⟨a0, rfl, rfl, rfl, w0⟩ := open_int Tryz.underlying3 (hval 0 3 v0 rfl rfl) h0
  have k1 := h1
  have lt1 : ∀ x ∈ p1, x.block < W.heap.size := by obtain ⟨m, hm⟩ := k1; exact DataW.trod_lt m _ _ _ hm
  obtain ⟨a1, len1, cap1, rfl⟩ := okWide_slice Tryz.underlying22 (hval 1 22 v1 rfl rfl)
  obtain ⟨l1, w1⟩ : ∃ css, E.Cols W.heap.size W (.slice a1 len1 cap1) css := by obtain ⟨fuel, hf⟩ := h1; exact E.open_cols hf
  have k2 := h2
  have lt2 : ∀ x ∈ p2, x.block < W.heap.size := by obtain ⟨m, hm⟩ := k2; exact DataW.trod_lt m _ _ _ hm
  obtain ⟨x2, y2, rfl, w2⟩ := open_at (hval 2 56 v2 rfl rfl) h2
  have k3 := h3
  have lt3 : ∀ x ∈ p3, x.block < W.heap.size := by obtain ⟨m, hm⟩ := k3; exact DataW.trod_lt m _ _ _ hm
  obtain ⟨a3, len3, cap3, rfl⟩ := okWide_slice Tryz.underlying25 (hval 3 25 v3 rfl rfl)
  obtain ⟨l3, w3⟩ : ∃ bs, C.Bytes W.heap.size W (.slice a3 len3 cap3) bs := by obtain ⟨fuel, hf⟩ := h3; exact R.open_bytes hf
  clear hA0 hval0
  simp only [List.append_nil] at hW'
  refine (walk a0 _ l1 x2 y2 _ l3 W hL (E.wf_i64 w0) w1 (E.wf_i64 w2.1) (E.wf_i64 w2.2) w3).mono fun e W' ⟨he, bel⟩ => ?_
  subst he
  exact ⟨_, rfl, _, _, _, [], _, [], hW', trodAll_mk1 (shut_bool Tryz.underlying4 _), (trodAll_cons_mk (shut_int Tryz.underlying3 w0) (trodAll_cons_mk (Below.trod laidOut (by kernel_rfl) (of_decide_eq_true (by kernel_rfl)) k1 bel lt1) (trodAll_cons_mk (Below.trod laidOut (by kernel_rfl) (of_decide_eq_true (by kernel_rfl)) k2 bel lt2) (trodAll_cons_mk (Below.trod laidOut (by kernel_rfl) (of_decide_eq_true (by kernel_rfl)) k3 bel lt3) trodAll_mk0)))), rfl, bel.frame _, fun h => by cases h⟩

theorem over : Rows.rdpHoldsRow.holds Tryz.pinned (OpenSpec.ofChange Rows.rdpHoldsSpec) :=
  OpenClaim.holds_of_wide 8 Tryz.f8 rfl rfl rfl rfl rfl rfl rfl ⟨rfl, rfl, rfl, rfl, rfl⟩ rfl rfl rfl rfl rfl (by kernel_rfl) Tryz.func8 (by kernel_rfl)
    (of_decide_eq_true (by kernel_rfl)) (by unfold Func.isWrapper; first | (rw [if_pos (by decide +kernel)]; kernel_rfl) | (rw [if_neg (by decide +kernel)]; exact ⟨rfl, rfl⟩))
    (fun os started H enc _ => lifted os started H enc)

/-- The tied card: the row, and the tie that is given. -/
theorem rdpHolds_holds : Rows.RdpHoldsCardSaid :=
  Claim7.holds_tied_plain_at .later [] [.data, .data] true (true, "57ec92c1cad9246a878d60c07de9d5f93b7ace9698c7d1eeaf89e47cae761c73") true over (fun _ h => by cases h) (by kernel_rfl) (fun _ h => by cases h) rdpHolds_row_tie rfl ⟨rfl, rfl⟩ (by kernel_rfl) rfl
    (fun f fn hf hfn => by
      obtain rfl : f = 8 := Option.some.inj ((show Tryz.prog.funcNamed "palisade/palisadelaw07.RdpHolds" = some 8 by kernel_rfl).symm.trans hf) |>.symm
      obtain rfl : fn = Tryz.f8 := (Option.some.inj (Tryz.func8.symm.trans hfn)).symm
      exact ⟨by kernel_rfl, fun j t ht => by
        rw [Tryz.params8] at ht
        have hm : t ∈ [3, 22, 56, 25] := by simpa using Array.mem_of_getElem? ht
        have hall : ([3, 22, 56, 25].all fun u => !Tryz.prog.wantsStandIn u) = true := by kernel_rfl
        exact (show Tryz.prog.wantsStandIn t = false by simpa using List.all_eq_true.1 hall t hm)⟩)
    (by kernel_rfl)
end Go.Proofs.YtggdlklkjnbbjaaGreatDoor.rdpHolds
