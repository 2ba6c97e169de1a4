/- The law StarHolds answers true for every input and leaves its arguments as they were. -/
import Derived.Test.YtcgnhfiadeceiaaGreatDoorJSA
import Derived.Test.YtcgnhfiadeceiaaGreatDoorJG6x1
import Derived.Test.YtcgnhfiadeceiaaGreatDoorJG15x1
import Derived.Test.YtcgnhfiadeceiaaGreatDoorJG6x2
import Derived.Test.YtcgnhfiadeceiaaGreatDoorJG8x2
import Derived.Test.YtcgnhfiadeceiaaGreatDoorJG16x2
import Derived.Test.YtcgnhfiadeceiaaGreatDoorJG6x3
import Derived.Test.YtcgnhfiadeceiaaGreatDoorJG8x3
import Derived.Test.YtcgnhfiadeceiaaGreatDoorJG17x3
import Derived.Test.YtcgnhfiadeceiaaGreatDoorJG6x4
import Derived.Test.YtcgnhfiadeceiaaGreatDoorJG8x4
import Derived.Test.YtcgnhfiadeceiaaGreatDoorCards
import Derived.Test.YtcgnhfiadeceiaaGreatDoorTie
import Derived.SevenTiedAt
import Derived.Test.YtcgnhfiadeceiaaGreatDoorJG16
import Derived.Test.YtcgnhfiadeceiaaGreatDoorJG8
import Derived.Test.YtcgnhfiadeceiaaGreatDoorJG6
namespace Go.Proofs.YtcgnhfiadeceiaaGreatDoor.starHolds
open Go.ChangeShapes Go.WideShapes Go.ChangeAt Go.RowKit Go.Shelf
set_option linter.unusedVariables false
set_option linter.unusedSimpArgs false
attribute [local go_sem] Oper.semAt_some

open Go.Proofs.YtcgnhfiadeceiaaGreatDoor.E Go.Proofs.YtcgnhfiadeceiaaGreatDoor.C Go.Proofs.YtcgnhfiadeceiaaGreatDoor.T in
theorem xors_both2 (z : List UInt8) (xs ys : List (List UInt8)) (k : Nat) : xors z (bothL xs ys (k + 1)) = xorB (xorB (xors z (bothL xs ys k)) (xs[k]?.getD [])) (ys[k]?.getD []) := by
  rw [bothL_succ]
  unfold xors
  rw [List.foldl_append]
  rfl
open Go.Proofs.YtcgnhfiadeceiaaGreatDoor.E Go.Proofs.YtcgnhfiadeceiaaGreatDoor.C Go.Proofs.YtcgnhfiadeceiaaGreatDoor.T in
set_option maxRecDepth 100000 in
set_option maxHeartbeats 4000000 in
theorem walk (p : Int) (v : Value) (css : List (List (List UInt8))) (w : World) (hL : Laid w) (wp : -9223372036854775808 ≤ p ∧ p ≤ 9223372036854775807) (hC : Cols w.heap.size w v css) :
    Calls Tryz.prog 6 #[.int .i64 p, v] w fun e w' => e = .returned (.bool true) ∧ Below w.heap.size w w' := by
  obtain ⟨A, cap, rfl, _, _⟩ := id hC
  by_cases hf : Few6 css
  case neg =>
    have HF := Lib.hid (few6_any _ css w hC false (by simp [hf]))
    clear hf hC
    go_enter Tryz.func6, Tryz.ntmps6
    go_wp2_with (first
      | (go_at_call 9; refine HF.out.mono ?_; rintro e w' ⟨rfl, rfl⟩)
      | (go_at_call 10; refine (Go.Proofs.YtcgnhfiadeceiaaGreatDoor.T.works_any _ hL).mono ?_; rintro e w1 ⟨rfl, hB1⟩))
    go_ret
    exact ⟨rfl, hB1⟩
  have HF := Lib.hid (few6_any _ css w hC true (by simp [hf]))
  have hl24 := hf.1
  have hl1000 : css.length ≤ 1000 := by omega
  by_cases hd : DataOk p css
  case neg =>
    have HR := Lib.hid (Go.Proofs.YtcgnhfiadeceiaaGreatDoor.T.lright_any p _ css w (Nat.le_refl _) hC hl1000 false (by simp [hd]))
    clear hf hC hd
    go_enter Tryz.func6, Tryz.ntmps6
    go_wp2_with (first
      | (go_at_call 9; refine HF.out.mono ?_; rintro e w' ⟨rfl, rfl⟩)
      | (go_at_call 14; refine HR.out.mono ?_; rintro e w1 ⟨rfl, hB1⟩)
      | (go_at_call 10; refine (Go.Proofs.YtcgnhfiadeceiaaGreatDoor.T.works_any _ (hL.next hB1)).mono ?_; rintro e w2 ⟨rfl, hB2⟩))
    go_ret
    exact ⟨rfl, below_in hB1 hB2⟩
  have HR := Lib.hid (Go.Proofs.YtcgnhfiadeceiaaGreatDoor.T.lright_any p _ css w (Nat.le_refl _) hC hl1000 true (by simp [hd]))
  have hdn := dataOk_n hd
  have hpp := prm_bounds hd.1.2
  have hov := over_ok hd
  have hst := star_cells hd
  obtain ⟨R, hR⟩ : ∃ R : Nat, (p - 1).toNat = R := ⟨_, rfl⟩
  have hpR : p - 1 = (R : Int) := by omega
  have hR2 : 2 ≤ R := by omega
  have hf1 := togOk_first hd.2.2
  have hc1 : ∀ j : Nat, (css[j]?.getD []).length ≤ 1000 := fun j => (data_small hd j 0).1
  have HE1 := Lib.hid (fun (U : World) (hU : Below w.heap.size w U) => Go.Proofs.YtcgnhfiadeceiaaGreatDoor.T.over_yes (B := w.heap.size) p _ css hd U (hL.next hU) hU.size (hC.below hU))
  have HE2 := Lib.hid (fun (U : World) (u : Value) (hU : Laid U) (hCU : Cols U.heap.size U u (overOf css)) => Go.Proofs.YtcgnhfiadeceiaaGreatDoor.T.over_yes p u _ hov.1 U hU (Nat.le_refl _) hCU)
  rw [over_over] at HE2
  have HE3 := Lib.hid (fun (U : World) (hU : Below w.heap.size w U) => Go.Proofs.YtcgnhfiadeceiaaGreatDoor.T.encode_yes (B := w.heap.size) p _ css hd U (hL.next hU) hU.size (hC.below hU))
  have HE4 := Lib.hid (fun (U : World) (u : Value) (hU : Laid U) (hCU : Cols U.heap.size U u (overOf css)) => Go.Proofs.YtcgnhfiadeceiaaGreatDoor.T.encode_yes p u _ hov.1 U hU (Nat.le_refl _) hCU)
  rw [star_over hd] at HE4
  have HE5 := Lib.hid (fun (U : World) (hU : Below w.heap.size w U) => Go.Proofs.YtcgnhfiadeceiaaGreatDoor.T.adjuster_yes (B := w.heap.size) p _ css hd U (hL.next hU) hU.size (hC.below hU))
  have HSD := Lib.hid (fun (U : World) (x y : Value) (hU : w.heap.size ≤ U.heap.size) (hx : Cols U.heap.size U x css) (hy : Cols w.heap.size U y css) => same6_any x y css css U hx hy (Nat.le_refl _) hU hc1 hc1 hl1000 hl1000)
  have HRX := Lib.hid (fun (U : World) (x : Value) (hX : Cols U.heap.size U x (starOf p css)) => right6_any p x _ U (Nat.le_refl _) hX (by rw [hst.1]; omega) true (by simp [star_rightD hd]))
  have hrl : (rowsMade (p - 1).toNat css).length = R := (hst.2 0 (by omega)).1.trans hR
  have hdl : (diagsMade p (p - 1).toNat css).length = R := (hst.2 1 (by omega)).1.trans hR
  have hsl : (slMade p css).length = R := (hst.2 2 (by omega)).1.trans hR
  have HCR : Hid (∀ i, i < R → ((rowsMade (p - 1).toNat css)[i]?.getD []).length = (firstC css).length) := fun i hi => (hst.2 0 (by omega)).2 i (by omega)
  have HCS : Hid (∀ i, i < R → ((slMade p css)[i]?.getD []).length = (firstC css).length) := fun i hi => (hst.2 2 (by omega)).2 i (by omega)
  have HS1 := Lib.hid (fun (U : World) (x y : Value) (h1 : Many U.heap.size U x (slMade p css)) (h2 : Many U.heap.size U y (slMade p css)) => sameCol_any x y _ _ U h1 h2 (by omega) (by omega))
  have HS2 := Lib.hid (fun (U : World) (x y : Value) (h1 : Many U.heap.size U x (diagsMade p (p - 1).toNat css)) (h2 : Many U.heap.size U y (diagsMade p (p - 1).toNat css)) => sameCol_any x y _ _ U h1 h2 (by omega) (by omega))
  have HS3 := Lib.hid (fun (U : World) (x y : Value) (h1 : Many U.heap.size U x (rowsMade (p - 1).toNat css)) (h2 : Many U.heap.size U y (rowsMade (p - 1).toNat css)) => sameCol_any x y _ _ U h1 h2 (by omega) (by omega))
  have HNO := Lib.hid (fun (U : World) => nought6_any (firstC css).length (by omega) U)
  have HXB := Lib.hid (xors_both hd)
  have HAL := Lib.hid (slOf_len (p := p) (css := css) (p - 1))
  have HEN : Hid (starOf p css = [rowsMade (p - 1).toNat css, diagsMade p (p - 1).toNat css, slMade p css]) := rfl
  have HDA := Lib.hid (fun (U : World) (hU : Below w.heap.size w U) => hC.below hU)
  have HLA := Lib.hid (fun (U : World) (hU : Below w.heap.size w U) => hL.next hU)
  have h9 : (firstC css).length ≤ 1000 := by omega
  rw [HEN.out] at HE3 HRX
  simp only [decide_true] at HS1 HS2 HS3 HSD
  rw [hR] at HE3 HRX HS2 HS3 HXB HCR HE4 hrl hdl
  have hl0 : 0 < css.length := hd.2.2.1
  clear hf hC hdn hov hst hR hd hf1 hc1 HEN
  generalize rowsMade R css = rm at *
  generalize diagsMade p R css = dm at *
  generalize slMade p css = sm at *
  generalize overOf css = ov at *
  generalize slOf p css (p - 1) = adj at *
  generalize (firstC css).length = l9 at *
  generalize css.length = N at *
  have hpw : IntKind.i64.wrap (p - 1) = (R : Int) := by rw [← hpR]; exact IntWalk.i64_in _ (by omega)
  have hpw2 : wrap64 (p - 1) = (R : Int) := by rw [← hpR]; exact IntWalk.wrap64_in _ (by omega)
  go_enter Tryz.func6, Tryz.ntmps6
  go_wp2_with (first
    | (go_at_call 9; refine HF.out.mono ?_; rintro e w' ⟨rfl, rfl⟩)
    | (go_at_call 14; refine HR.out.mono ?_; rintro e w1 ⟨rfl, hBw⟩))
  clear HF HR
  refine (HE1.out _ hBw).mono ?_
  rintro e w2 ⟨ov_, rfl, hov, hB⟩
  replace hBw := below_in hBw hB
  clear hB HE1
  go_wp2_with fail
  refine (HE2.out _ _ (HLA.out _ hBw) hov).mono ?_
  rintro e w3 ⟨bb, rfl, hbb, hB⟩
  replace hBw := below_in hBw hB
  replace hov := (hov.below hB).more hB.size
  clear hB HE2
  go_wp2_with fail
  refine (HE3.out _ hBw).mono ?_
  rintro e w4 ⟨x, rfl, hx, hB⟩
  replace hBw := below_in hBw hB
  replace hov := (hov.below hB).more hB.size
  replace hbb := (hbb.below hB).more hB.size
  obtain ⟨bx, ox, cx, hx2, _, hbx, hxr⟩ := hx.at_ (by simp)
  have hx3 : x = .slice (some ⟨bx, ox, none⟩) 3 cx := hx2
  subst hx3
  clear hB HE3 hx2
  go_wp2_with fail
  refine (HE4.out _ _ (HLA.out _ hBw) hov).mono ?_
  rintro e w5 ⟨y, rfl, hy, hB⟩
  replace hBw := below_in hBw hB
  have h45 := hB
  replace hbb := (hbb.below hB).more hB.size
  obtain ⟨by_, oy, cy, hy2, _, hby, hyr⟩ := hy.at_ (by simp)
  have hy3 : y = .slice (some ⟨by_, oy, none⟩) 3 cy := hy2
  subst hy3
  clear hB HE4 hy2 hov
  go_wp2_with fail
  refine (HE5.out _ hBw).mono ?_
  rintro e w6 ⟨s, rfl, hs, hB⟩
  replace hBw := below_in hBw hB
  have h56 := hB
  have h46 := below_in h45 hB
  replace hbb := (hbb.below hB).more hB.size
  obtain ⟨As, cs, hse, _, _⟩ := id hs
  rw [HAL.out] at hse
  subst hse
  clear hB HE5
  have hdd := HDA.out _ hBw
  have hxx := (hx.below h46).more h46.size
  clear hx hy h45
  go_wp2_with (first
    | (go_at_call 15; refine (Go.Proofs.YtcgnhfiadeceiaaGreatDoor.T.num_any _ _).mono ?_; rintro e w' ⟨rfl, rfl⟩)
    | (go_at_call 18; refine (HSD.out _ _ _ hBw.size hbb hdd).mono ?_; rintro e w7 ⟨rfl, hB67⟩; have hxx7 := (hxx.below hB67).more hB67.size))
  refine (HRX.out _ _ hxx7).mono ?_
  rintro e w8 ⟨rfl, hB78⟩
  have hB68 := below_in hB67 hB78
  obtain ⟨ux0, hx0, hxm0⟩ := hxr 0 (by simp)
  obtain ⟨ux1, hx1, hxm1⟩ := hxr 1 (by simp)
  obtain ⟨ux2, hx2, hxm2⟩ := hxr 2 (by simp)
  obtain ⟨uy0, hy0, hym0⟩ := hyr 0 (by simp)
  obtain ⟨uy1, hy1, hym1⟩ := hyr 1 (by simp)
  obtain ⟨uy2, hy2, hym2⟩ := hyr 2 (by simp)
  rw [Nat.add_zero] at hx0 hy0
  replace hxm0 : Many w4.heap.size w4 ux0 rm := hxm0
  replace hxm1 : Many w4.heap.size w4 ux1 dm := hxm1
  replace hxm2 : Many w4.heap.size w4 ux2 sm := hxm2
  replace hym0 : Many w5.heap.size w5 uy0 rm := hym0
  replace hym1 : Many w5.heap.size w5 uy1 sm := hym1
  replace hym2 : Many w5.heap.size w5 uy2 dm := hym2
  obtain ⟨Ar, cX, rfl, _, _⟩ := id hxm0
  obtain ⟨Ad, cd, rfl, _, _⟩ := id hxm1
  obtain ⟨Ag, cS, rfl, _, _⟩ := id hxm2
  obtain ⟨Ay, cy0, rfl, _, _⟩ := id hym0
  obtain ⟨At, cy1, rfl, _, _⟩ := id hym1
  obtain ⟨Aq, cy2, rfl, _, _⟩ := id hym2
  obtain ⟨bX, oX, rfl, hbX, hrX⟩ := many_at hxm0 (by omega)
  obtain ⟨bS, oS, rfl, hbS, hrS⟩ := many_at hxm2 (by omega)
  rw [hrl] at hx0 hy0 hxm0 hym0 hrX
  rw [hdl] at hx1 hy2 hxm1 hym2
  rw [hsl] at hx2 hy1 hxm2 hym1 hrS
  have h48 := below_in h46 hB68
  have h58 := below_in h56 hB68
  have hBw8 := below_in hBw hB68
  have HSS := Lib.hid (fun (V : World) (hV : Below w8.heap.size w8 V) => (⟨((below_in h48 hV).cell (p := ⟨bx, ox, none⟩) hbx).trans hx0, ((below_in h48 hV).cell (p := ⟨bx, ox + 1, none⟩) hbx).trans hx1, ((below_in h48 hV).cell (p := ⟨bx, ox + 2, none⟩) hbx).trans hx2, ((below_in h58 hV).cell (p := ⟨by_, oy, none⟩) hby).trans hy0, ((below_in h58 hV).cell (p := ⟨by_, oy + 1, none⟩) hby).trans hy1, ((below_in h58 hV).cell (p := ⟨by_, oy + 2, none⟩) hby).trans hy2⟩ : (fun V : World => V.cell? ⟨bx, ox, none⟩ = some (.slice (some ⟨bX, oX, none⟩) R cX) ∧ V.cell? ⟨bx, ox + 1, none⟩ = some (.slice Ad R cd) ∧ V.cell? ⟨bx, ox + 2, none⟩ = some (.slice (some ⟨bS, oS, none⟩) R cS) ∧ V.cell? ⟨by_, oy, none⟩ = some (.slice Ay R cy0) ∧ V.cell? ⟨by_, oy + 1, none⟩ = some (.slice At R cy1) ∧ V.cell? ⟨by_, oy + 2, none⟩ = some (.slice Aq R cy2)) V))
  have HX0 := Lib.hid (fun (V : World) (hV : Below w8.heap.size w8 V) => (hxm0.below (below_in h48 hV)).more (below_in h48 hV).size)
  have HX1 := Lib.hid (fun (V : World) (hV : Below w8.heap.size w8 V) => (hxm1.below (below_in h48 hV)).more (below_in h48 hV).size)
  have HX2 := Lib.hid (fun (V : World) (hV : Below w8.heap.size w8 V) => (hxm2.below (below_in h48 hV)).more (below_in h48 hV).size)
  have HY0 := Lib.hid (fun (V : World) (hV : Below w8.heap.size w8 V) => (hym0.below (below_in h58 hV)).more (below_in h58 hV).size)
  have HY1 := Lib.hid (fun (V : World) (hV : Below w8.heap.size w8 V) => (hym1.below (below_in h58 hV)).more (below_in h58 hV).size)
  have HY2 := Lib.hid (fun (V : World) (hV : Below w8.heap.size w8 V) => (hym2.below (below_in h58 hV)).more (below_in h58 hV).size)
  have HSB := Lib.hid (fun (V : World) (hV : Below w8.heap.size w8 V) => run_txt V (hs.below (below_in hB68 hV)))
  have HLW := Lib.hid (fun (V : World) (hV : Below w8.heap.size w8 V) => HLA.out V (below_in hBw8 hV))
  have HQ0 : Hid (∀ (V : World) (r : Nat), Below w8.heap.size w8 V → r < R → ∃ A c, V.cell? ⟨bX, oX + r, none⟩ = some (.slice A l9 c) ∧ Bytes V.heap.size V (.slice A l9 c) (rm[r]?.getD [])) := fun V r hV hr => by
    obtain ⟨A, c, h1, h2⟩ := hrX r hr
    rw [HCR.out r hr] at h1 h2
    exact ⟨A, c, ((below_in h48 hV).cell (p := ⟨bX, oX + r, none⟩) hbX).trans h1, (h2.below (below_in h48 hV)).more (below_in h48 hV).size⟩
  have HQ2 : Hid (∀ (V : World) (r : Nat), Below w8.heap.size w8 V → r < R → ∃ A c, V.cell? ⟨bS, oS + r, none⟩ = some (.slice A l9 c) ∧ Bytes V.heap.size V (.slice A l9 c) (sm[r]?.getD [])) := fun V r hV hr => by
    obtain ⟨A, c, h1, h2⟩ := hrS r hr
    rw [HCS.out r hr] at h1 h2
    exact ⟨A, c, ((below_in h48 hV).cell (p := ⟨bS, oS + r, none⟩) hbS).trans h1, (h2.below (below_in h48 hV)).more (below_in h48 hV).size⟩
  obtain ⟨C9, c9, hq9, _⟩ := HQ0.out w8 0 (Below.refl _ _) (by omega)
  rw [Nat.add_zero] at hq9
  have hx08 : w8.cell? ⟨bx, ox, none⟩ = some (.slice (some ⟨bX, oX, none⟩) R cX) := (HSS.out w8 (Below.refl _ _)).1
  have z1 : (0 : Int) < (R : Int) := by omega
  have z2 : ¬ R = 0 := by omega
  clear hxr hyr hx0 hx1 hx2 hy0 hy1 hy2 hxm0 hxm1 hxm2 hym0 hym1 hym2 hrX hrS hs h48 h58 h46 h56 hxx hbb hdd hxx7 hB78 hB68 hB67
  go_wp2_with (go_at_call 24; refine (HNO.out _).mono ?_; rintro e w9 ⟨acc, rfl, hacc, hB89⟩)
  clear hq9 hx08
  have HZ0 : Hid (List.replicate l9 (0 : UInt8) = xors (List.replicate l9 0) (bothL rm sm 0)) := rfl
  rw [HZ0.out] at hacc
  have HZL : Hid (∀ k, (xors (List.replicate l9 (0 : UInt8)) (bothL rm sm k)).length = l9) := fun k => by rw [xors_len, List.length_replicate]
  have HNX := Lib.hid (fun k => xors_both2 (List.replicate l9 (0 : UInt8)) rm sm k)
  go_loopw [15, 16] (fun v i wr => ∃ k : Nat, k ≤ R ∧ i = .int .i64 k ∧ Bytes wr.heap.size wr v (xors (List.replicate l9 0) (bothL rm sm k)) ∧ Below w8.heap.size w8 wr) (fun _ i _ => R - (intOf i).toNat)
  case atStart => exact ⟨0, by omega, rfl, hacc, hB89⟩
  case round =>
    clear hacc hB89
    obtain ⟨k, hk, rfl, hacc, hBr⟩ := hrel
    by_cases hlt : k < R
    · have hdec : decide ((k : Int) < (R : Int)) = true := by simp; omega
      obtain ⟨Ac, cc, hcc, hby0⟩ := HQ0.out _ k hBr hlt
      obtain ⟨Ae, ce, hce, hby2⟩ := HQ2.out _ k hBr hlt
      have HNXk := Lib.hid (HNX.out k)
      have HZ := Lib.hid (HZL.out k)
      have hll0 := HCR.out k hlt
      have hll2 := HCS.out k hlt
      have q0 := HSS.out _ hBr
      generalize xors (List.replicate l9 (0 : UInt8)) (bothL rm sm k) = cur at *
      generalize rm[k]?.getD [] = xa_ at *
      generalize sm[k]?.getD [] = xb_ at *
      have HSR := Lib.hid (fun (V : World) (hV : Below wr.heap.size wr V) => (⟨(HSS.out V (below_in hBr hV)).1, (HSS.out V (below_in hBr hV)).2.2.1, (hV.cell (p := ⟨bX, oX + k, none⟩) (block_lt_of_cell hcc)).trans hcc, (hV.cell (p := ⟨bS, oS + k, none⟩) (block_lt_of_cell hce)).trans hce⟩ : (fun V : World => V.cell? ⟨bx, ox, none⟩ = some (.slice (some ⟨bX, oX, none⟩) R cX) ∧ V.cell? ⟨bx, ox + 2, none⟩ = some (.slice (some ⟨bS, oS, none⟩) R cS) ∧ V.cell? ⟨bX, oX + k, none⟩ = some (.slice Ac l9 cc) ∧ V.cell? ⟨bS, oS + k, none⟩ = some (.slice Ae l9 ce)) V))
      have HP1 := Lib.hid (fun (U : World) (hU : Below wr.heap.size wr U) => rput_any _ _ cur xa_ U ((hacc.below hU).more hU.size) ((hby0.below hU).more hU.size) (by rw [HZ.out, hll0]; exact Nat.le_refl _) (by rw [HZ.out]; omega))
      have HP2 := Lib.hid (fun (U : World) (vq : Value) (hU : Below wr.heap.size wr U) (hv : Bytes U.heap.size U vq (xorB cur xa_)) => rput_any vq _ (xorB cur xa_) xb_ U hv ((hby2.below hU).more hU.size) (by rw [xorB_len, HZ.out, hll2]; exact Nat.le_refl _) (by rw [xorB_len, HZ.out]; omega))
      have i1 : (0 : Int) ≤ (k : Int) := by omega
      have i2 : (k : Int) < (R : Int) := by omega
      clear hcc hce hby0 hby2 hll0 hll2 q0
      go_wp2
      have hB : Below wr.heap.size wr wr.drew := (Below.refl _ _).drew
      have hS : (fun V : World => V.cell? ⟨bx, ox, none⟩ = some (.slice (some ⟨bX, oX, none⟩) R cX) ∧ V.cell? ⟨bx, ox + 2, none⟩ = some (.slice (some ⟨bS, oS, none⟩) R cS) ∧ V.cell? ⟨bX, oX + k, none⟩ = some (.slice Ac l9 cc) ∧ V.cell? ⟨bS, oS + k, none⟩ = some (.slice Ae l9 ce)) wr.drew := HSR.out _ hB
      refine (wpIn_wide (n := 12)).1 (wpIn_mono (region_HF (Q := NoPanic _) (S := (fun V : World => V.cell? ⟨bx, ox, none⟩ = some (.slice (some ⟨bX, oX, none⟩) R cX) ∧ V.cell? ⟨bx, ox + 2, none⟩ = some (.slice (some ⟨bS, oS, none⟩) R cS) ∧ V.cell? ⟨bX, oX + k, none⟩ = some (.slice Ac l9 cc) ∧ V.cell? ⟨bS, oS + k, none⟩ = some (.slice Ae l9 ce))) (by kernel_rfl) ?_) NoPanic.imp)
      refine anyHF_take (i := 0) (d := 107) (v := u15) (by kernel_rfl) rfl (by kernel_rfl) (by kernel_rfl) (by kernel_rfl) rfl (fun _ _ _ h => h) ⟨Or.inl ⟨by rfl, fun w hS => by obtain ⟨h0, h1, h2, h3⟩ := hS; go_simp⟩, fun _ => rfl⟩ hS ?_
      simp only [List.setIfInBounds_toArray, List.set_cons_zero, List.set_cons_succ]
      refine anyHF_take (i := 1) (d := 108) (v := .slice (some ⟨bx, ox, none⟩) 3 cx) (by kernel_rfl) rfl (by kernel_rfl) (by kernel_rfl) (by kernel_rfl) rfl (fun _ _ _ h => h) ⟨Or.inl ⟨by rfl, fun w hS => by obtain ⟨h0, h1, h2, h3⟩ := hS; go_simp⟩, fun _ => rfl⟩ hS ?_
      simp only [List.setIfInBounds_toArray, List.set_cons_zero, List.set_cons_succ]
      refine anyHF_take (i := 2) (d := 109) (v := .pointer (some ⟨bx, ox, none⟩)) (by kernel_rfl) rfl (by kernel_rfl) (by kernel_rfl) (by kernel_rfl) rfl (fun _ _ _ h => h) ⟨Or.inl ⟨by rfl, fun w hS => by obtain ⟨h0, h1, h2, h3⟩ := hS; go_simp⟩, fun _ => rfl⟩ hS ?_
      simp only [List.setIfInBounds_toArray, List.set_cons_zero, List.set_cons_succ]
      refine anyHF_take (i := 3) (d := 110) (v := .slice (some ⟨bX, oX, none⟩) R cX) (by kernel_rfl) rfl (by kernel_rfl) (by kernel_rfl) (by kernel_rfl) rfl (fun _ _ _ h => h) ⟨Or.inl ⟨by rfl, fun w hS => by obtain ⟨h0, h1, h2, h3⟩ := hS; go_simp⟩, fun _ => rfl⟩ hS ?_
      simp only [List.setIfInBounds_toArray, List.set_cons_zero, List.set_cons_succ]
      refine anyHF_take (i := 4) (d := 111) (v := .int .i64 (k : Int)) (by kernel_rfl) rfl (by kernel_rfl) (by kernel_rfl) (by kernel_rfl) rfl (fun _ _ _ h => h) ⟨Or.inl ⟨by rfl, fun w hS => by obtain ⟨h0, h1, h2, h3⟩ := hS; go_simp⟩, fun _ => rfl⟩ hS ?_
      simp only [List.setIfInBounds_toArray, List.set_cons_zero, List.set_cons_succ]
      refine anyHF_take (i := 5) (d := 112) (v := .pointer (some ⟨bX, oX + k, none⟩)) (by kernel_rfl) rfl (by kernel_rfl) (by kernel_rfl) (by kernel_rfl) rfl (fun _ _ _ h => h) ⟨Or.inl ⟨by rfl, fun w hS => by obtain ⟨h0, h1, h2, h3⟩ := hS; go_simp⟩, fun _ => rfl⟩ hS ?_
      simp only [List.setIfInBounds_toArray, List.set_cons_zero, List.set_cons_succ]
      refine anyHF_take (i := 6) (d := 113) (v := .slice Ac l9 cc) (by kernel_rfl) rfl (by kernel_rfl) (by kernel_rfl) (by kernel_rfl) rfl (fun _ _ _ h => h) ⟨Or.inl ⟨by rfl, fun w hS => by obtain ⟨h0, h1, h2, h3⟩ := hS; go_simp⟩, fun _ => rfl⟩ hS ?_
      simp only [List.setIfInBounds_toArray, List.set_cons_zero, List.set_cons_succ]
      refine anyHF_take (i := 8) (d := 115) (v := .slice (some ⟨bx, ox, none⟩) 3 cx) (by kernel_rfl) rfl (by kernel_rfl) (by kernel_rfl) (by kernel_rfl) rfl (fun _ _ _ h => h) ⟨Or.inl ⟨by rfl, fun w hS => by obtain ⟨h0, h1, h2, h3⟩ := hS; go_simp⟩, fun _ => rfl⟩ hS ?_
      simp only [List.setIfInBounds_toArray, List.set_cons_zero, List.set_cons_succ]
      refine anyHF_take (i := 9) (d := 116) (v := .pointer (some ⟨bx, ox + 2, none⟩)) (by kernel_rfl) rfl (by kernel_rfl) (by kernel_rfl) (by kernel_rfl) rfl (fun _ _ _ h => h) ⟨Or.inl ⟨by rfl, fun w hS => by obtain ⟨h0, h1, h2, h3⟩ := hS; go_simp⟩, fun _ => rfl⟩ hS ?_
      simp only [List.setIfInBounds_toArray, List.set_cons_zero, List.set_cons_succ]
      refine anyHF_take (i := 10) (d := 117) (v := .slice (some ⟨bS, oS, none⟩) R cS) (by kernel_rfl) rfl (by kernel_rfl) (by kernel_rfl) (by kernel_rfl) rfl (fun _ _ _ h => h) ⟨Or.inl ⟨by rfl, fun w hS => by obtain ⟨h0, h1, h2, h3⟩ := hS; go_simp⟩, fun _ => rfl⟩ hS ?_
      simp only [List.setIfInBounds_toArray, List.set_cons_zero, List.set_cons_succ]
      refine anyHF_take (i := 11) (d := 118) (v := .int .i64 (k : Int)) (by kernel_rfl) rfl (by kernel_rfl) (by kernel_rfl) (by kernel_rfl) rfl (fun _ _ _ h => h) ⟨Or.inl ⟨by rfl, fun w hS => by obtain ⟨h0, h1, h2, h3⟩ := hS; go_simp⟩, fun _ => rfl⟩ hS ?_
      simp only [List.setIfInBounds_toArray, List.set_cons_zero, List.set_cons_succ]
      refine anyHF_take (i := 12) (d := 119) (v := .pointer (some ⟨bS, oS + k, none⟩)) (by kernel_rfl) rfl (by kernel_rfl) (by kernel_rfl) (by kernel_rfl) rfl (fun _ _ _ h => h) ⟨Or.inl ⟨by rfl, fun w hS => by obtain ⟨h0, h1, h2, h3⟩ := hS; go_simp⟩, fun _ => rfl⟩ hS ?_
      simp only [List.setIfInBounds_toArray, List.set_cons_zero, List.set_cons_succ]
      refine anyHF_take (i := 13) (d := 120) (v := .slice Ae l9 ce) (by kernel_rfl) rfl (by kernel_rfl) (by kernel_rfl) (by kernel_rfl) rfl (fun _ _ _ h => h) ⟨Or.inl ⟨by rfl, fun w hS => by obtain ⟨h0, h1, h2, h3⟩ := hS; go_simp⟩, fun _ => rfl⟩ hS ?_
      simp only [List.setIfInBounds_toArray, List.set_cons_zero, List.set_cons_succ]
      refine anyHF_one (i := 7) (by kernel_rfl) rfl (by kernel_rfl) (by rfl) ?_
      gi_wp2_with fail
      refine ⟨trivial, (callsIn_wide.2 (HP1.out _ hB)).mono ?_⟩
      rintro e wn ⟨vq, rfl, hvq, hBn⟩
      replace hB := below_in hB hBn
      clear hS
      have hS : (fun V : World => V.cell? ⟨bx, ox, none⟩ = some (.slice (some ⟨bX, oX, none⟩) R cX) ∧ V.cell? ⟨bx, ox + 2, none⟩ = some (.slice (some ⟨bS, oS, none⟩) R cS) ∧ V.cell? ⟨bX, oX + k, none⟩ = some (.slice Ac l9 cc) ∧ V.cell? ⟨bS, oS + k, none⟩ = some (.slice Ae l9 ce)) wn := HSR.out _ hB
      gi_wp2
      try (refine ⟨hS, ?_⟩)
      refine anyHF_one (i := 14) (by kernel_rfl) rfl (by kernel_rfl) (by rfl) ?_
      gi_wp2_with fail
      refine ⟨trivial, (callsIn_wide.2 (HP2.out _ vq hB hvq.bytes)).mono ?_⟩
      rintro e wm ⟨vz, rfl, hvz, hBm⟩
      replace hB := below_in hB hBm
      clear hS
      have hS : (fun V : World => V.cell? ⟨bx, ox, none⟩ = some (.slice (some ⟨bX, oX, none⟩) R cX) ∧ V.cell? ⟨bx, ox + 2, none⟩ = some (.slice (some ⟨bS, oS, none⟩) R cS) ∧ V.cell? ⟨bX, oX + k, none⟩ = some (.slice Ac l9 cc) ∧ V.cell? ⟨bS, oS + k, none⟩ = some (.slice Ae l9 ce)) wm := HSR.out _ hB
      gi_wp2
      try (refine ⟨hS, ?_⟩)
      refine anyHF_one (i := 15) (by kernel_rfl) rfl (by kernel_rfl) (by rfl) ?_
      gi_wp2
      refine anyHF_done (by kernel_rfl) ?_ _
      refine NoPanic.normal ?_
      clear hS
      go_wp2
      go_roundw
      case rel => exact ⟨k + 1, by omega, by go_num, by rw [HNXk.out]; exact hvz.bytes, below_in hBr hB⟩
      case measure => simp [intOf]; omega
    · obtain rfl : k = R := by omega
      have e1 : decide ((k : Int) < (k : Int)) = false := by simp
      rw [HXB.out] at hacc
      have hWr := hBr
      have HS8 := Lib.hid (fun (V : World) (hV : Below wr.heap.size wr V) => (⟨run_txt V (hacc.below hV), HSB.out V (below_in hWr hV), HSS.out V (below_in hWr hV)⟩ : (fun V : World => (convert 28 9 (u15)).run Tryz.prog V = .ok (.string (text adj)) V ∧ (convert 28 9 (.slice As l9 cs)).run Tryz.prog V = .ok (.string (text adj)) V ∧ V.cell? ⟨bx, ox, none⟩ = some (.slice (some ⟨bX, oX, none⟩) k cX) ∧ V.cell? ⟨bx, ox + 1, none⟩ = some (.slice Ad k cd) ∧ V.cell? ⟨bx, ox + 2, none⟩ = some (.slice (some ⟨bS, oS, none⟩) k cS) ∧ V.cell? ⟨by_, oy, none⟩ = some (.slice Ay k cy0) ∧ V.cell? ⟨by_, oy + 1, none⟩ = some (.slice At k cy1) ∧ V.cell? ⟨by_, oy + 2, none⟩ = some (.slice Aq k cy2)) V))
      have HBW := Lib.hid hBw8
      clear hacc hBr hBw hBw8
      go_wp2
      have hB : Below wr.heap.size wr wr.drew := (Below.refl _ _).drew
      have hS : (fun V : World => (convert 28 9 (u15)).run Tryz.prog V = .ok (.string (text adj)) V ∧ (convert 28 9 (.slice As l9 cs)).run Tryz.prog V = .ok (.string (text adj)) V ∧ V.cell? ⟨bx, ox, none⟩ = some (.slice (some ⟨bX, oX, none⟩) k cX) ∧ V.cell? ⟨bx, ox + 1, none⟩ = some (.slice Ad k cd) ∧ V.cell? ⟨bx, ox + 2, none⟩ = some (.slice (some ⟨bS, oS, none⟩) k cS) ∧ V.cell? ⟨by_, oy, none⟩ = some (.slice Ay k cy0) ∧ V.cell? ⟨by_, oy + 1, none⟩ = some (.slice At k cy1) ∧ V.cell? ⟨by_, oy + 2, none⟩ = some (.slice Aq k cy2)) wr.drew := HS8.out _ hB
      refine (wpIn_wide (n := 12)).1 (wpIn_mono (region_HF (Q := NoPanic _) (S := (fun V : World => (convert 28 9 (u15)).run Tryz.prog V = .ok (.string (text adj)) V ∧ (convert 28 9 (.slice As l9 cs)).run Tryz.prog V = .ok (.string (text adj)) V ∧ V.cell? ⟨bx, ox, none⟩ = some (.slice (some ⟨bX, oX, none⟩) k cX) ∧ V.cell? ⟨bx, ox + 1, none⟩ = some (.slice Ad k cd) ∧ V.cell? ⟨bx, ox + 2, none⟩ = some (.slice (some ⟨bS, oS, none⟩) k cS) ∧ V.cell? ⟨by_, oy, none⟩ = some (.slice Ay k cy0) ∧ V.cell? ⟨by_, oy + 1, none⟩ = some (.slice At k cy1) ∧ V.cell? ⟨by_, oy + 2, none⟩ = some (.slice Aq k cy2))) (by kernel_rfl) ?_) NoPanic.imp)
      refine anyHF_take (i := 0) (d := 122) (v := .slice (some ⟨bx, ox, none⟩) 3 cx) (by kernel_rfl) rfl (by kernel_rfl) (by kernel_rfl) (by kernel_rfl) rfl (fun _ _ _ h => h) ⟨Or.inl ⟨by rfl, fun w hS => by obtain ⟨h0, h1, h2, h3, h4, h5, h6, h7⟩ := hS; go_simp⟩, fun _ => rfl⟩ hS ?_
      simp only [List.setIfInBounds_toArray, List.set_cons_zero, List.set_cons_succ]
      refine anyHF_take (i := 1) (d := 123) (v := .pointer (some ⟨bx, ox + 2, none⟩)) (by kernel_rfl) rfl (by kernel_rfl) (by kernel_rfl) (by kernel_rfl) rfl (fun _ _ _ h => h) ⟨Or.inl ⟨by rfl, fun w hS => by obtain ⟨h0, h1, h2, h3, h4, h5, h6, h7⟩ := hS; go_simp⟩, fun _ => rfl⟩ hS ?_
      simp only [List.setIfInBounds_toArray, List.set_cons_zero, List.set_cons_succ]
      refine anyHF_take (i := 2) (d := 124) (v := .slice (some ⟨bS, oS, none⟩) k cS) (by kernel_rfl) rfl (by kernel_rfl) (by kernel_rfl) (by kernel_rfl) rfl (fun _ _ _ h => h) ⟨Or.inl ⟨by rfl, fun w hS => by obtain ⟨h0, h1, h2, h3, h4, h5, h6, h7⟩ := hS; go_simp⟩, fun _ => rfl⟩ hS ?_
      simp only [List.setIfInBounds_toArray, List.set_cons_zero, List.set_cons_succ]
      refine anyHF_take (i := 3) (d := 125) (v := .slice (some ⟨by_, oy, none⟩) 3 cy) (by kernel_rfl) rfl (by kernel_rfl) (by kernel_rfl) (by kernel_rfl) rfl (fun _ _ _ h => h) ⟨Or.inl ⟨by rfl, fun w hS => by obtain ⟨h0, h1, h2, h3, h4, h5, h6, h7⟩ := hS; go_simp⟩, fun _ => rfl⟩ hS ?_
      simp only [List.setIfInBounds_toArray, List.set_cons_zero, List.set_cons_succ]
      refine anyHF_take (i := 4) (d := 126) (v := .pointer (some ⟨by_, oy + 1, none⟩)) (by kernel_rfl) rfl (by kernel_rfl) (by kernel_rfl) (by kernel_rfl) rfl (fun _ _ _ h => h) ⟨Or.inl ⟨by rfl, fun w hS => by obtain ⟨h0, h1, h2, h3, h4, h5, h6, h7⟩ := hS; go_simp⟩, fun _ => rfl⟩ hS ?_
      simp only [List.setIfInBounds_toArray, List.set_cons_zero, List.set_cons_succ]
      refine anyHF_take (i := 5) (d := 127) (v := .slice At k cy1) (by kernel_rfl) rfl (by kernel_rfl) (by kernel_rfl) (by kernel_rfl) rfl (fun _ _ _ h => h) ⟨Or.inl ⟨by rfl, fun w hS => by obtain ⟨h0, h1, h2, h3, h4, h5, h6, h7⟩ := hS; go_simp⟩, fun _ => rfl⟩ hS ?_
      simp only [List.setIfInBounds_toArray, List.set_cons_zero, List.set_cons_succ]
      refine anyHF_one (i := 6) (by kernel_rfl) rfl (by kernel_rfl) (by rfl) ?_
      gi_wp2_with fail
      refine ⟨trivial, (callsIn_wide.2 (HS1.out _ _ _ (HX2.out _ (below_in hWr hB)) (HY1.out _ (below_in hWr hB)))).mono ?_⟩
      rintro e wn ⟨rfl, hBn⟩
      replace hB := below_in hB hBn
      clear hS hBn
      have hS : (fun V : World => (convert 28 9 (u15)).run Tryz.prog V = .ok (.string (text adj)) V ∧ (convert 28 9 (.slice As l9 cs)).run Tryz.prog V = .ok (.string (text adj)) V ∧ V.cell? ⟨bx, ox, none⟩ = some (.slice (some ⟨bX, oX, none⟩) k cX) ∧ V.cell? ⟨bx, ox + 1, none⟩ = some (.slice Ad k cd) ∧ V.cell? ⟨bx, ox + 2, none⟩ = some (.slice (some ⟨bS, oS, none⟩) k cS) ∧ V.cell? ⟨by_, oy, none⟩ = some (.slice Ay k cy0) ∧ V.cell? ⟨by_, oy + 1, none⟩ = some (.slice At k cy1) ∧ V.cell? ⟨by_, oy + 2, none⟩ = some (.slice Aq k cy2)) wn := HS8.out _ hB
      gi_wp2
      try (refine ⟨hS, ?_⟩)
      refine anyHF_take (i := 7) (d := 129) (v := .bool true) (by kernel_rfl) rfl (by kernel_rfl) (by kernel_rfl) (by kernel_rfl) rfl (fun _ _ _ h => h) ⟨Or.inl ⟨by rfl, fun w hS => by obtain ⟨h0, h1, h2, h3, h4, h5, h6, h7⟩ := hS; go_simp⟩, fun _ => rfl⟩ hS ?_
      simp only [List.setIfInBounds_toArray, List.set_cons_zero, List.set_cons_succ]
      refine anyHF_take (i := 8) (d := 130) (v := .slice (some ⟨bx, ox, none⟩) 3 cx) (by kernel_rfl) rfl (by kernel_rfl) (by kernel_rfl) (by kernel_rfl) rfl (fun _ _ _ h => h) ⟨Or.inl ⟨by rfl, fun w hS => by obtain ⟨h0, h1, h2, h3, h4, h5, h6, h7⟩ := hS; go_simp⟩, fun _ => rfl⟩ hS ?_
      simp only [List.setIfInBounds_toArray, List.set_cons_zero, List.set_cons_succ]
      refine anyHF_take (i := 9) (d := 131) (v := .pointer (some ⟨bx, ox + 1, none⟩)) (by kernel_rfl) rfl (by kernel_rfl) (by kernel_rfl) (by kernel_rfl) rfl (fun _ _ _ h => h) ⟨Or.inl ⟨by rfl, fun w hS => by obtain ⟨h0, h1, h2, h3, h4, h5, h6, h7⟩ := hS; go_simp⟩, fun _ => rfl⟩ hS ?_
      simp only [List.setIfInBounds_toArray, List.set_cons_zero, List.set_cons_succ]
      refine anyHF_take (i := 10) (d := 132) (v := .slice Ad k cd) (by kernel_rfl) rfl (by kernel_rfl) (by kernel_rfl) (by kernel_rfl) rfl (fun _ _ _ h => h) ⟨Or.inl ⟨by rfl, fun w hS => by obtain ⟨h0, h1, h2, h3, h4, h5, h6, h7⟩ := hS; go_simp⟩, fun _ => rfl⟩ hS ?_
      simp only [List.setIfInBounds_toArray, List.set_cons_zero, List.set_cons_succ]
      refine anyHF_take (i := 11) (d := 133) (v := .slice (some ⟨by_, oy, none⟩) 3 cy) (by kernel_rfl) rfl (by kernel_rfl) (by kernel_rfl) (by kernel_rfl) rfl (fun _ _ _ h => h) ⟨Or.inl ⟨by rfl, fun w hS => by obtain ⟨h0, h1, h2, h3, h4, h5, h6, h7⟩ := hS; go_simp⟩, fun _ => rfl⟩ hS ?_
      simp only [List.setIfInBounds_toArray, List.set_cons_zero, List.set_cons_succ]
      refine anyHF_take (i := 12) (d := 134) (v := .pointer (some ⟨by_, oy + 2, none⟩)) (by kernel_rfl) rfl (by kernel_rfl) (by kernel_rfl) (by kernel_rfl) rfl (fun _ _ _ h => h) ⟨Or.inl ⟨by rfl, fun w hS => by obtain ⟨h0, h1, h2, h3, h4, h5, h6, h7⟩ := hS; go_simp⟩, fun _ => rfl⟩ hS ?_
      simp only [List.setIfInBounds_toArray, List.set_cons_zero, List.set_cons_succ]
      refine anyHF_take (i := 13) (d := 135) (v := .slice Aq k cy2) (by kernel_rfl) rfl (by kernel_rfl) (by kernel_rfl) (by kernel_rfl) rfl (fun _ _ _ h => h) ⟨Or.inl ⟨by rfl, fun w hS => by obtain ⟨h0, h1, h2, h3, h4, h5, h6, h7⟩ := hS; go_simp⟩, fun _ => rfl⟩ hS ?_
      simp only [List.setIfInBounds_toArray, List.set_cons_zero, List.set_cons_succ]
      refine anyHF_one (i := 14) (by kernel_rfl) rfl (by kernel_rfl) (by rfl) ?_
      gi_wp2_with fail
      refine ⟨trivial, (callsIn_wide.2 (HS2.out _ _ _ (HX1.out _ (below_in hWr hB)) (HY2.out _ (below_in hWr hB)))).mono ?_⟩
      rintro e wn ⟨rfl, hBn⟩
      replace hB := below_in hB hBn
      clear hS hBn
      have hS : (fun V : World => (convert 28 9 (u15)).run Tryz.prog V = .ok (.string (text adj)) V ∧ (convert 28 9 (.slice As l9 cs)).run Tryz.prog V = .ok (.string (text adj)) V ∧ V.cell? ⟨bx, ox, none⟩ = some (.slice (some ⟨bX, oX, none⟩) k cX) ∧ V.cell? ⟨bx, ox + 1, none⟩ = some (.slice Ad k cd) ∧ V.cell? ⟨bx, ox + 2, none⟩ = some (.slice (some ⟨bS, oS, none⟩) k cS) ∧ V.cell? ⟨by_, oy, none⟩ = some (.slice Ay k cy0) ∧ V.cell? ⟨by_, oy + 1, none⟩ = some (.slice At k cy1) ∧ V.cell? ⟨by_, oy + 2, none⟩ = some (.slice Aq k cy2)) wn := HS8.out _ hB
      gi_wp2
      try (refine ⟨hS, ?_⟩)
      refine anyHF_take (i := 15) (d := 137) (v := .bool true) (by kernel_rfl) rfl (by kernel_rfl) (by kernel_rfl) (by kernel_rfl) rfl (fun _ _ _ h => h) ⟨Or.inl ⟨by rfl, fun w hS => by obtain ⟨h0, h1, h2, h3, h4, h5, h6, h7⟩ := hS; go_simp⟩, fun _ => rfl⟩ hS ?_
      simp only [List.setIfInBounds_toArray, List.set_cons_zero, List.set_cons_succ]
      refine anyHF_take (i := 16) (d := 138) (v := .bool true) (by kernel_rfl) rfl (by kernel_rfl) (by kernel_rfl) (by kernel_rfl) rfl (fun _ _ _ h => h) ⟨Or.inl ⟨by rfl, fun w hS => by obtain ⟨h0, h1, h2, h3, h4, h5, h6, h7⟩ := hS; go_simp⟩, fun _ => rfl⟩ hS ?_
      simp only [List.setIfInBounds_toArray, List.set_cons_zero, List.set_cons_succ]
      refine anyHF_take (i := 17) (d := 139) (v := .slice (some ⟨bx, ox, none⟩) 3 cx) (by kernel_rfl) rfl (by kernel_rfl) (by kernel_rfl) (by kernel_rfl) rfl (fun _ _ _ h => h) ⟨Or.inl ⟨by rfl, fun w hS => by obtain ⟨h0, h1, h2, h3, h4, h5, h6, h7⟩ := hS; go_simp⟩, fun _ => rfl⟩ hS ?_
      simp only [List.setIfInBounds_toArray, List.set_cons_zero, List.set_cons_succ]
      refine anyHF_take (i := 18) (d := 140) (v := .pointer (some ⟨bx, ox, none⟩)) (by kernel_rfl) rfl (by kernel_rfl) (by kernel_rfl) (by kernel_rfl) rfl (fun _ _ _ h => h) ⟨Or.inl ⟨by rfl, fun w hS => by obtain ⟨h0, h1, h2, h3, h4, h5, h6, h7⟩ := hS; go_simp⟩, fun _ => rfl⟩ hS ?_
      simp only [List.setIfInBounds_toArray, List.set_cons_zero, List.set_cons_succ]
      refine anyHF_take (i := 19) (d := 141) (v := .slice (some ⟨bX, oX, none⟩) k cX) (by kernel_rfl) rfl (by kernel_rfl) (by kernel_rfl) (by kernel_rfl) rfl (fun _ _ _ h => h) ⟨Or.inl ⟨by rfl, fun w hS => by obtain ⟨h0, h1, h2, h3, h4, h5, h6, h7⟩ := hS; go_simp⟩, fun _ => rfl⟩ hS ?_
      simp only [List.setIfInBounds_toArray, List.set_cons_zero, List.set_cons_succ]
      refine anyHF_take (i := 20) (d := 142) (v := .slice (some ⟨by_, oy, none⟩) 3 cy) (by kernel_rfl) rfl (by kernel_rfl) (by kernel_rfl) (by kernel_rfl) rfl (fun _ _ _ h => h) ⟨Or.inl ⟨by rfl, fun w hS => by obtain ⟨h0, h1, h2, h3, h4, h5, h6, h7⟩ := hS; go_simp⟩, fun _ => rfl⟩ hS ?_
      simp only [List.setIfInBounds_toArray, List.set_cons_zero, List.set_cons_succ]
      refine anyHF_take (i := 21) (d := 143) (v := .pointer (some ⟨by_, oy, none⟩)) (by kernel_rfl) rfl (by kernel_rfl) (by kernel_rfl) (by kernel_rfl) rfl (fun _ _ _ h => h) ⟨Or.inl ⟨by rfl, fun w hS => by obtain ⟨h0, h1, h2, h3, h4, h5, h6, h7⟩ := hS; go_simp⟩, fun _ => rfl⟩ hS ?_
      simp only [List.setIfInBounds_toArray, List.set_cons_zero, List.set_cons_succ]
      refine anyHF_take (i := 22) (d := 144) (v := .slice Ay k cy0) (by kernel_rfl) rfl (by kernel_rfl) (by kernel_rfl) (by kernel_rfl) rfl (fun _ _ _ h => h) ⟨Or.inl ⟨by rfl, fun w hS => by obtain ⟨h0, h1, h2, h3, h4, h5, h6, h7⟩ := hS; go_simp⟩, fun _ => rfl⟩ hS ?_
      simp only [List.setIfInBounds_toArray, List.set_cons_zero, List.set_cons_succ]
      refine anyHF_one (i := 23) (by kernel_rfl) rfl (by kernel_rfl) (by rfl) ?_
      gi_wp2_with fail
      refine ⟨trivial, (callsIn_wide.2 (HS3.out _ _ _ (HX0.out _ (below_in hWr hB)) (HY0.out _ (below_in hWr hB)))).mono ?_⟩
      rintro e wn ⟨rfl, hBn⟩
      replace hB := below_in hB hBn
      clear hS hBn
      have hS : (fun V : World => (convert 28 9 (u15)).run Tryz.prog V = .ok (.string (text adj)) V ∧ (convert 28 9 (.slice As l9 cs)).run Tryz.prog V = .ok (.string (text adj)) V ∧ V.cell? ⟨bx, ox, none⟩ = some (.slice (some ⟨bX, oX, none⟩) k cX) ∧ V.cell? ⟨bx, ox + 1, none⟩ = some (.slice Ad k cd) ∧ V.cell? ⟨bx, ox + 2, none⟩ = some (.slice (some ⟨bS, oS, none⟩) k cS) ∧ V.cell? ⟨by_, oy, none⟩ = some (.slice Ay k cy0) ∧ V.cell? ⟨by_, oy + 1, none⟩ = some (.slice At k cy1) ∧ V.cell? ⟨by_, oy + 2, none⟩ = some (.slice Aq k cy2)) wn := HS8.out _ hB
      gi_wp2
      try (refine ⟨hS, ?_⟩)
      refine anyHF_take (i := 24) (d := 146) (v := .bool true) (by kernel_rfl) rfl (by kernel_rfl) (by kernel_rfl) (by kernel_rfl) rfl (fun _ _ _ h => h) ⟨Or.inl ⟨by rfl, fun w hS => by obtain ⟨h0, h1, h2, h3, h4, h5, h6, h7⟩ := hS; go_simp⟩, fun _ => rfl⟩ hS ?_
      simp only [List.setIfInBounds_toArray, List.set_cons_zero, List.set_cons_succ]
      refine anyHF_take (i := 25) (d := 147) (v := .bool true) (by kernel_rfl) rfl (by kernel_rfl) (by kernel_rfl) (by kernel_rfl) rfl (fun _ _ _ h => h) ⟨Or.inl ⟨by rfl, fun w hS => by obtain ⟨h0, h1, h2, h3, h4, h5, h6, h7⟩ := hS; go_simp⟩, fun _ => rfl⟩ hS ?_
      simp only [List.setIfInBounds_toArray, List.set_cons_zero, List.set_cons_succ]
      refine anyHF_take (i := 26) (d := 148) (v := u15) (by kernel_rfl) rfl (by kernel_rfl) (by kernel_rfl) (by kernel_rfl) rfl (fun _ _ _ h => h) ⟨Or.inl ⟨by rfl, fun w hS => by obtain ⟨h0, h1, h2, h3, h4, h5, h6, h7⟩ := hS; go_simp⟩, fun _ => rfl⟩ hS ?_
      simp only [List.setIfInBounds_toArray, List.set_cons_zero, List.set_cons_succ]
      refine anyHF_take (i := 27) (d := 149) (v := .string (text adj)) (by kernel_rfl) rfl (by kernel_rfl) (by kernel_rfl) (by kernel_rfl) rfl (fun _ _ _ h => h) ⟨Or.inl ⟨by rfl, fun w hS => by obtain ⟨h0, h1, h2, h3, h4, h5, h6, h7⟩ := hS; go_simp⟩, fun _ => rfl⟩ hS ?_
      simp only [List.setIfInBounds_toArray, List.set_cons_zero, List.set_cons_succ]
      refine anyHF_take (i := 28) (d := 150) (v := .slice As l9 cs) (by kernel_rfl) rfl (by kernel_rfl) (by kernel_rfl) (by kernel_rfl) rfl (fun _ _ _ h => h) ⟨Or.inl ⟨by rfl, fun w hS => by obtain ⟨h0, h1, h2, h3, h4, h5, h6, h7⟩ := hS; go_simp⟩, fun _ => rfl⟩ hS ?_
      simp only [List.setIfInBounds_toArray, List.set_cons_zero, List.set_cons_succ]
      refine anyHF_take (i := 29) (d := 151) (v := .string (text adj)) (by kernel_rfl) rfl (by kernel_rfl) (by kernel_rfl) (by kernel_rfl) rfl (fun _ _ _ h => h) ⟨Or.inl ⟨by rfl, fun w hS => by obtain ⟨h0, h1, h2, h3, h4, h5, h6, h7⟩ := hS; go_simp⟩, fun _ => rfl⟩ hS ?_
      simp only [List.setIfInBounds_toArray, List.set_cons_zero, List.set_cons_succ]
      refine anyHF_take (i := 30) (d := 152) (v := .bool true) (by kernel_rfl) rfl (by kernel_rfl) (by kernel_rfl) (by kernel_rfl) rfl (fun _ _ _ h => h) ⟨Or.inl ⟨by rfl, fun w hS => by obtain ⟨h0, h1, h2, h3, h4, h5, h6, h7⟩ := hS; go_simp⟩, fun _ => rfl⟩ hS ?_
      simp only [List.setIfInBounds_toArray, List.set_cons_zero, List.set_cons_succ]
      refine anyHF_take (i := 31) (d := 153) (v := .bool true) (by kernel_rfl) rfl (by kernel_rfl) (by kernel_rfl) (by kernel_rfl) rfl (fun _ _ _ h => h) ⟨Or.inl ⟨by rfl, fun w hS => by obtain ⟨h0, h1, h2, h3, h4, h5, h6, h7⟩ := hS; go_simp⟩, fun _ => rfl⟩ hS ?_
      simp only [List.setIfInBounds_toArray, List.set_cons_zero, List.set_cons_succ]
      refine anyHF_take (i := 32) (d := 154) (v := .bool true) (by kernel_rfl) rfl (by kernel_rfl) (by kernel_rfl) (by kernel_rfl) rfl (fun _ _ _ h => h) ⟨Or.inl ⟨by rfl, fun w hS => by obtain ⟨h0, h1, h2, h3, h4, h5, h6, h7⟩ := hS; go_simp⟩, fun _ => rfl⟩ hS ?_
      simp only [List.setIfInBounds_toArray, List.set_cons_zero, List.set_cons_succ]
      refine anyHF_one (i := 33) (by kernel_rfl) rfl (by kernel_rfl) (by rfl) ?_
      gi_wp2_with fail
      refine ⟨trivial, (callsIn_wide.2 (Go.Proofs.YtcgnhfiadeceiaaGreatDoor.T.works_any _ (HLW.out _ (below_in hWr hB)))).mono ?_⟩
      rintro e wn ⟨rfl, hBn⟩
      replace hB := below_in hB hBn
      clear hS hBn
      have hS : (fun V : World => (convert 28 9 (u15)).run Tryz.prog V = .ok (.string (text adj)) V ∧ (convert 28 9 (.slice As l9 cs)).run Tryz.prog V = .ok (.string (text adj)) V ∧ V.cell? ⟨bx, ox, none⟩ = some (.slice (some ⟨bX, oX, none⟩) k cX) ∧ V.cell? ⟨bx, ox + 1, none⟩ = some (.slice Ad k cd) ∧ V.cell? ⟨bx, ox + 2, none⟩ = some (.slice (some ⟨bS, oS, none⟩) k cS) ∧ V.cell? ⟨by_, oy, none⟩ = some (.slice Ay k cy0) ∧ V.cell? ⟨by_, oy + 1, none⟩ = some (.slice At k cy1) ∧ V.cell? ⟨by_, oy + 2, none⟩ = some (.slice Aq k cy2)) wn := HS8.out _ hB
      gi_wp2
      try (refine ⟨hS, ?_⟩)
      refine anyHF_take (i := 34) (d := 156) (v := .bool true) (by kernel_rfl) rfl (by kernel_rfl) (by kernel_rfl) (by kernel_rfl) rfl (fun _ _ _ h => h) ⟨Or.inl ⟨by rfl, fun w hS => by obtain ⟨h0, h1, h2, h3, h4, h5, h6, h7⟩ := hS; go_simp⟩, fun _ => rfl⟩ hS ?_
      simp only [List.setIfInBounds_toArray, List.set_cons_zero, List.set_cons_succ]
      refine anyHF_one (i := 35) (by kernel_rfl) rfl (by kernel_rfl) (by rfl) ?_
      gi_wp2
      refine anyHF_done (by kernel_rfl) ?_ _
      refine NoPanic.normal ?_
      clear hS
      go_wp2
      go_ret
      exact ⟨rfl, below_in HBW.out (below_in hWr hB)⟩

set_option maxRecDepth 100000 in
theorem lifted (os : Os) (started : os.Started) (H : Type) (enc : TypeId × Value → H) :
    ReturnsInHanded {} Tryz.checked os 6 .any (fun w args => (Rows.starHoldsSpec.pre enc Tryz.prog Tryz.f6 [] false w args ∧ laidMetH Tryz.prog laidL w) ∧ sizedMet enc Tryz.prog Tryz.f6 (OpenSpec.ofChange Rows.starHoldsSpec) false w args)
      (Rows.starHoldsSpec.post enc Tryz.prog Tryz.f6 false true false false) := by
  refine returnsInHanded_of_change_and (C := Tryz.checked) (X := fun w _ => laidMetH Tryz.prog laidL w) (fun _ _ _ hh h => h.of_heap hh) own started (by kernel_rfl) Tryz.func6
    (ChangeSpec.witness_shaped (enc := enc) (C := Tryz.checked) (os := os) (X := fun w _ => laidMetH Tryz.prog laidL w) false (World.doorLaid Tryz.prog 200 os) #[.int .i64 0, .slice none 0 0] 8 rfl (World.shaped_of_RefB (by kernel_rfl) (by kernel_rfl)) (by kernel_rfl) (by kernel_rfl) (by kernel_rfl) (door_met os _)) ?_
  intro W base args ds gs before hval0 hW _ _ hL0 _
  have hL := laid_of hL0
  have hval : ∀ (j : Nat) t v, Tryz.f6.params[j]? = some t → args[j]? = some v → Value.okWide Tryz.prog W .any base t v := hval0
  have hW' := hW
  obtain ⟨p, q, hA0, hV, rfl, hfz, hnd⟩ := hW
  have hA : DataW.TrodAll enc Tryz.prog W 0 (fun _ => true) true Tryz.f6.params.toList args.toList ds p := hA0
  rw [Tryz.params6] at hA hval
  obtain ⟨v0, vs0, d0, ds0, p0, q0, hargs, rfl, rfl, h0, r0⟩ := trodAll_cons hA
  obtain ⟨v1, vs1, d1, ds1, p1, q1, rfl, rfl, rfl, h1, r1⟩ := trodAll_cons r0
  obtain ⟨rfl, rfl, rfl⟩ := trodAll_nil r1
  obtain rfl : args = #[v0, v1] := by cases args; simp_all
  obtain ⟨rfl, rfl⟩ := trodVars_none hV
  obtain ⟨a0, rfl, rfl, rfl, w0⟩ := open_int Tryz.underlying3 (hval 0 3 v0 rfl rfl) h0
  have k1 := h1
  have lt1 : ∀ x ∈ p1, x.block < W.heap.size := by obtain ⟨m, hm⟩ := k1; exact DataW.trod_lt m _ _ _ hm
  obtain ⟨a1, len1, cap1, rfl⟩ := okWide_slice Tryz.underlying22 (hval 1 22 v1 rfl rfl)
  obtain ⟨l1, w1⟩ : ∃ css, E.Cols W.heap.size W (.slice a1 len1 cap1) css := by obtain ⟨fuel, hf⟩ := h1; exact E.open_cols hf
  clear hA0 hval0
  simp only [List.append_nil] at hW'
  refine (walk a0 _ l1 W hL (E.wf_i64 w0) w1).mono fun e W' ⟨he, bel⟩ => ?_
  subst he
  exact ⟨_, rfl, _, _, _, [], _, [], hW', trodAll_mk1 (shut_bool Tryz.underlying4 _), (trodAll_cons_mk (shut_int Tryz.underlying3 w0) (trodAll_cons_mk (Below.trod laidOut (by kernel_rfl) (of_decide_eq_true (by kernel_rfl)) k1 bel lt1) trodAll_mk0)), rfl, bel.frame _, fun h => by cases h⟩

theorem over : Rows.starHoldsRow.holds Tryz.pinned (OpenSpec.ofChange Rows.starHoldsSpec) :=
  OpenClaim.holds_of_wide 6 Tryz.f6 rfl rfl rfl rfl rfl rfl rfl ⟨rfl, rfl, rfl, rfl, rfl⟩ rfl rfl rfl rfl rfl (by kernel_rfl) Tryz.func6 (by kernel_rfl)
    (of_decide_eq_true (by kernel_rfl)) (by unfold Func.isWrapper; first | (rw [if_pos (by decide +kernel)]; kernel_rfl) | (rw [if_neg (by decide +kernel)]; exact ⟨rfl, rfl⟩))
    (fun os started H enc _ => lifted os started H enc)

/-- The tied card: the row, and the tie that is given. -/
theorem starHolds_holds : Rows.StarHoldsCardSaid :=
  Claim7.holds_tied_plain_at .later [] [.data, .data] true (true, "7e27223e161f1634c86bf5b961aa3e78ae26ed2f90e841ec1f5ff27ba1a55c1c") true over (fun _ h => by cases h) (by kernel_rfl) (fun _ h => by cases h) starHolds_row_tie rfl ⟨rfl, rfl⟩ (by kernel_rfl) rfl
    (fun f fn hf hfn => by
      obtain rfl : f = 6 := Option.some.inj ((show Tryz.prog.funcNamed "palisade/palisadelaw08.StarHolds" = some 6 by kernel_rfl).symm.trans hf) |>.symm
      obtain rfl : fn = Tryz.f6 := (Option.some.inj (Tryz.func6.symm.trans hfn)).symm
      exact ⟨by kernel_rfl, fun j t ht => by
        rw [Tryz.params6] at ht
        have hm : t ∈ [3, 22] := by simpa using Array.mem_of_getElem? ht
        have hall : ([3, 22].all fun u => !Tryz.prog.wantsStandIn u) = true := by kernel_rfl
        exact (show Tryz.prog.wantsStandIn t = false by simpa using List.all_eq_true.1 hall t hm)⟩)
    (by kernel_rfl)
end Go.Proofs.YtcgnhfiadeceiaaGreatDoor.starHolds
