/- chain: the document's answers. -/
import Derived.Test.YtfihlelhpmjpaaaGreatDoorCRG9m2
import Derived.Test.YtfihlelhpmjpaaaGreatDoorCRG12m10
import Derived.Test.YtfihlelhpmjpaaaGreatDoorCRG19m3
namespace Go.Proofs.YtfihlelhpmjpaaaGreatDoor.Ch
open Go.RowKit Go.Shelf Go.Maps Go.Proofs.YtfihlelhpmjpaaaGreatDoor.C Go.Proofs.YtfihlelhpmjpaaaGreatDoor.E Go.Proofs.YtfihlelhpmjpaaaGreatDoor.Rg
set_option linter.unusedSimpArgs false
set_option linter.unusedVariables false
attribute [local go_sem] Oper.semAt_some

theorem one_cell1 {V : World} {g : Nat} {a : Int} (h : Blk V g 3 #[.int .i64 a]) : ∀ j, j < [a].length → V.cell? ⟨g, j, none⟩ = some (.int .i64 ([a][j]?.getD 0)) := by
  intro j hj
  obtain rfl : j = 0 := by simp at hj; omega
  exact h.cell 0
set_option maxRecDepth 100000 in
set_option maxHeartbeats 4000000 in
theorem alone11_any {B P Q n : Nat} (d : Dims P Q n) (a : Int) (ha : 0 ≤ a) (haP : a < (P : Int)) (css : List (List (List UInt8))) (N : Nat) (hcl : css.length = N) (hN : N = P + 2) (hgood : ∀ i, i < css.length → (i : Int) ∉ [a, (P : Int)] → GoodC Q n (css[i]?.getD [])) (vA : Option Addr) (vc : Nat) (w : World) (hB : B ≤ w.heap.size) (hC : Cols B w (.slice vA N vc) css)
    (D : List (List UInt8)) (hD : sumsD P Q n css (css[P + 1]?.getD []) [a] 1 P = D) :
    Calls Tryz.prog 24 #[.int .i64 (P : Int), .slice vA N vc, .int .i64 a] w fun e w' => ∃ u, e = .returned u ∧ Many w'.heap.size w' u (turnC P Q n D (-a)) ∧ Below w.heap.size w w' := by
  have hpb := prm_bounds d.hp
  have hQP := d.hQ
  have gP1 := hgood (P + 1) (by omega) (by simp; omega)
  have gD : GoodC Q n D := by rw [← hD]; exact sumsD_good d gP1 P
  obtain ⟨gl, go, vc', hve, hcapN, hgl, hrow⟩ := hC.at_ (by omega)
  injection hve with e1 e2 e3
  subst e1 e3
  clear e2
  obtain ⟨uD, hcD, hmD⟩ := hrow (P + 1) (by omega)
  obtain ⟨AD, kD, rfl, _, _⟩ := id hmD
  rw [gP1.1] at hcD hmD
  have HSD := Lib.hid (fun (V : World) (g : Nat) (hV : Below w.heap.size w V) (bE : Blk V g 3 #[.int .i64 a]) => sums11_any (B := B) d g 1 [a] (by simp) 1 (by omega) css N hcl (by omega) (fun c hc hm => hgood c (by omega) (by simp at hm ⊢; omega)) (css[P + 1]?.getD []) gP1 (.slice AD Q kD) (some ⟨gl, go, none⟩) vc V (Nat.le_trans hB hV.size) bE.lt (one_cell1 bE) (hC.below (hV.mono hB)) ((hmD.below (hV.mono hB)).more (Nat.le_trans hB hV.size)))
  rw [hD] at HSD
  have HT2 := Lib.hid (fun (V : World) (v : Value) (h : Many V.heap.size V v D) => turnD_any d (-a) (by omega) (by omega) _ gD v V h)
  have i3 : (0 : Int) ≤ (P : Int) + 1 := by omega
  have i4 : (P : Int) + 1 < (N : Int) := by omega
  have w1e : IntKind.i64.wrap ((P : Int) + 1) = (P : Int) + 1 := IntWalk.i64_in _ (by omega)
  have w2e : IntKind.i64.wrap (-a) = -a := IntWalk.i64_in _ (by omega)
  have hz0 : ((P : Int) + 1).toNat = P + 1 := by omega
  have hBl := below_one w (.cells #[.int .i64 a] 3)
  have bL := Blk.new w 3 #[.int .i64 a]
  have cD := hcD
  have hlt0 : gl < w.heap.size := Nat.lt_of_lt_of_le hgl hB
  clear hC hrow hcD hmD hcl hN hgood gP1 hD hcapN gD ha haP hpb hQP
  go_enter Tryz.func24, Tryz.ntmps24
  go_wp2_with fail
  refine (HSD.out _ _ hBl bL).mono ?_
  rintro e w1 ⟨u1, rfl, hu1, hB1⟩
  have hBw1 := below_in hBl hB1
  clear cD bL hBl
  go_wp2_with fail
  refine (HT2.out w1 _ hu1).mono ?_
  rintro e w2 ⟨u2, rfl, hu2, hB2⟩
  have hBw2 := below_in hBw1 hB2
  go_wp2
  go_ret
  exact ⟨_, rfl, hu2, hBw2⟩
end Go.Proofs.YtfihlelhpmjpaaaGreatDoor.Ch

