/- ring: the document's Stretch and Slacken. chain: the document's answers. -/
import Derived.Test.YtfihlelhpmjpaaaGreatDoorCRG12m1
import Derived.Test.YtfihlelhpmjpaaaGreatDoorCRG19m3
import Derived.Test.YtfihlelhpmjpaaaGreatDoorCRG19m5
namespace Go.Proofs.YtfihlelhpmjpaaaGreatDoor.Rg
open Go.RowKit Go.Shelf Go.Proofs.YtfihlelhpmjpaaaGreatDoor.C Go.Proofs.YtfihlelhpmjpaaaGreatDoor.E
set_option linter.unusedSimpArgs false
set_option linter.unusedVariables false
attribute [local go_sem] Oper.semAt_some

/-- The document's heap: so many turns put upon the column. -/
def outN (P Q n : Nat) (c : List (List UInt8)) (o : Nat) : Nat → List (List UInt8)
  | 0 => c
  | m + 1 => putC (outN P Q n c o m) (turnC P Q n c (2 * ((m + 1 : Nat) : Int) * (o : Int)))
theorem outN_good {P Q n : Nat} (D : Dims P Q n) {c : List (List UInt8)} (hc : GoodC Q n c) (o : Nat) : ∀ m, GoodC Q n (outN P Q n c o m)
  | 0 => hc
  | m + 1 => put_good D.h1 D.h64 (outN_good D hc o m)
theorem bt_out {P Q n : Nat} (D : Dims P Q n) {c : List (List UInt8)} (hc : GoodC Q n c) (o : Nat) (j : Nat) (r : Int) : ∀ m, Bt P Q n (outN P Q n c o m) j r = xa ((List.range (m + 1)).map fun i : Nat => tu (2 * (i : Int) * (o : Int)) (Bt P Q n c j) r)
  | 0 => by
    show Bt P Q n c j r = _
    have hp := Bt.per (n := n) D.hQ c j
    simp [xa, tu, hp.2]
  | m + 1 => by
    show Bt P Q n (putC (outN P Q n c o m) (turnC P Q n c (2 * ((m + 1 : Nat) : Int) * (o : Int)))) j r = _
    rw [bt_put D.hQ (outN_good D hc o m) (turn_good D.h1 D.h64 hc _), bt_out D hc o j r m, bt_turn D.hQ hc, List.range_succ (n := m + 1), List.map_append, xa_append]
    rw [List.map_cons, List.map_nil, xa_cons, xa_nil, UInt8.xor_zero]
theorem even_fin : ∀ p ∈ prm, ∀ s ∈ List.range 17, (s : Int) < p → s ≠ 0 → ∀ r ∈ List.range 17, (r : Int) < p →
    ((List.range ((p - 1).toNat / 2 + 1)).flatMap fun i : Nat => [((r : Int) - 2 * (i : Int) * (s : Int)) % p, ((r : Int) - (s : Int) - 2 * (i : Int) * (s : Int)) % p]).isPerm ((r : Int) :: (List.range p.toNat).map fun k : Nat => (k : Int)) = true := by decide +kernel
theorem xa_pairs {α : Type} (f g : α → UInt8) : ∀ l : List α, xa (l.flatMap fun i => [f i, g i]) = xa (l.map fun i => f i ^^^ g i) := by
  intro l
  induction l with
  | nil => rfl
  | cons a l ih =>
    rw [List.flatMap_cons, xa_append, ih, List.map_cons, xa_cons, xa_cons, xa_cons, xa_nil, UInt8.xor_zero]
theorem even_sum {P Q : Nat} (hQ : P = Q + 1) (hp : (P : Int) ∈ prm) {b : Int} (hb : b % (P : Int) ≠ 0) {o : Nat} (ho : b % (P : Int) = (o : Int)) {x : Int → UInt8} (hx : Per P x) (r : Int) :
    xa ((List.range (Q / 2 + 1)).map fun i : Nat => x (r - 2 * (i : Int) * (o : Int)) ^^^ x (r - b - 2 * (i : Int) * (o : Int))) = x r ^^^ al P x := by
  have hpb := prm_bounds hp
  have h0 := Int.emod_nonneg r (show (P : Int) ≠ 0 by omega)
  have h1 := Int.emod_lt_of_pos r (show (0 : Int) < P by omega)
  have h3 := Int.emod_lt_of_pos b (show (0 : Int) < P by omega)
  obtain ⟨s, hs⟩ : ∃ s : Nat, r % (P : Int) = (s : Int) := ⟨(r % (P : Int)).toNat, by omega⟩
  have h := xa_perm ((List.isPerm_iff.1 (even_fin _ hp o (List.mem_range.2 (by omega)) (by omega) (by omega) s (List.mem_range.2 (by omega)) (by omega))).map x)
  have hoo : (o : Int) % (P : Int) = (o : Int) := Int.emod_eq_of_lt (by omega) (by omega)
  have hss : (s : Int) % (P : Int) = (s : Int) := Int.emod_eq_of_lt (by omega) (by omega)
  rw [Int.toNat_natCast, List.map_cons, List.map_map, xa_cons, List.map_flatMap] at h
  simp only [List.map_cons, List.map_nil] at h
  rw [xa_pairs] at h
  refine Eq.trans ?_ (h.trans ?_)
  · rw [show ((P : Int) - 1).toNat / 2 + 1 = Q / 2 + 1 by omega]
    congr 1
    refine List.map_congr_left fun i _ => ?_
    congr 1
    · refine hx.1 _ _ ?_
      rw [Int.emod_emod_of_dvd _ (Int.dvd_refl _)]
      exact mod_sub (by rw [hss]; exact hs) _
    · refine hx.1 _ _ ?_
      rw [Int.emod_emod_of_dvd _ (Int.dvd_refl _)]
      refine mod_sub ?_ _
      rw [Int.sub_emod, ho, hs]
  · rw [hx.1 (s : Int) r (by rw [hss, hs])]
    rfl
theorem xa_both {α : Type} (f g : α → UInt8) : ∀ l : List α, xa (l.map fun x => f x ^^^ g x) = xa (l.map f) ^^^ xa (l.map g) := by
  intro l
  induction l with
  | nil => simp [xa]
  | cons y l ih =>
    rw [List.map_cons, List.map_cons, List.map_cons, xa_cons, xa_cons, xa_cons, ih]
    simp only [UInt8.xor_assoc, UInt8.xor_comm, xlc]
theorem out_is {P Q n : Nat} (D : Dims P Q n) {c : List (List UInt8)} (hc : GoodC Q n c) {b : Int} (hb : b % (P : Int) ≠ 0) {o : Nat} (ho : b % (P : Int) = (o : Int)) : outN P Q n c o (Q / 2) = slackL P Q (wholeF Q n c) b := by
  have g1 := outN_good D hc o (Q / 2)
  refine str_inj D.hQ D.hp g1 (slack_good D.hQ D.h1 D.h64 hc b) hb ?_
  rw [str_slack D.hQ D.hp D.h1 D.h64 hc hb]
  refine col_ext D.hQ (str_good D.h1 D.h64 g1 b) hc fun j r => ?_
  rw [bt_str D.hQ g1]
  have hx := Bt.per (n := n) D.hQ c j
  have e : ∀ r, Bt P Q n (outN P Q n c o (Q / 2)) j r = xa ((List.range (Q / 2 + 1)).map fun i : Nat => (Bt P Q n c j) (r - 2 * (i : Int) * (o : Int))) ^^^ xa ((List.range (Q / 2 + 1)).map fun i : Nat => (Bt P Q n c j) (-1 - 2 * (i : Int) * (o : Int))) := fun r => by
    rw [bt_out D hc o j r (Q / 2), ← xa_both]
    rfl
  have e2 := fun r => (xa_both (fun i : Nat => (Bt P Q n c j) (r - 2 * (i : Int) * (o : Int))) (fun i : Nat => (Bt P Q n c j) (r - b - 2 * (i : Int) * (o : Int))) (List.range (Q / 2 + 1))).symm.trans (even_sum D.hQ D.hp hb ho hx r)
  unfold st tu
  rw [e, e, e]
  have e3 := e2 r
  have e4 := e2 (-1)
  rw [hx.2, UInt8.zero_xor] at e4
  generalize xa ((List.range (Q / 2 + 1)).map fun i : Nat => (Bt P Q n c j) (r - 2 * (i : Int) * (o : Int))) = z1 at *
  generalize xa ((List.range (Q / 2 + 1)).map fun i : Nat => (Bt P Q n c j) (-1 - 2 * (i : Int) * (o : Int))) = z2 at *
  generalize xa ((List.range (Q / 2 + 1)).map fun i : Nat => (Bt P Q n c j) (r - b - 2 * (i : Int) * (o : Int))) = z3 at *
  generalize xa ((List.range (Q / 2 + 1)).map fun i : Nat => (Bt P Q n c j) (-1 - b - 2 * (i : Int) * (o : Int))) = z4 at *
  have e5 : z1 ^^^ z2 ^^^ (z3 ^^^ z2 ^^^ (z4 ^^^ z2)) = (z1 ^^^ z3) ^^^ (z2 ^^^ z4) := by simp only [UInt8.xor_assoc, UInt8.xor_comm, xlc, xx, UInt8.xor_self, UInt8.xor_zero, UInt8.zero_xor]
  rw [e5, e3, e4, UInt8.xor_assoc, UInt8.xor_self, UInt8.xor_zero]
set_option maxRecDepth 100000 in
set_option maxHeartbeats 4000000 in
theorem slackD_any {P Q n : Nat} (D : Dims P Q n) (b : Int) (y1 : -9223372036854775808 ≤ b) (y2 : b ≤ 9223372036854775807) (hb : b % (P : Int) ≠ 0) (c : List (List UInt8)) (hc : GoodC Q n c) (v : Value) (w : World) (hM : Many w.heap.size w v c) :
    Calls Tryz.prog 51 #[.int .i64 (P : Int), v, .int .i64 b] w fun e w' => ∃ u, e = .returned u ∧ Many w'.heap.size w' u (slackL P Q (wholeF Q n c) b) ∧ Below w.heap.size w w' := by
  have hpb := prm_bounds D.hp
  have hQ2 := prm_odd D.hQ D.hp
  obtain ⟨o, ho⟩ : ∃ o : Nat, b % (P : Int) = (o : Int) := ⟨(b % (P : Int)).toNat, by have := Int.emod_nonneg b (show (P : Int) ≠ 0 by omega); omega⟩
  have hoP : o < P := by have := Int.emod_lt_of_pos b (show (0 : Int) < P by omega); omega
  obtain ⟨h, hh⟩ : ∃ h, Q / 2 = h := ⟨_, rfl⟩
  have hh8 : h ≤ 8 := by have := D.hQ; omega
  have HIS := Lib.hid (out_is D hc hb ho)
  rw [hh] at HIS
  have hq : ((P : Int) - 1).tdiv 2 = (h : Int) := by rw [Int.tdiv_eq_ediv_of_nonneg (by omega)]; have := D.hQ; omega
  have HOF := Lib.hid (fun U => rof_any (P : Int) b U (by omega) (by omega) y1 y2)
  rw [ho] at HOF
  have HT := Lib.hid (fun (z : Int) (z0 : 0 ≤ z) (z1 : z ≤ 1000) (U : World) (hU : Below w.heap.size w U) => turnD_any D z (by omega) (by omega) c hc v U ((hM.below hU).more hU.size))
  have HM := Lib.hid hM
  have HG := Lib.hid (outN_good D hc o)
  have HC := Lib.hid hc
  obtain ⟨A, ca, rfl, _, _⟩ := id hM
  rw [hc.1] at HT HM ⊢
  clear hM hQ2 hh ho hb hc
  go_enter Tryz.func51, Tryz.ntmps51
  go_wp2
  go_loopw [7, 8] (fun u i wr => ∃ k : Nat, 1 ≤ k ∧ k ≤ h + 1 ∧ i = .int .i64 k ∧ Many wr.heap.size wr u (outN P Q n c o (k - 1)) ∧ Below w.heap.size w wr) (fun _ i _ => h + 1 - (intOf i).toNat)
  case atStart => exact ⟨1, Nat.le_refl _, by omega, rfl, HM.out, Below.refl _ _⟩
  case round =>
    obtain ⟨k, hk1, hk, rfl, hu, hB⟩ := hrel
    by_cases hlt : k ≤ h
    · have hdec : decide ((k : Int) ≤ (h : Int)) = true := by simp; omega
      have i1 : (0 : Int) ≤ (k : Int) := by omega
      have i2 : (k : Int) ≤ 8 := by omega
      have i3 : (0 : Int) ≤ (o : Int) := by omega
      have i4 : (o : Int) ≤ 17 := by omega
      have z0 : (0 : Int) ≤ 2 * (k : Int) * (o : Int) := Int.mul_nonneg (by omega) i3
      have z1 : 2 * (k : Int) * (o : Int) ≤ 16 * 17 := Int.mul_le_mul (by omega) i4 i3 (by omega)
      have w1' : IntKind.i64.wrap (2 * (k : Int)) = 2 * (k : Int) := IntWalk.i64_in _ (by omega)
      have w2' : IntKind.i64.wrap (2 * (k : Int) * (o : Int)) = 2 * (k : Int) * (o : Int) := IntWalk.i64_in _ (by omega)
      have HTZ := Lib.hid (HT.out _ z0 (by omega))
      have HPY := Lib.hid (fun (U : World) (u2 : Value) (h1 : Many U.heap.size U u7 (outN P Q n c o (k - 1))) (h2 : Many U.heap.size U u2 (turnC P Q n c (2 * (k : Int) * (o : Int)))) => putY D _ _ (HG.out (k - 1)) (turn_good D.h1 D.h64 HC.out _) u7 u2 U h1 h2)
      have HNX : Hid (putC (outN P Q n c o (k - 1)) (turnC P Q n c (2 * (k : Int) * (o : Int))) = outN P Q n c o (k + 1 - 1)) := by
        obtain ⟨m, rfl⟩ : ∃ m, k = m + 1 := ⟨k - 1, by omega⟩
        rfl
      rw [HNX.out] at HPY
      go_wp2_with (go_at_call 71; refine (HOF.out _).mono ?_; rintro e w' ⟨rfl, rfl⟩)
      refine (HTZ.out _ hB).mono ?_
      rintro e w2 ⟨u2, rfl, hu2, hB2⟩
      have hu' := (hu.below hB2).more hB2.size
      go_wp2_with fail
      refine (HPY.out _ _ hu' hu2).mono ?_
      rintro e w3 ⟨u3, rfl, hu3, hB3⟩
      go_wp2
      go_roundw
      case rel => exact ⟨k + 1, by omega, by omega, by go_num, hu3, below_in hB (below_in hB2 hB3)⟩
      case measure => simp [intOf]; omega
    · have hkh : k - 1 = h := by omega
      have e1 : decide ((k : Int) ≤ (h : Int)) = false := by simp; omega
      rw [hkh, HIS.out] at hu
      go_wp2
      go_ret
      exact ⟨_, rfl, hu, hB⟩
end Go.Proofs.YtfihlelhpmjpaaaGreatDoor.Rg

namespace Go.Proofs.YtfihlelhpmjpaaaGreatDoor.Ch
open Go.RowKit Go.Shelf Go.Maps Go.Proofs.YtfihlelhpmjpaaaGreatDoor.C Go.Proofs.YtfihlelhpmjpaaaGreatDoor.E Go.Proofs.YtfihlelhpmjpaaaGreatDoor.Rg
set_option linter.unusedSimpArgs false
set_option linter.unusedVariables false
attribute [local go_sem] Oper.semAt_some

set_option maxRecDepth 100000 in
set_option maxHeartbeats 4000000 in
theorem recover11_any {B P Q n : Nat} (d : Dims P Q n) (a b : Int) (ha : 0 ≤ a) (hab : a < b) (hb : b < (P : Int)) (css : List (List (List UInt8))) (N : Nat) (hcl : css.length = N) (hN : N = P + 2) (hgood : ∀ i, i < css.length → (i : Int) ∉ [a, b] → GoodC Q n (css[i]?.getD [])) (vA : Option Addr) (vc : Nat) (w : World) (hB : B ≤ w.heap.size) (hC : Cols B w (.slice vA N vc) css)
    (R D : List (List UInt8)) (hR : sumsD P Q n css (css[P]?.getD []) [a, b] 0 P = R) (hD : sumsD P Q n css (css[P + 1]?.getD []) [a, b] 1 P = D) :
    Calls Tryz.prog 21 #[.int .i64 (P : Int), .slice vA N vc, .int .i64 a, .int .i64 b] w fun e w' => ∃ g, e = .returned (.slice (some ⟨g, 0, none⟩) 2 2) ∧ Cols w'.heap.size w' (.slice (some ⟨g, 0, none⟩) 2 2) [putC R (secC P Q n R D a b), secC P Q n R D a b] ∧ Below w.heap.size w w' := by
  have hpb := prm_bounds d.hp
  have hQP := d.hQ
  have gP := hgood P (by omega) (by simp; omega)
  have gP1 := hgood (P + 1) (by omega) (by simp; omega)
  have gR : GoodC Q n R := by rw [← hR]; exact sumsD_good d gP P
  have gD : GoodC Q n D := by rw [← hD]; exact sumsD_good d gP1 P
  have hba : (b - a) % (P : Int) ≠ 0 := by rw [Int.emod_eq_of_lt (by omega) (by omega)]; omega
  obtain ⟨gl, go, vc', hve, hcapN, hgl, hrow⟩ := hC.at_ (by omega)
  injection hve with e1 e2 e3
  subst e1 e3
  clear e2
  obtain ⟨uP, hcP, hmP⟩ := hrow P (by omega)
  obtain ⟨uD, hcD, hmD⟩ := hrow (P + 1) (by omega)
  obtain ⟨AP, kP, rfl, _, _⟩ := id hmP
  obtain ⟨AD, kD, rfl, _, _⟩ := id hmD
  rw [gP.1] at hcP hmP
  rw [gP1.1] at hcD hmD
  have HC := Lib.hid hC
  have HSR := Lib.hid (fun (V : World) (g : Nat) (hV : Below w.heap.size w V) (bE : Blk V g 3 #[.int .i64 a, .int .i64 b]) => sums11_any (B := B) d g 2 [a, b] (by simp) 0 (by omega) css N hcl (by omega) (fun c hc hm => hgood c (by omega) hm) (css[P]?.getD []) gP (.slice AP Q kP) (some ⟨gl, go, none⟩) vc V (Nat.le_trans hB hV.size) bE.lt (two_cell bE) (hC.below (hV.mono hB)) ((hmP.below (hV.mono hB)).more (Nat.le_trans hB hV.size)))
  have HSD := Lib.hid (fun (V : World) (g : Nat) (hV : Below w.heap.size w V) (bE : Blk V g 3 #[.int .i64 a, .int .i64 b]) => sums11_any (B := B) d g 2 [a, b] (by simp) 1 (by omega) css N hcl (by omega) (fun c hc hm => hgood c (by omega) hm) (css[P + 1]?.getD []) gP1 (.slice AD Q kD) (some ⟨gl, go, none⟩) vc V (Nat.le_trans hB hV.size) bE.lt (two_cell bE) (hC.below (hV.mono hB)) ((hmD.below (hV.mono hB)).more (Nat.le_trans hB hV.size)))
  rw [hR] at HSR
  rw [hD] at HSD
  have HKD := Lib.hid (fun (V : World) (hV : Below w.heap.size w V) => (hV.cell (p := ⟨gl, go + (P + 1), none⟩) (Nat.lt_of_lt_of_le hgl hB)).trans hcD)
  have HKP := Lib.hid (fun (V : World) (hV : Below w.heap.size w V) => (hV.cell (p := ⟨gl, go + P, none⟩) (Nat.lt_of_lt_of_le hgl hB)).trans hcP)
  have HT1 := Lib.hid (fun (V : World) (v : Value) (h : Many V.heap.size V v R) => turnD_any d a (by omega) (by omega) R gR v V h)
  have HP1 := Lib.hid (fun (V : World) (u v : Value) (h : Many V.heap.size V u D) (h2 : Many V.heap.size V v (turnC P Q n R a)) => putY d D _ gD (turn_good d.h1 d.h64 gR a) u v V h h2)
  have HT2 := Lib.hid (fun (V : World) (v : Value) (h : Many V.heap.size V v (putC D (turnC P Q n R a))) => turnD_any d (-a) (by omega) (by omega) _ (put_good d.h1 d.h64 gD) v V h)
  have HSL : Hid (∀ (V : World) (v : Value) (h : Many V.heap.size V v (turnC P Q n (putC D (turnC P Q n R a)) (-a))), Calls Tryz.prog 51 #[.int .i64 (P : Int), v, .int .i64 (b - a)] V fun e w' => ∃ u, e = .returned u ∧ Many w'.heap.size w' u (secC P Q n R D a b) ∧ Below V.heap.size V w') := fun V v h => slackD_any d (b - a) (by omega) (by omega) hba _ (secX_good d gR gD) v V h
  have HP2 := Lib.hid (fun (V : World) (u v : Value) (h : Many V.heap.size V u R) (h2 : Many V.heap.size V v (secC P Q n R D a b)) => putY d R _ gR (secC_good d gR gD) u v V h h2)
  have i1 : (0 : Int) ≤ (P : Int) := by omega
  have i2 : (P : Int) < (N : Int) := by omega
  have i3 : (0 : Int) ≤ (P : Int) + 1 := by omega
  have i4 : (P : Int) + 1 < (N : Int) := by omega
  have w1e : IntKind.i64.wrap ((P : Int) + 1) = (P : Int) + 1 := IntWalk.i64_in _ (by omega)
  have w2e : IntKind.i64.wrap (-a) = -a := IntWalk.i64_in _ (by omega)
  have w3e : IntKind.i64.wrap (b - a) = b - a := IntWalk.i64_in _ (by omega)
  have hz0 : ((P : Int) + 1).toNat = P + 1 := by omega
  clear hC hrow hcP hcD hmP hmD hcl hN hgood gP gP1 hba hR hD hcapN gR gD ha hab hb hpb hQP
  generalize secC P Q n R D a b = SC at *
  go_enter Tryz.func21, Tryz.ntmps21
  have hBl := below_one w (.cells #[.int .i64 a, .int .i64 b] 3)
  have bL := Blk.new w 3 #[.int .i64 a, .int .i64 b]
  have cP := HKP.out _ hBl
  have cD := HKD.out _ hBl
  obtain ⟨wl, hwl⟩ : ∃ x, w.alloc (.cells #[.int .i64 a, .int .i64 b] 3) = x := ⟨_, rfl⟩
  obtain ⟨gE, hgE⟩ : ∃ x, w.heap.size = x := ⟨_, rfl⟩
  rw [hwl] at hBl bL cP cD
  have hBl' := hBl
  rw [hgE] at bL
  go_wp2_with fail
  (try rw [hgE]); (try rw [hwl])
  clear cD hwl
  refine (HSR.out wl gE hBl' bL).mono ?_
  rintro e w1 ⟨u1, rfl, hu1, hB1⟩
  have hBw1 := below_in hBl' hB1
  have cD := HKD.out _ hBw1
  replace bL := bL.below hB1 bL.lt
  clear cP
  go_wp2_with fail
  refine (HSD.out w1 gE hBw1 bL).mono ?_
  rintro e w2 ⟨u2, rfl, hu2, hB2⟩
  have hBw2 := below_in hBw1 hB2
  replace hu1 := (hu1.below hB2).more hB2.size
  clear cD bL
  go_wp2_with fail
  refine (HT1.out w2 _ hu1).mono ?_
  rintro e w3 ⟨u3, rfl, hu3, hB3⟩
  have hBw3 := below_in hBw2 hB3
  replace hu1 := (hu1.below hB3).more hB3.size
  replace hu2 := (hu2.below hB3).more hB3.size
  go_wp2_with fail
  refine (HP1.out w3 _ _ hu2 hu3).mono ?_
  rintro e w4 ⟨u4, rfl, hu4, hB4⟩
  have hBw4 := below_in hBw3 hB4
  replace hu1 := (hu1.below hB4).more hB4.size
  go_wp2_with fail
  refine (HT2.out w4 _ hu4).mono ?_
  rintro e w5 ⟨u5, rfl, hu5, hB5⟩
  have hBw5 := below_in hBw4 hB5
  replace hu1 := (hu1.below hB5).more hB5.size
  go_wp2_with fail
  refine (HSL.out w5 _ hu5).mono ?_
  rintro e w6 ⟨u6, rfl, hu6, hB6⟩
  have hBw6 := below_in hBw5 hB6
  replace hu1 := (hu1.below hB6).more hB6.size
  go_wp2_with fail
  refine (HP2.out w6 _ _ hu1 hu6).mono ?_
  rintro e w7 ⟨u7, rfl, hu7, hB7⟩
  have hBw7 := below_in hBw6 hB7
  replace hu6 := (hu6.below hB7).more hB7.size
  obtain ⟨A7, k7, e7, _⟩ := id hu7
  obtain ⟨A6, k6, e6, _⟩ := id hu6
  generalize (putC R SC).length = l7 at e7
  generalize SC.length = l6 at e6
  subst e7 e6
  have hB8 := below_one w7 (.cells #[.slice A7 l7 k7, .slice A6 l6 k6] 37)
  have b8 := Blk.new w7 37 #[.slice A7 l7 k7, .slice A6 l6 k6]
  have hC8 := cols_two b8 ((hu7.below hB8).more hB8.size) ((hu6.below hB8).more hB8.size) b8.lt
  have hBw8 := below_in hBw7 hB8
  clear hu1 hu2 hu3 hu4 hu5 hu6 hu7
  go_wp2
  go_ret
  exact ⟨_, rfl, hC8, hBw8⟩
end Go.Proofs.YtfihlelhpmjpaaaGreatDoor.Ch

