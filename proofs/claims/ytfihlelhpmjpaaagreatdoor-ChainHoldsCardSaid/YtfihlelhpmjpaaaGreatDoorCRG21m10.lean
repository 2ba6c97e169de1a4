/- chain: one lost column told. chain: Alone. -/
import Derived.Laws.StructEq
import Derived.Maps.OwnIn
import Derived.Maps.OwnSet
import Derived.Laws.EntriesVeiled
import Derived.Deep.AppendLies
import Derived.RangeFuncNested
import Derived.Shelf.RegionOpen
import Derived.Laws.OwnMore
import Derived.Test.YtfihlelhpmjpaaaGreatDoorCRG12m10
import Derived.Test.YtfihlelhpmjpaaaGreatDoorCRG19m11
import Derived.Test.YtfihlelhpmjpaaaGreatDoorCRG21
namespace Go.Proofs.YtfihlelhpmjpaaaGreatDoor.T
open Go.RowKit Go.Shelf Go.Maps Go.Proofs.YtfihlelhpmjpaaaGreatDoor.C Go.Proofs.YtfihlelhpmjpaaaGreatDoor.E Go.Proofs.YtfihlelhpmjpaaaGreatDoor.Ch
set_option linter.unusedSimpArgs false
set_option linter.unusedVariables false
attribute [local go_sem] Oper.semAt_some

set_option maxRecDepth 100000 in
set_option maxHeartbeats 8000000 in
theorem alone_any {B P Q n : Nat} (d : Rg.Dims P Q n) (a : Int) (ha : 0 ≤ a) (haP : a < (P : Int)) (gl gc co N cc : Nat) (nA : Option Addr) (nc : Nat) (css : List (List (List UInt8))) (hN : N = P + 2) (hcl : css.length = N) (hg : ∀ c, c < N → GoodC Q n (css[c]?.getD [])) (w : World) (hL : Laid w) (hB : B ≤ w.heap.size) (hgl : gl < w.heap.size) (cA : w.cell? ⟨gl, 0, none⟩ = some (.int .i64 a)) (hC : Cols B w (.slice (some ⟨gc, co, none⟩) N cc) css) :
    Calls Tryz.prog 57 #[.agg #[.int .i64 (P : Int), .slice (some ⟨gl, 0, none⟩) 1 1, .slice (some ⟨gc, co, none⟩) N cc, .slice nA n nc]] w fun e w' => ∃ At kt, e = .returned (.slice At Q kt) ∧ Many w'.heap.size w' (.slice At Q kt) (Rg.turnC P Q n (dsF P Q css) (-a)) ∧ Below w.heap.size w w' := by
  have hpb := prm_bounds d.hp
  have hRD := rd_good d hN hcl hg
  have HOL0 := fun (V : World) (hV : Below w.heap.size w V) => ofLost_any d (some ⟨gl, 0, none⟩) 1 1 gc co N cc nA nc css hN hcl hg V (hL.next hV) (Nat.le_trans hB hV.size) (hC.below (hV.mono hB))
  obtain ⟨w0, hw0⟩ : ∃ x, w.alloc (.cells #[.int .i64 (P : Int), .slice (some ⟨gl, 0, none⟩) 1 1, .slice (some ⟨gc, co, none⟩) N cc, .slice nA n nc] 72) = x := ⟨_, rfl⟩
  obtain ⟨g0, hg0⟩ : ∃ x, w.heap.size = x := ⟨_, rfl⟩
  have b0 : Blk w0 g0 72 #[.int .i64 (P : Int), .slice (some ⟨gl, 0, none⟩) 1 1, .slice (some ⟨gc, co, none⟩) N cc, .slice nA n nc] := by rw [← hw0, ← hg0]; exact Blk.new w _ _
  have hB0 : Below w.heap.size w w0 := by rw [← hw0]; exact below_one w _
  have HOL : Hid (Calls Tryz.prog 109 #[.agg #[.int .i64 (P : Int), .slice (some ⟨gl, 0, none⟩) 1 1, .slice (some ⟨gc, co, none⟩) N cc, .slice nA n nc]] w0 fun e w' => ∃ A1 A2, e = .returned (.tuple #[.slice A1 Q Q, .slice A2 Q Q]) ∧ Many w'.heap.size w' (.slice A1 Q Q) (rsF P Q css) ∧ Many w'.heap.size w' (.slice A2 Q Q) (dsF P Q css) ∧ Below w0.heap.size w0 w') := HOL0 w0 hB0
  have k0 : w0.cell? ⟨g0, 0, none⟩ = some (.int .i64 (P : Int)) := b0.cell 0
  have k1 : w0.cell? ⟨g0, 1, none⟩ = some (.slice (some ⟨gl, 0, none⟩) 1 1) := b0.cell 1
  have k2 : w0.cell? ⟨g0, 2, none⟩ = some (.slice (some ⟨gc, co, none⟩) N cc) := b0.cell 2
  have k3 : w0.cell? ⟨g0, 3, none⟩ = some (.slice nA n nc) := b0.cell 3
  have hneg : IntKind.i64.wrap (-a) = -a := IntWalk.i64_in _ (by omega)
  have HALL := Lib.hid (And.intro d (And.intro ha (And.intro haP (And.intro hRD (And.intro hL (And.intro hgl (And.intro cA (And.intro hB0 b0))))))))
  have HG0 := Lib.hid hg0
  have HW0 := Lib.hid hw0
  clear HOL0 d ha haP hN hcl hg hRD hL hgl cA hC hB hw0 hg0 b0
  refine (callsIn_wide (n := 9)).1 ?_
  refine callsIn_of_wp_marks Tryz.func57 rfl trivial ?_ rfl
  simp only [Tryz.ntmps57, List.size_toArray, List.length_cons, List.length_nil, Nat.reduceAdd, Nat.reduceSub, Array.replicate_succ, Array.replicate_zero, List.push_toArray, List.append_toArray, List.nil_append, List.cons_append]
  gi_wp2_with fail
  (try rw [HG0.out]); (try rw [HW0.out])
  refine ⟨trivial, (callsIn_wide.2 HOL.out).mono ?_⟩
  rintro e w1 ⟨A1, A2, rfl, M1, M2, hB1⟩
  have hd := HALL.out
  have hBW := below_in hd.2.2.2.2.2.2.2.1 hB1
  have HSS : Hid (∀ V, Below w1.heap.size w1 V → (fun U : World => U.cell? ⟨g0, 0, none⟩ = some (.int .i64 (P : Int)) ∧ U.cell? ⟨g0, 1, none⟩ = some (.slice (some ⟨gl, 0, none⟩) 1 1) ∧ U.cell? ⟨gl, 0, none⟩ = some (.int .i64 a)) V) := fun V hV => by
    have h := (hd.2.2.2.2.2.2.2.2.below hB1 hd.2.2.2.2.2.2.2.2.lt)
    have h2 := h.below hV h.lt
    exact ⟨h2.cell 0, h2.cell 1, ((below_in hBW hV).cell (p := ⟨gl, 0, none⟩) hd.2.2.2.2.2.1).trans hd.2.2.2.2.2.2.1⟩
  have HTU := Lib.hid (fun (V : World) (hV : Below w.heap.size w V) (hV1 : Below w1.heap.size w1 V) => Rg.turnY hd.1 (-a) (by omega) (by omega) (dsF P Q css) hd.2.2.2.1.2 (.slice A2 Q Q) V (hd.2.2.2.2.1.next hV) ((M2.below hV1).more hV1.size))
  have hBx := (Below.refl w1.heap.size w1).drew
  have hS : (fun U : World => U.cell? ⟨g0, 0, none⟩ = some (.int .i64 (P : Int)) ∧ U.cell? ⟨g0, 1, none⟩ = some (.slice (some ⟨gl, 0, none⟩) 1 1) ∧ U.cell? ⟨gl, 0, none⟩ = some (.int .i64 a)) w1.drew := HSS.out _ hBx
  clear hd k0 k1 k2 k3 M1 M2 HOL hB1
  gi_wp2_with fail
  refine wpIn_mono (region_HF (Q := NoPanic _) (S := (fun U : World => U.cell? ⟨g0, 0, none⟩ = some (.int .i64 (P : Int)) ∧ U.cell? ⟨g0, 1, none⟩ = some (.slice (some ⟨gl, 0, none⟩) 1 1) ∧ U.cell? ⟨gl, 0, none⟩ = some (.int .i64 a))) (by kernel_rfl) ?_) NoPanic.imp
  refine anyHF_take (i := 0) (d := 10) (v := .pointer (some ⟨g0, 0, none⟩)) (by kernel_rfl) rfl (by kernel_rfl) (by kernel_rfl) (by kernel_rfl) rfl (fun _ _ _ h => h) ⟨Or.inl ⟨by rfl, fun w hS => by obtain ⟨h0, h1, h2⟩ := hS; go_simp⟩, fun _ => rfl⟩ hS ?_
  simp only [List.setIfInBounds_toArray, List.set_cons_zero, List.set_cons_succ]
  refine anyHF_take (i := 1) (d := 11) (v := .pointer (some ⟨g0, 0, none⟩)) (by kernel_rfl) rfl (by kernel_rfl) (by kernel_rfl) (by kernel_rfl) rfl (fun _ _ _ h => h) ⟨Or.inl ⟨by rfl, fun w hS => by obtain ⟨h0, h1, h2⟩ := hS; go_simp⟩, fun _ => rfl⟩ hS ?_
  simp only [List.setIfInBounds_toArray, List.set_cons_zero, List.set_cons_succ]
  refine anyHF_take (i := 2) (d := 12) (v := .int .i64 (P : Int)) (by kernel_rfl) rfl (by kernel_rfl) (by kernel_rfl) (by kernel_rfl) rfl (fun _ _ _ h => h) ⟨Or.inl ⟨by rfl, fun w hS => by obtain ⟨h0, h1, h2⟩ := hS; go_simp⟩, fun _ => rfl⟩ hS ?_
  simp only [List.setIfInBounds_toArray, List.set_cons_zero, List.set_cons_succ]
  refine anyHF_take (i := 3) (d := 13) (v := .slice A2 Q Q) (by kernel_rfl) rfl (by kernel_rfl) (by kernel_rfl) (by kernel_rfl) rfl (fun _ _ _ h => h) ⟨Or.inl ⟨by rfl, fun w hS => by obtain ⟨h0, h1, h2⟩ := hS; go_simp⟩, fun _ => rfl⟩ hS ?_
  simp only [List.setIfInBounds_toArray, List.set_cons_zero, List.set_cons_succ]
  refine anyHF_take (i := 4) (d := 14) (v := .pointer (some ⟨g0, 0, none⟩)) (by kernel_rfl) rfl (by kernel_rfl) (by kernel_rfl) (by kernel_rfl) rfl (fun _ _ _ h => h) ⟨Or.inl ⟨by rfl, fun w hS => by obtain ⟨h0, h1, h2⟩ := hS; go_simp⟩, fun _ => rfl⟩ hS ?_
  simp only [List.setIfInBounds_toArray, List.set_cons_zero, List.set_cons_succ]
  refine anyHF_take (i := 5) (d := 15) (v := .pointer (some ⟨g0, 1, none⟩)) (by kernel_rfl) rfl (by kernel_rfl) (by kernel_rfl) (by kernel_rfl) rfl (fun _ _ _ h => h) ⟨Or.inl ⟨by rfl, fun w hS => by obtain ⟨h0, h1, h2⟩ := hS; go_simp⟩, fun _ => rfl⟩ hS ?_
  simp only [List.setIfInBounds_toArray, List.set_cons_zero, List.set_cons_succ]
  refine anyHF_take (i := 6) (d := 16) (v := .slice (some ⟨gl, 0, none⟩) 1 1) (by kernel_rfl) rfl (by kernel_rfl) (by kernel_rfl) (by kernel_rfl) rfl (fun _ _ _ h => h) ⟨Or.inl ⟨by rfl, fun w hS => by obtain ⟨h0, h1, h2⟩ := hS; go_simp⟩, fun _ => rfl⟩ hS ?_
  simp only [List.setIfInBounds_toArray, List.set_cons_zero, List.set_cons_succ]
  refine anyHF_take (i := 7) (d := 17) (v := .pointer (some ⟨gl, 0, none⟩)) (by kernel_rfl) rfl (by kernel_rfl) (by kernel_rfl) (by kernel_rfl) rfl (fun _ _ _ h => h) ⟨Or.inl ⟨by rfl, fun w hS => by obtain ⟨h0, h1, h2⟩ := hS; go_simp⟩, fun _ => rfl⟩ hS ?_
  simp only [List.setIfInBounds_toArray, List.set_cons_zero, List.set_cons_succ]
  refine anyHF_take (i := 8) (d := 18) (v := .int .i64 a) (by kernel_rfl) rfl (by kernel_rfl) (by kernel_rfl) (by kernel_rfl) rfl (fun _ _ _ h => h) ⟨Or.inl ⟨by rfl, fun w hS => by obtain ⟨h0, h1, h2⟩ := hS; go_simp⟩, fun _ => rfl⟩ hS ?_
  simp only [List.setIfInBounds_toArray, List.set_cons_zero, List.set_cons_succ]
  refine anyHF_take (i := 9) (d := 19) (v := .int .i64 (-a)) (by kernel_rfl) rfl (by kernel_rfl) (by kernel_rfl) (by kernel_rfl) rfl (fun _ _ _ h => h) ⟨Or.inl ⟨by rfl, fun w hS => by obtain ⟨h0, h1, h2⟩ := hS; go_simp⟩, fun _ => rfl⟩ hS ?_
  simp only [List.setIfInBounds_toArray, List.set_cons_zero, List.set_cons_succ]
  refine anyHF_one (i := 10) (by kernel_rfl) rfl (by kernel_rfl) (by rfl) ?_
  gi_wp2_with fail
  refine ⟨trivial, (callsIn_wide.2 (HTU.out _ (below_in hBW hBx) hBx)).mono ?_⟩
  rintro e v1 ⟨At, kt, rfl, hMt, hB⟩
  replace hBx := below_in hBx hB
  clear hS
  have hS : (fun U : World => U.cell? ⟨g0, 0, none⟩ = some (.int .i64 (P : Int)) ∧ U.cell? ⟨g0, 1, none⟩ = some (.slice (some ⟨gl, 0, none⟩) 1 1) ∧ U.cell? ⟨gl, 0, none⟩ = some (.int .i64 a)) v1 := HSS.out _ hBx
  clear hB
  gi_wp2
  try (refine ⟨hS, ?_⟩)
  refine anyHF_take (i := 11) (d := 21) (v := .slice At Q kt) (by kernel_rfl) rfl (by kernel_rfl) (by kernel_rfl) (by kernel_rfl) rfl (fun _ _ _ h => h) ⟨Or.inl ⟨by rfl, fun w hS => by obtain ⟨h0, h1, h2⟩ := hS; go_simp⟩, fun _ => rfl⟩ hS ?_
  simp only [List.setIfInBounds_toArray, List.set_cons_zero, List.set_cons_succ]
  refine anyHF_take (i := 12) (d := 22) (v := .int .i64 0) (by kernel_rfl) rfl (by kernel_rfl) (by kernel_rfl) (by kernel_rfl) rfl (fun _ _ _ h => h) ⟨Or.inl ⟨by rfl, fun w hS => by obtain ⟨h0, h1, h2⟩ := hS; go_simp⟩, fun _ => rfl⟩ hS ?_
  simp only [List.setIfInBounds_toArray, List.set_cons_zero, List.set_cons_succ]
  refine anyHF_one (i := 13) (by kernel_rfl) rfl (by kernel_rfl) (by rfl) ?_
  gi_wp2_with fail
  refine ⟨trivial, (callsIn_wide.2 (sureC _ _)).mono ?_⟩
  rintro e v2 ⟨rfl, rfl⟩
  gi_wp2
  try (refine ⟨hS, ?_⟩)
  refine anyHF_one (i := 14) (by kernel_rfl) rfl (by kernel_rfl) (by rfl) ?_
  gi_wp2
  refine anyHF_done (by kernel_rfl) ?_ _
  refine NoPanic.normal ?_
  clear hS
  gi_wp2_with fail
  exact ⟨.slice At Q kt, by simp [results, Tryz.results57, go_sem], At, kt, rfl, hMt, below_in hBW hBx⟩
end Go.Proofs.YtfihlelhpmjpaaaGreatDoor.T

namespace Go.Proofs.YtfihlelhpmjpaaaGreatDoor.T
open Go.RowKit Go.Shelf Go.Maps Go.Proofs.YtfihlelhpmjpaaaGreatDoor.C Go.Proofs.YtfihlelhpmjpaaaGreatDoor.E Go.Proofs.YtfihlelhpmjpaaaGreatDoor.Ch
set_option linter.unusedSimpArgs false
set_option linter.unusedVariables false
attribute [local go_sem] Oper.semAt_some

theorem enter_Alone1 : ∀ args W, (callFunc 55 args).run Tryz.prog W = .ok (.enter 55 args) W := enters_of Tryz.func55 (by kernel_rfl) rfl
theorem good_one {p a : Int} (ha : 0 ≤ a) (hb : a < p) : ∀ i, i < [a].length → GoodL p [a] i := by
  intro i hi
  obtain rfl : i = 0 := by simp at hi; omega
  exact ⟨⟨ha, hb⟩, .inl rfl⟩
theorem one_cell {V : World} {g : Nat} {a : Int} (h : Blk V g 3 #[.int .i64 a]) : ∀ j, j < [a].length → V.cell? ⟨g, j, none⟩ = some (.int .i64 ([a][j]?.getD 0)) := by
  intro j hj
  obtain rfl : j = 0 := by simp at hj; omega
  exact h.cell 0
theorem one_vals {V : World} {g : Nat} {a : Int} (h : Blk V g 3 #[.int .i64 a]) : Vals V.heap.size V (.slice (some ⟨g, 0, none⟩) 1 1) ([a].map (Value.int .i64)) := .inr ⟨g, 0, 1, rfl, by simp, h.lt, fun j u hu => by
  rcases j with _ | j
  · simp at hu; subst hu; exact h.cell 0
  · simp at hu⟩
set_option maxRecDepth 100000 in
set_option maxHeartbeats 8000000 in
theorem alone2_yes {B P Q n : Nat} (d : Rg.Dims P Q n) (a : Int) (ha : 0 ≤ a) (haP : a < (P : Int)) (css : List (List (List UInt8))) (N : Nat) (hcl : css.length = N) (hN : N = P + 2) (hgood : ∀ i, i < css.length → (i : Int) ∉ [a, (P : Int)] → GoodC Q n (css[i]?.getD [])) (vA : Option Addr) (vc : Nat) (w : World) (hL : Laid w) (hB : B ≤ w.heap.size) (hC : Cols B w (.slice vA N vc) css) :
    Calls Tryz.prog 22 #[.int .i64 (P : Int), .slice vA N vc, .int .i64 a] w fun e w' => ∃ u, e = .returned (.tuple #[u, .int .i64 0]) ∧ Many w'.heap.size w' u (Rg.turnC P Q n (dsF P Q (lostC [a, (P : Int)] Q n css)) (-a)) ∧ Below w.heap.size w w' := by
  have hQ := d.hQ
  have hpb := prm_bounds d.hp
  obtain ⟨W2, hW2⟩ : ∃ x, ((w.alloc (.cells #[.int .i64 (P : Int)] 3)).alloc (.cells #[.slice vA N vc] 22)).alloc (.cells #[.int .i64 a] 3) = x := ⟨_, rfl⟩
  have b0 : Blk W2 (w.heap.size) 3 #[.int .i64 (P : Int)] := by rw [← hW2]; exact ((Blk.new w _ _).alloc _).alloc _
  have b1 : Blk W2 (w.heap.size + 1) 22 #[.slice vA N vc] := by rw [← hW2]; exact (Blk.second w _ _ _).alloc _
  have b2 : Blk W2 (w.heap.size + 1 + 1) 3 #[.int .i64 a] := by rw [← hW2]; exact Rg.Blk.at_ (Blk.new _ _ _) (by simp)
  have hBW : Below w.heap.size w W2 := by rw [← hW2]; exact ((below_two w _ _)).alloc (by simp; omega) _
  obtain ⟨W2b, hW2b⟩ : ∃ x, w.heap.size = x := ⟨_, rfl⟩
  obtain ⟨W2c, hW2c⟩ : ∃ x, w.heap.size + 1 = x := ⟨_, rfl⟩
  obtain ⟨W2d, hW2d⟩ : ∃ x, w.heap.size + 1 + 1 = x := ⟨_, rfl⟩
  have HA := Lib.hid (Go.Proofs.YtfihlelhpmjpaaaGreatDoor.Ch.ans_C_yes 55 #[.pointer (some ⟨w.heap.size, 0, none⟩), .pointer (some ⟨w.heap.size + 1, 0, none⟩), .pointer (some ⟨w.heap.size + 1 + 1, 0, none⟩)] W2 (fun u W => ∃ x y z, u = .slice x y z ∧ Many W.heap.size W u (Rg.turnC P Q n (dsF P Q (lostC [a, (P : Int)] Q n css)) (-a))) (enter_Alone1 _) (fun U hU bU => by
    have hBU := below_in hBW hU
    have HAS := Lib.hid (fun (V : World) (g : Nat) (hV : Below U.heap.size U V) (bE : Blk V g 3 #[.int .i64 a]) => asked_yes (P : Int) d.hp vA N vc (by omega) g [a] (by simp) (good_one ha haP) V (hL.next (below_in hBU hV)) bE.lt (one_cell bE))
    have hnP : ((P + 1 : Nat) : Int) ∉ [a] ++ [(P : Int)] := by simp; omega
    have hk0 : 0 < (kept ([a] ++ [(P : Int)]) css css.length).length := kept_pos (i := P + 1) (by omega) hnP
    have hrg : ∀ x ∈ [a] ++ [(P : Int)], 0 ≤ x ∧ x < (css.length : Int) := by intro x hx; simp at hx; rcases hx with rfl | rfl <;> omega
    have HOF := Lib.hid (fun (V : World) (gl gE : Nat) (hV : Below U.heap.size U V) (bL : Blk V gl 3 #[.int .i64 a]) (bE : Blk V gE 3 #[.int .i64 (P : Int)]) => (by
      have h := of_yes (B := B) (P : Int) [a] [(P : Int)] ⟨by simp, by simp⟩ (by simp) gl css (by omega) (by omega) (.slice vA N vc) (.slice (some ⟨gE, 0, none⟩) 1 1) V (hL.next (below_in hBU hV)) (Nat.le_trans hB (below_in hBU hV).size) bL.lt (one_cell bL) (one_vals bE) (hC.below ((below_in hBU hV).mono hB)) P Q n d rfl hrg hk0 (fun i hi hm => hgood i hi hm)
      rw [hcl] at h
      exact h : Calls Tryz.prog 46 #[.agg #[.int .i64 (P : Int), .slice (some ⟨gl, 0, none⟩) 1 1], .slice vA N vc, .slice (some ⟨gE, 0, none⟩) 1 1] V fun e w' => ∃ cA cc nA nc, e = .returned (.agg #[.int .i64 (P : Int), .slice (some ⟨gl, 0, none⟩) 1 1, .slice cA N cc, .slice nA n nc]) ∧ Cols w'.heap.size w' (.slice cA N cc) (lostC [a, (P : Int)] Q n css) ∧ Bytes w'.heap.size w' (.slice nA n nc) (List.replicate n 0) ∧ Below V.heap.size V w'))
    have HFM : Hid (∀ (V : World) (cA : Option Addr) (N2 cc : Nat), Cols V.heap.size V (.slice cA N2 cc) (lostC [a, (P : Int)] Q n css) → ∃ gc co, cA = some ⟨gc, co, none⟩) := fun V cA N2 cc h => by
      obtain ⟨gc, co, _, hve, _⟩ := h.at_ (by rw [lostC_len]; omega)
      injection hve with e1 _ _
      exact ⟨gc, co, e1⟩
    have HRE := Lib.hid (fun (V : World) (gl gc co cc : Nat) (nA : Option Addr) (nc : Nat) (hV : Below U.heap.size U V) (bL : Blk V gl 3 #[.int .i64 a]) (h1 : Cols V.heap.size V (.slice (some ⟨gc, co, none⟩) N cc) (lostC [a, (P : Int)] Q n css)) => alone_any d a ha haP gl gc co N cc nA nc (lostC [a, (P : Int)] Q n css) hN (by rw [lostC_len]; exact hcl) (fun c hc => lost_good d hgood c (by omega)) V (hL.next (below_in hBU hV)) (Nat.le_refl _) bL.lt (bL.cell 0) h1)
    have b0x := b0.below hU b0.lt
    have b1x := b1.below hU b1.lt
    have b2x := b2.below hU b2.lt
    rw [hW2b] at b0x
    rw [hW2c] at b1x
    rw [hW2d] at b2x
    have j0 := b0x.one
    have j1 := b1x.one
    have j2 := b2x.one
    rw [hW2d, hW2c, hW2b]
    have HBU := Lib.hid hBU
    clear b0 b1 b2 hW2 hL hW2d hW2c hW2b bU ha haP hcl hN hgood hC hB hk0 hrg hnP d hQ hpb hBU
    refine (callsIn_wide (n := 9)).1 ?_
    refine callsIn_of_wp_marks Tryz.func55 rfl trivial ?_ rfl
    simp only [Tryz.ntmps55, List.size_toArray, List.length_cons, List.length_nil, Nat.reduceAdd, Nat.reduceSub, Array.replicate_succ, Array.replicate_zero, List.push_toArray, List.append_toArray, List.nil_append, List.cons_append]
    gi_wp2_with fail
    have hBe := below_one U (.cells #[.int .i64 a] 3)
    have bL := Blk.new U 3 #[.int .i64 a]
    obtain ⟨wl, hwl⟩ : ∃ x, U.alloc (.cells #[.int .i64 a] 3) = x := ⟨_, rfl⟩
    obtain ⟨gl, hgl⟩ : ∃ x, U.heap.size = x := ⟨_, rfl⟩
    rw [hwl] at hBe bL ⊢
    rw [hgl] at bL ⊢
    refine ⟨trivial, (callsIn_wide.2 (HAS.out wl gl hBe bL)).mono ?_⟩
    rintro e w5 ⟨rfl, hB5⟩
    have hBu5 := below_in hBe hB5
    replace bL := bL.below hB5 bL.lt
    gi_wp2_with fail
    have hB6 := below_one w5 (.cells #[.int .i64 (P : Int), .slice (some ⟨gl, 0, none⟩) 1 1] 70)
    have b6 := Blk.new w5 70 #[.int .i64 (P : Int), .slice (some ⟨gl, 0, none⟩) 1 1]
    obtain ⟨w6, hw6⟩ : ∃ x, w5.alloc (.cells #[.int .i64 (P : Int), .slice (some ⟨gl, 0, none⟩) 1 1] 70) = x := ⟨_, rfl⟩
    obtain ⟨g6, hg6⟩ : ∃ x, w5.heap.size = x := ⟨_, rfl⟩
    rw [hw6] at hB6 b6 ⊢
    rw [hg6] at b6 ⊢
    have hBx6 := below_in hBu5 hB6
    replace bL := bL.below hB6 bL.lt
    replace b1x := b1x.below hBx6 b1x.lt
    have hbl := b1x.lt
    have HSS : Hid (∀ V, Below w6.heap.size w6 V → (fun U : World => U.cell? ⟨W2c, 0, none⟩ = some (.slice vA N vc) ∧ U.cell? ⟨g6, 0, none⟩ = some (.int .i64 (P : Int)) ∧ U.cell? ⟨g6, 1, none⟩ = some (.slice (some ⟨gl, 0, none⟩) 1 1)) V) := fun V hV => by
      have h6 := b6.below hV b6.lt
      exact ⟨(b1x.below hV b1x.lt).one, h6.cell 0, h6.cell 1⟩
    have hBx := (Below.refl w6.heap.size w6).drew
    replace bL := bL.below hBx bL.lt
    have hS : (fun U : World => U.cell? ⟨W2c, 0, none⟩ = some (.slice vA N vc) ∧ U.cell? ⟨g6, 0, none⟩ = some (.int .i64 (P : Int)) ∧ U.cell? ⟨g6, 1, none⟩ = some (.slice (some ⟨gl, 0, none⟩) 1 1)) w6.drew := HSS.out _ hBx
    clear b1x b6 hB6 hBu5 hB5 hBe j0 j1 j2 hw6 hg6 hwl hgl b0x b2x
    (try gi_wp2_with fail)
    refine wpIn_mono (region_HF (Q := NoPanic _) (S := (fun U : World => U.cell? ⟨W2c, 0, none⟩ = some (.slice vA N vc) ∧ U.cell? ⟨g6, 0, none⟩ = some (.int .i64 (P : Int)) ∧ U.cell? ⟨g6, 1, none⟩ = some (.slice (some ⟨gl, 0, none⟩) 1 1))) (by kernel_rfl) ?_) NoPanic.imp
    refine anyHF_take (i := 0) (d := 10) (v := .agg #[.int .i64 (P : Int), .slice (some ⟨gl, 0, none⟩) 1 1]) (by kernel_rfl) rfl (by kernel_rfl) (by kernel_rfl) (by kernel_rfl) rfl (fun _ _ _ h => h) ⟨Or.inl ⟨by rfl, fun w hS => by obtain ⟨h0, h1, h2⟩ := hS; go_simp⟩, fun _ => rfl⟩ hS ?_
    simp only [List.setIfInBounds_toArray, List.set_cons_zero, List.set_cons_succ]
    refine anyHF_take (i := 1) (d := 11) (v := .slice vA N vc) (by kernel_rfl) rfl (by kernel_rfl) (by kernel_rfl) (by kernel_rfl) rfl (fun _ _ _ h => h) ⟨Or.inl ⟨by rfl, fun w hS => by obtain ⟨h0, h1, h2⟩ := hS; go_simp⟩, fun _ => rfl⟩ hS ?_
    simp only [List.setIfInBounds_toArray, List.set_cons_zero, List.set_cons_succ]
    refine anyHF_take (i := 2) (d := 12) (v := .pointer (some ⟨g6, 0, none⟩)) (by kernel_rfl) rfl (by kernel_rfl) (by kernel_rfl) (by kernel_rfl) rfl (fun _ _ _ h => h) ⟨Or.inl ⟨by rfl, fun w hS => by obtain ⟨h0, h1, h2⟩ := hS; go_simp⟩, fun _ => rfl⟩ hS ?_
    simp only [List.setIfInBounds_toArray, List.set_cons_zero, List.set_cons_succ]
    refine anyHF_take (i := 3) (d := 13) (v := .int .i64 (P : Int)) (by kernel_rfl) rfl (by kernel_rfl) (by kernel_rfl) (by kernel_rfl) rfl (fun _ _ _ h => h) ⟨Or.inl ⟨by rfl, fun w hS => by obtain ⟨h0, h1, h2⟩ := hS; go_simp⟩, fun _ => rfl⟩ hS ?_
    simp only [List.setIfInBounds_toArray, List.set_cons_zero, List.set_cons_succ]
    refine anyHF_one (i := 4) (by kernel_rfl) rfl (by kernel_rfl) (by rfl) ?_
    gi_wp2_with fail
    refine ⟨trivial, (callsIn_wide.2 (rowsAt_any (P : Int) _)).mono ?_⟩
    rintro e v1 ⟨rfl, rfl⟩
    gi_wp2
    try (refine ⟨hS, ?_⟩)
    refine anyHF_one (i := 5) (by kernel_rfl) rfl (by kernel_rfl) (by rfl) ?_
    have hgl_g3 := hBx.size
    have hB : Below w6.drew.heap.size w6.drew (w6.drew.alloc (.cells #[.int .i64 (P : Int)] 3)) := below_one w6.drew _
    have bE : Blk (w6.drew.alloc (.cells #[.int .i64 (P : Int)] 3)) w6.drew.heap.size 3 #[.int .i64 (P : Int)] := Blk.new w6.drew _ _
    obtain ⟨v2, he_v2⟩ : ∃ x, (w6.drew.alloc (.cells #[.int .i64 (P : Int)] 3)) = x := ⟨_, rfl⟩
    obtain ⟨g3, hg_g3⟩ : ∃ x, w6.drew.heap.size = x := ⟨_, rfl⟩
    rw [he_v2] at hB bE
    rw [hg_g3] at bE
    replace bL := bL.below hB bL.lt
    replace hBx := below_in hBx hB
    clear hS
    have hS : (fun U : World => U.cell? ⟨W2c, 0, none⟩ = some (.slice vA N vc) ∧ U.cell? ⟨g6, 0, none⟩ = some (.int .i64 (P : Int)) ∧ U.cell? ⟨g6, 1, none⟩ = some (.slice (some ⟨gl, 0, none⟩) 1 1)) v2 := HSS.out _ hBx
    gi_wp2
    (try rw [hg_g3]); (try rw [he_v2])
    try (refine ⟨hS, ?_⟩)
    clear hB he_v2 hg_g3
    refine anyHF_one (i := 6) (by kernel_rfl) rfl (by kernel_rfl) (by rfl) ?_
    gi_wp2_with fail
    refine ⟨trivial, (callsIn_wide.2 (HOF.out _ gl g3 (below_in hBx6 hBx) bL bE)).mono ?_⟩
    rintro e v4 ⟨cA, cc, nA, nc, rfl, hCl, hNo, hB⟩
    obtain ⟨gc, co, rfl⟩ := HFM.out _ _ _ _ hCl
    have HCL := Lib.hid hCl
    clear hCl hNo
    replace bL := bL.below hB bL.lt
    replace bE := bE.below hB bE.lt
    replace hBx := below_in hBx hB
    clear hS
    have hS : (fun U : World => U.cell? ⟨W2c, 0, none⟩ = some (.slice vA N vc) ∧ U.cell? ⟨g6, 0, none⟩ = some (.int .i64 (P : Int)) ∧ U.cell? ⟨g6, 1, none⟩ = some (.slice (some ⟨gl, 0, none⟩) 1 1)) v4 := HSS.out _ hBx
    clear hB
    gi_wp2
    try (refine ⟨hS, ?_⟩)
    refine anyHF_one (i := 7) (by kernel_rfl) rfl (by kernel_rfl) (by rfl) ?_
    gi_wp2_with fail
    refine ⟨trivial, (callsIn_wide.2 (HRE.out _ gl gc co cc nA nc (below_in hBx6 hBx) bL HCL.out)).mono ?_⟩
    rintro e v5 ⟨At, kt, rfl, hRES, hB⟩
    replace bL := bL.below hB bL.lt
    replace bE := bE.below hB bE.lt
    replace hBx := below_in hBx hB
    clear hS
    have hS : (fun U : World => U.cell? ⟨W2c, 0, none⟩ = some (.slice vA N vc) ∧ U.cell? ⟨g6, 0, none⟩ = some (.int .i64 (P : Int)) ∧ U.cell? ⟨g6, 1, none⟩ = some (.slice (some ⟨gl, 0, none⟩) 1 1)) v5 := HSS.out _ hBx
    clear hB
    gi_wp2
    try (refine ⟨hS, ?_⟩)
    refine anyHF_one (i := 8) (by kernel_rfl) rfl (by kernel_rfl) (by rfl) ?_
    gi_wp2
    refine anyHF_done (by kernel_rfl) ?_ _
    refine NoPanic.normal ?_
    clear hS
    gi_wp2_with fail
    exact ⟨_, by simp [results, Tryz.results55, go_sem], _, rfl, ⟨_, _, _, rfl, hRES⟩, below_in hBx6 hBx⟩))
  clear b0 b1 b2 hL hW2d hW2c hW2b ha haP hcl hN hgood hC hB d hQ hpb
  go_enter Tryz.func22, Tryz.ntmps22
  have hmf : ∀ (fn : Fn) (first cap : Array Value) (w : World), (Instr.makeFunc fn first cap).run Tryz.prog w = .ok (.func fn first cap) w := fun _ _ _ _ => rfl
  go_wp2_with (go_at_call 54; refine HA.out.mono ?_; rintro e w1 ⟨u, W, rfl, ⟨uA, un, uc, rfl, hu⟩, bE, rfl, hB1⟩)
  go_ret2
  exact ⟨_, rfl, (many_num hu bE).more (by simp), below_in hBW hB1⟩
end Go.Proofs.YtfihlelhpmjpaaaGreatDoor.T

