/- chain: what rows and diagonals tell of the lost columns. -/
import Derived.Test.YtfihlelhpmjpaaaGreatDoorCRG13
namespace Go.Proofs.YtfihlelhpmjpaaaGreatDoor.Ch
open Go.RowKit Go.Shelf Go.Proofs.YtfihlelhpmjpaaaGreatDoor.C Go.Proofs.YtfihlelhpmjpaaaGreatDoor.E
set_option linter.unusedSimpArgs false
set_option linter.unusedVariables false
attribute [local go_sem] Oper.semAt_some

set_option maxHeartbeats 1000000 in
theorem upon_any {B : Nat} (v : Value) (ls : List (List UInt8)) (w : World) (hB : B ≤ w.heap.size) (hM : Many B w v ls) (hls : ls.length ≤ 1000) (hok : XorOk ls) :
    Calls Tryz.prog 160 #[v] w fun e w' => ∃ u, e = .returned u ∧ Fresh w.heap.size w' u (xorOf ls) ∧ Below w.heap.size w w' := by
  have HX := Lib.hid (xor_yes ls v w hB hM (by omega) hok)
  obtain ⟨A, cap, rfl, _, _⟩ := id hM
  clear hM hok hls
  generalize ls.length = n at *
  go_enter Tryz.func160, Tryz.ntmps160
  go_wp2_with (first
    | (go_at_call 200; refine HX.out.mono ?_; rintro e w1 ⟨u, rfl, hF, hB1⟩)
    | (go_at_call 97; refine (sureB _ _).mono ?_; rintro e w2 ⟨rfl, rfl⟩))
  go_ret
  exact ⟨_, rfl, hF, hB1⟩
/-- The first columns of some, and those behind. -/
theorem cols_take {B N M : Nat} {W : World} {A : Option Addr} {cap : Nat} {css : List (List (List UInt8))} (h : Cols B W (.slice A N cap) css) (hM : M ≤ N) (hN : css.length = N) : Cols B W (.slice A M cap) (css.take M) := by
  obtain ⟨A', c, e, hc, hA⟩ := h
  injection e with e1 e2 e3
  subst e1; subst e3
  refine ⟨A, cap, by rw [List.length_take]; congr 1; omega, by rw [List.length_take]; omega, fun hp => ?_⟩
  rw [List.length_take] at hp
  obtain ⟨b, off, e, hb, hcell⟩ := hA (by omega)
  refine ⟨b, off, e, hb, fun j hj => ?_⟩
  rw [List.length_take] at hj
  obtain ⟨u, h1, h2⟩ := hcell j (by omega)
  exact ⟨u, h1, by rw [List.getElem?_take, if_pos (by omega)]; exact h2⟩
section
variable {P Q n : Nat}
theorem sumB (d : Rg.Dims P Q n) (a b : List (List UInt8)) (ha : GoodC Q n a) (hb : GoodC Q n b) (g : Nat) (va vb : Value) (W : World) (hL : Laid W) (bE : Blk W g 37 #[va, vb]) (h1 : Many W.heap.size W va a) (h2 : Many W.heap.size W vb b) :
    Calls Tryz.prog 168 #[.int .i64 (P : Int), .slice (some ⟨g, 0, none⟩) 2 2] W fun e w' => ∃ A, e = .returned (.tuple #[.slice A Q Q, .int .i64 0]) ∧ Many w'.heap.size w' (.slice A Q Q) (Rg.sumC Q [a, b]) ∧ Below W.heap.size W w' := by
  refine Rg.sumZ d [a, b] (by simp) (by simp) (fun j hj => ?_) _ W hL (Rg.cols_two bE h1 h2 bE.lt)
  have hj2 : j = 0 ∨ j = 1 := by simp at hj; omega
  rcases hj2 with rfl | rfl
  · exact ha
  · exact hb
end
section
variable {P Q n : Nat}
theorem encZ (d : Rg.Dims P Q n) (css : List (List (List UInt8))) (hok : DataOk (P : Int) css) (v : Value) (w : World) (hL : Laid w) (hC : Cols w.heap.size w v css) :
    Calls Tryz.prog 136 #[.int .i64 (P : Int), v] w fun e w' => ∃ gm mo mc a2 c2 a3 c3, e = .returned (.tuple #[.slice (some ⟨gm, mo, none⟩) 2 mc, .int .i64 0]) ∧ gm < w'.heap.size ∧ w'.cell? ⟨gm, mo, none⟩ = some (.slice a2 Q c2) ∧ w'.cell? ⟨gm, mo + 1, none⟩ = some (.slice a3 Q c3) ∧ Many w'.heap.size w' (.slice a2 Q c2) (rowsMade Q css) ∧ Many w'.heap.size w' (.slice a3 Q c3) (diagsMade (P : Int) Q css) ∧ 2 ≤ mc ∧ Below w.heap.size w w' := by
  refine (encode_yes (B := w.heap.size) (P : Int) v css hok w hL (Nat.le_refl _) hC).mono ?_
  rintro e w' ⟨u, rfl, hu, hB⟩
  have hq : ((P : Int) - 1).toNat = Q := by have := d.hQ; omega
  obtain ⟨gm, mo, mc, hu2, hmc, hgm, hrow⟩ := hu.at_ (show 0 < 2 by omega)
  have he : (encOf (P : Int) css).length = 2 := rfl
  rw [he] at hu2 hmc hrow
  subst hu2
  obtain ⟨u0, h0, m0⟩ := hrow 0 (by omega)
  obtain ⟨u1, h1, m1⟩ := hrow 1 (by omega)
  have e0 : (encOf (P : Int) css)[0]?.getD [] = rowsMade Q css := by unfold encOf; rw [hq]; rfl
  have e1 : (encOf (P : Int) css)[1]?.getD [] = diagsMade (P : Int) Q css := by unfold encOf; rw [hq]; rfl
  rw [e0] at m0
  rw [e1] at m1
  obtain ⟨a2, c2, rfl, _⟩ := id m0
  obtain ⟨a3, c3, rfl, _⟩ := id m1
  rw [rowsMade_len] at h0 m0
  rw [diagsMade_len] at h1 m1
  exact ⟨gm, mo, mc, a2, c2, a3, c3, rfl, hgm, h0, h1, m0, m1, hmc, hB⟩
end
set_option maxRecDepth 100000 in
set_option maxHeartbeats 8000000 in
theorem ofLost_any {B P Q n : Nat} (d : Rg.Dims P Q n) (lA : Option Addr) (ln lc : Nat) (gc co N cc : Nat) (nA : Option Addr) (nc : Nat) (css : List (List (List UInt8))) (hN : N = P + 2) (hcl : css.length = N) (hg : ∀ c, c < N → GoodC Q n (css[c]?.getD [])) (w : World) (hL : Laid w) (hB : B ≤ w.heap.size) (hC : Cols B w (.slice (some ⟨gc, co, none⟩) N cc) css) :
    Calls Tryz.prog 109 #[.agg #[.int .i64 (P : Int), .slice lA ln lc, .slice (some ⟨gc, co, none⟩) N cc, .slice nA n nc]] w fun e w' => ∃ A1 A2, e = .returned (.tuple #[.slice A1 Q Q, .slice A2 Q Q]) ∧ Many w'.heap.size w' (.slice A1 Q Q) (Rg.sumC Q [css[P]?.getD [], rowsMade Q (css.take P)]) ∧ Many w'.heap.size w' (.slice A2 Q Q) (Rg.sumC Q [css[P + 1]?.getD [], diagsMade (P : Int) Q (css.take P)]) ∧ Below w.heap.size w w' := by
  have hQ := d.hQ
  have hpb := prm_bounds d.hp
  have hdl : (css.take P).length = P := by rw [List.length_take]; omega
  have hget : ∀ c, c < P → (css.take P)[c]?.getD [] = css[c]?.getD [] := fun c hc => by rw [List.getElem?_take, if_pos hc]
  have hgd : ∀ c, c < (css.take P).length → GoodC Q n ((css.take P)[c]?.getD []) := fun c hc => by rw [hget c (by omega)]; exact hg c (by omega)
  obtain ⟨hRD, hfn⟩ := Rg.right_of_good d.hQ d.hp (by omega) hgd
  have hok : DataOk (P : Int) (css.take P) := ⟨rightC1 d.hp, by rw [hdl], hRD.2⟩
  have hCt := cols_take hC (show P ≤ N by omega) hcl
  have HEN := Lib.hid (fun (V : World) (hV : Below w.heap.size w V) => encZ d (css.take P) hok (.slice (some ⟨gc, co, none⟩) P cc) V (hL.next hV) ((hCt.below (hV.mono hB)).more (Nat.le_trans hB hV.size)))
  obtain ⟨gc', co', cc', hve, hcap, hgc, hrow⟩ := hC.at_ (by omega)
  injection hve with e1 e2 e3
  injection e1 with e1
  injection e1 with e4 e5 _
  subst e3
  obtain ⟨u0, hu0, m0⟩ := hrow P (by omega)
  obtain ⟨u1, hu1, m1⟩ := hrow (P + 1) (by omega)
  rw [← e4, ← e5] at hu0 hu1
  rw [← e4] at hgc
  obtain ⟨a0, c0, hu0e, _⟩ := id m0
  obtain ⟨a1, c1, hu1e, _⟩ := id m1
  rw [(hg P (by omega)).1] at hu0e
  rw [(hg (P + 1) (by omega)).1] at hu1e
  subst hu0e; subst hu1e
  have HS1 := Lib.hid (fun (gb : Nat) (a2 : Option Addr) (c2 : Nat) (V : World) (hV : Below w.heap.size w V) (bE : Blk V gb 37 #[.slice a0 Q c0, .slice a2 Q c2]) (h2 : Many V.heap.size V (.slice a2 Q c2) (rowsMade Q (css.take P))) => sumB d _ _ (hg P (by omega)) (rowsMade_good d hok hfn) gb _ _ V (hL.next hV) bE ((m0.below (hV.mono hB)).more (Nat.le_trans hB hV.size)) h2)
  have HS2 := Lib.hid (fun (gb : Nat) (a3 : Option Addr) (c3 : Nat) (V : World) (hV : Below w.heap.size w V) (bE : Blk V gb 37 #[.slice a1 Q c1, .slice a3 Q c3]) (h2 : Many V.heap.size V (.slice a3 Q c3) (diagsMade (P : Int) Q (css.take P))) => sumB d _ _ (hg (P + 1) (by omega)) (diagsMade_good d hok hfn) gb _ _ V (hL.next hV) bE ((m1.below (hV.mono hB)).more (Nat.le_trans hB hV.size)) h2)
  obtain ⟨w0, hw0⟩ : ∃ x, w.alloc (.cells #[.int .i64 (P : Int), .slice lA ln lc, .slice (some ⟨gc, co, none⟩) N cc, .slice nA n nc] 72) = x := ⟨_, rfl⟩
  obtain ⟨g0, hg0⟩ : ∃ x, w.heap.size = x := ⟨_, rfl⟩
  have b0 : Blk w0 g0 72 #[.int .i64 (P : Int), .slice lA ln lc, .slice (some ⟨gc, co, none⟩) N cc, .slice nA n nc] := by rw [← hw0, ← hg0]; exact Blk.new w _ _
  have hB0 : Below w.heap.size w w0 := by rw [← hw0]; exact below_one w _
  have HSA : Hid (∀ V, Below w0.heap.size w0 V → (fun U : World => U.cell? ⟨g0, 0, none⟩ = some (.int .i64 (P : Int)) ∧ U.cell? ⟨g0, 2, none⟩ = some (.slice (some ⟨gc, co, none⟩) N cc)) V) := fun V hV => ⟨(b0.below hV b0.lt).cell 0, (b0.below hV b0.lt).cell 2⟩
  have HCE := Lib.hid (fun (V : World) (hV : Below w.heap.size w V) => (⟨(hV.cell (p := ⟨gc, co + P, none⟩) (Nat.lt_of_lt_of_le hgc hB)).trans hu0, (hV.cell (p := ⟨gc, co + P + 1, none⟩) (Nat.lt_of_lt_of_le hgc hB)).trans hu1⟩ : V.cell? ⟨gc, co + P, none⟩ = some (.slice a0 Q c0) ∧ V.cell? ⟨gc, co + P + 1, none⟩ = some (.slice a1 Q c1)))
  have hNP : N - P = 2 := by omega
  have hccP : ¬ cc = P := by omega
  have hccP2 : ¬ cc < P := by omega
  have hccP3 : P ≤ cc := by omega
  have hccP4 : (P : Int) ≤ (cc : Int) := by omega
  have hPN : (P : Int) ≤ (N : Int) := by omega
  have hP0 : (0 : Int) ≤ (P : Int) := by omega
  have HG := Lib.hid (And.intro hg0 hw0)
  have hBx := (Below.refl w0.heap.size w0).drew
  clear hg hcl hget hgd hRD hfn hok hCt hC hrow m0 m1 hu0 hu1 b0 hN hpb hQ hdl d e2 e4 e5 hL
  refine (callsIn_wide (n := 9)).1 ?_
  refine callsIn_of_wp_marks Tryz.func109 rfl trivial ?_ rfl
  simp only [Tryz.ntmps109, List.size_toArray, List.length_cons, List.length_nil, Nat.reduceAdd, Nat.reduceSub, Array.replicate_succ, Array.replicate_zero, List.push_toArray, List.append_toArray, List.nil_append, List.cons_append]
  gi_wp2_with fail
  (try rw [hg0]); (try rw [hw0])
  clear hw0
  have hS : (fun U : World => U.cell? ⟨g0, 0, none⟩ = some (.int .i64 (P : Int)) ∧ U.cell? ⟨g0, 2, none⟩ = some (.slice (some ⟨gc, co, none⟩) N cc)) w0.drew := HSA.out _ hBx
  refine wpIn_mono (region_HF (Q := NoPanic _) (S := (fun U : World => U.cell? ⟨g0, 0, none⟩ = some (.int .i64 (P : Int)) ∧ U.cell? ⟨g0, 2, none⟩ = some (.slice (some ⟨gc, co, none⟩) N cc))) (by kernel_rfl) ?_) NoPanic.imp
  refine anyHF_take (i := 0) (d := 7) (v := .pointer (some ⟨g0, 0, none⟩)) (by kernel_rfl) rfl (by kernel_rfl) (by kernel_rfl) (by kernel_rfl) rfl (fun _ _ _ h => h) ⟨Or.inl ⟨by rfl, fun w hS => by obtain ⟨h0, h1⟩ := hS; go_simp⟩, fun _ => rfl⟩ hS ?_
  simp only [List.setIfInBounds_toArray, List.set_cons_zero, List.set_cons_succ]
  refine anyHF_take (i := 1) (d := 8) (v := .pointer (some ⟨g0, 0, none⟩)) (by kernel_rfl) rfl (by kernel_rfl) (by kernel_rfl) (by kernel_rfl) rfl (fun _ _ _ h => h) ⟨Or.inl ⟨by rfl, fun w hS => by obtain ⟨h0, h1⟩ := hS; go_simp⟩, fun _ => rfl⟩ hS ?_
  simp only [List.setIfInBounds_toArray, List.set_cons_zero, List.set_cons_succ]
  refine anyHF_take (i := 2) (d := 9) (v := .int .i64 (P : Int)) (by kernel_rfl) rfl (by kernel_rfl) (by kernel_rfl) (by kernel_rfl) rfl (fun _ _ _ h => h) ⟨Or.inl ⟨by rfl, fun w hS => by obtain ⟨h0, h1⟩ := hS; go_simp⟩, fun _ => rfl⟩ hS ?_
  simp only [List.setIfInBounds_toArray, List.set_cons_zero, List.set_cons_succ]
  refine anyHF_take (i := 3) (d := 10) (v := .pointer (some ⟨g0, 2, none⟩)) (by kernel_rfl) rfl (by kernel_rfl) (by kernel_rfl) (by kernel_rfl) rfl (fun _ _ _ h => h) ⟨Or.inl ⟨by rfl, fun w hS => by obtain ⟨h0, h1⟩ := hS; go_simp⟩, fun _ => rfl⟩ hS ?_
  simp only [List.setIfInBounds_toArray, List.set_cons_zero, List.set_cons_succ]
  refine anyHF_take (i := 4) (d := 11) (v := .slice (some ⟨gc, co, none⟩) N cc) (by kernel_rfl) rfl (by kernel_rfl) (by kernel_rfl) (by kernel_rfl) rfl (fun _ _ _ h => h) ⟨Or.inl ⟨by rfl, fun w hS => by obtain ⟨h0, h1⟩ := hS; go_simp⟩, fun _ => rfl⟩ hS ?_
  simp only [List.setIfInBounds_toArray, List.set_cons_zero, List.set_cons_succ]
  refine anyHF_take (i := 5) (d := 12) (v := .pointer (some ⟨g0, 0, none⟩)) (by kernel_rfl) rfl (by kernel_rfl) (by kernel_rfl) (by kernel_rfl) rfl (fun _ _ _ h => h) ⟨Or.inl ⟨by rfl, fun w hS => by obtain ⟨h0, h1⟩ := hS; go_simp⟩, fun _ => rfl⟩ hS ?_
  simp only [List.setIfInBounds_toArray, List.set_cons_zero, List.set_cons_succ]
  refine anyHF_take (i := 6) (d := 13) (v := .pointer (some ⟨g0, 0, none⟩)) (by kernel_rfl) rfl (by kernel_rfl) (by kernel_rfl) (by kernel_rfl) rfl (fun _ _ _ h => h) ⟨Or.inl ⟨by rfl, fun w hS => by obtain ⟨h0, h1⟩ := hS; go_simp⟩, fun _ => rfl⟩ hS ?_
  simp only [List.setIfInBounds_toArray, List.set_cons_zero, List.set_cons_succ]
  refine anyHF_take (i := 7) (d := 14) (v := .int .i64 (P : Int)) (by kernel_rfl) rfl (by kernel_rfl) (by kernel_rfl) (by kernel_rfl) rfl (fun _ _ _ h => h) ⟨Or.inl ⟨by rfl, fun w hS => by obtain ⟨h0, h1⟩ := hS; go_simp⟩, fun _ => rfl⟩ hS ?_
  simp only [List.setIfInBounds_toArray, List.set_cons_zero, List.set_cons_succ]
  refine anyHF_one (i := 8) (by kernel_rfl) rfl (by kernel_rfl) (by rfl) ?_
  gi_wp2_with fail
  refine ⟨trivial, (callsIn_wide.2 (rowsAt_any (P : Int) _)).mono ?_⟩
  rintro e v1 ⟨rfl, rfl⟩
  gi_wp2
  try (refine ⟨hS, ?_⟩)
  refine anyHF_take (i := 9) (d := 16) (v := .slice (some ⟨gc, co + P, none⟩) 2 (cc - P)) (by kernel_rfl) rfl (by kernel_rfl) (by kernel_rfl) (by kernel_rfl) rfl (fun _ _ _ h => h) ⟨Or.inl ⟨by rfl, fun w hS => by obtain ⟨h0, h1⟩ := hS; go_simp⟩, fun _ => rfl⟩ hS ?_
  simp only [List.setIfInBounds_toArray, List.set_cons_zero, List.set_cons_succ]
  refine anyHF_one (i := 10) (by kernel_rfl) rfl (by kernel_rfl) (by rfl) ?_
  gi_wp2
  refine anyHF_one (i := 11) (by kernel_rfl) rfl (by kernel_rfl) (by rfl) ?_
  gi_wp2
  refine anyHF_done (by kernel_rfl) ?_ _
  refine NoPanic.normal ?_
  gi_wp2_with fail
  obtain ⟨w1, hw1⟩ : ∃ x, w0.drew = x := ⟨_, rfl⟩
  rw [hw1] at hBx
  clear hS
  rw [hw1]
  have hS : (fun U : World => U.cell? ⟨g0, 0, none⟩ = some (.int .i64 (P : Int)) ∧ U.cell? ⟨g0, 2, none⟩ = some (.slice (some ⟨gc, co, none⟩) N cc)) w1.drew := HSA.out _ hBx.drew
  replace hBx := hBx.drew
  clear hw1
  refine wpIn_mono (region_HF (Q := NoPanic _) (S := (fun U : World => U.cell? ⟨g0, 0, none⟩ = some (.int .i64 (P : Int)) ∧ U.cell? ⟨g0, 2, none⟩ = some (.slice (some ⟨gc, co, none⟩) N cc))) (by kernel_rfl) ?_) NoPanic.imp
  refine anyHF_take (i := 0) (d := 17) (v := .int .i64 (P : Int)) (by kernel_rfl) rfl (by kernel_rfl) (by kernel_rfl) (by kernel_rfl) rfl (fun _ _ _ h => h) ⟨Or.inl ⟨by rfl, fun w hS => by obtain ⟨h0, h1⟩ := hS; go_simp⟩, fun _ => rfl⟩ hS ?_
  simp only [List.setIfInBounds_toArray, List.set_cons_zero, List.set_cons_succ]
  refine anyHF_take (i := 1) (d := 18) (v := .pointer (some ⟨g0, 2, none⟩)) (by kernel_rfl) rfl (by kernel_rfl) (by kernel_rfl) (by kernel_rfl) rfl (fun _ _ _ h => h) ⟨Or.inl ⟨by rfl, fun w hS => by obtain ⟨h0, h1⟩ := hS; go_simp⟩, fun _ => rfl⟩ hS ?_
  simp only [List.setIfInBounds_toArray, List.set_cons_zero, List.set_cons_succ]
  refine anyHF_take (i := 2) (d := 19) (v := .slice (some ⟨gc, co, none⟩) N cc) (by kernel_rfl) rfl (by kernel_rfl) (by kernel_rfl) (by kernel_rfl) rfl (fun _ _ _ h => h) ⟨Or.inl ⟨by rfl, fun w hS => by obtain ⟨h0, h1⟩ := hS; go_simp⟩, fun _ => rfl⟩ hS ?_
  simp only [List.setIfInBounds_toArray, List.set_cons_zero, List.set_cons_succ]
  refine anyHF_take (i := 3) (d := 20) (v := .pointer (some ⟨g0, 0, none⟩)) (by kernel_rfl) rfl (by kernel_rfl) (by kernel_rfl) (by kernel_rfl) rfl (fun _ _ _ h => h) ⟨Or.inl ⟨by rfl, fun w hS => by obtain ⟨h0, h1⟩ := hS; go_simp⟩, fun _ => rfl⟩ hS ?_
  simp only [List.setIfInBounds_toArray, List.set_cons_zero, List.set_cons_succ]
  refine anyHF_take (i := 4) (d := 21) (v := .pointer (some ⟨g0, 0, none⟩)) (by kernel_rfl) rfl (by kernel_rfl) (by kernel_rfl) (by kernel_rfl) rfl (fun _ _ _ h => h) ⟨Or.inl ⟨by rfl, fun w hS => by obtain ⟨h0, h1⟩ := hS; go_simp⟩, fun _ => rfl⟩ hS ?_
  simp only [List.setIfInBounds_toArray, List.set_cons_zero, List.set_cons_succ]
  refine anyHF_take (i := 5) (d := 22) (v := .int .i64 (P : Int)) (by kernel_rfl) rfl (by kernel_rfl) (by kernel_rfl) (by kernel_rfl) rfl (fun _ _ _ h => h) ⟨Or.inl ⟨by rfl, fun w hS => by obtain ⟨h0, h1⟩ := hS; go_simp⟩, fun _ => rfl⟩ hS ?_
  simp only [List.setIfInBounds_toArray, List.set_cons_zero, List.set_cons_succ]
  refine anyHF_one (i := 6) (by kernel_rfl) rfl (by kernel_rfl) (by rfl) ?_
  gi_wp2_with fail
  refine ⟨trivial, (callsIn_wide.2 (rowsAt_any (P : Int) _)).mono ?_⟩
  rintro e v1 ⟨rfl, rfl⟩
  gi_wp2
  try (refine ⟨hS, ?_⟩)
  refine anyHF_take (i := 7) (d := 24) (v := .slice (some ⟨gc, co, none⟩) P cc) (by kernel_rfl) rfl (by kernel_rfl) (by kernel_rfl) (by kernel_rfl) rfl (fun _ _ _ h => h) ⟨Or.inl ⟨by rfl, fun w hS => by obtain ⟨h0, h1⟩ := hS; go_simp⟩, fun _ => rfl⟩ hS ?_
  simp only [List.setIfInBounds_toArray, List.set_cons_zero, List.set_cons_succ]
  refine anyHF_one (i := 8) (by kernel_rfl) rfl (by kernel_rfl) (by rfl) ?_
  gi_wp2_with fail
  refine ⟨trivial, (callsIn_wide.2 (HEN.out _ (below_in hB0 hBx))).mono ?_⟩
  rintro e v2 ⟨gm, mo, mc, a2, c2, a3, c3, rfl, hgm, hc2, hc3, hm2, hm3, hmc, hB⟩
  replace hBx := below_in hBx hB
  clear hS
  have hS : (fun U : World => U.cell? ⟨g0, 0, none⟩ = some (.int .i64 (P : Int)) ∧ U.cell? ⟨g0, 2, none⟩ = some (.slice (some ⟨gc, co, none⟩) N cc)) v2 := HSA.out _ hBx
  clear hB
  gi_wp2
  try (refine ⟨hS, ?_⟩)
  refine anyHF_take (i := 9) (d := 26) (v := .slice (some ⟨gm, mo, none⟩) 2 mc) (by kernel_rfl) rfl (by kernel_rfl) (by kernel_rfl) (by kernel_rfl) rfl (fun _ _ _ h => h) ⟨Or.inl ⟨by rfl, fun w hS => by obtain ⟨h0, h1⟩ := hS; go_simp⟩, fun _ => rfl⟩ hS ?_
  simp only [List.setIfInBounds_toArray, List.set_cons_zero, List.set_cons_succ]
  refine anyHF_take (i := 10) (d := 27) (v := .int .i64 0) (by kernel_rfl) rfl (by kernel_rfl) (by kernel_rfl) (by kernel_rfl) rfl (fun _ _ _ h => h) ⟨Or.inl ⟨by rfl, fun w hS => by obtain ⟨h0, h1⟩ := hS; go_simp⟩, fun _ => rfl⟩ hS ?_
  simp only [List.setIfInBounds_toArray, List.set_cons_zero, List.set_cons_succ]
  refine anyHF_one (i := 11) (by kernel_rfl) rfl (by kernel_rfl) (by rfl) ?_
  gi_wp2_with fail
  refine ⟨trivial, (callsIn_wide.2 (sureS _ _)).mono ?_⟩
  rintro e v3 ⟨rfl, rfl⟩
  gi_wp2
  try (refine ⟨hS, ?_⟩)
  refine anyHF_one (i := 12) (by kernel_rfl) rfl (by kernel_rfl) (by rfl) ?_
  gi_wp2
  refine anyHF_done (by kernel_rfl) ?_ _
  refine NoPanic.normal ?_
  clear hS
  gi_wp2_with fail
  obtain ⟨wE, hwE⟩ : ∃ x, v2 = x := ⟨_, rfl⟩
  rw [hwE] at hBx hgm hc2 hc3 hm2 hm3
  have hBE := below_in hB0 hBx
  rw [hwE]
  clear hwE hBx
  have HSS : Hid (∀ V, Below wE.heap.size wE V → (fun U : World => U.cell? ⟨gc, co + P, none⟩ = some (.slice a0 Q c0) ∧ U.cell? ⟨gc, co + P + 1, none⟩ = some (.slice a1 Q c1) ∧ U.cell? ⟨gm, mo, none⟩ = some (.slice a2 Q c2) ∧ U.cell? ⟨gm, mo + 1, none⟩ = some (.slice a3 Q c3)) V) := fun V hV => ⟨(HCE.out V (below_in hBE hV)).1, (HCE.out V (below_in hBE hV)).2, (hV.cell (p := ⟨gm, mo, none⟩) hgm).trans hc2, (hV.cell (p := ⟨gm, mo + 1, none⟩) hgm).trans hc3⟩
  have HSx := Lib.hid (fun (gb : Nat) (V : World) (hV : Below wE.heap.size wE V) (bE : Blk V gb 37 #[.slice a0 Q c0, .slice a2 Q c2]) => HS1.out gb a2 c2 V (below_in hBE hV) bE ((hm2.below hV).more hV.size))
  have HSy := Lib.hid (fun (gb : Nat) (V : World) (hV : Below wE.heap.size wE V) (bE : Blk V gb 37 #[.slice a1 Q c1, .slice a3 Q c3]) => HS2.out gb a3 c3 V (below_in hBE hV) bE ((hm3.below hV).more hV.size))
  have hBx := (Below.refl wE.heap.size wE).drew
  have hS : (fun U : World => U.cell? ⟨gc, co + P, none⟩ = some (.slice a0 Q c0) ∧ U.cell? ⟨gc, co + P + 1, none⟩ = some (.slice a1 Q c1) ∧ U.cell? ⟨gm, mo, none⟩ = some (.slice a2 Q c2) ∧ U.cell? ⟨gm, mo + 1, none⟩ = some (.slice a3 Q c3)) wE.drew := HSS.out _ hBx
  clear hc2 hc3 hm2 hm3
  refine wpIn_mono (region_HF (Q := NoPanic _) (S := (fun U : World => U.cell? ⟨gc, co + P, none⟩ = some (.slice a0 Q c0) ∧ U.cell? ⟨gc, co + P + 1, none⟩ = some (.slice a1 Q c1) ∧ U.cell? ⟨gm, mo, none⟩ = some (.slice a2 Q c2) ∧ U.cell? ⟨gm, mo + 1, none⟩ = some (.slice a3 Q c3))) (by kernel_rfl) ?_) NoPanic.imp
  refine anyHF_take (i := 0) (d := 29) (v := .int .i64 (P : Int)) (by kernel_rfl) rfl (by kernel_rfl) (by kernel_rfl) (by kernel_rfl) rfl (fun _ _ _ h => h) ⟨Or.inl ⟨by rfl, fun w hS => by obtain ⟨h0, h1, h2, h3⟩ := hS; go_simp⟩, fun _ => rfl⟩ hS ?_
  simp only [List.setIfInBounds_toArray, List.set_cons_zero, List.set_cons_succ]
  refine anyHF_take (i := 1) (d := 30) (v := .slice (some ⟨gc, co + P, none⟩) 2 (cc - P)) (by kernel_rfl) rfl (by kernel_rfl) (by kernel_rfl) (by kernel_rfl) rfl (fun _ _ _ h => h) ⟨Or.inl ⟨by rfl, fun w hS => by obtain ⟨h0, h1, h2, h3⟩ := hS; go_simp⟩, fun _ => rfl⟩ hS ?_
  simp only [List.setIfInBounds_toArray, List.set_cons_zero, List.set_cons_succ]
  refine anyHF_take (i := 2) (d := 31) (v := .pointer (some ⟨gc, co + P, none⟩)) (by kernel_rfl) rfl (by kernel_rfl) (by kernel_rfl) (by kernel_rfl) rfl (fun _ _ _ h => h) ⟨Or.inl ⟨by rfl, fun w hS => by obtain ⟨h0, h1, h2, h3⟩ := hS; go_simp⟩, fun _ => rfl⟩ hS ?_
  simp only [List.setIfInBounds_toArray, List.set_cons_zero, List.set_cons_succ]
  refine anyHF_take (i := 3) (d := 32) (v := .slice a0 Q c0) (by kernel_rfl) rfl (by kernel_rfl) (by kernel_rfl) (by kernel_rfl) rfl (fun _ _ _ h => h) ⟨Or.inl ⟨by rfl, fun w hS => by obtain ⟨h0, h1, h2, h3⟩ := hS; go_simp⟩, fun _ => rfl⟩ hS ?_
  simp only [List.setIfInBounds_toArray, List.set_cons_zero, List.set_cons_succ]
  refine anyHF_take (i := 4) (d := 33) (v := .slice (some ⟨gm, mo, none⟩) 2 mc) (by kernel_rfl) rfl (by kernel_rfl) (by kernel_rfl) (by kernel_rfl) rfl (fun _ _ _ h => h) ⟨Or.inl ⟨by rfl, fun w hS => by obtain ⟨h0, h1, h2, h3⟩ := hS; go_simp⟩, fun _ => rfl⟩ hS ?_
  simp only [List.setIfInBounds_toArray, List.set_cons_zero, List.set_cons_succ]
  refine anyHF_take (i := 5) (d := 34) (v := .pointer (some ⟨gm, mo, none⟩)) (by kernel_rfl) rfl (by kernel_rfl) (by kernel_rfl) (by kernel_rfl) rfl (fun _ _ _ h => h) ⟨Or.inl ⟨by rfl, fun w hS => by obtain ⟨h0, h1, h2, h3⟩ := hS; go_simp⟩, fun _ => rfl⟩ hS ?_
  simp only [List.setIfInBounds_toArray, List.set_cons_zero, List.set_cons_succ]
  refine anyHF_take (i := 6) (d := 35) (v := .slice a2 Q c2) (by kernel_rfl) rfl (by kernel_rfl) (by kernel_rfl) (by kernel_rfl) rfl (fun _ _ _ h => h) ⟨Or.inl ⟨by rfl, fun w hS => by obtain ⟨h0, h1, h2, h3⟩ := hS; go_simp⟩, fun _ => rfl⟩ hS ?_
  simp only [List.setIfInBounds_toArray, List.set_cons_zero, List.set_cons_succ]
  refine anyHF_take (i := 12) (d := 41) (v := .int .i64 (P : Int)) (by kernel_rfl) rfl (by kernel_rfl) (by kernel_rfl) (by kernel_rfl) rfl (fun _ _ _ h => h) ⟨Or.inl ⟨by rfl, fun w hS => by obtain ⟨h0, h1, h2, h3⟩ := hS; go_simp⟩, fun _ => rfl⟩ hS ?_
  simp only [List.setIfInBounds_toArray, List.set_cons_zero, List.set_cons_succ]
  refine anyHF_take (i := 13) (d := 42) (v := .slice (some ⟨gc, co + P, none⟩) 2 (cc - P)) (by kernel_rfl) rfl (by kernel_rfl) (by kernel_rfl) (by kernel_rfl) rfl (fun _ _ _ h => h) ⟨Or.inl ⟨by rfl, fun w hS => by obtain ⟨h0, h1, h2, h3⟩ := hS; go_simp⟩, fun _ => rfl⟩ hS ?_
  simp only [List.setIfInBounds_toArray, List.set_cons_zero, List.set_cons_succ]
  refine anyHF_take (i := 14) (d := 43) (v := .pointer (some ⟨gc, co + P + 1, none⟩)) (by kernel_rfl) rfl (by kernel_rfl) (by kernel_rfl) (by kernel_rfl) rfl (fun _ _ _ h => h) ⟨Or.inl ⟨by rfl, fun w hS => by obtain ⟨h0, h1, h2, h3⟩ := hS; go_simp⟩, fun _ => rfl⟩ hS ?_
  simp only [List.setIfInBounds_toArray, List.set_cons_zero, List.set_cons_succ]
  refine anyHF_take (i := 15) (d := 44) (v := .slice a1 Q c1) (by kernel_rfl) rfl (by kernel_rfl) (by kernel_rfl) (by kernel_rfl) rfl (fun _ _ _ h => h) ⟨Or.inl ⟨by rfl, fun w hS => by obtain ⟨h0, h1, h2, h3⟩ := hS; go_simp⟩, fun _ => rfl⟩ hS ?_
  simp only [List.setIfInBounds_toArray, List.set_cons_zero, List.set_cons_succ]
  refine anyHF_take (i := 16) (d := 45) (v := .slice (some ⟨gm, mo, none⟩) 2 mc) (by kernel_rfl) rfl (by kernel_rfl) (by kernel_rfl) (by kernel_rfl) rfl (fun _ _ _ h => h) ⟨Or.inl ⟨by rfl, fun w hS => by obtain ⟨h0, h1, h2, h3⟩ := hS; go_simp⟩, fun _ => rfl⟩ hS ?_
  simp only [List.setIfInBounds_toArray, List.set_cons_zero, List.set_cons_succ]
  refine anyHF_take (i := 17) (d := 46) (v := .pointer (some ⟨gm, mo + 1, none⟩)) (by kernel_rfl) rfl (by kernel_rfl) (by kernel_rfl) (by kernel_rfl) rfl (fun _ _ _ h => h) ⟨Or.inl ⟨by rfl, fun w hS => by obtain ⟨h0, h1, h2, h3⟩ := hS; go_simp⟩, fun _ => rfl⟩ hS ?_
  simp only [List.setIfInBounds_toArray, List.set_cons_zero, List.set_cons_succ]
  refine anyHF_take (i := 18) (d := 47) (v := .slice a3 Q c3) (by kernel_rfl) rfl (by kernel_rfl) (by kernel_rfl) (by kernel_rfl) rfl (fun _ _ _ h => h) ⟨Or.inl ⟨by rfl, fun w hS => by obtain ⟨h0, h1, h2, h3⟩ := hS; go_simp⟩, fun _ => rfl⟩ hS ?_
  simp only [List.setIfInBounds_toArray, List.set_cons_zero, List.set_cons_succ]
  refine Rg.anyHF_both (i := 7) (j := 19) (by kernel_rfl) rfl rfl (by rfl) (by rfl) ?c1a ?c1b
  case c1a =>
    have hgl_g3 := hBx.size
    have hB : Below wE.drew.heap.size wE.drew (wE.drew.alloc (.cells #[.slice a0 Q c0, .slice a2 Q c2] 37)) := below_one wE.drew _
    have bE1 : Blk (wE.drew.alloc (.cells #[.slice a0 Q c0, .slice a2 Q c2] 37)) wE.drew.heap.size 37 #[.slice a0 Q c0, .slice a2 Q c2] := Blk.new wE.drew _ _
    obtain ⟨v2, he_v2⟩ : ∃ x, (wE.drew.alloc (.cells #[.slice a0 Q c0, .slice a2 Q c2] 37)) = x := ⟨_, rfl⟩
    obtain ⟨g3, hg_g3⟩ : ∃ x, wE.drew.heap.size = x := ⟨_, rfl⟩
    rw [he_v2] at hB bE1
    rw [hg_g3] at bE1
    replace hBx := below_in hBx hB
    clear hS
    have hS : (fun U : World => U.cell? ⟨gc, co + P, none⟩ = some (.slice a0 Q c0) ∧ U.cell? ⟨gc, co + P + 1, none⟩ = some (.slice a1 Q c1) ∧ U.cell? ⟨gm, mo, none⟩ = some (.slice a2 Q c2) ∧ U.cell? ⟨gm, mo + 1, none⟩ = some (.slice a3 Q c3)) v2 := HSS.out _ hBx
    gi_wp2
    (try rw [hg_g3]); (try rw [he_v2])
    try (refine ⟨hS, ?_⟩)
    clear hB he_v2 hg_g3
    refine Rg.anyHF_both (i := 8) (j := 19) (by kernel_rfl) rfl rfl (by rfl) (by rfl) ?c4a ?c4b
    case c4a =>
      gi_wp2_with fail
      refine ⟨trivial, (callsIn_wide.2 (HSx.out g3 _ hBx bE1)).mono ?_⟩
      rintro e v5 ⟨A1, rfl, hm1', hB⟩
      replace bE1 := bE1.below hB bE1.lt
      replace hBx := below_in hBx hB
      clear hS
      have hS : (fun U : World => U.cell? ⟨gc, co + P, none⟩ = some (.slice a0 Q c0) ∧ U.cell? ⟨gc, co + P + 1, none⟩ = some (.slice a1 Q c1) ∧ U.cell? ⟨gm, mo, none⟩ = some (.slice a2 Q c2) ∧ U.cell? ⟨gm, mo + 1, none⟩ = some (.slice a3 Q c3)) v5 := HSS.out _ hBx
      clear hB
      gi_wp2
      try (refine ⟨hS, ?_⟩)
      refine anyHF_take (i := 9) (d := 38) (v := .slice A1 Q Q) (by kernel_rfl) rfl (by kernel_rfl) (by kernel_rfl) (by kernel_rfl) rfl (fun _ _ _ h => h) ⟨Or.inl ⟨by rfl, fun w hS => by obtain ⟨h0, h1, h2, h3⟩ := hS; go_simp⟩, fun _ => rfl⟩ hS ?_
      simp only [List.setIfInBounds_toArray, List.set_cons_zero, List.set_cons_succ]
      refine anyHF_take (i := 10) (d := 39) (v := .int .i64 0) (by kernel_rfl) rfl (by kernel_rfl) (by kernel_rfl) (by kernel_rfl) rfl (fun _ _ _ h => h) ⟨Or.inl ⟨by rfl, fun w hS => by obtain ⟨h0, h1, h2, h3⟩ := hS; go_simp⟩, fun _ => rfl⟩ hS ?_
      simp only [List.setIfInBounds_toArray, List.set_cons_zero, List.set_cons_succ]
      refine Rg.anyHF_both (i := 11) (j := 19) (by kernel_rfl) rfl rfl (by rfl) (by rfl) ?c6a ?c6b
      case c6a =>
        gi_wp2_with fail
        refine ⟨trivial, (callsIn_wide.2 (sureC _ _)).mono ?_⟩
        rintro e v7 ⟨rfl, rfl⟩
        gi_wp2
        try (refine ⟨hS, ?_⟩)
        refine anyHF_one (i := 19) (by kernel_rfl) rfl (by kernel_rfl) (by rfl) ?_
        have hgl_g9 := hBx.size
        have hB : Below v5.heap.size v5 (v5.alloc (.cells #[.slice a1 Q c1, .slice a3 Q c3] 37)) := below_one v5 _
        have bE2 : Blk (v5.alloc (.cells #[.slice a1 Q c1, .slice a3 Q c3] 37)) v5.heap.size 37 #[.slice a1 Q c1, .slice a3 Q c3] := Blk.new v5 _ _
        obtain ⟨v8, he_v8⟩ : ∃ x, (v5.alloc (.cells #[.slice a1 Q c1, .slice a3 Q c3] 37)) = x := ⟨_, rfl⟩
        obtain ⟨g9, hg_g9⟩ : ∃ x, v5.heap.size = x := ⟨_, rfl⟩
        rw [he_v8] at hB bE2
        rw [hg_g9] at bE2
        replace bE1 := bE1.below hB bE1.lt
        replace hm1' := (hm1'.below hB).more hB.size
        replace hBx := below_in hBx hB
        clear hS
        have hS : (fun U : World => U.cell? ⟨gc, co + P, none⟩ = some (.slice a0 Q c0) ∧ U.cell? ⟨gc, co + P + 1, none⟩ = some (.slice a1 Q c1) ∧ U.cell? ⟨gm, mo, none⟩ = some (.slice a2 Q c2) ∧ U.cell? ⟨gm, mo + 1, none⟩ = some (.slice a3 Q c3)) v8 := HSS.out _ hBx
        gi_wp2
        (try rw [hg_g9]); (try rw [he_v8])
        try (refine ⟨hS, ?_⟩)
        clear hB he_v8 hg_g9
        refine anyHF_one (i := 20) (by kernel_rfl) rfl (by kernel_rfl) (by rfl) ?_
        gi_wp2_with fail
        refine ⟨trivial, (callsIn_wide.2 (HSy.out g9 _ hBx bE2)).mono ?_⟩
        rintro e v10 ⟨A2, rfl, hm2', hB⟩
        replace bE1 := bE1.below hB bE1.lt
        replace bE2 := bE2.below hB bE2.lt
        replace hm1' := (hm1'.below hB).more hB.size
        replace hBx := below_in hBx hB
        clear hS
        have hS : (fun U : World => U.cell? ⟨gc, co + P, none⟩ = some (.slice a0 Q c0) ∧ U.cell? ⟨gc, co + P + 1, none⟩ = some (.slice a1 Q c1) ∧ U.cell? ⟨gm, mo, none⟩ = some (.slice a2 Q c2) ∧ U.cell? ⟨gm, mo + 1, none⟩ = some (.slice a3 Q c3)) v10 := HSS.out _ hBx
        clear hB
        gi_wp2
        try (refine ⟨hS, ?_⟩)
        refine anyHF_take (i := 21) (d := 50) (v := .slice A2 Q Q) (by kernel_rfl) rfl (by kernel_rfl) (by kernel_rfl) (by kernel_rfl) rfl (fun _ _ _ h => h) ⟨Or.inl ⟨by rfl, fun w hS => by obtain ⟨h0, h1, h2, h3⟩ := hS; go_simp⟩, fun _ => rfl⟩ hS ?_
        simp only [List.setIfInBounds_toArray, List.set_cons_zero, List.set_cons_succ]
        refine anyHF_take (i := 22) (d := 51) (v := .int .i64 0) (by kernel_rfl) rfl (by kernel_rfl) (by kernel_rfl) (by kernel_rfl) rfl (fun _ _ _ h => h) ⟨Or.inl ⟨by rfl, fun w hS => by obtain ⟨h0, h1, h2, h3⟩ := hS; go_simp⟩, fun _ => rfl⟩ hS ?_
        simp only [List.setIfInBounds_toArray, List.set_cons_zero, List.set_cons_succ]
        refine anyHF_one (i := 23) (by kernel_rfl) rfl (by kernel_rfl) (by rfl) ?_
        gi_wp2_with fail
        refine ⟨trivial, (callsIn_wide.2 (sureC _ _)).mono ?_⟩
        rintro e v11 ⟨rfl, rfl⟩
        gi_wp2
        try (refine ⟨hS, ?_⟩)
        refine anyHF_one (i := 24) (by kernel_rfl) rfl (by kernel_rfl) (by rfl) ?_
        gi_wp2
        refine anyHF_one (i := 25) (by kernel_rfl) rfl (by kernel_rfl) (by rfl) ?_
        gi_wp2
        refine anyHF_done (by kernel_rfl) ?_ _
        refine NoPanic.normal ?_
        clear hS
        gi_wp2_with fail
        exact ⟨.tuple #[.slice A1 Q Q, .slice A2 Q Q], by simp [results, Tryz.results109, go_sem], A1, A2, rfl, hm1', hm2', below_in hBE hBx⟩
      case c6b =>
        have hgl_g13 := hBx.size
        have hB : Below v5.heap.size v5 (v5.alloc (.cells #[.slice a1 Q c1, .slice a3 Q c3] 37)) := below_one v5 _
        have bE2 : Blk (v5.alloc (.cells #[.slice a1 Q c1, .slice a3 Q c3] 37)) v5.heap.size 37 #[.slice a1 Q c1, .slice a3 Q c3] := Blk.new v5 _ _
        obtain ⟨v12, he_v12⟩ : ∃ x, (v5.alloc (.cells #[.slice a1 Q c1, .slice a3 Q c3] 37)) = x := ⟨_, rfl⟩
        obtain ⟨g13, hg_g13⟩ : ∃ x, v5.heap.size = x := ⟨_, rfl⟩
        rw [he_v12] at hB bE2
        rw [hg_g13] at bE2
        replace bE1 := bE1.below hB bE1.lt
        replace hm1' := (hm1'.below hB).more hB.size
        replace hBx := below_in hBx hB
        clear hS
        have hS : (fun U : World => U.cell? ⟨gc, co + P, none⟩ = some (.slice a0 Q c0) ∧ U.cell? ⟨gc, co + P + 1, none⟩ = some (.slice a1 Q c1) ∧ U.cell? ⟨gm, mo, none⟩ = some (.slice a2 Q c2) ∧ U.cell? ⟨gm, mo + 1, none⟩ = some (.slice a3 Q c3)) v12 := HSS.out _ hBx
        gi_wp2
        (try rw [hg_g13]); (try rw [he_v12])
        try (refine ⟨hS, ?_⟩)
        clear hB he_v12 hg_g13
        refine anyHF_one (i := 11) (by kernel_rfl) rfl (by kernel_rfl) (by rfl) ?_
        gi_wp2_with fail
        refine ⟨trivial, (callsIn_wide.2 (sureC _ _)).mono ?_⟩
        rintro e v14 ⟨rfl, rfl⟩
        gi_wp2
        try (refine ⟨hS, ?_⟩)
        refine anyHF_one (i := 20) (by kernel_rfl) rfl (by kernel_rfl) (by rfl) ?_
        gi_wp2_with fail
        refine ⟨trivial, (callsIn_wide.2 (HSy.out g13 _ hBx bE2)).mono ?_⟩
        rintro e v15 ⟨A2, rfl, hm2', hB⟩
        replace bE1 := bE1.below hB bE1.lt
        replace bE2 := bE2.below hB bE2.lt
        replace hm1' := (hm1'.below hB).more hB.size
        replace hBx := below_in hBx hB
        clear hS
        have hS : (fun U : World => U.cell? ⟨gc, co + P, none⟩ = some (.slice a0 Q c0) ∧ U.cell? ⟨gc, co + P + 1, none⟩ = some (.slice a1 Q c1) ∧ U.cell? ⟨gm, mo, none⟩ = some (.slice a2 Q c2) ∧ U.cell? ⟨gm, mo + 1, none⟩ = some (.slice a3 Q c3)) v15 := HSS.out _ hBx
        clear hB
        gi_wp2
        try (refine ⟨hS, ?_⟩)
        refine anyHF_take (i := 21) (d := 50) (v := .slice A2 Q Q) (by kernel_rfl) rfl (by kernel_rfl) (by kernel_rfl) (by kernel_rfl) rfl (fun _ _ _ h => h) ⟨Or.inl ⟨by rfl, fun w hS => by obtain ⟨h0, h1, h2, h3⟩ := hS; go_simp⟩, fun _ => rfl⟩ hS ?_
        simp only [List.setIfInBounds_toArray, List.set_cons_zero, List.set_cons_succ]
        refine anyHF_take (i := 22) (d := 51) (v := .int .i64 0) (by kernel_rfl) rfl (by kernel_rfl) (by kernel_rfl) (by kernel_rfl) rfl (fun _ _ _ h => h) ⟨Or.inl ⟨by rfl, fun w hS => by obtain ⟨h0, h1, h2, h3⟩ := hS; go_simp⟩, fun _ => rfl⟩ hS ?_
        simp only [List.setIfInBounds_toArray, List.set_cons_zero, List.set_cons_succ]
        refine anyHF_one (i := 23) (by kernel_rfl) rfl (by kernel_rfl) (by rfl) ?_
        gi_wp2_with fail
        refine ⟨trivial, (callsIn_wide.2 (sureC _ _)).mono ?_⟩
        rintro e v16 ⟨rfl, rfl⟩
        gi_wp2
        try (refine ⟨hS, ?_⟩)
        refine anyHF_one (i := 24) (by kernel_rfl) rfl (by kernel_rfl) (by rfl) ?_
        gi_wp2
        refine anyHF_one (i := 25) (by kernel_rfl) rfl (by kernel_rfl) (by rfl) ?_
        gi_wp2
        refine anyHF_done (by kernel_rfl) ?_ _
        refine NoPanic.normal ?_
        clear hS
        gi_wp2_with fail
        exact ⟨.tuple #[.slice A1 Q Q, .slice A2 Q Q], by simp [results, Tryz.results109, go_sem], A1, A2, rfl, hm1', hm2', below_in hBE hBx⟩
    case c4b =>
      have hgl_g18 := hBx.size
      have hB : Below v2.heap.size v2 (v2.alloc (.cells #[.slice a1 Q c1, .slice a3 Q c3] 37)) := below_one v2 _
      have bE2 : Blk (v2.alloc (.cells #[.slice a1 Q c1, .slice a3 Q c3] 37)) v2.heap.size 37 #[.slice a1 Q c1, .slice a3 Q c3] := Blk.new v2 _ _
      obtain ⟨v17, he_v17⟩ : ∃ x, (v2.alloc (.cells #[.slice a1 Q c1, .slice a3 Q c3] 37)) = x := ⟨_, rfl⟩
      obtain ⟨g18, hg_g18⟩ : ∃ x, v2.heap.size = x := ⟨_, rfl⟩
      rw [he_v17] at hB bE2
      rw [hg_g18] at bE2
      replace bE1 := bE1.below hB bE1.lt
      replace hBx := below_in hBx hB
      clear hS
      have hS : (fun U : World => U.cell? ⟨gc, co + P, none⟩ = some (.slice a0 Q c0) ∧ U.cell? ⟨gc, co + P + 1, none⟩ = some (.slice a1 Q c1) ∧ U.cell? ⟨gm, mo, none⟩ = some (.slice a2 Q c2) ∧ U.cell? ⟨gm, mo + 1, none⟩ = some (.slice a3 Q c3)) v17 := HSS.out _ hBx
      gi_wp2
      (try rw [hg_g18]); (try rw [he_v17])
      try (refine ⟨hS, ?_⟩)
      clear hB he_v17 hg_g18
      refine anyHF_one (i := 8) (by kernel_rfl) rfl (by kernel_rfl) (by rfl) ?_
      gi_wp2_with fail
      refine ⟨trivial, (callsIn_wide.2 (HSx.out g3 _ hBx bE1)).mono ?_⟩
      rintro e v19 ⟨A1, rfl, hm1', hB⟩
      replace bE1 := bE1.below hB bE1.lt
      replace bE2 := bE2.below hB bE2.lt
      replace hBx := below_in hBx hB
      clear hS
      have hS : (fun U : World => U.cell? ⟨gc, co + P, none⟩ = some (.slice a0 Q c0) ∧ U.cell? ⟨gc, co + P + 1, none⟩ = some (.slice a1 Q c1) ∧ U.cell? ⟨gm, mo, none⟩ = some (.slice a2 Q c2) ∧ U.cell? ⟨gm, mo + 1, none⟩ = some (.slice a3 Q c3)) v19 := HSS.out _ hBx
      clear hB
      gi_wp2
      try (refine ⟨hS, ?_⟩)
      refine anyHF_take (i := 9) (d := 38) (v := .slice A1 Q Q) (by kernel_rfl) rfl (by kernel_rfl) (by kernel_rfl) (by kernel_rfl) rfl (fun _ _ _ h => h) ⟨Or.inl ⟨by rfl, fun w hS => by obtain ⟨h0, h1, h2, h3⟩ := hS; go_simp⟩, fun _ => rfl⟩ hS ?_
      simp only [List.setIfInBounds_toArray, List.set_cons_zero, List.set_cons_succ]
      refine anyHF_take (i := 10) (d := 39) (v := .int .i64 0) (by kernel_rfl) rfl (by kernel_rfl) (by kernel_rfl) (by kernel_rfl) rfl (fun _ _ _ h => h) ⟨Or.inl ⟨by rfl, fun w hS => by obtain ⟨h0, h1, h2, h3⟩ := hS; go_simp⟩, fun _ => rfl⟩ hS ?_
      simp only [List.setIfInBounds_toArray, List.set_cons_zero, List.set_cons_succ]
      refine anyHF_one (i := 11) (by kernel_rfl) rfl (by kernel_rfl) (by rfl) ?_
      gi_wp2_with fail
      refine ⟨trivial, (callsIn_wide.2 (sureC _ _)).mono ?_⟩
      rintro e v20 ⟨rfl, rfl⟩
      gi_wp2
      try (refine ⟨hS, ?_⟩)
      refine anyHF_one (i := 20) (by kernel_rfl) rfl (by kernel_rfl) (by rfl) ?_
      gi_wp2_with fail
      refine ⟨trivial, (callsIn_wide.2 (HSy.out g18 _ hBx bE2)).mono ?_⟩
      rintro e v21 ⟨A2, rfl, hm2', hB⟩
      replace bE1 := bE1.below hB bE1.lt
      replace bE2 := bE2.below hB bE2.lt
      replace hm1' := (hm1'.below hB).more hB.size
      replace hBx := below_in hBx hB
      clear hS
      have hS : (fun U : World => U.cell? ⟨gc, co + P, none⟩ = some (.slice a0 Q c0) ∧ U.cell? ⟨gc, co + P + 1, none⟩ = some (.slice a1 Q c1) ∧ U.cell? ⟨gm, mo, none⟩ = some (.slice a2 Q c2) ∧ U.cell? ⟨gm, mo + 1, none⟩ = some (.slice a3 Q c3)) v21 := HSS.out _ hBx
      clear hB
      gi_wp2
      try (refine ⟨hS, ?_⟩)
      refine anyHF_take (i := 21) (d := 50) (v := .slice A2 Q Q) (by kernel_rfl) rfl (by kernel_rfl) (by kernel_rfl) (by kernel_rfl) rfl (fun _ _ _ h => h) ⟨Or.inl ⟨by rfl, fun w hS => by obtain ⟨h0, h1, h2, h3⟩ := hS; go_simp⟩, fun _ => rfl⟩ hS ?_
      simp only [List.setIfInBounds_toArray, List.set_cons_zero, List.set_cons_succ]
      refine anyHF_take (i := 22) (d := 51) (v := .int .i64 0) (by kernel_rfl) rfl (by kernel_rfl) (by kernel_rfl) (by kernel_rfl) rfl (fun _ _ _ h => h) ⟨Or.inl ⟨by rfl, fun w hS => by obtain ⟨h0, h1, h2, h3⟩ := hS; go_simp⟩, fun _ => rfl⟩ hS ?_
      simp only [List.setIfInBounds_toArray, List.set_cons_zero, List.set_cons_succ]
      refine anyHF_one (i := 23) (by kernel_rfl) rfl (by kernel_rfl) (by rfl) ?_
      gi_wp2_with fail
      refine ⟨trivial, (callsIn_wide.2 (sureC _ _)).mono ?_⟩
      rintro e v22 ⟨rfl, rfl⟩
      gi_wp2
      try (refine ⟨hS, ?_⟩)
      refine anyHF_one (i := 24) (by kernel_rfl) rfl (by kernel_rfl) (by rfl) ?_
      gi_wp2
      refine anyHF_one (i := 25) (by kernel_rfl) rfl (by kernel_rfl) (by rfl) ?_
      gi_wp2
      refine anyHF_done (by kernel_rfl) ?_ _
      refine NoPanic.normal ?_
      clear hS
      gi_wp2_with fail
      exact ⟨.tuple #[.slice A1 Q Q, .slice A2 Q Q], by simp [results, Tryz.results109, go_sem], A1, A2, rfl, hm1', hm2', below_in hBE hBx⟩
  case c1b =>
    have hgl_g24 := hBx.size
    have hB : Below wE.drew.heap.size wE.drew (wE.drew.alloc (.cells #[.slice a1 Q c1, .slice a3 Q c3] 37)) := below_one wE.drew _
    have bE2 : Blk (wE.drew.alloc (.cells #[.slice a1 Q c1, .slice a3 Q c3] 37)) wE.drew.heap.size 37 #[.slice a1 Q c1, .slice a3 Q c3] := Blk.new wE.drew _ _
    obtain ⟨v23, he_v23⟩ : ∃ x, (wE.drew.alloc (.cells #[.slice a1 Q c1, .slice a3 Q c3] 37)) = x := ⟨_, rfl⟩
    obtain ⟨g24, hg_g24⟩ : ∃ x, wE.drew.heap.size = x := ⟨_, rfl⟩
    rw [he_v23] at hB bE2
    rw [hg_g24] at bE2
    replace hBx := below_in hBx hB
    clear hS
    have hS : (fun U : World => U.cell? ⟨gc, co + P, none⟩ = some (.slice a0 Q c0) ∧ U.cell? ⟨gc, co + P + 1, none⟩ = some (.slice a1 Q c1) ∧ U.cell? ⟨gm, mo, none⟩ = some (.slice a2 Q c2) ∧ U.cell? ⟨gm, mo + 1, none⟩ = some (.slice a3 Q c3)) v23 := HSS.out _ hBx
    gi_wp2
    (try rw [hg_g24]); (try rw [he_v23])
    try (refine ⟨hS, ?_⟩)
    clear hB he_v23 hg_g24
    refine anyHF_one (i := 7) (by kernel_rfl) rfl (by kernel_rfl) (by rfl) ?_
    have hgl_g26 := hBx.size
    have hB : Below v23.heap.size v23 (v23.alloc (.cells #[.slice a0 Q c0, .slice a2 Q c2] 37)) := below_one v23 _
    have bE1 : Blk (v23.alloc (.cells #[.slice a0 Q c0, .slice a2 Q c2] 37)) v23.heap.size 37 #[.slice a0 Q c0, .slice a2 Q c2] := Blk.new v23 _ _
    obtain ⟨v25, he_v25⟩ : ∃ x, (v23.alloc (.cells #[.slice a0 Q c0, .slice a2 Q c2] 37)) = x := ⟨_, rfl⟩
    obtain ⟨g26, hg_g26⟩ : ∃ x, v23.heap.size = x := ⟨_, rfl⟩
    rw [he_v25] at hB bE1
    rw [hg_g26] at bE1
    replace bE2 := bE2.below hB bE2.lt
    replace hBx := below_in hBx hB
    clear hS
    have hS : (fun U : World => U.cell? ⟨gc, co + P, none⟩ = some (.slice a0 Q c0) ∧ U.cell? ⟨gc, co + P + 1, none⟩ = some (.slice a1 Q c1) ∧ U.cell? ⟨gm, mo, none⟩ = some (.slice a2 Q c2) ∧ U.cell? ⟨gm, mo + 1, none⟩ = some (.slice a3 Q c3)) v25 := HSS.out _ hBx
    gi_wp2
    (try rw [hg_g26]); (try rw [he_v25])
    try (refine ⟨hS, ?_⟩)
    clear hB he_v25 hg_g26
    refine anyHF_one (i := 8) (by kernel_rfl) rfl (by kernel_rfl) (by rfl) ?_
    gi_wp2_with fail
    refine ⟨trivial, (callsIn_wide.2 (HSx.out g26 _ hBx bE1)).mono ?_⟩
    rintro e v27 ⟨A1, rfl, hm1', hB⟩
    replace bE2 := bE2.below hB bE2.lt
    replace bE1 := bE1.below hB bE1.lt
    replace hBx := below_in hBx hB
    clear hS
    have hS : (fun U : World => U.cell? ⟨gc, co + P, none⟩ = some (.slice a0 Q c0) ∧ U.cell? ⟨gc, co + P + 1, none⟩ = some (.slice a1 Q c1) ∧ U.cell? ⟨gm, mo, none⟩ = some (.slice a2 Q c2) ∧ U.cell? ⟨gm, mo + 1, none⟩ = some (.slice a3 Q c3)) v27 := HSS.out _ hBx
    clear hB
    gi_wp2
    try (refine ⟨hS, ?_⟩)
    refine anyHF_take (i := 9) (d := 38) (v := .slice A1 Q Q) (by kernel_rfl) rfl (by kernel_rfl) (by kernel_rfl) (by kernel_rfl) rfl (fun _ _ _ h => h) ⟨Or.inl ⟨by rfl, fun w hS => by obtain ⟨h0, h1, h2, h3⟩ := hS; go_simp⟩, fun _ => rfl⟩ hS ?_
    simp only [List.setIfInBounds_toArray, List.set_cons_zero, List.set_cons_succ]
    refine anyHF_take (i := 10) (d := 39) (v := .int .i64 0) (by kernel_rfl) rfl (by kernel_rfl) (by kernel_rfl) (by kernel_rfl) rfl (fun _ _ _ h => h) ⟨Or.inl ⟨by rfl, fun w hS => by obtain ⟨h0, h1, h2, h3⟩ := hS; go_simp⟩, fun _ => rfl⟩ hS ?_
    simp only [List.setIfInBounds_toArray, List.set_cons_zero, List.set_cons_succ]
    refine anyHF_one (i := 11) (by kernel_rfl) rfl (by kernel_rfl) (by rfl) ?_
    gi_wp2_with fail
    refine ⟨trivial, (callsIn_wide.2 (sureC _ _)).mono ?_⟩
    rintro e v28 ⟨rfl, rfl⟩
    gi_wp2
    try (refine ⟨hS, ?_⟩)
    refine anyHF_one (i := 20) (by kernel_rfl) rfl (by kernel_rfl) (by rfl) ?_
    gi_wp2_with fail
    refine ⟨trivial, (callsIn_wide.2 (HSy.out g24 _ hBx bE2)).mono ?_⟩
    rintro e v29 ⟨A2, rfl, hm2', hB⟩
    replace bE2 := bE2.below hB bE2.lt
    replace bE1 := bE1.below hB bE1.lt
    replace hm1' := (hm1'.below hB).more hB.size
    replace hBx := below_in hBx hB
    clear hS
    have hS : (fun U : World => U.cell? ⟨gc, co + P, none⟩ = some (.slice a0 Q c0) ∧ U.cell? ⟨gc, co + P + 1, none⟩ = some (.slice a1 Q c1) ∧ U.cell? ⟨gm, mo, none⟩ = some (.slice a2 Q c2) ∧ U.cell? ⟨gm, mo + 1, none⟩ = some (.slice a3 Q c3)) v29 := HSS.out _ hBx
    clear hB
    gi_wp2
    try (refine ⟨hS, ?_⟩)
    refine anyHF_take (i := 21) (d := 50) (v := .slice A2 Q Q) (by kernel_rfl) rfl (by kernel_rfl) (by kernel_rfl) (by kernel_rfl) rfl (fun _ _ _ h => h) ⟨Or.inl ⟨by rfl, fun w hS => by obtain ⟨h0, h1, h2, h3⟩ := hS; go_simp⟩, fun _ => rfl⟩ hS ?_
    simp only [List.setIfInBounds_toArray, List.set_cons_zero, List.set_cons_succ]
    refine anyHF_take (i := 22) (d := 51) (v := .int .i64 0) (by kernel_rfl) rfl (by kernel_rfl) (by kernel_rfl) (by kernel_rfl) rfl (fun _ _ _ h => h) ⟨Or.inl ⟨by rfl, fun w hS => by obtain ⟨h0, h1, h2, h3⟩ := hS; go_simp⟩, fun _ => rfl⟩ hS ?_
    simp only [List.setIfInBounds_toArray, List.set_cons_zero, List.set_cons_succ]
    refine anyHF_one (i := 23) (by kernel_rfl) rfl (by kernel_rfl) (by rfl) ?_
    gi_wp2_with fail
    refine ⟨trivial, (callsIn_wide.2 (sureC _ _)).mono ?_⟩
    rintro e v30 ⟨rfl, rfl⟩
    gi_wp2
    try (refine ⟨hS, ?_⟩)
    refine anyHF_one (i := 24) (by kernel_rfl) rfl (by kernel_rfl) (by rfl) ?_
    gi_wp2
    refine anyHF_one (i := 25) (by kernel_rfl) rfl (by kernel_rfl) (by rfl) ?_
    gi_wp2
    refine anyHF_done (by kernel_rfl) ?_ _
    refine NoPanic.normal ?_
    clear hS
    gi_wp2_with fail
    exact ⟨.tuple #[.slice A1 Q Q, .slice A2 Q Q], by simp [results, Tryz.results109, go_sem], A1, A2, rfl, hm1', hm2', below_in hBE hBx⟩
end Go.Proofs.YtfihlelhpmjpaaaGreatDoor.Ch

