/- chain: Recover. chain: Recover, where it tells none. The laws of chain: num, there, the chapter's rows. chain: the document's order. chain: what the law of orders keeps. An array of two integers that came in. -/
import Derived.Test.YthmkgdkfehgpkaaGreatDoorCOG18
import Derived.Test.YthmkgdkfehgpkaaGreatDoorCOG8
import Derived.Test.YthmkgdkfehgpkaaGreatDoorCOSA
import Derived.Test.YthmkgdkfehgpkaaGreatDoorCOG4
namespace Go.Proofs.YthmkgdkfehgpkaaGreatDoor.T
open Go.RowKit Go.Shelf Go.Maps Go.Proofs.YthmkgdkfehgpkaaGreatDoor.C Go.Proofs.YthmkgdkfehgpkaaGreatDoor.E Go.Proofs.YthmkgdkfehgpkaaGreatDoor.Ch
set_option linter.unusedSimpArgs false
set_option linter.unusedVariables false
attribute [local go_sem] Oper.semAt_some

theorem num_off {W : World} {g b o : Nat} {t : TypeId} {y : Int} {u : Value} (hb : Blk W g t #[.int .i64 y]) (h : W.cell? ⟨b, o, none⟩ = some u) (hu : u ≠ .int .i64 y) : b ≠ g := fun e => by
  subst e
  rw [hb.cell o] at h
  rcases o with _ | o
  · simp at h; exact hu h.symm
  · simp at h
theorem bytes_num {B : Nat} {W : World} {g : Nat} {t : TypeId} {y : Int} {v x : Value} {l : List UInt8} (h : Bytes B W v l) (hb : Blk W g t #[.int .i64 y]) : Bytes B (W.setCell ⟨g, 0, none⟩ x) v l := by
  obtain ⟨A, cap, e, hc, hA⟩ := h
  refine ⟨A, cap, e, hc, fun hp => ?_⟩
  obtain ⟨b, off, e2, hb1, hcell⟩ := hA hp
  have hne := num_off hb (hcell 0 hp) (by intro e; injection e with e; cases e)
  exact ⟨b, off, e2, hb1, fun j hj => (World.cell?_of_block (Below.heap_setCell W ⟨g, 0, none⟩ x b hne)).trans (hcell j hj)⟩
theorem many_num {B : Nat} {W : World} {g : Nat} {t : TypeId} {y : Int} {v x : Value} {ls : List (List UInt8)} (h : Many B W v ls) (hb : Blk W g t #[.int .i64 y]) : Many B (W.setCell ⟨g, 0, none⟩ x) v ls := by
  obtain ⟨A, cap, e, hc, hA⟩ := h
  refine ⟨A, cap, e, hc, fun hp => ?_⟩
  obtain ⟨b, off, e2, hb1, hcell⟩ := hA hp
  obtain ⟨u0, h0, m0⟩ := hcell 0 hp
  have hne := num_off hb h0 (by obtain ⟨_, _, e, _⟩ := m0; rw [e]; intro e; cases e)
  refine ⟨b, off, e2, hb1, fun j hj => ?_⟩
  obtain ⟨u, h1, h2⟩ := hcell j hj
  exact ⟨u, (World.cell?_of_block (Below.heap_setCell W ⟨g, 0, none⟩ x b hne)).trans h1, bytes_num h2 hb⟩
theorem cols_num {B : Nat} {W : World} {g : Nat} {t : TypeId} {y : Int} {v x : Value} {css : List (List (List UInt8))} (h : Cols B W v css) (hb : Blk W g t #[.int .i64 y]) : Cols B (W.setCell ⟨g, 0, none⟩ x) v css := by
  obtain ⟨A, cap, e, hc, hA⟩ := h
  refine ⟨A, cap, e, hc, fun hp => ?_⟩
  obtain ⟨b, off, e2, hb1, hcell⟩ := hA hp
  obtain ⟨u0, h0, m0⟩ := hcell 0 hp
  have hne := num_off hb h0 (by obtain ⟨_, _, e, _⟩ := m0; rw [e]; intro e; cases e)
  refine ⟨b, off, e2, hb1, fun j hj => ?_⟩
  obtain ⟨u, h1, h2⟩ := hcell j hj
  exact ⟨u, (World.cell?_of_block (Below.heap_setCell W ⟨g, 0, none⟩ x b hne)).trans h1, many_num h2 hb⟩
theorem enter_Recover1 : ∀ args W, (callFunc 39 args).run Tryz.prog W = .ok (.enter 39 args) W := enters_of Tryz.func39 (by kernel_rfl) rfl
theorem lost_good {P Q n : Nat} (d : Rg.Dims P Q n) {L : List Int} {css : List (List (List UInt8))} (hgood : ∀ i, i < css.length → (i : Int) ∉ L → GoodC Q n (css[i]?.getD [])) : ∀ c, c < css.length → GoodC Q n ((lostC L Q n css)[c]?.getD []) := fun c hc => by
  rw [lostC_at L Q n css hc]
  split
  · exact noC_good d.h1 d.h64
  · rename_i h
    exact hgood c hc h
set_option maxRecDepth 100000 in
set_option maxHeartbeats 8000000 in
theorem recover_yes {B P Q n : Nat} (d : Rg.Dims P Q n) (a b : Int) (ha : 0 ≤ a) (hab : a < b) (hb : b < (P : Int)) (css : List (List (List UInt8))) (N : Nat) (hcl : css.length = N) (hN : N = P + 2) (hgood : ∀ i, i < css.length → (i : Int) ∉ [a, b] → GoodC Q n (css[i]?.getD [])) (vA : Option Addr) (vc : Nat) (A Bc : List (List UInt8)) (hsol : Solves P Q n (rsF P Q (lostC [a, b] Q n css)) (dsF P Q (lostC [a, b] Q n css)) A Bc a b) (w : World) (hL : Laid w) (hB : B ≤ w.heap.size) (hC : Cols B w (.slice vA N vc) css) :
    Calls Tryz.prog 17 #[.int .i64 (P : Int), .slice vA N vc, .int .i64 a, .int .i64 b] w fun e w' => ∃ u, e = .returned (.tuple #[u, .int .i64 0]) ∧ Cols w'.heap.size w' u [A, Bc] ∧ Below w.heap.size w w' := by
  have hQ := d.hQ
  have hpb := prm_bounds d.hp
  obtain ⟨W2, hW2⟩ : ∃ x, (((w.alloc (.cells #[.int .i64 (P : Int)] 3)).alloc (.cells #[.slice vA N vc] 39)).alloc (.cells #[.int .i64 a] 3)).alloc (.cells #[.int .i64 b] 3) = x := ⟨_, rfl⟩
  have b0 : Blk W2 (w.heap.size) 3 #[.int .i64 (P : Int)] := by rw [← hW2]; exact (((Blk.new w _ _).alloc _).alloc _).alloc _
  have b1 : Blk W2 (w.heap.size + 1) 39 #[.slice vA N vc] := by rw [← hW2]; exact ((Blk.second w _ _ _).alloc _).alloc _
  have b2 : Blk W2 (w.heap.size + 1 + 1) 3 #[.int .i64 a] := by rw [← hW2]; exact (Rg.Blk.at_ (Blk.new _ _ _) (by simp)).alloc _
  have b3 : Blk W2 (w.heap.size + 1 + 1 + 1) 3 #[.int .i64 b] := by rw [← hW2]; exact Rg.Blk.at_ (Blk.new _ _ _) (by simp)
  have hBW : Below w.heap.size w W2 := by rw [← hW2]; exact (((below_two w _ _)).alloc (by simp; omega) _).alloc (by simp; omega) _
  obtain ⟨W2b, hW2b⟩ : ∃ x, w.heap.size = x := ⟨_, rfl⟩
  obtain ⟨W2c, hW2c⟩ : ∃ x, w.heap.size + 1 = x := ⟨_, rfl⟩
  obtain ⟨W2d, hW2d⟩ : ∃ x, w.heap.size + 1 + 1 = x := ⟨_, rfl⟩
  obtain ⟨W2e, hW2e⟩ : ∃ x, w.heap.size + 1 + 1 + 1 = x := ⟨_, rfl⟩
  have HA := Lib.hid (Go.Proofs.YthmkgdkfehgpkaaGreatDoor.Ch.ans_S_yes 39 #[.pointer (some ⟨w.heap.size, 0, none⟩), .pointer (some ⟨w.heap.size + 1, 0, none⟩), .pointer (some ⟨w.heap.size + 1 + 1, 0, none⟩), .pointer (some ⟨w.heap.size + 1 + 1 + 1, 0, none⟩)] W2 (fun u W => ∃ x y z, u = .slice x y z ∧ Cols W.heap.size W u [A, Bc]) (enter_Recover1 _) (fun U hU bU => by
    have hBU := below_in hBW hU
    have hltU := bU.lt
    have HAS := Lib.hid (fun (V : World) (g : Nat) (hV : Below U.heap.size U V) (bE : Blk V g 3 #[.int .i64 a, .int .i64 b]) => asked_yes (P : Int) d.hp vA N vc (by omega) g [a, b] (by simp) (good_two ha hab hb) V (hL.next (below_in hBU hV)) bE.lt (two_cells bE))
    have hnP : ((P : Nat) : Int) ∉ [a, b] := by simp; omega
    have hk0 : 0 < (kept ([a, b] ++ []) css css.length).length := kept_pos (i := P) (by omega) (by rw [List.append_nil]; exact hnP)
    have hrg : ∀ x ∈ [a, b] ++ [], 0 ≤ x ∧ x < (css.length : Int) := by intro x hx; simp at hx; rcases hx with rfl | rfl <;> omega
    have HOF := Lib.hid (fun (V : World) (g : Nat) (hV : Below U.heap.size U V) (bE : Blk V g 3 #[.int .i64 a, .int .i64 b]) => (by
      have h := of_yes (B := B) (P : Int) [a, b] [] ⟨by simp, by simp⟩ (by simp) g css (by omega) (by omega) (.slice vA N vc) (.slice none 0 0) V (hL.next (below_in hBU hV)) (Nat.le_trans hB (below_in hBU hV).size) bE.lt (two_cells bE) (.inl ⟨rfl, rfl⟩) (hC.below ((below_in hBU hV).mono hB)) P Q n d rfl hrg hk0 (fun i hi hm => hgood i hi (by rw [List.append_nil] at hm; exact hm))
      rw [List.append_nil, hcl] at h
      exact h : Calls Tryz.prog 41 #[.agg #[.int .i64 (P : Int), .slice (some ⟨g, 0, none⟩) 2 2], .slice vA N vc, .slice none 0 0] V fun e w' => ∃ cA cc nA nc, e = .returned (.agg #[.int .i64 (P : Int), .slice (some ⟨g, 0, none⟩) 2 2, .slice cA N cc, .slice nA n nc]) ∧ Cols w'.heap.size w' (.slice cA N cc) (lostC [a, b] Q n css) ∧ Bytes w'.heap.size w' (.slice nA n nc) (List.replicate n 0) ∧ Below V.heap.size V w'))
    have HFM : Hid (∀ (V : World) (cA : Option Addr) (N2 cc : Nat), Cols V.heap.size V (.slice cA N2 cc) (lostC [a, b] Q n css) → ∃ gc co, cA = some ⟨gc, co, none⟩) := fun V cA N2 cc h => by
      obtain ⟨gc, co, _, hve, _⟩ := h.at_ (by rw [lostC_len]; omega)
      injection hve with e1 _ _
      exact ⟨gc, co, e1⟩
    have HRE := Lib.hid (fun (V : World) (g gc co cc : Nat) (nA : Option Addr) (nc : Nat) (hV : Below U.heap.size U V) (bE : Blk V g 3 #[.int .i64 a, .int .i64 b]) (h1 : Cols V.heap.size V (.slice (some ⟨gc, co, none⟩) N cc) (lostC [a, b] Q n css)) (h2 : Bytes V.heap.size V (.slice nA n nc) (List.replicate n 0)) => recovered_any d a b ha hab hb g gc co N cc nA nc (lostC [a, b] Q n css) hN (by rw [lostC_len]; exact hcl) (fun c hc => lost_good d hgood c (by omega)) A Bc hsol V (hL.next (below_in hBU hV)) (Nat.le_refl _) bE.lt (bE.cell 0) (bE.cell 1) h1 h2)
    have HSS : Hid (∀ V, Below U.heap.size U V → (fun U : World => U.cell? ⟨W2b, 0, none⟩ = some (.int .i64 (P : Int)) ∧ U.cell? ⟨W2c, 0, none⟩ = some (.slice vA N vc) ∧ U.cell? ⟨W2d, 0, none⟩ = some (.int .i64 a) ∧ U.cell? ⟨W2e, 0, none⟩ = some (.int .i64 b)) V) := by
      rw [← hW2b, ← hW2c, ← hW2d, ← hW2e]
      exact fun V hV => ⟨((b0.below hU b0.lt).below hV (Nat.lt_of_lt_of_le b0.lt hU.size)).one, ((b1.below hU b1.lt).below hV (Nat.lt_of_lt_of_le b1.lt hU.size)).one, ((b2.below hU b2.lt).below hV (Nat.lt_of_lt_of_le b2.lt hU.size)).one, ((b3.below hU b3.lt).below hV (Nat.lt_of_lt_of_le b3.lt hU.size)).one⟩
    have hBx := (Below.refl U.heap.size U).drew
    rw [hW2e, hW2d, hW2c, hW2b]
    clear b0 b1 b2 b3 hW2 hL hW2e hW2d hW2c hW2b bU ha hab hb hcl hN hgood hsol hC hB hk0 hrg hnP d hQ hpb
    refine (callsIn_wide (n := 9)).1 ?_
    refine callsIn_of_wp_marks Tryz.func39 rfl trivial ?_ rfl
    simp only [Tryz.ntmps39, List.size_toArray, List.length_cons, List.length_nil, Nat.reduceAdd, Nat.reduceSub, Array.replicate_succ, Array.replicate_zero, List.push_toArray, List.append_toArray, List.nil_append, List.cons_append]
    gi_wp2_with fail
    have hS : (fun U : World => U.cell? ⟨W2b, 0, none⟩ = some (.int .i64 (P : Int)) ∧ U.cell? ⟨W2c, 0, none⟩ = some (.slice vA N vc) ∧ U.cell? ⟨W2d, 0, none⟩ = some (.int .i64 a) ∧ U.cell? ⟨W2e, 0, none⟩ = some (.int .i64 b)) U.drew := HSS.out _ hBx
    refine wpIn_mono (region_HF (Q := NoPanic _) (S := (fun U : World => U.cell? ⟨W2b, 0, none⟩ = some (.int .i64 (P : Int)) ∧ U.cell? ⟨W2c, 0, none⟩ = some (.slice vA N vc) ∧ U.cell? ⟨W2d, 0, none⟩ = some (.int .i64 a) ∧ U.cell? ⟨W2e, 0, none⟩ = some (.int .i64 b))) (by kernel_rfl) ?_) NoPanic.imp
    refine anyHF_take (i := 0) (d := 5) (v := .int .i64 (P : Int)) (by kernel_rfl) rfl (by kernel_rfl) (by kernel_rfl) (by kernel_rfl) rfl (fun _ _ _ h => h) ⟨Or.inl ⟨by rfl, fun w hS => by obtain ⟨h0, h1, h2, h3⟩ := hS; go_simp⟩, fun _ => rfl⟩ hS ?_
    simp only [List.setIfInBounds_toArray, List.set_cons_zero, List.set_cons_succ]
    refine anyHF_take (i := 1) (d := 6) (v := .slice vA N vc) (by kernel_rfl) rfl (by kernel_rfl) (by kernel_rfl) (by kernel_rfl) rfl (fun _ _ _ h => h) ⟨Or.inl ⟨by rfl, fun w hS => by obtain ⟨h0, h1, h2, h3⟩ := hS; go_simp⟩, fun _ => rfl⟩ hS ?_
    simp only [List.setIfInBounds_toArray, List.set_cons_zero, List.set_cons_succ]
    refine anyHF_take (i := 2) (d := 7) (v := .int .i64 a) (by kernel_rfl) rfl (by kernel_rfl) (by kernel_rfl) (by kernel_rfl) rfl (fun _ _ _ h => h) ⟨Or.inl ⟨by rfl, fun w hS => by obtain ⟨h0, h1, h2, h3⟩ := hS; go_simp⟩, fun _ => rfl⟩ hS ?_
    simp only [List.setIfInBounds_toArray, List.set_cons_zero, List.set_cons_succ]
    refine anyHF_take (i := 3) (d := 8) (v := .int .i64 b) (by kernel_rfl) rfl (by kernel_rfl) (by kernel_rfl) (by kernel_rfl) rfl (fun _ _ _ h => h) ⟨Or.inl ⟨by rfl, fun w hS => by obtain ⟨h0, h1, h2, h3⟩ := hS; go_simp⟩, fun _ => rfl⟩ hS ?_
    simp only [List.setIfInBounds_toArray, List.set_cons_zero, List.set_cons_succ]
    refine anyHF_take (i := 6) (d := 11) (v := .slice vA N vc) (by kernel_rfl) rfl (by kernel_rfl) (by kernel_rfl) (by kernel_rfl) rfl (fun _ _ _ h => h) ⟨Or.inl ⟨by rfl, fun w hS => by obtain ⟨h0, h1, h2, h3⟩ := hS; go_simp⟩, fun _ => rfl⟩ hS ?_
    simp only [List.setIfInBounds_toArray, List.set_cons_zero, List.set_cons_succ]
    refine anyHF_one (i := 4) (by kernel_rfl) rfl (by kernel_rfl) (by rfl) ?_
    have hgl_g2 := hBx.size
    have hB : Below U.drew.heap.size U.drew (U.drew.alloc (.cells #[.int .i64 a, .int .i64 b] 3)) := below_one U.drew _
    have bE : Blk (U.drew.alloc (.cells #[.int .i64 a, .int .i64 b] 3)) U.drew.heap.size 3 #[.int .i64 a, .int .i64 b] := Blk.new U.drew _ _
    obtain ⟨v1, he_v1⟩ : ∃ x, (U.drew.alloc (.cells #[.int .i64 a, .int .i64 b] 3)) = x := ⟨_, rfl⟩
    obtain ⟨g2, hg_g2⟩ : ∃ x, U.drew.heap.size = x := ⟨_, rfl⟩
    rw [he_v1] at hB bE
    rw [hg_g2] at bE
    replace hBx := below_in hBx hB
    clear hS
    have hS : (fun U : World => U.cell? ⟨W2b, 0, none⟩ = some (.int .i64 (P : Int)) ∧ U.cell? ⟨W2c, 0, none⟩ = some (.slice vA N vc) ∧ U.cell? ⟨W2d, 0, none⟩ = some (.int .i64 a) ∧ U.cell? ⟨W2e, 0, none⟩ = some (.int .i64 b)) v1 := HSS.out _ hBx
    gi_wp2
    (try rw [hg_g2]); (try rw [he_v1])
    try (refine ⟨hS, ?_⟩)
    clear hB he_v1 hg_g2
    refine anyHF_one (i := 5) (by kernel_rfl) rfl (by kernel_rfl) (by rfl) ?_
    gi_wp2_with fail
    refine ⟨trivial, (callsIn_wide.2 (HAS.out _ g2 hBx bE)).mono ?_⟩
    rintro e v3 ⟨rfl, hB⟩
    replace bE := bE.below hB bE.lt
    replace hBx := below_in hBx hB
    clear hS
    have hS : (fun U : World => U.cell? ⟨W2b, 0, none⟩ = some (.int .i64 (P : Int)) ∧ U.cell? ⟨W2c, 0, none⟩ = some (.slice vA N vc) ∧ U.cell? ⟨W2d, 0, none⟩ = some (.int .i64 a) ∧ U.cell? ⟨W2e, 0, none⟩ = some (.int .i64 b)) v3 := HSS.out _ hBx
    clear hB
    gi_wp2
    try (refine ⟨hS, ?_⟩)
    refine anyHF_one (i := 7) (by kernel_rfl) rfl (by kernel_rfl) (by rfl) ?_
    gi_wp2_with fail
    refine ⟨trivial, (callsIn_wide.2 (HOF.out _ g2 hBx bE)).mono ?_⟩
    rintro e v4 ⟨cA, cc, nA, nc, rfl, hCl, hNo, hB⟩
    obtain ⟨gc, co, rfl⟩ := HFM.out _ _ _ _ hCl
    have HCL := Lib.hid (And.intro hCl hNo)
    clear hCl hNo
    replace bE := bE.below hB bE.lt
    replace hBx := below_in hBx hB
    clear hS
    have hS : (fun U : World => U.cell? ⟨W2b, 0, none⟩ = some (.int .i64 (P : Int)) ∧ U.cell? ⟨W2c, 0, none⟩ = some (.slice vA N vc) ∧ U.cell? ⟨W2d, 0, none⟩ = some (.int .i64 a) ∧ U.cell? ⟨W2e, 0, none⟩ = some (.int .i64 b)) v4 := HSS.out _ hBx
    clear hB
    gi_wp2
    try (refine ⟨hS, ?_⟩)
    refine anyHF_one (i := 8) (by kernel_rfl) rfl (by kernel_rfl) (by rfl) ?_
    gi_wp2_with fail
    refine ⟨trivial, (callsIn_wide.2 (HRE.out _ g2 gc co cc nA nc hBx bE HCL.out.1 HCL.out.2)).mono ?_⟩
    rintro e v5 ⟨gR, rfl, hRES, hB⟩
    replace bE := bE.below hB bE.lt
    replace hBx := below_in hBx hB
    clear hS
    have hS : (fun U : World => U.cell? ⟨W2b, 0, none⟩ = some (.int .i64 (P : Int)) ∧ U.cell? ⟨W2c, 0, none⟩ = some (.slice vA N vc) ∧ U.cell? ⟨W2d, 0, none⟩ = some (.int .i64 a) ∧ U.cell? ⟨W2e, 0, none⟩ = some (.int .i64 b)) v5 := HSS.out _ hBx
    clear hB
    gi_wp2
    try (refine ⟨hS, ?_⟩)
    refine anyHF_one (i := 9) (by kernel_rfl) rfl (by kernel_rfl) (by rfl) ?_
    gi_wp2
    refine anyHF_done (by kernel_rfl) ?_ _
    refine NoPanic.normal ?_
    clear hS
    gi_wp2_with fail
    exact ⟨_, by simp [results, Tryz.results39, go_sem], _, rfl, ⟨_, _, _, rfl, hRES⟩, hBx⟩))
  clear b0 b1 b2 b3 hL hW2e hW2d hW2c hW2b ha hab hb hcl hN hgood hsol hC hB d hQ hpb
  go_enter Tryz.func17, Tryz.ntmps17
  have hmf : ∀ (fn : Fn) (first cap : Array Value) (w : World), (Instr.makeFunc fn first cap).run Tryz.prog w = .ok (.func fn first cap) w := fun _ _ _ _ => rfl
  go_wp2_with (go_at_call 38; refine HA.out.mono ?_; rintro e w1 ⟨u, W, rfl, ⟨uA, un, uc, rfl, hu⟩, bE, rfl, hB1⟩)
  go_ret2
  exact ⟨_, rfl, (cols_num hu bE).more (by simp), below_in hBW hB1⟩
end Go.Proofs.YthmkgdkfehgpkaaGreatDoor.T

namespace Go.Proofs.YthmkgdkfehgpkaaGreatDoor.T
open Go.RowKit Go.Shelf Go.Maps Go.Proofs.YthmkgdkfehgpkaaGreatDoor.C Go.Proofs.YthmkgdkfehgpkaaGreatDoor.E Go.Proofs.YthmkgdkfehgpkaaGreatDoor.Ch
set_option linter.unusedSimpArgs false
set_option linter.unusedVariables false
attribute [local go_sem] Oper.semAt_some

set_option maxHeartbeats 400000 in
theorem num11_any (n : Int) (w : World) : Calls Tryz.prog 12 #[.int .i64 n] w fun e w' => e = .returned (.int .i64 n) ∧ w = w' := by
  go_enter Tryz.func12, Tryz.ntmps12
  go_wp2
  go_ret
  exact ⟨rfl, rfl⟩
set_option maxHeartbeats 1000000 in
theorem there11_any (p a b : Int) (w : World) : Calls Tryz.prog 10 #[.int .i64 p, .int .i64 a, .int .i64 b] w fun e w' => e = .returned (.bool (decide (0 ≤ a ∧ a < b ∧ b < p))) ∧ w = w' := by
  by_cases h1 : 0 ≤ a
  · have d1 : decide (0 ≤ a) = true := decide_eq_true h1
    by_cases h2 : a < b
    · have d2 : decide (a < b) = true := decide_eq_true h2
      have d3 : decide (0 ≤ a ∧ a < b ∧ b < p) = decide (b < p) := by simp [h1, h2]
      rw [d3]
      go_enter Tryz.func10, Tryz.ntmps10
      go_wp2
      go_ret
      exact ⟨rfl, rfl⟩
    · have d2 : decide (a < b) = false := decide_eq_false h2
      have d3 : decide (0 ≤ a ∧ a < b ∧ b < p) = false := decide_eq_false (fun h => h2 h.2.1)
      rw [d3]
      go_enter Tryz.func10, Tryz.ntmps10
      go_wp2
      go_ret
      exact ⟨rfl, rfl⟩
  · have d1 : decide (0 ≤ a) = false := decide_eq_false h1
    have d3 : decide (0 ≤ a ∧ a < b ∧ b < p) = false := decide_eq_false (fun h => h1 h.1)
    rw [d3]
    go_enter Tryz.func10, Tryz.ntmps10
    go_wp2
    go_ret
    exact ⟨rfl, rfl⟩
theorem solves_cols {P Q n : Nat} (d : Rg.Dims P Q n) {R D A B : List (List UInt8)} {a b : Int} (gA : GoodC Q n A) (gB : GoodC Q n B) (hR : R = Rg.sumC Q [A, B]) (hD : D = Rg.sumC Q [Rg.turnC P Q n A a, Rg.turnC P Q n B b]) : Solves P Q n R D A B a b :=
  ⟨gA, gB, fun j r => by rw [hR]; exact bt_sum2 d gA gB j r, fun j r => by
    rw [hD, bt_sum2 d (Rg.turn_good d.h1 d.h64 gA a) (Rg.turn_good d.h1 d.h64 gB b), Rg.bt_turn d.hQ gA, Rg.bt_turn d.hQ gB]⟩
def cssW : List (List (List UInt8)) := [[], [[9]], [[16], [32]], [[21], [42]], [[57], [30]]]
theorem dimsW : Rg.Dims 3 2 1 := ⟨rfl, by decide, by decide, by decide⟩
theorem good_W (x y : UInt8) : GoodC 2 1 [[x], [y]] := ⟨rfl, fun k hk => (by
  have hk2 : k = 0 ∨ k = 1 := by omega
  rcases hk2 with rfl | rfl <;> exact ⟨⟨by show 1 ≤ 1; omega, by show 1 ≤ 64; omega⟩, rfl⟩)⟩
theorem solves_W : Solves 3 2 1 (rsF 3 2 (lostC [0, 1] 2 1 cssW)) (dsF 3 2 (lostC [0, 1] 2 1 cssW)) [[1], [2]] [[4], [8]] 0 1 :=
  solves_cols dimsW (good_W 1 2) (good_W 4 8) (by decide +kernel) (by decide +kernel)
theorem goods_W : ∀ i, i < cssW.length → (i : Int) ∉ [(0 : Int), 1] → GoodC 2 1 (cssW[i]?.getD []) := by
  intro i hi hm
  have h5 : i < 5 := hi
  rcases i with _ | _ | _ | _ | _ | i
  · exact absurd (by simp) hm
  · exact absurd (by simp) hm
  · exact good_W 16 32
  · exact good_W 21 42
  · exact good_W 57 30
  · omega
theorem order_W : (chn 0 1 (Rg.rowsF 3 (walkN 3 (3 - 1) (0 - 1)))).map (fun x : Int × Int × Int => (x.2.1, x.2.2)) = [(1, 1), (0, 1), (1, 0), (0, 0)] := by decide +kernel
/-- The cells of the chapter's rows. -/
def osW (w : World) : List Obj := [.cells #[.int .u8 9] 5, .cells #[.slice (some ⟨w.heap.size + 0, 0, none⟩) 1 1] 63,
  .cells #[.int .u8 16] 5, .cells #[.int .u8 32] 5, .cells #[.slice (some ⟨w.heap.size + 2, 0, none⟩) 1 1, .slice (some ⟨w.heap.size + 3, 0, none⟩) 1 1] 63,
  .cells #[.int .u8 21] 5, .cells #[.int .u8 42] 5, .cells #[.slice (some ⟨w.heap.size + 5, 0, none⟩) 1 1, .slice (some ⟨w.heap.size + 6, 0, none⟩) 1 1] 63,
  .cells #[.int .u8 57] 5, .cells #[.int .u8 30] 5, .cells #[.slice (some ⟨w.heap.size + 8, 0, none⟩) 1 1, .slice (some ⟨w.heap.size + 9, 0, none⟩) 1 1] 63,
  .cells #[.slice none 0 0, .slice (some ⟨w.heap.size + 1, 0, none⟩) 1 1, .slice (some ⟨w.heap.size + 4, 0, none⟩) 2 2, .slice (some ⟨w.heap.size + 7, 0, none⟩) 2 2, .slice (some ⟨w.heap.size + 10, 0, none⟩) 2 2] 49]
theorem byte_W {W : World} {g : Nat} {x : UInt8} (h : Blk W g 5 #[.int .u8 (x.toNat : Int)]) : Bytes W.heap.size W (.slice (some ⟨g, 0, none⟩) 1 1) [x] :=
  ⟨_, 1, rfl, Nat.le_refl _, fun _ => ⟨g, 0, rfl, h.lt, fun j hj => by obtain rfl : j = 0 := (by have : j < 1 := hj; omega); exact h.cell _⟩⟩
theorem many_W {W : World} {g ga gb : Nat} {x y : UInt8} (h : Blk W g 63 #[.slice (some ⟨ga, 0, none⟩) 1 1, .slice (some ⟨gb, 0, none⟩) 1 1]) (ha : Blk W ga 5 #[.int .u8 (x.toNat : Int)]) (hb : Blk W gb 5 #[.int .u8 (y.toNat : Int)]) : Many W.heap.size W (.slice (some ⟨g, 0, none⟩) 2 2) [[x], [y]] := many2 h (byte_W ha) (byte_W hb) h.lt
theorem cols_W (w : World) : Cols (allocs w (osW w)).heap.size (allocs w (osW w)) (.slice (some ⟨w.heap.size + 11, 0, none⟩) 5 5) cssW := by
  have k : ∀ (k : Nat) (t : TypeId) (cs : Array Value), (osW w)[k]? = some (.cells cs t) → Blk (allocs w (osW w)) (w.heap.size + k) t cs := fun k t cs h => allocs_blk w (osW w) k t cs h
  refine ⟨_, 5, rfl, Nat.le_refl _, fun _ => ⟨_, 0, rfl, (k 11 _ _ rfl).lt, fun j hj => ?_⟩⟩
  have h5 : j < 5 := hj
  rcases j with _ | _ | _ | _ | _ | j
  · exact ⟨_, (k 11 _ _ rfl).cell 0, Many.nil_ _ _ _ _⟩
  · refine ⟨_, (k 11 _ _ rfl).cell 1, ⟨_, 1, rfl, Nat.le_refl _, fun _ => ⟨_, 0, rfl, (k 1 _ _ rfl).lt, fun i hi => ?_⟩⟩⟩
    obtain rfl : i = 0 := (by have : i < 1 := hi; omega)
    exact ⟨_, (k 1 _ _ rfl).cell 0, byte_W (x := 9) (k 0 _ _ rfl)⟩
  · exact ⟨_, (k 11 _ _ rfl).cell 2, many_W (x := 16) (y := 32) (k 4 _ _ rfl) (k 2 _ _ rfl) (k 3 _ _ rfl)⟩
  · exact ⟨_, (k 11 _ _ rfl).cell 3, many_W (x := 21) (y := 42) (k 7 _ _ rfl) (k 5 _ _ rfl) (k 6 _ _ rfl)⟩
  · exact ⟨_, (k 11 _ _ rfl).cell 4, many_W (x := 57) (y := 30) (k 10 _ _ rfl) (k 8 _ _ rfl) (k 9 _ _ rfl)⟩
  · omega
theorem readA_W {W : World} {g : Nat} (h : Blk W g 36 #[.int .i64 1, .int .i64 1, .int .i64 0, .int .i64 1, .int .i64 1, .int .i64 0, .int .i64 0, .int .i64 0]) : ReadA W (.slice (some ⟨g, 0, none⟩) 4 4) [(1, 1), (0, 1), (1, 0), (0, 0)] :=
  ⟨_, 4, rfl, fun j hj => ⟨g, rfl, h.lt, by
    have h4 : j < 4 := hj
    rcases j with _ | _ | _ | _ | j
    · exact ⟨h.cell 0, h.cell 1⟩
    · exact ⟨h.cell 2, h.cell 3⟩
    · exact ⟨h.cell 4, h.cell 5⟩
    · exact ⟨h.cell 6, h.cell 7⟩
    · omega⟩⟩
def osV (w : World) : List Obj := [.cells #[.int .u8 1] 5, .cells #[.int .u8 2] 5, .cells #[.slice (some ⟨w.heap.size + 0, 0, none⟩) 1 1, .slice (some ⟨w.heap.size + 1, 0, none⟩) 1 1] 63,
  .cells #[.int .u8 4] 5, .cells #[.int .u8 8] 5, .cells #[.slice (some ⟨w.heap.size + 3, 0, none⟩) 1 1, .slice (some ⟨w.heap.size + 4, 0, none⟩) 1 1] 63,
  .cells #[.slice (some ⟨w.heap.size + 2, 0, none⟩) 2 2, .slice (some ⟨w.heap.size + 5, 0, none⟩) 2 2] 49]
theorem cols_V (w : World) : Cols (allocs w (osV w)).heap.size (allocs w (osV w)) (.slice (some ⟨w.heap.size + 6, 0, none⟩) 2 2) [[[1], [2]], [[4], [8]]] := by
  have k : ∀ (k : Nat) (t : TypeId) (cs : Array Value), (osV w)[k]? = some (.cells cs t) → Blk (allocs w (osV w)) (w.heap.size + k) t cs := fun k t cs h => allocs_blk w (osV w) k t cs h
  exact Rg.cols_two (k 6 _ _ rfl) (many_W (x := 1) (y := 2) (k 2 _ _ rfl) (k 0 _ _ rfl) (k 1 _ _ rfl)) (many_W (x := 4) (y := 8) (k 5 _ _ rfl) (k 3 _ _ rfl) (k 4 _ _ rfl)) (k 6 _ _ rfl).lt
theorem small_V : ∀ j : Nat, (([[[(1 : UInt8)], [2]], [[4], [8]]] : List (List (List UInt8)))[j]?.getD []).length ≤ 1000 := by
  intro j
  rcases j with _ | _ | j
  · show 2 ≤ 1000; omega
  · show 2 ≤ 1000; omega
  · simp
set_option maxRecDepth 100000 in
set_option maxHeartbeats 4000000 in
theorem works11_any (w : World) (hL : Laid w) : Calls Tryz.prog 15 #[] w fun e w' => e = .returned (.bool true) ∧ Below w.heap.size w w' := by
  have HO1 := Lib.hid (by have h := order_yes 3 0 1 (by decide) (by decide) (by decide) (by decide) w hL; rw [order_W] at h; exact h)
  have HO2 := Lib.hid (fun (U : World) (hU : Below w.heap.size w U) => order_no4 3 1 1 (by decide) (by decide) U (hL.next hU))
  have HRE := Lib.hid (fun (U : World) (hU : Below w.heap.size w U) (v : Value) (hv : v = .slice (some ⟨U.heap.size + 11, 0, none⟩) 5 5) => (by
    have h := recover_yes (B := (allocs U (osW U)).heap.size) dimsW 0 1 (by decide) (by decide) (by decide) cssW 5 rfl rfl goods_W (some ⟨U.heap.size + 11, 0, none⟩) 5 [[1], [2]] [[4], [8]] solves_W (allocs U (osW U)) (hL.next (below_in hU (allocs_below U (osW U)))) (Nat.le_refl _) (cols_W U)
    rw [show ((3 : Nat) : Int) = 3 from rfl] at h
    exact h))
  have HLW := Lib.hid (fun (U : World) (hU : Below w.heap.size w U) => hL.next hU)
  clear hL
  go_enter Tryz.func15, Tryz.ntmps15
  go_wp2_with fail
  refine HO1.out.mono ?_
  rintro e w1 ⟨u1, rfl, hu1, hB1⟩
  obtain ⟨A1, n1, c1, rfl⟩ := hu1.form
  go_wp2_with fail
  refine (HO2.out w1 hB1).mono ?_
  rintro e w2 ⟨rfl, hB2⟩
  go_wp2_with fail
  have hB3a := allocs_below w2 (osW w2)
  refine (HRE.out w2 (below_in hB1 hB2) _ rfl).mono ?_
  rintro e w3 ⟨u3, rfl, hC3, hB3⟩
  have hB23 := below_in hB3a hB3
  have hr := (hu1.readA.next hB2).next hB23
  have hBw := below_in (below_in hB1 hB2) hB23
  obtain ⟨A3, c3, e3, _⟩ := id hC3
  have e3' : u3 = .slice A3 2 c3 := e3
  subst e3'
  clear hu1 HO1 HO2 HRE hB1 hB2 hB3 hB3a hB23 e3
  go_wp2_with (go_at_call 12; refine (num11_any _ _).mono ?_; rintro e w' ⟨rfl, rfl⟩)
  have hBa := below_one w3 (.cells #[.int .i64 1, .int .i64 1, .int .i64 0, .int .i64 1, .int .i64 1, .int .i64 0, .int .i64 0, .int .i64 0] 36)
  refine (same_yes _ _ _ (by simp) _ (hr.next hBa) (readA_W (Blk.new w3 _ _))).mono ?_
  rintro e w4 ⟨rfl, hB4⟩
  have hB34 := below_in hBa hB4
  have hC4 := (hC3.below hB34).more hB34.size
  have hBw4 := below_in hBw hB34
  clear hr hC3 hBa hB4 hB34 hBw
  go_wp2_with fail
  have hB5 := allocs_below w4 (osV w4)
  have hS := same6_any (B := w4.heap.size) (.slice A3 2 c3) (.slice (some ⟨w4.heap.size + 6, 0, none⟩) 2 2) [[[1], [2]], [[4], [8]]] [[[1], [2]], [[4], [8]]] (allocs w4 (osV w4)) (hC4.below hB5) (cols_V w4) hB5.size (Nat.le_refl _) small_V small_V (by simp) (by simp)
  rw [show decide ([[[(1 : UInt8)], [2]], [[4], [8]]] = [[[1], [2]], [[4], [8]]]) = true from rfl] at hS
  refine hS.mono ?_
  rintro e w5 ⟨rfl, hB6⟩
  have hBw6 := below_in (below_in hBw4 hB5) hB6
  clear hS hB5 hC4 hBw4 hB6
  go_wp2_with fail
  go_ret
  exact ⟨rfl, hBw6⟩
end Go.Proofs.YthmkgdkfehgpkaaGreatDoor.T

namespace Go.Proofs.YthmkgdkfehgpkaaGreatDoor.T
open Go.RowKit Go.Shelf Go.Maps Go.Proofs.YthmkgdkfehgpkaaGreatDoor.C Go.Proofs.YthmkgdkfehgpkaaGreatDoor.E Go.Proofs.YthmkgdkfehgpkaaGreatDoor.Ch
set_option linter.unusedSimpArgs false
set_option linter.unusedVariables false
attribute [local go_sem] Oper.semAt_some

theorem wpList_pushA2 (w : World) {ops : Array Oper} {rest : List Oper} {o : Oper} {a : Act} {QQ : Exit → Act → World → Prop} (hgd : o.guard = none) (s x : Operand)
    (ho : o.op = .call { callee := .builtin .append, args := #[s, x], argTypes := #[23, 23] })
    (base : Nat) (v : Value) (l : List (Int × Int)) (hs : a.eval s = v) (hown : OwnA w base v l) (g : Nat) (p1 p2 q1 q2 : Int) (hx : a.eval x = .slice (some ⟨g, 0, none⟩) 2 2) (hu : Blk w g 36 #[.int .i64 p1, .int .i64 p2, .int .i64 q1, .int .i64 q2])
    (hlen : l.length ≤ 1000000) (hbase : base ≤ w.heap.size)
    (hK : ∀ v' w', OwnA w' base v' (l ++ [(p1, p2), (q1, q2)]) → w.grownBy w' v.ownBlock → wpList Tryz.prog ops QQ rest (a.put o.dst v') w') : wpList Tryz.prog ops QQ (o :: rest) a w :=
  wpList_plain hgd fun K hK2 => by
    obtain ⟨i, hi, hz0, hz1, hz2⟩ := info_parts Tryz.infoAt
    obtain ⟨v', w', hrun, r1, r2, _, r3⟩ := run_append_own_at (P := Tryz.prog) w base 23 o.type 36 i (.agg #[.int .i64 0, .int .i64 0]) 2 16 Tryz.underlying23 hi hz0 hz1 hz2 rfl (by omega) v l.length (codeCells l) hown ⟨g, 0, none⟩ 2 2 [.int .i64 p1, .int .i64 p2, .int .i64 q1, .int .i64 q2] rfl
      (by intro j y hy
          rw [addr_add, Nat.zero_add, hu.cell j, List.getElem?_toArray]
          exact hy)
      (by intro y hy; simp only [List.mem_cons, List.not_mem_nil, or_false] at hy; rcases hy with rfl | rfl | rfl | rfl <;> rfl) (by unfold maxLen; omega) (by omega) hbase
    unfold Oper.wp execOp
    simp only [ho, resolve, invoke, builtin, Sem.run_bind, Sem.run_pure, Result.andThen_ok, List.map_toArray, List.map_cons, List.map_nil, hs, hx, hrun]
    refine hK2 _ _ (hK v' w' ?_ r2)
    unfold OwnA
    have e : codeCells (l ++ [(p1, p2), (q1, q2)]) = codeCells l ++ [.int .i64 p1, .int .i64 p2, .int .i64 q1, .int .i64 q2] := by unfold codeCells; rw [List.flatMap_append]; rfl
    rw [e, List.length_append]
    exact r1
/-- The rows of the chain, the last of which there is none. -/
def xk (P : Nat) (c : Int) (k : Nat) : Int := ((P : Int) - 1 + ((k : Int) + 1) * c) % (P : Int)
theorem xk_next {P : Nat} (c : Int) (k : Nat) : (c + xk P c k) % (P : Int) = xk P c (k + 1) := by
  unfold xk
  rw [Int.add_emod, Int.emod_emod, ← Int.add_emod]
  congr 1
  rw [show ((k + 1 : Nat) : Int) + 1 = ((k : Int) + 1) + 1 by omega, Int.add_mul ((k : Int) + 1) 1 c, Int.one_mul]
  omega
theorem xk_last {P Q : Nat} (hQ : P = Q + 1) (c : Int) : xk P c Q = (P : Int) - 1 := by
  unfold xk
  rw [show ((Q : Int) + 1) = (P : Int) by omega, Int.add_mul_emod_self_left]
  exact Int.emod_eq_of_lt (by omega) (by omega)
theorem xk_zero {P Q : Nat} (hQ : P = Q + 1) (a b : Int) : (a - 1 - b) % (P : Int) = xk P (a - b) 0 := by
  unfold xk
  rw [show (P : Int) - 1 + (((0 : Nat) : Int) + 1) * (a - b) = a - 1 - b + (P : Int) * 1 by simp; omega, Int.add_mul_emod_self_left]
theorem xk_rows {P Q : Nat} (hQ : P = Q + 1) (hp : (P : Int) ∈ prm) {a b : Int} (hab : (a - b) % (P : Int) ≠ 0) : Rg.rowsF (P : Int) (walkN (P : Int) ((P : Int) - 1) (a - b)) = (List.range Q).map (xk P (a - b)) := Rg.rows_are hQ hp hab
theorem xk_in {P Q : Nat} (hQ : P = Q + 1) (hp : (P : Int) ∈ prm) {a b : Int} (hab : (a - b) % (P : Int) ≠ 0) {k : Nat} (hk : k < Q) : 0 ≤ xk P (a - b) k ∧ xk P (a - b) k < (P : Int) - 1 := by
  have hpb := prm_bounds hp
  have hm : xk P (a - b) k ∈ Rg.rowsF (P : Int) (walkN (P : Int) ((P : Int) - 1) (a - b)) := by rw [xk_rows hQ hp hab]; exact List.mem_map.2 ⟨k, List.mem_range.2 hk, rfl⟩
  unfold Rg.rowsF at hm
  have hne2 : xk P (a - b) k ≠ (P : Int) - 1 := by simpa using (List.mem_filter.1 hm).2
  have h0 : 0 ≤ xk P (a - b) k := Int.emod_nonneg _ (by omega)
  have h1 : xk P (a - b) k < (P : Int) := Int.emod_lt_of_pos _ (by omega)
  omega
def lk (P : Nat) (a b : Int) (k : Nat) : List (Int × Int) := (chn a b ((List.range k).map (xk P (a - b)))).map (fun x : Int × Int × Int => (x.2.1, x.2.2))
theorem lk_next (P : Nat) (a b : Int) (k : Nat) : lk P a b (k + 1) = lk P a b k ++ [(b, xk P (a - b) k), (a, xk P (a - b) k)] := by
  unfold lk
  rw [List.range_succ, List.map_append, List.map_cons, List.map_nil, chn_snoc, List.map_append, List.map_append, List.append_assoc]
  rfl
theorem lk_len (P : Nat) (a b : Int) (k : Nat) : (lk P a b k).length = 2 * k := by unfold lk; rw [List.length_map, chn_len]; simp
set_option maxRecDepth 100000 in
set_option maxHeartbeats 4000000 in
theorem refOrder_any {P Q : Nat} (hQ : P = Q + 1) (hp : (P : Int) ∈ prm) (a b : Int) (ha : 0 ≤ a) (hab : a < b) (hb : b < (P : Int)) (w : World) :
    Calls Tryz.prog 11 #[.int .i64 (P : Int), .int .i64 a, .int .i64 b] w fun e w' => ∃ u, e = .returned u ∧ OwnA w' w.heap.size u ((chn a b (Rg.rowsF (P : Int) (walkN (P : Int) ((P : Int) - 1) (a - b)))).map (fun x : Int × Int × Int => (x.2.1, x.2.2))) ∧ Below w.heap.size w w' := by
  have hpb := prm_bounds hp
  have hab2 : (a - b) % (P : Int) ≠ 0 := fun h => by
    have h1 := Int.emod_eq_of_lt (show (0 : Int) ≤ a - b + (P : Int) * 1 by omega) (show a - b + (P : Int) * 1 < (P : Int) by omega)
    rw [Int.add_mul_emod_self_left] at h1
    omega
  rw [xk_rows hQ hp hab2]
  change Calls _ _ _ _ fun e w' => ∃ u, e = .returned u ∧ OwnA w' w.heap.size u (lk P a b Q) ∧ Below w.heap.size w w'
  have HO0 := Lib.hid (fun (W : World) => rof_any (P : Int) (a - 1 - b) W (by omega) (by omega) (by omega) (by omega))
  have HOk := Lib.hid (fun (x : Int) (hx : 0 ≤ x ∧ x < (P : Int) - 1) (W : World) => rof_any (P : Int) (a + x - b) W (by omega) (by omega) (by omega) (by omega))
  have HXI := Lib.hid (fun (k : Nat) (hk : k < Q) => xk_in hQ hp hab2 hk)
  have HXL := Lib.hid (xk_last hQ (a - b))
  have HX0 := Lib.hid (xk_zero hQ a b)
  rw [xk_zero hQ a b] at HO0
  have HXN := Lib.hid (fun k => xk_next (P := P) (a - b) k)
  have HB := Lib.hid (And.intro hQ (And.intro hpb (And.intro ha (And.intro hab hb))))
  have hw1 : IntKind.i64.wrap (a - 1) = a - 1 := IntWalk.i64_in _ (by omega)
  have hw2 : IntKind.i64.wrap (a - 1 - b) = a - 1 - b := IntWalk.i64_in _ (by omega)
  have hwP : IntKind.i64.wrap ((P : Int) - 1) = (P : Int) - 1 := IntWalk.i64_in _ (by omega)
  clear hQ hp hpb ha hab hb hab2
  go_enter Tryz.func11, Tryz.ntmps11
  go_wp2_with (go_at_call 33; refine (HO0.out _).mono ?_; rintro e w' ⟨rfl, rfl⟩)
  clear hw1 hw2
  go_loopw [7, 8, 9] (fun v r i wr => ∃ k : Nat, k ≤ Q ∧ i = .int .i64 (k : Int) ∧ r = .int .i64 (xk P (a - b) k) ∧ OwnA wr w.heap.size v (lk P a b k) ∧ Below w.heap.size w wr) (fun _ _ i _ => Q - (intOf i).toNat)
  case atStart => exact ⟨0, Nat.zero_le _, rfl, rfl, ownA_nil _ _, Below.refl _ _⟩
  case round =>
    obtain ⟨k, hk, rfl, rfl, hown, hBr⟩ := hrel
    have hBB := HB.out
    have hkP : k < P := by omega
    have d1 : decide (k < P) = true := decide_eq_true hkP
    by_cases hlt : k < Q
    · have hx := HXI.out k hlt
      have HN := Lib.hid (HXN.out k)
      have HLN := Lib.hid (lk_next P a b k)
      have HLL := Lib.hid (lk_len P a b k)
      obtain ⟨x, hxx⟩ : ∃ x, xk P (a - b) k = x := ⟨_, rfl⟩
      rw [hxx] at hx HN HLN ⊢
      have d2 : (x != (P : Int) - 1) = true := bne_iff_ne.2 (by omega)
      have hwa : IntKind.i64.wrap (a + x) = a + x := IntWalk.i64_in _ (by omega)
      have hwb : IntKind.i64.wrap (a + x - b) = a + x - b := IntWalk.i64_in _ (by omega)
      have hwk : IntKind.i64.wrap ((k : Int) + 1) = ((k + 1 : Nat) : Int) := by rw [IntWalk.i64_in _ (by omega)]; omega
      have HOX := Lib.hid (HOk.out x hx)
      have hmod : (a + x - b) % (P : Int) = xk P (a - b) (k + 1) := by rw [← HN.out]; congr 1; omega
      rw [hmod] at HOX
      have HOW := Lib.hid hown
      have HQ1 : Hid ((lk P a b k).length ≤ 1000000) := by unfold Hid; rw [HLL.out]; omega
      obtain ⟨vA, vn, vc, rfl⟩ := hown.form
      have hBz := below_one wr (.cells #[.int .i64 b, .int .i64 x, .int .i64 a, .int .i64 x] 36)
      have bz := Blk.new wr 36 #[.int .i64 b, .int .i64 x, .int .i64 a, .int .i64 x]
      have HB2 := Lib.hid (And.intro hBz bz)
      have HOWz := Lib.hid (hown.below hBz)
      have hle : ∀ g, (Value.slice vA vn vc).ownBlock = some g → w.heap.size ≤ g := fun g e => hown.own_le g e
      have HLE := Lib.hid hle
      have hbs := hBr.size
      have HBR := Lib.hid hBr
      clear hown hBz bz hmod hxx hBB hk hle HOW
      go_wp2_with (first
        | (at_builtin; refine wpList_pushA2 _ rfl _ _ rfl w.heap.size (.slice vA vn vc) _ rfl HOWz.out wr.heap.size b x a x rfl HB2.out.2 HQ1.out (by simp; omega) ?_; intro v' w2 hown2 hgr2; obtain ⟨vA2, vn2, vc2, rfl⟩ := hown2.form)
        | (go_at_call 33; refine (HOX.out _).mono ?_; rintro e w' ⟨rfl, rfl⟩))
      go_roundw
      case rel => exact ⟨k + 1, by omega, rfl, rfl, by rw [HLN.out]; exact hown2, below_grown (below_in HBR.out HB2.out.1) hgr2 (by have := HB2.out.1.size; omega) (fun g e => HLE.out g e)⟩
      case measure => simp [intOf]; omega
    · obtain rfl : k = Q := by omega
      have hx := HXL.out
      rw [hx]
      have d2 : (((P : Int) - 1) != (P : Int) - 1) = false := by simp
      obtain ⟨vA, vn, vc, rfl⟩ := hown.form
      clear hBB
      go_wp2
      go_ret
      exact ⟨_, rfl, hown, hBr⟩
end Go.Proofs.YthmkgdkfehgpkaaGreatDoor.T

namespace Go.Proofs.YthmkgdkfehgpkaaGreatDoor.T
open Go.RowKit Go.Shelf Go.Maps Go.Proofs.YthmkgdkfehgpkaaGreatDoor.C Go.Proofs.YthmkgdkfehgpkaaGreatDoor.E Go.Proofs.YthmkgdkfehgpkaaGreatDoor.Ch
set_option linter.unusedSimpArgs false
set_option linter.unusedVariables false
attribute [local go_sem] Oper.semAt_some

/-- The same, where the variable lies in a block of its own, anew each round. -/
theorem wpIn_rangeBoxP {α : Type} {F : Fence} {n : Nat} {P : Program} {g : Operand} {ps : Array Tmp} {assign body : Code} {Q : Exit → Act → World → Prop} {a : Act} {w : World}
    (hro : F.round = none) (h1 : 1 ≤ n) {gf : Nat} {lb : Array Value} (hg : a.eval g = .func (.func gf) #[] lb) (hFg : F.fn gf) (eg : ∀ args w, (callFunc gf args).run P w = .ok (.enter gf args) w)
    {encs : α → Array Value} {Ok : List α → α → World → Prop} {Kp : World → World → Prop} {S Sp : List α → Prop} {N : Nat} {w0 : World} (hseq : SeqT F (n - 1) P gf lb encs Ok Kp S Sp N w0)
    (hKt : ∀ {A B C : World}, Kp A B → Kp B C → Kp A C) (hKb : ∀ (W : World) (l : Nat) (ob : Obj), w.heap.size ≤ l → l < W.heap.size → (∃ r, W.heap[l]? = some (.loop r)) → Kp W (W.putObj l ob)) (hb0 : Below w0.heap.size w0 w) (hps : ∀ x, (encs x).size = ps.size)
    (I : List α → (Nat → Prop) → World → Prop) (Ix : Code → List α → (Nat → Prop) → World → Prop) (hI : FarO w.heap.size I) (hIx : ∀ c, FarO w.heap.size (Ix c)) (o₀ : (Nat → Prop)) (ho₀ : ∀ b, o₀ b → b < w.heap.size) (h0 : I [] o₀ w)
    (Pr : List α → α → Prop) (hPr : ∀ pre x W, Ok pre x W → Pr pre x) (t : TypeId) (cs : α → Array Value) (a₁ : α → Nat → Act)
    (hassign : ∀ (l : Nat) (pre : List α) (x : α) (o : (Nat → Prop)) (W : World) (K : Act → World → Prop), w.heap.size ≤ W.heap.size → (∀ b, o b → b < W.heap.size) → I pre o W → Ok pre x W → (∀ Bx W', SinceO w.heap.size o W W' → Kp W W' → I pre o W' → Blk W' Bx t (cs x) → ¬ o Bx → w.heap.size ≤ Bx → K (a₁ x Bx) W') →
      assign.wpIn (F.inRound l) (n - 1 - 1) P (Exit.then K (fun _ _ _ => False)) { tmps := (ps.zip (encs x)).foldl (fun t (p, v) => t.setIfInBounds p v) a.tmps, defers := [] } W)
    (hrow : ∀ pre o W, I pre o W → RowO o W) (hrowx : ∀ c pre o W, Ix c pre o W → RowO o W)
    (hbody : ∀ (l : Nat) (pre : List α) (x : α) (o : (Nat → Prop)) (Bx : Nat) (W : World), w.heap.size ≤ W.heap.size → I pre o W → Blk W Bx t (cs x) → ¬ o Bx → w.heap.size ≤ Bx → Pr pre x → pre.length < N →
      body.wpIn (F.inRound l) (n - 1 - 1) P (postT w.heap.size Kp I Ix (pre ++ [x]) o W) (a₁ x Bx) W)
    (hdone : ∀ (D : Nat) (xs : List α) (o : (Nat → Prop)) (W : World), w.heap.size ≤ D → FreshO o₀ o w → S xs → I xs o W → W.heap[D]? = some (.deferred (some [])) → ¬ o D → Q .normal { a with defers := { target := .collected D, args := #[] } :: a.defers } W)
    (hstop : ∀ (D : Nat) (c : Code) (pre : List α) (o : (Nat → Prop)) (W : World), w.heap.size ≤ D → FreshO o₀ o w → Sp pre → Ix c pre o W → W.heap[D]? = some (.deferred (some [])) → ¬ o D → c.wpIn F n P Q { a with defers := { target := .collected D, args := #[] } :: a.defers } W) :
    (Code.rangeFunc g ps assign body).wpIn F n P Q a w :=
  wpIn_rangeT hro h1 hg hFg eg hseq hKt hKb hb0 hps I Ix hI hIx o₀ ho₀ h0 (fun pre x o a' W => ∃ Bx, Blk W Bx t (cs x) ∧ ¬ o Bx ∧ w.heap.size ≤ Bx ∧ Pr pre x ∧ a' = a₁ x Bx)
    (fun _ x o a' W l ob r hl _ _ ⟨Bx, hb, hne, hle, hp, e⟩ => ⟨Bx, (World.putObj_heap_other (fun e2 => by unfold Blk at hb; rw [e2, hl] at hb; cases hb)).trans hb, hne, hle, hp, e⟩)
    (fun l pre x o W K hs hol hi hok hK => hassign l pre x o W K hs hol hi hok fun Bx W' h2 h3 h4 h5 h6 h7 => hK _ _ h2 h3 h4 ⟨Bx, h5, h6, h7, hPr _ _ _ hok, rfl⟩) hrow hrowx
    (fun l pre x o a' W hs hi ⟨Bx, hb, hne, hle, hp, e⟩ hlt => by subst e; exact hbody l pre x o Bx W hs hi hb hne hle hp hlt) hdone hstop
theorem ReadA.set3 {W : World} {v : Value} {l : List (Int × Int)} {g : Nat} {t : TypeId} (h : ReadA W v l) (hb : Blk W g t #[.slice none 0 0]) (u : Value) : ReadA (W.setCell ⟨g, 0, none⟩ u) v l := by
  obtain ⟨p, cap, e, hc⟩ := h
  refine ⟨p, cap, e, fun j hj => ?_⟩
  obtain ⟨g2, h1, h2, h3, h4⟩ := hc j hj
  have hne : g2 ≠ g := fun e2 => by
    subst e2
    rw [hb.cell] at h3
    rcases hjj : j * 2 with _ | k
    · rw [hjj] at h3; simp at h3
    · rw [hjj] at h3; simp at h3
  have hk : ∀ o, (W.setCell ⟨g, 0, none⟩ u).cell? ⟨g2, o, none⟩ = W.cell? ⟨g2, o, none⟩ := fun o => World.cell?_of_block (Below.heap_setCell W ⟨g, 0, none⟩ u g2 hne)
  exact ⟨g2, h1, by simp; exact h2, (hk _).trans h3, (hk _).trans h4⟩
/-- What stands at a turn's head. -/
def TurnC (w w8 : World) (g1 g2 g3 : Nat) (many : Int) (Aw : Option Addr) (nw cw : Nat) (Lp : List (Int × Int)) (V : World) : Prop :=
  Blk V g1 3 #[.int .i64 many] ∧ Blk V g2 4 #[.bool false] ∧ Blk V g3 23 #[.slice Aw nw cw] ∧ ReadA V (.slice Aw nw cw) Lp ∧ Below w.heap.size w V ∧ Below w8.heap.size w8 V
theorem TurnC.next {w w8 V V' : World} {g1 g2 g3 nw cw : Nat} {many : Int} {Aw : Option Addr} {Lp : List (Int × Int)} (h : TurnC w w8 g1 g2 g3 many Aw nw cw Lp V) (hB : Below V.heap.size V V') : TurnC w w8 g1 g2 g3 many Aw nw cw Lp V' := by
  obtain ⟨h1, h2, h3, h4, h5, h6⟩ := h
  exact ⟨h1.below hB h1.lt, h2.below hB h2.lt, h3.below hB h3.lt, h4.next hB, below_in h5 hB, below_in h6 hB⟩
theorem listT_at {L pre : List (Int × Int × Int)} {x : Int × Int × Int} (h : pre ++ [x] <+: L) : pre.length < L.length ∧ (L.map fun x : Int × Int × Int => (x.2.1, x.2.2))[pre.length]? = some (x.2.1, x.2.2) := by
  obtain ⟨h1, h2⟩ := pre_at h
  exact ⟨h1, by rw [List.getElem?_map, h2]; rfl⟩
end Go.Proofs.YthmkgdkfehgpkaaGreatDoor.T

namespace Go.Proofs.YthmkgdkfehgpkaaGreatDoor.Cd
open Go.RowKit Go.Shelf Go.Proofs.YthmkgdkfehgpkaaGreatDoor.C Go.Proofs.YthmkgdkfehgpkaaGreatDoor.E Go.ChangeShapes Go.WideShapes
set_option linter.unusedSimpArgs false
set_option linter.unusedVariables false

theorem list2' {α : Type} (l : List α) (h : l.length = 2) : ∃ a b, l = [a, b] := by
  match l, h with
  | [a, b], _ => exact ⟨a, b, rfl⟩
set_option maxRecDepth 100000 in
theorem open_two {H : Type} {enc : TypeId × Value → H} {W : World} {base : Nat} {v : Value} {d : DataW H} {p : List MemPlace} (hv : Value.okWide Tryz.prog W .any base 22 v) (h : ∃ fuel, DataW.trod enc Tryz.prog W 0 (fun _ => true) true fuel 22 v.cells.toList = some (d, p)) : ∃ x y : Int, v = .agg #[.int .i64 x, .int .i64 y] ∧ (Lit.int .i64 x).wf = true ∧ (Lit.int .i64 y).wf = true := by
  obtain ⟨cs, rfl, hsz, _⟩ : ∃ cs, v = .agg cs ∧ cs.size = Tryz.prog.cellsOf 22 ∧ Row.okWide Tryz.prog W .any base 22 cs := by
    simpa [Value.okWide, Tryz.underlying22] using hv
  rw [show Tryz.prog.cellsOf 22 = 2 by kernel_rfl] at hsz
  obtain ⟨l⟩ := cs
  obtain ⟨c0, c1, rfl⟩ := list2' l hsz
  obtain ⟨fuel, hf⟩ := h
  obtain ⟨xs, m, rfl, _, _, hn, hel⟩ := DataW.trod_array Tryz.underlying22 hf
  obtain ⟨y0, y1, rfl⟩ := list2' xs hn
  have h0 := hel 0 (by omega)
  have h1 := hel 1 (by omega)
  rw [cells_int] at h0 h1
  obtain ⟨x0, e0, _, w0⟩ := DataW.trod_int Tryz.underlying3 (show DataW.trod enc Tryz.prog W 0 (fun _ => true) true m 3 [c0] = some y0 from h0)
  obtain ⟨x1, e1, _, w1⟩ := DataW.trod_int Tryz.underlying3 (show DataW.trod enc Tryz.prog W 0 (fun _ => true) true m 3 [c1] = some y1 from h1)
  simp at e0 e1
  subst e0 e1
  exact ⟨x0, x1, rfl, w0, w1⟩
end Go.Proofs.YthmkgdkfehgpkaaGreatDoor.Cd

