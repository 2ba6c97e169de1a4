/- chain: Recover, where it tells none. -/
import Derived.Test.YtfihlelhpmjpaaaGreatDoorCRG19m1
import Derived.Test.YtfihlelhpmjpaaaGreatDoorCRG20
namespace Go.Proofs.YtfihlelhpmjpaaaGreatDoor.T
open Go.RowKit Go.Shelf Go.Maps Go.Proofs.YtfihlelhpmjpaaaGreatDoor.C Go.Proofs.YtfihlelhpmjpaaaGreatDoor.E Go.Proofs.YtfihlelhpmjpaaaGreatDoor.Ch
set_option linter.unusedSimpArgs false
set_option linter.unusedVariables false
attribute [local go_sem] Oper.semAt_some

set_option maxRecDepth 100000 in
set_option maxHeartbeats 8000000 in
theorem recover_no2 (p a b : Int) (vA : Option Addr) (N vc : Nat) (hno : ¬ (p ∈ prm ∧ (N : Int) = p + 2)) (w : World) (hL : Laid w) :
    Calls Tryz.prog 15 #[.int .i64 p, .slice vA N vc, .int .i64 a, .int .i64 b] w fun e w' => e = .returned (.tuple #[.slice none 0 0, .int .i64 2]) ∧ Below w.heap.size w w' := by
  obtain ⟨W2, hW2⟩ : ∃ x, (((w.alloc (.cells #[.int .i64 p] 3)).alloc (.cells #[.slice vA N vc] 22)).alloc (.cells #[.int .i64 a] 3)).alloc (.cells #[.int .i64 b] 3) = x := ⟨_, rfl⟩
  have b0 : Blk W2 (w.heap.size) 3 #[.int .i64 p] := by rw [← hW2]; exact (((Blk.new w _ _).alloc _).alloc _).alloc _
  have b1 : Blk W2 (w.heap.size + 1) 22 #[.slice vA N vc] := by rw [← hW2]; exact ((Blk.second w _ _ _).alloc _).alloc _
  have b2 : Blk W2 (w.heap.size + 1 + 1) 3 #[.int .i64 a] := by rw [← hW2]; exact (Rg.Blk.at_ (Blk.new _ _ _) (by simp)).alloc _
  have b3 : Blk W2 (w.heap.size + 1 + 1 + 1) 3 #[.int .i64 b] := by rw [← hW2]; exact Rg.Blk.at_ (Blk.new _ _ _) (by simp)
  have hBW : Below w.heap.size w W2 := by rw [← hW2]; exact (((below_two w _ _)).alloc (by simp; omega) _).alloc (by simp; omega) _
  obtain ⟨W2b, hW2b⟩ : ∃ x, w.heap.size = x := ⟨_, rfl⟩
  obtain ⟨W2c, hW2c⟩ : ∃ x, w.heap.size + 1 = x := ⟨_, rfl⟩
  obtain ⟨W2d, hW2d⟩ : ∃ x, w.heap.size + 1 + 1 = x := ⟨_, rfl⟩
  obtain ⟨W2e, hW2e⟩ : ∃ x, w.heap.size + 1 + 1 + 1 = x := ⟨_, rfl⟩
  have HA := Lib.hid (Go.Proofs.YtfihlelhpmjpaaaGreatDoor.Ch.ans_S_no 2 44 #[.pointer (some ⟨w.heap.size, 0, none⟩), .pointer (some ⟨w.heap.size + 1, 0, none⟩), .pointer (some ⟨w.heap.size + 1 + 1, 0, none⟩), .pointer (some ⟨w.heap.size + 1 + 1 + 1, 0, none⟩)] W2 (enter_Recover1 _) (fun U hU hltU => by
    have hBU := below_in hBW hU
    have HAS := Lib.hid (fun (V : World) (g : Nat) (hV : Below U.heap.size U V) (bE : Blk V g 3 #[.int .i64 a, .int .i64 b]) => asked_no2 p vA (some ⟨g, 0, none⟩) N vc 2 2 hno V (hL.next (below_in hBU hV)))
    have HSS : Hid (∀ V, Below U.heap.size U V → (fun U : World => U.cell? ⟨W2b, 0, none⟩ = some (.int .i64 p) ∧ U.cell? ⟨W2c, 0, none⟩ = some (.slice vA N vc) ∧ U.cell? ⟨W2d, 0, none⟩ = some (.int .i64 a) ∧ U.cell? ⟨W2e, 0, none⟩ = some (.int .i64 b)) V) := by
      rw [← hW2b, ← hW2c, ← hW2d, ← hW2e]
      exact fun V hV => ⟨((b0.below hU b0.lt).below hV (Nat.lt_of_lt_of_le b0.lt hU.size)).one, ((b1.below hU b1.lt).below hV (Nat.lt_of_lt_of_le b1.lt hU.size)).one, ((b2.below hU b2.lt).below hV (Nat.lt_of_lt_of_le b2.lt hU.size)).one, ((b3.below hU b3.lt).below hV (Nat.lt_of_lt_of_le b3.lt hU.size)).one⟩
    have hBx := (Below.refl U.heap.size U).drew
    rw [hW2e, hW2d, hW2c, hW2b]
    clear b0 b1 b2 b3 hW2 hL hW2e hW2d hW2c hW2b hno
    refine (callsIn_wide (n := 9)).1 ?_
    refine callsIn_of_wp_marks Tryz.func44 rfl trivial ?_ rfl
    simp only [Tryz.ntmps44, List.size_toArray, List.length_cons, List.length_nil, Nat.reduceAdd, Nat.reduceSub, Array.replicate_succ, Array.replicate_zero, List.push_toArray, List.append_toArray, List.nil_append, List.cons_append]
    gi_wp2_with fail
    have hS : (fun U : World => U.cell? ⟨W2b, 0, none⟩ = some (.int .i64 p) ∧ U.cell? ⟨W2c, 0, none⟩ = some (.slice vA N vc) ∧ U.cell? ⟨W2d, 0, none⟩ = some (.int .i64 a) ∧ U.cell? ⟨W2e, 0, none⟩ = some (.int .i64 b)) U.drew := HSS.out _ hBx
    refine wpIn_mono (region_HF (Q := GaveX 2 U) (S := (fun U : World => U.cell? ⟨W2b, 0, none⟩ = some (.int .i64 p) ∧ U.cell? ⟨W2c, 0, none⟩ = some (.slice vA N vc) ∧ U.cell? ⟨W2d, 0, none⟩ = some (.int .i64 a) ∧ U.cell? ⟨W2e, 0, none⟩ = some (.int .i64 b))) (by kernel_rfl) ?_) (fun e a w' h => by obtain ⟨rfl, hd, hB⟩ := h; obtain ⟨tm, df⟩ := a; have hd' : df = [] := hd; subst hd'; exact ⟨rfl, hB⟩)
    refine anyHF_take (i := 0) (d := 5) (v := .int .i64 p) (by kernel_rfl) rfl (by kernel_rfl) (by kernel_rfl) (by kernel_rfl) rfl (fun _ _ _ h => h) ⟨Or.inl ⟨by rfl, fun w hS => by obtain ⟨h0, h1, h2, h3⟩ := hS; go_simp⟩, fun _ => rfl⟩ hS ?_
    simp only [List.setIfInBounds_toArray, List.set_cons_zero, List.set_cons_succ]
    refine anyHF_take (i := 1) (d := 6) (v := .slice vA N vc) (by kernel_rfl) rfl (by kernel_rfl) (by kernel_rfl) (by kernel_rfl) rfl (fun _ _ _ h => h) ⟨Or.inl ⟨by rfl, fun w hS => by obtain ⟨h0, h1, h2, h3⟩ := hS; go_simp⟩, fun _ => rfl⟩ hS ?_
    simp only [List.setIfInBounds_toArray, List.set_cons_zero, List.set_cons_succ]
    refine anyHF_take (i := 2) (d := 7) (v := .int .i64 a) (by kernel_rfl) rfl (by kernel_rfl) (by kernel_rfl) (by kernel_rfl) rfl (fun _ _ _ h => h) ⟨Or.inl ⟨by rfl, fun w hS => by obtain ⟨h0, h1, h2, h3⟩ := hS; go_simp⟩, fun _ => rfl⟩ hS ?_
    simp only [List.setIfInBounds_toArray, List.set_cons_zero, List.set_cons_succ]
    refine anyHF_take (i := 3) (d := 8) (v := .int .i64 b) (by kernel_rfl) rfl (by kernel_rfl) (by kernel_rfl) (by kernel_rfl) rfl (fun _ _ _ h => h) ⟨Or.inl ⟨by rfl, fun w hS => by obtain ⟨h0, h1, h2, h3⟩ := hS; go_simp⟩, fun _ => rfl⟩ hS ?_
    simp only [List.setIfInBounds_toArray, List.set_cons_zero, List.set_cons_succ]
    refine anyHF_take (i := 6) (d := 11) (v := .slice vA N vc) (by kernel_rfl) rfl (by kernel_rfl) (by kernel_rfl) (by kernel_rfl) rfl (fun _ _ _ h => h) ⟨Or.inl ⟨by rfl, fun w hS => by obtain ⟨h0, h1, h2, h3⟩ := hS; go_simp⟩, fun _ => rfl⟩ hS ?_
    simp only [List.setIfInBounds_toArray, List.set_cons_zero, List.set_cons_succ]
    refine anyHF_one (i := 4) (by kernel_rfl) rfl (by kernel_rfl) (by rfl) ?_
    have hgl_g2 := hBx.size
    have hB : Below U.drew.heap.size U.drew (U.drew.alloc (.cells #[.int .i64 a, .int .i64 b] 3)) := below_one U.drew _
    have bE : Blk (U.drew.alloc (.cells #[.int .i64 a, .int .i64 b] 3)) U.drew.heap.size 3 #[.int .i64 a, .int .i64 b] := Blk.new U.drew _ _
    obtain ⟨v1, he_v1⟩ : ∃ x, (U.drew.alloc (.cells #[.int .i64 a, .int .i64 b] 3)) = x := ⟨_, rfl⟩
    obtain ⟨g2, hg_g2⟩ : ∃ x, U.drew.heap.size = x := ⟨_, rfl⟩
    rw [he_v1] at hB bE
    rw [hg_g2] at bE
    replace hBx := below_in hBx hB
    clear hS
    have hS : (fun U : World => U.cell? ⟨W2b, 0, none⟩ = some (.int .i64 p) ∧ U.cell? ⟨W2c, 0, none⟩ = some (.slice vA N vc) ∧ U.cell? ⟨W2d, 0, none⟩ = some (.int .i64 a) ∧ U.cell? ⟨W2e, 0, none⟩ = some (.int .i64 b)) v1 := HSS.out _ hBx
    gi_wp2
    (try rw [hg_g2]); (try rw [he_v1])
    try (refine ⟨hS, ?_⟩)
    clear hB he_v1 hg_g2
    refine anyHF_one (i := 5) (by kernel_rfl) rfl (by kernel_rfl) (by rfl) ?_
    gi_wp2_with fail
    refine ⟨trivial, (callsIn_wide.2 (HAS.out _ g2 hBx bE)).mono ?_⟩
    rintro e wp ⟨rfl, hB1⟩
    exact ⟨rfl, rfl, below_in hBx hB1⟩))
  clear b0 b1 b2 b3 hL hW2e hW2d hW2c hW2b hno
  go_enter Tryz.func15, Tryz.ntmps15
  have hmf : ∀ (fn : Fn) (first cap : Array Value) (w : World), (Instr.makeFunc fn first cap).run Tryz.prog w = .ok (.func fn first cap) w := fun _ _ _ _ => rfl
  go_wp2_with (go_at_call 43; refine HA.out.mono ?_; rintro e w1 ⟨rfl, hB1⟩)
  go_ret2
  exact ⟨rfl, below_in hBW hB1⟩
set_option maxRecDepth 100000 in
set_option maxHeartbeats 8000000 in
theorem recover_no4 (p a b : Int) (hp : p ∈ prm) (vA : Option Addr) (N vc : Nat) (hN : (N : Int) = p + 2) (hno : ¬ (0 ≤ a ∧ a < b ∧ b < p)) (w : World) (hL : Laid w) :
    Calls Tryz.prog 15 #[.int .i64 p, .slice vA N vc, .int .i64 a, .int .i64 b] w fun e w' => e = .returned (.tuple #[.slice none 0 0, .int .i64 4]) ∧ Below w.heap.size w w' := by
  obtain ⟨W2, hW2⟩ : ∃ x, (((w.alloc (.cells #[.int .i64 p] 3)).alloc (.cells #[.slice vA N vc] 22)).alloc (.cells #[.int .i64 a] 3)).alloc (.cells #[.int .i64 b] 3) = x := ⟨_, rfl⟩
  have b0 : Blk W2 (w.heap.size) 3 #[.int .i64 p] := by rw [← hW2]; exact (((Blk.new w _ _).alloc _).alloc _).alloc _
  have b1 : Blk W2 (w.heap.size + 1) 22 #[.slice vA N vc] := by rw [← hW2]; exact ((Blk.second w _ _ _).alloc _).alloc _
  have b2 : Blk W2 (w.heap.size + 1 + 1) 3 #[.int .i64 a] := by rw [← hW2]; exact (Rg.Blk.at_ (Blk.new _ _ _) (by simp)).alloc _
  have b3 : Blk W2 (w.heap.size + 1 + 1 + 1) 3 #[.int .i64 b] := by rw [← hW2]; exact Rg.Blk.at_ (Blk.new _ _ _) (by simp)
  have hBW : Below w.heap.size w W2 := by rw [← hW2]; exact (((below_two w _ _)).alloc (by simp; omega) _).alloc (by simp; omega) _
  obtain ⟨W2b, hW2b⟩ : ∃ x, w.heap.size = x := ⟨_, rfl⟩
  obtain ⟨W2c, hW2c⟩ : ∃ x, w.heap.size + 1 = x := ⟨_, rfl⟩
  obtain ⟨W2d, hW2d⟩ : ∃ x, w.heap.size + 1 + 1 = x := ⟨_, rfl⟩
  obtain ⟨W2e, hW2e⟩ : ∃ x, w.heap.size + 1 + 1 + 1 = x := ⟨_, rfl⟩
  have HA := Lib.hid (Go.Proofs.YtfihlelhpmjpaaaGreatDoor.Ch.ans_S_no 4 44 #[.pointer (some ⟨w.heap.size, 0, none⟩), .pointer (some ⟨w.heap.size + 1, 0, none⟩), .pointer (some ⟨w.heap.size + 1 + 1, 0, none⟩), .pointer (some ⟨w.heap.size + 1 + 1 + 1, 0, none⟩)] W2 (enter_Recover1 _) (fun U hU hltU => by
    have hBU := below_in hBW hU
    obtain ⟨z, hz, hgood, hbad⟩ := bad_two hno
    have HAS := Lib.hid (fun (V : World) (g : Nat) (hV : Below U.heap.size U V) (bE : Blk V g 3 #[.int .i64 a, .int .i64 b]) => asked_no4 p hp vA N vc hN g [a, b] (by simp) z hz hgood hbad V (hL.next (below_in hBU hV)) bE.lt (two_cells bE))
    have HSS : Hid (∀ V, Below U.heap.size U V → (fun U : World => U.cell? ⟨W2b, 0, none⟩ = some (.int .i64 p) ∧ U.cell? ⟨W2c, 0, none⟩ = some (.slice vA N vc) ∧ U.cell? ⟨W2d, 0, none⟩ = some (.int .i64 a) ∧ U.cell? ⟨W2e, 0, none⟩ = some (.int .i64 b)) V) := by
      rw [← hW2b, ← hW2c, ← hW2d, ← hW2e]
      exact fun V hV => ⟨((b0.below hU b0.lt).below hV (Nat.lt_of_lt_of_le b0.lt hU.size)).one, ((b1.below hU b1.lt).below hV (Nat.lt_of_lt_of_le b1.lt hU.size)).one, ((b2.below hU b2.lt).below hV (Nat.lt_of_lt_of_le b2.lt hU.size)).one, ((b3.below hU b3.lt).below hV (Nat.lt_of_lt_of_le b3.lt hU.size)).one⟩
    have hBx := (Below.refl U.heap.size U).drew
    rw [hW2e, hW2d, hW2c, hW2b]
    clear b0 b1 b2 b3 hW2 hL hW2e hW2d hW2c hW2b hno hp hN
    refine (callsIn_wide (n := 9)).1 ?_
    refine callsIn_of_wp_marks Tryz.func44 rfl trivial ?_ rfl
    simp only [Tryz.ntmps44, List.size_toArray, List.length_cons, List.length_nil, Nat.reduceAdd, Nat.reduceSub, Array.replicate_succ, Array.replicate_zero, List.push_toArray, List.append_toArray, List.nil_append, List.cons_append]
    gi_wp2_with fail
    have hS : (fun U : World => U.cell? ⟨W2b, 0, none⟩ = some (.int .i64 p) ∧ U.cell? ⟨W2c, 0, none⟩ = some (.slice vA N vc) ∧ U.cell? ⟨W2d, 0, none⟩ = some (.int .i64 a) ∧ U.cell? ⟨W2e, 0, none⟩ = some (.int .i64 b)) U.drew := HSS.out _ hBx
    refine wpIn_mono (region_HF (Q := GaveX 4 U) (S := (fun U : World => U.cell? ⟨W2b, 0, none⟩ = some (.int .i64 p) ∧ U.cell? ⟨W2c, 0, none⟩ = some (.slice vA N vc) ∧ U.cell? ⟨W2d, 0, none⟩ = some (.int .i64 a) ∧ U.cell? ⟨W2e, 0, none⟩ = some (.int .i64 b))) (by kernel_rfl) ?_) (fun e a w' h => by obtain ⟨rfl, hd, hB⟩ := h; obtain ⟨tm, df⟩ := a; have hd' : df = [] := hd; subst hd'; exact ⟨rfl, hB⟩)
    refine anyHF_take (i := 0) (d := 5) (v := .int .i64 p) (by kernel_rfl) rfl (by kernel_rfl) (by kernel_rfl) (by kernel_rfl) rfl (fun _ _ _ h => h) ⟨Or.inl ⟨by rfl, fun w hS => by obtain ⟨h0, h1, h2, h3⟩ := hS; go_simp⟩, fun _ => rfl⟩ hS ?_
    simp only [List.setIfInBounds_toArray, List.set_cons_zero, List.set_cons_succ]
    refine anyHF_take (i := 1) (d := 6) (v := .slice vA N vc) (by kernel_rfl) rfl (by kernel_rfl) (by kernel_rfl) (by kernel_rfl) rfl (fun _ _ _ h => h) ⟨Or.inl ⟨by rfl, fun w hS => by obtain ⟨h0, h1, h2, h3⟩ := hS; go_simp⟩, fun _ => rfl⟩ hS ?_
    simp only [List.setIfInBounds_toArray, List.set_cons_zero, List.set_cons_succ]
    refine anyHF_take (i := 2) (d := 7) (v := .int .i64 a) (by kernel_rfl) rfl (by kernel_rfl) (by kernel_rfl) (by kernel_rfl) rfl (fun _ _ _ h => h) ⟨Or.inl ⟨by rfl, fun w hS => by obtain ⟨h0, h1, h2, h3⟩ := hS; go_simp⟩, fun _ => rfl⟩ hS ?_
    simp only [List.setIfInBounds_toArray, List.set_cons_zero, List.set_cons_succ]
    refine anyHF_take (i := 3) (d := 8) (v := .int .i64 b) (by kernel_rfl) rfl (by kernel_rfl) (by kernel_rfl) (by kernel_rfl) rfl (fun _ _ _ h => h) ⟨Or.inl ⟨by rfl, fun w hS => by obtain ⟨h0, h1, h2, h3⟩ := hS; go_simp⟩, fun _ => rfl⟩ hS ?_
    simp only [List.setIfInBounds_toArray, List.set_cons_zero, List.set_cons_succ]
    refine anyHF_take (i := 6) (d := 11) (v := .slice vA N vc) (by kernel_rfl) rfl (by kernel_rfl) (by kernel_rfl) (by kernel_rfl) rfl (fun _ _ _ h => h) ⟨Or.inl ⟨by rfl, fun w hS => by obtain ⟨h0, h1, h2, h3⟩ := hS; go_simp⟩, fun _ => rfl⟩ hS ?_
    simp only [List.setIfInBounds_toArray, List.set_cons_zero, List.set_cons_succ]
    refine anyHF_one (i := 4) (by kernel_rfl) rfl (by kernel_rfl) (by rfl) ?_
    have hgl_g2 := hBx.size
    have hB : Below U.drew.heap.size U.drew (U.drew.alloc (.cells #[.int .i64 a, .int .i64 b] 3)) := below_one U.drew _
    have bE : Blk (U.drew.alloc (.cells #[.int .i64 a, .int .i64 b] 3)) U.drew.heap.size 3 #[.int .i64 a, .int .i64 b] := Blk.new U.drew _ _
    obtain ⟨v1, he_v1⟩ : ∃ x, (U.drew.alloc (.cells #[.int .i64 a, .int .i64 b] 3)) = x := ⟨_, rfl⟩
    obtain ⟨g2, hg_g2⟩ : ∃ x, U.drew.heap.size = x := ⟨_, rfl⟩
    rw [he_v1] at hB bE
    rw [hg_g2] at bE
    replace hBx := below_in hBx hB
    clear hS
    have hS : (fun U : World => U.cell? ⟨W2b, 0, none⟩ = some (.int .i64 p) ∧ U.cell? ⟨W2c, 0, none⟩ = some (.slice vA N vc) ∧ U.cell? ⟨W2d, 0, none⟩ = some (.int .i64 a) ∧ U.cell? ⟨W2e, 0, none⟩ = some (.int .i64 b)) v1 := HSS.out _ hBx
    gi_wp2
    (try rw [hg_g2]); (try rw [he_v1])
    try (refine ⟨hS, ?_⟩)
    clear hB he_v1 hg_g2
    refine anyHF_one (i := 5) (by kernel_rfl) rfl (by kernel_rfl) (by rfl) ?_
    gi_wp2_with fail
    refine ⟨trivial, (callsIn_wide.2 (HAS.out _ g2 hBx bE)).mono ?_⟩
    rintro e wp ⟨rfl, hB1⟩
    exact ⟨rfl, rfl, below_in hBx hB1⟩))
  clear b0 b1 b2 b3 hL hW2e hW2d hW2c hW2b hno hp hN
  go_enter Tryz.func15, Tryz.ntmps15
  have hmf : ∀ (fn : Fn) (first cap : Array Value) (w : World), (Instr.makeFunc fn first cap).run Tryz.prog w = .ok (.func fn first cap) w := fun _ _ _ _ => rfl
  go_wp2_with (go_at_call 43; refine HA.out.mono ?_; rintro e w1 ⟨rfl, hB1⟩)
  go_ret2
  exact ⟨rfl, below_in hBW hB1⟩
set_option maxRecDepth 100000 in
set_option maxHeartbeats 8000000 in
theorem recover_noK {B : Nat} (p a b : Int) (hp : p ∈ prm) (ha : 0 ≤ a) (hab : a < b) (hb : b < p) (css : List (List (List UInt8))) (N : Nat) (hcl : css.length = N) (vA : Option Addr) (vc : Nat) (hN : (N : Int) = p + 2) (hsm : ∀ j, j < css.length → (css[j]?.getD []).length ≤ 1000) (hno : ¬ RightD p (kept [a, b] css css.length)) (w : World) (hL : Laid w) (hB : B ≤ w.heap.size) (hC : Cols B w (.slice vA N vc) css) :
    Calls Tryz.prog 15 #[.int .i64 p, .slice vA N vc, .int .i64 a, .int .i64 b] w fun e w' => e = .returned (.tuple #[.slice none 0 0, .int .i64 2]) ∧ Below w.heap.size w w' := by
  obtain ⟨W2, hW2⟩ : ∃ x, (((w.alloc (.cells #[.int .i64 p] 3)).alloc (.cells #[.slice vA N vc] 22)).alloc (.cells #[.int .i64 a] 3)).alloc (.cells #[.int .i64 b] 3) = x := ⟨_, rfl⟩
  have b0 : Blk W2 (w.heap.size) 3 #[.int .i64 p] := by rw [← hW2]; exact (((Blk.new w _ _).alloc _).alloc _).alloc _
  have b1 : Blk W2 (w.heap.size + 1) 22 #[.slice vA N vc] := by rw [← hW2]; exact ((Blk.second w _ _ _).alloc _).alloc _
  have b2 : Blk W2 (w.heap.size + 1 + 1) 3 #[.int .i64 a] := by rw [← hW2]; exact (Rg.Blk.at_ (Blk.new _ _ _) (by simp)).alloc _
  have b3 : Blk W2 (w.heap.size + 1 + 1 + 1) 3 #[.int .i64 b] := by rw [← hW2]; exact Rg.Blk.at_ (Blk.new _ _ _) (by simp)
  have hBW : Below w.heap.size w W2 := by rw [← hW2]; exact (((below_two w _ _)).alloc (by simp; omega) _).alloc (by simp; omega) _
  obtain ⟨W2b, hW2b⟩ : ∃ x, w.heap.size = x := ⟨_, rfl⟩
  obtain ⟨W2c, hW2c⟩ : ∃ x, w.heap.size + 1 = x := ⟨_, rfl⟩
  obtain ⟨W2d, hW2d⟩ : ∃ x, w.heap.size + 1 + 1 = x := ⟨_, rfl⟩
  obtain ⟨W2e, hW2e⟩ : ∃ x, w.heap.size + 1 + 1 + 1 = x := ⟨_, rfl⟩
  have HA := Lib.hid (Go.Proofs.YtfihlelhpmjpaaaGreatDoor.Ch.ans_S_no 2 44 #[.pointer (some ⟨w.heap.size, 0, none⟩), .pointer (some ⟨w.heap.size + 1, 0, none⟩), .pointer (some ⟨w.heap.size + 1 + 1, 0, none⟩), .pointer (some ⟨w.heap.size + 1 + 1 + 1, 0, none⟩)] W2 (enter_Recover1 _) (fun U hU hltU => by
    have hBU := below_in hBW hU
    have hpb := prm_bounds hp
    have HAS := Lib.hid (fun (V : World) (g : Nat) (hV : Below U.heap.size U V) (bE : Blk V g 3 #[.int .i64 a, .int .i64 b]) => asked_yes p hp vA N vc hN g [a, b] (by simp) (good_two ha hab hb) V (hL.next (below_in hBU hV)) bE.lt (two_cells bE))
    have HOF := Lib.hid (fun (V : World) (g : Nat) (hV : Below U.heap.size U V) (bE : Blk V g 3 #[.int .i64 a, .int .i64 b]) => (by
      have h := of_no (B := B) p [a, b] [] ⟨by simp, by simp⟩ (by simp) g css (by omega) (by omega) (.slice vA N vc) (.slice none 0 0) V (hL.next (below_in hBU hV)) (Nat.le_trans hB (below_in hBU hV).size) bE.lt (two_cells bE) (.inl ⟨rfl, rfl⟩) (hC.below ((below_in hBU hV).mono hB)) hsm (by rw [List.append_nil]; exact hno)
      exact h : Calls Tryz.prog 46 #[.agg #[.int .i64 p, .slice (some ⟨g, 0, none⟩) 2 2], .slice vA N vc, .slice none 0 0] V fun e w' => e = .panicked (gave 2) ∧ Below V.heap.size V w'))
    have HSS : Hid (∀ V, Below U.heap.size U V → (fun U : World => U.cell? ⟨W2b, 0, none⟩ = some (.int .i64 p) ∧ U.cell? ⟨W2c, 0, none⟩ = some (.slice vA N vc) ∧ U.cell? ⟨W2d, 0, none⟩ = some (.int .i64 a) ∧ U.cell? ⟨W2e, 0, none⟩ = some (.int .i64 b)) V) := by
      rw [← hW2b, ← hW2c, ← hW2d, ← hW2e]
      exact fun V hV => ⟨((b0.below hU b0.lt).below hV (Nat.lt_of_lt_of_le b0.lt hU.size)).one, ((b1.below hU b1.lt).below hV (Nat.lt_of_lt_of_le b1.lt hU.size)).one, ((b2.below hU b2.lt).below hV (Nat.lt_of_lt_of_le b2.lt hU.size)).one, ((b3.below hU b3.lt).below hV (Nat.lt_of_lt_of_le b3.lt hU.size)).one⟩
    have hBx := (Below.refl U.heap.size U).drew
    rw [hW2e, hW2d, hW2c, hW2b]
    clear b0 b1 b2 b3 hW2 hL hW2e hW2d hW2c hW2b hno hp ha hab hb hcl hN hsm hC hB
    refine (callsIn_wide (n := 9)).1 ?_
    refine callsIn_of_wp_marks Tryz.func44 rfl trivial ?_ rfl
    simp only [Tryz.ntmps44, List.size_toArray, List.length_cons, List.length_nil, Nat.reduceAdd, Nat.reduceSub, Array.replicate_succ, Array.replicate_zero, List.push_toArray, List.append_toArray, List.nil_append, List.cons_append]
    gi_wp2_with fail
    have hS : (fun U : World => U.cell? ⟨W2b, 0, none⟩ = some (.int .i64 p) ∧ U.cell? ⟨W2c, 0, none⟩ = some (.slice vA N vc) ∧ U.cell? ⟨W2d, 0, none⟩ = some (.int .i64 a) ∧ U.cell? ⟨W2e, 0, none⟩ = some (.int .i64 b)) U.drew := HSS.out _ hBx
    refine wpIn_mono (region_HF (Q := GaveX 2 U) (S := (fun U : World => U.cell? ⟨W2b, 0, none⟩ = some (.int .i64 p) ∧ U.cell? ⟨W2c, 0, none⟩ = some (.slice vA N vc) ∧ U.cell? ⟨W2d, 0, none⟩ = some (.int .i64 a) ∧ U.cell? ⟨W2e, 0, none⟩ = some (.int .i64 b))) (by kernel_rfl) ?_) (fun e a w' h => by obtain ⟨rfl, hd, hB⟩ := h; obtain ⟨tm, df⟩ := a; have hd' : df = [] := hd; subst hd'; exact ⟨rfl, hB⟩)
    refine anyHF_take (i := 0) (d := 5) (v := .int .i64 p) (by kernel_rfl) rfl (by kernel_rfl) (by kernel_rfl) (by kernel_rfl) rfl (fun _ _ _ h => h) ⟨Or.inl ⟨by rfl, fun w hS => by obtain ⟨h0, h1, h2, h3⟩ := hS; go_simp⟩, fun _ => rfl⟩ hS ?_
    simp only [List.setIfInBounds_toArray, List.set_cons_zero, List.set_cons_succ]
    refine anyHF_take (i := 1) (d := 6) (v := .slice vA N vc) (by kernel_rfl) rfl (by kernel_rfl) (by kernel_rfl) (by kernel_rfl) rfl (fun _ _ _ h => h) ⟨Or.inl ⟨by rfl, fun w hS => by obtain ⟨h0, h1, h2, h3⟩ := hS; go_simp⟩, fun _ => rfl⟩ hS ?_
    simp only [List.setIfInBounds_toArray, List.set_cons_zero, List.set_cons_succ]
    refine anyHF_take (i := 2) (d := 7) (v := .int .i64 a) (by kernel_rfl) rfl (by kernel_rfl) (by kernel_rfl) (by kernel_rfl) rfl (fun _ _ _ h => h) ⟨Or.inl ⟨by rfl, fun w hS => by obtain ⟨h0, h1, h2, h3⟩ := hS; go_simp⟩, fun _ => rfl⟩ hS ?_
    simp only [List.setIfInBounds_toArray, List.set_cons_zero, List.set_cons_succ]
    refine anyHF_take (i := 3) (d := 8) (v := .int .i64 b) (by kernel_rfl) rfl (by kernel_rfl) (by kernel_rfl) (by kernel_rfl) rfl (fun _ _ _ h => h) ⟨Or.inl ⟨by rfl, fun w hS => by obtain ⟨h0, h1, h2, h3⟩ := hS; go_simp⟩, fun _ => rfl⟩ hS ?_
    simp only [List.setIfInBounds_toArray, List.set_cons_zero, List.set_cons_succ]
    refine anyHF_take (i := 6) (d := 11) (v := .slice vA N vc) (by kernel_rfl) rfl (by kernel_rfl) (by kernel_rfl) (by kernel_rfl) rfl (fun _ _ _ h => h) ⟨Or.inl ⟨by rfl, fun w hS => by obtain ⟨h0, h1, h2, h3⟩ := hS; go_simp⟩, fun _ => rfl⟩ hS ?_
    simp only [List.setIfInBounds_toArray, List.set_cons_zero, List.set_cons_succ]
    refine anyHF_one (i := 4) (by kernel_rfl) rfl (by kernel_rfl) (by rfl) ?_
    have hgl_g2 := hBx.size
    have hB : Below U.drew.heap.size U.drew (U.drew.alloc (.cells #[.int .i64 a, .int .i64 b] 3)) := below_one U.drew _
    have bE : Blk (U.drew.alloc (.cells #[.int .i64 a, .int .i64 b] 3)) U.drew.heap.size 3 #[.int .i64 a, .int .i64 b] := Blk.new U.drew _ _
    obtain ⟨v1, he_v1⟩ : ∃ x, (U.drew.alloc (.cells #[.int .i64 a, .int .i64 b] 3)) = x := ⟨_, rfl⟩
    obtain ⟨g2, hg_g2⟩ : ∃ x, U.drew.heap.size = x := ⟨_, rfl⟩
    rw [he_v1] at hB bE
    rw [hg_g2] at bE
    replace hBx := below_in hBx hB
    clear hS
    have hS : (fun U : World => U.cell? ⟨W2b, 0, none⟩ = some (.int .i64 p) ∧ U.cell? ⟨W2c, 0, none⟩ = some (.slice vA N vc) ∧ U.cell? ⟨W2d, 0, none⟩ = some (.int .i64 a) ∧ U.cell? ⟨W2e, 0, none⟩ = some (.int .i64 b)) v1 := HSS.out _ hBx
    gi_wp2
    (try rw [hg_g2]); (try rw [he_v1])
    try (refine ⟨hS, ?_⟩)
    clear hB he_v1 hg_g2
    refine anyHF_one (i := 5) (by kernel_rfl) rfl (by kernel_rfl) (by rfl) ?_
    gi_wp2_with fail
    refine ⟨trivial, (callsIn_wide.2 (HAS.out _ g2 hBx bE)).mono ?_⟩
    rintro e v3 ⟨rfl, hB⟩
    replace bE := bE.below hB bE.lt
    replace hBx := below_in hBx hB
    clear hS
    have hS : (fun U : World => U.cell? ⟨W2b, 0, none⟩ = some (.int .i64 p) ∧ U.cell? ⟨W2c, 0, none⟩ = some (.slice vA N vc) ∧ U.cell? ⟨W2d, 0, none⟩ = some (.int .i64 a) ∧ U.cell? ⟨W2e, 0, none⟩ = some (.int .i64 b)) v3 := HSS.out _ hBx
    clear hB
    gi_wp2
    try (refine ⟨hS, ?_⟩)
    refine anyHF_one (i := 7) (by kernel_rfl) rfl (by kernel_rfl) (by rfl) ?_
    gi_wp2_with fail
    refine ⟨trivial, (callsIn_wide.2 (HOF.out _ g2 hBx bE)).mono ?_⟩
    rintro e wp ⟨rfl, hB1⟩
    exact ⟨rfl, rfl, below_in hBx hB1⟩))
  clear b0 b1 b2 b3 hL hW2e hW2d hW2c hW2b hno hp ha hab hb hcl hN hsm hC hB
  go_enter Tryz.func15, Tryz.ntmps15
  have hmf : ∀ (fn : Fn) (first cap : Array Value) (w : World), (Instr.makeFunc fn first cap).run Tryz.prog w = .ok (.func fn first cap) w := fun _ _ _ _ => rfl
  go_wp2_with (go_at_call 43; refine HA.out.mono ?_; rintro e w1 ⟨rfl, hB1⟩)
  go_ret2
  exact ⟨rfl, below_in hBW hB1⟩
end Go.Proofs.YtfihlelhpmjpaaaGreatDoor.T

