/- chain: Alone. chain: Alone, where it tells none. -/
import Derived.Laws.StructEq
import Derived.Maps.OwnIn
import Derived.Maps.OwnSet
import Derived.Laws.EntriesVeiled
import Derived.Deep.AppendLies
import Derived.RangeFuncNested
import Derived.Shelf.RegionOpen
import Derived.Laws.OwnMore
import Derived.Test.YtfihlelhpmjpaaaGreatDoorCRG19m2
import Derived.Test.YtfihlelhpmjpaaaGreatDoorCRG21m3
import Derived.Test.YtfihlelhpmjpaaaGreatDoorCRG21m10
namespace Go.Proofs.YtfihlelhpmjpaaaGreatDoor.T
open Go.RowKit Go.Shelf Go.Maps Go.Proofs.YtfihlelhpmjpaaaGreatDoor.C Go.Proofs.YtfihlelhpmjpaaaGreatDoor.E Go.Proofs.YtfihlelhpmjpaaaGreatDoor.Ch
set_option linter.unusedSimpArgs false
set_option linter.unusedVariables false
attribute [local go_sem] Oper.semAt_some

theorem bad_one {p a : Int} (h : ¬ (0 ≤ a ∧ a < p)) : ¬ GoodL p [a] 0 := fun h2 => h h2.1
end Go.Proofs.YtfihlelhpmjpaaaGreatDoor.T

namespace Go.Proofs.YtfihlelhpmjpaaaGreatDoor.T
open Go.RowKit Go.Shelf Go.Maps Go.Proofs.YtfihlelhpmjpaaaGreatDoor.C Go.Proofs.YtfihlelhpmjpaaaGreatDoor.E Go.Proofs.YtfihlelhpmjpaaaGreatDoor.Ch
set_option linter.unusedSimpArgs false
set_option linter.unusedVariables false
attribute [local go_sem] Oper.semAt_some

set_option maxRecDepth 100000 in
set_option maxHeartbeats 8000000 in
theorem alone_no2 (p a : Int) (vA : Option Addr) (N vc : Nat) (hno : ¬ (p ∈ prm ∧ (N : Int) = p + 2)) (w : World) (hL : Laid w) :
    Calls Tryz.prog 22 #[.int .i64 p, .slice vA N vc, .int .i64 a] w fun e w' => e = .returned (.tuple #[.slice none 0 0, .int .i64 2]) ∧ Below w.heap.size w w' := by
  obtain ⟨W2, hW2⟩ : ∃ x, ((w.alloc (.cells #[.int .i64 p] 3)).alloc (.cells #[.slice vA N vc] 22)).alloc (.cells #[.int .i64 a] 3) = x := ⟨_, rfl⟩
  have b0 : Blk W2 (w.heap.size) 3 #[.int .i64 p] := by rw [← hW2]; exact ((Blk.new w _ _).alloc _).alloc _
  have b1 : Blk W2 (w.heap.size + 1) 22 #[.slice vA N vc] := by rw [← hW2]; exact (Blk.second w _ _ _).alloc _
  have b2 : Blk W2 (w.heap.size + 1 + 1) 3 #[.int .i64 a] := by rw [← hW2]; exact Rg.Blk.at_ (Blk.new _ _ _) (by simp)
  have hBW : Below w.heap.size w W2 := by rw [← hW2]; exact ((below_two w _ _)).alloc (by simp; omega) _
  obtain ⟨W2b, hW2b⟩ : ∃ x, w.heap.size = x := ⟨_, rfl⟩
  obtain ⟨W2c, hW2c⟩ : ∃ x, w.heap.size + 1 = x := ⟨_, rfl⟩
  obtain ⟨W2d, hW2d⟩ : ∃ x, w.heap.size + 1 + 1 = x := ⟨_, rfl⟩
  have HA := Lib.hid (Go.Proofs.YtfihlelhpmjpaaaGreatDoor.Ch.ans_C_no 2 55 #[.pointer (some ⟨w.heap.size, 0, none⟩), .pointer (some ⟨w.heap.size + 1, 0, none⟩), .pointer (some ⟨w.heap.size + 1 + 1, 0, none⟩)] W2 (enter_Alone1 _) (fun U hU hltU => by
    have hBU := below_in hBW hU
    have HAS := Lib.hid (fun (V : World) (g : Nat) (hV : Below U.heap.size U V) (bE : Blk V g 3 #[.int .i64 a]) => asked_no2 p vA (some ⟨g, 0, none⟩) N vc 1 1 hno V (hL.next (below_in hBU hV)))
    have b0x := b0.below hU b0.lt
    have b1x := b1.below hU b1.lt
    have b2x := b2.below hU b2.lt
    rw [hW2b] at b0x
    rw [hW2c] at b1x
    rw [hW2d] at b2x
    have j0 := b0x.one
    have j1 := b1x.one
    have j2 := b2x.one
    rw [hW2d, hW2c, hW2b]
    clear b0 b1 b2 hW2 hL hW2d hW2c hW2b hBU hno
    refine (callsIn_wide (n := 9)).1 ?_
    refine callsIn_of_wp_marks Tryz.func55 rfl trivial ?_ rfl
    simp only [Tryz.ntmps55, List.size_toArray, List.length_cons, List.length_nil, Nat.reduceAdd, Nat.reduceSub, Array.replicate_succ, Array.replicate_zero, List.push_toArray, List.append_toArray, List.nil_append, List.cons_append]
    gi_wp2_with fail
    have hBe := below_one U (.cells #[.int .i64 a] 3)
    have bL := Blk.new U 3 #[.int .i64 a]
    obtain ⟨wl, hwl⟩ : ∃ x, U.alloc (.cells #[.int .i64 a] 3) = x := ⟨_, rfl⟩
    obtain ⟨gl, hgl⟩ : ∃ x, U.heap.size = x := ⟨_, rfl⟩
    rw [hwl] at hBe bL ⊢
    rw [hgl] at bL ⊢
    refine ⟨trivial, (callsIn_wide.2 (HAS.out wl gl hBe bL)).mono ?_⟩
    rintro e w5 ⟨rfl, hB5⟩
    exact ⟨rfl, below_in hBe hB5⟩))
  clear b0 b1 b2 hL hW2d hW2c hW2b hno
  go_enter Tryz.func22, Tryz.ntmps22
  have hmf : ∀ (fn : Fn) (first cap : Array Value) (w : World), (Instr.makeFunc fn first cap).run Tryz.prog w = .ok (.func fn first cap) w := fun _ _ _ _ => rfl
  go_wp2_with (go_at_call 54; refine HA.out.mono ?_; rintro e w1 ⟨rfl, hB1⟩)
  go_ret2
  exact ⟨rfl, below_in hBW hB1⟩
set_option maxRecDepth 100000 in
set_option maxHeartbeats 8000000 in
theorem alone_no4 (p a : Int) (hp : p ∈ prm) (vA : Option Addr) (N vc : Nat) (hN : (N : Int) = p + 2) (hno : ¬ (0 ≤ a ∧ a < p)) (w : World) (hL : Laid w) :
    Calls Tryz.prog 22 #[.int .i64 p, .slice vA N vc, .int .i64 a] w fun e w' => e = .returned (.tuple #[.slice none 0 0, .int .i64 4]) ∧ Below w.heap.size w w' := by
  obtain ⟨W2, hW2⟩ : ∃ x, ((w.alloc (.cells #[.int .i64 p] 3)).alloc (.cells #[.slice vA N vc] 22)).alloc (.cells #[.int .i64 a] 3) = x := ⟨_, rfl⟩
  have b0 : Blk W2 (w.heap.size) 3 #[.int .i64 p] := by rw [← hW2]; exact ((Blk.new w _ _).alloc _).alloc _
  have b1 : Blk W2 (w.heap.size + 1) 22 #[.slice vA N vc] := by rw [← hW2]; exact (Blk.second w _ _ _).alloc _
  have b2 : Blk W2 (w.heap.size + 1 + 1) 3 #[.int .i64 a] := by rw [← hW2]; exact Rg.Blk.at_ (Blk.new _ _ _) (by simp)
  have hBW : Below w.heap.size w W2 := by rw [← hW2]; exact ((below_two w _ _)).alloc (by simp; omega) _
  obtain ⟨W2b, hW2b⟩ : ∃ x, w.heap.size = x := ⟨_, rfl⟩
  obtain ⟨W2c, hW2c⟩ : ∃ x, w.heap.size + 1 = x := ⟨_, rfl⟩
  obtain ⟨W2d, hW2d⟩ : ∃ x, w.heap.size + 1 + 1 = x := ⟨_, rfl⟩
  have HA := Lib.hid (Go.Proofs.YtfihlelhpmjpaaaGreatDoor.Ch.ans_C_no 4 55 #[.pointer (some ⟨w.heap.size, 0, none⟩), .pointer (some ⟨w.heap.size + 1, 0, none⟩), .pointer (some ⟨w.heap.size + 1 + 1, 0, none⟩)] W2 (enter_Alone1 _) (fun U hU hltU => by
    have hBU := below_in hBW hU
    have HAS := Lib.hid (fun (V : World) (g : Nat) (hV : Below U.heap.size U V) (bE : Blk V g 3 #[.int .i64 a]) => asked_no4 p hp vA N vc hN g [a] (by simp) 0 (by simp) (fun i hi => absurd hi (by omega)) (bad_one hno) V (hL.next (below_in hBU hV)) bE.lt (one_cell bE))
    have b0x := b0.below hU b0.lt
    have b1x := b1.below hU b1.lt
    have b2x := b2.below hU b2.lt
    rw [hW2b] at b0x
    rw [hW2c] at b1x
    rw [hW2d] at b2x
    have j0 := b0x.one
    have j1 := b1x.one
    have j2 := b2x.one
    rw [hW2d, hW2c, hW2b]
    clear b0 b1 b2 hW2 hL hW2d hW2c hW2b hBU hno hp hN
    refine (callsIn_wide (n := 9)).1 ?_
    refine callsIn_of_wp_marks Tryz.func55 rfl trivial ?_ rfl
    simp only [Tryz.ntmps55, List.size_toArray, List.length_cons, List.length_nil, Nat.reduceAdd, Nat.reduceSub, Array.replicate_succ, Array.replicate_zero, List.push_toArray, List.append_toArray, List.nil_append, List.cons_append]
    gi_wp2_with fail
    have hBe := below_one U (.cells #[.int .i64 a] 3)
    have bL := Blk.new U 3 #[.int .i64 a]
    obtain ⟨wl, hwl⟩ : ∃ x, U.alloc (.cells #[.int .i64 a] 3) = x := ⟨_, rfl⟩
    obtain ⟨gl, hgl⟩ : ∃ x, U.heap.size = x := ⟨_, rfl⟩
    rw [hwl] at hBe bL ⊢
    rw [hgl] at bL ⊢
    refine ⟨trivial, (callsIn_wide.2 (HAS.out wl gl hBe bL)).mono ?_⟩
    rintro e w5 ⟨rfl, hB5⟩
    exact ⟨rfl, below_in hBe hB5⟩))
  clear b0 b1 b2 hL hW2d hW2c hW2b hno hp hN
  go_enter Tryz.func22, Tryz.ntmps22
  have hmf : ∀ (fn : Fn) (first cap : Array Value) (w : World), (Instr.makeFunc fn first cap).run Tryz.prog w = .ok (.func fn first cap) w := fun _ _ _ _ => rfl
  go_wp2_with (go_at_call 54; refine HA.out.mono ?_; rintro e w1 ⟨rfl, hB1⟩)
  go_ret2
  exact ⟨rfl, below_in hBW hB1⟩
set_option maxRecDepth 100000 in
set_option maxHeartbeats 8000000 in
theorem alone_noK {B : Nat} (p a : Int) (hp : p ∈ prm) (ha : 0 ≤ a) (haP : a < p) (css : List (List (List UInt8))) (N : Nat) (hcl : css.length = N) (vA : Option Addr) (vc : Nat) (hN : (N : Int) = p + 2) (hsm : ∀ j, j < css.length → (css[j]?.getD []).length ≤ 1000) (hno : ¬ RightD p (kept [a, p] css css.length)) (w : World) (hL : Laid w) (hB : B ≤ w.heap.size) (hC : Cols B w (.slice vA N vc) css) :
    Calls Tryz.prog 22 #[.int .i64 p, .slice vA N vc, .int .i64 a] w fun e w' => e = .returned (.tuple #[.slice none 0 0, .int .i64 2]) ∧ Below w.heap.size w w' := by
  have hpb := prm_bounds hp
  obtain ⟨W2, hW2⟩ : ∃ x, ((w.alloc (.cells #[.int .i64 p] 3)).alloc (.cells #[.slice vA N vc] 22)).alloc (.cells #[.int .i64 a] 3) = x := ⟨_, rfl⟩
  have b0 : Blk W2 (w.heap.size) 3 #[.int .i64 p] := by rw [← hW2]; exact ((Blk.new w _ _).alloc _).alloc _
  have b1 : Blk W2 (w.heap.size + 1) 22 #[.slice vA N vc] := by rw [← hW2]; exact (Blk.second w _ _ _).alloc _
  have b2 : Blk W2 (w.heap.size + 1 + 1) 3 #[.int .i64 a] := by rw [← hW2]; exact Rg.Blk.at_ (Blk.new _ _ _) (by simp)
  have hBW : Below w.heap.size w W2 := by rw [← hW2]; exact ((below_two w _ _)).alloc (by simp; omega) _
  obtain ⟨W2b, hW2b⟩ : ∃ x, w.heap.size = x := ⟨_, rfl⟩
  obtain ⟨W2c, hW2c⟩ : ∃ x, w.heap.size + 1 = x := ⟨_, rfl⟩
  obtain ⟨W2d, hW2d⟩ : ∃ x, w.heap.size + 1 + 1 = x := ⟨_, rfl⟩
  have HA := Lib.hid (Go.Proofs.YtfihlelhpmjpaaaGreatDoor.Ch.ans_C_no 2 55 #[.pointer (some ⟨w.heap.size, 0, none⟩), .pointer (some ⟨w.heap.size + 1, 0, none⟩), .pointer (some ⟨w.heap.size + 1 + 1, 0, none⟩)] W2 (enter_Alone1 _) (fun U hU hltU => by
    have hBU := below_in hBW hU
    have HAS := Lib.hid (fun (V : World) (g : Nat) (hV : Below U.heap.size U V) (bE : Blk V g 3 #[.int .i64 a]) => asked_yes p hp vA N vc hN g [a] (by simp) (good_one ha haP) V (hL.next (below_in hBU hV)) bE.lt (one_cell bE))
    have HOF := Lib.hid (fun (V : World) (gl gE : Nat) (hV : Below U.heap.size U V) (bL : Blk V gl 3 #[.int .i64 a]) (bE : Blk V gE 3 #[.int .i64 p]) => (by
      have h := of_no (B := B) p [a] [p] ⟨by simp, by simp⟩ (by simp) gl css (by omega) (by omega) (.slice vA N vc) (.slice (some ⟨gE, 0, none⟩) 1 1) V (hL.next (below_in hBU hV)) (Nat.le_trans hB (below_in hBU hV).size) bL.lt (one_cell bL) (one_vals bE) (hC.below ((below_in hBU hV).mono hB)) hsm hno
      exact h : Calls Tryz.prog 46 #[.agg #[.int .i64 p, .slice (some ⟨gl, 0, none⟩) 1 1], .slice vA N vc, .slice (some ⟨gE, 0, none⟩) 1 1] V fun e w' => e = .panicked (gave 2) ∧ Below V.heap.size V w'))
    have b0x := b0.below hU b0.lt
    have b1x := b1.below hU b1.lt
    have b2x := b2.below hU b2.lt
    rw [hW2b] at b0x
    rw [hW2c] at b1x
    rw [hW2d] at b2x
    have j0 := b0x.one
    have j1 := b1x.one
    have j2 := b2x.one
    rw [hW2d, hW2c, hW2b]
    have HBU := Lib.hid hBU
    clear b0 b1 b2 hW2 hL hW2d hW2c hW2b hBU hno hp ha haP hcl hN hsm hC hB hpb
    refine (callsIn_wide (n := 9)).1 ?_
    refine callsIn_of_wp_marks Tryz.func55 rfl trivial ?_ rfl
    simp only [Tryz.ntmps55, List.size_toArray, List.length_cons, List.length_nil, Nat.reduceAdd, Nat.reduceSub, Array.replicate_succ, Array.replicate_zero, List.push_toArray, List.append_toArray, List.nil_append, List.cons_append]
    gi_wp2_with fail
    have hBe := below_one U (.cells #[.int .i64 a] 3)
    have bL := Blk.new U 3 #[.int .i64 a]
    obtain ⟨wl, hwl⟩ : ∃ x, U.alloc (.cells #[.int .i64 a] 3) = x := ⟨_, rfl⟩
    obtain ⟨gl, hgl⟩ : ∃ x, U.heap.size = x := ⟨_, rfl⟩
    rw [hwl] at hBe bL ⊢
    rw [hgl] at bL ⊢
    refine ⟨trivial, (callsIn_wide.2 (HAS.out wl gl hBe bL)).mono ?_⟩
    rintro e w5 ⟨rfl, hB5⟩
    have hBu5 := below_in hBe hB5
    replace bL := bL.below hB5 bL.lt
    gi_wp2_with fail
    have hB6 := below_one w5 (.cells #[.int .i64 p, .slice (some ⟨gl, 0, none⟩) 1 1] 70)
    have b6 := Blk.new w5 70 #[.int .i64 p, .slice (some ⟨gl, 0, none⟩) 1 1]
    obtain ⟨w6, hw6⟩ : ∃ x, w5.alloc (.cells #[.int .i64 p, .slice (some ⟨gl, 0, none⟩) 1 1] 70) = x := ⟨_, rfl⟩
    obtain ⟨g6, hg6⟩ : ∃ x, w5.heap.size = x := ⟨_, rfl⟩
    rw [hw6] at hB6 b6 ⊢
    rw [hg6] at b6 ⊢
    have hBx6 := below_in hBu5 hB6
    replace bL := bL.below hB6 bL.lt
    replace b1x := b1x.below hBx6 b1x.lt
    have hbl := b1x.lt
    have HSS : Hid (∀ V, Below w6.heap.size w6 V → (fun U : World => U.cell? ⟨W2c, 0, none⟩ = some (.slice vA N vc) ∧ U.cell? ⟨g6, 0, none⟩ = some (.int .i64 p) ∧ U.cell? ⟨g6, 1, none⟩ = some (.slice (some ⟨gl, 0, none⟩) 1 1)) V) := fun V hV => by
      have h6 := b6.below hV b6.lt
      exact ⟨(b1x.below hV b1x.lt).one, h6.cell 0, h6.cell 1⟩
    have hBx := (Below.refl w6.heap.size w6).drew
    replace bL := bL.below hBx bL.lt
    have hS : (fun U : World => U.cell? ⟨W2c, 0, none⟩ = some (.slice vA N vc) ∧ U.cell? ⟨g6, 0, none⟩ = some (.int .i64 p) ∧ U.cell? ⟨g6, 1, none⟩ = some (.slice (some ⟨gl, 0, none⟩) 1 1)) w6.drew := HSS.out _ hBx
    clear b1x b6 hB6 hBu5 hB5 hBe j0 j1 j2 hw6 hg6 hwl hgl b0x b2x
    (try gi_wp2_with fail)
    refine wpIn_mono (region_HF (Q := GaveX 2 U) (S := (fun U : World => U.cell? ⟨W2c, 0, none⟩ = some (.slice vA N vc) ∧ U.cell? ⟨g6, 0, none⟩ = some (.int .i64 p) ∧ U.cell? ⟨g6, 1, none⟩ = some (.slice (some ⟨gl, 0, none⟩) 1 1))) (by kernel_rfl) ?_) (fun e a w' h => by obtain ⟨rfl, hd, hB⟩ := h; obtain ⟨tm, df⟩ := a; have hd' : df = [] := hd; subst hd'; exact ⟨rfl, hB⟩)
    refine anyHF_take (i := 0) (d := 10) (v := .agg #[.int .i64 p, .slice (some ⟨gl, 0, none⟩) 1 1]) (by kernel_rfl) rfl (by kernel_rfl) (by kernel_rfl) (by kernel_rfl) rfl (fun _ _ _ h => h) ⟨Or.inl ⟨by rfl, fun w hS => by obtain ⟨h0, h1, h2⟩ := hS; go_simp⟩, fun _ => rfl⟩ hS ?_
    simp only [List.setIfInBounds_toArray, List.set_cons_zero, List.set_cons_succ]
    refine anyHF_take (i := 1) (d := 11) (v := .slice vA N vc) (by kernel_rfl) rfl (by kernel_rfl) (by kernel_rfl) (by kernel_rfl) rfl (fun _ _ _ h => h) ⟨Or.inl ⟨by rfl, fun w hS => by obtain ⟨h0, h1, h2⟩ := hS; go_simp⟩, fun _ => rfl⟩ hS ?_
    simp only [List.setIfInBounds_toArray, List.set_cons_zero, List.set_cons_succ]
    refine anyHF_take (i := 2) (d := 12) (v := .pointer (some ⟨g6, 0, none⟩)) (by kernel_rfl) rfl (by kernel_rfl) (by kernel_rfl) (by kernel_rfl) rfl (fun _ _ _ h => h) ⟨Or.inl ⟨by rfl, fun w hS => by obtain ⟨h0, h1, h2⟩ := hS; go_simp⟩, fun _ => rfl⟩ hS ?_
    simp only [List.setIfInBounds_toArray, List.set_cons_zero, List.set_cons_succ]
    refine anyHF_take (i := 3) (d := 13) (v := .int .i64 p) (by kernel_rfl) rfl (by kernel_rfl) (by kernel_rfl) (by kernel_rfl) rfl (fun _ _ _ h => h) ⟨Or.inl ⟨by rfl, fun w hS => by obtain ⟨h0, h1, h2⟩ := hS; go_simp⟩, fun _ => rfl⟩ hS ?_
    simp only [List.setIfInBounds_toArray, List.set_cons_zero, List.set_cons_succ]
    refine anyHF_one (i := 4) (by kernel_rfl) rfl (by kernel_rfl) (by rfl) ?_
    gi_wp2_with fail
    refine ⟨trivial, (callsIn_wide.2 (rowsAt_any p _)).mono ?_⟩
    rintro e v1 ⟨rfl, rfl⟩
    gi_wp2
    try (refine ⟨hS, ?_⟩)
    refine anyHF_one (i := 5) (by kernel_rfl) rfl (by kernel_rfl) (by rfl) ?_
    have hgl_g3 := hBx.size
    have hB : Below w6.drew.heap.size w6.drew (w6.drew.alloc (.cells #[.int .i64 p] 3)) := below_one w6.drew _
    have bE : Blk (w6.drew.alloc (.cells #[.int .i64 p] 3)) w6.drew.heap.size 3 #[.int .i64 p] := Blk.new w6.drew _ _
    obtain ⟨v2, he_v2⟩ : ∃ x, (w6.drew.alloc (.cells #[.int .i64 p] 3)) = x := ⟨_, rfl⟩
    obtain ⟨g3, hg_g3⟩ : ∃ x, w6.drew.heap.size = x := ⟨_, rfl⟩
    rw [he_v2] at hB bE
    rw [hg_g3] at bE
    replace bL := bL.below hB bL.lt
    replace hBx := below_in hBx hB
    clear hS
    have hS : (fun U : World => U.cell? ⟨W2c, 0, none⟩ = some (.slice vA N vc) ∧ U.cell? ⟨g6, 0, none⟩ = some (.int .i64 p) ∧ U.cell? ⟨g6, 1, none⟩ = some (.slice (some ⟨gl, 0, none⟩) 1 1)) v2 := HSS.out _ hBx
    gi_wp2
    (try rw [hg_g3]); (try rw [he_v2])
    try (refine ⟨hS, ?_⟩)
    clear hB he_v2 hg_g3
    refine anyHF_one (i := 6) (by kernel_rfl) rfl (by kernel_rfl) (by rfl) ?_
    gi_wp2_with fail
    refine ⟨trivial, (callsIn_wide.2 (HOF.out _ gl g3 (below_in hBx6 hBx) bL bE)).mono ?_⟩
    rintro e wp ⟨rfl, hB1⟩
    exact ⟨rfl, rfl, below_in (below_in hBx6 hBx) hB1⟩))
  clear b0 b1 b2 hL hW2d hW2c hW2b hno hp ha haP hcl hN hsm hC hB hpb
  go_enter Tryz.func22, Tryz.ntmps22
  have hmf : ∀ (fn : Fn) (first cap : Array Value) (w : World), (Instr.makeFunc fn first cap).run Tryz.prog w = .ok (.func fn first cap) w := fun _ _ _ _ => rfl
  go_wp2_with (go_at_call 54; refine HA.out.mono ?_; rintro e w1 ⟨rfl, hB1⟩)
  go_ret2
  exact ⟨rfl, below_in hBW hB1⟩
end Go.Proofs.YtfihlelhpmjpaaaGreatDoor.T

