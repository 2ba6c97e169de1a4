/- The columns of EVENODD: Right. The columns of EVENODD: the cells of a row. The columns of EVENODD: lists of cells one behind the other. The columns of EVENODD: cells put upon one another, and upon tho -/
import Derived.Lib.AppendZeros
import Derived.Laws.OwnMore
import Derived.Test.YtfihlelhpmjpaaaGreatDoorCRG1
namespace Go.Proofs.YtfihlelhpmjpaaaGreatDoor.E
open Go.RowKit Go.Shelf Go.Proofs.YtfihlelhpmjpaaaGreatDoor.C
set_option linter.unusedSimpArgs false
set_option linter.unusedVariables false
attribute [local go_sem] Oper.semAt_some


/-- What is answered when nothing gave up. -/
theorem idle_K (p : Addr) (w : World) :
    CallsD Tryz.prog 203 #[.pointer (some p)] .returning w fun e u' w' => e = .returned (.tuple #[]) ∧ u' = .returning ∧ w' = w := by
  have hta := assert_errno
  refine callsD_of_wpS Tryz.func203 rfl fun c₀ cs hu => ?_
  simp only [Tryz.ntmps203, List.size_toArray, List.length_cons, List.length_nil, Nat.reduceAdd, Nat.reduceSub, Array.replicate_succ, Array.replicate_zero, List.push_toArray, List.append_toArray, List.nil_append, List.cons_append]
  apply wpS_seq
  apply wpS_region
  simp [wpOpsS, go_sem, recoverD, hu, Exit.thenS]
  all_goals (refine wpS_of_wp ?_; go_wp2; cases c₀; simp_all [bodyPostS, results, Tryz.results203])
theorem two_blks (w : World) {w1 : World} (hB1 : Below ((w.alloc (.cells #[.int .i64 0, .slice none 0 0] 166)).alloc (.cells #[.int .i64 0] 25)).heap.size ((w.alloc (.cells #[.int .i64 0, .slice none 0 0] 166)).alloc (.cells #[.int .i64 0] 25)) w1) : Blk w1 w.heap.size 166 #[.int .i64 0, .slice none 0 0] ∧ Blk w1 (w.heap.size + 1) 25 #[.int .i64 0] :=
  ⟨((Blk.new w _ _).alloc _).below hB1 (by simp; omega), (Blk.second w _ _ _).below hB1 (by simp)⟩
set_option maxHeartbeats 1000000 in
theorem ans_K_yes (f : Nat) (caps : Array Value) (w : World) (p : Int) (A : Option Addr) (n c : Nat) (hent : ∀ W, (callFunc f caps).run Tryz.prog W = .ok (.enter f caps) W)
    (h : ∀ W, Below w.heap.size w W → Calls Tryz.prog f caps W fun e w' => e = .returned (.agg #[.int .i64 p, .slice A n c]) ∧ Below W.heap.size W w') :
    Calls Tryz.prog 152 #[.func (.func f) #[] caps] w fun e w' => e = .returned (.tuple #[.agg #[.int .i64 p, .slice A n c], .int .i64 0]) ∧ Below w.heap.size w w' := by
  have hmf : ∀ (fn : Fn) (first cap : Array Value) (w : World), (Instr.makeFunc fn first cap).run Tryz.prog w = .ok (.func fn first cap) w := fun _ _ _ _ => rfl
  have hBa := below_two w (.cells #[.int .i64 0, .slice none 0 0] 166) (.cells #[.int .i64 0] 25)
  have h1 := h _ hBa
  clear h
  go_enter_defers Tryz.func152, Tryz.ntmps152
  go_wp2
  refine h1.mono ?_
  rintro e w1 ⟨rfl, hB1⟩
  obtain ⟨b0, b1⟩ := two_blks w hB1
  have c0 := b0.cell 0
  have c1 := b0.cell 1
  have c2 := b1.cell 0
  have f0 := b0.frozen 0
  have f1 := b0.frozen 1
  have f2 := b1.frozen 0
  simp only [List.getElem?_toArray, List.getElem?_cons_zero, List.getElem?_cons_succ] at c0 c1 c2
  have hBw := below_in hBa hB1
  go_wp2
  obtain ⟨ww, hww⟩ : ∃ ww, ((w1.setCell ⟨w.heap.size, 0, none⟩ (.int .i64 p)).setCell ⟨w.heap.size, 1, none⟩ (.slice A n c)).setCell ⟨w.heap.size + 1, 0, none⟩ (.int .i64 0) = ww := ⟨_, rfl⟩
  have d0 : Blk ww w.heap.size 166 #[.int .i64 p, .slice A n c] := by
    rw [← hww]
    exact Blk.far ((b0.set_ 0 (.int .i64 p)).set_ 1 (.slice A n c)) (by simp) _
  have d1 : Blk ww (w.heap.size + 1) 25 #[.int .i64 0] := by
    rw [← hww]
    exact (Blk.far (Blk.far b1 (by simp) _) (by simp) _).set_ 0 (.int .i64 0)
  have hBz : Below w.heap.size w ww := by
    rw [← hww]
    exact ((hBw.setCell (Nat.le_refl _) _).setCell (Nat.le_refl _) _).setCell (Nat.le_succ _) _
  rw [hww]
  have e0 := d0.cell 0
  have e1 := d0.cell 1
  have e2 := d1.cell 0
  simp only [List.getElem?_toArray, List.getElem?_cons_zero, List.getElem?_cons_succ] at e0 e1 e2
  refine leaves_cons (f := 203) (args := #[.pointer (some ⟨w.heap.size + 1, 0, none⟩)]) (by simp) (by simp [go_sem]) ?_
  refine (idle_K ⟨w.heap.size + 1, 0, none⟩ _).mono ?_
  rintro e u' w'' ⟨rfl, rfl, rfl⟩
  simp [Go.Leaves, settle, results, Tryz.results152, go_sem, e0, e1, e2]
  exact hBz
theorem enter_right1 : ∀ args W, (callFunc 153 args).run Tryz.prog W = .ok (.enter 153 args) W := enters_of Tryz.func153 (by kernel_rfl) rfl

set_option maxRecDepth 100000 in
set_option maxHeartbeats 1000000 in
theorem right_yes {B : Nat} (p : Int) (v : Value) (css : List (List (List UInt8))) (w : World) (hL : Laid w) (hB : B ≤ w.heap.size) (hC : Cols B w v css) (hlen : css.length ≤ 1000) (hok : RightD p css) :
    Calls Tryz.prog 96 #[.int .i64 p, v] w fun e w' => e = .returned (.bool true) ∧ Below w.heap.size w w' := by
  obtain ⟨A, cap, rfl, _, _⟩ := id hC
  obtain ⟨W2, hW2⟩ : ∃ W2, (w.alloc (.cells #[.int .i64 p] 3)).alloc (.cells #[.slice A css.length cap] 22) = W2 := ⟨_, rfl⟩
  have b0 : Blk W2 w.heap.size 3 #[.int .i64 p] := by rw [← hW2]; exact (Blk.new w _ _).alloc _
  have b1 : Blk W2 (w.heap.size + 1) 22 #[.slice A css.length cap] := by rw [← hW2]; exact Blk.second w _ _ _
  have hBW : Below w.heap.size w W2 := by rw [← hW2]; exact below_two w _ _
  have hL2 := hL.next hBW
  have hpp := prm_bounds hok.1
  have hR : RightC 1 p := ⟨by omega, hok.1⟩
  have hr : p - 1 = (((p - 1).toNat : Nat) : Int) := by omega
  have HA := Lib.hid (ans_K_yes 153 #[.pointer (some ⟨w.heap.size, 0, none⟩), .pointer (some ⟨w.heap.size + 1, 0, none⟩)] W2 p A css.length cap (enter_right1 _) (fun U hU => by
    have hLU := hL2.next hU
    have hBU := below_in hBW hU
    have hCU := hC.below (hBU.mono hB)
    have HPP := Lib.hid (fun (V : World) (hV : Below U.heap.size U V) => primeOf_yes p hR V (hLU.next hV))
    have HT := Lib.hid (fun (V : World) (hV : Below U.heap.size U V) => together_yes (B := B) p _ hR hr (.slice A css.length cap) css V (hLU.next hV) (Nat.le_trans hB (Nat.le_trans hBU.size hV.size)) (hCU.below (hV.mono (Nat.le_trans hB hBU.size))) hlen hok.2)
    have c0 := (b0.below hU b0.lt).one
    have c1 := (b1.below hU b1.lt).one
    have hSS := Lib.hid (fun (V : World) (hV : Below U.heap.size U V) => (⟨(hV.cell (p := ⟨w.heap.size, 0, none⟩) (b0.below hU b0.lt).lt).trans c0, (hV.cell (p := ⟨w.heap.size + 1, 0, none⟩) (b1.below hU b1.lt).lt).trans c1⟩ : (fun V : World => V.cell? ⟨w.heap.size, 0, none⟩ = some (.int .i64 p) ∧ V.cell? ⟨w.heap.size + 1, 0, none⟩ = some (.slice A css.length cap)) V))
    clear hC hCU hok hW2 hL hL2 hLU hlen hr hR hpp b0 b1
    generalize css.length = n at *
    have bz := Blk.new U 166 #[.int .i64 0, .slice none 0 0]
    have hBz := below_one U (.cells #[.int .i64 0, .slice none 0 0] 166)
    refine (callsIn_wide (n := 9)).1 ?_
    refine callsIn_of_wp_marks Tryz.func153 rfl trivial ?_ rfl
    simp only [Tryz.ntmps153, List.size_toArray, List.length_cons, List.length_nil, Nat.reduceAdd, Nat.reduceSub, Array.replicate_succ, Array.replicate_zero, List.push_toArray, List.append_toArray, List.nil_append, List.cons_append]
    gi_wp2_with fail
    have hS : (fun V : World => V.cell? ⟨w.heap.size, 0, none⟩ = some (.int .i64 p) ∧ V.cell? ⟨w.heap.size + 1, 0, none⟩ = some (.slice A n cap)) (U.alloc (.cells #[.int .i64 0, .slice none 0 0] 166)).drew := hSS.out _ hBz.drew
    refine wpIn_mono (region_HF (Q := NoPanic _) (S := (fun V : World => V.cell? ⟨w.heap.size, 0, none⟩ = some (.int .i64 p) ∧ V.cell? ⟨w.heap.size + 1, 0, none⟩ = some (.slice A n cap))) (by kernel_rfl) ?_) NoPanic.imp
    refine anyHF_take (i := 0) (d := 3) (v := .int .i64 p) (by kernel_rfl) rfl (by kernel_rfl) (by kernel_rfl) (by kernel_rfl) rfl (fun _ _ _ h => h) ⟨Or.inl ⟨by rfl, fun w hS => by obtain ⟨h0, h1⟩ := hS; go_simp⟩, fun _ => rfl⟩ hS ?_
    simp only [List.setIfInBounds_toArray, List.set_cons_zero, List.set_cons_succ]
    refine anyHF_take (i := 2) (d := 5) (v := .slice A n cap) (by kernel_rfl) rfl (by kernel_rfl) (by kernel_rfl) (by kernel_rfl) rfl (fun _ _ _ h => h) ⟨Or.inl ⟨by rfl, fun w hS => by obtain ⟨h0, h1⟩ := hS; go_simp⟩, fun _ => rfl⟩ hS ?_
    simp only [List.setIfInBounds_toArray, List.set_cons_zero, List.set_cons_succ]
    refine anyHF_one (i := 1) (by kernel_rfl) rfl (by kernel_rfl) (by rfl) ?_
    gi_wp2_with fail
    refine ⟨trivial, (callsIn_wide.2 (HPP.out _ hBz.drew)).mono ?_⟩
    rintro e w1 ⟨rfl, hB1⟩
    replace hB1 := below_undrew hB1
    replace bz := bz.below hB1 bz.lt
    replace hBz := below_in hBz hB1
    clear hS
    have hS : (fun V : World => V.cell? ⟨w.heap.size, 0, none⟩ = some (.int .i64 p) ∧ V.cell? ⟨w.heap.size + 1, 0, none⟩ = some (.slice A n cap)) w1 := hSS.out _ hBz
    gi_wp2
    try (refine ⟨hS, ?_⟩)
    refine anyHF_one (i := 3) (by kernel_rfl) rfl (by kernel_rfl) (by rfl) ?_
    gi_wp2_with fail
    refine ⟨trivial, (callsIn_wide.2 (HT.out _ hBz)).mono ?_⟩
    rintro e w2 ⟨rfl, hB2⟩
    replace bz := bz.below hB2 bz.lt
    replace hBz := below_in hBz hB2
    clear hS
    have hS : (fun V : World => V.cell? ⟨w.heap.size, 0, none⟩ = some (.int .i64 p) ∧ V.cell? ⟨w.heap.size + 1, 0, none⟩ = some (.slice A n cap)) w2 := hSS.out _ hBz
    gi_wp2
    try (refine ⟨hS, ?_⟩)
    refine anyHF_one (i := 4) (by kernel_rfl) rfl (by kernel_rfl) (by rfl) ?_
    have g0 := bz.cell 0
    have g1 := bz.cell 1
    have f0 := bz.frozen 0
    have f1 := bz.frozen 1
    simp only [List.getElem?_toArray, List.getElem?_cons_zero, List.getElem?_cons_succ] at g0 g1
    gi_wp2
    have r := (bz.set_ 0 (.int .i64 p)).set_ 1 (.slice A n cap)
    have hBf := (hBz.setCell (p := ⟨U.heap.size, 0, none⟩) (Nat.le_refl _) (.int .i64 p)).setCell (p := ⟨U.heap.size, 1, none⟩) (Nat.le_refl _) (.slice A n cap)
    clear hS
    have hS : (fun V : World => V.cell? ⟨w.heap.size, 0, none⟩ = some (.int .i64 p) ∧ V.cell? ⟨w.heap.size + 1, 0, none⟩ = some (.slice A n cap)) _ := hSS.out _ hBf
    refine ⟨hSS.out _ (hBz.setCell (p := ⟨U.heap.size, 0, none⟩) (Nat.le_refl _) (.int .i64 p)), ?_⟩
    refine anyHF_done (by kernel_rfl) ?_ _
    refine NoPanic.normal ?_
    have r0 := r.cell 0
    have r1 := r.cell 1
    simp only [List.setIfInBounds_toArray, List.set_cons_zero, List.set_cons_succ, List.getElem?_toArray, List.getElem?_cons_zero, List.getElem?_cons_succ] at r0 r1
    gi_wp2
    exact ⟨.agg #[.int .i64 p, .slice A n cap], by simp [results, Tryz.results153, go_sem, r0, r1], rfl, hBf⟩))
  clear hC b0 b1 hL2 hok hlen hr hR hpp
  generalize css.length = n at *
  go_enter Tryz.func96, Tryz.ntmps96
  have hmf : ∀ (fn : Fn) (first cap : Array Value) (w : World), (Instr.makeFunc fn first cap).run Tryz.prog w = .ok (.func fn first cap) w := fun _ _ _ _ => rfl
  go_wp2_with (go_at_call 152; refine HA.out.mono ?_; rintro e w1 ⟨rfl, hB1⟩)
  go_ret
  exact ⟨rfl, below_in hBW (below_in hB1 (below_one _ _))⟩

end Go.Proofs.YtfihlelhpmjpaaaGreatDoor.E

namespace Go.Proofs.YtfihlelhpmjpaaaGreatDoor.E
open Go.RowKit Go.Shelf Go.Proofs.YtfihlelhpmjpaaaGreatDoor.C
set_option linter.unusedSimpArgs false
set_option linter.unusedVariables false

/-- The cells of a row. -/
def rowOf (css : List (List (List UInt8))) (r : Nat) : List (List UInt8) := css.map fun cs => cs[r]?.getD []
theorem rowOf_len (css : List (List (List UInt8))) (r : Nat) : (rowOf css r).length = css.length := by unfold rowOf; simp
theorem rowOf_at (css : List (List (List UInt8))) (r j : Nat) (hj : j < css.length) : (rowOf css r)[j]?.getD [] = (css[j]?.getD [])[r]?.getD [] := by
  unfold rowOf
  rw [List.getElem?_map, List.getElem?_eq_getElem hj]
  rfl

set_option maxRecDepth 100000 in
set_option maxHeartbeats 1000000 in
theorem row1_any {B : Nat} (p : Int) (R r n : Nat) (css : List (List (List UInt8))) (v : Value) (g0 g1 : Nat) (W : World) (hC : Cols B W v css) (hn : n < css.length) (hr : r < R) (hR : R ≤ 16) (hlen : css.length ≤ 1000) (hrow : ∀ j, j < css.length → (css[j]?.getD []).length = R)
    (b0 : Blk W g0 166 #[.int .i64 p, v]) (b1 : Blk W g1 3 #[.int .i64 (r : Int)]) :
    Calls Tryz.prog 274 #[.int .i64 (n : Int), .pointer (some ⟨g0, 0, none⟩), .pointer (some ⟨g1, 0, none⟩)] W fun e w' => ∃ u, e = .returned u ∧ Bytes B w' u ((css[n]?.getD [])[r]?.getD []) ∧ Below W.heap.size W w' := by
  obtain ⟨bb, off, cap, rfl, hcap, hbb, hcell⟩ := hC.at_ (by omega)
  obtain ⟨u, hu, hm⟩ := hcell n hn
  have hl := hrow n hn
  obtain ⟨Au, capu, rfl, _, _⟩ := id hm
  obtain ⟨b2, off2, rfl, hb2, hrow2⟩ := many_at hm (by omega)
  obtain ⟨A3, cp3, hc3, hB3⟩ := hrow2 r (by omega)
  rw [hl] at hu
  have c0 := b0.cell 0
  have c1 := b0.cell 1
  have d0 := b1.cell 0
  simp only [List.getElem?_toArray, List.getElem?_cons_zero, List.getElem?_cons_succ] at c0 c1 d0
  have i1 : (0 : Int) ≤ (n : Int) := by omega
  have i2 : (n : Int) < (css.length : Int) := by omega
  have j1 : (0 : Int) ≤ (r : Int) := by omega
  have j2 : (r : Int) < (R : Int) := by omega
  clear hrow2 hcell hC hl hrow hm
  generalize ((css[n]?.getD [])[r]?.getD []) = ce at *
  go_enter Tryz.func274, Tryz.ntmps274
  go_wp2
  go_region_held3 (fun U => U.cell? ⟨g0, 1, none⟩ = some (.slice (some ⟨bb, off, none⟩) css.length cap) ∧ U.cell? ⟨bb, off + n, none⟩ = some (.slice (some ⟨b2, off2, none⟩) R capu) ∧ U.cell? ⟨g1, 0, none⟩ = some (.int .i64 (r : Int)) ∧ U.cell? ⟨b2, off2 + r, none⟩ = some (.slice A3 ce.length cp3))
    (exact ⟨c1, hu, d0, hc3⟩) (fail)
  all_goals go_wp2
  all_goals go_ret
  all_goals exact ⟨.slice A3 ce.length cp3, rfl, hB3.below (Below.refl _ _).drew, (Below.refl _ _).drew⟩
set_option maxRecDepth 100000 in
set_option maxHeartbeats 1000000 in
theorem row_any {B : Nat} (p : Int) (R r : Nat) (css : List (List (List UInt8))) (v : Value) (w : World) (hB : B ≤ w.heap.size) (hC : Cols B w v css) (hr : r < R) (hR : R ≤ 16) (hlen : css.length ≤ 1000) (hrow : ∀ j, j < css.length → (css[j]?.getD []).length = R) :
    Calls Tryz.prog 244 #[.agg #[.int .i64 p, v], .int .i64 (r : Int)] w fun e w' => ∃ u, e = .returned u ∧ Many w'.heap.size w' u (rowOf css r) ∧ Below w.heap.size w w' := by
  obtain ⟨W2, hW2⟩ : ∃ W2, (w.alloc (.cells #[.int .i64 p, v] 166)).alloc (.cells #[.int .i64 (r : Int)] 3) = W2 := ⟨_, rfl⟩
  have b0 : Blk W2 w.heap.size 166 #[.int .i64 p, v] := by rw [← hW2]; exact (Blk.new w _ _).alloc _
  have b1 : Blk W2 (w.heap.size + 1) 3 #[.int .i64 (r : Int)] := by rw [← hW2]; exact Blk.second w _ _ _
  have hB2 : Below w.heap.size w W2 := by rw [← hW2]; exact below_two w _ _
  have HL := Lib.hid (listed_any 274 #[.pointer (some ⟨w.heap.size, 0, none⟩), .pointer (some ⟨w.heap.size + 1, 0, none⟩)] (rowOf css r) W2 (by rw [rowOf_len]; exact hlen) ⟨enters_of Tryz.func274 (by kernel_rfl) rfl, fun n W hn hBW => by
    rw [rowOf_len] at hn
    rw [rowOf_at css r n hn]
    refine (row1_any p R r n css v w.heap.size (w.heap.size + 1) W (hC.below ((hB2.trans (hBW.mono hB2.size)).mono hB)) hn hr hR hlen hrow (b0.below hBW b0.lt) (b1.below hBW b1.lt)).mono ?_
    rintro e w' ⟨u, rfl, hu, hBq⟩
    have hs3 := hBq.size
    have hs := hB2.size
    have hs2 := hBW.size
    exact ⟨u, rfl, BytesP.imp (Bytes.toP hu) (fun b hb => ⟨.inl (by have h0 : b < B := hb; omega), by have h0 : b < B := hb; omega⟩), hBq⟩⟩)
  rw [rowOf_len] at HL
  obtain ⟨A, cap, rfl, _, _⟩ := id hC
  have c0 := b0.cell 0
  have c1 := b0.cell 1
  simp only [List.getElem?_toArray, List.getElem?_cons_zero, List.getElem?_cons_succ] at c0 c1
  clear hC hrow
  go_enter Tryz.func244, Tryz.ntmps244
  go_wp2_with (go_at_call 242; refine HL.out.mono ?_; rintro e w1 ⟨u, rfl, hm, hB1⟩)
  go_ret
  exact ⟨_, rfl, hm, below_in hB2 hB1⟩
end Go.Proofs.YtfihlelhpmjpaaaGreatDoor.E

namespace Go.Proofs.YtfihlelhpmjpaaaGreatDoor.E
open Go.RowKit Go.Shelf Go.Proofs.YtfihlelhpmjpaaaGreatDoor.C
set_option linter.unusedSimpArgs false
set_option linter.unusedVariables false

/-- The slice value v has the values us as its cells, below block B. -/
def Vals (B : Nat) (W : World) (v : Value) (us : List Value) : Prop :=
  (v = .slice none 0 0 ∧ us = []) ∨ ∃ b off cap, v = .slice (some ⟨b, off, none⟩) us.length cap ∧ us.length ≤ cap ∧ b < B ∧ ∀ (j : Nat) (u : Value), us[j]? = some u → W.cell? ⟨b, off + j, none⟩ = some u
theorem Vals.below {B : Nat} {W W' : World} {v : Value} {us : List Value} (h : Vals B W v us) (hb : Below B W W') : Vals B W' v us :=
  h.imp id fun ⟨b, off, cap, e, hc, hlt, hcell⟩ => ⟨b, off, cap, e, hc, hlt, fun j u hu => (hb.cell (p := ⟨b, off + j, none⟩) hlt).trans (hcell j u hu)⟩
theorem Vals.len {B : Nat} {W : World} {v : Value} {us : List Value} (h : Vals B W v us) : ∃ A cap, v = .slice A us.length cap := by
  rcases h with ⟨rfl, rfl⟩ | ⟨b, off, cap, e, _⟩
  · exact ⟨none, 0, rfl⟩
  · exact ⟨_, cap, e⟩
/-- A row of the call's own, of slices. -/
def OwnS (w : World) (base : Nat) (v : Value) (us : List Value) : Prop := w.ownsRow base 57 1 v us.length us
theorem ownS_nil (w : World) (base : Nat) : OwnS w base (.slice none 0 0) [] := World.ownsRow_nil w base _ 1
theorem wpList_zerosS (w : World) {ops : Array Oper} {rest : List Oper} {o : Oper} {a : Act} {Q : Exit → Act → World → Prop} (hgd : o.guard = none) (s x : Operand)
    (ho : o.op = .call { callee := .builtin .append, args := #[s, x], argTypes := #[36, 3] }) (n : Nat) (h0 : 0 < n) (hn : n ≤ 1000000)
    (hs : a.eval s = .slice none 0 0) (hx : a.eval x = .int .i64 (n : Int))
    (h : ∀ c w', OwnS w' w.heap.size (.slice (some ⟨w.heap.size, 0, none⟩) 0 c) [] → Below w.heap.size w w' → n ≤ c → wpList Tryz.prog ops Q rest (a.put o.dst (.slice (some ⟨w.heap.size, 0, none⟩) n c)) w') : wpList Tryz.prog ops Q (o :: rest) a w :=
  wpList_plain hgd fun K hK => by
    obtain ⟨i0, hi, hz0, hz1, hz2⟩ := info_parts Tryz.infoSlcE
    have hrun := Lib.run_append_nil_zeros (P := Tryz.prog) w 36 3 o.type 57 i0 (.slice none 0 0) .i64 .i64 Tryz.underlying36 Tryz.underlying3 hi hz0 n h0 (by omega) (by omega) (by rw [hz2]; omega)
    have hge := grownCap_ge w n 0 57
    have hle := grownCap_le_maxLen w n 0 57 (by unfold maxLen; omega)
    generalize grownCap w n 0 57 = c at *
    have hsz : (Builtin.zeroCells (Value.slice none 0 0).cells n ++ Builtin.zeroCells (Value.slice none 0 0).cells (c - n)).size = c * 1 := by
      rw [Array.size_append, show (Value.slice none 0 0).cells = #[.slice none 0 0] from rfl, size_zeroCells, size_zeroCells]; simp; omega
    generalize Builtin.zeroCells (Value.slice none 0 0).cells n ++ Builtin.zeroCells (Value.slice none 0 0).cells (c - n) = cs at *
    unfold Oper.wp execOp
    simp only [ho, resolve, invoke, builtin, Sem.run_bind, Sem.run_pure, Result.andThen_ok, List.map_toArray, List.map_cons, List.map_nil, hs, hx, hrun]
    exact hK _ _ (h c _ (World.ownsRow_made w.drew cs c (Nat.le_refl _) hle hsz) ((Below.refl w.heap.size w).drew.alloc (Nat.le_refl _) _) hge)

set_option maxHeartbeats 400000 in
theorem growS_any (n : Nat) (hn : n ≤ 1000000) (w : World) :
    Calls Tryz.prog 286 #[.slice none 0 0, .int .i64 (n : Int)] w fun e w' => ∃ v, e = .returned v ∧ OwnS w' w.heap.size v [] ∧ Below w.heap.size w w' := by
  by_cases h0 : n = 0
  · subst h0
    go_enter Tryz.func286, Tryz.ntmps286
    go_wp2
    go_ret
    exact ⟨_, rfl, ownS_nil _ _, Below.refl _ _⟩
  · have hp : 0 < n := by omega
    have d1 : decide ((n : Int) < 0) = false := by simp
    have d2 : decide (0 < (n : Int)) = true := by simp; omega
    go_enter Tryz.func286, Tryz.ntmps286
    go_wp2_with (at_builtin; refine wpList_zerosS _ rfl _ _ rfl n hp hn rfl rfl ?_; intro c w1 hown hB1 hc)
    go_ret
    exact ⟨_, rfl, hown, hB1⟩
/-- append of slices to a row of the call's own. -/
theorem wpList_vals (w : World) {ops : Array Oper} {rest : List Oper} {o : Oper} {a : Act} {Q : Exit → Act → World → Prop} (hgd : o.guard = none) (s x : Operand)
    (ho : o.op = .call { callee := .builtin .append, args := #[s, x], argTypes := #[36, 36] })
    (base : Nat) (v : Value) (l : List Value) (hs : a.eval s = v) (hown : OwnS w base v l) (B2 : Nat) (v2 : Value) (us : List Value) (hx : a.eval x = v2) (hv2 : Vals B2 w v2 us) (hone : ∀ u ∈ us, u.oneCell' = true) (hlen : l.length ≤ 100000) (hlen2 : us.length ≤ 100000) (hbase : base ≤ w.heap.size)
    (h : ∀ v' w', OwnS w' base v' (l ++ us) → w.grownBy w' v.ownBlock → wpList Tryz.prog ops Q rest (a.put o.dst v') w') : wpList Tryz.prog ops Q (o :: rest) a w :=
  wpList_plain hgd fun K hK => by
    obtain ⟨i, hi, hz0, hz1, hz2⟩ := info_parts Tryz.infoSlcE
    rcases hv2 with ⟨rfl, rfl⟩ | ⟨b, off, cap, rfl, hc, hb, hcell⟩
    · rw [List.append_nil] at h
      have hrun := run_append_owned_none (P := Tryz.prog) (w := w) base 36 o.type 57 i 1 Tryz.underlying36 hi v l.length l hown
      unfold Oper.wp execOp
      simp only [ho, resolve, invoke, builtin, Sem.run_bind, Sem.run_pure, Result.andThen_ok, List.map_toArray, List.map_cons, List.map_nil, hs, hx, hrun]
      exact hK _ _ (h v w hown (World.grownBy.refl _ _))
    · obtain ⟨v', w', hrun, r1, r2, _, r3⟩ := run_append_own_at (P := Tryz.prog) w base 36 o.type 57 i (.slice none 0 0) 1 24 Tryz.underlying36 hi hz0 hz1 hz2 rfl (by omega) v l.length l hown ⟨b, off, none⟩ us.length cap us (by omega)
        (by intro j u hu; rw [addr_add]; exact hcell j u hu) hone (by unfold maxLen; omega) (by omega) hbase
      unfold Oper.wp execOp
      simp only [ho, resolve, invoke, builtin, Sem.run_bind, Sem.run_pure, Result.andThen_ok, List.map_toArray, List.map_cons, List.map_nil, hs, hx, hrun]
      exact hK _ _ (h v' w' (by unfold OwnS; rw [List.length_append]; exact r1) r2)
end Go.Proofs.YtfihlelhpmjpaaaGreatDoor.E

namespace Go.Proofs.YtfihlelhpmjpaaaGreatDoor.E
open Go.RowKit Go.Shelf Go.Proofs.YtfihlelhpmjpaaaGreatDoor.C
set_option linter.unusedSimpArgs false
set_option linter.unusedVariables false

theorem flat_nextV (ls : List (List Value)) (k : Nat) (hk : k < ls.length) : (ls.take (k + 1)).flatten = (ls.take k).flatten ++ (ls[k]?.getD []) := by
  rw [List.take_succ_eq_append_getElem hk, List.flatten_append, List.getElem?_eq_getElem hk]; simp
theorem flat_leV (ls : List (List Value)) (k : Nat) : (ls.take k).flatten.length ≤ ls.flatten.length := by
  have e : ls.flatten = (ls.take k).flatten ++ (ls.drop k).flatten := by rw [← List.flatten_append, List.take_append_drop]
  rw [e, List.length_append]; omega

set_option maxRecDepth 100000 in
set_option maxHeartbeats 1000000 in
theorem concatS_any (b off cap : Nat) (uss : List (List Value)) (hls : uss.length ≤ 1000) (htot : uss.flatten.length ≤ 100000) (hone : ∀ us ∈ uss, ∀ u ∈ us, u.oneCell' = true) (w : World) {B : Nat} (hB : B ≤ w.heap.size) (hb : b < w.heap.size)
    (hcell : ∀ j, j < uss.length → ∃ s, w.cell? ⟨b, off + j, none⟩ = some s ∧ Vals B w s (uss[j]?.getD [])) :
    Calls Tryz.prog 272 #[.slice (some ⟨b, off, none⟩) uss.length cap] w fun e w' => ∃ v', e = .returned v' ∧ OwnS w' w.heap.size v' uss.flatten ∧ Below w.heap.size w w' := by
  have HCE := Lib.hid hcell
  clear hcell
  have HON : Hid (∀ j, j < uss.length → ∀ u ∈ uss[j]?.getD [], u.oneCell' = true) := fun j hj u hu => hone (uss[j]?.getD []) (by rw [List.getElem?_eq_getElem hj]; exact List.getElem_mem hj) u hu
  clear hone
  go_enter Tryz.func272, Tryz.ntmps272
  go_wp2_with fail
  go_loop [3, 11] (fun s i => ∃ k : Nat, k ≤ uss.length ∧ i = .int .i64 k ∧ s = .int .i64 ((uss.take k).flatten.length : Int)) (fun _ i => uss.length - (intOf i).toNat)
  case atStart => exact ⟨0, Nat.zero_le _, rfl, rfl⟩
  case round =>
    obtain ⟨k, hk, rfl, rfl⟩ := hrel
    by_cases hlt : k < uss.length
    · have hdec : decide ((k : Int) < (uss.length : Int)) = true := by simp; omega
      obtain ⟨sv, hc, hv⟩ := HCE.out k hlt
      obtain ⟨A1, cp, rfl⟩ := hv.len
      have HF : Hid ((uss.take (k + 1)).flatten.length = (uss.take k).flatten.length + (uss[k]?.getD []).length) := by
        unfold Hid; rw [flat_nextV uss k hlt, List.length_append]
      have hle := flat_leV uss (k + 1)
      rw [HF.out] at hle
      clear hv
      generalize (uss[k]?.getD []).length = m at hc HF hle
      generalize (uss.take k).flatten.length = s at HF hle
      have d1 : decide (((s : Int) + (m : Int)) < 0) = false := by simp; omega
      go_wp2
      go_round
      case rel => exact ⟨k + 1, by omega, by go_num, by rw [HF.out]; go_num⟩
      case measure => simp [intOf]; omega
    · obtain rfl : k = uss.length := by omega
      have e1 : decide ((uss.length : Int) < (uss.length : Int)) = false := by simp
      rw [List.take_length]
      have HT := Lib.hid htot
      have HLE := Lib.hid (fun k => flat_leV uss k)
      generalize uss.flatten.length = T at HT HLE htot
      have HG := Lib.hid (growS_any T (by omega) w)
      go_wp2_with (go_at_call 286; refine HG.out.mono ?_; rintro e w1 ⟨v1, rfl, hown1, hB1⟩)
      go_loopw [6, 27] (fun v i wr => ∃ k : Nat, k ≤ uss.length ∧ i = .int .i64 k ∧ OwnS wr w.heap.size v (uss.take k).flatten ∧ Below w.heap.size w wr) (fun _ i _ => uss.length - (intOf i).toNat)
      case atStart => exact ⟨0, Nat.zero_le _, rfl, hown1, hB1⟩
      case round =>
        obtain ⟨k, hk, rfl, hown, hBr⟩ := hrel
        by_cases hlt : k < uss.length
        · have hdec : decide ((k : Int) < (uss.length : Int)) = true := by simp; omega
          obtain ⟨sv, hc, hv⟩ := HCE.out k hlt
          have hon := HON.out k hlt
          have hc1 := (hBr.cell (p := ⟨b, off + k, none⟩) hb).trans hc
          have hv1 := hv.below (hBr.mono hB)
          have HF := Lib.hid (flat_nextV uss k hlt)
          have hle := HLE.out (k + 1)
          rw [HF.out, List.length_append] at hle
          obtain ⟨A1, cp, rfl⟩ := hv.len
          clear hc hv
          generalize uss[k]?.getD [] = r at hc1 hv1 HF hle hon
          generalize (uss.take k).flatten = p at HF hle hown
          have HO := Lib.hid hown
          have HV := Lib.hid hv1
          clear hown hv1
          go_wp2_with (at_builtin; refine wpList_vals _ rfl _ _ rfl w.heap.size _ p rfl HO.out B _ r rfl HV.out hon (by have := HT.out; omega) (by have := HT.out; omega) hBr.size ?_; intro v' w2 hown2 hgrow2)
          go_roundw
          case rel => exact ⟨k + 1, by omega, by go_num, by rw [HF.out]; exact hown2, below_grown hBr hgrow2 hBr.size (fun g e => (World.ownsRow.lt HO.out g e).1)⟩
          case measure => simp [intOf]; omega
        · obtain rfl : k = uss.length := by omega
          have e1 : decide ((uss.length : Int) < (uss.length : Int)) = false := by simp
          rw [List.take_length] at hown
          go_wp2
          go_ret
          exact ⟨_, rfl, hown, hBr⟩
end Go.Proofs.YtfihlelhpmjpaaaGreatDoor.E

namespace Go.Proofs.YtfihlelhpmjpaaaGreatDoor.E
open Go.RowKit Go.Shelf Go.Proofs.YtfihlelhpmjpaaaGreatDoor.C
set_option linter.unusedSimpArgs false
set_option linter.unusedVariables false

/-- The slice value v has the values us, that read as the cells ls. -/
def ManyV (B : Nat) (W : World) (v : Value) (us : List Value) (ls : List (List UInt8)) : Prop := us.length = ls.length ∧ Vals B W v us ∧ ∀ (j : Nat) (u : Value), us[j]? = some u → Bytes B W u (ls[j]?.getD [])
theorem ManyV.below {B : Nat} {W W' : World} {v : Value} {us : List Value} {ls : List (List UInt8)} (h : ManyV B W v us ls) (hb : Below B W W') : ManyV B W' v us ls := ⟨h.1, h.2.1.below hb, fun j u hu => (h.2.2 j u hu).below hb⟩
theorem ManyV.one {B : Nat} {W : World} {v : Value} {us : List Value} {ls : List (List UInt8)} (h : ManyV B W v us ls) : ∀ u ∈ us, u.oneCell' = true := fun u hu => by
  obtain ⟨j, hj⟩ := List.getElem?_of_mem hu
  obtain ⟨A, cap, rfl, _⟩ := h.2.2 j u hj
  rfl
theorem Many.vals {B : Nat} {W : World} {v : Value} {ls : List (List UInt8)} (h : Many B W v ls) (h0 : 0 < ls.length) : ∃ us, ManyV B W v us ls := by
  obtain ⟨A, cap, rfl, hc, hA⟩ := h
  obtain ⟨b, off, rfl, hb, hr⟩ := hA h0
  refine ⟨(List.range ls.length).map fun j => (W.cell? ⟨b, off + j, none⟩).getD undef, by simp, .inr ⟨b, off, cap, by simp, by simpa using hc, hb, fun j u hu => ?_⟩, fun j u hu => ?_⟩
  all_goals
    rw [List.getElem?_map] at hu
    rcases Nat.lt_or_ge j ls.length with hj | hj
    · rw [List.getElem?_range hj] at hu
      obtain ⟨u2, h1, h2⟩ := hr j hj
      simp only [Option.map_some, h1, Option.getD_some, Option.some.injEq] at hu
      subst hu
      first | exact h1 | exact h2
    · rw [List.getElem?_eq_none (by simpa using hj)] at hu
      cases hu
theorem OwnS.many {B base : Nat} {W : World} {v : Value} {us : List Value} {ls : List (List UInt8)} (h : OwnS W base v us) (hn : us.length = ls.length) (h0 : 0 < us.length) (hb : ∀ (j : Nat) (u : Value), us[j]? = some u → Bytes B W u (ls[j]?.getD [])) (hB : B ≤ W.heap.size) : Many W.heap.size W v ls := by
  have hcp : ∀ g cap, v = .slice (some ⟨g, 0, none⟩) us.length cap → us.length ≤ cap := fun g cap e => by
    rcases h.2 with ⟨_, h1⟩ | ⟨g2, cap2, cur, e2, _, _, hnc, _⟩
    · omega
    · rw [e] at e2
      injection e2 with _ _ e3
      omega
  obtain ⟨g, cap, e, hg, hg1⟩ := World.ownsRow.form h h0
  have hcap := hcp g cap e
  subst e
  refine ⟨_, cap, by rw [hn], by rw [← hn]; exact hcap, fun _ => ⟨g, 0, rfl, by omega, fun j hj => ?_⟩⟩
  have hj2 : j < us.length := by omega
  refine ⟨us[j], ?_, (hb j us[j] (List.getElem?_eq_getElem hj2)).more hB⟩
  rw [Nat.zero_add, World.ownsRow.cellAt h j (by omega), List.getElem?_eq_getElem hj2]

set_option maxRecDepth 100000 in
set_option maxHeartbeats 1000000 in
theorem upon1_yes {B : Nat} (vh vl : Value) (ush usl : List Value) (hls ls : List (List UInt8)) (gh : Nat) (w : World) (hB : B ≤ w.heap.size) (b0 : Blk w gh 36 #[vh]) (hh : ManyV B w vh ush hls) (hl : ManyV B w vl usl ls) (hn : hls.length ≤ 100) (hn2 : ls.length ≤ 100) (hok : XorOk (hls ++ ls)) :
    Calls Tryz.prog 270 #[vl, .pointer (some ⟨gh, 0, none⟩)] w fun e w' => ∃ u, e = .returned u ∧ Fresh w.heap.size w' u (xorOf (hls ++ ls)) ∧ Below w.heap.size w w' := by
  have c0 := b0.one
  obtain ⟨Ah, caph, rfl⟩ := hh.2.1.len
  obtain ⟨Al, capl, rfl⟩ := hl.2.1.len
  have hBz := below_one w (.cells #[.slice Ah ush.length caph, .slice Al usl.length capl] 36)
  have bz := Blk.new w 36 #[.slice Ah ush.length caph, .slice Al usl.length capl]
  have hlu : ush.length = hls.length := hh.1
  have hlv : usl.length = ls.length := hl.1
  have HCO := Lib.hid (concatS_any w.heap.size 0 2 [ush, usl] (by simp) (by simp; omega) (fun us hus => by
    rcases List.mem_cons.1 hus with rfl | hus
    · exact hh.one
    · rcases List.mem_cons.1 hus with rfl | hus
      · exact hl.one
      · cases hus) _ (B := B) (Nat.le_trans hB hBz.size) bz.lt (fun j hj => by
    have hj2 : j = 0 ∨ j = 1 := by simp at hj; omega
    rcases hj2 with rfl | rfl
    · exact ⟨_, bz.cell 0, (hh.below (hBz.mono hB)).2.1⟩
    · exact ⟨_, bz.cell 1, (hl.below (hBz.mono hB)).2.1⟩))
  simp only [List.flatten_cons, List.flatten_nil, List.append_nil, List.length_cons, List.length_nil, Nat.zero_add, Nat.reduceAdd] at HCO
  replace hlu := Lib.hid hlu
  replace hlv := Lib.hid hlv
  go_enter Tryz.func270, Tryz.ntmps270
  go_wp2_with fail
  refine HCO.out.mono ?_
  rintro e w1 ⟨v1, rfl, ho, hB1⟩
  have hBw := below_in hBz hB1
  have hpos : 0 < (hls ++ ls).length := hok.1
  have hM : Many w1.heap.size w1 v1 (hls ++ ls) := OwnS.many (B := B) ho (by rw [List.length_append, List.length_append, hlu.out, hlv.out]) (by rw [List.length_append, hlu.out, hlv.out, ← List.length_append]; exact hpos) (fun j u hu => by
    rcases Nat.lt_or_ge j ush.length with hj | hj
    · rw [List.getElem?_append_left hj] at hu
      rw [List.getElem?_append_left (by rw [← hlu.out]; exact hj)]
      exact (hh.below (hBw.mono hB)).2.2 j u hu
    · rw [List.getElem?_append_right hj] at hu
      rw [List.getElem?_append_right (by rw [← hlu.out]; exact hj), ← hlu.out]
      exact (hl.below (hBw.mono hB)).2.2 _ u hu) (Nat.le_trans hB hBw.size)
  have HX := Lib.hid (xor_yes (hls ++ ls) v1 w1 (Nat.le_refl _) hM (by rw [List.length_append]; omega) hok)
  clear hM ho hh hl HCO hBz bz hB1 hok
  go_wp2_with fail
  refine HX.out.mono ?_
  rintro e w2 ⟨u, rfl, hF, hB2⟩
  have hBx := below_in hBw hB2
  go_wp2_with (go_at_call 271; refine (sureB _ _).mono ?_; rintro e w' ⟨rfl, rfl⟩)
  go_ret
  exact ⟨_, rfl, hF.less hBw.size, hBx⟩
end Go.Proofs.YtfihlelhpmjpaaaGreatDoor.E

namespace Go.Proofs.YtfihlelhpmjpaaaGreatDoor.E
open Go.RowKit Go.Shelf Go.Proofs.YtfihlelhpmjpaaaGreatDoor.C
set_option linter.unusedSimpArgs false
set_option linter.unusedVariables false

theorem Vals.more {B B' : Nat} {W : World} {v : Value} {us : List Value} (h : Vals B W v us) (hB : B ≤ B') : Vals B' W v us :=
  h.imp id fun ⟨b, off, cap, e, hc, hlt, hcell⟩ => ⟨b, off, cap, e, hc, Nat.lt_of_lt_of_le hlt hB, hcell⟩
theorem ManyV.more {B B' : Nat} {W : World} {v : Value} {us : List Value} {ls : List (List UInt8)} (h : ManyV B W v us ls) (hB : B ≤ B') : ManyV B' W v us ls := ⟨h.1, h.2.1.more hB, fun j u hu => (h.2.2 j u hu).more hB⟩
set_option maxHeartbeats 1000000 in
theorem upon_any (vh : Value) (w : World) (A : Option Addr) (m c : Nat) (hv : vh = .slice A m c) :
    Calls Tryz.prog 240 #[vh] w fun e w' => e = .returned (.func (.func 270) #[] #[.pointer (some ⟨w.heap.size, 0, none⟩)]) ∧ Blk w' w.heap.size 36 #[vh] ∧ Below w.heap.size w w' := by
  subst hv
  have hmf : ∀ (fn : Fn) (first cap : Array Value) (w : World), (Instr.makeFunc fn first cap).run Tryz.prog w = .ok (.func fn first cap) w := fun _ _ _ _ => rfl
  have bz := Blk.new w 36 #[.slice A m c]
  have hBz := below_one w (.cells #[.slice A m c] 36)
  go_enter Tryz.func240, Tryz.ntmps240
  go_wp2
  go_ret
  exact ⟨rfl, bz, hBz⟩
set_option maxRecDepth 100000 in
set_option maxHeartbeats 1000000 in
theorem encoded1_any {B : Nat} (p : Int) (R r : Nat) (css : List (List (List UInt8))) (v vh : Value) (ush : List Value) (hls : List (List UInt8)) (g0 g1 gh : Nat) (W : World) (hB : B ≤ W.heap.size) (hC : Cols B W v css) (hr : r < R) (hR : R ≤ 16) (hlen : css.length ≤ 100) (hl0 : 0 < css.length) (hrow : ∀ j, j < css.length → (css[j]?.getD []).length = R)
    (b0 : Blk W g0 156 #[.func (.func 270) #[] #[.pointer (some ⟨gh, 0, none⟩)]]) (b1 : Blk W g1 166 #[.int .i64 p, v]) (bh : Blk W gh 36 #[vh]) (hh : ManyV B W vh ush hls) (hn : hls.length ≤ 100) (hok : XorOk (hls ++ rowOf css r)) :
    Calls Tryz.prog 243 #[.int .i64 (r : Int), .pointer (some ⟨g0, 0, none⟩), .pointer (some ⟨g1, 0, none⟩)] W fun e w' => ∃ u, e = .returned u ∧ Fresh W.heap.size w' u (xorOf (hls ++ rowOf css r)) ∧ Below W.heap.size W w' := by
  have H1 := Lib.hid (fun (U : World) (hBU : Below W.heap.size W U) => row_any p R r css v U (Nat.le_trans hB hBU.size) (hC.below (hBU.mono hB)) hr hR (by omega) hrow)
  have H2 := Lib.hid (fun (U : World) (vl : Value) (usl : List Value) (hBU : Below W.heap.size W U) (hl : ManyV U.heap.size U vl usl (rowOf css r)) => upon1_yes vh vl ush usl hls (rowOf css r) gh U (Nat.le_refl _) (bh.below hBU bh.lt) ((hh.below (hBU.mono hB)).more (Nat.le_trans hB hBU.size)) hl hn (by rw [rowOf_len]; exact hlen) hok)
  have h0r : 0 < (rowOf css r).length := by rw [rowOf_len]; exact hl0
  have c0 := b0.one
  have c1 := b1.cell 0
  have c2 := b1.cell 1
  simp only [List.getElem?_toArray, List.getElem?_cons_zero, List.getElem?_cons_succ] at c1 c2
  have hg0 := b0.lt
  have hg1 := b1.lt
  clear hC hh hok bh hlen hn hrow hl0 hr hR b0 b1
  generalize rowOf css r = rw_ at *
  generalize xorOf (hls ++ rw_) = xo at *
  clear hls
  go_enter Tryz.func243, Tryz.ntmps243
  go_wp2_with fail
  go_region_held3 (fun U => U.cell? ⟨g0, 0, none⟩ = some (.func (.func 270) #[] #[.pointer (some ⟨gh, 0, none⟩)]) ∧ U.cell? ⟨g1, 0, none⟩ = some (.int .i64 p) ∧ U.cell? ⟨g1, 1, none⟩ = some v)
    (first | exact ⟨c0, c1, c2⟩ | exact ⟨(hBa.cell (p := ⟨g0, 0, none⟩) hg0).trans c0, (hBa.cell (p := ⟨g1, 0, none⟩) hg1).trans c1, (hBa.cell (p := ⟨g1, 1, none⟩) hg1).trans c2⟩ | exact ⟨(hBb.cell (p := ⟨g0, 0, none⟩) hg0).trans c0, (hBb.cell (p := ⟨g1, 0, none⟩) hg1).trans c1, (hBb.cell (p := ⟨g1, 1, none⟩) hg1).trans c2⟩) (first
    | (go_at_call 244; refine (H1.out _ ?_).mono ?_; first | exact Below.refl _ _ | exact (Below.refl _ _).drew; rintro e w1 ⟨u, rfl, hm, hB1⟩; have hBa : Below W.heap.size W w1 := (by first | exact hB1 | exact Below.undrew hB1); obtain ⟨usl, hmv⟩ := E.Many.vals hm h0r)
    | (go_at_call 270; refine (H2.out _ _ usl ?_ ?_).mono ?_; exact hBa; exact hmv; rintro e w2 ⟨x, rfl, hf, hB2⟩; have hBb : Below W.heap.size W w2 := below_in hBa hB2))
  all_goals go_wp2
  all_goals go_ret
  all_goals exact ⟨_, rfl, hf.less hBa.size, hBb⟩
end Go.Proofs.YtfihlelhpmjpaaaGreatDoor.E

namespace Go.Proofs.YtfihlelhpmjpaaaGreatDoor.E
open Go.RowKit Go.Shelf Go.Proofs.YtfihlelhpmjpaaaGreatDoor.C
set_option linter.unusedVariables false

theorem walk_back0 : ∀ p ∈ prm, ∀ a ∈ List.range p.toNat, walkN p (a : Int) (-1) = (List.range p.toNat).map fun (i : Nat) => ((a : Int) - (i : Int)) % p := by decide +kernel
theorem walk_back {p a : Int} (hp : p ∈ prm) (h0 : 0 ≤ a) (h1 : a < p) : walkN p a (-1) = (List.range p.toNat).map fun (i : Nat) => (a - (i : Int)) % p := by
  have h := walk_back0 p hp a.toNat (List.mem_range.2 (by omega))
  rwa [show ((a.toNat : Nat) : Int) = a by omega] at h
/-- The places of a diagonal: column and row, from column 0 on, without the row that has no cells. -/
def diagAt (p a : Int) (k : Nat) : List (Nat × Nat) := ((List.range k).filter fun (i : Nat) => decide ((a - (i : Int)) % p < p - 1)).map fun (i : Nat) => (i, ((a - (i : Int)) % p).toNat)
def diagOf (p a : Int) (css : List (List (List UInt8))) : List (List UInt8) := (diagAt p a p.toNat).map fun x => (css[x.1]?.getD [])[x.2]?.getD []
theorem diagAt_succ (p a : Int) (k : Nat) : diagAt p a (k + 1) = diagAt p a k ++ (if (a - (k : Int)) % p < p - 1 then [(k, ((a - (k : Int)) % p).toNat)] else []) := by
  unfold diagAt
  rw [List.range_succ, List.filter_append, List.map_append]
  by_cases h : (a - (k : Int)) % p < p - 1
  · rw [if_pos h]; simp [h]
  · rw [if_neg h]; simp [h]
theorem diagAt_len (p a : Int) (k : Nat) : (diagAt p a k).length ≤ k := by
  unfold diagAt
  rw [List.length_map]
  exact Nat.le_trans (List.length_filter_le _ _) (by simp)
end Go.Proofs.YtfihlelhpmjpaaaGreatDoor.E

namespace Go.Proofs.YtfihlelhpmjpaaaGreatDoor.E
open Go.RowKit Go.Shelf Go.Proofs.YtfihlelhpmjpaaaGreatDoor.C
set_option linter.unusedSimpArgs false
set_option linter.unusedVariables false

/-- Columns read, value by value: the cell of column c and row r is f c r. -/
def GridV (B : Nat) (W : World) (v : Value) (n R : Nat) (f : Nat → Nat → Value) : Prop :=
  ∃ b off cap, v = .slice (some ⟨b, off, none⟩) n cap ∧ b < B ∧ n ≤ cap ∧ ∀ c, c < n → ∃ b2 off2 cap2, W.cell? ⟨b, off + c, none⟩ = some (.slice (some ⟨b2, off2, none⟩) R cap2) ∧ R ≤ cap2 ∧ b2 < B ∧ ∀ r, r < R → W.cell? ⟨b2, off2 + r, none⟩ = some (f c r)
theorem GridV.keep_ {B : Nat} {W W' : World} {v : Value} {n R : Nat} {f : Nat → Nat → Value} (h : GridV B W v n R f) (hk : ∀ p : Addr, p.block < B → W'.cell? p = W.cell? p) : GridV B W' v n R f := by
  obtain ⟨b, off, cap, e, hb, hc, hA⟩ := h
  refine ⟨b, off, cap, e, hb, hc, fun c hc => ?_⟩
  obtain ⟨b2, off2, cap2, h1, h2, h3, h4⟩ := hA c hc
  exact ⟨b2, off2, cap2, (hk _ hb).trans h1, h2, h3, fun r hr => (hk _ h3).trans (h4 r hr)⟩
theorem GridV.below {B : Nat} {W W' : World} {v : Value} {n R : Nat} {f : Nat → Nat → Value} (h : GridV B W v n R f) (hb : Below B W W') : GridV B W' v n R f := h.keep_ fun _ hp => hb.cell hp
/-- Columns that are lists of cells are read value by value. -/
theorem Cols.grid {B : Nat} {W : World} {v : Value} {css : List (List (List UInt8))} {R : Nat} (h : Cols B W v css) (h0 : 0 < css.length) (hR : 0 < R) (hrow : ∀ j, j < css.length → (css[j]?.getD []).length = R) :
    ∃ f, GridV B W v css.length R f ∧ ∀ c r, c < css.length → r < R → Bytes B W (f c r) ((css[c]?.getD [])[r]?.getD []) := by
  obtain ⟨b, off, cap, rfl, hc, hb, hA⟩ := h.at_ h0
  have hall : ∀ c : Nat, ∃ g : Nat → Value, c < css.length → (∃ b2 off2 cap2, W.cell? ⟨b, off + c, none⟩ = some (.slice (some ⟨b2, off2, none⟩) R cap2) ∧ R ≤ cap2 ∧ b2 < B ∧ ∀ r, r < R → W.cell? ⟨b2, off2 + r, none⟩ = some (g r)) ∧ ∀ r, r < R → Bytes B W (g r) ((css[c]?.getD [])[r]?.getD []) := by
    intro c
    by_cases hcl : c < css.length
    · obtain ⟨u, hu, A, cap2, rfl, hc2, hA2⟩ := hA c hcl
      rw [hrow c hcl] at hu hc2 hA2
      obtain ⟨b2, off2, rfl, hb2, hr2⟩ := hA2 hR
      refine ⟨fun r => (W.cell? ⟨b2, off2 + r, none⟩).getD undef, fun _ => ⟨⟨b2, off2, cap2, hu, hc2, hb2, fun r hr => ?_⟩, fun r hr => ?_⟩⟩
      · obtain ⟨x, hx, _⟩ := hr2 r hr
        show _ = some ((W.cell? ⟨b2, off2 + r, none⟩).getD undef)
        rw [hx]; rfl
      · obtain ⟨x, hx, hy⟩ := hr2 r hr
        show Bytes B W ((W.cell? ⟨b2, off2 + r, none⟩).getD undef) _
        rw [hx]; exact hy
    · exact ⟨fun _ => undef, fun h => absurd h hcl⟩
  obtain ⟨f, hf⟩ := Classical.axiomOfChoice hall
  exact ⟨f, ⟨b, off, cap, rfl, hb, hc, fun c hcl => (hf c hcl).1⟩, fun c r hcl hr => (hf c hcl).2 r hr⟩
/-- The values that a diagonal goes over, of the rows that a walk went over. -/
def diagW (p : Int) (f : Nat → Nat → Value) : Nat → List Int → List Value
  | _, [] => []
  | k, x :: xs => (if x < p - 1 then [f k x.toNat] else []) ++ diagW p f (k + 1) xs
theorem diagW_append (p : Int) (f : Nat → Nat → Value) : ∀ (k : Nat) (xs ys : List Int), diagW p f k (xs ++ ys) = diagW p f k xs ++ diagW p f (k + xs.length) ys
  | k, [], ys => by simp [diagW]
  | k, x :: xs, ys => by
    rw [List.cons_append, diagW, diagW, diagW_append p f (k + 1) xs ys, List.append_assoc, List.length_cons]
    congr 3
    omega
theorem diagW_one (p : Int) (f : Nat → Nat → Value) (xs : List Int) (x : Int) : diagW p f 0 (xs ++ [x]) = diagW p f 0 xs ++ (if x < p - 1 then [f xs.length x.toNat] else []) := by
  rw [diagW_append]
  simp [diagW]
def diagV (p a : Int) (f : Nat → Nat → Value) (k : Nat) : List Value := (diagAt p a k).map fun x => f x.1 x.2
theorem diagV_succ (p a : Int) (f : Nat → Nat → Value) (k : Nat) : diagV p a f (k + 1) = diagV p a f k ++ (if (a - (k : Int)) % p < p - 1 then [f k ((a - (k : Int)) % p).toNat] else []) := by
  unfold diagV
  rw [diagAt_succ, List.map_append]
  congr 1
  split <;> rfl
theorem diagW_walk0 (p a : Int) (f : Nat → Nat → Value) : ∀ k : Nat, diagW p f 0 ((List.range k).map fun (i : Nat) => (a - (i : Int)) % p) = diagV p a f k
  | 0 => rfl
  | k + 1 => by rw [List.range_succ, List.map_append, List.map_singleton, diagW_one, diagW_walk0 p a f k, diagV_succ, List.length_map, List.length_range]
theorem diagW_walk {p a : Int} (hp : p ∈ prm) (h0 : 0 ≤ a) (h1 : a < p) (f : Nat → Nat → Value) : diagW p f 0 (walkN p a (-1)) = diagV p a f p.toNat := by
  rw [walk_back hp h0 h1, diagW_walk0]
end Go.Proofs.YtfihlelhpmjpaaaGreatDoor.E

