/- EVENODD: what is made belongs together with what it is made of. A map of places, each of which has a 1. Sets: what a code under way holds; which of two places is ahead; the columns between two. Sets:  -/
import Derived.Laws.StructEq
import Derived.Maps.OwnIn
import Derived.Maps.OwnSet
import Derived.Laws.EntriesVeiled
import Derived.Deep.AppendLies
import Derived.RangeFuncNested
import Derived.Shelf.RegionOpen
import Derived.Laws.OwnMore
import Derived.Test.YtfihlelhpmjpaaaGreatDoorCRSAm8
import Derived.Test.YtfihlelhpmjpaaaGreatDoorCRG21m10
import Derived.Test.YtfihlelhpmjpaaaGreatDoorCRG21m12
namespace Go.Proofs.YtfihlelhpmjpaaaGreatDoor.E
open Go.RowKit Go.Shelf Go.Proofs.YtfihlelhpmjpaaaGreatDoor.C
set_option linter.unusedSimpArgs false
set_option linter.unusedVariables false

theorem diagAt_in {p a : Int} (hp : 0 < p) {x : Nat × Nat} {n : Nat} (hx : x ∈ diagAt p a n) : x.1 < n ∧ (x.2 : Int) < p - 1 := by
  unfold diagAt at hx
  obtain ⟨i, hi, rfl⟩ := List.mem_map.1 hx
  obtain ⟨hi1, hi2⟩ := List.mem_filter.1 hi
  have h1 := of_decide_eq_true hi2
  have h2 : 0 ≤ (a - (i : Int)) % p := Int.emod_nonneg _ (by omega)
  exact ⟨List.mem_range.1 hi1, by show (((a - (i : Int)) % p).toNat : Int) < p - 1; omega⟩
end Go.Proofs.YtfihlelhpmjpaaaGreatDoor.E

namespace Go.Proofs.YtfihlelhpmjpaaaGreatDoor
open Go.RowKit Go.Shelf
set_option linter.unusedSimpArgs false
set_option linter.unusedVariables false

theorem AtMap.look {W : World} {b : Nat} {l : List (Int × Int)} (h : AtMap W b l) (c r : Int) (hx : (c, r) ∉ l) :
    (Instr.lookup 53 (.map (some b)) (.agg #[.int .i64 c, .int .i64 r]) false).run Tryz.prog W = .ok (.int .i64 0) W := by
  obtain ⟨es, ck, hh, hF⟩ := h
  have hf := find_key (c, r) W es.toList (fun e he => by
    obtain ⟨y, hy, e1⟩ := hF e he
    exact ⟨y, e1, fun e2 => hx (by rw [← e2]; exact hy)⟩)
  have hc := fun em => check_at em (c, r) W
  have hz : (zeroValue 3).run Tryz.prog W = .ok (.int .i64 0) W := by kernel_rfl
  unfold atV at hf hc
  unfold Instr.lookup
  simp only [Sem.run_bind, run_underlying Tryz.underlying53, Result.andThen_ok, Sem.run_pure, Go.MapKept.run_getObj_map hh]
  have hc' := hc es.isEmpty
  have hf' := hf
  simp only at hc' hf'
  rw [hc']
  simp only [Result.andThen_ok]
  rw [hf']
  simp only [Result.andThen_ok, hz, Sem.run_bind, Sem.run_pure]
  rfl
end Go.Proofs.YtfihlelhpmjpaaaGreatDoor

namespace Go.Proofs.YtfihlelhpmjpaaaGreatDoor
open Go.RowKit Go.Shelf
set_option linter.unusedSimpArgs false
set_option linter.unusedVariables false

theorem spanL_len (a b : Int) : (spanL a b).length = (b - a).toNat := by unfold spanL; simp

end Go.Proofs.YtfihlelhpmjpaaaGreatDoor

namespace Go.Proofs.YtfihlelhpmjpaaaGreatDoor
open Go.RowKit Go.Shelf
set_option linter.unusedSimpArgs false
set_option linter.unusedVariables false
attribute [local go_sem] Oper.semAt_some

section
variable {B lo mm : Nat} {X Y Z : World} {o o' : Option Nat}
end
theorem flatC_len (p : Int) (hp : p ∈ prm) (cs : List Int) : (flatC p cs).length ≤ 16 * cs.length := by
  have hl := (rows_walk p hp).2.1
  have hb := prm_bounds hp
  have h16 : (rowsL p).length ≤ 16 := by omega
  unfold flatC
  induction cs with
  | nil => simp
  | cons x cs ih => rw [List.flatMap_cons, List.length_append, List.length_map, List.length_cons]; omega

end Go.Proofs.YtfihlelhpmjpaaaGreatDoor

namespace Go.Proofs.YtfihlelhpmjpaaaGreatDoor
open Go.RowKit Go.Shelf
set_option linter.unusedSimpArgs false
set_option linter.unusedVariables false

theorem spanL_mem {a b x : Int} (h : x ∈ spanL a b) : a ≤ x ∧ x < b := by
  unfold spanL at h
  obtain ⟨i, hi, rfl⟩ := List.mem_map.1 h
  have := List.mem_range.1 hi
  omega

end Go.Proofs.YtfihlelhpmjpaaaGreatDoor

namespace Go.Proofs.YtfihlelhpmjpaaaGreatDoor
open Go.RowKit Go.Shelf
set_option linter.unusedSimpArgs false
set_option linter.unusedVariables false

theorem memL_len {k p mx my : Int} (hR : RightC k p) (hc : HasCell k p mx my) : (memL k p mx my).length ≤ 1000 := by
  obtain ⟨p1, p2, s1, s2, m1, m2⟩ := hR.und
  have h1 := List.length_filter_le (fun x : Int × Int => memB k p mx my x.1 x.2) (flatC p (spanL 0 mx))
  have h2 := flatC_len p hR.2 (spanL 0 mx)
  rw [spanL_len] at h2
  have h3 := hc.1.2
  unfold memL
  omega
end Go.Proofs.YtfihlelhpmjpaaaGreatDoor

namespace Go.Proofs.YtfihlelhpmjpaaaGreatDoor
open Go.RowKit Go.Shelf

theorem flatC_mem' {p : Int} {cs : List Int} {z : Int × Int} (h : z ∈ flatC p cs) : z.1 ∈ cs ∧ 0 ≤ z.2 ∧ z.2 < p - 1 := by
  obtain ⟨x, hx, h⟩ := List.mem_flatMap.1 h
  obtain ⟨y, hy, rfl⟩ := List.mem_map.1 h
  unfold rowsL at hy
  obtain ⟨i, hi, rfl⟩ := List.mem_map.1 hy
  have := List.mem_range.1 hi
  exact ⟨hx, by simp only; omega, by simp only; omega⟩
theorem flatC_append (p : Int) (a b : List Int) : flatC p (a ++ b) = flatC p a ++ flatC p b := by unfold flatC; rw [List.flatMap_append]
theorem spanL_split (a b c : Int) (h1 : a ≤ b) (h2 : b ≤ c) : spanL a c = spanL a b ++ spanL b c := by
  unfold spanL
  rw [show (c - a).toNat = (b - a).toNat + (c - b).toNat by omega, List.range_add, List.map_append, List.map_map]
  congr 1
  apply List.map_congr_left
  intro i _
  simp only [Function.comp]
  omega
theorem memB_data {k p mx my x y : Int} (hR : RightC k p) (h : memB k p mx my x y = true) (hm : p - shortN k ≤ mx) : x < mx := by
  obtain ⟨p1, p2, s1, s2, m1, m2⟩ := hR.und
  unfold memB wayB at h
  split at h
  · have := (of_decide_eq_true h).1; omega
  · rename_i hr
    have : mx ≠ p - shortN k := fun e => hr (by rw [e]; exact if_pos rfl)
    split at h
    · unfold onDg at h
      split at h
      · have := (of_decide_eq_true h).1; omega
      · have := (of_decide_eq_true h).1; omega
    · have := (of_decide_eq_true h).1; omega
theorem memL_all {k p mx my : Int} (hR : RightC k p) (hc : HasCell k p mx my) (hm : p - shortN k ≤ mx) : (flatC p (spanL 0 (p - shortN k + madeN k))).filter (fun x => memB k p mx my x.1 x.2) = memL k p mx my := by
  obtain ⟨⟨h1, h2⟩, _⟩ := hc
  rw [spanL_split 0 mx _ h1 (by omega), flatC_append, List.filter_append]
  have : (flatC p (spanL mx (p - shortN k + madeN k))).filter (fun x => memB k p mx my x.1 x.2) = [] := by
    rw [List.filter_eq_nil_iff]
    intro z hz hb
    have h3 := spanL_mem (flatC_mem' hz).1
    have := memB_data hR hb hm
    omega
  rw [this, List.append_nil]
  rfl
end Go.Proofs.YtfihlelhpmjpaaaGreatDoor

namespace Go.Proofs.YtfihlelhpmjpaaaGreatDoor
open Go.RowKit Go.Shelf
set_option linter.unusedSimpArgs false
set_option linter.unusedVariables false

theorem grid_row (c : Int) (R j : Nat) : grid c R (j + 1) 0 = grid c R j R := by
  unfold grid
  rw [List.range_succ, List.flatMap_append]
  simp
theorem grid_one (c : Int) (R j n : Nat) : grid c R j (n + 1) = grid c R j n ++ [(c + (j : Int), (n : Int))] := by
  unfold grid
  rw [List.range_succ, List.map_append, List.append_assoc]
  rfl
theorem grid_flat (a b p : Int) : grid a (p - 1).toNat (b - a).toNat 0 = flatC p (spanL a b) := by
  unfold grid flatC spanL rowsL
  rw [List.flatMap_map]
  simp
  rfl
theorem grid_len (c : Int) (R j n : Nat) (hR : R ≤ 16) (hj : j ≤ 20) (hn : n ≤ R) : (grid c R j n).length ≤ 500 := by
  unfold grid
  rw [List.length_append, List.length_flatMap, List.length_map, List.length_range]
  have e : ((List.range j).map fun (i : Nat) => ((List.range R).map fun (r : Nat) => (c + (i : Int), (r : Int))).length) = (List.range j).map fun _ => R := by
    apply List.map_congr_left
    intro i _
    simp
  rw [e, List.map_const', List.sum_replicate_nat, List.length_range]
  have := Nat.mul_le_mul hj hR
  omega

end Go.Proofs.YtfihlelhpmjpaaaGreatDoor

namespace Go.Proofs.YtfihlelhpmjpaaaGreatDoor
open Go.RowKit Go.Shelf
set_option linter.unusedSimpArgs false
set_option linter.unusedVariables false
attribute [local go_sem] Oper.semAt_some

/-- What member answers, by roles, diagonal and slant. -/
def refB (k p my y r o dg sl : Int) : Bool :=
  if r = 2 then o == 1 && y == my else if r = 3 ∧ k = 2 then (o == 1 || o == 2) && dg == my else if r = 3 then o == 1 && (dg == my || dg == p - 1) else o == 1 && (sl == my || sl == p - 1)
theorem refB_mem {k p mx my x y : Int} (hR : RightC k p) (hc : HasCell k p mx my) (hm : p - shortN k ≤ mx) (hx : HasCell k p x y) : refB k p my y (rroleN (p - shortN k) mx) (rroleN (p - shortN k) x) ((x + y) % p) ((y - x) % p) = memB k p mx my x y := by
  have hu := hR.und
  obtain ⟨p1, p2, s1, s2, m1, m2⟩ := hu
  have e1 := role_eq (x := mx) ⟨hc.1.1, hc.1.2⟩ hR.und
  have e2 : (rroleN (p - shortN k) x = 1 ↔ x < p - shortN k) := by unfold rroleN; split <;> omega
  have e3 : (rroleN (p - shortN k) x = 2 ↔ x = p - shortN k) := by unfold rroleN; split <;> omega
  unfold memB wayB inRw onDg onSl dgN2 slN2
  rw [if_pos hx, if_pos hx, e1]
  unfold refB
  generalize rroleN (p - shortN k) mx = r at *
  generalize rroleN (p - shortN k) x = o at *
  generalize (x + y) % p = dg
  generalize (y - x) % p = sl
  generalize p - shortN k = d at *
  by_cases h2 : r = 2
  · rw [if_pos h2, if_pos h2, Bool.eq_iff_iff]
    simp [e2]
  · rw [if_neg h2, if_neg h2]
    by_cases h3 : r = 3
    · rw [if_pos h3]
      by_cases hk : k = 2
      · rw [if_pos ⟨h3, hk⟩, if_pos hk, Bool.eq_iff_iff]
        simp [e2, e3, h3]
      · rw [if_neg (fun h => hk h.2), if_pos h3, if_neg hk, Bool.eq_iff_iff]
        simp [e2]
    · rw [if_neg (fun h => h3 h.1), if_neg h3, if_neg h3, Bool.eq_iff_iff]
      simp [e2]

set_option maxRecDepth 100000 in
set_option maxHeartbeats 4000000 in
theorem member_walk (k p mx my x y r o dg sl : Int) (hb : -100 ≤ p ∧ p ≤ 100) (hRo : ∀ W, Calls Tryz.prog 173 #[.agg #[.int .i64 k, .int .i64 p], .int .i64 mx] W fun e w' => e = .returned (.int .i64 r) ∧ Below W.heap.size W w')
    (hOf : ∀ W, Calls Tryz.prog 173 #[.agg #[.int .i64 k, .int .i64 p], .int .i64 x] W fun e w' => e = .returned (.int .i64 o) ∧ Below W.heap.size W w')
    (hDg : ∀ W, Calls Tryz.prog 174 #[.agg #[.int .i64 k, .int .i64 p], .agg #[.int .i64 x, .int .i64 y]] W fun e w' => e = .returned (.int .i64 dg) ∧ Below W.heap.size W w')
    (hSl : ∀ W, Calls Tryz.prog 175 #[.agg #[.int .i64 k, .int .i64 p], .agg #[.int .i64 x, .int .i64 y]] W fun e w' => e = .returned (.int .i64 sl) ∧ Below W.heap.size W w') (w : World) :
    Calls Tryz.prog 113 #[.agg #[.int .i64 k, .int .i64 p], .agg #[.int .i64 mx, .int .i64 my], .agg #[.int .i64 x, .int .i64 y]] w fun e w' => e = .returned (.bool (refB k p my y r o dg sl)) ∧ Below w.heap.size w w' := by
  have HRo := Lib.hid hRo
  have HOf := Lib.hid hOf
  have HDg := Lib.hid hDg
  have HSl := Lib.hid hSl
  clear hRo hOf hDg hSl
  obtain ⟨W0, hW0⟩ : ∃ W0, ((w.alloc (.cells #[.int .i64 k, .int .i64 p] 49)).alloc (.cells #[.int .i64 mx, .int .i64 my] 55)).alloc (.cells #[.int .i64 x, .int .i64 y] 55) = W0 := ⟨_, rfl⟩
  have b0 : Blk W0 w.heap.size 49 #[.int .i64 k, .int .i64 p] := by rw [← hW0]; exact ((Blk.new w _ _).alloc _).alloc _
  have b1 : Blk W0 (w.heap.size + 1) 55 #[.int .i64 mx, .int .i64 my] := by rw [← hW0]; exact (Blk.second w _ _ _).alloc _
  have b2 : Blk W0 (w.heap.size + 1 + 1) 55 #[.int .i64 x, .int .i64 y] := by
    rw [← hW0]
    have := Blk.new ((w.alloc (.cells #[.int .i64 k, .int .i64 p] 49)).alloc (.cells #[.int .i64 mx, .int .i64 my] 55)) 55 #[.int .i64 x, .int .i64 y]
    rwa [World.size_alloc, World.size_alloc] at this
  have hB : Below w.heap.size w W0 := by rw [← hW0]; exact (below_two w _ _).alloc (by simp; omega) _
  have c0 := b0.cell 0
  have c1 := b0.cell 1
  have a0 := b1.cell 0
  have a1 := b1.cell 1
  have z0 := b2.cell 0
  have z1 := b2.cell 1
  simp only [List.getElem?_toArray, List.getElem?_cons_zero, List.getElem?_cons_succ] at c0 c1 a0 a1 z0 z1
  refine (callsIn_wide (n := 12)).1 ?_
  refine callsIn_of_wp_marks Tryz.func113 rfl trivial ?_ rfl
  simp only [Tryz.ntmps113, List.size_toArray, List.length_cons, List.length_nil, Nat.reduceAdd, Nat.reduceSub, Array.replicate_succ, Array.replicate_zero, List.push_toArray, List.append_toArray, List.nil_append, List.cons_append]
  gi_wp2_with fail
  clear hW0
  have hS : (fun V : World => V.cell? ⟨w.heap.size, 0, none⟩ = some (.int .i64 k) ∧ V.cell? ⟨w.heap.size, 1, none⟩ = some (.int .i64 p) ∧ V.cell? ⟨w.heap.size + 1, 0, none⟩ = some (.int .i64 mx) ∧ V.cell? ⟨w.heap.size + 1, 1, none⟩ = some (.int .i64 my) ∧ V.cell? ⟨w.heap.size + 1 + 1, 0, none⟩ = some (.int .i64 x) ∧ V.cell? ⟨w.heap.size + 1 + 1, 1, none⟩ = some (.int .i64 y)) _ := ⟨c0, c1, a0, a1, z0, z1⟩
  refine wpIn_mono (region_HF (Q := NoPanic _) (S := (fun V : World => V.cell? ⟨w.heap.size, 0, none⟩ = some (.int .i64 k) ∧ V.cell? ⟨w.heap.size, 1, none⟩ = some (.int .i64 p) ∧ V.cell? ⟨w.heap.size + 1, 0, none⟩ = some (.int .i64 mx) ∧ V.cell? ⟨w.heap.size + 1, 1, none⟩ = some (.int .i64 my) ∧ V.cell? ⟨w.heap.size + 1 + 1, 0, none⟩ = some (.int .i64 x) ∧ V.cell? ⟨w.heap.size + 1 + 1, 1, none⟩ = some (.int .i64 y))) (by kernel_rfl) ?_) NoPanic.imp
  refine anyHF_take (i := 0) (d := 11) (v := .agg #[.int .i64 k, .int .i64 p]) (by kernel_rfl) rfl (by kernel_rfl) (by kernel_rfl) (by kernel_rfl) rfl (fun _ _ _ h => h) ⟨Or.inl ⟨by rfl, fun w hS => by obtain ⟨h0, h1, h2, h3, h4, h5⟩ := hS; go_simp⟩, fun _ => rfl⟩ hS ?_
  simp only [List.setIfInBounds_toArray, List.set_cons_zero, List.set_cons_succ]
  refine anyHF_take (i := 1) (d := 12) (v := .pointer (some ⟨w.heap.size + 1, 0, none⟩)) (by kernel_rfl) rfl (by kernel_rfl) (by kernel_rfl) (by kernel_rfl) rfl (fun _ _ _ h => h) ⟨Or.inl ⟨by rfl, fun w hS => by obtain ⟨h0, h1, h2, h3, h4, h5⟩ := hS; go_simp⟩, fun _ => rfl⟩ hS ?_
  simp only [List.setIfInBounds_toArray, List.set_cons_zero, List.set_cons_succ]
  refine anyHF_take (i := 2) (d := 13) (v := .int .i64 mx) (by kernel_rfl) rfl (by kernel_rfl) (by kernel_rfl) (by kernel_rfl) rfl (fun _ _ _ h => h) ⟨Or.inl ⟨by rfl, fun w hS => by obtain ⟨h0, h1, h2, h3, h4, h5⟩ := hS; go_simp⟩, fun _ => rfl⟩ hS ?_
  simp only [List.setIfInBounds_toArray, List.set_cons_zero, List.set_cons_succ]
  refine anyHF_take (i := 4) (d := 15) (v := .agg #[.int .i64 k, .int .i64 p]) (by kernel_rfl) rfl (by kernel_rfl) (by kernel_rfl) (by kernel_rfl) rfl (fun _ _ _ h => h) ⟨Or.inl ⟨by rfl, fun w hS => by obtain ⟨h0, h1, h2, h3, h4, h5⟩ := hS; go_simp⟩, fun _ => rfl⟩ hS ?_
  simp only [List.setIfInBounds_toArray, List.set_cons_zero, List.set_cons_succ]
  refine anyHF_take (i := 5) (d := 16) (v := .pointer (some ⟨w.heap.size + 1 + 1, 0, none⟩)) (by kernel_rfl) rfl (by kernel_rfl) (by kernel_rfl) (by kernel_rfl) rfl (fun _ _ _ h => h) ⟨Or.inl ⟨by rfl, fun w hS => by obtain ⟨h0, h1, h2, h3, h4, h5⟩ := hS; go_simp⟩, fun _ => rfl⟩ hS ?_
  simp only [List.setIfInBounds_toArray, List.set_cons_zero, List.set_cons_succ]
  refine anyHF_take (i := 6) (d := 17) (v := .int .i64 x) (by kernel_rfl) rfl (by kernel_rfl) (by kernel_rfl) (by kernel_rfl) rfl (fun _ _ _ h => h) ⟨Or.inl ⟨by rfl, fun w hS => by obtain ⟨h0, h1, h2, h3, h4, h5⟩ := hS; go_simp⟩, fun _ => rfl⟩ hS ?_
  simp only [List.setIfInBounds_toArray, List.set_cons_zero, List.set_cons_succ]
  refine anyHF_one (i := 3) (by kernel_rfl) rfl (by kernel_rfl) (by rfl) ?_
  gi_wp2_with fail
  refine ⟨trivial, (callsIn_wide.2 (HRo.out _)).mono ?_⟩
  rintro e w1 ⟨rfl, hB1⟩
  replace hB1 := below_undrew hB1
  replace b0 := b0.below hB1 b0.lt
  replace b1 := b1.below hB1 b1.lt
  replace b2 := b2.below hB1 b2.lt
  replace hB := below_in hB hB1
  clear c0 c1 a0 a1 z0 z1
  have c0 := b0.cell 0
  have c1 := b0.cell 1
  have a0 := b1.cell 0
  have a1 := b1.cell 1
  have z0 := b2.cell 0
  have z1 := b2.cell 1
  simp only [List.getElem?_toArray, List.getElem?_cons_zero, List.getElem?_cons_succ] at c0 c1 a0 a1 z0 z1
  clear hS
  gi_wp2
  refine anyHF_one (i := 7) (by kernel_rfl) rfl (by kernel_rfl) (by rfl) ?_
  gi_wp2_with fail
  refine ⟨trivial, (callsIn_wide.2 (HOf.out _)).mono ?_⟩
  rintro e w1 ⟨rfl, hB1⟩
  replace b0 := b0.below hB1 b0.lt
  replace b1 := b1.below hB1 b1.lt
  replace b2 := b2.below hB1 b2.lt
  replace hB := below_in hB hB1
  clear c0 c1 a0 a1 z0 z1
  have c0 := b0.cell 0
  have c1 := b0.cell 1
  have a0 := b1.cell 0
  have a1 := b1.cell 1
  have z0 := b2.cell 0
  have z1 := b2.cell 1
  simp only [List.getElem?_toArray, List.getElem?_cons_zero, List.getElem?_cons_succ] at c0 c1 a0 a1 z0 z1
  gi_wp2
  refine anyHF_one (i := 8) (by kernel_rfl) rfl (by kernel_rfl) (by rfl) ?_
  gi_wp2
  refine anyHF_one (i := 9) (by kernel_rfl) rfl (by kernel_rfl) (by rfl) ?_
  gi_wp2
  refine anyHF_done (by kernel_rfl) ?_ _
  refine NoPanic.normal ?_
  gi_wp2_with fail
  have hS : (fun V : World => V.cell? ⟨w.heap.size, 0, none⟩ = some (.int .i64 k) ∧ V.cell? ⟨w.heap.size, 1, none⟩ = some (.int .i64 p) ∧ V.cell? ⟨w.heap.size + 1, 0, none⟩ = some (.int .i64 mx) ∧ V.cell? ⟨w.heap.size + 1, 1, none⟩ = some (.int .i64 my) ∧ V.cell? ⟨w.heap.size + 1 + 1, 0, none⟩ = some (.int .i64 x) ∧ V.cell? ⟨w.heap.size + 1 + 1, 1, none⟩ = some (.int .i64 y)) _ := ⟨c0, c1, a0, a1, z0, z1⟩
  refine wpIn_mono (region_HF (Q := NoPanic _) (S := (fun V : World => V.cell? ⟨w.heap.size, 0, none⟩ = some (.int .i64 k) ∧ V.cell? ⟨w.heap.size, 1, none⟩ = some (.int .i64 p) ∧ V.cell? ⟨w.heap.size + 1, 0, none⟩ = some (.int .i64 mx) ∧ V.cell? ⟨w.heap.size + 1, 1, none⟩ = some (.int .i64 my) ∧ V.cell? ⟨w.heap.size + 1 + 1, 0, none⟩ = some (.int .i64 x) ∧ V.cell? ⟨w.heap.size + 1 + 1, 1, none⟩ = some (.int .i64 y))) (by kernel_rfl) ?_) NoPanic.imp
  refine anyHF_take (i := 0) (d := 19) (v := .agg #[.int .i64 k, .int .i64 p]) (by kernel_rfl) rfl (by kernel_rfl) (by kernel_rfl) (by kernel_rfl) rfl (fun _ _ _ h => h) ⟨Or.inl ⟨by rfl, fun w hS => by obtain ⟨h0, h1, h2, h3, h4, h5⟩ := hS; go_simp⟩, fun _ => rfl⟩ hS ?_
  simp only [List.setIfInBounds_toArray, List.set_cons_zero, List.set_cons_succ]
  refine anyHF_take (i := 1) (d := 20) (v := .agg #[.int .i64 x, .int .i64 y]) (by kernel_rfl) rfl (by kernel_rfl) (by kernel_rfl) (by kernel_rfl) rfl (fun _ _ _ h => h) ⟨Or.inl ⟨by rfl, fun w hS => by obtain ⟨h0, h1, h2, h3, h4, h5⟩ := hS; go_simp⟩, fun _ => rfl⟩ hS ?_
  simp only [List.setIfInBounds_toArray, List.set_cons_zero, List.set_cons_succ]
  refine anyHF_take (i := 3) (d := 22) (v := .agg #[.int .i64 k, .int .i64 p]) (by kernel_rfl) rfl (by kernel_rfl) (by kernel_rfl) (by kernel_rfl) rfl (fun _ _ _ h => h) ⟨Or.inl ⟨by rfl, fun w hS => by obtain ⟨h0, h1, h2, h3, h4, h5⟩ := hS; go_simp⟩, fun _ => rfl⟩ hS ?_
  simp only [List.setIfInBounds_toArray, List.set_cons_zero, List.set_cons_succ]
  refine anyHF_take (i := 4) (d := 23) (v := .agg #[.int .i64 x, .int .i64 y]) (by kernel_rfl) rfl (by kernel_rfl) (by kernel_rfl) (by kernel_rfl) rfl (fun _ _ _ h => h) ⟨Or.inl ⟨by rfl, fun w hS => by obtain ⟨h0, h1, h2, h3, h4, h5⟩ := hS; go_simp⟩, fun _ => rfl⟩ hS ?_
  simp only [List.setIfInBounds_toArray, List.set_cons_zero, List.set_cons_succ]
  refine anyHF_one (i := 2) (by kernel_rfl) rfl (by kernel_rfl) (by rfl) ?_
  gi_wp2_with fail
  refine ⟨trivial, (callsIn_wide.2 (HDg.out _)).mono ?_⟩
  rintro e w1 ⟨rfl, hB1⟩
  replace hB1 := below_undrew hB1
  replace b0 := b0.below hB1 b0.lt
  replace b1 := b1.below hB1 b1.lt
  replace b2 := b2.below hB1 b2.lt
  replace hB := below_in hB hB1
  clear c0 c1 a0 a1 z0 z1
  have c0 := b0.cell 0
  have c1 := b0.cell 1
  have a0 := b1.cell 0
  have a1 := b1.cell 1
  have z0 := b2.cell 0
  have z1 := b2.cell 1
  simp only [List.getElem?_toArray, List.getElem?_cons_zero, List.getElem?_cons_succ] at c0 c1 a0 a1 z0 z1
  gi_wp2
  refine anyHF_one (i := 5) (by kernel_rfl) rfl (by kernel_rfl) (by rfl) ?_
  gi_wp2_with fail
  refine ⟨trivial, (callsIn_wide.2 (HSl.out _)).mono ?_⟩
  rintro e w1 ⟨rfl, hB1⟩
  replace b0 := b0.below hB1 b0.lt
  replace b1 := b1.below hB1 b1.lt
  replace b2 := b2.below hB1 b2.lt
  replace hB := below_in hB hB1
  clear c0 c1 a0 a1 z0 z1
  have c0 := b0.cell 0
  have c1 := b0.cell 1
  have a0 := b1.cell 0
  have a1 := b1.cell 1
  have z0 := b2.cell 0
  have z1 := b2.cell 1
  simp only [List.getElem?_toArray, List.getElem?_cons_zero, List.getElem?_cons_succ] at c0 c1 a0 a1 z0 z1
  gi_wp2
  refine anyHF_one (i := 6) (by kernel_rfl) rfl (by kernel_rfl) (by rfl) ?_
  gi_wp2
  refine anyHF_one (i := 7) (by kernel_rfl) rfl (by kernel_rfl) (by rfl) ?_
  gi_wp2
  refine anyHF_done (by kernel_rfl) ?_ _
  refine NoPanic.normal ?_
  clear hS HRo HOf HDg HSl
  cases hr2 : ((r == 2) : Bool) with
  | true =>
    cases ho1 : ((o == 1) : Bool) with
    | true =>
      cases hymy : ((y == my) : Bool) with
      | true =>
        gi_wp2
        exact ⟨.bool true, by simp [results, Tryz.results113, go_sem], ret_bool (by unfold refB; simp_all), hB⟩
      | false =>
        gi_wp2
        exact ⟨.bool false, by simp [results, Tryz.results113, go_sem], ret_bool (by unfold refB; simp_all), hB⟩
    | false =>
      gi_wp2
      exact ⟨.bool false, by simp [results, Tryz.results113, go_sem], ret_bool (by unfold refB; simp_all), hB⟩
  | false =>
    cases hr3 : ((r == 3) : Bool) with
    | true =>
      cases hk2 : ((k == 2) : Bool) with
      | true =>
        cases ho1 : ((o == 1) : Bool) with
        | true =>
          cases hdgmy : ((dg == my) : Bool) with
          | true =>
            gi_wp2
            exact ⟨.bool true, by simp [results, Tryz.results113, go_sem], ret_bool (by unfold refB; simp_all), hB⟩
          | false =>
            gi_wp2
            exact ⟨.bool false, by simp [results, Tryz.results113, go_sem], ret_bool (by unfold refB; simp_all), hB⟩
        | false =>
          cases ho2 : ((o == 2) : Bool) with
          | true =>
            cases hdgmy : ((dg == my) : Bool) with
            | true =>
              gi_wp2
              exact ⟨.bool true, by simp [results, Tryz.results113, go_sem], ret_bool (by unfold refB; simp_all), hB⟩
            | false =>
              gi_wp2
              exact ⟨.bool false, by simp [results, Tryz.results113, go_sem], ret_bool (by unfold refB; simp_all), hB⟩
          | false =>
            gi_wp2
            exact ⟨.bool false, by simp [results, Tryz.results113, go_sem], ret_bool (by unfold refB; simp_all), hB⟩
      | false =>
        cases ho1 : ((o == 1) : Bool) with
        | true =>
          cases hdgmy : ((dg == my) : Bool) with
          | true =>
            gi_wp2
            exact ⟨.bool true, by simp [results, Tryz.results113, go_sem], ret_bool (by unfold refB; simp_all), hB⟩
          | false =>
            cases hdgp : ((dg == p - 1) : Bool) with
            | true =>
              gi_wp2
              exact ⟨.bool true, by simp [results, Tryz.results113, go_sem], ret_bool (by unfold refB; simp_all), hB⟩
            | false =>
              gi_wp2
              exact ⟨.bool false, by simp [results, Tryz.results113, go_sem], ret_bool (by unfold refB; simp_all), hB⟩
        | false =>
          gi_wp2
          exact ⟨.bool false, by simp [results, Tryz.results113, go_sem], ret_bool (by unfold refB; simp_all), hB⟩
    | false =>
      cases ho1 : ((o == 1) : Bool) with
      | true =>
        cases hslmy : ((sl == my) : Bool) with
        | true =>
          gi_wp2
          exact ⟨.bool true, by simp [results, Tryz.results113, go_sem], ret_bool (by unfold refB; simp_all), hB⟩
        | false =>
          cases hslp : ((sl == p - 1) : Bool) with
          | true =>
            gi_wp2
            exact ⟨.bool true, by simp [results, Tryz.results113, go_sem], ret_bool (by unfold refB; simp_all), hB⟩
          | false =>
            gi_wp2
            exact ⟨.bool false, by simp [results, Tryz.results113, go_sem], ret_bool (by unfold refB; simp_all), hB⟩
      | false =>
        gi_wp2
        exact ⟨.bool false, by simp [results, Tryz.results113, go_sem], ret_bool (by unfold refB; simp_all), hB⟩
end Go.Proofs.YtfihlelhpmjpaaaGreatDoor

namespace Go.Proofs.YtfihlelhpmjpaaaGreatDoor
open Go.RowKit Go.Shelf
set_option linter.unusedSimpArgs false
set_option linter.unusedVariables false

theorem refMember_any (k p mx my x y : Int) (hR : RightC k p) (hc : HasCell k p mx my) (hm : p - shortN k ≤ mx) (hx : HasCell k p x y) (w : World) :
    Calls Tryz.prog 113 #[.agg #[.int .i64 k, .int .i64 p], .agg #[.int .i64 mx, .int .i64 my], .agg #[.int .i64 x, .int .i64 y]] w fun e w' => e = .returned (.bool (memB k p mx my x y)) ∧ Below w.heap.size w w' := by
  obtain ⟨p1, p2, s1, s2, m1, m2⟩ := hR.und
  have h := member_walk k p mx my x y _ _ _ _ (by omega) (fun W => refRole_any k p mx hR ⟨hc.1.1, by have := hc.1.2; omega⟩ W) (fun W => refRole_any k p x hR ⟨hx.1.1, by have := hx.1.2; omega⟩ W)
    (fun W => refDiagonal_any k p x y hR ⟨hx.1.1, by have := hx.1.2; omega⟩ ⟨hx.2.1, by have := hx.2.2; omega⟩ W) (fun W => refSlant_any k p x y hR ⟨hx.1.1, by have := hx.1.2; omega⟩ ⟨hx.2.1, by have := hx.2.2; omega⟩ W) w
  rw [refB_mem hR hc hm hx] at h
  exact h

set_option maxRecDepth 100000 in
set_option maxHeartbeats 2000000 in
theorem refMembers_any (k p mx my : Int) (hR : RightC k p) (hc : HasCell k p mx my) (hm : p - shortN k ≤ mx) (w : World) :
    Calls Tryz.prog 64 #[.agg #[.int .i64 k, .int .i64 p], .agg #[.int .i64 mx, .int .i64 my]] w fun e w' => ∃ v, e = .returned v ∧ OwnA w' w.heap.size v (memL k p mx my) ∧ Below w.heap.size w w' := by
  obtain ⟨p1, p2, s1, s2, m1, m2⟩ := hR.und
  have HME := Lib.hid (fun x y hx W => refMember_any k p mx my x y hR hc hm hx W)
  have HCo := Lib.hid (fun W => refCols_any k p hR W)
  have HRw := Lib.hid (fun W => refRows_any k p hR W)
  have HEND : Hid ((grid 0 (p - 1).toNat (p - shortN k + madeN k).toNat 0).filter (fun z => memB k p mx my z.1 z.2) = memL k p mx my) := by
    have := grid_flat 0 (p - shortN k + madeN k) p
    rw [Int.sub_zero] at this
    unfold Hid
    rw [this]
    exact memL_all hR hc hm
  unfold HasCell at HME
  generalize memL k p mx my = want at *
  generalize hq : (fun z : Int × Int => memB k p mx my z.1 z.2) = q at HEND
  have HQ := Lib.hid (fun x y => (congrFun hq (x, y) : memB k p mx my x y = q (x, y)))
  clear hq hc hm hR
  have hcc : 0 ≤ p - shortN k + madeN k ∧ p - shortN k + madeN k ≤ 20 := by omega
  generalize p - shortN k + madeN k = cc at *
  obtain ⟨C, rfl⟩ : ∃ C : Nat, cc = (C : Int) := ⟨cc.toNat, by omega⟩
  obtain ⟨R, hRR⟩ : ∃ R : Nat, p - 1 = (R : Int) := ⟨(p - 1).toNat, by omega⟩
  rw [hRR] at HRw HME HEND
  have hR16 : R ≤ 16 := by omega
  have hC19 : C ≤ 20 := by omega
  clear hRR p1 p2 s1 s2 m1 m2 hcc
  obtain ⟨W0, hW0⟩ : ∃ W0, (w.alloc (.cells #[.int .i64 k, .int .i64 p] 49)).alloc (.cells #[.int .i64 mx, .int .i64 my] 55) = W0 := ⟨_, rfl⟩
  have b0 : Blk W0 w.heap.size 49 #[.int .i64 k, .int .i64 p] := by rw [← hW0]; exact (Blk.new w _ _).alloc _
  have b1 : Blk W0 (w.heap.size + 1) 55 #[.int .i64 mx, .int .i64 my] := by rw [← hW0]; exact Blk.second w _ _ _
  have hB : Below w.heap.size w W0 := by rw [← hW0]; exact below_two w _ _
  go_enter Tryz.func64, Tryz.ntmps64
  go_wp2_with fail
  clear hW0
  go_loopw [5, 6] (fun v i wr => ∃ j : Nat, j ≤ C ∧ i = .int .i64 j ∧ OwnA wr (w.heap.size + 2) v ((grid 0 R j 0).filter q) ∧ Blk wr w.heap.size 49 #[.int .i64 k, .int .i64 p] ∧ Blk wr (w.heap.size + 1) 55 #[.int .i64 mx, .int .i64 my] ∧ Below w.heap.size w wr) (fun _ i _ => C - (intOf i).toNat)
  case atStart => exact ⟨0, by omega, rfl, ownA_nil _ _, b0, b1, hB⟩
  case round =>
    clear b0 b1 hB
    obtain ⟨j, hj, rfl, ho, b0, b1, hB⟩ := hrel
    have c0 := b0.cell 0; have c1 := b0.cell 1; have a0 := b1.cell 0; have a1 := b1.cell 1; simp only [List.getElem?_toArray, List.getElem?_cons_zero, List.getElem?_cons_succ] at c0 c1 a0 a1
    by_cases hlt : j < C
    · have hdec : decide ((j : Int) < (C : Int)) = true := by simp; omega
      go_wp2_with (go_at_call 61; refine (HCo.out _).mono ?_; rintro e w1 ⟨rfl, hB1⟩; replace ho := ho.below hB1; replace b0 := b0.below hB1 b0.lt; replace b1 := b1.below hB1 b1.lt; replace hB := below_in hB hB1; have c0 := b0.cell 0; have c1 := b0.cell 1; have a0 := b1.cell 0; have a1 := b1.cell 1; simp only [List.getElem?_toArray, List.getElem?_cons_zero, List.getElem?_cons_succ] at c0 c1 a0 a1)
      go_loopw [5, 7] (fun v i wz => ∃ n : Nat, n ≤ R ∧ i = .int .i64 n ∧ OwnA wz (w.heap.size + 2) v ((grid 0 R j n).filter q) ∧ Blk wz w.heap.size 49 #[.int .i64 k, .int .i64 p] ∧ Blk wz (w.heap.size + 1) 55 #[.int .i64 mx, .int .i64 my] ∧ Below w.heap.size w wz) (fun _ i _ => R - (intOf i).toNat)
      case atStart => exact ⟨0, by omega, rfl, ho, b0, b1, hB⟩
      case round =>
        clear ho b0 b1 hB c0 c1 a0 a1
        obtain ⟨n, hn, rfl, ho, b0, b1, hB⟩ := hrel
        have c0 := b0.cell 0; have c1 := b0.cell 1; have a0 := b1.cell 0; have a1 := b1.cell 1; simp only [List.getElem?_toArray, List.getElem?_cons_zero, List.getElem?_cons_succ] at c0 c1 a0 a1
        by_cases hlt2 : n < R
        · have hdec2 : decide ((n : Int) < (R : Int)) = true := by simp; omega
          have hfl : ((grid 0 R j n).filter q).length ≤ 500 := Nat.le_trans (List.length_filter_le _ _) (grid_len 0 R j n hR16 (by omega) (by omega))
          go_wp2_with fail
          refine (HRw.out _).mono ?_
          rintro e w1 ⟨rfl, hB1⟩
          replace ho := ho.below hB1
          replace b0 := b0.below hB1 b0.lt
          replace b1 := b1.below hB1 b1.lt
          replace hB := below_in hB hB1
          clear hB1 c0 c1 a0 a1
          have hBx := below_one w1 (.cells #[.int .i64 j, .int .i64 n] 55)
          have b2 := Blk.new w1 55 #[.int .i64 j, .int .i64 n]
          replace ho := ho.below hBx
          replace b0 := b0.below hBx b0.lt
          replace b1 := b1.below hBx b1.lt
          replace hB := below_in hB hBx
          have c0 := b0.cell 0; have c1 := b0.cell 1; have a0 := b1.cell 0; have a1 := b1.cell 1; simp only [List.getElem?_toArray, List.getElem?_cons_zero, List.getElem?_cons_succ] at c0 c1 a0 a1
          have z0 := b2.cell 0; have z1 := b2.cell 1; simp only [List.getElem?_toArray, List.getElem?_cons_zero, List.getElem?_cons_succ] at z0 z1
          have HM := Lib.hid (HME.out j n ⟨⟨by omega, by omega⟩, by omega, by omega⟩)
          have hqq := HQ.out (j : Int) (n : Int)
          rw [hqq] at HM
          clear hqq
          cases hqz : q ((j : Int), (n : Int)) with
          | false =>
            rw [hqz] at HM
            have hnx : (grid 0 R j (n + 1)).filter q = (grid 0 R j n).filter q := by rw [grid_one, List.filter_append]; simp [hqz]
            generalize (grid 0 R j n).filter q = l at *
            have HN := Lib.hid hnx
            clear hnx
            go_wp2_with (go_at_call 113; refine (HM.out _).mono ?_; rintro e w3 ⟨rfl, hB1⟩; replace ho := ho.below hB1; replace b0 := b0.below hB1 b0.lt; replace b1 := b1.below hB1 b1.lt; replace hB := below_in hB hB1)
            go_roundw
            case rel => exact ⟨n + 1, by omega, by go_num, by rw [HN.out]; exact ho, b0, b1, hB⟩
            case measure => simp [intOf]; omega
          | true =>
            rw [hqz] at HM
            have hnx : (grid 0 R j (n + 1)).filter q = (grid 0 R j n).filter q ++ [((j : Int), (n : Int))] := by rw [grid_one, List.filter_append]; simp [hqz]
            generalize (grid 0 R j n).filter q = l at *
            have HN := Lib.hid hnx
            clear hnx
            go_wp2_with fail
            refine (HM.out _).mono ?_
            rintro e w3 ⟨rfl, hB1⟩
            replace ho := ho.below hB1
            replace b0 := b0.below hB1 b0.lt
            replace b1 := b1.below hB1 b1.lt
            replace b2 := b2.below hB1 b2.lt
            replace hB := below_in hB hB1
            clear c0 c1 a0 a1 z0 z1
            have z0 := b2.cell 0; have z1 := b2.cell 1; simp only [List.getElem?_toArray, List.getElem?_cons_zero, List.getElem?_cons_succ] at z0 z1
            have hBy := below_one w3 (.cells #[.int .i64 j, .int .i64 n] 55)
            have HO := Lib.hid (ho.below hBy)
            have HU := Lib.hid (Blk.new w3 55 #[.int .i64 j, .int .i64 n])
            replace b0 := b0.below hBy b0.lt
            replace b1 := b1.below hBy b1.lt
            replace hB := below_in hB hBy
            have hs3 := hB.size
            have hs4 := b1.lt
            have ho4 := ho.own_le
            have hn0 := ho.ne (g := w.heap.size) (by omega)
            have hn1 := ho.ne (g := w.heap.size + 1) (by omega)
            go_wp2_with (at_builtin; refine wpList_code _ rfl _ _ 50 55 (.agg #[.int .i64 0, .int .i64 0]) 16 rfl Tryz.underlying50 Tryz.infoAt rfl (w.heap.size + 2) _ _ rfl _ HO.out _ 1 _ _ rfl HU.out (by omega) (by omega) (by omega) ?_; intro v2 w2 hown2 hgrow2)
            go_roundw
            case rel => exact ⟨n + 1, by omega, by go_num, by rw [HN.out]; exact OwnA.push hown2, b0.grown hgrow2 hn0, b1.grown hgrow2 hn1, hB.grown hgrow2 hB.size (fun r e => by have := ho4 r e; omega)⟩
            case measure => simp [intOf]; omega
        · obtain rfl : n = R := by omega
          have hdec2 : decide ((n : Int) < (n : Int)) = false := by simp
          go_wp2_with (go_at_call 62; refine (HRw.out _).mono ?_; rintro e w1 ⟨rfl, hB1⟩; replace ho := ho.below hB1; replace b0 := b0.below hB1 b0.lt; replace b1 := b1.below hB1 b1.lt; replace hB := below_in hB hB1; have c0 := b0.cell 0; have c1 := b0.cell 1; have a0 := b1.cell 0; have a1 := b1.cell 1; simp only [List.getElem?_toArray, List.getElem?_cons_zero, List.getElem?_cons_succ] at c0 c1 a0 a1)
          go_roundw
          case rel => exact ⟨j + 1, by omega, by go_num, by rw [grid_row]; exact ho, b0, b1, hB⟩
          case measure => simp [intOf]; omega
    · obtain rfl : j = C := by omega
      have hdec : decide ((j : Int) < (j : Int)) = false := by simp
      go_wp2_with (go_at_call 61; refine (HCo.out _).mono ?_; rintro e w1 ⟨rfl, hB1⟩; replace ho := ho.below hB1; replace b0 := b0.below hB1 b0.lt; replace b1 := b1.below hB1 b1.lt; replace hB := below_in hB hB1; have c0 := b0.cell 0; have c1 := b0.cell 1; have a0 := b1.cell 0; have a1 := b1.cell 1; simp only [List.getElem?_toArray, List.getElem?_cons_zero, List.getElem?_cons_succ] at c0 c1 a0 a1)
      have he := HEND.out
      simp only [Int.toNat_natCast] at he
      rw [he] at ho
      go_wp2
      go_ret
      exact ⟨_, rfl, ho.less (by omega), hB⟩
end Go.Proofs.YtfihlelhpmjpaaaGreatDoor

namespace Go.Proofs.YtfihlelhpmjpaaaGreatDoor.E
open Go.RowKit Go.Shelf Go.Proofs.YtfihlelhpmjpaaaGreatDoor.C
set_option linter.unusedSimpArgs false
set_option linter.unusedVariables false

def natZ (z : Int × Int) : Nat × Nat := (z.1.toNat, z.2.toNat)

theorem stepsL_len (k p : Int) (n : Nat) (css : List (List (List UInt8))) : ∀ m, (stepsL k p n css m).length = css.length + m
  | 0 => rfl
  | m + 1 => by
    show (stepsL k p n css m ++ [_]).length = _
    rw [List.length_append, stepsL_len k p n css m]
    rfl
theorem togOk_grid {R : Nat} {css : List (List (List UInt8))} (h : TogOk R css) : Grid R (firstC css).length css := fun j hj => ⟨(h.2 j hj).1, fun i hi => togOk_cell h hj hi⟩
theorem by_left {a b : List (List (List UInt8))} {c : Nat} (hc : c < a.length) (j r : Nat) : by_ (a ++ b) j c r = by_ a j c r := by
  unfold by_ cellOf_
  rw [List.getElem?_append_left hc]
theorem at_uponL {n : Nat} {css : List (List (List UInt8))} {l : List (Int × Int)} (h : ∀ z ∈ l, (cellI css z).length = n) (j : Nat) : at_ (uponL n css l) j = xa (l.map fun z => by_ css j z.1.toNat z.2.toNat) := by
  unfold uponL
  rw [at_upon (fun x hx => by
    obtain ⟨z, hz, rfl⟩ := List.mem_map.1 hx
    exact h z hz), List.map_map]
  rfl
theorem at_uponN {n : Nat} {css : List (List (List UInt8))} {l : List (Int × Int)} (h : ∀ z ∈ l, (cellI css z).length = n) (j : Nat) : at_ (uponL n css l) j = xa ((l.map natZ).map fun x => by_ css j x.1 x.2) := by
  rw [at_uponL h, List.map_map]
  rfl
theorem memRow1 : ∀ p ∈ prm, ∀ r ∈ List.range (p - 1).toNat, memL 1 p p (r : Int) = (List.range p.toNat).map fun (c : Nat) => ((c : Int), (r : Int)) := by decide +kernel
theorem memDiag1 : ∀ p ∈ prm, ∀ r ∈ List.range (p - 1).toNat, ((memL 1 p (p + 1) (r : Int)).map natZ).isPerm (diagAt p (p - 1) p.toNat ++ diagAt p (r : Int) p.toNat) = true := by decide +kernel
def inB (R N : Nat) (l : List (Int × Int)) : Bool := l.all fun z => (decide (0 ≤ z.1) && decide (z.1 < (N : Int))) && (decide (0 ≤ z.2) && decide (z.2 < (R : Int)))
theorem inL_of {R N : Nat} {l : List (Int × Int)} (h : inB R N l = true) : inL R N l := by
  intro z hz
  have := List.all_eq_true.1 h z hz
  simpa using this
theorem memIn1 : ∀ p ∈ prm, ∀ r ∈ List.range (p - 1).toNat, ∀ m ∈ [0, 1], inB (p - 1).toNat p.toNat (memL 1 p (p + m) (r : Int)) = true := by decide +kernel
section
variable {p : Int} {css : List (List (List UInt8))}
theorem col1_rows (h : DataOk p css) : colL 1 p (firstC css).length css p = rowsMade (p - 1).toNat css := by
  have hd := dataOk_n h
  have hg := togOk_grid h.2.2
  unfold colL
  refine Eq.trans ?_ (rfl : (List.range (p - 1).toNat).map (fun r => xorOf (rowOf css r)) = _)
  refine List.map_congr_left fun r hr => ?_
  have hr' := List.mem_range.1 hr
  have hin := inL_of (memIn1 p h.1.2 r hr 0 (by simp))
  rw [Int.add_zero] at hin
  refine ext_at (by rw [uponL_len, row_len h hr']) fun j => ?_
  rw [at_uponL (hin.cells hg (by omega)) j, at_row h hr', memRow1 p h.1.2 r hr, List.map_map]
  rfl
theorem col1_diags (h : DataOk p css) (cs : List (List UInt8)) (hcs : cs.length = (p - 1).toNat ∧ ∀ i, i < (p - 1).toNat → (cs[i]?.getD []).length = (firstC css).length) : colL 1 p (firstC css).length (css ++ [cs]) (p + 1) = diagsMade p (p - 1).toNat css := by
  have hd := dataOk_n h
  have hg := (togOk_grid h.2.2).snoc hcs.1 hcs.2
  unfold colL
  refine Eq.trans ?_ (rfl : (List.range (p - 1).toNat).map (fun (r : Nat) => xorOf ([adjOf p css] ++ diagOf p r css)) = _)
  refine List.map_congr_left fun r hr => ?_
  have hr' := List.mem_range.1 hr
  have hin := inL_of (memIn1 p h.1.2 r hr 1 (by simp))
  have hrp : (r : Int) < p := by omega
  refine ext_at (by rw [uponL_len, diag_len h hrp]) fun j => ?_
  rw [at_uponN (hin.cells hg (by rw [List.length_append]; omega)) j, at_diagMade h hrp, xa_perm ((List.isPerm_iff.1 (memDiag1 p h.1.2 r hr)).map _), List.map_append, xa_append]
  have hE : ∀ a : Int, xa ((diagAt p a p.toNat).map fun x => by_ (css ++ [cs]) j x.1 x.2) = dg_ p css j a := fun a => by
    unfold dg_
    congr 1
    refine List.map_congr_left fun x hx => ?_
    have := diagAt_in (by omega) hx
    exact by_left (by omega) j x.2
  rw [hE, hE]
/-- EVENODD's columns are those that the document makes by members. -/
theorem steps1 (h : DataOk p css) : stepsL 1 p (firstC css).length css 2 = css ++ encOf p css := by
  have hd := dataOk_n h
  have e0 : ((css.length : Int) + ((0 : Nat) : Int)) = p := by omega
  have e1 : ((css.length : Int) + ((1 : Nat) : Int)) = p + 1 := by omega
  show (css ++ [colL 1 p _ css _]) ++ [colL 1 p _ (css ++ [colL 1 p _ css _]) _] = _
  rw [e0, e1, col1_rows h, col1_diags h _ ⟨rowsMade_len _, fun i hi => by rw [rowsMade_at h hi]; exact row_len h hi⟩, List.append_assoc]
  rfl
end
end Go.Proofs.YtfihlelhpmjpaaaGreatDoor.E

namespace Go.Proofs.YtfihlelhpmjpaaaGreatDoor.E
open Go.RowKit Go.Shelf Go.Proofs.YtfihlelhpmjpaaaGreatDoor.C
set_option linter.unusedSimpArgs false
set_option linter.unusedVariables false

theorem uponL_next (n : Nat) (css : List (List (List UInt8))) (l : List (Int × Int)) {k : Nat} (hk : k < l.length) : uponL n css (l.take (k + 1)) = xorB (uponL n css (l.take k)) (cellI css l[k]) := by
  unfold uponL
  rw [List.map_take, xors_next _ _ (by rw [List.length_map]; exact hk), List.map_take, List.getElem?_map, List.getElem?_eq_getElem hk]
  rfl
set_option maxHeartbeats 400000 in
theorem nought6_fresh (n : Nat) (hn : n ≤ 1000) (w : World) : Calls Tryz.prog 107 #[.int .i64 (n : Int)] w fun e w' => ∃ u, e = .returned u ∧ Fresh w.heap.size w' u (List.replicate n 0) ∧ Below w.heap.size w w' := by
  obtain ⟨i0, hi, hz0, hz1, hz2⟩ := info_parts Tryz.infoByte
  have hmk := fun W : World => run_make (P := Tryz.prog) W 57 5 i0 (.int .u8 0) Tryz.underlying57 hi hz0 .i64 .i64 (n : Int) (n : Int) (by omega) (by omega) (by rw [hz2]; omega) (by omega)
  simp only [hz1, Nat.mul_one, Int.toNat_natCast] at hmk
  have hR := Row.made w n
  have hBz := below_one w (.cells (madeCells #[.int .u8 0] n) 5)
  go_enter Tryz.func107, Tryz.ntmps107
  go_wp2
  go_ret
  exact ⟨_, rfl, Row.fresh hR (Nat.le_refl _) (by simp), hBz⟩
set_option maxRecDepth 100000 in
set_option maxHeartbeats 2000000 in
theorem upon6_any {B : Nat} (vs vl : Value) (css : List (List (List UInt8))) (l : List (Int × Int)) (R n : Nat) (w : World) (hB : B ≤ w.heap.size) (hC : Cols B w vs css) (hl : ReadA w vl l) (hg : Grid R n css) (hin : inL R css.length l) (hn : n ≤ 1000) (hll : l.length ≤ 1000) (hcl : css.length ≤ 1000) (hR : R ≤ 1000) :
    Calls Tryz.prog 63 #[vs, vl, .int .i64 (n : Int)] w fun e w' => ∃ u, e = .returned u ∧ Fresh w.heap.size w' u (uponL n css l) ∧ Below w.heap.size w w' := by
  obtain ⟨A, cap, rfl, _, _⟩ := id hC
  obtain ⟨Al, capl, rfl, hRd⟩ := hl
  have HR1 := Lib.hid hRd
  have HCC := Lib.hid hC
  have HG := Lib.hid hg
  have HIN := Lib.hid hin
  obtain ⟨N, hN⟩ : ∃ N, l.length = N := ⟨_, rfl⟩
  obtain ⟨C, hCn⟩ : ∃ C, css.length = C := ⟨_, rfl⟩
  have HN := Lib.hid hN
  have HCN := Lib.hid hCn
  rw [hN] at hll
  rw [hCn] at hcl
  rw [hN, hCn]
  have HNO := Lib.hid (fun (U : World) => nought6_fresh n hn U)
  have HNX : Hid (∀ k, k < N → ∀ hk : k < l.length, uponL n css (l.take (k + 1)) = xorB (uponL n css (l.take k)) (cellI css l[k])) := fun k _ hk => uponL_next n css l hk
  have HE : Hid (uponL n css (l.take N) = uponL n css l) := by unfold Hid; rw [← hN, List.take_length]
  have HLN : Hid (∀ k, (uponL n css (l.take k)).length = n) := fun k => uponL_len n css _
  clear hN hCn hC hRd hg hin
  go_enter Tryz.func63, Tryz.ntmps63
  go_wp2_with (go_at_call 107; refine (HNO.out _).mono ?_; rintro e w1 ⟨u0, rfl, hu0, hB1⟩)
  go_loopw [7, 8] (fun v i wr => ∃ j : Nat, j ≤ N ∧ i = .int .i64 j ∧ Fresh w.heap.size wr v (uponL n css (l.take j)) ∧ Below w.heap.size w wr) (fun _ i _ => N - (intOf i).toNat)
  case atStart => exact ⟨0, by omega, rfl, hu0, hB1⟩
  case round =>
    clear hu0 hB1
    obtain ⟨j, hj, rfl, hu, hBr⟩ := hrel
    by_cases hlt : j < N
    · have hdec : decide ((j : Int) < (N : Int)) = true := by simp; omega
      have hjs : j < l.length := by rw [HN.out]; exact hlt
      have hnx := HNX.out j hlt hjs
      obtain ⟨g1, rfl, hg1, x0, x1⟩ := HR1.out j hjs
      obtain ⟨hz1, hz2⟩ := HIN.out l[j] (List.getElem_mem hjs)
      have hlen := HLN.out j
      clear HR1 HIN HNX
      generalize l[j] = z at *
      obtain ⟨zx, zy⟩ := z
      simp only at hz1 hz2 x0 x1
      rw [HCN.out] at hz1
      obtain ⟨X, rfl⟩ : ∃ X : Nat, zx = (X : Int) := ⟨zx.toNat, by omega⟩
      obtain ⟨Y, rfl⟩ : ∃ Y : Nat, zy = (Y : Int) := ⟨zy.toNat, by omega⟩
      have hX : X < C := by omega
      have hY : Y < R := by omega
      obtain ⟨b1, off1, cq1, e1, hcq, hb1, hrow1⟩ := HCC.out.at_ (by rw [HCN.out]; omega)
      rw [HCN.out] at e1 hcq
      injection e1 with e1 _ e1c
      subst e1 e1c
      obtain ⟨u1, hc1, hm1⟩ := hrow1 X (by rw [HCN.out]; exact hX)
      obtain ⟨hcr, hce⟩ := HG.out X (by rw [HCN.out]; exact hX)
      obtain ⟨A3, cap3, rfl, _, _⟩ := id hm1
      obtain ⟨b2, off3, rfl, hb2, hrow3⟩ := many_at hm1 (by omega)
      obtain ⟨Aa, ca, hc3, hby⟩ := hrow3 Y (by omega)
      have hcl2 := hce Y hY
      rw [hcr] at hc1
      rw [hcl2] at hc3 hby
      have hcI : cellI css ((X : Int), (Y : Int)) = (css[X]?.getD [])[Y]?.getD [] := rfl
      rw [hcI] at hnx
      have HJX := Lib.hid hnx
      clear hnx
      have x0' := (hBr.cell (p := ⟨g1, j * 2, none⟩) hg1).trans x0
      have x1' := (hBr.cell (p := ⟨g1, j * 2 + 1, none⟩) hg1).trans x1
      have y0' := (hBr.cell (p := ⟨b1, off1 + X, none⟩) (Nat.lt_of_lt_of_le hb1 hB)).trans hc1
      have y1' := (hBr.cell (p := ⟨b2, off3 + Y, none⟩) (Nat.lt_of_lt_of_le hb2 hB)).trans hc3
      have HP := Lib.hid (fun (U : World) (v : Value) (hU : Below w.heap.size w U) (hv : Bytes U.heap.size U v (uponL n css (l.take j))) => rput_any v (.slice Aa n ca) (uponL n css (l.take j)) ((css[X]?.getD [])[Y]?.getD []) U hv ((hby.below (hU.mono hB)).more (Nat.le_trans hB hU.size)) (by omega) (by omega))
      clear hcI hce hrow1 hrow3 hm1 hby x0 x1 hc1 hc3
      generalize (css[X]?.getD [])[Y]?.getD [] = xy at *
      generalize uponL n css (l.take j) = cur at *
      have i1 : (0 : Int) ≤ (j : Int) := by omega
      have i2 : (j : Int) < (N : Int) := by omega
      have i3 : (0 : Int) ≤ (X : Int) := by omega
      have i4 : (X : Int) < (C : Int) := by omega
      have i5 : (0 : Int) ≤ (Y : Int) := by omega
      have i6 : (Y : Int) < (R : Int) := by omega
      have HHU := Lib.hid hu.bytes
      have hBz := hBr.size
      clear hlen hcl2 hcr hu
      go_wp2
      go_region_held3 (fun U => U.cell? ⟨g1, j * 2, none⟩ = some (.int .i64 (X : Int)) ∧ U.cell? ⟨g1, j * 2 + 1, none⟩ = some (.int .i64 (Y : Int)) ∧ U.cell? ⟨b1, off1 + X, none⟩ = some (.slice (some ⟨b2, off3, none⟩) R cap3) ∧ U.cell? ⟨b2, off3 + Y, none⟩ = some (.slice Aa n ca))
        (first | exact ⟨x0', x1', y0', y1'⟩ | exact ⟨(hB4.cell (p := ⟨g1, j * 2, none⟩) (Nat.lt_of_lt_of_le hg1 hBz)).trans x0', (hB4.cell (p := ⟨g1, j * 2 + 1, none⟩) (Nat.lt_of_lt_of_le hg1 hBz)).trans x1', (hB4.cell (p := ⟨b1, off1 + X, none⟩) (Nat.lt_of_lt_of_le hb1 (Nat.le_trans hB hBz))).trans y0', (hB4.cell (p := ⟨b2, off3 + Y, none⟩) (Nat.lt_of_lt_of_le hb2 (Nat.le_trans hB hBz))).trans y1'⟩) (first | (go_at_call 70; refine (HP.out _ _ hBr.drew (HHU.out.below ((Below.refl _ _).drew))).mono ?_; rintro e w4 ⟨v4, rfl, hv4, hB4⟩; replace hB4 := below_undrew hB4))
      all_goals go_wp2
      all_goals go_roundw
      case rel => exact ⟨j + 1, by omega, by go_num, by rw [HJX.out]; exact hv4.fresh.less hBz, below_in hBr hB4⟩
      case measure => simp [intOf]; omega
    · obtain rfl : j = N := by omega
      have hdec : decide ((j : Int) < (j : Int)) = false := by simp
      rw [HE.out] at hu
      go_wp2
      go_ret
      exact ⟨_, rfl, hu, hBr⟩
end Go.Proofs.YtfihlelhpmjpaaaGreatDoor.E

namespace Go.Proofs.YtfihlelhpmjpaaaGreatDoor.E
open Go.RowKit Go.Shelf Go.Proofs.YtfihlelhpmjpaaaGreatDoor.C
set_option linter.unusedSimpArgs false
set_option linter.unusedVariables false

theorem colL_next (k p : Int) (n : Nat) (css : List (List (List UInt8))) (col : Int) {r : Nat} (hr : r < (p - 1).toNat) : (colL k p n css col).take (r + 1) = (colL k p n css col).take r ++ [uponL n css (memL k p col (r : Int))] := by
  unfold colL
  rw [map_next _ 0 _ (by rw [List.length_range]; exact hr), List.getElem?_range hr]
  rfl
/-- The members of a cell that is made are cells ahead of it. -/
theorem memL_in {k p : Int} (hR : RightC k p) {col row : Int} {R N : Nat} (hRR : p - 1 = (R : Int)) (hN : col ≤ (N : Int)) : inL R N (memL k p col row) := by
  intro z hz
  unfold memL at hz
  have h1 := flatC_mem' (List.mem_filter.1 hz).1
  have h2 := spanL_mem h1.1
  omega
set_option maxRecDepth 100000 in
set_option maxHeartbeats 4000000 in
theorem encode6_any {B : Nat} (k p : Int) (hR : RightC k p) (v1 : Value) (css : List (List (List UInt8))) (n : Nat) (w : World) (hB : B ≤ w.heap.size) (hC : Cols B w v1 css) (hlen : (css.length : Int) = p - shortN k) (hG : Grid (p - 1).toNat n css) (hn : n ≤ 1000) :
    Calls Tryz.prog 26 #[.agg #[.int .i64 k, .int .i64 p], v1] w fun e w' => ∃ u, e = .returned u ∧ Cols w'.heap.size w' u (stepsL k p n css (madeN k).toNat) ∧ Below w.heap.size w w' := by
  obtain ⟨p1, p2, s1, s2, m1, m2⟩ := hR.und
  obtain ⟨b1, off1, cap, rfl, hcap, hb1, hrow0⟩ := hC.at_ (by omega)
  obtain ⟨R, hRR⟩ : ∃ R : Nat, p - 1 = (R : Int) := ⟨(p - 1).toNat, by omega⟩
  obtain ⟨M, hM⟩ : ∃ M : Nat, madeN k = (M : Int) := ⟨(madeN k).toNat, by omega⟩
  have hRt : (p - 1).toNat = R := by omega
  have hMt : (madeN k).toNat = M := by omega
  rw [hRt] at hG
  rw [hMt]
  have HCo := Lib.hid (fun W => refCols_any k p hR W)
  have HDa := Lib.hid (fun W => refData_any k p hR W)
  have HRw := Lib.hid (fun W => refRows_any k p hR W)
  have hcd : p - shortN k + madeN k = ((css.length + M : Nat) : Int) := by omega
  rw [hcd] at HCo
  rw [← hlen] at HDa
  rw [hRR] at HRw
  have HMB := Lib.hid (fun (m r : Nat) (hm : m < M) (hr : r < R) (W : World) => refMembers_any k p ((css.length + m : Nat) : Int) (r : Int) hR ⟨by omega, by omega⟩ (by omega) W)
  have HMI := Lib.hid (fun (m r : Nat) => (memL_in hR hRR (Int.le_refl _) : inL R (css.length + m) (memL k p ((css.length + m : Nat) : Int) (r : Int))))
  have HMLN := Lib.hid (fun (m r : Nat) (hm : m < M) (hr : r < R) => (memL_len (k := k) (p := p) (mx := ((css.length + m : Nat) : Int)) (my := (r : Int)) hR ⟨by omega, by omega⟩))
  have HGR := Lib.hid (fun m => hG.steps (k := k) (p := p) hRt.symm m)
  have HSL := Lib.hid (fun m => stepsL_len k p n css m)
  have HSN : Hid (∀ m, stepsL k p n css (m + 1) = stepsL k p n css m ++ [colL k p n (stepsL k p n css m) ((css.length + m : Nat) : Int)]) := fun m => by
    show _ ++ [colL k p n _ ((css.length : Int) + (m : Int))] = _
    rw [Int.natCast_add]
  have HCN : Hid (∀ (m r : Nat), r < R → (colL k p n (stepsL k p n css m) ((css.length + m : Nat) : Int)).take (r + 1) = (colL k p n (stepsL k p n css m) ((css.length + m : Nat) : Int)).take r ++ [uponL n (stepsL k p n css m) (memL k p ((css.length + m : Nat) : Int) (r : Int))]) := fun m r hr => colL_next k p n _ _ (by omega)
  have HCL := Lib.hid (fun m => (colL_len k p n (stepsL k p n css m) ((css.length + m : Nat) : Int)).trans hRt)
  have HUL := Lib.hid (fun m r => uponL_len n (stepsL k p n css m) (memL k p ((css.length + m : Nat) : Int) (r : Int)))
  have hR16 : R ≤ 16 := by omega
  have hR2 : 2 ≤ R := by omega
  have hM3 : M ≤ 3 := by omega
  have hn20 : css.length ≤ 17 := by omega
  have hn1 : 1 ≤ css.length := by omega
  -- the first cell
  obtain ⟨u1, hc1, hm1⟩ := hrow0 0 (by omega)
  obtain ⟨hcr, hce⟩ := hG 0 (by omega)
  obtain ⟨A3, cap3, rfl, _, _⟩ := id hm1
  obtain ⟨b2, off3, rfl, hb2, hrow3⟩ := many_at hm1 (by omega)
  obtain ⟨Aa, ca, hc3, _⟩ := hrow3 0 (by omega)
  rw [hcr, Nat.add_zero] at hc1
  rw [hce 0 (by omega), Nat.add_zero] at hc3
  have HROW := Lib.hid hrow0
  have HCC := Lib.hid hC
  have HG0 := Lib.hid (fun j hj => (hG j hj).1)
  have b0 := Blk.new w 49 #[.int .i64 k, .int .i64 p]
  have hBW := below_one w (.cells #[.int .i64 k, .int .i64 p] 49)
  have HCI : Hid (∀ j, j < css.length → css.take (j + 1) = css.take j ++ [css[j]?.getD []]) := fun j hj => by rw [List.take_add_one, List.getElem?_eq_getElem hj]; rfl
  have HCE : Hid (css.take css.length = stepsL k p n css 0) := by unfold Hid; rw [List.take_length]; rfl
  have HSS := Lib.hid (fun (V : World) (hV : Below w.heap.size w V) (hb : Blk V w.heap.size 49 #[.int .i64 k, .int .i64 p]) => (⟨by have := hb.cell 0; simpa using this, by have := hb.cell 1; simpa using this, (hV.cell (p := ⟨b1, off1, none⟩) (Nat.lt_of_lt_of_le hb1 hB)).trans hc1, (hV.cell (p := ⟨b2, off3, none⟩) (Nat.lt_of_lt_of_le hb2 hB)).trans hc3⟩ : (fun V : World => V.cell? ⟨w.heap.size, 0, none⟩ = some (.int .i64 k) ∧ V.cell? ⟨w.heap.size, 1, none⟩ = some (.int .i64 p) ∧ V.cell? ⟨b1, off1, none⟩ = some (.slice (some ⟨b2, off3, none⟩) R cap3) ∧ V.cell? ⟨b2, off3, none⟩ = some (.slice Aa n ca)) V))
  clear hm1 hrow3 hcr hce hc1 hc3 hrow0 hC hG hcd hlen hRR hRt hM hMt hR p1 p2 s1 s2 m1 m2
  generalize hn0 : css.length = n0 at *
  clear hn0
  go_enter Tryz.func26, Tryz.ntmps26
  go_wp2_with fail
  go_loopw [5, 6] (fun v i wr => ∃ m : Nat, m ≤ n0 ∧ i = .int .i64 m ∧ RowC (fun _ => True) wr (w.heap.size + 1) v (css.take m) ∧ Blk wr w.heap.size 49 #[.int .i64 k, .int .i64 p] ∧ Below w.heap.size w wr) (fun _ i _ => n0 - (intOf i).toNat)
  case atStart => exact ⟨0, Nat.zero_le _, rfl, RowG.nil _ _ _ _ _ _, b0, hBW⟩
  case round =>
    clear b0 hBW
    obtain ⟨m, hm, rfl, hrow, b0, hBr⟩ := hrel
    by_cases hlt : m < n0
    · have hdec : decide ((m : Int) < (n0 : Int)) = true := by simp; omega
      obtain ⟨u1, hc1, hm1⟩ := HROW.out m hlt
      obtain ⟨A4, cap4, rfl, _, _⟩ := id hm1
      have hc2 := (hBr.cell (p := ⟨b1, off1 + m, none⟩) (Nat.lt_of_lt_of_le hb1 hB)).trans hc1
      have hnx := HCI.out m hlt
      have hm2 : Many B wr _ _ := hm1.below (hBr.mono hB)
      have HVLE := Lib.hid (fun b e => RowG.own_le hrow b e)
      have hpl : (css.take m).length ≤ 100 := by rw [List.length_take]; omega
      clear hc1 hm1
      generalize css[m]?.getD [] = xs at *
      generalize css.take m = pre at *
      generalize xs.length = n7 at *
      have i1 : (0 : Int) ≤ (m : Int) := by omega
      have i2 : (m : Int) < (n0 : Int) := by omega
      have hcells : Below wr.heap.size wr (wr.alloc (.cells #[.slice A4 n7 cap4] 37)) := below_one wr _
      have hszr := hBr.size
      have HROWC := Lib.hid (RowG.below hrow hcells)
      have HBLK := Lib.hid (Blk.new wr 37 #[.slice A4 n7 cap4])
      have HCP : Hid (manyR.R (fun b => b < (wr.alloc (.cells #[.slice A4 n7 cap4] 37)).heap.size ∧ some b ≠ u5.ownBlock ∧ True) (wr.alloc (.cells #[.slice A4 n7 cap4] 37)) (.slice A4 n7 cap4) xs) :=
        SliceP.imp (hm2.below (hcells.mono (Nat.le_trans hB hszr))) fun b hb => ⟨by have hb' : b < B := hb; simp; omega, fun e => by have := HVLE.out b e.symm; have hb' : b < B := hb; omega, trivial⟩
      have hb5 : Blk (wr.alloc (.cells #[.slice A4 n7 cap4] 37)) w.heap.size 49 #[.int .i64 k, .int .i64 p] := b0.alloc _
      clear hrow hm2
      go_wp2_with (at_builtin; refine wpList_pushC (T := 45) _ rfl _ _ rfl Tryz.underlying45 pre rfl HROWC.out wr.heap.size 37 _ xs rfl HBLK.out HCP.out (by omega) (by simp; omega) ?_; intro v' w2 hrow4 hgrow hown)
      go_roundw
      case rel => exact ⟨m + 1, by omega, by go_num, by rw [hnx]; exact hrow4, hb5.grown hgrow (fun e => by have := HVLE.out _ e.symm; omega), below_grown (below_in hBr hcells) hgrow (by simp; omega) (fun g e => by have := HVLE.out g e; omega)⟩
      case measure => simp [intOf]; omega
    · obtain rfl : m = n0 := by omega
      have e1 : decide ((m : Int) < (m : Int)) = false := by simp
      rw [HCE.out] at hrow
      have c0 := b0.cell 0; have c1 := b0.cell 1; simp only [List.getElem?_toArray, List.getElem?_cons_zero, List.getElem?_cons_succ] at c0 c1
      go_wp2_with (go_at_call 60; refine (HDa.out _).mono ?_; rintro e w1 ⟨rfl, hB1⟩; replace hrow := RowG.below hrow hB1; replace b0 := b0.below hB1 b0.lt; replace hBr := below_in hBr hB1)
      clear c0 c1
      go_loopw [5, 7] (fun v i wr => ∃ j : Nat, j ≤ M ∧ i = .int .i64 ((m + j : Nat) : Int) ∧ RowC (fun _ => True) wr (w.heap.size + 1) v (stepsL k p n css j) ∧ Blk wr w.heap.size 49 #[.int .i64 k, .int .i64 p] ∧ Below w.heap.size w wr) (fun _ i _ => m + M - (intOf i).toNat)
      case atStart => exact ⟨0, Nat.zero_le _, rfl, hrow, b0, hBr⟩
      case round =>
        clear b0 hBr hrow
        obtain ⟨j, hj, rfl, hrow, b0, hBr⟩ := hrel
        have c0 := b0.cell 0; have c1 := b0.cell 1; simp only [List.getElem?_toArray, List.getElem?_cons_zero, List.getElem?_cons_succ] at c0 c1
        by_cases hlt : j < M
        · have HMEM := Lib.hid (fun (r : Nat) (hr : r < R) (W : World) => HMB.out j r hlt hr W)
          have HMIJ := Lib.hid (fun r => HMI.out j r)
          have HMLJ := Lib.hid (fun r hr => HMLN.out j r hlt hr)
          have HGJ := Lib.hid (HGR.out j)
          have HSJ := Lib.hid (HSL.out j)
          have HNX := Lib.hid (HSN.out j)
          have HNR := Lib.hid (fun r hr => HCN.out j r hr)
          have HLC := Lib.hid (HCL.out j)
          have HLU := Lib.hid (fun r => HUL.out j r)
          have hmj : m + j ≤ 20 := by omega
          have hpl : Hid ((stepsL k p n css j).length ≤ 100) := by unfold Hid; rw [HSL.out j]; omega
          clear HMB HGR HSL HSN HCN HCL HUL HCI HCE HROW HG0 HMI HMLN
          have hdec0 : ((m + j : Nat) : Int) < ((m + M : Nat) : Int) := by omega
          have hwr : wrap64 (((m + j : Nat) : Int) + 1) = ((m + (j + 1) : Nat) : Int) := by rw [IntWalk.wrap64_in _ (by omega)]; omega
          generalize hcol : ((m + j : Nat) : Int) = col at *
          generalize htot : ((m + M : Nat) : Int) = tot at *
          have hdec : decide (col < tot) = true := by simpa using hdec0
          have hcb1 : 0 ≤ col := by omega
          have hcb2 : col ≤ 100 := by omega
          have HCOL := Lib.hid hcol
          have HWR := Lib.hid hwr
          have HTOT := Lib.hid htot
          clear hcol hwr htot hdec0
          generalize hmade : colL k p n (stepsL k p n css j) col = made at *
          generalize hst : stepsL k p n css j = st at *
          clear hmade hst
          go_wp2_with (go_at_call 61; refine (HCo.out _).mono ?_; rintro e wq ⟨rfl, hB1⟩; replace hrow := RowG.below hrow hB1; replace b0 := b0.below hB1 b0.lt; replace hBr := below_in hBr hB1)
          clear c0 c1 hB1
          have hgl := b0.lt
          have HBL := Lib.hid b0
          have HUP := Lib.hid (fun (r : Nat) (hr : r < R) (V : World) (vm : Value) (hV : Below wq.heap.size wq V) (hm : ReadA V vm (memL k p col (r : Int))) => upon6_any (B := V.heap.size) u5 vm st _ R n V (Nat.le_refl _) (RowC.cols (RowG.below hrow hV)) hm HGJ.out (by rw [HSJ.out]; exact HMIJ.out r) hn (HMLJ.out r hr) (by rw [HSJ.out]; omega) (by omega))
          have HSS2 := Lib.hid (fun (V : World) (hV : Below wq.heap.size wq V) => HSS.out V (below_in hBr hV) (HBL.out.below hV hgl))
          have HVLT := Lib.hid (fun b e => RowG.own_lt hrow b e)
          have HVLE := Lib.hid (fun b e => RowG.own_le hrow b e)
          have HROWQ := Lib.hid hrow
          clear hrow
          go_wp2
          go_loopw [8, 9] (fun v2 i wr => ∃ r : Nat, r ≤ R ∧ i = .int .i64 r ∧ RowM (fun b => some b ≠ u5.ownBlock) wr wq.heap.size v2 (made.take r) ∧ Below wq.heap.size wq wr) (fun _ i _ => R - (intOf i).toNat)
          case atStart => exact ⟨0, Nat.zero_le _, rfl, RowG.nil _ _ _ _ _ _, Below.refl _ _⟩
          case round =>
            obtain ⟨r, hr, rfl, hrow2, hBs⟩ := hrel
            have b5 := HBL.out.below hBs hgl
            have c0 := b5.cell 0; have c1 := b5.cell 1; simp only [List.getElem?_toArray, List.getElem?_cons_zero, List.getElem?_cons_succ] at c0 c1
            by_cases hlt2 : r < R
            · have hdec2 : decide ((r : Int) < (R : Int)) = true := by simp; omega
              go_wp2_with (go_at_call 62; refine (HRw.out _).mono ?_; rintro e wr2 ⟨rfl, hB1⟩; replace hrow2 := RowG.below hrow2 hB1; replace hBs := below_in hBs hB1)
              have hS0 := HSS2.out _ hBs
              have hr16 : (made.take r).length ≤ 100 := by rw [List.length_take, HLC.out]; omega
              have HPL2 := Lib.hid hr16
              have HNX2 := Lib.hid (HNR.out r hlt2)
              have HLX : Hid ((uponL n st (memL k p col (r : Int))).length = n) := HLU.out r
              have HVLT2 := Lib.hid (fun b e => RowG.own_lt hrow2 b e)
              have HVLE2 := Lib.hid (fun b e => RowG.own_le hrow2 b e)
              have HMEMR := Lib.hid (fun W => HMEM.out r hlt2 W)
              have HUPR := Lib.hid (fun V vm hV hm => HUP.out r hlt2 V vm hV hm)
              have i5 : (0 : Int) ≤ (r : Int) := by omega
              have z1 : (0 : Int) < (m : Int) := by omega
              have z2 : (0 : Int) < (R : Int) := by omega
              have z3 : ¬ R = 0 := by omega
              have z4 : ¬ m = 0 := by omega
              clear hr16 c0 c1 b5
              generalize uponL n st (memL k p col (r : Int)) = xone at *
              generalize memL k p col (r : Int) = mem at *
              generalize made.take r = pre2 at *
              go_wp2_with fail
              have hS : (fun V : World => V.cell? ⟨w.heap.size, 0, none⟩ = some (.int .i64 k) ∧ V.cell? ⟨w.heap.size, 1, none⟩ = some (.int .i64 p) ∧ V.cell? ⟨b1, off1, none⟩ = some (.slice (some ⟨b2, off3, none⟩) R cap3) ∧ V.cell? ⟨b2, off3, none⟩ = some (.slice Aa n ca)) wr2.drew := HSS2.out _ hBs.drew
              refine (wpIn_wide (n := 12)).1 (wpIn_mono (region_HF (Q := NoPanic _) (S := (fun V : World => V.cell? ⟨w.heap.size, 0, none⟩ = some (.int .i64 k) ∧ V.cell? ⟨w.heap.size, 1, none⟩ = some (.int .i64 p) ∧ V.cell? ⟨b1, off1, none⟩ = some (.slice (some ⟨b2, off3, none⟩) R cap3) ∧ V.cell? ⟨b2, off3, none⟩ = some (.slice Aa n ca))) (by kernel_rfl) ?_) NoPanic.imp)
              refine anyHF_take (i := 0) (d := 37) (v := u8) (by kernel_rfl) rfl (by kernel_rfl) (by kernel_rfl) (by kernel_rfl) rfl (fun _ _ _ h => h) ⟨Or.inl ⟨by rfl, fun w hS => by obtain ⟨h0, h1, h2, h3⟩ := hS; go_simp⟩, fun _ => rfl⟩ hS ?_
              simp only [List.setIfInBounds_toArray, List.set_cons_zero, List.set_cons_succ]
              refine anyHF_take (i := 1) (d := 38) (v := u5) (by kernel_rfl) rfl (by kernel_rfl) (by kernel_rfl) (by kernel_rfl) rfl (fun _ _ _ h => h) ⟨Or.inl ⟨by rfl, fun w hS => by obtain ⟨h0, h1, h2, h3⟩ := hS; go_simp⟩, fun _ => rfl⟩ hS ?_
              simp only [List.setIfInBounds_toArray, List.set_cons_zero, List.set_cons_succ]
              refine anyHF_take (i := 2) (d := 39) (v := .agg #[.int .i64 k, .int .i64 p]) (by kernel_rfl) rfl (by kernel_rfl) (by kernel_rfl) (by kernel_rfl) rfl (fun _ _ _ h => h) ⟨Or.inl ⟨by rfl, fun w hS => by obtain ⟨h0, h1, h2, h3⟩ := hS; go_simp⟩, fun _ => rfl⟩ hS ?_
              simp only [List.setIfInBounds_toArray, List.set_cons_zero, List.set_cons_succ]
              refine anyHF_take (i := 3) (d := 40) (v := .int .i64 col) (by kernel_rfl) rfl (by kernel_rfl) (by kernel_rfl) (by kernel_rfl) rfl (fun _ _ _ h => h) ⟨Or.inl ⟨by rfl, fun w hS => by obtain ⟨h0, h1, h2, h3⟩ := hS; go_simp⟩, fun _ => rfl⟩ hS ?_
              simp only [List.setIfInBounds_toArray, List.set_cons_zero, List.set_cons_succ]
              refine anyHF_take (i := 4) (d := 41) (v := .int .i64 (r : Int)) (by kernel_rfl) rfl (by kernel_rfl) (by kernel_rfl) (by kernel_rfl) rfl (fun _ _ _ h => h) ⟨Or.inl ⟨by rfl, fun w hS => by obtain ⟨h0, h1, h2, h3⟩ := hS; go_simp⟩, fun _ => rfl⟩ hS ?_
              simp only [List.setIfInBounds_toArray, List.set_cons_zero, List.set_cons_succ]
              refine anyHF_take (i := 5) (d := 42) (v := .agg #[.int .i64 col, .int .i64 (r : Int)]) (by kernel_rfl) rfl (by kernel_rfl) (by kernel_rfl) (by kernel_rfl) rfl (fun _ _ _ h => h) ⟨Or.inl ⟨by rfl, fun w hS => by obtain ⟨h0, h1, h2, h3⟩ := hS; go_simp⟩, fun _ => rfl⟩ hS ?_
              simp only [List.setIfInBounds_toArray, List.set_cons_zero, List.set_cons_succ]
              refine anyHF_take (i := 7) (d := 44) (v := .slice (some ⟨b1, off1, none⟩) m cap) (by kernel_rfl) rfl (by kernel_rfl) (by kernel_rfl) (by kernel_rfl) rfl (fun _ _ _ h => h) ⟨Or.inl ⟨by rfl, fun w hS => by obtain ⟨h0, h1, h2, h3⟩ := hS; go_simp⟩, fun _ => rfl⟩ hS ?_
              simp only [List.setIfInBounds_toArray, List.set_cons_zero, List.set_cons_succ]
              refine anyHF_take (i := 8) (d := 45) (v := .pointer (some ⟨b1, off1, none⟩)) (by kernel_rfl) rfl (by kernel_rfl) (by kernel_rfl) (by kernel_rfl) rfl (fun _ _ _ h => h) ⟨Or.inl ⟨by rfl, fun w hS => by obtain ⟨h0, h1, h2, h3⟩ := hS; go_simp⟩, fun _ => rfl⟩ hS ?_
              simp only [List.setIfInBounds_toArray, List.set_cons_zero, List.set_cons_succ]
              refine anyHF_take (i := 9) (d := 46) (v := .slice (some ⟨b2, off3, none⟩) R cap3) (by kernel_rfl) rfl (by kernel_rfl) (by kernel_rfl) (by kernel_rfl) rfl (fun _ _ _ h => h) ⟨Or.inl ⟨by rfl, fun w hS => by obtain ⟨h0, h1, h2, h3⟩ := hS; go_simp⟩, fun _ => rfl⟩ hS ?_
              simp only [List.setIfInBounds_toArray, List.set_cons_zero, List.set_cons_succ]
              refine anyHF_take (i := 10) (d := 47) (v := .pointer (some ⟨b2, off3, none⟩)) (by kernel_rfl) rfl (by kernel_rfl) (by kernel_rfl) (by kernel_rfl) rfl (fun _ _ _ h => h) ⟨Or.inl ⟨by rfl, fun w hS => by obtain ⟨h0, h1, h2, h3⟩ := hS; go_simp⟩, fun _ => rfl⟩ hS ?_
              simp only [List.setIfInBounds_toArray, List.set_cons_zero, List.set_cons_succ]
              refine anyHF_take (i := 11) (d := 48) (v := .slice Aa n ca) (by kernel_rfl) rfl (by kernel_rfl) (by kernel_rfl) (by kernel_rfl) rfl (fun _ _ _ h => h) ⟨Or.inl ⟨by rfl, fun w hS => by obtain ⟨h0, h1, h2, h3⟩ := hS; go_simp⟩, fun _ => rfl⟩ hS ?_
              simp only [List.setIfInBounds_toArray, List.set_cons_zero, List.set_cons_succ]
              refine anyHF_take (i := 12) (d := 49) (v := .int .i64 (n : Int)) (by kernel_rfl) rfl (by kernel_rfl) (by kernel_rfl) (by kernel_rfl) rfl (fun _ _ _ h => h) ⟨Or.inl ⟨by rfl, fun w hS => by obtain ⟨h0, h1, h2, h3⟩ := hS; go_simp⟩, fun _ => rfl⟩ hS ?_
              simp only [List.setIfInBounds_toArray, List.set_cons_zero, List.set_cons_succ]
              refine anyHF_one (i := 6) (by kernel_rfl) rfl (by kernel_rfl) (by rfl) ?_
              gi_wp2_with fail
              refine ⟨trivial, (callsIn_wide.2 (HMEMR.out _)).mono ?_⟩
              rintro e wm ⟨vm, rfl, hmem, hBm⟩
              replace hBm := below_undrew hBm
              clear hS
              have hS : (fun V : World => V.cell? ⟨w.heap.size, 0, none⟩ = some (.int .i64 k) ∧ V.cell? ⟨w.heap.size, 1, none⟩ = some (.int .i64 p) ∧ V.cell? ⟨b1, off1, none⟩ = some (.slice (some ⟨b2, off3, none⟩) R cap3) ∧ V.cell? ⟨b2, off3, none⟩ = some (.slice Aa n ca)) wm := HSS2.out _ (below_in hBs hBm)
              gi_wp2
              try (refine ⟨hS, ?_⟩)
              refine anyHF_one (i := 13) (by kernel_rfl) rfl (by kernel_rfl) (by rfl) ?_
              gi_wp2_with fail
              refine ⟨trivial, (callsIn_wide.2 (HUPR.out _ vm (below_in hBs hBm) hmem.readA)).mono ?_⟩
              rintro e wn ⟨v', rfl, hfr, hBn⟩
              obtain ⟨Ax, cx, hxe, _, _⟩ := id hfr
              rw [HLX.out] at hxe
              subst hxe
              replace hfr := hfr.less hBm.size
              replace hBn := below_in hBm hBn
              clear hS
              have hS : (fun V : World => V.cell? ⟨w.heap.size, 0, none⟩ = some (.int .i64 k) ∧ V.cell? ⟨w.heap.size, 1, none⟩ = some (.int .i64 p) ∧ V.cell? ⟨b1, off1, none⟩ = some (.slice (some ⟨b2, off3, none⟩) R cap3) ∧ V.cell? ⟨b2, off3, none⟩ = some (.slice Aa n ca)) wn := HSS2.out _ (below_in hBs hBn)
              gi_wp2
              try (refine ⟨hS, ?_⟩)
              refine anyHF_one (i := 14) (by kernel_rfl) rfl (by kernel_rfl) (by rfl) ?_
              have hcells : Below wn.heap.size wn (wn.alloc (.cells #[.slice Ax n cx] 57)) := below_one wn _
              have hBc := below_in hBn hcells
              have HROWM := Lib.hid (RowG.below hrow2 hBc)
              have HBLK := Lib.hid (Blk.new wn 57 #[.slice Ax n cx])
              have hss := hBs.size
              have hbn := hBn.size
              have hcs := hcells.size
              have hwq := hBr.size
              have HBY : Hid (BytesP (fun b => b < (wn.alloc (.cells #[.slice Ax n cx] 57)).heap.size ∧ some b ≠ u8.ownBlock ∧ some b ≠ u5.ownBlock) (wn.alloc (.cells #[.slice Ax n cx] 57)) (.slice Ax n cx) xone) := by
                obtain ⟨A8, cp8, e8, h8, hA8⟩ := hfr.below hcells
                refine ⟨A8, cp8, by rw [HLX.out] at e8 ⊢; exact e8, h8, fun hp => ?_⟩
                obtain ⟨b, off, q1, q2, q3, q4⟩ := hA8 hp
                exact ⟨b, off, q1, ⟨q3, fun e => by have := HVLT2.out b e.symm; omega, fun e => by have := HVLT.out b e.symm; omega⟩, q4⟩
              clear hfr hS
              have hS : (fun V : World => V.cell? ⟨w.heap.size, 0, none⟩ = some (.int .i64 k) ∧ V.cell? ⟨w.heap.size, 1, none⟩ = some (.int .i64 p) ∧ V.cell? ⟨b1, off1, none⟩ = some (.slice (some ⟨b2, off3, none⟩) R cap3) ∧ V.cell? ⟨b2, off3, none⟩ = some (.slice Aa n ca)) (wn.alloc (.cells #[.slice Ax n cx] 57)) := HSS2.out _ (below_in hBs hBc)
              gi_wp2
              try (refine ⟨hS, ?_⟩)
              refine anyHF_one (i := 15) (by kernel_rfl) rfl (by kernel_rfl) (by rfl) ?_
              refine opIn_pushM (T := 37) (v := u8) _ (.tmp 37) (.tmp 51) rfl Tryz.underlying37 pre2 rfl HROWM.out wn.heap.size 57 _ xone rfl HBLK.out HBY.out (by have := HPL2.out; omega) (by omega) ?_
              intro v' w4 hrow4 hgrow4 hown4
              clear hS
              have hB4 : Below wq.heap.size wq w4 := below_grown (below_in hBs hBc) hgrow4 (by omega) (fun g e => HVLE2.out g e)
              have hS : (fun V : World => V.cell? ⟨w.heap.size, 0, none⟩ = some (.int .i64 k) ∧ V.cell? ⟨w.heap.size, 1, none⟩ = some (.int .i64 p) ∧ V.cell? ⟨b1, off1, none⟩ = some (.slice (some ⟨b2, off3, none⟩) R cap3) ∧ V.cell? ⟨b2, off3, none⟩ = some (.slice Aa n ca)) w4 := HSS2.out _ hB4
              gi_wp2_with fail
              try (refine ⟨hS, ?_⟩)
              refine anyHF_one (i := 16) (by kernel_rfl) rfl (by kernel_rfl) (by rfl) ?_
              gi_wp2
              refine anyHF_done (by kernel_rfl) ?_ _
              refine NoPanic.normal ?_
              clear hS
              gi_wp2_with fail
              go_wp2
              go_roundw
              case rel => exact ⟨r + 1, by omega, by go_num, by rw [HNX2.out]; exact hrow4, hB4⟩
              case measure => simp [intOf]; omega
            · obtain rfl : r = R := by omega
              have e1 : decide ((r : Int) < (r : Int)) = false := by simp
              have HTK : Hid (made.take r = made) := by unfold Hid; rw [List.take_of_length_le]; rw [HLC.out]; exact Nat.le_refl _
              rw [HTK.out] at hrow2
              obtain ⟨A7, cp7, hu7, _, _⟩ := id (RowM.many hrow2 (S := fun _ => True) (fun _ _ _ => trivial))
              subst hu7
              have HNX3 := Lib.hid HNX.out
              generalize made.length = n7 at *
              have HRC := Lib.hid (fun (V : World) (hV : Below wr.heap.size wr V) => RowG.below HROWQ.out (below_in (below_in hBs hV) (below_one V (.cells #[.slice A7 n7 cp7] 37))))
              have HBK := Lib.hid (fun V : World => Blk.new V 37 #[.slice A7 n7 cp7])
              have HMC := Lib.hid (fun (V : World) (hV : Below wr.heap.size wr V) => (RowM.many (RowG.below (RowG.below hrow2 hV) (below_one V (.cells #[.slice A7 n7 cp7] 37))) (fun b hb hq => ⟨hb, (by rcases hq with h | h; exact h; exact fun e => by have := HVLT.out b e.symm; omega), trivial⟩) : manyR.R (fun b => b < (V.alloc (.cells #[.slice A7 n7 cp7] 37)).heap.size ∧ some b ≠ u5.ownBlock ∧ True) (V.alloc (.cells #[.slice A7 n7 cp7] 37)) (.slice A7 n7 cp7) made))
              have HPL3 := Lib.hid (show st.length ≤ 100000 by have := hpl.out; omega)
              have HBS3 := Lib.hid (fun (V : World) (hV : Below wr.heap.size wr V) => (show w.heap.size + 1 ≤ (V.alloc (.cells #[.slice A7 n7 cp7] 37)).heap.size by have := hV.size; have := hBs.size; have := hBr.size; simp; omega))
              have HRL := Lib.hid (fun (V W : World) (v' : Value) (hV : Below wr.heap.size wr V) (hg : (V.alloc (.cells #[.slice A7 n7 cp7] 37)).grownBy W u5.ownBlock) => (⟨((HBL.out.below (below_in hBs hV) hgl).alloc _).grown hg (fun e => by have := HVLE.out _ e.symm; omega), below_grown (below_in hBr (below_in (below_in hBs hV) (below_one V _))) hg (by have := HBS3.out V hV; omega) (fun g e => by have := HVLE.out g e; omega)⟩ : Blk W w.heap.size 49 #[.int .i64 k, .int .i64 p] ∧ Below w.heap.size w W))
              have HMS : Hid (m + M - (col + 1).toNat < m + M - col.toNat) := by have h1 := HCOL.out; unfold Hid; clear HWR; omega
              have HW1 : Hid (col + 1 = ((m + (j + 1) : Nat) : Int)) := by have h2 := HCOL.out; unfold Hid; clear HWR; omega
              clear hrow2 hBs
              go_wp2_with (first
                | (go_at_call 62; refine (HRw.out _).mono ?_; rintro e wr2 ⟨rfl, hB1⟩)
                | (at_builtin; refine wpList_pushC (T := 45) _ rfl _ _ rfl Tryz.underlying45 st rfl (HRC.out _ hB1) wr2.heap.size 37 _ made rfl (HBK.out _) (HMC.out _ hB1) HPL3.out (HBS3.out _ hB1) ?_; intro v' w2 hrow4 hgrow hown))
              go_roundw
              case rel => exact ⟨j + 1, by omega, congrArg _ HW1.out, by rw [HNX3.out]; exact hrow4, HRL.out _ _ v' hB1 hgrow⟩
              case measure => exact HMS.out
        · obtain rfl : j = M := by omega
          have e1 : decide (((m + j : Nat) : Int) < ((m + j : Nat) : Int)) = false := by simp
          go_wp2_with (go_at_call 61; refine (HCo.out _).mono ?_; rintro e wq ⟨rfl, hB1⟩; replace hrow := RowG.below hrow hB1; replace hBr := below_in hBr hB1)
          go_ret
          exact ⟨_, rfl, RowC.cols hrow, hBr⟩
end Go.Proofs.YtfihlelhpmjpaaaGreatDoor.E

namespace Go.Proofs.YtfihlelhpmjpaaaGreatDoor.Ch
open Go.RowKit Go.Shelf Go.Proofs.YtfihlelhpmjpaaaGreatDoor.C Go.Proofs.YtfihlelhpmjpaaaGreatDoor.E Go.Proofs.YtfihlelhpmjpaaaGreatDoor.T
set_option linter.unusedSimpArgs false
set_option linter.unusedVariables false

theorem append_stripe (ty : TypeId) (v x : Value) (W : World) : (Builtin.append_ #[22, 45] ty #[v, x]).run Tryz.prog W = (Builtin.append_ #[22, 22] ty #[v, x]).run Tryz.prog W := by
  have h1 := Tryz.underlying22
  have h2 := Tryz.underlying45
  unfold Builtin.append_
  simp only [List.getElem?_toArray, List.getElem?_cons_zero, List.getElem?_cons_succ, Sem.run_bind, run_underlying h1, run_underlying h2, Result.andThen_ok, Sem.run_pure]
  cases v <;> simp only [Sem.run_bind, run_underlying h1, run_underlying h2, Result.andThen_ok, Sem.run_pure]
set_option maxRecDepth 100000 in
theorem wpList_appStripe {Q : Nat → Prop} {base : Nat} {v v2 : Value} (w : World) {ops : Array Oper} {rest : List Oper} {o : Oper} {a : Act} {QQ : Exit → Act → World → Prop} (hgd : Region.wanted o (yielded ops a.tmps) = true) (s x : Operand)
    (ho : o.op = .call { callee := .builtin .append, args := #[s, x], argTypes := #[22, 45] }) (css ds : List (List (List UInt8))) (hs : a.eval s = v) (h : RowC Q w base v css) (hx : a.eval x = v2)
    (h2 : colsR.R (fun b => b < w.heap.size ∧ some b ≠ v.ownBlock ∧ Q b) w v2 ds) (h0 : 0 < ds.length) (hlen : css.length ≤ 100000) (hlen2 : ds.length ≤ 100000) (hbase : base ≤ w.heap.size)
    (hK : ∀ v' w', RowC Q w' base v' (css ++ ds) → w.grownBy w' v.ownBlock → (v'.ownBlock = v.ownBlock ∨ v'.ownBlock = some w.heap.size) → wpList Tryz.prog ops QQ rest (a.put o.dst v') w') : wpList Tryz.prog ops QQ (o :: rest) a w :=
  BigFrame.wpList_want hgd fun K hK2 => by
    obtain ⟨i, hi, hz0, hz1, hz2⟩ := info_parts Tryz.infoCol
    obtain ⟨v', w', hrun, h1, h3, h4⟩ := RowG.append i hi hz0 hz1 hz2 22 o.type Tryz.underlying22 h h2 (fun A cap e hA => by
      obtain ⟨A2, c2, e2, _, hA2⟩ := h2
      rw [e] at e2
      injection e2 with _ e3 _
      omega) hlen hlen2 hbase
    unfold Oper.wp execOp
    simp only [ho, resolve, invoke, builtin, Sem.run_bind, Sem.run_pure, Result.andThen_ok, List.map_toArray, List.map_cons, List.map_nil, hs, hx, append_stripe, hrun]
    exact hK2 _ _ (hK v' w' h1 h3 h4)
/-- A row of columns whose cells are known one by one. -/
theorem cols_of_blk {B N cc g : Nat} {W : World} {cur : Array Value} {css : List (List (List UInt8))} (hb : Blk W g 37 cur) (hg : g < B) (hN : css.length = N) (hc : N ≤ cc) (h : ∀ j, j < N → ∃ u, cur[j]? = some u ∧ Many B W u (css[j]?.getD [])) : Cols B W (.slice (some ⟨g, 0, none⟩) N cc) css := by
  refine ⟨some ⟨g, 0, none⟩, cc, by rw [hN], by rw [hN]; exact hc, fun _ => ⟨g, 0, rfl, hg, fun j hj => ?_⟩⟩
  obtain ⟨u, h1, h2⟩ := h j (by omega)
  exact ⟨u, by rw [Nat.zero_add, hb.cell j]; exact h1, h2⟩
theorem rowC_blkT {base : Nat} {W : World} {v : Value} {css : List (List (List UInt8))} (h : RowC (fun _ => True) W base v css) (h0 : 0 < css.length) :
    ∃ g cap cur, v = .slice (some ⟨g, 0, none⟩) css.length cap ∧ css.length ≤ cap ∧ base ≤ g ∧ Blk W g 37 cur ∧ css.length ≤ cur.size ∧ ∀ j, j < css.length → ∃ u, cur[j]? = some u ∧ manyR.R (fun b => b < W.heap.size ∧ b ≠ g) W u (css[j]?.getD []) := by
  obtain ⟨us, ho, hn, hr⟩ := h
  rcases ho.2 with ⟨_, h1⟩ | ⟨g, cap, cur, e, hb, hg, hc, _, hs, ht⟩
  · omega
  · rw [hn] at e hc
    refine ⟨g, cap, cur, e, hc, hb, hg, by omega, fun j hj => ?_⟩
    have hj2 : j < us.length := by omega
    have e2 : cur[j]? = us[j]? := by
      rw [← ht, List.getElem?_take, if_pos (by omega), Array.getElem?_toList]
    refine ⟨us[j], by rw [e2, List.getElem?_eq_getElem hj2], ?_⟩
    exact manyR.imp (hr j us[j] (List.getElem?_eq_getElem hj2)) fun b hb => ⟨hb.1, fun e3 => hb.2.1 (by rw [e3, e]; rfl)⟩
/-- What EVENODD makes, all of it. -/
theorem enc_all {P Q n : Nat} (d : Rg.Dims P Q n) {css : List (List (List UInt8))} (hr : RightD (P : Int) css) (hl : css.length = P) (hn : (firstC css).length = n) {B : Nat} (v : Value) (w : World) (hB : B ≤ w.heap.size) (hC : Cols B w v css) :
    Calls Tryz.prog 26 #[.agg #[.int .i64 1, .int .i64 (P : Int)], v] w fun e w' => ∃ u, e = .returned u ∧ Cols w'.heap.size w' u (css ++ [rowsMade Q css, diagsMade (P : Int) Q css]) ∧ Below w.heap.size w w' := by
  have hpb := prm_bounds d.hp
  have h64 := d.h64
  have hd : DataOk (P : Int) css := ⟨⟨by omega, d.hp⟩, by rw [hl], hr.2⟩
  have hQ : ((P : Int) - 1).toNat = Q := by have := d.hQ; omega
  have h := encode6_any (B := B) 1 (P : Int) ⟨by omega, d.hp⟩ v css n w hB hC (by rw [hl]; simp [shortN]) (by rw [← hn]; exact togOk_grid hr.2) (by omega)
  rw [show (madeN 1).toNat = 2 from rfl, ← hn, steps1 hd] at h
  unfold encOf at h
  rwa [hQ] at h
/-- Two places of a row of columns, stored one after another. -/
theorem cols_two_set {N cc g a b : Nat} {W : World} {cur : Array Value} {all : List (List (List UInt8))} {u v : Value} {cu cv : List (List UInt8)} (hb : Blk W g 37 cur) (hl : all.length = N) (hcc : N ≤ cc) (hcs : N ≤ cur.size)
    (hcu : ∀ j, j < all.length → ∃ u, cur[j]? = some u ∧ manyR.R (fun b => b < W.heap.size ∧ b ≠ g) W u (all[j]?.getD [])) (ha : a < N) (hbN : b < N) (hab : a ≠ b) (hu : manyR.R (fun b => b < W.heap.size ∧ b ≠ g) W u cu) (hv : manyR.R (fun b => b < W.heap.size ∧ b ≠ g) W v cv) (X : World) (hX : (W.setCell ⟨g, a, none⟩ u).setCell ⟨g, b, none⟩ v = X) :
    Cols X.heap.size X (.slice (some ⟨g, 0, none⟩) N cc) ((all.set a cu).set b cv) := by
  have h1 := hb.set_ a u
  have h2 := h1.set_ b v
  have hXs : X.heap.size = W.heap.size := by rw [← hX]; simp
  rw [hX] at h2
  have hk : ∀ {x : Value} {c : List (List UInt8)}, manyR.R (fun b => b < W.heap.size ∧ b ≠ g) W x c → Many X.heap.size X x c := fun {x c} h => by
    refine manyR_iff.1 (manyR.imp (manyR.keep h (W' := X) fun k hk => ?_) fun k hk => ?_)
    · rw [← hX, Below.heap_setCell _ ⟨g, b, none⟩ v k hk.2, Below.heap_setCell _ ⟨g, a, none⟩ u k hk.2]
    · show k < X.heap.size
      rw [hXs]; exact hk.1
  refine cols_of_blk h2 h2.lt (by rw [List.length_set, List.length_set]; exact hl) hcc fun j hj => ?_
  by_cases hjb : j = b
  · subst hjb
    refine ⟨v, by rw [Array.getElem?_setIfInBounds, if_pos rfl, if_pos (by rw [Array.size_setIfInBounds]; omega)], ?_⟩
    rw [List.getElem?_set_self (by rw [List.length_set]; omega)]
    exact hk hv
  · by_cases hja : j = a
    · subst hja
      refine ⟨u, by rw [Array.getElem?_setIfInBounds_ne (by omega), Array.getElem?_setIfInBounds, if_pos rfl, if_pos (by omega)], ?_⟩
      rw [List.getElem?_set_ne (by omega), List.getElem?_set_self (by omega)]
      exact hk hu
    · obtain ⟨x, hx1, hx2⟩ := hcu j (by omega)
      refine ⟨x, by rw [Array.getElem?_setIfInBounds_ne (by omega), Array.getElem?_setIfInBounds_ne (by omega)]; exact hx1, ?_⟩
      rw [List.getElem?_set_ne (by omega), List.getElem?_set_ne (by omega)]
      exact hk hx2
theorem bad_row {P Q n b : Nat} {css : List (List (List UInt8))} {cu cv : List (List UInt8)} (hok : DataOk (P : Int) css) (hn : (firstC css).length = n) (hl : css.length = P) (hb : b < P) : Bad P Q n css (((css ++ [rowsMade Q css, diagsMade (P : Int) Q css]).set b cu).set P cv) [(b : Int), (P : Int)] :=
  ⟨hok, hn, by simp [hl], fun c hc hm => by
    have h1 : c ≠ b ∧ c ≠ P := by simp at hm; omega
    rw [List.getElem?_set_ne (by omega), List.getElem?_set_ne (by omega), List.getElem?_append_left (by omega)], fun h => absurd (by simp) h, fun _ => by
    rw [List.getElem?_set_ne (by omega), List.getElem?_set_ne (by omega), List.getElem?_append_right (by omega), hl, Nat.add_sub_cancel_left]; rfl⟩
/- The places of the chain, each once. -/
theorem rows_nd_fin : ∀ p ∈ prm, ∀ s ∈ List.range 17, (s : Int) < p → s ≠ 0 → ((List.range (p - 1).toNat).map (fun k : Nat => (p - 1 + ((k : Int) + 1) * (s : Int)) % p)).Nodup := by decide +kernel
theorem rows_nd {P Q : Nat} (hQ : P = Q + 1) (hp : (P : Int) ∈ prm) {c : Int} (hc : c % (P : Int) ≠ 0) : (Rg.rowsF (P : Int) (walkN (P : Int) ((P : Int) - 1) c)).Nodup := by
  have hpb := prm_bounds hp
  have h0 := Int.emod_nonneg c (show (P : Int) ≠ 0 by omega)
  have h1 := Int.emod_lt_of_pos c (show (0 : Int) < P by omega)
  obtain ⟨s, hs⟩ : ∃ s : Nat, c % (P : Int) = (s : Int) := ⟨(c % (P : Int)).toNat, by omega⟩
  have h := rows_nd_fin _ hp s (List.mem_range.2 (by omega)) (by omega) (by omega)
  rw [Rg.rows_are hQ hp hc, show ((P : Int) - 1).toNat = Q by omega] at *
  have e : (List.range Q).map (fun k : Nat => ((P : Int) - 1 + ((k : Int) + 1) * c) % (P : Int)) = (List.range Q).map (fun k : Nat => ((P : Int) - 1 + ((k : Int) + 1) * (s : Int)) % (P : Int)) := List.map_congr_left fun k _ => by rw [← hs, Rg.mul_mod]
  rw [e]
  exact h
/-- The places of the chain. -/
def plc (a b : Int) (rs : List Int) : List (Int × Int) := (chn a b rs).map (fun x : Int × Int × Int => (x.2.1, x.2.2))
theorem plc_len (a b : Int) (rs : List Int) : (plc a b rs).length = 2 * rs.length := by unfold plc; rw [List.length_map, chn_len]
theorem plc_at (a b : Int) (rs : List Int) {k : Nat} (hk : k < 2 * rs.length) : (plc a b rs)[k]? = some ((if k % 2 = 0 then b else a), rs[k / 2]?.getD 0) := by
  unfold plc chn
  rw [List.getElem?_map, List.getElem?_map, List.getElem?_range hk]
  rfl
theorem plc_new {a b : Int} (hab : a ≠ b) {rs : List Int} (hn : rs.Nodup) {k : Nat} (hk : k < 2 * rs.length) : ((if k % 2 = 0 then b else a), rs[k / 2]?.getD 0) ∉ (plc a b rs).take k := by
  intro h
  obtain ⟨i, hi, e⟩ := List.mem_iff_getElem.1 h
  rw [List.length_take, plc_len] at hi
  have hi2 : i < k := by omega
  have e2 : ((plc a b rs).take k)[i]? = some ((if i % 2 = 0 then b else a), rs[i / 2]?.getD 0) := by
    rw [List.getElem?_take, if_pos hi2, plc_at a b rs (by omega)]
  rw [List.getElem?_eq_getElem (by rw [List.length_take, plc_len]; omega), e] at e2
  injection e2 with e3
  injection e3 with e4 e5
  rw [List.getElem?_eq_getElem (show k / 2 < rs.length by omega), List.getElem?_eq_getElem (show i / 2 < rs.length by omega)] at e5
  have e6 : rs[k / 2]'(by omega) = rs[i / 2]'(by omega) := e5
  have e7 : k / 2 = i / 2 := by
    have x1 := Rg.idx_map rs hn (k / 2) (by omega)
    have x2 := Rg.idx_map rs hn (i / 2) (by omega)
    rw [e6, x2] at x1
    exact x1.symm
  have h3 : i % 2 ≠ k % 2 := by omega
  by_cases h4 : k % 2 = 0
  · rw [if_pos h4, if_neg (by omega)] at e4
    exact hab e4.symm
  · rw [if_neg h4, if_pos (by omega)] at e4
    exact hab e4
end Go.Proofs.YtfihlelhpmjpaaaGreatDoor.Ch

namespace Go.Proofs.YtfihlelhpmjpaaaGreatDoor.T
open Go.RowKit Go.Shelf Go.Maps Go.Proofs.YtfihlelhpmjpaaaGreatDoor.C Go.Proofs.YtfihlelhpmjpaaaGreatDoor.E Go.Proofs.YtfihlelhpmjpaaaGreatDoor.Ch
set_option linter.unusedSimpArgs false
set_option linter.unusedVariables false
attribute [local go_sem] Oper.semAt_some

theorem xk_rows {P Q : Nat} (hQ : P = Q + 1) (hp : (P : Int) ∈ prm) {a b : Int} (hab : (a - b) % (P : Int) ≠ 0) : Rg.rowsF (P : Int) (walkN (P : Int) ((P : Int) - 1) (a - b)) = (List.range Q).map (xk P (a - b)) := Rg.rows_are hQ hp hab
theorem xk_in {P Q : Nat} (hQ : P = Q + 1) (hp : (P : Int) ∈ prm) {a b : Int} (hab : (a - b) % (P : Int) ≠ 0) {k : Nat} (hk : k < Q) : 0 ≤ xk P (a - b) k ∧ xk P (a - b) k < (P : Int) - 1 := by
  have hpb := prm_bounds hp
  have hm : xk P (a - b) k ∈ Rg.rowsF (P : Int) (walkN (P : Int) ((P : Int) - 1) (a - b)) := by rw [xk_rows hQ hp hab]; exact List.mem_map.2 ⟨k, List.mem_range.2 hk, rfl⟩
  unfold Rg.rowsF at hm
  have hne2 : xk P (a - b) k ≠ (P : Int) - 1 := by simpa using (List.mem_filter.1 hm).2
  have h0 : 0 ≤ xk P (a - b) k := Int.emod_nonneg _ (by omega)
  have h1 : xk P (a - b) k < (P : Int) := Int.emod_lt_of_pos _ (by omega)
  omega
end Go.Proofs.YtfihlelhpmjpaaaGreatDoor.T

