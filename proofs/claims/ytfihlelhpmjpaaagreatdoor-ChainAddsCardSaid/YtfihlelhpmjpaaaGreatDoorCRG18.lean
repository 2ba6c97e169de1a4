/- chain: the lost columns, out of the cells told. -/
import Derived.Test.YtfihlelhpmjpaaaGreatDoorCRG17
namespace Go.Proofs.YtfihlelhpmjpaaaGreatDoor.T
open Go.RowKit Go.Shelf Go.Maps Go.Proofs.YtfihlelhpmjpaaaGreatDoor.C Go.Proofs.YtfihlelhpmjpaaaGreatDoor.E Go.Proofs.YtfihlelhpmjpaaaGreatDoor.Ch
set_option linter.unusedSimpArgs false
set_option linter.unusedVariables false
attribute [local go_sem] Oper.semAt_some

theorem below_undrew2 {W V : World} (h : Below W.heap.size W V) : Below W.drew.heap.size W.drew V := ⟨h.os, h.tape, h.output, h.size, h.block⟩
theorem made_rep (n : Nat) : madeCells (Value.slice none 0 0).cells n = Array.replicate n (.slice none 0 0) := Array.ext (by simp [madeCells]) fun k h1 h2 => by simp [madeCells, Value.cells, Nat.mod_one]
theorem opIn_make {F : Fence} {nF : Nat} (w : World) {o : Oper} {a : Act} {K : Act → World → Prop} {QQ : Exit → Act → World → Prop} (l c : Operand)
    (ho : o.op = .makeSlice 37 l c) (n : Nat) (hl : a.eval l = .int .i64 (n : Int)) (hc : a.eval c = .int .i64 (n : Int)) (hn : n ≤ 1000)
    (hK : ∀ w', Blk w' w.heap.size 57 (Array.replicate n (.slice none 0 0)) → Below w.heap.size w w' → K (a.put o.dst (.slice (some ⟨w.heap.size, 0, none⟩) n n)) w') : Oper.wpIn F nF Tryz.prog o a w K QQ := by
  obtain ⟨i, hi, hz0, hz1, hz2⟩ := info_parts Tryz.infoSlcE
  have hrun := run_make (P := Tryz.prog) w 37 57 i (.slice none 0 0) Tryz.underlying37 hi hz0 .i64 .i64 (n : Int) (n : Int) (by omega) (Int.le_refl _) (by rw [hz2]; omega) (by omega)
  unfold Oper.wpIn
  refine ⟨by simp [Oper.about, ho], ?_⟩
  rw [Oper.semAt_plain F _ _ (by rw [ho]; intro c hc'; cases hc')]
  simp [execOp, ho, hl, hc, hrun, Result.andThen, Oper.uponIn]
  have e : madeCells (Value.slice none 0 0).cells (n * i.size) = Array.replicate n (.slice none 0 0) := by
    rw [hz1, Nat.mul_one]
    exact made_rep n
  rw [e]
  exact hK _ (Blk.new w _ _) (below_one w _)
theorem mk2_any : ∀ W : World, (Instr.makeSlice 22 (.int .i64 2) (.int .i64 2)).run Tryz.prog W = .ok (.slice (some ⟨W.heap.size, 0, none⟩) 2 2) (W.alloc (.cells #[.slice none 0 0, .slice none 0 0] 37)) := fun W => by
  obtain ⟨i, hi, hz0, hz1, hz2⟩ := info_parts Tryz.infoCol
  have hrun := run_make (P := Tryz.prog) W 22 37 i (.slice none 0 0) Tryz.underlying22 hi hz0 .i64 .i64 2 2 (by omega) (Int.le_refl _) (by rw [hz2]; omega) (by omega)
  rw [hrun, hz1, show Int.toNat 2 * 1 = 2 from rfl, made_rep 2]
  rfl
/-- A column filled with the cells told of its places. -/
def fillF (us : List Value) (Q : Nat) (col : Int) (pre : List (Int × Int × Int)) : Array Value := pre.foldl (fun arr x => if x.2.1 = col then arr.setIfInBounds x.2.2.toNat (us[x.1.toNat]?.getD undef) else arr) (Array.replicate Q (.slice none 0 0))
theorem fillF_snoc (us : List Value) (Q : Nat) (col : Int) (pre : List (Int × Int × Int)) (x : Int × Int × Int) : fillF us Q col (pre ++ [x]) = if x.2.1 = col then (fillF us Q col pre).setIfInBounds x.2.2.toNat (us[x.1.toNat]?.getD undef) else fillF us Q col pre := by unfold fillF; rw [List.foldl_append]; rfl
theorem fillF_size (us : List Value) (Q : Nat) (col : Int) (pre : List (Int × Int × Int)) : (fillF us Q col pre).size = Q := by
  have h : ∀ (l : List (Int × Int × Int)) (c : Array Value), c.size = Q → (l.foldl (fun arr x => if x.2.1 = col then arr.setIfInBounds x.2.2.toNat (us[x.1.toNat]?.getD undef) else arr) c).size = Q := fun l => by
    induction l with
    | nil => intro c hc; exact hc
    | cons z l ih =>
      intro c hc
      refine ih _ ?_
      show (if z.2.1 = col then c.setIfInBounds z.2.2.toNat (us[z.1.toNat]?.getD undef) else c).size = Q
      split
      · rw [Array.size_setIfInBounds]; exact hc
      · exact hc
  exact h pre _ (by simp)
def ColT (us : List Value) (Q : Nat) (a b : Int) (l : List (Int × Int × Int)) (gC : Nat) (W : World) : Prop :=
  ∃ c0 c1, Blk W gC 37 #[.slice (some ⟨c0, 0, none⟩) Q Q, .slice (some ⟨c1, 0, none⟩) Q Q] ∧ Blk W c0 57 (fillF us Q a l) ∧ Blk W c1 57 (fillF us Q b l)
/-- The invariant of the walk that fills. -/
def ColI (us : List Value) (Q : Nat) (a b : Int) (gC c0 c1 g2 g0 g1 : Nat) (pv lv dv : Value) (w : World) (top : Nat) (pre : List (Int × Int × Int)) (o : Nat → Prop) (X : World) : Prop :=
  (o = fun _ => False) ∧ Blk X gC 37 #[.slice (some ⟨c0, 0, none⟩) Q Q, .slice (some ⟨c1, 0, none⟩) Q Q] ∧ Blk X c0 57 (fillF us Q a pre) ∧ Blk X c1 57 (fillF us Q b pre) ∧ Blk X g2 22 #[.slice (some ⟨gC, 0, none⟩) 2 2] ∧ Blk X g0 70 #[pv, lv] ∧ Blk X g1 36 #[dv] ∧ Below w.heap.size w X ∧ top ≤ X.heap.size
set_option maxRecDepth 100000 in
set_option maxHeartbeats 8000000 in
theorem columns_any {P Q : Nat} (hQ : P = Q + 1) (hp : (P : Int) ∈ prm) (a b : Int) (ha : 0 ≤ a ∧ a < (P : Int)) (hb : 0 ≤ b ∧ b < (P : Int)) (hab : a ≠ b) (rs : List Int) (hrs : Rg.rowsF (P : Int) (walkN (P : Int) ((P : Int) - 1) (a - b)) = rs) (hrl : rs.length ≤ 100) (gl gt ot T ct : Nat) (us : List Value) (hT : T = 2 * rs.length) (hul : us.length = T) (hus : ∀ u ∈ us, ∃ A n c, u = .slice A n c) (w : World) (hL : Laid w) (hgl : gl < w.heap.size) (hgt : gt < w.heap.size) (cA : w.cell? ⟨gl, 0, none⟩ = some (.int .i64 a)) (cB : w.cell? ⟨gl, 1, none⟩ = some (.int .i64 b)) (hcell : ∀ (j : Nat) (u : Value), us[j]? = some u → w.cell? ⟨gt, ot + j, none⟩ = some u) :
    Calls Tryz.prog 103 #[.agg #[.int .i64 (P : Int), .slice (some ⟨gl, 0, none⟩) 2 2], .slice (some ⟨gt, ot, none⟩) T ct] w fun e w' => ∃ gC, e = .returned (.slice (some ⟨gC, 0, none⟩) 2 2) ∧ ColT us Q a b (chn a b rs) gC w' ∧ Below w.heap.size w w' := by
  have hpb := prm_bounds hp
  obtain ⟨w0, hw0⟩ : ∃ x, (w.alloc (.cells #[.int .i64 (P : Int), .slice (some ⟨gl, 0, none⟩) 2 2] 70)).alloc (.cells #[.slice (some ⟨gt, ot, none⟩) T ct] 36) = x := ⟨_, rfl⟩
  obtain ⟨g0, hg0⟩ : ∃ x, w.heap.size = x := ⟨_, rfl⟩
  obtain ⟨g1, hg1⟩ : ∃ x, g0 + 1 = x := ⟨_, rfl⟩
  have b0 : Blk w0 g0 70 #[.int .i64 (P : Int), .slice (some ⟨gl, 0, none⟩) 2 2] := by rw [← hw0, ← hg0]; exact (Blk.new w _ _).alloc _
  have b1 : Blk w0 g1 36 #[.slice (some ⟨gt, ot, none⟩) T ct] := by rw [← hw0, ← hg1, ← hg0]; exact Blk.second w _ _ _
  have hB0 : Below w.heap.size w w0 := by rw [← hw0]; exact below_two w _ _
  have k0 := b0.cell 0
  have k1 := b0.cell 1
  have k2 := b1.one
  have l0 := b0.lt
  have l1 := b1.lt
  have HW0 := Lib.hid (And.intro hw0 (And.intro hg0 hg1))
  have HQ := Lib.hid (And.intro hQ (And.intro hT (And.intro hul (And.intro hp (And.intro hpb (And.intro ha (And.intro hb (And.intro hab (And.intro hrs (And.intro hrl hus))))))))))
  have HCU := Lib.hid hcell
  have HCB := Lib.hid (And.intro cA (And.intro cB (And.intro hgl hgt)))
  have HLW := Lib.hid (fun (U : World) (hU : Below w.heap.size w U) => hL.next hU)
  have hmk := mk2_any
  clear hw0 hg0 hQ hT hul hp hpb ha hb hab hrs hrl hus hcell cA cB hgl hgt hL
  refine (callsIn_wide (n := 9)).1 ?_
  refine callsIn_of_wp_marks Tryz.func103 rfl trivial ?_ rfl
  simp only [Tryz.ntmps103, List.size_toArray, List.length_cons, List.length_nil, Nat.reduceAdd, Nat.reduceSub, Array.replicate_succ, Array.replicate_zero, List.push_toArray, List.append_toArray, List.nil_append, List.cons_append]
  gi_wp2_with fail
  rw [HW0.out.1, HW0.out.2.1, hg1]
  obtain ⟨gC, hgC⟩ : ∃ x, g1 + 1 = x := ⟨_, rfl⟩
  rw [hgC]
  obtain ⟨W1, hW1⟩ : ∃ x, (w0.alloc (.cells #[.slice none 0 0, .slice none 0 0] 37)).alloc (.cells #[.slice (some ⟨gC, 0, none⟩) 2 2] 22) = x := ⟨_, rfl⟩
  obtain ⟨g2, hg2⟩ : ∃ x, gC + 1 = x := ⟨_, rfl⟩
  have hs0 : w0.heap.size = gC := by rw [← hgC, ← hg1, ← HW0.out.2.1, ← HW0.out.1]; simp
  have bC : Blk W1 gC 37 #[.slice none 0 0, .slice none 0 0] := by rw [← hW1, ← hs0]; exact (Blk.new w0 _ _).alloc _
  have b2 : Blk W1 g2 22 #[.slice (some ⟨gC, 0, none⟩) 2 2] := by rw [← hW1, ← hg2, ← hs0]; exact Blk.second w0 _ _ _
  have hB1 : Below w0.heap.size w0 W1 := by rw [← hW1]; exact below_two w0 _ _
  replace b0 := b0.below hB1 b0.lt
  replace b1 := b1.below hB1 b1.lt
  have hBX := below_in hB0 hB1
  rw [hg2, hW1]
  clear hW1 hB1 hs0
  have hq1 : Hid (Q ≤ 1000) := by unfold Hid; have := HQ.out; omega
  have hLA := Lib.hid (fun W => last_any P Q HQ.out.1 (by have := HQ.out.2.2.2.2.1; omega) W)
  have hQP := Lib.hid HQ.out.1
  refine wpIn_loop_rounds 3 ?_
  have lC0 := b2.lt
  rw [roundsIn_succ]
  gi_wp2_with fail
  have hBd := (Below.refl W1.heap.size W1).drew
  replace bC := bC.below hBd bC.lt
  replace b2 := b2.below hBd b2.lt
  replace b0 := b0.below hBd b0.lt
  replace b1 := b1.below hBd b1.lt
  have HSS : Hid (∀ V, Below W1.heap.size W1 V → (fun U : World => U.cell? ⟨g2, 0, none⟩ = some (.slice (some ⟨gC, 0, none⟩) 2 2) ∧ U.cell? ⟨g0, 0, none⟩ = some (.int .i64 (P : Int))) V) := fun V hV => ⟨by have := (b2.below (show Below W1.drew.heap.size W1.drew V from below_undrew2 hV) b2.lt); exact this.one, by have := (b0.below (show Below W1.drew.heap.size W1.drew V from below_undrew2 hV) b0.lt); exact this.cell 0⟩
  have hS : (fun U : World => U.cell? ⟨g2, 0, none⟩ = some (.slice (some ⟨gC, 0, none⟩) 2 2) ∧ U.cell? ⟨g0, 0, none⟩ = some (.int .i64 (P : Int))) W1.drew := HSS.out _ hBd
  have hBx := hBd
  refine wpIn_mono (region_HF (Q := NoPanic _) (S := (fun U : World => U.cell? ⟨g2, 0, none⟩ = some (.slice (some ⟨gC, 0, none⟩) 2 2) ∧ U.cell? ⟨g0, 0, none⟩ = some (.int .i64 (P : Int)))) (by kernel_rfl) ?_) NoPanic.imp
  refine anyHF_take (i := 0) (d := 18) (v := .slice (some ⟨gC, 0, none⟩) 2 2) (by kernel_rfl) rfl (by kernel_rfl) (by kernel_rfl) (by kernel_rfl) rfl (fun _ _ _ h => h) ⟨Or.inl ⟨by rfl, fun w hS => by obtain ⟨h0, h1⟩ := hS; go_simp⟩, fun _ => rfl⟩ hS ?_
  simp only [List.setIfInBounds_toArray, List.set_cons_zero, List.set_cons_succ]
  refine anyHF_take (i := 1) (d := 19) (v := .int .i64 0) (by kernel_rfl) rfl (by kernel_rfl) (by kernel_rfl) (by kernel_rfl) rfl (fun _ _ _ h => h) ⟨Or.inl ⟨by rfl, fun w hS => by obtain ⟨h0, h1⟩ := hS; go_simp⟩, fun _ => rfl⟩ hS ?_
  simp only [List.setIfInBounds_toArray, List.set_cons_zero, List.set_cons_succ]
  refine anyHF_take (i := 2) (d := 20) (v := .pointer (some ⟨g0, 0, none⟩)) (by kernel_rfl) rfl (by kernel_rfl) (by kernel_rfl) (by kernel_rfl) rfl (fun _ _ _ h => h) ⟨Or.inl ⟨by rfl, fun w hS => by obtain ⟨h0, h1⟩ := hS; go_simp⟩, fun _ => rfl⟩ hS ?_
  simp only [List.setIfInBounds_toArray, List.set_cons_zero, List.set_cons_succ]
  refine anyHF_take (i := 3) (d := 21) (v := .int .i64 (P : Int)) (by kernel_rfl) rfl (by kernel_rfl) (by kernel_rfl) (by kernel_rfl) rfl (fun _ _ _ h => h) ⟨Or.inl ⟨by rfl, fun w hS => by obtain ⟨h0, h1⟩ := hS; go_simp⟩, fun _ => rfl⟩ hS ?_
  simp only [List.setIfInBounds_toArray, List.set_cons_zero, List.set_cons_succ]
  refine anyHF_one (i := 4) (by kernel_rfl) rfl (by kernel_rfl) (by rfl) ?_
  gi_wp2_with fail
  refine ⟨trivial, (callsIn_wide.2 (hLA.out _)).mono ?_⟩
  rintro e v1 ⟨rfl, rfl⟩
  gi_wp2
  try (refine ⟨hS, ?_⟩)
  refine anyHF_one (i := 5) (by kernel_rfl) rfl (by kernel_rfl) (by rfl) ?_
  refine opIn_make _ _ _ rfl Q rfl rfl hq1.out ?_
  intro m2 bc0 hB
  have hlc0 : W1.heap.size ≤ W1.drew.heap.size := hBx.size
  obtain ⟨c0, hc0⟩ : ∃ x, W1.drew.heap.size = x := ⟨_, rfl⟩
  rw [hc0] at bc0
  replace bC := bC.below hB bC.lt
  replace b2 := b2.below hB b2.lt
  replace b0 := b0.below hB b0.lt
  replace b1 := b1.below hB b1.lt
  replace hBx := below_in hBx hB
  clear hS
  have hS : (fun U : World => U.cell? ⟨g2, 0, none⟩ = some (.slice (some ⟨gC, 0, none⟩) 2 2) ∧ U.cell? ⟨g0, 0, none⟩ = some (.int .i64 (P : Int))) m2 := HSS.out _ hBx
  gi_wp2
  (try rw [hc0])
  try (refine ⟨hS, ?_⟩)
  refine anyHF_take (i := 6) (d := 24) (v := .pointer (some ⟨gC, 0, none⟩)) (by kernel_rfl) rfl (by kernel_rfl) (by kernel_rfl) (by kernel_rfl) rfl (fun _ _ _ h => h) ⟨Or.inl ⟨by rfl, fun w hS => by obtain ⟨h0, h1⟩ := hS; go_simp⟩, fun _ => rfl⟩ hS ?_
  simp only [List.setIfInBounds_toArray, List.set_cons_zero, List.set_cons_succ]
  refine anyHF_one (i := 7) (by kernel_rfl) rfl (by kernel_rfl) (by rfl) ?_
  have k3 : m2.cell? ⟨gC, 0, none⟩ = _ := bC.cell 0
  simp only [List.getElem?_toArray, List.getElem?_cons_zero, List.getElem?_cons_succ] at k3
  have f3 := bC.frozen 0
  have hSB : Hid ((fun U : World => U.cell? ⟨g2, 0, none⟩ = some (.slice (some ⟨gC, 0, none⟩) 2 2) ∧ U.cell? ⟨g0, 0, none⟩ = some (.int .i64 (P : Int))) (m2.setCell ⟨gC, 0, none⟩ (.slice (some ⟨c0, 0, none⟩) Q Q))) := ⟨(Blk.far b2 (by show g2 ≠ gC; omega) _).one, (Blk.far b0 (by show g0 ≠ gC; have := HW0.out; omega) _).cell 0⟩
  gi_wp2
  clear hS
  have hS := hSB.out
  clear k3 f3 hSB
  try (refine ⟨hS, ?_⟩)
  refine anyHF_done (by kernel_rfl) ?_ _
  refine NoPanic.normal ?_
  clear hS
  gi_wp2_with fail
  have hcg0 : g2 < c0 := by omega
  obtain ⟨W2, hW2⟩ : ∃ x, (m2.setCell ⟨gC, 0, none⟩ (.slice (some ⟨c0, 0, none⟩) Q Q)) = x := ⟨_, rfl⟩
  have fC := (show Blk (m2.setCell ⟨gC, 0, none⟩ (.slice (some ⟨c0, 0, none⟩) Q Q)) gC 37 #[.slice (some ⟨c0, 0, none⟩) Q Q, .slice none 0 0] from bC.set_ 0 _)
  have fb2 := Blk.far b2 (by show g2 ≠ gC; have := HW0.out; omega) (.slice (some ⟨c0, 0, none⟩) Q Q) (p := ⟨gC, 0, none⟩)
  have fb0 := Blk.far b0 (by show g0 ≠ gC; have := HW0.out; omega) (.slice (some ⟨c0, 0, none⟩) Q Q) (p := ⟨gC, 0, none⟩)
  have fb1 := Blk.far b1 (by show g1 ≠ gC; have := HW0.out; omega) (.slice (some ⟨c0, 0, none⟩) Q Q) (p := ⟨gC, 0, none⟩)
  have fbc0 := Blk.far bc0 (by show c0 ≠ gC; have := HW0.out; omega) (.slice (some ⟨c0, 0, none⟩) Q Q) (p := ⟨gC, 0, none⟩)
  rw [hW2] at fC fb2 fb0 fb1 fbc0 ⊢
  have hBX0 := (below_in hBX hBx).setCell (p := ⟨gC, 0, none⟩) (by show w.heap.size ≤ gC; have := HW0.out; omega) (.slice (some ⟨c0, 0, none⟩) Q Q)
  rw [hW2] at hBX0
  clear hBX HSS hBd hlc0 hB hBx hc0 hW2 bC b2 b0 b1 bc0 lC0
  have bC := fC
  have b2 := fb2
  have b0 := fb0
  have b1 := fb1
  have bc0 := fbc0
  clear fC fb2 fb0 fb1 fbc0
  have hBX := hBX0
  clear hBX0
  have lC1 := b2.lt
  have lc0 := bc0.lt
  rw [roundsIn_succ]
  gi_wp2_with fail
  have hBd := (Below.refl W2.heap.size W2).drew
  replace bC := bC.below hBd bC.lt
  replace b2 := b2.below hBd b2.lt
  replace b0 := b0.below hBd b0.lt
  replace b1 := b1.below hBd b1.lt
  replace bc0 := bc0.below hBd bc0.lt
  have HSS : Hid (∀ V, Below W2.heap.size W2 V → (fun U : World => U.cell? ⟨g2, 0, none⟩ = some (.slice (some ⟨gC, 0, none⟩) 2 2) ∧ U.cell? ⟨g0, 0, none⟩ = some (.int .i64 (P : Int))) V) := fun V hV => ⟨by have := (b2.below (show Below W2.drew.heap.size W2.drew V from below_undrew2 hV) b2.lt); exact this.one, by have := (b0.below (show Below W2.drew.heap.size W2.drew V from below_undrew2 hV) b0.lt); exact this.cell 0⟩
  have hS : (fun U : World => U.cell? ⟨g2, 0, none⟩ = some (.slice (some ⟨gC, 0, none⟩) 2 2) ∧ U.cell? ⟨g0, 0, none⟩ = some (.int .i64 (P : Int))) W2.drew := HSS.out _ hBd
  have hBx := hBd
  refine wpIn_mono (region_HF (Q := NoPanic _) (S := (fun U : World => U.cell? ⟨g2, 0, none⟩ = some (.slice (some ⟨gC, 0, none⟩) 2 2) ∧ U.cell? ⟨g0, 0, none⟩ = some (.int .i64 (P : Int)))) (by kernel_rfl) ?_) NoPanic.imp
  refine anyHF_take (i := 0) (d := 18) (v := .slice (some ⟨gC, 0, none⟩) 2 2) (by kernel_rfl) rfl (by kernel_rfl) (by kernel_rfl) (by kernel_rfl) rfl (fun _ _ _ h => h) ⟨Or.inl ⟨by rfl, fun w hS => by obtain ⟨h0, h1⟩ := hS; go_simp⟩, fun _ => rfl⟩ hS ?_
  simp only [List.setIfInBounds_toArray, List.set_cons_zero, List.set_cons_succ]
  refine anyHF_take (i := 1) (d := 19) (v := .int .i64 1) (by kernel_rfl) rfl (by kernel_rfl) (by kernel_rfl) (by kernel_rfl) rfl (fun _ _ _ h => h) ⟨Or.inl ⟨by rfl, fun w hS => by obtain ⟨h0, h1⟩ := hS; go_simp⟩, fun _ => rfl⟩ hS ?_
  simp only [List.setIfInBounds_toArray, List.set_cons_zero, List.set_cons_succ]
  refine anyHF_take (i := 2) (d := 20) (v := .pointer (some ⟨g0, 0, none⟩)) (by kernel_rfl) rfl (by kernel_rfl) (by kernel_rfl) (by kernel_rfl) rfl (fun _ _ _ h => h) ⟨Or.inl ⟨by rfl, fun w hS => by obtain ⟨h0, h1⟩ := hS; go_simp⟩, fun _ => rfl⟩ hS ?_
  simp only [List.setIfInBounds_toArray, List.set_cons_zero, List.set_cons_succ]
  refine anyHF_take (i := 3) (d := 21) (v := .int .i64 (P : Int)) (by kernel_rfl) rfl (by kernel_rfl) (by kernel_rfl) (by kernel_rfl) rfl (fun _ _ _ h => h) ⟨Or.inl ⟨by rfl, fun w hS => by obtain ⟨h0, h1⟩ := hS; go_simp⟩, fun _ => rfl⟩ hS ?_
  simp only [List.setIfInBounds_toArray, List.set_cons_zero, List.set_cons_succ]
  refine anyHF_one (i := 4) (by kernel_rfl) rfl (by kernel_rfl) (by rfl) ?_
  gi_wp2_with fail
  refine ⟨trivial, (callsIn_wide.2 (hLA.out _)).mono ?_⟩
  rintro e v11 ⟨rfl, rfl⟩
  gi_wp2
  try (refine ⟨hS, ?_⟩)
  refine anyHF_one (i := 5) (by kernel_rfl) rfl (by kernel_rfl) (by rfl) ?_
  refine opIn_make _ _ _ rfl Q rfl rfl hq1.out ?_
  intro m12 bc1 hB
  have hlc1 : W2.heap.size ≤ W2.drew.heap.size := hBx.size
  obtain ⟨c1, hc1⟩ : ∃ x, W2.drew.heap.size = x := ⟨_, rfl⟩
  rw [hc1] at bc1
  replace bC := bC.below hB bC.lt
  replace b2 := b2.below hB b2.lt
  replace b0 := b0.below hB b0.lt
  replace b1 := b1.below hB b1.lt
  replace bc0 := bc0.below hB bc0.lt
  replace hBx := below_in hBx hB
  clear hS
  have hS : (fun U : World => U.cell? ⟨g2, 0, none⟩ = some (.slice (some ⟨gC, 0, none⟩) 2 2) ∧ U.cell? ⟨g0, 0, none⟩ = some (.int .i64 (P : Int))) m12 := HSS.out _ hBx
  gi_wp2
  (try rw [hc1])
  try (refine ⟨hS, ?_⟩)
  refine anyHF_take (i := 6) (d := 24) (v := .pointer (some ⟨gC, 1, none⟩)) (by kernel_rfl) rfl (by kernel_rfl) (by kernel_rfl) (by kernel_rfl) rfl (fun _ _ _ h => h) ⟨Or.inl ⟨by rfl, fun w hS => by obtain ⟨h0, h1⟩ := hS; go_simp⟩, fun _ => rfl⟩ hS ?_
  simp only [List.setIfInBounds_toArray, List.set_cons_zero, List.set_cons_succ]
  refine anyHF_one (i := 7) (by kernel_rfl) rfl (by kernel_rfl) (by rfl) ?_
  have k3 : m12.cell? ⟨gC, 1, none⟩ = _ := bC.cell 1
  simp only [List.getElem?_toArray, List.getElem?_cons_zero, List.getElem?_cons_succ] at k3
  have f3 := bC.frozen 1
  have hSB : Hid ((fun U : World => U.cell? ⟨g2, 0, none⟩ = some (.slice (some ⟨gC, 0, none⟩) 2 2) ∧ U.cell? ⟨g0, 0, none⟩ = some (.int .i64 (P : Int))) (m12.setCell ⟨gC, 1, none⟩ (.slice (some ⟨c1, 0, none⟩) Q Q))) := ⟨(Blk.far b2 (by show g2 ≠ gC; omega) _).one, (Blk.far b0 (by show g0 ≠ gC; have := HW0.out; omega) _).cell 0⟩
  gi_wp2
  clear hS
  have hS := hSB.out
  clear k3 f3 hSB
  try (refine ⟨hS, ?_⟩)
  refine anyHF_done (by kernel_rfl) ?_ _
  refine NoPanic.normal ?_
  clear hS
  gi_wp2_with fail
  have hcg1 : g2 < c1 := by omega
  have hc01 : c0 < c1 := by omega
  obtain ⟨W3, hW3⟩ : ∃ x, (m12.setCell ⟨gC, 1, none⟩ (.slice (some ⟨c1, 0, none⟩) Q Q)) = x := ⟨_, rfl⟩
  have fC := (show Blk (m12.setCell ⟨gC, 1, none⟩ (.slice (some ⟨c1, 0, none⟩) Q Q)) gC 37 #[.slice (some ⟨c0, 0, none⟩) Q Q, .slice (some ⟨c1, 0, none⟩) Q Q] from bC.set_ 1 _)
  have fb2 := Blk.far b2 (by show g2 ≠ gC; have := HW0.out; omega) (.slice (some ⟨c1, 0, none⟩) Q Q) (p := ⟨gC, 1, none⟩)
  have fb0 := Blk.far b0 (by show g0 ≠ gC; have := HW0.out; omega) (.slice (some ⟨c1, 0, none⟩) Q Q) (p := ⟨gC, 1, none⟩)
  have fb1 := Blk.far b1 (by show g1 ≠ gC; have := HW0.out; omega) (.slice (some ⟨c1, 0, none⟩) Q Q) (p := ⟨gC, 1, none⟩)
  have fbc0 := Blk.far bc0 (by show c0 ≠ gC; have := HW0.out; omega) (.slice (some ⟨c1, 0, none⟩) Q Q) (p := ⟨gC, 1, none⟩)
  have fbc1 := Blk.far bc1 (by show c1 ≠ gC; have := HW0.out; omega) (.slice (some ⟨c1, 0, none⟩) Q Q) (p := ⟨gC, 1, none⟩)
  rw [hW3] at fC fb2 fb0 fb1 fbc0 fbc1 ⊢
  have hBX1 := (below_in hBX hBx).setCell (p := ⟨gC, 1, none⟩) (by show w.heap.size ≤ gC; have := HW0.out; omega) (.slice (some ⟨c1, 0, none⟩) Q Q)
  rw [hW3] at hBX1
  clear hBX HSS hBd hlc1 hB hBx hc1 hW3 bC b2 b0 b1 bc0 bc1 lC1 lc0
  have bC := fC
  have b2 := fb2
  have b0 := fb0
  have b1 := fb1
  have bc0 := fbc0
  have bc1 := fbc1
  clear fC fb2 fb0 fb1 fbc0 fbc1
  have hBX := hBX1
  clear hBX1
  have k0 : W3.cell? ⟨g0, 0, none⟩ = some (.int .i64 (P : Int)) := b0.cell 0
  have k1 : W3.cell? ⟨g0, 1, none⟩ = some (.slice (some ⟨gl, 0, none⟩) 2 2) := b0.cell 1
  have HCH := chain_any (P : Int) a b HQ.out.2.2.2.1 HQ.out.2.2.2.2.2.1 HQ.out.2.2.2.2.2.2.1 gl W3 (HLW.out W3 hBX) (Nat.lt_of_lt_of_le HCB.out.2.2.1 hBX.size) ((hBX.cell (p := ⟨gl, 0, none⟩) HCB.out.2.2.1).trans HCB.out.1) ((hBX.cell (p := ⟨gl, 1, none⟩) HCB.out.2.2.1).trans HCB.out.2.1)
  rw [HQ.out.2.2.2.2.2.2.2.2.1] at HCH
  rw [roundsIn_succ]
  gi_wp2_with fail
  refine ⟨trivial, (callsIn_wide.2 HCH).mono ?_⟩
  rintro e w4 ⟨v, rfl, ⟨gf, lb, rfl, eg, hgo⟩, hB4⟩
  clear HCH k0 k1
  gi_wp2_with fail
  have hs4 := hB4.size
  have l0c := bc0.lt
  have l1c := bc1.lt
  have lCc := bC.lt
  have l0g := b0.lt
  have l1g := b1.lt
  have l2g := b2.lt
  have hgs := HW0.out.2
  have hI0 : ColI us Q a b gC c0 c1 g2 g0 g1 (.int .i64 (P : Int)) (.slice (some ⟨gl, 0, none⟩) 2 2) (.slice (some ⟨gt, ot, none⟩) T ct) w w4.heap.size [] (fun _ => False) w4 := ⟨rfl, bC.below hB4 bC.lt, bc0.below hB4 bc0.lt, bc1.below hB4 bc1.lt, b2.below hB4 b2.lt, b0.below hB4 b0.lt, b1.below hB4 b1.lt, below_in hBX hB4, Nat.le_refl _⟩
  have HSZ := Lib.hid (And.intro hs4 (And.intro l0c (And.intro l1c (And.intro lCc (And.intro l0g (And.intro l1g (And.intro l2g (And.intro hgs (And.intro hcg0 (And.intro hc01 (And.intro hgC hg2)))))))))))
  clear bC bc0 bc1 b2 b0 b1 hB4 hBX hs4 l0c l1c lCc l0g l1g l2g hgs hcg0 hcg1 hc01 hgC hg2 hmk hg1
  refine wpIn_rangeBoxT rfl (by omega) (gf := gf) (lb := lb) rfl trivial eg (hgo _ (by omega)) (fun h h' => h.trans h') (fun X l o hl _ _ => Keep.putFar X (by have := HSZ.out; omega) o) (Below.refl _ _) (fun _ => rfl)
    (ColI us Q a b gC c0 c1 g2 g0 g1 (.int .i64 (P : Int)) (.slice (some ⟨gl, 0, none⟩) 2 2) (.slice (some ⟨gt, ot, none⟩) T ct) w w4.heap.size) (fun _ _ _ _ => False) ?hI (fun c s o X Y row hs _ _ => hs) (fun _ => False) (fun b e => e.elim) hI0
    (fun x : Int × Int × Int => (0 ≤ x.1 ∧ x.1 < (T : Int)) ∧ (x.2.1 = b ∨ x.2.1 = a) ∧ (0 ≤ x.2.2 ∧ x.2.2 < (P : Int) - 1)) (fun pre x W h => ?hPr) 55 (fun x : Int × Int × Int => #[.int .i64 x.2.1, .int .i64 x.2.2]) (fun x Bx => { tmps := #[.agg #[.int .i64 (P : Int), .slice (some ⟨gl, 0, none⟩) 2 2], .slice (some ⟨gt, ot, none⟩) T ct, .pointer (some ⟨g0, 0, none⟩), .pointer (some ⟨g1, 0, none⟩), .slice none 0 0, .pointer (some ⟨g2, 0, none⟩), .int .i64 1, .int .i64 x.1, .pointer (some ⟨Bx, 0, none⟩), .pointer (some ⟨g0, 1, none⟩), .slice (some ⟨gl, 0, none⟩) 2 2, .int .i64 2, .slice (some ⟨gC, 0, none⟩) 2 2, .slice (some ⟨gC, 0, none⟩) 2 2, .int .i64 2, .int .i64 2, .bool false, .int .i64 1, .slice (some ⟨gC, 0, none⟩) 2 2, .int .i64 1, .pointer (some ⟨g0, 0, none⟩), .int .i64 (P : Int), .int .i64 (Q : Int), .slice (some ⟨c1, 0, none⟩) Q Q, .pointer (some ⟨gC, 1, none⟩), .int .i64 2, .agg #[.int .i64 (P : Int), .slice (some ⟨gl, 0, none⟩) 2 2], .func (.func gf) #[] lb, .int .i64 x.1, .agg #[.int .i64 x.2.1, .int .i64 x.2.2], undef, undef, undef, undef, undef, undef, undef, undef, undef, undef, undef, undef, undef, undef, undef, undef], defers := [] })
    ?assign (fun pre o X h => ?hrow) (fun c pre o X h => h.elim) ?body ?done (fun D c pre o X _ _ _ h => h.elim)
  case hI =>
    rintro s o X Y row ⟨rfl, hC, hc0, hc1, h2, h0, h1, hBX, hsz⟩ hgr hr
    have hh := HSZ.out
    have hne : ∀ g, g < w4.heap.size → some g ≠ row := fun g hg e => by have := (hr g e.symm).1; omega
    exact ⟨rfl, hC.grown hgr (hne _ (by omega)), hc0.grown hgr (hne _ (by omega)), hc1.grown hgr (hne _ (by omega)), h2.grown hgr (hne _ (by omega)), h0.grown hgr (hne _ (by omega)), h1.grown hgr (hne _ (by omega)), below_grown hBX hgr hBX.size (fun r e => by have := (hr r e).1; omega), Nat.le_trans hsz hgr.size⟩
  case hPr =>
    obtain ⟨h1, rfl⟩ := okC_at h
    refine ⟨⟨by show (0 : Int) ≤ (pre.length : Int); omega, by show (pre.length : Int) < (T : Int); have := HQ.out.2.1; omega⟩, ?_, h.1⟩
    show (if pre.length % 2 = 0 then b else a) = b ∨ (if pre.length % 2 = 0 then b else a) = a
    split
    · exact .inl rfl
    · exact .inr rfl
  case hrow =>
    obtain ⟨rfl, _⟩ := h
    exact fun b hb => hb.elim
  case assign =>
    rintro l' pre x o X KK hsz hol ⟨rfl, hC, hc0, hc1, h2, h0, h1, hBX, hge⟩ _ hKK
    simp only [encC]
    gi_wp2
    have hbx := Blk.new X 55 #[.int .i64 x.2.1, .int .i64 x.2.2]
    have hBz := below_one X (.cells #[.int .i64 x.2.1, .int .i64 x.2.2] 55)
    have hKe : Keep W3.heap.size (w4.heap.size - W3.heap.size) X (X.alloc (.cells #[.int .i64 x.2.1, .int .i64 x.2.2] 55)) := Keep.alloc (by have := HSZ.out; omega) _
    have hI2 : ColI us Q a b gC c0 c1 g2 g0 g1 (.int .i64 (P : Int)) (.slice (some ⟨gl, 0, none⟩) 2 2) (.slice (some ⟨gt, ot, none⟩) T ct) w w4.heap.size pre (fun _ => False) (X.alloc (.cells #[.int .i64 x.2.1, .int .i64 x.2.2] 55)) :=
      ⟨rfl, hC.below hBz hC.lt, hc0.below hBz hc0.lt, hc1.below hBz hc1.lt, h2.below hBz h2.lt, h0.below hBz h0.lt, h1.below hBz h1.lt, below_in hBX hBz, Nat.le_trans hge hBz.size⟩
    exact hKK X.heap.size _ (SinceO.below hBz) hKe hI2 hbx (fun h => h) hsz
  case body =>
    rintro l' pre x o Bx X hsz ⟨rfl, hC, hc0, hc1, h2, h0, h1, hBX, hge⟩ hbx hnBx hle ⟨⟨hk0, hkT⟩, hcol, hy0, hyP⟩ hlz
    have hh := HSZ.out
    have hq := HQ.out
    have hcb := HCB.out
    obtain ⟨u, hu⟩ : ∃ u, us[x.1.toNat]? = some u := ⟨us[x.1.toNat]'(by omega), List.getElem?_eq_getElem (by omega)⟩
    obtain ⟨uA, un, uc, rfl⟩ := hq.2.2.2.2.2.2.2.2.2.2 u (List.mem_of_getElem? hu)
    have hcu : X.cell? ⟨gt, ot + x.1.toNat, none⟩ = some (.slice uA un uc) := (hBX.cell (p := ⟨gt, ot + x.1.toNat, none⟩) hcb.2.2.2).trans (HCU.out _ _ hu)
    have hca : X.cell? ⟨gl, 0, none⟩ = some (.int .i64 a) := (hBX.cell (p := ⟨gl, 0, none⟩) hcb.2.2.1).trans hcb.1
    have hcb2 : X.cell? ⟨gl, 1, none⟩ = some (.int .i64 b) := (hBX.cell (p := ⟨gl, 1, none⟩) hcb.2.2.1).trans hcb.2.1
    have hwX := hBX.size
    have lt1 : gt < X.heap.size := by omega
    have lt2 : gl < X.heap.size := by omega
    have hgd : us[x.1.toNat]?.getD undef = .slice uA un uc := by rw [hu]; rfl
    have i0 : (0 : Int) ≤ x.1 := hk0
    have i2 : x.1 < (T : Int) := hkT
    have j0 : (0 : Int) ≤ x.2.2 := hy0
    have j2 : x.2.2 < (Q : Int) := by omega
    have hab := hq.2.2.2.2.2.2.2.1
    have hsa := fillF_size us Q a pre
    have hsb := fillF_size us Q b pre
    have HFA := Lib.hid (fillF_snoc us Q a pre x)
    have HFB := Lib.hid (fillF_snoc us Q b pre x)
    have hbxl := hbx.lt
    by_cases hxa : x.2.1 = a
    · have hix : idxI [a, b] x.2.1 = 0 := by rw [hxa]; simp [idxI]
      have HIX : Hid (∀ V, Below X.heap.size X V → Calls Tryz.prog 151 #[.slice (some ⟨gl, 0, none⟩) 2 2, .int .i64 x.2.1] V fun e w' => e = .returned (.int .i64 0) ∧ w' = V) := fun V hV => by
        have h := index_any gl 0 2 [a, b] x.2.1 (by simp) V (fun j hj => by
          have hj2 : j = 0 ∨ j = 1 := by simp at hj; omega
          rcases hj2 with rfl | rfl
          · exact (hV.cell (p := ⟨gl, 0, none⟩) lt2).trans hca
          · exact (hV.cell (p := ⟨gl, 1, none⟩) lt2).trans hcb2)
        rw [hix] at h
        exact h
      have HSS : Hid (∀ V, Below X.heap.size X V → (fun U : World => U.cell? ⟨g2, 0, none⟩ = some (.slice (some ⟨gC, 0, none⟩) 2 2) ∧ U.cell? ⟨g0, 1, none⟩ = some (.slice (some ⟨gl, 0, none⟩) 2 2) ∧ U.cell? ⟨Bx, 0, none⟩ = some (.int .i64 x.2.1) ∧ U.cell? ⟨Bx, 1, none⟩ = some (.int .i64 x.2.2) ∧ U.cell? ⟨g1, 0, none⟩ = some (.slice (some ⟨gt, ot, none⟩) T ct) ∧ U.cell? ⟨gC, 0, none⟩ = some (.slice (some ⟨c0, 0, none⟩) Q Q) ∧ U.cell? ⟨gt, ot + x.1.toNat, none⟩ = some (.slice uA un uc)) V) := fun V hV => ⟨(h2.below hV h2.lt).one, (h0.below hV h0.lt).cell 1, (hbx.below hV hbx.lt).cell 0, (hbx.below hV hbx.lt).cell 1, (h1.below hV h1.lt).one, (hC.below hV hC.lt).cell 0, (hV.cell (p := ⟨gt, ot + x.1.toNat, none⟩) lt1).trans hcu⟩
      have HST : Hid (∀ V, Below X.heap.size X V → (∃ old, V.cell? ⟨c0, x.2.2.toNat, none⟩ = some old) ∧ V.frozen? ⟨c0, x.2.2.toNat, none⟩ = false) := fun V hV => by
        have hb := hc0.below hV hc0.lt
        have hsz2 : x.2.2.toNat < (fillF us Q a pre).size := by rw [hsa]; omega
        exact ⟨⟨_, (hb.cell _).trans (Array.getElem?_eq_getElem hsz2)⟩, hb.frozen _⟩
      have HSB : Hid (∀ V, Below X.heap.size X V → (fun U : World => U.cell? ⟨g2, 0, none⟩ = some (.slice (some ⟨gC, 0, none⟩) 2 2) ∧ U.cell? ⟨g0, 1, none⟩ = some (.slice (some ⟨gl, 0, none⟩) 2 2) ∧ U.cell? ⟨Bx, 0, none⟩ = some (.int .i64 x.2.1) ∧ U.cell? ⟨Bx, 1, none⟩ = some (.int .i64 x.2.2) ∧ U.cell? ⟨g1, 0, none⟩ = some (.slice (some ⟨gt, ot, none⟩) T ct) ∧ U.cell? ⟨gC, 0, none⟩ = some (.slice (some ⟨c0, 0, none⟩) Q Q) ∧ U.cell? ⟨gt, ot + x.1.toNat, none⟩ = some (.slice uA un uc)) (V.setCell ⟨c0, x.2.2.toNat, none⟩ (.slice uA un uc))) := fun V hV => by
        have hk : ∀ q : Addr, q.block ≠ c0 → (V.setCell ⟨c0, x.2.2.toNat, none⟩ (.slice uA un uc)).cell? q = V.cell? q := fun q hq => World.cell?_of_block (Below.heap_setCell V ⟨c0, x.2.2.toNat, none⟩ _ q.block hq)
        obtain ⟨s1, s2, s3, s4, s5, s6, s7⟩ := HSS.out V hV
        exact ⟨(hk _ (by show g2 ≠ c0; omega)).trans s1, (hk _ (by show g0 ≠ c0; omega)).trans s2, (hk _ (by show Bx ≠ c0; omega)).trans s3, (hk _ (by show Bx ≠ c0; omega)).trans s4, (hk _ (by show g1 ≠ c0; omega)).trans s5, (hk _ (by show gC ≠ c0; omega)).trans s6, (hk _ (by show gt ≠ c0; omega)).trans s7⟩
      have HFIN : Hid (∀ V, Below X.heap.size X V → ∃ o', FreshO (fun _ => False) o' X ∧ SinceO w4.heap.size (fun _ => False) X (V.setCell ⟨c0, x.2.2.toNat, none⟩ (.slice uA un uc)) ∧ Keep W3.heap.size (w4.heap.size - W3.heap.size) X (V.setCell ⟨c0, x.2.2.toNat, none⟩ (.slice uA un uc)) ∧ ColI us Q a b gC c0 c1 g2 g0 g1 (.int .i64 (P : Int)) (.slice (some ⟨gl, 0, none⟩) 2 2) (.slice (some ⟨gt, ot, none⟩) T ct) w w4.heap.size (pre ++ [x]) o' (V.setCell ⟨c0, x.2.2.toNat, none⟩ (.slice uA un uc))) := fun V hV => by
        have hVs := hV.size
        have hFA := HFA.out
        have hFB := HFB.out
        rw [if_pos hxa, hgd] at hFA
        rw [if_neg (by rw [hxa]; exact hab)] at hFB
        refine ⟨fun _ => False, FreshO.refl _ _, ⟨by simp; omega, fun b h4 h5 h6 => ?_⟩, ⟨by simp; omega, fun b h4 h5 => ?_⟩, rfl, Blk.far (hC.below hV hC.lt) (by show gC ≠ c0; omega) _, ?_, ?_, Blk.far (h2.below hV h2.lt) (by show g2 ≠ c0; omega) _, Blk.far (h0.below hV h0.lt) (by show g0 ≠ c0; omega) _, Blk.far (h1.below hV h1.lt) (by show g1 ≠ c0; omega) _, (below_in hBX hV).setCell (by show w.heap.size ≤ c0; omega) _, by simp; omega⟩
        · exact (Below.heap_setCell V ⟨c0, x.2.2.toNat, none⟩ _ b (by show b ≠ c0; omega)).trans (hV.block b h5)
        · exact (Below.heap_setCell V ⟨c0, x.2.2.toNat, none⟩ _ b (by show b ≠ c0; omega)).trans (hV.block b (by omega))
        · rw [hFA]; exact ((hc0.below hV hc0.lt).set_ x.2.2.toNat (.slice uA un uc))
        · rw [hFB]; exact (Blk.far (hc1.below hV hc1.lt) (by show c1 ≠ c0; omega) _)
      have hBx := (Below.refl X.heap.size X).drew
      have hS : (fun U : World => U.cell? ⟨g2, 0, none⟩ = some (.slice (some ⟨gC, 0, none⟩) 2 2) ∧ U.cell? ⟨g0, 1, none⟩ = some (.slice (some ⟨gl, 0, none⟩) 2 2) ∧ U.cell? ⟨Bx, 0, none⟩ = some (.int .i64 x.2.1) ∧ U.cell? ⟨Bx, 1, none⟩ = some (.int .i64 x.2.2) ∧ U.cell? ⟨g1, 0, none⟩ = some (.slice (some ⟨gt, ot, none⟩) T ct) ∧ U.cell? ⟨gC, 0, none⟩ = some (.slice (some ⟨c0, 0, none⟩) Q Q) ∧ U.cell? ⟨gt, ot + x.1.toNat, none⟩ = some (.slice uA un uc)) X.drew := HSS.out _ hBx
      clear hC hc0 hc1 h2 h0 h1 hBX hbx hnBx hh hq hcb hu hcu hca hcb2 hgd hix hsa hsb HFA HFB hxa hab hcol
      gi_wp2_with fail
      refine wpIn_mono (region_HF (Q := NoPanic _) (S := (fun U : World => U.cell? ⟨g2, 0, none⟩ = some (.slice (some ⟨gC, 0, none⟩) 2 2) ∧ U.cell? ⟨g0, 1, none⟩ = some (.slice (some ⟨gl, 0, none⟩) 2 2) ∧ U.cell? ⟨Bx, 0, none⟩ = some (.int .i64 x.2.1) ∧ U.cell? ⟨Bx, 1, none⟩ = some (.int .i64 x.2.2) ∧ U.cell? ⟨g1, 0, none⟩ = some (.slice (some ⟨gt, ot, none⟩) T ct) ∧ U.cell? ⟨gC, 0, none⟩ = some (.slice (some ⟨c0, 0, none⟩) Q Q) ∧ U.cell? ⟨gt, ot + x.1.toNat, none⟩ = some (.slice uA un uc))) (by kernel_rfl) ?_) NoPanic.imp
      refine anyHF_take (i := 0) (d := 30) (v := .slice (some ⟨gC, 0, none⟩) 2 2) (by kernel_rfl) rfl (by kernel_rfl) (by kernel_rfl) (by kernel_rfl) rfl (fun _ _ _ h => h) ⟨Or.inl ⟨by rfl, fun w hS => by obtain ⟨h0, h1, h2, h3, h4, h5, h6⟩ := hS; go_simp⟩, fun _ => rfl⟩ hS ?_
      simp only [List.setIfInBounds_toArray, List.set_cons_zero, List.set_cons_succ]
      refine anyHF_take (i := 1) (d := 31) (v := .pointer (some ⟨g0, 1, none⟩)) (by kernel_rfl) rfl (by kernel_rfl) (by kernel_rfl) (by kernel_rfl) rfl (fun _ _ _ h => h) ⟨Or.inl ⟨by rfl, fun w hS => by obtain ⟨h0, h1, h2, h3, h4, h5, h6⟩ := hS; go_simp⟩, fun _ => rfl⟩ hS ?_
      simp only [List.setIfInBounds_toArray, List.set_cons_zero, List.set_cons_succ]
      refine anyHF_take (i := 2) (d := 32) (v := .slice (some ⟨gl, 0, none⟩) 2 2) (by kernel_rfl) rfl (by kernel_rfl) (by kernel_rfl) (by kernel_rfl) rfl (fun _ _ _ h => h) ⟨Or.inl ⟨by rfl, fun w hS => by obtain ⟨h0, h1, h2, h3, h4, h5, h6⟩ := hS; go_simp⟩, fun _ => rfl⟩ hS ?_
      simp only [List.setIfInBounds_toArray, List.set_cons_zero, List.set_cons_succ]
      refine anyHF_take (i := 3) (d := 33) (v := .pointer (some ⟨Bx, 0, none⟩)) (by kernel_rfl) rfl (by kernel_rfl) (by kernel_rfl) (by kernel_rfl) rfl (fun _ _ _ h => h) ⟨Or.inl ⟨by rfl, fun w hS => by obtain ⟨h0, h1, h2, h3, h4, h5, h6⟩ := hS; go_simp⟩, fun _ => rfl⟩ hS ?_
      simp only [List.setIfInBounds_toArray, List.set_cons_zero, List.set_cons_succ]
      refine anyHF_take (i := 4) (d := 34) (v := .int .i64 x.2.1) (by kernel_rfl) rfl (by kernel_rfl) (by kernel_rfl) (by kernel_rfl) rfl (fun _ _ _ h => h) ⟨Or.inl ⟨by rfl, fun w hS => by obtain ⟨h0, h1, h2, h3, h4, h5, h6⟩ := hS; go_simp⟩, fun _ => rfl⟩ hS ?_
      simp only [List.setIfInBounds_toArray, List.set_cons_zero, List.set_cons_succ]
      refine anyHF_take (i := 8) (d := 38) (v := .pointer (some ⟨Bx, 1, none⟩)) (by kernel_rfl) rfl (by kernel_rfl) (by kernel_rfl) (by kernel_rfl) rfl (fun _ _ _ h => h) ⟨Or.inl ⟨by rfl, fun w hS => by obtain ⟨h0, h1, h2, h3, h4, h5, h6⟩ := hS; go_simp⟩, fun _ => rfl⟩ hS ?_
      simp only [List.setIfInBounds_toArray, List.set_cons_zero, List.set_cons_succ]
      refine anyHF_take (i := 9) (d := 39) (v := .int .i64 x.2.2) (by kernel_rfl) rfl (by kernel_rfl) (by kernel_rfl) (by kernel_rfl) rfl (fun _ _ _ h => h) ⟨Or.inl ⟨by rfl, fun w hS => by obtain ⟨h0, h1, h2, h3, h4, h5, h6⟩ := hS; go_simp⟩, fun _ => rfl⟩ hS ?_
      simp only [List.setIfInBounds_toArray, List.set_cons_zero, List.set_cons_succ]
      refine anyHF_take (i := 10) (d := 40) (v := .slice (some ⟨gt, ot, none⟩) T ct) (by kernel_rfl) rfl (by kernel_rfl) (by kernel_rfl) (by kernel_rfl) rfl (fun _ _ _ h => h) ⟨Or.inl ⟨by rfl, fun w hS => by obtain ⟨h0, h1, h2, h3, h4, h5, h6⟩ := hS; go_simp⟩, fun _ => rfl⟩ hS ?_
      simp only [List.setIfInBounds_toArray, List.set_cons_zero, List.set_cons_succ]
      refine anyHF_take (i := 11) (d := 41) (v := .int .i64 x.1) (by kernel_rfl) rfl (by kernel_rfl) (by kernel_rfl) (by kernel_rfl) rfl (fun _ _ _ h => h) ⟨Or.inl ⟨by rfl, fun w hS => by obtain ⟨h0, h1, h2, h3, h4, h5, h6⟩ := hS; go_simp⟩, fun _ => rfl⟩ hS ?_
      simp only [List.setIfInBounds_toArray, List.set_cons_zero, List.set_cons_succ]
      refine anyHF_take (i := 12) (d := 42) (v := .pointer (some ⟨gt, ot + x.1.toNat, none⟩)) (by kernel_rfl) rfl (by kernel_rfl) (by kernel_rfl) (by kernel_rfl) rfl (fun _ _ _ h => h) ⟨Or.inl ⟨by rfl, fun w hS => by obtain ⟨h0, h1, h2, h3, h4, h5, h6⟩ := hS; go_simp⟩, fun _ => rfl⟩ hS ?_
      simp only [List.setIfInBounds_toArray, List.set_cons_zero, List.set_cons_succ]
      refine anyHF_take (i := 13) (d := 43) (v := .slice uA un uc) (by kernel_rfl) rfl (by kernel_rfl) (by kernel_rfl) (by kernel_rfl) rfl (fun _ _ _ h => h) ⟨Or.inl ⟨by rfl, fun w hS => by obtain ⟨h0, h1, h2, h3, h4, h5, h6⟩ := hS; go_simp⟩, fun _ => rfl⟩ hS ?_
      simp only [List.setIfInBounds_toArray, List.set_cons_zero, List.set_cons_succ]
      refine anyHF_one (i := 5) (by kernel_rfl) rfl (by kernel_rfl) (by rfl) ?_
      gi_wp2_with fail
      refine ⟨trivial, (CallsIn.inRound l' (callsIn_wide.2 (HIX.out _ hBx))).mono ?_⟩
      rintro e v1 ⟨rfl, rfl⟩
      gi_wp2
      try (refine ⟨hS, ?_⟩)
      refine anyHF_take (i := 6) (d := 36) (v := .pointer (some ⟨gC, 0, none⟩)) (by kernel_rfl) rfl (by kernel_rfl) (by kernel_rfl) (by kernel_rfl) rfl (fun _ _ _ h => h) ⟨Or.inl ⟨by rfl, fun w hS => by obtain ⟨h0, h1, h2, h3, h4, h5, h6⟩ := hS; go_simp⟩, fun _ => rfl⟩ hS ?_
      simp only [List.setIfInBounds_toArray, List.set_cons_zero, List.set_cons_succ]
      refine anyHF_take (i := 7) (d := 37) (v := .slice (some ⟨c0, 0, none⟩) Q Q) (by kernel_rfl) rfl (by kernel_rfl) (by kernel_rfl) (by kernel_rfl) rfl (fun _ _ _ h => h) ⟨Or.inl ⟨by rfl, fun w hS => by obtain ⟨h0, h1, h2, h3, h4, h5, h6⟩ := hS; go_simp⟩, fun _ => rfl⟩ hS ?_
      simp only [List.setIfInBounds_toArray, List.set_cons_zero, List.set_cons_succ]
      refine anyHF_take (i := 14) (d := 44) (v := .pointer (some ⟨c0, x.2.2.toNat, none⟩)) (by kernel_rfl) rfl (by kernel_rfl) (by kernel_rfl) (by kernel_rfl) rfl (fun _ _ _ h => h) ⟨Or.inl ⟨by rfl, fun w hS => by obtain ⟨h0, h1, h2, h3, h4, h5, h6⟩ := hS; go_simp⟩, fun _ => rfl⟩ hS ?_
      simp only [List.setIfInBounds_toArray, List.set_cons_zero, List.set_cons_succ]
      refine anyHF_one (i := 15) (by kernel_rfl) rfl (by kernel_rfl) (by rfl) ?_
      obtain ⟨old, hold⟩ := (HST.out _ hBx).1
      have f3 := (HST.out _ hBx).2
      have hSB := HSB.out _ hBx
      gi_wp2
      clear hS
      have hS := hSB
      clear hold f3 hSB
      try (refine ⟨hS, ?_⟩)
      refine anyHF_done (by kernel_rfl) ?_ _
      refine NoPanic.normal ?_
      clear hS
      gi_wp2_with fail
      exact HFIN.out _ hBx
    · have hxb : x.2.1 = b := by rcases hcol with h | h; exact h; exact absurd h hxa
      have hix : idxI [a, b] x.2.1 = 1 := by rw [hxb]; have h3 : (a == b) = false := beq_false_of_ne hab; simp [idxI, List.idxOf_cons, h3]
      have HIX : Hid (∀ V, Below X.heap.size X V → Calls Tryz.prog 151 #[.slice (some ⟨gl, 0, none⟩) 2 2, .int .i64 x.2.1] V fun e w' => e = .returned (.int .i64 1) ∧ w' = V) := fun V hV => by
        have h := index_any gl 0 2 [a, b] x.2.1 (by simp) V (fun j hj => by
          have hj2 : j = 0 ∨ j = 1 := by simp at hj; omega
          rcases hj2 with rfl | rfl
          · exact (hV.cell (p := ⟨gl, 0, none⟩) lt2).trans hca
          · exact (hV.cell (p := ⟨gl, 1, none⟩) lt2).trans hcb2)
        rw [hix] at h
        exact h
      have HSS : Hid (∀ V, Below X.heap.size X V → (fun U : World => U.cell? ⟨g2, 0, none⟩ = some (.slice (some ⟨gC, 0, none⟩) 2 2) ∧ U.cell? ⟨g0, 1, none⟩ = some (.slice (some ⟨gl, 0, none⟩) 2 2) ∧ U.cell? ⟨Bx, 0, none⟩ = some (.int .i64 x.2.1) ∧ U.cell? ⟨Bx, 1, none⟩ = some (.int .i64 x.2.2) ∧ U.cell? ⟨g1, 0, none⟩ = some (.slice (some ⟨gt, ot, none⟩) T ct) ∧ U.cell? ⟨gC, 1, none⟩ = some (.slice (some ⟨c1, 0, none⟩) Q Q) ∧ U.cell? ⟨gt, ot + x.1.toNat, none⟩ = some (.slice uA un uc)) V) := fun V hV => ⟨(h2.below hV h2.lt).one, (h0.below hV h0.lt).cell 1, (hbx.below hV hbx.lt).cell 0, (hbx.below hV hbx.lt).cell 1, (h1.below hV h1.lt).one, (hC.below hV hC.lt).cell 1, (hV.cell (p := ⟨gt, ot + x.1.toNat, none⟩) lt1).trans hcu⟩
      have HST : Hid (∀ V, Below X.heap.size X V → (∃ old, V.cell? ⟨c1, x.2.2.toNat, none⟩ = some old) ∧ V.frozen? ⟨c1, x.2.2.toNat, none⟩ = false) := fun V hV => by
        have hb := hc1.below hV hc1.lt
        have hsz2 : x.2.2.toNat < (fillF us Q b pre).size := by rw [hsb]; omega
        exact ⟨⟨_, (hb.cell _).trans (Array.getElem?_eq_getElem hsz2)⟩, hb.frozen _⟩
      have HSB : Hid (∀ V, Below X.heap.size X V → (fun U : World => U.cell? ⟨g2, 0, none⟩ = some (.slice (some ⟨gC, 0, none⟩) 2 2) ∧ U.cell? ⟨g0, 1, none⟩ = some (.slice (some ⟨gl, 0, none⟩) 2 2) ∧ U.cell? ⟨Bx, 0, none⟩ = some (.int .i64 x.2.1) ∧ U.cell? ⟨Bx, 1, none⟩ = some (.int .i64 x.2.2) ∧ U.cell? ⟨g1, 0, none⟩ = some (.slice (some ⟨gt, ot, none⟩) T ct) ∧ U.cell? ⟨gC, 1, none⟩ = some (.slice (some ⟨c1, 0, none⟩) Q Q) ∧ U.cell? ⟨gt, ot + x.1.toNat, none⟩ = some (.slice uA un uc)) (V.setCell ⟨c1, x.2.2.toNat, none⟩ (.slice uA un uc))) := fun V hV => by
        have hk : ∀ q : Addr, q.block ≠ c1 → (V.setCell ⟨c1, x.2.2.toNat, none⟩ (.slice uA un uc)).cell? q = V.cell? q := fun q hq => World.cell?_of_block (Below.heap_setCell V ⟨c1, x.2.2.toNat, none⟩ _ q.block hq)
        obtain ⟨s1, s2, s3, s4, s5, s6, s7⟩ := HSS.out V hV
        exact ⟨(hk _ (by show g2 ≠ c1; omega)).trans s1, (hk _ (by show g0 ≠ c1; omega)).trans s2, (hk _ (by show Bx ≠ c1; omega)).trans s3, (hk _ (by show Bx ≠ c1; omega)).trans s4, (hk _ (by show g1 ≠ c1; omega)).trans s5, (hk _ (by show gC ≠ c1; omega)).trans s6, (hk _ (by show gt ≠ c1; omega)).trans s7⟩
      have HFIN : Hid (∀ V, Below X.heap.size X V → ∃ o', FreshO (fun _ => False) o' X ∧ SinceO w4.heap.size (fun _ => False) X (V.setCell ⟨c1, x.2.2.toNat, none⟩ (.slice uA un uc)) ∧ Keep W3.heap.size (w4.heap.size - W3.heap.size) X (V.setCell ⟨c1, x.2.2.toNat, none⟩ (.slice uA un uc)) ∧ ColI us Q a b gC c0 c1 g2 g0 g1 (.int .i64 (P : Int)) (.slice (some ⟨gl, 0, none⟩) 2 2) (.slice (some ⟨gt, ot, none⟩) T ct) w w4.heap.size (pre ++ [x]) o' (V.setCell ⟨c1, x.2.2.toNat, none⟩ (.slice uA un uc))) := fun V hV => by
        have hVs := hV.size
        have hFA := HFA.out
        have hFB := HFB.out
        rw [if_neg hxa] at hFA
        rw [if_pos hxb, hgd] at hFB
        refine ⟨fun _ => False, FreshO.refl _ _, ⟨by simp; omega, fun b h4 h5 h6 => ?_⟩, ⟨by simp; omega, fun b h4 h5 => ?_⟩, rfl, Blk.far (hC.below hV hC.lt) (by show gC ≠ c1; omega) _, ?_, ?_, Blk.far (h2.below hV h2.lt) (by show g2 ≠ c1; omega) _, Blk.far (h0.below hV h0.lt) (by show g0 ≠ c1; omega) _, Blk.far (h1.below hV h1.lt) (by show g1 ≠ c1; omega) _, (below_in hBX hV).setCell (by show w.heap.size ≤ c1; omega) _, by simp; omega⟩
        · exact (Below.heap_setCell V ⟨c1, x.2.2.toNat, none⟩ _ b (by show b ≠ c1; omega)).trans (hV.block b h5)
        · exact (Below.heap_setCell V ⟨c1, x.2.2.toNat, none⟩ _ b (by show b ≠ c1; omega)).trans (hV.block b (by omega))
        · rw [hFA]; exact (Blk.far (hc0.below hV hc0.lt) (by show c0 ≠ c1; omega) _)
        · rw [hFB]; exact ((hc1.below hV hc1.lt).set_ x.2.2.toNat (.slice uA un uc))
      have hBx := (Below.refl X.heap.size X).drew
      have hS : (fun U : World => U.cell? ⟨g2, 0, none⟩ = some (.slice (some ⟨gC, 0, none⟩) 2 2) ∧ U.cell? ⟨g0, 1, none⟩ = some (.slice (some ⟨gl, 0, none⟩) 2 2) ∧ U.cell? ⟨Bx, 0, none⟩ = some (.int .i64 x.2.1) ∧ U.cell? ⟨Bx, 1, none⟩ = some (.int .i64 x.2.2) ∧ U.cell? ⟨g1, 0, none⟩ = some (.slice (some ⟨gt, ot, none⟩) T ct) ∧ U.cell? ⟨gC, 1, none⟩ = some (.slice (some ⟨c1, 0, none⟩) Q Q) ∧ U.cell? ⟨gt, ot + x.1.toNat, none⟩ = some (.slice uA un uc)) X.drew := HSS.out _ hBx
      clear hC hc0 hc1 h2 h0 h1 hBX hbx hnBx hh hq hcb hu hcu hca hcb2 hgd hix hsa hsb HFA HFB hxa hxb hab hcol
      gi_wp2_with fail
      refine wpIn_mono (region_HF (Q := NoPanic _) (S := (fun U : World => U.cell? ⟨g2, 0, none⟩ = some (.slice (some ⟨gC, 0, none⟩) 2 2) ∧ U.cell? ⟨g0, 1, none⟩ = some (.slice (some ⟨gl, 0, none⟩) 2 2) ∧ U.cell? ⟨Bx, 0, none⟩ = some (.int .i64 x.2.1) ∧ U.cell? ⟨Bx, 1, none⟩ = some (.int .i64 x.2.2) ∧ U.cell? ⟨g1, 0, none⟩ = some (.slice (some ⟨gt, ot, none⟩) T ct) ∧ U.cell? ⟨gC, 1, none⟩ = some (.slice (some ⟨c1, 0, none⟩) Q Q) ∧ U.cell? ⟨gt, ot + x.1.toNat, none⟩ = some (.slice uA un uc))) (by kernel_rfl) ?_) NoPanic.imp
      refine anyHF_take (i := 0) (d := 30) (v := .slice (some ⟨gC, 0, none⟩) 2 2) (by kernel_rfl) rfl (by kernel_rfl) (by kernel_rfl) (by kernel_rfl) rfl (fun _ _ _ h => h) ⟨Or.inl ⟨by rfl, fun w hS => by obtain ⟨h0, h1, h2, h3, h4, h5, h6⟩ := hS; go_simp⟩, fun _ => rfl⟩ hS ?_
      simp only [List.setIfInBounds_toArray, List.set_cons_zero, List.set_cons_succ]
      refine anyHF_take (i := 1) (d := 31) (v := .pointer (some ⟨g0, 1, none⟩)) (by kernel_rfl) rfl (by kernel_rfl) (by kernel_rfl) (by kernel_rfl) rfl (fun _ _ _ h => h) ⟨Or.inl ⟨by rfl, fun w hS => by obtain ⟨h0, h1, h2, h3, h4, h5, h6⟩ := hS; go_simp⟩, fun _ => rfl⟩ hS ?_
      simp only [List.setIfInBounds_toArray, List.set_cons_zero, List.set_cons_succ]
      refine anyHF_take (i := 2) (d := 32) (v := .slice (some ⟨gl, 0, none⟩) 2 2) (by kernel_rfl) rfl (by kernel_rfl) (by kernel_rfl) (by kernel_rfl) rfl (fun _ _ _ h => h) ⟨Or.inl ⟨by rfl, fun w hS => by obtain ⟨h0, h1, h2, h3, h4, h5, h6⟩ := hS; go_simp⟩, fun _ => rfl⟩ hS ?_
      simp only [List.setIfInBounds_toArray, List.set_cons_zero, List.set_cons_succ]
      refine anyHF_take (i := 3) (d := 33) (v := .pointer (some ⟨Bx, 0, none⟩)) (by kernel_rfl) rfl (by kernel_rfl) (by kernel_rfl) (by kernel_rfl) rfl (fun _ _ _ h => h) ⟨Or.inl ⟨by rfl, fun w hS => by obtain ⟨h0, h1, h2, h3, h4, h5, h6⟩ := hS; go_simp⟩, fun _ => rfl⟩ hS ?_
      simp only [List.setIfInBounds_toArray, List.set_cons_zero, List.set_cons_succ]
      refine anyHF_take (i := 4) (d := 34) (v := .int .i64 x.2.1) (by kernel_rfl) rfl (by kernel_rfl) (by kernel_rfl) (by kernel_rfl) rfl (fun _ _ _ h => h) ⟨Or.inl ⟨by rfl, fun w hS => by obtain ⟨h0, h1, h2, h3, h4, h5, h6⟩ := hS; go_simp⟩, fun _ => rfl⟩ hS ?_
      simp only [List.setIfInBounds_toArray, List.set_cons_zero, List.set_cons_succ]
      refine anyHF_take (i := 8) (d := 38) (v := .pointer (some ⟨Bx, 1, none⟩)) (by kernel_rfl) rfl (by kernel_rfl) (by kernel_rfl) (by kernel_rfl) rfl (fun _ _ _ h => h) ⟨Or.inl ⟨by rfl, fun w hS => by obtain ⟨h0, h1, h2, h3, h4, h5, h6⟩ := hS; go_simp⟩, fun _ => rfl⟩ hS ?_
      simp only [List.setIfInBounds_toArray, List.set_cons_zero, List.set_cons_succ]
      refine anyHF_take (i := 9) (d := 39) (v := .int .i64 x.2.2) (by kernel_rfl) rfl (by kernel_rfl) (by kernel_rfl) (by kernel_rfl) rfl (fun _ _ _ h => h) ⟨Or.inl ⟨by rfl, fun w hS => by obtain ⟨h0, h1, h2, h3, h4, h5, h6⟩ := hS; go_simp⟩, fun _ => rfl⟩ hS ?_
      simp only [List.setIfInBounds_toArray, List.set_cons_zero, List.set_cons_succ]
      refine anyHF_take (i := 10) (d := 40) (v := .slice (some ⟨gt, ot, none⟩) T ct) (by kernel_rfl) rfl (by kernel_rfl) (by kernel_rfl) (by kernel_rfl) rfl (fun _ _ _ h => h) ⟨Or.inl ⟨by rfl, fun w hS => by obtain ⟨h0, h1, h2, h3, h4, h5, h6⟩ := hS; go_simp⟩, fun _ => rfl⟩ hS ?_
      simp only [List.setIfInBounds_toArray, List.set_cons_zero, List.set_cons_succ]
      refine anyHF_take (i := 11) (d := 41) (v := .int .i64 x.1) (by kernel_rfl) rfl (by kernel_rfl) (by kernel_rfl) (by kernel_rfl) rfl (fun _ _ _ h => h) ⟨Or.inl ⟨by rfl, fun w hS => by obtain ⟨h0, h1, h2, h3, h4, h5, h6⟩ := hS; go_simp⟩, fun _ => rfl⟩ hS ?_
      simp only [List.setIfInBounds_toArray, List.set_cons_zero, List.set_cons_succ]
      refine anyHF_take (i := 12) (d := 42) (v := .pointer (some ⟨gt, ot + x.1.toNat, none⟩)) (by kernel_rfl) rfl (by kernel_rfl) (by kernel_rfl) (by kernel_rfl) rfl (fun _ _ _ h => h) ⟨Or.inl ⟨by rfl, fun w hS => by obtain ⟨h0, h1, h2, h3, h4, h5, h6⟩ := hS; go_simp⟩, fun _ => rfl⟩ hS ?_
      simp only [List.setIfInBounds_toArray, List.set_cons_zero, List.set_cons_succ]
      refine anyHF_take (i := 13) (d := 43) (v := .slice uA un uc) (by kernel_rfl) rfl (by kernel_rfl) (by kernel_rfl) (by kernel_rfl) rfl (fun _ _ _ h => h) ⟨Or.inl ⟨by rfl, fun w hS => by obtain ⟨h0, h1, h2, h3, h4, h5, h6⟩ := hS; go_simp⟩, fun _ => rfl⟩ hS ?_
      simp only [List.setIfInBounds_toArray, List.set_cons_zero, List.set_cons_succ]
      refine anyHF_one (i := 5) (by kernel_rfl) rfl (by kernel_rfl) (by rfl) ?_
      gi_wp2_with fail
      refine ⟨trivial, (CallsIn.inRound l' (callsIn_wide.2 (HIX.out _ hBx))).mono ?_⟩
      rintro e v1 ⟨rfl, rfl⟩
      gi_wp2
      try (refine ⟨hS, ?_⟩)
      refine anyHF_take (i := 6) (d := 36) (v := .pointer (some ⟨gC, 1, none⟩)) (by kernel_rfl) rfl (by kernel_rfl) (by kernel_rfl) (by kernel_rfl) rfl (fun _ _ _ h => h) ⟨Or.inl ⟨by rfl, fun w hS => by obtain ⟨h0, h1, h2, h3, h4, h5, h6⟩ := hS; go_simp⟩, fun _ => rfl⟩ hS ?_
      simp only [List.setIfInBounds_toArray, List.set_cons_zero, List.set_cons_succ]
      refine anyHF_take (i := 7) (d := 37) (v := .slice (some ⟨c1, 0, none⟩) Q Q) (by kernel_rfl) rfl (by kernel_rfl) (by kernel_rfl) (by kernel_rfl) rfl (fun _ _ _ h => h) ⟨Or.inl ⟨by rfl, fun w hS => by obtain ⟨h0, h1, h2, h3, h4, h5, h6⟩ := hS; go_simp⟩, fun _ => rfl⟩ hS ?_
      simp only [List.setIfInBounds_toArray, List.set_cons_zero, List.set_cons_succ]
      refine anyHF_take (i := 14) (d := 44) (v := .pointer (some ⟨c1, x.2.2.toNat, none⟩)) (by kernel_rfl) rfl (by kernel_rfl) (by kernel_rfl) (by kernel_rfl) rfl (fun _ _ _ h => h) ⟨Or.inl ⟨by rfl, fun w hS => by obtain ⟨h0, h1, h2, h3, h4, h5, h6⟩ := hS; go_simp⟩, fun _ => rfl⟩ hS ?_
      simp only [List.setIfInBounds_toArray, List.set_cons_zero, List.set_cons_succ]
      refine anyHF_one (i := 15) (by kernel_rfl) rfl (by kernel_rfl) (by rfl) ?_
      obtain ⟨old, hold⟩ := (HST.out _ hBx).1
      have f3 := (HST.out _ hBx).2
      have hSB := HSB.out _ hBx
      gi_wp2
      clear hS
      have hS := hSB
      clear hold f3 hSB
      try (refine ⟨hS, ?_⟩)
      refine anyHF_done (by kernel_rfl) ?_ _
      refine NoPanic.normal ?_
      clear hS
      gi_wp2_with fail
      exact HFIN.out _ hBx
  case done =>
    rintro D0 xs oX X hD0 _ rfl ⟨rfl, hC, hc0, hc1, h2, h0, h1, hBX, hge⟩ hKD hne
    have c2 := h2.one
    have HO := Lib.hid (And.intro hC (And.intro hc0 (And.intro hc1 hBX)))
    have lC := hC.lt
    have lc0 := hc0.lt
    have lc1 := hc1.lt
    clear hC hc0 hc1 h2 h0 h1 hBX
    gi_wp2_with fail
    (try rw [Exit.noGoto_normal])
    refine ⟨by simp, .inl ⟨_, _, rfl, run_takeDeferred hKD, ?_⟩⟩
    have hh := HSZ.out
    refine ⟨.slice (some ⟨gC, 0, none⟩) 2 2, by simp [results, Tryz.results103, go_sem], gC, rfl, ⟨c0, c1, HO.out.1.grown (grownBy_putObj' X D0 _) (fun e => by injection e with e; omega), HO.out.2.1.grown (grownBy_putObj' X D0 _) (fun e => by injection e with e; omega), HO.out.2.2.1.grown (grownBy_putObj' X D0 _) (fun e => by injection e with e; omega)⟩, below_grown HO.out.2.2.2 (grownBy_putObj' X D0 _) HO.out.2.2.2.size (fun r e => by injection e with e; omega)⟩
end Go.Proofs.YtfihlelhpmjpaaaGreatDoor.T

