/- ring: turned, stretched. A region that draws its order, in a round: what only reads is taken first, where S holds behind every operation but the last one. ring: a column under way is asked for. -/
import Derived.Test.YtckfepmahjgmfaaDoorRTG4
import Derived.Great.BuildSlice
import Derived.Test.YtckfepmahjgmfaaDoorRTG1
namespace Go.Proofs.YtckfepmahjgmfaaDoor.Rg
open Go.RowKit Go.Shelf Go.Maps Go.Proofs.YtckfepmahjgmfaaDoor.C Go.Proofs.YtckfepmahjgmfaaDoor.E
set_option linter.unusedSimpArgs false
set_option linter.unusedVariables false
attribute [local go_sem] Oper.semAt_some

theorem enter_settled : ∀ args W, (callFunc 55 args).run Tryd.prog W = .ok (.enter 55 args) W := enters_of Tryd.func55 (by kernel_rfl) rfl
/-- Cells that are moved by so many rows. -/
def mvF (P : Nat) (by_ : Int) (f : Nat → List UInt8) (r : Nat) : List UInt8 := f (((r : Int) - by_) % P).toNat
/-- What is made row by row of k things. -/
def rowK (k Q : Nat) (G : Nat → Nat → List UInt8) : List (List UInt8) := (List.range Q).map fun r => xorOf ((List.range k).map fun i => G i r)
theorem freshMany_more {a b : Nat} {W : World} {v : Value} {ls : List (List UInt8)} (h : FreshMany a W v ls) (hb : b ≤ a) : FreshMany b W v ls := by
  obtain ⟨A, cap, e, hc, hA⟩ := h
  refine ⟨A, cap, e, hc, fun hp => ?_⟩
  obtain ⟨b', off, e2, hb1, hb2, hcell⟩ := hA hp
  exact ⟨b', off, e2, by omega, hb2, fun j hj => by obtain ⟨u, h1, h2⟩ := hcell j hj; exact ⟨u, h1, fresh_more h2 hb⟩⟩
set_option maxRecDepth 100000 in
theorem Tryd.infoK : (Tryd.prog.info? 57).map (fun i => (i.zero, i.size, i.bytes)) = some (some (.agg #[.int .i64 0, .slice none 0 0, .slice none 0 0, .slice none 0 0, .slice none 0 0, .slice none 0 0, .slice none 0 0, .slice none 0 0, .slice none 0 0, .slice none 0 0, .slice none 0 0, .slice none 0 0, .slice none 0 0, .slice none 0 0, .slice none 0 0, .slice none 0 0, .slice none 0 0, .slice none 0 0]), 18, 416) := by kernel_rfl
set_option maxRecDepth 100000 in
theorem run_aggs (vss : List (List Value)) (h : ∀ vs ∈ vss, vs.length = 18) (h0 : 0 < vss.length) (h1 : vss.length < 1000) (w : World) (ps : Array (Nat × Value)) (hps : ps.toList = ((vss.map fun vs => Value.agg vs.toArray).zipIdx 0).map fun x => (x.2, x.1)) : (Instr.buildSlice 104 vss.length ps).run Tryd.prog w = .ok (.slice (some ⟨w.heap.size, 0, none⟩) vss.length vss.length) (w.alloc (.cells vss.flatten.toArray 57)) := by
  obtain ⟨i0, hi0, hz0, hz1, hz2⟩ := info_parts Tryd.infoK
  refine run_buildSlice w _ 57 _ _ _ i0 _ Tryd.underlying104 hi0 hz0 (by rw [hz1]; omega) (by rw [hz1]; omega) ?_
  rw [hz1, hps, Great.fill_whole (by omega) (vss.map fun vs => Value.agg vs.toArray) _ (fun v hv => by
    obtain ⟨vs, hm, rfl⟩ := List.mem_map.1 hv
    show vs.toArray.size = 18
    rw [List.size_toArray]
    exact h vs hm) (by simp)]
  congr 2
  rw [List.flatMap_map]
  induction vss with
  | nil => rfl
  | cons v vs _ => simp [List.flatMap, Value.cells, List.map_congr_left]
theorem run_aggs1 (us : List Value) (h : us.length = 18) (w : World) : (Instr.buildSlice 104 1 #[(0, .agg us.toArray)]).run Tryd.prog w = .ok (.slice (some ⟨w.heap.size, 0, none⟩) 1 1) (w.alloc (.cells us.toArray 57)) := by
  have := run_aggs [us] (by simpa using h) (by simp) (by simp) w #[(0, .agg us.toArray)] rfl
  simpa using this
theorem run_aggs2 (us vs : List Value) (h : us.length = 18) (h2 : vs.length = 18) (w : World) : (Instr.buildSlice 104 2 #[(0, .agg us.toArray), (1, .agg vs.toArray)]).run Tryd.prog w = .ok (.slice (some ⟨w.heap.size, 0, none⟩) 2 2) (w.alloc (.cells (us ++ vs).toArray 57)) := by
  have := run_aggs [us, vs] (by simp [h, h2]) (by simp) (by simp) w #[(0, .agg us.toArray), (1, .agg vs.toArray)] rfl
  simpa using this
section
variable {F : Fence} {n : Nat} {P : Program} {o : Oper} {a : Act} {w w' : World} {K : Act → World → Prop} {Q : Exit → Act → World → Prop} {t : TypeId} {v : Value}
theorem opIn_build {len : Nat} {parts : Array (Nat × Operand)} {ps : Array (Nat × Value)} (ho : o.op = .buildSlice t len parts) (hp : (parts.toList.map fun x => (x.1, a.eval x.2)) = ps.toList) (hr : (Instr.buildSlice t len ps).run P w = .ok v w') (h : K (a.put o.dst v) w') : Oper.wpIn F n P o a w K Q := by
  refine ⟨fun f hf => ?_, ?_⟩
  · simp [Oper.about, ho] at hf
  · rw [Oper.semAt_eq _ _ _ (by simp [ho])]
    unfold execOp
    have hp' : (parts.map fun (i, x) => (i, a.eval x)) = ps := Array.toList_inj.1 (by rw [Array.toList_map]; exact hp)
    simp only [ho, hp', Sem.run_bind, Sem.run_pure, Result.andThen_ok, hr]
    exact h
end
set_option maxRecDepth 100000 in
set_option maxHeartbeats 4000000 in
theorem turned_any {B : Nat} (P Q n : Nat) (hQ : P = Q + 1) (hp : (P : Int) ∈ prm) (h1 : 1 ≤ n) (h64 : n ≤ 64) (f : Nat → List UInt8) (vs : List Value) (by_ : Int) (y1 : -9223372036854775808 ≤ by_) (y2 : by_ ≤ 9223372036854775807) (w : World) (hL : Laid w) (hB : B ≤ w.heap.size) (hV : ColV B w P n f vs) :
    Calls Tryd.prog 34 #[.agg vs.toArray, .int .i64 by_] w fun e w' => ∃ u, e = .returned u ∧ FreshMany w.heap.size w' u (rowK 1 Q (fun _ r => xorOf [mvF P by_ f r, mvF P by_ f Q])) ∧ Below w.heap.size w w' := by
  have hpb := prm_bounds hp
  have hP : P ≤ 17 := by omega
  have hVB := Lib.hid (fun (U : World) (hU : Below w.heap.size w U) => hV.below (hU.mono hB))
  have HVL := Lib.hid hV.1
  have hBz := below_one w (.cells vs.toArray 57)
  have bz := Blk.new w 57 vs.toArray
  obtain ⟨wb, hwb⟩ : ∃ x, w.alloc (.cells vs.toArray 57) = x := ⟨_, rfl⟩
  rw [hwb] at hBz bz
  have HMV := Lib.hid (fun (U : World) (hU : Below w.heap.size w U) => moved_any (B := B) P Q n hQ hp f vs by_ y1 y2 U (hL.next hU) (Nat.le_trans hB hU.size) (hVB.out U hU))
  have HROW := Lib.hid (fun (us : List Value) (U V : World) (hU : Below wb.heap.size wb U) (hus : ColV B U P n (mvF P by_ f) us) (hV : Below U.heap.size U V) (bE : Blk V U.heap.size 57 us.toArray) => by
    have hUV := below_in hBz (below_in hU hV)
    have hBU : B ≤ U.heap.size := Nat.le_trans hB (below_in hBz hU).size
    have hVu := hus.below (hV.mono hBU)
    exact rowsK_any P Q 1 n hQ hP (by omega) (by omega) h1 h64 U.heap.size 1 55 (fun _ => us) (fun _ r => xorOf [mvF P by_ f r, mvF P by_ f Q]) V enter_settled
      (fun X hX i hi => by
        have hb := bE.below hX bE.lt
        obtain rfl : i = 0 := by omega
        exact ⟨hVu.1, hVu.2.2.2, load_col0 hb hVu.1⟩)
      (fun i hi r hr => by
        show (xorOf [mvF P by_ f r, mvF P by_ f Q]).length = n
        rw [xorOf_len]
        exact (hVu.2.2.1 r (by omega)).1)
      (fun X hX i hi r hr => by
        refine (settled_any P Q n hQ hP (mvF P by_ f) us r (by omega) h1 h64 X (Nat.le_trans hB (below_in hUV hX).size) (hVu.below (hX.mono (Nat.le_trans hB hUV.size)))).mono ?_
        rintro e X' ⟨u, rfl, hu, hB'⟩
        exact ⟨u, rfl, BytesA.of_fresh hu (fun b hb => hb.2), hB'⟩))
  have HSS : Hid (∀ U, Below wb.heap.size wb U → (fun U : World => U.cell? ⟨w.heap.size, 0, none⟩ = some (.int .i64 (P : Int)) ∧ LoadIs Tryd.prog 57 ⟨w.heap.size, 0, none⟩ (.agg vs.toArray) U) U) := fun U hU => by
    have b := bz.below hU bz.lt
    refine ⟨?_, load_col0 b HVL.out⟩
    have := b.cell 0
    rwa [List.getElem?_toArray, hV.2.1] at this
  have hBx := (Below.refl wb.heap.size wb).drew
  have HF := Lib.hid (hBz.size)
  clear hV bz hpb hP hQ hL hp
  refine (callsIn_wide (n := 9)).1 ?_
  refine callsIn_of_wp_marks Tryd.func34 rfl trivial ?_ rfl
  simp only [Tryd.ntmps34, List.size_toArray, List.length_cons, List.length_nil, Nat.reduceAdd, Nat.reduceSub, Array.replicate_succ, Array.replicate_zero, List.push_toArray, List.append_toArray, List.nil_append, List.cons_append]
  gi_wp2_with fail
  have hS : (fun U : World => U.cell? ⟨w.heap.size, 0, none⟩ = some (.int .i64 (P : Int)) ∧ LoadIs Tryd.prog 57 ⟨w.heap.size, 0, none⟩ (.agg vs.toArray) U) wb.drew := HSS.out _ hBx
  refine wpIn_mono (region_HF (Q := NoPanic _) (S := (fun U : World => U.cell? ⟨w.heap.size, 0, none⟩ = some (.int .i64 (P : Int)) ∧ LoadIs Tryd.prog 57 ⟨w.heap.size, 0, none⟩ (.agg vs.toArray) U)) (by kernel_rfl) ?_) NoPanic.imp
  refine anyHF_take (i := 0) (d := 5) (v := .pointer (some ⟨w.heap.size, 0, none⟩)) (by kernel_rfl) rfl (by kernel_rfl) (by kernel_rfl) (by kernel_rfl) rfl (fun _ _ _ h => h) ⟨Or.inl ⟨by rfl, fun w hS => by obtain ⟨h0, h1⟩ := hS; go_simp⟩, fun _ => rfl⟩ hS ?_
  simp only [List.setIfInBounds_toArray, List.set_cons_zero, List.set_cons_succ]
  refine anyHF_take (i := 1) (d := 6) (v := .int .i64 (P : Int)) (by kernel_rfl) rfl (by kernel_rfl) (by kernel_rfl) (by kernel_rfl) rfl (fun _ _ _ h => h) ⟨Or.inl ⟨by rfl, fun w hS => by obtain ⟨h0, h1⟩ := hS; go_simp⟩, fun _ => rfl⟩ hS ?_
  simp only [List.setIfInBounds_toArray, List.set_cons_zero, List.set_cons_succ]
  refine anyHF_take (i := 2) (d := 7) (v := .agg vs.toArray) (by kernel_rfl) rfl (by kernel_rfl) (by kernel_rfl) (by kernel_rfl) rfl (fun _ _ _ h => h) ⟨Or.inl ⟨by rfl, fun w hS => by obtain ⟨h0, h1⟩ := hS; exact exec_load rfl rfl (by first | exact h1)⟩, fun _ => rfl⟩ hS ?_
  simp only [List.setIfInBounds_toArray, List.set_cons_zero, List.set_cons_succ]
  refine anyHF_take (i := 3) (d := 8) (v := .int .i64 by_) (by kernel_rfl) rfl (by kernel_rfl) (by kernel_rfl) (by kernel_rfl) rfl (fun _ _ _ h => h) ⟨Or.inl ⟨by rfl, fun w hS => by obtain ⟨h0, h1⟩ := hS; go_simp⟩, fun _ => rfl⟩ hS ?_
  simp only [List.setIfInBounds_toArray, List.set_cons_zero, List.set_cons_succ]
  refine anyHF_one (i := 4) (by kernel_rfl) rfl (by kernel_rfl) (by rfl) ?_
  gi_wp2_with fail
  refine ⟨trivial, (callsIn_wide.2 (HMV.out _ (below_in hBz hBx))).mono ?_⟩
  rintro e w1 ⟨us, rfl, hus, hB1⟩
  replace hBx := below_in hBx hB1
  clear hS
  have hS : (fun U : World => U.cell? ⟨w.heap.size, 0, none⟩ = some (.int .i64 (P : Int)) ∧ LoadIs Tryd.prog 57 ⟨w.heap.size, 0, none⟩ (.agg vs.toArray) U) w1 := HSS.out _ hBx
  gi_wp2
  try (refine ⟨hS, ?_⟩)
  refine anyHF_one (i := 5) (by kernel_rfl) rfl (by kernel_rfl) (by rfl) ?_
  refine opIn_build (ps := #[(0, .agg us.toArray)]) rfl rfl (run_aggs1 us hus.1 w1) ?_
  have hBe : Below w1.heap.size w1 (w1.alloc (.cells us.toArray 57)) := below_one w1 _
  have bE : Blk (w1.alloc (.cells us.toArray 57)) w1.heap.size 57 us.toArray := Blk.new w1 _ _
  obtain ⟨w2, hew2⟩ : ∃ x, (w1.alloc (.cells us.toArray 57)) = x := ⟨_, rfl⟩
  rw [hew2] at hBe bE
  rw [hew2]
  have hrow := HROW.out us w1 w2 hBx hus hBe bE
  replace hBx := below_in hBx hBe
  clear hS
  have hS : (fun U : World => U.cell? ⟨w.heap.size, 0, none⟩ = some (.int .i64 (P : Int)) ∧ LoadIs Tryd.prog 57 ⟨w.heap.size, 0, none⟩ (.agg vs.toArray) U) w2 := HSS.out _ hBx
  clear hus bE
  gi_wp2
  try (refine ⟨hS, ?_⟩)
  refine anyHF_one (i := 6) (by kernel_rfl) rfl (by kernel_rfl) (by rfl) ?_
  gi_wp2_with fail
  refine ⟨trivial, (callsIn_wide.2 (hrow)).mono ?_⟩
  rintro e w5 ⟨u, rfl, hF, hB5⟩
  obtain ⟨uA, un, uc, rfl⟩ : ∃ a b c, u = .slice a b c := by obtain ⟨a, c, e, _⟩ := hF; exact ⟨a, _, c, e⟩
  have hsz := hBx.size
  replace hBx := below_in hBx hB5
  clear hS
  have hS : (fun U : World => U.cell? ⟨w.heap.size, 0, none⟩ = some (.int .i64 (P : Int)) ∧ LoadIs Tryd.prog 57 ⟨w.heap.size, 0, none⟩ (.agg vs.toArray) U) w5 := HSS.out _ hBx
  gi_wp2
  try (refine ⟨hS, ?_⟩)
  refine anyHF_one (i := 7) (by kernel_rfl) rfl (by kernel_rfl) (by rfl) ?_
  gi_wp2
  refine anyHF_done (by kernel_rfl) ?_ _
  refine NoPanic.normal ?_
  gi_wp2
  exact ⟨_, by simp [results, Tryd.results34, go_sem], _, rfl, freshMany_more hF (by have := HF.out; omega), below_in hBz hBx⟩
set_option maxRecDepth 100000 in
set_option maxHeartbeats 4000000 in
theorem stretched_any {B : Nat} (P Q n : Nat) (hQ : P = Q + 1) (hp : (P : Int) ∈ prm) (h1 : 1 ≤ n) (h64 : n ≤ 64) (f : Nat → List UInt8) (vs : List Value) (by_ : Int) (y1 : -9223372036854775808 ≤ by_) (y2 : by_ ≤ 9223372036854775807) (w : World) (hL : Laid w) (hB : B ≤ w.heap.size) (hV : ColV B w P n f vs) :
    Calls Tryd.prog 36 #[.agg vs.toArray, .int .i64 by_] w fun e w' => ∃ u, e = .returned u ∧ FreshMany w.heap.size w' u (rowK 2 Q (fun i r => if i = 0 then xorOf [f r, f Q] else xorOf [mvF P by_ f r, mvF P by_ f Q])) ∧ Below w.heap.size w w' := by
  have hpb := prm_bounds hp
  have hP : P ≤ 17 := by omega
  have hVB := Lib.hid (fun (U : World) (hU : Below w.heap.size w U) => hV.below (hU.mono hB))
  have HVL := Lib.hid hV.1
  have hBz := below_one w (.cells vs.toArray 57)
  have bz := Blk.new w 57 vs.toArray
  obtain ⟨wb, hwb⟩ : ∃ x, w.alloc (.cells vs.toArray 57) = x := ⟨_, rfl⟩
  rw [hwb] at hBz bz
  have HMV := Lib.hid (fun (U : World) (hU : Below w.heap.size w U) => moved_any (B := B) P Q n hQ hp f vs by_ y1 y2 U (hL.next hU) (Nat.le_trans hB hU.size) (hVB.out U hU))
  have HROW := Lib.hid (fun (us : List Value) (U V : World) (hU : Below wb.heap.size wb U) (hus : ColV B U P n (mvF P by_ f) us) (hV : Below U.heap.size U V) (bE : Blk V U.heap.size 57 (vs ++ us).toArray) => by
    have hUV := below_in hBz (below_in hU hV)
    have hBU : B ≤ U.heap.size := Nat.le_trans hB (below_in hBz hU).size
    have hVv := hVB.out V hUV
    have hVu := hus.below (hV.mono hBU)
    exact rowsK_any P Q 2 n hQ hP (by omega) (by omega) h1 h64 U.heap.size 2 55 (fun i => if i = 0 then vs else us) (fun i r => if i = 0 then xorOf [f r, f Q] else xorOf [mvF P by_ f r, mvF P by_ f Q]) V enter_settled
      (fun X hX i hi => by
        have hb := bE.below hX bE.lt
        have e1 := hVv.1
        have e2 := hVu.1
        rcases (by omega : i = 0 ∨ i = 1) with rfl | rfl
        · refine ⟨hVv.1, hVv.2.2.2, ?_⟩
          have := load_col hb 0 (by rw [List.length_append]; omega)
          rwa [List.drop_zero, List.take_append_of_le_length (by omega), List.take_of_length_le (by omega)] at this
        · refine ⟨hVu.1, hVu.2.2.2, ?_⟩
          have := load_col hb 18 (by rw [List.length_append]; omega)
          rwa [List.drop_append_of_le_length (by omega), List.drop_of_length_le (by omega), List.nil_append, List.take_of_length_le (by omega)] at this)
      (fun i hi r hr => by
        rcases (by omega : i = 0 ∨ i = 1) with rfl | rfl
        · show (xorOf [f r, f Q]).length = n
          rw [xorOf_len]
          exact (hVv.2.2.1 r (by omega)).1
        · show (xorOf [mvF P by_ f r, mvF P by_ f Q]).length = n
          rw [xorOf_len]
          exact (hVu.2.2.1 r (by omega)).1)
      (fun X hX i hi r hr => by
        have hBX : B ≤ X.heap.size := Nat.le_trans hB (below_in hUV hX).size
        rcases (by omega : i = 0 ∨ i = 1) with rfl | rfl
        · refine (settled_any P Q n hQ hP f vs r (by omega) h1 h64 X hBX (hVv.below (hX.mono (Nat.le_trans hB hUV.size)))).mono ?_
          rintro e X' ⟨u, rfl, hu, hB'⟩
          exact ⟨u, rfl, BytesA.of_fresh hu (fun b hb => hb.2), hB'⟩
        · refine (settled_any P Q n hQ hP (mvF P by_ f) us r (by omega) h1 h64 X hBX (hVu.below (hX.mono (Nat.le_trans hB hUV.size)))).mono ?_
          rintro e X' ⟨u, rfl, hu, hB'⟩
          exact ⟨u, rfl, BytesA.of_fresh hu (fun b hb => hb.2), hB'⟩))
  have HSS : Hid (∀ U, Below wb.heap.size wb U → (fun U : World => U.cell? ⟨w.heap.size, 0, none⟩ = some (.int .i64 (P : Int)) ∧ LoadIs Tryd.prog 57 ⟨w.heap.size, 0, none⟩ (.agg vs.toArray) U) U) := fun U hU => by
    have b := bz.below hU bz.lt
    refine ⟨?_, load_col0 b HVL.out⟩
    have := b.cell 0
    rwa [List.getElem?_toArray, hV.2.1] at this
  have hBx := (Below.refl wb.heap.size wb).drew
  have HF := Lib.hid (hBz.size)
  clear hV bz hpb hP hQ hL hp
  refine (callsIn_wide (n := 9)).1 ?_
  refine callsIn_of_wp_marks Tryd.func36 rfl trivial ?_ rfl
  simp only [Tryd.ntmps36, List.size_toArray, List.length_cons, List.length_nil, Nat.reduceAdd, Nat.reduceSub, Array.replicate_succ, Array.replicate_zero, List.push_toArray, List.append_toArray, List.nil_append, List.cons_append]
  gi_wp2_with fail
  have hS : (fun U : World => U.cell? ⟨w.heap.size, 0, none⟩ = some (.int .i64 (P : Int)) ∧ LoadIs Tryd.prog 57 ⟨w.heap.size, 0, none⟩ (.agg vs.toArray) U) wb.drew := HSS.out _ hBx
  refine wpIn_mono (region_HF (Q := NoPanic _) (S := (fun U : World => U.cell? ⟨w.heap.size, 0, none⟩ = some (.int .i64 (P : Int)) ∧ LoadIs Tryd.prog 57 ⟨w.heap.size, 0, none⟩ (.agg vs.toArray) U)) (by kernel_rfl) ?_) NoPanic.imp
  refine anyHF_take (i := 0) (d := 5) (v := .pointer (some ⟨w.heap.size, 0, none⟩)) (by kernel_rfl) rfl (by kernel_rfl) (by kernel_rfl) (by kernel_rfl) rfl (fun _ _ _ h => h) ⟨Or.inl ⟨by rfl, fun w hS => by obtain ⟨h0, h1⟩ := hS; go_simp⟩, fun _ => rfl⟩ hS ?_
  simp only [List.setIfInBounds_toArray, List.set_cons_zero, List.set_cons_succ]
  refine anyHF_take (i := 1) (d := 6) (v := .int .i64 (P : Int)) (by kernel_rfl) rfl (by kernel_rfl) (by kernel_rfl) (by kernel_rfl) rfl (fun _ _ _ h => h) ⟨Or.inl ⟨by rfl, fun w hS => by obtain ⟨h0, h1⟩ := hS; go_simp⟩, fun _ => rfl⟩ hS ?_
  simp only [List.setIfInBounds_toArray, List.set_cons_zero, List.set_cons_succ]
  refine anyHF_take (i := 2) (d := 7) (v := .agg vs.toArray) (by kernel_rfl) rfl (by kernel_rfl) (by kernel_rfl) (by kernel_rfl) rfl (fun _ _ _ h => h) ⟨Or.inl ⟨by rfl, fun w hS => by obtain ⟨h0, h1⟩ := hS; exact exec_load rfl rfl (by first | exact h1)⟩, fun _ => rfl⟩ hS ?_
  simp only [List.setIfInBounds_toArray, List.set_cons_zero, List.set_cons_succ]
  refine anyHF_take (i := 3) (d := 8) (v := .agg vs.toArray) (by kernel_rfl) rfl (by kernel_rfl) (by kernel_rfl) (by kernel_rfl) rfl (fun _ _ _ h => h) ⟨Or.inl ⟨by rfl, fun w hS => by obtain ⟨h0, h1⟩ := hS; exact exec_load rfl rfl (by first | exact h1)⟩, fun _ => rfl⟩ hS ?_
  simp only [List.setIfInBounds_toArray, List.set_cons_zero, List.set_cons_succ]
  refine anyHF_take (i := 4) (d := 9) (v := .int .i64 by_) (by kernel_rfl) rfl (by kernel_rfl) (by kernel_rfl) (by kernel_rfl) rfl (fun _ _ _ h => h) ⟨Or.inl ⟨by rfl, fun w hS => by obtain ⟨h0, h1⟩ := hS; go_simp⟩, fun _ => rfl⟩ hS ?_
  simp only [List.setIfInBounds_toArray, List.set_cons_zero, List.set_cons_succ]
  refine anyHF_one (i := 5) (by kernel_rfl) rfl (by kernel_rfl) (by rfl) ?_
  gi_wp2_with fail
  refine ⟨trivial, (callsIn_wide.2 (HMV.out _ (below_in hBz hBx))).mono ?_⟩
  rintro e w1 ⟨us, rfl, hus, hB1⟩
  replace hBx := below_in hBx hB1
  clear hS
  have hS : (fun U : World => U.cell? ⟨w.heap.size, 0, none⟩ = some (.int .i64 (P : Int)) ∧ LoadIs Tryd.prog 57 ⟨w.heap.size, 0, none⟩ (.agg vs.toArray) U) w1 := HSS.out _ hBx
  gi_wp2
  try (refine ⟨hS, ?_⟩)
  refine anyHF_one (i := 6) (by kernel_rfl) rfl (by kernel_rfl) (by rfl) ?_
  refine opIn_build (ps := #[(0, .agg vs.toArray), (1, .agg us.toArray)]) rfl rfl (run_aggs2 vs us HVL.out hus.1 w1) ?_
  have hBe : Below w1.heap.size w1 (w1.alloc (.cells (vs ++ us).toArray 57)) := below_one w1 _
  have bE : Blk (w1.alloc (.cells (vs ++ us).toArray 57)) w1.heap.size 57 (vs ++ us).toArray := Blk.new w1 _ _
  obtain ⟨w2, hew2⟩ : ∃ x, (w1.alloc (.cells (vs ++ us).toArray 57)) = x := ⟨_, rfl⟩
  rw [hew2] at hBe bE
  rw [hew2]
  have hrow := HROW.out us w1 w2 hBx hus hBe bE
  replace hBx := below_in hBx hBe
  clear hS
  have hS : (fun U : World => U.cell? ⟨w.heap.size, 0, none⟩ = some (.int .i64 (P : Int)) ∧ LoadIs Tryd.prog 57 ⟨w.heap.size, 0, none⟩ (.agg vs.toArray) U) w2 := HSS.out _ hBx
  clear hus bE
  gi_wp2
  try (refine ⟨hS, ?_⟩)
  refine anyHF_one (i := 7) (by kernel_rfl) rfl (by kernel_rfl) (by rfl) ?_
  gi_wp2_with fail
  refine ⟨trivial, (callsIn_wide.2 (hrow)).mono ?_⟩
  rintro e w5 ⟨u, rfl, hF, hB5⟩
  obtain ⟨uA, un, uc, rfl⟩ : ∃ a b c, u = .slice a b c := by obtain ⟨a, c, e, _⟩ := hF; exact ⟨a, _, c, e⟩
  have hsz := hBx.size
  replace hBx := below_in hBx hB5
  clear hS
  have hS : (fun U : World => U.cell? ⟨w.heap.size, 0, none⟩ = some (.int .i64 (P : Int)) ∧ LoadIs Tryd.prog 57 ⟨w.heap.size, 0, none⟩ (.agg vs.toArray) U) w5 := HSS.out _ hBx
  gi_wp2
  try (refine ⟨hS, ?_⟩)
  refine anyHF_one (i := 8) (by kernel_rfl) rfl (by kernel_rfl) (by rfl) ?_
  gi_wp2
  refine anyHF_done (by kernel_rfl) ?_ _
  refine NoPanic.normal ?_
  gi_wp2
  exact ⟨_, by simp [results, Tryd.results36, go_sem], _, rfl, freshMany_more hF (by have := HF.out; omega), below_in hBz hBx⟩
end Go.Proofs.YtckfepmahjgmfaaDoor.Rg

namespace Go.Proofs.YtckfepmahjgmfaaDoor.T
open Go.RowKit Go.Shelf
set_option linter.unusedVariables false
set_option linter.unusedSimpArgs false

/-- Whatever order is picked from here on, S holds behind each operation. -/
def anyHG (F : Fence) (n : Nat) (P : Program) (md : Region.Mode) (ops : Array Oper) (Q : Exit → Act → World → Prop) (S : World → Prop) (m : Nat) : Nat → Array Bool → Act → World → Prop
  | 0, listed, a, w => Region.ready md ops listed = [] ∧ Q .normal a w
  | k + 1, listed, a, w => (Region.ready md ops listed = [] → Q .normal a w) ∧ ∀ i ∈ Region.ready md ops listed, wpOpIn F n P ops Q i (fun a' w' => (i = m ∨ S w') ∧ anyHG F n P md ops Q S m k (listed.setIfInBounds i true) a' w') a w
section
variable {F : Fence} {n : Nat} {P : Program} {md : Region.Mode} {ops : Array Oper} {Q : Exit → Act → World → Prop} {S : World → Prop} {m : Nat}
theorem anyHG.any : ∀ (k : Nat) (listed : Array Bool) (a : Act) (w : World), anyHG F n P md ops Q S m k listed a w → wpAnyIn F n P md ops Q k listed a w
  | 0, _, _, _, h => h
  | k + 1, _, _, _, h => ⟨h.1, fun i hi => wpOpIn_mono (fun a' w' h' => anyHG.any k _ a' w' h'.2) (h.2 i hi)⟩
end
end Go.Proofs.YtckfepmahjgmfaaDoor.T

namespace Go.Proofs.YtckfepmahjgmfaaDoor.Rg
open Go.RowKit Go.Shelf Go.Maps Go.Proofs.YtckfepmahjgmfaaDoor.C Go.Proofs.YtckfepmahjgmfaaDoor.E
set_option linter.unusedSimpArgs false
set_option linter.unusedVariables false
attribute [local go_sem] Oper.semAt_some

/-- The cells of a column, with a nought for its last row. -/
def wholeF (Q n : Nat) (c : List (List UInt8)) (r : Nat) : List UInt8 := if r < Q then c[r]?.getD [] else List.replicate n 0
/-- A column that may be. -/
def ColOk (P n : Nat) (c : List (List UInt8)) : Prop := (P : Int) ∈ prm ∧ GoodC (P - 1) n c ∧ 1 ≤ n ∧ n ≤ 64
theorem many_list {B : Nat} {W : World} {b off Q : Nat} {c : List (List UInt8)} (h : ∀ j, j < Q → ∃ A cap, W.cell? ⟨b, off + j, none⟩ = some (.slice A (c[j]?.getD []).length cap) ∧ Bytes B W (.slice A (c[j]?.getD []).length cap) (c[j]?.getD [])) :
    ∃ cvs : List Value, cvs.length = Q ∧ (∀ j u, cvs[j]? = some u → W.cell? ⟨b, off + j, none⟩ = some u) ∧ (∀ j, j < Q → ∃ u, cvs[j]? = some u ∧ Bytes B W u (c[j]?.getD [])) ∧ ∀ v ∈ cvs, v.oneCell' = true := by
  refine ⟨(List.range Q).map fun j => (W.cell? ⟨b, off + j, none⟩).getD undef, by simp, fun j u hu => ?_, fun j hj => ?_, fun v hv => ?_⟩
  · have hj : j < Q := by have := (List.getElem?_eq_some_iff.1 hu).1; simpa using this
    rw [List.getElem?_map, List.getElem?_range hj] at hu
    obtain ⟨A, cap, h1, _⟩ := h j hj
    simp only [Option.map_some, h1, Option.getD_some, Option.some.injEq] at hu
    rw [h1, hu]
  · obtain ⟨A, cap, h1, h2⟩ := h j hj
    exact ⟨_, by rw [List.getElem?_map, List.getElem?_range hj, Option.map_some, h1]; rfl, h2⟩
  · obtain ⟨j, hj, rfl⟩ := List.mem_map.1 hv
    obtain ⟨A, cap, h1, _⟩ := h j (List.mem_range.1 hj)
    rw [h1]
    rfl
section
variable {F : Fence} {n : Nat} {P : Program} {o : Oper} {a : Act} {w : World} {K : Act → World → Prop} {Q : Exit → Act → World → Prop} {t : TypeId} {v : Value} {p : Operand} {ad : Addr}
theorem opIn_loadS (ho : o.op = .load t p) (hp : a.eval p = .pointer (some ad)) (hv : LoadIs P t ad v w) (h : K (a.put o.dst v) w) : Oper.wpIn F n P o a w K Q := by
  refine ⟨fun f hf => ?_, ?_⟩
  · simp [Oper.about, ho] at hf
  · rw [Oper.semAt_eq _ _ _ (by simp [ho]), exec_load ho hp hv]
    exact h
end
section
variable {F : Fence} {m : Nat} {P : Program} {ops : Array Oper} {Q : Exit → Act → World → Prop} {rest : List Oper} {o : Oper} {a : Act} {w w' : World} {v dv sv : Value}
theorem wpListIn_copyS {d s : Operand} {dT sT : TypeId} (hgd : o.guard = none) (ho : o.op = .call { callee := .builtin .copy, args := #[d, s], argTypes := #[dT, sT] }) (hd : a.eval d = dv) (hs : a.eval s = sv) (hr : ∀ ty, (Builtin.copy_ #[dT, sT] ty #[dv, sv]).run P w = .ok v w') (h : wpListIn F m P ops Q rest (a.put o.dst v) w') : wpListIn F m P ops Q (o :: rest) a w :=
  wpListIn_plain hgd fun K hK => by
    refine ⟨fun f hf => ?_, ?_⟩
    · simp [Oper.about, ho, resolve, Target.leads] at hf
    · rw [Oper.semAt_eq _ _ _ (by simp [ho])]
      unfold execOp
      simp [ho, resolve, invoke, builtin, hd, hs, hr, Result.andThen]
      exact hK _ _ h
end
set_option maxRecDepth 100000 in
set_option maxHeartbeats 4000000 in
theorem asked_yes {B : Nat} (P Q n : Nat) (hQ : P = Q + 1) (c : List (List UInt8)) (v : Value) (hok : ColOk P n c) (w : World) (hL : Laid w) (hB : B ≤ w.heap.size) (hM : Many B w v c) :
    Calls Tryd.prog 33 #[.int .i64 (P : Int), v] w fun e w' => ∃ vs, e = .returned (.agg vs.toArray) ∧ ColV w'.heap.size w' P n (wholeF Q n c) vs ∧ Below w.heap.size w w' := by
  obtain ⟨hp, hgc, h1, h64⟩ := hok
  have hpb := prm_bounds hp
  have hcl : c.length = Q := by have := hgc.1; omega
  have hce : ∀ r, r < Q → (c[r]?.getD []).length = n := fun r hr => (hgc.2 r (by omega)).2
  have hRD : RightD (P : Int) [c] := (rightD_iff hp (by simp)).2 (fun j hj => by
    obtain rfl : j = 0 := by simpa using hj
    have e : ((P : Int) - 1).toNat = P - 1 := by omega
    have e2 : (firstC [c]).length = n := by
      show (c[0]?.getD []).length = n
      exact hce 0 (by omega)
    rw [e, e2]
    exact hgc)
  obtain ⟨cap0, e0, _⟩ : ∃ cap, (∃ A, v = .slice A c.length cap) ∧ True := by obtain ⟨A, cap, e, _⟩ := hM; exact ⟨cap, ⟨A, e⟩, trivial⟩
  obtain ⟨Av, rfl⟩ := e0
  obtain ⟨cb, co, rfl, hcb, hcell⟩ := many_at hM (by omega)
  rw [hcl] at hM ⊢
  have hcell' : ∀ j, j < Q → ∃ A cap, w.cell? ⟨cb, co + j, none⟩ = some (.slice A (c[j]?.getD []).length cap) ∧ Bytes B w (.slice A (c[j]?.getD []).length cap) (c[j]?.getD []) := fun j hj => hcell j (by omega)
  obtain ⟨cvs, hvl, hvc, hvb, hv1⟩ := many_list hcell'
  obtain ⟨A0, c0, k0, _⟩ := hcell' 0 (by omega)
  rw [hce 0 (by omega), Nat.add_zero] at k0
  obtain ⟨WX, hWX⟩ : ∃ x, (w.alloc (.cells #[.int .i64 0, .slice none 0 0, .slice none 0 0, .slice none 0 0, .slice none 0 0, .slice none 0 0, .slice none 0 0, .slice none 0 0, .slice none 0 0, .slice none 0 0, .slice none 0 0, .slice none 0 0, .slice none 0 0, .slice none 0 0, .slice none 0 0, .slice none 0 0, .slice none 0 0, .slice none 0 0] 57)) = x := ⟨_, rfl⟩
  have hBX : Below w.heap.size w WX := by rw [← hWX]; exact below_one w _
  have bX : Blk WX w.heap.size 57 #[.int .i64 0, .slice none 0 0, .slice none 0 0, .slice none 0 0, .slice none 0 0, .slice none 0 0, .slice none 0 0, .slice none 0 0, .slice none 0 0, .slice none 0 0, .slice none 0 0, .slice none 0 0, .slice none 0 0, .slice none 0 0, .slice none 0 0, .slice none 0 0, .slice none 0 0, .slice none 0 0] := by rw [← hWX]; exact Blk.new w _ _
  have sX : WX.heap.size = w.heap.size + 1 := by rw [← hWX]; simp
  have hCols : ∀ U, Blk U WX.heap.size 23 #[.slice (some ⟨cb, co, none⟩) Q cap0] → Below WX.heap.size WX U → E.Cols U.heap.size U (.slice (some ⟨WX.heap.size, 0, none⟩) 1 1) [c] := fun U hb hU => by
    refine ⟨_, 1, rfl, Nat.le_refl _, fun _ => ⟨WX.heap.size, 0, rfl, hb.lt, fun j hj => ?_⟩⟩
    obtain rfl : j = 0 := by simpa using hj
    exact ⟨_, hb.cell 0, (hM.below ((below_in hBX hU).mono hB)).more (Nat.le_trans hB (below_in hBX hU).size)⟩
  have HRI := Lib.hid (fun (U : World) (hb : Blk U WX.heap.size 23 #[.slice (some ⟨cb, co, none⟩) Q cap0]) (hU : Below WX.heap.size WX U) => right_yes (P : Int) _ [c] U (hL.next (below_in hBX hU)) (Nat.le_refl _) (hCols U hb hU) (by simp) hRD)
  have HLA := Lib.hid (fun (us : List Value) (h : us[0]? = some (.int .i64 (P : Int))) (U : World) => last_any P Q hQ us (by omega) h U)
  have HZ := Lib.hid (fun (U : World) => zero_yes n h1 h64 U)
  obtain ⟨us, hus⟩ : ∃ us, (Value.int .i64 (P : Int)) :: (cvs ++ List.replicate (17 - Q) (.slice none 0 0)) = us := ⟨_, rfl⟩
  have hul : us.length = 18 := by rw [← hus, List.length_cons, List.length_append, List.length_replicate]; omega
  have hus0 : us[0]? = some (.int .i64 (P : Int)) := by rw [← hus]; rfl
  have husg : ∀ r, r < Q → us[r + 1]? = cvs[r]? := fun r hr => by rw [← hus, List.getElem?_cons_succ, List.getElem?_append_left (by omega)]
  have hus1 : ∀ x ∈ us, x.oneCell' = true := fun x hx => by
    rw [← hus] at hx
    rcases List.mem_cons.1 hx with rfl | hx
    · rfl
    · rcases List.mem_append.1 hx with hx | hx
      · exact hv1 x hx
      · rw [(List.mem_replicate.1 hx).2]; rfl
  have HCP := Lib.hid (fun (Wa WB : World) (hb : Blk WB Wa.heap.size 57 #[.int .i64 (P : Int), .slice none 0 0, .slice none 0 0, .slice none 0 0, .slice none 0 0, .slice none 0 0, .slice none 0 0, .slice none 0 0, .slice none 0 0, .slice none 0 0, .slice none 0 0, .slice none 0 0, .slice none 0 0, .slice none 0 0, .slice none 0 0, .slice none 0 0, .slice none 0 0, .slice none 0 0]) (hc : ∀ j u, cvs[j]? = some u → WB.cell? ⟨cb, co + j, none⟩ = some u) (ty : TypeId) => (by
    have := run_copy_row (P := Tryd.prog) WB 22 23 ty 48 Wa.heap.size 1 17 17 ⟨cb, co, none⟩ Q cap0 #[.int .i64 (P : Int), .slice none 0 0, .slice none 0 0, .slice none 0 0, .slice none 0 0, .slice none 0 0, .slice none 0 0, .slice none 0 0, .slice none 0 0, .slice none 0 0, .slice none 0 0, .slice none 0 0, .slice none 0 0, .slice none 0 0, .slice none 0 0, .slice none 0 0, .slice none 0 0, .slice none 0 0] 57 cvs Tryd.underlying22 (by kernel_rfl) hb (by rw [hvl]; exact (Nat.min_eq_left (by omega)).symm) (fun j u hu => by rw [addr_add]; exact hc j u hu) (by rw [hvl]; show 1 + Q ≤ 18; omega) hv1
    rw [show (#[Value.int .i64 (P : Int), .slice none 0 0, .slice none 0 0, .slice none 0 0, .slice none 0 0, .slice none 0 0, .slice none 0 0, .slice none 0 0, .slice none 0 0, .slice none 0 0, .slice none 0 0, .slice none 0 0, .slice none 0 0, .slice none 0 0, .slice none 0 0, .slice none 0 0, .slice none 0 0, .slice none 0 0].toList.take 1 ++ cvs ++ #[Value.int .i64 (P : Int), .slice none 0 0, .slice none 0 0, .slice none 0 0, .slice none 0 0, .slice none 0 0, .slice none 0 0, .slice none 0 0, .slice none 0 0, .slice none 0 0, .slice none 0 0, .slice none 0 0, .slice none 0 0, .slice none 0 0, .slice none 0 0, .slice none 0 0, .slice none 0 0, .slice none 0 0].toList.drop (1 + cvs.length)) = us from by
      rw [← hus, hvl, Nat.add_comm 1 Q]
      show [Value.int .i64 (P : Int)] ++ cvs ++ (List.replicate 17 (Value.slice none 0 0)).drop Q = _
      rw [List.drop_replicate]
      rfl] at this
    exact this : (Builtin.copy_ #[22, 23] ty #[.slice (some ⟨Wa.heap.size, 1, none⟩) 17 17, .slice (some ⟨cb, co, none⟩) Q cap0]).run Tryd.prog WB = .ok (goInt cvs.length) (WB.setRow Wa.heap.size us.toArray)))
  have HCV := Lib.hid (fun (U : World) (hU : Below w.heap.size w U) (j : Nat) (u : Value) (hu : cvs[j]? = some u) => (hU.cell (p := ⟨cb, co + j, none⟩) (Nat.lt_of_lt_of_le hcb hB)).trans (hvc j u hu))
  have HK0 := Lib.hid (fun (U : World) (hU : Below w.heap.size w U) => (hU.cell (p := ⟨cb, co, none⟩) (Nat.lt_of_lt_of_le hcb hB)).trans k0)
  have HVB := Lib.hid (fun (U : World) (hU : Below w.heap.size w U) (r : Nat) (hr : r < Q) => (by
    obtain ⟨u, hu, hb⟩ := hvb r hr
    exact ⟨u, (husg r hr).trans hu, (hb.below (hU.mono hB)).more (Nat.le_trans hB hU.size)⟩ : ∃ u, us[r + 1]? = some u ∧ Bytes U.heap.size U u (c[r]?.getD [])))
  have HQ := Lib.hid hQ
  have HCE := Lib.hid hce
  have HPB := Lib.hid hpb
  have HUS1 := Lib.hid hus1
  have HUSL := Lib.hid hul
  have HSX := Lib.hid sX
  have hcq : 0 < Q := by omega
  clear hus husg hvl hvc hvb hv1 hcell hcell' k0 hRD hCols hgc hcl hce hQ hp hpb hM hL hus1 hul sX
  refine (callsIn_wide (n := 9)).1 ?_
  refine callsIn_of_wp_marks Tryd.func33 rfl trivial ?_ rfl
  simp only [Tryd.ntmps33, List.size_toArray, List.length_cons, List.length_nil, Nat.reduceAdd, Nat.reduceSub, Array.replicate_succ, Array.replicate_zero, List.push_toArray, List.append_toArray, List.nil_append, List.cons_append]
  gi_wp2_with fail
  obtain ⟨WY, hWY⟩ : ∃ x, (WX.alloc (.cells #[.slice (some ⟨cb, co, none⟩) Q cap0] 23)) = x := ⟨_, rfl⟩
  have hBY : Below WX.heap.size WX WY := by rw [← hWY]; exact below_one WX _
  have bY : Blk WY WX.heap.size 23 #[.slice (some ⟨cb, co, none⟩) Q cap0] := by rw [← hWY]; exact Blk.new WX _ _
  rw [hWY]
  refine ⟨trivial, (callsIn_wide.2 (HRI.out WY bY hBY)).mono ?_⟩
  rintro e Wa ⟨rfl, hBa⟩
  have hBwa : Below w.heap.size w Wa := below_in hBX (below_in hBY hBa)
  have bXa := bX.below (below_in hBY hBa) bX.lt
  clear hWX hWY bY
  gi_wp2_with fail
  refine ⟨trivial, (callsIn_wide.2 (need_yes Wa)).mono ?_⟩
  rintro e Wa' ⟨rfl, rfl⟩
  have hstn := run_storeVar_new (P := Tryd.prog) Wa 57 #[.int .i64 0, .slice none 0 0, .slice none 0 0, .slice none 0 0, .slice none 0 0, .slice none 0 0, .slice none 0 0, .slice none 0 0, .slice none 0 0, .slice none 0 0, .slice none 0 0, .slice none 0 0, .slice none 0 0, .slice none 0 0, .slice none 0 0, .slice none 0 0, .slice none 0 0, .slice none 0 0] #[.int .i64 (P : Int), .slice none 0 0, .slice none 0 0, .slice none 0 0, .slice none 0 0, .slice none 0 0, .slice none 0 0, .slice none 0 0, .slice none 0 0, .slice none 0 0, .slice none 0 0, .slice none 0 0, .slice none 0 0, .slice none 0 0, .slice none 0 0, .slice none 0 0, .slice none 0 0, .slice none 0 0] (by kernel_rfl) rfl (by rw [Array.all_eq_true_iff_forall_mem]; intro v hv; exact one_nils _ v (by simpa using hv))
  obtain ⟨WB, hWB⟩ : ∃ x, Wa.alloc (.cells #[.int .i64 (P : Int), .slice none 0 0, .slice none 0 0, .slice none 0 0, .slice none 0 0, .slice none 0 0, .slice none 0 0, .slice none 0 0, .slice none 0 0, .slice none 0 0, .slice none 0 0, .slice none 0 0, .slice none 0 0, .slice none 0 0, .slice none 0 0, .slice none 0 0, .slice none 0 0, .slice none 0 0] 57) = x := ⟨_, rfl⟩
  have hBb : Below Wa.heap.size Wa WB := by rw [← hWB]; exact below_one Wa _
  have bB : Blk WB Wa.heap.size 57 #[.int .i64 (P : Int), .slice none 0 0, .slice none 0 0, .slice none 0 0, .slice none 0 0, .slice none 0 0, .slice none 0 0, .slice none 0 0, .slice none 0 0, .slice none 0 0, .slice none 0 0, .slice none 0 0, .slice none 0 0, .slice none 0 0, .slice none 0 0, .slice none 0 0, .slice none 0 0, .slice none 0 0] := by rw [← hWB]; exact Blk.new Wa _ _
  rw [hWB] at hstn
  have hcp := HCP.out Wa WB bB (HCV.out WB (below_in hBwa hBb))
  obtain ⟨WC, hWC⟩ : ∃ x, WB.setRow Wa.heap.size us.toArray = x := ⟨_, rfl⟩
  rw [hWC] at hcp
  have hwa := hBwa.size
  have hBc : Below w.heap.size w WC := by rw [← hWC]; exact C.below_setRow (below_in hBwa hBb) hwa _
  have bC : Blk WC Wa.heap.size 57 us.toArray := by rw [← hWC]; exact bB.setRow _
  have hlx := bXa.lt
  have bXc : Blk WC w.heap.size 57 #[.int .i64 0, .slice none 0 0, .slice none 0 0, .slice none 0 0, .slice none 0 0, .slice none 0 0, .slice none 0 0, .slice none 0 0, .slice none 0 0, .slice none 0 0, .slice none 0 0, .slice none 0 0, .slice none 0 0, .slice none 0 0, .slice none 0 0, .slice none 0 0, .slice none 0 0, .slice none 0 0] := by rw [← hWC]; exact (bXa.below hBb bXa.lt).farRow (by omega) _
  have hcg := bC.lt
  have HSS : Hid (∀ U, Below WC.heap.size WC U → (fun U : World => U.cell? ⟨cb, co, none⟩ = some (.slice A0 n c0)) U) := fun U hU => HK0.out U (below_in hBc hU)
  have HST : Hid (∀ U, Below WC.heap.size WC U → ∀ zA zc, (fun U : World => U.cell? ⟨cb, co, none⟩ = some (.slice A0 n c0)) (U.setCell ⟨Wa.heap.size, 1 + Q, none⟩ (.slice zA n zc))) := fun U hU zA zc => by
    have hc := HK0.out U (below_in hBc hU)
    exact (World.cell?_of_block (Below.heap_setCell U ⟨Wa.heap.size, 1 + Q, none⟩ _ cb (by show cb ≠ Wa.heap.size; omega))).trans hc
  have HOLD : Hid (∀ U, Below WC.heap.size WC U → ∃ old, U.cell? ⟨Wa.heap.size, 1 + Q, none⟩ = some old) := fun U hU => ⟨_, by rw [(bC.below hU bC.lt).cell, List.getElem?_toArray, List.getElem?_eq_getElem (by have := HUSL.out; have := HPB.out; have := HQ.out; omega)]⟩
  have HFZ : Hid (∀ U, Below WC.heap.size WC U → U.frozen? ⟨Wa.heap.size, 1 + Q, none⟩ = false) := fun U hU => (bC.below hU bC.lt).frozen _
  have HBC := Lib.hid bC
  have hBCd : Blk WC.drew Wa.heap.size 57 us.toArray := bC
  have HBXC := Lib.hid bXc
  clear bB bC bXc bXa bX hWC
  have hcvl : cvs.length = cvs.length := rfl
  gi_wp2_with (first | refine wpListIn_storeS rfl rfl rfl rfl hstn ?_ | refine wpListIn_copyS rfl rfl rfl rfl hcp ?_)
  simp only [Act.put, List.setIfInBounds_toArray, List.set_cons_zero, List.set_cons_succ]
  have hBx := (Below.refl WC.heap.size WC).drew
  have i1 : (0 : Int) ≤ (Q : Int) := by omega
  have i2 : (Q : Int) < 17 := by have := HPB.out; have := HQ.out; omega
  have hS : (fun U : World => U.cell? ⟨cb, co, none⟩ = some (.slice A0 n c0)) WC.drew := HSS.out _ hBx
  refine wpIn_mono (region_HF (Q := NoPanic _) (S := (fun U : World => U.cell? ⟨cb, co, none⟩ = some (.slice A0 n c0))) (by kernel_rfl) ?_) NoPanic.imp
  refine anyHF_take (i := 2) (d := 19) (v := .slice (some ⟨cb, co, none⟩) Q cap0) (by kernel_rfl) rfl (by kernel_rfl) (by kernel_rfl) (by kernel_rfl) rfl (fun _ _ _ h => h) ⟨Or.inl ⟨by rfl, fun w hS => by have h0 := hS; go_simp⟩, fun _ => rfl⟩ hS ?_
  simp only [List.setIfInBounds_toArray, List.set_cons_zero, List.set_cons_succ]
  refine anyHF_take (i := 3) (d := 20) (v := .pointer (some ⟨cb, co, none⟩)) (by kernel_rfl) rfl (by kernel_rfl) (by kernel_rfl) (by kernel_rfl) rfl (fun _ _ _ h => h) ⟨Or.inl ⟨by rfl, fun w hS => by have h0 := hS; go_simp⟩, fun _ => rfl⟩ hS ?_
  simp only [List.setIfInBounds_toArray, List.set_cons_zero, List.set_cons_succ]
  refine anyHF_take (i := 4) (d := 21) (v := .slice A0 n c0) (by kernel_rfl) rfl (by kernel_rfl) (by kernel_rfl) (by kernel_rfl) rfl (fun _ _ _ h => h) ⟨Or.inl ⟨by rfl, fun w hS => by have h0 := hS; go_simp⟩, fun _ => rfl⟩ hS ?_
  simp only [List.setIfInBounds_toArray, List.set_cons_zero, List.set_cons_succ]
  refine anyHF_take (i := 5) (d := 22) (v := .int .i64 (n : Int)) (by kernel_rfl) rfl (by kernel_rfl) (by kernel_rfl) (by kernel_rfl) rfl (fun _ _ _ h => h) ⟨Or.inl ⟨by rfl, fun w hS => by have h0 := hS; go_simp⟩, fun _ => rfl⟩ hS ?_
  simp only [List.setIfInBounds_toArray, List.set_cons_zero, List.set_cons_succ]
  refine anyHF_take (i := 10) (d := 27) (v := .pointer (some ⟨Wa.heap.size, 1, none⟩)) (by kernel_rfl) rfl (by kernel_rfl) (by kernel_rfl) (by kernel_rfl) rfl (fun _ _ _ h => h) ⟨Or.inl ⟨by rfl, fun w hS => by have h0 := hS; go_simp⟩, fun _ => rfl⟩ hS ?_
  simp only [List.setIfInBounds_toArray, List.set_cons_zero, List.set_cons_succ]
  refine anyHF_one (i := 0) (by kernel_rfl) rfl (by kernel_rfl) (by rfl) ?_
  refine opIn_loadS rfl rfl (load_col0 hBCd HUSL.out) ?_
  gi_wp2
  try (refine ⟨hS, ?_⟩)
  refine anyHF_one (i := 1) (by kernel_rfl) rfl (by kernel_rfl) (by rfl) ?_
  gi_wp2_with fail
  refine ⟨trivial, (callsIn_wide.2 (HLA.out us hus0 _)).mono ?_⟩
  rintro e w1 ⟨rfl, hB1⟩
  replace hBx := below_in hBx hB1
  clear hS
  have hS : (fun U : World => U.cell? ⟨cb, co, none⟩ = some (.slice A0 n c0)) w1 := HSS.out _ hBx
  gi_wp2
  try (refine ⟨hS, ?_⟩)
  refine anyHF_one (i := 6) (by kernel_rfl) rfl (by kernel_rfl) (by rfl) ?_
  gi_wp2_with fail
  refine ⟨trivial, (callsIn_wide.2 (HZ.out _)).mono ?_⟩
  rintro e w2 ⟨z, rfl, hz, hB2⟩
  obtain ⟨zA, zc, ez⟩ := fresh_slice hz
  rw [List.length_replicate] at ez
  subst ez
  have hsz := hBx.size
  replace hBx := below_in hBx hB2
  clear hS
  have hS : (fun U : World => U.cell? ⟨cb, co, none⟩ = some (.slice A0 n c0)) w2 := HSS.out _ hBx
  gi_wp2
  try (refine ⟨hS, ?_⟩)
  refine anyHF_take (i := 7) (d := 24) (v := .slice zA n zc) (by kernel_rfl) rfl (by kernel_rfl) (by kernel_rfl) (by kernel_rfl) rfl (fun _ _ _ h => h) ⟨Or.inl ⟨by rfl, fun w hS => by have h0 := hS; go_simp⟩, fun _ => rfl⟩ hS ?_
  simp only [List.setIfInBounds_toArray, List.set_cons_zero, List.set_cons_succ]
  refine anyHF_take (i := 8) (d := 25) (v := .int .i64 0) (by kernel_rfl) rfl (by kernel_rfl) (by kernel_rfl) (by kernel_rfl) rfl (fun _ _ _ h => h) ⟨Or.inl ⟨by rfl, fun w hS => by have h0 := hS; go_simp⟩, fun _ => rfl⟩ hS ?_
  simp only [List.setIfInBounds_toArray, List.set_cons_zero, List.set_cons_succ]
  refine anyHF_one (i := 9) (by kernel_rfl) rfl (by kernel_rfl) (by rfl) ?_
  gi_wp2_with fail
  refine ⟨trivial, (callsIn_wide.2 (sureB (.slice zA n zc) _)).mono ?_⟩
  rintro e w3 ⟨rfl, hww⟩
  subst hww
  gi_wp2
  try (refine ⟨hS, ?_⟩)
  refine anyHF_take (i := 11) (d := 28) (v := .pointer (some ⟨Wa.heap.size, 1 + Q, none⟩)) (by kernel_rfl) rfl (by kernel_rfl) (by kernel_rfl) (by kernel_rfl) rfl (fun _ _ _ h => h) ⟨Or.inl ⟨by rfl, fun w hS => by have h0 := hS; go_simp⟩, fun _ => rfl⟩ hS ?_
  simp only [List.setIfInBounds_toArray, List.set_cons_zero, List.set_cons_succ]
  refine anyHF_one (i := 12) (by kernel_rfl) rfl (by kernel_rfl) (by rfl) ?_
  have h0 := hS
  have hST := HST.out _ hBx zA zc
  obtain ⟨old, hold⟩ := HOLD.out _ hBx
  have hfz := HFZ.out _ hBx
  gi_wp2_with fail
  try (refine ⟨hST, ?_⟩)
  refine anyHF_done (by kernel_rfl) ?_ _
  refine NoPanic.normal ?_
  have c1 := HBC.out.below hBx HBC.out.lt
  have hus2 : (us.set (1 + Q) (.slice zA n zc)).length = 18 := by rw [List.length_set]; exact HUSL.out
  have hB1z := hB1.size
  have c2 : Blk (w2.setCell ⟨Wa.heap.size, 1 + Q, none⟩ (.slice zA n zc)) Wa.heap.size 57 (us.set (1 + Q) (.slice zA n zc)).toArray := by
    have := c1.set_ (1 + Q) (.slice zA n zc)
    rwa [List.setIfInBounds_toArray] at this
  have hlx := HBXC.out.lt
  have hxa : w.heap.size < Wa.heap.size := by have := HSX.out; have := hBY.size; have := hBa.size; omega
  have c3 : Blk (w2.setCell ⟨Wa.heap.size, 1 + Q, none⟩ (.slice zA n zc)) w.heap.size 57 #[.int .i64 0, .slice none 0 0, .slice none 0 0, .slice none 0 0, .slice none 0 0, .slice none 0 0, .slice none 0 0, .slice none 0 0, .slice none 0 0, .slice none 0 0, .slice none 0 0, .slice none 0 0, .slice none 0 0, .slice none 0 0, .slice none 0 0, .slice none 0 0, .slice none 0 0, .slice none 0 0] := (HBXC.out.below hBx hlx).far (by show w.heap.size ≠ Wa.heap.size; omega) _
  have hone : ∀ x ∈ us.set (1 + Q) (.slice zA n zc), x.oneCell' = true := fun x hx => by
    rcases List.mem_or_eq_of_mem_set hx with h | rfl
    · exact HUS1.out x h
    · rfl
  have HLD := load_col0 c2 hus2
  have HSD := store_col0 (cs := [.int .i64 0, .slice none 0 0, .slice none 0 0, .slice none 0 0, .slice none 0 0, .slice none 0 0, .slice none 0 0, .slice none 0 0, .slice none 0 0, .slice none 0 0, .slice none 0 0, .slice none 0 0, .slice none 0 0, .slice none 0 0, .slice none 0 0, .slice none 0 0, .slice none 0 0, .slice none 0 0]) c3 rfl hus2 hone
  have hBf := (below_in hBc hBx).setCell (p := ⟨Wa.heap.size, 1 + Q, none⟩) (by show w.heap.size ≤ Wa.heap.size; omega) (.slice zA n zc)
  have hBg := C.below_setRow hBf (Nat.le_refl w.heap.size) (us.set (1 + Q) (.slice zA n zc)).toArray
  have HFIN : Hid (ColV ((w2.setCell ⟨Wa.heap.size, 1 + Q, none⟩ (.slice zA n zc)).setRow w.heap.size (us.set (1 + Q) (.slice zA n zc)).toArray).heap.size ((w2.setCell ⟨Wa.heap.size, 1 + Q, none⟩ (.slice zA n zc)).setRow w.heap.size (us.set (1 + Q) (.slice zA n zc)).toArray) P n (wholeF Q n c) (us.set (1 + Q) (.slice zA n zc)) ∧ LoadIs Tryd.prog 57 ⟨w.heap.size, 0, none⟩ (.agg (us.set (1 + Q) (.slice zA n zc)).toArray) ((w2.setCell ⟨Wa.heap.size, 1 + Q, none⟩ (.slice zA n zc)).setRow w.heap.size (us.set (1 + Q) (.slice zA n zc)).toArray)) := by
    refine ⟨⟨hus2, by rw [List.getElem?_set_ne (by omega)]; exact hus0, fun r hr => ?_, hone⟩, load_col0 (c3.setRow _) hus2⟩
    have hlq := HQ.out
    by_cases hrq : r < Q
    · obtain ⟨u, hu, hb⟩ := HVB.out _ hBg r hrq
      refine ⟨by unfold wholeF; rw [if_pos hrq]; exact HCE.out r hrq, u, by rw [List.getElem?_set_ne (by omega)]; exact hu, ?_⟩
      unfold wholeF
      rw [if_pos hrq]
      exact hb
    · obtain rfl : r = Q := by omega
      refine ⟨by unfold wholeF; rw [if_neg hrq]; simp, .slice zA n zc, by rw [Nat.add_comm r 1]; exact List.getElem?_set_self (by have := HUSL.out; have := HPB.out; omega), ?_⟩
      unfold wholeF
      rw [if_neg hrq]
      have hzb : BytesA (fun b => b < w1.heap.size) w2 (.slice zA n zc) (List.replicate n 0) := BytesA.of_fresh hz (fun b h => h)
      have hw1 : Wa.heap.size < w1.heap.size := by have := HBC.out.lt; omega
      exact ((hzb.only (Only.set (A := fun b => b < w1.heap.size) (p := ⟨Wa.heap.size, 1 + r, none⟩) hw1 _)).only (Only.row (A := fun b => b < w1.heap.size) (g := w.heap.size) (by omega) _)).bytes
  clear hone c1 c2 c3 hz hcp hstn
  have HBG := Lib.hid hBg
  generalize us.set (1 + Q) (.slice zA n zc) = us2 at *
  gi_wp2_with (first | refine wpListIn_loadS rfl rfl rfl HLD ?_ | refine wpListIn_storeS rfl rfl rfl rfl HSD ?_)
  exact ⟨_, results_cell rfl rfl HFIN.out.2, us2, rfl, HFIN.out.1, HBG.out⟩
set_option maxRecDepth 100000 in
set_option maxHeartbeats 4000000 in
theorem asked_no {B : Nat} (p : Int) (c : List (List UInt8)) (v : Value) (hno : ¬ RightD p [c]) (hc0 : c.length ≤ 1000) (w : World) (hL : Laid w) (hB : B ≤ w.heap.size) (hM : Many B w v c) :
    Calls Tryd.prog 33 #[.int .i64 p, v] w fun e w' => e = .panicked gaveUp ∧ Below w.heap.size w w' := by
  obtain ⟨Av, cap0, rfl, _, _⟩ := id hM
  obtain ⟨WX, hWX⟩ : ∃ x, (w.alloc (.cells #[.int .i64 0, .slice none 0 0, .slice none 0 0, .slice none 0 0, .slice none 0 0, .slice none 0 0, .slice none 0 0, .slice none 0 0, .slice none 0 0, .slice none 0 0, .slice none 0 0, .slice none 0 0, .slice none 0 0, .slice none 0 0, .slice none 0 0, .slice none 0 0, .slice none 0 0, .slice none 0 0] 57)) = x := ⟨_, rfl⟩
  have hBX : Below w.heap.size w WX := by rw [← hWX]; exact below_one w _
  obtain ⟨WY, hWY⟩ : ∃ x, (WX.alloc (.cells #[.slice Av c.length cap0] 23)) = x := ⟨_, rfl⟩
  have hBY : Below WX.heap.size WX WY := by rw [← hWY]; exact below_one WX _
  have bY : Blk WY WX.heap.size 23 #[.slice Av c.length cap0] := by rw [← hWY]; exact Blk.new WX _ _
  have hBw := below_in hBX hBY
  have hCols : E.Cols WY.heap.size WY (.slice (some ⟨WX.heap.size, 0, none⟩) 1 1) [c] := by
    refine ⟨_, 1, rfl, Nat.le_refl _, fun _ => ⟨WX.heap.size, 0, rfl, bY.lt, fun j hj => ?_⟩⟩
    obtain rfl : j = 0 := by simpa using hj
    exact ⟨_, bY.cell 0, (hM.below (hBw.mono hB)).more (Nat.le_trans hB hBw.size)⟩
  have HRI := Lib.hid (right_no p _ [c] WY (hL.next hBw) (Nat.le_refl _) hCols (by simp) (fun j hj => by
    obtain rfl : j = 0 := by simpa using hj
    exact hc0) hno)
  clear hM hCols hno hc0 bY
  generalize c.length = C at *
  refine (callsIn_wide (n := 9)).1 ?_
  refine callsIn_of_wp_marks Tryd.func33 rfl trivial ?_ rfl
  simp only [Tryd.ntmps33, List.size_toArray, List.length_cons, List.length_nil, Nat.reduceAdd, Nat.reduceSub, Array.replicate_succ, Array.replicate_zero, List.push_toArray, List.append_toArray, List.nil_append, List.cons_append]
  gi_wp2_with fail
  try rw [hWY]
  refine ⟨trivial, (callsIn_wide.2 HRI.out).mono ?_⟩
  rintro e Wa ⟨rfl, hBa⟩
  gi_wp2_with fail
  refine ⟨trivial, (callsIn_wide.2 (need_no Wa)).mono ?_⟩
  rintro e Wa' ⟨rfl, rfl⟩
  gi_wp2_with fail
  exact ⟨rfl, below_in hBw hBa⟩
end Go.Proofs.YtckfepmahjgmfaaDoor.Rg

