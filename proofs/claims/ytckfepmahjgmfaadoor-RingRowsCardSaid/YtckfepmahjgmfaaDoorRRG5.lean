/- ring: a column under way is asked for. ring: Turn, Stretch. ring: columns put upon one another. ring: Rows. -/
import Derived.Test.YtckfepmahjgmfaaDoorRRG4
import Derived.Great.BuildSlice
import Derived.Laws.EntriesVeiled
namespace Go.Proofs.YtckfepmahjgmfaaDoor.Rg
open Go.RowKit Go.Shelf Go.Maps Go.Proofs.YtckfepmahjgmfaaDoor.C Go.Proofs.YtckfepmahjgmfaaDoor.E
set_option linter.unusedSimpArgs false
set_option linter.unusedVariables false
attribute [local go_sem] Oper.semAt_some

/-- The cells of a column, with a nought for its last row. -/
def wholeF (Q n : Nat) (c : List (List UInt8)) (r : Nat) : List UInt8 := if r < Q then c[r]?.getD [] else List.replicate n 0
/-- A column that may be. -/
def ColOk (P n : Nat) (c : List (List UInt8)) : Prop := (P : Int) ∈ prm ∧ GoodC (P - 1) n c ∧ 1 ≤ n ∧ n ≤ 64
theorem many_list {B : Nat} {W : World} {b off Q : Nat} {c : List (List UInt8)} (h : ∀ j, j < Q → ∃ A cap, W.cell? ⟨b, off + j, none⟩ = some (.slice A (c[j]?.getD []).length cap) ∧ Bytes B W (.slice A (c[j]?.getD []).length cap) (c[j]?.getD [])) :
    ∃ cvs : List Value, cvs.length = Q ∧ (∀ j u, cvs[j]? = some u → W.cell? ⟨b, off + j, none⟩ = some u) ∧ (∀ j, j < Q → ∃ u, cvs[j]? = some u ∧ Bytes B W u (c[j]?.getD [])) ∧ ∀ v ∈ cvs, v.oneCell' = true := by
  refine ⟨(List.range Q).map fun j => (W.cell? ⟨b, off + j, none⟩).getD undef, by simp, fun j u hu => ?_, fun j hj => ?_, fun v hv => ?_⟩
  · have hj : j < Q := by have := (List.getElem?_eq_some_iff.1 hu).1; simpa using this
    rw [List.getElem?_map, List.getElem?_range hj] at hu
    obtain ⟨A, cap, h1, _⟩ := h j hj
    simp only [Option.map_some, h1, Option.getD_some, Option.some.injEq] at hu
    rw [h1, hu]
  · obtain ⟨A, cap, h1, h2⟩ := h j hj
    exact ⟨_, by rw [List.getElem?_map, List.getElem?_range hj, Option.map_some, h1]; rfl, h2⟩
  · obtain ⟨j, hj, rfl⟩ := List.mem_map.1 hv
    obtain ⟨A, cap, h1, _⟩ := h j (List.mem_range.1 hj)
    rw [h1]
    rfl
section
variable {F : Fence} {n : Nat} {P : Program} {o : Oper} {a : Act} {w : World} {K : Act → World → Prop} {Q : Exit → Act → World → Prop} {t : TypeId} {v : Value} {p : Operand} {ad : Addr}
theorem opIn_loadS (ho : o.op = .load t p) (hp : a.eval p = .pointer (some ad)) (hv : LoadIs P t ad v w) (h : K (a.put o.dst v) w) : Oper.wpIn F n P o a w K Q := by
  refine ⟨fun f hf => ?_, ?_⟩
  · simp [Oper.about, ho] at hf
  · rw [Oper.semAt_eq _ _ _ (by simp [ho]), exec_load ho hp hv]
    exact h
end
section
variable {F : Fence} {m : Nat} {P : Program} {ops : Array Oper} {Q : Exit → Act → World → Prop} {rest : List Oper} {o : Oper} {a : Act} {w w' : World} {v dv sv : Value}
theorem wpListIn_copyS {d s : Operand} {dT sT : TypeId} (hgd : o.guard = none) (ho : o.op = .call { callee := .builtin .copy, args := #[d, s], argTypes := #[dT, sT] }) (hd : a.eval d = dv) (hs : a.eval s = sv) (hr : ∀ ty, (Builtin.copy_ #[dT, sT] ty #[dv, sv]).run P w = .ok v w') (h : wpListIn F m P ops Q rest (a.put o.dst v) w') : wpListIn F m P ops Q (o :: rest) a w :=
  wpListIn_plain hgd fun K hK => by
    refine ⟨fun f hf => ?_, ?_⟩
    · simp [Oper.about, ho, resolve, Target.leads] at hf
    · rw [Oper.semAt_eq _ _ _ (by simp [ho])]
      unfold execOp
      simp [ho, resolve, invoke, builtin, hd, hs, hr, Result.andThen]
      exact hK _ _ h
end
set_option maxRecDepth 100000 in
set_option maxHeartbeats 4000000 in
theorem asked_yes {B : Nat} (P Q n : Nat) (hQ : P = Q + 1) (c : List (List UInt8)) (v : Value) (hok : ColOk P n c) (w : World) (hL : Laid w) (hB : B ≤ w.heap.size) (hM : Many B w v c) :
    Calls Tryd.prog 33 #[.int .i64 (P : Int), v] w fun e w' => ∃ vs, e = .returned (.agg vs.toArray) ∧ ColV w'.heap.size w' P n (wholeF Q n c) vs ∧ Below w.heap.size w w' := by
  obtain ⟨hp, hgc, h1, h64⟩ := hok
  have hpb := prm_bounds hp
  have hcl : c.length = Q := by have := hgc.1; omega
  have hce : ∀ r, r < Q → (c[r]?.getD []).length = n := fun r hr => (hgc.2 r (by omega)).2
  have hRD : RightD (P : Int) [c] := (rightD_iff hp (by simp)).2 (fun j hj => by
    obtain rfl : j = 0 := by simpa using hj
    have e : ((P : Int) - 1).toNat = P - 1 := by omega
    have e2 : (firstC [c]).length = n := by
      show (c[0]?.getD []).length = n
      exact hce 0 (by omega)
    rw [e, e2]
    exact hgc)
  obtain ⟨cap0, e0, _⟩ : ∃ cap, (∃ A, v = .slice A c.length cap) ∧ True := by obtain ⟨A, cap, e, _⟩ := hM; exact ⟨cap, ⟨A, e⟩, trivial⟩
  obtain ⟨Av, rfl⟩ := e0
  obtain ⟨cb, co, rfl, hcb, hcell⟩ := many_at hM (by omega)
  rw [hcl] at hM ⊢
  have hcell' : ∀ j, j < Q → ∃ A cap, w.cell? ⟨cb, co + j, none⟩ = some (.slice A (c[j]?.getD []).length cap) ∧ Bytes B w (.slice A (c[j]?.getD []).length cap) (c[j]?.getD []) := fun j hj => hcell j (by omega)
  obtain ⟨cvs, hvl, hvc, hvb, hv1⟩ := many_list hcell'
  obtain ⟨A0, c0, k0, _⟩ := hcell' 0 (by omega)
  rw [hce 0 (by omega), Nat.add_zero] at k0
  obtain ⟨WX, hWX⟩ : ∃ x, (w.alloc (.cells #[.int .i64 0, .slice none 0 0, .slice none 0 0, .slice none 0 0, .slice none 0 0, .slice none 0 0, .slice none 0 0, .slice none 0 0, .slice none 0 0, .slice none 0 0, .slice none 0 0, .slice none 0 0, .slice none 0 0, .slice none 0 0, .slice none 0 0, .slice none 0 0, .slice none 0 0, .slice none 0 0] 57)) = x := ⟨_, rfl⟩
  have hBX : Below w.heap.size w WX := by rw [← hWX]; exact below_one w _
  have bX : Blk WX w.heap.size 57 #[.int .i64 0, .slice none 0 0, .slice none 0 0, .slice none 0 0, .slice none 0 0, .slice none 0 0, .slice none 0 0, .slice none 0 0, .slice none 0 0, .slice none 0 0, .slice none 0 0, .slice none 0 0, .slice none 0 0, .slice none 0 0, .slice none 0 0, .slice none 0 0, .slice none 0 0, .slice none 0 0] := by rw [← hWX]; exact Blk.new w _ _
  have sX : WX.heap.size = w.heap.size + 1 := by rw [← hWX]; simp
  have hCols : ∀ U, Blk U WX.heap.size 23 #[.slice (some ⟨cb, co, none⟩) Q cap0] → Below WX.heap.size WX U → E.Cols U.heap.size U (.slice (some ⟨WX.heap.size, 0, none⟩) 1 1) [c] := fun U hb hU => by
    refine ⟨_, 1, rfl, Nat.le_refl _, fun _ => ⟨WX.heap.size, 0, rfl, hb.lt, fun j hj => ?_⟩⟩
    obtain rfl : j = 0 := by simpa using hj
    exact ⟨_, hb.cell 0, (hM.below ((below_in hBX hU).mono hB)).more (Nat.le_trans hB (below_in hBX hU).size)⟩
  have HRI := Lib.hid (fun (U : World) (hb : Blk U WX.heap.size 23 #[.slice (some ⟨cb, co, none⟩) Q cap0]) (hU : Below WX.heap.size WX U) => right_yes (P : Int) _ [c] U (hL.next (below_in hBX hU)) (Nat.le_refl _) (hCols U hb hU) (by simp) hRD)
  have HLA := Lib.hid (fun (us : List Value) (h : us[0]? = some (.int .i64 (P : Int))) (U : World) => last_any P Q hQ us (by omega) h U)
  have HZ := Lib.hid (fun (U : World) => zero_yes n h1 h64 U)
  obtain ⟨us, hus⟩ : ∃ us, (Value.int .i64 (P : Int)) :: (cvs ++ List.replicate (17 - Q) (.slice none 0 0)) = us := ⟨_, rfl⟩
  have hul : us.length = 18 := by rw [← hus, List.length_cons, List.length_append, List.length_replicate]; omega
  have hus0 : us[0]? = some (.int .i64 (P : Int)) := by rw [← hus]; rfl
  have husg : ∀ r, r < Q → us[r + 1]? = cvs[r]? := fun r hr => by rw [← hus, List.getElem?_cons_succ, List.getElem?_append_left (by omega)]
  have hus1 : ∀ x ∈ us, x.oneCell' = true := fun x hx => by
    rw [← hus] at hx
    rcases List.mem_cons.1 hx with rfl | hx
    · rfl
    · rcases List.mem_append.1 hx with hx | hx
      · exact hv1 x hx
      · rw [(List.mem_replicate.1 hx).2]; rfl
  have HCP := Lib.hid (fun (Wa WB : World) (hb : Blk WB Wa.heap.size 57 #[.int .i64 (P : Int), .slice none 0 0, .slice none 0 0, .slice none 0 0, .slice none 0 0, .slice none 0 0, .slice none 0 0, .slice none 0 0, .slice none 0 0, .slice none 0 0, .slice none 0 0, .slice none 0 0, .slice none 0 0, .slice none 0 0, .slice none 0 0, .slice none 0 0, .slice none 0 0, .slice none 0 0]) (hc : ∀ j u, cvs[j]? = some u → WB.cell? ⟨cb, co + j, none⟩ = some u) (ty : TypeId) => (by
    have := run_copy_row (P := Tryd.prog) WB 22 23 ty 48 Wa.heap.size 1 17 17 ⟨cb, co, none⟩ Q cap0 #[.int .i64 (P : Int), .slice none 0 0, .slice none 0 0, .slice none 0 0, .slice none 0 0, .slice none 0 0, .slice none 0 0, .slice none 0 0, .slice none 0 0, .slice none 0 0, .slice none 0 0, .slice none 0 0, .slice none 0 0, .slice none 0 0, .slice none 0 0, .slice none 0 0, .slice none 0 0, .slice none 0 0] 57 cvs Tryd.underlying22 (by kernel_rfl) hb (by rw [hvl]; exact (Nat.min_eq_left (by omega)).symm) (fun j u hu => by rw [addr_add]; exact hc j u hu) (by rw [hvl]; show 1 + Q ≤ 18; omega) hv1
    rw [show (#[Value.int .i64 (P : Int), .slice none 0 0, .slice none 0 0, .slice none 0 0, .slice none 0 0, .slice none 0 0, .slice none 0 0, .slice none 0 0, .slice none 0 0, .slice none 0 0, .slice none 0 0, .slice none 0 0, .slice none 0 0, .slice none 0 0, .slice none 0 0, .slice none 0 0, .slice none 0 0, .slice none 0 0].toList.take 1 ++ cvs ++ #[Value.int .i64 (P : Int), .slice none 0 0, .slice none 0 0, .slice none 0 0, .slice none 0 0, .slice none 0 0, .slice none 0 0, .slice none 0 0, .slice none 0 0, .slice none 0 0, .slice none 0 0, .slice none 0 0, .slice none 0 0, .slice none 0 0, .slice none 0 0, .slice none 0 0, .slice none 0 0, .slice none 0 0].toList.drop (1 + cvs.length)) = us from by
      rw [← hus, hvl, Nat.add_comm 1 Q]
      show [Value.int .i64 (P : Int)] ++ cvs ++ (List.replicate 17 (Value.slice none 0 0)).drop Q = _
      rw [List.drop_replicate]
      rfl] at this
    exact this : (Builtin.copy_ #[22, 23] ty #[.slice (some ⟨Wa.heap.size, 1, none⟩) 17 17, .slice (some ⟨cb, co, none⟩) Q cap0]).run Tryd.prog WB = .ok (goInt cvs.length) (WB.setRow Wa.heap.size us.toArray)))
  have HCV := Lib.hid (fun (U : World) (hU : Below w.heap.size w U) (j : Nat) (u : Value) (hu : cvs[j]? = some u) => (hU.cell (p := ⟨cb, co + j, none⟩) (Nat.lt_of_lt_of_le hcb hB)).trans (hvc j u hu))
  have HK0 := Lib.hid (fun (U : World) (hU : Below w.heap.size w U) => (hU.cell (p := ⟨cb, co, none⟩) (Nat.lt_of_lt_of_le hcb hB)).trans k0)
  have HVB := Lib.hid (fun (U : World) (hU : Below w.heap.size w U) (r : Nat) (hr : r < Q) => (by
    obtain ⟨u, hu, hb⟩ := hvb r hr
    exact ⟨u, (husg r hr).trans hu, (hb.below (hU.mono hB)).more (Nat.le_trans hB hU.size)⟩ : ∃ u, us[r + 1]? = some u ∧ Bytes U.heap.size U u (c[r]?.getD [])))
  have HQ := Lib.hid hQ
  have HCE := Lib.hid hce
  have HPB := Lib.hid hpb
  have HUS1 := Lib.hid hus1
  have HUSL := Lib.hid hul
  have HSX := Lib.hid sX
  have hcq : 0 < Q := by omega
  clear hus husg hvl hvc hvb hv1 hcell hcell' k0 hRD hCols hgc hcl hce hQ hp hpb hM hL hus1 hul sX
  refine (callsIn_wide (n := 9)).1 ?_
  refine callsIn_of_wp_marks Tryd.func33 rfl trivial ?_ rfl
  simp only [Tryd.ntmps33, List.size_toArray, List.length_cons, List.length_nil, Nat.reduceAdd, Nat.reduceSub, Array.replicate_succ, Array.replicate_zero, List.push_toArray, List.append_toArray, List.nil_append, List.cons_append]
  gi_wp2_with fail
  obtain ⟨WY, hWY⟩ : ∃ x, (WX.alloc (.cells #[.slice (some ⟨cb, co, none⟩) Q cap0] 23)) = x := ⟨_, rfl⟩
  have hBY : Below WX.heap.size WX WY := by rw [← hWY]; exact below_one WX _
  have bY : Blk WY WX.heap.size 23 #[.slice (some ⟨cb, co, none⟩) Q cap0] := by rw [← hWY]; exact Blk.new WX _ _
  rw [hWY]
  refine ⟨trivial, (callsIn_wide.2 (HRI.out WY bY hBY)).mono ?_⟩
  rintro e Wa ⟨rfl, hBa⟩
  have hBwa : Below w.heap.size w Wa := below_in hBX (below_in hBY hBa)
  have bXa := bX.below (below_in hBY hBa) bX.lt
  clear hWX hWY bY
  gi_wp2_with fail
  refine ⟨trivial, (callsIn_wide.2 (need_yes Wa)).mono ?_⟩
  rintro e Wa' ⟨rfl, rfl⟩
  have hstn := run_storeVar_new (P := Tryd.prog) Wa 57 #[.int .i64 0, .slice none 0 0, .slice none 0 0, .slice none 0 0, .slice none 0 0, .slice none 0 0, .slice none 0 0, .slice none 0 0, .slice none 0 0, .slice none 0 0, .slice none 0 0, .slice none 0 0, .slice none 0 0, .slice none 0 0, .slice none 0 0, .slice none 0 0, .slice none 0 0, .slice none 0 0] #[.int .i64 (P : Int), .slice none 0 0, .slice none 0 0, .slice none 0 0, .slice none 0 0, .slice none 0 0, .slice none 0 0, .slice none 0 0, .slice none 0 0, .slice none 0 0, .slice none 0 0, .slice none 0 0, .slice none 0 0, .slice none 0 0, .slice none 0 0, .slice none 0 0, .slice none 0 0, .slice none 0 0] (by kernel_rfl) rfl (by rw [Array.all_eq_true_iff_forall_mem]; intro v hv; exact one_nils _ v (by simpa using hv))
  obtain ⟨WB, hWB⟩ : ∃ x, Wa.alloc (.cells #[.int .i64 (P : Int), .slice none 0 0, .slice none 0 0, .slice none 0 0, .slice none 0 0, .slice none 0 0, .slice none 0 0, .slice none 0 0, .slice none 0 0, .slice none 0 0, .slice none 0 0, .slice none 0 0, .slice none 0 0, .slice none 0 0, .slice none 0 0, .slice none 0 0, .slice none 0 0, .slice none 0 0] 57) = x := ⟨_, rfl⟩
  have hBb : Below Wa.heap.size Wa WB := by rw [← hWB]; exact below_one Wa _
  have bB : Blk WB Wa.heap.size 57 #[.int .i64 (P : Int), .slice none 0 0, .slice none 0 0, .slice none 0 0, .slice none 0 0, .slice none 0 0, .slice none 0 0, .slice none 0 0, .slice none 0 0, .slice none 0 0, .slice none 0 0, .slice none 0 0, .slice none 0 0, .slice none 0 0, .slice none 0 0, .slice none 0 0, .slice none 0 0, .slice none 0 0] := by rw [← hWB]; exact Blk.new Wa _ _
  rw [hWB] at hstn
  have hcp := HCP.out Wa WB bB (HCV.out WB (below_in hBwa hBb))
  obtain ⟨WC, hWC⟩ : ∃ x, WB.setRow Wa.heap.size us.toArray = x := ⟨_, rfl⟩
  rw [hWC] at hcp
  have hwa := hBwa.size
  have hBc : Below w.heap.size w WC := by rw [← hWC]; exact C.below_setRow (below_in hBwa hBb) hwa _
  have bC : Blk WC Wa.heap.size 57 us.toArray := by rw [← hWC]; exact bB.setRow _
  have hlx := bXa.lt
  have bXc : Blk WC w.heap.size 57 #[.int .i64 0, .slice none 0 0, .slice none 0 0, .slice none 0 0, .slice none 0 0, .slice none 0 0, .slice none 0 0, .slice none 0 0, .slice none 0 0, .slice none 0 0, .slice none 0 0, .slice none 0 0, .slice none 0 0, .slice none 0 0, .slice none 0 0, .slice none 0 0, .slice none 0 0, .slice none 0 0] := by rw [← hWC]; exact (bXa.below hBb bXa.lt).farRow (by omega) _
  have hcg := bC.lt
  have HSS : Hid (∀ U, Below WC.heap.size WC U → (fun U : World => U.cell? ⟨cb, co, none⟩ = some (.slice A0 n c0)) U) := fun U hU => HK0.out U (below_in hBc hU)
  have HST : Hid (∀ U, Below WC.heap.size WC U → ∀ zA zc, (fun U : World => U.cell? ⟨cb, co, none⟩ = some (.slice A0 n c0)) (U.setCell ⟨Wa.heap.size, 1 + Q, none⟩ (.slice zA n zc))) := fun U hU zA zc => by
    have hc := HK0.out U (below_in hBc hU)
    exact (World.cell?_of_block (Below.heap_setCell U ⟨Wa.heap.size, 1 + Q, none⟩ _ cb (by show cb ≠ Wa.heap.size; omega))).trans hc
  have HOLD : Hid (∀ U, Below WC.heap.size WC U → ∃ old, U.cell? ⟨Wa.heap.size, 1 + Q, none⟩ = some old) := fun U hU => ⟨_, by rw [(bC.below hU bC.lt).cell, List.getElem?_toArray, List.getElem?_eq_getElem (by have := HUSL.out; have := HPB.out; have := HQ.out; omega)]⟩
  have HFZ : Hid (∀ U, Below WC.heap.size WC U → U.frozen? ⟨Wa.heap.size, 1 + Q, none⟩ = false) := fun U hU => (bC.below hU bC.lt).frozen _
  have HBC := Lib.hid bC
  have hBCd : Blk WC.drew Wa.heap.size 57 us.toArray := bC
  have HBXC := Lib.hid bXc
  clear bB bC bXc bXa bX hWC
  have hcvl : cvs.length = cvs.length := rfl
  gi_wp2_with (first | refine wpListIn_storeS rfl rfl rfl rfl hstn ?_ | refine wpListIn_copyS rfl rfl rfl rfl hcp ?_)
  simp only [Act.put, List.setIfInBounds_toArray, List.set_cons_zero, List.set_cons_succ]
  have hBx := (Below.refl WC.heap.size WC).drew
  have i1 : (0 : Int) ≤ (Q : Int) := by omega
  have i2 : (Q : Int) < 17 := by have := HPB.out; have := HQ.out; omega
  have hS : (fun U : World => U.cell? ⟨cb, co, none⟩ = some (.slice A0 n c0)) WC.drew := HSS.out _ hBx
  refine wpIn_mono (region_HF (Q := NoPanic _) (S := (fun U : World => U.cell? ⟨cb, co, none⟩ = some (.slice A0 n c0))) (by kernel_rfl) ?_) NoPanic.imp
  refine anyHF_take (i := 2) (d := 19) (v := .slice (some ⟨cb, co, none⟩) Q cap0) (by kernel_rfl) rfl (by kernel_rfl) (by kernel_rfl) (by kernel_rfl) rfl (fun _ _ _ h => h) ⟨Or.inl ⟨by rfl, fun w hS => by have h0 := hS; go_simp⟩, fun _ => rfl⟩ hS ?_
  simp only [List.setIfInBounds_toArray, List.set_cons_zero, List.set_cons_succ]
  refine anyHF_take (i := 3) (d := 20) (v := .pointer (some ⟨cb, co, none⟩)) (by kernel_rfl) rfl (by kernel_rfl) (by kernel_rfl) (by kernel_rfl) rfl (fun _ _ _ h => h) ⟨Or.inl ⟨by rfl, fun w hS => by have h0 := hS; go_simp⟩, fun _ => rfl⟩ hS ?_
  simp only [List.setIfInBounds_toArray, List.set_cons_zero, List.set_cons_succ]
  refine anyHF_take (i := 4) (d := 21) (v := .slice A0 n c0) (by kernel_rfl) rfl (by kernel_rfl) (by kernel_rfl) (by kernel_rfl) rfl (fun _ _ _ h => h) ⟨Or.inl ⟨by rfl, fun w hS => by have h0 := hS; go_simp⟩, fun _ => rfl⟩ hS ?_
  simp only [List.setIfInBounds_toArray, List.set_cons_zero, List.set_cons_succ]
  refine anyHF_take (i := 5) (d := 22) (v := .int .i64 (n : Int)) (by kernel_rfl) rfl (by kernel_rfl) (by kernel_rfl) (by kernel_rfl) rfl (fun _ _ _ h => h) ⟨Or.inl ⟨by rfl, fun w hS => by have h0 := hS; go_simp⟩, fun _ => rfl⟩ hS ?_
  simp only [List.setIfInBounds_toArray, List.set_cons_zero, List.set_cons_succ]
  refine anyHF_take (i := 10) (d := 27) (v := .pointer (some ⟨Wa.heap.size, 1, none⟩)) (by kernel_rfl) rfl (by kernel_rfl) (by kernel_rfl) (by kernel_rfl) rfl (fun _ _ _ h => h) ⟨Or.inl ⟨by rfl, fun w hS => by have h0 := hS; go_simp⟩, fun _ => rfl⟩ hS ?_
  simp only [List.setIfInBounds_toArray, List.set_cons_zero, List.set_cons_succ]
  refine anyHF_one (i := 0) (by kernel_rfl) rfl (by kernel_rfl) (by rfl) ?_
  refine opIn_loadS rfl rfl (load_col0 hBCd HUSL.out) ?_
  gi_wp2
  try (refine ⟨hS, ?_⟩)
  refine anyHF_one (i := 1) (by kernel_rfl) rfl (by kernel_rfl) (by rfl) ?_
  gi_wp2_with fail
  refine ⟨trivial, (callsIn_wide.2 (HLA.out us hus0 _)).mono ?_⟩
  rintro e w1 ⟨rfl, hB1⟩
  replace hBx := below_in hBx hB1
  clear hS
  have hS : (fun U : World => U.cell? ⟨cb, co, none⟩ = some (.slice A0 n c0)) w1 := HSS.out _ hBx
  gi_wp2
  try (refine ⟨hS, ?_⟩)
  refine anyHF_one (i := 6) (by kernel_rfl) rfl (by kernel_rfl) (by rfl) ?_
  gi_wp2_with fail
  refine ⟨trivial, (callsIn_wide.2 (HZ.out _)).mono ?_⟩
  rintro e w2 ⟨z, rfl, hz, hB2⟩
  obtain ⟨zA, zc, ez⟩ := fresh_slice hz
  rw [List.length_replicate] at ez
  subst ez
  have hsz := hBx.size
  replace hBx := below_in hBx hB2
  clear hS
  have hS : (fun U : World => U.cell? ⟨cb, co, none⟩ = some (.slice A0 n c0)) w2 := HSS.out _ hBx
  gi_wp2
  try (refine ⟨hS, ?_⟩)
  refine anyHF_take (i := 7) (d := 24) (v := .slice zA n zc) (by kernel_rfl) rfl (by kernel_rfl) (by kernel_rfl) (by kernel_rfl) rfl (fun _ _ _ h => h) ⟨Or.inl ⟨by rfl, fun w hS => by have h0 := hS; go_simp⟩, fun _ => rfl⟩ hS ?_
  simp only [List.setIfInBounds_toArray, List.set_cons_zero, List.set_cons_succ]
  refine anyHF_take (i := 8) (d := 25) (v := .int .i64 0) (by kernel_rfl) rfl (by kernel_rfl) (by kernel_rfl) (by kernel_rfl) rfl (fun _ _ _ h => h) ⟨Or.inl ⟨by rfl, fun w hS => by have h0 := hS; go_simp⟩, fun _ => rfl⟩ hS ?_
  simp only [List.setIfInBounds_toArray, List.set_cons_zero, List.set_cons_succ]
  refine anyHF_one (i := 9) (by kernel_rfl) rfl (by kernel_rfl) (by rfl) ?_
  gi_wp2_with fail
  refine ⟨trivial, (callsIn_wide.2 (sureB (.slice zA n zc) _)).mono ?_⟩
  rintro e w3 ⟨rfl, hww⟩
  subst hww
  gi_wp2
  try (refine ⟨hS, ?_⟩)
  refine anyHF_take (i := 11) (d := 28) (v := .pointer (some ⟨Wa.heap.size, 1 + Q, none⟩)) (by kernel_rfl) rfl (by kernel_rfl) (by kernel_rfl) (by kernel_rfl) rfl (fun _ _ _ h => h) ⟨Or.inl ⟨by rfl, fun w hS => by have h0 := hS; go_simp⟩, fun _ => rfl⟩ hS ?_
  simp only [List.setIfInBounds_toArray, List.set_cons_zero, List.set_cons_succ]
  refine anyHF_one (i := 12) (by kernel_rfl) rfl (by kernel_rfl) (by rfl) ?_
  have h0 := hS
  have hST := HST.out _ hBx zA zc
  obtain ⟨old, hold⟩ := HOLD.out _ hBx
  have hfz := HFZ.out _ hBx
  gi_wp2_with fail
  try (refine ⟨hST, ?_⟩)
  refine anyHF_done (by kernel_rfl) ?_ _
  refine NoPanic.normal ?_
  have c1 := HBC.out.below hBx HBC.out.lt
  have hus2 : (us.set (1 + Q) (.slice zA n zc)).length = 18 := by rw [List.length_set]; exact HUSL.out
  have hB1z := hB1.size
  have c2 : Blk (w2.setCell ⟨Wa.heap.size, 1 + Q, none⟩ (.slice zA n zc)) Wa.heap.size 57 (us.set (1 + Q) (.slice zA n zc)).toArray := by
    have := c1.set_ (1 + Q) (.slice zA n zc)
    rwa [List.setIfInBounds_toArray] at this
  have hlx := HBXC.out.lt
  have hxa : w.heap.size < Wa.heap.size := by have := HSX.out; have := hBY.size; have := hBa.size; omega
  have c3 : Blk (w2.setCell ⟨Wa.heap.size, 1 + Q, none⟩ (.slice zA n zc)) w.heap.size 57 #[.int .i64 0, .slice none 0 0, .slice none 0 0, .slice none 0 0, .slice none 0 0, .slice none 0 0, .slice none 0 0, .slice none 0 0, .slice none 0 0, .slice none 0 0, .slice none 0 0, .slice none 0 0, .slice none 0 0, .slice none 0 0, .slice none 0 0, .slice none 0 0, .slice none 0 0, .slice none 0 0] := (HBXC.out.below hBx hlx).far (by show w.heap.size ≠ Wa.heap.size; omega) _
  have hone : ∀ x ∈ us.set (1 + Q) (.slice zA n zc), x.oneCell' = true := fun x hx => by
    rcases List.mem_or_eq_of_mem_set hx with h | rfl
    · exact HUS1.out x h
    · rfl
  have HLD := load_col0 c2 hus2
  have HSD := store_col0 (cs := [.int .i64 0, .slice none 0 0, .slice none 0 0, .slice none 0 0, .slice none 0 0, .slice none 0 0, .slice none 0 0, .slice none 0 0, .slice none 0 0, .slice none 0 0, .slice none 0 0, .slice none 0 0, .slice none 0 0, .slice none 0 0, .slice none 0 0, .slice none 0 0, .slice none 0 0, .slice none 0 0]) c3 rfl hus2 hone
  have hBf := (below_in hBc hBx).setCell (p := ⟨Wa.heap.size, 1 + Q, none⟩) (by show w.heap.size ≤ Wa.heap.size; omega) (.slice zA n zc)
  have hBg := C.below_setRow hBf (Nat.le_refl w.heap.size) (us.set (1 + Q) (.slice zA n zc)).toArray
  have HFIN : Hid (ColV ((w2.setCell ⟨Wa.heap.size, 1 + Q, none⟩ (.slice zA n zc)).setRow w.heap.size (us.set (1 + Q) (.slice zA n zc)).toArray).heap.size ((w2.setCell ⟨Wa.heap.size, 1 + Q, none⟩ (.slice zA n zc)).setRow w.heap.size (us.set (1 + Q) (.slice zA n zc)).toArray) P n (wholeF Q n c) (us.set (1 + Q) (.slice zA n zc)) ∧ LoadIs Tryd.prog 57 ⟨w.heap.size, 0, none⟩ (.agg (us.set (1 + Q) (.slice zA n zc)).toArray) ((w2.setCell ⟨Wa.heap.size, 1 + Q, none⟩ (.slice zA n zc)).setRow w.heap.size (us.set (1 + Q) (.slice zA n zc)).toArray)) := by
    refine ⟨⟨hus2, by rw [List.getElem?_set_ne (by omega)]; exact hus0, fun r hr => ?_, hone⟩, load_col0 (c3.setRow _) hus2⟩
    have hlq := HQ.out
    by_cases hrq : r < Q
    · obtain ⟨u, hu, hb⟩ := HVB.out _ hBg r hrq
      refine ⟨by unfold wholeF; rw [if_pos hrq]; exact HCE.out r hrq, u, by rw [List.getElem?_set_ne (by omega)]; exact hu, ?_⟩
      unfold wholeF
      rw [if_pos hrq]
      exact hb
    · obtain rfl : r = Q := by omega
      refine ⟨by unfold wholeF; rw [if_neg hrq]; simp, .slice zA n zc, by rw [Nat.add_comm r 1]; exact List.getElem?_set_self (by have := HUSL.out; have := HPB.out; omega), ?_⟩
      unfold wholeF
      rw [if_neg hrq]
      have hzb : BytesA (fun b => b < w1.heap.size) w2 (.slice zA n zc) (List.replicate n 0) := BytesA.of_fresh hz (fun b h => h)
      have hw1 : Wa.heap.size < w1.heap.size := by have := HBC.out.lt; omega
      exact ((hzb.only (Only.set (A := fun b => b < w1.heap.size) (p := ⟨Wa.heap.size, 1 + r, none⟩) hw1 _)).only (Only.row (A := fun b => b < w1.heap.size) (g := w.heap.size) (by omega) _)).bytes
  clear hone c1 c2 c3 hz hcp hstn
  have HBG := Lib.hid hBg
  generalize us.set (1 + Q) (.slice zA n zc) = us2 at *
  gi_wp2_with (first | refine wpListIn_loadS rfl rfl rfl HLD ?_ | refine wpListIn_storeS rfl rfl rfl rfl HSD ?_)
  exact ⟨_, results_cell rfl rfl HFIN.out.2, us2, rfl, HFIN.out.1, HBG.out⟩
end Go.Proofs.YtckfepmahjgmfaaDoor.Rg

namespace Go.Proofs.YtckfepmahjgmfaaDoor.Rg
open Go.RowKit Go.Shelf Go.Maps Go.Proofs.YtckfepmahjgmfaaDoor.C Go.Proofs.YtckfepmahjgmfaaDoor.E
set_option linter.unusedSimpArgs false
set_option linter.unusedVariables false
attribute [local go_sem] Oper.semAt_some

theorem freshMany_only {A : Nat → Prop} {X Y : World} {v : Value} {ls : List (List UInt8)} {base : Nat} (h : FreshMany base X v ls) (ho : Only A X Y) (hA : ∀ b, A b → b < base) : FreshMany base Y v ls := by
  obtain ⟨a, cap, e, hc, hb⟩ := h
  refine ⟨a, cap, e, hc, fun hp => ?_⟩
  obtain ⟨b, off, e2, h1, h2, hcell⟩ := hb hp
  exact ⟨b, off, e2, h1, Nat.lt_of_lt_of_le h2 ho.1, fun j hj => by
    obtain ⟨u, h3, h4⟩ := hcell j hj
    exact ⟨u, (World.cell?_of_block (ho.2 b h2 (fun e => by have := hA b e; omega))).trans h3, fresh_only h4 ho hA⟩⟩
theorem enter_turn1 : ∀ args W, (callFunc 32 args).run Tryd.prog W = .ok (.enter 32 args) W := enters_of Tryd.func32 (by kernel_rfl) rfl
set_option maxRecDepth 100000 in
set_option maxHeartbeats 4000000 in
theorem turn_yes {B : Nat} (P Q n : Nat) (hQ : P = Q + 1) (c : List (List UInt8)) (v : Value) (by_ : Int) (y1 : -9223372036854775808 ≤ by_) (y2 : by_ ≤ 9223372036854775807) (hok : ColOk P n c) (w : World) (hL : Laid w) (hB : B ≤ w.heap.size) (hM : Many B w v c) :
    Calls Tryd.prog 14 #[.int .i64 (P : Int), v, .int .i64 by_] w fun e w' => ∃ u, e = .returned (.tuple #[u, .int .i64 0]) ∧ FreshMany w.heap.size w' u (rowK 1 Q (fun _ r => xorOf [mvF P by_ (wholeF Q n c) r, mvF P by_ (wholeF Q n c) Q])) ∧ Below w.heap.size w w' := by
  obtain ⟨A, cap, rfl, _, _⟩ := id hM
  obtain ⟨C, hC⟩ : ∃ C, c.length = C := ⟨_, rfl⟩
  rw [hC] at hM ⊢
  obtain ⟨W2, hW2⟩ : ∃ x, ((w.alloc (.cells #[.int .i64 (P : Int)] 3)).alloc (.cells #[.slice A C cap] 23)).alloc (.cells #[.int .i64 by_] 3) = x := ⟨_, rfl⟩
  have b0 : Blk W2 w.heap.size 3 #[.int .i64 (P : Int)] := by rw [← hW2]; exact ((Blk.new w _ _).alloc _).alloc _
  have b1 : Blk W2 (w.heap.size + 1) 23 #[.slice A C cap] := by rw [← hW2]; exact (Blk.second w _ _ _).alloc _
  have b2 : Blk W2 (w.heap.size + 1 + 1) 3 #[.int .i64 by_] := by rw [← hW2]; exact Blk.at_ (Blk.new _ _ _) (by simp)
  have hBW : Below w.heap.size w W2 := by rw [← hW2]; exact (below_two w _ _).alloc (by simp; omega) _
  obtain ⟨W2b, hb⟩ : ∃ x, w.heap.size = x := ⟨_, rfl⟩
  obtain ⟨W2c, hc⟩ : ∃ x, w.heap.size + 1 = x := ⟨_, rfl⟩
  obtain ⟨W2d, hd⟩ : ∃ x, w.heap.size + 1 + 1 = x := ⟨_, rfl⟩
  have h1 := hok.2.2.1
  have h64 := hok.2.2.2
  have HA := Lib.hid (ans_C_yes 32 #[.pointer (some ⟨w.heap.size, 0, none⟩), .pointer (some ⟨w.heap.size + 1, 0, none⟩), .pointer (some ⟨w.heap.size + 1 + 1, 0, none⟩)] W2 (fun u W => ∃ a b c', u = .slice a b c' ∧ FreshMany (W2.heap.size + 1) W u (rowK 1 Q (fun _ r => xorOf [mvF P by_ (wholeF Q n c) r, mvF P by_ (wholeF Q n c) Q]))) (enter_turn1 _) (fun U hU bU => by
    have hBU := below_in hBW hU
    have hltU := bU.lt
    have HQ := Lib.hid (fun (V : World) (hV : Below U.heap.size U V) => asked_yes (B := B) P Q n hQ c (.slice A C cap) hok V (hL.next (below_in hBU hV)) (Nat.le_trans hB (below_in hBU hV).size) (hM.below ((below_in hBU hV).mono hB)))
    have HE := Lib.hid (fun (vs : List Value) (V : World) (hV : Below U.heap.size U V) (hvs : ColV V.heap.size V P n (wholeF Q n c) vs) => turned_any P Q n hQ hok.1 h1 h64 (wholeF Q n c) vs by_ y1 y2 V (hL.next (below_in hBU hV)) (Nat.le_refl _) hvs)
    have HSS : Hid (∀ V, Below U.heap.size U V → (fun U : World => U.cell? ⟨W2b, 0, none⟩ = some (.int .i64 (P : Int)) ∧ U.cell? ⟨W2c, 0, none⟩ = some (.slice A C cap) ∧ U.cell? ⟨W2d, 0, none⟩ = some (.int .i64 by_)) V) := by
      rw [← hb, ← hc, ← hd]
      exact fun V hV => ⟨((b0.below hU b0.lt).below hV (Nat.lt_of_lt_of_le b0.lt hU.size)).one, ((b1.below hU b1.lt).below hV (Nat.lt_of_lt_of_le b1.lt hU.size)).one, ((b2.below hU b2.lt).below hV (Nat.lt_of_lt_of_le b2.lt hU.size)).one⟩
    have hBx := (Below.refl U.heap.size U).drew
    rw [hd, hc, hb]
    clear hM b0 b1 b2 hW2 hL hok hc hd hb hC bU hQ
    refine (callsIn_wide (n := 9)).1 ?_
    refine callsIn_of_wp_marks Tryd.func32 rfl trivial ?_ rfl
    simp only [Tryd.ntmps32, List.size_toArray, List.length_cons, List.length_nil, Nat.reduceAdd, Nat.reduceSub, Array.replicate_succ, Array.replicate_zero, List.push_toArray, List.append_toArray, List.nil_append, List.cons_append]
    gi_wp2_with fail
    have hS : (fun U : World => U.cell? ⟨W2b, 0, none⟩ = some (.int .i64 (P : Int)) ∧ U.cell? ⟨W2c, 0, none⟩ = some (.slice A C cap) ∧ U.cell? ⟨W2d, 0, none⟩ = some (.int .i64 by_)) U.drew := HSS.out _ hBx
    refine wpIn_mono (region_HF (Q := NoPanic _) (S := (fun U : World => U.cell? ⟨W2b, 0, none⟩ = some (.int .i64 (P : Int)) ∧ U.cell? ⟨W2c, 0, none⟩ = some (.slice A C cap) ∧ U.cell? ⟨W2d, 0, none⟩ = some (.int .i64 by_))) (by kernel_rfl) ?_) NoPanic.imp
    refine anyHF_take (i := 0) (d := 4) (v := .int .i64 (P : Int)) (by kernel_rfl) rfl (by kernel_rfl) (by kernel_rfl) (by kernel_rfl) rfl (fun _ _ _ h => h) ⟨Or.inl ⟨by rfl, fun w hS => by obtain ⟨h0, h1, h2⟩ := hS; go_simp⟩, fun _ => rfl⟩ hS ?_
    simp only [List.setIfInBounds_toArray, List.set_cons_zero, List.set_cons_succ]
    refine anyHF_take (i := 1) (d := 5) (v := .slice A C cap) (by kernel_rfl) rfl (by kernel_rfl) (by kernel_rfl) (by kernel_rfl) rfl (fun _ _ _ h => h) ⟨Or.inl ⟨by rfl, fun w hS => by obtain ⟨h0, h1, h2⟩ := hS; go_simp⟩, fun _ => rfl⟩ hS ?_
    simp only [List.setIfInBounds_toArray, List.set_cons_zero, List.set_cons_succ]
    refine anyHF_take (i := 3) (d := 7) (v := .int .i64 by_) (by kernel_rfl) rfl (by kernel_rfl) (by kernel_rfl) (by kernel_rfl) rfl (fun _ _ _ h => h) ⟨Or.inl ⟨by rfl, fun w hS => by obtain ⟨h0, h1, h2⟩ := hS; go_simp⟩, fun _ => rfl⟩ hS ?_
    simp only [List.setIfInBounds_toArray, List.set_cons_zero, List.set_cons_succ]
    refine anyHF_one (i := 2) (by kernel_rfl) rfl (by kernel_rfl) (by rfl) ?_
    gi_wp2_with fail
    refine ⟨trivial, (callsIn_wide.2 (HQ.out _ hBx)).mono ?_⟩
    rintro e w1 ⟨vs, rfl, hvs, hB1⟩
    replace hBx := below_in hBx hB1
    clear hS
    have hS : (fun U : World => U.cell? ⟨W2b, 0, none⟩ = some (.int .i64 (P : Int)) ∧ U.cell? ⟨W2c, 0, none⟩ = some (.slice A C cap) ∧ U.cell? ⟨W2d, 0, none⟩ = some (.int .i64 by_)) w1 := HSS.out _ hBx
    gi_wp2
    try (refine ⟨hS, ?_⟩)
    refine anyHF_one (i := 4) (by kernel_rfl) rfl (by kernel_rfl) (by rfl) ?_
    gi_wp2_with fail
    refine ⟨trivial, (callsIn_wide.2 (HE.out vs w1 hBx hvs)).mono ?_⟩
    rintro e w2 ⟨u, rfl, hu, hB2⟩
    have hs1 := hBx.size
    obtain ⟨uA, un, uc, rfl⟩ : ∃ a b c, u = .slice a b c := by obtain ⟨a, c, e, _⟩ := hu; exact ⟨a, _, c, e⟩
    replace hBx := below_in hBx hB2
    clear hS
    have hS : (fun U : World => U.cell? ⟨W2b, 0, none⟩ = some (.int .i64 (P : Int)) ∧ U.cell? ⟨W2c, 0, none⟩ = some (.slice A C cap) ∧ U.cell? ⟨W2d, 0, none⟩ = some (.int .i64 by_)) w2 := HSS.out _ hBx
    gi_wp2
    try (refine ⟨hS, ?_⟩)
    refine anyHF_one (i := 5) (by kernel_rfl) rfl (by kernel_rfl) (by rfl) ?_
    gi_wp2
    refine anyHF_done (by kernel_rfl) ?_ _
    refine NoPanic.normal ?_
    gi_wp2
    exact ⟨_, by simp [results, Tryd.results32, go_sem], _, rfl, ⟨uA, un, uc, rfl, freshMany_more hu (by omega)⟩, hBx⟩))
  clear hM b0 b1 b2 hL hok hb hc hd hQ hC
  go_enter Tryd.func14, Tryd.ntmps14
  have hmf : ∀ (fn : Fn) (first cap : Array Value) (w : World), (Instr.makeFunc fn first cap).run Tryd.prog w = .ok (.func fn first cap) w := fun _ _ _ _ => rfl
  go_wp2_with (go_at_call 31; refine HA.out.mono ?_; rintro e w1 ⟨u, W, rfl, ⟨uA, un, uc, rfl, hu⟩, bE, rfl, hB1⟩)
  go_ret2
  exact ⟨_, rfl, freshMany_more (freshMany_only hu (Only.set (A := fun b => b = W2.heap.size) (p := ⟨W2.heap.size, 0, none⟩) rfl _) (fun b e => by have e : b = W2.heap.size := e; omega)) (by have := hBW.size; omega), below_in hBW hB1⟩
theorem enter_stretch1 : ∀ args W, (callFunc 35 args).run Tryd.prog W = .ok (.enter 35 args) W := enters_of Tryd.func35 (by kernel_rfl) rfl
set_option maxRecDepth 100000 in
set_option maxHeartbeats 4000000 in
theorem stretch_yes {B : Nat} (P Q n : Nat) (hQ : P = Q + 1) (c : List (List UInt8)) (v : Value) (by_ : Int) (y1 : -9223372036854775808 ≤ by_) (y2 : by_ ≤ 9223372036854775807) (hok : ColOk P n c) (w : World) (hL : Laid w) (hB : B ≤ w.heap.size) (hM : Many B w v c) :
    Calls Tryd.prog 15 #[.int .i64 (P : Int), v, .int .i64 by_] w fun e w' => ∃ u, e = .returned (.tuple #[u, .int .i64 0]) ∧ FreshMany w.heap.size w' u (rowK 2 Q (fun i r => if i = 0 then xorOf [wholeF Q n c r, wholeF Q n c Q] else xorOf [mvF P by_ (wholeF Q n c) r, mvF P by_ (wholeF Q n c) Q])) ∧ Below w.heap.size w w' := by
  obtain ⟨A, cap, rfl, _, _⟩ := id hM
  obtain ⟨C, hC⟩ : ∃ C, c.length = C := ⟨_, rfl⟩
  rw [hC] at hM ⊢
  obtain ⟨W2, hW2⟩ : ∃ x, ((w.alloc (.cells #[.int .i64 (P : Int)] 3)).alloc (.cells #[.slice A C cap] 23)).alloc (.cells #[.int .i64 by_] 3) = x := ⟨_, rfl⟩
  have b0 : Blk W2 w.heap.size 3 #[.int .i64 (P : Int)] := by rw [← hW2]; exact ((Blk.new w _ _).alloc _).alloc _
  have b1 : Blk W2 (w.heap.size + 1) 23 #[.slice A C cap] := by rw [← hW2]; exact (Blk.second w _ _ _).alloc _
  have b2 : Blk W2 (w.heap.size + 1 + 1) 3 #[.int .i64 by_] := by rw [← hW2]; exact Blk.at_ (Blk.new _ _ _) (by simp)
  have hBW : Below w.heap.size w W2 := by rw [← hW2]; exact (below_two w _ _).alloc (by simp; omega) _
  obtain ⟨W2b, hb⟩ : ∃ x, w.heap.size = x := ⟨_, rfl⟩
  obtain ⟨W2c, hc⟩ : ∃ x, w.heap.size + 1 = x := ⟨_, rfl⟩
  obtain ⟨W2d, hd⟩ : ∃ x, w.heap.size + 1 + 1 = x := ⟨_, rfl⟩
  have h1 := hok.2.2.1
  have h64 := hok.2.2.2
  have HA := Lib.hid (ans_C_yes 35 #[.pointer (some ⟨w.heap.size, 0, none⟩), .pointer (some ⟨w.heap.size + 1, 0, none⟩), .pointer (some ⟨w.heap.size + 1 + 1, 0, none⟩)] W2 (fun u W => ∃ a b c', u = .slice a b c' ∧ FreshMany (W2.heap.size + 1) W u (rowK 2 Q (fun i r => if i = 0 then xorOf [wholeF Q n c r, wholeF Q n c Q] else xorOf [mvF P by_ (wholeF Q n c) r, mvF P by_ (wholeF Q n c) Q]))) (enter_stretch1 _) (fun U hU bU => by
    have hBU := below_in hBW hU
    have hltU := bU.lt
    have HQ := Lib.hid (fun (V : World) (hV : Below U.heap.size U V) => asked_yes (B := B) P Q n hQ c (.slice A C cap) hok V (hL.next (below_in hBU hV)) (Nat.le_trans hB (below_in hBU hV).size) (hM.below ((below_in hBU hV).mono hB)))
    have HE := Lib.hid (fun (vs : List Value) (V : World) (hV : Below U.heap.size U V) (hvs : ColV V.heap.size V P n (wholeF Q n c) vs) => stretched_any P Q n hQ hok.1 h1 h64 (wholeF Q n c) vs by_ y1 y2 V (hL.next (below_in hBU hV)) (Nat.le_refl _) hvs)
    have HSS : Hid (∀ V, Below U.heap.size U V → (fun U : World => U.cell? ⟨W2b, 0, none⟩ = some (.int .i64 (P : Int)) ∧ U.cell? ⟨W2c, 0, none⟩ = some (.slice A C cap) ∧ U.cell? ⟨W2d, 0, none⟩ = some (.int .i64 by_)) V) := by
      rw [← hb, ← hc, ← hd]
      exact fun V hV => ⟨((b0.below hU b0.lt).below hV (Nat.lt_of_lt_of_le b0.lt hU.size)).one, ((b1.below hU b1.lt).below hV (Nat.lt_of_lt_of_le b1.lt hU.size)).one, ((b2.below hU b2.lt).below hV (Nat.lt_of_lt_of_le b2.lt hU.size)).one⟩
    have hBx := (Below.refl U.heap.size U).drew
    rw [hd, hc, hb]
    clear hM b0 b1 b2 hW2 hL hok hc hd hb hC bU hQ
    refine (callsIn_wide (n := 9)).1 ?_
    refine callsIn_of_wp_marks Tryd.func35 rfl trivial ?_ rfl
    simp only [Tryd.ntmps35, List.size_toArray, List.length_cons, List.length_nil, Nat.reduceAdd, Nat.reduceSub, Array.replicate_succ, Array.replicate_zero, List.push_toArray, List.append_toArray, List.nil_append, List.cons_append]
    gi_wp2_with fail
    have hS : (fun U : World => U.cell? ⟨W2b, 0, none⟩ = some (.int .i64 (P : Int)) ∧ U.cell? ⟨W2c, 0, none⟩ = some (.slice A C cap) ∧ U.cell? ⟨W2d, 0, none⟩ = some (.int .i64 by_)) U.drew := HSS.out _ hBx
    refine wpIn_mono (region_HF (Q := NoPanic _) (S := (fun U : World => U.cell? ⟨W2b, 0, none⟩ = some (.int .i64 (P : Int)) ∧ U.cell? ⟨W2c, 0, none⟩ = some (.slice A C cap) ∧ U.cell? ⟨W2d, 0, none⟩ = some (.int .i64 by_))) (by kernel_rfl) ?_) NoPanic.imp
    refine anyHF_take (i := 0) (d := 4) (v := .int .i64 (P : Int)) (by kernel_rfl) rfl (by kernel_rfl) (by kernel_rfl) (by kernel_rfl) rfl (fun _ _ _ h => h) ⟨Or.inl ⟨by rfl, fun w hS => by obtain ⟨h0, h1, h2⟩ := hS; go_simp⟩, fun _ => rfl⟩ hS ?_
    simp only [List.setIfInBounds_toArray, List.set_cons_zero, List.set_cons_succ]
    refine anyHF_take (i := 1) (d := 5) (v := .slice A C cap) (by kernel_rfl) rfl (by kernel_rfl) (by kernel_rfl) (by kernel_rfl) rfl (fun _ _ _ h => h) ⟨Or.inl ⟨by rfl, fun w hS => by obtain ⟨h0, h1, h2⟩ := hS; go_simp⟩, fun _ => rfl⟩ hS ?_
    simp only [List.setIfInBounds_toArray, List.set_cons_zero, List.set_cons_succ]
    refine anyHF_take (i := 3) (d := 7) (v := .int .i64 by_) (by kernel_rfl) rfl (by kernel_rfl) (by kernel_rfl) (by kernel_rfl) rfl (fun _ _ _ h => h) ⟨Or.inl ⟨by rfl, fun w hS => by obtain ⟨h0, h1, h2⟩ := hS; go_simp⟩, fun _ => rfl⟩ hS ?_
    simp only [List.setIfInBounds_toArray, List.set_cons_zero, List.set_cons_succ]
    refine anyHF_one (i := 2) (by kernel_rfl) rfl (by kernel_rfl) (by rfl) ?_
    gi_wp2_with fail
    refine ⟨trivial, (callsIn_wide.2 (HQ.out _ hBx)).mono ?_⟩
    rintro e w1 ⟨vs, rfl, hvs, hB1⟩
    replace hBx := below_in hBx hB1
    clear hS
    have hS : (fun U : World => U.cell? ⟨W2b, 0, none⟩ = some (.int .i64 (P : Int)) ∧ U.cell? ⟨W2c, 0, none⟩ = some (.slice A C cap) ∧ U.cell? ⟨W2d, 0, none⟩ = some (.int .i64 by_)) w1 := HSS.out _ hBx
    gi_wp2
    try (refine ⟨hS, ?_⟩)
    refine anyHF_one (i := 4) (by kernel_rfl) rfl (by kernel_rfl) (by rfl) ?_
    gi_wp2_with fail
    refine ⟨trivial, (callsIn_wide.2 (HE.out vs w1 hBx hvs)).mono ?_⟩
    rintro e w2 ⟨u, rfl, hu, hB2⟩
    have hs1 := hBx.size
    obtain ⟨uA, un, uc, rfl⟩ : ∃ a b c, u = .slice a b c := by obtain ⟨a, c, e, _⟩ := hu; exact ⟨a, _, c, e⟩
    replace hBx := below_in hBx hB2
    clear hS
    have hS : (fun U : World => U.cell? ⟨W2b, 0, none⟩ = some (.int .i64 (P : Int)) ∧ U.cell? ⟨W2c, 0, none⟩ = some (.slice A C cap) ∧ U.cell? ⟨W2d, 0, none⟩ = some (.int .i64 by_)) w2 := HSS.out _ hBx
    gi_wp2
    try (refine ⟨hS, ?_⟩)
    refine anyHF_one (i := 5) (by kernel_rfl) rfl (by kernel_rfl) (by rfl) ?_
    gi_wp2
    refine anyHF_done (by kernel_rfl) ?_ _
    refine NoPanic.normal ?_
    gi_wp2
    exact ⟨_, by simp [results, Tryd.results35, go_sem], _, rfl, ⟨uA, un, uc, rfl, freshMany_more hu (by omega)⟩, hBx⟩))
  clear hM b0 b1 b2 hL hok hb hc hd hQ hC
  go_enter Tryd.func15, Tryd.ntmps15
  have hmf : ∀ (fn : Fn) (first cap : Array Value) (w : World), (Instr.makeFunc fn first cap).run Tryd.prog w = .ok (.func fn first cap) w := fun _ _ _ _ => rfl
  go_wp2_with (go_at_call 31; refine HA.out.mono ?_; rintro e w1 ⟨u, W, rfl, ⟨uA, un, uc, rfl, hu⟩, bE, rfl, hB1⟩)
  go_ret2
  exact ⟨_, rfl, freshMany_more (freshMany_only hu (Only.set (A := fun b => b = W2.heap.size) (p := ⟨W2.heap.size, 0, none⟩) rfl _) (fun b e => by have e : b = W2.heap.size := e; omega)) (by have := hBW.size; omega), below_in hBW hB1⟩
end Go.Proofs.YtckfepmahjgmfaaDoor.Rg

namespace Go.Proofs.YtckfepmahjgmfaaDoor.Rg
open Go.RowKit Go.Shelf Go.Maps Go.Proofs.YtckfepmahjgmfaaDoor.C Go.Proofs.YtckfepmahjgmfaaDoor.E
set_option linter.unusedSimpArgs false
set_option linter.unusedVariables false
attribute [local go_sem] Oper.semAt_some

/-- The rows of a walk, but for the last one. -/
def rowsF (p : Int) (zs : List Int) : List Int := zs.filter (fun x : Int => decide (x ≠ p - 1))
theorem rowsF_snoc (p : Int) (pre : List Int) (x : Int) : rowsF p (pre ++ [x]) = if x = p - 1 then rowsF p pre else rowsF p pre ++ [x] := by
  unfold rowsF
  rw [List.filter_append]
  by_cases h : x = p - 1
  · rw [if_pos h, List.filter_cons_of_neg (by simpa using h)]; simp
  · rw [if_neg h, List.filter_cons_of_pos (by simpa using h)]; rfl
theorem rowsF_len (p : Int) (pre : List Int) : (rowsF p pre).length ≤ pre.length := List.length_filter_le _ _
theorem enter_rows1 : ∀ args W, (callFunc 44 args).run Tryd.prog W = .ok (.enter 44 args) W := enters_of Tryd.func44 (by kernel_rfl) rfl
theorem eql_rows (g h : Nat) (W : World) : (binOp .eql 41 (.func (.func 44) #[] #[.pointer (some ⟨g, 0, none⟩), .pointer (some ⟨h, 0, none⟩)]) .nilFunc).run Tryd.prog W = .ok (.bool false) W := by kernel_rfl
end Go.Proofs.YtckfepmahjgmfaaDoor.Rg

