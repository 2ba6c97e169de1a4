/- ring: the document's Turn. ring: the document's Stretch and Slacken. chain: the document's answers. -/
import Derived.Test.YtfihlelhpmjpaaaGreatDoorCRG13m3
import Derived.Test.YtfihlelhpmjpaaaGreatDoorCRG19m7
import Derived.Test.YtfihlelhpmjpaaaGreatDoorCRG19m11
namespace Go.Proofs.YtfihlelhpmjpaaaGreatDoor.Rg
open Go.RowKit Go.Shelf Go.Maps Go.Proofs.YtfihlelhpmjpaaaGreatDoor.C Go.Proofs.YtfihlelhpmjpaaaGreatDoor.E
set_option linter.unusedSimpArgs false
set_option linter.unusedVariables false
attribute [local go_sem] Oper.semAt_some

set_option maxRecDepth 100000 in
theorem opIn_appM {F : Fence} {nF : Nat} {T : TypeId} {Q : Nat → Prop} {base : Nat} {v v2 : Value} (w : World) {o : Oper} {a : Act} {K : Act → World → Prop} {QQ : Exit → Act → World → Prop} (s x : Operand)
    (ho : o.op = .call { callee := .builtin .append, args := #[s, x], argTypes := #[T, T] }) (hT : Tryz.prog.underlying T = some (.slice 57)) (css ds : List (List UInt8)) (hs : a.eval s = v) (h : RowM Q w base v css) (hx : a.eval x = v2)
    (h2 : manyR.R (fun b => b < w.heap.size ∧ some b ≠ v.ownBlock ∧ Q b) w v2 ds) (h0 : 0 < ds.length) (hlen : css.length ≤ 100000) (hlen2 : ds.length ≤ 100000) (hbase : base ≤ w.heap.size)
    (hK : ∀ v' w', RowM Q w' base v' (css ++ ds) → w.grownBy w' v.ownBlock → K (a.put o.dst v') w') : Oper.wpIn F nF Tryz.prog o a w K QQ := by
  obtain ⟨i, hi, hz0, hz1, hz2⟩ := info_parts Tryz.infoSlcE
  obtain ⟨v', w', hrun, h1, h3, h4⟩ := RowG.append i hi hz0 hz1 hz2 T o.type hT h h2 (fun A cap e hA => by
    obtain ⟨A2, c2, e2, _, hA2⟩ := h2
    rw [e] at e2
    injection e2 with _ e3 _
    omega) hlen hlen2 hbase
  unfold Oper.wpIn
  refine ⟨by simp [Oper.about, ho, resolve, Target.leads, Sem.run_pure], ?_⟩
  rw [Oper.semAt_plain F _ _ (by rw [ho]; intro c hc'; cases hc')]
  simp [execOp, ho, resolve, invoke, builtin, hs, hx, hrun, Result.andThen, Oper.uponIn]
  exact hK v' w' h1 h3
section
open Go.Proofs.YtfihlelhpmjpaaaGreatDoor.E
set_option maxHeartbeats 400000 in
theorem nought_fresh (n : Nat) (hn : n ≤ 1000) (w : World) : Calls Tryz.prog 107 #[.int .i64 (n : Int)] w fun e w' => ∃ u, e = .returned u ∧ Fresh w.heap.size w' u (List.replicate n 0) ∧ Below w.heap.size w w' := by
  obtain ⟨i0, hi, hz0, hz1, hz2⟩ := info_parts Tryz.infoByte
  have hmk := fun W : World => run_make (P := Tryz.prog) W 57 5 i0 (.int .u8 0) Tryz.underlying57 hi hz0 .i64 .i64 (n : Int) (n : Int) (by omega) (by omega) (by rw [hz2]; omega) (by omega)
  simp only [hz1, Nat.mul_one, Int.toNat_natCast] at hmk
  have hR := Row.made w n
  have hBz := below_one w (.cells (madeCells #[.int .u8 0] n) 5)
  go_enter Tryz.func107, Tryz.ntmps107
  go_wp2
  go_ret
  exact ⟨_, rfl, Row.fresh hR (Nat.le_refl _) (by simp), hBz⟩
end
/-- The document's column turned. -/
def turnX (P Q n : Nat) (c : List (List UInt8)) (b : Int) : List (List UInt8) := (List.range Q).map fun i => xorB (mvF P b (wholeF Q n c) i) (mvF P b (wholeF Q n c) Q)
theorem turnX_is {P Q n : Nat} {c : List (List UInt8)} (hc : GoodC Q n c) (b : Int) : turnX P Q n c b = turnC P Q n c b := by
  unfold turnX turnC
  refine List.map_congr_left fun i _ => ?_
  refine ext_at (by rw [xorB_len, len_two (mv_len hc b i) (mv_len hc b Q), mv_len hc b i]) fun j => ?_
  rw [at_two (mv_len hc b i) (mv_len hc b Q), at_xorB _ _ _ ((mv_len hc b Q).trans (mv_len hc b i).symm)]
theorem turnX_next {P Q n : Nat} (c : List (List UInt8)) (b : Int) {m : Nat} (hm : m < Q) : (turnX P Q n c b).take (m + 1) = (turnX P Q n c b).take m ++ [xorB (mvF P b (wholeF Q n c) m) (mvF P b (wholeF Q n c) Q)] := by
  unfold turnX
  rw [map_next _ 0 _ (by rw [List.length_range]; exact hm), List.getElem?_range hm]
  rfl
theorem back_place {P o i : Nat} (b : Int) (hi : i < P) (ho : b % (P : Int) = (o : Int)) : ((((i : Int) - b) % (P : Int)).toNat + o) % P = i := by
  have h0 := Int.emod_nonneg ((i : Int) - b) (show (P : Int) ≠ 0 by omega)
  have e : (((((i : Int) - b) % (P : Int)).toNat + o : Nat) : Int) % (P : Int) = (i : Int) := by
    rw [Int.natCast_add, Int.toNat_of_nonneg h0, ← ho, ← Int.add_emod, show (i : Int) - b + b = i by omega, Int.emod_eq_of_lt (by omega) (by omega)]
  omega
/-- A column with its last cell. -/
theorem whole_list {Q n : Nat} {c : List (List UInt8)} (hc : c.length = Q) {i : Nat} (hi : i < Q + 1) : ((c ++ [List.replicate n 0])[i]?).getD [] = wholeF Q n c i := by
  unfold wholeF
  by_cases h : i < Q
  · rw [if_pos h, List.getElem?_append_left (by omega)]
  · rw [if_neg h, show i = c.length by omega, List.getElem?_append_right (Nat.le_refl _)]
    simp
set_option maxRecDepth 100000 in
set_option maxHeartbeats 4000000 in
theorem turnD_any {P Q n : Nat} (D : Dims P Q n) (b : Int) (y1 : -9223372036854775808 ≤ b) (y2 : b ≤ 9223372036854775807) (c : List (List UInt8)) (hc : GoodC Q n c) (v : Value) (w : World) (hM : Many w.heap.size w v c) :
    Calls Tryz.prog 52 #[.int .i64 (P : Int), v, .int .i64 b] w fun e w' => ∃ u, e = .returned u ∧ Many w'.heap.size w' u (turnC P Q n c b) ∧ Below w.heap.size w w' := by
  have hpb := prm_bounds D.hp
  have hQP := D.hQ
  have h1 := D.h1
  have h64 := D.h64
  have hq1 : 2 ≤ Q := by omega
  have hq2 : Q ≤ 16 := by omega
  have hq0 : Q ≠ 0 := by omega
  have hq3 : (0 : Int) < (Q : Int) := by omega
  have HCL := Lib.hid hc.1
  obtain ⟨A, ca, rfl, _, _⟩ := id hM
  obtain ⟨b0, off, rfl, hb0, hrow⟩ := many_at hM (by rw [hc.1]; omega)
  obtain ⟨A0, c0, hc0, _⟩ := hrow 0 (by rw [hc.1]; omega)
  rw [(hc.2 0 (by omega)).2, Nat.add_zero] at hc0
  rw [hc.1] at hM ⊢
  clear hrow
  have HM := Lib.hid (fun (U : World) (hU : Below w.heap.size w U) => hM.below hU)
  have HSS : Hid (∀ V, Below w.heap.size w V → (fun U : World => U.cell? ⟨b0, off, none⟩ = some (.slice A0 n c0)) V) := fun V hV => (hV.cell (p := ⟨b0, off, none⟩) hb0).trans hc0
  have hOF : b % (P : Int) = ((b % (P : Int)).toNat : Int) := by have := Int.emod_nonneg b (show (P : Int) ≠ 0 by omega); omega
  have HOF := Lib.hid (fun U => rof_any (P : Int) b U (by omega) (by omega) y1 y2)
  have HWL := Lib.hid (fun i (hi : i < Q + 1) => whole_list (n := n) hc.1 hi)
  have HWN := Lib.hid (fun r => whole_len hc r)
  have HNX := Lib.hid (fun m (hm : m < Q) => turnX_next (P := P) (n := n) c b hm)
  have HIS := Lib.hid (turnX_is (P := P) hc b)
  have HQ := Lib.hid hQP
  have HCC := Lib.hid hc
  obtain ⟨i0, hi0, hz0, hz1, hz2⟩ := info_parts Tryz.infoSlc
  have hmk := fun W : World => run_make (P := Tryz.prog) W 37 57 i0 (.slice none 0 0) Tryz.underlying37 hi0 hz0 .i64 .i64 (P : Int) (P : Int) (by omega) (by omega) (by rw [hz2]; omega) (by omega)
  simp only [hz1, Nat.mul_one, Int.toNat_natCast, show (Value.slice none 0 0).cells = #[.slice none 0 0] from rfl, made_nils] at hmk
  clear hz0 hz1 hz2 hi0 hQP hc hM
  go_enter Tryz.func52, Tryz.ntmps52
  go_wp2_with fail
  obtain ⟨wd, hwd⟩ : ∃ x, w.drew = x := ⟨_, rfl⟩
  have hBd : Below w.heap.size w wd := by rw [← hwd]; exact (Below.refl _ _).drew
  have hS : (fun U : World => U.cell? ⟨b0, off, none⟩ = some (.slice A0 n c0)) wd := HSS.out _ hBd
  refine (wpIn_wide (n := 12)).1 (wpIn_mono (region_HF (Q := NoPanic _) (S := (fun U : World => U.cell? ⟨b0, off, none⟩ = some (.slice A0 n c0))) (by kernel_rfl) ?_) NoPanic.imp)
  rw [hwd]
  clear hwd
  refine anyHF_take (i := 1) (d := 13) (v := .slice (some ⟨b0, off, none⟩) Q ca) (by kernel_rfl) rfl (by kernel_rfl) (by kernel_rfl) (by kernel_rfl) rfl (fun _ _ _ h => h) ⟨Or.inl ⟨by rfl, fun w hS => by have h0 := hS; go_simp⟩, fun _ => rfl⟩ hS ?_
  simp only [List.setIfInBounds_toArray, List.set_cons_zero, List.set_cons_succ]
  refine anyHF_take (i := 3) (d := 15) (v := .slice (some ⟨b0, off, none⟩) Q ca) (by kernel_rfl) rfl (by kernel_rfl) (by kernel_rfl) (by kernel_rfl) rfl (fun _ _ _ h => h) ⟨Or.inl ⟨by rfl, fun w hS => by have h0 := hS; go_simp⟩, fun _ => rfl⟩ hS ?_
  simp only [List.setIfInBounds_toArray, List.set_cons_zero, List.set_cons_succ]
  refine anyHF_take (i := 4) (d := 16) (v := .pointer (some ⟨b0, off, none⟩)) (by kernel_rfl) rfl (by kernel_rfl) (by kernel_rfl) (by kernel_rfl) rfl (fun _ _ _ h => h) ⟨Or.inl ⟨by rfl, fun w hS => by have h0 := hS; go_simp⟩, fun _ => rfl⟩ hS ?_
  simp only [List.setIfInBounds_toArray, List.set_cons_zero, List.set_cons_succ]
  refine anyHF_take (i := 5) (d := 17) (v := .slice A0 n c0) (by kernel_rfl) rfl (by kernel_rfl) (by kernel_rfl) (by kernel_rfl) rfl (fun _ _ _ h => h) ⟨Or.inl ⟨by rfl, fun w hS => by have h0 := hS; go_simp⟩, fun _ => rfl⟩ hS ?_
  simp only [List.setIfInBounds_toArray, List.set_cons_zero, List.set_cons_succ]
  refine anyHF_take (i := 6) (d := 18) (v := .int .i64 (n : Int)) (by kernel_rfl) rfl (by kernel_rfl) (by kernel_rfl) (by kernel_rfl) rfl (fun _ _ _ h => h) ⟨Or.inl ⟨by rfl, fun w hS => by have h0 := hS; go_simp⟩, fun _ => rfl⟩ hS ?_
  simp only [List.setIfInBounds_toArray, List.set_cons_zero, List.set_cons_succ]
  refine anyHF_one (i := 0) (by kernel_rfl) rfl (by kernel_rfl) (by rfl) ?_
  have hA1 := below_one wd (.cells #[] 57)
  have HR1 : Hid (RowM (fun _ => True) (wd.alloc (.cells #[] 57)) wd.heap.size (.slice (some ⟨wd.heap.size, 0, none⟩) 0 0) []) := RowG.empty _ _ _ _ (Blk.new wd 57 #[]) (Nat.le_refl _)
  have hB1 := below_in hBd hA1
  have hs1 := hA1.size
  have hsd := hBd.size
  have HD1 : Hid (manyR.R (fun b => b < (wd.alloc (.cells #[] 57)).heap.size ∧ some b ≠ (Value.slice (some ⟨wd.heap.size, 0, none⟩) 0 0).ownBlock ∧ True) (wd.alloc (.cells #[] 57)) (.slice (some ⟨b0, off, none⟩) Q ca) c) := manyR.imp (manyR_iff.2 (HM.out _ hB1)) fun q hq => ⟨by omega, fun e => by have := RowG.own_le HR1.out q e.symm; omega, trivial⟩
  clear hS
  have hS : (fun U : World => U.cell? ⟨b0, off, none⟩ = some (.slice A0 n c0)) (wd.alloc (.cells #[] 57)) := HSS.out _ hB1
  gi_wp2
  try (refine ⟨hS, ?_⟩)
  refine anyHF_one (i := 2) (by kernel_rfl) rfl (by kernel_rfl) (by rfl) ?_
  refine opIn_appM (T := 37) (v := .slice (some ⟨wd.heap.size, 0, none⟩) 0 0) _ (.tmp 12) (.tmp 13) rfl Tryz.underlying37 [] c rfl HR1.out rfl HD1.out (by rw [HCL.out]; omega) (by simp) (by rw [HCL.out]; omega) (by omega) ?_
  intro va w2 hrow2 hgrow2
  have hole2 : ∀ q, (Value.slice (some ⟨wd.heap.size, 0, none⟩) 0 0).ownBlock = some q → wd.heap.size ≤ q := fun q e => RowG.own_le HR1.out q e
  have hB2 : Below w.heap.size w w2 := below_grown hB1 hgrow2 (by omega) (fun q e => by have := hole2 q e; omega)
  have hs2 := hB2.size
  have hg2 := hgrow2.size
  rw [List.nil_append] at hrow2
  clear hS
  have hS : (fun U : World => U.cell? ⟨b0, off, none⟩ = some (.slice A0 n c0)) w2 := HSS.out _ hB2
  gi_wp2_with fail
  try (refine ⟨hS, ?_⟩)
  refine anyHF_one (i := 7) (by kernel_rfl) rfl (by kernel_rfl) (by rfl) ?_
  gi_wp2_with fail
  refine ⟨trivial, (callsIn_wide.2 (nought_fresh n (by omega) w2)).mono ?_⟩
  rintro e w3 ⟨u0, rfl, hu0, hB3⟩
  obtain ⟨A3, c3, e3, _, _⟩ := id hu0
  rw [List.length_replicate] at e3
  subst e3
  clear hS
  have hS : (fun U : World => U.cell? ⟨b0, off, none⟩ = some (.slice A0 n c0)) w3 := HSS.out _ (below_in hB2 hB3)
  gi_wp2
  try (refine ⟨hS, ?_⟩)
  refine anyHF_one (i := 8) (by kernel_rfl) rfl (by kernel_rfl) (by rfl) ?_
  have hA4 := below_one w3 (.cells #[.slice A3 n c3] 57)
  have hB34 := below_in hB3 hA4
  have HR4 := Lib.hid (RowG.below hrow2 hB34)
  have HBLK := Lib.hid (Blk.new w3 57 #[.slice A3 n c3])
  have hs3 := hB3.size
  have hs4 := hA4.size
  have hlt2 : ∀ q, va.ownBlock = some q → q < w2.heap.size := fun q e => RowG.own_lt hrow2 q e
  have HBY : Hid (BytesP (fun q => q < (w3.alloc (.cells #[.slice A3 n c3] 57)).heap.size ∧ some q ≠ va.ownBlock ∧ True) (w3.alloc (.cells #[.slice A3 n c3] 57)) (.slice A3 n c3) (List.replicate n 0)) := by
      obtain ⟨A8, cp8, e8, h8, hA8⟩ := hu0.below hA4
      refine ⟨A8, cp8, e8, h8, fun hp => ?_⟩
      obtain ⟨q, of8, q1, q2, q3, q4⟩ := hA8 hp
      exact ⟨q, of8, q1, ⟨q3, fun e => (by have := hlt2 q e.symm; omega), trivial⟩, q4⟩
  have hB4 := below_in hB2 hB34
  clear hrow2 hu0 hS
  have hS : (fun U : World => U.cell? ⟨b0, off, none⟩ = some (.slice A0 n c0)) (w3.alloc (.cells #[.slice A3 n c3] 57)) := HSS.out _ hB4
  gi_wp2
  try (refine ⟨hS, ?_⟩)
  refine anyHF_one (i := 9) (by kernel_rfl) rfl (by kernel_rfl) (by rfl) ?_
  refine opIn_pushM (T := 37) (v := va) _ (.tmp 14) (.tmp 20) rfl Tryz.underlying37 c rfl HR4.out w3.heap.size 57 _ (List.replicate n 0) rfl HBLK.out HBY.out (by rw [HCL.out]; omega) (by omega) ?_
  intro v5 w5 hrow5 hgrow5 hown5
  have hole4 : ∀ q, va.ownBlock = some q → wd.heap.size ≤ q := fun q e => RowG.own_le HR4.out q e
  have hB5 : Below w.heap.size w w5 := below_grown hB4 hgrow5 (by omega) (fun q e => by have := hole4 q e; omega)
  have hs5 := hB5.size
  have hg5 := hgrow5.size
  clear hS
  have hS : (fun U : World => U.cell? ⟨b0, off, none⟩ = some (.slice A0 n c0)) w5 := HSS.out _ hB5
  gi_wp2_with fail
  try (refine ⟨hS, ?_⟩)
  refine anyHF_one (i := 10) (by kernel_rfl) rfl (by kernel_rfl) (by rfl) ?_
  gi_wp2
  refine anyHF_done (by kernel_rfl) ?_ _
  refine NoPanic.normal ?_
  clear hS hc0
  have hm5 := RowM.many_ hrow5
  have hwl5 : (c ++ [List.replicate n 0]).length = P := by rw [List.length_append, HCL.out]; have := HQ.out; simp; omega
  obtain ⟨A5, cw, e5, _, _⟩ := id hm5
  rw [hwl5] at e5
  subst e5
  have hm6 : Many w5.heap.size w5 (.slice A5 (c ++ [List.replicate n 0]).length cw) (c ++ [List.replicate n 0]) := by rw [hwl5]; exact hm5
  obtain ⟨bw, ow, rfl, hbw, hroww⟩ := many_at hm6 (by rw [hwl5]; omega)
  have HROW : Hid (∀ i, i < P → ∃ Ai ci, w5.cell? ⟨bw, ow + i, none⟩ = some (.slice Ai n ci) ∧ Bytes w5.heap.size w5 (.slice Ai n ci) (wholeF Q n c i)) := fun i hi => by
    obtain ⟨Ai, ci, q1, q2⟩ := hroww i (by rw [hwl5]; exact hi)
    have e := HWL.out i (by have := HQ.out; omega)
    rw [e, HWN.out i] at q1 q2
    exact ⟨Ai, ci, q1, q2⟩
  clear hm5 hm6 hroww hrow5 hgrow5 hown5 HR4 HBLK HBY HR1 HD1 hole4 hlt2
  obtain ⟨o, ho⟩ : ∃ o : Nat, (b % (P : Int)).toNat = o := ⟨_, rfl⟩
  rw [ho] at hOF
  have hoP : o < P := by have := Int.emod_lt_of_pos b (show (0 : Int) < P by omega); omega
  have HO := Lib.hid hOF
  rw [hOF] at HOF
  clear hOF ho
  have hPn : ((P : Int) == 0) = false := by rw [beq_eq_false_iff_ne]; omega
  have hPz : (P : Int) ≠ 0 := by omega
  go_wp2_with fail
  have h56 := below_one w5 (.cells (Array.replicate P (Value.slice none 0 0)) 57)
  have bT := Blk.new w5 57 (Array.replicate P (Value.slice none 0 0))
  obtain ⟨gT, hgT⟩ : ∃ x, w5.heap.size = x := ⟨_, rfl⟩
  obtain ⟨w6, hw6⟩ : ∃ x, w5.alloc (.cells (Array.replicate P (Value.slice none 0 0)) 57) = x := ⟨_, rfl⟩
  rw [hw6] at h56 bT
  rw [hgT] at h56 bT hbw HROW hs5 ⊢
  try rw [hw6]
  clear hw6 hgT
  rw [← List.toArray_replicate] at bT
  have hT0 : Trn P o (wholeF Q n c) gT gT 0 w6 := ⟨_, bT, by simp, fun j hj => absurd hj (by omega)⟩
  clear bT
  go_loopw [9] (fun i wr => ∃ k : Nat, k ≤ P ∧ i = .int .i64 k ∧ Trn P o (wholeF Q n c) gT gT k wr ∧ Below gT w5 wr) (fun i _ => P - (intOf i).toNat)
  case atStart => exact ⟨0, Nat.zero_le _, rfl, hT0, h56⟩
  case round =>
    obtain ⟨k, hk, rfl, hT, hBr⟩ := hrel
    by_cases hlt : k < P
    · have hdec : decide ((k : Int) < (P : Int)) = true := by simp; omega
      obtain ⟨Ak, ck, hck, hyk⟩ := HROW.out k hlt
      have i1 : (0 : Int) ≤ (k : Int) := by omega
      have i2 : (k : Int) < (P : Int) := by omega
      have i3 : (0 : Int) ≤ (o : Int) := by omega
      have hP0 : P ≠ 0 := by omega
      have hwk : IntKind.i64.wrap ((k : Int) + (o : Int)) = (k : Int) + (o : Int) := IntWalk.i64_in _ (by omega)
      have i4 : (o : Int) < (P : Int) := by omega
      obtain ⟨t, ht⟩ : ∃ t, (k + o) % P = t := ⟨_, rfl⟩
      have htP : t < P := by rw [← ht]; exact Nat.mod_lt _ (by omega)
      have i5 : (0 : Int) ≤ (t : Int) := by omega
      have i6 : (t : Int) < (P : Int) := by omega
      have hrem : ((k : Int) + (o : Int)).tmod (P : Int) = (t : Int) := by rw [← Int.natCast_add, ← Int.ofNat_tmod, ht]
      have hrem2 : ((k : Int) + (o : Int)) % (P : Int) = (t : Int) := by rw [← Int.natCast_add, ← Int.natCast_emod, ht]
      have HSP : Hid (∀ V, Below gT wr V → (fun U : World => U.cell? ⟨bw, ow + k, none⟩ = some (.slice Ak n ck)) V) := fun V hV => (((hBr.trans hV).cell (p := ⟨bw, ow + k, none⟩) hbw).trans hck)
      have hTc := id hT
      obtain ⟨cur, hcb, hcl, _⟩ := hTc
      have hgl := hcb.lt
      have HOLD : Hid (∃ old, wr.cell? ⟨gT, t, none⟩ = some old) := ⟨_, by rw [hcb.cell, List.getElem?_toArray, List.getElem?_eq_getElem (by rw [hcl]; exact htP)]⟩
      have HFZ : Hid (wr.frozen? ⟨gT, t, none⟩ = false) := hcb.frozen t
      have hdr : Below gT wr wr.drew := (Below.refl gT wr).drew
      have hst : Below gT wr (wr.drew.setCell ⟨gT, t, none⟩ (.slice Ak n ck)) := hdr.setCell (Nat.le_refl _) _
      have HT := Lib.hid hT
      have HTN : Hid (Trn P o (wholeF Q n c) gT gT (k + 1) (wr.drew.setCell ⟨gT, t, none⟩ (.slice Ak n ck))) := Trn.next (X := wr.drew) (by obtain ⟨cur', x1, x2, x3⟩ := hT; exact ⟨cur', x1, x2, fun j hj => by obtain ⟨u, y1, y2⟩ := x3 j hj; exact ⟨u, y1, y2.below (B := gT) hdr⟩⟩) hlt ht (Nat.le_refl _) (hyk.below (hBr.trans hdr))
      have HBN := Lib.hid (hBr.trans hst)
      clear hT hcb hck hyk
      go_wp2_with fail
      have hS : (fun U : World => U.cell? ⟨bw, ow + k, none⟩ = some (.slice Ak n ck)) wr.drew := HSP.out _ hdr
      refine (wpIn_wide (n := 12)).1 (wpIn_mono (region_HF (Q := NoPanic _) (S := (fun U : World => U.cell? ⟨bw, ow + k, none⟩ = some (.slice Ak n ck))) (by kernel_rfl) ?_) NoPanic.imp)
      refine anyHF_take (i := 0) (d := 29) (v := .slice (some ⟨gT, 0, none⟩) P P) (by kernel_rfl) rfl (by kernel_rfl) (by kernel_rfl) (by kernel_rfl) rfl (fun _ _ _ h => h) ⟨Or.inl ⟨by rfl, fun w hS => by have h0 := hS; go_simp⟩, fun _ => rfl⟩ hS ?_
      simp only [List.setIfInBounds_toArray, List.set_cons_zero, List.set_cons_succ]
      refine anyHF_take (i := 1) (d := 30) (v := .int .i64 (k : Int)) (by kernel_rfl) rfl (by kernel_rfl) (by kernel_rfl) (by kernel_rfl) rfl (fun _ _ _ h => h) ⟨Or.inl ⟨by rfl, fun w hS => by have h0 := hS; go_simp⟩, fun _ => rfl⟩ hS ?_
      simp only [List.setIfInBounds_toArray, List.set_cons_zero, List.set_cons_succ]
      refine anyHF_take (i := 2) (d := 31) (v := .int .i64 (P : Int)) (by kernel_rfl) rfl (by kernel_rfl) (by kernel_rfl) (by kernel_rfl) rfl (fun _ _ _ h => h) ⟨Or.inl ⟨by rfl, fun w hS => by have h0 := hS; go_simp⟩, fun _ => rfl⟩ hS ?_
      simp only [List.setIfInBounds_toArray, List.set_cons_zero, List.set_cons_succ]
      refine anyHF_take (i := 3) (d := 32) (v := .int .i64 b) (by kernel_rfl) rfl (by kernel_rfl) (by kernel_rfl) (by kernel_rfl) rfl (fun _ _ _ h => h) ⟨Or.inl ⟨by rfl, fun w hS => by have h0 := hS; go_simp⟩, fun _ => rfl⟩ hS ?_
      simp only [List.setIfInBounds_toArray, List.set_cons_zero, List.set_cons_succ]
      refine anyHF_take (i := 6) (d := 35) (v := .int .i64 (P : Int)) (by kernel_rfl) rfl (by kernel_rfl) (by kernel_rfl) (by kernel_rfl) rfl (fun _ _ _ h => h) ⟨Or.inl ⟨by rfl, fun w hS => by have h0 := hS; go_simp⟩, fun _ => rfl⟩ hS ?_
      simp only [List.setIfInBounds_toArray, List.set_cons_zero, List.set_cons_succ]
      refine anyHF_take (i := 8) (d := 37) (v := .slice (some ⟨bw, ow, none⟩) P cw) (by kernel_rfl) rfl (by kernel_rfl) (by kernel_rfl) (by kernel_rfl) rfl (fun _ _ _ h => h) ⟨Or.inl ⟨by rfl, fun w hS => by have h0 := hS; go_simp⟩, fun _ => rfl⟩ hS ?_
      simp only [List.setIfInBounds_toArray, List.set_cons_zero, List.set_cons_succ]
      refine anyHF_take (i := 9) (d := 38) (v := .int .i64 (k : Int)) (by kernel_rfl) rfl (by kernel_rfl) (by kernel_rfl) (by kernel_rfl) rfl (fun _ _ _ h => h) ⟨Or.inl ⟨by rfl, fun w hS => by have h0 := hS; go_simp⟩, fun _ => rfl⟩ hS ?_
      simp only [List.setIfInBounds_toArray, List.set_cons_zero, List.set_cons_succ]
      refine anyHF_take (i := 10) (d := 39) (v := .pointer (some ⟨bw, ow + k, none⟩)) (by kernel_rfl) rfl (by kernel_rfl) (by kernel_rfl) (by kernel_rfl) rfl (fun _ _ _ h => h) ⟨Or.inl ⟨by rfl, fun w hS => by have h0 := hS; go_simp⟩, fun _ => rfl⟩ hS ?_
      simp only [List.setIfInBounds_toArray, List.set_cons_zero, List.set_cons_succ]
      refine anyHF_take (i := 11) (d := 40) (v := .slice Ak n ck) (by kernel_rfl) rfl (by kernel_rfl) (by kernel_rfl) (by kernel_rfl) rfl (fun _ _ _ h => h) ⟨Or.inl ⟨by rfl, fun w hS => by have h0 := hS; go_simp⟩, fun _ => rfl⟩ hS ?_
      simp only [List.setIfInBounds_toArray, List.set_cons_zero, List.set_cons_succ]
      refine anyHF_one (i := 4) (by kernel_rfl) rfl (by kernel_rfl) (by rfl) ?_
      gi_wp2_with fail
      refine ⟨trivial, (callsIn_wide.2 (HOF.out _)).mono ?_⟩
      rintro e w' ⟨rfl, rfl⟩
      gi_wp2
      try (refine ⟨hS, ?_⟩)
      refine anyHF_take (i := 5) (d := 34) (v := .int .i64 ((k : Int) + (o : Int))) (by kernel_rfl) rfl (by kernel_rfl) (by kernel_rfl) (by kernel_rfl) rfl (fun _ _ _ h => h) ⟨Or.inl ⟨by rfl, fun w hS => by have h0 := hS; go_simp⟩, fun _ => rfl⟩ hS ?_
      simp only [List.setIfInBounds_toArray, List.set_cons_zero, List.set_cons_succ]
      refine anyHF_take (i := 7) (d := 36) (v := .int .i64 (t : Int)) (by kernel_rfl) rfl (by kernel_rfl) (by kernel_rfl) (by kernel_rfl) rfl (fun _ _ _ h => h) ⟨Or.inl ⟨by rfl, fun w hS => by have h0 := hS; go_simp⟩, fun _ => rfl⟩ hS ?_
      simp only [List.setIfInBounds_toArray, List.set_cons_zero, List.set_cons_succ]
      refine anyHF_take (i := 12) (d := 41) (v := .pointer (some ⟨gT, t, none⟩)) (by kernel_rfl) rfl (by kernel_rfl) (by kernel_rfl) (by kernel_rfl) rfl (fun _ _ _ h => h) ⟨Or.inl ⟨by rfl, fun w hS => by have h0 := hS; go_simp⟩, fun _ => rfl⟩ hS ?_
      simp only [List.setIfInBounds_toArray, List.set_cons_zero, List.set_cons_succ]
      refine anyHF_one (i := 13) (by kernel_rfl) rfl (by kernel_rfl) (by rfl) ?_
      have hSf := HSP.out _ hst
      obtain ⟨old, hold⟩ := HOLD.out
      have hfz := HFZ.out
      have q0 := hS
      gi_wp2_with fail
      try (first | (refine ⟨hSf, ?_⟩) | (refine ⟨hS, ?_⟩))
      refine anyHF_done (by kernel_rfl) ?_ _
      refine NoPanic.normal ?_
      clear hS
      gi_wp2_with fail
      go_wp2
      go_roundw
      case rel => exact ⟨k + 1, by omega, by go_num, HTN.out, HBN.out⟩
      case measure => simp [intOf]; omega
    · have hkP : k = P := by omega
      rw [hkP] at hT
      have e1 : decide ((k : Int) < (P : Int)) = false := by rw [hkP]; simp
      have HFIN : Hid (∀ i, i < P → ∃ Ai ci, wr.cell? ⟨gT, i, none⟩ = some (.slice Ai n ci) ∧ Bytes gT wr (.slice Ai n ci) (mvF P b (wholeF Q n c) i)) := fun i hi => by
        obtain ⟨cur, x1, x2, x3⟩ := hT
        have hlt2 : (((i : Int) - b) % (P : Int)).toNat < P := by have := Int.emod_nonneg ((i : Int) - b) hPz; have := Int.emod_lt_of_pos ((i : Int) - b) (show (0 : Int) < P by omega); omega
        obtain ⟨u, y1, y2⟩ := x3 _ hlt2
        rw [back_place b hi HO.out] at y1
        obtain ⟨Ai, ci, e, _, _⟩ := id y2
        rw [HWN.out] at e
        subst e
        exact ⟨Ai, ci, by rw [x1.cell, List.getElem?_toArray]; exact y1, y2⟩
      have hgs : gT < wr.heap.size := by obtain ⟨cur, x1, _⟩ := hT; exact x1.lt
      have hBw := hB5.trans (hBr.mono hs5)
      clear hT hBr hkP HROW hT0 h56 HOF
      obtain ⟨ws, hws⟩ : ∃ x : World, x = wr := ⟨_, rfl⟩
      subst hws
      go_wp2
      go_loopw [10, 11] (fun v i wr => ∃ m : Nat, m ≤ Q ∧ i = .int .i64 m ∧ RowM (fun _ => True) wr ws.heap.size v ((turnX P Q n c b).take m) ∧ Below ws.heap.size ws wr) (fun _ i _ => Q - (intOf i).toNat)
      case atStart => exact ⟨0, Nat.zero_le _, rfl, RowG.nil _ _ _ _ _ _, Below.refl _ _⟩
      case round =>
        obtain ⟨m, hm, rfl, hrow, hBs⟩ := hrel
        have hpq : (P : Int) - 1 = (Q : Int) := by have := HQ.out; omega
        by_cases hlm : m < Q
        · have hdec : decide ((m : Int) < (P : Int) - 1) = true := by rw [hpq]; simp; omega
          obtain ⟨Aa, ca2, hc1, hy1⟩ := HFIN.out m (by have := HQ.out; omega)
          obtain ⟨Ab, cb2, hc2, hy2⟩ := HFIN.out Q (by have := HQ.out; omega)
          have HLA : Hid ((mvF P b (wholeF Q n c) m).length = n) := HWN.out _
          have HLB : Hid ((mvF P b (wholeF Q n c) Q).length = n) := HWN.out _
          have HNX2 := Lib.hid (HNX.out m hlm)
          have HPL : Hid (((turnX P Q n c b).take m).length ≤ 1000) := by unfold Hid; rw [List.length_take]; omega
          have HXA := Lib.hid (fun (V : World) (hV : Below ws.heap.size ws V) => hy1.below (hV.mono (Nat.le_of_lt hgs)))
          have HXB := Lib.hid (fun (V : World) (hV : Below ws.heap.size ws V) => hy2.below (hV.mono (Nat.le_of_lt hgs)))
          have HSS : Hid (∀ V, Below ws.heap.size ws V → (fun U : World => U.cell? ⟨gT, m, none⟩ = some (.slice Aa n ca2) ∧ U.cell? ⟨gT, Q, none⟩ = some (.slice Ab n cb2)) V) := fun V hV => ⟨(hV.cell (p := ⟨gT, m, none⟩) hgs).trans hc1, (hV.cell (p := ⟨gT, Q, none⟩) hgs).trans hc2⟩
          clear hc1 hc2 hy1 hy2
          generalize mvF P b (wholeF Q n c) m = xa1 at *
          generalize mvF P b (wholeF Q n c) Q = xb1 at *
          generalize (turnX P Q n c b).take m = pre at *
          have HLX : Hid ((xorB xa1 xb1).length = n) := by unfold Hid; rw [xorB_len]; exact HLA.out
          have i1 : (0 : Int) ≤ (m : Int) := by omega
          have i2 : (m : Int) < (P : Int) := by omega
          have i3 : (Q : Int) < (P : Int) := by omega
          have i4 : (0 : Int) ≤ (Q : Int) := by omega
          have hwp : IntKind.i64.wrap (Q : Int) = (Q : Int) := IntWalk.i64_in _ (by omega)
          have hnp : ¬ P ≤ Q := by omega
          have HVLT := Lib.hid (fun b e => RowG.own_lt hrow b e)
          have HVLE := Lib.hid (fun b e => RowG.own_le hrow b e)
          go_wp2_with fail
          have hS : (fun U : World => U.cell? ⟨gT, m, none⟩ = some (.slice Aa n ca2) ∧ U.cell? ⟨gT, Q, none⟩ = some (.slice Ab n cb2)) wr.drew := HSS.out _ hBs.drew
          refine (wpIn_wide (n := 12)).1 (wpIn_mono (region_HF (Q := NoPanic _) (S := (fun U : World => U.cell? ⟨gT, m, none⟩ = some (.slice Aa n ca2) ∧ U.cell? ⟨gT, Q, none⟩ = some (.slice Ab n cb2))) (by kernel_rfl) ?_) NoPanic.imp)
          refine anyHF_take (i := 0) (d := 48) (v := u10) (by kernel_rfl) rfl (by kernel_rfl) (by kernel_rfl) (by kernel_rfl) rfl (fun _ _ _ h => h) ⟨Or.inl ⟨by rfl, fun w hS => by obtain ⟨h0, h1⟩ := hS; go_simp⟩, fun _ => rfl⟩ hS ?_
          simp only [List.setIfInBounds_toArray, List.set_cons_zero, List.set_cons_succ]
          refine anyHF_take (i := 1) (d := 49) (v := .slice (some ⟨gT, 0, none⟩) P P) (by kernel_rfl) rfl (by kernel_rfl) (by kernel_rfl) (by kernel_rfl) rfl (fun _ _ _ h => h) ⟨Or.inl ⟨by rfl, fun w hS => by obtain ⟨h0, h1⟩ := hS; go_simp⟩, fun _ => rfl⟩ hS ?_
          simp only [List.setIfInBounds_toArray, List.set_cons_zero, List.set_cons_succ]
          refine anyHF_take (i := 2) (d := 50) (v := .int .i64 (m : Int)) (by kernel_rfl) rfl (by kernel_rfl) (by kernel_rfl) (by kernel_rfl) rfl (fun _ _ _ h => h) ⟨Or.inl ⟨by rfl, fun w hS => by obtain ⟨h0, h1⟩ := hS; go_simp⟩, fun _ => rfl⟩ hS ?_
          simp only [List.setIfInBounds_toArray, List.set_cons_zero, List.set_cons_succ]
          refine anyHF_take (i := 3) (d := 51) (v := .pointer (some ⟨gT, m, none⟩)) (by kernel_rfl) rfl (by kernel_rfl) (by kernel_rfl) (by kernel_rfl) rfl (fun _ _ _ h => h) ⟨Or.inl ⟨by rfl, fun w hS => by obtain ⟨h0, h1⟩ := hS; go_simp⟩, fun _ => rfl⟩ hS ?_
          simp only [List.setIfInBounds_toArray, List.set_cons_zero, List.set_cons_succ]
          refine anyHF_take (i := 4) (d := 52) (v := .slice Aa n ca2) (by kernel_rfl) rfl (by kernel_rfl) (by kernel_rfl) (by kernel_rfl) rfl (fun _ _ _ h => h) ⟨Or.inl ⟨by rfl, fun w hS => by obtain ⟨h0, h1⟩ := hS; go_simp⟩, fun _ => rfl⟩ hS ?_
          simp only [List.setIfInBounds_toArray, List.set_cons_zero, List.set_cons_succ]
          refine anyHF_take (i := 5) (d := 53) (v := .slice (some ⟨gT, 0, none⟩) P P) (by kernel_rfl) rfl (by kernel_rfl) (by kernel_rfl) (by kernel_rfl) rfl (fun _ _ _ h => h) ⟨Or.inl ⟨by rfl, fun w hS => by obtain ⟨h0, h1⟩ := hS; go_simp⟩, fun _ => rfl⟩ hS ?_
          simp only [List.setIfInBounds_toArray, List.set_cons_zero, List.set_cons_succ]
          refine anyHF_take (i := 6) (d := 54) (v := .int .i64 (P : Int)) (by kernel_rfl) rfl (by kernel_rfl) (by kernel_rfl) (by kernel_rfl) rfl (fun _ _ _ h => h) ⟨Or.inl ⟨by rfl, fun w hS => by obtain ⟨h0, h1⟩ := hS; go_simp⟩, fun _ => rfl⟩ hS ?_
          simp only [List.setIfInBounds_toArray, List.set_cons_zero, List.set_cons_succ]
          refine anyHF_take (i := 7) (d := 55) (v := .int .i64 (Q : Int)) (by kernel_rfl) rfl (by kernel_rfl) (by kernel_rfl) (by kernel_rfl) rfl (fun _ _ _ h => h) ⟨Or.inl ⟨by rfl, fun w hS => by obtain ⟨h0, h1⟩ := hS; go_simp⟩, fun _ => rfl⟩ hS ?_
          simp only [List.setIfInBounds_toArray, List.set_cons_zero, List.set_cons_succ]
          refine anyHF_take (i := 8) (d := 56) (v := .pointer (some ⟨gT, Q, none⟩)) (by kernel_rfl) rfl (by kernel_rfl) (by kernel_rfl) (by kernel_rfl) rfl (fun _ _ _ h => h) ⟨Or.inl ⟨by rfl, fun w hS => by obtain ⟨h0, h1⟩ := hS; go_simp⟩, fun _ => rfl⟩ hS ?_
          simp only [List.setIfInBounds_toArray, List.set_cons_zero, List.set_cons_succ]
          refine anyHF_take (i := 9) (d := 57) (v := .slice Ab n cb2) (by kernel_rfl) rfl (by kernel_rfl) (by kernel_rfl) (by kernel_rfl) rfl (fun _ _ _ h => h) ⟨Or.inl ⟨by rfl, fun w hS => by obtain ⟨h0, h1⟩ := hS; go_simp⟩, fun _ => rfl⟩ hS ?_
          simp only [List.setIfInBounds_toArray, List.set_cons_zero, List.set_cons_succ]
          refine anyHF_one (i := 10) (by kernel_rfl) rfl (by kernel_rfl) (by rfl) ?_
          gi_wp2_with fail
          refine ⟨trivial, (callsIn_wide.2 (rput_any _ _ xa1 xb1 _ ((HXA.out _ (hBs.drew)).more (by have := hBs.size; simp; omega)) ((HXB.out _ (hBs.drew)).more (by have := hBs.size; simp; omega)) (by rw [HLA.out, HLB.out]; exact Nat.le_refl _) (by rw [HLA.out]; omega))).mono ?_⟩
          rintro e wn ⟨v', rfl, hown, hBn⟩
          replace hBn := below_undrew hBn
          have hfr := hown.fresh
          obtain ⟨Ax, cx, hxe, _, _⟩ := id hfr
          rw [HLX.out] at hxe
          subst hxe
          clear hown
          clear hS
          have hS : (fun U : World => U.cell? ⟨gT, m, none⟩ = some (.slice Aa n ca2) ∧ U.cell? ⟨gT, Q, none⟩ = some (.slice Ab n cb2)) wn := HSS.out _ (below_in hBs hBn)
          gi_wp2
          try (refine ⟨hS, ?_⟩)
          refine anyHF_one (i := 11) (by kernel_rfl) rfl (by kernel_rfl) (by rfl) ?_
          have hcells : Below wn.heap.size wn (wn.alloc (.cells #[.slice Ax n cx] 57)) := below_one wn _
          have hBc := below_in hBn hcells
          have HROWM := Lib.hid (RowG.below hrow hBc)
          have HBLK := Lib.hid (Blk.new wn 57 #[.slice Ax n cx])
          have hss := hBs.size
          have hdr : wr.drew.heap.size = wr.heap.size := rfl
          have hbn := hBn.size
          have hcs := hcells.size
          have HBY : Hid (BytesP (fun b => b < (wn.alloc (.cells #[.slice Ax n cx] 57)).heap.size ∧ some b ≠ u10.ownBlock ∧ True) (wn.alloc (.cells #[.slice Ax n cx] 57)) (.slice Ax n cx) (xorB xa1 xb1)) := by
            obtain ⟨A8, cp8, e8, h8, hA8⟩ := hfr.below hcells
            refine ⟨A8, cp8, by rw [← HLX.out] at e8 ⊢; exact e8, h8, fun hp => ?_⟩
            obtain ⟨b, off, q1, q2, q3, q4⟩ := hA8 hp
            exact ⟨b, off, q1, ⟨q3, fun e => (by have := HVLT.out b e.symm; omega), trivial⟩, q4⟩
          clear hfr hS
          have hS : (fun U : World => U.cell? ⟨gT, m, none⟩ = some (.slice Aa n ca2) ∧ U.cell? ⟨gT, Q, none⟩ = some (.slice Ab n cb2)) (wn.alloc (.cells #[.slice Ax n cx] 57)) := HSS.out _ (below_in hBs hBc)
          gi_wp2
          try (refine ⟨hS, ?_⟩)
          refine anyHF_one (i := 12) (by kernel_rfl) rfl (by kernel_rfl) (by rfl) ?_
          refine opIn_pushM (T := 37) (v := u10) _ (.tmp 48) (.tmp 59) rfl Tryz.underlying37 pre rfl HROWM.out wn.heap.size 57 _ (xorB xa1 xb1) rfl HBLK.out HBY.out (by have := HPL.out; omega) (by omega) ?_
          intro v' w4 hrow4 hgrow4 hown4
          clear hS
          have hB4 : Below ws.heap.size ws w4 := below_grown (below_in hBs hBc) hgrow4 (by omega) (fun g e => HVLE.out g e)
          have hS : (fun U : World => U.cell? ⟨gT, m, none⟩ = some (.slice Aa n ca2) ∧ U.cell? ⟨gT, Q, none⟩ = some (.slice Ab n cb2)) w4 := HSS.out _ hB4
          gi_wp2_with fail
          try (refine ⟨hS, ?_⟩)
          refine anyHF_one (i := 13) (by kernel_rfl) rfl (by kernel_rfl) (by rfl) ?_
          gi_wp2
          refine anyHF_done (by kernel_rfl) ?_ _
          refine NoPanic.normal ?_
          clear hS
          gi_wp2_with fail
          go_wp2
          go_roundw
          case rel => exact ⟨m + 1, by omega, by go_num, by rw [HNX2.out]; exact hrow4, hB4⟩
          case measure => simp [intOf]; omega
        · have hmQ : m = Q := by omega
          rw [hmQ] at hrow
          have hdec : decide ((m : Int) < (P : Int) - 1) = false := by rw [hpq, hmQ]; simp
          have HE : Hid ((turnX P Q n c b).take Q = turnC P Q n c b) := by unfold Hid; rw [List.take_of_length_le]; exact HIS.out; unfold turnX; simp
          rw [HE.out] at hrow
          clear hmQ
          go_wp2
          go_ret
          exact ⟨_, rfl, RowM.many_ hrow, hBw.trans (hBs.mono (by have := hBw.size; omega))⟩
end Go.Proofs.YtfihlelhpmjpaaaGreatDoor.Rg

namespace Go.Proofs.YtfihlelhpmjpaaaGreatDoor.Rg
open Go.RowKit Go.Shelf Go.Proofs.YtfihlelhpmjpaaaGreatDoor.C Go.Proofs.YtfihlelhpmjpaaaGreatDoor.E
set_option linter.unusedSimpArgs false
set_option linter.unusedVariables false
attribute [local go_sem] Oper.semAt_some

theorem putY {P Q n : Nat} (D : Dims P Q n) (a e : List (List UInt8)) (ga : GoodC Q n a) (ge : GoodC Q n e) (u v : Value) (w : World) (h1 : Many w.heap.size w u a) (h2 : Many w.heap.size w v e) :
    Calls Tryz.prog 53 #[u, v] w fun e' w' => ∃ z, e' = .returned z ∧ Many w'.heap.size w' z (putC a e) ∧ Below w.heap.size w w' := by
  have hpb := prm_bounds D.hp
  have hQ := D.hQ
  have h64 := D.h64
  exact putD_any u v a e Q n w (Nat.le_refl _) h1 h2 ga.1 ge.1 (by omega) (fun i hi => (ga.2 i hi).2) (fun i hi => (ge.2 i hi).2) (by omega)
end Go.Proofs.YtfihlelhpmjpaaaGreatDoor.Rg

namespace Go.Proofs.YtfihlelhpmjpaaaGreatDoor.Ch
open Go.RowKit Go.Shelf Go.Maps Go.Proofs.YtfihlelhpmjpaaaGreatDoor.C Go.Proofs.YtfihlelhpmjpaaaGreatDoor.E Go.Proofs.YtfihlelhpmjpaaaGreatDoor.Rg
set_option linter.unusedSimpArgs false
set_option linter.unusedVariables false
attribute [local go_sem] Oper.semAt_some

set_option maxRecDepth 100000 in
set_option maxHeartbeats 1000000 in
theorem among_any (b off cap : Nat) (ls : List Int) (x : Int) (hls : ls.length ≤ 1000) (w : World) (hcell : ∀ j, j < ls.length → w.cell? ⟨b, off + j, none⟩ = some (.int .i64 (ls[j]?.getD 0))) :
    Calls Tryz.prog 49 #[.slice (some ⟨b, off, none⟩) ls.length cap, .int .i64 x] w fun e w' => e = .returned (.bool (decide (x ∈ ls))) ∧ w' = w := by
  have HCE := Lib.hid hcell
  clear hcell
  obtain ⟨r, hr⟩ : ∃ r, decide (x ∈ ls) = r := ⟨_, rfl⟩
  have HR := Lib.hid hr
  rw [hr]
  clear hr
  go_enter Tryz.func49, Tryz.ntmps49
  go_wp2_with fail
  go_loop [5] (fun i => ∃ k : Nat, k ≤ ls.length ∧ i = .int .i64 k ∧ Hid (x ∉ ls.take k)) (fun i => ls.length - (intOf i).toNat)
  case atStart => exact ⟨0, Nat.zero_le _, rfl, Lib.hid (by simp)⟩
  case round =>
    obtain ⟨k, hk, rfl, HN⟩ := hrel
    by_cases hlt : k < ls.length
    · have hdec : decide ((k : Int) < (ls.length : Int)) = true := by simp; omega
      have i1 : (0 : Int) ≤ (k : Int) := by omega
      have i2 : (k : Int) < (ls.length : Int) := by omega
      have hc := HCE.out k hlt
      have hg : ls[k]?.getD 0 = ls[k] := by rw [List.getElem?_eq_getElem hlt]; rfl
      have HT : Hid (ls.take (k + 1) = ls.take k ++ [ls[k]]) := List.take_succ_eq_append_getElem hlt
      rw [hg] at hc
      by_cases hx : x = ls[k]
      · have HE : Hid (r = true) := by
          unfold Hid
          rw [← HR.out]
          exact decide_eq_true (by rw [hx]; exact List.getElem_mem hlt)
        generalize ls[k] = y at hc hx
        subst hx
        have hd : (x == x) = true := by simp
        clear HT hg
        go_wp2
        go_ret
        exact ⟨by rw [HE.out]; rfl, rfl⟩
      · have hd : (ls[k] == x) = false := by rw [beq_eq_false_iff_ne]; exact fun h => hx h.symm
        have HN2 : Hid (x ∉ ls.take (k + 1)) := by
          unfold Hid
          rw [HT.out]
          intro h
          rcases List.mem_append.1 h with h | h
          · exact HN.out h
          · exact hx (List.mem_singleton.1 h)
        have HX := Lib.hid hx
        generalize ls[k] = y at hc hd
        clear HT hg hx HX
        go_wp2
        go_round
        case rel => exact ⟨k + 1, by omega, by go_num, HN2⟩
        case measure => simp [intOf]; omega
    · obtain rfl : k = ls.length := by omega
      have e1 : decide ((ls.length : Int) < (ls.length : Int)) = false := by simp
      have HE : Hid (r = false) := by
        unfold Hid
        rw [← HR.out]
        have := HN.out
        rw [List.take_length] at this
        exact decide_eq_false this
      go_wp2
      go_ret
      exact ⟨by rw [HE.out]; rfl, rfl⟩
set_option maxRecDepth 100000 in
set_option maxHeartbeats 4000000 in
theorem right11_any {B : Nat} (p many : Int) (hp : p ∈ prm) (g cap : Nat) (L : List Int) (hLl : L.length ≤ 1000) (css : List (List (List UInt8))) (hN : (css.length : Int) = many) (hN0 : 0 < css.length) (hNl : css.length ≤ 100) (v : Value) (w : World) (hB : B ≤ w.heap.size) (hg : g < w.heap.size) (hcell : ∀ j, j < L.length → w.cell? ⟨g, j, none⟩ = some (.int .i64 (L[j]?.getD 0))) (hC : Cols B w v css) (b : Bool) (hb : b = true ↔ RightD p (kept L css css.length)) :
    Calls Tryz.prog 18 #[.int .i64 p, v, .int .i64 many, .slice (some ⟨g, 0, none⟩) L.length cap] w fun e w' => e = .returned (.bool b) ∧ Below w.heap.size w w' := by
  have HR := Lib.hid (Go.Proofs.YtfihlelhpmjpaaaGreatDoor.right_any p w)
  rw [decide_eq_true hp] at HR
  obtain ⟨gl, go, vc, rfl, hcapN, hgl, hrow⟩ := hC.at_ hN0
  have HROW := Lib.hid hrow
  have HR6 := Lib.hid (fun (V : World) (kv : Value) (hk : Cols V.heap.size V kv (kept L css css.length)) => right6_any (B := V.heap.size) p kv _ V (Nat.le_refl _) hk (Nat.le_trans (kept_len _ _ _) (by omega)) b hb)
  have HCNT := Lib.hid (fun (x : Int) (V : World) (h : ∀ j, j < L.length → V.cell? ⟨g, j, none⟩ = some (.int .i64 (L[j]?.getD 0))) => among_any g 0 cap L x hLl V (fun j hj => by rw [Nat.zero_add]; exact h j hj))
  have HCE := Lib.hid hcell
  obtain ⟨N, hNe⟩ : ∃ N, css.length = N := ⟨_, rfl⟩
  rw [hNe] at hN hN0 hNl hcapN HROW HR6 ⊢
  subst hN
  have e0 : ((N : Int) != (N : Int)) = false := by simp
  obtain ⟨M, hM⟩ : ∃ M, L.length = M := ⟨_, rfl⟩
  rw [hM] at HCNT HCE ⊢
  clear hC hrow hNe hp hcell hM hb hLl
  go_enter Tryz.func18, Tryz.ntmps18
  go_wp2_with fail
  refine HR.out.mono ?_
  rintro e w1 ⟨rfl, hB1⟩
  clear HR
  go_wp2_with fail
  clear e0
  go_loopw [9, 10] (fun v i wr => ∃ k : Nat, k ≤ N ∧ i = .int .i64 k ∧ RowC (· < B) wr w1.heap.size v (kept L css k) ∧ Below w1.heap.size w1 wr) (fun _ i _ => N - (intOf i).toNat)
  case atStart => exact ⟨0, Nat.zero_le _, rfl, RowG.nil _ _ _ _ _ _, Below.refl _ _⟩
  case round =>
    obtain ⟨k, hk, rfl, hrw, hBr⟩ := hrel
    have hs1 := hB1.size
    by_cases hlt : k < N
    · have hdec : decide ((k : Int) < (N : Int)) = true := by simp; omega
      obtain ⟨u1, hc1, hm1⟩ := HROW.out k hlt
      obtain ⟨A4, cap4, rfl, _, _⟩ := id hm1
      have hc2 := ((below_in hB1 hBr).cell (p := ⟨gl, go + k, none⟩) (Nat.lt_of_lt_of_le hgl hB)).trans hc1
      have hm2 : Many B wr _ _ := hm1.below ((below_in hB1 hBr).mono hB)
      have HCN := Lib.hid (HCNT.out (k : Int) wr (fun j hj => ((below_in hB1 hBr).cell (p := ⟨g, j, none⟩) hg).trans (HCE.out j hj)))
      have i1 : (0 : Int) ≤ (k : Int) := by omega
      have i2 : (k : Int) < (N : Int) := by omega
      have hszr := hBr.size
      by_cases hmem : (k : Int) ∈ L
      · have hnx := kept_in (css := css) hmem
        rw [decide_eq_true hmem] at HCN
        have HNX := Lib.hid (And.intro hnx hrw)
        clear hc1 hm1 hm2 hnx hmem hrw
        generalize (css[k]?.getD []).length = n7 at *
        go_wp2_with (go_at_call 49; refine HCN.out.mono ?_; rintro e w2 ⟨rfl, rfl⟩)
        go_roundw
        case rel => exact ⟨k + 1, by omega, by go_num, by rw [HNX.out.1]; exact HNX.out.2, hBr⟩
        case measure => simp [intOf]; omega
      · have hnx := kept_out (css := css) hmem
        rw [decide_eq_false hmem] at HCN
        have HVLE := Lib.hid (fun b e => RowG.own_le hrw b e)
        have hpl : (kept L css k).length ≤ 100 := by have := kept_len L css k; omega
        clear hc1 hm1
        generalize css[k]?.getD [] = xs at *
        generalize kept L css k = pre at *
        have HNX := Lib.hid hnx
        clear hnx hmem
        generalize xs.length = n7 at *
        have hcells : Below wr.heap.size wr (wr.alloc (.cells #[.slice A4 n7 cap4] 37)) := below_one wr _
        have HROWC := Lib.hid (RowG.below hrw hcells)
        have HBLK := Lib.hid (Blk.new wr 37 #[.slice A4 n7 cap4])
        have HCP : Hid (manyR.R (fun b => b < (wr.alloc (.cells #[.slice A4 n7 cap4] 37)).heap.size ∧ some b ≠ u9.ownBlock ∧ b < B) (wr.alloc (.cells #[.slice A4 n7 cap4] 37)) (.slice A4 n7 cap4) xs) :=
          SliceP.imp (hm2.below (hcells.mono (by omega))) fun b hb => ⟨by have hb' : b < B := hb; simp; omega, fun e => by have := HVLE.out b e.symm; have hb' : b < B := hb; omega, hb⟩
        clear hrw hm2
        go_wp2_with (first
          | (go_at_call 49; refine HCN.out.mono ?_; rintro e w2 ⟨rfl, rfl⟩)
          | (at_builtin; refine wpList_pushC (T := 22) _ rfl _ _ rfl Tryz.underlying22 pre rfl HROWC.out w2.heap.size 37 _ xs rfl HBLK.out HCP.out (by omega) (by simp; omega) ?_; intro v' w3 hrow4 hgrow hown))
        go_roundw
        case rel => exact ⟨k + 1, by omega, by go_num, by rw [HNX.out]; exact hrow4, below_grown (below_in hBr hcells) hgrow (by simp; omega) (fun g e => by have := HVLE.out g e; omega)⟩
        case measure => simp [intOf]; omega
    · obtain rfl : k = N := by omega
      have e1 : decide ((k : Int) < (k : Int)) = false := by simp
      have hcc := RowC.cols hrw
      have HKV := Lib.hid (HR6.out _ _ hcc)
      have hBq := below_in hB1 hBr
      obtain ⟨kA, kc, hkv, _, _⟩ := id hcc
      subst hkv
      generalize (kept L css k).length = K at *
      clear hcc hrw
      go_wp2_with fail
      refine HKV.out.mono ?_
      rintro e w5 ⟨rfl, hB5⟩
      go_wp2
      go_ret
      exact ⟨rfl, below_in hBq hB5⟩
set_option maxRecDepth 100000 in
set_option maxHeartbeats 4000000 in
theorem sums11_any {B P Q n : Nat} (d : Dims P Q n) (g cap : Nat) (L : List Int) (hLl : L.length ≤ 1000) (fc : Int) (hf : 0 ≤ fc ∧ fc ≤ 1) (css : List (List (List UInt8))) (N : Nat) (hcl : css.length = N) (hN : P ≤ N) (hgood : ∀ c : Nat, c < P → (c : Int) ∉ L → GoodC Q n (css[c]?.getD [])) (fr : List (List UInt8)) (gf : GoodC Q n fr) (fv : Value) (vA : Option Addr) (vc : Nat) (w : World) (hB : B ≤ w.heap.size) (hg : g < w.heap.size) (hcell : ∀ j, j < L.length → w.cell? ⟨g, j, none⟩ = some (.int .i64 (L[j]?.getD 0))) (hC : Cols B w (.slice vA N vc) css) (hF : Many w.heap.size w fv fr) :
    Calls Tryz.prog 50 #[.int .i64 (P : Int), .slice vA N vc, fv, .int .i64 (P : Int), .slice (some ⟨g, 0, none⟩) L.length cap, .int .i64 fc] w fun e w' => ∃ u, e = .returned u ∧ Many w'.heap.size w' u (sumsD P Q n css fr L fc P) ∧ Below w.heap.size w w' := by
  have hpb := prm_bounds d.hp
  obtain ⟨gl, go, vc', hve, hcapN, hgl, hrow⟩ := hC.at_ (by omega)
  injection hve with e1 e2 e3
  subst e1 e3
  clear e2
  have HROW := Lib.hid hrow
  have HCNT := Lib.hid (fun (x : Int) (V : World) (h : ∀ j, j < L.length → V.cell? ⟨g, j, none⟩ = some (.int .i64 (L[j]?.getD 0))) => among_any g 0 cap L x hLl V (fun j hj => by rw [Nat.zero_add]; exact h j hj))
  have HCE := Lib.hid hcell
  have HG := Lib.hid (fun m => sumsD_good (css := css) (L := L) (f := fc) d gf m)
  have HGD := Lib.hid hgood
  have HCL := Lib.hid hcl
  obtain ⟨M, hM⟩ : ∃ M, L.length = M := ⟨_, rfl⟩
  rw [hM] at HCNT HCE ⊢
  have HIN : Hid (∀ k, (k : Nat) < P → ((k : Int) ∈ L) → sumsD P Q n css fr L fc (k + 1) = sumsD P Q n css fr L fc k) := fun k hk h => by
    show (if (k : Int) ∈ L then _ else _) = _
    rw [if_pos h]
  have HOUT : Hid (∀ k, (k : Nat) < P → ((k : Int) ∉ L) → sumsD P Q n css fr L fc (k + 1) = putC (sumsD P Q n css fr L fc k) (turnC P Q n (css[k]?.getD []) ((k : Int) * fc))) := fun k hk h => by
    show (if (k : Int) ∈ L then _ else _) = _
    rw [if_neg h]
  have hF0 : Many w.heap.size w fv (sumsD P Q n css fr L fc 0) := hF
  clear hC hrow hcell hM hLl hgood gf hcl hF hcapN
  go_enter Tryz.func50, Tryz.ntmps50
  go_wp2_with fail
  go_loopw [13, 14] (fun v i wr => ∃ k : Nat, k ≤ P ∧ i = .int .i64 k ∧ Many wr.heap.size wr v (sumsD P Q n css fr L fc k) ∧ Below w.heap.size w wr) (fun _ i _ => P - (intOf i).toNat)
  case atStart => exact ⟨0, Nat.zero_le _, rfl, hF0, Below.refl _ _⟩
  case round =>
    clear hF0
    obtain ⟨k, hk, rfl, hrw, hBr⟩ := hrel
    by_cases hlt : k < P
    · have hdec : decide ((k : Int) < (P : Int)) = true := by simp; omega
      obtain ⟨u1, hc1, hm1⟩ := HROW.out k (by have := HCL.out; omega)
      obtain ⟨A4, cap4, rfl, _, _⟩ := id hm1
      have hc2 := (hBr.cell (p := ⟨gl, go + k, none⟩) (Nat.lt_of_lt_of_le hgl hB)).trans hc1
      have hm2 := (hm1.below (hBr.mono hB)).more (Nat.le_trans hB hBr.size)
      have HCN := Lib.hid (HCNT.out (k : Int) wr (fun j hj => (hBr.cell (p := ⟨g, j, none⟩) hg).trans (HCE.out j hj)))
      have i1 : (0 : Int) ≤ (k : Int) := by omega
      have i2 : (k : Int) < (N : Int) := by omega
      have hszr := hBr.size
      by_cases hmem : (k : Int) ∈ L
      · rw [decide_eq_true hmem] at HCN
        have HNX := Lib.hid (And.intro (HIN.out k hlt hmem) hrw)
        clear hc1 hm1 hm2 hmem hrw
        generalize (css[k]?.getD []).length = n7 at *
        go_wp2_with (go_at_call 49; refine HCN.out.mono ?_; rintro e w2 ⟨rfl, rfl⟩)
        go_roundw
        case rel => exact ⟨k + 1, by omega, by go_num, by rw [HNX.out.1]; exact HNX.out.2, hBr⟩
        case measure => simp [intOf]; omega
      · rw [decide_eq_false hmem] at HCN
        have HNX := Lib.hid (HOUT.out k hlt hmem)
        have gk := HGD.out k hlt hmem
        have hkf : 0 ≤ (k : Int) * fc ∧ (k : Int) * fc ≤ (k : Int) := by
          rcases (by omega : fc = 0 ∨ fc = 1) with h | h
          · rw [h, Int.mul_zero]; omega
          · rw [h, Int.mul_one]; omega
        have hwm : IntKind.i64.wrap ((k : Int) * fc) = (k : Int) * fc := IntWalk.i64_in _ (by omega)
        rw [gk.1] at hc2 hm2
        have HTU := Lib.hid (turnD_any d ((k : Int) * fc) (by omega) (by omega) _ gk (.slice A4 Q cap4) wr hm2)
        have HPU := Lib.hid (fun (V : World) (u v : Value) (h1 : Many V.heap.size V u (sumsD P Q n css fr L fc k)) (h2 : Many V.heap.size V v (turnC P Q n (css[k]?.getD []) ((k : Int) * fc))) => putY d _ _ (HG.out k) (turn_good d.h1 d.h64 gk _) u v V h1 h2)
        have HRW := Lib.hid hrw
        clear hc1 hm1 hm2 hmem gk hkf hrw
        go_wp2_with (go_at_call 49; refine HCN.out.mono ?_; rintro e w2 ⟨rfl, rfl⟩)
        refine HTU.out.mono ?_
        rintro e w3 ⟨u3, rfl, hu3, hB3⟩
        go_wp2_with fail
        refine (HPU.out w3 _ _ ((HRW.out.below hB3).more hB3.size) hu3).mono ?_
        rintro e w4 ⟨u4, rfl, hu4, hB4⟩
        go_wp2
        go_roundw
        case rel => exact ⟨k + 1, by omega, by go_num, by rw [HNX.out]; exact hu4, below_in hBr (below_in hB3 hB4)⟩
        case measure => simp [intOf]; omega
    · obtain rfl : k = P := by omega
      have e1 : decide ((k : Int) < (k : Int)) = false := by simp
      go_wp2
      go_ret
      exact ⟨_, rfl, hrw, hBr⟩
theorem two_cell {V : World} {g : Nat} {a b : Int} (h : Blk V g 3 #[.int .i64 a, .int .i64 b]) : ∀ j, j < [a, b].length → V.cell? ⟨g, j, none⟩ = some (.int .i64 ([a, b][j]?.getD 0)) := by
  intro j hj
  have hj2 : j = 0 ∨ j = 1 := by simp at hj; omega
  rcases hj2 with rfl | rfl
  · exact h.cell 0
  · exact h.cell 1
end Go.Proofs.YtfihlelhpmjpaaaGreatDoor.Ch

