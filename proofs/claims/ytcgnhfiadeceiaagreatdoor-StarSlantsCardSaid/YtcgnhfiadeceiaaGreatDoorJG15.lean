/- STAR: whether columns are those that are made. STAR: Encode, Adjuster, Over, Check, Slants. The laws of STAR: num, code, right. RDP: the members of a column's cells, row by row. RDP: a column that is made of those ahead of it. RDP: columns one behind the other. RDP: columns with others behind them. RDP: the columns that are made. RDP: Encode, what is left out. RDP: the cells that are not as they are made. RDP: the cells that are wrong, gathered. RDP: whether columns are as they are made; the places of an answer, gone over. RDP: Check, and the wrong cells of an answer. -/
import Derived.Test.YtcgnhfiadeceiaaGreatDoorJG14
import Derived.Test.YtcgnhfiadeceiaaGreatDoorJG6
import Derived.Test.YtcgnhfiadeceiaaGreatDoorJG8
import Derived.Test.YtcgnhfiadeceiaaGreatDoorJG12
import Derived.Test.YtcgnhfiadeceiaaGreatDoorJG7
import Derived.Laws.OwnMore
import Derived.Laws.EntriesVeiled
import Derived.Test.YtcgnhfiadeceiaaGreatDoorJG2
import Derived.Lib.AppendZeros
import Derived.Test.YtcgnhfiadeceiaaGreatDoorJG4
import Derived.Test.YtcgnhfiadeceiaaGreatDoorJCA
namespace Go.Proofs.YtcgnhfiadeceiaaGreatDoor.T
open Go.RowKit Go.Shelf Go.Proofs.YtcgnhfiadeceiaaGreatDoor.C Go.Proofs.YtcgnhfiadeceiaaGreatDoor.E
set_option linter.unusedSimpArgs false
set_option linter.unusedVariables false
attribute [local go_sem] Oper.semAt_some

theorem enter_same1 : ∀ args W, (callFunc 80 args).run Tryz.prog W = .ok (.enter 80 args) W := enters_of Tryz.func80 (by kernel_rfl) rfl
theorem same1_any {B B' : Nat} (v1 v2 : Value) (ls os : List (List UInt8)) (w : World) (h1 : Many B w v1 ls) (h2 : Many B' w v2 os) (hls : ls.length ≤ 100000) (hos : os.length ≤ 100000) :
    Calls Tryz.prog 80 #[v1, v2] w fun e w' => e = .returned (.bool (decide (ls = os))) ∧ w = w' := by
  have H := Lib.hid (C.same_any v1 v2 ls os w h1 h2 (by omega) (by omega))
  obtain ⟨A1, cap1, rfl, _, _⟩ := id h1
  obtain ⟨A2, cap2, rfl, _, _⟩ := id h2
  generalize decide (ls = os) = d at *
  go_enter Tryz.func80, Tryz.ntmps80
  go_wp2_with (go_at_call 81; refine H.out.mono ?_; rintro e w2 ⟨rfl, rfl⟩)
  go_ret
  exact ⟨rfl, rfl⟩
set_option maxRecDepth 100000 in
set_option maxHeartbeats 1000000 in
theorem equalFuncC_any {B B' : Nat} (v1 v2 : Value) (ls os : List (List (List UInt8))) (w : World) (h1 : Cols B w v1 ls) (h2 : Cols B' w v2 os) (hls : ls.length ≤ 1000) (hos : os.length ≤ 1000) (hl1 : ∀ j : Nat, (ls[j]?.getD []).length ≤ 1000) (hl2 : ∀ j : Nat, (os[j]?.getD []).length ≤ 1000) (b : Bool) (hb : b = true ↔ ls = os) :
    Calls Tryz.prog 79 #[v1, v2, .func (.func 80) #[] #[]] w fun e w' => e = .returned (.bool b) ∧ w = w' := by
  obtain ⟨A1, cap1, rfl, _, _⟩ := id h1
  obtain ⟨A2, cap2, rfl, _, _⟩ := id h2
  have hent := enter_same1
  have HLS := Lib.hid hl1
  have HOS := Lib.hid hl2
  clear hl1 hl2
  rw [same3c_iff] at hb
  by_cases hl : ls.length = os.length
  · have HLn := Lib.hid hl
    rw [hl]
    rw [hl] at hls
    clear hl
    go_enter Tryz.func79, Tryz.ntmps79
    go_wp2
    go_loop [17] (fun i => ∃ k : Nat, k ≤ os.length ∧ i = .int .i64 k ∧ Hid (∀ j, j < k → (ls[j]?.getD []) = (os[j]?.getD []))) (fun i => os.length - (intOf i).toNat)
    case atStart => exact ⟨0, Nat.zero_le _, rfl, Lib.hid fun j hj => absurd hj (by omega)⟩
    case round =>
      obtain ⟨k, hk, rfl, HA⟩ := hrel
      by_cases hlt : k < os.length
      · have hdec : decide ((k : Int) < (os.length : Int)) = true := by simp; omega
        obtain ⟨b1, off1, cq1, e1, _, _, hrow1⟩ := h1.at_ (by have := HLn.out; omega)
        injection e1 with e1 _ e1c
        subst e1
        subst e1c
        obtain ⟨u1, hc1, hm1⟩ := hrow1 k (by have := HLn.out; omega)
        obtain ⟨b2, off2, cq2, e2, _, _, hrow2⟩ := h2.at_ (by omega)
        injection e2 with e2 _ e2c
        subst e2
        subst e2c
        obtain ⟨u2, hc2, hm2⟩ := hrow2 k hlt
        have HE := Lib.hid (same1_any _ _ _ _ w hm1 hm2 (by have := HLS.out k; omega) (by have := HOS.out k; omega))
        have HL : Hid ((ls[k]?.getD []) = (os[k]?.getD []) → ∀ j, j < k + 1 → (ls[j]?.getD []) = (os[j]?.getD [])) := by
          intro h j hj
          rcases Nat.lt_or_ge j k with h1 | h1
          · exact HA.out j h1
          · obtain rfl : j = k := by omega
            exact h
        have HM : Hid (¬ (ls[k]?.getD []) = (os[k]?.getD []) → ¬ b = true) := fun h h2 => h ((hb.1 h2).2 k (by have := HLn.out; omega))
        obtain ⟨A3, cap3, rfl, _, _⟩ := id hm1
        obtain ⟨A4, cap4, rfl, _, _⟩ := id hm2
        clear hrow1 hrow2 hm1 hm2
        generalize ls[k]?.getD [] = x at *
        generalize os[k]?.getD [] = y at *
        have hk2 : (k : Int) < (os.length : Int) := by omega
        by_cases hxy : x = y
        · rw [decide_eq_true hxy] at HE
          have HL2 := Lib.hid (HL.out hxy)
          clear HL HM hxy
          go_wp2_with fail
          refine HE.out.mono ?_
          rintro e w2 ⟨rfl, rfl⟩
          go_wp2
          go_round
          case rel => exact ⟨k + 1, by omega, by go_num, HL2⟩
          case measure => simp [intOf]; omega
        · rw [decide_eq_false hxy] at HE
          have HM2 := Lib.hid (HM.out hxy)
          clear HL HM hxy
          go_wp2_with fail
          refine HE.out.mono ?_
          rintro e w2 ⟨rfl, rfl⟩
          go_wp2
          go_ret
          exact ⟨ret_bool (Bool.eq_false_iff.2 HM2.out).symm, rfl⟩
      · obtain rfl : k = os.length := by omega
        have e1 : decide ((os.length : Int) < (os.length : Int)) = false := by simp
        go_wp2
        go_ret
        exact ⟨ret_bool (hb.2 ⟨HLn.out, fun j hj => HA.out j (by have := HLn.out; omega)⟩).symm, rfl⟩
  · have e0 : ((ls.length : Int) != (os.length : Int)) = true := by rw [bne_iff_ne]; omega
    have hbf : b = false := Bool.eq_false_iff.2 fun h => hl (hb.1 h).1
    subst hbf
    go_enter Tryz.func79, Tryz.ntmps79
    go_wp2
    go_ret
    exact ⟨rfl, rfl⟩

/-- All columns of STAR. -/
def AllS (p : Int) (all : List (List (List UInt8))) : Prop := RightD p all ∧ (all.length : Int) = p + 3
theorem allS_data {p : Int} {all : List (List (List UInt8))} (h : AllS p all) : DataOk p (all.take p.toNat) := by
  have hb := prm_bounds h.1.1
  have hl := h.2
  have hlen : (all.take p.toNat).length = p.toNat := by rw [List.length_take]; omega
  have hf : firstC (all.take p.toNat) = firstC all := by unfold firstC; rw [List.getElem?_take_of_lt (by omega)]
  refine ⟨⟨by omega, h.1.1⟩, by rw [hlen]; omega, by rw [hlen]; omega, fun j hj => ?_⟩
  rw [hlen] at hj
  rw [hf, List.getElem?_take_of_lt hj]
  exact h.1.2.2 j (by omega)
set_option maxRecDepth 100000 in
set_option maxHeartbeats 4000000 in
theorem areEncoded_any {B : Nat} (p : Int) (v : Value) (all : List (List (List UInt8))) (hok : AllS p all) (w : World) (hL : Laid w) (hB : B ≤ w.heap.size) (hC : Cols B w v all) :
    Calls Tryz.prog 49 #[.agg #[.int .i64 3, .int .i64 p, v]] w fun e w' => e = .returned (.bool (decide (starOf p (all.take p.toNat) = all.drop p.toNat))) ∧ Below w.heap.size w w' := by
  have hpp := prm_bounds hok.1.1
  have hdo := allS_data hok
  obtain ⟨P, rfl⟩ : ∃ P : Nat, p = (P : Int) := ⟨p.toNat, by omega⟩
  rw [Int.toNat_natCast] at hdo ⊢
  obtain ⟨b1, off1, cap, rfl, hcap, hb1, _⟩ := hC.at_ hok.1.2.1
  have hn : all.length = P + 3 := by have := hok.2; omega
  obtain ⟨N, hN⟩ : ∃ N, all.length = N := ⟨_, rfl⟩
  rw [hN] at hC hcap hn ⊢
  obtain ⟨w1, hw1⟩ : ∃ w1, w.alloc (.cells #[.int .i64 3, .int .i64 (P : Int), .slice (some ⟨b1, off1, none⟩) N cap] 60) = w1 := ⟨_, rfl⟩
  have b0 : Blk w1 w.heap.size 60 #[.int .i64 3, .int .i64 (P : Int), .slice (some ⟨b1, off1, none⟩) N cap] := by rw [← hw1]; exact Blk.new w _ _
  have hBW : Below w.heap.size w w1 := by rw [← hw1]; exact below_one w _
  have hL1 := hL.next hBW
  have hC1 := hC.below (hBW.mono hB)
  have hB1 : B ≤ w1.heap.size := Nat.le_trans hB hBW.size
  have HD := Lib.hid ((many_data (P : Int)).2 w1 hL1 |>.mono fun _ _ h => (⟨h.1 (rightC3 hok.1.1), h.2.2⟩ : _ ∧ _))
  have HENC := Lib.hid (fun (U : World) (hU : Below w1.heap.size w1 U) => encoded_any (P : Int) (.slice (some ⟨b1, off1, none⟩) P cap) (all.take P) U (hL1.next hU) (Nat.le_trans hB1 hU.size) (Cols.take_ (hC1.below (hU.mono hB1)) (m := P) (by omega)) hdo)
  have hec := star_cells hdo
  have hdl : ∀ j : Nat, ((all.drop P)[j]?.getD []).length ≤ 1000 := fun j => by
    rw [List.getElem?_drop]
    rcases Nat.lt_or_ge (P + j) N with h | h
    · have := (hok.1.2.2 (P + j) (by omega)).1
      omega
    · rw [List.getElem?_eq_none (by omega)]; simp
  have hel : ∀ j : Nat, ((starOf (P : Int) (all.take P))[j]?.getD []).length ≤ 1000 := fun j => by
    rcases Nat.lt_or_ge j 3 with h | h
    · have := (hec.2 j h).1; omega
    · rw [List.getElem?_eq_none (by have := hec.1; omega)]; simp
  have HEQ := Lib.hid (fun (U : World) (u : Value) (hU : Below w1.heap.size w1 U) (hu : Cols U.heap.size U u (starOf (P : Int) (all.take P))) => equalFuncC_any u (.slice (some ⟨b1, off1 + P, none⟩) 3 (cap - P)) (starOf (P : Int) (all.take P)) (all.drop P) U hu (by have h := Cols.drop_ (hC1.below (hU.mono hB1)) (m := P) (by omega); rw [hn, show P + 3 - P = 3 by omega] at h; exact h) (by have := hec.1; omega) (by rw [List.length_drop]; omega) hel hdl (decide (starOf (P : Int) (all.take P) = all.drop P)) decide_eq_true_iff)
  have q1 : (0 : Int) ≤ (P : Int) := by omega
  have q2 : (P : Int) ≤ (cap : Int) := by omega
  have q3 : (P : Int) ≤ (N : Int) := by omega
  have q4 : ¬ cap = P := by omega
  have q5 : N - P = 3 := by omega
  have HSS : Hid (∀ U, Below w1.heap.size w1 U → (fun U : World => U.cell? ⟨w.heap.size, 0, none⟩ = some (.int .i64 3) ∧ U.cell? ⟨w.heap.size, 1, none⟩ = some (.int .i64 (P : Int)) ∧ U.cell? ⟨w.heap.size, 2, none⟩ = some (.slice (some ⟨b1, off1, none⟩) N cap)) U) := fun U hU => ⟨(b0.below hU b0.lt).cell 0, (b0.below hU b0.lt).cell 1, (b0.below hU b0.lt).cell 2⟩
  have c0 := b0.cell 0; have c1 := b0.cell 1; have c2 := b0.cell 2; simp only [List.getElem?_toArray, List.getElem?_cons_zero, List.getElem?_cons_succ] at c0 c1 c2
  clear hdl hel hec hok hdo hC hC1 hN hn
  generalize decide (starOf (P : Int) (all.take P) = all.drop P) = d at *
  generalize starOf (P : Int) (all.take P) = en at *
  refine (callsIn_wide (n := 9)).1 ?_
  refine callsIn_of_wp_marks Tryz.func49 rfl trivial ?_ rfl
  simp only [Tryz.ntmps49, List.size_toArray, List.length_cons, List.length_nil, Nat.reduceAdd, Nat.reduceSub, Array.replicate_succ, Array.replicate_zero, List.push_toArray, List.append_toArray, List.nil_append, List.cons_append]
  gi_wp2_with fail
  refine ⟨trivial, (callsIn_wide.2 HD.out).mono ?_⟩
  rintro e w2 ⟨rfl, hB2⟩
  clear hw1 c0 c1 c2
  gi_wp2_with fail
  refine ⟨trivial, (callsIn_wide.2 (sureI _ w2)).mono ?_⟩
  rintro e wz ⟨rfl, rfl⟩
  gi_wp2_with fail
  have hBx : Below w1.heap.size w1 w2.drew := hB2.drew
  have hS : (fun U : World => U.cell? ⟨w.heap.size, 0, none⟩ = some (.int .i64 3) ∧ U.cell? ⟨w.heap.size, 1, none⟩ = some (.int .i64 (P : Int)) ∧ U.cell? ⟨w.heap.size, 2, none⟩ = some (.slice (some ⟨b1, off1, none⟩) N cap)) w2.drew := HSS.out _ hBx
  refine wpIn_mono (region_HF (Q := NoPanic _) (S := (fun U : World => U.cell? ⟨w.heap.size, 0, none⟩ = some (.int .i64 3) ∧ U.cell? ⟨w.heap.size, 1, none⟩ = some (.int .i64 (P : Int)) ∧ U.cell? ⟨w.heap.size, 2, none⟩ = some (.slice (some ⟨b1, off1, none⟩) N cap))) (by kernel_rfl) ?_) NoPanic.imp
  refine anyHF_take (i := 0) (d := 11) (v := .pointer (some ⟨w.heap.size, 0, none⟩)) (by kernel_rfl) rfl (by kernel_rfl) (by kernel_rfl) (by kernel_rfl) rfl (fun _ _ _ h => h) ⟨Or.inl ⟨by rfl, fun w hS => by obtain ⟨h0, h1, h2⟩ := hS; go_simp⟩, fun _ => rfl⟩ hS ?_
  simp only [List.setIfInBounds_toArray, List.set_cons_zero, List.set_cons_succ]
  refine anyHF_take (i := 1) (d := 12) (v := .agg #[.int .i64 3, .int .i64 (P : Int)]) (by kernel_rfl) rfl (by kernel_rfl) (by kernel_rfl) (by kernel_rfl) rfl (fun _ _ _ h => h) ⟨Or.inl ⟨by rfl, fun w hS => by obtain ⟨h0, h1, h2⟩ := hS; go_simp⟩, fun _ => rfl⟩ hS ?_
  simp only [List.setIfInBounds_toArray, List.set_cons_zero, List.set_cons_succ]
  refine anyHF_take (i := 2) (d := 13) (v := .pointer (some ⟨w.heap.size, 2, none⟩)) (by kernel_rfl) rfl (by kernel_rfl) (by kernel_rfl) (by kernel_rfl) rfl (fun _ _ _ h => h) ⟨Or.inl ⟨by rfl, fun w hS => by obtain ⟨h0, h1, h2⟩ := hS; go_simp⟩, fun _ => rfl⟩ hS ?_
  simp only [List.setIfInBounds_toArray, List.set_cons_zero, List.set_cons_succ]
  refine anyHF_take (i := 3) (d := 14) (v := .slice (some ⟨b1, off1, none⟩) N cap) (by kernel_rfl) rfl (by kernel_rfl) (by kernel_rfl) (by kernel_rfl) rfl (fun _ _ _ h => h) ⟨Or.inl ⟨by rfl, fun w hS => by obtain ⟨h0, h1, h2⟩ := hS; go_simp⟩, fun _ => rfl⟩ hS ?_
  simp only [List.setIfInBounds_toArray, List.set_cons_zero, List.set_cons_succ]
  refine anyHF_take (i := 4) (d := 15) (v := .int .i64 (P : Int)) (by kernel_rfl) rfl (by kernel_rfl) (by kernel_rfl) (by kernel_rfl) rfl (fun _ _ _ h => h) ⟨Or.inl ⟨by rfl, fun w hS => by obtain ⟨h0, h1, h2⟩ := hS; go_simp⟩, fun _ => rfl⟩ hS ?_
  simp only [List.setIfInBounds_toArray, List.set_cons_zero, List.set_cons_succ]
  refine anyHF_take (i := 5) (d := 16) (v := .slice (some ⟨b1, off1, none⟩) P cap) (by kernel_rfl) rfl (by kernel_rfl) (by kernel_rfl) (by kernel_rfl) rfl (fun _ _ _ h => h) ⟨Or.inl ⟨by rfl, fun w hS => by obtain ⟨h0, h1, h2⟩ := hS; go_simp⟩, fun _ => rfl⟩ hS ?_
  simp only [List.setIfInBounds_toArray, List.set_cons_zero, List.set_cons_succ]
  refine anyHF_take (i := 6) (d := 17) (v := .agg #[.int .i64 3, .int .i64 (P : Int), .slice (some ⟨b1, off1, none⟩) P cap]) (by kernel_rfl) rfl (by kernel_rfl) (by kernel_rfl) (by kernel_rfl) rfl (fun _ _ _ h => h) ⟨Or.inl ⟨by rfl, fun w hS => by obtain ⟨h0, h1, h2⟩ := hS; go_simp⟩, fun _ => rfl⟩ hS ?_
  simp only [List.setIfInBounds_toArray, List.set_cons_zero, List.set_cons_succ]
  refine anyHF_one (i := 7) (by kernel_rfl) rfl (by kernel_rfl) (by rfl) ?_
  have hBz : Below w2.heap.size w2 ((w2.alloc (.cells #[.int .i64 0, .int .i64 0, .slice none 0 0] 60)).drew) := (below_one w2 _).drew
  clear hS
  have hS : (fun U : World => U.cell? ⟨w.heap.size, 0, none⟩ = some (.int .i64 3) ∧ U.cell? ⟨w.heap.size, 1, none⟩ = some (.int .i64 (P : Int)) ∧ U.cell? ⟨w.heap.size, 2, none⟩ = some (.slice (some ⟨b1, off1, none⟩) N cap)) ((w2.alloc (.cells #[.int .i64 0, .int .i64 0, .slice none 0 0] 60)).drew) := HSS.out _ (below_in hB2 hBz)
  gi_wp2
  try (refine ⟨hS, ?_⟩)
  refine anyHF_one (i := 8) (by kernel_rfl) rfl (by kernel_rfl) (by rfl) ?_
  obtain ⟨w3, hw3⟩ : ∃ w3, (w2.alloc (.cells #[.int .i64 3, .int .i64 (P : Int), .slice (some ⟨b1, off1, none⟩) P cap] 60)).drew = w3 := ⟨_, rfl⟩
  have hBz3 : Below w2.heap.size w2 w3 := by rw [← hw3]; exact (below_one w2 _).drew
  have b4 : Blk w3 w2.heap.size 60 #[.int .i64 3, .int .i64 (P : Int), .slice (some ⟨b1, off1, none⟩) P cap] := by rw [← hw3]; exact Blk.new w2 _ _
  have hB3 := below_in hB2 hBz3
  have hS3 : (fun U : World => U.cell? ⟨w.heap.size, 0, none⟩ = some (.int .i64 3) ∧ U.cell? ⟨w.heap.size, 1, none⟩ = some (.int .i64 (P : Int)) ∧ U.cell? ⟨w.heap.size, 2, none⟩ = some (.slice (some ⟨b1, off1, none⟩) N cap)) w3 := HSS.out _ hB3
  clear hS
  have hS := hS3
  gi_wp2
  try rw [hw3]
  try (refine ⟨hS, ?_⟩)
  refine anyHF_done (by kernel_rfl) ?_ _
  refine NoPanic.normal ?_
  clear hS hBz hBx
  obtain ⟨g4, hg4⟩ : ∃ g4, w2.heap.size = g4 := ⟨_, rfl⟩
  rw [hg4] at b4 ⊢
  have HTW : Hid (∀ U, Below w3.heap.size w3 U → (fun U : World => U.cell? ⟨w.heap.size, 2, none⟩ = some (.slice (some ⟨b1, off1, none⟩) N cap) ∧ U.cell? ⟨g4, 0, none⟩ = some (.int .i64 3) ∧ U.cell? ⟨g4, 1, none⟩ = some (.int .i64 (P : Int)) ∧ U.cell? ⟨g4, 2, none⟩ = some (.slice (some ⟨b1, off1, none⟩) P cap)) U) := fun U hU => ⟨(HSS.out _ (below_in hB3 hU)).2.2, (b4.below hU b4.lt).cell 0, (b4.below hU b4.lt).cell 1, (b4.below hU b4.lt).cell 2⟩
  gi_wp2_with fail
  have hBx : Below w3.heap.size w3 w3.drew := (Below.refl _ _).drew
  have hS : (fun U : World => U.cell? ⟨w.heap.size, 2, none⟩ = some (.slice (some ⟨b1, off1, none⟩) N cap) ∧ U.cell? ⟨g4, 0, none⟩ = some (.int .i64 3) ∧ U.cell? ⟨g4, 1, none⟩ = some (.int .i64 (P : Int)) ∧ U.cell? ⟨g4, 2, none⟩ = some (.slice (some ⟨b1, off1, none⟩) P cap)) w3.drew := HTW.out _ hBx
  refine wpIn_mono (region_HF (Q := NoPanic _) (S := (fun U : World => U.cell? ⟨w.heap.size, 2, none⟩ = some (.slice (some ⟨b1, off1, none⟩) N cap) ∧ U.cell? ⟨g4, 0, none⟩ = some (.int .i64 3) ∧ U.cell? ⟨g4, 1, none⟩ = some (.int .i64 (P : Int)) ∧ U.cell? ⟨g4, 2, none⟩ = some (.slice (some ⟨b1, off1, none⟩) P cap))) (by kernel_rfl) ?_) NoPanic.imp
  refine anyHF_take (i := 0) (d := 18) (v := .agg #[.int .i64 3, .int .i64 (P : Int), .slice (some ⟨b1, off1, none⟩) P cap]) (by kernel_rfl) rfl (by kernel_rfl) (by kernel_rfl) (by kernel_rfl) rfl (fun _ _ _ h => h) ⟨Or.inl ⟨by rfl, fun w hS => by obtain ⟨h0, h1, h2, h3⟩ := hS; go_simp⟩, fun _ => rfl⟩ hS ?_
  simp only [List.setIfInBounds_toArray, List.set_cons_zero, List.set_cons_succ]
  refine anyHF_take (i := 2) (d := 20) (v := .pointer (some ⟨w.heap.size, 2, none⟩)) (by kernel_rfl) rfl (by kernel_rfl) (by kernel_rfl) (by kernel_rfl) rfl (fun _ _ _ h => h) ⟨Or.inl ⟨by rfl, fun w hS => by obtain ⟨h0, h1, h2, h3⟩ := hS; go_simp⟩, fun _ => rfl⟩ hS ?_
  simp only [List.setIfInBounds_toArray, List.set_cons_zero, List.set_cons_succ]
  refine anyHF_take (i := 3) (d := 21) (v := .slice (some ⟨b1, off1, none⟩) N cap) (by kernel_rfl) rfl (by kernel_rfl) (by kernel_rfl) (by kernel_rfl) rfl (fun _ _ _ h => h) ⟨Or.inl ⟨by rfl, fun w hS => by obtain ⟨h0, h1, h2, h3⟩ := hS; go_simp⟩, fun _ => rfl⟩ hS ?_
  simp only [List.setIfInBounds_toArray, List.set_cons_zero, List.set_cons_succ]
  refine anyHF_take (i := 4) (d := 22) (v := .int .i64 (P : Int)) (by kernel_rfl) rfl (by kernel_rfl) (by kernel_rfl) (by kernel_rfl) rfl (fun _ _ _ h => h) ⟨Or.inl ⟨by rfl, fun w hS => by obtain ⟨h0, h1, h2, h3⟩ := hS; go_simp⟩, fun _ => rfl⟩ hS ?_
  simp only [List.setIfInBounds_toArray, List.set_cons_zero, List.set_cons_succ]
  refine anyHF_take (i := 5) (d := 23) (v := .slice (some ⟨b1, off1 + P, none⟩) 3 (cap - P)) (by kernel_rfl) rfl (by kernel_rfl) (by kernel_rfl) (by kernel_rfl) rfl (fun _ _ _ h => h) ⟨Or.inl ⟨by rfl, fun w hS => by obtain ⟨h0, h1, h2, h3⟩ := hS; go_simp⟩, fun _ => rfl⟩ hS ?_
  simp only [List.setIfInBounds_toArray, List.set_cons_zero, List.set_cons_succ]
  refine anyHF_one (i := 1) (by kernel_rfl) rfl (by kernel_rfl) (by rfl) ?_
  gi_wp2_with fail
  refine ⟨trivial, (callsIn_wide.2 (HENC.out _ (below_in hB3 hBx))).mono ?_⟩
  rintro e w4 ⟨u, rfl, hrow, hB4⟩
  obtain ⟨eA, eN, ec, rfl⟩ := RowG.form hrow
  replace hBx := below_in hBx hB4
  have hcol := RowC.cols hrow
  clear hS
  have hS : (fun U : World => U.cell? ⟨w.heap.size, 2, none⟩ = some (.slice (some ⟨b1, off1, none⟩) N cap) ∧ U.cell? ⟨g4, 0, none⟩ = some (.int .i64 3) ∧ U.cell? ⟨g4, 1, none⟩ = some (.int .i64 (P : Int)) ∧ U.cell? ⟨g4, 2, none⟩ = some (.slice (some ⟨b1, off1, none⟩) P cap)) w4 := HTW.out _ hBx
  gi_wp2
  try (refine ⟨hS, ?_⟩)
  refine anyHF_one (i := 6) (by kernel_rfl) rfl (by kernel_rfl) (by rfl) ?_
  gi_wp2_with fail
  refine ⟨trivial, (callsIn_wide.2 (HEQ.out _ _ (below_in hB3 hBx) hcol)).mono ?_⟩
  rintro e w5 ⟨rfl, rfl⟩
  gi_wp2
  try (refine ⟨hS, ?_⟩)
  refine anyHF_one (i := 7) (by kernel_rfl) rfl (by kernel_rfl) (by rfl) ?_
  gi_wp2
  refine anyHF_done (by kernel_rfl) ?_ _
  refine NoPanic.normal ?_
  have hfin := below_in hBW (below_in hB3 hBx)
  gi_wp2
  exact ⟨_, results_tmp rfl _ _ _, rfl, hfin⟩
end Go.Proofs.YtcgnhfiadeceiaaGreatDoor.T

namespace Go.Proofs.YtcgnhfiadeceiaaGreatDoor.T
open Go.RowKit Go.Shelf Go.Proofs.YtcgnhfiadeceiaaGreatDoor.C Go.Proofs.YtcgnhfiadeceiaaGreatDoor.E
set_option linter.unusedSimpArgs false
set_option linter.unusedVariables false

theorem data_right {p : Int} {css : List (List (List UInt8))} : DataOk p css ↔ (RightD p css ∧ (css.length : Int) = p) :=
  ⟨fun h => ⟨⟨h.1.2, h.2.2⟩, h.2.1⟩, fun h => ⟨⟨by omega, h.1.1⟩, h.2, h.1.2⟩⟩
theorem data_many {p : Int} {css : List (List (List UInt8))} (h : DataOk p css) : Many3 33 p (RightC 3 p) (css.length : Int) := by
  rw [h.2.1]
  exact many_data p

theorem enter_encode1 : ∀ args W, (callFunc 31 args).run Tryz.prog W = .ok (.enter 31 args) W := enters_of Tryz.func31 (by kernel_rfl) rfl
set_option maxRecDepth 100000 in
set_option maxHeartbeats 2000000 in
theorem encode_yes {B : Nat} (p : Int) (v : Value) (css : List (List (List UInt8))) (hok : DataOk p css) (w : World) (hL : Laid w) (hB : B ≤ w.heap.size) (hC : Cols B w v css) :
    Calls Tryz.prog 11 #[.int .i64 p, v] w fun e w' => ∃ u, e = .returned (.tuple #[u, .int .i64 0]) ∧ Cols w'.heap.size w' u (starOf p css) ∧ Below w.heap.size w w' := by
  obtain ⟨hRD, hMN, hlen⟩ : RightD p css ∧ Many3 33 p (RightC 3 p) (css.length : Int) ∧ css.length ≤ 1000 := by have hdn := dataOk_n hok; exact ⟨(data_right.1 hok).1, data_many hok, by omega⟩
  obtain ⟨A, cap, rfl, _, _⟩ := id hC
  obtain ⟨W2, hW2⟩ : ∃ W2, (w.alloc (.cells #[.int .i64 p] 3)).alloc (.cells #[.slice A css.length cap] 22) = W2 := ⟨_, rfl⟩
  have b0 : Blk W2 w.heap.size 3 #[.int .i64 p] := by rw [← hW2]; exact (Blk.new w _ _).alloc _
  have b1 : Blk W2 (w.heap.size + 1) 22 #[.slice A css.length cap] := by rw [← hW2]; exact Blk.second w _ _ _
  have hBW : Below w.heap.size w W2 := by rw [← hW2]; exact below_two w _ _
  have hL2 := hL.next hBW
  have HA := Lib.hid (ans_S_yes 31 #[.pointer (some ⟨w.heap.size, 0, none⟩), .pointer (some ⟨w.heap.size + 1, 0, none⟩)] W2 (fun u W => Cols W.heap.size W u (starOf p css)) (enter_encode1 _) (fun U hU _ => by
    have hLU := hL2.next hU
    have hBU := below_in hBW hU
    have hCU := hC.below (hBU.mono hB)
    have HQ := Lib.hid (asked_yes (B := B) 33 p (.slice A css.length cap) css hMN U hLU (Nat.le_trans hB hBU.size) hCU hlen hRD)
    have HE := Lib.hid (fun (V : World) (hV : Below U.heap.size U V) => encoded_any (B := B) p (.slice A css.length cap) css V (hLU.next hV) (Nat.le_trans hB (Nat.le_trans hBU.size hV.size)) (hCU.below (hV.mono (Nat.le_trans hB hBU.size))) hok)
    have c0 := (b0.below hU b0.lt).one
    have c1 := (b1.below hU b1.lt).one
    clear hC hCU hok b0 b1 hW2 hL hL2 hLU hMN hRD hlen
    generalize css.length = n at *
    go_enter Tryz.func31, Tryz.ntmps31
    go_wp2_with (first
      | (go_at_call 32; refine HQ.out.mono ?_; rintro e w1 ⟨rfl, hB1⟩)
      | (go_at_call 34; refine (HE.out _ hB1).mono ?_; rintro e w2 ⟨u, rfl, hu, hB2⟩; have hu2 := RowC.cols hu; obtain ⟨uA, un, uc, rfl⟩ := RowG.form hu))
    go_ret
    exact ⟨_, rfl, hu2, below_in hB1 hB2⟩))
  clear hC b0 b1 hL2 hok hMN hRD hlen
  generalize css.length = n at *
  go_enter Tryz.func11, Tryz.ntmps11
  have hmf : ∀ (fn : Fn) (first cap : Array Value) (w : World), (Instr.makeFunc fn first cap).run Tryz.prog w = .ok (.func fn first cap) w := fun _ _ _ _ => rfl
  go_wp2_with (go_at_call 30; refine HA.out.mono ?_; rintro e w1 ⟨u, W, rfl, hu, bE, rfl, hB1⟩)
  go_ret2
  exact ⟨u, rfl, Cols.more (Cols.set_int hu bE _) (by simp), below_in hBW hB1⟩
set_option maxRecDepth 100000 in
set_option maxHeartbeats 2000000 in
theorem encode_no {B : Nat} (p : Int) (v : Value) (css : List (List (List UInt8))) (w : World) (hL : Laid w) (hB : B ≤ w.heap.size) (hC : Cols B w v css) (hlen : css.length ≤ 1000) (hcl : ∀ j, j < css.length → (css[j]?.getD []).length ≤ 1000) (hno : ¬ DataOk p css) :
    Calls Tryz.prog 11 #[.int .i64 p, v] w fun e w' => e = .returned (.tuple #[.slice none 0 0, .int .i64 2]) ∧ Below w.heap.size w w' := by
  obtain ⟨A, cap, rfl, _, _⟩ := id hC
  obtain ⟨W2, hW2⟩ : ∃ W2, (w.alloc (.cells #[.int .i64 p] 3)).alloc (.cells #[.slice A css.length cap] 22) = W2 := ⟨_, rfl⟩
  have b0 : Blk W2 w.heap.size 3 #[.int .i64 p] := by rw [← hW2]; exact (Blk.new w _ _).alloc _
  have b1 : Blk W2 (w.heap.size + 1) 22 #[.slice A css.length cap] := by rw [← hW2]; exact Blk.second w _ _ _
  have hBW : Below w.heap.size w W2 := by rw [← hW2]; exact below_two w _ _
  have hL2 := hL.next hBW
  have HA := Lib.hid (ans_S_no 31 #[.pointer (some ⟨w.heap.size, 0, none⟩), .pointer (some ⟨w.heap.size + 1, 0, none⟩)] W2 (enter_encode1 _) (fun U hU _ => by
    have hBU := below_in hBW hU
    have HQ := Lib.hid (asked_no (B := B) 33 p p (.slice A css.length cap) css (many_data p) U (hL2.next hU) (Nat.le_trans hB hBU.size) (hC.below (hBU.mono hB)) hlen hcl (fun h => hno (data_right.2 h)))
    have c0 := (b0.below hU b0.lt).one
    have c1 := (b1.below hU b1.lt).one
    clear hC b0 b1 hW2 hL hL2 hno hcl hlen
    generalize css.length = n at *
    go_enter Tryz.func31, Tryz.ntmps31
    go_wp2_with (go_at_call 32; refine HQ.out.mono ?_; rintro e w1 ⟨rfl, hB1⟩)
    exact ⟨rfl, rfl, hB1⟩))
  clear hC b0 b1 hL2 hno hcl hlen
  generalize css.length = n at *
  go_enter Tryz.func11, Tryz.ntmps11
  have hmf : ∀ (fn : Fn) (first cap : Array Value) (w : World), (Instr.makeFunc fn first cap).run Tryz.prog w = .ok (.func fn first cap) w := fun _ _ _ _ => rfl
  go_wp2_with (go_at_call 30; refine HA.out.mono ?_; rintro e w1 ⟨rfl, hB1⟩)
  go_ret2
  exact ⟨rfl, below_in hBW hB1⟩

theorem enter_adjuster1 : ∀ args W, (callFunc 36 args).run Tryz.prog W = .ok (.enter 36 args) W := enters_of Tryz.func36 (by kernel_rfl) rfl
set_option maxRecDepth 100000 in
set_option maxHeartbeats 2000000 in
theorem adjuster_yes {B : Nat} (p : Int) (v : Value) (css : List (List (List UInt8))) (hok : DataOk p css) (w : World) (hL : Laid w) (hB : B ≤ w.heap.size) (hC : Cols B w v css) :
    Calls Tryz.prog 12 #[.int .i64 p, v] w fun e w' => ∃ u, e = .returned (.tuple #[u, .int .i64 0]) ∧ Bytes w'.heap.size w' u (slOf p css (p - 1)) ∧ Below w.heap.size w w' := by
  obtain ⟨hRD, hMN, hlen⟩ : RightD p css ∧ Many3 33 p (RightC 3 p) (css.length : Int) ∧ css.length ≤ 1000 := by have hdn := dataOk_n hok; exact ⟨(data_right.1 hok).1, data_many hok, by omega⟩
  obtain ⟨A, cap, rfl, _, _⟩ := id hC
  obtain ⟨W2, hW2⟩ : ∃ W2, (w.alloc (.cells #[.int .i64 p] 3)).alloc (.cells #[.slice A css.length cap] 22) = W2 := ⟨_, rfl⟩
  have b0 : Blk W2 w.heap.size 3 #[.int .i64 p] := by rw [← hW2]; exact (Blk.new w _ _).alloc _
  have b1 : Blk W2 (w.heap.size + 1) 22 #[.slice A css.length cap] := by rw [← hW2]; exact Blk.second w _ _ _
  have hBW : Below w.heap.size w W2 := by rw [← hW2]; exact below_two w _ _
  have hL2 := hL.next hBW
  have HA := Lib.hid (ans_B_yes 36 #[.pointer (some ⟨w.heap.size, 0, none⟩), .pointer (some ⟨w.heap.size + 1, 0, none⟩)] W2 (fun u W => Bytes W.heap.size W u (slOf p css (p - 1))) (enter_adjuster1 _) (fun U hU _ => by
    have hLU := hL2.next hU
    have hBU := below_in hBW hU
    have hCU := hC.below (hBU.mono hB)
    have HQ := Lib.hid (asked_yes (B := B) 33 p (.slice A css.length cap) css hMN U hLU (Nat.le_trans hB hBU.size) hCU hlen hRD)
    have HE := Lib.hid (fun (V : World) (hV : Below U.heap.size U V) => adjuster_any (B := B) p (.slice A css.length cap) css V (hLU.next hV) (Nat.le_trans hB (Nat.le_trans hBU.size hV.size)) (hCU.below (hV.mono (Nat.le_trans hB hBU.size))) hok)
    have c0 := (b0.below hU b0.lt).one
    have c1 := (b1.below hU b1.lt).one
    clear hC hCU hok b0 b1 hW2 hL hL2 hLU hMN hRD hlen
    generalize css.length = n at *
    go_enter Tryz.func36, Tryz.ntmps36
    go_wp2_with (first
      | (go_at_call 32; refine HQ.out.mono ?_; rintro e w1 ⟨rfl, hB1⟩)
      | (go_at_call 37; refine (HE.out _ hB1).mono ?_; rintro e w2 ⟨u, rfl, hu, hB2⟩; have hu2 := hu.bytes; obtain ⟨uA, uc, rfl, _⟩ := id hu))
    go_ret
    exact ⟨_, rfl, hu2, below_in hB1 hB2⟩))
  clear hC b0 b1 hL2 hok hMN hRD hlen
  generalize css.length = n at *
  go_enter Tryz.func12, Tryz.ntmps12
  have hmf : ∀ (fn : Fn) (first cap : Array Value) (w : World), (Instr.makeFunc fn first cap).run Tryz.prog w = .ok (.func fn first cap) w := fun _ _ _ _ => rfl
  go_wp2_with (go_at_call 35; refine HA.out.mono ?_; rintro e w1 ⟨u, W, rfl, hu, bE, rfl, hB1⟩)
  go_ret2
  exact ⟨u, rfl, Bytes.more (Bytes.set_int hu bE _) (by simp), below_in hBW hB1⟩
set_option maxRecDepth 100000 in
set_option maxHeartbeats 2000000 in
theorem adjuster_no {B : Nat} (p : Int) (v : Value) (css : List (List (List UInt8))) (w : World) (hL : Laid w) (hB : B ≤ w.heap.size) (hC : Cols B w v css) (hlen : css.length ≤ 1000) (hcl : ∀ j, j < css.length → (css[j]?.getD []).length ≤ 1000) (hno : ¬ DataOk p css) :
    Calls Tryz.prog 12 #[.int .i64 p, v] w fun e w' => e = .returned (.tuple #[.slice none 0 0, .int .i64 2]) ∧ Below w.heap.size w w' := by
  obtain ⟨A, cap, rfl, _, _⟩ := id hC
  obtain ⟨W2, hW2⟩ : ∃ W2, (w.alloc (.cells #[.int .i64 p] 3)).alloc (.cells #[.slice A css.length cap] 22) = W2 := ⟨_, rfl⟩
  have b0 : Blk W2 w.heap.size 3 #[.int .i64 p] := by rw [← hW2]; exact (Blk.new w _ _).alloc _
  have b1 : Blk W2 (w.heap.size + 1) 22 #[.slice A css.length cap] := by rw [← hW2]; exact Blk.second w _ _ _
  have hBW : Below w.heap.size w W2 := by rw [← hW2]; exact below_two w _ _
  have hL2 := hL.next hBW
  have HA := Lib.hid (ans_B_no 36 #[.pointer (some ⟨w.heap.size, 0, none⟩), .pointer (some ⟨w.heap.size + 1, 0, none⟩)] W2 (enter_adjuster1 _) (fun U hU _ => by
    have hBU := below_in hBW hU
    have HQ := Lib.hid (asked_no (B := B) 33 p p (.slice A css.length cap) css (many_data p) U (hL2.next hU) (Nat.le_trans hB hBU.size) (hC.below (hBU.mono hB)) hlen hcl (fun h => hno (data_right.2 h)))
    have c0 := (b0.below hU b0.lt).one
    have c1 := (b1.below hU b1.lt).one
    clear hC b0 b1 hW2 hL hL2 hno hcl hlen
    generalize css.length = n at *
    go_enter Tryz.func36, Tryz.ntmps36
    go_wp2_with (go_at_call 32; refine HQ.out.mono ?_; rintro e w1 ⟨rfl, hB1⟩)
    exact ⟨rfl, rfl, hB1⟩))
  clear hC b0 b1 hL2 hno hcl hlen
  generalize css.length = n at *
  go_enter Tryz.func12, Tryz.ntmps12
  have hmf : ∀ (fn : Fn) (first cap : Array Value) (w : World), (Instr.makeFunc fn first cap).run Tryz.prog w = .ok (.func fn first cap) w := fun _ _ _ _ => rfl
  go_wp2_with (go_at_call 35; refine HA.out.mono ?_; rintro e w1 ⟨rfl, hB1⟩)
  go_ret2
  exact ⟨rfl, below_in hBW hB1⟩

theorem data_small {p : Int} {css : List (List (List UInt8))} (h : DataOk p css) (j i : Nat) : (css[j]?.getD []).length ≤ 1000 ∧ ((css[j]?.getD [])[i]?.getD []).length ≤ 1000 := by
  have hd := dataOk_n h
  have hf := togOk_first h.2.2
  have hg := togOk_grid h.2.2
  rcases Nat.lt_or_ge j css.length with hj | hj
  · have h1 := hg j hj
    refine ⟨by omega, ?_⟩
    rcases Nat.lt_or_ge i (p - 1).toNat with hi | hi
    · rw [h1.2 i hi]; omega
    · rw [List.getElem?_eq_none (by omega)]; simp
  · rw [List.getElem?_eq_none hj]; simp

theorem enter_over1 : ∀ args W, (callFunc 38 args).run Tryz.prog W = .ok (.enter 38 args) W := enters_of Tryz.func38 (by kernel_rfl) rfl
set_option maxRecDepth 100000 in
set_option maxHeartbeats 2000000 in
theorem over_yes {B : Nat} (p : Int) (v : Value) (css : List (List (List UInt8))) (hok : DataOk p css) (w : World) (hL : Laid w) (hB : B ≤ w.heap.size) (hC : Cols B w v css) :
    Calls Tryz.prog 13 #[.int .i64 p, v] w fun e w' => ∃ u, e = .returned (.tuple #[u, .int .i64 0]) ∧ Cols w'.heap.size w' u (overOf css) ∧ Below w.heap.size w w' := by
  obtain ⟨hRD, hMN, hlen⟩ : RightD p css ∧ Many3 33 p (RightC 3 p) (css.length : Int) ∧ css.length ≤ 1000 := by have hdn := dataOk_n hok; exact ⟨(data_right.1 hok).1, data_many hok, by omega⟩
  obtain ⟨A, cap, rfl, _, _⟩ := id hC
  obtain ⟨W2, hW2⟩ : ∃ W2, (w.alloc (.cells #[.int .i64 p] 3)).alloc (.cells #[.slice A css.length cap] 22) = W2 := ⟨_, rfl⟩
  have b0 : Blk W2 w.heap.size 3 #[.int .i64 p] := by rw [← hW2]; exact (Blk.new w _ _).alloc _
  have b1 : Blk W2 (w.heap.size + 1) 22 #[.slice A css.length cap] := by rw [← hW2]; exact Blk.second w _ _ _
  have hBW : Below w.heap.size w W2 := by rw [← hW2]; exact below_two w _ _
  have hL2 := hL.next hBW
  have HA := Lib.hid (ans_S_yes 38 #[.pointer (some ⟨w.heap.size, 0, none⟩), .pointer (some ⟨w.heap.size + 1, 0, none⟩)] W2 (fun u W => Cols W.heap.size W u (overOf css)) (enter_over1 _) (fun U hU _ => by
    have hLU := hL2.next hU
    have hBU := below_in hBW hU
    have hCU := hC.below (hBU.mono hB)
    have HQ := Lib.hid (asked_yes (B := B) 33 p (.slice A css.length cap) css hMN U hLU (Nat.le_trans hB hBU.size) hCU hlen hRD)
    have HE := Lib.hid (fun (V : World) (hV : Below U.heap.size U V) => over_any (B := B) (.slice A css.length cap) css V (Nat.le_trans hB (Nat.le_trans hBU.size hV.size)) (hCU.below (hV.mono (Nat.le_trans hB hBU.size))) (by have := dataOk_n hok; omega) hlen (fun j i => data_small hok j i))
    have c0 := (b0.below hU b0.lt).one
    have c1 := (b1.below hU b1.lt).one
    clear hC hCU hok b0 b1 hW2 hL hL2 hLU hMN hRD hlen
    generalize css.length = n at *
    have hfl : ∀ W : World, (Instr.field 60 (.agg #[.int .i64 3, .int .i64 p, .slice A n cap]) 1).run Tryz.prog W = .ok (.slice A n cap) W := fun W => by kernel_rfl
    go_enter Tryz.func38, Tryz.ntmps38
    go_wp2_with (first
      | (go_at_call 32; refine HQ.out.mono ?_; rintro e w1 ⟨rfl, hB1⟩)
      | (go_at_call 39; refine (HE.out _ hB1).mono ?_; rintro e w2 ⟨u, rfl, hu, hB2⟩; obtain ⟨uA, uc, rfl, _⟩ := id hu))
    go_ret
    exact ⟨_, rfl, hu, below_in hB1 hB2⟩))
  clear hC b0 b1 hL2 hok hMN hRD hlen
  generalize css.length = n at *
  go_enter Tryz.func13, Tryz.ntmps13
  have hmf : ∀ (fn : Fn) (first cap : Array Value) (w : World), (Instr.makeFunc fn first cap).run Tryz.prog w = .ok (.func fn first cap) w := fun _ _ _ _ => rfl
  go_wp2_with (go_at_call 30; refine HA.out.mono ?_; rintro e w1 ⟨u, W, rfl, hu, bE, rfl, hB1⟩)
  go_ret2
  exact ⟨u, rfl, Cols.more (Cols.set_int hu bE _) (by simp), below_in hBW hB1⟩
set_option maxRecDepth 100000 in
set_option maxHeartbeats 2000000 in
theorem over_no {B : Nat} (p : Int) (v : Value) (css : List (List (List UInt8))) (w : World) (hL : Laid w) (hB : B ≤ w.heap.size) (hC : Cols B w v css) (hlen : css.length ≤ 1000) (hcl : ∀ j, j < css.length → (css[j]?.getD []).length ≤ 1000) (hno : ¬ DataOk p css) :
    Calls Tryz.prog 13 #[.int .i64 p, v] w fun e w' => e = .returned (.tuple #[.slice none 0 0, .int .i64 2]) ∧ Below w.heap.size w w' := by
  obtain ⟨A, cap, rfl, _, _⟩ := id hC
  obtain ⟨W2, hW2⟩ : ∃ W2, (w.alloc (.cells #[.int .i64 p] 3)).alloc (.cells #[.slice A css.length cap] 22) = W2 := ⟨_, rfl⟩
  have b0 : Blk W2 w.heap.size 3 #[.int .i64 p] := by rw [← hW2]; exact (Blk.new w _ _).alloc _
  have b1 : Blk W2 (w.heap.size + 1) 22 #[.slice A css.length cap] := by rw [← hW2]; exact Blk.second w _ _ _
  have hBW : Below w.heap.size w W2 := by rw [← hW2]; exact below_two w _ _
  have hL2 := hL.next hBW
  have HA := Lib.hid (ans_S_no 38 #[.pointer (some ⟨w.heap.size, 0, none⟩), .pointer (some ⟨w.heap.size + 1, 0, none⟩)] W2 (enter_over1 _) (fun U hU _ => by
    have hBU := below_in hBW hU
    have HQ := Lib.hid (asked_no (B := B) 33 p p (.slice A css.length cap) css (many_data p) U (hL2.next hU) (Nat.le_trans hB hBU.size) (hC.below (hBU.mono hB)) hlen hcl (fun h => hno (data_right.2 h)))
    have c0 := (b0.below hU b0.lt).one
    have c1 := (b1.below hU b1.lt).one
    clear hC b0 b1 hW2 hL hL2 hno hcl hlen
    generalize css.length = n at *
    go_enter Tryz.func38, Tryz.ntmps38
    go_wp2_with (go_at_call 32; refine HQ.out.mono ?_; rintro e w1 ⟨rfl, hB1⟩)
    exact ⟨rfl, rfl, hB1⟩))
  clear hC b0 b1 hL2 hno hcl hlen
  generalize css.length = n at *
  go_enter Tryz.func13, Tryz.ntmps13
  have hmf : ∀ (fn : Fn) (first cap : Array Value) (w : World), (Instr.makeFunc fn first cap).run Tryz.prog w = .ok (.func fn first cap) w := fun _ _ _ _ => rfl
  go_wp2_with (go_at_call 30; refine HA.out.mono ?_; rintro e w1 ⟨rfl, hB1⟩)
  go_ret2
  exact ⟨rfl, below_in hBW hB1⟩

theorem enter_check1 : ∀ args W, (callFunc 47 args).run Tryz.prog W = .ok (.enter 47 args) W := enters_of Tryz.func47 (by kernel_rfl) rfl
set_option maxRecDepth 100000 in
set_option maxHeartbeats 2000000 in
theorem check_yes {B : Nat} (p : Int) (v : Value) (css : List (List (List UInt8))) (hok : AllS p css) (w : World) (hL : Laid w) (hB : B ≤ w.heap.size) (hC : Cols B w v css) :
    Calls Tryz.prog 21 #[.int .i64 p, v] w fun e w' => e = .returned (.tuple #[.bool (decide (starOf p (css.take p.toNat) = css.drop p.toNat)), .int .i64 0]) ∧ Below w.heap.size w w' := by
  obtain ⟨hRD, hMN, hlen⟩ : RightD p css ∧ Many3 48 p (RightC 3 p) (css.length : Int) ∧ css.length ≤ 1000 := by have hpp := prm_bounds hok.1.1; have hl := hok.2; exact ⟨hok.1, by rw [hl]; exact many_cols p, by omega⟩
  obtain ⟨A, cap, rfl, _, _⟩ := id hC
  obtain ⟨W2, hW2⟩ : ∃ W2, (w.alloc (.cells #[.int .i64 p] 3)).alloc (.cells #[.slice A css.length cap] 22) = W2 := ⟨_, rfl⟩
  have b0 : Blk W2 w.heap.size 3 #[.int .i64 p] := by rw [← hW2]; exact (Blk.new w _ _).alloc _
  have b1 : Blk W2 (w.heap.size + 1) 22 #[.slice A css.length cap] := by rw [← hW2]; exact Blk.second w _ _ _
  have hBW : Below w.heap.size w W2 := by rw [← hW2]; exact below_two w _ _
  have hL2 := hL.next hBW
  have HA := Lib.hid (ans_T_yes 47 #[.pointer (some ⟨w.heap.size, 0, none⟩), .pointer (some ⟨w.heap.size + 1, 0, none⟩)] W2 (fun u W => u = .bool (decide (starOf p (css.take p.toNat) = css.drop p.toNat))) (enter_check1 _) (fun U hU _ => by
    have hLU := hL2.next hU
    have hBU := below_in hBW hU
    have hCU := hC.below (hBU.mono hB)
    have HQ := Lib.hid (asked_yes (B := B) 48 p (.slice A css.length cap) css hMN U hLU (Nat.le_trans hB hBU.size) hCU hlen hRD)
    have HE := Lib.hid (fun (V : World) (hV : Below U.heap.size U V) => areEncoded_any (B := B) p (.slice A css.length cap) css hok V (hLU.next hV) (Nat.le_trans hB (Nat.le_trans hBU.size hV.size)) (hCU.below (hV.mono (Nat.le_trans hB hBU.size))))
    have c0 := (b0.below hU b0.lt).one
    have c1 := (b1.below hU b1.lt).one
    clear hC hCU hok b0 b1 hW2 hL hL2 hLU hMN hRD hlen
    generalize css.length = n at *
    go_enter Tryz.func47, Tryz.ntmps47
    go_wp2_with (first
      | (go_at_call 32; refine HQ.out.mono ?_; rintro e w1 ⟨rfl, hB1⟩)
      | (go_at_call 49; refine (HE.out _ hB1).mono ?_; rintro e w2 ⟨rfl, hB2⟩))
    go_ret
    exact ⟨_, rfl, rfl, below_in hB1 hB2⟩))
  clear hC b0 b1 hL2 hok hMN hRD hlen
  generalize css.length = n at *
  go_enter Tryz.func21, Tryz.ntmps21
  have hmf : ∀ (fn : Fn) (first cap : Array Value) (w : World), (Instr.makeFunc fn first cap).run Tryz.prog w = .ok (.func fn first cap) w := fun _ _ _ _ => rfl
  go_wp2_with (go_at_call 46; refine HA.out.mono ?_; rintro e w1 ⟨u, W, rfl, hu, bE, rfl, hB1⟩)
  go_ret2
  exact ⟨rfl, below_in hBW hB1⟩
theorem Held.set_int {lo : Nat} {p : Int} {css : List (List (List UInt8))} {hb g : Nat} {W : World} {t : TypeId} {x : Int} (h : Held lo p css hb W) (hg : Blk W g t #[.int .i64 x]) (u : Value) (ht : t ≠ 102 := by decide) : Held lo p css hb (W.setCell ⟨g, 0, none⟩ u) := by
  obtain ⟨h0, cs, h1, h2, h3⟩ := h
  have hne : hb ≠ g := fun e => by
    subst e
    have q1 : W.heap[hb]? = some (.cells cs.toArray 102 (0, 0)) := h1
    have q2 : W.heap[hb]? = some (.cells #[.int .i64 x] t (0, 0)) := hg
    rw [q1] at q2
    injection q2 with q2
    injection q2 with _ q2 _
    exact ht q2.symm
  exact ⟨h0, cs, (Below.heap_setCell W _ _ hb hne).trans h1, h2, fun s hs => BytesP.imp (bytesP_set_int (h3 s hs) hg u) fun b hb => ⟨hb.1, by simpa using hb.2.1, hb.2.2⟩⟩

theorem Held.less {lo lo' : Nat} {p : Int} {css : List (List (List UInt8))} {hb : Nat} {W : World} (h : Held lo p css hb W) (hl : lo' ≤ lo) : Held lo' p css hb W := by
  obtain ⟨h0, cs, h1, h2, h3⟩ := h
  exact ⟨by omega, cs, h1, h2, fun s hs => BytesP.imp (h3 s hs) fun b hb => ⟨by omega, hb.2⟩⟩
theorem eql_none (W : World) : (binOp .eql 45 (.func (.func 55) #[] #[]) .nilFunc).run Tryz.prog W = .ok (.bool false) W := by kernel_rfl
theorem enter_none : ∀ args W, (callFunc 55 args).run Tryz.prog W = .ok (.enter 55 args) W := enters_of Tryz.func55 (by kernel_rfl) rfl
set_option maxHeartbeats 400000 in
theorem none_in (n l : Nat) (J Jx : List (Nat × Value) → (Nat → Prop) → World → Prop) (o₀ : Nat → Prop) (W : World) (h0 : J [] o₀ W) :
    CallsIn Fence.wide n Tryz.prog 55 (#[.func (.yield l) #[] #[]] ++ #[]) W fun e W' => (∃ v, e = .returned v) ∧ ∃ o', FreshO o₀ o' W ∧ ((∃ ys, ys.length = 0 ∧ J ys o' W') ∨ (∃ pre, (0 < pre.length ∧ pre.length ≤ 0) ∧ Jx pre o' W')) := by
  refine callsIn_of_wp Tryz.func55 rfl trivial ?_ rfl
  simp only [Tryz.ntmps55, List.size_toArray, List.length_cons, List.length_nil, Nat.reduceAdd, Nat.reduceSub, Array.replicate_succ, Array.replicate_zero, List.push_toArray, List.append_toArray, List.nil_append, List.cons_append]
  gi_wp2
  go_end0
  exact ⟨⟨_, rfl⟩, o₀, FreshO.refl _ _, .inl ⟨[], rfl, h0⟩⟩
end Go.Proofs.YtcgnhfiadeceiaaGreatDoor.T

namespace Go.Proofs.YtcgnhfiadeceiaaGreatDoor.T
open Go.RowKit Go.Shelf Go.Proofs.YtcgnhfiadeceiaaGreatDoor.C Go.Proofs.YtcgnhfiadeceiaaGreatDoor.E
set_option linter.unusedSimpArgs false
set_option linter.unusedVariables false

set_option maxHeartbeats 400000 in
theorem num_any (n : Int) (w : World) : Calls Tryz.prog 15 #[.int .i64 n] w fun e w' => e = .returned (.int .i64 n) ∧ w = w' := by
  go_enter Tryz.func15, Tryz.ntmps15
  go_wp2
  go_ret
  exact ⟨rfl, rfl⟩
set_option maxHeartbeats 400000 in
theorem lcode_any (p : Int) (w : World) : Calls Tryz.prog 17 #[.int .i64 p] w fun e w' => e = .returned (.agg #[.int .i64 3, .int .i64 p]) ∧ Below w.heap.size w w' := by
  go_enter Tryz.func17, Tryz.ntmps17
  go_wp2
  have b := Blk.new w 37 #[.int .i64 3, .int .i64 p]
  have c0 := b.cell 0
  have c1 := b.cell 1
  simp only [List.getElem?_toArray, List.getElem?_cons_zero, List.getElem?_cons_succ] at c0 c1
  exact bodyPost_ret (v := .agg #[.int .i64 3, .int .i64 p]) (by simp [results, Tryz.results17, go_sem, c0, c1]) rfl ⟨rfl, below_one w _⟩
set_option maxRecDepth 100000 in
set_option maxHeartbeats 1000000 in
theorem lright_any {B : Nat} (p : Int) (v : Value) (css : List (List (List UInt8))) (w : World) (hB : B ≤ w.heap.size) (hC : Cols B w v css) (hlen : css.length ≤ 1000) (b : Bool) (hb : b = true ↔ DataOk p css) :
    Calls Tryz.prog 14 #[.int .i64 p, v] w fun e w' => e = .returned (.bool b) ∧ Below w.heap.size w w' := by
  obtain ⟨A, cap, rfl, _, _⟩ := id hC
  by_cases hR : RightD p css
  · have HR := Lib.hid (right6_any p _ css w hB hC hlen true (by simp [hR]))
    have hRC : RightC 3 p := ⟨by decide, hR.1⟩
    have HC := Lib.hid (fun U => lcode_any p U)
    have HD := Lib.hid (fun U => refData_any 3 p hRC U)
    rw [show p - shortN 3 = p by show p - 0 = p; omega] at HD
    by_cases hn : (css.length : Int) = p
    · have hbt : b = true := hb.2 (data_right.2 ⟨hR, hn⟩)
      subst hbt
      have hne : ((css.length : Int) == p) = true := by rw [beq_iff_eq]; exact hn
      clear hb hR hRC hn hC
      go_enter Tryz.func14, Tryz.ntmps14
      go_wp2_with (first
        | (go_at_call 22; refine HR.out.mono ?_; rintro e w1 ⟨rfl, hB1⟩)
        | (go_at_call 17; refine (HC.out _).mono ?_; rintro e w2 ⟨rfl, hB2⟩)
        | (go_at_call 40; refine (HD.out _).mono ?_; rintro e w3 ⟨rfl, hB3⟩))
      go_ret
      exact ⟨rfl, below_in (below_in hB1 hB2) hB3⟩
    · have hbf : b = false := Bool.eq_false_iff.2 fun h => hn (hb.1 h).2.1
      subst hbf
      have hne : ((css.length : Int) == p) = false := by rw [beq_eq_false_iff_ne]; exact hn
      clear hb hR hRC hn hC
      go_enter Tryz.func14, Tryz.ntmps14
      go_wp2_with (first
        | (go_at_call 22; refine HR.out.mono ?_; rintro e w1 ⟨rfl, hB1⟩)
        | (go_at_call 17; refine (HC.out _).mono ?_; rintro e w2 ⟨rfl, hB2⟩)
        | (go_at_call 40; refine (HD.out _).mono ?_; rintro e w3 ⟨rfl, hB3⟩))
      go_ret
      exact ⟨rfl, below_in (below_in hB1 hB2) hB3⟩
  · have HR := Lib.hid (right6_any p _ css w hB hC hlen false (by simp [hR]))
    have hbf : b = false := Bool.eq_false_iff.2 fun h => hR (data_right.1 (hb.1 h)).1
    subst hbf
    clear hb hR hC
    go_enter Tryz.func14, Tryz.ntmps14
    go_wp2_with (go_at_call 22; refine HR.out.mono ?_; rintro e w1 ⟨rfl, hB1⟩)
    go_ret
    exact ⟨rfl, hB1⟩
end Go.Proofs.YtcgnhfiadeceiaaGreatDoor.T

namespace Go.Proofs.YtcgnhfiadeceiaaGreatDoor.R
open Go.RowKit Go.Shelf Go.Proofs.YtcgnhfiadeceiaaGreatDoor.C Go.Proofs.YtcgnhfiadeceiaaGreatDoor.E
set_option linter.unusedSimpArgs false
set_option linter.unusedVariables false

/-- A slice of places reads as l, in blocks where P holds. -/
def AtsP (P : Nat → Prop) (W : World) (v : Value) (l : List (Int × Int)) : Prop :=
  ∃ (p : Option Addr) (cap : Nat), v = .slice p l.length cap ∧ ∀ (j : Nat) (hj : j < l.length), ∃ g, p = some ⟨g, 0, none⟩ ∧ P g ∧ W.cell? ⟨g, j * 2, none⟩ = some (.int .i64 (l[j]).1) ∧ W.cell? ⟨g, j * 2 + 1, none⟩ = some (.int .i64 (l[j]).2)
theorem AtsP.imp {P Q : Nat → Prop} {W : World} {v : Value} {l : List (Int × Int)} (h : AtsP P W v l) (hq : ∀ b, P b → Q b) : AtsP Q W v l := by
  obtain ⟨p, cap, e, hA⟩ := h
  exact ⟨p, cap, e, fun j hj => by obtain ⟨g, h1, h2, h3⟩ := hA j hj; exact ⟨g, h1, hq g h2, h3⟩⟩
theorem AtsP.keep {P : Nat → Prop} {W W' : World} {v : Value} {l : List (Int × Int)} (h : AtsP P W v l) (hk : Keeps P W W') : AtsP P W' v l := by
  obtain ⟨p, cap, e, hA⟩ := h
  exact ⟨p, cap, e, fun j hj => by obtain ⟨g, h1, h2, h3, h4⟩ := hA j hj; exact ⟨g, h1, h2, (World.cell?_of_block (hk g h2)).trans h3, (World.cell?_of_block (hk g h2)).trans h4⟩⟩
def atsR : Rep (List (Int × Int)) where
  R := AtsP
  imp := AtsP.imp
  keep := AtsP.keep
  one := fun ⟨_, _, e, _⟩ => by rw [e]; rfl
theorem AtsP.read {W : World} {v : Value} {l : List (Int × Int)} (h : AtsP (· < W.heap.size) W v l) : ReadA W v l := h
def RowA := RowG atsR 68 []
/-- A cell that holds a number is none of a row of slices. -/
theorem RowA.apart {Q : Nat → Prop} {W : World} {base : Nat} {v : Value} {xs : List (List (Int × Int))} (h : RowA Q W base v xs) (hx : 0 < xs.length) {g : Nat} {x : Int} (hg : W.cell? ⟨g, 0, none⟩ = some (.int .i64 x)) : some g ≠ v.ownBlock := by
  obtain ⟨us, ho, hn, hr⟩ := h
  obtain ⟨g2, cap, rfl, _, _⟩ := World.ownsRow.form ho (by omega)
  intro e
  have e2 : g = g2 := by injection e
  subst e2
  have hc := World.ownsRow.cellAt ho 0 (by omega)
  have h0 : us[0]? = some us[0] := List.getElem?_eq_getElem (by omega)
  obtain ⟨p, c, e3, _⟩ := hr 0 us[0] h0
  rw [hc, h0, e3] at hg
  cases hg
section
variable {Q : Nat → Prop} {base : Nat} {v : Value}
end
end Go.Proofs.YtcgnhfiadeceiaaGreatDoor.R

namespace Go.Proofs.YtcgnhfiadeceiaaGreatDoor.R
open Go.RowKit Go.Shelf Go.Proofs.YtcgnhfiadeceiaaGreatDoor.C Go.Proofs.YtcgnhfiadeceiaaGreatDoor.E
set_option linter.unusedSimpArgs false
set_option linter.unusedVariables false

/-- A row of the call's own, of slices. -/
def OwnK (w : World) (base : Nat) (v : Value) (us : List Value) : Prop := w.ownsRow base 50 1 v us.length us
/-- A slice of columns, value by value. -/
def ColsV (B : Nat) (W : World) (v : Value) (us : List Value) (css : List (List (List UInt8))) : Prop := us.length = css.length ∧ Vals B W v us ∧ ∀ (j : Nat) (u : Value), us[j]? = some u → Many B W u (css[j]?.getD [])
theorem ColsV.below {B : Nat} {W W' : World} {v : Value} {us : List Value} {css : List (List (List UInt8))} (h : ColsV B W v us css) (hb : Below B W W') : ColsV B W' v us css := ⟨h.1, h.2.1.below hb, fun j u hu => (h.2.2 j u hu).below hb⟩
theorem ColsV.more {B B' : Nat} {W : World} {v : Value} {us : List Value} {css : List (List (List UInt8))} (h : ColsV B W v us css) (hB : B ≤ B') : ColsV B' W v us css := ⟨h.1, h.2.1.more hB, fun j u hu => (h.2.2 j u hu).more hB⟩
theorem ColsV.one {B : Nat} {W : World} {v : Value} {us : List Value} {css : List (List (List UInt8))} (h : ColsV B W v us css) : ∀ u ∈ us, u.oneCell' = true := fun u hu => by
  obtain ⟨j, hj⟩ := List.getElem?_of_mem hu
  obtain ⟨A, cap, rfl, _⟩ := h.2.2 j u hj
  rfl
theorem ColsV.nil (B : Nat) (W : World) : ColsV B W (.slice none 0 0) [] [] := ⟨rfl, .inl ⟨rfl, rfl⟩, fun j u h => by cases h⟩
theorem Cols.vals {B : Nat} {W : World} {v : Value} {css : List (List (List UInt8))} (h : Cols B W v css) (h0 : 0 < css.length) : ∃ us, ColsV B W v us css := by
  obtain ⟨A, cap, rfl, hc, hA⟩ := h
  obtain ⟨b, off, rfl, hb, hr⟩ := hA h0
  refine ⟨(List.range css.length).map fun j => (W.cell? ⟨b, off + j, none⟩).getD undef, by simp, .inr ⟨b, off, cap, by simp, by simpa using hc, hb, fun j u hu => ?_⟩, fun j u hu => ?_⟩
  all_goals
    rw [List.getElem?_map] at hu
    rcases Nat.lt_or_ge j css.length with hj | hj
    · rw [List.getElem?_range hj] at hu
      obtain ⟨u2, h1, h2⟩ := hr j hj
      simp only [Option.map_some, h1, Option.getD_some, Option.some.injEq] at hu
      subst hu
      first | exact h1 | exact h2
    · rw [List.getElem?_eq_none (by simpa using hj)] at hu
      cases hu
theorem OwnK.cols {B base : Nat} {W : World} {v : Value} {us : List Value} {css : List (List (List UInt8))} (h : OwnK W base v us) (hn : us.length = css.length) (h0 : 0 < us.length) (hb : ∀ (j : Nat) (u : Value), us[j]? = some u → Many B W u (css[j]?.getD [])) (hB : B ≤ W.heap.size) : Cols W.heap.size W v css := by
  have hcp : ∀ g cap, v = .slice (some ⟨g, 0, none⟩) us.length cap → us.length ≤ cap := fun g cap e => by
    rcases h.2 with ⟨_, h1⟩ | ⟨g2, cap2, cur, e2, _, _, hnc, _⟩
    · omega
    · rw [e] at e2
      injection e2 with _ _ e3
      omega
  obtain ⟨g, cap, e, hg, hg1⟩ := World.ownsRow.form h h0
  have hcap := hcp g cap e
  subst e
  refine ⟨_, cap, by rw [hn], by rw [← hn]; exact hcap, fun _ => ⟨g, 0, rfl, by omega, fun j hj => ?_⟩⟩
  have hj2 : j < us.length := by omega
  refine ⟨us[j], ?_, (hb j us[j] (List.getElem?_eq_getElem hj2)).more hB⟩
  rw [Nat.zero_add, World.ownsRow.cellAt h j (by omega), List.getElem?_eq_getElem hj2]
end Go.Proofs.YtcgnhfiadeceiaaGreatDoor.R

namespace Go.Proofs.YtcgnhfiadeceiaaGreatDoor.R
open Go.RowKit Go.Shelf Go.Proofs.YtcgnhfiadeceiaaGreatDoor.C Go.Proofs.YtcgnhfiadeceiaaGreatDoor.E
set_option linter.unusedSimpArgs false
set_option linter.unusedVariables false
attribute [local go_sem] Oper.semAt_some

theorem _root_.Go.Proofs.YtcgnhfiadeceiaaGreatDoor.OwnA.far {w : World} {base : Nat} {v : Value} {l : List (Int × Int)} (h : OwnA w base v l) {p : Addr} (hp : some p.block ≠ v.ownBlock) (u : Value) : OwnA (w.setCell p u) base v l := by
  refine ⟨h.1, ?_⟩
  rcases h.2 with h1 | ⟨g, cap, cur, e, h2, hg, rest⟩
  · exact .inl h1
  · exact .inr ⟨g, cap, cur, e, h2, (Below.heap_setCell w p u g (fun e2 => hp (by rw [e, ← e2]; rfl))).trans hg, rest⟩
theorem _root_.Go.Proofs.YtcgnhfiadeceiaaGreatDoor.OwnA.kept {w w' : World} {base : Nat} {v : Value} {l : List (Int × Int)} (h : OwnA w base v l) {row : Option Nat} (hg : w.grownBy w' row) (hne : v.ownBlock = none ∨ v.ownBlock ≠ row) : OwnA w' base v l := World.ownsRow.kept h hg hne
theorem _root_.Go.Proofs.YtcgnhfiadeceiaaGreatDoor.OwnA.blks {w w' : World} {base : Nat} {v : Value} {l : List (Int × Int)} (h : OwnA w base v l) (hk : ∀ g t cs, Blk w g t cs → Blk w' g t cs) : OwnA w' base v l :=
  ⟨h.1, h.2.imp id fun ⟨g, cap, cur, e, h2, hg, rest⟩ => ⟨g, cap, cur, e, h2, hk _ _ _ hg, rest⟩⟩
theorem _root_.Go.Proofs.YtcgnhfiadeceiaaGreatDoor.OwnA.rowO {w : World} {base : Nat} {v : Value} {l : List (Int × Int)} (h : OwnA w base v l) : RowO v.ownBlock w := fun b e => by
  rcases h.2 with ⟨rfl, _⟩ | ⟨g, cap, cur, rfl, _, hg, _⟩
  · cases e
  · injection e with e
    subst e
    exact ⟨_, _, _, hg⟩
end Go.Proofs.YtcgnhfiadeceiaaGreatDoor.R

