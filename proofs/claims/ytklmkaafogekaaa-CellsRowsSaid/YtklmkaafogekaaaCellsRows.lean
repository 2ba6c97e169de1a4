/- The law CellsRows answers true for every input and leaves its arguments as they were. -/
import Derived.Test.YtklmkaafogekaaaCLawKit
namespace Go.Proofs.Ytklmkaafogekaaa.cellsRows
open Go.ChangeShapes Go.WideShapes Go.ChangeAt Go.RowKit Go.Shelf
set_option linter.unusedVariables false

theorem cells_part (m k n : Nat) (h1 : 1 ≤ n) : cellsFor (m * n + k) n = m + cellsFor k n := by
  unfold cellsFor
  rw [show m * n + k + n - 1 = (k + n - 1) + n * m by rw [Nat.mul_comm n m]; omega, Nat.add_mul_div_left _ _ h1, Nat.add_comm]
theorem cells_whole (m n : Nat) (h1 : 1 ≤ n) : cellsFor (m * n) n = m := by
  have := cells_part m 0 n h1
  rw [Nat.add_zero] at this
  rw [this]
  unfold cellsFor
  rw [Nat.zero_add, Nat.div_eq_of_lt (by omega), Nat.add_zero]
theorem at_left (a b : List UInt8) (j : Nat) (h : j < a.length) : at_ (a ++ b) j = at_ a j := by unfold at_; rw [List.getElem?_append_left h]
theorem at_right (a b : List UInt8) (j : Nat) : at_ (a ++ b) (a.length + j) = at_ b j := by unfold at_; rw [List.getElem?_append_right (by omega), Nat.add_sub_cancel_left]
theorem cut_part (n : Nat) (h1 : 1 ≤ n) (a b : List UInt8) (h : a.length % n = 0) : cutL n (a ++ b) = cutL n a ++ cutL n b := by
  obtain ⟨m, hm⟩ : ∃ m, a.length = m * n := ⟨a.length / n, by have := Nat.div_add_mod a.length n; rw [Nat.mul_comm] at this; omega⟩
  unfold cutL
  rw [List.length_append, hm, cells_part _ _ _ h1, cells_whole _ _ h1, List.range_add, List.map_append, List.map_map]
  congr 1
  · apply List.map_congr_left
    intro j hj
    refine tab_ext fun i hi => at_left _ _ _ ?_
    rw [hm]
    have := Nat.mul_le_mul_right n (show j + 1 ≤ m from List.mem_range.1 hj)
    rw [Nat.succ_mul] at this
    omega
  · apply List.map_congr_left
    intro j hj
    refine tab_ext fun i hi => ?_
    show at_ (a ++ b) ((m + j) * n + i) = _
    rw [Nat.add_mul, Nat.add_assoc, ← hm, at_right]

/-- The values of the cells of a slice of lists. -/
theorem Many.vals {B : Nat} {W : World} {A : Option Addr} {n cap : Nat} {ls : List (List UInt8)} (h : Many B W (.slice A n cap) ls) :
    ∃ vals : List Value, vals.length = ls.length ∧ n = ls.length ∧ (∀ j, j < ls.length → Bytes B W (vals[j]?.getD undef) (ls[j]?.getD [])) ∧ (0 < ls.length → ∃ b off, A = some ⟨b, off, none⟩ ∧ b < B ∧ ∀ j, j < ls.length → W.cell? ⟨b, off + j, none⟩ = vals[j]?) := by
  obtain ⟨A', cap', e, hc, hA⟩ := h
  injection e with e1 e2 e3
  subst e1 e2 e3
  rcases Nat.eq_zero_or_pos ls.length with h0 | h0
  · exact ⟨[], h0.symm, rfl, fun j hj => absurd hj (by omega), fun h => absurd h (by omega)⟩
  · obtain ⟨b, off, rfl, hb, hcell⟩ := hA h0
    have key : ∀ j, j < ls.length → ((List.range ls.length).map fun j => (W.cell? ⟨b, off + j, none⟩).getD undef)[j]? = some ((W.cell? ⟨b, off + j, none⟩).getD undef) := by
      intro j hj
      rw [List.getElem?_map, List.getElem?_range hj]; rfl
    refine ⟨(List.range ls.length).map fun j => (W.cell? ⟨b, off + j, none⟩).getD undef, by simp, rfl, fun j hj => ?_, fun _ => ⟨b, off, rfl, hb, fun j hj => ?_⟩⟩
    · obtain ⟨u, hu, hB⟩ := hcell j hj
      rw [key j hj, hu]
      exact hB
    · obtain ⟨u, hu, hB⟩ := hcell j hj
      rw [key j hj, hu]; rfl

theorem many_ownV {w : World} {base B : Nat} {v : Value} {vals : List Value} {ls : List (List UInt8)} (h : OwnV w base v vals) (hl : vals.length = ls.length) (hB : B ≤ w.heap.size) (hb : ∀ j, j < ls.length → Bytes B w (vals[j]?.getD undef) (ls[j]?.getD [])) : Many w.heap.size w v ls := by
  obtain ⟨A, cap, rfl, hc, hA⟩ := h.cells
  refine ⟨A, cap, by rw [hl], by omega, fun hp => ?_⟩
  obtain ⟨g, rfl, h1, h2, h3⟩ := hA (by omega)
  refine ⟨g, 0, rfl, h2, fun j hj => ⟨vals[j]?.getD undef, ?_, (hb j hj).more hB⟩⟩
  rw [Nat.zero_add, h3 j (by omega), List.getElem?_eq_getElem (by omega)]; rfl

theorem one_cell {B : Nat} {W : World} {v : Value} {l : List UInt8} (h : Bytes B W v l) : v.oneCell' = true := by
  obtain ⟨A, cap, rfl, _⟩ := h
  rfl

/-- append of a slice's lists to a row of the call's own. -/
theorem wpList_vals (w : World) {ops : Array Oper} {rest : List Oper} {o : Oper} {a : Act} {Q : Exit → Act → World → Prop} (s x : Operand) (hwant : Region.wanted o (yielded ops a.tmps) = true)
    (ho : o.op = .call { callee := .builtin .append, args := #[s, x], argTypes := #[22, 22] })
    (base : Nat) (v : Value) (vals : List Value) (hs : a.eval s = v) (hown : OwnV w base v vals) (B : Nat) (A : Option Addr) (n cap : Nat) (ls : List (List UInt8)) (vs : List Value) (hx : a.eval x = .slice A n cap) (hl : vs.length = ls.length) (hn : n = ls.length)
    (hone : ∀ j, j < ls.length → Bytes B w (vs[j]?.getD undef) (ls[j]?.getD [])) (hc : 0 < ls.length → ∃ b off, A = some ⟨b, off, none⟩ ∧ b < B ∧ ∀ j, j < ls.length → w.cell? ⟨b, off + j, none⟩ = vs[j]?)
    (hlen : vals.length + ls.length ≤ 1000000000) (hbase : base ≤ w.heap.size)
    (h : ∀ v' w', OwnV w' base v' (vals ++ vs) → w.grownBy w' v.ownBlock → (v'.ownBlock = v.ownBlock ∨ v'.ownBlock = some w.heap.size) → wpList Try.prog ops Q rest (a.put o.dst v') w') : wpList Try.prog ops Q (o :: rest) a w := by
  refine wpList_step fun K hK => ?_
  rw [if_pos hwant]
  obtain ⟨i, hi, hz0, hz1, hz2⟩ := info_parts Try.infoSlice
  subst hn
  have hrun : ∃ v' w', (Builtin.append_ #[22, 22] o.type #[v, .slice A ls.length cap]).run Try.prog w = .ok v' w' ∧ OwnV w' base v' (vals ++ vs) ∧ w.grownBy w' v.ownBlock ∧ (v'.ownBlock = v.ownBlock ∨ v'.ownBlock = some w.heap.size) := by
    rcases Nat.eq_zero_or_pos ls.length with h0 | h0
    · have hvs : vs = [] := List.eq_nil_of_length_eq_zero (by omega)
      subst hvs
      rw [h0]
      refine ⟨v, w, ?_, by simpa using hown, World.grownBy.refl w _, .inl rfl⟩
      rcases hown.2 with ⟨rfl, hv0⟩ | ⟨g, cap', cur, rfl, _, _, hnc, _⟩
      · cases A <;> simp [Builtin.append_, run_underlying Try.underlying22, sizeOf, typeInfo, hi, Builtin.lenOf, Builtin.firstCells, loadCells, loadCellsFrom]
      · cases A <;> simp [Builtin.append_, run_underlying Try.underlying22, sizeOf, typeInfo, hi, Builtin.lenOf, Builtin.firstCells, hnc, storeCells, loadCells, loadCellsFrom]
    · obtain ⟨b, off, rfl, hb, hcell⟩ := hc h0
      obtain ⟨v', w', hrun, r1, r2, _, r3⟩ := run_append_own_at (P := Try.prog) w base 22 o.type 25 i (.slice none 0 0) 1 24 Try.underlying22 hi hz0 hz1 hz2 rfl (by omega) v vals.length vals hown ⟨b, off, none⟩ ls.length cap vs (by omega)
        (by
          intro j y hy
          have hj : j < vs.length := (List.getElem?_eq_some_iff.1 hy).1
          rw [addr_add, hcell j (by omega)]; exact hy)
        (by
          intro y hy
          obtain ⟨j, hj, rfl⟩ := List.getElem_of_mem hy
          have := one_cell (hone j (by omega))
          rwa [List.getElem?_eq_getElem hj] at this) (by unfold maxLen; omega) (by omega) hbase
      refine ⟨v', w', hrun, ?_, r2, r3⟩
      unfold OwnV
      rw [List.length_append, hl]
      exact r1
  obtain ⟨v', w', hrun, h2, h3, h4⟩ := hrun
  unfold Oper.wp execOp
  simp only [ho, resolve, invoke, builtin, Sem.run_bind, Sem.run_pure, Result.andThen_ok, List.map_toArray, List.map_cons, List.map_nil, hs, hx, hrun]
  exact hK _ _ (h v' w' h2 h3 h4)

theorem ownB_made (w : World) : OwnB (w.alloc (.cells #[] 5)) w.heap.size (.slice (some ⟨w.heap.size, 0, none⟩) 0 0) [] := World.ownsRow_made w _ 0 (Nat.le_refl _) (by unfold maxLen; omega) rfl
theorem ownV_made (w : World) : OwnV (w.alloc (.cells #[] 25)) w.heap.size (.slice (some ⟨w.heap.size, 0, none⟩) 0 0) [] := World.ownsRow_made w _ 0 (Nat.le_refl _) (by unfold maxLen; omega) rfl

theorem vals_in {B : Nat} {w3 : World} {A : Option Addr} {vs : List Value} {ls : List (List UInt8)} (h1 : ∀ j, j < ls.length → Bytes B w3 (vs[j]?.getD undef) (ls[j]?.getD [])) (h2 : 0 < ls.length → ∃ b off, A = some ⟨b, off, none⟩ ∧ b < B ∧ ∀ j, j < ls.length → w3.cell? ⟨b, off + j, none⟩ = vs[j]?)
    (hB : B ≤ w3.heap.size) (W : World) (hW : Below w3.heap.size w3 W) : (∀ j, j < ls.length → Bytes B W (vs[j]?.getD undef) (ls[j]?.getD [])) ∧ (0 < ls.length → ∃ b off, A = some ⟨b, off, none⟩ ∧ b < B ∧ ∀ j, j < ls.length → W.cell? ⟨b, off + j, none⟩ = vs[j]?) :=
  ⟨fun j hj => (h1 j hj).below (hW.mono hB), fun hp => by
    obtain ⟨b, off, e, hb, hc⟩ := h2 hp
    exact ⟨b, off, e, hb, fun j hj => ((hW.mono hB).cell (p := ⟨b, off + j, none⟩) hb).trans (hc j hj)⟩⟩
theorem many_both {W : World} {B base : Nat} {u : Value} {vx vy : List Value} {ca cb : List (List UInt8)} (hx : vx.length = ca.length) (hy : vy.length = cb.length) (h1 : ∀ j, j < ca.length → Bytes B W (vx[j]?.getD undef) (ca[j]?.getD [])) (h2 : ∀ j, j < cb.length → Bytes B W (vy[j]?.getD undef) (cb[j]?.getD []))
    (hB : B ≤ W.heap.size) (hO : OwnV W base u (([] ++ vx) ++ vy)) : Many W.heap.size W u (ca ++ cb) := by
  refine many_ownV hO (by simp [hx, hy]) hB fun j hj => ?_
  rw [List.length_append] at hj
  rw [List.nil_append]
  by_cases h : j < ca.length
  · rw [List.getElem?_append_left (by omega), List.getElem?_append_left h]; exact h1 j h
  · rw [List.getElem?_append_right (by omega), List.getElem?_append_right (by omega), hx]; exact h2 _ (by omega)

set_option maxHeartbeats 600000 in
theorem mid (v1 : Value) (a : List UInt8) (v2 : Value) (b : List UInt8) (n : Nat) (w : World) (hb1 : Bytes w.heap.size w v1 a) (hb2 : Bytes w.heap.size w v2 b) (ha : a.length ≤ 300) (hb : b.length ≤ 300) (h1 : 1 ≤ n) (h64 : n ≤ 64) (hmod : a.length % n = 0) :
    Calls Try.prog 9 #[v1, v2, .int .i64 (n : Int)] w fun e w' => e = .returned (.bool true) ∧ Below w.heap.size w w' := by
  have d1 : decide ((300 : Int) < (a.length : Int)) = false := by simp; omega
  have d2 : decide ((300 : Int) < (b.length : Int)) = false := by simp; omega
  have d3 : decide ((n : Int) < 1) = false := by simp; omega
  have d4 : decide ((64 : Int) < (n : Int)) = false := by simp; omega
  have hn0 : ¬ (n : Int) = 0 := by omega
  have he : (a.length : Int).tmod (n : Int) = 0 := by rw [← Int.ofNat_tmod, hmod]; rfl
  obtain ⟨i0, hi, hz0, hz1, hz2⟩ := info_parts Try.infoByte
  have HX := Lib.hid (cut_yes v1 a n h1 h64 (by omega) w hb1)
  have HY := Lib.hid (fun (W : World) (hB : Below w.heap.size w W) => cut_yes v2 b n h1 h64 (by omega) W ((hb2.below hB).more hB.size))
  have HZ := Lib.hid (fun (W : World) (u : Value) (hu : Bytes W.heap.size W u (a ++ b)) => cut_yes u (a ++ b) n h1 h64 (by rw [List.length_append]; omega) W hu)
  rw [cut_part n h1 a b hmod] at HZ
  have hla : (cutL n a).length ≤ 1000 := by
    rw [cutL_len]
    have e1 := cellsFor_le a.length n h1
    have e2 := Nat.le_mul_of_pos_right (cellsFor a.length n) h1
    omega
  have hlb : (cutL n b).length ≤ 1000 := by
    rw [cutL_len]
    have e1 := cellsFor_le b.length n h1
    have e2 := Nat.le_mul_of_pos_right (cellsFor b.length n) h1
    omega
  have hbt1 := Lib.hid hb1
  have hbt2 := Lib.hid hb2
  obtain ⟨A1, cap1, rfl, _, _⟩ := id hb1
  obtain ⟨A2, cap2, rfl, _, _⟩ := id hb2
  clear hb1 hb2 hmod
  generalize cutL n a = ca at *
  generalize cutL n b = cb at *
  go_enter Try.func9, Try.ntmps9
  go_wp2_with fail
  refine HX.out.mono ?_
  rintro e w1 ⟨vx, rfl, hFx, hB1⟩
  obtain ⟨Ax, cx, rfl, _⟩ := id hFx
  go_wp2_with fail
  refine (HY.out w1 hB1).mono ?_
  rintro e w2 ⟨vy, rfl, hFy, hB2⟩
  obtain ⟨Ay, cy, rfl, _⟩ := id hFy
  have hB12 := Below.next hB1 hB2
  have hFx2 := hFx.below hB2
  have HO := Lib.hid (ownB_made w2)
  have HA := Lib.hid ((hbt1.out.below hB12).below (((Below.refl _ w2).alloc (Nat.le_refl _) (.cells #[] 5)).mono hB12.size))
  have HBw := Lib.hid (((Below.refl _ w2).alloc (Nat.le_refl _) (.cells #[] 5)))
  clear hFx
  go_wp2_with (at_builtin; first
    | (refine wpList_app _ rfl (.tmp 50) (.tmp 51) rfl w2.heap.size i0 Try.underlying25 hi hz0 hz1 hz2 _ [] rfl HO.out w.heap.size _ a rfl HA.out (by simp; omega) (by simp) ?_; intro va wa hown hgrow _; have hBa := below_grown HBw.out hgrow (by simp) (fun k e => (World.ownsRow.lt HO.out k e).1))
    | (refine wpList_app _ rfl (.tmp 52) (.tmp 53) rfl w2.heap.size i0 Try.underlying25 hi hz0 hz1 hz2 _ ([] ++ a) rfl hown w.heap.size _ b rfl ((hbt2.out.below hB12).below (hBa.mono hB12.size)) (by simp; omega) hBa.size ?_; intro vb wb hown2 hgrow2 _; have hBb := below_grown hBa hgrow2 hBa.size (fun k e => (World.ownsRow.lt hown k e).1)))
  refine (HZ.out wb vb (by simpa using hown2.bytes)).mono ?_
  rintro e w3 ⟨vz, rfl, hFz, hB3⟩
  have hB23 := Below.next hBb hB3
  obtain ⟨Az, cz, rfl, _⟩ := id hFz
  rw [List.length_append] at hFz
  have hs23 := hB23.size
  obtain ⟨vx, hvlx, _, hvbx, hvcx⟩ := Many.vals (hFx2.many.below hB23)
  obtain ⟨vy, hvly, _, hvby, hvcy⟩ := Many.vals (hFy.many.below hB23)
  have hB13 := Below.next hB12 hB23
  have HVx := Lib.hid (fun (W : World) (hB : Below w3.heap.size w3 W) => vals_in hvbx hvcx hs23 W hB)
  have HVy := Lib.hid (fun (W : World) (hB : Below w3.heap.size w3 W) => vals_in hvby hvcy hs23 W hB)
  have HO3 := Lib.hid (ownV_made w3)
  have HBw3 := Lib.hid (((Below.refl _ w3).alloc (Nat.le_refl _) (.cells #[] 25)))
  have HM := Lib.hid (fun (W : World) (u : Value) (hB : Below w3.heap.size w3 W) (hO : OwnV W w3.heap.size u (([] ++ vx) ++ vy)) => many_both hvlx hvly (vals_in hvbx hvcx hs23 W hB).1 (vals_in hvby hvcy hs23 W hB).1 (Nat.le_trans hs23 hB.size) hO)
  have HS := Lib.hid (fun (W : World) (u1 u2 : Value) (hM1 : Many W.heap.size W u1 (ca ++ cb)) (hM2 : Many W.heap.size W u2 (ca ++ cb)) => rsame_any u1 u2 (ca ++ cb) (ca ++ cb) W hM1 hM2 (by rw [List.length_append]; omega) (by rw [List.length_append]; omega))
  rw [decide_eq_true rfl] at HS
  have HFz := Lib.hid hFz.many
  have HVl := Lib.hid hvlx
  clear hvbx hvcx hvby hvcy hFz hFx2 hFy hown hown2 HX HY HZ HA HO
  go_wp2_with (first
    | (go_at_call 14; refine (num_any _ _).mono ?_; rintro e w' ⟨rfl, rfl⟩)
    | (go_at_call 23; refine (HS.out _ _ _ ((HFz.out.below hBb3).more hBb3.size) (HM.out _ _ hBb3 hown4)).mono ?_; rintro e w4 ⟨rfl, hB4⟩; have hB14 := Below.next (Below.next hB13 hBb3) hB4)
    | (go_at_call 11; refine (works_in _ hB14).mono ?_; rintro e wf ⟨rfl, hBf⟩)
    | (at_builtin; first
      | (refine wpList_vals _ (.tmp 70) (.tmp 71) rfl rfl w3.heap.size _ [] rfl HO3.out w2.heap.size Ax _ cx ca vx rfl hvlx rfl (HVx.out _ HBw3.out).1 (HVx.out _ HBw3.out).2 (by simp; omega) (by simp) ?_; intro va2 wa2 hown3 hgrow3 _; have hBa3 := below_grown HBw3.out hgrow3 (by simp) (fun k e => (World.ownsRow.lt HO3.out k e).1))
      | (refine wpList_vals _ (.tmp 72) (.tmp 73) rfl rfl w3.heap.size _ ([] ++ vx) rfl hown3 w2.heap.size Ay _ cy cb vy rfl hvly rfl (HVy.out _ hBa3).1 (HVy.out _ hBa3).2 (by simp; omega) hBa3.size ?_; intro vb2 wb2 hown4 hgrow4 _; have hBb3 := below_grown hBa3 hgrow4 hBa3.size (fun k e => (World.ownsRow.lt hown3 k e).1))))
  go_ret
  exact ⟨rfl, hBf⟩

theorem walk (v1 : Value) (a : List UInt8) (v2 : Value) (b : List UInt8) (z : Int) (w : World) (hb1 : Bytes w.heap.size w v1 a) (hb2 : Bytes w.heap.size w v2 b) (wz : (Lit.int .i64 z).wf = true) :
    Calls Try.prog 9 #[v1, v2, .int .i64 z] w fun e w' => e = .returned (.bool true) ∧ Below w.heap.size w w' := by
  by_cases ha : a.length ≤ 300
  · have d1 : decide ((300 : Int) < (a.length : Int)) = false := by simp; omega
    by_cases hb : b.length ≤ 300
    · have d2 : decide ((300 : Int) < (b.length : Int)) = false := by simp; omega
      by_cases hz1 : z < 1
      · have d3 : decide (z < 1) = true := by simpa using hz1
        obtain ⟨A1, cap1, rfl, _, _⟩ := id hb1
        obtain ⟨A2, cap2, rfl, _, _⟩ := id hb2
        go_enter Try.func9, Try.ntmps9
        go_wp2_with (go_at_call 11; refine (works_any _).mono ?_; rintro e wf ⟨rfl, hBf⟩)
        go_ret
        exact ⟨rfl, hBf⟩
      · have d3 : decide (z < 1) = false := by simpa using hz1
        by_cases hz2 : 64 < z
        · have d4 : decide (64 < z) = true := by simpa using hz2
          obtain ⟨A1, cap1, rfl, _, _⟩ := id hb1
          obtain ⟨A2, cap2, rfl, _, _⟩ := id hb2
          go_enter Try.func9, Try.ntmps9
          go_wp2_with (go_at_call 11; refine (works_any _).mono ?_; rintro e wf ⟨rfl, hBf⟩)
          go_ret
          exact ⟨rfl, hBf⟩
        · have d4 : decide (64 < z) = false := by simpa using hz2
          obtain ⟨n, rfl⟩ := Int.eq_ofNat_of_zero_le (show 0 ≤ z by omega)
          by_cases hmod : a.length % n = 0
          · exact mid v1 a v2 b n w hb1 hb2 ha hb (by omega) (by omega) hmod
          · have hn0 : ¬ (n : Int) = 0 := by omega
            obtain ⟨r, hr⟩ : ∃ r, a.length % n = r := ⟨_, rfl⟩
            have he : (a.length : Int).tmod (n : Int) = (r : Int) := by rw [← Int.ofNat_tmod, hr]
            have d5 : ((r : Int) != 0) = true := by rw [bne_iff_ne]; omega
            obtain ⟨A1, cap1, rfl, _, _⟩ := id hb1
            obtain ⟨A2, cap2, rfl, _, _⟩ := id hb2
            clear hr hmod
            go_enter Try.func9, Try.ntmps9
            go_wp2_with (go_at_call 11; refine (works_any _).mono ?_; rintro e wf ⟨rfl, hBf⟩)
            go_ret
            exact ⟨rfl, hBf⟩
    · have d2 : decide ((300 : Int) < (b.length : Int)) = true := by simp; omega
      obtain ⟨A1, cap1, rfl, _, _⟩ := id hb1
      obtain ⟨A2, cap2, rfl, _, _⟩ := id hb2
      go_enter Try.func9, Try.ntmps9
      go_wp2_with (go_at_call 11; refine (works_any _).mono ?_; rintro e wf ⟨rfl, hBf⟩)
      go_ret
      exact ⟨rfl, hBf⟩
  · have d1 : decide ((300 : Int) < (a.length : Int)) = true := by simp; omega
    obtain ⟨A1, cap1, rfl, _, _⟩ := id hb1
    obtain ⟨A2, cap2, rfl, _, _⟩ := id hb2
    go_enter Try.func9, Try.ntmps9
    go_wp2_with (go_at_call 11; refine (works_any _).mono ?_; rintro e wf ⟨rfl, hBf⟩)
    go_ret
    exact ⟨rfl, hBf⟩

set_option maxRecDepth 100000 in
theorem lifted (os : Os) (started : os.Started) (H : Type) (enc : TypeId × Value → H) :
    ReturnsInHanded {} Try.checked os 9 .any (Rows.cellsRowsSpec.pre6 enc Try.prog Try.f9 Rows.cellsRowsRow.domain false) (Rows.cellsRowsSpec.post enc Try.prog Try.f9 false true false false) := by
  refine returnsInHanded_of_change (C := Try.checked) own started (by kernel_rfl) Try.func9
    (ChangeSpec.witness6 (enc := enc) (C := Try.checked) false ⟨#[], #[.slice none 0 0, .slice none 0 0, .int .i64 0], []⟩ 8 (by kernel_rfl) (by kernel_rfl) (by kernel_rfl) (by kernel_rfl)) ?_
  intro W base args ds gs before hval0 hW hcnd _
  have hval : ∀ (j : Nat) t v, Try.f9.params[j]? = some t → args[j]? = some v → Value.okWide Try.prog W .any base t v := hval0
  have hW' := hW
  obtain ⟨p, q, hA0, hV, rfl, hfz, hnd⟩ := hW
  have hA : DataW.TrodAll enc Try.prog W 0 (fun _ => true) true Try.f9.params.toList args.toList ds p := hA0
  rw [Try.params9] at hA hval
  obtain ⟨v0, vs0, d0, ds0, p0, q0, hargs, rfl, rfl, h0, r0⟩ := trodAll_cons hA
  obtain ⟨v1, vs1, d1, ds1, p1, q1, rfl, rfl, rfl, h1, r1⟩ := trodAll_cons r0
  obtain ⟨v2, vs2, d2, ds2, p2, q2, rfl, rfl, rfl, h2, r2⟩ := trodAll_cons r1
  obtain ⟨rfl, rfl, rfl⟩ := trodAll_nil r2
  obtain rfl : args = #[v0, v1, v2] := by cases args; simp_all
  obtain ⟨rfl, rfl⟩ := trodVars_none hV
  obtain ⟨a0, len0, cap0, rfl⟩ := okWide_slice Try.underlying25 (hval 0 25 v0 rfl rfl)
  have k0 := h0
  have lt0 : ∀ x ∈ p0, x.block < W.heap.size := by obtain ⟨m, hm⟩ := k0; exact DataW.trod_lt m _ _ _ hm
  obtain ⟨z0, w0⟩ : ∃ zs, IsRow .u8 W a0 len0 cap0 zs := by
    obtain ⟨fuel, hf⟩ := h0
    rcases open_ints Try.underlying25 Try.underlying5 (by kernel_rfl) hf with ⟨hcs, _⟩ | ⟨x, l, c, zs, hcs, _, hl, hm, hz, _, hcell, hwz⟩
    · simp [Value.cells] at hcs
      obtain ⟨rfl, rfl, rfl⟩ := hcs
      exact ⟨[], .inl ⟨rfl, rfl, rfl, rfl⟩⟩
    · simp [Value.cells] at hcs
      obtain ⟨rfl, rfl, rfl⟩ := hcs
      exact ⟨zs, .inr ⟨_, rfl, hl, hm, by simpa using hz, hcell, hwz⟩⟩
  obtain ⟨l0, _, hb0⟩ := row_bytes w0
  obtain ⟨a1, len1, cap1, rfl⟩ := okWide_slice Try.underlying25 (hval 1 25 v1 rfl rfl)
  have k1 := h1
  have lt1 : ∀ x ∈ p1, x.block < W.heap.size := by obtain ⟨m, hm⟩ := k1; exact DataW.trod_lt m _ _ _ hm
  obtain ⟨z1, w1⟩ : ∃ zs, IsRow .u8 W a1 len1 cap1 zs := by
    obtain ⟨fuel, hf⟩ := h1
    rcases open_ints Try.underlying25 Try.underlying5 (by kernel_rfl) hf with ⟨hcs, _⟩ | ⟨x, l, c, zs, hcs, _, hl, hm, hz, _, hcell, hwz⟩
    · simp [Value.cells] at hcs
      obtain ⟨rfl, rfl, rfl⟩ := hcs
      exact ⟨[], .inl ⟨rfl, rfl, rfl, rfl⟩⟩
    · simp [Value.cells] at hcs
      obtain ⟨rfl, rfl, rfl⟩ := hcs
      exact ⟨zs, .inr ⟨_, rfl, hl, hm, by simpa using hz, hcell, hwz⟩⟩
  obtain ⟨l1, _, hb1⟩ := row_bytes w1
  obtain ⟨a2, rfl, rfl, rfl, w2⟩ := open_int Try.underlying3 (hval 2 3 v2 rfl rfl) h2
  clear hA0 hval0
  refine (walk _ l0 _ l1 a2 W hb0 hb1 w2).mono fun e W' ⟨he, bel⟩ => ?_
  subst he
  exact ⟨_, rfl, _, _, _, [], _, [], hW', trodAll_mk1 (shut_bool Try.underlying4 _), (trodAll_cons_mk (Below.trod laidOut (by kernel_rfl) (of_decide_eq_true (by kernel_rfl)) k0 bel lt0) (trodAll_cons_mk (Below.trod laidOut (by kernel_rfl) (of_decide_eq_true (by kernel_rfl)) k1 bel lt1) (trodAll_cons_mk (shut_int Try.underlying3 w2) trodAll_mk0))), rfl, bel.frame _, fun h => by cases h⟩

theorem over : Rows.cellsRowsRow.holds Try.pinned (OpenSpec.ofChange Rows.cellsRowsSpec) :=
  OpenClaim.holds_of_wide 9 Try.f9 rfl rfl rfl rfl rfl rfl rfl ⟨rfl, rfl, rfl, rfl, rfl⟩ rfl rfl rfl rfl rfl (by kernel_rfl) Try.func9 (by kernel_rfl)
    (of_decide_eq_true (by kernel_rfl)) (by unfold Func.isWrapper; first | (rw [if_pos (by decide +kernel)]; kernel_rfl) | (rw [if_neg (by decide +kernel)]; exact ⟨rfl, rfl⟩))
    (fun os started H enc _ => lifted os started H enc)

theorem cellsRows_holds : Rows.CellsRowsSaid := over
end Go.Proofs.Ytklmkaafogekaaa.cellsRows
