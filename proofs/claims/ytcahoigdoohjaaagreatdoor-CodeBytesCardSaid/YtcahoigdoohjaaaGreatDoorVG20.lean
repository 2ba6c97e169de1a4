/- - -/
import Derived.Test.YtcahoigdoohjaaaGreatDoorVG19
import Derived.Test.YtcahoigdoohjaaaGreatDoorVCA
import Derived.Test.YtcahoigdoohjaaaGreatDoorVG13
import Derived.Test.YtcahoigdoohjaaaGreatDoorVG10
import Derived.Test.YtcahoigdoohjaaaGreatDoorVG1
namespace Go.Proofs.YtcahoigdoohjaaaGreatDoor.Cd
open Go.RowKit Go.Shelf Go.Maps Go.Proofs.YtcahoigdoohjaaaGreatDoor.C Go.Proofs.YtcahoigdoohjaaaGreatDoor.E Go.Proofs.YtcahoigdoohjaaaGreatDoor.Q
set_option linter.unusedSimpArgs false
set_option linter.unusedVariables false
attribute [local go_sem] Oper.semAt_some

def CutX (base : Nat) (W : World) (v : Value) (n : Nat) (l : List UInt8) : Prop :=
  ∃ g g2, v = .slice (some ⟨g2, 0, none⟩) (cellsFor l.length n) (cellsFor l.length n) ∧ Blk W g2 32 (cutAt g n (cellsFor l.length n) (cellsFor l.length n)) ∧ Row W g (tab (cellsFor l.length n * n) (at_ l)) ∧ base ≤ g ∧ base ≤ g2
theorem CutX.less {base base' : Nat} {W : World} {v : Value} {n : Nat} {l : List UInt8} (h : CutX base W v n l) (hb : base' ≤ base) : CutX base' W v n l := by
  obtain ⟨g, g2, h1, h2, h3, h4, h5⟩ := h
  exact ⟨g, g2, h1, h2, h3, by omega, by omega⟩
theorem CutX.set_ {base : Nat} {W : World} {v : Value} {n : Nat} {l : List UInt8} (h : CutX base W v n l) {p : Addr} (hp : p.block < base) (u : Value) : CutX base (W.setCell p u) v n l := by
  obtain ⟨g, g2, h1, h2, h3, h4, h5⟩ := h
  exact ⟨g, g2, h1, Blk.far h2 (by omega) u, Blk.far h3 (by omega) u, h4, h5⟩
theorem CutX.row {base : Nat} {W : World} {v : Value} {n : Nat} {l : List UInt8} (h : CutX base W v n l) (hn : 1 ≤ n) (hn64 : n ≤ 64) (hl : l.length ≤ 1048576) : RowM (fun _ => True) W base v (cutL n l) := by
  obtain ⟨g, g2, h1, h2, h3, h4, h5⟩ := h
  subst h1
  have hq := cutL_len n l
  have hqm : cellsFor l.length n ≤ maxLen := by
    have e1 := cellsFor_le l.length n hn
    have e2 := Nat.le_mul_of_pos_right (cellsFor l.length n) hn
    unfold maxLen
    omega
  have hsz := cutAt_size g n (cellsFor l.length n) (cellsFor l.length n)
  have hat := fun j (hj : j < cellsFor l.length n) => cutL_at n l j hj
  have htake : ((cutAt g n (cellsFor l.length n) (cellsFor l.length n)).toList).length = cellsFor l.length n := by rw [Array.length_toList, hsz]
  refine ⟨(cutAt g n (cellsFor l.length n) (cellsFor l.length n)).toList, ⟨by omega, .inr ⟨g2, cellsFor l.length n, _, by rw [htake], h5, h2, by omega, hqm, by omega, by rw [Nat.mul_one]; exact List.take_length⟩⟩, by rw [htake, hq], fun j u hu => ?_⟩
  have hj : j < cellsFor l.length n := by
    rcases Nat.lt_or_ge j (cellsFor l.length n) with h | h
    · exact h
    · rw [List.getElem?_eq_none (by rw [htake]; exact h)] at hu
      cases hu
  rw [Array.getElem?_toList, cutAt_get _ _ _ _ _ hj, if_pos hj] at hu
  injection hu with hu
  subst hu
  rw [hat j hj]
  have hne : g ≠ g2 := fun e => by
    subst e
    have e3 : Blk W g 5 _ := h3
    have := h2.symm.trans e3
    injection this with this
    injection this with _ this _
    revert this
    decide
  refine ⟨some ⟨g, j * n, none⟩, n, by rw [tab_len], by rw [tab_len]; exact Nat.le_refl _, fun _ => ⟨g, j * n, rfl, ⟨h3.lt, fun e => by injection e with e; exact hne e, trivial⟩, fun i hi => ?_⟩⟩
  rw [tab_len] at hi
  have hlt : j * n + i < cellsFor l.length n * n := by
    have := Nat.mul_le_mul_right n (show j + 1 ≤ cellsFor l.length n from hj)
    rw [Nat.succ_mul] at this
    omega
  rw [h3.cell (k := j * n + i) (by rw [tab_len]; exact hlt)]
  have e1 := tab_at (cellsFor l.length n * n) (at_ l) (j * n + i) hlt
  have e2 := tab_at n (fun i => at_ l (j * n + i)) i hi
  exact congrArg (fun x : UInt8 => some (Value.int .u8 (x.toNat : Int))) (e1.trans e2.symm)
set_option maxHeartbeats 400000 in
theorem cut1_row (v : Value) (l : List UInt8) (n : Nat) (h1 : 1 ≤ n) (h64 : n ≤ 64) (hlen : l.length ≤ 1048576) (gn gb : Nat) (w : World) (hgn : gn < w.heap.size) (hgb : gb < w.heap.size) (hb : Bytes w.heap.size w v l)
    (cn : w.cell? ⟨gn, 0, none⟩ = some (.int .i64 (n : Int))) (cb : w.cell? ⟨gb, 0, none⟩ = some v) :
    Calls Tryz.prog 142 #[.pointer (some ⟨gn, 0, none⟩), .pointer (some ⟨gb, 0, none⟩)] w fun e w' => ∃ v, e = .returned v ∧ CutX w.heap.size w' v n l ∧ Below w.heap.size w w' := by
  have hL := fun W : World => isLength_any (n : Int) W
  rw [decide_eq_true (show 1 ≤ (n : Int) ∧ (n : Int) ≤ 64 by omega)] at hL
  have HL := Lib.hid hL
  have HF := Lib.hid (fun (W : World) (hB : Below w.heap.size w W) => filled_any v l n h1 h64 hlen W ((hb.below hB).more hB.size))
  have hq2 : cellsFor l.length n ≤ 2000000 := by
    have e1 := cellsFor_le l.length n h1
    have e2 := Nat.le_mul_of_pos_right (cellsFor l.length n) h1
    omega
  have HC := Lib.hid (fun (W : World) (g : Nat) (hR : Row W g (tab (cellsFor l.length n * n) (at_ l))) => cutUp_any g n (cellsFor l.length n) (cellsFor l.length n * n) _ h1 h64 rfl hq2 W hR)
  have HE : Hid (∀ {W : World} {g g2 base : Nat}, Blk W g2 32 (cutAt g n (cellsFor l.length n) (cellsFor l.length n)) → Row W g (tab (cellsFor l.length n * n) (at_ l)) → base ≤ g → base ≤ g2 → CutX base W (.slice (some ⟨g2, 0, none⟩) (cellsFor l.length n) (cellsFor l.length n)) n l) := fun a b c d => ⟨_, _, rfl, a, b, c, d⟩
  clear hL hlen h1 h64 hq2 hb
  generalize cellsFor l.length n = q at *
  generalize q * n = N at *
  go_enter Tryz.func142, Tryz.ntmps142
  go_wp2_with (first | (go_at_call 144; refine (HL.out _).mono ?_; rintro e w' ⟨rfl, rfl⟩) | (go_at_call 143; refine (C.need_yes _).mono ?_; rintro e w' ⟨rfl, rfl⟩))
  go_region_held3 (fun W => W.cell? ⟨gn, 0, none⟩ = some (.int .i64 (n : Int)) ∧ W.cell? ⟨gb, 0, none⟩ = some v)
    (first | exact ⟨cn, cb⟩ | exact ⟨(Below.cell (p := ⟨gn, 0, none⟩) hBa hgn).trans cn, (Below.cell (p := ⟨gb, 0, none⟩) hBa hgb).trans cb⟩ | exact ⟨(Below.cell (p := ⟨gn, 0, none⟩) hBb hgn).trans cn, (Below.cell (p := ⟨gb, 0, none⟩) hBb hgb).trans cb⟩) (first
    | (go_at_call 146; refine (HF.out _ ?_).mono ?_; first | exact Below.refl _ _ | exact (Below.refl _ _).drew; rintro e w1 ⟨g, rfl, hg, hR, hB1⟩; have hBa : Below w.heap.size w w1 := (by first | exact hB1 | exact Below.undrew hB1))
    | (go_at_call 145; refine (HC.out _ g hR).mono ?_; rintro e w2 ⟨g2, rfl, hg2, hC2, hR2, hB2⟩; have hBb : Below w.heap.size w w2 := Below.next hBa hB2))
  all_goals go_wp2
  all_goals go_ret
  all_goals exact ⟨_, rfl, HE.out hC2 hR2 hg (Nat.le_trans hBa.size hg2), hBb⟩
set_option maxHeartbeats 400000 in
theorem cut_row (v : Value) (l : List UInt8) (n : Nat) (h1 : 1 ≤ n) (h64 : n ≤ 64) (hlen : l.length ≤ 1048576) (w : World) (hb : Bytes w.heap.size w v l) :
    Calls Tryz.prog 101 #[v, .int .i64 (n : Int)] w fun e w' => ∃ v, e = .returned (.tuple #[v, .int .i64 0]) ∧ CutX w.heap.size w' v n l ∧ Below w.heap.size w w' := by
  have hmf := make_func
  obtain ⟨W0, hW0⟩ : ∃ W0, (w.alloc (.cells #[v] 32)).alloc (.cells #[.int .i64 (n : Int)] 3) = W0 := ⟨_, rfl⟩
  have b0 : Blk W0 w.heap.size 32 #[v] := by rw [← hW0]; exact (Blk.new w _ _).alloc _
  have b1 : Blk W0 (w.heap.size + 1) 3 #[.int .i64 (n : Int)] := by
    rw [← hW0]; have := Blk.new (w.alloc (.cells #[v] 32)) 3 #[.int .i64 (n : Int)]; rwa [World.size_alloc] at this
  have hB0 : Below w.heap.size w W0 := by rw [← hW0]; exact ((Below.refl _ w).alloc (Nat.le_refl _) _).alloc (by simp) _
  have hs0 : W0.heap.size = w.heap.size + 2 := by rw [← hW0]; simp
  have HA := Lib.hid (answeredM_yes 142 #[.pointer (some ⟨w.heap.size + 1, 0, none⟩), .pointer (some ⟨w.heap.size, 0, none⟩)] W0 (fun u W => CutX (W0.heap.size + 1) W u n l) (fun W => C.enter_cut _ W)
    (fun W hBW hlt => (cut1_row v l n h1 h64 hlen (w.heap.size + 1) w.heap.size W (by omega) (by omega) (((hb.below hB0).more hB0.size).below hBW |>.more hBW.size) (b1.below hBW (by omega)).one (b0.below hBW (by omega)).one).mono (by rintro e w' ⟨u, rfl, hF, hB'⟩; exact ⟨u, rfl, hF.less hlt, hB'⟩))
    (fun v W hF => hF.set_ (by simp) _))
  obtain ⟨A, cap, rfl, _, _⟩ := id hb
  clear b0 b1
  go_enter Tryz.func101, Tryz.ntmps101
  go_wp2_with (go_at_call 141; refine HA.out.mono ?_; rintro e w1 ⟨v, rfl, hF, hBr⟩)
  go_ret2
  exact ⟨v, rfl, hF.less (by omega), hB0.trans (hBr.mono (by omega))⟩

theorem grown_set (W : World) (p : Addr) (u : Value) : W.grownBy (W.setCell p u) (some p.block) := ⟨rfl, rfl, rfl, by simp, fun b _ hb => Below.heap_setCell W p u b (fun e => hb (by rw [e]))⟩
theorem field_at (x y : Int) (W : World) : (Instr.field 57 (.agg #[.int .i64 x, .int .i64 y]) 0).run Tryz.prog W = .ok (.int .i64 x) W := by kernel_rfl
set_option maxRecDepth 100000 in
set_option maxHeartbeats 2000000 in
theorem laid_any {B : Nat} (k p : Int) (hR : RightC k p) (v : Value) (ls : List (List UInt8)) (len : Nat) (b : List UInt8) (hls : ls.length = datN k p * (p - 1).toNat) (hce : ∀ i, i < ls.length → ls[i]?.getD [] = cellB b len i) (w : World) (hL : Laid w) (hB : B ≤ w.heap.size) (hC : Many B w v ls) :
    Calls Tryz.prog 102 #[.agg #[.int .i64 k, .int .i64 p], v] w fun e w' => ∃ u, e = .returned u ∧ Cols w'.heap.size w' u (fillL (datN k p) (p - 1).toNat len b) ∧ Below w.heap.size w w' := by
  obtain ⟨hDN, hd2, hd17⟩ := datN_eq hR
  obtain ⟨p1, p2, s1, s2, m1, m2⟩ := hR.und
  have hR2 : 2 ≤ (p - 1).toNat ∧ (p - 1).toNat ≤ 16 := by omega
  have hpR : p - 1 = (((p - 1).toNat : Nat) : Int) := by omega
  have HNUM : Hid (∀ i : Nat, i < ls.length → HasNum k p (i : Int)) := fun i hi => ⟨by omega, by rw [hDN, hpR, hls] at *; exact_mod_cast hi⟩
  obtain ⟨R, hRR⟩ : ∃ R, (p - 1).toNat = R := ⟨_, rfl⟩
  rw [hRR] at hls hR2 ⊢
  have hN1 : 1 ≤ ls.length := by rw [hls]; exact Nat.mul_pos (by omega) (by omega)
  have hN2 : ls.length ≤ 300 := by rw [hls]; exact Nat.le_trans (Nat.mul_le_mul hd17 hR2.2) (by omega)
  have HPL := Lib.hid (fun (i : Nat) (hi : i < ls.length) (U : World) (hLU : Laid U) => by
    have h := (shapePlace_any k p (i : Int) U hLU).mono fun _ _ h => (⟨h.2.2.1 hR (HNUM.out i hi), h.2.2.2⟩ : _ ∧ _)
    rw [hDN, show ((i : Int) % ((datN k p : Nat) : Int)) = ((i % datN k p : Nat) : Int) from rfl, show ((i : Int) / ((datN k p : Nat) : Int)) = ((i / datN k p : Nat) : Int) from rfl] at h
    exact h)
  have HDT := Lib.hid (fun (U : World) (hLU : Laid U) => by
    have h := (shapeData_any k p U hLU).mono fun _ _ h => (⟨h.1 hR, h.2.2⟩ : _ ∧ _)
    rw [hDN] at h
    exact h)
  generalize datN k p = d at *
  have HCE := Lib.hid hce
  obtain ⟨Av, capv, rfl, hcv, _⟩ := id hC
  obtain ⟨bv, ov, rfl, hbv, hrow⟩ := many_at hC (by omega)
  have HRO := Lib.hid hrow
  have HLS := Lib.hid hls
  obtain ⟨N, hN⟩ : ∃ N, ls.length = N := ⟨_, rfl⟩
  rw [hN] at HPL HCE HRO hN1 hN2 HLS hcv ⊢
  have hBz := below_one w (.cells #[.int .i64 k, .int .i64 p] 24)
  have bz := Blk.new w 24 #[.int .i64 k, .int .i64 p]
  obtain ⟨wb, hwb⟩ : ∃ wb, w.alloc (.cells #[.int .i64 k, .int .i64 p] 24) = wb := ⟨_, rfl⟩
  rw [hwb] at hBz bz
  have hLb := hL.next hBz
  have HFD := Lib.hid field_at
  obtain ⟨i0, hi, hz0, hz1, hz2⟩ := info_parts Tryz.infoCol
  have hmake := fun W : World => run_make (P := Tryz.prog) W 81 62 i0 (.slice none 0 0) Tryz.underlying81 hi hz0 .i64 .i64 (d : Int) (d : Int) (by omega) (by omega) (by rw [hz2]; omega) (by omega)
  simp only [hz1, Int.toNat_natCast, Nat.mul_one, show (Value.slice none 0 0).cells = #[Value.slice none 0 0] from rfl] at hmake
  clear hC hls hce hrow hN hDN hpR hRR hR hi hz0 hz1 hz2 hL HNUM
  have c0 := bz.cell 0
  have c1 := bz.cell 1
  simp only [List.getElem?_toArray, List.getElem?_cons_zero, List.getElem?_cons_succ] at c0 c1
  go_enter Tryz.func102, Tryz.ntmps102
  go_wp2_with (first
    | (go_at_call 44; refine (HDT.out _ hLb).mono ?_; rintro e w1 ⟨rfl, hB1⟩)
    | (go_at_call 78; refine (sureI _ _).mono ?_; rintro e w2 ⟨rfl, rfl⟩))
  have hBA := below_in hB1 (below_one w1 (.cells (madeCells #[.slice none 0 0] d) 62))
  have bA := Blk.new w1 62 (madeCells #[.slice none 0 0] d)
  have hbz : (madeCells #[.slice none 0 0] d).size = d := size_madeCells _ _
  have hat0 : ∀ c, c < d → (madeCells #[.slice none 0 0] d)[c]? = some (.slice none 0 0) := fun c hc => by
    rw [← Array.getElem?_toList, toList_madeCells_one, List.getElem?_replicate, if_pos hc]
  obtain ⟨wA, hwA⟩ : ∃ wA, w1.alloc (.cells (madeCells #[.slice none 0 0] d) 62) = wA := ⟨_, rfl⟩
  rw [hwA] at hBA bA
  simp only [hwA]
  generalize madeCells #[.slice none 0 0] d = csA at *
  obtain ⟨gd, hgd⟩ : ∃ gd, w1.heap.size = gd := ⟨_, rfl⟩
  rw [hgd] at bA
  have HGD := Lib.hid hgd
  have HGB : Hid (wb.heap.size ≤ gd) := by have h1 := hB1.size; unfold Hid; omega
  have HG1 : Hid (w.heap.size < gd) := by have h1 := hB1.size; have h2 := bz.lt; unfold Hid; omega
  simp only [hgd]
  clear hgd
  have HA0 := Lib.hid hat0
  clear hat0 hmake hwA hB1 HDT
  go_wp2_with fail
  go_loopw [17] (fun i wr => ∃ (m : Nat) (cs : Array Value), m ≤ N ∧ i = .int .i64 m ∧ Blk wr gd 62 cs ∧ cs.size = d ∧
      Hid (∀ c, c < d → ∃ vc, cs[c]? = some vc ∧ RowM (· < w.heap.size) wr (gd + 1) vc ((partL d len b m)[c]?.getD [])) ∧
      Hid (∀ (c c' : Nat) (x y : Value), c ≠ c' → cs[c]? = some x → cs[c']? = some y → x.ownBlock = none ∨ x.ownBlock ≠ y.ownBlock) ∧ Hid (Below wb.heap.size wb wr)) (fun i _ => N - (intOf i).toNat)
  case atStart =>
    refine ⟨0, csA, by omega, rfl, bA, hbz, Lib.hid fun c hc => ⟨_, HA0.out c hc, ?_⟩, Lib.hid fun c c' x y _ h1 h2 => ?_, Lib.hid hBA⟩
    · rw [part_zero, List.getElem?_replicate, if_pos hc]
      exact RowG.nil _ _ _ _ _ _
    · left
      have hc : c < d := by
        rcases Nat.lt_or_ge c d with h | h
        · exact h
        · rw [Array.getElem?_eq_none (by omega)] at h1; cases h1
      rw [HA0.out c hc] at h1
      injection h1 with h1
      rw [← h1]
      rfl
  case round =>
    obtain ⟨m, cs, hm, rfl, bA, hbz, HROW, HSEP, HBR⟩ := hrel
    clear c0 c1 hBA HA0
    by_cases hlt : m < N
    · have hdec : decide ((m : Int) < (N : Int)) = true := by simp; omega
      obtain ⟨u0, cu, hu0, hby⟩ := HRO.out m hlt
      have hcb := HCE.out m hlt
      have cv : wr.cell? ⟨bv, ov + m, none⟩ = some (.slice u0 (ls[m]?.getD []).length cu) := (HBR.out.cell (p := ⟨bv, ov + m, none⟩) (by have h1 := hBz.size; show bv < _; omega)).trans ((hBz.cell (p := ⟨bv, ov + m, none⟩) (by show bv < _; omega)).trans hu0)
      have hby2 := hby.below (hBz.mono hB)
      have hby3 := hby2.below (HBR.out.mono (by have h1 := hBz.size; omega))
      have hbc := bz.below HBR.out bz.lt
      have c0 := hbc.cell 0
      have c1 := hbc.cell 1
      simp only [List.getElem?_toArray, List.getElem?_cons_zero, List.getElem?_cons_succ] at c0 c1
      have hLr := hLb.next HBR.out
      have i1 : (0 : Int) ≤ (m : Int) := by omega
      have i2 : (m : Int) < (N : Int) := by omega
      have hmod : m % d < d := Nat.mod_lt _ (by omega)
      have j1 : (0 : Int) ≤ ((m % d : Nat) : Int) := by omega
      have j2 : ((m % d : Nat) : Int) < (d : Int) := by omega
      obtain ⟨vc, hvc, hrowc⟩ := HROW.out (m % d) hmod
      obtain ⟨A0, n0, cc0, rfl⟩ := T.RowG.form hrowc
      have hfd := HFD.out
      have hpl := HPL.out m hlt wr hLr
      rw [hcb] at cv hby3
      have HPN : Hid (partL d len b (m + 1) = (partL d len b m).set (m % d) (((partL d len b m)[m % d]?.getD []) ++ [cellB b len m])) := part_next (by omega)
      have HPS : Hid ((partL d len b m).length = d) := partL_len d len b m
      have HPB : Hid (((partL d len b m)[m % d]?.getD []).length ≤ 1000) := by
        unfold Hid
        rw [part_at hmod, List.length_map, List.length_range]
        exact Nat.le_trans (Nat.div_le_self _ _) (by omega)
      have HRC := Lib.hid hrowc
      clear hu0 hby hby2 hcb hbc hrowc HPL HFD HCE HRO hLr
      generalize cellB b len m = ce at *
      generalize (m % d : Nat) = col at *
      generalize ((m / d : Nat) : Int) = rw_ at *
      generalize (partL d len b m)[col]?.getD [] = old at *
      go_wp2_with (first
        | (go_at_call 89; refine hpl.mono ?_; rintro e w2 ⟨rfl, hB2⟩)
        | (go_at_call 88; refine (sureP _ _ _).mono ?_; rintro e w3 ⟨rfl, hB3⟩; have hB23 := below_in hB2 hB3; have bA3 := bA.below hB23 bA.lt; have hcg := bA3.cell col; rw [hvc] at hcg; have hRC3 := Lib.hid (RowG.below HRC.out hB23); have hby4 := hby3.below (hB23.mono (by have h1 := HBR.out.size; have h2 := hBz.size; omega))
           have hBal := below_one w3 (.cells #[.slice u0 ce.length cu] 32); have bE := Blk.new w3 32 #[.slice u0 ce.length cu]; have hby5 := hby4.below (hBal.mono (by have h1 := HBR.out.size; have h2 := hBz.size; have h3 := hB23.size; omega)); have hRC4 := Lib.hid (RowG.below hRC3.out hBal); have bA4 := bA3.alloc (.cells #[.slice u0 ce.length cu] 32))
        | (at_builtin; refine wpList_pushM _ rfl _ _ rfl Tryz.underlying62 _ rfl hRC4.out w3.heap.size _ _ ce rfl bE (BytesP.imp hby5 (fun q hq => ⟨by have h1 := HBR.out.size; have h2 := hBz.size; have h3 := hB23.size; have h4 := hBal.size; have h5 : q < B := hq; omega, fun e => by have h5 : q < B := hq; have h6 := RowG.own_le hRC4.out q e.symm; have h7 := HG1.out; omega, by have h5 : q < B := hq; show q < w.heap.size; omega⟩)) (Nat.le_trans HPB.out (by omega)) (by have h1 := bA4.lt; omega) ?_; intro v' w5 hrow5 hgr5 hor5; obtain ⟨A5, n5, cc5, rfl⟩ := T.RowG.form hrow5; have HR5 := Lib.hid hrow5; clear hrow5; have HO5 := Lib.hid hor5; clear hor5; have hne5 : some gd ≠ (Value.slice A0 n0 cc0).ownBlock := (fun e => by have h6 := RowG.own_le hRC4.out gd e.symm; omega); have bA5 : Blk w5 gd 62 cs := (hgr5.block gd bA4.lt hne5).trans bA4; have hcg5 := bA5.cell col; rw [hvc] at hcg5; have f5 := bA5.frozen col))
      have HST : Hid (∀ V, V = w5.setCell ⟨gd, col, none⟩ (.slice A5 n5 cc5) → Blk V gd 62 (cs.setIfInBounds col (.slice A5 n5 cc5)) ∧ Below wb.heap.size wb V ∧
          (∀ c, c < d → ∃ vc, (cs.setIfInBounds col (.slice A5 n5 cc5))[c]? = some vc ∧ RowM (· < w.heap.size) V (gd + 1) vc ((partL d len b (m + 1))[c]?.getD [])) ∧
          (∀ (c c' : Nat) (x y : Value), c ≠ c' → (cs.setIfInBounds col (.slice A5 n5 cc5))[c]? = some x → (cs.setIfInBounds col (.slice A5 n5 cc5))[c']? = some y → x.ownBlock = none ∨ x.ownBlock ≠ y.ownBlock)) := fun V hV => by
        have hcs : col < cs.size := by omega
        have hgV : w5.grownBy V (some gd) := by rw [hV]; exact grown_set w5 ⟨gd, col, none⟩ _
        have hB35 : Below wr.heap.size wr (w3.alloc (.cells #[.slice u0 ce.length cu] 32)) := below_in hB23 hBal
        have hgdl : gd < wr.heap.size := bA.lt
        have hsz4 : (w3.alloc (.cells #[.slice u0 ce.length cu] 32)).heap.size = w3.heap.size + 1 := by simp
        have hszr := hB23.size
        have hwbg : wb.heap.size ≤ gd := by have h1 := HGB.out; omega
        refine ⟨by rw [hV]; exact bA5.set_ col _, ?_, fun c hc => ?_, fun c c' x y hne h1 h2 => ?_⟩
        · rw [hV]
          refine Below.setCell (below_grown (HBR.out.trans (hB35.mono HBR.out.size)) hgr5 (by have h1 := HBR.out.size; have h2 := hB35.size; omega) (fun q e => by have h6 := RowG.own_le hRC4.out q e; omega)) (by simpa using hwbg) _
        · rw [HPN.out, List.getElem?_set]
          by_cases hcc : col = c
          · subst hcc
            rw [if_pos rfl, if_pos (by rw [HPS.out]; exact hc)]
            refine ⟨_, Array.getElem?_setIfInBounds_self_of_lt hcs, ?_⟩
            refine RowG.kept HR5.out hgV (.inr fun e => by have h6 := RowG.own_le HR5.out gd e; omega) (fun q hq e => ?_)
            injection e with e
            have h5 : q < w.heap.size := hq
            have := HG1.out
            omega
          · rw [if_neg hcc]
            obtain ⟨vc, g1, g2⟩ := HROW.out c hc
            refine ⟨vc, by rw [Array.getElem?_setIfInBounds_ne hcc]; exact g1, ?_⟩
            have g3 := RowG.below g2 hB35
            have hsep := HSEP.out c col vc _ (Ne.symm hcc) g1 hvc
            have g4 := RowG.kept g3 hgr5 hsep (fun q hq e => by have h6 := RowG.own_le hRC4.out q e.symm; have h5 : q < w.heap.size := hq; have := HG1.out; omega)
            refine RowG.kept g4 hgV (.inr fun e => by have h6 := RowG.own_le g4 gd e; omega) (fun q hq e => ?_)
            injection e with e
            have h5 : q < w.heap.size := hq
            have := HG1.out
            omega
        · have hold : ∀ c0 x0, c0 ≠ col → (cs.setIfInBounds col (.slice A5 n5 cc5))[c0]? = some x0 → cs[c0]? = some x0 ∧ ∀ q, x0.ownBlock = some q → q < wr.heap.size := fun c0 x0 hc0 h => by
            rw [Array.getElem?_setIfInBounds_ne (Ne.symm hc0)] at h
            refine ⟨h, fun q hq => ?_⟩
            have hc0d : c0 < d := by
              rcases Nat.lt_or_ge c0 d with h' | h'
              · exact h'
              · rw [Array.getElem?_eq_none (by omega)] at h; cases h
            obtain ⟨vc, g1, g2⟩ := HROW.out c0 hc0d
            rw [h] at g1
            injection g1 with g1
            subst g1
            exact RowG.own_lt g2 q hq
          have hnew : ∀ x0, (cs.setIfInBounds col (.slice A5 n5 cc5))[col]? = some x0 → x0 = .slice A5 n5 cc5 := fun x0 h => by
            rw [Array.getElem?_setIfInBounds_self_of_lt hcs] at h
            injection h with h
            exact h.symm
          by_cases e1 : c = col
          · subst e1
            have := hnew x h1
            subst this
            obtain ⟨k1, k2⟩ := hold c' y (Ne.symm hne) h2
            rcases HO5.out with e | e
            · rw [e]
              exact HSEP.out c c' _ y hne hvc k1
            · right
              rw [e]
              intro e2
              have := k2 _ e2.symm
              omega
          · obtain ⟨k1, k2⟩ := hold c x e1 h1
            by_cases e2 : c' = col
            · subst e2
              have := hnew y h2
              subst this
              rcases HO5.out with e | e
              · rw [e]
                exact HSEP.out c c' x _ hne k1 hvc
              · right
                rw [e]
                intro e3
                have := k2 _ e3
                omega
            · exact HSEP.out c c' x y hne k1 (hold c' y e2 h2).1
      clear hRC4 hRC3 hby3 hby4 hby5 HR5 HO5 bE bA4 bA3 hcg hgr5 HROW HSEP HRC hne5
      go_wp2
      go_roundw
      case rel =>
        obtain ⟨g1, g2, g3, g4⟩ := HST.out _ rfl
        exact ⟨m + 1, _, hlt, by go_num, g1, by simpa using hbz, Lib.hid g3, Lib.hid g4, Lib.hid g2⟩
      case measure => simp [intOf]; omega
    · obtain rfl : m = N := by omega
      have hdec : decide ((m : Int) < (m : Int)) = false := by simp
      have HFIN : Hid (Cols wr.heap.size wr (.slice (some ⟨gd, 0, none⟩) d d) (fillL d R len b)) := by
        have hpa : partL d len b m = fillL d R len b := by rw [HLS.out]; exact part_all
        refine ⟨_, d, by rw [fill_len], by rw [fill_len]; exact Nat.le_refl _, fun _ => ⟨gd, 0, rfl, bA.lt, fun c hc => ?_⟩⟩
        rw [fill_len] at hc
        obtain ⟨vc, g1, g2⟩ := HROW.out c hc
        rw [hpa] at g2
        exact ⟨vc, by rw [Nat.zero_add, bA.cell c]; exact g1, manyR_iff.1 (RowM.many g2 fun q hq _ => hq)⟩
      clear HROW HSEP
      go_wp2
      go_ret
      exact ⟨_, rfl, HFIN.out, hBz.trans (HBR.out.mono (by have := hBz.size; omega))⟩
end Go.Proofs.YtcahoigdoohjaaaGreatDoor.Cd

namespace Go.Proofs.YtcahoigdoohjaaaGreatDoor.Cd
open Go.RowKit Go.Shelf Go.Maps Go.Proofs.YtcahoigdoohjaaaGreatDoor.C Go.Proofs.YtcahoigdoohjaaaGreatDoor.E Go.Proofs.YtcahoigdoohjaaaGreatDoor.Q
set_option linter.unusedSimpArgs false
set_option linter.unusedVariables false
attribute [local go_sem] Oper.semAt_some

def FillOk (k p : Int) (b : List UInt8) (n : Int) : Prop := RightC k p ∧ (1 ≤ n ∧ n ≤ 64) ∧ (b.length : Int) ≤ (p - shortN k) * (p - 1) * n
theorem many_nat {k p : Int} (hR : RightC k p) : (p - shortN k) * (p - 1) = ((datN k p * (p - 1).toNat : Nat) : Int) ∧ 2 ≤ (p - 1).toNat ∧ (p - 1).toNat ≤ 16 ∧ datN k p * (p - 1).toNat ≤ 272 := by
  obtain ⟨hDN, hd2, hd17⟩ := datN_eq hR
  obtain ⟨p1, p2, s1, s2, m1, m2⟩ := hR.und
  have hpR : p - 1 = (((p - 1).toNat : Nat) : Int) := by omega
  have hle : datN k p * (p - 1).toNat ≤ 17 * 16 := Nat.mul_le_mul hd17 (by omega)
  refine ⟨by rw [hDN, Int.natCast_mul, ← hpR], by omega, by omega, by omega⟩
theorem cut_cell {b : List UInt8} {n i : Nat} (hi : i < cellsFor b.length n) : (cutL n b)[i]?.getD [] = cellB b n i := by rw [cutL_at n b i hi]; rfl
theorem nought_cell {b : List UInt8} {n i : Nat} (hn : 1 ≤ n) (hi : cellsFor b.length n ≤ i) : List.replicate n (0 : UInt8) = cellB b n i := by
  have hr := cellsFor_room b.length n hn
  have h2 : b.length ≤ i * n := Nat.le_trans hr (Nat.mul_le_mul_right n hi)
  unfold cellB
  refine List.ext_getElem (by simp) fun j h3 h4 => ?_
  rw [List.getElem_replicate, List.getElem_map, List.getElem_range]
  unfold at_
  rw [List.getElem?_eq_none (by omega)]
  rfl
theorem cells_few {b : List UInt8} {n M : Nat} (hn : 1 ≤ n) (h : b.length ≤ M * n) : cellsFor b.length n ≤ M := by
  unfold cellsFor
  refine Nat.le_of_lt_succ ((Nat.div_lt_iff_lt_mul hn).2 ?_)
  rw [Nat.succ_mul]
  omega
theorem row_len {α : Type} {r : Rep α} {t : TypeId} {d : α} {Q : Nat → Prop} {W : World} {base : Nat} {A : Option Addr} {n c : Nat} {xs : List α} (h : RowG r t d Q W base (.slice A n c) xs) : n = xs.length := by
  obtain ⟨us, ho, hn, _⟩ := h
  rcases ho.2 with ⟨e, h0⟩ | ⟨g, cap, cur, e, _⟩
  · injection e with _ e2 _
    omega
  · injection e with _ e2 _
    omega
def sliceLen : Value → Nat
  | .slice _ n _ => n
  | _ => 0
set_option maxRecDepth 100000 in
set_option maxHeartbeats 2000000 in
theorem filled_yes (k p : Int) (v : Value) (b : List UInt8) (n : Nat) (hok : FillOk k p b (n : Int)) (w : World) (hL : Laid w) (hb : Bytes w.heap.size w v b) :
    Calls Tryz.prog 59 #[.agg #[.int .i64 k, .int .i64 p], v, .int .i64 (n : Int)] w fun e w' => ∃ u, e = .returned u ∧ Cols w'.heap.size w' u (fillL (datN k p) (p - 1).toNat n b) ∧ Below w.heap.size w w' := by
  obtain ⟨hR, ⟨hn1', hn2'⟩, hlen'⟩ := hok
  obtain ⟨hmn, hR2, hR16, hM⟩ := many_nat hR
  have hn1 : 1 ≤ n := by omega
  have hn2 : n ≤ 64 := by omega
  have HNB := Lib.hid (fun (U : World) (hLU : Laid U) => by
    have h := numbers_yes k p hR U hLU
    rw [hmn] at h
    exact h)
  rw [hmn, ← Int.natCast_mul] at hlen'
  have hlen : b.length ≤ datN k p * (p - 1).toNat * n := by exact_mod_cast hlen'
  have HLA := Lib.hid (fun (B : Nat) (v : Value) (ls : List (List UInt8)) (hls : ls.length = datN k p * (p - 1).toNat) (hce : ∀ i, i < ls.length → ls[i]?.getD [] = cellB b n i) (U : World) (hLU : Laid U) (hB : B ≤ U.heap.size) (hC : Many B U v ls) => laid_any k p hR v ls n b hls hce U hLU hB hC)
  generalize fillL (datN k p) (p - 1).toNat n b = fl at *
  generalize datN k p * (p - 1).toNat = M at *
  have hMn : M * n ≤ 272 * 64 := Nat.mul_le_mul hM hn2
  have HFE := Lib.hid (cells_few hn1 hlen)
  have HCUT := Lib.hid (fun (U : World) (hb : Bytes U.heap.size U v b) => cut_row v b n hn1 hn2 (by omega) U hb)
  have HZ := Lib.hid (fun (U : World) => zero_yes n hn1 hn2 U)
  have HRW := Lib.hid (fun (base : Nat) (W : World) (u : Value) (h : CutX base W u n b) => h.row hn1 hn2 (by omega))
  have HB0 := Lib.hid hb
  obtain ⟨Av, capv, rfl, _, _⟩ := id hb
  have hdec : decide ((b.length : Int) ≤ (M : Int) * (n : Int)) = true := decide_eq_true hlen'
  have hw1 : IntKind.i64.wrap ((M : Int) * (n : Int)) = (M : Int) * (n : Int) := IntWalk.i64_in _ (by rw [← Int.natCast_mul]; omega)
  have hw2 : wrap64 ((M : Int) * (n : Int)) = (M : Int) * (n : Int) := IntWalk.wrap64_in _ (by rw [← Int.natCast_mul]; omega)
  have HNC := Lib.hid (fun i (hi : cellsFor b.length n ≤ i) => nought_cell hn1 hi)
  have HCC := Lib.hid (fun i (hi : i < cellsFor b.length n) => cut_cell hi)
  have HCL := Lib.hid (cutL_len n b)
  have hBz := below_one w (.cells #[.int .i64 k, .int .i64 p] 24)
  have bz := Blk.new w 24 #[.int .i64 k, .int .i64 p]
  obtain ⟨wb, hwb⟩ : ∃ wb, w.alloc (.cells #[.int .i64 k, .int .i64 p] 24) = wb := ⟨_, rfl⟩
  rw [hwb] at hBz bz
  have hLb := hL.next hBz
  have c0 := bz.cell 0
  have c1 := bz.cell 1
  simp only [List.getElem?_toArray, List.getElem?_cons_zero, List.getElem?_cons_succ] at c0 c1
  generalize cutL n b = cl at *
  clear hlen hlen' hmn hR hb hMn
  obtain ⟨N, hN⟩ : ∃ N, b.length = N := ⟨_, rfl⟩
  rw [hN] at hdec HB0 HCUT HFE HNC HCC HCL ⊢
  generalize cellsFor N n = q at *
  clear hN
  go_enter Tryz.func59, Tryz.ntmps59
  go_wp2_with (first
    | (go_at_call 87; refine (HNB.out _ hLb).mono ?_; rintro e w1 ⟨rfl, hB1⟩)
    | (go_at_call 99; refine (HZ.out w1).mono ?_; rintro e w2 ⟨z, rfl, hz, hB2⟩; have hB12 := below_in hB1 hB2; obtain ⟨zA, zc, hzv, _, _⟩ := id hz; rw [List.length_replicate] at hzv; subst hzv)
    | (go_at_call 90; refine (sureB _ _).mono ?_; rintro e wz ⟨rfl, rfl⟩)
    | (go_at_call 77; refine (need_yes _).mono ?_; rintro e wz ⟨rfl, rfl⟩)
    | (go_at_call 101; refine (HCUT.out w2 (Bytes.more (Bytes.below HB0.out (below_in hBz hB12)) (below_in hBz hB12).size)).mono ?_; rintro e w3 ⟨u, rfl, hu, hB3⟩; have hrow := HRW.out _ _ _ hu; obtain ⟨uA, un, uc, rfl⟩ := T.RowG.form hrow; obtain rfl : un = q := (by rw [row_len hrow]; exact HCL.out))
    | (go_at_call 100; refine (sureM _ _).mono ?_; rintro e wz ⟨rfl, rfl⟩))
  have HFZ := Lib.hid (Fresh.toP hz)
  have HB12 := Lib.hid hB12
  have HB3 := Lib.hid hB3
  have HRW0 := Lib.hid hrow
  have HFq := HFE.out
  clear hz hB12 hB3 hrow hu HCUT HZ HRW HNB HB0 hB1 hB2
  go_wp2_with fail
  go_loopw [9] (fun l wr => ∃ (j : Nat) (A : Option Addr) (c : Nat), un + j ≤ M ∧ l = .slice A (un + j) c ∧ Hid (RowM (fun _ => True) wr w2.heap.size (.slice A (un + j) c) (cl ++ List.replicate j (List.replicate n 0))) ∧ Hid (Below w2.heap.size w2 wr)) (fun l _ => M - sliceLen l)
  case atStart => exact ⟨0, uA, uc, by omega, rfl, by rw [List.replicate_zero, List.append_nil]; exact HRW0, HB3⟩
  case round =>
    obtain ⟨j, A, c, hj, rfl, HR, HBR⟩ := hrel
    by_cases hlt : un + j < M
    · have hd1 : decide (((un + j : Nat) : Int) < (M : Int)) = true := by simp; omega
      have hd2 : decide ((un : Int) + (j : Int) < (M : Int)) = true := by simp; omega
      have hz1 := BytesP.keep HFZ.out (fun q hq => HBR.out.block q hq.2)
      have HBal := Lib.hid (below_one wr (.cells #[.slice zA n zc] 32))
      have bE := Blk.new wr 32 #[.slice zA n zc]
      have hz2 := BytesP.keep hz1 (fun q hq => HBal.out.block q (by have h1 := HBR.out.size; omega))
      have HR2 := Lib.hid (RowG.below HR.out HBal.out)
      have HLE : Hid ((cl ++ List.replicate j (List.replicate n (0 : UInt8))).length ≤ 1000) := by unfold Hid; rw [List.length_append, HCL.out, List.length_replicate]; omega
      have HNX : Hid ((cl ++ List.replicate j (List.replicate n (0 : UInt8))) ++ [List.replicate n 0] = cl ++ List.replicate (j + 1) (List.replicate n 0)) := by unfold Hid; rw [List.append_assoc, List.replicate_succ']
      have HSZ : Hid (w2.heap.size ≤ (wr.alloc (.cells #[.slice zA n zc] 32)).heap.size) := Nat.le_trans HBR.out.size HBal.out.size
      have HZ3 : Hid (BytesP (fun b => b < (wr.alloc (.cells #[.slice zA n zc] 32)).heap.size ∧ some b ≠ (Value.slice A (un + j) c).ownBlock ∧ True) (wr.alloc (.cells #[.slice zA n zc] 32)) (.slice zA n zc) (List.replicate n 0)) := BytesP.imp hz2 (fun q hq => by
        have hq2 : q < w2.heap.size := hq.2
        refine ⟨by have h1 := HSZ.out; omega, fun e => by have h6 := RowG.own_le HR2.out q e.symm; omega, trivial⟩)
      clear hz1 HR
      generalize cl ++ List.replicate j (List.replicate n (0 : UInt8)) = xs at *
      obtain ⟨ys, HYS⟩ : ∃ ys, cl ++ List.replicate (j + 1) (List.replicate n (0 : UInt8)) = ys := ⟨_, rfl⟩
      rw [HYS] at HNX
      have HNX2 := Lib.hid HYS
      clear HYS
      go_wp2_with (at_builtin; refine wpList_pushM _ rfl _ _ rfl Tryz.underlying61 _ rfl HR2.out wr.heap.size _ _ (List.replicate n 0) rfl bE HZ3.out (Nat.le_trans HLE.out (by omega)) HSZ.out ?_; intro v' w5 hrow5 hgr5 _; obtain ⟨A5, n5, cc5, rfl⟩ := T.RowG.form hrow5; rw [HNX.out] at hrow5; have HR5 := Lib.hid hrow5; have HB5 := Lib.hid (below_grown (below_in HBR.out HBal.out) hgr5 HSZ.out (fun q e => RowG.own_le HR2.out q e)); obtain rfl : n5 = un + (j + 1) := (by rw [row_len HR5.out, ← HNX2.out, List.length_append, HCL.out, List.length_replicate]); clear hrow5 hgr5 hz2 bE)
      go_roundw
      case rel => exact ⟨j + 1, A5, cc5, by omega, rfl, by rw [HNX2.out]; exact HR5, HB5⟩
      case measure => simp [sliceLen]; omega
    · have hjM : un + j = M := by omega
      have hd1 : decide (((un + j : Nat) : Int) < (M : Int)) = false := by simp; omega
      have hd2 : decide ((un : Int) + (j : Int) < (M : Int)) = false := by simp; omega
      have hll : (cl ++ List.replicate j (List.replicate n (0 : UInt8))).length = M := by rw [List.length_append, HCL.out, List.length_replicate]; exact hjM
      have hBr2 := hBz.trans (HB12.out.mono hBz.size)
      have hBr3 : Below w.heap.size w wr := hBr2.trans (HBR.out.mono hBr2.size)
      have hbr4 : Below wb.heap.size wb wr := HB12.out.trans (HBR.out.mono HB12.out.size)
      have HLC := Lib.hid (HLA.out wr.heap.size (.slice A (un + j) c) (cl ++ List.replicate j (List.replicate n 0)) hll (fun i hi => by
        rcases Nat.lt_or_ge i un with h | h
        · rw [List.getElem?_append_left (by rw [HCL.out]; exact h)]
          exact HCC.out i h
        · rw [List.getElem?_append_right (by rw [HCL.out]; exact h), HCL.out, List.getElem?_replicate, if_pos (by omega)]
          exact HNC.out i h) wr (hL.next hBr3) (Nat.le_refl _) (manyR_iff.1 (RowM.many HR.out fun q hq _ => hq)))
      have bz2 := bz.below hbr4 bz.lt
      have c0 := bz2.cell 0
      have c1 := bz2.cell 1
      simp only [List.getElem?_toArray, List.getElem?_cons_zero, List.getElem?_cons_succ] at c0 c1
      clear HR hll hjM
      go_wp2_with (go_at_call 102; refine HLC.out.mono ?_; rintro e w5 ⟨u, rfl, hu, hB5⟩; obtain ⟨uA2, uc2, rfl, _, _⟩ := id hu)
      go_ret
      exact ⟨.slice uA2 fl.length uc2, rfl, hu, below_in hBr3 hB5⟩
theorem enter_fill1 : ∀ args W, (callFunc 58 args).run Tryz.prog W = .ok (.enter 58 args) W := enters_of Tryz.func58 (by kernel_rfl) rfl
set_option maxRecDepth 100000 in
set_option maxHeartbeats 2000000 in
theorem fill_yes (k p : Int) (v : Value) (b : List UInt8) (n : Int) (hok : FillOk k p b n) (w : World) (hL : Laid w) (hb : Bytes w.heap.size w v b) :
    Calls Tryz.prog 24 #[.agg #[.int .i64 k, .int .i64 p], v, .int .i64 n] w fun e w' => ∃ A m c, e = .returned (.tuple #[.slice A m c, .int .i64 0]) ∧ sepC.R (fun b => w.heap.size ≤ b ∧ b < w'.heap.size) w' (.slice A m c) (wholeL k p (fillL (datN k p) (p - 1).toNat n.toNat b)) ∧ Below w.heap.size w w' := by
  obtain ⟨Av, capv, rfl, _, _⟩ := id hb
  obtain ⟨m, rfl⟩ : ∃ m : Nat, n = (m : Int) := ⟨n.toNat, by have := hok.2.1; omega⟩
  rw [Int.toNat_natCast]
  obtain ⟨W2, hW2⟩ : ∃ W2, (((w).alloc (.cells #[.int .i64 k, .int .i64 p] 24)).alloc (.cells #[.slice Av b.length capv] 32)).alloc (.cells #[.int .i64 (m : Int)] 3) = W2 := ⟨_, rfl⟩
  have hBW : Below w.heap.size w W2 := by rw [← hW2]; exact (below_two w _ _).alloc (by simp; omega) _
  have S2 : Hid (W2.heap.size = w.heap.size + 3) := by unfold Hid; rw [← hW2]; simp
  have b0 : Blk W2 (w.heap.size) 24 #[.int .i64 k, .int .i64 p] := by rw [← hW2]; exact ((Blk.new (w) 24 #[.int .i64 k, .int .i64 p]).alloc (.cells #[.slice Av b.length capv] 32)).alloc (.cells #[.int .i64 (m : Int)] 3)
  have b1 : Blk W2 (w.heap.size + 1) 32 #[.slice Av b.length capv] := by rw [← hW2]; exact (Blk.at_size (Blk.new ((w).alloc (.cells #[.int .i64 k, .int .i64 p] 24)) 32 #[.slice Av b.length capv]) (by simp)).alloc (.cells #[.int .i64 (m : Int)] 3)
  have b2 : Blk W2 (w.heap.size + 2) 3 #[.int .i64 (m : Int)] := by rw [← hW2]; exact Blk.at_size (Blk.new (((w).alloc (.cells #[.int .i64 k, .int .i64 p] 24)).alloc (.cells #[.slice Av b.length capv] 32)) 3 #[.int .i64 (m : Int)]) (by simp)
  have hL2 := hL.next hBW
  have hR := hok.1
  obtain ⟨hDN, hd2, hd17⟩ := datN_eq hR
  obtain ⟨p1, p2, s1, s2', m1, m2⟩ := hR.und
  have hdk : DataK k p (fillL (datN k p) (p - 1).toNat m b) := ⟨⟨hR, by rw [fill_len]; exact hDN.symm⟩, right_of hR.2 (by rw [fill_len]; omega) (fill_grid _ _ _ _) (by have := hok.2.1; omega)⟩
  have HFC := Lib.hid (fun (W : World) (hLW : Laid W) (hbW : Bytes W.heap.size W (.slice Av b.length capv) b) => filled_yes k p (.slice Av b.length capv) b m hok W hLW hbW)
  generalize fillL (datN k p) (p - 1).toNat m b = fl at *
  have HA := Lib.hid (ans_S_yes 58 #[.pointer (some ⟨w.heap.size, 0, none⟩), .pointer (some ⟨w.heap.size + 1, 0, none⟩), .pointer (some ⟨w.heap.size + 2, 0, none⟩)] W2 (fun u W => ∃ A n c, u = .slice A n c ∧ sepC.R (fun b => W2.heap.size < b ∧ b < W.heap.size) W u (wholeL k p fl)) (enter_fill1 _) (fun U hU bU => by
    have hLU := hL2.next hU
    have hBU := below_in hBW hU
    have hlt := bU.lt
    have hdl := data_len hdk
    have HFI := Lib.hid (fun (V : World) (hV : Below U.heap.size U V) => HFC.out V (hLU.next hV) (Bytes.more (hb.below ((hBU.trans (hV.mono hBU.size)))) (Nat.le_trans hBU.size hV.size)))
    have HQ := Lib.hid (fun (V V2 : World) (hV : Below U.heap.size U V) (hV2 : Below V.heap.size V V2) {A : Option Addr} {c : Nat} (hC : Cols V2.heap.size V2 (.slice A fl.length c) fl) => asked_yes (B := V2.heap.size) 44 k p (.slice A fl.length c) fl (by have h := many_data k p; rwa [← hdk.1.2] at h) hdk.1.1 V2 (hLU.next (below_in hV hV2)) (Nat.le_refl _) hC (by omega) hdk.2)
    have HW := Lib.hid (fun (V2 V3 : World) (hV : Below U.heap.size U V2) (hV3 : Below V2.heap.size V2 V3) {A : Option Addr} {n c : Nat} (hC : Cols V2.heap.size V2 (.slice A n c) fl) => whole_any (B := V2.heap.size) k p (.slice A n c) fl hdk V3 (hLU.next (below_in hV hV3)) hV3.size (hC.below hV3))
    have HSS : Hid (∀ V, Below U.heap.size U V → (fun U : World => U.cell? ⟨w.heap.size, 0, none⟩ = some (.int .i64 k) ∧ U.cell? ⟨w.heap.size, 1, none⟩ = some (.int .i64 p) ∧ U.cell? ⟨w.heap.size + 1, 0, none⟩ = some (.slice Av b.length capv) ∧ U.cell? ⟨w.heap.size + 2, 0, none⟩ = some (.int .i64 (m : Int))) V) := fun V hV => ⟨((b0.below hU b0.lt).below hV (b0.below hU b0.lt).lt).cell 0, ((b0.below hU b0.lt).below hV (b0.below hU b0.lt).lt).cell 1, ((b1.below hU b1.lt).below hV (b1.below hU b1.lt).lt).cell 0, ((b2.below hU b2.lt).below hV (b2.below hU b2.lt).lt).cell 0⟩
    clear hb b0 b1 b2 hW2 hL hL2 hLU HFC hok hdk hdl hR hDN
    generalize b.length = N at *
    refine (callsIn_wide (n := 9)).1 ?_
    refine callsIn_of_wp_marks Tryz.func58 rfl trivial ?_ rfl
    simp only [Tryz.ntmps58, List.size_toArray, List.length_cons, List.length_nil, Nat.reduceAdd, Nat.reduceSub, Array.replicate_succ, Array.replicate_zero, List.push_toArray, List.append_toArray, List.nil_append, List.cons_append]
    gi_wp2_with fail
    have hBx : Below U.heap.size U U.drew := (Below.refl _ _).drew
    have hS : (fun U : World => U.cell? ⟨w.heap.size, 0, none⟩ = some (.int .i64 k) ∧ U.cell? ⟨w.heap.size, 1, none⟩ = some (.int .i64 p) ∧ U.cell? ⟨w.heap.size + 1, 0, none⟩ = some (.slice Av N capv) ∧ U.cell? ⟨w.heap.size + 2, 0, none⟩ = some (.int .i64 (m : Int))) U.drew := HSS.out _ hBx
    refine wpIn_mono (region_HF (Q := NoPanic _) (S := (fun U : World => U.cell? ⟨w.heap.size, 0, none⟩ = some (.int .i64 k) ∧ U.cell? ⟨w.heap.size, 1, none⟩ = some (.int .i64 p) ∧ U.cell? ⟨w.heap.size + 1, 0, none⟩ = some (.slice Av N capv) ∧ U.cell? ⟨w.heap.size + 2, 0, none⟩ = some (.int .i64 (m : Int)))) (by kernel_rfl) ?_) NoPanic.imp
    refine anyHF_take (i := 0) (d := 4) (v := .agg #[.int .i64 k, .int .i64 p]) (by kernel_rfl) rfl (by kernel_rfl) (by kernel_rfl) (by kernel_rfl) rfl (fun _ _ _ h => h) ⟨Or.inl ⟨by rfl, fun w hS => by obtain ⟨h0, h1, h2, h3⟩ := hS; go_simp⟩, fun _ => rfl⟩ hS ?_
    simp only [List.setIfInBounds_toArray, List.set_cons_zero, List.set_cons_succ]
    refine anyHF_take (i := 1) (d := 5) (v := .agg #[.int .i64 k, .int .i64 p]) (by kernel_rfl) rfl (by kernel_rfl) (by kernel_rfl) (by kernel_rfl) rfl (fun _ _ _ h => h) ⟨Or.inl ⟨by rfl, fun w hS => by obtain ⟨h0, h1, h2, h3⟩ := hS; go_simp⟩, fun _ => rfl⟩ hS ?_
    simp only [List.setIfInBounds_toArray, List.set_cons_zero, List.set_cons_succ]
    refine anyHF_take (i := 2) (d := 6) (v := .slice Av N capv) (by kernel_rfl) rfl (by kernel_rfl) (by kernel_rfl) (by kernel_rfl) rfl (fun _ _ _ h => h) ⟨Or.inl ⟨by rfl, fun w hS => by obtain ⟨h0, h1, h2, h3⟩ := hS; go_simp⟩, fun _ => rfl⟩ hS ?_
    simp only [List.setIfInBounds_toArray, List.set_cons_zero, List.set_cons_succ]
    refine anyHF_take (i := 3) (d := 7) (v := .int .i64 (m : Int)) (by kernel_rfl) rfl (by kernel_rfl) (by kernel_rfl) (by kernel_rfl) rfl (fun _ _ _ h => h) ⟨Or.inl ⟨by rfl, fun w hS => by obtain ⟨h0, h1, h2, h3⟩ := hS; go_simp⟩, fun _ => rfl⟩ hS ?_
    simp only [List.setIfInBounds_toArray, List.set_cons_zero, List.set_cons_succ]
    refine anyHF_one (i := 4) (by kernel_rfl) rfl (by kernel_rfl) (by rfl) ?_
    gi_wp2_with fail
    refine ⟨trivial, (callsIn_wide.2 (HFI.out _ hBx)).mono ?_⟩
    rintro e wn ⟨u, rfl, hu, hB1⟩
    obtain ⟨uA, uc, rfl, _, _⟩ := id hu
    have hq := HQ.out _ _ hBx hB1 hu
    have hcu := hu
    generalize fl.length = un at *
    replace hBx := below_in hBx hB1
    clear hS
    have hS : (fun U : World => U.cell? ⟨w.heap.size, 0, none⟩ = some (.int .i64 k) ∧ U.cell? ⟨w.heap.size, 1, none⟩ = some (.int .i64 p) ∧ U.cell? ⟨w.heap.size + 1, 0, none⟩ = some (.slice Av N capv) ∧ U.cell? ⟨w.heap.size + 2, 0, none⟩ = some (.int .i64 (m : Int))) wn := HSS.out _ hBx
    gi_wp2
    try (refine ⟨hS, ?_⟩)
    refine anyHF_one (i := 5) (by kernel_rfl) rfl (by kernel_rfl) (by rfl) ?_
    gi_wp2_with fail
    refine ⟨trivial, (callsIn_wide.2 (hq)).mono ?_⟩
    rintro e wq ⟨rfl, hB2⟩
    have hw := HW.out _ _ hBx hB2 hcu
    replace hBx := below_in hBx hB2
    clear hS
    have hS : (fun U : World => U.cell? ⟨w.heap.size, 0, none⟩ = some (.int .i64 k) ∧ U.cell? ⟨w.heap.size, 1, none⟩ = some (.int .i64 p) ∧ U.cell? ⟨w.heap.size + 1, 0, none⟩ = some (.slice Av N capv) ∧ U.cell? ⟨w.heap.size + 2, 0, none⟩ = some (.int .i64 (m : Int))) wq := HSS.out _ hBx
    gi_wp2
    try (refine ⟨hS, ?_⟩)
    refine anyHF_one (i := 6) (by kernel_rfl) rfl (by kernel_rfl) (by rfl) ?_
    gi_wp2_with fail
    refine ⟨trivial, (callsIn_wide.2 (hw)).mono ?_⟩
    rintro e wv ⟨A2, n2, c2, rfl, hs, hB3⟩
    have hBs := hBx.size
    replace hBx := below_in hBx hB3
    clear hS
    have hS : (fun U : World => U.cell? ⟨w.heap.size, 0, none⟩ = some (.int .i64 k) ∧ U.cell? ⟨w.heap.size, 1, none⟩ = some (.int .i64 p) ∧ U.cell? ⟨w.heap.size + 1, 0, none⟩ = some (.slice Av N capv) ∧ U.cell? ⟨w.heap.size + 2, 0, none⟩ = some (.int .i64 (m : Int))) wv := HSS.out _ hBx
    gi_wp2
    try (refine ⟨hS, ?_⟩)
    refine anyHF_one (i := 7) (by kernel_rfl) rfl (by kernel_rfl) (by rfl) ?_
    gi_wp2
    refine anyHF_done (by kernel_rfl) ?_ _
    refine NoPanic.normal ?_
    gi_wp2
    exact ⟨.slice A2 n2 c2, by simp [results, Tryz.results58, go_sem], .slice A2 n2 c2, rfl, ⟨A2, n2, c2, rfl, sepC.imp hs fun q hq => ⟨by have h1 := hq.1; omega, hq.2⟩⟩, hBx⟩))
  clear hb b0 b1 b2 hL2 HFC hok hdk hR hDN
  generalize b.length = N at *
  go_enter Tryz.func24, Tryz.ntmps24
  have hmf : ∀ (fn : Fn) (first cap : Array Value) (w : World), (Instr.makeFunc fn first cap).run Tryz.prog w = .ok (.func fn first cap) w := fun _ _ _ _ => rfl
  go_wp2_with (go_at_call 41; refine HA.out.mono ?_; rintro e w1 ⟨u, W, rfl, ⟨A2, n2, c2, rfl, hu⟩, bE, rfl, hB1⟩)
  go_ret2
  have s2 := S2.out
  refine ⟨A2, n2, c2, rfl, sepC.imp (sep_set hu fun b hb => by omega) fun b hb => ⟨by omega, by simpa using hb.2⟩, below_in hBW hB1⟩
end Go.Proofs.YtcahoigdoohjaaaGreatDoor.Cd

namespace Go.Proofs.YtcahoigdoohjaaaGreatDoor
open Go.RowKit Go.Shelf
set_option linter.unusedSimpArgs false
set_option linter.unusedVariables false
attribute [local go_sem] Oper.semAt_some

set_option maxRecDepth 100000 in
set_option maxHeartbeats 1000000 in
theorem touched_any (k p d c x y : Int) (hR : RightC k p) (hd : d = p - shortN k) (hc : c = p - shortN k + madeN k) (w : World) (hL : Laid w) :
    Calls Tryz.prog 152 #[.agg #[.int .i64 k, .int .i64 p, .int .i64 d, .int .i64 c], .agg #[.int .i64 x, .int .i64 y]] w fun e w' => ∃ u, e = .returned u ∧ OwnP w' w.heap.size u (havL k p x y ++ havL k p d y) ∧ Below w.heap.size w w' := by
  have hl : ∀ x y, (havL k p x y).length ≤ 1000 := fun x y => by
    have h1 := List.length_filter_le (fun m : Int × Int => memB k p m.1 m.2 x y) (flatC p (spanL (p - shortN k) (p - shortN k + madeN k)))
    have h2 := flatC_len p hR.2 (spanL (p - shortN k) (p - shortN k + madeN k))
    rw [spanL_len] at h2
    have := hR.und.m2
    unfold havL
    omega
  have HH := Lib.hid (fun x y W hL => having_any k p d c x y hR hd hc W hL)
  have e : ∀ x y, (flatC p (spanL d c)).filter (fun m => memB k p m.1 m.2 x y) = havL k p x y := fun x y => by rw [hd, hc]; rfl
  simp only [e] at HH
  clear hd hc hR e
  have hl1 := hl x y
  have hl2 := hl d y
  clear hl
  have e1 := HH.out x y
  have e2 := HH.out d y
  clear HH
  have H1 := Lib.hid e1
  have H2 := Lib.hid e2
  clear e1 e2
  generalize havL k p x y = l1 at *
  generalize havL k p d y = l2 at *
  obtain ⟨W0, hW0⟩ : ∃ W0, (w.alloc (.cells #[.int .i64 k, .int .i64 p, .int .i64 d, .int .i64 c] 192)).alloc (.cells #[.int .i64 x, .int .i64 y] 214) = W0 := ⟨_, rfl⟩
  have b0 : Blk W0 w.heap.size 192 #[.int .i64 k, .int .i64 p, .int .i64 d, .int .i64 c] := by rw [← hW0]; exact (Blk.new w _ _).alloc _
  have b1 : Blk W0 (w.heap.size + 1) 214 #[.int .i64 x, .int .i64 y] := by rw [← hW0]; exact Blk.second w _ _ _
  have hB : Below w.heap.size w W0 := by rw [← hW0]; exact below_two w _ _
  have hL0 := hL.next hB
  have hs0 := hB.size
  have hs2 : W0.heap.size = w.heap.size + 2 := by rw [← hW0]; simp
  refine (callsIn_wide (n := 12)).1 ?_
  refine callsIn_of_wp_marks Tryz.func152 rfl trivial ?_ rfl
  simp only [Tryz.ntmps152, List.size_toArray, List.length_cons, List.length_nil, Nat.reduceAdd, Nat.reduceSub, Array.replicate_succ, Array.replicate_zero, List.push_toArray, List.append_toArray, List.nil_append, List.cons_append]
  have c0 := b0.cell 0; have c1 := b0.cell 1; have c2 := b0.cell 2; have c3 := b0.cell 3; have a0 := b1.cell 0; have a1 := b1.cell 1; simp only [List.getElem?_toArray, List.getElem?_cons_zero, List.getElem?_cons_succ] at c0 c1 c2 c3 a0 a1
  gi_wp2_with fail
  clear hW0
  have hS : (fun V : World => V.cell? ⟨w.heap.size, 0, none⟩ = some (.int .i64 k) ∧ V.cell? ⟨w.heap.size, 1, none⟩ = some (.int .i64 p) ∧ V.cell? ⟨w.heap.size, 2, none⟩ = some (.int .i64 d) ∧ V.cell? ⟨w.heap.size, 3, none⟩ = some (.int .i64 c) ∧ V.cell? ⟨w.heap.size + 1, 0, none⟩ = some (.int .i64 x) ∧ V.cell? ⟨w.heap.size + 1, 1, none⟩ = some (.int .i64 y)) W0.drew := ⟨c0, c1, c2, c3, a0, a1⟩
  refine wpIn_mono (region_HF (Q := NoPanic _) (S := (fun V : World => V.cell? ⟨w.heap.size, 0, none⟩ = some (.int .i64 k) ∧ V.cell? ⟨w.heap.size, 1, none⟩ = some (.int .i64 p) ∧ V.cell? ⟨w.heap.size, 2, none⟩ = some (.int .i64 d) ∧ V.cell? ⟨w.heap.size, 3, none⟩ = some (.int .i64 c) ∧ V.cell? ⟨w.heap.size + 1, 0, none⟩ = some (.int .i64 x) ∧ V.cell? ⟨w.heap.size + 1, 1, none⟩ = some (.int .i64 y))) (by kernel_rfl) ?_) NoPanic.imp
  refine anyHF_take (i := 0) (d := 5) (v := (.agg #[.int .i64 k, .int .i64 p, .int .i64 d, .int .i64 c])) (by kernel_rfl) rfl (by kernel_rfl) (by kernel_rfl) (by kernel_rfl) rfl (fun _ _ _ h => h) ⟨Or.inl ⟨by rfl, fun w hS => by obtain ⟨h0, h1, h2, h3, h4, h5⟩ := hS; go_simp⟩, fun _ => rfl⟩ hS ?_
  simp only [List.setIfInBounds_toArray, List.set_cons_zero, List.set_cons_succ]
  refine anyHF_take (i := 1) (d := 6) (v := .agg #[.int .i64 x, .int .i64 y]) (by kernel_rfl) rfl (by kernel_rfl) (by kernel_rfl) (by kernel_rfl) rfl (fun _ _ _ h => h) ⟨Or.inl ⟨by rfl, fun w hS => by obtain ⟨h0, h1, h2, h3, h4, h5⟩ := hS; go_simp⟩, fun _ => rfl⟩ hS ?_
  simp only [List.setIfInBounds_toArray, List.set_cons_zero, List.set_cons_succ]
  refine anyHF_take (i := 3) (d := 8) (v := (.agg #[.int .i64 k, .int .i64 p, .int .i64 d, .int .i64 c])) (by kernel_rfl) rfl (by kernel_rfl) (by kernel_rfl) (by kernel_rfl) rfl (fun _ _ _ h => h) ⟨Or.inl ⟨by rfl, fun w hS => by obtain ⟨h0, h1, h2, h3, h4, h5⟩ := hS; go_simp⟩, fun _ => rfl⟩ hS ?_
  simp only [List.setIfInBounds_toArray, List.set_cons_zero, List.set_cons_succ]
  refine anyHF_take (i := 4) (d := 9) (v := .pointer (some ⟨w.heap.size, 2, none⟩)) (by kernel_rfl) rfl (by kernel_rfl) (by kernel_rfl) (by kernel_rfl) rfl (fun _ _ _ h => h) ⟨Or.inl ⟨by rfl, fun w hS => by obtain ⟨h0, h1, h2, h3, h4, h5⟩ := hS; go_simp⟩, fun _ => rfl⟩ hS ?_
  simp only [List.setIfInBounds_toArray, List.set_cons_zero, List.set_cons_succ]
  refine anyHF_take (i := 5) (d := 10) (v := .int .i64 d) (by kernel_rfl) rfl (by kernel_rfl) (by kernel_rfl) (by kernel_rfl) rfl (fun _ _ _ h => h) ⟨Or.inl ⟨by rfl, fun w hS => by obtain ⟨h0, h1, h2, h3, h4, h5⟩ := hS; go_simp⟩, fun _ => rfl⟩ hS ?_
  simp only [List.setIfInBounds_toArray, List.set_cons_zero, List.set_cons_succ]
  refine anyHF_take (i := 6) (d := 11) (v := .pointer (some ⟨w.heap.size + 1, 1, none⟩)) (by kernel_rfl) rfl (by kernel_rfl) (by kernel_rfl) (by kernel_rfl) rfl (fun _ _ _ h => h) ⟨Or.inl ⟨by rfl, fun w hS => by obtain ⟨h0, h1, h2, h3, h4, h5⟩ := hS; go_simp⟩, fun _ => rfl⟩ hS ?_
  simp only [List.setIfInBounds_toArray, List.set_cons_zero, List.set_cons_succ]
  refine anyHF_take (i := 7) (d := 12) (v := .int .i64 y) (by kernel_rfl) rfl (by kernel_rfl) (by kernel_rfl) (by kernel_rfl) rfl (fun _ _ _ h => h) ⟨Or.inl ⟨by rfl, fun w hS => by obtain ⟨h0, h1, h2, h3, h4, h5⟩ := hS; go_simp⟩, fun _ => rfl⟩ hS ?_
  simp only [List.setIfInBounds_toArray, List.set_cons_zero, List.set_cons_succ]
  refine anyHF_take (i := 8) (d := 13) (v := .agg #[.int .i64 d, .int .i64 y]) (by kernel_rfl) rfl (by kernel_rfl) (by kernel_rfl) (by kernel_rfl) rfl (fun _ _ _ h => h) ⟨Or.inl ⟨by rfl, fun w hS => by obtain ⟨h0, h1, h2, h3, h4, h5⟩ := hS; go_simp⟩, fun _ => rfl⟩ hS ?_
  simp only [List.setIfInBounds_toArray, List.set_cons_zero, List.set_cons_succ]
  refine anyHF_one (i := 2) (by kernel_rfl) rfl (by kernel_rfl) (by rfl) ?_
  gi_wp2_with fail
  refine ⟨trivial, (callsIn_wide.2 (H1.out _ (Laid.drew hL0))).mono ?_⟩
  rintro e w1 ⟨u1, rfl, ho1, hB1⟩
  replace hB1 := below_undrew hB1
  have hq1 := hB1.size
  replace b0 := b0.below hB1 b0.lt; replace b1 := b1.below hB1 b1.lt; replace hB := below_in hB hB1; replace hL0 := hL0.next hB1
  have c0 := b0.cell 0; have c1 := b0.cell 1; have c2 := b0.cell 2; have c3 := b0.cell 3; have a0 := b1.cell 0; have a1 := b1.cell 1; simp only [List.getElem?_toArray, List.getElem?_cons_zero, List.getElem?_cons_succ] at c0 c1 c2 c3 a0 a1
  replace ho1 := ho1.less (base' := w.heap.size + 2) (by simp; rw [hs2]; exact Nat.le_refl _)
  clear hS
  gi_wp2
  refine anyHF_one (i := 9) (by kernel_rfl) rfl (by kernel_rfl) (by rfl) ?_
  gi_wp2_with fail
  refine ⟨trivial, (callsIn_wide.2 (H2.out _ hL0)).mono ?_⟩
  rintro e w2 ⟨u2, rfl, ho2, hB1⟩
  have hq2 := hB1.size
  replace b0 := b0.below hB1 b0.lt; replace b1 := b1.below hB1 b1.lt; replace hB := below_in hB hB1; replace hL0 := hL0.next hB1
  have c0 := b0.cell 0; have c1 := b0.cell 1; have c2 := b0.cell 2; have c3 := b0.cell 3; have a0 := b1.cell 0; have a1 := b1.cell 1; simp only [List.getElem?_toArray, List.getElem?_cons_zero, List.getElem?_cons_succ] at c0 c1 c2 c3 a0 a1
  replace ho1 := ho1.below hB1
  gi_wp2
  refine anyHF_one (i := 10) (by kernel_rfl) rfl (by kernel_rfl) (by rfl) ?_
  have hn0 : some w.heap.size ≠ u1.ownBlock := fun e => by have := ho1.own_le _ e.symm; omega
  have hn1 : some (w.heap.size + 1) ≠ u1.ownBlock := fun e => by have := ho1.own_le _ e.symm; omega
  refine opIn_places w2 _ _ rfl (w.heap.size + 2) u1 l1 rfl ho1 _ u2 l2 rfl ho2 hl1 hl2 (by omega) ?_
  intro v3 w3 ho3 hg3
  have hB3 : Below w.heap.size w w3 := hB.grown hg3 hB.size (fun r e => by have := ho1.own_le r e; omega)
  have b03 := b0.grown hg3 hn0
  have b13 := b1.grown hg3 hn1
  clear c0 c1 c2 c3 a0 a1
  have c0 := b03.cell 0; have c1 := b03.cell 1; have c2 := b03.cell 2; have c3 := b03.cell 3; have a0 := b13.cell 0; have a1 := b13.cell 1; simp only [List.getElem?_toArray, List.getElem?_cons_zero, List.getElem?_cons_succ] at c0 c1 c2 c3 a0 a1
  refine ⟨⟨c0, c1, c2, c3, a0, a1⟩, ?_⟩
  refine anyHF_one (i := 11) (by kernel_rfl) rfl (by kernel_rfl) (by rfl) ?_
  gi_wp2
  refine anyHF_done (by kernel_rfl) ?_ _
  refine NoPanic.normal ?_
  gi_wp2
  exact ⟨v3, by simp [results, Tryz.results152, go_sem], v3, rfl, ho3.less (by omega), hB3⟩
end Go.Proofs.YtcahoigdoohjaaaGreatDoor

namespace Go.Proofs.YtcahoigdoohjaaaGreatDoor
open Go.RowKit Go.Shelf
set_option linter.unusedSimpArgs false
set_option linter.unusedVariables false

theorem enter_isData : ∀ args W, (callFunc 151 args).run Tryz.prog W = .ok (.enter 151 args) W := enters_of Tryz.func151 (by kernel_rfl) rfl
theorem enter_touched : ∀ args W, (callFunc 152 args).run Tryz.prog W = .ok (.enter 152 args) W := enters_of Tryz.func152 (by kernel_rfl) rfl
theorem tou_len {k p x y : Int} (hR : RightC k p) : (touL k p x y).length ≤ 1000 := by
  obtain ⟨p1, p2, s1, s2, m1, m2⟩ := hR.und
  have h1 := List.length_filter_le (fun m : Int × Int => memB k p m.1 m.2 x y || memB k p m.1 m.2 (p - shortN k) y) (flatC p (spanL (p - shortN k) (p - shortN k + madeN k)))
  have h2 := flatC_len p hR.2 (spanL (p - shortN k) (p - shortN k + madeN k))
  rw [spanL_len] at h2
  unfold touL
  omega

def TouchedC (k p x y : Int) (w : World) (e : Ending) (w' : World) : Prop :=
  (¬ RightC k p → e = .returned (.tuple #[.slice none 0 0, .int .i64 2])) ∧
  (RightC k p → ¬ (HasCell k p x y ∧ x < p - shortN k) → e = .returned (.tuple #[.slice none 0 0, .int .i64 4])) ∧
  (RightC k p → HasCell k p x y → x < p - shortN k → ∃ u, e = .returned (.tuple #[u, .int .i64 0]) ∧ ReadP w'.heap.size w' u (touL k p x y)) ∧ Below w.heap.size w w'

theorem TouchedC.form {k p x y : Int} {w w' : World} {e : Ending} (h : TouchedC k p x y w e w') : ∃ (u : Value) (n : Int), e = .returned (.tuple #[u, .int .i64 n]) := by
  by_cases hR : RightC k p
  · by_cases hm : HasCell k p x y ∧ x < p - shortN k
    · obtain ⟨u, e, _⟩ := h.2.2.1 hR hm.1 hm.2
      exact ⟨u, 0, e⟩
    · exact ⟨_, 4, h.2.1 hR hm⟩
  · exact ⟨_, 2, h.1 hR⟩

set_option maxHeartbeats 1000000 in
theorem setsTouched_any (k p x y : Int) (w : World) (hL : Laid w) : Calls Tryz.prog 110 #[.agg #[.int .i64 k, .int .i64 p], .agg #[.int .i64 x, .int .i64 y]] w (TouchedC k p x y w) := by
  obtain ⟨W0, hW0⟩ : ∃ W0, (w.alloc (.cells #[.int .i64 k, .int .i64 p] 24)).alloc (.cells #[.int .i64 x, .int .i64 y] 57) = W0 := ⟨_, rfl⟩
  have b0 : Blk W0 w.heap.size 24 #[.int .i64 k, .int .i64 p] := by rw [← hW0]; exact (Blk.new w _ _).alloc _
  have b1 : Blk W0 (w.heap.size + 1) 57 #[.int .i64 x, .int .i64 y] := by rw [← hW0]; exact Blk.second w _ _ _
  have hB : Below w.heap.size w W0 := by rw [← hW0]; exact below_two w _ _
  have hL0 := hL.next hB
  have c0 := b0.cell 0
  have c1 := b0.cell 1
  have z0 := b1.cell 0
  have z1 := b1.cell 1
  simp only [List.getElem?_toArray, List.getElem?_cons_zero, List.getElem?_cons_succ] at c0 c1 z0 z1
  have HM : Hid (Calls Tryz.prog 150 #[.agg #[.int .i64 k, .int .i64 p], .func (.func 151) #[] #[], .func (.func 152) #[] #[], .agg #[.int .i64 x, .int .i64 y]] W0 (TouchedC k p x y W0)) := by
    by_cases hR : RightC k p
    · have HI := fun (b : Bool) (hb : decide (HasCell k p x y ∧ x < p - shortN k) = b) W hL => (isData_any k p (p - shortN k) (p - shortN k + madeN k) x y hR W hL).mono fun e w' (h : e = .returned (.bool (decide (HasCell k p x y ∧ x < p - shortN k))) ∧ Below W.heap.size W w') => (by rw [hb] at h; exact h : e = .returned (.bool b) ∧ Below W.heap.size W w')
      by_cases hm : HasCell k p x y ∧ x < p - shortN k
      · have hx : 0 ≤ x ∧ x < p - shortN k := ⟨hm.1.1.1, hm.2⟩
        have hy : 0 ≤ y ∧ y < p - 1 := hm.1.2
        have hpm := tou_perm hR hx hy
        refine (answered_yes 151 152 enter_isData enter_touched k p x y hR (fun W hL => HI true (decide_eq_true hm) W hL) (havL k p x y ++ havL k p (p - shortN k) y) (by intro e; exact tou_ne hR hx hy (List.append_eq_nil_iff.1 e).1) (tou_nodup hR hx hy) (by rw [← hpm.length_eq]; exact tou_len hR) (fun W hL => touched_any k p _ _ x y hR rfl rfl W hL) W0 hL0).mono ?_
        rintro e w' ⟨u, s, rfl, hp, hst, hrd, hB1⟩
        rw [sorted_one (hp.trans hpm.symm) hst (touL_sorted _ _ _ _)] at hrd
        exact ⟨fun h => absurd hR h, fun _ h => absurd hm h, fun _ _ _ => ⟨u, rfl, hrd⟩, hB1⟩
      · exact (answered_out 151 152 enter_isData k p x y hR (fun W hL => HI false (decide_eq_false hm) W hL) W0 hL0).mono fun e w' ⟨h1, h2⟩ => ⟨fun h => absurd hR h, fun _ _ => h1, fun _ h3 h4 => absurd ⟨h3, h4⟩ hm, h2⟩
    · exact (answered_no 151 152 k p x y hR W0 hL0).mono fun e w' ⟨h1, h2⟩ => ⟨fun _ => h1, fun h => absurd h hR, fun h => absurd h hR, h2⟩
  go_enter Tryz.func110, Tryz.ntmps110
  go_wp2_with fail
  clear hW0
  refine HM.out.mono ?_
  rintro e w1 hM
  obtain ⟨u, n, rfl⟩ := hM.form
  have hB1 := below_in hB hM.2.2.2
  have HH := Lib.hid hM
  clear hM
  go_wp2
  go_ret2
  exact ⟨HH.out.1, HH.out.2.1, HH.out.2.2.1, hB1⟩
end Go.Proofs.YtcahoigdoohjaaaGreatDoor

