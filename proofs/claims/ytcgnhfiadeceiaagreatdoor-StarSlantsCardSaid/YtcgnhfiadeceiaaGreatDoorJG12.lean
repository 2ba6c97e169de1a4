/- The document's Encode: all columns of a code. RDP: giving up, what is answered; columns under way. RDP: a cell; cells at places, put upon one another. STAR: the sums of all slants, and what holds them. STAR: what goes over the slants. -/
import Derived.Test.YtcgnhfiadeceiaaGreatDoorJG11
import Derived.Test.YtcgnhfiadeceiaaGreatDoorJG6
import Derived.Test.YtcgnhfiadeceiaaGreatDoorJG8
import Derived.Test.YtcgnhfiadeceiaaGreatDoorJG2
namespace Go.Proofs.YtcgnhfiadeceiaaGreatDoor.E
open Go.RowKit Go.Shelf Go.Proofs.YtcgnhfiadeceiaaGreatDoor.C
set_option linter.unusedSimpArgs false
set_option linter.unusedVariables false

theorem colL_next (k p : Int) (n : Nat) (css : List (List (List UInt8))) (col : Int) {r : Nat} (hr : r < (p - 1).toNat) : (colL k p n css col).take (r + 1) = (colL k p n css col).take r ++ [uponL n css (memL k p col (r : Int))] := by
  unfold colL
  rw [map_next _ 0 _ (by rw [List.length_range]; exact hr), List.getElem?_range hr]
  rfl
/-- The members of a cell that is made are cells ahead of it. -/
theorem memL_in {k p : Int} (hR : RightC k p) {col row : Int} {R N : Nat} (hRR : p - 1 = (R : Int)) (hN : col ≤ (N : Int)) : inL R N (memL k p col row) := by
  intro z hz
  unfold memL at hz
  have h1 := flatC_mem' (List.mem_filter.1 hz).1
  have h2 := spanL_mem h1.1
  omega
set_option maxRecDepth 100000 in
set_option maxHeartbeats 4000000 in
theorem encode6_any {B : Nat} (k p : Int) (hR : RightC k p) (v1 : Value) (css : List (List (List UInt8))) (n : Nat) (w : World) (hB : B ≤ w.heap.size) (hC : Cols B w v1 css) (hlen : (css.length : Int) = p - shortN k) (hG : Grid (p - 1).toNat n css) (hn : n ≤ 1000) :
    Calls Tryz.prog 16 #[.agg #[.int .i64 k, .int .i64 p], v1] w fun e w' => ∃ u, e = .returned u ∧ Cols w'.heap.size w' u (stepsL k p n css (madeN k).toNat) ∧ Below w.heap.size w w' := by
  obtain ⟨p1, p2, s1, s2, m1, m2⟩ := hR.und
  obtain ⟨b1, off1, cap, rfl, hcap, hb1, hrow0⟩ := hC.at_ (by omega)
  obtain ⟨R, hRR⟩ : ∃ R : Nat, p - 1 = (R : Int) := ⟨(p - 1).toNat, by omega⟩
  obtain ⟨M, hM⟩ : ∃ M : Nat, madeN k = (M : Int) := ⟨(madeN k).toNat, by omega⟩
  have hRt : (p - 1).toNat = R := by omega
  have hMt : (madeN k).toNat = M := by omega
  rw [hRt] at hG
  rw [hMt]
  have HCo := Lib.hid (fun W => refCols_any k p hR W)
  have HDa := Lib.hid (fun W => refData_any k p hR W)
  have HRw := Lib.hid (fun W => refRows_any k p hR W)
  have hcd : p - shortN k + madeN k = ((css.length + M : Nat) : Int) := by omega
  rw [hcd] at HCo
  rw [← hlen] at HDa
  rw [hRR] at HRw
  have HMB := Lib.hid (fun (m r : Nat) (hm : m < M) (hr : r < R) (W : World) => refMembers_any k p ((css.length + m : Nat) : Int) (r : Int) hR ⟨by omega, by omega⟩ (by omega) W)
  have HMI := Lib.hid (fun (m r : Nat) => (memL_in hR hRR (Int.le_refl _) : inL R (css.length + m) (memL k p ((css.length + m : Nat) : Int) (r : Int))))
  have HMLN := Lib.hid (fun (m r : Nat) (hm : m < M) (hr : r < R) => (memL_len (k := k) (p := p) (mx := ((css.length + m : Nat) : Int)) (my := (r : Int)) hR ⟨by omega, by omega⟩))
  have HGR := Lib.hid (fun m => hG.steps (k := k) (p := p) hRt.symm m)
  have HSL := Lib.hid (fun m => stepsL_len k p n css m)
  have HSN : Hid (∀ m, stepsL k p n css (m + 1) = stepsL k p n css m ++ [colL k p n (stepsL k p n css m) ((css.length + m : Nat) : Int)]) := fun m => by
    show _ ++ [colL k p n _ ((css.length : Int) + (m : Int))] = _
    rw [Int.natCast_add]
  have HCN : Hid (∀ (m r : Nat), r < R → (colL k p n (stepsL k p n css m) ((css.length + m : Nat) : Int)).take (r + 1) = (colL k p n (stepsL k p n css m) ((css.length + m : Nat) : Int)).take r ++ [uponL n (stepsL k p n css m) (memL k p ((css.length + m : Nat) : Int) (r : Int))]) := fun m r hr => colL_next k p n _ _ (by omega)
  have HCL := Lib.hid (fun m => (colL_len k p n (stepsL k p n css m) ((css.length + m : Nat) : Int)).trans hRt)
  have HUL := Lib.hid (fun m r => uponL_len n (stepsL k p n css m) (memL k p ((css.length + m : Nat) : Int) (r : Int)))
  have hR16 : R ≤ 16 := by omega
  have hR2 : 2 ≤ R := by omega
  have hM3 : M ≤ 3 := by omega
  have hn20 : css.length ≤ 17 := by omega
  have hn1 : 1 ≤ css.length := by omega
  -- the first cell
  obtain ⟨u1, hc1, hm1⟩ := hrow0 0 (by omega)
  obtain ⟨hcr, hce⟩ := hG 0 (by omega)
  obtain ⟨A3, cap3, rfl, _, _⟩ := id hm1
  obtain ⟨b2, off3, rfl, hb2, hrow3⟩ := many_at hm1 (by omega)
  obtain ⟨Aa, ca, hc3, _⟩ := hrow3 0 (by omega)
  rw [hcr, Nat.add_zero] at hc1
  rw [hce 0 (by omega), Nat.add_zero] at hc3
  have HROW := Lib.hid hrow0
  have HCC := Lib.hid hC
  have HG0 := Lib.hid (fun j hj => (hG j hj).1)
  have b0 := Blk.new w 37 #[.int .i64 k, .int .i64 p]
  have hBW := below_one w (.cells #[.int .i64 k, .int .i64 p] 37)
  have HCI : Hid (∀ j, j < css.length → css.take (j + 1) = css.take j ++ [css[j]?.getD []]) := fun j hj => by rw [List.take_add_one, List.getElem?_eq_getElem hj]; rfl
  have HCE : Hid (css.take css.length = stepsL k p n css 0) := by unfold Hid; rw [List.take_length]; rfl
  have HSS := Lib.hid (fun (V : World) (hV : Below w.heap.size w V) (hb : Blk V w.heap.size 37 #[.int .i64 k, .int .i64 p]) => (⟨by have := hb.cell 0; simpa using this, by have := hb.cell 1; simpa using this, (hV.cell (p := ⟨b1, off1, none⟩) (Nat.lt_of_lt_of_le hb1 hB)).trans hc1, (hV.cell (p := ⟨b2, off3, none⟩) (Nat.lt_of_lt_of_le hb2 hB)).trans hc3⟩ : (fun V : World => V.cell? ⟨w.heap.size, 0, none⟩ = some (.int .i64 k) ∧ V.cell? ⟨w.heap.size, 1, none⟩ = some (.int .i64 p) ∧ V.cell? ⟨b1, off1, none⟩ = some (.slice (some ⟨b2, off3, none⟩) R cap3) ∧ V.cell? ⟨b2, off3, none⟩ = some (.slice Aa n ca)) V))
  clear hm1 hrow3 hcr hce hc1 hc3 hrow0 hC hG hcd hlen hRR hRt hM hMt hR p1 p2 s1 s2 m1 m2
  generalize hn0 : css.length = n0 at *
  clear hn0
  go_enter Tryz.func16, Tryz.ntmps16
  go_wp2_with fail
  go_loopw [5, 6] (fun v i wr => ∃ m : Nat, m ≤ n0 ∧ i = .int .i64 m ∧ RowC (fun _ => True) wr (w.heap.size + 1) v (css.take m) ∧ Blk wr w.heap.size 37 #[.int .i64 k, .int .i64 p] ∧ Below w.heap.size w wr) (fun _ i _ => n0 - (intOf i).toNat)
  case atStart => exact ⟨0, Nat.zero_le _, rfl, RowG.nil _ _ _ _ _ _, b0, hBW⟩
  case round =>
    clear b0 hBW
    obtain ⟨m, hm, rfl, hrow, b0, hBr⟩ := hrel
    by_cases hlt : m < n0
    · have hdec : decide ((m : Int) < (n0 : Int)) = true := by simp; omega
      obtain ⟨u1, hc1, hm1⟩ := HROW.out m hlt
      obtain ⟨A4, cap4, rfl, _, _⟩ := id hm1
      have hc2 := (hBr.cell (p := ⟨b1, off1 + m, none⟩) (Nat.lt_of_lt_of_le hb1 hB)).trans hc1
      have hnx := HCI.out m hlt
      have hm2 : Many B wr _ _ := hm1.below (hBr.mono hB)
      have HVLE := Lib.hid (fun b e => RowG.own_le hrow b e)
      have hpl : (css.take m).length ≤ 100 := by rw [List.length_take]; omega
      clear hc1 hm1
      generalize css[m]?.getD [] = xs at *
      generalize css.take m = pre at *
      generalize xs.length = n7 at *
      have i1 : (0 : Int) ≤ (m : Int) := by omega
      have i2 : (m : Int) < (n0 : Int) := by omega
      have hcells : Below wr.heap.size wr (wr.alloc (.cells #[.slice A4 n7 cap4] 50)) := below_one wr _
      have hszr := hBr.size
      have HROWC := Lib.hid (RowG.below hrow hcells)
      have HBLK := Lib.hid (Blk.new wr 50 #[.slice A4 n7 cap4])
      have HCP : Hid (manyR.R (fun b => b < (wr.alloc (.cells #[.slice A4 n7 cap4] 50)).heap.size ∧ some b ≠ u5.ownBlock ∧ True) (wr.alloc (.cells #[.slice A4 n7 cap4] 50)) (.slice A4 n7 cap4) xs) :=
        SliceP.imp (hm2.below (hcells.mono (Nat.le_trans hB hszr))) fun b hb => ⟨by have hb' : b < B := hb; simp; omega, fun e => by have := HVLE.out b e.symm; have hb' : b < B := hb; omega, trivial⟩
      have hb5 : Blk (wr.alloc (.cells #[.slice A4 n7 cap4] 50)) w.heap.size 37 #[.int .i64 k, .int .i64 p] := b0.alloc _
      clear hrow hm2
      go_wp2_with (at_builtin; refine wpList_pushC (T := 33) _ rfl _ _ rfl Tryz.underlying33 pre rfl HROWC.out wr.heap.size 50 _ xs rfl HBLK.out HCP.out (by omega) (by simp; omega) ?_; intro v' w2 hrow4 hgrow hown)
      go_roundw
      case rel => exact ⟨m + 1, by omega, by go_num, by rw [hnx]; exact hrow4, hb5.grown hgrow (fun e => by have := HVLE.out _ e.symm; omega), below_grown (below_in hBr hcells) hgrow (by simp; omega) (fun g e => by have := HVLE.out g e; omega)⟩
      case measure => simp [intOf]; omega
    · obtain rfl : m = n0 := by omega
      have e1 : decide ((m : Int) < (m : Int)) = false := by simp
      rw [HCE.out] at hrow
      have c0 := b0.cell 0; have c1 := b0.cell 1; simp only [List.getElem?_toArray, List.getElem?_cons_zero, List.getElem?_cons_succ] at c0 c1
      go_wp2_with (go_at_call 40; refine (HDa.out _).mono ?_; rintro e w1 ⟨rfl, hB1⟩; replace hrow := RowG.below hrow hB1; replace b0 := b0.below hB1 b0.lt; replace hBr := below_in hBr hB1)
      clear c0 c1
      go_loopw [5, 7] (fun v i wr => ∃ j : Nat, j ≤ M ∧ i = .int .i64 ((m + j : Nat) : Int) ∧ RowC (fun _ => True) wr (w.heap.size + 1) v (stepsL k p n css j) ∧ Blk wr w.heap.size 37 #[.int .i64 k, .int .i64 p] ∧ Below w.heap.size w wr) (fun _ i _ => m + M - (intOf i).toNat)
      case atStart => exact ⟨0, Nat.zero_le _, rfl, hrow, b0, hBr⟩
      case round =>
        clear b0 hBr hrow
        obtain ⟨j, hj, rfl, hrow, b0, hBr⟩ := hrel
        have c0 := b0.cell 0; have c1 := b0.cell 1; simp only [List.getElem?_toArray, List.getElem?_cons_zero, List.getElem?_cons_succ] at c0 c1
        by_cases hlt : j < M
        · have HMEM := Lib.hid (fun (r : Nat) (hr : r < R) (W : World) => HMB.out j r hlt hr W)
          have HMIJ := Lib.hid (fun r => HMI.out j r)
          have HMLJ := Lib.hid (fun r hr => HMLN.out j r hlt hr)
          have HGJ := Lib.hid (HGR.out j)
          have HSJ := Lib.hid (HSL.out j)
          have HNX := Lib.hid (HSN.out j)
          have HNR := Lib.hid (fun r hr => HCN.out j r hr)
          have HLC := Lib.hid (HCL.out j)
          have HLU := Lib.hid (fun r => HUL.out j r)
          have hmj : m + j ≤ 20 := by omega
          have hpl : Hid ((stepsL k p n css j).length ≤ 100) := by unfold Hid; rw [HSL.out j]; omega
          clear HMB HGR HSL HSN HCN HCL HUL HCI HCE HROW HG0 HMI HMLN
          have hdec0 : ((m + j : Nat) : Int) < ((m + M : Nat) : Int) := by omega
          have hwr : wrap64 (((m + j : Nat) : Int) + 1) = ((m + (j + 1) : Nat) : Int) := by rw [IntWalk.wrap64_in _ (by omega)]; omega
          generalize hcol : ((m + j : Nat) : Int) = col at *
          generalize htot : ((m + M : Nat) : Int) = tot at *
          have hdec : decide (col < tot) = true := by simpa using hdec0
          have hcb1 : 0 ≤ col := by omega
          have hcb2 : col ≤ 100 := by omega
          have HCOL := Lib.hid hcol
          have HWR := Lib.hid hwr
          have HTOT := Lib.hid htot
          clear hcol hwr htot hdec0
          generalize hmade : colL k p n (stepsL k p n css j) col = made at *
          generalize hst : stepsL k p n css j = st at *
          clear hmade hst
          go_wp2_with (go_at_call 41; refine (HCo.out _).mono ?_; rintro e wq ⟨rfl, hB1⟩; replace hrow := RowG.below hrow hB1; replace b0 := b0.below hB1 b0.lt; replace hBr := below_in hBr hB1)
          clear c0 c1 hB1
          have hgl := b0.lt
          have HBL := Lib.hid b0
          have HUP := Lib.hid (fun (r : Nat) (hr : r < R) (V : World) (vm : Value) (hV : Below wq.heap.size wq V) (hm : ReadA V vm (memL k p col (r : Int))) => upon6_any (B := V.heap.size) u5 vm st _ R n V (Nat.le_refl _) (RowC.cols (RowG.below hrow hV)) hm HGJ.out (by rw [HSJ.out]; exact HMIJ.out r) hn (HMLJ.out r hr) (by rw [HSJ.out]; omega) (by omega))
          have HSS2 := Lib.hid (fun (V : World) (hV : Below wq.heap.size wq V) => HSS.out V (below_in hBr hV) (HBL.out.below hV hgl))
          have HVLT := Lib.hid (fun b e => RowG.own_lt hrow b e)
          have HVLE := Lib.hid (fun b e => RowG.own_le hrow b e)
          have HROWQ := Lib.hid hrow
          clear hrow
          go_wp2
          go_loopw [8, 9] (fun v2 i wr => ∃ r : Nat, r ≤ R ∧ i = .int .i64 r ∧ RowM (fun b => some b ≠ u5.ownBlock) wr wq.heap.size v2 (made.take r) ∧ Below wq.heap.size wq wr) (fun _ i _ => R - (intOf i).toNat)
          case atStart => exact ⟨0, Nat.zero_le _, rfl, RowG.nil _ _ _ _ _ _, Below.refl _ _⟩
          case round =>
            obtain ⟨r, hr, rfl, hrow2, hBs⟩ := hrel
            have b5 := HBL.out.below hBs hgl
            have c0 := b5.cell 0; have c1 := b5.cell 1; simp only [List.getElem?_toArray, List.getElem?_cons_zero, List.getElem?_cons_succ] at c0 c1
            by_cases hlt2 : r < R
            · have hdec2 : decide ((r : Int) < (R : Int)) = true := by simp; omega
              go_wp2_with (go_at_call 42; refine (HRw.out _).mono ?_; rintro e wr2 ⟨rfl, hB1⟩; replace hrow2 := RowG.below hrow2 hB1; replace hBs := below_in hBs hB1)
              have hS0 := HSS2.out _ hBs
              have hr16 : (made.take r).length ≤ 100 := by rw [List.length_take, HLC.out]; omega
              have HPL2 := Lib.hid hr16
              have HNX2 := Lib.hid (HNR.out r hlt2)
              have HLX : Hid ((uponL n st (memL k p col (r : Int))).length = n) := HLU.out r
              have HVLT2 := Lib.hid (fun b e => RowG.own_lt hrow2 b e)
              have HVLE2 := Lib.hid (fun b e => RowG.own_le hrow2 b e)
              have HMEMR := Lib.hid (fun W => HMEM.out r hlt2 W)
              have HUPR := Lib.hid (fun V vm hV hm => HUP.out r hlt2 V vm hV hm)
              have i5 : (0 : Int) ≤ (r : Int) := by omega
              have z1 : (0 : Int) < (m : Int) := by omega
              have z2 : (0 : Int) < (R : Int) := by omega
              have z3 : ¬ R = 0 := by omega
              have z4 : ¬ m = 0 := by omega
              clear hr16 c0 c1 b5
              generalize uponL n st (memL k p col (r : Int)) = xone at *
              generalize memL k p col (r : Int) = mem at *
              generalize made.take r = pre2 at *
              go_wp2_with fail
              have hS : (fun V : World => V.cell? ⟨w.heap.size, 0, none⟩ = some (.int .i64 k) ∧ V.cell? ⟨w.heap.size, 1, none⟩ = some (.int .i64 p) ∧ V.cell? ⟨b1, off1, none⟩ = some (.slice (some ⟨b2, off3, none⟩) R cap3) ∧ V.cell? ⟨b2, off3, none⟩ = some (.slice Aa n ca)) wr2.drew := HSS2.out _ hBs.drew
              refine (wpIn_wide (n := 12)).1 (wpIn_mono (region_HF (Q := NoPanic _) (S := (fun V : World => V.cell? ⟨w.heap.size, 0, none⟩ = some (.int .i64 k) ∧ V.cell? ⟨w.heap.size, 1, none⟩ = some (.int .i64 p) ∧ V.cell? ⟨b1, off1, none⟩ = some (.slice (some ⟨b2, off3, none⟩) R cap3) ∧ V.cell? ⟨b2, off3, none⟩ = some (.slice Aa n ca))) (by kernel_rfl) ?_) NoPanic.imp)
              refine anyHF_take (i := 0) (d := 37) (v := u8) (by kernel_rfl) rfl (by kernel_rfl) (by kernel_rfl) (by kernel_rfl) rfl (fun _ _ _ h => h) ⟨Or.inl ⟨by rfl, fun w hS => by obtain ⟨h0, h1, h2, h3⟩ := hS; go_simp⟩, fun _ => rfl⟩ hS ?_
              simp only [List.setIfInBounds_toArray, List.set_cons_zero, List.set_cons_succ]
              refine anyHF_take (i := 1) (d := 38) (v := u5) (by kernel_rfl) rfl (by kernel_rfl) (by kernel_rfl) (by kernel_rfl) rfl (fun _ _ _ h => h) ⟨Or.inl ⟨by rfl, fun w hS => by obtain ⟨h0, h1, h2, h3⟩ := hS; go_simp⟩, fun _ => rfl⟩ hS ?_
              simp only [List.setIfInBounds_toArray, List.set_cons_zero, List.set_cons_succ]
              refine anyHF_take (i := 2) (d := 39) (v := .agg #[.int .i64 k, .int .i64 p]) (by kernel_rfl) rfl (by kernel_rfl) (by kernel_rfl) (by kernel_rfl) rfl (fun _ _ _ h => h) ⟨Or.inl ⟨by rfl, fun w hS => by obtain ⟨h0, h1, h2, h3⟩ := hS; go_simp⟩, fun _ => rfl⟩ hS ?_
              simp only [List.setIfInBounds_toArray, List.set_cons_zero, List.set_cons_succ]
              refine anyHF_take (i := 3) (d := 40) (v := .int .i64 col) (by kernel_rfl) rfl (by kernel_rfl) (by kernel_rfl) (by kernel_rfl) rfl (fun _ _ _ h => h) ⟨Or.inl ⟨by rfl, fun w hS => by obtain ⟨h0, h1, h2, h3⟩ := hS; go_simp⟩, fun _ => rfl⟩ hS ?_
              simp only [List.setIfInBounds_toArray, List.set_cons_zero, List.set_cons_succ]
              refine anyHF_take (i := 4) (d := 41) (v := .int .i64 (r : Int)) (by kernel_rfl) rfl (by kernel_rfl) (by kernel_rfl) (by kernel_rfl) rfl (fun _ _ _ h => h) ⟨Or.inl ⟨by rfl, fun w hS => by obtain ⟨h0, h1, h2, h3⟩ := hS; go_simp⟩, fun _ => rfl⟩ hS ?_
              simp only [List.setIfInBounds_toArray, List.set_cons_zero, List.set_cons_succ]
              refine anyHF_take (i := 5) (d := 42) (v := .agg #[.int .i64 col, .int .i64 (r : Int)]) (by kernel_rfl) rfl (by kernel_rfl) (by kernel_rfl) (by kernel_rfl) rfl (fun _ _ _ h => h) ⟨Or.inl ⟨by rfl, fun w hS => by obtain ⟨h0, h1, h2, h3⟩ := hS; go_simp⟩, fun _ => rfl⟩ hS ?_
              simp only [List.setIfInBounds_toArray, List.set_cons_zero, List.set_cons_succ]
              refine anyHF_take (i := 7) (d := 44) (v := .slice (some ⟨b1, off1, none⟩) m cap) (by kernel_rfl) rfl (by kernel_rfl) (by kernel_rfl) (by kernel_rfl) rfl (fun _ _ _ h => h) ⟨Or.inl ⟨by rfl, fun w hS => by obtain ⟨h0, h1, h2, h3⟩ := hS; go_simp⟩, fun _ => rfl⟩ hS ?_
              simp only [List.setIfInBounds_toArray, List.set_cons_zero, List.set_cons_succ]
              refine anyHF_take (i := 8) (d := 45) (v := .pointer (some ⟨b1, off1, none⟩)) (by kernel_rfl) rfl (by kernel_rfl) (by kernel_rfl) (by kernel_rfl) rfl (fun _ _ _ h => h) ⟨Or.inl ⟨by rfl, fun w hS => by obtain ⟨h0, h1, h2, h3⟩ := hS; go_simp⟩, fun _ => rfl⟩ hS ?_
              simp only [List.setIfInBounds_toArray, List.set_cons_zero, List.set_cons_succ]
              refine anyHF_take (i := 9) (d := 46) (v := .slice (some ⟨b2, off3, none⟩) R cap3) (by kernel_rfl) rfl (by kernel_rfl) (by kernel_rfl) (by kernel_rfl) rfl (fun _ _ _ h => h) ⟨Or.inl ⟨by rfl, fun w hS => by obtain ⟨h0, h1, h2, h3⟩ := hS; go_simp⟩, fun _ => rfl⟩ hS ?_
              simp only [List.setIfInBounds_toArray, List.set_cons_zero, List.set_cons_succ]
              refine anyHF_take (i := 10) (d := 47) (v := .pointer (some ⟨b2, off3, none⟩)) (by kernel_rfl) rfl (by kernel_rfl) (by kernel_rfl) (by kernel_rfl) rfl (fun _ _ _ h => h) ⟨Or.inl ⟨by rfl, fun w hS => by obtain ⟨h0, h1, h2, h3⟩ := hS; go_simp⟩, fun _ => rfl⟩ hS ?_
              simp only [List.setIfInBounds_toArray, List.set_cons_zero, List.set_cons_succ]
              refine anyHF_take (i := 11) (d := 48) (v := .slice Aa n ca) (by kernel_rfl) rfl (by kernel_rfl) (by kernel_rfl) (by kernel_rfl) rfl (fun _ _ _ h => h) ⟨Or.inl ⟨by rfl, fun w hS => by obtain ⟨h0, h1, h2, h3⟩ := hS; go_simp⟩, fun _ => rfl⟩ hS ?_
              simp only [List.setIfInBounds_toArray, List.set_cons_zero, List.set_cons_succ]
              refine anyHF_take (i := 12) (d := 49) (v := .int .i64 (n : Int)) (by kernel_rfl) rfl (by kernel_rfl) (by kernel_rfl) (by kernel_rfl) rfl (fun _ _ _ h => h) ⟨Or.inl ⟨by rfl, fun w hS => by obtain ⟨h0, h1, h2, h3⟩ := hS; go_simp⟩, fun _ => rfl⟩ hS ?_
              simp only [List.setIfInBounds_toArray, List.set_cons_zero, List.set_cons_succ]
              refine anyHF_one (i := 6) (by kernel_rfl) rfl (by kernel_rfl) (by rfl) ?_
              gi_wp2_with fail
              refine ⟨trivial, (callsIn_wide.2 (HMEMR.out _)).mono ?_⟩
              rintro e wm ⟨vm, rfl, hmem, hBm⟩
              replace hBm := below_undrew hBm
              clear hS
              have hS : (fun V : World => V.cell? ⟨w.heap.size, 0, none⟩ = some (.int .i64 k) ∧ V.cell? ⟨w.heap.size, 1, none⟩ = some (.int .i64 p) ∧ V.cell? ⟨b1, off1, none⟩ = some (.slice (some ⟨b2, off3, none⟩) R cap3) ∧ V.cell? ⟨b2, off3, none⟩ = some (.slice Aa n ca)) wm := HSS2.out _ (below_in hBs hBm)
              gi_wp2
              try (refine ⟨hS, ?_⟩)
              refine anyHF_one (i := 13) (by kernel_rfl) rfl (by kernel_rfl) (by rfl) ?_
              gi_wp2_with fail
              refine ⟨trivial, (callsIn_wide.2 (HUPR.out _ vm (below_in hBs hBm) hmem.readA)).mono ?_⟩
              rintro e wn ⟨v', rfl, hfr, hBn⟩
              obtain ⟨Ax, cx, hxe, _, _⟩ := id hfr
              rw [HLX.out] at hxe
              subst hxe
              replace hfr := hfr.less hBm.size
              replace hBn := below_in hBm hBn
              clear hS
              have hS : (fun V : World => V.cell? ⟨w.heap.size, 0, none⟩ = some (.int .i64 k) ∧ V.cell? ⟨w.heap.size, 1, none⟩ = some (.int .i64 p) ∧ V.cell? ⟨b1, off1, none⟩ = some (.slice (some ⟨b2, off3, none⟩) R cap3) ∧ V.cell? ⟨b2, off3, none⟩ = some (.slice Aa n ca)) wn := HSS2.out _ (below_in hBs hBn)
              gi_wp2
              try (refine ⟨hS, ?_⟩)
              refine anyHF_one (i := 14) (by kernel_rfl) rfl (by kernel_rfl) (by rfl) ?_
              have hcells : Below wn.heap.size wn (wn.alloc (.cells #[.slice Ax n cx] 28)) := below_one wn _
              have hBc := below_in hBn hcells
              have HROWM := Lib.hid (RowG.below hrow2 hBc)
              have HBLK := Lib.hid (Blk.new wn 28 #[.slice Ax n cx])
              have hss := hBs.size
              have hbn := hBn.size
              have hcs := hcells.size
              have hwq := hBr.size
              have HBY : Hid (BytesP (fun b => b < (wn.alloc (.cells #[.slice Ax n cx] 28)).heap.size ∧ some b ≠ u8.ownBlock ∧ some b ≠ u5.ownBlock) (wn.alloc (.cells #[.slice Ax n cx] 28)) (.slice Ax n cx) xone) := by
                obtain ⟨A8, cp8, e8, h8, hA8⟩ := hfr.below hcells
                refine ⟨A8, cp8, by rw [HLX.out] at e8 ⊢; exact e8, h8, fun hp => ?_⟩
                obtain ⟨b, off, q1, q2, q3, q4⟩ := hA8 hp
                exact ⟨b, off, q1, ⟨q3, fun e => by have := HVLT2.out b e.symm; omega, fun e => by have := HVLT.out b e.symm; omega⟩, q4⟩
              clear hfr hS
              have hS : (fun V : World => V.cell? ⟨w.heap.size, 0, none⟩ = some (.int .i64 k) ∧ V.cell? ⟨w.heap.size, 1, none⟩ = some (.int .i64 p) ∧ V.cell? ⟨b1, off1, none⟩ = some (.slice (some ⟨b2, off3, none⟩) R cap3) ∧ V.cell? ⟨b2, off3, none⟩ = some (.slice Aa n ca)) (wn.alloc (.cells #[.slice Ax n cx] 28)) := HSS2.out _ (below_in hBs hBc)
              gi_wp2
              try (refine ⟨hS, ?_⟩)
              refine anyHF_one (i := 15) (by kernel_rfl) rfl (by kernel_rfl) (by rfl) ?_
              refine opIn_pushM (T := 50) (v := u8) _ (.tmp 37) (.tmp 51) rfl Tryz.underlying50 pre2 rfl HROWM.out wn.heap.size 28 _ xone rfl HBLK.out HBY.out (by have := HPL2.out; omega) (by omega) ?_
              intro v' w4 hrow4 hgrow4 hown4
              clear hS
              have hB4 : Below wq.heap.size wq w4 := below_grown (below_in hBs hBc) hgrow4 (by omega) (fun g e => HVLE2.out g e)
              have hS : (fun V : World => V.cell? ⟨w.heap.size, 0, none⟩ = some (.int .i64 k) ∧ V.cell? ⟨w.heap.size, 1, none⟩ = some (.int .i64 p) ∧ V.cell? ⟨b1, off1, none⟩ = some (.slice (some ⟨b2, off3, none⟩) R cap3) ∧ V.cell? ⟨b2, off3, none⟩ = some (.slice Aa n ca)) w4 := HSS2.out _ hB4
              gi_wp2_with fail
              try (refine ⟨hS, ?_⟩)
              refine anyHF_one (i := 16) (by kernel_rfl) rfl (by kernel_rfl) (by rfl) ?_
              gi_wp2
              refine anyHF_done (by kernel_rfl) ?_ _
              refine NoPanic.normal ?_
              clear hS
              gi_wp2_with fail
              go_wp2
              go_roundw
              case rel => exact ⟨r + 1, by omega, by go_num, by rw [HNX2.out]; exact hrow4, hB4⟩
              case measure => simp [intOf]; omega
            · obtain rfl : r = R := by omega
              have e1 : decide ((r : Int) < (r : Int)) = false := by simp
              have HTK : Hid (made.take r = made) := by unfold Hid; rw [List.take_of_length_le]; rw [HLC.out]; exact Nat.le_refl _
              rw [HTK.out] at hrow2
              obtain ⟨A7, cp7, hu7, _, _⟩ := id (RowM.many hrow2 (S := fun _ => True) (fun _ _ _ => trivial))
              subst hu7
              have HNX3 := Lib.hid HNX.out
              generalize made.length = n7 at *
              have HRC := Lib.hid (fun (V : World) (hV : Below wr.heap.size wr V) => RowG.below HROWQ.out (below_in (below_in hBs hV) (below_one V (.cells #[.slice A7 n7 cp7] 50))))
              have HBK := Lib.hid (fun V : World => Blk.new V 50 #[.slice A7 n7 cp7])
              have HMC := Lib.hid (fun (V : World) (hV : Below wr.heap.size wr V) => (RowM.many (RowG.below (RowG.below hrow2 hV) (below_one V (.cells #[.slice A7 n7 cp7] 50))) (fun b hb hq => ⟨hb, (by rcases hq with h | h; exact h; exact fun e => by have := HVLT.out b e.symm; omega), trivial⟩) : manyR.R (fun b => b < (V.alloc (.cells #[.slice A7 n7 cp7] 50)).heap.size ∧ some b ≠ u5.ownBlock ∧ True) (V.alloc (.cells #[.slice A7 n7 cp7] 50)) (.slice A7 n7 cp7) made))
              have HPL3 := Lib.hid (show st.length ≤ 100000 by have := hpl.out; omega)
              have HBS3 := Lib.hid (fun (V : World) (hV : Below wr.heap.size wr V) => (show w.heap.size + 1 ≤ (V.alloc (.cells #[.slice A7 n7 cp7] 50)).heap.size by have := hV.size; have := hBs.size; have := hBr.size; simp; omega))
              have HRL := Lib.hid (fun (V W : World) (v' : Value) (hV : Below wr.heap.size wr V) (hg : (V.alloc (.cells #[.slice A7 n7 cp7] 50)).grownBy W u5.ownBlock) => (⟨((HBL.out.below (below_in hBs hV) hgl).alloc _).grown hg (fun e => by have := HVLE.out _ e.symm; omega), below_grown (below_in hBr (below_in (below_in hBs hV) (below_one V _))) hg (by have := HBS3.out V hV; omega) (fun g e => by have := HVLE.out g e; omega)⟩ : Blk W w.heap.size 37 #[.int .i64 k, .int .i64 p] ∧ Below w.heap.size w W))
              have HMS : Hid (m + M - (col + 1).toNat < m + M - col.toNat) := by have h1 := HCOL.out; unfold Hid; clear HWR; omega
              have HW1 : Hid (col + 1 = ((m + (j + 1) : Nat) : Int)) := by have h2 := HCOL.out; unfold Hid; clear HWR; omega
              clear hrow2 hBs
              go_wp2_with (first
                | (go_at_call 42; refine (HRw.out _).mono ?_; rintro e wr2 ⟨rfl, hB1⟩)
                | (at_builtin; refine wpList_pushC (T := 33) _ rfl _ _ rfl Tryz.underlying33 st rfl (HRC.out _ hB1) wr2.heap.size 50 _ made rfl (HBK.out _) (HMC.out _ hB1) HPL3.out (HBS3.out _ hB1) ?_; intro v' w2 hrow4 hgrow hown))
              go_roundw
              case rel => exact ⟨j + 1, by omega, congrArg _ HW1.out, by rw [HNX3.out]; exact hrow4, HRL.out _ _ v' hB1 hgrow⟩
              case measure => exact HMS.out
        · obtain rfl : j = M := by omega
          have e1 : decide (((m + j : Nat) : Int) < ((m + j : Nat) : Int)) = false := by simp
          go_wp2_with (go_at_call 41; refine (HCo.out _).mono ?_; rintro e wq ⟨rfl, hB1⟩; replace hrow := RowG.below hrow hB1; replace hBr := below_in hBr hB1)
          go_ret
          exact ⟨_, rfl, RowC.cols hrow, hBr⟩
end Go.Proofs.YtcgnhfiadeceiaaGreatDoor.E

namespace Go.Proofs.YtcgnhfiadeceiaaGreatDoor.R
open Go.RowKit Go.Shelf Go.Proofs.YtcgnhfiadeceiaaGreatDoor.C Go.Proofs.YtcgnhfiadeceiaaGreatDoor.E
set_option linter.unusedSimpArgs false
set_option linter.unusedVariables false

/-- Cells at places, put upon one another. -/
theorem xorOf_uponL {n : Nat} {css : List (List (List UInt8))} {l : List (Int × Int)} (h0 : 0 < l.length) (h : ∀ z ∈ l, (cellI css z).length = n) : xorOf (l.map (cellI css)) = uponL n css l := by
  unfold xorOf uponL
  rw [first_len (by rw [List.length_map]; exact h0) (fun x hx => by
    obtain ⟨z, hz, rfl⟩ := List.mem_map.1 hx
    exact h z hz)]
end Go.Proofs.YtcgnhfiadeceiaaGreatDoor.R

namespace Go.Proofs.YtcgnhfiadeceiaaGreatDoor.T
open Go.RowKit Go.Shelf Go.Proofs.YtcgnhfiadeceiaaGreatDoor.C Go.Proofs.YtcgnhfiadeceiaaGreatDoor.E
set_option linter.unusedSimpArgs false
set_option linter.unusedVariables false

/-- Block hb holds the sums of all slants. -/
def Held (lo : Nat) (p : Int) (css : List (List (List UInt8))) (hb : Nat) (W : World) : Prop :=
  lo ≤ hb ∧ ∃ cs : List Value, Blk W hb 102 cs.toArray ∧ cs.length = 17 ∧ ∀ s : Nat, (s : Int) < p → BytesP (fun b => lo ≤ b ∧ b < W.heap.size ∧ b ≠ hb) W (slotV cs s) (slOf p css (s : Int))
theorem Held.lt {lo : Nat} {p : Int} {css : List (List (List UInt8))} {hb : Nat} {W : World} (h : Held lo p css hb W) : hb < W.heap.size := by
  obtain ⟨_, cs, h1, _⟩ := h
  exact h1.lt
theorem Held.keep {lo mm : Nat} {p : Int} {css : List (List (List UInt8))} {hb : Nat} {W W1 W' : World} (h : Held lo p css hb W) (hW : Below W.heap.size W W1) (hm : W.heap.size ≤ lo + mm) (hk : Keep lo mm W1 W') : Held lo p css hb W' := by
  obtain ⟨h0, cs, h1, h2, h3⟩ := h
  have hl := h1.lt
  have key : ∀ b, lo ≤ b → b < W.heap.size → W'.heap[b]? = W.heap[b]? := fun b q1 q2 => (hk.2 b q1 (by omega)).trans (hW.block b q2)
  exact ⟨h0, cs, (key hb h0 hl).trans h1, h2, fun s hs => BytesP.imp (BytesP.keep (h3 s hs) (fun b hb => key b hb.1 hb.2.1)) fun b hb => ⟨hb.1, Nat.lt_of_lt_of_le hb.2.1 (Nat.le_trans hW.size hk.1), hb.2.2⟩⟩
theorem Held.below {lo : Nat} {p : Int} {css : List (List (List UInt8))} {hb : Nat} {W W' : World} (h : Held lo p css hb W) (hB : Below W.heap.size W W') : Held lo p css hb W' :=
  h.keep (mm := W.heap.size) hB (by omega) (Keep.refl _ _ _)
theorem sl_xorOk {p : Int} {css : List (List (List UInt8))} (hok : DataOk p css) {s : Int} (h0 : 0 ≤ s) (h1 : s < p) : XorOk ((lineS p p s).map (cellI css)) ∧ xorOf ((lineS p p s).map (cellI css)) = slOf p css s ∧ ((lineS p p s).map (cellI css)).length ≤ 1000 := by
  have hd := dataOk_n hok
  have hin := (sl_in hok.1.2 h0 h1).cells (togOk_grid hok.2.2) (by omega)
  have hpos := sl_pos hok.1.2 h0 h1
  have hf1 := togOk_first hok.2.2
  have hl : ∀ x ∈ (lineS p p s).map (cellI css), x.length = (firstC css).length := fun x hx => by
    obtain ⟨z, hz, rfl⟩ := List.mem_map.1 hx
    exact hin z hz
  have hp0 : 0 < ((lineS p p s).map (cellI css)).length := by rw [List.length_map]; exact hpos
  have h00 : (((lineS p p s).map (cellI css))[0]?.getD []).length = (firstC css).length := first_len hp0 hl
  refine ⟨⟨hp0, by unfold Cell; omega, fun j hj => ?_⟩, R.xorOf_uponL hpos hin, ?_⟩
  · rw [h00, List.getElem?_eq_getElem hj]
    exact hl _ (List.getElem_mem hj)
  · rw [List.length_map]
    unfold lineS
    refine Nat.le_trans (List.length_filter_le _ _) (Nat.le_trans (flatC_len p hok.1.2 _) ?_)
    unfold spanL
    rw [List.length_map, List.length_range]
    omega
set_option maxRecDepth 100000 in
set_option maxHeartbeats 1000000 in
theorem sums1_any (p : Int) (css : List (List (List UInt8))) (hn : (firstC css).length ≤ 1000) (hp17 : p ≤ 17) (hb s : Nat) (hs : (s : Int) < p) (lo : Nat) (w : World) (hH : Held lo p css hb w) :
    Calls Tryz.prog 87 #[.int .i64 (s : Int), .pointer (some ⟨hb, 0, none⟩)] w fun e w' => ∃ u, e = .returned u ∧ Fresh w.heap.size w' u (slOf p css (s : Int)) ∧ Below w.heap.size w w' := by
  obtain ⟨_, cs, h1, h2, h3⟩ := hH
  have hb3 := h3 s hs
  have hc : w.cell? ⟨hb, s, none⟩ = some (slotV cs s) := by
    rw [h1.cell s, List.getElem?_toArray]
    unfold slotV
    rw [List.getElem?_eq_getElem (by omega)]
    rfl
  have HCL := Lib.hid (clone_any (slotV cs s) (slOf p css (s : Int)) (by rw [slOf_len]; omega) w (BytesP.imp hb3 fun b hb => hb.2.1))
  obtain ⟨A, c, e, _⟩ := hb3
  rw [e] at hc HCL
  have i1 : (0 : Int) ≤ (s : Int) := by omega
  have i2 : (s : Int) < 17 := by omega
  clear h1 h2 h3 e hn hp17
  generalize slOf p css (s : Int) = sl at *
  go_enter Tryz.func87, Tryz.ntmps87
  go_wp2_with (go_at_call 88; refine HCL.out.mono ?_; rintro e w1 ⟨u, rfl, hF, hB1⟩)
  go_ret
  exact ⟨_, rfl, hF, hB1⟩
set_option maxRecDepth 100000 in
set_option maxHeartbeats 8000000 in
theorem sums_any {B : Nat} (p : Int) (v : Value) (css : List (List (List UInt8))) (w : World) (hL : Laid w) (hB : B ≤ w.heap.size) (hC : Cols B w v css) (hok : DataOk p css) :
    Calls Tryz.prog 54 #[.agg #[.int .i64 3, .int .i64 p, v]] w fun e w' => ∃ hb, e = .returned (.func (.func 87) #[] #[.pointer (some ⟨hb, 0, none⟩)]) ∧ Held w.heap.size p css hb w' ∧ Below w.heap.size w w' := by
  have hd := dataOk_n hok
  have hmf : ∀ (fn : Fn) (first cap : Array Value) (w : World), (Instr.makeFunc fn first cap).run Tryz.prog w = .ok (.func fn first cap) w := fun _ _ _ _ => rfl
  obtain ⟨b1, off1, cap, rfl, hcap, hb1, _⟩ := hC.at_ hok.2.2.1
  obtain ⟨N, hN⟩ : ∃ N, css.length = N := ⟨_, rfl⟩
  have HOK := Lib.hid hok
  have hpN : p = (N : Int) := by omega
  have hN17 : N ≤ 17 := by omega
  obtain ⟨w0, hw0⟩ : ∃ w0, (w.alloc (.cells #[.int .i64 3, .int .i64 p, .slice (some ⟨b1, off1, none⟩) N cap] 60)).alloc (.cells #[.slice none 0 0, .slice none 0 0, .slice none 0 0, .slice none 0 0, .slice none 0 0, .slice none 0 0, .slice none 0 0, .slice none 0 0, .slice none 0 0, .slice none 0 0, .slice none 0 0, .slice none 0 0, .slice none 0 0, .slice none 0 0, .slice none 0 0, .slice none 0 0, .slice none 0 0] 102) = w0 := ⟨_, rfl⟩
  have hB0 : Below w.heap.size w w0 := by rw [← hw0]; exact below_two w _ _
  have s0 : w0.heap.size = w.heap.size + 2 := by rw [← hw0]; simp
  have q0 : Blk w0 w.heap.size 60 #[.int .i64 3, .int .i64 p, .slice (some ⟨b1, off1, none⟩) N cap] := by rw [← hw0]; exact (Blk.new w _ _).alloc _
  have q1 : Blk w0 (w.heap.size + 1) 102 (List.replicate 17 (.slice none 0 0)).toArray := by rw [← hw0]; exact Blk.second w _ _ _
  have HGA := Lib.hid (gathered_any (B := B) p (.slice (some ⟨b1, off1, none⟩) N cap) css w0 (hL.next hB0) (Nat.le_trans hB hB0.size) (by have h := hC.below (hB0.mono hB); rwa [hN] at h) hok)
  rw [hN]
  rw [hN] at hcap
  have HPP := Lib.hid hpN
  have HPR := Lib.hid hok.1.2
  clear hC hok hd hN hcap hpN
  have k0 := q0.cell 0; have k1 := q0.cell 1; have k2 := q0.cell 2; simp only [List.getElem?_toArray, List.getElem?_cons_zero, List.getElem?_cons_succ] at k0 k1 k2
  go_enter Tryz.func54, Tryz.ntmps54
  go_wp2_with fail
  refine HGA.out.mono ?_
  rintro e w1 ⟨vs, rfl, hvl, hrow, hB1⟩
  have hs1 := hB1.size
  obtain ⟨a0, n0, m0, e0⟩ := RowG.form (hrow 0 (by omega))
  obtain ⟨a1, n1, m1, e1⟩ := RowG.form (hrow 1 (by omega))
  obtain ⟨a2, n2, m2, e2⟩ := RowG.form (hrow 2 (by omega))
  obtain ⟨a3, n3, m3, e3⟩ := RowG.form (hrow 3 (by omega))
  obtain ⟨a4, n4, m4, e4⟩ := RowG.form (hrow 4 (by omega))
  obtain ⟨a5, n5, m5, e5⟩ := RowG.form (hrow 5 (by omega))
  obtain ⟨a6, n6, m6, e6⟩ := RowG.form (hrow 6 (by omega))
  obtain ⟨a7, n7, m7, e7⟩ := RowG.form (hrow 7 (by omega))
  obtain ⟨a8, n8, m8, e8⟩ := RowG.form (hrow 8 (by omega))
  obtain ⟨a9, n9, m9, e9⟩ := RowG.form (hrow 9 (by omega))
  obtain ⟨a10, n10, m10, e10⟩ := RowG.form (hrow 10 (by omega))
  obtain ⟨a11, n11, m11, e11⟩ := RowG.form (hrow 11 (by omega))
  obtain ⟨a12, n12, m12, e12⟩ := RowG.form (hrow 12 (by omega))
  obtain ⟨a13, n13, m13, e13⟩ := RowG.form (hrow 13 (by omega))
  obtain ⟨a14, n14, m14, e14⟩ := RowG.form (hrow 14 (by omega))
  obtain ⟨a15, n15, m15, e15⟩ := RowG.form (hrow 15 (by omega))
  obtain ⟨a16, n16, m16, e16⟩ := RowG.form (hrow 16 (by omega))
  have hlit : vs = [.slice a0 n0 m0, .slice a1 n1 m1, .slice a2 n2 m2, .slice a3 n3 m3, .slice a4 n4 m4, .slice a5 n5 m5, .slice a6 n6 m6, .slice a7 n7 m7, .slice a8 n8 m8, .slice a9 n9 m9, .slice a10 n10 m10, .slice a11 n11 m11, .slice a12 n12 m12, .slice a13 n13 m13, .slice a14 n14 m14, .slice a15 n15 m15, .slice a16 n16 m16] := by
    have h := list17 vs hvl
    rw [show (List.range 17).map (slotV vs) = [slotV vs 0, slotV vs 1, slotV vs 2, slotV vs 3, slotV vs 4, slotV vs 5, slotV vs 6, slotV vs 7, slotV vs 8, slotV vs 9, slotV vs 10, slotV vs 11, slotV vs 12, slotV vs 13, slotV vs 14, slotV vs 15, slotV vs 16] from rfl, e0, e1, e2, e3, e4, e5, e6, e7, e8, e9, e10, e11, e12, e13, e14, e15, e16] at h
    exact h
  obtain ⟨w2, hw2⟩ : ∃ w2, w1.alloc (.cells #[.slice a0 n0 m0, .slice a1 n1 m1, .slice a2 n2 m2, .slice a3 n3 m3, .slice a4 n4 m4, .slice a5 n5 m5, .slice a6 n6 m6, .slice a7 n7 m7, .slice a8 n8 m8, .slice a9 n9 m9, .slice a10 n10 m10, .slice a11 n11 m11, .slice a12 n12 m12, .slice a13 n13 m13, .slice a14 n14 m14, .slice a15 n15 m15, .slice a16 n16 m16] 103) = w2 := ⟨_, rfl⟩
  have hB2 : Below w1.heap.size w1 w2 := by rw [← hw2]; exact below_one w1 _
  have q3 : Blk w2 w1.heap.size 103 vs.toArray := by rw [← hw2, hlit]; exact Blk.new w1 _ _
  have hBw2 : Below w.heap.size w w2 := below_in (below_in hB0 hB1) hB2
  have q0b := (q0.below hB1 q0.lt).below hB2 (by omega)
  have q1b := (q1.below hB1 q1.lt).below hB2 (by omega)
  have hs2 : w2.heap.size = w1.heap.size + 1 := by rw [← hw2]; simp
  have HROW : Hid (∀ k, k < 17 → RowM (· < B) w2 w0.heap.size (slotV vs k) ((bySl p k (flatC p (spanL 0 p))).map (cellI css))) := fun k hk => RowG.below (hrow k hk) hB2
  have HSX := Lib.hid (fun (k : Nat) (hk : (k : Int) < p) => sl_xorOk HOK.out (s := (k : Int)) (by omega) hk)
  have HVS : Hid (∀ k, k < 17 → ∃ A n c, slotV vs k = .slice A n c) := fun k hk => RowG.form (hrow k hk)
  have HSLOT : Hid (∀ (U : World) (k : Nat), k < 17 → Blk U w1.heap.size 103 vs.toArray → U.cell? ⟨w1.heap.size, k, none⟩ = some (slotV vs k)) := fun U k hk hb => by
    rw [hb.cell k, List.getElem?_toArray]
    unfold slotV
    rw [List.getElem?_eq_getElem (by omega)]
    rfl
  rw [hlit]
  clear hrow hvl e0 e1 e2 e3 e4 e5 e6 e7 e8 e9 e10 e11 e12 e13 e14 e15 e16 k0 k1 k2
  have k1 := q0b.cell 1; simp only [List.getElem?_toArray, List.getElem?_cons_zero, List.getElem?_cons_succ] at k1
  go_wp2_with fail
  clear hw2 hw0
  go_loopw [11] (fun i wr => ∃ (k : Nat) (cs : List Value), k ≤ N ∧ i = .int .i64 k ∧ Blk wr (w.heap.size + 1) 102 cs.toArray ∧ Hid (cs.length = 17 ∧ (∀ j, j < k → BytesP (fun b => w.heap.size ≤ b ∧ b < wr.heap.size ∧ b ≠ w.heap.size + 1) wr (slotV cs j) (slOf p css (j : Int)))) ∧ w2.grownBy wr (some (w.heap.size + 1))) (fun i _ => N - (intOf i).toNat)
  case atStart => exact ⟨0, List.replicate 17 (.slice none 0 0), by omega, rfl, q1b, Lib.hid ⟨by simp, fun j hj => absurd hj (by omega)⟩, World.grownBy.refl _ _⟩
  case round =>
    obtain ⟨k, cs, hk, rfl, bh, HJ, hgr⟩ := hrel
    by_cases hlt : k < N
    · have hkp : (k : Int) < p := by rw [HPP.out]; omega
      have hdec : decide ((k : Int) < p) = true := by simpa using hkp
      have hk17 : k < 17 := by omega
      obtain ⟨A, n, c, hsv⟩ := HVS.out k hk17
      have cv := HSLOT.out wr k hk17 (q3.grown hgr (fun e => by injection e with e; omega))
      have hrow' : RowM (· < B) wr w0.heap.size (slotV vs k) ((bySl p k (flatC p (spanL 0 p))).map (cellI css)) := RowG.kept (HROW.out k hk17) hgr (by
        cases hc : (slotV vs k).ownBlock with
        | none => exact .inl rfl
        | some x => exact .inr (fun e => by injection e with e; have := RowG.own_le (HROW.out k hk17) x hc; omega)) (fun b hb e => by injection e with e; omega)
      have hM : Many wr.heap.size wr (slotV vs k) ((lineS p p (k : Int)).map (cellI css)) := RowM.many hrow' (fun b hb _ => hb)
      obtain ⟨x1, x2, x3⟩ := HSX.out k hkp
      rw [hsv] at hM cv
      have HU := Lib.hid (upon_any _ _ wr (Nat.le_refl _) hM x3 x1)
      rw [x2] at HU
      have hbl := bh.lt
      have i1 : (0 : Int) ≤ (k : Int) := by omega
      have i2 : (k : Int) < 17 := by omega
      have HLN : Hid (cs.length = 17) := HJ.out.1
      clear hM x1 x2 x3 hrow' hsv
      generalize (lineS p p (k : Int)).map (cellI css) = lx at *
      go_wp2_with fail
      refine HU.out.mono ?_
      rintro e w4 ⟨u, rfl, hu, hB4⟩
      have hs4 := hB4.size
      have bh4 := bh.below hB4 bh.lt
      have c0 : w4.cell? ⟨w.heap.size + 1, k, none⟩ = some (slotV cs k) := by
        rw [bh4.cell k, List.getElem?_toArray]
        unfold slotV
        rw [List.getElem?_eq_getElem (by rw [HLN.out]; exact hk17)]
        rfl
      have f0 := bh4.frozen k
      have HST : Hid (∀ V, V = w4.setCell ⟨w.heap.size + 1, k, none⟩ u → Blk V (w.heap.size + 1) 102 (cs.set k u).toArray ∧ Hid ((cs.set k u).length = 17 ∧ (∀ j, j < k + 1 → BytesP (fun b => w.heap.size ≤ b ∧ b < V.heap.size ∧ b ≠ w.heap.size + 1) V (slotV (cs.set k u) j) (slOf p css (j : Int)))) ∧ w2.grownBy V (some (w.heap.size + 1))) := fun V hV => by
        have hVs : V.heap.size = w4.heap.size := by rw [hV]; simp
        have hKe : Keeps (fun b => b ≠ w.heap.size + 1) w4 V := fun b hb => by rw [hV]; exact Below.heap_setCell w4 _ _ b (by simpa using hb)
        refine ⟨?_, ⟨by rw [List.length_set]; exact HLN.out, fun j hj => ?_⟩, ?_⟩
        · have := bh4.set_ k u
          rw [List.setIfInBounds_toArray] at this
          rw [hV]
          exact this
        · rw [slot_set cs k u (by rw [HLN.out]; exact hk17)]
          by_cases hjk : j = k
          · subst hjk
            rw [if_pos rfl]
            obtain ⟨A5, c5, e5, h5, h6⟩ := hu
            refine ⟨A5, c5, e5, h5, fun hp => ?_⟩
            obtain ⟨b, off, e6, h7, h8, h9⟩ := h6 hp
            exact ⟨b, off, e6, ⟨by omega, by rw [hVs]; exact h8, by omega⟩, fun i hi => (hKe.cell (p := ⟨b, off + i, none⟩) (show b ≠ w.heap.size + 1 by omega)).trans (h9 i hi)⟩
          · rw [if_neg hjk]
            have h2 := HJ.out.2 j (by omega)
            have h3 := BytesP.below h2 (N := wr.heap.size) (fun b hb => hb.2.1) hB4
            exact (BytesP.imp h3 (Q := fun b => w.heap.size ≤ b ∧ b < V.heap.size ∧ b ≠ w.heap.size + 1) (fun b hb => ⟨hb.1, by rw [hVs]; omega, hb.2.2⟩)).keep (fun b hb => hKe b hb.2.2)
        · refine World.grownBy.trans hgr (World.grownBy.trans (b := w4) (grown_below hB4) ?_)
          rw [hV]
          exact ⟨rfl, rfl, rfl, by simp, fun b _ hb => Below.heap_setCell w4 _ _ b (fun e => hb (by rw [e]))⟩
      obtain ⟨Au, cu, rfl, _⟩ := id hu
      generalize slotV cs k = o0 at c0
      generalize slOf p css (k : Int) = sk at *
      clear hu HU hB4 HJ cv bh4
      go_wp2
      go_roundw
      case rel => exact ⟨k + 1, _, hlt, by go_num, (HST.out _ rfl).1, (HST.out _ rfl).2.1, (HST.out _ rfl).2.2⟩
      case measure => simp [intOf]; omega
    · obtain rfl : k = N := by omega
      have hdec : decide ((k : Int) < p) = false := by rw [HPP.out]; simp
      go_wp2
      go_ret
      exact ⟨w.heap.size + 1, rfl, ⟨by omega, cs, bh, HJ.out.1, fun s hs => HJ.out.2 s (by rw [HPP.out] at hs; omega)⟩, below_grown hBw2 hgr (by omega) (fun b e => by injection e with e; omega)⟩
end Go.Proofs.YtcgnhfiadeceiaaGreatDoor.T

namespace Go.Proofs.YtcgnhfiadeceiaaGreatDoor.T
open Go.RowKit Go.Shelf Go.Proofs.YtcgnhfiadeceiaaGreatDoor.C Go.Proofs.YtcgnhfiadeceiaaGreatDoor.E
set_option linter.unusedSimpArgs false
set_option linter.unusedVariables false
attribute [local go_sem] Oper.semAt_some

theorem enter_sums1 : ∀ args W, (callFunc 87 args).run Tryz.prog W = .ok (.enter 87 args) W := enters_of Tryz.func87 (by kernel_rfl) rfl
theorem enter_slants1 : ∀ args W, (callFunc 89 args).run Tryz.prog W = .ok (.enter 89 args) W := enters_of Tryz.func89 (by kernel_rfl) rfl
/-- What is handed over: a slant's number, and a value. -/
def encS (x : Nat × Value) : Array Value := #[.int .i64 (x.1 : Int), x.2]
/-- The value reads as the sum of the slant whose turn it is. -/
def OkS (lo : Nat) (p : Int) (css : List (List (List UInt8))) (pre : List (Nat × Value)) (x : Nat × Value) (W : World) : Prop :=
  x.1 = pre.length ∧ (x.1 : Int) < p ∧ BytesP (fun b => lo ≤ b ∧ b < W.heap.size) W x.2 (slOf p css (x.1 : Int))
set_option maxRecDepth 100000 in
set_option maxHeartbeats 4000000 in
theorem slants1_in (n : Nat) (hn : 4 ≤ n) (l g h hb lo mm P : Nat) (css : List (List (List UInt8))) (hcn : (firstC css).length ≤ 1000) (hP : P ≤ 17) (W W0 : World) (hg : lo ≤ g ∧ g < lo + mm) (hh : lo ≤ h ∧ h < lo + mm) (h0W : Below W0.heap.size W0 W) (hm : W0.heap.size = lo + mm) (J Jx : List (Nat × Value) → (Nat → Prop) → World → Prop) (o₀ : Nat → Prop)
    (hJ : FarO W.heap.size J)
    (hY : ∀ pre (x : Nat × Value) o W1, J pre o W1 → OkS W.heap.size (P : Int) css pre x W1 → pre.length < P → W.heap.size ≤ W1.heap.size → YieldAt Fence.wide (n - 1) Tryz.prog l (encS x) W1 fun e W' => ∃ o', FreshO o o' W1 ∧ SinceO W.heap.size o W1 W' ∧ ((e = .returned (.bool true) ∧ J (pre ++ [x]) o' W' ∧ Keep lo mm W1 W') ∨ (e = .returned (.bool false) ∧ Jx (pre ++ [x]) o' W' ∧ Keep lo mm W1 W')))
    (bg : Blk W0 g 3 #[.int .i64 (P : Int)]) (bh : Blk W0 h 48 #[.func (.func 87) #[] #[.pointer (some ⟨hb, 0, none⟩)]]) (hH : Held lo (P : Int) css hb W0) (h0 : J [] o₀ W) :
    CallsIn Fence.wide n Tryz.prog 89 #[.func (.yield l) #[] #[], .pointer (some ⟨g, 0, none⟩), .pointer (some ⟨h, 0, none⟩)] W fun e W' => (∃ v, e = .returned v) ∧ ∃ o', FreshO o₀ o' W ∧ ((∃ ys, ys.length = P ∧ J ys o' W') ∨ (∃ pre, (0 < pre.length ∧ pre.length ≤ P) ∧ Jx pre o' W')) := by
  have hent := enter_sums1
  have hsW := h0W.size
  have bgW := bg.below h0W bg.lt
  have c0 := bgW.one
  have HBH := Lib.hid (fun (V : World) (hK : Keep lo mm W V) => hK.blk (bh.below h0W bh.lt) hh.1 hh.2)
  have HHV := Lib.hid (fun (V : World) (hK : Keep lo mm W V) => hH.keep h0W (by omega) hK)
  have HS1 := Lib.hid (fun (s : Nat) (hs : s < P) (V : World) (hK : Keep lo mm W V) => sums1_any (P : Int) css hcn (by omega) hb s (by omega) lo V (HHV.out V hK))
  refine callsIn_of_wp_marks Tryz.func89 rfl trivial ?_ rfl
  simp only [Tryz.ntmps89, List.size_toArray, List.length_cons, List.length_nil, Nat.reduceAdd, Nat.reduceSub, Array.replicate_succ, Array.replicate_zero, List.push_toArray, List.append_toArray, List.nil_append, List.cons_append]
  gi_wp2_with fail
  gi_loopw [6] (fun i wr => ∃ j : Nat, j ≤ P ∧ i = .int .i64 j ∧ Hid (∃ pre o, pre.length = j ∧ J pre o wr ∧ FreshO o₀ o W) ∧ Keep lo mm W wr ∧ W.heap.size ≤ wr.heap.size) (fun i _ => P - (intOf i).toNat)
  case atStart => exact ⟨0, by omega, rfl, Lib.hid ⟨[], o₀, rfl, h0, FreshO.refl _ _⟩, Keep.refl _ _ _, Nat.le_refl _⟩
  case round =>
    clear c0 bgW
    obtain ⟨j, hj, rfl, HJ, hK, hsz⟩ := hrel
    by_cases hlt : j < P
    · have hdec : decide (j < P) = true := decide_eq_true hlt
      have c1 := (HBH.out _ hK).one
      have hcl := HS1.out j hlt wr hK
      gi_wp2_with fail
      refine ⟨trivial, fun _ => by omega, (callsIn_wide.2 hcl).mono ?_⟩
      rintro e w1 ⟨u, rfl, hu, hB1⟩
      have hs1 := hB1.size
      have hK1 : Keep lo mm W w1 := hK.trans (Keep.below hB1 (by omega))
      have HYU : Hid (YieldAt Fence.wide (n - 1) Tryz.prog l (encS (j, u)) w1 fun e W' => ∃ pre o', pre.length = j + 1 ∧ FreshO o₀ o' W ∧ W.heap.size ≤ W'.heap.size ∧ ((e = .returned (.bool true) ∧ J pre o' W' ∧ Keep lo mm w1 W') ∨ (e = .returned (.bool false) ∧ Jx pre o' W' ∧ Keep lo mm w1 W'))) := by
        obtain ⟨pre, o, hpl, hjj, hfo⟩ := HJ.out
        have h := hY pre (j, u) o w1 (hJ.below hjj hB1) ⟨hpl.symm, by show (j : Int) < P; omega, by
          obtain ⟨A5, c5, e5, h5, h6⟩ := hu
          refine ⟨A5, c5, e5, h5, fun hp => ?_⟩
          obtain ⟨b, off, e6, h7, h8, h9⟩ := h6 hp
          exact ⟨b, off, e6, ⟨by omega, h8⟩, h9⟩⟩ (by omega) (by omega)
        refine h.mono ?_
        rintro e W3 ⟨o', hf3, hS3, h3⟩
        exact ⟨pre ++ [(j, u)], o', by rw [List.length_append, hpl]; rfl, hfo.trans (by omega) hf3, Nat.le_trans (by omega) hS3.1, h3⟩
      obtain ⟨Au, cu, rfl, _⟩ := id hu
      clear hu hcl
      have HY2 := HYU.out
      unfold encS at HY2
      obtain ⟨fn, tmps, asg, bdy, hy, hRr⟩ := HY2
      gi_wp2_with fail
      refine ⟨fun _ => by omega, hRr.mono ?_⟩
      rintro e W3 ⟨pre, o', hpl, hfo', hsz3, (⟨rfl, hJ3, hk3⟩ | ⟨rfl, hJx3, hk3⟩)⟩
      · have hKw := hK1.trans hk3
        have HJ3 : Hid (∃ pre o, pre.length = j + 1 ∧ J pre o W3 ∧ FreshO o₀ o W) := ⟨pre, o', hpl, hJ3, hfo'⟩
        clear hpl
        gi_wp2
        go_roundw
        case rel => exact ⟨j + 1, by omega, by go_num, HJ3, hKw, hsz3⟩
        case measure => simp [intOf]; omega
      · have HPL := Lib.hid hpl
        clear hpl
        gi_wp2
        exact ⟨_, results_none rfl _ _ _, ⟨_, rfl⟩, o', hfo', .inr ⟨pre, by have := HPL.out; omega, hJx3⟩⟩
    · obtain rfl : j = P := by omega
      have hdec : decide ((j : Int) < (j : Int)) = false := by simp
      obtain ⟨pre, o, hpl, hjj, hfo⟩ := HJ.out
      have HPL := Lib.hid hpl
      clear hpl
      gi_wp2
      exact ⟨_, results_none rfl _ _ _, ⟨_, rfl⟩, o, hfo, .inl ⟨pre, HPL.out, hjj⟩⟩
/-- The iterator over the slants of a prime. -/
theorem slants_seq (g h hb lo P : Nat) (css : List (List (List UInt8))) (hcn : (firstC css).length ≤ 1000) (hP : P ≤ 17) (w : World) (hg : lo ≤ g) (hh : lo ≤ h) (bg : Blk w g 3 #[.int .i64 (P : Int)]) (bh : Blk w h 48 #[.func (.func 87) #[] #[.pointer (some ⟨hb, 0, none⟩)]]) (hH : Held lo (P : Int) css hb w) (n : Nat) (hn : 4 ≤ n) :
    SeqT Fence.wide n Tryz.prog 89 #[.pointer (some ⟨g, 0, none⟩), .pointer (some ⟨h, 0, none⟩)] encS (OkS w.heap.size (P : Int) css) (Keep lo (w.heap.size - lo)) (fun ys => ys.length = P) (fun pre => 0 < pre.length ∧ pre.length ≤ P) P w := by
  intro l J Jx W o₀ hBW ho₀ hJ hJx hr1 hr2 hY h0
  have hgl := bg.lt
  exact slants1_in n hn l g h hb lo (w.heap.size - lo) P css hcn hP W w ⟨hg, by omega⟩ ⟨hh, by have := bh.lt; omega⟩ hBW (by omega) J Jx o₀ hJ (fun pre x o W1 hj hok hlen hsz => hY pre x o W1 hj ⟨hok.1, hok.2.1, BytesP.imp hok.2.2 fun b hb => ⟨Nat.le_trans hBW.size hb.1, hb.2⟩⟩ hlen hsz) bg bh hH h0
set_option maxHeartbeats 1000000 in
theorem slants_any (P : Nat) (hb : Nat) (w : World) : Calls Tryz.prog 56 #[.int .i64 (P : Int), .func (.func 87) #[] #[.pointer (some ⟨hb, 0, none⟩)]] w fun e w' => e = .returned (.func (.func 89) #[] #[.pointer (some ⟨w.heap.size, 0, none⟩), .pointer (some ⟨w.heap.size + 1, 0, none⟩)]) ∧
    Blk w' w.heap.size 3 #[.int .i64 (P : Int)] ∧ Blk w' (w.heap.size + 1) 48 #[.func (.func 87) #[] #[.pointer (some ⟨hb, 0, none⟩)]] ∧ Below w.heap.size w w' := by
  have hmf : ∀ (fn : Fn) (first cap : Array Value) (w : World), (Instr.makeFunc fn first cap).run Tryz.prog w = .ok (.func fn first cap) w := fun _ _ _ _ => rfl
  go_enter Tryz.func56, Tryz.ntmps56
  go_wp2
  go_ret
  exact ⟨rfl, (Blk.new w _ _).alloc _, Blk.second w _ _ _, below_two w _ _⟩
end Go.Proofs.YtcgnhfiadeceiaaGreatDoor.T

