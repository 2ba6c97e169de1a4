/- RDP's laws: the document's Left. RDP's laws: the document's Wrong. RDP's laws: a range over places whose variable is boxed anew each round; two turns. RDP's laws, the mathematics: what is made is whole; all of the column of diagonals is what is left out; one cell that is another one. RDP's laws: bytes that came in. -/
import Derived.Test.YtggdlklkjnbbjaaGreatDoorKRG2
namespace Go.Proofs.YtggdlklkjnbbjaaGreatDoor.R
open Go.RowKit Go.Shelf Go.Proofs.YtggdlklkjnbbjaaGreatDoor.C Go.Proofs.YtggdlklkjnbbjaaGreatDoor.E
set_option linter.unusedSimpArgs false
set_option linter.unusedVariables false

theorem uponL_take (n m : Nat) (css : List (List (List UInt8))) (l : List (Int × Int)) {R : Nat} (hin : inL R m l) : uponL n (css.take m) l = uponL n css l := by
  unfold uponL
  congr 1
  refine List.map_congr_left fun z hz => ?_
  unfold cellI cellOf_
  rw [List.getElem?_take_of_lt (by have := (hin z hz).1; omega)]
set_option maxRecDepth 100000 in
set_option maxHeartbeats 2000000 in
theorem refLeftL_any {B : Nat} (P : Nat) (hR : RightC 2 (P : Int)) (v1 : Value) (css : List (List (List UInt8))) (n : Nat) (w : World) (hB : B ≤ w.heap.size) (hC : Cols B w v1 css) (hPc : P ≤ css.length) (h20 : css.length ≤ 20) (hG : Grid ((P : Int) - 1).toNat n css) (hn : n ≤ 1000) :
    Calls Tryz.prog 34 #[.int .i64 (P : Int), v1] w fun e w' => ∃ u, e = .returned u ∧ Bytes w'.heap.size w' u (uponL n css (lineL (P : Int) (P : Int) ((P : Int) - 1))) ∧ Below w.heap.size w w' := by
  obtain ⟨p1, p2, s1, s2, m1, m2⟩ := hR.und
  have h1 : 0 < css.length := by omega
  obtain ⟨b1, off1, cap, rfl, hcap, hb1, hrow0⟩ := hC.at_ h1
  obtain ⟨p, hp⟩ : ∃ p : Int, (P : Int) = p := ⟨_, rfl⟩
  rw [hp] at hR hG p1 p2 ⊢
  rw [show lineL p p (p - 1) = lineL p (P : Int) (p - 1) by rw [hp]]
  have hP20 : P ≤ 20 := by omega
  obtain ⟨R, hRR⟩ : ∃ R : Nat, p - 1 = (R : Int) := ⟨(p - 1).toNat, by omega⟩
  have hRt : (p - 1).toNat = R := by omega
  have hR16 : R ≤ 16 := by omega
  have hR2 : 2 ≤ R := by omega
  rw [hRt] at hG
  have HDG := Lib.hid (fun (x y : Nat) (hx : x < 20) (hy : y < R) (W : World) => refDiagonal_any 2 p x y hR ⟨by omega, by omega⟩ ⟨by omega, by omega⟩ W)
  have HIN : Hid (inL R css.length (lineL p (P : Int) (p - 1))) := fun z hz => by
    have h := lineL_in p (P : Int) (p - 1) hRR z hz
    rw [Int.toNat_natCast] at h
    omega
  have HLL := Lib.hid (lineL_len p (p - 1) hRt hR16 hP20)
  have HEND : Hid ((Go.Proofs.YtggdlklkjnbbjaaGreatDoor.grid 0 R P 0).filter (fun z => decide ((z.1 + z.2) % p = p - 1)) = lineL p (P : Int) (p - 1)) := by
    have h := grid_flat 0 (P : Int) p
    rw [Int.sub_zero, Int.toNat_natCast, hRt] at h
    unfold Hid lineL
    rw [← h]
  have HUP := Lib.hid (fun (V : World) (vl : Value) (hV : Below w.heap.size w V) (hl : ReadA V vl (lineL p (P : Int) (p - 1))) => upon6_any (B := B) (.slice (some ⟨b1, off1, none⟩) css.length cap) vl css _ R n V (Nat.le_trans hB hV.size) (hC.below (hV.mono hB)) hl hG HIN.out hn HLL.out (by omega) (by omega))
  -- the first cell
  obtain ⟨u1, hc1, hm1⟩ := hrow0 0 h1
  obtain ⟨hcr, hce⟩ := hG 0 h1
  obtain ⟨A3, cap3, rfl, _, _⟩ := id hm1
  obtain ⟨b2, off3, rfl, hb2, hrow3⟩ := many_at hm1 (by omega)
  obtain ⟨Aa, ca, hc3, _⟩ := hrow3 0 (by omega)
  rw [hcr, Nat.add_zero] at hc1
  rw [hce 0 (by omega), Nat.add_zero] at hc3
  have HD1 := Lib.hid (fun (V : World) (hV : Below w.heap.size w V) => (⟨(hV.cell (p := ⟨b1, off1, none⟩) (Nat.lt_of_lt_of_le hb1 hB)).trans hc1, (hV.cell (p := ⟨b2, off3, none⟩) (Nat.lt_of_lt_of_le hb2 hB)).trans hc3⟩ : V.cell? ⟨b1, off1, none⟩ = some (.slice (some ⟨b2, off3, none⟩) R cap3) ∧ V.cell? ⟨b2, off3, none⟩ = some (.slice Aa n ca)))
  have b0 := Blk.new w 37 #[.int .i64 2, .int .i64 p]
  have hBW := below_one w (.cells #[.int .i64 2, .int .i64 p] 37)
  have hwp : IntKind.i64.wrap (p - 1) = (R : Int) := by rw [IntWalk.i64_in _ (by omega)]; omega
  have hwp2 : wrap64 (p - 1) = (R : Int) := (IntWalk.wrap64_in _ (by omega)).trans hRR
  clear hm1 hrow3 hcr hce hc1 hc3 hrow0 hC hG hRt hR HIN HLL s1 s2 m1 m2
  generalize hq : (fun z : Int × Int => decide ((z.1 + z.2) % p = p - 1)) = q at HEND
  have HQ := Lib.hid (fun x y => (congrFun hq (x, y) : decide ((x + y) % p = p - 1) = q (x, y)))
  clear hq
  generalize css.length = M at *
  have HPN : Hid (p = (P : Int)) := hp.symm
  have HRP : Hid (p - 1 = (R : Int)) := hRR
  generalize P = N at *
  generalize lineL p (N : Int) (p - 1) = want at *
  clear hp hRR
  go_enter Tryz.func34, Tryz.ntmps34
  go_wp2_with fail
  go_loopw [6, 7] (fun v i wr => ∃ j : Nat, j ≤ N ∧ i = .int .i64 j ∧ OwnA wr (w.heap.size + 1) v ((Go.Proofs.YtggdlklkjnbbjaaGreatDoor.grid 0 R j 0).filter q) ∧ Blk wr w.heap.size 37 #[.int .i64 2, .int .i64 p] ∧ Below w.heap.size w wr) (fun _ i _ => N - (intOf i).toNat)
  case atStart => exact ⟨0, by omega, rfl, ownA_nil _ _, b0, hBW⟩
  case round =>
    clear b0 hBW
    obtain ⟨j, hj, rfl, ho, b0, hB0⟩ := hrel
    have c0 := b0.cell 0; have c1 := b0.cell 1; simp only [List.getElem?_toArray, List.getElem?_cons_zero, List.getElem?_cons_succ] at c0 c1
    by_cases hlt : j < N
    · have hdec : decide ((j : Int) < p) = true := by have := HPN.out; simp; omega
      go_wp2
      go_loopw [6, 8] (fun v i wz => ∃ n : Nat, n ≤ R ∧ i = .int .i64 n ∧ OwnA wz (w.heap.size + 1) v ((Go.Proofs.YtggdlklkjnbbjaaGreatDoor.grid 0 R j n).filter q) ∧ Blk wz w.heap.size 37 #[.int .i64 2, .int .i64 p] ∧ Below w.heap.size w wz) (fun _ i _ => R - (intOf i).toNat)
      case atStart => exact ⟨0, by omega, rfl, ho, b0, hB0⟩
      case round =>
        clear ho b0 hB0 c0 c1
        obtain ⟨r, hr, rfl, ho, b0, hB0⟩ := hrel
        have c0 := b0.cell 0; have c1 := b0.cell 1; simp only [List.getElem?_toArray, List.getElem?_cons_zero, List.getElem?_cons_succ] at c0 c1
        by_cases hlt2 : r < R
        · have hdec2 : decide ((r : Int) < (R : Int)) = true := by simp; omega
          have hfl : ((Go.Proofs.YtggdlklkjnbbjaaGreatDoor.grid 0 R j r).filter q).length ≤ 500 := Nat.le_trans (List.length_filter_le _ _) (grid_len 0 R j r hR16 (by omega) (by omega))
          have hBx := below_one wr (.cells #[.int .i64 j, .int .i64 r] 56)
          have b2 := Blk.new wr 56 #[.int .i64 j, .int .i64 r]
          replace ho := ho.below hBx
          replace b0 := b0.below hBx b0.lt
          replace hB0 := below_in hB0 hBx
          have d0 := b0.cell 0; have d1 := b0.cell 1; simp only [List.getElem?_toArray, List.getElem?_cons_zero, List.getElem?_cons_succ] at d0 d1
          have z0 := b2.cell 0; have z1 := b2.cell 1; simp only [List.getElem?_toArray, List.getElem?_cons_zero, List.getElem?_cons_succ] at z0 z1
          have HM := Lib.hid (HDG.out j r (by omega) hlt2)
          have hqq := HQ.out (j : Int) (r : Int)
          generalize ((j : Int) + (r : Int)) % p = dg at *
          cases hqz : q ((j : Int), (r : Int)) with
          | false =>
            rw [hqz] at hqq
            have hdl : (dg == (R : Int)) = false := by have := HRP.out; rw [this] at hqq; simpa using hqq
            have hnx : (Go.Proofs.YtggdlklkjnbbjaaGreatDoor.grid 0 R j (r + 1)).filter q = (Go.Proofs.YtggdlklkjnbbjaaGreatDoor.grid 0 R j r).filter q := by rw [grid_one, List.filter_append]; simp [hqz]
            generalize (Go.Proofs.YtggdlklkjnbbjaaGreatDoor.grid 0 R j r).filter q = l at *
            have HN := Lib.hid hnx
            clear hnx hqq
            go_wp2_with (go_at_call 37; refine (HM.out _).mono ?_; rintro e w3 ⟨rfl, hB1⟩; replace ho := ho.below hB1; replace b0 := b0.below hB1 b0.lt; replace hB0 := below_in hB0 hB1)
            go_roundw
            case rel => exact ⟨r + 1, by omega, by go_num, by rw [HN.out]; exact ho, b0, hB0⟩
            case measure => simp [intOf]; omega
          | true =>
            rw [hqz] at hqq
            have hdl : (dg == (R : Int)) = true := by have := HRP.out; rw [this] at hqq; simpa using hqq
            have hnx : (Go.Proofs.YtggdlklkjnbbjaaGreatDoor.grid 0 R j (r + 1)).filter q = (Go.Proofs.YtggdlklkjnbbjaaGreatDoor.grid 0 R j r).filter q ++ [((j : Int), (r : Int))] := by rw [grid_one, List.filter_append]; simp [hqz]
            generalize (Go.Proofs.YtggdlklkjnbbjaaGreatDoor.grid 0 R j r).filter q = l at *
            have HN := Lib.hid hnx
            clear hnx hqq
            go_wp2_with fail
            refine (HM.out _).mono ?_
            rintro e w3 ⟨rfl, hB1⟩
            replace ho := ho.below hB1
            replace b0 := b0.below hB1 b0.lt
            replace b2 := b2.below hB1 b2.lt
            replace hB0 := below_in hB0 hB1
            clear c0 c1 z0 z1 d0 d1
            have z0 := b2.cell 0; have z1 := b2.cell 1; simp only [List.getElem?_toArray, List.getElem?_cons_zero, List.getElem?_cons_succ] at z0 z1
            have hBy := below_one w3 (.cells #[.int .i64 j, .int .i64 r] 56)
            have HO := Lib.hid (ho.below hBy)
            have HU := Lib.hid (Blk.new w3 56 #[.int .i64 j, .int .i64 r])
            replace b0 := b0.below hBy b0.lt
            replace hB0 := below_in hB0 hBy
            have hs3 := hB0.size
            have hs4 := b0.lt
            have ho4 := ho.own_le
            have hn0 := ho.ne (g := w.heap.size) (by omega)
            go_wp2_with (at_builtin; refine wpList_code _ rfl _ _ 49 56 (.agg #[.int .i64 0, .int .i64 0]) 16 rfl Tryz.underlying49 Tryz.infoAt rfl (w.heap.size + 1) _ _ rfl _ HO.out _ 1 _ _ rfl HU.out (by omega) (by omega) (by omega) ?_; intro v2 w2 hown2 hgrow2)
            go_roundw
            case rel => exact ⟨r + 1, by omega, by go_num, by rw [HN.out]; exact OwnA.push hown2, b0.grown hgrow2 hn0, hB0.grown hgrow2 hB0.size (fun g e => by have := ho4 g e; omega)⟩
            case measure => simp [intOf]; omega
        · obtain rfl : r = R := by omega
          have hdec2 : decide ((r : Int) < (r : Int)) = false := by simp
          go_wp2
          go_roundw
          case rel => exact ⟨j + 1, by omega, by go_num, by rw [grid_row]; exact ho, b0, hB0⟩
          case measure => simp [intOf]; omega
    · obtain rfl : j = N := by omega
      have hdec : decide ((j : Int) < p) = false := by have := HPN.out; simp; omega
      obtain ⟨d1, d2⟩ := HD1.out _ hB0
      rw [HEND.out] at ho
      have z1 : (0 : Int) < (M : Int) := by omega
      have z2 : (0 : Int) < (R : Int) := by omega
      have z3 : ¬ R = 0 := by omega
      have z4 : ¬ M = 0 := by omega
      go_wp2_with (go_at_call 56; refine (HUP.out _ _ hB0 ho.readA).mono ?_; rintro e w3 ⟨u, rfl, hu, hB1⟩)
      go_ret
      exact ⟨_, rfl, hu.bytes, below_in hB0 hB1⟩
/-- The document's Left, on columns that are right. -/
theorem refLeft_any {B : Nat} {p : Int} (v1 : Value) (css : List (List (List UInt8))) (hok : AllR p css) (w : World) (hB : B ≤ w.heap.size) (hC : Cols B w v1 css) :
    Calls Tryz.prog 34 #[.int .i64 p, v1] w fun e w' => ∃ u, e = .returned u ∧ Bytes w'.heap.size w' u (adjOf p (css.take p.toNat)) ∧ Below w.heap.size w w' := by
  have hd := allR_data hok
  have hpp := prm_bounds hok.1.1
  obtain ⟨P, rfl⟩ : ∃ P : Nat, p = (P : Int) := ⟨p.toNat, by omega⟩
  have hn := hok.2
  have hf1 := togOk_first hok.1.2
  have hin : inL ((P : Int) - 1).toNat P (lineL (P : Int) (P : Int) ((P : Int) - 1)) := fun z hz => by
    have h := lineL_in (P : Int) (P : Int) ((P : Int) - 1) (R := ((P : Int) - 1).toNat) (by omega) z hz
    rwa [Int.toNat_natCast] at h
  have hla := line_adj hd
  have hfe : firstC (css.take P) = firstC css := by unfold firstC; rw [List.getElem?_take_of_lt (by omega)]
  rw [Int.toNat_natCast] at hla ⊢
  rw [hfe, uponL_take _ _ _ _ hin] at hla
  rw [← hla]
  exact refLeftL_any P ⟨by omega, hok.1.1⟩ v1 css _ w hB hC (by omega) (by omega) (togOk_grid hok.1.2) (by omega)
end Go.Proofs.YtggdlklkjnbbjaaGreatDoor.R

namespace Go.Proofs.YtggdlklkjnbbjaaGreatDoor.R
open Go.RowKit Go.Shelf Go.Proofs.YtggdlklkjnbbjaaGreatDoor.C Go.Proofs.YtggdlklkjnbbjaaGreatDoor.E
set_option linter.unusedSimpArgs false
set_option linter.unusedVariables false

theorem take_filter {α : Type} (q : α → Bool) (l : List α) {j : Nat} (hj : j < l.length) : (l.take (j + 1)).filter q = (l.take j).filter q ++ (if q l[j] then [l[j]] else []) := by
  rw [List.take_add_one, List.getElem?_eq_getElem hj, List.filter_append]
  cases h : q l[j] <;> simp [h]
set_option maxRecDepth 100000 in
set_option maxHeartbeats 4000000 in
theorem refWrong_any {B : Nat} (p : Int) (v1 : Value) (all : List (List (List UInt8))) (hok : AllR p all) (w : World) (hB : B ≤ w.heap.size) (hC : Cols B w v1 all) :
    Calls Tryz.prog 33 #[.agg #[.int .i64 2, .int .i64 p], v1] w fun e w' => ∃ u, e = .returned u ∧ OwnA w' w.heap.size u (wrongL p all) ∧ Below w.heap.size w w' := by
  have hR : RightC 2 p := ⟨by omega, hok.1.1⟩
  have hpp := prm_bounds hok.1.1
  have hf1 := togOk_first hok.1.2
  have hG := togOk_grid hok.1.2
  obtain ⟨R, hRR⟩ : ∃ R : Nat, p - 1 = (R : Int) := ⟨(p - 1).toNat, by omega⟩
  have hRt : (p - 1).toNat = R := by omega
  rw [hRt] at hG
  have hln : all.length = R + 2 := by have := hok.2; omega
  have hR16 : R ≤ 16 := by omega
  have hR2 : 2 ≤ R := by omega
  obtain ⟨b1, off1, cap, rfl, hcap, hb1, hrow0⟩ := hC.at_ (by omega)
  have hNL : (flatC p (spanL (p - 1) (p + 1))).length ≤ 500 := by
    have h := grid_flat (p - 1) (p + 1) p
    rw [← h, show (p + 1 - (p - 1)).toNat = 2 by omega, hRt]
    exact Nat.le_trans (grid_len (p - 1) R 2 0 hR16 (by omega) (by omega)) (by omega)
  obtain ⟨PL, hPL⟩ : ∃ PL, flatC p (spanL (p - 1) (p + 1)) = PL := ⟨_, rfl⟩
  have HPA := Lib.hid (fun W => refParity_any 2 p hR W)
  rw [show spanL (p - shortN 2) (p - shortN 2 + madeN 2) = spanL (p - 1) (p + 1) from by (show spanL (p - 1) (p - 1 + 2) = _); rw [show p - 1 + 2 = p + 1 by omega], hPL] at HPA
  have hin : ∀ z ∈ PL, (p - 1 ≤ z.1 ∧ z.1 < p + 1) ∧ 0 ≤ z.2 ∧ z.2 < p - 1 := fun z hz => by
    rw [← hPL] at hz
    have h1 := flatC_mem' hz
    have h2 := spanL_mem h1.1
    omega
  have hcell : ∀ z ∈ PL, HasCell 2 p z.1 z.2 := fun z hz => by
    have h := hin z hz
    unfold HasCell
    rw [show shortN 2 = 1 from rfl, show madeN 2 = 2 from rfl]
    omega
  rw [hPL] at hNL
  have HIN := Lib.hid hin
  have HWR : Hid (PL.filter (wrongB p all) = wrongL p all) := by unfold Hid wrongL; rw [hPL]
  have HMB := Lib.hid (fun z (hz : z ∈ PL) (W : World) => refMembers_any 2 p z.1 z.2 hR (hcell z hz) (by have := hin z hz; rw [show shortN 2 = 1 from rfl]; omega) W)
  have HUP := Lib.hid (fun z (hz : z ∈ PL) (V : World) (vm : Value) (hV : Below w.heap.size w V) (hm : ReadA V vm (memL 2 p z.1 z.2)) => upon6_any (B := B) (.slice (some ⟨b1, off1, none⟩) all.length cap) vm all _ R (firstC all).length V (Nat.le_trans hB hV.size) (hC.below (hV.mono hB)) hm hG (memL_in hR hRR (by have := hin z hz; omega)) (by omega) (memL_len hR (hcell z hz)) (by omega) (by omega))
  have HCC := Lib.hid hrow0
  have HG := Lib.hid hG
  obtain ⟨u1, hc1, hm1⟩ := hrow0 0 (by omega)
  obtain ⟨hcr, hce⟩ := hG 0 (by omega)
  obtain ⟨A3, cap4, rfl, _, _⟩ := id hm1
  obtain ⟨b3, off4, rfl, hb3, hrow3⟩ := many_at hm1 (by omega)
  obtain ⟨Ab, cb, hc3, _⟩ := hrow3 0 (by omega)
  rw [hcr, Nat.add_zero] at hc1
  rw [hce 0 (by omega), Nat.add_zero] at hc3
  have HD1 := Lib.hid (fun (V : World) (hV : Below w.heap.size w V) => (⟨(hV.cell (p := ⟨b1, off1, none⟩) (Nat.lt_of_lt_of_le hb1 hB)).trans hc1, (hV.cell (p := ⟨b3, off4, none⟩) (Nat.lt_of_lt_of_le hb3 hB)).trans hc3⟩ : V.cell? ⟨b1, off1, none⟩ = some (.slice (some ⟨b3, off4, none⟩) R cap4) ∧ V.cell? ⟨b3, off4, none⟩ = some (.slice Ab (firstC all).length cb)))
  have b0 := Blk.new w 37 #[.int .i64 2, .int .i64 p]
  have hBW := below_one w (.cells #[.int .i64 2, .int .i64 p] 37)
  have HLN := Lib.hid hln
  have HRB := Lib.hid hRR
  clear hm1 hrow3 hcr hce hc1 hc3 hrow0 hC hG hRt hR hcell hin hok hPL
  have HLU : Hid (∀ l, (uponL (firstC all).length all l).length = (firstC all).length) := fun l => uponL_len _ _ _
  have hn64 := hf1.2
  clear hf1 hRR hcap
  have HWB : Hid (∀ z, wrongB p all z = decide (uponL (firstC all).length all (memL 2 p z.1 z.2) ≠ cellI all z)) := fun _ => rfl
  generalize (firstC all).length = n at *
  generalize hM : all.length = M at *
  have HMM := Lib.hid hM
  clear hM hln
  go_enter Tryz.func33, Tryz.ntmps33
  go_wp2_with (go_at_call 76; refine (HPA.out _).mono ?_; rintro e w2 ⟨vl, rfl, ho0, hB1⟩; have hB2 := below_in hBW hB1; replace b0 := b0.below hB1 b0.lt; obtain ⟨Al, capl, rfl, hRd⟩ := ho0.readA; clear ho0 hB1 hBW)
  have HRD := Lib.hid hRd
  obtain ⟨N, hN⟩ : ∃ N, PL.length = N := ⟨_, rfl⟩
  rw [hN] at hNL ⊢
  have HN := Lib.hid hN
  have HBL := Lib.hid b0
  have HB2 := Lib.hid hB2
  have hg0 := b0.lt
  clear hRd hN
  go_loopw [5, 7] (fun v i wr => ∃ j : Nat, j ≤ N ∧ i = .int .i64 j ∧ OwnA wr w2.heap.size v ((PL.take j).filter (wrongB p all)) ∧ Below w2.heap.size w2 wr) (fun _ i _ => N - (intOf i).toNat)
  case atStart => exact ⟨0, by omega, rfl, ownA_nil _ _, Below.refl _ _⟩
  case round =>
    clear b0 hB2
    obtain ⟨j, hj, rfl, ho, hBr⟩ := hrel
    by_cases hlt : j < N
    · have hdec : decide ((j : Int) < (N : Int)) = true := by simp; omega
      have hjs : j < PL.length := by rw [HN.out]; exact hlt
      obtain ⟨g1, rfl, hg1, x0, x1⟩ := HRD.out j hjs
      have hzi := HIN.out PL[j] (List.getElem_mem hjs)
      have HMEMR := Lib.hid (fun W => HMB.out PL[j] (List.getElem_mem hjs) W)
      have HUPR := Lib.hid (fun (V : World) (vm : Value) (hV : Below w.heap.size w V) (hmm : ReadA V vm (memL 2 p (PL[j]'hjs).1 (PL[j]'hjs).2)) => HUP.out (PL[j]'hjs) (List.getElem_mem hjs) V vm hV hmm)
      have hnx := take_filter (wrongB p all) PL hjs
      have hwb := HWB.out PL[j]
      have hfl : ((PL.take j).filter (wrongB p all)).length ≤ 500 := Nat.le_trans (List.length_filter_le _ _) (by rw [List.length_take]; omega)
      clear HMB HUP HIN HRD
      generalize PL[j] = z at *
      obtain ⟨zx, zy⟩ := z
      simp only at hzi x0 x1
      have hRq := HRB.out
      have hMq := HLN.out
      obtain ⟨X, rfl⟩ : ∃ X : Nat, zx = (X : Int) := ⟨zx.toNat, by omega⟩
      obtain ⟨Y, rfl⟩ : ∃ Y : Nat, zy = (Y : Int) := ⟨zy.toNat, by omega⟩
      have hX : X < M := by omega
      have hY : Y < R := by omega
      obtain ⟨u1, hc1, hm1⟩ := HCC.out X hX
      obtain ⟨hcr, hce⟩ := HG.out X (by rw [HMM.out]; exact hX)
      obtain ⟨A3, cap3, rfl, _, _⟩ := id hm1
      obtain ⟨b2, off3, rfl, hb2, hrow3⟩ := many_at hm1 (by omega)
      obtain ⟨Aa, ca, hc3, hby⟩ := hrow3 Y (by omega)
      rw [hcr] at hc1
      have hxyl := hce Y hY
      rw [hxyl] at hc3 hby
      have hcI : cellI all ((X : Int), (Y : Int)) = (all[X]?.getD [])[Y]?.getD [] := rfl
      rw [hcI] at hwb
      have HLX : Hid ((uponL n all (memL 2 p (X : Int) (Y : Int))).length = n) := HLU.out _
      simp only at HMEMR HUPR hwb
      generalize (all[X]?.getD [])[Y]?.getD [] = xy at *
      have HCEL : Hid (xy.length = n) := hxyl
      have HBS := Lib.hid (fun (V : World) (hV : Below wr.heap.size wr V) => below_in HB2.out (below_in hBr hV))
      have hgr := hBr.size
      have hgw := HB2.out.size
      have HSS := Lib.hid (fun (V : World) (hV : Below wr.heap.size wr V) => (⟨((below_in hBr hV).cell (p := ⟨g1, j * 2, none⟩) hg1).trans x0, ((below_in hBr hV).cell (p := ⟨g1, j * 2 + 1, none⟩) hg1).trans x1, ((HBS.out V hV).cell (p := ⟨b1, off1 + X, none⟩) (Nat.lt_of_lt_of_le hb1 hB)).trans hc1, ((HBS.out V hV).cell (p := ⟨b2, off3 + Y, none⟩) (Nat.lt_of_lt_of_le hb2 hB)).trans hc3, (HBL.out.below (below_in hBr hV) hg0).cell 0, (HBL.out.below (below_in hBr hV) hg0).cell 1, (HD1.out V (HBS.out V hV)).1, (HD1.out V (HBS.out V hV)).2, run_txt V (hby.below ((HBS.out V hV).mono hB))⟩ : (fun V : World => V.cell? ⟨g1, j * 2, none⟩ = some (.int .i64 (X : Int)) ∧ V.cell? ⟨g1, j * 2 + 1, none⟩ = some (.int .i64 (Y : Int)) ∧ V.cell? ⟨b1, off1 + X, none⟩ = some (.slice (some ⟨b2, off3, none⟩) R cap3) ∧ V.cell? ⟨b2, off3 + Y, none⟩ = some (.slice Aa n ca) ∧ V.cell? ⟨w.heap.size, 0, none⟩ = some (.int .i64 2) ∧ V.cell? ⟨w.heap.size, 1, none⟩ = some (.int .i64 p) ∧ V.cell? ⟨b1, off1, none⟩ = some (.slice (some ⟨b3, off4, none⟩) R cap4) ∧ V.cell? ⟨b3, off4, none⟩ = some (.slice Ab n cb) ∧ (convert 25 9 (.slice Aa n ca)).run Tryz.prog V = .ok (.string (text xy)) V) V))
      have i1 : (0 : Int) ≤ (j : Int) := by omega
      have i2 : (j : Int) < (N : Int) := by omega
      have i3 : (0 : Int) ≤ (X : Int) := by omega
      have i4 : (X : Int) < (M : Int) := by omega
      have i5 : (0 : Int) ≤ (Y : Int) := by omega
      have i6 : (Y : Int) < (R : Int) := by omega
      have i7 : (0 : Int) < (M : Int) := by omega
      have i8 : (0 : Int) < (R : Int) := by omega
      have z3 : ¬ R = 0 := by omega
      have z4 : ¬ M = 0 := by omega
      have HUPS := Lib.hid (fun (V : World) (vm : Value) (hV : Below wr.heap.size wr V) (hmm : ReadA V vm (memL 2 p (X : Int) (Y : Int))) => HUPR.out V vm (HBS.out V hV) hmm)
      clear HUPR
      have HUPR := HUPS
      clear HUPS
      clear hcI hce hcr hrow3 hm1 hby x0 x1 hc1 hc3 hRq hMq hzi hxyl
      generalize uponL n all (memL 2 p (X : Int) (Y : Int)) = un at *
      generalize memL 2 p (X : Int) (Y : Int) = mem at *
      by_cases hcmp : un = xy
      · subst hcmp
        have hq : wrongB p all ((X : Int), (Y : Int)) = false := by rw [hwb]; simp
        rw [hq] at hnx
        generalize (PL.take j).filter (wrongB p all) = l at *
        have HNX := Lib.hid (hnx.trans (by simp : _ = l))
        clear hnx hq hwb
        go_wp2_with fail
        have hS : (fun V : World => V.cell? ⟨g1, j * 2, none⟩ = some (.int .i64 (X : Int)) ∧ V.cell? ⟨g1, j * 2 + 1, none⟩ = some (.int .i64 (Y : Int)) ∧ V.cell? ⟨b1, off1 + X, none⟩ = some (.slice (some ⟨b2, off3, none⟩) R cap3) ∧ V.cell? ⟨b2, off3 + Y, none⟩ = some (.slice Aa n ca) ∧ V.cell? ⟨w.heap.size, 0, none⟩ = some (.int .i64 2) ∧ V.cell? ⟨w.heap.size, 1, none⟩ = some (.int .i64 p) ∧ V.cell? ⟨b1, off1, none⟩ = some (.slice (some ⟨b3, off4, none⟩) R cap4) ∧ V.cell? ⟨b3, off4, none⟩ = some (.slice Ab n cb) ∧ (convert 25 9 (.slice Aa n ca)).run Tryz.prog V = .ok (.string (text un)) V) wr.drew := HSS.out _ (Below.refl _ _).drew
        refine (wpIn_wide (n := 12)).1 (wpIn_mono (region_HF (Q := NoPanic _) (S := (fun V : World => V.cell? ⟨g1, j * 2, none⟩ = some (.int .i64 (X : Int)) ∧ V.cell? ⟨g1, j * 2 + 1, none⟩ = some (.int .i64 (Y : Int)) ∧ V.cell? ⟨b1, off1 + X, none⟩ = some (.slice (some ⟨b2, off3, none⟩) R cap3) ∧ V.cell? ⟨b2, off3 + Y, none⟩ = some (.slice Aa n ca) ∧ V.cell? ⟨w.heap.size, 0, none⟩ = some (.int .i64 2) ∧ V.cell? ⟨w.heap.size, 1, none⟩ = some (.int .i64 p) ∧ V.cell? ⟨b1, off1, none⟩ = some (.slice (some ⟨b3, off4, none⟩) R cap4) ∧ V.cell? ⟨b3, off4, none⟩ = some (.slice Ab n cb) ∧ (convert 25 9 (.slice Aa n ca)).run Tryz.prog V = .ok (.string (text un)) V)) (by kernel_rfl) ?_) NoPanic.imp)
        refine anyHF_take (i := 0) (d := 16) (v := .slice (some ⟨b1, off1, none⟩) M cap) (by kernel_rfl) rfl (by kernel_rfl) (by kernel_rfl) (by kernel_rfl) rfl (fun _ _ _ h => h) ⟨Or.inl ⟨by rfl, fun w hS => by obtain ⟨h0, h1, h2, h3, h4, h5, h6, h7, h8⟩ := hS; go_simp⟩, fun _ => rfl⟩ hS ?_
        simp only [List.setIfInBounds_toArray, List.set_cons_zero, List.set_cons_succ]
        refine anyHF_take (i := 1) (d := 17) (v := .slice (some ⟨g1, 0, none⟩) N capl) (by kernel_rfl) rfl (by kernel_rfl) (by kernel_rfl) (by kernel_rfl) rfl (fun _ _ _ h => h) ⟨Or.inl ⟨by rfl, fun w hS => by obtain ⟨h0, h1, h2, h3, h4, h5, h6, h7, h8⟩ := hS; go_simp⟩, fun _ => rfl⟩ hS ?_
        simp only [List.setIfInBounds_toArray, List.set_cons_zero, List.set_cons_succ]
        refine anyHF_take (i := 2) (d := 18) (v := .int .i64 (j : Int)) (by kernel_rfl) rfl (by kernel_rfl) (by kernel_rfl) (by kernel_rfl) rfl (fun _ _ _ h => h) ⟨Or.inl ⟨by rfl, fun w hS => by obtain ⟨h0, h1, h2, h3, h4, h5, h6, h7, h8⟩ := hS; go_simp⟩, fun _ => rfl⟩ hS ?_
        simp only [List.setIfInBounds_toArray, List.set_cons_zero, List.set_cons_succ]
        refine anyHF_take (i := 3) (d := 19) (v := .pointer (some ⟨g1, j * 2, none⟩)) (by kernel_rfl) rfl (by kernel_rfl) (by kernel_rfl) (by kernel_rfl) rfl (fun _ _ _ h => h) ⟨Or.inl ⟨by rfl, fun w hS => by obtain ⟨h0, h1, h2, h3, h4, h5, h6, h7, h8⟩ := hS; go_simp⟩, fun _ => rfl⟩ hS ?_
        simp only [List.setIfInBounds_toArray, List.set_cons_zero, List.set_cons_succ]
        refine anyHF_take (i := 4) (d := 20) (v := .pointer (some ⟨g1, j * 2, none⟩)) (by kernel_rfl) rfl (by kernel_rfl) (by kernel_rfl) (by kernel_rfl) rfl (fun _ _ _ h => h) ⟨Or.inl ⟨by rfl, fun w hS => by obtain ⟨h0, h1, h2, h3, h4, h5, h6, h7, h8⟩ := hS; go_simp⟩, fun _ => rfl⟩ hS ?_
        simp only [List.setIfInBounds_toArray, List.set_cons_zero, List.set_cons_succ]
        refine anyHF_take (i := 5) (d := 21) (v := .int .i64 (X : Int)) (by kernel_rfl) rfl (by kernel_rfl) (by kernel_rfl) (by kernel_rfl) rfl (fun _ _ _ h => h) ⟨Or.inl ⟨by rfl, fun w hS => by obtain ⟨h0, h1, h2, h3, h4, h5, h6, h7, h8⟩ := hS; go_simp⟩, fun _ => rfl⟩ hS ?_
        simp only [List.setIfInBounds_toArray, List.set_cons_zero, List.set_cons_succ]
        refine anyHF_take (i := 6) (d := 22) (v := .pointer (some ⟨b1, off1 + X, none⟩)) (by kernel_rfl) rfl (by kernel_rfl) (by kernel_rfl) (by kernel_rfl) rfl (fun _ _ _ h => h) ⟨Or.inl ⟨by rfl, fun w hS => by obtain ⟨h0, h1, h2, h3, h4, h5, h6, h7, h8⟩ := hS; go_simp⟩, fun _ => rfl⟩ hS ?_
        simp only [List.setIfInBounds_toArray, List.set_cons_zero, List.set_cons_succ]
        refine anyHF_take (i := 7) (d := 23) (v := .slice (some ⟨b2, off3, none⟩) R cap3) (by kernel_rfl) rfl (by kernel_rfl) (by kernel_rfl) (by kernel_rfl) rfl (fun _ _ _ h => h) ⟨Or.inl ⟨by rfl, fun w hS => by obtain ⟨h0, h1, h2, h3, h4, h5, h6, h7, h8⟩ := hS; go_simp⟩, fun _ => rfl⟩ hS ?_
        simp only [List.setIfInBounds_toArray, List.set_cons_zero, List.set_cons_succ]
        refine anyHF_take (i := 8) (d := 24) (v := .slice (some ⟨g1, 0, none⟩) N capl) (by kernel_rfl) rfl (by kernel_rfl) (by kernel_rfl) (by kernel_rfl) rfl (fun _ _ _ h => h) ⟨Or.inl ⟨by rfl, fun w hS => by obtain ⟨h0, h1, h2, h3, h4, h5, h6, h7, h8⟩ := hS; go_simp⟩, fun _ => rfl⟩ hS ?_
        simp only [List.setIfInBounds_toArray, List.set_cons_zero, List.set_cons_succ]
        refine anyHF_take (i := 9) (d := 25) (v := .int .i64 (j : Int)) (by kernel_rfl) rfl (by kernel_rfl) (by kernel_rfl) (by kernel_rfl) rfl (fun _ _ _ h => h) ⟨Or.inl ⟨by rfl, fun w hS => by obtain ⟨h0, h1, h2, h3, h4, h5, h6, h7, h8⟩ := hS; go_simp⟩, fun _ => rfl⟩ hS ?_
        simp only [List.setIfInBounds_toArray, List.set_cons_zero, List.set_cons_succ]
        refine anyHF_take (i := 10) (d := 26) (v := .pointer (some ⟨g1, j * 2, none⟩)) (by kernel_rfl) rfl (by kernel_rfl) (by kernel_rfl) (by kernel_rfl) rfl (fun _ _ _ h => h) ⟨Or.inl ⟨by rfl, fun w hS => by obtain ⟨h0, h1, h2, h3, h4, h5, h6, h7, h8⟩ := hS; go_simp⟩, fun _ => rfl⟩ hS ?_
        simp only [List.setIfInBounds_toArray, List.set_cons_zero, List.set_cons_succ]
        refine anyHF_take (i := 11) (d := 27) (v := .pointer (some ⟨g1, j * 2 + 1, none⟩)) (by kernel_rfl) rfl (by kernel_rfl) (by kernel_rfl) (by kernel_rfl) rfl (fun _ _ _ h => h) ⟨Or.inl ⟨by rfl, fun w hS => by obtain ⟨h0, h1, h2, h3, h4, h5, h6, h7, h8⟩ := hS; go_simp⟩, fun _ => rfl⟩ hS ?_
        simp only [List.setIfInBounds_toArray, List.set_cons_zero, List.set_cons_succ]
        refine anyHF_take (i := 12) (d := 28) (v := .int .i64 (Y : Int)) (by kernel_rfl) rfl (by kernel_rfl) (by kernel_rfl) (by kernel_rfl) rfl (fun _ _ _ h => h) ⟨Or.inl ⟨by rfl, fun w hS => by obtain ⟨h0, h1, h2, h3, h4, h5, h6, h7, h8⟩ := hS; go_simp⟩, fun _ => rfl⟩ hS ?_
        simp only [List.setIfInBounds_toArray, List.set_cons_zero, List.set_cons_succ]
        refine anyHF_take (i := 13) (d := 29) (v := .pointer (some ⟨b2, off3 + Y, none⟩)) (by kernel_rfl) rfl (by kernel_rfl) (by kernel_rfl) (by kernel_rfl) rfl (fun _ _ _ h => h) ⟨Or.inl ⟨by rfl, fun w hS => by obtain ⟨h0, h1, h2, h3, h4, h5, h6, h7, h8⟩ := hS; go_simp⟩, fun _ => rfl⟩ hS ?_
        simp only [List.setIfInBounds_toArray, List.set_cons_zero, List.set_cons_succ]
        refine anyHF_take (i := 14) (d := 30) (v := .slice Aa n ca) (by kernel_rfl) rfl (by kernel_rfl) (by kernel_rfl) (by kernel_rfl) rfl (fun _ _ _ h => h) ⟨Or.inl ⟨by rfl, fun w hS => by obtain ⟨h0, h1, h2, h3, h4, h5, h6, h7, h8⟩ := hS; go_simp⟩, fun _ => rfl⟩ hS ?_
        simp only [List.setIfInBounds_toArray, List.set_cons_zero, List.set_cons_succ]
        refine anyHF_take (i := 15) (d := 31) (v := .string (text un)) (by kernel_rfl) rfl (by kernel_rfl) (by kernel_rfl) (by kernel_rfl) rfl (fun _ _ _ h => h) ⟨Or.inl ⟨by rfl, fun w hS => by obtain ⟨h0, h1, h2, h3, h4, h5, h6, h7, h8⟩ := hS; go_simp⟩, fun _ => rfl⟩ hS ?_
        simp only [List.setIfInBounds_toArray, List.set_cons_zero, List.set_cons_succ]
        refine anyHF_take (i := 16) (d := 32) (v := .slice (some ⟨b1, off1, none⟩) M cap) (by kernel_rfl) rfl (by kernel_rfl) (by kernel_rfl) (by kernel_rfl) rfl (fun _ _ _ h => h) ⟨Or.inl ⟨by rfl, fun w hS => by obtain ⟨h0, h1, h2, h3, h4, h5, h6, h7, h8⟩ := hS; go_simp⟩, fun _ => rfl⟩ hS ?_
        simp only [List.setIfInBounds_toArray, List.set_cons_zero, List.set_cons_succ]
        refine anyHF_take (i := 17) (d := 33) (v := .agg #[.int .i64 2, .int .i64 p]) (by kernel_rfl) rfl (by kernel_rfl) (by kernel_rfl) (by kernel_rfl) rfl (fun _ _ _ h => h) ⟨Or.inl ⟨by rfl, fun w hS => by obtain ⟨h0, h1, h2, h3, h4, h5, h6, h7, h8⟩ := hS; go_simp⟩, fun _ => rfl⟩ hS ?_
        simp only [List.setIfInBounds_toArray, List.set_cons_zero, List.set_cons_succ]
        refine anyHF_take (i := 18) (d := 34) (v := .slice (some ⟨g1, 0, none⟩) N capl) (by kernel_rfl) rfl (by kernel_rfl) (by kernel_rfl) (by kernel_rfl) rfl (fun _ _ _ h => h) ⟨Or.inl ⟨by rfl, fun w hS => by obtain ⟨h0, h1, h2, h3, h4, h5, h6, h7, h8⟩ := hS; go_simp⟩, fun _ => rfl⟩ hS ?_
        simp only [List.setIfInBounds_toArray, List.set_cons_zero, List.set_cons_succ]
        refine anyHF_take (i := 19) (d := 35) (v := .int .i64 (j : Int)) (by kernel_rfl) rfl (by kernel_rfl) (by kernel_rfl) (by kernel_rfl) rfl (fun _ _ _ h => h) ⟨Or.inl ⟨by rfl, fun w hS => by obtain ⟨h0, h1, h2, h3, h4, h5, h6, h7, h8⟩ := hS; go_simp⟩, fun _ => rfl⟩ hS ?_
        simp only [List.setIfInBounds_toArray, List.set_cons_zero, List.set_cons_succ]
        refine anyHF_take (i := 20) (d := 36) (v := .pointer (some ⟨g1, j * 2, none⟩)) (by kernel_rfl) rfl (by kernel_rfl) (by kernel_rfl) (by kernel_rfl) rfl (fun _ _ _ h => h) ⟨Or.inl ⟨by rfl, fun w hS => by obtain ⟨h0, h1, h2, h3, h4, h5, h6, h7, h8⟩ := hS; go_simp⟩, fun _ => rfl⟩ hS ?_
        simp only [List.setIfInBounds_toArray, List.set_cons_zero, List.set_cons_succ]
        refine anyHF_take (i := 21) (d := 37) (v := .agg #[.int .i64 (X : Int), .int .i64 (Y : Int)]) (by kernel_rfl) rfl (by kernel_rfl) (by kernel_rfl) (by kernel_rfl) rfl (fun _ _ _ h => h) ⟨Or.inl ⟨by rfl, fun w hS => by obtain ⟨h0, h1, h2, h3, h4, h5, h6, h7, h8⟩ := hS; go_simp⟩, fun _ => rfl⟩ hS ?_
        simp only [List.setIfInBounds_toArray, List.set_cons_zero, List.set_cons_succ]
        refine anyHF_take (i := 23) (d := 39) (v := .slice (some ⟨b1, off1, none⟩) M cap) (by kernel_rfl) rfl (by kernel_rfl) (by kernel_rfl) (by kernel_rfl) rfl (fun _ _ _ h => h) ⟨Or.inl ⟨by rfl, fun w hS => by obtain ⟨h0, h1, h2, h3, h4, h5, h6, h7, h8⟩ := hS; go_simp⟩, fun _ => rfl⟩ hS ?_
        simp only [List.setIfInBounds_toArray, List.set_cons_zero, List.set_cons_succ]
        refine anyHF_take (i := 24) (d := 40) (v := .pointer (some ⟨b1, off1, none⟩)) (by kernel_rfl) rfl (by kernel_rfl) (by kernel_rfl) (by kernel_rfl) rfl (fun _ _ _ h => h) ⟨Or.inl ⟨by rfl, fun w hS => by obtain ⟨h0, h1, h2, h3, h4, h5, h6, h7, h8⟩ := hS; go_simp⟩, fun _ => rfl⟩ hS ?_
        simp only [List.setIfInBounds_toArray, List.set_cons_zero, List.set_cons_succ]
        refine anyHF_take (i := 25) (d := 41) (v := .slice (some ⟨b3, off4, none⟩) R cap4) (by kernel_rfl) rfl (by kernel_rfl) (by kernel_rfl) (by kernel_rfl) rfl (fun _ _ _ h => h) ⟨Or.inl ⟨by rfl, fun w hS => by obtain ⟨h0, h1, h2, h3, h4, h5, h6, h7, h8⟩ := hS; go_simp⟩, fun _ => rfl⟩ hS ?_
        simp only [List.setIfInBounds_toArray, List.set_cons_zero, List.set_cons_succ]
        refine anyHF_take (i := 26) (d := 42) (v := .pointer (some ⟨b3, off4, none⟩)) (by kernel_rfl) rfl (by kernel_rfl) (by kernel_rfl) (by kernel_rfl) rfl (fun _ _ _ h => h) ⟨Or.inl ⟨by rfl, fun w hS => by obtain ⟨h0, h1, h2, h3, h4, h5, h6, h7, h8⟩ := hS; go_simp⟩, fun _ => rfl⟩ hS ?_
        simp only [List.setIfInBounds_toArray, List.set_cons_zero, List.set_cons_succ]
        refine anyHF_take (i := 27) (d := 43) (v := .slice Ab n cb) (by kernel_rfl) rfl (by kernel_rfl) (by kernel_rfl) (by kernel_rfl) rfl (fun _ _ _ h => h) ⟨Or.inl ⟨by rfl, fun w hS => by obtain ⟨h0, h1, h2, h3, h4, h5, h6, h7, h8⟩ := hS; go_simp⟩, fun _ => rfl⟩ hS ?_
        simp only [List.setIfInBounds_toArray, List.set_cons_zero, List.set_cons_succ]
        refine anyHF_take (i := 28) (d := 44) (v := .int .i64 (n : Int)) (by kernel_rfl) rfl (by kernel_rfl) (by kernel_rfl) (by kernel_rfl) rfl (fun _ _ _ h => h) ⟨Or.inl ⟨by rfl, fun w hS => by obtain ⟨h0, h1, h2, h3, h4, h5, h6, h7, h8⟩ := hS; go_simp⟩, fun _ => rfl⟩ hS ?_
        simp only [List.setIfInBounds_toArray, List.set_cons_zero, List.set_cons_succ]
        refine anyHF_one (i := 22) (by kernel_rfl) rfl (by kernel_rfl) (by rfl) ?_
        gi_wp2_with fail
        refine ⟨trivial, (callsIn_wide.2 (HMEMR.out _)).mono ?_⟩
        rintro e wm ⟨vm, rfl, hmem, hBm⟩
        replace hBm := below_undrew hBm
        clear hS
        have hS : (fun V : World => V.cell? ⟨g1, j * 2, none⟩ = some (.int .i64 (X : Int)) ∧ V.cell? ⟨g1, j * 2 + 1, none⟩ = some (.int .i64 (Y : Int)) ∧ V.cell? ⟨b1, off1 + X, none⟩ = some (.slice (some ⟨b2, off3, none⟩) R cap3) ∧ V.cell? ⟨b2, off3 + Y, none⟩ = some (.slice Aa n ca) ∧ V.cell? ⟨w.heap.size, 0, none⟩ = some (.int .i64 2) ∧ V.cell? ⟨w.heap.size, 1, none⟩ = some (.int .i64 p) ∧ V.cell? ⟨b1, off1, none⟩ = some (.slice (some ⟨b3, off4, none⟩) R cap4) ∧ V.cell? ⟨b3, off4, none⟩ = some (.slice Ab n cb) ∧ (convert 25 9 (.slice Aa n ca)).run Tryz.prog V = .ok (.string (text un)) V) wm := HSS.out _ hBm
        gi_wp2
        try (refine ⟨hS, ?_⟩)
        refine anyHF_one (i := 29) (by kernel_rfl) rfl (by kernel_rfl) (by rfl) ?_
        gi_wp2_with fail
        refine ⟨trivial, (callsIn_wide.2 (HUPR.out _ vm hBm hmem.readA)).mono ?_⟩
        rintro e wn ⟨v', rfl, hfr, hBn⟩
        obtain ⟨Ax, cx, hxe, _, _⟩ := id hfr
        rw [HLX.out] at hxe
        subst hxe
        have t2 := run_txt wn hfr.bytes
        replace hBn := below_in hBm hBn
        clear hS
        have hS : (fun V : World => V.cell? ⟨g1, j * 2, none⟩ = some (.int .i64 (X : Int)) ∧ V.cell? ⟨g1, j * 2 + 1, none⟩ = some (.int .i64 (Y : Int)) ∧ V.cell? ⟨b1, off1 + X, none⟩ = some (.slice (some ⟨b2, off3, none⟩) R cap3) ∧ V.cell? ⟨b2, off3 + Y, none⟩ = some (.slice Aa n ca) ∧ V.cell? ⟨w.heap.size, 0, none⟩ = some (.int .i64 2) ∧ V.cell? ⟨w.heap.size, 1, none⟩ = some (.int .i64 p) ∧ V.cell? ⟨b1, off1, none⟩ = some (.slice (some ⟨b3, off4, none⟩) R cap4) ∧ V.cell? ⟨b3, off4, none⟩ = some (.slice Ab n cb) ∧ (convert 25 9 (.slice Aa n ca)).run Tryz.prog V = .ok (.string (text un)) V) wn := HSS.out _ hBn
        gi_wp2
        try (refine ⟨hS, ?_⟩)
        refine anyHF_one (i := 30) (by kernel_rfl) rfl (by kernel_rfl) (by rfl) ?_
        gi_wp2
        try (refine ⟨hS, ?_⟩)
        refine anyHF_take (i := 31) (d := 47) (v := .bool false) (by kernel_rfl) rfl (by kernel_rfl) (by kernel_rfl) (by kernel_rfl) rfl (fun _ _ _ h => h) ⟨Or.inl ⟨by rfl, fun w hS => by obtain ⟨h0, h1, h2, h3, h4, h5, h6, h7, h8⟩ := hS; go_simp⟩, fun _ => rfl⟩ hS ?_
        simp only [List.setIfInBounds_toArray, List.set_cons_zero, List.set_cons_succ]
        refine anyHF_done (by kernel_rfl) ?_ _
        refine NoPanic.normal ?_
        clear hS
        go_wp2
        go_roundw
        case rel => exact ⟨j + 1, by omega, by go_num, by rw [HNX.out]; exact ho.below hBn, below_in hBr hBn⟩
        case measure => simp [intOf]; omega
      · have hq : wrongB p all ((X : Int), (Y : Int)) = true := by rw [hwb]; simpa using hcmp
        rw [hq] at hnx
        generalize (PL.take j).filter (wrongB p all) = l at *
        have HNX := Lib.hid (hnx.trans (by simp : _ = l ++ [((X : Int), (Y : Int))]))
        have htd : ((text xy).toList == (text un).toList) = false := texts_differ (fun e => hcmp e.symm)
        clear hnx hq hwb
        go_wp2_with fail
        have hS : (fun V : World => V.cell? ⟨g1, j * 2, none⟩ = some (.int .i64 (X : Int)) ∧ V.cell? ⟨g1, j * 2 + 1, none⟩ = some (.int .i64 (Y : Int)) ∧ V.cell? ⟨b1, off1 + X, none⟩ = some (.slice (some ⟨b2, off3, none⟩) R cap3) ∧ V.cell? ⟨b2, off3 + Y, none⟩ = some (.slice Aa n ca) ∧ V.cell? ⟨w.heap.size, 0, none⟩ = some (.int .i64 2) ∧ V.cell? ⟨w.heap.size, 1, none⟩ = some (.int .i64 p) ∧ V.cell? ⟨b1, off1, none⟩ = some (.slice (some ⟨b3, off4, none⟩) R cap4) ∧ V.cell? ⟨b3, off4, none⟩ = some (.slice Ab n cb) ∧ (convert 25 9 (.slice Aa n ca)).run Tryz.prog V = .ok (.string (text xy)) V) wr.drew := HSS.out _ (Below.refl _ _).drew
        refine (wpIn_wide (n := 12)).1 (wpIn_mono (region_HF (Q := NoPanic _) (S := (fun V : World => V.cell? ⟨g1, j * 2, none⟩ = some (.int .i64 (X : Int)) ∧ V.cell? ⟨g1, j * 2 + 1, none⟩ = some (.int .i64 (Y : Int)) ∧ V.cell? ⟨b1, off1 + X, none⟩ = some (.slice (some ⟨b2, off3, none⟩) R cap3) ∧ V.cell? ⟨b2, off3 + Y, none⟩ = some (.slice Aa n ca) ∧ V.cell? ⟨w.heap.size, 0, none⟩ = some (.int .i64 2) ∧ V.cell? ⟨w.heap.size, 1, none⟩ = some (.int .i64 p) ∧ V.cell? ⟨b1, off1, none⟩ = some (.slice (some ⟨b3, off4, none⟩) R cap4) ∧ V.cell? ⟨b3, off4, none⟩ = some (.slice Ab n cb) ∧ (convert 25 9 (.slice Aa n ca)).run Tryz.prog V = .ok (.string (text xy)) V)) (by kernel_rfl) ?_) NoPanic.imp)
        refine anyHF_take (i := 0) (d := 16) (v := .slice (some ⟨b1, off1, none⟩) M cap) (by kernel_rfl) rfl (by kernel_rfl) (by kernel_rfl) (by kernel_rfl) rfl (fun _ _ _ h => h) ⟨Or.inl ⟨by rfl, fun w hS => by obtain ⟨h0, h1, h2, h3, h4, h5, h6, h7, h8⟩ := hS; go_simp⟩, fun _ => rfl⟩ hS ?_
        simp only [List.setIfInBounds_toArray, List.set_cons_zero, List.set_cons_succ]
        refine anyHF_take (i := 1) (d := 17) (v := .slice (some ⟨g1, 0, none⟩) N capl) (by kernel_rfl) rfl (by kernel_rfl) (by kernel_rfl) (by kernel_rfl) rfl (fun _ _ _ h => h) ⟨Or.inl ⟨by rfl, fun w hS => by obtain ⟨h0, h1, h2, h3, h4, h5, h6, h7, h8⟩ := hS; go_simp⟩, fun _ => rfl⟩ hS ?_
        simp only [List.setIfInBounds_toArray, List.set_cons_zero, List.set_cons_succ]
        refine anyHF_take (i := 2) (d := 18) (v := .int .i64 (j : Int)) (by kernel_rfl) rfl (by kernel_rfl) (by kernel_rfl) (by kernel_rfl) rfl (fun _ _ _ h => h) ⟨Or.inl ⟨by rfl, fun w hS => by obtain ⟨h0, h1, h2, h3, h4, h5, h6, h7, h8⟩ := hS; go_simp⟩, fun _ => rfl⟩ hS ?_
        simp only [List.setIfInBounds_toArray, List.set_cons_zero, List.set_cons_succ]
        refine anyHF_take (i := 3) (d := 19) (v := .pointer (some ⟨g1, j * 2, none⟩)) (by kernel_rfl) rfl (by kernel_rfl) (by kernel_rfl) (by kernel_rfl) rfl (fun _ _ _ h => h) ⟨Or.inl ⟨by rfl, fun w hS => by obtain ⟨h0, h1, h2, h3, h4, h5, h6, h7, h8⟩ := hS; go_simp⟩, fun _ => rfl⟩ hS ?_
        simp only [List.setIfInBounds_toArray, List.set_cons_zero, List.set_cons_succ]
        refine anyHF_take (i := 4) (d := 20) (v := .pointer (some ⟨g1, j * 2, none⟩)) (by kernel_rfl) rfl (by kernel_rfl) (by kernel_rfl) (by kernel_rfl) rfl (fun _ _ _ h => h) ⟨Or.inl ⟨by rfl, fun w hS => by obtain ⟨h0, h1, h2, h3, h4, h5, h6, h7, h8⟩ := hS; go_simp⟩, fun _ => rfl⟩ hS ?_
        simp only [List.setIfInBounds_toArray, List.set_cons_zero, List.set_cons_succ]
        refine anyHF_take (i := 5) (d := 21) (v := .int .i64 (X : Int)) (by kernel_rfl) rfl (by kernel_rfl) (by kernel_rfl) (by kernel_rfl) rfl (fun _ _ _ h => h) ⟨Or.inl ⟨by rfl, fun w hS => by obtain ⟨h0, h1, h2, h3, h4, h5, h6, h7, h8⟩ := hS; go_simp⟩, fun _ => rfl⟩ hS ?_
        simp only [List.setIfInBounds_toArray, List.set_cons_zero, List.set_cons_succ]
        refine anyHF_take (i := 6) (d := 22) (v := .pointer (some ⟨b1, off1 + X, none⟩)) (by kernel_rfl) rfl (by kernel_rfl) (by kernel_rfl) (by kernel_rfl) rfl (fun _ _ _ h => h) ⟨Or.inl ⟨by rfl, fun w hS => by obtain ⟨h0, h1, h2, h3, h4, h5, h6, h7, h8⟩ := hS; go_simp⟩, fun _ => rfl⟩ hS ?_
        simp only [List.setIfInBounds_toArray, List.set_cons_zero, List.set_cons_succ]
        refine anyHF_take (i := 7) (d := 23) (v := .slice (some ⟨b2, off3, none⟩) R cap3) (by kernel_rfl) rfl (by kernel_rfl) (by kernel_rfl) (by kernel_rfl) rfl (fun _ _ _ h => h) ⟨Or.inl ⟨by rfl, fun w hS => by obtain ⟨h0, h1, h2, h3, h4, h5, h6, h7, h8⟩ := hS; go_simp⟩, fun _ => rfl⟩ hS ?_
        simp only [List.setIfInBounds_toArray, List.set_cons_zero, List.set_cons_succ]
        refine anyHF_take (i := 8) (d := 24) (v := .slice (some ⟨g1, 0, none⟩) N capl) (by kernel_rfl) rfl (by kernel_rfl) (by kernel_rfl) (by kernel_rfl) rfl (fun _ _ _ h => h) ⟨Or.inl ⟨by rfl, fun w hS => by obtain ⟨h0, h1, h2, h3, h4, h5, h6, h7, h8⟩ := hS; go_simp⟩, fun _ => rfl⟩ hS ?_
        simp only [List.setIfInBounds_toArray, List.set_cons_zero, List.set_cons_succ]
        refine anyHF_take (i := 9) (d := 25) (v := .int .i64 (j : Int)) (by kernel_rfl) rfl (by kernel_rfl) (by kernel_rfl) (by kernel_rfl) rfl (fun _ _ _ h => h) ⟨Or.inl ⟨by rfl, fun w hS => by obtain ⟨h0, h1, h2, h3, h4, h5, h6, h7, h8⟩ := hS; go_simp⟩, fun _ => rfl⟩ hS ?_
        simp only [List.setIfInBounds_toArray, List.set_cons_zero, List.set_cons_succ]
        refine anyHF_take (i := 10) (d := 26) (v := .pointer (some ⟨g1, j * 2, none⟩)) (by kernel_rfl) rfl (by kernel_rfl) (by kernel_rfl) (by kernel_rfl) rfl (fun _ _ _ h => h) ⟨Or.inl ⟨by rfl, fun w hS => by obtain ⟨h0, h1, h2, h3, h4, h5, h6, h7, h8⟩ := hS; go_simp⟩, fun _ => rfl⟩ hS ?_
        simp only [List.setIfInBounds_toArray, List.set_cons_zero, List.set_cons_succ]
        refine anyHF_take (i := 11) (d := 27) (v := .pointer (some ⟨g1, j * 2 + 1, none⟩)) (by kernel_rfl) rfl (by kernel_rfl) (by kernel_rfl) (by kernel_rfl) rfl (fun _ _ _ h => h) ⟨Or.inl ⟨by rfl, fun w hS => by obtain ⟨h0, h1, h2, h3, h4, h5, h6, h7, h8⟩ := hS; go_simp⟩, fun _ => rfl⟩ hS ?_
        simp only [List.setIfInBounds_toArray, List.set_cons_zero, List.set_cons_succ]
        refine anyHF_take (i := 12) (d := 28) (v := .int .i64 (Y : Int)) (by kernel_rfl) rfl (by kernel_rfl) (by kernel_rfl) (by kernel_rfl) rfl (fun _ _ _ h => h) ⟨Or.inl ⟨by rfl, fun w hS => by obtain ⟨h0, h1, h2, h3, h4, h5, h6, h7, h8⟩ := hS; go_simp⟩, fun _ => rfl⟩ hS ?_
        simp only [List.setIfInBounds_toArray, List.set_cons_zero, List.set_cons_succ]
        refine anyHF_take (i := 13) (d := 29) (v := .pointer (some ⟨b2, off3 + Y, none⟩)) (by kernel_rfl) rfl (by kernel_rfl) (by kernel_rfl) (by kernel_rfl) rfl (fun _ _ _ h => h) ⟨Or.inl ⟨by rfl, fun w hS => by obtain ⟨h0, h1, h2, h3, h4, h5, h6, h7, h8⟩ := hS; go_simp⟩, fun _ => rfl⟩ hS ?_
        simp only [List.setIfInBounds_toArray, List.set_cons_zero, List.set_cons_succ]
        refine anyHF_take (i := 14) (d := 30) (v := .slice Aa n ca) (by kernel_rfl) rfl (by kernel_rfl) (by kernel_rfl) (by kernel_rfl) rfl (fun _ _ _ h => h) ⟨Or.inl ⟨by rfl, fun w hS => by obtain ⟨h0, h1, h2, h3, h4, h5, h6, h7, h8⟩ := hS; go_simp⟩, fun _ => rfl⟩ hS ?_
        simp only [List.setIfInBounds_toArray, List.set_cons_zero, List.set_cons_succ]
        refine anyHF_take (i := 15) (d := 31) (v := .string (text xy)) (by kernel_rfl) rfl (by kernel_rfl) (by kernel_rfl) (by kernel_rfl) rfl (fun _ _ _ h => h) ⟨Or.inl ⟨by rfl, fun w hS => by obtain ⟨h0, h1, h2, h3, h4, h5, h6, h7, h8⟩ := hS; go_simp⟩, fun _ => rfl⟩ hS ?_
        simp only [List.setIfInBounds_toArray, List.set_cons_zero, List.set_cons_succ]
        refine anyHF_take (i := 16) (d := 32) (v := .slice (some ⟨b1, off1, none⟩) M cap) (by kernel_rfl) rfl (by kernel_rfl) (by kernel_rfl) (by kernel_rfl) rfl (fun _ _ _ h => h) ⟨Or.inl ⟨by rfl, fun w hS => by obtain ⟨h0, h1, h2, h3, h4, h5, h6, h7, h8⟩ := hS; go_simp⟩, fun _ => rfl⟩ hS ?_
        simp only [List.setIfInBounds_toArray, List.set_cons_zero, List.set_cons_succ]
        refine anyHF_take (i := 17) (d := 33) (v := .agg #[.int .i64 2, .int .i64 p]) (by kernel_rfl) rfl (by kernel_rfl) (by kernel_rfl) (by kernel_rfl) rfl (fun _ _ _ h => h) ⟨Or.inl ⟨by rfl, fun w hS => by obtain ⟨h0, h1, h2, h3, h4, h5, h6, h7, h8⟩ := hS; go_simp⟩, fun _ => rfl⟩ hS ?_
        simp only [List.setIfInBounds_toArray, List.set_cons_zero, List.set_cons_succ]
        refine anyHF_take (i := 18) (d := 34) (v := .slice (some ⟨g1, 0, none⟩) N capl) (by kernel_rfl) rfl (by kernel_rfl) (by kernel_rfl) (by kernel_rfl) rfl (fun _ _ _ h => h) ⟨Or.inl ⟨by rfl, fun w hS => by obtain ⟨h0, h1, h2, h3, h4, h5, h6, h7, h8⟩ := hS; go_simp⟩, fun _ => rfl⟩ hS ?_
        simp only [List.setIfInBounds_toArray, List.set_cons_zero, List.set_cons_succ]
        refine anyHF_take (i := 19) (d := 35) (v := .int .i64 (j : Int)) (by kernel_rfl) rfl (by kernel_rfl) (by kernel_rfl) (by kernel_rfl) rfl (fun _ _ _ h => h) ⟨Or.inl ⟨by rfl, fun w hS => by obtain ⟨h0, h1, h2, h3, h4, h5, h6, h7, h8⟩ := hS; go_simp⟩, fun _ => rfl⟩ hS ?_
        simp only [List.setIfInBounds_toArray, List.set_cons_zero, List.set_cons_succ]
        refine anyHF_take (i := 20) (d := 36) (v := .pointer (some ⟨g1, j * 2, none⟩)) (by kernel_rfl) rfl (by kernel_rfl) (by kernel_rfl) (by kernel_rfl) rfl (fun _ _ _ h => h) ⟨Or.inl ⟨by rfl, fun w hS => by obtain ⟨h0, h1, h2, h3, h4, h5, h6, h7, h8⟩ := hS; go_simp⟩, fun _ => rfl⟩ hS ?_
        simp only [List.setIfInBounds_toArray, List.set_cons_zero, List.set_cons_succ]
        refine anyHF_take (i := 21) (d := 37) (v := .agg #[.int .i64 (X : Int), .int .i64 (Y : Int)]) (by kernel_rfl) rfl (by kernel_rfl) (by kernel_rfl) (by kernel_rfl) rfl (fun _ _ _ h => h) ⟨Or.inl ⟨by rfl, fun w hS => by obtain ⟨h0, h1, h2, h3, h4, h5, h6, h7, h8⟩ := hS; go_simp⟩, fun _ => rfl⟩ hS ?_
        simp only [List.setIfInBounds_toArray, List.set_cons_zero, List.set_cons_succ]
        refine anyHF_take (i := 23) (d := 39) (v := .slice (some ⟨b1, off1, none⟩) M cap) (by kernel_rfl) rfl (by kernel_rfl) (by kernel_rfl) (by kernel_rfl) rfl (fun _ _ _ h => h) ⟨Or.inl ⟨by rfl, fun w hS => by obtain ⟨h0, h1, h2, h3, h4, h5, h6, h7, h8⟩ := hS; go_simp⟩, fun _ => rfl⟩ hS ?_
        simp only [List.setIfInBounds_toArray, List.set_cons_zero, List.set_cons_succ]
        refine anyHF_take (i := 24) (d := 40) (v := .pointer (some ⟨b1, off1, none⟩)) (by kernel_rfl) rfl (by kernel_rfl) (by kernel_rfl) (by kernel_rfl) rfl (fun _ _ _ h => h) ⟨Or.inl ⟨by rfl, fun w hS => by obtain ⟨h0, h1, h2, h3, h4, h5, h6, h7, h8⟩ := hS; go_simp⟩, fun _ => rfl⟩ hS ?_
        simp only [List.setIfInBounds_toArray, List.set_cons_zero, List.set_cons_succ]
        refine anyHF_take (i := 25) (d := 41) (v := .slice (some ⟨b3, off4, none⟩) R cap4) (by kernel_rfl) rfl (by kernel_rfl) (by kernel_rfl) (by kernel_rfl) rfl (fun _ _ _ h => h) ⟨Or.inl ⟨by rfl, fun w hS => by obtain ⟨h0, h1, h2, h3, h4, h5, h6, h7, h8⟩ := hS; go_simp⟩, fun _ => rfl⟩ hS ?_
        simp only [List.setIfInBounds_toArray, List.set_cons_zero, List.set_cons_succ]
        refine anyHF_take (i := 26) (d := 42) (v := .pointer (some ⟨b3, off4, none⟩)) (by kernel_rfl) rfl (by kernel_rfl) (by kernel_rfl) (by kernel_rfl) rfl (fun _ _ _ h => h) ⟨Or.inl ⟨by rfl, fun w hS => by obtain ⟨h0, h1, h2, h3, h4, h5, h6, h7, h8⟩ := hS; go_simp⟩, fun _ => rfl⟩ hS ?_
        simp only [List.setIfInBounds_toArray, List.set_cons_zero, List.set_cons_succ]
        refine anyHF_take (i := 27) (d := 43) (v := .slice Ab n cb) (by kernel_rfl) rfl (by kernel_rfl) (by kernel_rfl) (by kernel_rfl) rfl (fun _ _ _ h => h) ⟨Or.inl ⟨by rfl, fun w hS => by obtain ⟨h0, h1, h2, h3, h4, h5, h6, h7, h8⟩ := hS; go_simp⟩, fun _ => rfl⟩ hS ?_
        simp only [List.setIfInBounds_toArray, List.set_cons_zero, List.set_cons_succ]
        refine anyHF_take (i := 28) (d := 44) (v := .int .i64 (n : Int)) (by kernel_rfl) rfl (by kernel_rfl) (by kernel_rfl) (by kernel_rfl) rfl (fun _ _ _ h => h) ⟨Or.inl ⟨by rfl, fun w hS => by obtain ⟨h0, h1, h2, h3, h4, h5, h6, h7, h8⟩ := hS; go_simp⟩, fun _ => rfl⟩ hS ?_
        simp only [List.setIfInBounds_toArray, List.set_cons_zero, List.set_cons_succ]
        refine anyHF_one (i := 22) (by kernel_rfl) rfl (by kernel_rfl) (by rfl) ?_
        gi_wp2_with fail
        refine ⟨trivial, (callsIn_wide.2 (HMEMR.out _)).mono ?_⟩
        rintro e wm ⟨vm, rfl, hmem, hBm⟩
        replace hBm := below_undrew hBm
        clear hS
        have hS : (fun V : World => V.cell? ⟨g1, j * 2, none⟩ = some (.int .i64 (X : Int)) ∧ V.cell? ⟨g1, j * 2 + 1, none⟩ = some (.int .i64 (Y : Int)) ∧ V.cell? ⟨b1, off1 + X, none⟩ = some (.slice (some ⟨b2, off3, none⟩) R cap3) ∧ V.cell? ⟨b2, off3 + Y, none⟩ = some (.slice Aa n ca) ∧ V.cell? ⟨w.heap.size, 0, none⟩ = some (.int .i64 2) ∧ V.cell? ⟨w.heap.size, 1, none⟩ = some (.int .i64 p) ∧ V.cell? ⟨b1, off1, none⟩ = some (.slice (some ⟨b3, off4, none⟩) R cap4) ∧ V.cell? ⟨b3, off4, none⟩ = some (.slice Ab n cb) ∧ (convert 25 9 (.slice Aa n ca)).run Tryz.prog V = .ok (.string (text xy)) V) wm := HSS.out _ hBm
        gi_wp2
        try (refine ⟨hS, ?_⟩)
        refine anyHF_one (i := 29) (by kernel_rfl) rfl (by kernel_rfl) (by rfl) ?_
        gi_wp2_with fail
        refine ⟨trivial, (callsIn_wide.2 (HUPR.out _ vm hBm hmem.readA)).mono ?_⟩
        rintro e wn ⟨v', rfl, hfr, hBn⟩
        obtain ⟨Ax, cx, hxe, _, _⟩ := id hfr
        rw [HLX.out] at hxe
        subst hxe
        have t2 := run_txt wn hfr.bytes
        replace hBn := below_in hBm hBn
        clear hS
        have hS : (fun V : World => V.cell? ⟨g1, j * 2, none⟩ = some (.int .i64 (X : Int)) ∧ V.cell? ⟨g1, j * 2 + 1, none⟩ = some (.int .i64 (Y : Int)) ∧ V.cell? ⟨b1, off1 + X, none⟩ = some (.slice (some ⟨b2, off3, none⟩) R cap3) ∧ V.cell? ⟨b2, off3 + Y, none⟩ = some (.slice Aa n ca) ∧ V.cell? ⟨w.heap.size, 0, none⟩ = some (.int .i64 2) ∧ V.cell? ⟨w.heap.size, 1, none⟩ = some (.int .i64 p) ∧ V.cell? ⟨b1, off1, none⟩ = some (.slice (some ⟨b3, off4, none⟩) R cap4) ∧ V.cell? ⟨b3, off4, none⟩ = some (.slice Ab n cb) ∧ (convert 25 9 (.slice Aa n ca)).run Tryz.prog V = .ok (.string (text xy)) V) wn := HSS.out _ hBn
        gi_wp2
        try (refine ⟨hS, ?_⟩)
        refine anyHF_one (i := 30) (by kernel_rfl) rfl (by kernel_rfl) (by rfl) ?_
        gi_wp2
        try (refine ⟨hS, ?_⟩)
        refine anyHF_take (i := 31) (d := 47) (v := .bool true) (by kernel_rfl) rfl (by kernel_rfl) (by kernel_rfl) (by kernel_rfl) rfl (fun _ _ _ h => h) ⟨Or.inl ⟨by rfl, fun w hS => by obtain ⟨h0, h1, h2, h3, h4, h5, h6, h7, h8⟩ := hS; go_simp⟩, fun _ => rfl⟩ hS ?_
        simp only [List.setIfInBounds_toArray, List.set_cons_zero, List.set_cons_succ]
        refine anyHF_done (by kernel_rfl) ?_ _
        refine NoPanic.normal ?_
        clear hS t2
        have ho2 := ho.below hBn
        have d1 := (HSS.out _ hBn).1
        have d2 := (HSS.out _ hBn).2.1
        have hBy := below_one wn (.cells #[.int .i64 (X : Int), .int .i64 (Y : Int)] 56)
        have HO := Lib.hid (ho2.below hBy)
        have HU := Lib.hid (Blk.new wn 56 #[.int .i64 (X : Int), .int .i64 (Y : Int)])
        have hBq := below_in hBr (below_in hBn hBy)
        have hs4 := hBq.size
        have ho4 := ho2.own_le
        go_wp2_with (at_builtin; refine wpList_code _ rfl _ _ 49 56 (.agg #[.int .i64 0, .int .i64 0]) 16 rfl Tryz.underlying49 Tryz.infoAt rfl w2.heap.size _ _ rfl _ HO.out _ 1 _ _ rfl HU.out (by omega) (by omega) (by omega) ?_; intro v2 w4 hown2 hgrow2)
        go_roundw
        case rel => exact ⟨j + 1, by omega, by go_num, by rw [HNX.out]; exact OwnA.push hown2, hBq.grown hgrow2 hBq.size (fun g e => ho4 g e)⟩
        case measure => simp [intOf]; omega
    · obtain rfl : j = N := by omega
      have hdec : decide ((j : Int) < (j : Int)) = false := by simp
      rw [← HN.out, List.take_length, HWR.out] at ho
      go_wp2
      go_ret
      exact ⟨_, rfl, ho.less HB2.out.size, below_in HB2.out hBr⟩
end Go.Proofs.YtggdlklkjnbbjaaGreatDoor.R

namespace Go.Proofs.YtggdlklkjnbbjaaGreatDoor.R
open Go.RowKit Go.Shelf Go.Proofs.YtggdlklkjnbbjaaGreatDoor.C Go.Proofs.YtggdlklkjnbbjaaGreatDoor.E
set_option linter.unusedSimpArgs false
set_option linter.unusedVariables false

/-- The range law, where a round's variable is boxed: the act within is a function of the element and its block. -/
theorem wpIn_rangeBoxQ {α : Type} {F : Fence} {n : Nat} {P : Program} {g : Operand} {ps : Array Tmp} {assign body : Code} {Q : Exit → Act → World → Prop} {a : Act} {w : World}
    (hro : F.round = none) (h1 : 1 ≤ n) {gf : Nat} {lb : Array Value} (hg : a.eval g = .func (.func gf) #[] lb) (hFg : F.fn gf) (eg : ∀ args w, (callFunc gf args).run P w = .ok (.enter gf args) w)
    {encs : α → Array Value} {Ok : α → World → Prop} {Kp : World → World → Prop} {S Sp : List α → Prop} {N : Nat} {w0 : World} (hseq : SeqQ F (n - 1) P gf lb encs Ok Kp S Sp N w0)
    (hKt : ∀ {A B C : World}, Kp A B → Kp B C → Kp A C) (hKb : ∀ (W : World) (l : Nat) (ob : Obj), w.heap.size ≤ l → l < W.heap.size → (∃ r, W.heap[l]? = some (.loop r)) → Kp W (W.putObj l ob)) (hb0 : Below w0.heap.size w0 w) (hps : ∀ x, (encs x).size = ps.size)
    (I : List α → Option Nat → World → Prop) (Ix : Code → List α → Option Nat → World → Prop) (hI : FarO w.heap.size I) (hIx : ∀ c, FarO w.heap.size (Ix c)) (o₀ : Option Nat) (ho₀ : ∀ b, o₀ = some b → b < w.heap.size) (h0 : I [] o₀ w)
    (T : TypeId) (cells : α → Array Value) (actf : α → Nat → Act)
    (hassign : ∀ (l : Nat) (pre : List α) (x : α) (o : Option Nat) (W : World) (K : Act → World → Prop), w.heap.size ≤ W.heap.size → (∀ b, o = some b → b < W.heap.size) → I pre o W → Ok x W → (∀ gx W', SinceO w.heap.size o W W' → Kp W W' → I pre o W' → Blk W' gx T (cells x) → K (actf x gx) W') →
      assign.wpIn (F.inRound l) (n - 1 - 1) P (Exit.then K (fun _ _ _ => False)) { tmps := (ps.zip (encs x)).foldl (fun t (p, v) => t.setIfInBounds p v) a.tmps, defers := [] } W)
    (hrow : ∀ pre o W, I pre o W → RowO o W) (hrowx : ∀ c pre o W, Ix c pre o W → RowO o W)
    (hbody : ∀ (l : Nat) (pre : List α) (x : α) (o : Option Nat) (gx : Nat) (W : World), w.heap.size ≤ W.heap.size → I pre o W → Blk W gx T (cells x) → pre.length < N →
      body.wpIn (F.inRound l) (n - 1 - 1) P (postQ w.heap.size Kp I Ix (pre ++ [x]) o W) (actf x gx) W)
    (hdone : ∀ (D : Nat) (xs : List α) (o : Option Nat) (W : World), w.heap.size ≤ D → FreshO o₀ o w → S xs → I xs o W → W.heap[D]? = some (.deferred (some [])) → some D ≠ o → Q .normal { a with defers := { target := .collected D, args := #[] } :: a.defers } W)
    (hstop : ∀ (D : Nat) (c : Code) (pre : List α) (o : Option Nat) (W : World), w.heap.size ≤ D → FreshO o₀ o w → Sp pre → Ix c pre o W → W.heap[D]? = some (.deferred (some [])) → some D ≠ o → c.wpIn F n P Q { a with defers := { target := .collected D, args := #[] } :: a.defers } W) :
    (Code.rangeFunc g ps assign body).wpIn F n P Q a w :=
  wpIn_rangeQ hro h1 hg hFg eg hseq hKt hKb hb0 hps I Ix hI hIx o₀ ho₀ h0 (fun x _ a' W => ∃ gx, a' = actf x gx ∧ Blk W gx T (cells x))
    (fun x o a' X l ob r hl h => by obtain ⟨gx, e, hb⟩ := h; exact ⟨gx, e, (World.putObj_heap_other (fun e2 => by subst e2; rw [show X.heap[gx]? = _ from hb] at hl; cases hl)).trans hb⟩)
    (fun l pre x o W K h1 h2 h3 h4 hK => hassign l pre x o W K h1 h2 h3 h4 (fun gx W' a b c d => hK _ W' a b c ⟨gx, rfl, d⟩))
    hrow hrowx (fun l pre x o a' W h1 h2 h3 h4 => by obtain ⟨gx, rfl, hb⟩ := h3; exact hbody l pre x o gx W h1 h2 hb h4) hdone hstop
theorem readA_below {w W : World} {u : Value} {L : List (Int × Int)} (h : ReadA w u L) (hB : Below w.heap.size w W) : ReadA W u L := by
  obtain ⟨q, cap, e, hA⟩ := h
  exact ⟨q, cap, e, fun j hj => by
    obtain ⟨g, h1, h2, h3, h4⟩ := hA j hj
    exact ⟨g, h1, Nat.lt_of_lt_of_le h2 hB.size, (hB.cell (p := ⟨g, j * 2, none⟩) h2).trans h3, (hB.cell (p := ⟨g, j * 2 + 1, none⟩) h2).trans h4⟩⟩
theorem keepP_same {P : Nat → Prop} {X : World} {g : Nat} {t : TypeId} {v : Value} (hb : Blk X g t #[v]) : KeepP P X (X.setCell ⟨g, 0, none⟩ v) := ⟨by simp, fun b _ => by
    by_cases hbe : b = g
    · subst hbe
      exact (show (X.setCell ⟨b, 0, none⟩ v).heap[b]? = _ from hb.set_ 0 v).trans hb.symm
    · exact Below.heap_setCell X ⟨g, 0, none⟩ v b hbe⟩
/-- What stands at a turn's head. -/
def TurnF (w V : World) (many : Int) (g3 : Nat) (vw : Value) (gs : Nat) (us : Value) (wl : List (Int × Int)) : Prop :=
  Blk V w.heap.size 3 #[.int .i64 many] ∧ Blk V (w.heap.size + 1) 4 #[.bool false] ∧ Blk V g3 49 #[vw] ∧ ReadA V vw wl ∧ Blk V gs 49 #[us] ∧ ReadA V us wl ∧ Below w.heap.size w V ∧ w.heap.size + 2 ≤ V.heap.size
theorem TurnF.next {w V V' : World} {many : Int} {g3 : Nat} {vw : Value} {gs : Nat} {us : Value} {wl : List (Int × Int)} (h : TurnF w V many g3 vw gs us wl) (hB : Below V.heap.size V V') : TurnF w V' many g3 vw gs us wl := by
  obtain ⟨h1, h2, h3, h4, h5, h6, h7, h8⟩ := h
  exact ⟨h1.below hB h1.lt, h2.below hB h2.lt, h3.below hB h3.lt, readA_below h4 hB, h5.below hB h5.lt, readA_below h6 hB, below_in h7 hB, Nat.le_trans h8 hB.size⟩
theorem prefix_next {L pre : List (Int × Int)} {z : Int × Int} (hpre : pre <+: L) (h : L[pre.length]? = some z) : pre ++ [z] <+: L := by
  obtain ⟨t, rfl⟩ := hpre
  cases t with
  | nil => rw [List.append_nil, List.getElem?_eq_none (Nat.le_refl _)] at h; cases h
  | cons x t =>
    rw [List.getElem?_append_right (Nat.le_refl _), Nat.sub_self] at h
    injection h with h
    obtain rfl : x = z := h
    exact ⟨t, by simp⟩
theorem prefix_not {L pre : List (Int × Int)} {z : Int × Int} (h : L[pre.length]? ≠ some z) : ¬ (pre ++ [z] <+: L) := fun hp => by
  obtain ⟨t, rfl⟩ := hp
  apply h
  rw [List.append_assoc, List.getElem?_append_right (Nat.le_refl _), Nat.sub_self]
  rfl
end Go.Proofs.YtggdlklkjnbbjaaGreatDoor.R

namespace Go.Proofs.YtggdlklkjnbbjaaGreatDoor.R
open Go.RowKit Go.Shelf Go.Proofs.YtggdlklkjnbbjaaGreatDoor.C Go.Proofs.YtggdlklkjnbbjaaGreatDoor.E
set_option linter.unusedSimpArgs false
set_option linter.unusedVariables false

section
variable {p : Int} {a all : List (List (List UInt8))}
end
section
variable {p : Int} {all : List (List (List UInt8))} {X Y : Nat} {c : List UInt8}
end
end Go.Proofs.YtggdlklkjnbbjaaGreatDoor.R

namespace Go.Proofs.YtggdlklkjnbbjaaGreatDoor.R
open Go.RowKit Go.Shelf Go.Proofs.YtggdlklkjnbbjaaGreatDoor.C Go.Proofs.YtggdlklkjnbbjaaGreatDoor.E Go.ChangeShapes Go.WideShapes
set_option linter.unusedSimpArgs false
set_option linter.unusedVariables false

/-- A row of the call's own, as its block. -/
theorem RowG.blk {α : Type} {r : Rep α} {t : TypeId} {d : α} {Q : Nat → Prop} {W : World} {base : Nat} {v : Value} {xs : List α} (h : RowG r t d Q W base v xs) (h0 : 0 < xs.length) :
    ∃ g cap cur, v = .slice (some ⟨g, 0, none⟩) xs.length cap ∧ base ≤ g ∧ Blk W g t cur ∧ xs.length ≤ cap ∧ ∀ j, j < xs.length → ∃ u, cur[j]? = some u ∧ r.R (fun b => b < W.heap.size ∧ b ≠ g ∧ Q b) W u (xs[j]?.getD d) := by
  obtain ⟨us, ho, hn, hr⟩ := h
  rcases ho.2 with ⟨_, h1⟩ | ⟨g, cap, cur, e, hg, hb, hnc, _, hsz, htk⟩
  · omega
  subst e
  rw [Nat.mul_one] at htk
  refine ⟨g, cap, cur, by rw [hn], hg, hb, by omega, fun j hj => ?_⟩
  have hj2 : j < us.length := by omega
  have hu : us[j]? = some us[j] := List.getElem?_eq_getElem hj2
  refine ⟨us[j], ?_, r.imp (hr j us[j] hu) fun b hb => ⟨hb.1, fun e => hb.2.1 (by rw [e]; rfl), hb.2.2⟩⟩
  have h2 : (cur.toList.take us.length)[j]? = some us[j] := by rw [htk]; exact hu
  rw [List.getElem?_take_of_lt hj2] at h2
  rwa [Array.getElem?_toList] at h2
end Go.Proofs.YtggdlklkjnbbjaaGreatDoor.R

