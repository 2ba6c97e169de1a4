/- The document's Members, Parity. The document's Parity. The mathematics of the document's columns of any code: what is made by members. The mathematics of EVENODD: where columns go one to the right, that of diagonals is turned by one. The mathematics of STAR: slants, columns turned over, what is made of them. EVENOdecide (encOf p (css.take p.toNat) = css.drop p.toNat): Check. The document's answers for EVENODD: the same columns. The document's answers for EVENODD: a nought; columns put upon one another. The laws of EVENODD: what they share: num, code, right. The laws of EVENODD: the chapter's rows. EvenoddHolds: what is called, of two lists of columns that are right. -/
import Derived.Test.YtcgnhfiadeceiaaGreatDoorJG7
import Derived.Test.YtcgnhfiadeceiaaGreatDoorJG6
import Derived.Test.YtcgnhfiadeceiaaGreatDoorJG1
namespace Go.Proofs.YtcgnhfiadeceiaaGreatDoor
open Go.RowKit Go.Shelf
set_option linter.unusedSimpArgs false
set_option linter.unusedVariables false

theorem refMember_any (k p mx my x y : Int) (hR : RightC k p) (hc : HasCell k p mx my) (hm : p - shortN k ≤ mx) (hx : HasCell k p x y) (w : World) :
    Calls Tryz.prog 74 #[.agg #[.int .i64 k, .int .i64 p], .agg #[.int .i64 mx, .int .i64 my], .agg #[.int .i64 x, .int .i64 y]] w fun e w' => e = .returned (.bool (memB k p mx my x y)) ∧ Below w.heap.size w w' := by
  obtain ⟨p1, p2, s1, s2, m1, m2⟩ := hR.und
  have h := member_walk k p mx my x y _ _ _ _ (by omega) (fun W => refRole_any k p mx hR ⟨hc.1.1, by have := hc.1.2; omega⟩ W) (fun W => refRole_any k p x hR ⟨hx.1.1, by have := hx.1.2; omega⟩ W)
    (fun W => refDiagonal_any k p x y hR ⟨hx.1.1, by have := hx.1.2; omega⟩ ⟨hx.2.1, by have := hx.2.2; omega⟩ W) (fun W => refSlant_any k p x y hR ⟨hx.1.1, by have := hx.1.2; omega⟩ ⟨hx.2.1, by have := hx.2.2; omega⟩ W) w
  rw [refB_mem hR hc hm hx] at h
  exact h

set_option maxRecDepth 100000 in
set_option maxHeartbeats 2000000 in
theorem refMembers_any (k p mx my : Int) (hR : RightC k p) (hc : HasCell k p mx my) (hm : p - shortN k ≤ mx) (w : World) :
    Calls Tryz.prog 44 #[.agg #[.int .i64 k, .int .i64 p], .agg #[.int .i64 mx, .int .i64 my]] w fun e w' => ∃ v, e = .returned v ∧ OwnA w' w.heap.size v (memL k p mx my) ∧ Below w.heap.size w w' := by
  obtain ⟨p1, p2, s1, s2, m1, m2⟩ := hR.und
  have HME := Lib.hid (fun x y hx W => refMember_any k p mx my x y hR hc hm hx W)
  have HCo := Lib.hid (fun W => refCols_any k p hR W)
  have HRw := Lib.hid (fun W => refRows_any k p hR W)
  have HEND : Hid ((grid 0 (p - 1).toNat (p - shortN k + madeN k).toNat 0).filter (fun z => memB k p mx my z.1 z.2) = memL k p mx my) := by
    have := grid_flat 0 (p - shortN k + madeN k) p
    rw [Int.sub_zero] at this
    unfold Hid
    rw [this]
    exact memL_all hR hc hm
  unfold HasCell at HME
  generalize memL k p mx my = want at *
  generalize hq : (fun z : Int × Int => memB k p mx my z.1 z.2) = q at HEND
  have HQ := Lib.hid (fun x y => (congrFun hq (x, y) : memB k p mx my x y = q (x, y)))
  clear hq hc hm hR
  have hcc : 0 ≤ p - shortN k + madeN k ∧ p - shortN k + madeN k ≤ 20 := by omega
  generalize p - shortN k + madeN k = cc at *
  obtain ⟨C, rfl⟩ : ∃ C : Nat, cc = (C : Int) := ⟨cc.toNat, by omega⟩
  obtain ⟨R, hRR⟩ : ∃ R : Nat, p - 1 = (R : Int) := ⟨(p - 1).toNat, by omega⟩
  rw [hRR] at HRw HME HEND
  have hR16 : R ≤ 16 := by omega
  have hC19 : C ≤ 20 := by omega
  clear hRR p1 p2 s1 s2 m1 m2 hcc
  obtain ⟨W0, hW0⟩ : ∃ W0, (w.alloc (.cells #[.int .i64 k, .int .i64 p] 37)).alloc (.cells #[.int .i64 mx, .int .i64 my] 71) = W0 := ⟨_, rfl⟩
  have b0 : Blk W0 w.heap.size 37 #[.int .i64 k, .int .i64 p] := by rw [← hW0]; exact (Blk.new w _ _).alloc _
  have b1 : Blk W0 (w.heap.size + 1) 71 #[.int .i64 mx, .int .i64 my] := by rw [← hW0]; exact Blk.second w _ _ _
  have hB : Below w.heap.size w W0 := by rw [← hW0]; exact below_two w _ _
  go_enter Tryz.func44, Tryz.ntmps44
  go_wp2_with fail
  clear hW0
  go_loopw [5, 6] (fun v i wr => ∃ j : Nat, j ≤ C ∧ i = .int .i64 j ∧ OwnA wr (w.heap.size + 2) v ((grid 0 R j 0).filter q) ∧ Blk wr w.heap.size 37 #[.int .i64 k, .int .i64 p] ∧ Blk wr (w.heap.size + 1) 71 #[.int .i64 mx, .int .i64 my] ∧ Below w.heap.size w wr) (fun _ i _ => C - (intOf i).toNat)
  case atStart => exact ⟨0, by omega, rfl, ownA_nil _ _, b0, b1, hB⟩
  case round =>
    clear b0 b1 hB
    obtain ⟨j, hj, rfl, ho, b0, b1, hB⟩ := hrel
    have c0 := b0.cell 0; have c1 := b0.cell 1; have a0 := b1.cell 0; have a1 := b1.cell 1; simp only [List.getElem?_toArray, List.getElem?_cons_zero, List.getElem?_cons_succ] at c0 c1 a0 a1
    by_cases hlt : j < C
    · have hdec : decide ((j : Int) < (C : Int)) = true := by simp; omega
      go_wp2_with (go_at_call 41; refine (HCo.out _).mono ?_; rintro e w1 ⟨rfl, hB1⟩; replace ho := ho.below hB1; replace b0 := b0.below hB1 b0.lt; replace b1 := b1.below hB1 b1.lt; replace hB := below_in hB hB1; have c0 := b0.cell 0; have c1 := b0.cell 1; have a0 := b1.cell 0; have a1 := b1.cell 1; simp only [List.getElem?_toArray, List.getElem?_cons_zero, List.getElem?_cons_succ] at c0 c1 a0 a1)
      go_loopw [5, 7] (fun v i wz => ∃ n : Nat, n ≤ R ∧ i = .int .i64 n ∧ OwnA wz (w.heap.size + 2) v ((grid 0 R j n).filter q) ∧ Blk wz w.heap.size 37 #[.int .i64 k, .int .i64 p] ∧ Blk wz (w.heap.size + 1) 71 #[.int .i64 mx, .int .i64 my] ∧ Below w.heap.size w wz) (fun _ i _ => R - (intOf i).toNat)
      case atStart => exact ⟨0, by omega, rfl, ho, b0, b1, hB⟩
      case round =>
        clear ho b0 b1 hB c0 c1 a0 a1
        obtain ⟨n, hn, rfl, ho, b0, b1, hB⟩ := hrel
        have c0 := b0.cell 0; have c1 := b0.cell 1; have a0 := b1.cell 0; have a1 := b1.cell 1; simp only [List.getElem?_toArray, List.getElem?_cons_zero, List.getElem?_cons_succ] at c0 c1 a0 a1
        by_cases hlt2 : n < R
        · have hdec2 : decide ((n : Int) < (R : Int)) = true := by simp; omega
          have hfl : ((grid 0 R j n).filter q).length ≤ 500 := Nat.le_trans (List.length_filter_le _ _) (grid_len 0 R j n hR16 (by omega) (by omega))
          go_wp2_with fail
          refine (HRw.out _).mono ?_
          rintro e w1 ⟨rfl, hB1⟩
          replace ho := ho.below hB1
          replace b0 := b0.below hB1 b0.lt
          replace b1 := b1.below hB1 b1.lt
          replace hB := below_in hB hB1
          clear hB1 c0 c1 a0 a1
          have hBx := below_one w1 (.cells #[.int .i64 j, .int .i64 n] 71)
          have b2 := Blk.new w1 71 #[.int .i64 j, .int .i64 n]
          replace ho := ho.below hBx
          replace b0 := b0.below hBx b0.lt
          replace b1 := b1.below hBx b1.lt
          replace hB := below_in hB hBx
          have c0 := b0.cell 0; have c1 := b0.cell 1; have a0 := b1.cell 0; have a1 := b1.cell 1; simp only [List.getElem?_toArray, List.getElem?_cons_zero, List.getElem?_cons_succ] at c0 c1 a0 a1
          have z0 := b2.cell 0; have z1 := b2.cell 1; simp only [List.getElem?_toArray, List.getElem?_cons_zero, List.getElem?_cons_succ] at z0 z1
          have HM := Lib.hid (HME.out j n ⟨⟨by omega, by omega⟩, by omega, by omega⟩)
          have hqq := HQ.out (j : Int) (n : Int)
          rw [hqq] at HM
          clear hqq
          cases hqz : q ((j : Int), (n : Int)) with
          | false =>
            rw [hqz] at HM
            have hnx : (grid 0 R j (n + 1)).filter q = (grid 0 R j n).filter q := by rw [grid_one, List.filter_append]; simp [hqz]
            generalize (grid 0 R j n).filter q = l at *
            have HN := Lib.hid hnx
            clear hnx
            go_wp2_with (go_at_call 74; refine (HM.out _).mono ?_; rintro e w3 ⟨rfl, hB1⟩; replace ho := ho.below hB1; replace b0 := b0.below hB1 b0.lt; replace b1 := b1.below hB1 b1.lt; replace hB := below_in hB hB1)
            go_roundw
            case rel => exact ⟨n + 1, by omega, by go_num, by rw [HN.out]; exact ho, b0, b1, hB⟩
            case measure => simp [intOf]; omega
          | true =>
            rw [hqz] at HM
            have hnx : (grid 0 R j (n + 1)).filter q = (grid 0 R j n).filter q ++ [((j : Int), (n : Int))] := by rw [grid_one, List.filter_append]; simp [hqz]
            generalize (grid 0 R j n).filter q = l at *
            have HN := Lib.hid hnx
            clear hnx
            go_wp2_with fail
            refine (HM.out _).mono ?_
            rintro e w3 ⟨rfl, hB1⟩
            replace ho := ho.below hB1
            replace b0 := b0.below hB1 b0.lt
            replace b1 := b1.below hB1 b1.lt
            replace b2 := b2.below hB1 b2.lt
            replace hB := below_in hB hB1
            clear c0 c1 a0 a1 z0 z1
            have z0 := b2.cell 0; have z1 := b2.cell 1; simp only [List.getElem?_toArray, List.getElem?_cons_zero, List.getElem?_cons_succ] at z0 z1
            have hBy := below_one w3 (.cells #[.int .i64 j, .int .i64 n] 71)
            have HO := Lib.hid (ho.below hBy)
            have HU := Lib.hid (Blk.new w3 71 #[.int .i64 j, .int .i64 n])
            replace b0 := b0.below hBy b0.lt
            replace b1 := b1.below hBy b1.lt
            replace hB := below_in hB hBy
            have hs3 := hB.size
            have hs4 := b1.lt
            have ho4 := ho.own_le
            have hn0 := ho.ne (g := w.heap.size) (by omega)
            have hn1 := ho.ne (g := w.heap.size + 1) (by omega)
            go_wp2_with (at_builtin; refine wpList_code _ rfl _ _ 68 71 (.agg #[.int .i64 0, .int .i64 0]) 16 rfl Tryz.underlying68 Tryz.infoAt rfl (w.heap.size + 2) _ _ rfl _ HO.out _ 1 _ _ rfl HU.out (by omega) (by omega) (by omega) ?_; intro v2 w2 hown2 hgrow2)
            go_roundw
            case rel => exact ⟨n + 1, by omega, by go_num, by rw [HN.out]; exact OwnA.push hown2, b0.grown hgrow2 hn0, b1.grown hgrow2 hn1, hB.grown hgrow2 hB.size (fun r e => by have := ho4 r e; omega)⟩
            case measure => simp [intOf]; omega
        · obtain rfl : n = R := by omega
          have hdec2 : decide ((n : Int) < (n : Int)) = false := by simp
          go_wp2_with (go_at_call 42; refine (HRw.out _).mono ?_; rintro e w1 ⟨rfl, hB1⟩; replace ho := ho.below hB1; replace b0 := b0.below hB1 b0.lt; replace b1 := b1.below hB1 b1.lt; replace hB := below_in hB hB1; have c0 := b0.cell 0; have c1 := b0.cell 1; have a0 := b1.cell 0; have a1 := b1.cell 1; simp only [List.getElem?_toArray, List.getElem?_cons_zero, List.getElem?_cons_succ] at c0 c1 a0 a1)
          go_roundw
          case rel => exact ⟨j + 1, by omega, by go_num, by rw [grid_row]; exact ho, b0, b1, hB⟩
          case measure => simp [intOf]; omega
    · obtain rfl : j = C := by omega
      have hdec : decide ((j : Int) < (j : Int)) = false := by simp
      go_wp2_with (go_at_call 41; refine (HCo.out _).mono ?_; rintro e w1 ⟨rfl, hB1⟩; replace ho := ho.below hB1; replace b0 := b0.below hB1 b0.lt; replace b1 := b1.below hB1 b1.lt; replace hB := below_in hB hB1; have c0 := b0.cell 0; have c1 := b0.cell 1; have a0 := b1.cell 0; have a1 := b1.cell 1; simp only [List.getElem?_toArray, List.getElem?_cons_zero, List.getElem?_cons_succ] at c0 c1 a0 a1)
      have he := HEND.out
      simp only [Int.toNat_natCast] at he
      rw [he] at ho
      go_wp2
      go_ret
      exact ⟨_, rfl, ho.less (by omega), hB⟩
end Go.Proofs.YtcgnhfiadeceiaaGreatDoor

namespace Go.Proofs.YtcgnhfiadeceiaaGreatDoor.E
open Go.RowKit Go.Shelf Go.Proofs.YtcgnhfiadeceiaaGreatDoor.C
set_option linter.unusedSimpArgs false
set_option linter.unusedVariables false

/-- Columns of R cells of n bytes. -/
def Grid (R n : Nat) (css : List (List (List UInt8))) : Prop := ∀ j, j < css.length → (css[j]?.getD []).length = R ∧ ∀ i, i < R → ((css[j]?.getD [])[i]?.getD []).length = n
def cellI (css : List (List (List UInt8))) (z : Int × Int) : List UInt8 := cellOf_ css z.1.toNat z.2.toNat
/-- Cells at places, put upon one another. -/
def uponL (n : Nat) (css : List (List (List UInt8))) (l : List (Int × Int)) : List UInt8 := xors (List.replicate n 0) (l.map (cellI css))
/-- A column that is made of those ahead of it. -/
def colL (k p : Int) (n : Nat) (css : List (List (List UInt8))) (col : Int) : List (List UInt8) := (List.range (p - 1).toNat).map fun (row : Nat) => uponL n css (memL k p col (row : Int))
def stepsL (k p : Int) (n : Nat) (css : List (List (List UInt8))) : Nat → List (List (List UInt8))
  | 0 => css
  | m + 1 => stepsL k p n css m ++ [colL k p n (stepsL k p n css m) ((css.length : Int) + (m : Int))]
def inL (R N : Nat) (l : List (Int × Int)) : Prop := ∀ z ∈ l, (0 ≤ z.1 ∧ z.1 < (N : Int)) ∧ (0 ≤ z.2 ∧ z.2 < (R : Int))
def natZ (z : Int × Int) : Nat × Nat := (z.1.toNat, z.2.toNat)

theorem uponL_len (n : Nat) (css : List (List (List UInt8))) (l : List (Int × Int)) : (uponL n css l).length = n := by
  unfold uponL
  rw [xors_len, List.length_replicate]
theorem colL_len (k p : Int) (n : Nat) (css : List (List (List UInt8))) (col : Int) : (colL k p n css col).length = (p - 1).toNat := by unfold colL; simp
theorem colL_at (k p : Int) (n : Nat) (css : List (List (List UInt8))) (col : Int) {i : Nat} (hi : i < (p - 1).toNat) : (colL k p n css col)[i]?.getD [] = uponL n css (memL k p col (i : Int)) := by
  unfold colL
  rw [List.getElem?_map, List.getElem?_range hi]
  rfl
theorem stepsL_len (k p : Int) (n : Nat) (css : List (List (List UInt8))) : ∀ m, (stepsL k p n css m).length = css.length + m
  | 0 => rfl
  | m + 1 => by
    show (stepsL k p n css m ++ [_]).length = _
    rw [List.length_append, stepsL_len k p n css m]
    rfl
theorem Grid.snoc {R n : Nat} {css : List (List (List UInt8))} (h : Grid R n css) {cs : List (List UInt8)} (h1 : cs.length = R) (h2 : ∀ i, i < R → (cs[i]?.getD []).length = n) : Grid R n (css ++ [cs]) := by
  intro j hj
  rw [List.length_append] at hj
  rcases Nat.lt_or_ge j css.length with h3 | h3
  · rw [List.getElem?_append_left h3]
    exact h j h3
  · have : j = css.length := by simp at hj; omega
    subst this
    rw [List.getElem?_append_right (Nat.le_refl _), Nat.sub_self]
    exact ⟨h1, h2⟩
theorem Grid.col {R n : Nat} {css : List (List (List UInt8))} (h : Grid R n css) {k p : Int} (hR : R = (p - 1).toNat) (col : Int) (css' : List (List (List UInt8))) : Grid R n (css ++ [colL k p n css' col]) :=
  h.snoc (by rw [colL_len, hR]) fun i hi => by rw [colL_at k p n css' col (by omega), uponL_len]
theorem Grid.steps {R n : Nat} {css : List (List (List UInt8))} (h : Grid R n css) {k p : Int} (hR : R = (p - 1).toNat) : ∀ m, Grid R n (stepsL k p n css m)
  | 0 => h
  | m + 1 => (Grid.steps h hR m).col hR _ _
theorem Grid.cell {R n : Nat} {css : List (List (List UInt8))} (h : Grid R n css) {z : Int × Int} (h1 : z.1 < (css.length : Int)) (h0 : 0 ≤ z.1) (h2 : z.2 < (R : Int)) (h3 : 0 ≤ z.2) : (cellI css z).length = n :=
  (h z.1.toNat (by omega)).2 z.2.toNat (by omega)
theorem togOk_grid {R : Nat} {css : List (List (List UInt8))} (h : TogOk R css) : Grid R (firstC css).length css := fun j hj => ⟨(h.2 j hj).1, fun i hi => togOk_cell h hj hi⟩
theorem by_left {a b : List (List (List UInt8))} {c : Nat} (hc : c < a.length) (j r : Nat) : by_ (a ++ b) j c r = by_ a j c r := by
  unfold by_ cellOf_
  rw [List.getElem?_append_left hc]
theorem at_uponL {n : Nat} {css : List (List (List UInt8))} {l : List (Int × Int)} (h : ∀ z ∈ l, (cellI css z).length = n) (j : Nat) : at_ (uponL n css l) j = xa (l.map fun z => by_ css j z.1.toNat z.2.toNat) := by
  unfold uponL
  rw [at_upon (fun x hx => by
    obtain ⟨z, hz, rfl⟩ := List.mem_map.1 hx
    exact h z hz), List.map_map]
  rfl
theorem at_uponN {n : Nat} {css : List (List (List UInt8))} {l : List (Int × Int)} (h : ∀ z ∈ l, (cellI css z).length = n) (j : Nat) : at_ (uponL n css l) j = xa ((l.map natZ).map fun x => by_ css j x.1 x.2) := by
  rw [at_uponL h, List.map_map]
  rfl
def inB (R N : Nat) (l : List (Int × Int)) : Bool := l.all fun z => (decide (0 ≤ z.1) && decide (z.1 < (N : Int))) && (decide (0 ≤ z.2) && decide (z.2 < (R : Int)))
theorem inL_of {R N : Nat} {l : List (Int × Int)} (h : inB R N l = true) : inL R N l := by
  intro z hz
  have := List.all_eq_true.1 h z hz
  simpa using this
theorem inL.cells {R N n : Nat} {l : List (Int × Int)} (h : inL R N l) {css : List (List (List UInt8))} (hg : Grid R n css) (hN : N ≤ css.length) : ∀ z ∈ l, (cellI css z).length = n := fun z hz => by
  have := h z hz
  exact hg.cell (by omega) (by omega) (by omega) (by omega)
section
variable {p : Int} {css : List (List (List UInt8))}
end
end Go.Proofs.YtcgnhfiadeceiaaGreatDoor.E

namespace Go.Proofs.YtcgnhfiadeceiaaGreatDoor.T
open Go.RowKit Go.Shelf Go.Proofs.YtcgnhfiadeceiaaGreatDoor.C Go.Proofs.YtcgnhfiadeceiaaGreatDoor.E
set_option linter.unusedSimpArgs false
set_option linter.unusedVariables false

/-- The cells of a slant. -/
def lineS (p N line : Int) : List (Int × Int) := (flatC p (spanL 0 N)).filter fun z => decide ((z.2 - z.1) % p = line)
def slAt (p line : Int) : List (Nat × Nat) := (lineS p p line).map natZ
/-- The data cells of a slant, put upon one another. -/
def slOf (p : Int) (css : List (List (List UInt8))) (s : Int) : List UInt8 := uponL (firstC css).length css (lineS p p s)
/-- The byte j of the cells of a slant, put upon one another. -/
def sg_ (p : Int) (css : List (List (List UInt8))) (j : Nat) (s : Int) : UInt8 := xa ((slAt p s).map fun x => by_ css j x.1 x.2)
/-- The column of slants. -/
def slMade (p : Int) (css : List (List (List UInt8))) : List (List UInt8) := (List.range (p - 1).toNat).map fun (r : Nat) => xorB (slOf p css (r : Int)) (slOf p css (p - 1))
/-- The columns that STAR makes. -/
def starOf (p : Int) (css : List (List (List UInt8))) : List (List (List UInt8)) := encOf p css ++ [slMade p css]
/-- Columns turned over. -/
def overOf (css : List (List (List UInt8))) : List (List (List UInt8)) := css.take 1 ++ (css.drop 1).reverse

theorem slIn : ∀ p ∈ prm, ∀ s ∈ List.range p.toNat, inB (p - 1).toNat p.toNat (lineS p p (s : Int)) = true := by decide +kernel
theorem slPos : ∀ p ∈ prm, ∀ s ∈ List.range p.toNat, 0 < (lineS p p (s : Int)).length := by decide +kernel
theorem memRow3 : ∀ p ∈ prm, ∀ r ∈ List.range (p - 1).toNat, memL 3 p p (r : Int) = (List.range p.toNat).map fun (c : Nat) => ((c : Int), (r : Int)) := by decide +kernel
theorem memDiag3 : ∀ p ∈ prm, ∀ r ∈ List.range (p - 1).toNat, ((memL 3 p (p + 1) (r : Int)).map natZ).isPerm (diagAt p (p - 1) p.toNat ++ diagAt p (r : Int) p.toNat) = true := by decide +kernel
theorem memSlant3 : ∀ p ∈ prm, ∀ r ∈ List.range (p - 1).toNat, ((memL 3 p (p + 2) (r : Int)).map natZ).isPerm (slAt p (r : Int) ++ slAt p (p - 1)) = true := by decide +kernel
theorem memIn3 : ∀ p ∈ prm, ∀ r ∈ List.range (p - 1).toNat, ∀ m ∈ [0, 1, 2], inB (p - 1).toNat p.toNat (memL 3 p (p + m) (r : Int)) = true := by decide +kernel
section
variable {p : Int} {a b css : List (List (List UInt8))}
theorem sl_in (hp : p ∈ prm) {s : Int} (h0 : 0 ≤ s) (h1 : s < p) : inL (p - 1).toNat p.toNat (lineS p p s) := by
  have h := inL_of (slIn p hp s.toNat (List.mem_range.2 (by omega)))
  rwa [show ((s.toNat : Nat) : Int) = s by omega] at h
theorem sl_pos (hp : p ∈ prm) {s : Int} (h0 : 0 ≤ s) (h1 : s < p) : 0 < (lineS p p s).length := by
  have h := slPos p hp s.toNat (List.mem_range.2 (by omega))
  rwa [show ((s.toNat : Nat) : Int) = s by omega] at h
theorem slOf_len (s : Int) : (slOf p css s).length = (firstC css).length := uponL_len _ _ _
theorem at_sl (h : DataOk p css) {s : Int} (h0 : 0 ≤ s) (h1 : s < p) (j : Nat) : at_ (slOf p css s) j = sg_ p css j s := by
  have hd := dataOk_n h
  unfold slOf sg_ slAt
  exact at_uponN ((sl_in h.1.2 h0 h1).cells (togOk_grid h.2.2) (by omega)) j
theorem slMade_len : (slMade p css).length = (p - 1).toNat := by unfold slMade; simp
theorem slMade_at {r : Nat} (hr : r < (p - 1).toNat) : (slMade p css)[r]?.getD [] = xorB (slOf p css (r : Int)) (slOf p css (p - 1)) := by
  unfold slMade
  rw [List.getElem?_map, List.getElem?_range hr]
  rfl
theorem slCell_len (s t : Int) : (xorB (slOf p css s) (slOf p css t)).length = (firstC css).length := by rw [xorB_len, slOf_len]
theorem at_slMade (h : DataOk p css) {r : Nat} (hr : (r : Int) < p) (j : Nat) : at_ (xorB (slOf p css (r : Int)) (slOf p css (p - 1))) j = sg_ p css j r ^^^ sg_ p css j (p - 1) := by
  have hd := dataOk_n h
  rw [at_xorB _ _ _ (by rw [slOf_len, slOf_len]), at_sl h (by omega) hr, at_sl h (by omega) (by omega)]
/-- What STAR makes has columns of as many cells, of that length. -/
theorem star_cells (h : DataOk p css) : (starOf p css).length = 3 ∧ ∀ j, j < 3 → ((starOf p css)[j]?.getD []).length = (p - 1).toNat ∧ ∀ i, i < (p - 1).toNat → (((starOf p css)[j]?.getD [])[i]?.getD []).length = (firstC css).length := by
  have he := enc_cells h
  refine ⟨rfl, fun j hj => ?_⟩
  rcases (by omega : j < 2 ∨ j = 2) with h2 | rfl
  · have e : (starOf p css)[j]?.getD [] = (encOf p css)[j]?.getD [] := by
      unfold starOf
      rw [List.getElem?_append_left (by rw [he.1]; exact h2)]
    rw [e]
    exact he.2 j h2
  · exact ⟨slMade_len, fun i hi => by show ((slMade p css)[i]?.getD []).length = _; rw [slMade_at hi, slCell_len]⟩
theorem col3_rows (h : DataOk p css) : colL 3 p (firstC css).length css p = rowsMade (p - 1).toNat css := by
  have hd := dataOk_n h
  have hg := togOk_grid h.2.2
  unfold colL
  refine Eq.trans ?_ (rfl : (List.range (p - 1).toNat).map (fun r => xorOf (rowOf css r)) = _)
  refine List.map_congr_left fun r hr => ?_
  have hr' := List.mem_range.1 hr
  have hin := inL_of (memIn3 p h.1.2 r hr 0 (by simp))
  rw [Int.add_zero] at hin
  refine ext_at (by rw [uponL_len, row_len h hr']) fun j => ?_
  rw [at_uponL (hin.cells hg (by omega)) j, at_row h hr', memRow3 p h.1.2 r hr, List.map_map]
  rfl
theorem col3_diags (h : DataOk p css) (cs : List (List UInt8)) (hcs : cs.length = (p - 1).toNat ∧ ∀ i, i < (p - 1).toNat → (cs[i]?.getD []).length = (firstC css).length) : colL 3 p (firstC css).length (css ++ [cs]) (p + 1) = diagsMade p (p - 1).toNat css := by
  have hd := dataOk_n h
  have hg := (togOk_grid h.2.2).snoc hcs.1 hcs.2
  unfold colL
  refine Eq.trans ?_ (rfl : (List.range (p - 1).toNat).map (fun (r : Nat) => xorOf ([adjOf p css] ++ diagOf p r css)) = _)
  refine List.map_congr_left fun r hr => ?_
  have hr' := List.mem_range.1 hr
  have hin := inL_of (memIn3 p h.1.2 r hr 1 (by simp))
  have hrp : (r : Int) < p := by omega
  refine ext_at (by rw [uponL_len, diag_len h hrp]) fun j => ?_
  rw [at_uponN (hin.cells hg (by rw [List.length_append]; omega)) j, at_diagMade h hrp, xa_perm ((List.isPerm_iff.1 (memDiag3 p h.1.2 r hr)).map _), List.map_append, xa_append]
  have hE : ∀ a : Int, xa ((diagAt p a p.toNat).map fun x => by_ (css ++ [cs]) j x.1 x.2) = dg_ p css j a := fun a => by
    unfold dg_
    congr 1
    refine List.map_congr_left fun x hx => ?_
    have := diagAt_in (by omega) hx
    exact by_left (by omega) j x.2
  rw [hE, hE]
theorem slAt_lt (hp : p ∈ prm) {s : Int} (h0 : 0 ≤ s) (h1 : s < p) {x : Nat × Nat} (hx : x ∈ slAt p s) : x.1 < p.toNat ∧ x.2 < (p - 1).toNat := by
  unfold slAt at hx
  obtain ⟨z, hz, rfl⟩ := List.mem_map.1 hx
  have := sl_in hp h0 h1 z hz
  show z.1.toNat < _ ∧ z.2.toNat < _
  omega
theorem col3_slants (h : DataOk p css) (ds : List (List (List UInt8))) (hg : Grid (p - 1).toNat (firstC css).length (css ++ ds)) : colL 3 p (firstC css).length (css ++ ds) (p + 2) = slMade p css := by
  have hd := dataOk_n h
  unfold colL
  refine Eq.trans ?_ (rfl : (List.range (p - 1).toNat).map (fun (r : Nat) => xorB (slOf p css (r : Int)) (slOf p css (p - 1))) = _)
  refine List.map_congr_left fun r hr => ?_
  have hr' := List.mem_range.1 hr
  have hin := inL_of (memIn3 p h.1.2 r hr 2 (by simp))
  have hrp : (r : Int) < p := by omega
  refine ext_at (by rw [uponL_len, slCell_len]) fun j => ?_
  rw [at_uponN (hin.cells hg (by rw [List.length_append]; omega)) j, at_slMade h hrp, xa_perm ((List.isPerm_iff.1 (memSlant3 p h.1.2 r hr)).map _), List.map_append, xa_append]
  have hE : ∀ s : Int, 0 ≤ s → s < p → xa ((slAt p s).map fun x => by_ (css ++ ds) j x.1 x.2) = sg_ p css j s := fun s h0 h1 => by
    unfold sg_
    congr 1
    refine List.map_congr_left fun x hx => ?_
    have := slAt_lt h.1.2 h0 h1 hx
    exact by_left (by omega) j x.2
  rw [hE _ (by omega) (by omega), hE _ (by omega) (by omega)]
/-- STAR's columns are those that the document makes by members. -/
theorem steps3 (h : DataOk p css) : stepsL 3 p (firstC css).length css 3 = css ++ starOf p css := by
  have hd := dataOk_n h
  have hg := togOk_grid h.2.2
  have e0 : ((css.length : Int) + ((0 : Nat) : Int)) = p := by omega
  have e1 : ((css.length : Int) + ((1 : Nat) : Int)) = p + 1 := by omega
  have e2 : ((css.length : Int) + ((2 : Nat) : Int)) = p + 2 := by omega
  have hr : (rowsMade (p - 1).toNat css).length = (p - 1).toNat ∧ ∀ i, i < (p - 1).toNat → ((rowsMade (p - 1).toNat css)[i]?.getD []).length = (firstC css).length := ⟨rowsMade_len _, fun i hi => by rw [rowsMade_at h hi]; exact row_len h hi⟩
  have hdg : (diagsMade p (p - 1).toNat css).length = (p - 1).toNat ∧ ∀ i, i < (p - 1).toNat → ((diagsMade p (p - 1).toNat css)[i]?.getD []).length = (firstC css).length := ⟨diagsMade_len _, fun i hi => by rw [diagsMade_at h hi]; exact diag_len h (by omega)⟩
  have hg2 := (hg.snoc hr.1 hr.2).snoc hdg.1 hdg.2
  rw [List.append_assoc] at hg2
  have hs3 := col3_slants h _ hg2
  rw [← List.append_assoc] at hs3
  show ((css ++ [colL 3 p _ css _]) ++ [colL 3 p _ (css ++ [colL 3 p _ css _]) _]) ++ [colL 3 p _ ((css ++ [colL 3 p _ css _]) ++ [colL 3 p _ (css ++ [colL 3 p _ css _]) _]) _] = _
  rw [e0, e1, e2, col3_rows h, col3_diags h _ hr, hs3, List.append_assoc, List.append_assoc]
  rfl

theorem overOf_len (h0 : 0 < css.length) : (overOf css).length = css.length := by
  unfold overOf
  rw [List.length_append, List.length_take, List.length_reverse, List.length_drop]
  omega
theorem overOf_col {N : Nat} (hN : css.length = N) {c : Nat} (hc : c < N) : (overOf css)[c]?.getD [] = css[(N - c) % N]?.getD [] := by
  unfold overOf
  rcases Nat.eq_zero_or_pos c with rfl | h1
  · rw [Nat.sub_zero, Nat.mod_self, List.getElem?_append_left (by rw [List.length_take]; omega), List.getElem?_take_of_lt (by omega)]
  · rw [Nat.mod_eq_of_lt (by omega), List.getElem?_append_right (by rw [List.length_take]; omega), List.length_take, Nat.min_eq_left (by omega), List.getElem?_reverse (by rw [List.length_drop]; omega), List.length_drop, List.getElem?_drop]
    congr 2
    omega
theorem over_ok (h : DataOk p css) : DataOk p (overOf css) ∧ firstC (overOf css) = firstC css := by
  have hd := dataOk_n h
  obtain ⟨hR, hn, h0, hall⟩ := id h
  have hf : firstC (overOf css) = firstC css := by
    unfold firstC
    rw [overOf_col hd.1 (by omega), Nat.sub_zero, Nat.mod_self]
  refine ⟨⟨hR, by rw [overOf_len h0]; exact hn, by rw [overOf_len h0]; exact h0, fun j hj => ?_⟩, hf⟩
  rw [overOf_len h0] at hj
  rw [overOf_col hd.1 (by omega), hf]
  exact hall _ (by rw [hd.1]; exact Nat.mod_lt _ (by omega))
end
end Go.Proofs.YtcgnhfiadeceiaaGreatDoor.T

namespace Go.Proofs.YtcgnhfiadeceiaaGreatDoor.E
open Go.RowKit Go.Shelf Go.Proofs.YtcgnhfiadeceiaaGreatDoor.C
set_option linter.unusedSimpArgs false
set_option linter.unusedVariables false

theorem sameCol_any {B B' : Nat} (v1 v2 : Value) (ls os : List (List UInt8)) (w : World) (h1 : Many B w v1 ls) (h2 : Many B' w v2 os) (hls : ls.length ≤ 100000) (hos : os.length ≤ 100000) :
    Calls Tryz.prog 26 #[v1, v2] w fun e w' => e = .returned (.bool (decide (ls = os))) ∧ Below w.heap.size w w' := by
  have H := Lib.hid (rsame_any v1 v2 ls os w h1 h2 (by omega) (by omega))
  obtain ⟨A1, cap1, rfl, _, _⟩ := id h1
  obtain ⟨A2, cap2, rfl, _, _⟩ := id h2
  generalize decide (ls = os) = d at *
  go_enter Tryz.func26, Tryz.ntmps26
  go_wp2_with (go_at_call 57; refine H.out.mono ?_; rintro e w2 ⟨rfl, hB2⟩)
  go_ret
  exact ⟨rfl, hB2⟩
theorem same3_iff (ls os : List (List (List UInt8))) : ls = os ↔ ls.length = os.length ∧ ∀ j, j < ls.length → (ls[j]?.getD []) = (os[j]?.getD []) := by
  constructor
  · rintro rfl
    exact ⟨rfl, fun _ _ => rfl⟩
  · rintro ⟨h1, h2⟩
    apply List.ext_getElem h1
    intro j hj hj2
    have := h2 j hj
    rwa [List.getElem?_eq_getElem hj, List.getElem?_eq_getElem hj2] at this
set_option maxRecDepth 100000 in
set_option maxHeartbeats 1000000 in
theorem same6_any {B B' : Nat} (v1 v2 : Value) (ls os : List (List (List UInt8))) (w : World) (h1 : Cols B w v1 ls) (h2 : Cols B' w v2 os) (hB1 : B ≤ w.heap.size) (hB2 : B' ≤ w.heap.size) (hls : ∀ j : Nat, (ls[j]?.getD []).length ≤ 1000) (hos : ∀ j : Nat, (os[j]?.getD []).length ≤ 1000) (hl1 : ls.length ≤ 1000) (hl2 : os.length ≤ 1000) :
    Calls Tryz.prog 18 #[v1, v2] w fun e w' => e = .returned (.bool (decide (ls = os))) ∧ Below w.heap.size w w' := by
  obtain ⟨A1, cap1, rfl, _, _⟩ := id h1
  obtain ⟨A2, cap2, rfl, _, _⟩ := id h2
  have hb := same3_iff ls os
  have HLS := Lib.hid hls
  have HOS := Lib.hid hos
  clear hls hos
  by_cases hl : ls.length = os.length
  · have e0 : ((ls.length : Int) != (os.length : Int)) = false := by rw [hl]; simp
    have HL := Lib.hid hl
    have HB := Lib.hid hb
    clear hb hl
    go_enter Tryz.func18, Tryz.ntmps18
    go_wp2
    go_loopw [5] (fun i wr => ∃ k : Nat, k ≤ ls.length ∧ i = .int .i64 k ∧ Hid (∀ j, j < k → (ls[j]?.getD []) = (os[j]?.getD [])) ∧ Below w.heap.size w wr) (fun i _ => ls.length - (intOf i).toNat)
    case atStart => exact ⟨0, Nat.zero_le _, rfl, (Lib.hid fun j hj => absurd hj (by omega)), Below.refl _ _⟩
    case round =>
      obtain ⟨k, hk, rfl, HA, hBr⟩ := hrel
      by_cases hlt : k < ls.length
      · have hdec : decide ((k : Int) < (ls.length : Int)) = true := by simp; omega
        obtain ⟨b1, off1, cq1, e1, _, hb1, hrow1⟩ := (h1.below (hBr.mono hB1)).at_ (by omega)
        injection e1 with e1 _ e1c
        subst e1
        subst e1c
        obtain ⟨u1, hc1, hm1⟩ := hrow1 k hlt
        obtain ⟨b2, off2, cq2, e2, _, hb2, hrow2⟩ := (h2.below (hBr.mono hB2)).at_ (by have := HL.out; omega)
        injection e2 with e2 _ e2c
        subst e2
        subst e2c
        obtain ⟨u2, hc2, hm2⟩ := hrow2 k (by have := HL.out; omega)
        have i2 : (k : Int) < (os.length : Int) := by have := HL.out; omega
        have HS := Lib.hid (fun (V : World) (hV : Below wr.heap.size wr V) => sameCol_any u1 u2 _ _ V (hm1.below (hV.mono (Nat.le_trans hB1 hBr.size))) (hm2.below (hV.mono (Nat.le_trans hB2 hBr.size))) (by have := HLS.out k; omega) (by have := HOS.out k; omega))
        have HN := Lib.hid (fun (h : ¬ (ls[k]?.getD []) = (os[k]?.getD [])) => (fun h2 => h ((HB.out.1 h2).2 k hlt) : ¬ ls = os))
        have HT := Lib.hid (fun (h : (ls[k]?.getD []) = (os[k]?.getD [])) => all_next (P := fun j => (ls[j]?.getD []) = (os[j]?.getD [])) HA.out h)
        obtain ⟨A3, cap3, rfl, _, _⟩ := id hm1
        obtain ⟨A4, cap4, rfl, _, _⟩ := id hm2
        clear hrow1 hrow2 hm1 hm2
        generalize ls[k]?.getD [] = x at *
        generalize os[k]?.getD [] = y at *
        by_cases hxy : x = y
        · rw [decide_eq_true hxy] at HS
          have HT2 := Lib.hid (HT.out hxy)
          clear hxy HT HN
          go_wp2
          go_region_held3 (fun U => U.cell? ⟨b1, off1 + k, none⟩ = some (.slice A3 x.length cap3) ∧ U.cell? ⟨b2, off2 + k, none⟩ = some (.slice A4 y.length cap4)) (first | exact ⟨hc1, hc2⟩ | exact ⟨(hBy.cell (p := ⟨b1, off1 + k, none⟩) (Nat.lt_of_lt_of_le hb1 (Nat.le_trans hB1 hBr.size))).trans hc1, (hBy.cell (p := ⟨b2, off2 + k, none⟩) (Nat.lt_of_lt_of_le hb2 (Nat.le_trans hB2 hBr.size))).trans hc2⟩) (first | (go_at_call 26; refine (HS.out _ ?_).mono ?_; first | exact Below.refl _ _ | exact (Below.refl _ _).drew; rintro e w2 ⟨rfl, hBx⟩; have hBy : Below wr.heap.size wr w2 := (by first | exact hBx | exact Below.undrew hBx)))
          all_goals go_wp2
          all_goals go_roundw
          case rel => exact ⟨k + 1, by omega, by go_num, HT2, below_in hBr hBy⟩
          case measure => simp [intOf]; omega
        · rw [decide_eq_false hxy] at HS
          have HF := Lib.hid (decide_eq_false (HN.out hxy))
          clear hxy HT HN
          go_wp2
          go_region_held3 (fun U => U.cell? ⟨b1, off1 + k, none⟩ = some (.slice A3 x.length cap3) ∧ U.cell? ⟨b2, off2 + k, none⟩ = some (.slice A4 y.length cap4)) (first | exact ⟨hc1, hc2⟩ | exact ⟨(hBy.cell (p := ⟨b1, off1 + k, none⟩) (Nat.lt_of_lt_of_le hb1 (Nat.le_trans hB1 hBr.size))).trans hc1, (hBy.cell (p := ⟨b2, off2 + k, none⟩) (Nat.lt_of_lt_of_le hb2 (Nat.le_trans hB2 hBr.size))).trans hc2⟩) (first | (go_at_call 26; refine (HS.out _ ?_).mono ?_; first | exact Below.refl _ _ | exact (Below.refl _ _).drew; rintro e w2 ⟨rfl, hBx⟩; have hBy : Below wr.heap.size wr w2 := (by first | exact hBx | exact Below.undrew hBx)))
          all_goals go_wp2
          all_goals go_ret
          all_goals exact ⟨ret_bool HF.out.symm, below_in hBr hBy⟩
      · obtain rfl : k = ls.length := by omega
        have e1 : decide ((ls.length : Int) < (ls.length : Int)) = false := by simp
        go_wp2
        go_ret
        exact ⟨ret_bool (decide_eq_true (HB.out.2 ⟨HL.out, HA.out⟩)).symm, hBr⟩
  · have e0 : ((ls.length : Int) != (os.length : Int)) = true := by rw [bne_iff_ne]; omega
    have hbf : ¬ ls = os := fun h => hl (hb.1 h).1
    rw [decide_eq_false hbf]
    go_enter Tryz.func18, Tryz.ntmps18
    go_wp2
    go_ret
    exact ⟨rfl, Below.refl _ _⟩
end Go.Proofs.YtcgnhfiadeceiaaGreatDoor.E

namespace Go.Proofs.YtcgnhfiadeceiaaGreatDoor.E
open Go.RowKit Go.Shelf Go.Proofs.YtcgnhfiadeceiaaGreatDoor.C
set_option linter.unusedSimpArgs false
set_option linter.unusedVariables false

def allocs (w : World) (os : List Obj) : World := os.foldl World.alloc w
theorem allocs_size (w : World) (os : List Obj) : (allocs w os).heap.size = w.heap.size + os.length := by
  induction os generalizing w with
  | nil => rfl
  | cons o os ih => show (allocs (w.alloc o) os).heap.size = _; rw [ih, World.size_alloc, List.length_cons]; omega
theorem allocs_below (w : World) (os : List Obj) : Below w.heap.size w (allocs w os) := by
  induction os generalizing w with
  | nil => exact Below.refl _ _
  | cons o os ih => exact below_in (below_one w o) (ih (w.alloc o))
theorem allocs_blk (w : World) (os : List Obj) (k : Nat) (t : TypeId) (cs : Array Value) (h : os[k]? = some (.cells cs t)) : Blk (allocs w os) (w.heap.size + k) t cs := by
  induction os generalizing w k with
  | nil => cases h
  | cons o os ih =>
    cases k with
    | zero => cases h; exact (Blk.new w t cs).below (allocs_below _ os) (by simp)
    | succ k =>
      have h2 := ih (w.alloc o) k h
      rw [World.size_alloc] at h2
      rw [show w.heap.size + (k + 1) = w.heap.size + 1 + k by omega]
      exact h2
theorem bytes_one {W : World} {g : Nat} {t : TypeId} {a : UInt8} (h : Blk W g t #[.int .u8 (a.toNat : Int)]) : Bytes W.heap.size W (.slice (some ⟨g, 0, none⟩) 1 1) [a] :=
  ⟨_, 1, rfl, Nat.le_refl _, fun _ => ⟨g, 0, rfl, h.lt, fun j hj => by
    have : j = 0 := by simp at hj; exact hj
    subst this
    exact h.cell 0⟩⟩
theorem many_two {W : World} {g ga gb : Nat} {t t1 t2 : TypeId} {a b : UInt8} (h : Blk W g t #[.slice (some ⟨ga, 0, none⟩) 1 1, .slice (some ⟨gb, 0, none⟩) 1 1]) (ha : Blk W ga t1 #[.int .u8 (a.toNat : Int)]) (hb : Blk W gb t2 #[.int .u8 (b.toNat : Int)]) :
    Many W.heap.size W (.slice (some ⟨g, 0, none⟩) 2 2) [[a], [b]] :=
  ⟨_, 2, rfl, Nat.le_refl _, fun _ => ⟨g, 0, rfl, h.lt, fun j hj => by
    have : j = 0 ∨ j = 1 := by simp at hj; omega
    rcases this with rfl | rfl
    · exact ⟨_, h.cell 0, bytes_one ha⟩
    · exact ⟨_, h.cell 1, bytes_one hb⟩⟩⟩
theorem cols_of {W : World} {g n cap : Nat} {t : TypeId} {cs : Array Value} {css : List (List (List UInt8))} (h : Blk W g t cs) (hn : css.length = n) (hc : n ≤ cap) (hA : ∀ j, j < n → ∃ u, cs[j]? = some u ∧ Many W.heap.size W u (css[j]?.getD [])) : Cols W.heap.size W (.slice (some ⟨g, 0, none⟩) n cap) css := by
  subst hn
  refine ⟨_, cap, rfl, hc, fun _ => ⟨g, 0, rfl, h.lt, fun j hj => ?_⟩⟩
  obtain ⟨u, h1, h2⟩ := hA j hj
  exact ⟨u, by rw [Nat.zero_add, h.cell j]; exact h1, h2⟩
def css3 : List (List (List UInt8)) := [[[1], [2]], [[4], [8]], [[16], [32]]]
def os3 (w : World) : List Obj := [.cells #[.int .u8 1] 5,
  .cells #[.int .u8 2] 5,
  .cells #[.slice (some ⟨w.heap.size + 0, 0, none⟩) 1 1, .slice (some ⟨w.heap.size + 1, 0, none⟩) 1 1] 28,
  .cells #[.int .u8 4] 5,
  .cells #[.int .u8 8] 5,
  .cells #[.slice (some ⟨w.heap.size + 3, 0, none⟩) 1 1, .slice (some ⟨w.heap.size + 4, 0, none⟩) 1 1] 28,
  .cells #[.int .u8 16] 5,
  .cells #[.int .u8 32] 5,
  .cells #[.slice (some ⟨w.heap.size + 6, 0, none⟩) 1 1, .slice (some ⟨w.heap.size + 7, 0, none⟩) 1 1] 28,
  .cells #[.slice (some ⟨w.heap.size + 2, 0, none⟩) 2 2, .slice (some ⟨w.heap.size + 5, 0, none⟩) 2 2, .slice (some ⟨w.heap.size + 8, 0, none⟩) 2 2] 50]
theorem ok3 : DataOk 3 css3 := ⟨⟨by decide, by decide⟩, rfl, by decide, fun j hj => by
  have hj3 : j = 0 ∨ j = 1 ∨ j = 2 := by have : j < 3 := hj; omega
  rcases hj3 with rfl | rfl | rfl <;> exact ⟨rfl, by decide, fun k hk => by
    have hk2 : k = 0 ∨ k = 1 := by have : k < 2 := hk; omega
    rcases hk2 with rfl | rfl <;> rfl⟩⟩
end Go.Proofs.YtcgnhfiadeceiaaGreatDoor.E

namespace Go.Proofs.YtcgnhfiadeceiaaGreatDoor.E
open Go.RowKit Go.Shelf Go.Proofs.YtcgnhfiadeceiaaGreatDoor.C
set_option linter.unusedSimpArgs false
set_option linter.unusedVariables false
/-- A block of no element is a row of the call's own. -/
theorem RowG.empty {α : Type} (r : Rep α) (t : TypeId) (d : α) (Q : Nat → Prop) {W : World} {base g : Nat} (hg : Blk W g t #[]) (hb : base ≤ g) : RowG r t d Q W base (.slice (some ⟨g, 0, none⟩) 0 0) [] :=
  ⟨[], ⟨rfl, .inr ⟨g, 0, #[], rfl, hb, hg, Nat.le_refl _, by unfold maxLen; omega, rfl, rfl⟩⟩, rfl, fun j y hy => by cases hy⟩
section
variable {p : Int} {a b : List (List (List UInt8))}
end
end Go.Proofs.YtcgnhfiadeceiaaGreatDoor.E

