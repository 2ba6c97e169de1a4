/- The mathematics of the document's columns of any code: what is made by members. The document's Upon: cells at places, put upon one another. The document's Encode: all columns of a code. The document's Line: the data cells of a diagonal, put upon one another. The columns of EVENODD: Right. -/
import Derived.Test.YtggdlklkjnbbjaaGreatDoorEG6
import Derived.Test.YtggdlklkjnbbjaaGreatDoorZG5
import Derived.Test.YtggdlklkjnbbjaaGreatDoorCwL
import Derived.Test.YtggdlklkjnbbjaaGreatDoorEG2
import Derived.Test.YtggdlklkjnbbjaaGreatDoorEG4
import Derived.Test.YtggdlklkjnbbjaaGreatDoorZwV
namespace Go.Proofs.YtggdlklkjnbbjaaGreatDoor.E
open Go.RowKit Go.Shelf Go.Proofs.YtggdlklkjnbbjaaGreatDoor.C
set_option linter.unusedSimpArgs false
set_option linter.unusedVariables false

/-- Columns of R cells of n bytes. -/
def Grid (R n : Nat) (css : List (List (List UInt8))) : Prop := ∀ j, j < css.length → (css[j]?.getD []).length = R ∧ ∀ i, i < R → ((css[j]?.getD [])[i]?.getD []).length = n
def cellI (css : List (List (List UInt8))) (z : Int × Int) : List UInt8 := cellOf_ css z.1.toNat z.2.toNat
/-- Cells at places, put upon one another. -/
def uponL (n : Nat) (css : List (List (List UInt8))) (l : List (Int × Int)) : List UInt8 := xors (List.replicate n 0) (l.map (cellI css))
/-- A column that is made of those ahead of it. -/
def colL (k p : Int) (n : Nat) (css : List (List (List UInt8))) (col : Int) : List (List UInt8) := (List.range (p - 1).toNat).map fun (row : Nat) => uponL n css (memL k p col (row : Int))
def stepsL (k p : Int) (n : Nat) (css : List (List (List UInt8))) : Nat → List (List (List UInt8))
  | 0 => css
  | m + 1 => stepsL k p n css m ++ [colL k p n (stepsL k p n css m) ((css.length : Int) + (m : Int))]
def inL (R N : Nat) (l : List (Int × Int)) : Prop := ∀ z ∈ l, (0 ≤ z.1 ∧ z.1 < (N : Int)) ∧ (0 ≤ z.2 ∧ z.2 < (R : Int))
/-- The cells of a diagonal. -/
def lineL (p N line : Int) : List (Int × Int) := (flatC p (spanL 0 N)).filter fun z => decide ((z.1 + z.2) % p = line)
def natZ (z : Int × Int) : Nat × Nat := (z.1.toNat, z.2.toNat)

theorem uponL_len (n : Nat) (css : List (List (List UInt8))) (l : List (Int × Int)) : (uponL n css l).length = n := by
  unfold uponL
  rw [xors_len, List.length_replicate]
theorem colL_len (k p : Int) (n : Nat) (css : List (List (List UInt8))) (col : Int) : (colL k p n css col).length = (p - 1).toNat := by unfold colL; simp
theorem colL_at (k p : Int) (n : Nat) (css : List (List (List UInt8))) (col : Int) {i : Nat} (hi : i < (p - 1).toNat) : (colL k p n css col)[i]?.getD [] = uponL n css (memL k p col (i : Int)) := by
  unfold colL
  rw [List.getElem?_map, List.getElem?_range hi]
  rfl
theorem stepsL_len (k p : Int) (n : Nat) (css : List (List (List UInt8))) : ∀ m, (stepsL k p n css m).length = css.length + m
  | 0 => rfl
  | m + 1 => by
    show (stepsL k p n css m ++ [_]).length = _
    rw [List.length_append, stepsL_len k p n css m]
    rfl
theorem Grid.snoc {R n : Nat} {css : List (List (List UInt8))} (h : Grid R n css) {cs : List (List UInt8)} (h1 : cs.length = R) (h2 : ∀ i, i < R → (cs[i]?.getD []).length = n) : Grid R n (css ++ [cs]) := by
  intro j hj
  rw [List.length_append] at hj
  rcases Nat.lt_or_ge j css.length with h3 | h3
  · rw [List.getElem?_append_left h3]
    exact h j h3
  · have : j = css.length := by simp at hj; omega
    subst this
    rw [List.getElem?_append_right (Nat.le_refl _), Nat.sub_self]
    exact ⟨h1, h2⟩
theorem Grid.col {R n : Nat} {css : List (List (List UInt8))} (h : Grid R n css) {k p : Int} (hR : R = (p - 1).toNat) (col : Int) (css' : List (List (List UInt8))) : Grid R n (css ++ [colL k p n css' col]) :=
  h.snoc (by rw [colL_len, hR]) fun i hi => by rw [colL_at k p n css' col (by omega), uponL_len]
theorem Grid.steps {R n : Nat} {css : List (List (List UInt8))} (h : Grid R n css) {k p : Int} (hR : R = (p - 1).toNat) : ∀ m, Grid R n (stepsL k p n css m)
  | 0 => h
  | m + 1 => (Grid.steps h hR m).col hR _ _
theorem Grid.cell {R n : Nat} {css : List (List (List UInt8))} (h : Grid R n css) {z : Int × Int} (h1 : z.1 < (css.length : Int)) (h0 : 0 ≤ z.1) (h2 : z.2 < (R : Int)) (h3 : 0 ≤ z.2) : (cellI css z).length = n :=
  (h z.1.toNat (by omega)).2 z.2.toNat (by omega)
theorem togOk_grid {R : Nat} {css : List (List (List UInt8))} (h : TogOk R css) : Grid R (firstC css).length css := fun j hj => ⟨(h.2 j hj).1, fun i hi => togOk_cell h hj hi⟩
theorem by_left {a b : List (List (List UInt8))} {c : Nat} (hc : c < a.length) (j r : Nat) : by_ (a ++ b) j c r = by_ a j c r := by
  unfold by_ cellOf_
  rw [List.getElem?_append_left hc]
theorem at_uponL {n : Nat} {css : List (List (List UInt8))} {l : List (Int × Int)} (h : ∀ z ∈ l, (cellI css z).length = n) (j : Nat) : at_ (uponL n css l) j = xa (l.map fun z => by_ css j z.1.toNat z.2.toNat) := by
  unfold uponL
  rw [at_upon (fun x hx => by
    obtain ⟨z, hz, rfl⟩ := List.mem_map.1 hx
    exact h z hz), List.map_map]
  rfl
theorem at_uponN {n : Nat} {css : List (List (List UInt8))} {l : List (Int × Int)} (h : ∀ z ∈ l, (cellI css z).length = n) (j : Nat) : at_ (uponL n css l) j = xa ((l.map natZ).map fun x => by_ css j x.1 x.2) := by
  rw [at_uponL h, List.map_map]
  rfl
theorem memRow1 : ∀ p ∈ prm, ∀ r ∈ List.range (p - 1).toNat, memL 1 p p (r : Int) = (List.range p.toNat).map fun (c : Nat) => ((c : Int), (r : Int)) := by decide +kernel
theorem memDiag1 : ∀ p ∈ prm, ∀ r ∈ List.range (p - 1).toNat, ((memL 1 p (p + 1) (r : Int)).map natZ).isPerm (diagAt p (p - 1) p.toNat ++ diagAt p (r : Int) p.toNat) = true := by decide +kernel
theorem lineDiag : ∀ p ∈ prm, ((lineL p p (p - 1)).map natZ).isPerm (diagAt p (p - 1) p.toNat) = true := by decide +kernel
def inB (R N : Nat) (l : List (Int × Int)) : Bool := l.all fun z => (decide (0 ≤ z.1) && decide (z.1 < (N : Int))) && (decide (0 ≤ z.2) && decide (z.2 < (R : Int)))
theorem inL_of {R N : Nat} {l : List (Int × Int)} (h : inB R N l = true) : inL R N l := by
  intro z hz
  have := List.all_eq_true.1 h z hz
  simpa using this
theorem memIn1 : ∀ p ∈ prm, ∀ r ∈ List.range (p - 1).toNat, ∀ m ∈ [0, 1], inB (p - 1).toNat p.toNat (memL 1 p (p + m) (r : Int)) = true := by decide +kernel
theorem memIn2 : ∀ p ∈ prm, ∀ r ∈ List.range (p - 1).toNat, ∀ m ∈ [0, 1], inB (p - 1).toNat (p - 1 + m).toNat (memL 2 p (p - 1 + m) (r : Int)) = true := by decide +kernel
theorem lineIn : ∀ p ∈ prm, inB (p - 1).toNat p.toNat (lineL p p (p - 1)) = true := by decide +kernel
theorem inL.cells {R N n : Nat} {l : List (Int × Int)} (h : inL R N l) {css : List (List (List UInt8))} (hg : Grid R n css) (hN : N ≤ css.length) : ∀ z ∈ l, (cellI css z).length = n := fun z hz => by
  have := h z hz
  exact hg.cell (by omega) (by omega) (by omega) (by omega)
section
variable {p : Int} {css : List (List (List UInt8))}
theorem col1_rows (h : DataOk p css) : colL 1 p (firstC css).length css p = rowsMade (p - 1).toNat css := by
  have hd := dataOk_n h
  have hg := togOk_grid h.2.2
  unfold colL
  refine Eq.trans ?_ (rfl : (List.range (p - 1).toNat).map (fun r => xorOf (rowOf css r)) = _)
  refine List.map_congr_left fun r hr => ?_
  have hr' := List.mem_range.1 hr
  have hin := inL_of (memIn1 p h.1.2 r hr 0 (by simp))
  rw [Int.add_zero] at hin
  refine ext_at (by rw [uponL_len, row_len h hr']) fun j => ?_
  rw [at_uponL (hin.cells hg (by omega)) j, at_row h hr', memRow1 p h.1.2 r hr, List.map_map]
  rfl
theorem col1_diags (h : DataOk p css) (cs : List (List UInt8)) (hcs : cs.length = (p - 1).toNat ∧ ∀ i, i < (p - 1).toNat → (cs[i]?.getD []).length = (firstC css).length) : colL 1 p (firstC css).length (css ++ [cs]) (p + 1) = diagsMade p (p - 1).toNat css := by
  have hd := dataOk_n h
  have hg := (togOk_grid h.2.2).snoc hcs.1 hcs.2
  unfold colL
  refine Eq.trans ?_ (rfl : (List.range (p - 1).toNat).map (fun (r : Nat) => xorOf ([adjOf p css] ++ diagOf p r css)) = _)
  refine List.map_congr_left fun r hr => ?_
  have hr' := List.mem_range.1 hr
  have hin := inL_of (memIn1 p h.1.2 r hr 1 (by simp))
  have hrp : (r : Int) < p := by omega
  refine ext_at (by rw [uponL_len, diag_len h hrp]) fun j => ?_
  rw [at_uponN (hin.cells hg (by rw [List.length_append]; omega)) j, at_diagMade h hrp, xa_perm ((List.isPerm_iff.1 (memDiag1 p h.1.2 r hr)).map _), List.map_append, xa_append]
  have hE : ∀ a : Int, xa ((diagAt p a p.toNat).map fun x => by_ (css ++ [cs]) j x.1 x.2) = dg_ p css j a := fun a => by
    unfold dg_
    congr 1
    refine List.map_congr_left fun x hx => ?_
    have := diagAt_in (by omega) hx
    exact by_left (by omega) j x.2
  rw [hE, hE]
/-- EVENODD's columns are those that the document makes by members. -/
theorem steps1 (h : DataOk p css) : stepsL 1 p (firstC css).length css 2 = css ++ encOf p css := by
  have hd := dataOk_n h
  have e0 : ((css.length : Int) + ((0 : Nat) : Int)) = p := by omega
  have e1 : ((css.length : Int) + ((1 : Nat) : Int)) = p + 1 := by omega
  show (css ++ [colL 1 p _ css _]) ++ [colL 1 p _ (css ++ [colL 1 p _ css _]) _] = _
  rw [e0, e1, col1_rows h, col1_diags h _ ⟨rowsMade_len _, fun i hi => by rw [rowsMade_at h hi]; exact row_len h hi⟩, List.append_assoc]
  rfl
theorem line_adj (h : DataOk p css) : uponL (firstC css).length css (lineL p p (p - 1)) = adjOf p css := by
  have hd := dataOk_n h
  have hg := togOk_grid h.2.2
  have hin := inL_of (lineIn p h.1.2)
  refine ext_at (by rw [uponL_len, adjOf_len h]) fun j => ?_
  rw [at_uponN (hin.cells hg (by omega)) j, xa_perm ((List.isPerm_iff.1 (lineDiag p h.1.2)).map _)]
  unfold adjOf
  rw [at_diag h (by omega) (by omega)]
  rfl
end
end Go.Proofs.YtggdlklkjnbbjaaGreatDoor.E

namespace Go.Proofs.YtggdlklkjnbbjaaGreatDoor.E
open Go.RowKit Go.Shelf Go.Proofs.YtggdlklkjnbbjaaGreatDoor.C
set_option linter.unusedSimpArgs false
set_option linter.unusedVariables false

theorem xors_next (z : List UInt8) (ls : List (List UInt8)) {k : Nat} (hk : k < ls.length) : xors z (ls.take (k + 1)) = xorB (xors z (ls.take k)) (ls[k]?.getD []) := by
  unfold xors
  rw [List.take_add_one, List.foldl_append, List.getElem?_eq_getElem hk]
  rfl
theorem uponL_next (n : Nat) (css : List (List (List UInt8))) (l : List (Int × Int)) {k : Nat} (hk : k < l.length) : uponL n css (l.take (k + 1)) = xorB (uponL n css (l.take k)) (cellI css l[k]) := by
  unfold uponL
  rw [List.map_take, xors_next _ _ (by rw [List.length_map]; exact hk), List.map_take, List.getElem?_map, List.getElem?_eq_getElem hk]
  rfl
set_option maxHeartbeats 400000 in
theorem nought6_fresh (n : Nat) (hn : n ≤ 1000) (w : World) : Calls Tryz.prog 24 #[.int .i64 (n : Int)] w fun e w' => ∃ u, e = .returned u ∧ Fresh w.heap.size w' u (List.replicate n 0) ∧ Below w.heap.size w w' := by
  obtain ⟨i0, hi, hz0, hz1, hz2⟩ := info_parts Tryz.infoByte
  have hmk := fun W : World => run_make (P := Tryz.prog) W 25 5 i0 (.int .u8 0) Tryz.underlying25 hi hz0 .i64 .i64 (n : Int) (n : Int) (by omega) (by omega) (by rw [hz2]; omega) (by omega)
  simp only [hz1, Nat.mul_one, Int.toNat_natCast] at hmk
  have hR := Row.made w n
  have hBz := below_one w (.cells (madeCells #[.int .u8 0] n) 5)
  go_enter Tryz.func24, Tryz.ntmps24
  go_wp2
  go_ret
  exact ⟨_, rfl, Row.fresh hR (Nat.le_refl _) (by simp), hBz⟩
set_option maxRecDepth 100000 in
set_option maxHeartbeats 2000000 in
theorem upon6_any {B : Nat} (vs vl : Value) (css : List (List (List UInt8))) (l : List (Int × Int)) (R n : Nat) (w : World) (hB : B ≤ w.heap.size) (hC : Cols B w vs css) (hl : ReadA w vl l) (hg : Grid R n css) (hin : inL R css.length l) (hn : n ≤ 1000) (hll : l.length ≤ 1000) (hcl : css.length ≤ 1000) (hR : R ≤ 1000) :
    Calls Tryz.prog 56 #[vs, vl, .int .i64 (n : Int)] w fun e w' => ∃ u, e = .returned u ∧ Fresh w.heap.size w' u (uponL n css l) ∧ Below w.heap.size w w' := by
  obtain ⟨A, cap, rfl, _, _⟩ := id hC
  obtain ⟨Al, capl, rfl, hRd⟩ := hl
  have HR1 := Lib.hid hRd
  have HCC := Lib.hid hC
  have HG := Lib.hid hg
  have HIN := Lib.hid hin
  obtain ⟨N, hN⟩ : ∃ N, l.length = N := ⟨_, rfl⟩
  obtain ⟨C, hCn⟩ : ∃ C, css.length = C := ⟨_, rfl⟩
  have HN := Lib.hid hN
  have HCN := Lib.hid hCn
  rw [hN] at hll
  rw [hCn] at hcl
  rw [hN, hCn]
  have HNO := Lib.hid (fun (U : World) => nought6_fresh n hn U)
  have HNX : Hid (∀ k, k < N → ∀ hk : k < l.length, uponL n css (l.take (k + 1)) = xorB (uponL n css (l.take k)) (cellI css l[k])) := fun k _ hk => uponL_next n css l hk
  have HE : Hid (uponL n css (l.take N) = uponL n css l) := by unfold Hid; rw [← hN, List.take_length]
  have HLN : Hid (∀ k, (uponL n css (l.take k)).length = n) := fun k => uponL_len n css _
  clear hN hCn hC hRd hg hin
  go_enter Tryz.func56, Tryz.ntmps56
  go_wp2_with (go_at_call 24; refine (HNO.out _).mono ?_; rintro e w1 ⟨u0, rfl, hu0, hB1⟩)
  go_loopw [7, 8] (fun v i wr => ∃ j : Nat, j ≤ N ∧ i = .int .i64 j ∧ Fresh w.heap.size wr v (uponL n css (l.take j)) ∧ Below w.heap.size w wr) (fun _ i _ => N - (intOf i).toNat)
  case atStart => exact ⟨0, by omega, rfl, hu0, hB1⟩
  case round =>
    clear hu0 hB1
    obtain ⟨j, hj, rfl, hu, hBr⟩ := hrel
    by_cases hlt : j < N
    · have hdec : decide ((j : Int) < (N : Int)) = true := by simp; omega
      have hjs : j < l.length := by rw [HN.out]; exact hlt
      have hnx := HNX.out j hlt hjs
      obtain ⟨g1, rfl, hg1, x0, x1⟩ := HR1.out j hjs
      obtain ⟨hz1, hz2⟩ := HIN.out l[j] (List.getElem_mem hjs)
      have hlen := HLN.out j
      clear HR1 HIN HNX
      generalize l[j] = z at *
      obtain ⟨zx, zy⟩ := z
      simp only at hz1 hz2 x0 x1
      rw [HCN.out] at hz1
      obtain ⟨X, rfl⟩ : ∃ X : Nat, zx = (X : Int) := ⟨zx.toNat, by omega⟩
      obtain ⟨Y, rfl⟩ : ∃ Y : Nat, zy = (Y : Int) := ⟨zy.toNat, by omega⟩
      have hX : X < C := by omega
      have hY : Y < R := by omega
      obtain ⟨b1, off1, cq1, e1, hcq, hb1, hrow1⟩ := HCC.out.at_ (by rw [HCN.out]; omega)
      rw [HCN.out] at e1 hcq
      injection e1 with e1 _ e1c
      subst e1 e1c
      obtain ⟨u1, hc1, hm1⟩ := hrow1 X (by rw [HCN.out]; exact hX)
      obtain ⟨hcr, hce⟩ := HG.out X (by rw [HCN.out]; exact hX)
      obtain ⟨A3, cap3, rfl, _, _⟩ := id hm1
      obtain ⟨b2, off3, rfl, hb2, hrow3⟩ := many_at hm1 (by omega)
      obtain ⟨Aa, ca, hc3, hby⟩ := hrow3 Y (by omega)
      have hcl2 := hce Y hY
      rw [hcr] at hc1
      rw [hcl2] at hc3 hby
      have hcI : cellI css ((X : Int), (Y : Int)) = (css[X]?.getD [])[Y]?.getD [] := rfl
      rw [hcI] at hnx
      have HJX := Lib.hid hnx
      clear hnx
      have x0' := (hBr.cell (p := ⟨g1, j * 2, none⟩) hg1).trans x0
      have x1' := (hBr.cell (p := ⟨g1, j * 2 + 1, none⟩) hg1).trans x1
      have y0' := (hBr.cell (p := ⟨b1, off1 + X, none⟩) (Nat.lt_of_lt_of_le hb1 hB)).trans hc1
      have y1' := (hBr.cell (p := ⟨b2, off3 + Y, none⟩) (Nat.lt_of_lt_of_le hb2 hB)).trans hc3
      have HP := Lib.hid (fun (U : World) (v : Value) (hU : Below w.heap.size w U) (hv : Bytes U.heap.size U v (uponL n css (l.take j))) => rput_any v (.slice Aa n ca) (uponL n css (l.take j)) ((css[X]?.getD [])[Y]?.getD []) U hv ((hby.below (hU.mono hB)).more (Nat.le_trans hB hU.size)) (by omega) (by omega))
      clear hcI hce hrow1 hrow3 hm1 hby x0 x1 hc1 hc3
      generalize (css[X]?.getD [])[Y]?.getD [] = xy at *
      generalize uponL n css (l.take j) = cur at *
      have i1 : (0 : Int) ≤ (j : Int) := by omega
      have i2 : (j : Int) < (N : Int) := by omega
      have i3 : (0 : Int) ≤ (X : Int) := by omega
      have i4 : (X : Int) < (C : Int) := by omega
      have i5 : (0 : Int) ≤ (Y : Int) := by omega
      have i6 : (Y : Int) < (R : Int) := by omega
      have HHU := Lib.hid hu.bytes
      have hBz := hBr.size
      clear hlen hcl2 hcr hu
      go_wp2
      go_region_held3 (fun U => U.cell? ⟨g1, j * 2, none⟩ = some (.int .i64 (X : Int)) ∧ U.cell? ⟨g1, j * 2 + 1, none⟩ = some (.int .i64 (Y : Int)) ∧ U.cell? ⟨b1, off1 + X, none⟩ = some (.slice (some ⟨b2, off3, none⟩) R cap3) ∧ U.cell? ⟨b2, off3 + Y, none⟩ = some (.slice Aa n ca))
        (first | exact ⟨x0', x1', y0', y1'⟩ | exact ⟨(hB4.cell (p := ⟨g1, j * 2, none⟩) (Nat.lt_of_lt_of_le hg1 hBz)).trans x0', (hB4.cell (p := ⟨g1, j * 2 + 1, none⟩) (Nat.lt_of_lt_of_le hg1 hBz)).trans x1', (hB4.cell (p := ⟨b1, off1 + X, none⟩) (Nat.lt_of_lt_of_le hb1 (Nat.le_trans hB hBz))).trans y0', (hB4.cell (p := ⟨b2, off3 + Y, none⟩) (Nat.lt_of_lt_of_le hb2 (Nat.le_trans hB hBz))).trans y1'⟩) (first | (go_at_call 25; refine (HP.out _ _ hBr.drew (HHU.out.below ((Below.refl _ _).drew))).mono ?_; rintro e w4 ⟨v4, rfl, hv4, hB4⟩; replace hB4 := below_undrew hB4))
      all_goals go_wp2
      all_goals go_roundw
      case rel => exact ⟨j + 1, by omega, by go_num, by rw [HJX.out]; exact hv4.fresh.less hBz, below_in hBr hB4⟩
      case measure => simp [intOf]; omega
    · obtain rfl : j = N := by omega
      have hdec : decide ((j : Int) < (j : Int)) = false := by simp
      rw [HE.out] at hu
      go_wp2
      go_ret
      exact ⟨_, rfl, hu, hBr⟩
end Go.Proofs.YtggdlklkjnbbjaaGreatDoor.E

namespace Go.Proofs.YtggdlklkjnbbjaaGreatDoor.E
open Go.RowKit Go.Shelf Go.Proofs.YtggdlklkjnbbjaaGreatDoor.C
set_option linter.unusedSimpArgs false
set_option linter.unusedVariables false

theorem colL_next (k p : Int) (n : Nat) (css : List (List (List UInt8))) (col : Int) {r : Nat} (hr : r < (p - 1).toNat) : (colL k p n css col).take (r + 1) = (colL k p n css col).take r ++ [uponL n css (memL k p col (r : Int))] := by
  unfold colL
  rw [map_next _ 0 _ (by rw [List.length_range]; exact hr), List.getElem?_range hr]
  rfl
/-- The members of a cell that is made are cells ahead of it. -/
theorem memL_in {k p : Int} (hR : RightC k p) {col row : Int} {R N : Nat} (hRR : p - 1 = (R : Int)) (hN : col ≤ (N : Int)) : inL R N (memL k p col row) := by
  intro z hz
  unfold memL at hz
  have h1 := flatC_mem' (List.mem_filter.1 hz).1
  have h2 := spanL_mem h1.1
  omega
set_option maxRecDepth 100000 in
set_option maxHeartbeats 4000000 in
theorem encode6_any {B : Nat} (k p : Int) (hR : RightC k p) (v1 : Value) (css : List (List (List UInt8))) (n : Nat) (w : World) (hB : B ≤ w.heap.size) (hC : Cols B w v1 css) (hlen : (css.length : Int) = p - shortN k) (hG : Grid (p - 1).toNat n css) (hn : n ≤ 1000) :
    Calls Tryz.prog 18 #[.agg #[.int .i64 k, .int .i64 p], v1] w fun e w' => ∃ u, e = .returned u ∧ Cols w'.heap.size w' u (stepsL k p n css (madeN k).toNat) ∧ Below w.heap.size w w' := by
  obtain ⟨p1, p2, s1, s2, m1, m2⟩ := hR.und
  obtain ⟨b1, off1, cap, rfl, hcap, hb1, hrow0⟩ := hC.at_ (by omega)
  obtain ⟨R, hRR⟩ : ∃ R : Nat, p - 1 = (R : Int) := ⟨(p - 1).toNat, by omega⟩
  obtain ⟨M, hM⟩ : ∃ M : Nat, madeN k = (M : Int) := ⟨(madeN k).toNat, by omega⟩
  have hRt : (p - 1).toNat = R := by omega
  have hMt : (madeN k).toNat = M := by omega
  rw [hRt] at hG
  rw [hMt]
  have HCo := Lib.hid (fun W => refCols_any k p hR W)
  have HDa := Lib.hid (fun W => refData_any k p hR W)
  have HRw := Lib.hid (fun W => refRows_any k p hR W)
  have hcd : p - shortN k + madeN k = ((css.length + M : Nat) : Int) := by omega
  rw [hcd] at HCo
  rw [← hlen] at HDa
  rw [hRR] at HRw
  have HMB := Lib.hid (fun (m r : Nat) (hm : m < M) (hr : r < R) (W : World) => refMembers_any k p ((css.length + m : Nat) : Int) (r : Int) hR ⟨by omega, by omega⟩ (by omega) W)
  have HMI := Lib.hid (fun (m r : Nat) => (memL_in hR hRR (Int.le_refl _) : inL R (css.length + m) (memL k p ((css.length + m : Nat) : Int) (r : Int))))
  have HMLN := Lib.hid (fun (m r : Nat) (hm : m < M) (hr : r < R) => (memL_len (k := k) (p := p) (mx := ((css.length + m : Nat) : Int)) (my := (r : Int)) hR ⟨by omega, by omega⟩))
  have HGR := Lib.hid (fun m => hG.steps (k := k) (p := p) hRt.symm m)
  have HSL := Lib.hid (fun m => stepsL_len k p n css m)
  have HSN : Hid (∀ m, stepsL k p n css (m + 1) = stepsL k p n css m ++ [colL k p n (stepsL k p n css m) ((css.length + m : Nat) : Int)]) := fun m => by
    show _ ++ [colL k p n _ ((css.length : Int) + (m : Int))] = _
    rw [Int.natCast_add]
  have HCN : Hid (∀ (m r : Nat), r < R → (colL k p n (stepsL k p n css m) ((css.length + m : Nat) : Int)).take (r + 1) = (colL k p n (stepsL k p n css m) ((css.length + m : Nat) : Int)).take r ++ [uponL n (stepsL k p n css m) (memL k p ((css.length + m : Nat) : Int) (r : Int))]) := fun m r hr => colL_next k p n _ _ (by omega)
  have HCL := Lib.hid (fun m => (colL_len k p n (stepsL k p n css m) ((css.length + m : Nat) : Int)).trans hRt)
  have HUL := Lib.hid (fun m r => uponL_len n (stepsL k p n css m) (memL k p ((css.length + m : Nat) : Int) (r : Int)))
  have hR16 : R ≤ 16 := by omega
  have hR2 : 2 ≤ R := by omega
  have hM3 : M ≤ 3 := by omega
  have hn20 : css.length ≤ 17 := by omega
  have hn1 : 1 ≤ css.length := by omega
  -- the first cell
  obtain ⟨u1, hc1, hm1⟩ := hrow0 0 (by omega)
  obtain ⟨hcr, hce⟩ := hG 0 (by omega)
  obtain ⟨A3, cap3, rfl, _, _⟩ := id hm1
  obtain ⟨b2, off3, rfl, hb2, hrow3⟩ := many_at hm1 (by omega)
  obtain ⟨Aa, ca, hc3, _⟩ := hrow3 0 (by omega)
  rw [hcr, Nat.add_zero] at hc1
  rw [hce 0 (by omega), Nat.add_zero] at hc3
  have HROW := Lib.hid hrow0
  have HCC := Lib.hid hC
  have HG0 := Lib.hid (fun j hj => (hG j hj).1)
  have b0 := Blk.new w 37 #[.int .i64 k, .int .i64 p]
  have hBW := below_one w (.cells #[.int .i64 k, .int .i64 p] 37)
  have HCI : Hid (∀ j, j < css.length → css.take (j + 1) = css.take j ++ [css[j]?.getD []]) := fun j hj => by rw [List.take_add_one, List.getElem?_eq_getElem hj]; rfl
  have HCE : Hid (css.take css.length = stepsL k p n css 0) := by unfold Hid; rw [List.take_length]; rfl
  have HSS := Lib.hid (fun (V : World) (hV : Below w.heap.size w V) (hb : Blk V w.heap.size 37 #[.int .i64 k, .int .i64 p]) => (⟨by have := hb.cell 0; simpa using this, by have := hb.cell 1; simpa using this, (hV.cell (p := ⟨b1, off1, none⟩) (Nat.lt_of_lt_of_le hb1 hB)).trans hc1, (hV.cell (p := ⟨b2, off3, none⟩) (Nat.lt_of_lt_of_le hb2 hB)).trans hc3⟩ : (fun V : World => V.cell? ⟨w.heap.size, 0, none⟩ = some (.int .i64 k) ∧ V.cell? ⟨w.heap.size, 1, none⟩ = some (.int .i64 p) ∧ V.cell? ⟨b1, off1, none⟩ = some (.slice (some ⟨b2, off3, none⟩) R cap3) ∧ V.cell? ⟨b2, off3, none⟩ = some (.slice Aa n ca)) V))
  clear hm1 hrow3 hcr hce hc1 hc3 hrow0 hC hG hcd hlen hRR hRt hM hMt hR p1 p2 s1 s2 m1 m2
  generalize hn0 : css.length = n0 at *
  clear hn0
  go_enter Tryz.func18, Tryz.ntmps18
  go_wp2_with fail
  go_loopw [5, 6] (fun v i wr => ∃ m : Nat, m ≤ n0 ∧ i = .int .i64 m ∧ RowC (fun _ => True) wr (w.heap.size + 1) v (css.take m) ∧ Blk wr w.heap.size 37 #[.int .i64 k, .int .i64 p] ∧ Below w.heap.size w wr) (fun _ i _ => n0 - (intOf i).toNat)
  case atStart => exact ⟨0, Nat.zero_le _, rfl, RowG.nil _ _ _ _ _ _, b0, hBW⟩
  case round =>
    clear b0 hBW
    obtain ⟨m, hm, rfl, hrow, b0, hBr⟩ := hrel
    by_cases hlt : m < n0
    · have hdec : decide ((m : Int) < (n0 : Int)) = true := by simp; omega
      obtain ⟨u1, hc1, hm1⟩ := HROW.out m hlt
      obtain ⟨A4, cap4, rfl, _, _⟩ := id hm1
      have hc2 := (hBr.cell (p := ⟨b1, off1 + m, none⟩) (Nat.lt_of_lt_of_le hb1 hB)).trans hc1
      have hnx := HCI.out m hlt
      have hm2 : Many B wr _ _ := hm1.below (hBr.mono hB)
      have HVLE := Lib.hid (fun b e => RowG.own_le hrow b e)
      have hpl : (css.take m).length ≤ 100 := by rw [List.length_take]; omega
      clear hc1 hm1
      generalize css[m]?.getD [] = xs at *
      generalize css.take m = pre at *
      generalize xs.length = n7 at *
      have i1 : (0 : Int) ≤ (m : Int) := by omega
      have i2 : (m : Int) < (n0 : Int) := by omega
      have hcells : Below wr.heap.size wr (wr.alloc (.cells #[.slice A4 n7 cap4] 44)) := below_one wr _
      have hszr := hBr.size
      have HROWC := Lib.hid (RowG.below hrow hcells)
      have HBLK := Lib.hid (Blk.new wr 44 #[.slice A4 n7 cap4])
      have HCP : Hid (manyR.R (fun b => b < (wr.alloc (.cells #[.slice A4 n7 cap4] 44)).heap.size ∧ some b ≠ u5.ownBlock ∧ True) (wr.alloc (.cells #[.slice A4 n7 cap4] 44)) (.slice A4 n7 cap4) xs) :=
        SliceP.imp (hm2.below (hcells.mono (Nat.le_trans hB hszr))) fun b hb => ⟨by have hb' : b < B := hb; simp; omega, fun e => by have := HVLE.out b e.symm; have hb' : b < B := hb; omega, trivial⟩
      have hb5 : Blk (wr.alloc (.cells #[.slice A4 n7 cap4] 44)) w.heap.size 37 #[.int .i64 k, .int .i64 p] := b0.alloc _
      clear hrow hm2
      go_wp2_with (at_builtin; refine wpList_pushC (T := 33) _ rfl _ _ rfl Tryz.underlying33 pre rfl HROWC.out wr.heap.size 44 _ xs rfl HBLK.out HCP.out (by omega) (by simp; omega) ?_; intro v' w2 hrow4 hgrow hown)
      go_roundw
      case rel => exact ⟨m + 1, by omega, by go_num, by rw [hnx]; exact hrow4, hb5.grown hgrow (fun e => by have := HVLE.out _ e.symm; omega), below_grown (below_in hBr hcells) hgrow (by simp; omega) (fun g e => by have := HVLE.out g e; omega)⟩
      case measure => simp [intOf]; omega
    · obtain rfl : m = n0 := by omega
      have e1 : decide ((m : Int) < (m : Int)) = false := by simp
      rw [HCE.out] at hrow
      have c0 := b0.cell 0; have c1 := b0.cell 1; simp only [List.getElem?_toArray, List.getElem?_cons_zero, List.getElem?_cons_succ] at c0 c1
      go_wp2_with (go_at_call 53; refine (HDa.out _).mono ?_; rintro e w1 ⟨rfl, hB1⟩; replace hrow := RowG.below hrow hB1; replace b0 := b0.below hB1 b0.lt; replace hBr := below_in hBr hB1)
      clear c0 c1
      go_loopw [5, 7] (fun v i wr => ∃ j : Nat, j ≤ M ∧ i = .int .i64 ((m + j : Nat) : Int) ∧ RowC (fun _ => True) wr (w.heap.size + 1) v (stepsL k p n css j) ∧ Blk wr w.heap.size 37 #[.int .i64 k, .int .i64 p] ∧ Below w.heap.size w wr) (fun _ i _ => m + M - (intOf i).toNat)
      case atStart => exact ⟨0, Nat.zero_le _, rfl, hrow, b0, hBr⟩
      case round =>
        clear b0 hBr hrow
        obtain ⟨j, hj, rfl, hrow, b0, hBr⟩ := hrel
        have c0 := b0.cell 0; have c1 := b0.cell 1; simp only [List.getElem?_toArray, List.getElem?_cons_zero, List.getElem?_cons_succ] at c0 c1
        by_cases hlt : j < M
        · have HMEM := Lib.hid (fun (r : Nat) (hr : r < R) (W : World) => HMB.out j r hlt hr W)
          have HMIJ := Lib.hid (fun r => HMI.out j r)
          have HMLJ := Lib.hid (fun r hr => HMLN.out j r hlt hr)
          have HGJ := Lib.hid (HGR.out j)
          have HSJ := Lib.hid (HSL.out j)
          have HNX := Lib.hid (HSN.out j)
          have HNR := Lib.hid (fun r hr => HCN.out j r hr)
          have HLC := Lib.hid (HCL.out j)
          have HLU := Lib.hid (fun r => HUL.out j r)
          have hmj : m + j ≤ 20 := by omega
          have hpl : Hid ((stepsL k p n css j).length ≤ 100) := by unfold Hid; rw [HSL.out j]; omega
          clear HMB HGR HSL HSN HCN HCL HUL HCI HCE HROW HG0 HMI HMLN
          have hdec0 : ((m + j : Nat) : Int) < ((m + M : Nat) : Int) := by omega
          have hwr : wrap64 (((m + j : Nat) : Int) + 1) = ((m + (j + 1) : Nat) : Int) := by rw [IntWalk.wrap64_in _ (by omega)]; omega
          generalize hcol : ((m + j : Nat) : Int) = col at *
          generalize htot : ((m + M : Nat) : Int) = tot at *
          have hdec : decide (col < tot) = true := by simpa using hdec0
          have hcb1 : 0 ≤ col := by omega
          have hcb2 : col ≤ 100 := by omega
          have HCOL := Lib.hid hcol
          have HWR := Lib.hid hwr
          have HTOT := Lib.hid htot
          clear hcol hwr htot hdec0
          generalize hmade : colL k p n (stepsL k p n css j) col = made at *
          generalize hst : stepsL k p n css j = st at *
          clear hmade hst
          go_wp2_with (go_at_call 54; refine (HCo.out _).mono ?_; rintro e wq ⟨rfl, hB1⟩; replace hrow := RowG.below hrow hB1; replace b0 := b0.below hB1 b0.lt; replace hBr := below_in hBr hB1)
          clear c0 c1 hB1
          have hgl := b0.lt
          have HBL := Lib.hid b0
          have HUP := Lib.hid (fun (r : Nat) (hr : r < R) (V : World) (vm : Value) (hV : Below wq.heap.size wq V) (hm : ReadA V vm (memL k p col (r : Int))) => upon6_any (B := V.heap.size) u5 vm st _ R n V (Nat.le_refl _) (RowC.cols (RowG.below hrow hV)) hm HGJ.out (by rw [HSJ.out]; exact HMIJ.out r) hn (HMLJ.out r hr) (by rw [HSJ.out]; omega) (by omega))
          have HSS2 := Lib.hid (fun (V : World) (hV : Below wq.heap.size wq V) => HSS.out V (below_in hBr hV) (HBL.out.below hV hgl))
          have HVLT := Lib.hid (fun b e => RowG.own_lt hrow b e)
          have HVLE := Lib.hid (fun b e => RowG.own_le hrow b e)
          have HROWQ := Lib.hid hrow
          clear hrow
          go_wp2
          go_loopw [8, 9] (fun v2 i wr => ∃ r : Nat, r ≤ R ∧ i = .int .i64 r ∧ RowM (fun b => some b ≠ u5.ownBlock) wr wq.heap.size v2 (made.take r) ∧ Below wq.heap.size wq wr) (fun _ i _ => R - (intOf i).toNat)
          case atStart => exact ⟨0, Nat.zero_le _, rfl, RowG.nil _ _ _ _ _ _, Below.refl _ _⟩
          case round =>
            obtain ⟨r, hr, rfl, hrow2, hBs⟩ := hrel
            have b5 := HBL.out.below hBs hgl
            have c0 := b5.cell 0; have c1 := b5.cell 1; simp only [List.getElem?_toArray, List.getElem?_cons_zero, List.getElem?_cons_succ] at c0 c1
            by_cases hlt2 : r < R
            · have hdec2 : decide ((r : Int) < (R : Int)) = true := by simp; omega
              go_wp2_with (go_at_call 55; refine (HRw.out _).mono ?_; rintro e wr2 ⟨rfl, hB1⟩; replace hrow2 := RowG.below hrow2 hB1; replace hBs := below_in hBs hB1)
              have hS0 := HSS2.out _ hBs
              have hr16 : (made.take r).length ≤ 100 := by rw [List.length_take, HLC.out]; omega
              have HPL2 := Lib.hid hr16
              have HNX2 := Lib.hid (HNR.out r hlt2)
              have HLX : Hid ((uponL n st (memL k p col (r : Int))).length = n) := HLU.out r
              have HVLT2 := Lib.hid (fun b e => RowG.own_lt hrow2 b e)
              have HVLE2 := Lib.hid (fun b e => RowG.own_le hrow2 b e)
              have HMEMR := Lib.hid (fun W => HMEM.out r hlt2 W)
              have HUPR := Lib.hid (fun V vm hV hm => HUP.out r hlt2 V vm hV hm)
              have i5 : (0 : Int) ≤ (r : Int) := by omega
              have z1 : (0 : Int) < (m : Int) := by omega
              have z2 : (0 : Int) < (R : Int) := by omega
              have z3 : ¬ R = 0 := by omega
              have z4 : ¬ m = 0 := by omega
              clear hr16 c0 c1 b5
              generalize uponL n st (memL k p col (r : Int)) = xone at *
              generalize memL k p col (r : Int) = mem at *
              generalize made.take r = pre2 at *
              go_wp2_with fail
              have hS : (fun V : World => V.cell? ⟨w.heap.size, 0, none⟩ = some (.int .i64 k) ∧ V.cell? ⟨w.heap.size, 1, none⟩ = some (.int .i64 p) ∧ V.cell? ⟨b1, off1, none⟩ = some (.slice (some ⟨b2, off3, none⟩) R cap3) ∧ V.cell? ⟨b2, off3, none⟩ = some (.slice Aa n ca)) wr2.drew := HSS2.out _ hBs.drew
              refine (wpIn_wide (n := 12)).1 (wpIn_mono (region_HF (Q := NoPanic _) (S := (fun V : World => V.cell? ⟨w.heap.size, 0, none⟩ = some (.int .i64 k) ∧ V.cell? ⟨w.heap.size, 1, none⟩ = some (.int .i64 p) ∧ V.cell? ⟨b1, off1, none⟩ = some (.slice (some ⟨b2, off3, none⟩) R cap3) ∧ V.cell? ⟨b2, off3, none⟩ = some (.slice Aa n ca))) (by kernel_rfl) ?_) NoPanic.imp)
              refine anyHF_take (i := 0) (d := 37) (v := u8) (by kernel_rfl) rfl (by kernel_rfl) (by kernel_rfl) (by kernel_rfl) rfl (fun _ _ _ h => h) ⟨Or.inl ⟨by rfl, fun w hS => by obtain ⟨h0, h1, h2, h3⟩ := hS; go_simp⟩, fun _ => rfl⟩ hS ?_
              simp only [List.setIfInBounds_toArray, List.set_cons_zero, List.set_cons_succ]
              refine anyHF_take (i := 1) (d := 38) (v := u5) (by kernel_rfl) rfl (by kernel_rfl) (by kernel_rfl) (by kernel_rfl) rfl (fun _ _ _ h => h) ⟨Or.inl ⟨by rfl, fun w hS => by obtain ⟨h0, h1, h2, h3⟩ := hS; go_simp⟩, fun _ => rfl⟩ hS ?_
              simp only [List.setIfInBounds_toArray, List.set_cons_zero, List.set_cons_succ]
              refine anyHF_take (i := 2) (d := 39) (v := .agg #[.int .i64 k, .int .i64 p]) (by kernel_rfl) rfl (by kernel_rfl) (by kernel_rfl) (by kernel_rfl) rfl (fun _ _ _ h => h) ⟨Or.inl ⟨by rfl, fun w hS => by obtain ⟨h0, h1, h2, h3⟩ := hS; go_simp⟩, fun _ => rfl⟩ hS ?_
              simp only [List.setIfInBounds_toArray, List.set_cons_zero, List.set_cons_succ]
              refine anyHF_take (i := 3) (d := 40) (v := .int .i64 col) (by kernel_rfl) rfl (by kernel_rfl) (by kernel_rfl) (by kernel_rfl) rfl (fun _ _ _ h => h) ⟨Or.inl ⟨by rfl, fun w hS => by obtain ⟨h0, h1, h2, h3⟩ := hS; go_simp⟩, fun _ => rfl⟩ hS ?_
              simp only [List.setIfInBounds_toArray, List.set_cons_zero, List.set_cons_succ]
              refine anyHF_take (i := 4) (d := 41) (v := .int .i64 (r : Int)) (by kernel_rfl) rfl (by kernel_rfl) (by kernel_rfl) (by kernel_rfl) rfl (fun _ _ _ h => h) ⟨Or.inl ⟨by rfl, fun w hS => by obtain ⟨h0, h1, h2, h3⟩ := hS; go_simp⟩, fun _ => rfl⟩ hS ?_
              simp only [List.setIfInBounds_toArray, List.set_cons_zero, List.set_cons_succ]
              refine anyHF_take (i := 5) (d := 42) (v := .agg #[.int .i64 col, .int .i64 (r : Int)]) (by kernel_rfl) rfl (by kernel_rfl) (by kernel_rfl) (by kernel_rfl) rfl (fun _ _ _ h => h) ⟨Or.inl ⟨by rfl, fun w hS => by obtain ⟨h0, h1, h2, h3⟩ := hS; go_simp⟩, fun _ => rfl⟩ hS ?_
              simp only [List.setIfInBounds_toArray, List.set_cons_zero, List.set_cons_succ]
              refine anyHF_take (i := 7) (d := 44) (v := .slice (some ⟨b1, off1, none⟩) m cap) (by kernel_rfl) rfl (by kernel_rfl) (by kernel_rfl) (by kernel_rfl) rfl (fun _ _ _ h => h) ⟨Or.inl ⟨by rfl, fun w hS => by obtain ⟨h0, h1, h2, h3⟩ := hS; go_simp⟩, fun _ => rfl⟩ hS ?_
              simp only [List.setIfInBounds_toArray, List.set_cons_zero, List.set_cons_succ]
              refine anyHF_take (i := 8) (d := 45) (v := .pointer (some ⟨b1, off1, none⟩)) (by kernel_rfl) rfl (by kernel_rfl) (by kernel_rfl) (by kernel_rfl) rfl (fun _ _ _ h => h) ⟨Or.inl ⟨by rfl, fun w hS => by obtain ⟨h0, h1, h2, h3⟩ := hS; go_simp⟩, fun _ => rfl⟩ hS ?_
              simp only [List.setIfInBounds_toArray, List.set_cons_zero, List.set_cons_succ]
              refine anyHF_take (i := 9) (d := 46) (v := .slice (some ⟨b2, off3, none⟩) R cap3) (by kernel_rfl) rfl (by kernel_rfl) (by kernel_rfl) (by kernel_rfl) rfl (fun _ _ _ h => h) ⟨Or.inl ⟨by rfl, fun w hS => by obtain ⟨h0, h1, h2, h3⟩ := hS; go_simp⟩, fun _ => rfl⟩ hS ?_
              simp only [List.setIfInBounds_toArray, List.set_cons_zero, List.set_cons_succ]
              refine anyHF_take (i := 10) (d := 47) (v := .pointer (some ⟨b2, off3, none⟩)) (by kernel_rfl) rfl (by kernel_rfl) (by kernel_rfl) (by kernel_rfl) rfl (fun _ _ _ h => h) ⟨Or.inl ⟨by rfl, fun w hS => by obtain ⟨h0, h1, h2, h3⟩ := hS; go_simp⟩, fun _ => rfl⟩ hS ?_
              simp only [List.setIfInBounds_toArray, List.set_cons_zero, List.set_cons_succ]
              refine anyHF_take (i := 11) (d := 48) (v := .slice Aa n ca) (by kernel_rfl) rfl (by kernel_rfl) (by kernel_rfl) (by kernel_rfl) rfl (fun _ _ _ h => h) ⟨Or.inl ⟨by rfl, fun w hS => by obtain ⟨h0, h1, h2, h3⟩ := hS; go_simp⟩, fun _ => rfl⟩ hS ?_
              simp only [List.setIfInBounds_toArray, List.set_cons_zero, List.set_cons_succ]
              refine anyHF_take (i := 12) (d := 49) (v := .int .i64 (n : Int)) (by kernel_rfl) rfl (by kernel_rfl) (by kernel_rfl) (by kernel_rfl) rfl (fun _ _ _ h => h) ⟨Or.inl ⟨by rfl, fun w hS => by obtain ⟨h0, h1, h2, h3⟩ := hS; go_simp⟩, fun _ => rfl⟩ hS ?_
              simp only [List.setIfInBounds_toArray, List.set_cons_zero, List.set_cons_succ]
              refine anyHF_one (i := 6) (by kernel_rfl) rfl (by kernel_rfl) (by rfl) ?_
              gi_wp2_with fail
              refine ⟨trivial, (callsIn_wide.2 (HMEMR.out _)).mono ?_⟩
              rintro e wm ⟨vm, rfl, hmem, hBm⟩
              replace hBm := below_undrew hBm
              clear hS
              have hS : (fun V : World => V.cell? ⟨w.heap.size, 0, none⟩ = some (.int .i64 k) ∧ V.cell? ⟨w.heap.size, 1, none⟩ = some (.int .i64 p) ∧ V.cell? ⟨b1, off1, none⟩ = some (.slice (some ⟨b2, off3, none⟩) R cap3) ∧ V.cell? ⟨b2, off3, none⟩ = some (.slice Aa n ca)) wm := HSS2.out _ (below_in hBs hBm)
              gi_wp2
              try (refine ⟨hS, ?_⟩)
              refine anyHF_one (i := 13) (by kernel_rfl) rfl (by kernel_rfl) (by rfl) ?_
              gi_wp2_with fail
              refine ⟨trivial, (callsIn_wide.2 (HUPR.out _ vm (below_in hBs hBm) hmem.readA)).mono ?_⟩
              rintro e wn ⟨v', rfl, hfr, hBn⟩
              obtain ⟨Ax, cx, hxe, _, _⟩ := id hfr
              rw [HLX.out] at hxe
              subst hxe
              replace hfr := hfr.less hBm.size
              replace hBn := below_in hBm hBn
              clear hS
              have hS : (fun V : World => V.cell? ⟨w.heap.size, 0, none⟩ = some (.int .i64 k) ∧ V.cell? ⟨w.heap.size, 1, none⟩ = some (.int .i64 p) ∧ V.cell? ⟨b1, off1, none⟩ = some (.slice (some ⟨b2, off3, none⟩) R cap3) ∧ V.cell? ⟨b2, off3, none⟩ = some (.slice Aa n ca)) wn := HSS2.out _ (below_in hBs hBn)
              gi_wp2
              try (refine ⟨hS, ?_⟩)
              refine anyHF_one (i := 14) (by kernel_rfl) rfl (by kernel_rfl) (by rfl) ?_
              have hcells : Below wn.heap.size wn (wn.alloc (.cells #[.slice Ax n cx] 25)) := below_one wn _
              have hBc := below_in hBn hcells
              have HROWM := Lib.hid (RowG.below hrow2 hBc)
              have HBLK := Lib.hid (Blk.new wn 25 #[.slice Ax n cx])
              have hss := hBs.size
              have hbn := hBn.size
              have hcs := hcells.size
              have hwq := hBr.size
              have HBY : Hid (BytesP (fun b => b < (wn.alloc (.cells #[.slice Ax n cx] 25)).heap.size ∧ some b ≠ u8.ownBlock ∧ some b ≠ u5.ownBlock) (wn.alloc (.cells #[.slice Ax n cx] 25)) (.slice Ax n cx) xone) := by
                obtain ⟨A8, cp8, e8, h8, hA8⟩ := hfr.below hcells
                refine ⟨A8, cp8, by rw [HLX.out] at e8 ⊢; exact e8, h8, fun hp => ?_⟩
                obtain ⟨b, off, q1, q2, q3, q4⟩ := hA8 hp
                exact ⟨b, off, q1, ⟨q3, fun e => by have := HVLT2.out b e.symm; omega, fun e => by have := HVLT.out b e.symm; omega⟩, q4⟩
              clear hfr hS
              have hS : (fun V : World => V.cell? ⟨w.heap.size, 0, none⟩ = some (.int .i64 k) ∧ V.cell? ⟨w.heap.size, 1, none⟩ = some (.int .i64 p) ∧ V.cell? ⟨b1, off1, none⟩ = some (.slice (some ⟨b2, off3, none⟩) R cap3) ∧ V.cell? ⟨b2, off3, none⟩ = some (.slice Aa n ca)) (wn.alloc (.cells #[.slice Ax n cx] 25)) := HSS2.out _ (below_in hBs hBc)
              gi_wp2
              try (refine ⟨hS, ?_⟩)
              refine anyHF_one (i := 15) (by kernel_rfl) rfl (by kernel_rfl) (by rfl) ?_
              refine opIn_pushM (T := 44) (v := u8) _ (.tmp 37) (.tmp 51) rfl Tryz.underlying44 pre2 rfl HROWM.out wn.heap.size 25 _ xone rfl HBLK.out HBY.out (by have := HPL2.out; omega) (by omega) ?_
              intro v' w4 hrow4 hgrow4 hown4
              clear hS
              have hB4 : Below wq.heap.size wq w4 := below_grown (below_in hBs hBc) hgrow4 (by omega) (fun g e => HVLE2.out g e)
              have hS : (fun V : World => V.cell? ⟨w.heap.size, 0, none⟩ = some (.int .i64 k) ∧ V.cell? ⟨w.heap.size, 1, none⟩ = some (.int .i64 p) ∧ V.cell? ⟨b1, off1, none⟩ = some (.slice (some ⟨b2, off3, none⟩) R cap3) ∧ V.cell? ⟨b2, off3, none⟩ = some (.slice Aa n ca)) w4 := HSS2.out _ hB4
              gi_wp2_with fail
              try (refine ⟨hS, ?_⟩)
              refine anyHF_one (i := 16) (by kernel_rfl) rfl (by kernel_rfl) (by rfl) ?_
              gi_wp2
              refine anyHF_done (by kernel_rfl) ?_ _
              refine NoPanic.normal ?_
              clear hS
              gi_wp2_with fail
              go_wp2
              go_roundw
              case rel => exact ⟨r + 1, by omega, by go_num, by rw [HNX2.out]; exact hrow4, hB4⟩
              case measure => simp [intOf]; omega
            · obtain rfl : r = R := by omega
              have e1 : decide ((r : Int) < (r : Int)) = false := by simp
              have HTK : Hid (made.take r = made) := by unfold Hid; rw [List.take_of_length_le]; rw [HLC.out]; exact Nat.le_refl _
              rw [HTK.out] at hrow2
              obtain ⟨A7, cp7, hu7, _, _⟩ := id (RowM.many hrow2 (S := fun _ => True) (fun _ _ _ => trivial))
              subst hu7
              have HNX3 := Lib.hid HNX.out
              generalize made.length = n7 at *
              have HRC := Lib.hid (fun (V : World) (hV : Below wr.heap.size wr V) => RowG.below HROWQ.out (below_in (below_in hBs hV) (below_one V (.cells #[.slice A7 n7 cp7] 44))))
              have HBK := Lib.hid (fun V : World => Blk.new V 44 #[.slice A7 n7 cp7])
              have HMC := Lib.hid (fun (V : World) (hV : Below wr.heap.size wr V) => (RowM.many (RowG.below (RowG.below hrow2 hV) (below_one V (.cells #[.slice A7 n7 cp7] 44))) (fun b hb hq => ⟨hb, (by rcases hq with h | h; exact h; exact fun e => by have := HVLT.out b e.symm; omega), trivial⟩) : manyR.R (fun b => b < (V.alloc (.cells #[.slice A7 n7 cp7] 44)).heap.size ∧ some b ≠ u5.ownBlock ∧ True) (V.alloc (.cells #[.slice A7 n7 cp7] 44)) (.slice A7 n7 cp7) made))
              have HPL3 := Lib.hid (show st.length ≤ 100000 by have := hpl.out; omega)
              have HBS3 := Lib.hid (fun (V : World) (hV : Below wr.heap.size wr V) => (show w.heap.size + 1 ≤ (V.alloc (.cells #[.slice A7 n7 cp7] 44)).heap.size by have := hV.size; have := hBs.size; have := hBr.size; simp; omega))
              have HRL := Lib.hid (fun (V W : World) (v' : Value) (hV : Below wr.heap.size wr V) (hg : (V.alloc (.cells #[.slice A7 n7 cp7] 44)).grownBy W u5.ownBlock) => (⟨((HBL.out.below (below_in hBs hV) hgl).alloc _).grown hg (fun e => by have := HVLE.out _ e.symm; omega), below_grown (below_in hBr (below_in (below_in hBs hV) (below_one V _))) hg (by have := HBS3.out V hV; omega) (fun g e => by have := HVLE.out g e; omega)⟩ : Blk W w.heap.size 37 #[.int .i64 k, .int .i64 p] ∧ Below w.heap.size w W))
              have HMS : Hid (m + M - (col + 1).toNat < m + M - col.toNat) := by have h1 := HCOL.out; unfold Hid; clear HWR; omega
              have HW1 : Hid (col + 1 = ((m + (j + 1) : Nat) : Int)) := by have h2 := HCOL.out; unfold Hid; clear HWR; omega
              clear hrow2 hBs
              go_wp2_with (first
                | (go_at_call 55; refine (HRw.out _).mono ?_; rintro e wr2 ⟨rfl, hB1⟩)
                | (at_builtin; refine wpList_pushC (T := 33) _ rfl _ _ rfl Tryz.underlying33 st rfl (HRC.out _ hB1) wr2.heap.size 44 _ made rfl (HBK.out _) (HMC.out _ hB1) HPL3.out (HBS3.out _ hB1) ?_; intro v' w2 hrow4 hgrow hown))
              go_roundw
              case rel => exact ⟨j + 1, by omega, congrArg _ HW1.out, by rw [HNX3.out]; exact hrow4, HRL.out _ _ v' hB1 hgrow⟩
              case measure => exact HMS.out
        · obtain rfl : j = M := by omega
          have e1 : decide (((m + j : Nat) : Int) < ((m + j : Nat) : Int)) = false := by simp
          go_wp2_with (go_at_call 54; refine (HCo.out _).mono ?_; rintro e wq ⟨rfl, hB1⟩; replace hrow := RowG.below hrow hB1; replace hBr := below_in hBr hB1)
          go_ret
          exact ⟨_, rfl, RowC.cols hrow, hBr⟩
end Go.Proofs.YtggdlklkjnbbjaaGreatDoor.E

namespace Go.Proofs.YtggdlklkjnbbjaaGreatDoor.E
open Go.RowKit Go.Shelf Go.Proofs.YtggdlklkjnbbjaaGreatDoor.C
set_option linter.unusedSimpArgs false
set_option linter.unusedVariables false

theorem lineL_in (p N li : Int) {R : Nat} (hRR : p - 1 = (R : Int)) : inL R N.toNat (lineL p N li) := by
  intro z hz
  unfold lineL at hz
  have h1 := flatC_mem' (List.mem_filter.1 hz).1
  have h2 := spanL_mem h1.1
  omega
theorem lineL_len (p li : Int) {R N : Nat} (hRR : (p - 1).toNat = R) (h16 : R ≤ 16) (hN : N ≤ 20) : (lineL p (N : Int) li).length ≤ 1000 := by
  unfold lineL
  have h := grid_flat 0 (N : Int) p
  rw [Int.sub_zero, Int.toNat_natCast, hRR] at h
  rw [← h]
  exact Nat.le_trans (List.length_filter_le _ _) (Nat.le_trans (grid_len 0 R N 0 h16 hN (by omega)) (by omega))
set_option maxRecDepth 100000 in
set_option maxHeartbeats 2000000 in
theorem line6_any {B : Nat} (k p li : Int) (hR : RightC k p) (v1 : Value) (css : List (List (List UInt8))) (n : Nat) (w : World) (hB : B ≤ w.heap.size) (hC : Cols B w v1 css) (h1 : 0 < css.length) (h20 : css.length ≤ 20) (hG : Grid (p - 1).toNat n css) (hn : n ≤ 1000) :
    Calls Tryz.prog 20 #[.agg #[.int .i64 k, .int .i64 p], v1, .int .i64 li, .bool false] w fun e w' => ∃ u, e = .returned u ∧ Bytes w'.heap.size w' u (uponL n css (lineL p (css.length : Int) li)) ∧ Below w.heap.size w w' := by
  obtain ⟨p1, p2, s1, s2, m1, m2⟩ := hR.und
  obtain ⟨b1, off1, cap, rfl, hcap, hb1, hrow0⟩ := hC.at_ h1
  obtain ⟨R, hRR⟩ : ∃ R : Nat, p - 1 = (R : Int) := ⟨(p - 1).toNat, by omega⟩
  have hRt : (p - 1).toNat = R := by omega
  have hR16 : R ≤ 16 := by omega
  have hR2 : 2 ≤ R := by omega
  rw [hRt] at hG
  have HDG := Lib.hid (fun (x y : Nat) (hx : x < 20) (hy : y < R) (W : World) => refDiagonal_any k p x y hR ⟨by omega, by omega⟩ ⟨by omega, by omega⟩ W)
  have HIN := Lib.hid (lineL_in p (css.length : Int) li hRR)
  have HLL := Lib.hid (lineL_len p li hRt hR16 h20)
  have HEND : Hid ((Go.Proofs.YtggdlklkjnbbjaaGreatDoor.grid 0 R css.length 0).filter (fun z => decide ((z.1 + z.2) % p = li)) = lineL p (css.length : Int) li) := by
    have h := grid_flat 0 (css.length : Int) p
    rw [Int.sub_zero, Int.toNat_natCast, hRt] at h
    unfold Hid lineL
    rw [← h]
  have HUP := Lib.hid (fun (V : World) (vl : Value) (hV : Below w.heap.size w V) (hl : ReadA V vl (lineL p (css.length : Int) li)) => upon6_any (B := B) (.slice (some ⟨b1, off1, none⟩) css.length cap) vl css _ R n V (Nat.le_trans hB hV.size) (hC.below (hV.mono hB)) hl hG (by have := HIN.out; rwa [Int.toNat_natCast] at this) hn HLL.out (by omega) (by omega))
  -- the first cell
  obtain ⟨u1, hc1, hm1⟩ := hrow0 0 h1
  obtain ⟨hcr, hce⟩ := hG 0 h1
  obtain ⟨A3, cap3, rfl, _, _⟩ := id hm1
  obtain ⟨b2, off3, rfl, hb2, hrow3⟩ := many_at hm1 (by omega)
  obtain ⟨Aa, ca, hc3, _⟩ := hrow3 0 (by omega)
  rw [hcr, Nat.add_zero] at hc1
  rw [hce 0 (by omega), Nat.add_zero] at hc3
  have HD1 := Lib.hid (fun (V : World) (hV : Below w.heap.size w V) => (⟨(hV.cell (p := ⟨b1, off1, none⟩) (Nat.lt_of_lt_of_le hb1 hB)).trans hc1, (hV.cell (p := ⟨b2, off3, none⟩) (Nat.lt_of_lt_of_le hb2 hB)).trans hc3⟩ : V.cell? ⟨b1, off1, none⟩ = some (.slice (some ⟨b2, off3, none⟩) R cap3) ∧ V.cell? ⟨b2, off3, none⟩ = some (.slice Aa n ca)))
  have b0 := Blk.new w 37 #[.int .i64 k, .int .i64 p]
  have hBW := below_one w (.cells #[.int .i64 k, .int .i64 p] 37)
  have hwp : IntKind.i64.wrap (p - 1) = (R : Int) := by rw [IntWalk.i64_in _ (by omega)]; omega
  have hwp2 : wrap64 (p - 1) = (R : Int) := (IntWalk.wrap64_in _ (by omega)).trans hRR
  clear hm1 hrow3 hcr hce hc1 hc3 hrow0 hC hG hRt hR HIN HLL s1 s2 m1 m2
  generalize hq : (fun z : Int × Int => decide ((z.1 + z.2) % p = li)) = q at HEND
  have HQ := Lib.hid (fun x y => (congrFun hq (x, y) : decide ((x + y) % p = li) = q (x, y)))
  clear hq
  generalize css.length = N at *
  generalize lineL p (N : Int) li = want at *
  go_enter Tryz.func20, Tryz.ntmps20
  go_wp2_with fail
  go_loopw [9, 10] (fun v i wr => ∃ j : Nat, j ≤ N ∧ i = .int .i64 j ∧ OwnA wr (w.heap.size + 1) v ((Go.Proofs.YtggdlklkjnbbjaaGreatDoor.grid 0 R j 0).filter q) ∧ Blk wr w.heap.size 37 #[.int .i64 k, .int .i64 p] ∧ Below w.heap.size w wr) (fun _ i _ => N - (intOf i).toNat)
  case atStart => exact ⟨0, by omega, rfl, ownA_nil _ _, b0, hBW⟩
  case round =>
    clear b0 hBW
    obtain ⟨j, hj, rfl, ho, b0, hB0⟩ := hrel
    have c0 := b0.cell 0; have c1 := b0.cell 1; simp only [List.getElem?_toArray, List.getElem?_cons_zero, List.getElem?_cons_succ] at c0 c1
    by_cases hlt : j < N
    · have hdec : decide ((j : Int) < (N : Int)) = true := by simp; omega
      go_wp2
      go_loopw [9, 11] (fun v i wz => ∃ n : Nat, n ≤ R ∧ i = .int .i64 n ∧ OwnA wz (w.heap.size + 1) v ((Go.Proofs.YtggdlklkjnbbjaaGreatDoor.grid 0 R j n).filter q) ∧ Blk wz w.heap.size 37 #[.int .i64 k, .int .i64 p] ∧ Below w.heap.size w wz) (fun _ i _ => R - (intOf i).toNat)
      case atStart => exact ⟨0, by omega, rfl, ho, b0, hB0⟩
      case round =>
        clear ho b0 hB0 c0 c1
        obtain ⟨r, hr, rfl, ho, b0, hB0⟩ := hrel
        have c0 := b0.cell 0; have c1 := b0.cell 1; simp only [List.getElem?_toArray, List.getElem?_cons_zero, List.getElem?_cons_succ] at c0 c1
        by_cases hlt2 : r < R
        · have hdec2 : decide ((r : Int) < (R : Int)) = true := by simp; omega
          have hfl : ((Go.Proofs.YtggdlklkjnbbjaaGreatDoor.grid 0 R j r).filter q).length ≤ 500 := Nat.le_trans (List.length_filter_le _ _) (grid_len 0 R j r hR16 (by omega) (by omega))
          have hBx := below_one wr (.cells #[.int .i64 j, .int .i64 r] 56)
          have b2 := Blk.new wr 56 #[.int .i64 j, .int .i64 r]
          replace ho := ho.below hBx
          replace b0 := b0.below hBx b0.lt
          replace hB0 := below_in hB0 hBx
          have d0 := b0.cell 0; have d1 := b0.cell 1; simp only [List.getElem?_toArray, List.getElem?_cons_zero, List.getElem?_cons_succ] at d0 d1
          have z0 := b2.cell 0; have z1 := b2.cell 1; simp only [List.getElem?_toArray, List.getElem?_cons_zero, List.getElem?_cons_succ] at z0 z1
          have HM := Lib.hid (HDG.out j r (by omega) hlt2)
          have hqq := HQ.out (j : Int) (r : Int)
          generalize ((j : Int) + (r : Int)) % p = dg at *
          cases hqz : q ((j : Int), (r : Int)) with
          | false =>
            rw [hqz] at hqq
            have hdl : (dg == li) = false := by simpa using hqq
            have hnx : (Go.Proofs.YtggdlklkjnbbjaaGreatDoor.grid 0 R j (r + 1)).filter q = (Go.Proofs.YtggdlklkjnbbjaaGreatDoor.grid 0 R j r).filter q := by rw [grid_one, List.filter_append]; simp [hqz]
            generalize (Go.Proofs.YtggdlklkjnbbjaaGreatDoor.grid 0 R j r).filter q = l at *
            have HN := Lib.hid hnx
            clear hnx hqq
            go_wp2_with (go_at_call 37; refine (HM.out _).mono ?_; rintro e w3 ⟨rfl, hB1⟩; replace ho := ho.below hB1; replace b0 := b0.below hB1 b0.lt; replace hB0 := below_in hB0 hB1)
            go_roundw
            case rel => exact ⟨r + 1, by omega, by go_num, by rw [HN.out]; exact ho, b0, hB0⟩
            case measure => simp [intOf]; omega
          | true =>
            rw [hqz] at hqq
            have hdl : (dg == li) = true := by simpa using hqq
            have hnx : (Go.Proofs.YtggdlklkjnbbjaaGreatDoor.grid 0 R j (r + 1)).filter q = (Go.Proofs.YtggdlklkjnbbjaaGreatDoor.grid 0 R j r).filter q ++ [((j : Int), (r : Int))] := by rw [grid_one, List.filter_append]; simp [hqz]
            generalize (Go.Proofs.YtggdlklkjnbbjaaGreatDoor.grid 0 R j r).filter q = l at *
            have HN := Lib.hid hnx
            clear hnx hqq
            go_wp2_with fail
            refine (HM.out _).mono ?_
            rintro e w3 ⟨rfl, hB1⟩
            replace ho := ho.below hB1
            replace b0 := b0.below hB1 b0.lt
            replace b2 := b2.below hB1 b2.lt
            replace hB0 := below_in hB0 hB1
            clear c0 c1 z0 z1 d0 d1
            have z0 := b2.cell 0; have z1 := b2.cell 1; simp only [List.getElem?_toArray, List.getElem?_cons_zero, List.getElem?_cons_succ] at z0 z1
            have hBy := below_one w3 (.cells #[.int .i64 j, .int .i64 r] 56)
            have HO := Lib.hid (ho.below hBy)
            have HU := Lib.hid (Blk.new w3 56 #[.int .i64 j, .int .i64 r])
            replace b0 := b0.below hBy b0.lt
            replace hB0 := below_in hB0 hBy
            have hs3 := hB0.size
            have hs4 := b0.lt
            have ho4 := ho.own_le
            have hn0 := ho.ne (g := w.heap.size) (by omega)
            go_wp2_with (at_builtin; refine wpList_code _ rfl _ _ 49 56 (.agg #[.int .i64 0, .int .i64 0]) 16 rfl Tryz.underlying49 Tryz.infoAt rfl (w.heap.size + 1) _ _ rfl _ HO.out _ 1 _ _ rfl HU.out (by omega) (by omega) (by omega) ?_; intro v2 w2 hown2 hgrow2)
            go_roundw
            case rel => exact ⟨r + 1, by omega, by go_num, by rw [HN.out]; exact OwnA.push hown2, b0.grown hgrow2 hn0, hB0.grown hgrow2 hB0.size (fun g e => by have := ho4 g e; omega)⟩
            case measure => simp [intOf]; omega
        · obtain rfl : r = R := by omega
          have hdec2 : decide ((r : Int) < (r : Int)) = false := by simp
          go_wp2
          go_roundw
          case rel => exact ⟨j + 1, by omega, by go_num, by rw [grid_row]; exact ho, b0, hB0⟩
          case measure => simp [intOf]; omega
    · obtain rfl : j = N := by omega
      have hdec : decide ((j : Int) < (j : Int)) = false := by simp
      obtain ⟨d1, d2⟩ := HD1.out _ hB0
      rw [HEND.out] at ho
      have z1 : (0 : Int) < (j : Int) := by omega
      have z2 : (0 : Int) < (R : Int) := by omega
      have z3 : ¬ R = 0 := by omega
      have z4 : ¬ j = 0 := by omega
      go_wp2_with (go_at_call 56; refine (HUP.out _ _ hB0 ho.readA).mono ?_; rintro e w3 ⟨u, rfl, hu, hB1⟩)
      go_ret
      exact ⟨_, rfl, hu.bytes, below_in hB0 hB1⟩
end Go.Proofs.YtggdlklkjnbbjaaGreatDoor.E

namespace Go.Proofs.YtggdlklkjnbbjaaGreatDoor.E
open Go.RowKit Go.Shelf Go.Proofs.YtggdlklkjnbbjaaGreatDoor.C
set_option linter.unusedSimpArgs false
set_option linter.unusedVariables false
attribute [local go_sem] Oper.semAt_some


/-- What is answered when nothing gave up. -/
theorem idle_K (p : Addr) (w : World) :
    CallsD Tryz.prog 97 #[.pointer (some p)] .returning w fun e u' w' => e = .returned (.tuple #[]) ∧ u' = .returning ∧ w' = w := by
  have hta := assert_errno
  refine callsD_of_wpS Tryz.func97 rfl fun c₀ cs hu => ?_
  simp only [Tryz.ntmps97, List.size_toArray, List.length_cons, List.length_nil, Nat.reduceAdd, Nat.reduceSub, Array.replicate_succ, Array.replicate_zero, List.push_toArray, List.append_toArray, List.nil_append, List.cons_append]
  apply wpS_seq
  apply wpS_region
  simp [wpOpsS, go_sem, recoverD, hu, Exit.thenS]
  all_goals (refine wpS_of_wp ?_; go_wp2; cases c₀; simp_all [bodyPostS, results, Tryz.results97])
/-- What is answered when it gave up. -/
theorem caught_K (p : Addr) (x : Int) (w : World) (hc : w.cell? p = some (.int .i64 x)) (hz : w.frozen? p = false) :
    CallsD Tryz.prog 97 #[.pointer (some p)] (.panicking gaveUp) w fun e u' w' =>
      e = .returned (.tuple #[]) ∧ u' = .panicking [{ v := .iface 26 (.int .i64 2), recovered := true }] ∧ w' = w.setCell p (.int .i64 2) := by
  have hta := assert_errno
  refine callsD_of_wpS Tryz.func97 rfl fun c₀ cs hu => ?_
  simp only [Tryz.ntmps97, List.size_toArray, List.length_cons, List.length_nil, Nat.reduceAdd, Nat.reduceSub, Array.replicate_succ, Array.replicate_zero, List.push_toArray, List.append_toArray, List.nil_append, List.cons_append]
  apply wpS_seq
  apply wpS_region
  simp [wpOpsS, go_sem, recoverD, hu, Exit.thenS, gaveUp]
  all_goals (refine wpS_of_wp ?_; go_wp2; simp [bodyPostS, results, Tryz.results97])

theorem two_blks (w : World) {w1 : World} (hB1 : Below ((w.alloc (.cells #[.int .i64 0, .slice none 0 0] 65)).alloc (.cells #[.int .i64 0] 26)).heap.size ((w.alloc (.cells #[.int .i64 0, .slice none 0 0] 65)).alloc (.cells #[.int .i64 0] 26)) w1) : Blk w1 w.heap.size 65 #[.int .i64 0, .slice none 0 0] ∧ Blk w1 (w.heap.size + 1) 26 #[.int .i64 0] :=
  ⟨((Blk.new w _ _).alloc _).below hB1 (by simp; omega), (Blk.second w _ _ _).below hB1 (by simp)⟩
set_option maxHeartbeats 1000000 in
theorem ans_K_yes (f : Nat) (caps : Array Value) (w : World) (p : Int) (A : Option Addr) (n c : Nat) (hent : ∀ W, (callFunc f caps).run Tryz.prog W = .ok (.enter f caps) W)
    (h : ∀ W, Below w.heap.size w W → Calls Tryz.prog f caps W fun e w' => e = .returned (.agg #[.int .i64 p, .slice A n c]) ∧ Below W.heap.size W w') :
    Calls Tryz.prog 47 #[.func (.func f) #[] caps] w fun e w' => e = .returned (.tuple #[.agg #[.int .i64 p, .slice A n c], .int .i64 0]) ∧ Below w.heap.size w w' := by
  have hmf : ∀ (fn : Fn) (first cap : Array Value) (w : World), (Instr.makeFunc fn first cap).run Tryz.prog w = .ok (.func fn first cap) w := fun _ _ _ _ => rfl
  have hBa := below_two w (.cells #[.int .i64 0, .slice none 0 0] 65) (.cells #[.int .i64 0] 26)
  have h1 := h _ hBa
  clear h
  go_enter_defers Tryz.func47, Tryz.ntmps47
  go_wp2
  refine h1.mono ?_
  rintro e w1 ⟨rfl, hB1⟩
  obtain ⟨b0, b1⟩ := two_blks w hB1
  have c0 := b0.cell 0
  have c1 := b0.cell 1
  have c2 := b1.cell 0
  have f0 := b0.frozen 0
  have f1 := b0.frozen 1
  have f2 := b1.frozen 0
  simp only [List.getElem?_toArray, List.getElem?_cons_zero, List.getElem?_cons_succ] at c0 c1 c2
  have hBw := below_in hBa hB1
  go_wp2
  obtain ⟨ww, hww⟩ : ∃ ww, ((w1.setCell ⟨w.heap.size, 0, none⟩ (.int .i64 p)).setCell ⟨w.heap.size, 1, none⟩ (.slice A n c)).setCell ⟨w.heap.size + 1, 0, none⟩ (.int .i64 0) = ww := ⟨_, rfl⟩
  have d0 : Blk ww w.heap.size 65 #[.int .i64 p, .slice A n c] := by
    rw [← hww]
    exact Blk.far ((b0.set_ 0 (.int .i64 p)).set_ 1 (.slice A n c)) (by simp) _
  have d1 : Blk ww (w.heap.size + 1) 26 #[.int .i64 0] := by
    rw [← hww]
    exact (Blk.far (Blk.far b1 (by simp) _) (by simp) _).set_ 0 (.int .i64 0)
  have hBz : Below w.heap.size w ww := by
    rw [← hww]
    exact ((hBw.setCell (Nat.le_refl _) _).setCell (Nat.le_refl _) _).setCell (Nat.le_succ _) _
  rw [hww]
  have e0 := d0.cell 0
  have e1 := d0.cell 1
  have e2 := d1.cell 0
  simp only [List.getElem?_toArray, List.getElem?_cons_zero, List.getElem?_cons_succ] at e0 e1 e2
  refine leaves_cons (f := 97) (args := #[.pointer (some ⟨w.heap.size + 1, 0, none⟩)]) (by simp) (by simp [go_sem]) ?_
  refine (idle_K ⟨w.heap.size + 1, 0, none⟩ _).mono ?_
  rintro e u' w'' ⟨rfl, rfl, rfl⟩
  simp [Go.Leaves, settle, results, Tryz.results47, go_sem, e0, e1, e2]
  exact hBz
set_option maxHeartbeats 1000000 in
theorem ans_K_no (f : Nat) (caps : Array Value) (w : World) (hent : ∀ W, (callFunc f caps).run Tryz.prog W = .ok (.enter f caps) W)
    (h : ∀ W, Below w.heap.size w W → Calls Tryz.prog f caps W fun e w' => e = .panicked gaveUp ∧ Below W.heap.size W w') :
    Calls Tryz.prog 47 #[.func (.func f) #[] caps] w fun e w' => e = .returned (.tuple #[.agg #[.int .i64 0, .slice none 0 0], .int .i64 2]) ∧ Below w.heap.size w w' := by
  have hmf : ∀ (fn : Fn) (first cap : Array Value) (w : World), (Instr.makeFunc fn first cap).run Tryz.prog w = .ok (.func fn first cap) w := fun _ _ _ _ => rfl
  have hBa := below_two w (.cells #[.int .i64 0, .slice none 0 0] 65) (.cells #[.int .i64 0] 26)
  have h1 := h _ hBa
  clear h
  go_enter_defers Tryz.func47, Tryz.ntmps47
  go_wp2
  refine h1.mono ?_
  rintro e w1 ⟨rfl, hB1⟩
  obtain ⟨b0, b1⟩ := two_blks w hB1
  have c2 := b1.cell 0
  have f2 := b1.frozen 0
  simp only [List.getElem?_toArray, List.getElem?_cons_zero, List.getElem?_cons_succ] at c2
  have hBw := below_in hBa hB1
  refine leaves_cons (f := 97) (args := #[.pointer (some ⟨w.heap.size + 1, 0, none⟩)]) (by simp) (by simp [go_sem]) ?_
  refine (caught_K ⟨w.heap.size + 1, 0, none⟩ 0 _ c2 f2).mono ?_
  rintro e u' w'' ⟨rfl, rfl, rfl⟩
  obtain ⟨ww, hww⟩ : ∃ ww, w1.setCell ⟨w.heap.size + 1, 0, none⟩ (.int .i64 2) = ww := ⟨_, rfl⟩
  have d0 : Blk ww w.heap.size 65 #[.int .i64 0, .slice none 0 0] := by
    rw [← hww]
    exact Blk.far b0 (by simp) _
  have d1 : Blk ww (w.heap.size + 1) 26 #[.int .i64 2] := by
    rw [← hww]
    exact b1.set_ 0 (.int .i64 2)
  have hBz : Below w.heap.size w ww := by
    rw [← hww]
    exact hBw.setCell (Nat.le_succ _) _
  rw [hww]
  have e0 := d0.cell 0
  have e1 := d0.cell 1
  have e2 := d1.cell 0
  simp only [List.getElem?_toArray, List.getElem?_cons_zero, List.getElem?_cons_succ] at e0 e1 e2
  simp [Go.Leaves, settle, results, Tryz.results47, go_sem, e0, e1, e2]
  exact hBz
def Gave (U : World) : Exit → Act → World → Prop := fun e a w' => e = .panic gaveUp ∧ a.defers = [] ∧ Below U.heap.size U w'
theorem enter_right1 : ∀ args W, (callFunc 48 args).run Tryz.prog W = .ok (.enter 48 args) W := enters_of Tryz.func48 (by kernel_rfl) rfl

set_option maxRecDepth 100000 in
set_option maxHeartbeats 1000000 in
theorem right_yes {B : Nat} (p : Int) (v : Value) (css : List (List (List UInt8))) (w : World) (hL : Laid w) (hB : B ≤ w.heap.size) (hC : Cols B w v css) (hlen : css.length ≤ 1000) (hok : RightD p css) :
    Calls Tryz.prog 14 #[.int .i64 p, v] w fun e w' => e = .returned (.bool true) ∧ Below w.heap.size w w' := by
  obtain ⟨A, cap, rfl, _, _⟩ := id hC
  obtain ⟨W2, hW2⟩ : ∃ W2, (w.alloc (.cells #[.int .i64 p] 3)).alloc (.cells #[.slice A css.length cap] 22) = W2 := ⟨_, rfl⟩
  have b0 : Blk W2 w.heap.size 3 #[.int .i64 p] := by rw [← hW2]; exact (Blk.new w _ _).alloc _
  have b1 : Blk W2 (w.heap.size + 1) 22 #[.slice A css.length cap] := by rw [← hW2]; exact Blk.second w _ _ _
  have hBW : Below w.heap.size w W2 := by rw [← hW2]; exact below_two w _ _
  have hL2 := hL.next hBW
  have hpp := prm_bounds hok.1
  have hR : RightC 1 p := ⟨by omega, hok.1⟩
  have hr : p - 1 = (((p - 1).toNat : Nat) : Int) := by omega
  have HA := Lib.hid (ans_K_yes 48 #[.pointer (some ⟨w.heap.size, 0, none⟩), .pointer (some ⟨w.heap.size + 1, 0, none⟩)] W2 p A css.length cap (enter_right1 _) (fun U hU => by
    have hLU := hL2.next hU
    have hBU := below_in hBW hU
    have hCU := hC.below (hBU.mono hB)
    have HPP := Lib.hid (fun (V : World) (hV : Below U.heap.size U V) => primeOf_yes p hR V (hLU.next hV))
    have HT := Lib.hid (fun (V : World) (hV : Below U.heap.size U V) => together_yes (B := B) p _ hR hr (.slice A css.length cap) css V (hLU.next hV) (Nat.le_trans hB (Nat.le_trans hBU.size hV.size)) (hCU.below (hV.mono (Nat.le_trans hB hBU.size))) hlen hok.2)
    have c0 := (b0.below hU b0.lt).one
    have c1 := (b1.below hU b1.lt).one
    have hSS := Lib.hid (fun (V : World) (hV : Below U.heap.size U V) => (⟨(hV.cell (p := ⟨w.heap.size, 0, none⟩) (b0.below hU b0.lt).lt).trans c0, (hV.cell (p := ⟨w.heap.size + 1, 0, none⟩) (b1.below hU b1.lt).lt).trans c1⟩ : (fun V : World => V.cell? ⟨w.heap.size, 0, none⟩ = some (.int .i64 p) ∧ V.cell? ⟨w.heap.size + 1, 0, none⟩ = some (.slice A css.length cap)) V))
    clear hC hCU hok hW2 hL hL2 hLU hlen hr hR hpp b0 b1
    generalize css.length = n at *
    have bz := Blk.new U 65 #[.int .i64 0, .slice none 0 0]
    have hBz := below_one U (.cells #[.int .i64 0, .slice none 0 0] 65)
    refine (callsIn_wide (n := 9)).1 ?_
    refine callsIn_of_wp_marks Tryz.func48 rfl trivial ?_ rfl
    simp only [Tryz.ntmps48, List.size_toArray, List.length_cons, List.length_nil, Nat.reduceAdd, Nat.reduceSub, Array.replicate_succ, Array.replicate_zero, List.push_toArray, List.append_toArray, List.nil_append, List.cons_append]
    gi_wp2_with fail
    have hS : (fun V : World => V.cell? ⟨w.heap.size, 0, none⟩ = some (.int .i64 p) ∧ V.cell? ⟨w.heap.size + 1, 0, none⟩ = some (.slice A n cap)) (U.alloc (.cells #[.int .i64 0, .slice none 0 0] 65)).drew := hSS.out _ hBz.drew
    refine wpIn_mono (region_HF (Q := NoPanic _) (S := (fun V : World => V.cell? ⟨w.heap.size, 0, none⟩ = some (.int .i64 p) ∧ V.cell? ⟨w.heap.size + 1, 0, none⟩ = some (.slice A n cap))) (by kernel_rfl) ?_) NoPanic.imp
    refine anyHF_take (i := 0) (d := 3) (v := .int .i64 p) (by kernel_rfl) rfl (by kernel_rfl) (by kernel_rfl) (by kernel_rfl) rfl (fun _ _ _ h => h) ⟨Or.inl ⟨by rfl, fun w hS => by obtain ⟨h0, h1⟩ := hS; go_simp⟩, fun _ => rfl⟩ hS ?_
    simp only [List.setIfInBounds_toArray, List.set_cons_zero, List.set_cons_succ]
    refine anyHF_take (i := 2) (d := 5) (v := .slice A n cap) (by kernel_rfl) rfl (by kernel_rfl) (by kernel_rfl) (by kernel_rfl) rfl (fun _ _ _ h => h) ⟨Or.inl ⟨by rfl, fun w hS => by obtain ⟨h0, h1⟩ := hS; go_simp⟩, fun _ => rfl⟩ hS ?_
    simp only [List.setIfInBounds_toArray, List.set_cons_zero, List.set_cons_succ]
    refine anyHF_one (i := 1) (by kernel_rfl) rfl (by kernel_rfl) (by rfl) ?_
    gi_wp2_with fail
    refine ⟨trivial, (callsIn_wide.2 (HPP.out _ hBz.drew)).mono ?_⟩
    rintro e w1 ⟨rfl, hB1⟩
    replace hB1 := below_undrew hB1
    replace bz := bz.below hB1 bz.lt
    replace hBz := below_in hBz hB1
    clear hS
    have hS : (fun V : World => V.cell? ⟨w.heap.size, 0, none⟩ = some (.int .i64 p) ∧ V.cell? ⟨w.heap.size + 1, 0, none⟩ = some (.slice A n cap)) w1 := hSS.out _ hBz
    gi_wp2
    try (refine ⟨hS, ?_⟩)
    refine anyHF_one (i := 3) (by kernel_rfl) rfl (by kernel_rfl) (by rfl) ?_
    gi_wp2_with fail
    refine ⟨trivial, (callsIn_wide.2 (HT.out _ hBz)).mono ?_⟩
    rintro e w2 ⟨rfl, hB2⟩
    replace bz := bz.below hB2 bz.lt
    replace hBz := below_in hBz hB2
    clear hS
    have hS : (fun V : World => V.cell? ⟨w.heap.size, 0, none⟩ = some (.int .i64 p) ∧ V.cell? ⟨w.heap.size + 1, 0, none⟩ = some (.slice A n cap)) w2 := hSS.out _ hBz
    gi_wp2
    try (refine ⟨hS, ?_⟩)
    refine anyHF_one (i := 4) (by kernel_rfl) rfl (by kernel_rfl) (by rfl) ?_
    have g0 := bz.cell 0
    have g1 := bz.cell 1
    have f0 := bz.frozen 0
    have f1 := bz.frozen 1
    simp only [List.getElem?_toArray, List.getElem?_cons_zero, List.getElem?_cons_succ] at g0 g1
    gi_wp2
    have r := (bz.set_ 0 (.int .i64 p)).set_ 1 (.slice A n cap)
    have hBf := (hBz.setCell (p := ⟨U.heap.size, 0, none⟩) (Nat.le_refl _) (.int .i64 p)).setCell (p := ⟨U.heap.size, 1, none⟩) (Nat.le_refl _) (.slice A n cap)
    clear hS
    have hS : (fun V : World => V.cell? ⟨w.heap.size, 0, none⟩ = some (.int .i64 p) ∧ V.cell? ⟨w.heap.size + 1, 0, none⟩ = some (.slice A n cap)) _ := hSS.out _ hBf
    refine ⟨hSS.out _ (hBz.setCell (p := ⟨U.heap.size, 0, none⟩) (Nat.le_refl _) (.int .i64 p)), ?_⟩
    refine anyHF_done (by kernel_rfl) ?_ _
    refine NoPanic.normal ?_
    have r0 := r.cell 0
    have r1 := r.cell 1
    simp only [List.setIfInBounds_toArray, List.set_cons_zero, List.set_cons_succ, List.getElem?_toArray, List.getElem?_cons_zero, List.getElem?_cons_succ] at r0 r1
    gi_wp2
    exact ⟨.agg #[.int .i64 p, .slice A n cap], by simp [results, Tryz.results48, go_sem, r0, r1], rfl, hBf⟩))
  clear hC b0 b1 hL2 hok hlen hr hR hpp
  generalize css.length = n at *
  go_enter Tryz.func14, Tryz.ntmps14
  have hmf : ∀ (fn : Fn) (first cap : Array Value) (w : World), (Instr.makeFunc fn first cap).run Tryz.prog w = .ok (.func fn first cap) w := fun _ _ _ _ => rfl
  go_wp2_with (go_at_call 47; refine HA.out.mono ?_; rintro e w1 ⟨rfl, hB1⟩)
  go_ret
  exact ⟨rfl, below_in hBW (below_in hB1 (below_one _ _))⟩

set_option maxRecDepth 100000 in
set_option maxHeartbeats 1000000 in
theorem right_no {B : Nat} (p : Int) (v : Value) (css : List (List (List UInt8))) (w : World) (hL : Laid w) (hB : B ≤ w.heap.size) (hC : Cols B w v css) (hlen : css.length ≤ 1000) (hcl : ∀ j, j < css.length → (css[j]?.getD []).length ≤ 1000) (hno : ¬ RightD p css) :
    Calls Tryz.prog 14 #[.int .i64 p, v] w fun e w' => e = .returned (.bool false) ∧ Below w.heap.size w w' := by
  obtain ⟨A, cap, rfl, _, _⟩ := id hC
  obtain ⟨W2, hW2⟩ : ∃ W2, (w.alloc (.cells #[.int .i64 p] 3)).alloc (.cells #[.slice A css.length cap] 22) = W2 := ⟨_, rfl⟩
  have b0 : Blk W2 w.heap.size 3 #[.int .i64 p] := by rw [← hW2]; exact (Blk.new w _ _).alloc _
  have b1 : Blk W2 (w.heap.size + 1) 22 #[.slice A css.length cap] := by rw [← hW2]; exact Blk.second w _ _ _
  have hBW : Below w.heap.size w W2 := by rw [← hW2]; exact below_two w _ _
  have hL2 := hL.next hBW
  have HA := Lib.hid (ans_K_no 48 #[.pointer (some ⟨w.heap.size, 0, none⟩), .pointer (some ⟨w.heap.size + 1, 0, none⟩)] W2 (enter_right1 _) (fun U hU => by
    have hLU := hL2.next hU
    have hBU := below_in hBW hU
    have hCU := hC.below (hBU.mono hB)
    have c0 := (b0.below hU b0.lt).one
    have c1 := (b1.below hU b1.lt).one
    have hSS := Lib.hid (fun (V : World) (hV : Below U.heap.size U V) => (⟨(hV.cell (p := ⟨w.heap.size, 0, none⟩) (b0.below hU b0.lt).lt).trans c0, (hV.cell (p := ⟨w.heap.size + 1, 0, none⟩) (b1.below hU b1.lt).lt).trans c1⟩ : (fun V : World => V.cell? ⟨w.heap.size, 0, none⟩ = some (.int .i64 p) ∧ V.cell? ⟨w.heap.size + 1, 0, none⟩ = some (.slice A css.length cap)) V))
    have hBz := below_one U (.cells #[.int .i64 0, .slice none 0 0] 65)
    by_cases hp : p ∈ prm
    · have hpp := prm_bounds hp
      have hR : RightC 1 p := ⟨by omega, hp⟩
      have hr : p - 1 = (((p - 1).toNat : Nat) : Int) := by omega
      have HPP := Lib.hid (fun (V : World) (hV : Below U.heap.size U V) => primeOf_yes p hR V (hLU.next hV))
      have HT := Lib.hid (fun (V : World) (hV : Below U.heap.size U V) => together_no (B := B) p _ hR hr (.slice A css.length cap) css V (hLU.next hV) (Nat.le_trans hB (Nat.le_trans hBU.size hV.size)) (hCU.below (hV.mono (Nat.le_trans hB hBU.size))) hlen hcl (fun h => hno ⟨hp, h⟩))
      clear hC hCU hno b0 b1 hW2 hL hL2 hLU hlen hcl hr hR hpp hp
      generalize css.length = n at *
      refine (callsIn_wide (n := 9)).1 ?_
      refine callsIn_of_wp_marks Tryz.func48 rfl trivial ?_ rfl
      simp only [Tryz.ntmps48, List.size_toArray, List.length_cons, List.length_nil, Nat.reduceAdd, Nat.reduceSub, Array.replicate_succ, Array.replicate_zero, List.push_toArray, List.append_toArray, List.nil_append, List.cons_append]
      gi_wp2_with fail
      have hS : (fun V : World => V.cell? ⟨w.heap.size, 0, none⟩ = some (.int .i64 p) ∧ V.cell? ⟨w.heap.size + 1, 0, none⟩ = some (.slice A n cap)) (U.alloc (.cells #[.int .i64 0, .slice none 0 0] 65)).drew := hSS.out _ hBz.drew
      refine wpIn_mono (region_HF (Q := Gave U) (S := (fun V : World => V.cell? ⟨w.heap.size, 0, none⟩ = some (.int .i64 p) ∧ V.cell? ⟨w.heap.size + 1, 0, none⟩ = some (.slice A n cap))) (by kernel_rfl) ?_) (fun e a w' h => by obtain ⟨rfl, hd, hB⟩ := h; obtain ⟨tm, df⟩ := a; have hd' : df = [] := hd; subst hd'; exact ⟨rfl, hB⟩)
      refine anyHF_take (i := 0) (d := 3) (v := .int .i64 p) (by kernel_rfl) rfl (by kernel_rfl) (by kernel_rfl) (by kernel_rfl) rfl (fun _ _ _ h => ⟨h.1, by simpa [Act.put] using h.2.1, h.2.2⟩) ⟨Or.inl ⟨by rfl, fun w hS => by obtain ⟨h0, h1⟩ := hS; go_simp⟩, fun _ => rfl⟩ hS ?_
      simp only [List.setIfInBounds_toArray, List.set_cons_zero, List.set_cons_succ]
      refine anyHF_take (i := 2) (d := 5) (v := .slice A n cap) (by kernel_rfl) rfl (by kernel_rfl) (by kernel_rfl) (by kernel_rfl) rfl (fun _ _ _ h => ⟨h.1, by simpa [Act.put] using h.2.1, h.2.2⟩) ⟨Or.inl ⟨by rfl, fun w hS => by obtain ⟨h0, h1⟩ := hS; go_simp⟩, fun _ => rfl⟩ hS ?_
      simp only [List.setIfInBounds_toArray, List.set_cons_zero, List.set_cons_succ]
      refine anyHF_one (i := 1) (by kernel_rfl) rfl (by kernel_rfl) (by rfl) ?_
      gi_wp2_with fail
      refine ⟨trivial, (callsIn_wide.2 (HPP.out _ hBz.drew)).mono ?_⟩
      rintro e w1 ⟨rfl, hB1⟩
      replace hB1 := below_undrew hB1
      replace hBz := below_in hBz hB1
      clear hS
      have hS : (fun V : World => V.cell? ⟨w.heap.size, 0, none⟩ = some (.int .i64 p) ∧ V.cell? ⟨w.heap.size + 1, 0, none⟩ = some (.slice A n cap)) w1 := hSS.out _ hBz
      gi_wp2
      try (refine ⟨hS, ?_⟩)
      refine anyHF_one (i := 3) (by kernel_rfl) rfl (by kernel_rfl) (by rfl) ?_
      gi_wp2_with fail
      refine ⟨trivial, (callsIn_wide.2 (HT.out _ hBz)).mono ?_⟩
      rintro e w2 ⟨rfl, hB2⟩
      exact ⟨rfl, rfl, below_in hBz hB2⟩
    · have HPP := Lib.hid (fun (V : World) (hV : Below U.heap.size U V) => primeOf_no p (fun h => hp h.2) V (hLU.next hV))
      clear hC hCU hno b0 b1 hW2 hL hL2 hLU hlen hcl hp
      generalize css.length = n at *
      refine (callsIn_wide (n := 9)).1 ?_
      refine callsIn_of_wp_marks Tryz.func48 rfl trivial ?_ rfl
      simp only [Tryz.ntmps48, List.size_toArray, List.length_cons, List.length_nil, Nat.reduceAdd, Nat.reduceSub, Array.replicate_succ, Array.replicate_zero, List.push_toArray, List.append_toArray, List.nil_append, List.cons_append]
      gi_wp2_with fail
      have hS : (fun V : World => V.cell? ⟨w.heap.size, 0, none⟩ = some (.int .i64 p) ∧ V.cell? ⟨w.heap.size + 1, 0, none⟩ = some (.slice A n cap)) (U.alloc (.cells #[.int .i64 0, .slice none 0 0] 65)).drew := hSS.out _ hBz.drew
      refine wpIn_mono (region_HF (Q := Gave U) (S := (fun V : World => V.cell? ⟨w.heap.size, 0, none⟩ = some (.int .i64 p) ∧ V.cell? ⟨w.heap.size + 1, 0, none⟩ = some (.slice A n cap))) (by kernel_rfl) ?_) (fun e a w' h => by obtain ⟨rfl, hd, hB⟩ := h; obtain ⟨tm, df⟩ := a; have hd' : df = [] := hd; subst hd'; exact ⟨rfl, hB⟩)
      refine anyHF_take (i := 0) (d := 3) (v := .int .i64 p) (by kernel_rfl) rfl (by kernel_rfl) (by kernel_rfl) (by kernel_rfl) rfl (fun _ _ _ h => ⟨h.1, by simpa [Act.put] using h.2.1, h.2.2⟩) ⟨Or.inl ⟨by rfl, fun w hS => by obtain ⟨h0, h1⟩ := hS; go_simp⟩, fun _ => rfl⟩ hS ?_
      simp only [List.setIfInBounds_toArray, List.set_cons_zero, List.set_cons_succ]
      refine anyHF_take (i := 2) (d := 5) (v := .slice A n cap) (by kernel_rfl) rfl (by kernel_rfl) (by kernel_rfl) (by kernel_rfl) rfl (fun _ _ _ h => ⟨h.1, by simpa [Act.put] using h.2.1, h.2.2⟩) ⟨Or.inl ⟨by rfl, fun w hS => by obtain ⟨h0, h1⟩ := hS; go_simp⟩, fun _ => rfl⟩ hS ?_
      simp only [List.setIfInBounds_toArray, List.set_cons_zero, List.set_cons_succ]
      refine anyHF_one (i := 1) (by kernel_rfl) rfl (by kernel_rfl) (by rfl) ?_
      gi_wp2_with fail
      refine ⟨trivial, (callsIn_wide.2 (HPP.out _ hBz.drew)).mono ?_⟩
      rintro e w1 ⟨rfl, hB1⟩
      exact ⟨rfl, rfl, below_in hBz (below_undrew hB1)⟩))
  clear hC b0 b1 hL2 hno hlen hcl
  generalize css.length = n at *
  go_enter Tryz.func14, Tryz.ntmps14
  have hmf : ∀ (fn : Fn) (first cap : Array Value) (w : World), (Instr.makeFunc fn first cap).run Tryz.prog w = .ok (.func fn first cap) w := fun _ _ _ _ => rfl
  go_wp2_with (go_at_call 47; refine HA.out.mono ?_; rintro e w1 ⟨rfl, hB1⟩)
  go_ret
  exact ⟨rfl, below_in hBW (below_in hB1 (below_one _ _))⟩
end Go.Proofs.YtggdlklkjnbbjaaGreatDoor.E
