/- The mathematics of the document's columns of any code: what is made by members. The document's Upon: cells at places, put upon one another. The document's Encode: all columns of a code. The document's Line: the data cells of a diagonal, put upon one another. The columns of EVENODD: Right. -/
import Derived.Test.YtggdlklkjnbbjaaGreatDoorKEG6
import Derived.Test.YtggdlklkjnbbjaaGreatDoorKZG5
import Derived.Test.YtggdlklkjnbbjaaGreatDoorKCA
import Derived.Test.YtggdlklkjnbbjaaGreatDoorKEG2
import Derived.Test.YtggdlklkjnbbjaaGreatDoorKEG4
import Derived.Test.YtggdlklkjnbbjaaGreatDoorKZwV
namespace Go.Proofs.YtggdlklkjnbbjaaGreatDoor.E
open Go.RowKit Go.Shelf Go.Proofs.YtggdlklkjnbbjaaGreatDoor.C
set_option linter.unusedSimpArgs false
set_option linter.unusedVariables false

/-- Columns of R cells of n bytes. -/
def Grid (R n : Nat) (css : List (List (List UInt8))) : Prop := ∀ j, j < css.length → (css[j]?.getD []).length = R ∧ ∀ i, i < R → ((css[j]?.getD [])[i]?.getD []).length = n
def cellI (css : List (List (List UInt8))) (z : Int × Int) : List UInt8 := cellOf_ css z.1.toNat z.2.toNat
/-- Cells at places, put upon one another. -/
def uponL (n : Nat) (css : List (List (List UInt8))) (l : List (Int × Int)) : List UInt8 := xors (List.replicate n 0) (l.map (cellI css))
/-- A column that is made of those ahead of it. -/
def colL (k p : Int) (n : Nat) (css : List (List (List UInt8))) (col : Int) : List (List UInt8) := (List.range (p - 1).toNat).map fun (row : Nat) => uponL n css (memL k p col (row : Int))
def inL (R N : Nat) (l : List (Int × Int)) : Prop := ∀ z ∈ l, (0 ≤ z.1 ∧ z.1 < (N : Int)) ∧ (0 ≤ z.2 ∧ z.2 < (R : Int))
/-- The cells of a diagonal. -/
def lineL (p N line : Int) : List (Int × Int) := (flatC p (spanL 0 N)).filter fun z => decide ((z.1 + z.2) % p = line)
def natZ (z : Int × Int) : Nat × Nat := (z.1.toNat, z.2.toNat)

theorem uponL_len (n : Nat) (css : List (List (List UInt8))) (l : List (Int × Int)) : (uponL n css l).length = n := by
  unfold uponL
  rw [xors_len, List.length_replicate]
theorem colL_len (k p : Int) (n : Nat) (css : List (List (List UInt8))) (col : Int) : (colL k p n css col).length = (p - 1).toNat := by unfold colL; simp
theorem colL_at (k p : Int) (n : Nat) (css : List (List (List UInt8))) (col : Int) {i : Nat} (hi : i < (p - 1).toNat) : (colL k p n css col)[i]?.getD [] = uponL n css (memL k p col (i : Int)) := by
  unfold colL
  rw [List.getElem?_map, List.getElem?_range hi]
  rfl
theorem Grid.snoc {R n : Nat} {css : List (List (List UInt8))} (h : Grid R n css) {cs : List (List UInt8)} (h1 : cs.length = R) (h2 : ∀ i, i < R → (cs[i]?.getD []).length = n) : Grid R n (css ++ [cs]) := by
  intro j hj
  rw [List.length_append] at hj
  rcases Nat.lt_or_ge j css.length with h3 | h3
  · rw [List.getElem?_append_left h3]
    exact h j h3
  · have : j = css.length := by simp at hj; omega
    subst this
    rw [List.getElem?_append_right (Nat.le_refl _), Nat.sub_self]
    exact ⟨h1, h2⟩
theorem Grid.col {R n : Nat} {css : List (List (List UInt8))} (h : Grid R n css) {k p : Int} (hR : R = (p - 1).toNat) (col : Int) (css' : List (List (List UInt8))) : Grid R n (css ++ [colL k p n css' col]) :=
  h.snoc (by rw [colL_len, hR]) fun i hi => by rw [colL_at k p n css' col (by omega), uponL_len]
theorem Grid.cell {R n : Nat} {css : List (List (List UInt8))} (h : Grid R n css) {z : Int × Int} (h1 : z.1 < (css.length : Int)) (h0 : 0 ≤ z.1) (h2 : z.2 < (R : Int)) (h3 : 0 ≤ z.2) : (cellI css z).length = n :=
  (h z.1.toNat (by omega)).2 z.2.toNat (by omega)
theorem togOk_grid {R : Nat} {css : List (List (List UInt8))} (h : TogOk R css) : Grid R (firstC css).length css := fun j hj => ⟨(h.2 j hj).1, fun i hi => togOk_cell h hj hi⟩
theorem at_uponL {n : Nat} {css : List (List (List UInt8))} {l : List (Int × Int)} (h : ∀ z ∈ l, (cellI css z).length = n) (j : Nat) : at_ (uponL n css l) j = xa (l.map fun z => by_ css j z.1.toNat z.2.toNat) := by
  unfold uponL
  rw [at_upon (fun x hx => by
    obtain ⟨z, hz, rfl⟩ := List.mem_map.1 hx
    exact h z hz), List.map_map]
  rfl
theorem at_uponN {n : Nat} {css : List (List (List UInt8))} {l : List (Int × Int)} (h : ∀ z ∈ l, (cellI css z).length = n) (j : Nat) : at_ (uponL n css l) j = xa ((l.map natZ).map fun x => by_ css j x.1 x.2) := by
  rw [at_uponL h, List.map_map]
  rfl
theorem lineDiag : ∀ p ∈ prm, ((lineL p p (p - 1)).map natZ).isPerm (diagAt p (p - 1) p.toNat) = true := by decide +kernel
def inB (R N : Nat) (l : List (Int × Int)) : Bool := l.all fun z => (decide (0 ≤ z.1) && decide (z.1 < (N : Int))) && (decide (0 ≤ z.2) && decide (z.2 < (R : Int)))
theorem inL_of {R N : Nat} {l : List (Int × Int)} (h : inB R N l = true) : inL R N l := by
  intro z hz
  have := List.all_eq_true.1 h z hz
  simpa using this
theorem lineIn : ∀ p ∈ prm, inB (p - 1).toNat p.toNat (lineL p p (p - 1)) = true := by decide +kernel
theorem inL.cells {R N n : Nat} {l : List (Int × Int)} (h : inL R N l) {css : List (List (List UInt8))} (hg : Grid R n css) (hN : N ≤ css.length) : ∀ z ∈ l, (cellI css z).length = n := fun z hz => by
  have := h z hz
  exact hg.cell (by omega) (by omega) (by omega) (by omega)
section
variable {p : Int} {css : List (List (List UInt8))}
theorem line_adj (h : DataOk p css) : uponL (firstC css).length css (lineL p p (p - 1)) = adjOf p css := by
  have hd := dataOk_n h
  have hg := togOk_grid h.2.2
  have hin := inL_of (lineIn p h.1.2)
  refine ext_at (by rw [uponL_len, adjOf_len h]) fun j => ?_
  rw [at_uponN (hin.cells hg (by omega)) j, xa_perm ((List.isPerm_iff.1 (lineDiag p h.1.2)).map _)]
  unfold adjOf
  rw [at_diag h (by omega) (by omega)]
  rfl
end
end Go.Proofs.YtggdlklkjnbbjaaGreatDoor.E

namespace Go.Proofs.YtggdlklkjnbbjaaGreatDoor.E
open Go.RowKit Go.Shelf Go.Proofs.YtggdlklkjnbbjaaGreatDoor.C
set_option linter.unusedSimpArgs false
set_option linter.unusedVariables false

theorem xors_next (z : List UInt8) (ls : List (List UInt8)) {k : Nat} (hk : k < ls.length) : xors z (ls.take (k + 1)) = xorB (xors z (ls.take k)) (ls[k]?.getD []) := by
  unfold xors
  rw [List.take_add_one, List.foldl_append, List.getElem?_eq_getElem hk]
  rfl
theorem uponL_next (n : Nat) (css : List (List (List UInt8))) (l : List (Int × Int)) {k : Nat} (hk : k < l.length) : uponL n css (l.take (k + 1)) = xorB (uponL n css (l.take k)) (cellI css l[k]) := by
  unfold uponL
  rw [List.map_take, xors_next _ _ (by rw [List.length_map]; exact hk), List.map_take, List.getElem?_map, List.getElem?_eq_getElem hk]
  rfl
set_option maxHeartbeats 400000 in
theorem nought6_fresh (n : Nat) (hn : n ≤ 1000) (w : World) : Calls Tryz.prog 24 #[.int .i64 (n : Int)] w fun e w' => ∃ u, e = .returned u ∧ Fresh w.heap.size w' u (List.replicate n 0) ∧ Below w.heap.size w w' := by
  obtain ⟨i0, hi, hz0, hz1, hz2⟩ := info_parts Tryz.infoByte
  have hmk := fun W : World => run_make (P := Tryz.prog) W 25 5 i0 (.int .u8 0) Tryz.underlying25 hi hz0 .i64 .i64 (n : Int) (n : Int) (by omega) (by omega) (by rw [hz2]; omega) (by omega)
  simp only [hz1, Nat.mul_one, Int.toNat_natCast] at hmk
  have hR := Row.made w n
  have hBz := below_one w (.cells (madeCells #[.int .u8 0] n) 5)
  go_enter Tryz.func24, Tryz.ntmps24
  go_wp2
  go_ret
  exact ⟨_, rfl, Row.fresh hR (Nat.le_refl _) (by simp), hBz⟩
set_option maxRecDepth 100000 in
set_option maxHeartbeats 2000000 in
theorem upon6_any {B : Nat} (vs vl : Value) (css : List (List (List UInt8))) (l : List (Int × Int)) (R n : Nat) (w : World) (hB : B ≤ w.heap.size) (hC : Cols B w vs css) (hl : ReadA w vl l) (hg : Grid R n css) (hin : inL R css.length l) (hn : n ≤ 1000) (hll : l.length ≤ 1000) (hcl : css.length ≤ 1000) (hR : R ≤ 1000) :
    Calls Tryz.prog 56 #[vs, vl, .int .i64 (n : Int)] w fun e w' => ∃ u, e = .returned u ∧ Fresh w.heap.size w' u (uponL n css l) ∧ Below w.heap.size w w' := by
  obtain ⟨A, cap, rfl, _, _⟩ := id hC
  obtain ⟨Al, capl, rfl, hRd⟩ := hl
  have HR1 := Lib.hid hRd
  have HCC := Lib.hid hC
  have HG := Lib.hid hg
  have HIN := Lib.hid hin
  obtain ⟨N, hN⟩ : ∃ N, l.length = N := ⟨_, rfl⟩
  obtain ⟨C, hCn⟩ : ∃ C, css.length = C := ⟨_, rfl⟩
  have HN := Lib.hid hN
  have HCN := Lib.hid hCn
  rw [hN] at hll
  rw [hCn] at hcl
  rw [hN, hCn]
  have HNO := Lib.hid (fun (U : World) => nought6_fresh n hn U)
  have HNX : Hid (∀ k, k < N → ∀ hk : k < l.length, uponL n css (l.take (k + 1)) = xorB (uponL n css (l.take k)) (cellI css l[k])) := fun k _ hk => uponL_next n css l hk
  have HE : Hid (uponL n css (l.take N) = uponL n css l) := by unfold Hid; rw [← hN, List.take_length]
  have HLN : Hid (∀ k, (uponL n css (l.take k)).length = n) := fun k => uponL_len n css _
  clear hN hCn hC hRd hg hin
  go_enter Tryz.func56, Tryz.ntmps56
  go_wp2_with (go_at_call 24; refine (HNO.out _).mono ?_; rintro e w1 ⟨u0, rfl, hu0, hB1⟩)
  go_loopw [7, 8] (fun v i wr => ∃ j : Nat, j ≤ N ∧ i = .int .i64 j ∧ Fresh w.heap.size wr v (uponL n css (l.take j)) ∧ Below w.heap.size w wr) (fun _ i _ => N - (intOf i).toNat)
  case atStart => exact ⟨0, by omega, rfl, hu0, hB1⟩
  case round =>
    clear hu0 hB1
    obtain ⟨j, hj, rfl, hu, hBr⟩ := hrel
    by_cases hlt : j < N
    · have hdec : decide ((j : Int) < (N : Int)) = true := by simp; omega
      have hjs : j < l.length := by rw [HN.out]; exact hlt
      have hnx := HNX.out j hlt hjs
      obtain ⟨g1, rfl, hg1, x0, x1⟩ := HR1.out j hjs
      obtain ⟨hz1, hz2⟩ := HIN.out l[j] (List.getElem_mem hjs)
      have hlen := HLN.out j
      clear HR1 HIN HNX
      generalize l[j] = z at *
      obtain ⟨zx, zy⟩ := z
      simp only at hz1 hz2 x0 x1
      rw [HCN.out] at hz1
      obtain ⟨X, rfl⟩ : ∃ X : Nat, zx = (X : Int) := ⟨zx.toNat, by omega⟩
      obtain ⟨Y, rfl⟩ : ∃ Y : Nat, zy = (Y : Int) := ⟨zy.toNat, by omega⟩
      have hX : X < C := by omega
      have hY : Y < R := by omega
      obtain ⟨b1, off1, cq1, e1, hcq, hb1, hrow1⟩ := HCC.out.at_ (by rw [HCN.out]; omega)
      rw [HCN.out] at e1 hcq
      injection e1 with e1 _ e1c
      subst e1 e1c
      obtain ⟨u1, hc1, hm1⟩ := hrow1 X (by rw [HCN.out]; exact hX)
      obtain ⟨hcr, hce⟩ := HG.out X (by rw [HCN.out]; exact hX)
      obtain ⟨A3, cap3, rfl, _, _⟩ := id hm1
      obtain ⟨b2, off3, rfl, hb2, hrow3⟩ := many_at hm1 (by omega)
      obtain ⟨Aa, ca, hc3, hby⟩ := hrow3 Y (by omega)
      have hcl2 := hce Y hY
      rw [hcr] at hc1
      rw [hcl2] at hc3 hby
      have hcI : cellI css ((X : Int), (Y : Int)) = (css[X]?.getD [])[Y]?.getD [] := rfl
      rw [hcI] at hnx
      have HJX := Lib.hid hnx
      clear hnx
      have x0' := (hBr.cell (p := ⟨g1, j * 2, none⟩) hg1).trans x0
      have x1' := (hBr.cell (p := ⟨g1, j * 2 + 1, none⟩) hg1).trans x1
      have y0' := (hBr.cell (p := ⟨b1, off1 + X, none⟩) (Nat.lt_of_lt_of_le hb1 hB)).trans hc1
      have y1' := (hBr.cell (p := ⟨b2, off3 + Y, none⟩) (Nat.lt_of_lt_of_le hb2 hB)).trans hc3
      have HP := Lib.hid (fun (U : World) (v : Value) (hU : Below w.heap.size w U) (hv : Bytes U.heap.size U v (uponL n css (l.take j))) => rput_any v (.slice Aa n ca) (uponL n css (l.take j)) ((css[X]?.getD [])[Y]?.getD []) U hv ((hby.below (hU.mono hB)).more (Nat.le_trans hB hU.size)) (by omega) (by omega))
      clear hcI hce hrow1 hrow3 hm1 hby x0 x1 hc1 hc3
      generalize (css[X]?.getD [])[Y]?.getD [] = xy at *
      generalize uponL n css (l.take j) = cur at *
      have i1 : (0 : Int) ≤ (j : Int) := by omega
      have i2 : (j : Int) < (N : Int) := by omega
      have i3 : (0 : Int) ≤ (X : Int) := by omega
      have i4 : (X : Int) < (C : Int) := by omega
      have i5 : (0 : Int) ≤ (Y : Int) := by omega
      have i6 : (Y : Int) < (R : Int) := by omega
      have HHU := Lib.hid hu.bytes
      have hBz := hBr.size
      clear hlen hcl2 hcr hu
      go_wp2
      go_region_held3 (fun U => U.cell? ⟨g1, j * 2, none⟩ = some (.int .i64 (X : Int)) ∧ U.cell? ⟨g1, j * 2 + 1, none⟩ = some (.int .i64 (Y : Int)) ∧ U.cell? ⟨b1, off1 + X, none⟩ = some (.slice (some ⟨b2, off3, none⟩) R cap3) ∧ U.cell? ⟨b2, off3 + Y, none⟩ = some (.slice Aa n ca))
        (first | exact ⟨x0', x1', y0', y1'⟩ | exact ⟨(hB4.cell (p := ⟨g1, j * 2, none⟩) (Nat.lt_of_lt_of_le hg1 hBz)).trans x0', (hB4.cell (p := ⟨g1, j * 2 + 1, none⟩) (Nat.lt_of_lt_of_le hg1 hBz)).trans x1', (hB4.cell (p := ⟨b1, off1 + X, none⟩) (Nat.lt_of_lt_of_le hb1 (Nat.le_trans hB hBz))).trans y0', (hB4.cell (p := ⟨b2, off3 + Y, none⟩) (Nat.lt_of_lt_of_le hb2 (Nat.le_trans hB hBz))).trans y1'⟩) (first | (go_at_call 25; refine (HP.out _ _ hBr.drew (HHU.out.below ((Below.refl _ _).drew))).mono ?_; rintro e w4 ⟨v4, rfl, hv4, hB4⟩; replace hB4 := below_undrew hB4))
      all_goals go_wp2
      all_goals go_roundw
      case rel => exact ⟨j + 1, by omega, by go_num, by rw [HJX.out]; exact hv4.fresh.less hBz, below_in hBr hB4⟩
      case measure => simp [intOf]; omega
    · obtain rfl : j = N := by omega
      have hdec : decide ((j : Int) < (j : Int)) = false := by simp
      rw [HE.out] at hu
      go_wp2
      go_ret
      exact ⟨_, rfl, hu, hBr⟩
end Go.Proofs.YtggdlklkjnbbjaaGreatDoor.E

namespace Go.Proofs.YtggdlklkjnbbjaaGreatDoor.E
open Go.RowKit Go.Shelf Go.Proofs.YtggdlklkjnbbjaaGreatDoor.C
set_option linter.unusedSimpArgs false
set_option linter.unusedVariables false

/-- The members of a cell that is made are cells ahead of it. -/
theorem memL_in {k p : Int} (hR : RightC k p) {col row : Int} {R N : Nat} (hRR : p - 1 = (R : Int)) (hN : col ≤ (N : Int)) : inL R N (memL k p col row) := by
  intro z hz
  unfold memL at hz
  have h1 := flatC_mem' (List.mem_filter.1 hz).1
  have h2 := spanL_mem h1.1
  omega
end Go.Proofs.YtggdlklkjnbbjaaGreatDoor.E

namespace Go.Proofs.YtggdlklkjnbbjaaGreatDoor.E
open Go.RowKit Go.Shelf Go.Proofs.YtggdlklkjnbbjaaGreatDoor.C
set_option linter.unusedSimpArgs false
set_option linter.unusedVariables false

theorem lineL_in (p N li : Int) {R : Nat} (hRR : p - 1 = (R : Int)) : inL R N.toNat (lineL p N li) := by
  intro z hz
  unfold lineL at hz
  have h1 := flatC_mem' (List.mem_filter.1 hz).1
  have h2 := spanL_mem h1.1
  omega
theorem lineL_len (p li : Int) {R N : Nat} (hRR : (p - 1).toNat = R) (h16 : R ≤ 16) (hN : N ≤ 20) : (lineL p (N : Int) li).length ≤ 1000 := by
  unfold lineL
  have h := grid_flat 0 (N : Int) p
  rw [Int.sub_zero, Int.toNat_natCast, hRR] at h
  rw [← h]
  exact Nat.le_trans (List.length_filter_le _ _) (Nat.le_trans (grid_len 0 R N 0 h16 hN (by omega)) (by omega))
end Go.Proofs.YtggdlklkjnbbjaaGreatDoor.E

namespace Go.Proofs.YtggdlklkjnbbjaaGreatDoor.E
open Go.RowKit Go.Shelf Go.Proofs.YtggdlklkjnbbjaaGreatDoor.C
set_option linter.unusedSimpArgs false
set_option linter.unusedVariables false
attribute [local go_sem] Oper.semAt_some


/-- What is answered when nothing gave up. -/
theorem idle_K (p : Addr) (w : World) :
    CallsD Tryz.prog 97 #[.pointer (some p)] .returning w fun e u' w' => e = .returned (.tuple #[]) ∧ u' = .returning ∧ w' = w := by
  have hta := assert_errno
  refine callsD_of_wpS Tryz.func97 rfl fun c₀ cs hu => ?_
  simp only [Tryz.ntmps97, List.size_toArray, List.length_cons, List.length_nil, Nat.reduceAdd, Nat.reduceSub, Array.replicate_succ, Array.replicate_zero, List.push_toArray, List.append_toArray, List.nil_append, List.cons_append]
  apply wpS_seq
  apply wpS_region
  simp [wpOpsS, go_sem, recoverD, hu, Exit.thenS]
  all_goals (refine wpS_of_wp ?_; go_wp2; cases c₀; simp_all [bodyPostS, results, Tryz.results97])
/-- What is answered when it gave up. -/
theorem caught_K (p : Addr) (x : Int) (w : World) (hc : w.cell? p = some (.int .i64 x)) (hz : w.frozen? p = false) :
    CallsD Tryz.prog 97 #[.pointer (some p)] (.panicking gaveUp) w fun e u' w' =>
      e = .returned (.tuple #[]) ∧ u' = .panicking [{ v := .iface 26 (.int .i64 2), recovered := true }] ∧ w' = w.setCell p (.int .i64 2) := by
  have hta := assert_errno
  refine callsD_of_wpS Tryz.func97 rfl fun c₀ cs hu => ?_
  simp only [Tryz.ntmps97, List.size_toArray, List.length_cons, List.length_nil, Nat.reduceAdd, Nat.reduceSub, Array.replicate_succ, Array.replicate_zero, List.push_toArray, List.append_toArray, List.nil_append, List.cons_append]
  apply wpS_seq
  apply wpS_region
  simp [wpOpsS, go_sem, recoverD, hu, Exit.thenS, gaveUp]
  all_goals (refine wpS_of_wp ?_; go_wp2; simp [bodyPostS, results, Tryz.results97])

theorem two_blks (w : World) {w1 : World} (hB1 : Below ((w.alloc (.cells #[.int .i64 0, .slice none 0 0] 65)).alloc (.cells #[.int .i64 0] 26)).heap.size ((w.alloc (.cells #[.int .i64 0, .slice none 0 0] 65)).alloc (.cells #[.int .i64 0] 26)) w1) : Blk w1 w.heap.size 65 #[.int .i64 0, .slice none 0 0] ∧ Blk w1 (w.heap.size + 1) 26 #[.int .i64 0] :=
  ⟨((Blk.new w _ _).alloc _).below hB1 (by simp; omega), (Blk.second w _ _ _).below hB1 (by simp)⟩
set_option maxHeartbeats 1000000 in
theorem ans_K_yes (f : Nat) (caps : Array Value) (w : World) (p : Int) (A : Option Addr) (n c : Nat) (hent : ∀ W, (callFunc f caps).run Tryz.prog W = .ok (.enter f caps) W)
    (h : ∀ W, Below w.heap.size w W → Calls Tryz.prog f caps W fun e w' => e = .returned (.agg #[.int .i64 p, .slice A n c]) ∧ Below W.heap.size W w') :
    Calls Tryz.prog 47 #[.func (.func f) #[] caps] w fun e w' => e = .returned (.tuple #[.agg #[.int .i64 p, .slice A n c], .int .i64 0]) ∧ Below w.heap.size w w' := by
  have hmf : ∀ (fn : Fn) (first cap : Array Value) (w : World), (Instr.makeFunc fn first cap).run Tryz.prog w = .ok (.func fn first cap) w := fun _ _ _ _ => rfl
  have hBa := below_two w (.cells #[.int .i64 0, .slice none 0 0] 65) (.cells #[.int .i64 0] 26)
  have h1 := h _ hBa
  clear h
  go_enter_defers Tryz.func47, Tryz.ntmps47
  go_wp2
  refine h1.mono ?_
  rintro e w1 ⟨rfl, hB1⟩
  obtain ⟨b0, b1⟩ := two_blks w hB1
  have c0 := b0.cell 0
  have c1 := b0.cell 1
  have c2 := b1.cell 0
  have f0 := b0.frozen 0
  have f1 := b0.frozen 1
  have f2 := b1.frozen 0
  simp only [List.getElem?_toArray, List.getElem?_cons_zero, List.getElem?_cons_succ] at c0 c1 c2
  have hBw := below_in hBa hB1
  go_wp2
  obtain ⟨ww, hww⟩ : ∃ ww, ((w1.setCell ⟨w.heap.size, 0, none⟩ (.int .i64 p)).setCell ⟨w.heap.size, 1, none⟩ (.slice A n c)).setCell ⟨w.heap.size + 1, 0, none⟩ (.int .i64 0) = ww := ⟨_, rfl⟩
  have d0 : Blk ww w.heap.size 65 #[.int .i64 p, .slice A n c] := by
    rw [← hww]
    exact Blk.far ((b0.set_ 0 (.int .i64 p)).set_ 1 (.slice A n c)) (by simp) _
  have d1 : Blk ww (w.heap.size + 1) 26 #[.int .i64 0] := by
    rw [← hww]
    exact (Blk.far (Blk.far b1 (by simp) _) (by simp) _).set_ 0 (.int .i64 0)
  have hBz : Below w.heap.size w ww := by
    rw [← hww]
    exact ((hBw.setCell (Nat.le_refl _) _).setCell (Nat.le_refl _) _).setCell (Nat.le_succ _) _
  rw [hww]
  have e0 := d0.cell 0
  have e1 := d0.cell 1
  have e2 := d1.cell 0
  simp only [List.getElem?_toArray, List.getElem?_cons_zero, List.getElem?_cons_succ] at e0 e1 e2
  refine leaves_cons (f := 97) (args := #[.pointer (some ⟨w.heap.size + 1, 0, none⟩)]) (by simp) (by simp [go_sem]) ?_
  refine (idle_K ⟨w.heap.size + 1, 0, none⟩ _).mono ?_
  rintro e u' w'' ⟨rfl, rfl, rfl⟩
  simp [Go.Leaves, settle, results, Tryz.results47, go_sem, e0, e1, e2]
  exact hBz
set_option maxHeartbeats 1000000 in
theorem ans_K_no (f : Nat) (caps : Array Value) (w : World) (hent : ∀ W, (callFunc f caps).run Tryz.prog W = .ok (.enter f caps) W)
    (h : ∀ W, Below w.heap.size w W → Calls Tryz.prog f caps W fun e w' => e = .panicked gaveUp ∧ Below W.heap.size W w') :
    Calls Tryz.prog 47 #[.func (.func f) #[] caps] w fun e w' => e = .returned (.tuple #[.agg #[.int .i64 0, .slice none 0 0], .int .i64 2]) ∧ Below w.heap.size w w' := by
  have hmf : ∀ (fn : Fn) (first cap : Array Value) (w : World), (Instr.makeFunc fn first cap).run Tryz.prog w = .ok (.func fn first cap) w := fun _ _ _ _ => rfl
  have hBa := below_two w (.cells #[.int .i64 0, .slice none 0 0] 65) (.cells #[.int .i64 0] 26)
  have h1 := h _ hBa
  clear h
  go_enter_defers Tryz.func47, Tryz.ntmps47
  go_wp2
  refine h1.mono ?_
  rintro e w1 ⟨rfl, hB1⟩
  obtain ⟨b0, b1⟩ := two_blks w hB1
  have c2 := b1.cell 0
  have f2 := b1.frozen 0
  simp only [List.getElem?_toArray, List.getElem?_cons_zero, List.getElem?_cons_succ] at c2
  have hBw := below_in hBa hB1
  refine leaves_cons (f := 97) (args := #[.pointer (some ⟨w.heap.size + 1, 0, none⟩)]) (by simp) (by simp [go_sem]) ?_
  refine (caught_K ⟨w.heap.size + 1, 0, none⟩ 0 _ c2 f2).mono ?_
  rintro e u' w'' ⟨rfl, rfl, rfl⟩
  obtain ⟨ww, hww⟩ : ∃ ww, w1.setCell ⟨w.heap.size + 1, 0, none⟩ (.int .i64 2) = ww := ⟨_, rfl⟩
  have d0 : Blk ww w.heap.size 65 #[.int .i64 0, .slice none 0 0] := by
    rw [← hww]
    exact Blk.far b0 (by simp) _
  have d1 : Blk ww (w.heap.size + 1) 26 #[.int .i64 2] := by
    rw [← hww]
    exact b1.set_ 0 (.int .i64 2)
  have hBz : Below w.heap.size w ww := by
    rw [← hww]
    exact hBw.setCell (Nat.le_succ _) _
  rw [hww]
  have e0 := d0.cell 0
  have e1 := d0.cell 1
  have e2 := d1.cell 0
  simp only [List.getElem?_toArray, List.getElem?_cons_zero, List.getElem?_cons_succ] at e0 e1 e2
  simp [Go.Leaves, settle, results, Tryz.results47, go_sem, e0, e1, e2]
  exact hBz
def Gave (U : World) : Exit → Act → World → Prop := fun e a w' => e = .panic gaveUp ∧ a.defers = [] ∧ Below U.heap.size U w'
theorem enter_right1 : ∀ args W, (callFunc 48 args).run Tryz.prog W = .ok (.enter 48 args) W := enters_of Tryz.func48 (by kernel_rfl) rfl

set_option maxRecDepth 100000 in
set_option maxHeartbeats 1000000 in
theorem right_yes {B : Nat} (p : Int) (v : Value) (css : List (List (List UInt8))) (w : World) (hL : Laid w) (hB : B ≤ w.heap.size) (hC : Cols B w v css) (hlen : css.length ≤ 1000) (hok : RightD p css) :
    Calls Tryz.prog 14 #[.int .i64 p, v] w fun e w' => e = .returned (.bool true) ∧ Below w.heap.size w w' := by
  obtain ⟨A, cap, rfl, _, _⟩ := id hC
  obtain ⟨W2, hW2⟩ : ∃ W2, (w.alloc (.cells #[.int .i64 p] 3)).alloc (.cells #[.slice A css.length cap] 22) = W2 := ⟨_, rfl⟩
  have b0 : Blk W2 w.heap.size 3 #[.int .i64 p] := by rw [← hW2]; exact (Blk.new w _ _).alloc _
  have b1 : Blk W2 (w.heap.size + 1) 22 #[.slice A css.length cap] := by rw [← hW2]; exact Blk.second w _ _ _
  have hBW : Below w.heap.size w W2 := by rw [← hW2]; exact below_two w _ _
  have hL2 := hL.next hBW
  have hpp := prm_bounds hok.1
  have hR : RightC 1 p := ⟨by omega, hok.1⟩
  have hr : p - 1 = (((p - 1).toNat : Nat) : Int) := by omega
  have HA := Lib.hid (ans_K_yes 48 #[.pointer (some ⟨w.heap.size, 0, none⟩), .pointer (some ⟨w.heap.size + 1, 0, none⟩)] W2 p A css.length cap (enter_right1 _) (fun U hU => by
    have hLU := hL2.next hU
    have hBU := below_in hBW hU
    have hCU := hC.below (hBU.mono hB)
    have HPP := Lib.hid (fun (V : World) (hV : Below U.heap.size U V) => primeOf_yes p hR V (hLU.next hV))
    have HT := Lib.hid (fun (V : World) (hV : Below U.heap.size U V) => together_yes (B := B) p _ hR hr (.slice A css.length cap) css V (hLU.next hV) (Nat.le_trans hB (Nat.le_trans hBU.size hV.size)) (hCU.below (hV.mono (Nat.le_trans hB hBU.size))) hlen hok.2)
    have c0 := (b0.below hU b0.lt).one
    have c1 := (b1.below hU b1.lt).one
    have hSS := Lib.hid (fun (V : World) (hV : Below U.heap.size U V) => (⟨(hV.cell (p := ⟨w.heap.size, 0, none⟩) (b0.below hU b0.lt).lt).trans c0, (hV.cell (p := ⟨w.heap.size + 1, 0, none⟩) (b1.below hU b1.lt).lt).trans c1⟩ : (fun V : World => V.cell? ⟨w.heap.size, 0, none⟩ = some (.int .i64 p) ∧ V.cell? ⟨w.heap.size + 1, 0, none⟩ = some (.slice A css.length cap)) V))
    clear hC hCU hok hW2 hL hL2 hLU hlen hr hR hpp b0 b1
    generalize css.length = n at *
    have bz := Blk.new U 65 #[.int .i64 0, .slice none 0 0]
    have hBz := below_one U (.cells #[.int .i64 0, .slice none 0 0] 65)
    refine (callsIn_wide (n := 9)).1 ?_
    refine callsIn_of_wp_marks Tryz.func48 rfl trivial ?_ rfl
    simp only [Tryz.ntmps48, List.size_toArray, List.length_cons, List.length_nil, Nat.reduceAdd, Nat.reduceSub, Array.replicate_succ, Array.replicate_zero, List.push_toArray, List.append_toArray, List.nil_append, List.cons_append]
    gi_wp2_with fail
    have hS : (fun V : World => V.cell? ⟨w.heap.size, 0, none⟩ = some (.int .i64 p) ∧ V.cell? ⟨w.heap.size + 1, 0, none⟩ = some (.slice A n cap)) (U.alloc (.cells #[.int .i64 0, .slice none 0 0] 65)).drew := hSS.out _ hBz.drew
    refine wpIn_mono (region_HF (Q := NoPanic _) (S := (fun V : World => V.cell? ⟨w.heap.size, 0, none⟩ = some (.int .i64 p) ∧ V.cell? ⟨w.heap.size + 1, 0, none⟩ = some (.slice A n cap))) (by kernel_rfl) ?_) NoPanic.imp
    refine anyHF_take (i := 0) (d := 3) (v := .int .i64 p) (by kernel_rfl) rfl (by kernel_rfl) (by kernel_rfl) (by kernel_rfl) rfl (fun _ _ _ h => h) ⟨Or.inl ⟨by rfl, fun w hS => by obtain ⟨h0, h1⟩ := hS; go_simp⟩, fun _ => rfl⟩ hS ?_
    simp only [List.setIfInBounds_toArray, List.set_cons_zero, List.set_cons_succ]
    refine anyHF_take (i := 2) (d := 5) (v := .slice A n cap) (by kernel_rfl) rfl (by kernel_rfl) (by kernel_rfl) (by kernel_rfl) rfl (fun _ _ _ h => h) ⟨Or.inl ⟨by rfl, fun w hS => by obtain ⟨h0, h1⟩ := hS; go_simp⟩, fun _ => rfl⟩ hS ?_
    simp only [List.setIfInBounds_toArray, List.set_cons_zero, List.set_cons_succ]
    refine anyHF_one (i := 1) (by kernel_rfl) rfl (by kernel_rfl) (by rfl) ?_
    gi_wp2_with fail
    refine ⟨trivial, (callsIn_wide.2 (HPP.out _ hBz.drew)).mono ?_⟩
    rintro e w1 ⟨rfl, hB1⟩
    replace hB1 := below_undrew hB1
    replace bz := bz.below hB1 bz.lt
    replace hBz := below_in hBz hB1
    clear hS
    have hS : (fun V : World => V.cell? ⟨w.heap.size, 0, none⟩ = some (.int .i64 p) ∧ V.cell? ⟨w.heap.size + 1, 0, none⟩ = some (.slice A n cap)) w1 := hSS.out _ hBz
    gi_wp2
    try (refine ⟨hS, ?_⟩)
    refine anyHF_one (i := 3) (by kernel_rfl) rfl (by kernel_rfl) (by rfl) ?_
    gi_wp2_with fail
    refine ⟨trivial, (callsIn_wide.2 (HT.out _ hBz)).mono ?_⟩
    rintro e w2 ⟨rfl, hB2⟩
    replace bz := bz.below hB2 bz.lt
    replace hBz := below_in hBz hB2
    clear hS
    have hS : (fun V : World => V.cell? ⟨w.heap.size, 0, none⟩ = some (.int .i64 p) ∧ V.cell? ⟨w.heap.size + 1, 0, none⟩ = some (.slice A n cap)) w2 := hSS.out _ hBz
    gi_wp2
    try (refine ⟨hS, ?_⟩)
    refine anyHF_one (i := 4) (by kernel_rfl) rfl (by kernel_rfl) (by rfl) ?_
    have g0 := bz.cell 0
    have g1 := bz.cell 1
    have f0 := bz.frozen 0
    have f1 := bz.frozen 1
    simp only [List.getElem?_toArray, List.getElem?_cons_zero, List.getElem?_cons_succ] at g0 g1
    gi_wp2
    have r := (bz.set_ 0 (.int .i64 p)).set_ 1 (.slice A n cap)
    have hBf := (hBz.setCell (p := ⟨U.heap.size, 0, none⟩) (Nat.le_refl _) (.int .i64 p)).setCell (p := ⟨U.heap.size, 1, none⟩) (Nat.le_refl _) (.slice A n cap)
    clear hS
    have hS : (fun V : World => V.cell? ⟨w.heap.size, 0, none⟩ = some (.int .i64 p) ∧ V.cell? ⟨w.heap.size + 1, 0, none⟩ = some (.slice A n cap)) _ := hSS.out _ hBf
    refine ⟨hSS.out _ (hBz.setCell (p := ⟨U.heap.size, 0, none⟩) (Nat.le_refl _) (.int .i64 p)), ?_⟩
    refine anyHF_done (by kernel_rfl) ?_ _
    refine NoPanic.normal ?_
    have r0 := r.cell 0
    have r1 := r.cell 1
    simp only [List.setIfInBounds_toArray, List.set_cons_zero, List.set_cons_succ, List.getElem?_toArray, List.getElem?_cons_zero, List.getElem?_cons_succ] at r0 r1
    gi_wp2
    exact ⟨.agg #[.int .i64 p, .slice A n cap], by simp [results, Tryz.results48, go_sem, r0, r1], rfl, hBf⟩))
  clear hC b0 b1 hL2 hok hlen hr hR hpp
  generalize css.length = n at *
  go_enter Tryz.func14, Tryz.ntmps14
  have hmf : ∀ (fn : Fn) (first cap : Array Value) (w : World), (Instr.makeFunc fn first cap).run Tryz.prog w = .ok (.func fn first cap) w := fun _ _ _ _ => rfl
  go_wp2_with (go_at_call 47; refine HA.out.mono ?_; rintro e w1 ⟨rfl, hB1⟩)
  go_ret
  exact ⟨rfl, below_in hBW (below_in hB1 (below_one _ _))⟩

set_option maxRecDepth 100000 in
set_option maxHeartbeats 1000000 in
theorem right_no {B : Nat} (p : Int) (v : Value) (css : List (List (List UInt8))) (w : World) (hL : Laid w) (hB : B ≤ w.heap.size) (hC : Cols B w v css) (hlen : css.length ≤ 1000) (hcl : ∀ j, j < css.length → (css[j]?.getD []).length ≤ 1000) (hno : ¬ RightD p css) :
    Calls Tryz.prog 14 #[.int .i64 p, v] w fun e w' => e = .returned (.bool false) ∧ Below w.heap.size w w' := by
  obtain ⟨A, cap, rfl, _, _⟩ := id hC
  obtain ⟨W2, hW2⟩ : ∃ W2, (w.alloc (.cells #[.int .i64 p] 3)).alloc (.cells #[.slice A css.length cap] 22) = W2 := ⟨_, rfl⟩
  have b0 : Blk W2 w.heap.size 3 #[.int .i64 p] := by rw [← hW2]; exact (Blk.new w _ _).alloc _
  have b1 : Blk W2 (w.heap.size + 1) 22 #[.slice A css.length cap] := by rw [← hW2]; exact Blk.second w _ _ _
  have hBW : Below w.heap.size w W2 := by rw [← hW2]; exact below_two w _ _
  have hL2 := hL.next hBW
  have HA := Lib.hid (ans_K_no 48 #[.pointer (some ⟨w.heap.size, 0, none⟩), .pointer (some ⟨w.heap.size + 1, 0, none⟩)] W2 (enter_right1 _) (fun U hU => by
    have hLU := hL2.next hU
    have hBU := below_in hBW hU
    have hCU := hC.below (hBU.mono hB)
    have c0 := (b0.below hU b0.lt).one
    have c1 := (b1.below hU b1.lt).one
    have hSS := Lib.hid (fun (V : World) (hV : Below U.heap.size U V) => (⟨(hV.cell (p := ⟨w.heap.size, 0, none⟩) (b0.below hU b0.lt).lt).trans c0, (hV.cell (p := ⟨w.heap.size + 1, 0, none⟩) (b1.below hU b1.lt).lt).trans c1⟩ : (fun V : World => V.cell? ⟨w.heap.size, 0, none⟩ = some (.int .i64 p) ∧ V.cell? ⟨w.heap.size + 1, 0, none⟩ = some (.slice A css.length cap)) V))
    have hBz := below_one U (.cells #[.int .i64 0, .slice none 0 0] 65)
    by_cases hp : p ∈ prm
    · have hpp := prm_bounds hp
      have hR : RightC 1 p := ⟨by omega, hp⟩
      have hr : p - 1 = (((p - 1).toNat : Nat) : Int) := by omega
      have HPP := Lib.hid (fun (V : World) (hV : Below U.heap.size U V) => primeOf_yes p hR V (hLU.next hV))
      have HT := Lib.hid (fun (V : World) (hV : Below U.heap.size U V) => together_no (B := B) p _ hR hr (.slice A css.length cap) css V (hLU.next hV) (Nat.le_trans hB (Nat.le_trans hBU.size hV.size)) (hCU.below (hV.mono (Nat.le_trans hB hBU.size))) hlen hcl (fun h => hno ⟨hp, h⟩))
      clear hC hCU hno b0 b1 hW2 hL hL2 hLU hlen hcl hr hR hpp hp
      generalize css.length = n at *
      refine (callsIn_wide (n := 9)).1 ?_
      refine callsIn_of_wp_marks Tryz.func48 rfl trivial ?_ rfl
      simp only [Tryz.ntmps48, List.size_toArray, List.length_cons, List.length_nil, Nat.reduceAdd, Nat.reduceSub, Array.replicate_succ, Array.replicate_zero, List.push_toArray, List.append_toArray, List.nil_append, List.cons_append]
      gi_wp2_with fail
      have hS : (fun V : World => V.cell? ⟨w.heap.size, 0, none⟩ = some (.int .i64 p) ∧ V.cell? ⟨w.heap.size + 1, 0, none⟩ = some (.slice A n cap)) (U.alloc (.cells #[.int .i64 0, .slice none 0 0] 65)).drew := hSS.out _ hBz.drew
      refine wpIn_mono (region_HF (Q := Gave U) (S := (fun V : World => V.cell? ⟨w.heap.size, 0, none⟩ = some (.int .i64 p) ∧ V.cell? ⟨w.heap.size + 1, 0, none⟩ = some (.slice A n cap))) (by kernel_rfl) ?_) (fun e a w' h => by obtain ⟨rfl, hd, hB⟩ := h; obtain ⟨tm, df⟩ := a; have hd' : df = [] := hd; subst hd'; exact ⟨rfl, hB⟩)
      refine anyHF_take (i := 0) (d := 3) (v := .int .i64 p) (by kernel_rfl) rfl (by kernel_rfl) (by kernel_rfl) (by kernel_rfl) rfl (fun _ _ _ h => ⟨h.1, by simpa [Act.put] using h.2.1, h.2.2⟩) ⟨Or.inl ⟨by rfl, fun w hS => by obtain ⟨h0, h1⟩ := hS; go_simp⟩, fun _ => rfl⟩ hS ?_
      simp only [List.setIfInBounds_toArray, List.set_cons_zero, List.set_cons_succ]
      refine anyHF_take (i := 2) (d := 5) (v := .slice A n cap) (by kernel_rfl) rfl (by kernel_rfl) (by kernel_rfl) (by kernel_rfl) rfl (fun _ _ _ h => ⟨h.1, by simpa [Act.put] using h.2.1, h.2.2⟩) ⟨Or.inl ⟨by rfl, fun w hS => by obtain ⟨h0, h1⟩ := hS; go_simp⟩, fun _ => rfl⟩ hS ?_
      simp only [List.setIfInBounds_toArray, List.set_cons_zero, List.set_cons_succ]
      refine anyHF_one (i := 1) (by kernel_rfl) rfl (by kernel_rfl) (by rfl) ?_
      gi_wp2_with fail
      refine ⟨trivial, (callsIn_wide.2 (HPP.out _ hBz.drew)).mono ?_⟩
      rintro e w1 ⟨rfl, hB1⟩
      replace hB1 := below_undrew hB1
      replace hBz := below_in hBz hB1
      clear hS
      have hS : (fun V : World => V.cell? ⟨w.heap.size, 0, none⟩ = some (.int .i64 p) ∧ V.cell? ⟨w.heap.size + 1, 0, none⟩ = some (.slice A n cap)) w1 := hSS.out _ hBz
      gi_wp2
      try (refine ⟨hS, ?_⟩)
      refine anyHF_one (i := 3) (by kernel_rfl) rfl (by kernel_rfl) (by rfl) ?_
      gi_wp2_with fail
      refine ⟨trivial, (callsIn_wide.2 (HT.out _ hBz)).mono ?_⟩
      rintro e w2 ⟨rfl, hB2⟩
      exact ⟨rfl, rfl, below_in hBz hB2⟩
    · have HPP := Lib.hid (fun (V : World) (hV : Below U.heap.size U V) => primeOf_no p (fun h => hp h.2) V (hLU.next hV))
      clear hC hCU hno b0 b1 hW2 hL hL2 hLU hlen hcl hp
      generalize css.length = n at *
      refine (callsIn_wide (n := 9)).1 ?_
      refine callsIn_of_wp_marks Tryz.func48 rfl trivial ?_ rfl
      simp only [Tryz.ntmps48, List.size_toArray, List.length_cons, List.length_nil, Nat.reduceAdd, Nat.reduceSub, Array.replicate_succ, Array.replicate_zero, List.push_toArray, List.append_toArray, List.nil_append, List.cons_append]
      gi_wp2_with fail
      have hS : (fun V : World => V.cell? ⟨w.heap.size, 0, none⟩ = some (.int .i64 p) ∧ V.cell? ⟨w.heap.size + 1, 0, none⟩ = some (.slice A n cap)) (U.alloc (.cells #[.int .i64 0, .slice none 0 0] 65)).drew := hSS.out _ hBz.drew
      refine wpIn_mono (region_HF (Q := Gave U) (S := (fun V : World => V.cell? ⟨w.heap.size, 0, none⟩ = some (.int .i64 p) ∧ V.cell? ⟨w.heap.size + 1, 0, none⟩ = some (.slice A n cap))) (by kernel_rfl) ?_) (fun e a w' h => by obtain ⟨rfl, hd, hB⟩ := h; obtain ⟨tm, df⟩ := a; have hd' : df = [] := hd; subst hd'; exact ⟨rfl, hB⟩)
      refine anyHF_take (i := 0) (d := 3) (v := .int .i64 p) (by kernel_rfl) rfl (by kernel_rfl) (by kernel_rfl) (by kernel_rfl) rfl (fun _ _ _ h => ⟨h.1, by simpa [Act.put] using h.2.1, h.2.2⟩) ⟨Or.inl ⟨by rfl, fun w hS => by obtain ⟨h0, h1⟩ := hS; go_simp⟩, fun _ => rfl⟩ hS ?_
      simp only [List.setIfInBounds_toArray, List.set_cons_zero, List.set_cons_succ]
      refine anyHF_take (i := 2) (d := 5) (v := .slice A n cap) (by kernel_rfl) rfl (by kernel_rfl) (by kernel_rfl) (by kernel_rfl) rfl (fun _ _ _ h => ⟨h.1, by simpa [Act.put] using h.2.1, h.2.2⟩) ⟨Or.inl ⟨by rfl, fun w hS => by obtain ⟨h0, h1⟩ := hS; go_simp⟩, fun _ => rfl⟩ hS ?_
      simp only [List.setIfInBounds_toArray, List.set_cons_zero, List.set_cons_succ]
      refine anyHF_one (i := 1) (by kernel_rfl) rfl (by kernel_rfl) (by rfl) ?_
      gi_wp2_with fail
      refine ⟨trivial, (callsIn_wide.2 (HPP.out _ hBz.drew)).mono ?_⟩
      rintro e w1 ⟨rfl, hB1⟩
      exact ⟨rfl, rfl, below_in hBz (below_undrew hB1)⟩))
  clear hC b0 b1 hL2 hno hlen hcl
  generalize css.length = n at *
  go_enter Tryz.func14, Tryz.ntmps14
  have hmf : ∀ (fn : Fn) (first cap : Array Value) (w : World), (Instr.makeFunc fn first cap).run Tryz.prog w = .ok (.func fn first cap) w := fun _ _ _ _ => rfl
  go_wp2_with (go_at_call 47; refine HA.out.mono ?_; rintro e w1 ⟨rfl, hB1⟩)
  go_ret
  exact ⟨rfl, below_in hBW (below_in hB1 (below_one _ _))⟩
end Go.Proofs.YtggdlklkjnbbjaaGreatDoor.E

