/- STAR: a cell, cells put upon one another, columns turned over. A range over a function whose body keeps rows of its own (the blocks o): the iterator writes nothing there, the body nothing else that lies from the call on. -/
import Derived.Test.YtcgnhfiadeceiaaGreatDoorJG6
import Derived.Test.YtcgnhfiadeceiaaGreatDoorJG8
import Derived.Test.YtcgnhfiadeceiaaGreatDoorJSA
namespace Go.Proofs.YtcgnhfiadeceiaaGreatDoor.T
open Go.RowKit Go.Shelf Go.Proofs.YtcgnhfiadeceiaaGreatDoor.C Go.Proofs.YtcgnhfiadeceiaaGreatDoor.E
set_option linter.unusedSimpArgs false
set_option linter.unusedVariables false

set_option maxHeartbeats 1000000 in
theorem upon_any {B : Nat} (v : Value) (ls : List (List UInt8)) (w : World) (hB : B ≤ w.heap.size) (hM : Many B w v ls) (hls : ls.length ≤ 1000) (hok : XorOk ls) :
    Calls Tryz.prog 86 #[v] w fun e w' => ∃ u, e = .returned u ∧ Fresh w.heap.size w' u (xorOf ls) ∧ Below w.heap.size w w' := by
  have HX := Lib.hid (xor_yes ls v w hB hM (by omega) hok)
  obtain ⟨A, cap, rfl, _, _⟩ := id hM
  clear hM hok hls
  generalize ls.length = n at *
  go_enter Tryz.func86, Tryz.ntmps86
  go_wp2_with (first
    | (go_at_call 110; refine HX.out.mono ?_; rintro e w1 ⟨u, rfl, hF, hB1⟩)
    | (go_at_call 109; refine (sureB _ _).mono ?_; rintro e w2 ⟨rfl, rfl⟩))
  go_ret
  exact ⟨_, rfl, hF, hB1⟩

set_option maxRecDepth 100000 in
set_option maxHeartbeats 1000000 in
theorem cell_any {B : Nat} (v : Value) (css : List (List (List UInt8))) (R n : Nat) (X Y : Nat) (w : World) (hB : B ≤ w.heap.size) (hC : Cols B w v css) (hg : Grid R n css) (hX : X < css.length) (hY : Y < R) :
    Calls Tryz.prog 107 #[v, .agg #[.int .i64 (X : Int), .int .i64 (Y : Int)]] w fun e w' => ∃ u, e = .returned u ∧ Bytes B w' u (cellI css ((X : Int), (Y : Int))) ∧ Below w.heap.size w w' := by
  obtain ⟨b1, off1, cap, rfl, hcap, hb1, hrow1⟩ := hC.at_ (by omega)
  obtain ⟨u1, hc1, hm1⟩ := hrow1 X hX
  obtain ⟨hcr, hce⟩ := hg X hX
  obtain ⟨A3, cap3, rfl, _, _⟩ := id hm1
  obtain ⟨b2, off3, rfl, hb2, hrow3⟩ := many_at hm1 (by omega)
  obtain ⟨Aa, ca, hc3, hby⟩ := hrow3 Y (by omega)
  have hcI : cellI css ((X : Int), (Y : Int)) = (css[X]?.getD [])[Y]?.getD [] := rfl
  rw [hcI]
  rw [hcr] at hc1
  obtain ⟨W2, hW2⟩ : ∃ W2, w.alloc (.cells #[.int .i64 (X : Int), .int .i64 (Y : Int)] 71) = W2 := ⟨_, rfl⟩
  have bq : Blk W2 w.heap.size 71 #[.int .i64 (X : Int), .int .i64 (Y : Int)] := by rw [← hW2]; exact Blk.new w _ _
  have hB2 : Below w.heap.size w W2 := by rw [← hW2]; exact below_one w _
  have a0 := bq.cell 0
  have a1 := bq.cell 1
  simp only [List.getElem?_toArray, List.getElem?_cons_zero, List.getElem?_cons_succ] at a0 a1
  have hc1' := (hB2.cell (p := ⟨b1, off1 + X, none⟩) (Nat.lt_of_lt_of_le hb1 hB)).trans hc1
  have hc3' := (hB2.cell (p := ⟨b2, off3 + Y, none⟩) (Nat.lt_of_lt_of_le hb2 hB)).trans hc3
  have HBY := Lib.hid (fun (U : World) (hU : Below w.heap.size w U) => hby.below (hU.mono hB))
  have i1 : (0 : Int) ≤ (X : Int) := by omega
  have i2 : (X : Int) < (css.length : Int) := by omega
  have i3 : (0 : Int) ≤ (Y : Int) := by omega
  have i4 : (Y : Int) < (R : Int) := by omega
  clear hrow1 hrow3 hm1 hby hcr hce hcI hC hg bq
  generalize (css[X]?.getD [])[Y]?.getD [] = ce at *
  generalize css.length = N at *
  go_enter Tryz.func107, Tryz.ntmps107
  go_wp2
  try rw [hW2]
  go_region_held3 (fun U => U.cell? ⟨w.heap.size, 0, none⟩ = some (.int .i64 (X : Int)) ∧ U.cell? ⟨w.heap.size, 1, none⟩ = some (.int .i64 (Y : Int)) ∧ U.cell? ⟨b1, off1 + X, none⟩ = some (.slice (some ⟨b2, off3, none⟩) R cap3) ∧ U.cell? ⟨b2, off3 + Y, none⟩ = some (.slice Aa ce.length ca))
    (exact ⟨a0, a1, hc1', hc3'⟩) (fail)
  all_goals go_wp2
  all_goals go_ret
  all_goals exact ⟨_, rfl, HBY.out _ hB2.drew, hB2.drew⟩

set_option maxRecDepth 100000 in
set_option maxHeartbeats 1000000 in
theorem cloneC_any {B : Nat} (v : Value) (css : List (List (List UInt8))) (w : World) (hB : B ≤ w.heap.size) (hC : Cols B w v css) (h0 : 0 < css.length) (hlen : css.length ≤ 1000) :
    Calls Tryz.prog 100 #[v] w fun e w' => ∃ u, e = .returned u ∧ RowC (· < B) w' w.heap.size u css ∧ Below w.heap.size w w' := by
  have hq : ∀ (W : World) (a : Option Addr) (n c : Nat), (binOp .eql 22 (.slice a n c) (.slice none 0 0)).run Tryz.prog W = .ok (.bool a.isNone) W := fun W a n c => Lib.run_eql_slice_nil W _ _ a n c 0 0 Tryz.underlying22
  obtain ⟨W1, hW1⟩ : ∃ W1, w.alloc (.cells #[] 50) = W1 := ⟨_, rfl⟩
  have hB1 : Below w.heap.size w W1 := by rw [← hW1]; exact below_one w _
  have s1 : W1.heap.size = w.heap.size + 1 := by rw [← hW1]; simp
  have hb : Blk W1 w.heap.size 50 #[] := by rw [← hW1]; exact Blk.new w _ _
  have HO : Hid (RowC (· < B) W1 w.heap.size (.slice (some ⟨w.heap.size, 0, none⟩) 0 0) []) := RowG.empty _ _ _ _ hb (Nat.le_refl _)
  have HX : Hid (colsR.R (fun b => b < W1.heap.size ∧ some b ≠ (Value.slice (some ⟨w.heap.size, 0, none⟩) 0 0).ownBlock ∧ b < B) W1 v css) := colsR.imp (show colsR.R (· < B) W1 v css from hC.below (hB1.mono hB)) fun b hb => ⟨by omega, by intro e; injection e with e; have : b = w.heap.size := e; omega, hb⟩
  obtain ⟨b1, off1, cap, rfl, hcap, hb1, _⟩ := hC.at_ h0
  have hq2 := hq w (some ⟨b1, off1, none⟩) css.length cap
  have HL := Lib.hid hlen
  have H0 := Lib.hid h0
  clear hC h0 hlen hq hb
  go_enter Tryz.func100, Tryz.ntmps100
  go_wp2_with (at_builtin; refine wpList_appC _ rfl _ _ rfl Tryz.underlying22 [] css rfl HO.out rfl HX.out H0.out (by simp) (Nat.le_trans HL.out (by omega)) (by omega) ?_; intro v' w2 hrow hgr _)
  go_ret
  rw [List.nil_append] at hrow
  exact ⟨_, rfl, hrow, below_grown hB1 hgr (by omega) (fun k e => by cases e; exact Nat.le_refl _)⟩

/-- Of values, all but the first the other way round: the first ones and the last ones so far. -/
def revAt (us : List Value) (i k : Nat) : Value := if k = 0 then us[0]?.getD undef else if k - 1 < i ∨ us.length - 1 - k < i then us[us.length - k]?.getD undef else us[k]?.getD undef
def revL (us : List Value) (i : Nat) : List Value := (List.range us.length).map (revAt us i)
def flipL {α : Type} (us : List α) : List α := us.take 1 ++ (us.drop 1).reverse
theorem revL_len (us : List Value) (i : Nat) : (revL us i).length = us.length := by unfold revL; simp
theorem revL_at (us : List Value) (i : Nat) {k : Nat} (hk : k < us.length) : (revL us i)[k]? = some (revAt us i k) := by
  unfold revL
  rw [List.getElem?_map, List.getElem?_range hk]
  rfl
theorem revL_zero (us : List Value) : revL us 0 = us := by
  refine List.ext_getElem (revL_len us 0) fun k h1 h2 => ?_
  have h := revL_at us 0 h2
  rw [List.getElem?_eq_getElem h1] at h
  injection h with h
  rw [h]
  unfold revAt
  rcases Nat.eq_zero_or_pos k with rfl | h0
  · rw [if_pos rfl, List.getElem?_eq_getElem h2]; rfl
  · rw [if_neg (by omega), if_neg (by omega), List.getElem?_eq_getElem h2]; rfl
theorem revL_next (us : List Value) (i : Nat) (hi : 2 * i + 2 < us.length) : ((revL us i).set (1 + i) (us[us.length - 1 - i]?.getD undef)).set (us.length - 1 - i) (us[1 + i]?.getD undef) = revL us (i + 1) := by
  refine List.ext_getElem (by simp [revL_len]) fun k h1 h2 => ?_
  rw [revL_len] at h2
  have h := revL_at us (i + 1) h2
  have h' := revL_at us i h2
  rw [List.getElem?_eq_getElem (by rw [revL_len]; exact h2)] at h h'
  injection h with h
  injection h' with h'
  rw [h, List.getElem_set, List.getElem_set, h']
  unfold revAt
  by_cases e1 : us.length - 1 - i = k
  · rw [if_pos e1, if_neg (by omega), if_pos (by omega), show us.length - k = 1 + i by omega]
  · rw [if_neg e1]
    by_cases e2 : 1 + i = k
    · rw [if_pos e2, if_neg (by omega), if_pos (by omega), show us.length - 1 - i = us.length - k by omega]
    · rw [if_neg e2]
      by_cases e3 : k = 0
      · rw [if_pos e3, if_pos e3]
      · rw [if_neg e3, if_neg e3]
        by_cases e4 : k - 1 < i ∨ us.length - 1 - k < i
        · rw [if_pos e4, if_pos (by omega)]
        · rw [if_neg e4, if_neg (by omega)]
theorem revL_end (us : List Value) (i : Nat) (h1 : 0 < us.length) (hi : us.length ≤ 2 * i + 2) : revL us i = flipL us := by
  refine List.ext_getElem? fun k => ?_
  rcases Nat.lt_or_ge k us.length with hk | hk
  · rw [revL_at us i hk]
    unfold flipL revAt
    rcases Nat.eq_zero_or_pos k with rfl | h0
    · rw [if_pos rfl, List.getElem?_append_left (by rw [List.length_take]; omega), List.getElem?_take_of_lt (by omega), List.getElem?_eq_getElem h1]; rfl
    · rw [if_neg (by omega), List.getElem?_append_right (by rw [List.length_take]; omega), List.length_take, Nat.min_eq_left (by omega), List.getElem?_reverse (by rw [List.length_drop]; omega), List.length_drop, List.getElem?_drop]
      have e : 1 + (us.length - 1 - 1 - (k - 1)) = us.length - k := by omega
      rw [e]
      by_cases e4 : k - 1 < i ∨ us.length - 1 - k < i
      · rw [if_pos e4, List.getElem?_eq_getElem (by omega : us.length - k < us.length)]; rfl
      · rw [if_neg e4, show us.length - k = k by omega, List.getElem?_eq_getElem hk]; rfl
  · rw [List.getElem?_eq_none (by rw [revL_len]; exact hk), List.getElem?_eq_none (by unfold flipL; rw [List.length_append, List.length_take, List.length_reverse, List.length_drop]; omega)]

set_option maxRecDepth 100000 in
set_option maxHeartbeats 2000000 in
theorem reverse_any (g cap base : Nat) (us : List Value) (w : World) (ho : w.ownsRow base 50 1 (.slice (some ⟨g, 0, none⟩) us.length cap) us.length us) (h1 : 1 ≤ us.length) (hlen : us.length ≤ 1000) (hcap : us.length ≤ cap) (hsl : ∀ k, k < us.length → ∃ A n c, us[k]?.getD undef = .slice A n c) :
    Calls Tryz.prog 101 #[.slice (some ⟨g, 1, none⟩) (us.length - 1) (cap - 1)] w fun e w' => e = .returned (.tuple #[]) ∧ w'.ownsRow base 50 1 (.slice (some ⟨g, 0, none⟩) us.length cap) us.length (flipL us) ∧ w.grownBy w' (some g) := by
  obtain ⟨m, hm⟩ : ∃ m, us.length = m + 1 := ⟨us.length - 1, by omega⟩
  have HM := Lib.hid hm
  rw [hm] at hsl
  have HSL := Lib.hid hsl
  clear hsl
  rw [hm] at ho hlen hcap ⊢
  have HO := Lib.hid ho
  rw [Nat.add_sub_cancel]
  clear ho h1
  have hw1 : IntKind.i64.wrap ((m : Int) - 1) = (m : Int) - 1 := IntWalk.i64_in _ (by omega)
  have hw2 : wrap64 ((m : Int) - 1) = (m : Int) - 1 := IntWalk.wrap64_in _ (by omega)
  go_enter Tryz.func101, Tryz.ntmps101
  go_wp2
  go_loopw [2, 3] (fun i j wr => ∃ k : Nat, 2 * k ≤ m + 1 ∧ i = .int .i64 (k : Int) ∧ j = .int .i64 ((m : Int) - 1 - (k : Int)) ∧ Hid (wr.ownsRow base 50 1 (.slice (some ⟨g, 0, none⟩) (m + 1) cap) (m + 1) (revL us k)) ∧ Hid (w.grownBy wr (some g))) (fun i j _ => m + 1 - (intOf i).toNat)
  case atStart => exact ⟨0, by omega, rfl, by simp, by rw [revL_zero]; exact HO, Lib.hid (World.grownBy.refl _ _)⟩
  case round =>
    obtain ⟨k, hk, rfl, rfl, HR, HG⟩ := hrel
    by_cases hlt : 2 * k + 2 < m + 1
    · obtain ⟨q, hq⟩ : ∃ q, m = k + q + 1 := ⟨m - k - 1, by omega⟩
      have e : (m : Int) - 1 - (k : Int) = (q : Int) := by omega
      rw [e]
      have hdec : decide (k < q) = true := decide_eq_true (by omega)
      have hkq : k < q := by omega
      have c1 : wr.cell? ⟨g, 1 + k, none⟩ = some (us[1 + k]?.getD undef) := by
        rw [World.ownsRow.cellAt HR.out (1 + k) (by omega), revL_at us k (by rw [HM.out]; omega)]
        unfold revAt
        rw [if_neg (by omega), if_neg (by rw [HM.out]; omega)]
      have c2 : wr.cell? ⟨g, 1 + q, none⟩ = some (us[1 + q]?.getD undef) := by
        rw [World.ownsRow.cellAt HR.out (1 + q) (by omega), revL_at us k (by rw [HM.out]; omega)]
        unfold revAt
        rw [if_neg (by omega), if_neg (by rw [HM.out]; omega)]
      have f1 := World.ownsRow.frozenAt HR.out (1 + k)
      have f2 := World.ownsRow.frozenAt HR.out (1 + q)
      have hs := World.ownsRow.stored HR.out (1 + k) (us[1 + q]?.getD undef)
      have HS := Lib.hid (World.ownsRow.stored hs.1 (1 + q) (us[1 + k]?.getD undef))
      have HG2 := Lib.hid (World.grownBy.trans (World.grownBy.trans HG.out hs.2) HS.out.2)
      have HN : Hid (((revL us k).set (1 + k) (us[1 + q]?.getD undef)).set (1 + q) (us[1 + k]?.getD undef) = revL us (k + 1)) := by
        have h := revL_next us k (by rw [HM.out]; exact hlt)
        rw [HM.out, show m + 1 - 1 - k = 1 + q by omega] at h
        exact h
      have f3 := World.ownsRow.frozenAt hs.1 (1 + q)
      clear hs
      obtain ⟨xA, xn, xc, hx⟩ := HSL.out (1 + k) (by omega)
      obtain ⟨yA, yn, yc, hy⟩ := HSL.out (1 + q) (by omega)
      rw [hx, hy] at HS HG2 HN
      rw [hx] at c1
      rw [hy] at c2
      rw [hy] at f3
      clear hx hy
      have i1 : (0 : Int) ≤ (k : Int) := by omega
      have i2 : (k : Int) < (m : Int) := by omega
      have i3 : (0 : Int) ≤ (q : Int) := by omega
      have i4 : (q : Int) < (m : Int) := by omega
      have hw3 : IntKind.i64.wrap ((q : Int) - 1) = (m : Int) - 1 - ((k + 1 : Nat) : Int) := by rw [IntWalk.i64_in _ (by omega)]; omega
      have hw4 : wrap64 ((q : Int) - 1) = (m : Int) - 1 - ((k + 1 : Nat) : Int) := by rw [IntWalk.wrap64_in _ (by omega)]; omega
      clear e hq
      go_wp2
      go_region
      go_wp2
      go_roundw
      case rel => exact ⟨k + 1, by omega, by go_num, by first | rfl | (simp only [hw3, hw4]) | (congr 1; omega), by rw [← HN.out]; exact World.ownsRow.drew HS.out.1, Lib.hid (World.grownBy.trans HG2.out ⟨rfl, rfl, rfl, Nat.le_refl _, fun _ _ _ => rfl⟩)⟩
      case measure => simp [intOf]; omega
    · have hdec : decide ((k : Int) < (m : Int) - 1 - (k : Int)) = false := by simp; omega
      have HE : Hid (revL us k = flipL us) := revL_end us k (by rw [HM.out]; omega) (by rw [HM.out]; omega)
      go_wp2
      go_end0
      exact ⟨rfl, by rw [← HE.out]; exact HR, HG⟩

/-- A row of columns of the call's own, whose cells lie as they lay, turned over in place. -/
theorem flip_row {B base : Nat} {W W' : World} {g cap : Nat} {css : List (List (List UInt8))} (h : RowC (· < B) W base (.slice (some ⟨g, 0, none⟩) css.length cap) css) (hB : B ≤ base) (us : List Value)
    (hu : us.length = css.length ∧ ∀ (j : Nat) (u : Value), us[j]? = some u → manyR.R (fun b => b < W.heap.size ∧ some b ≠ (Value.slice (some ⟨g, 0, none⟩) css.length cap).ownBlock ∧ b < B) W u (css[j]?.getD []))
    (ho : W'.ownsRow base 50 1 (.slice (some ⟨g, 0, none⟩) us.length cap) us.length (flipL us)) (hg : W.grownBy W' (some g)) : RowC (· < B) W' base (.slice (some ⟨g, 0, none⟩) css.length cap) (flipL css) := by
  have hfl : ∀ {α : Type} (l : List α), (flipL l).length = l.length := fun l => by unfold flipL; rw [List.length_append, List.length_take, List.length_reverse, List.length_drop]; omega
  have hat : ∀ {α : Type} (l : List α) (j : Nat), (flipL l)[j]? = if j < l.length then (if j = 0 then l[0]? else l[l.length - j]?) else none := fun l j => by
    unfold flipL
    by_cases hj : j < l.length
    · rw [if_pos hj]
      rcases Nat.eq_zero_or_pos j with rfl | h0
      · rw [if_pos rfl, List.getElem?_append_left (by rw [List.length_take]; omega), List.getElem?_take_of_lt (by omega)]
      · rw [if_neg (by omega), List.getElem?_append_right (by rw [List.length_take]; omega), List.length_take, Nat.min_eq_left (by omega), List.getElem?_reverse (by rw [List.length_drop]; omega), List.length_drop, List.getElem?_drop]
        congr 1
        omega
    · rw [if_neg hj, List.getElem?_eq_none (by rw [List.length_append, List.length_take, List.length_reverse, List.length_drop]; omega)]
  refine ⟨flipL us, by rw [hfl]; rw [← hu.1]; exact ho, by rw [hfl, hfl]; exact hu.1, fun j u hj => ?_⟩
  rw [hat] at hj ⊢
  rw [← hu.1]
  have key : ∀ (i : Nat), us[i]? = some u → manyR.R (fun b => b < W'.heap.size ∧ some b ≠ (Value.slice (some ⟨g, 0, none⟩) us.length cap).ownBlock ∧ b < B) W' u (css[i]?.getD []) := fun i hi =>
    manyR.imp (manyR.keep (hu.2 i u hi) fun b hb => hg.block b hb.1 hb.2.1) fun b hb => ⟨Nat.lt_of_lt_of_le hb.1 hg.size, hb.2⟩
  by_cases h1 : j < us.length
  · rw [if_pos h1] at hj ⊢
    by_cases h0 : j = 0
    · rw [if_pos h0] at hj ⊢
      exact key 0 hj
    · rw [if_neg h0] at hj ⊢
      exact key _ hj
  · rw [if_neg h1] at hj
    cases hj

set_option maxRecDepth 100000 in
set_option maxHeartbeats 2000000 in
theorem turned_any {B : Nat} (v : Value) (css : List (List (List UInt8))) (w : World) (hB : B ≤ w.heap.size) (hC : Cols B w v css) (h2 : 2 ≤ css.length) (hlen : css.length ≤ 1000) :
    Calls Tryz.prog 71 #[v] w fun e w' => ∃ u, e = .returned u ∧ RowC (· < B) w' w.heap.size u (overOf css) ∧ Below w.heap.size w w' := by
  have h0 : 0 < css.length := by omega
  have HCL := Lib.hid (cloneC_any v css w hB hC h0 hlen)
  obtain ⟨b1, off1, cap, rfl, hcap, hb1, _⟩ := hC.at_ h0
  have HL := Lib.hid hlen
  have H2 := Lib.hid h2
  have H0 := Lib.hid h0
  clear hC h0 h2 hlen
  go_enter Tryz.func71, Tryz.ntmps71
  go_wp2_with (go_at_call 100; refine HCL.out.mono ?_; rintro e w1 ⟨u, rfl, hrow, hB1⟩)
  obtain ⟨us, ho, hn, hr⟩ := hrow
  obtain ⟨g, cap2, rfl, hg1, hg2⟩ := World.ownsRow.form ho (by rw [hn]; exact H0.out)
  have hcp : us.length ≤ cap2 := by
    rcases ho.2 with ⟨h1, _⟩ | ⟨g3, cap3, cur, e2, _, _, hnc, _⟩
    · cases h1
    · injection e2 with _ _ e3
      omega
  have HR := Lib.hid (reverse_any g cap2 w.heap.size us w1 ho (by rw [hn]; exact H0.out) (by rw [hn]; exact HL.out) hcp (fun k hk => by
    obtain ⟨A, n, e, _⟩ := hr k us[k] (List.getElem?_eq_getElem hk)
    rw [List.getElem?_eq_getElem hk]
    exact ⟨A, _, n, e⟩))
  have HF := Lib.hid (fun (W' : World) (h1 : W'.ownsRow w.heap.size 50 1 (.slice (some ⟨g, 0, none⟩) us.length cap2) us.length (flipL us)) (h2 : w1.grownBy W' (some g)) => flip_row (B := B) (base := w.heap.size) (W := w1) (W' := W') (g := g) (cap := cap2) (css := css) ⟨us, by rw [← hn]; exact ho, hn, by rw [← hn]; exact hr⟩ hB us ⟨hn, by rw [← hn]; exact hr⟩ h1 h2)
  have HN := Lib.hid hn
  have hn1 : 1 ≤ us.length := by rw [hn]; exact H0.out
  have hbe : ∀ W', w1.grownBy W' (some g) → Below w.heap.size w W' := fun W' h => below_grown hB1 h (by have := hB1.size; omega) (fun k e => by cases e; exact hg1)
  clear hn ho hr
  have j1 : (0 : Int) ≤ 1 := by omega
  have j2 : (1 : Int) ≤ (us.length : Int) := by omega
  have j3 : (us.length : Int) ≤ (cap2 : Int) := by omega
  have j4 : ¬ cap2 = 1 := by have := H2.out; rw [← HN.out] at this; omega
  have j5 : 1 ≤ us.length := hn1
  have j6 : 0 < us.length := hn1
  have j7 : ¬ us.length = 0 := by omega
  generalize us.length = n at *
  have hsl : ∀ W : World, (Instr.slice 22 (.slice (some ⟨g, 0, none⟩) n cap2) (some (.int .i64 1)) none none).run Tryz.prog W = .ok (.slice (some ⟨g, 1, none⟩) (n - 1) (cap2 - 1)) W := fun W => by
    have ht : Tryz.prog.underlying 22 = some (.slice (Tryz.prog.elem 22)) := by kernel_rfl
    rw [run_slice_l W _ _ _ _ ht .i64 1 (by omega) (by omega)]
    have hz : (Go.sizeOf (Tryz.prog.elem 22)).run Tryz.prog W = .ok 1 W := by kernel_rfl
    rw [hz]
    have h5 : ¬ cap2 = 1 := j4
    simp [Result.andThen, sliced, Addr.add, h5]
  have hs1 := hsl w1
  clear hsl
  simp only [hs1, Result.andThen_ok, Oper.upon]
  go_wp2_with (go_at_call 101; refine HR.out.mono ?_; rintro e w2 ⟨rfl, ho2, hgr2⟩)
  go_ret
  exact ⟨_, rfl, by have := HF.out w2 ho2 hgr2; rw [HN.out]; exact this, hbe _ hgr2⟩

set_option maxRecDepth 100000 in
set_option maxHeartbeats 2000000 in
theorem copied_any (v : Value) (ls : List (List UInt8)) (w : World) (hM : Many w.heap.size w v ls) (hlen : ls.length ≤ 1000) (hcl : ∀ j : Nat, (ls[j]?.getD []).length ≤ 1000) :
    Calls Tryz.prog 72 #[v] w fun e w' => ∃ u, e = .returned u ∧ manyR.R (fun b => w.heap.size ≤ b ∧ b < w'.heap.size) w' u ls ∧ Below w.heap.size w w' := by
  obtain ⟨Av, capv, rfl, hcv, hAv⟩ := id hM
  have HA := Lib.hid hAv
  have HCL := Lib.hid (fun (j : Nat) (u : Value) (W : World) (h : Bytes W.heap.size W u (ls[j]?.getD [])) => clone_any u (ls[j]?.getD []) (Nat.le_trans (hcl j) (by omega)) W h)
  clear hM hAv hcl
  obtain ⟨N, hN⟩ : ∃ N, ls.length = N := ⟨_, rfl⟩
  have HN := Lib.hid hN
  rw [hN] at hlen hcv ⊢
  clear hN
  obtain ⟨i0, hi, hz0, hz1, hz2⟩ := info_parts Tryz.infoSlcE
  have hmake := run_make (P := Tryz.prog) w 50 28 i0 (.slice none 0 0) Tryz.underlying50 hi hz0 .i64 .i64 (N : Int) (N : Int) (by omega) (by omega) (by rw [hz2]; omega) (by omega)
  simp only [hz1, Int.toNat_natCast] at hmake
  have bA := Blk.new w 28 (madeCells (Value.slice none 0 0).cells (N * 1))
  have hBA := below_one w (.cells (madeCells (Value.slice none 0 0).cells (N * 1)) 28)
  have hbz : (madeCells (Value.slice none 0 0).cells (N * 1)).size = N * 1 := size_madeCells _ _
  obtain ⟨wA, hwA⟩ : ∃ wA, w.alloc (.cells (madeCells (Value.slice none 0 0).cells (N * 1)) 28) = wA := ⟨_, rfl⟩
  rw [hwA] at hmake bA hBA
  generalize madeCells (Value.slice none 0 0).cells (N * 1) = csA at bA hbz
  rw [Nat.mul_one] at hbz
  clear hwA hi hz0 hz1 hz2
  go_enter Tryz.func72, Tryz.ntmps72
  go_wp2_with fail
  go_loopw [11] (fun i wr => ∃ (k : Nat) (cs : Array Value), k ≤ N ∧ i = .int .i64 k ∧ Blk wr w.heap.size 28 cs ∧ cs.size = N ∧ Hid (∀ j, j < k → ∃ u, cs[j]? = some u ∧ BytesP (fun b => w.heap.size < b ∧ b < wr.heap.size) wr u (ls[j]?.getD [])) ∧ Below w.heap.size w wr) (fun i _ => N - (intOf i).toNat)
  case atStart => exact ⟨0, csA, by omega, rfl, bA, hbz, Lib.hid (fun j hj => absurd hj (by omega)), hBA⟩
  case round =>
    clear bA hbz hBA hmake
    obtain ⟨k, cs, hk, rfl, bA, hbz, HJ, hBr⟩ := hrel
    by_cases hlt : k < N
    · have hdec : decide ((k : Int) < (N : Int)) = true := by simp; omega
      obtain ⟨bv, ov, rfl, hbv, hcell⟩ := HA.out (by rw [HN.out]; omega)
      obtain ⟨u0, hu0, hB0⟩ := hcell k (by rw [HN.out]; exact hlt)
      have cv := (hBr.cell (p := ⟨bv, ov + k, none⟩) hbv).trans hu0
      have hcall := HCL.out k u0 wr ((hB0.below hBr).more hBr.size)
      obtain ⟨Au0, cu0, rfl, _⟩ := id hB0
      have i1 : (0 : Int) ≤ (k : Int) := by omega
      have i2 : (k : Int) < (N : Int) := by omega
      clear hcell hu0 hB0
      go_wp2_with fail
      refine hcall.mono ?_
      rintro e w4 ⟨u, rfl, hu, hB4⟩
      obtain ⟨Au, capu, rfl, _⟩ := id hu
      have bA4 := bA.below hB4 bA.lt
      have c0 := bA4.cell k
      rw [Array.getElem?_eq_getElem (show k < cs.size by omega)] at c0
      have f0 := bA4.frozen k
      have hgl := bA.lt
      have hs4 := hB4.size
      have HST : Hid (∀ V, V = w4.setCell ⟨w.heap.size, k, none⟩ (.slice Au (ls[k]?.getD []).length capu) →
          Blk V w.heap.size 28 (cs.setIfInBounds k (.slice Au (ls[k]?.getD []).length capu)) ∧ Below w.heap.size w V ∧
          ∀ j, j < k + 1 → ∃ u, (cs.setIfInBounds k (.slice Au (ls[k]?.getD []).length capu))[j]? = some u ∧ BytesP (fun b => w.heap.size < b ∧ b < V.heap.size) V u (ls[j]?.getD [])) := fun V hV => by
        have hVs : V.heap.size = w4.heap.size := by rw [hV]; simp
        have hKe : Keeps (fun b => b ≠ w.heap.size) w4 V := fun b hb => by rw [hV]; exact Below.heap_setCell w4 _ _ b (by simpa using hb)
        refine ⟨by rw [hV]; exact bA4.set_ k _, by rw [hV]; exact (below_in hBr hB4).setCell (by simp) _, fun j hj => ?_⟩
        by_cases hjk : j = k
        · subst hjk
          obtain ⟨A5, c5, e5, h5, h6⟩ := hu
          refine ⟨_, Array.getElem?_setIfInBounds_self_of_lt (by omega), A5, c5, e5, h5, fun hp => ?_⟩
          obtain ⟨b, off, e6, h7, h8, h9⟩ := h6 hp
          exact ⟨b, off, e6, ⟨by omega, by rw [hVs]; exact h8⟩, fun i hi => (hKe.cell (p := ⟨b, off + i, none⟩) (show b ≠ w.heap.size by omega)).trans (h9 i hi)⟩
        · obtain ⟨u1, h1, h2⟩ := HJ.out j (by omega)
          have h3 := BytesP.below h2 (N := wr.heap.size) (fun b hb => hb.2) hB4
          exact ⟨u1, by rw [Array.getElem?_setIfInBounds_ne (by omega)]; exact h1, (BytesP.imp h3 (Q := fun b => w.heap.size < b ∧ b < V.heap.size) (fun b hb => ⟨hb.1, by rw [hVs]; omega⟩)).keep (fun b hb => hKe b (by omega))⟩
      generalize cs[k]'_ = o0 at c0
      clear hu hcall hB4 HJ
      go_wp2
      go_roundw
      case rel => exact ⟨k + 1, _, hlt, by go_num, (HST.out _ rfl).1, by simpa using hbz, Lib.hid (HST.out _ rfl).2.2, (HST.out _ rfl).2.1⟩
      case measure => simp [intOf]; omega
    · obtain rfl : k = N := by omega
      have hdec : decide ((k : Int) < (k : Int)) = false := by simp
      go_wp2
      go_ret
      refine ⟨_, rfl, ⟨some ⟨w.heap.size, 0, none⟩, k, by rw [HN.out]; rfl, by rw [HN.out]; exact Nat.le_refl _, fun h0 => ⟨w.heap.size, 0, rfl, ⟨Nat.le_refl _, bA.lt⟩, fun j hj => ?_⟩⟩, hBr⟩
      obtain ⟨u1, h1, h2⟩ := HJ.out j (by rw [← HN.out]; exact hj)
      exact ⟨u1, by rw [Nat.zero_add, bA.cell j]; exact h1, BytesP.imp h2 (fun b hb => ⟨by omega, hb.2⟩)⟩

set_option maxRecDepth 100000 in
set_option maxHeartbeats 2000000 in
theorem over_any {B : Nat} (v : Value) (css : List (List (List UInt8))) (w : World) (hB : B ≤ w.heap.size) (hC : Cols B w v css) (h2 : 2 ≤ css.length) (hlen : css.length ≤ 1000) (hcl : ∀ j i : Nat, (css[j]?.getD []).length ≤ 1000 ∧ ((css[j]?.getD [])[i]?.getD []).length ≤ 1000) :
    Calls Tryz.prog 39 #[v] w fun e w' => ∃ u, e = .returned u ∧ Cols w'.heap.size w' u (overOf css) ∧ Below w.heap.size w w' := by
  have HT := Lib.hid (turned_any v css w hB hC h2 hlen)
  have hol : (overOf css).length = css.length := overOf_len (by omega)
  have hoc : ∀ j i : Nat, ((overOf css)[j]?.getD []).length ≤ 1000 ∧ (((overOf css)[j]?.getD [])[i]?.getD []).length ≤ 1000 := fun j i => by
    rcases Nat.lt_or_ge j css.length with hj | hj
    · rw [overOf_col rfl hj]
      exact hcl _ _
    · rw [List.getElem?_eq_none (by omega)]; simp
  obtain ⟨A, cap, rfl, _, _⟩ := id hC
  clear hC hcl
  generalize overOf css = os at *
  obtain ⟨N, hN⟩ : ∃ N, css.length = N := ⟨_, rfl⟩
  rw [hN] at hol h2 hlen ⊢
  rw [hN] at HT
  clear hN
  have HOC := Lib.hid hoc
  have HL := Lib.hid hol
  have hB0 : B ≤ w.heap.size := hB
  clear hoc
  go_enter Tryz.func39, Tryz.ntmps39
  go_wp2_with fail
  refine HT.out.mono ?_
  rintro e w1 ⟨u, rfl, ⟨us, ho, hn, hr⟩, hB1⟩
  have hnN : us.length = N := by rw [hn]; exact hol
  obtain ⟨g, cap2, rfl, hg1, hg2⟩ := World.ownsRow.form ho (by omega)
  have hcp : us.length ≤ cap2 := by
    rcases ho.2 with ⟨h1, _⟩ | ⟨g3, cap3, cur, e2, _, _, hnc, _⟩
    · cases h1
    · injection e2 with _ _ e3
      omega
  have HR0 : Hid (w1.ownsRow w.heap.size 50 1 (.slice (some ⟨g, 0, none⟩) N cap2) N us ∧ us.length = N ∧ ∀ (j : Nat) (u : Value), us[j]? = some u → manyR.R (fun b => b < w1.heap.size ∧ b ≠ g) w1 u (os[j]?.getD [])) := ⟨by rw [← hnN]; exact ho, hnN, fun j u hu => manyR.imp (hr j u hu) fun b hb => ⟨hb.1, by omega⟩⟩
  rw [hnN]
  rw [hnN] at hcp
  clear ho hn hr hnN HT hol
  go_wp2
  go_loopw [10] (fun i wr => ∃ (k : Nat) (us : List Value), k ≤ N ∧ i = .int .i64 k ∧ Hid (wr.ownsRow w.heap.size 50 1 (.slice (some ⟨g, 0, none⟩) N cap2) N us ∧ us.length = N ∧ ∀ (j : Nat) (u : Value), us[j]? = some u → manyR.R (fun b => b < wr.heap.size ∧ b ≠ g) wr u (os[j]?.getD [])) ∧ Below w.heap.size w wr) (fun i _ => N - (intOf i).toNat)
  case atStart => exact ⟨0, us, by omega, rfl, HR0, hB1⟩
  case round =>
    clear HR0
    obtain ⟨k, us, hk, rfl, HR, hBr⟩ := hrel
    by_cases hlt : k < N
    · have hdec : decide ((k : Int) < (N : Int)) = true := by simp; omega
      have huk : us[k]? = some (us[k]?.getD undef) := by rw [List.getElem?_eq_getElem (by rw [HR.out.2.1]; exact hlt)]; rfl
      have hm := HR.out.2.2 k _ huk
      have cv : wr.cell? ⟨g, k, none⟩ = some (us[k]?.getD undef) := by rw [World.ownsRow.cellAt HR.out.1 k (by omega)]; exact huk
      generalize us[k]?.getD undef = x at *
      have hcall := Lib.hid (copied_any x (os[k]?.getD []) wr (manyR_iff.1 (manyR.imp hm fun b hb => hb.1)) (HOC.out k 0).1 (fun j => (HOC.out k j).2))
      have hgl : g < wr.heap.size := (World.ownsRow.lt HR.out.1 g rfl).2
      obtain ⟨xA, xc, rfl, _⟩ := id hm
      have i1 : (0 : Int) ≤ (k : Int) := by omega
      have i2 : (k : Int) < (N : Int) := by omega
      clear hm huk
      go_wp2_with fail
      refine hcall.out.mono ?_
      rintro e w4 ⟨u, rfl, hu, hB4⟩
      have ho4 := World.ownsRow.kept HR.out.1 (row := none) (grown_below hB4) (by simp [Value.ownBlock])
      have c4 : w4.cell? ⟨g, k, none⟩ = some (us[k]?.getD undef) := by rw [World.ownsRow.cellAt ho4 k (by omega), List.getElem?_eq_getElem (by rw [HR.out.2.1]; exact hlt)]; rfl
      have f4 := World.ownsRow.frozenAt ho4 k
      have hs := World.ownsRow.stored ho4 k u
      have hs4 := hB4.size
      have HST : Hid (∀ V, V = w4.setCell ⟨g, k, none⟩ u → Hid (V.ownsRow w.heap.size 50 1 (.slice (some ⟨g, 0, none⟩) N cap2) N (us.set k u) ∧ (us.set k u).length = N ∧ ∀ (j : Nat) (u1 : Value), (us.set k u)[j]? = some u1 → manyR.R (fun b => b < V.heap.size ∧ b ≠ g) V u1 (os[j]?.getD [])) ∧ Below w.heap.size w V) := fun V hV => by
        have hVs : V.heap.size = w4.heap.size := by rw [hV]; simp
        have hKe : Keeps (fun b => b ≠ g) w4 V := fun b hb => by rw [hV]; exact Below.heap_setCell w4 _ _ b (by simpa using hb)
        refine ⟨⟨by rw [hV]; exact hs.1, by rw [List.length_set]; exact HR.out.2.1, fun j u1 hj => ?_⟩, by rw [hV]; exact (below_in hBr hB4).setCell hg1 _⟩
        by_cases hjk : k = j
        · subst hjk
          rw [List.getElem?_set_self (by rw [HR.out.2.1]; exact hlt)] at hj
          injection hj with hj
          subst hj
          exact manyR.imp (manyR.keep hu (fun b hb => hKe b (by omega))) (fun b hb => ⟨by rw [hVs]; exact hb.2, by omega⟩)
        · rw [List.getElem?_set_ne hjk] at hj
          exact manyR.imp (manyR.keep (Rep.below manyR (HR.out.2.2 j u1 hj) (fun b hb => hb.1) hB4) (fun b hb => hKe b hb.2)) (fun b hb => ⟨by rw [hVs]; omega, hb.2⟩)
      obtain ⟨Au, capu, rfl, _⟩ := id hu
      generalize us[k]?.getD undef = o0 at c4
      clear hu hcall hB4 hs ho4
      go_wp2
      go_roundw
      case rel => exact ⟨k + 1, _, hlt, by go_num, (HST.out _ rfl).1, (HST.out _ rfl).2⟩
      case measure => simp [intOf]; omega
    · obtain rfl : k = N := by omega
      have hdec : decide ((k : Int) < (k : Int)) = false := by simp
      go_wp2
      go_ret
      obtain ⟨h1, h3, h4⟩ := HR.out
      refine ⟨_, rfl, ⟨some ⟨g, 0, none⟩, cap2, by rw [HL.out]; rfl, by rw [HL.out]; exact hcp, fun h0 => ⟨g, 0, rfl, (World.ownsRow.lt h1 g rfl).2, fun j hj => ?_⟩⟩, hBr⟩
      have hj2 : j < us.length := by rw [h3, ← HL.out]; exact hj
      refine ⟨us[j], by rw [Nat.zero_add, World.ownsRow.cellAt h1 j (by omega), List.getElem?_eq_getElem hj2], manyR_iff.1 (manyR.imp (h4 j _ (List.getElem?_eq_getElem hj2)) fun b hb => hb.1)⟩
end Go.Proofs.YtcgnhfiadeceiaaGreatDoor.T

namespace Go.Proofs.YtcgnhfiadeceiaaGreatDoor.T
open Go.RowKit Go.Shelf
set_option linter.unusedVariables false
set_option linter.unusedSimpArgs false

/-- I abides whatever happens from block B on, but in the body's row. -/
def FarO {β : Type} (B : Nat) (I : β → (Nat → Prop) → World → Prop) : Prop :=
  ∀ s o X Y row, I s o X → X.grownBy Y row → (∀ r, row = some r → B ≤ r ∧ ¬ o r) → I s o Y
/-- What lay from B on lies as it lay, but for the body's row. -/
def SinceO (B : Nat) (o : (Nat → Prop)) (X Y : World) : Prop := X.heap.size ≤ Y.heap.size ∧ ∀ b, B ≤ b → b < X.heap.size → ¬ o b → Y.heap[b]? = X.heap[b]?
/-- The body's row is a block of cells. -/
def RowO (o : (Nat → Prop)) (X : World) : Prop := ∀ b, o b → ∃ cs t fr, X.heap[b]? = some (.cells cs t fr)
theorem RowO.lt {o : (Nat → Prop)} {X : World} (h : RowO o X) : ∀ b, o b → b < X.heap.size := fun b e => by
  obtain ⟨_, _, _, hc⟩ := h b e
  exact (Array.getElem?_eq_some_iff.1 hc).1
theorem RowO.ne {o : (Nat → Prop)} {X : World} (h : RowO o X) {D : Nat} {ds : Option (List Deferred)} (hD : X.heap[D]? = some (.deferred ds)) : ¬ o D := fun e => by
  obtain ⟨_, _, _, hc⟩ := h D e
  rw [hD] at hc
  cases hc
theorem rowO_none (X : World) : RowO (fun _ => False) X := fun b e => e.elim
/-- The body's row is what it was, or new. -/
def FreshO (o o' : (Nat → Prop)) (X : World) : Prop := ∀ b, o' b → o b ∨ X.heap.size ≤ b
theorem FreshO.refl (o : Nat → Prop) (X : World) : FreshO o o X := fun _ h => .inl h

section
variable {β : Type} {B k : Nat} {I I' : β → (Nat → Prop) → World → Prop} {X Y Z : World} {o o' o'' : (Nat → Prop)}
theorem FarO.and (h : FarO B I) (h' : FarO B I') : FarO B (fun s o W => I s o W ∧ I' s o W) := fun s o X Y row hs hg hr => ⟨h s o X Y row hs.1 hg hr, h' s o X Y row hs.2 hg hr⟩
theorem FarO.less {B' : Nat} (h : FarO B I) (hB : B ≤ B') : FarO B' I := fun s o X Y row hs hg hr => h s o X Y row hs hg fun r e => ⟨by have := (hr r e).1; omega, (hr r e).2⟩
theorem farO_pure (B : Nat) (p : β → (Nat → Prop) → Prop) : FarO B (fun s o (_ : World) => p s o) := fun _ _ _ _ _ hs _ _ => hs
theorem farO_blk {g : Nat} (hg : g < B) (t : TypeId) (f : β → Array Value) : FarO B (fun s (_ : (Nat → Prop)) W => Blk W g t (f s)) := fun _ _ _ _ _ hs hgr hr =>
  hs.grown hgr fun e => by have := (hr g e.symm).1; omega
theorem farO_below {n₀ : Nat} {w : World} (hn : n₀ ≤ w.heap.size) (hB : n₀ ≤ B) : FarO B (fun (_ : β) (_ : (Nat → Prop)) W => Below n₀ w W) := fun _ _ _ _ _ hs hgr hr =>
  hs.grown hgr (Nat.le_trans hn hs.size) fun r e => by have := (hr r e).1; omega
theorem FarO.put (h : FarO B I) {s : β} {l : Nat} (hs : I s o X) (h1 : B ≤ l) (h2 : ¬ o l) (ob : Obj) : I s o (X.putObj l ob) :=
  h s o X _ (some l) hs (grownBy_putObj' X l ob) fun r e => by injection e with e; subst e; exact ⟨h1, h2⟩
theorem FarO.lay (h : FarO B I) {s : β} (hs : I s o X) (ob : Obj) : I s o (X.alloc ob) := h s o X _ none hs (World.grownBy_alloc X ob none) fun r e => by cases e
theorem FarO.below (h : FarO B I) {s : β} (hs : I s o X) (hb : Below X.heap.size X Y) : I s o Y := h s o X Y none hs (grown_below hb) fun r e => by cases e
theorem SinceO.refl (B : Nat) (o : (Nat → Prop)) (X : World) : SinceO B o X X := ⟨Nat.le_refl _, fun _ _ _ _ => rfl⟩
theorem SinceO.below (hb : Below X.heap.size X Y) : SinceO B o X Y := ⟨hb.size, fun b _ h2 _ => hb.block b h2⟩
theorem SinceO.less {B' : Nat} (h : SinceO B o X Y) (hB : B ≤ B') : SinceO B' o X Y := ⟨h.1, fun b h1 h2 => h.2 b (by omega) h2⟩
theorem SinceO.trans (h : SinceO B o X Y) (hf : FreshO o o' X) (h' : SinceO B o' Y Z) : SinceO B o X Z := ⟨Nat.le_trans h.1 h'.1, fun b h1 h2 h3 => (h'.2 b h1 (by have := h.1; omega) (fun e => (hf b e).elim h3 (fun e => by omega))).trans (h.2 b h1 h2 h3)⟩
theorem SinceO.trans_ (h : SinceO B o X Y) (h' : SinceO B o Y Z) : SinceO B o X Z := h.trans (FreshO.refl _ _) h'
theorem FreshO.trans (h : FreshO o o' X) (hs : X.heap.size ≤ Y.heap.size) (h' : FreshO o' o'' Y) : FreshO o o'' X := fun b e => (h' b e).elim (fun e => h b e) fun e => .inr (by omega)
theorem FreshO.later (h : FreshO o o' Y) (hs : X.heap.size ≤ Y.heap.size) : FreshO o o' X := fun b e => (h b e).imp id fun e => by omega
theorem FreshO.ne (h : FreshO o o' X) {b : Nat} (hb : b < X.heap.size) (hne : ¬ o b) : ¬ o' b := fun e => (h b e).elim hne fun e => by omega
theorem SinceO.blk {g : Nat} {t : TypeId} {cs : Array Value} (h : SinceO B o X Y) (hb : Blk X g t cs) (hg : B ≤ g) (hne : ¬ o g) : Blk Y g t cs := (h.2 g hg hb.lt hne).trans hb
theorem SinceO.keep {B' k : Nat} (h : SinceO B o X Y) (hB : B ≤ B') (hk : B' + k ≤ X.heap.size) (ho : ∀ b, o b → b < B' ∨ B' + k ≤ b) : Keep B' k X Y :=
  ⟨h.1, fun b h1 h2 => h.2 b (by omega) (by omega) (fun e => by have := ho b e; omega)⟩
end

def SeqT {α : Type} (F : Fence) (n : Nat) (P : Program) (gf : Nat) (lb : Array Value) (encs : α → Array Value) (Ok : List α → α → World → Prop) (Kp : World → World → Prop) (S Sp : List α → Prop) (N : Nat) (w : World) : Prop :=
  ∀ (l : Nat) (J Jx : List α → (Nat → Prop) → World → Prop) (W : World) (o₀ : (Nat → Prop)), Below w.heap.size w W → (∀ b, o₀ b → b < W.heap.size) → FarO W.heap.size J → FarO W.heap.size Jx → (∀ s o X, J s o X → RowO o X) → (∀ s o X, Jx s o X → RowO o X) →
    (∀ pre x o W1, J pre o W1 → Ok pre x W1 → pre.length < N → W.heap.size ≤ W1.heap.size → YieldAt F (n - 1) P l (encs x) W1 fun e W' => ∃ o', FreshO o o' W1 ∧ SinceO W.heap.size o W1 W' ∧
      ((e = .returned (.bool true) ∧ J (pre ++ [x]) o' W' ∧ Kp W1 W') ∨ (e = .returned (.bool false) ∧ Jx (pre ++ [x]) o' W' ∧ Kp W1 W'))) →
    J [] o₀ W →
    CallsIn F n P gf (#[.func (.yield l) #[] #[]] ++ lb) W fun e W' => (∃ v, e = .returned v) ∧ ∃ o', FreshO o₀ o' W ∧ ((∃ xs, S xs ∧ J xs o' W') ∨ (∃ pre, Sp pre ∧ Jx pre o' W'))

def postT {α : Type} (B : Nat) (Kp : World → World → Prop) (I : List α → (Nat → Prop) → World → Prop) (Ix : Code → List α → (Nat → Prop) → World → Prop) (xs : List α) (o : (Nat → Prop)) (W : World) : Exit → Act → World → Prop
  | .normal, _, W' => ∃ o', FreshO o o' W ∧ SinceO B o W W' ∧ Kp W W' ∧ I xs o' W'
  | .ret, _, W' => ∃ o', FreshO o o' W ∧ SinceO B o W W' ∧ Kp W W' ∧ Ix .ret xs o' W'
  | .exit id, _, W' => ∃ o', FreshO o o' W ∧ SinceO B o W W' ∧ Kp W W' ∧ Ix (.exit id) xs o' W'
  | .goto t, _, W' => ∃ o', FreshO o o' W ∧ SinceO B o W W' ∧ Kp W W' ∧ Ix (.goto t) xs o' W'
  | .panic _, _, _ => False
  | .outgrown, _, _ => False
/-- The loop's two blocks lie so, and are not the body's row. -/
def HeldO (rec : LoopState → Option Code → Loop) (D : Nat) (st : LoopState) (pe : Option Code) (o : (Nat → Prop)) (X : World) : Prop := Held rec D st pe X ∧ ¬ o D ∧ ¬ o (D + 1)
theorem _root_.Go.Proofs.YtcgnhfiadeceiaaGreatDoor.Held.lt0T {rec : LoopState → Option Code → Loop} {D : Nat} {st : LoopState} {pe : Option Code} {X : World} (h : Held rec D st pe X) : D < X.heap.size := by have := h.lt; omega
theorem HeldO.since {rec : LoopState → Option Code → Loop} {D B : Nat} {st : LoopState} {pe : Option Code} {X Y : World} {o o' : (Nat → Prop)} (h : HeldO rec D st pe o X) (hk : SinceO B o X Y) (hf : FreshO o o' X) (h1 : B ≤ D) : HeldO rec D st pe o' Y :=
  ⟨⟨(hk.2 _ (by omega) h.1.lt h.2.2).trans h.1.1, (hk.2 _ h1 h.1.lt0T h.2.1).trans h.1.2⟩, hf.ne h.1.lt0T h.2.1, hf.ne h.1.lt h.2.2⟩
theorem held_farO (rec : LoopState → Option Code → Loop) (D : Nat) (st : LoopState) (pe : Option Code) {β : Type} : FarO (D + 2) (fun (_ : β) o W => HeldO rec D st pe o W) := fun _ o X Y _ hs hg hr =>
  ⟨⟨(hg.block _ hs.1.lt (fun e => by have := (hr _ e.symm).1; omega)).trans hs.1.1, (hg.block D hs.1.lt0T (fun e => by have := (hr _ e.symm).1; omega)).trans hs.1.2⟩, hs.2⟩
theorem HeldO.turn {rec : LoopState → Option Code → Loop} {D : Nat} {st : LoopState} {pe : Option Code} {o : (Nat → Prop)} {X : World} (h : HeldO rec D st pe o X) (st' : LoopState) (pe' : Option Code) : HeldO rec D st' pe' o (X.putObj (D + 1) (.loop (rec st' pe'))) := ⟨h.1.turn st' pe', h.2⟩

theorem wpIn_rangeT {α : Type} {F : Fence} {n : Nat} {P : Program} {g : Operand} {ps : Array Tmp} {assign body : Code} {Q : Exit → Act → World → Prop} {a : Act} {w : World}
    (hro : F.round = none) (h1 : 1 ≤ n) {gf : Nat} {lb : Array Value} (hg : a.eval g = .func (.func gf) #[] lb) (hFg : F.fn gf) (eg : ∀ args w, (callFunc gf args).run P w = .ok (.enter gf args) w)
    {encs : α → Array Value} {Ok : List α → α → World → Prop} {Kp : World → World → Prop} {S Sp : List α → Prop} {N : Nat} {w0 : World} (hseq : SeqT F (n - 1) P gf lb encs Ok Kp S Sp N w0)
    (hKt : ∀ {A B C : World}, Kp A B → Kp B C → Kp A C) (hKb : ∀ (W : World) (l : Nat) (ob : Obj), w.heap.size ≤ l → l < W.heap.size → (∃ r, W.heap[l]? = some (.loop r)) → Kp W (W.putObj l ob)) (hb0 : Below w0.heap.size w0 w) (hps : ∀ x, (encs x).size = ps.size)
    (I : List α → (Nat → Prop) → World → Prop) (Ix : Code → List α → (Nat → Prop) → World → Prop) (hI : FarO w.heap.size I) (hIx : ∀ c, FarO w.heap.size (Ix c)) (o₀ : (Nat → Prop)) (ho₀ : ∀ b, o₀ b → b < w.heap.size) (h0 : I [] o₀ w)
    (Ax : List α → α → (Nat → Prop) → Act → World → Prop) (hAx : ∀ (pre : List α) (x : α) (o : (Nat → Prop)) (a' : Act) (W : World) (l : Nat) (ob : Obj) (r : Loop), W.heap[l]? = some (.loop r) → w.heap.size ≤ l → ¬ o l → Ax pre x o a' W → Ax pre x o a' (W.putObj l ob))
    (hassign : ∀ (l : Nat) (pre : List α) (x : α) (o : (Nat → Prop)) (W : World) (K : Act → World → Prop), w.heap.size ≤ W.heap.size → (∀ b, o b → b < W.heap.size) → I pre o W → Ok pre x W → (∀ a' W', SinceO w.heap.size o W W' → Kp W W' → I pre o W' → Ax pre x o a' W' → K a' W') →
      assign.wpIn (F.inRound l) (n - 1 - 1) P (Exit.then K (fun _ _ _ => False)) { tmps := (ps.zip (encs x)).foldl (fun t (p, v) => t.setIfInBounds p v) a.tmps, defers := [] } W)
    (hrow : ∀ pre o W, I pre o W → RowO o W) (hrowx : ∀ c pre o W, Ix c pre o W → RowO o W)
    (hbody : ∀ (l : Nat) (pre : List α) (x : α) (o : (Nat → Prop)) (a' : Act) (W : World), w.heap.size ≤ W.heap.size → I pre o W → Ax pre x o a' W → pre.length < N →
      body.wpIn (F.inRound l) (n - 1 - 1) P (postT w.heap.size Kp I Ix (pre ++ [x]) o W) a' W)
    (hdone : ∀ (D : Nat) (xs : List α) (o : (Nat → Prop)) (W : World), w.heap.size ≤ D → FreshO o₀ o w → S xs → I xs o W → W.heap[D]? = some (.deferred (some [])) → ¬ o D → Q .normal { a with defers := { target := .collected D, args := #[] } :: a.defers } W)
    (hstop : ∀ (D : Nat) (c : Code) (pre : List α) (o : (Nat → Prop)) (W : World), w.heap.size ≤ D → FreshO o₀ o w → Sp pre → Ix c pre o W → W.heap[D]? = some (.deferred (some [])) → ¬ o D → c.wpIn F n P Q { a with defers := { target := .collected D, args := #[] } :: a.defers } W) :
    (Code.rangeFunc g ps assign body).wpIn F n P Q a w := by
  refine wpIn_rangeFunc fun fn hfn => ?_
  rw [hro]
  obtain ⟨rec, hrec⟩ : ∃ rec : LoopState → Option Code → Loop, rec = fun st pe => { state := st, pending := pe, fn, tmps := a.tmps, params := ps, assign, body, defers := w.heap.size } := ⟨_, rfl⟩
  obtain ⟨W1, hW1⟩ : ∃ W1, (w.alloc (.deferred (some []))).alloc (.loop (rec .ready none)) = W1 := ⟨_, rfl⟩
  have s1 : W1.heap.size = w.heap.size + 2 := by rw [← hW1]; simp
  have n0 : ¬ o₀ w.heap.size := fun e => by have := ho₀ _ e; omega
  have n1 : ¬ o₀ (w.heap.size + 1) := fun e => by have := ho₀ _ e; omega
  have H1 : HeldO rec w.heap.size .ready none o₀ W1 := by
    rw [← hW1]
    refine ⟨⟨?_, (Below.heap_alloc _ _ _ (by simp)).trans (World.alloc_heap_new w _)⟩, n0, n1⟩
    have := World.alloc_heap_new (w.alloc (.deferred (some []))) (.loop (rec .ready none))
    rwa [World.size_alloc] at this
  have I1 : I [] o₀ W1 := by rw [← hW1]; exact hI.lay (hI.lay h0 _) _
  have B1 : Below w0.heap.size w0 W1 := by
    rw [← hW1]; exact hb0.trans ((((Below.refl _ w).alloc (Nat.le_refl _) _).alloc (by simp) _).mono hb0.size)
  refine ⟨w.heap.size + 1, [{ target := .collected w.heap.size, args := #[] }], W1, { target := .fn (.func gf) lb, args := #[.func (.yield (w.heap.size + 1)) #[] #[]] }, W1, gf,
    #[.func (.yield (w.heap.size + 1)) #[] #[]] ++ lb, W1, ?_, ?_, ?_, ?_, fun _ => h1, ?_⟩
  · rw [← hW1, hrec]; exact run_enterLoop_outer _ _ _ _ _
  · simp only [resolve, hg]
    simp [go_sem]
  · intro f' hf'
    simp [Target.leads] at hf'
    exact hf' ▸ hFg
  · simp [invoke, go_sem, eg]
  have hI' : FarO W1.heap.size I := hI.less (by omega)
  have hH := fun st pe => (s1 ▸ held_farO rec w.heap.size st pe (β := List α) : FarO W1.heap.size _)
  refine (hseq (w.heap.size + 1) (fun pre o W => I pre o W ∧ HeldO rec w.heap.size .ready none o W) (fun pre o W => ∃ c, Ix c pre o W ∧ HeldO rec w.heap.size .done (some c) o W) W1 o₀ B1 (fun b e => by have := ho₀ b e; omega) (hI'.and (hH _ _))
    (fun s o X Y row hs hgr hr => by
      obtain ⟨c, hc, hh⟩ := hs
      exact ⟨c, (hIx c).less (by omega) s o X Y row hc hgr hr, hH _ _ s o X Y row hh hgr hr⟩) (fun s o X h => hrow _ _ _ h.1) (fun s o X h => h.elim fun c h => hrowx _ _ _ _ h.1) ?_ ⟨I1, H1⟩).mono ?_
  · rintro pre x o W ⟨hi, hh⟩ hok hlen hsz
    rw [s1] at hsz
    have hy := run_yield (P := P) (args := encs x) hh.1.1 (by rw [hrec]; exact hps x)
    rw [hrec] at hy
    refine ⟨fn, _, assign, body, hy, roundIn_of_wpIn hfn (hassign _ pre x o W _ (by omega) (RowO.lt (hrow _ _ _ hi)) hi hok ?_)⟩
    intro a' Wa hka hpa hia hax
    have ha := hh.since hka (FreshO.refl _ _) (Nat.le_refl _)
    have hb := ha.turn .busy none
    have hbegin := run_beginRound (P := P) ha.1.1 (by rw [hrec])
    have ebusy : ({ rec .ready none with state := .busy } : Loop) = rec .busy none := by rw [hrec]
    rw [ebusy] at hbegin
    refine ⟨_, hbegin, ?_⟩
    have hsa := hka.1
    have hsb : (Wa.putObj (w.heap.size + 1) (.loop (rec .busy none))).heap.size = Wa.heap.size := by simp [World.putObj]
    refine wpIn_mono (hbody _ pre x o a' _ (by rw [hsb]; omega) (hI.put hia (by omega) ha.2.2 _) (hAx _ _ _ _ _ _ _ _ ha.1.1 (by omega) ha.2.2 hax) hlen) ?_
    have fin : ∀ (jump : Option Code) (o' : (Nat → Prop)) (W3 : World), FreshO o o' (Wa.putObj (w.heap.size + 1) (.loop (rec .busy none))) → SinceO w.heap.size o (Wa.putObj (w.heap.size + 1) (.loop (rec .busy none))) W3 →
        (Instr.endRound (w.heap.size + 1) jump).run P W3 = .ok (.bool jump.isNone) (W3.putObj (w.heap.size + 1) (.loop (rec (if jump.isNone then .ready else .done) jump))) ∧
        HeldO rec w.heap.size (if jump.isNone then .ready else .done) jump o' (W3.putObj (w.heap.size + 1) (.loop (rec (if jump.isNone then .ready else .done) jump))) ∧ HeldO rec w.heap.size .busy none o' W3 := fun jump o' W3 hf hk3 => by
      have h3 := hb.since hk3 hf (Nat.le_refl _)
      have he := run_endRound (P := P) jump h3.1.1
      have e2 : ({ rec .busy none with state := if jump.isNone then .ready else .done, pending := jump } : Loop) = rec (if jump.isNone then .ready else .done) jump := by rw [hrec]
      rw [e2] at he
      exact ⟨he, h3.turn _ _, h3⟩
    have putFar : ∀ (o : (Nat → Prop)) (V : World) (ob : Obj), SinceO W1.heap.size o V (V.putObj (w.heap.size + 1) ob) := fun o V ob => ⟨by simp [World.putObj], fun b h2 _ _ => World.putObj_heap_other (by omega)⟩
    have keepAll : ∀ (ob : Obj) (o' : (Nat → Prop)) (W3 : World), SinceO w.heap.size o (Wa.putObj (w.heap.size + 1) (.loop (rec .busy none))) W3 → SinceO W1.heap.size o W (W3.putObj (w.heap.size + 1) ob) := fun ob o' W3 hk3 =>
      (((hka.less (by omega)).trans_ (putFar o Wa _)).trans_ (hk3.less (by omega))).trans_ (putFar o W3 _)
    intro e a3 W3 hp
    cases e with
    | normal =>
      obtain ⟨o', hf3, hk3, hp3, hi3⟩ := hp
      obtain ⟨he, h4, h5⟩ := fin none o' W3 hf3 hk3
      exact ⟨_, _, he, o', hf3.later (by rw [hsb]; exact hsa), keepAll _ o' _ hk3, .inl ⟨rfl, ⟨hI.put hi3 (by omega) h5.2.2 _, h4⟩, hKt hpa (hKt (hKb _ _ _ (by omega) ha.1.lt ⟨_, ha.1.1⟩) (hKt hp3 (hKb _ _ _ (by omega) h5.1.lt ⟨_, h5.1.1⟩)))⟩⟩
    | ret =>
      obtain ⟨o', hf3, hk3, hp3, hi3⟩ := hp
      obtain ⟨he, h4, h5⟩ := fin (some .ret) o' W3 hf3 hk3
      exact ⟨_, _, he, o', hf3.later (by rw [hsb]; exact hsa), keepAll _ o' _ hk3, .inr ⟨rfl, ⟨.ret, (hIx _).put hi3 (by omega) h5.2.2 _, h4⟩, hKt hpa (hKt (hKb _ _ _ (by omega) ha.1.lt ⟨_, ha.1.1⟩) (hKt hp3 (hKb _ _ _ (by omega) h5.1.lt ⟨_, h5.1.1⟩)))⟩⟩
    | exit id =>
      obtain ⟨o', hf3, hk3, hp3, hi3⟩ := hp
      obtain ⟨he, h4, h5⟩ := fin (some (.exit id)) o' W3 hf3 hk3
      exact ⟨_, _, he, o', hf3.later (by rw [hsb]; exact hsa), keepAll _ o' _ hk3, .inr ⟨rfl, ⟨.exit id, (hIx _).put hi3 (by omega) h5.2.2 _, h4⟩, hKt hpa (hKt (hKb _ _ _ (by omega) ha.1.lt ⟨_, ha.1.1⟩) (hKt hp3 (hKb _ _ _ (by omega) h5.1.lt ⟨_, h5.1.1⟩)))⟩⟩
    | goto t =>
      obtain ⟨o', hf3, hk3, hp3, hi3⟩ := hp
      obtain ⟨he, h4, h5⟩ := fin (some (.goto t)) o' W3 hf3 hk3
      exact ⟨_, _, he, o', hf3.later (by rw [hsb]; exact hsa), keepAll _ o' _ hk3, .inr ⟨rfl, ⟨.goto t, (hIx _).put hi3 (by omega) h5.2.2 _, h4⟩, hKt hpa (hKt (hKb _ _ _ (by omega) ha.1.lt ⟨_, ha.1.1⟩) (hKt hp3 (hKb _ _ _ (by omega) h5.1.lt ⟨_, h5.1.1⟩)))⟩⟩
    | panic ch => exact hp.elim
    | outgrown => exact hp.elim
  · rintro e W2 ⟨⟨v, rfl⟩, o', hfo, (⟨xs, hS, hi, hh⟩ | ⟨pre, hSp, c, hc, hh⟩)⟩
    · have he := run_endLoop (P := P) hh.1.1 (by rw [hrec]; simp)
      rw [show (rec .ready none).pending = none by rw [hrec]] at he
      exact ⟨none, _, he, hdone _ xs o' _ (Nat.le_refl _) (hfo.later (by omega)) hS (hI.put hi (by omega) hh.2.2 _) ((World.putObj_heap_other (by omega)).trans hh.1.2) hh.2.1⟩
    · have he := run_endLoop (P := P) hh.1.1 (by rw [hrec]; simp)
      rw [show (rec .done (some c)).pending = some c by rw [hrec]] at he
      exact ⟨some c, _, he, hstop _ c pre o' _ (Nat.le_refl _) (hfo.later (by omega)) hSp ((hIx c).put hc (by omega) hh.2.2 _) ((World.putObj_heap_other (by omega)).trans hh.1.2) hh.2.1⟩

/-- The same, where the variable lies in a block of its own, anew each round. -/
theorem wpIn_rangeBoxT {α : Type} {F : Fence} {n : Nat} {P : Program} {g : Operand} {ps : Array Tmp} {assign body : Code} {Q : Exit → Act → World → Prop} {a : Act} {w : World}
    (hro : F.round = none) (h1 : 1 ≤ n) {gf : Nat} {lb : Array Value} (hg : a.eval g = .func (.func gf) #[] lb) (hFg : F.fn gf) (eg : ∀ args w, (callFunc gf args).run P w = .ok (.enter gf args) w)
    {encs : α → Array Value} {Ok : List α → α → World → Prop} {Kp : World → World → Prop} {S Sp : List α → Prop} {N : Nat} {w0 : World} (hseq : SeqT F (n - 1) P gf lb encs Ok Kp S Sp N w0)
    (hKt : ∀ {A B C : World}, Kp A B → Kp B C → Kp A C) (hKb : ∀ (W : World) (l : Nat) (ob : Obj), w.heap.size ≤ l → l < W.heap.size → (∃ r, W.heap[l]? = some (.loop r)) → Kp W (W.putObj l ob)) (hb0 : Below w0.heap.size w0 w) (hps : ∀ x, (encs x).size = ps.size)
    (I : List α → (Nat → Prop) → World → Prop) (Ix : Code → List α → (Nat → Prop) → World → Prop) (hI : FarO w.heap.size I) (hIx : ∀ c, FarO w.heap.size (Ix c)) (o₀ : (Nat → Prop)) (ho₀ : ∀ b, o₀ b → b < w.heap.size) (h0 : I [] o₀ w)
    (Pr : α → Prop) (hPr : ∀ pre x W, Ok pre x W → Pr x) (t : TypeId) (cs : α → Array Value) (a₁ : α → Nat → Act)
    (hassign : ∀ (l : Nat) (pre : List α) (x : α) (o : (Nat → Prop)) (W : World) (K : Act → World → Prop), w.heap.size ≤ W.heap.size → (∀ b, o b → b < W.heap.size) → I pre o W → Ok pre x W → (∀ Bx W', SinceO w.heap.size o W W' → Kp W W' → I pre o W' → Blk W' Bx t (cs x) → ¬ o Bx → w.heap.size ≤ Bx → K (a₁ x Bx) W') →
      assign.wpIn (F.inRound l) (n - 1 - 1) P (Exit.then K (fun _ _ _ => False)) { tmps := (ps.zip (encs x)).foldl (fun t (p, v) => t.setIfInBounds p v) a.tmps, defers := [] } W)
    (hrow : ∀ pre o W, I pre o W → RowO o W) (hrowx : ∀ c pre o W, Ix c pre o W → RowO o W)
    (hbody : ∀ (l : Nat) (pre : List α) (x : α) (o : (Nat → Prop)) (Bx : Nat) (W : World), w.heap.size ≤ W.heap.size → I pre o W → Blk W Bx t (cs x) → ¬ o Bx → w.heap.size ≤ Bx → Pr x → pre.length < N →
      body.wpIn (F.inRound l) (n - 1 - 1) P (postT w.heap.size Kp I Ix (pre ++ [x]) o W) (a₁ x Bx) W)
    (hdone : ∀ (D : Nat) (xs : List α) (o : (Nat → Prop)) (W : World), w.heap.size ≤ D → FreshO o₀ o w → S xs → I xs o W → W.heap[D]? = some (.deferred (some [])) → ¬ o D → Q .normal { a with defers := { target := .collected D, args := #[] } :: a.defers } W)
    (hstop : ∀ (D : Nat) (c : Code) (pre : List α) (o : (Nat → Prop)) (W : World), w.heap.size ≤ D → FreshO o₀ o w → Sp pre → Ix c pre o W → W.heap[D]? = some (.deferred (some [])) → ¬ o D → c.wpIn F n P Q { a with defers := { target := .collected D, args := #[] } :: a.defers } W) :
    (Code.rangeFunc g ps assign body).wpIn F n P Q a w :=
  wpIn_rangeT hro h1 hg hFg eg hseq hKt hKb hb0 hps I Ix hI hIx o₀ ho₀ h0 (fun _ x o a' W => ∃ Bx, Blk W Bx t (cs x) ∧ ¬ o Bx ∧ w.heap.size ≤ Bx ∧ Pr x ∧ a' = a₁ x Bx)
    (fun _ x o a' W l ob r hl _ _ ⟨Bx, hb, hne, hle, hp, e⟩ => ⟨Bx, (World.putObj_heap_other (fun e2 => by unfold Blk at hb; rw [e2, hl] at hb; cases hb)).trans hb, hne, hle, hp, e⟩)
    (fun l pre x o W K hs hol hi hok hK => hassign l pre x o W K hs hol hi hok fun Bx W' h2 h3 h4 h5 h6 h7 => hK _ _ h2 h3 h4 ⟨Bx, h5, h6, h7, hPr _ _ _ hok, rfl⟩) hrow hrowx
    (fun l pre x o a' W hs hi ⟨Bx, hb, hne, hle, hp, e⟩ hlt => by subst e; exact hbody l pre x o Bx W hs hi hb hne hle hp hlt) hdone hstop
end Go.Proofs.YtcgnhfiadeceiaaGreatDoor.T

