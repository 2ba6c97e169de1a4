/- The law RdpChecks answers true for every input and leaves its arguments as they were. -/
import Derived.Test.YtggdlklkjnbbjaaGreatDoorKSA
import Derived.Test.YtggdlklkjnbbjaaGreatDoorCards
import Derived.Test.YtggdlklkjnbbjaaGreatDoorTie
import Derived.SevenTiedAt
import Derived.Test.YtggdlklkjnbbjaaGreatDoorKRG3
namespace Go.Proofs.YtggdlklkjnbbjaaGreatDoor.rdpChecks
open Go.ChangeShapes Go.WideShapes Go.ChangeAt Go.RowKit Go.Shelf
set_option linter.unusedVariables false
set_option linter.unusedSimpArgs false
attribute [local go_sem] Oper.semAt_some

theorem upd {α : Type} : (∀ (l : List α) (i : Nat) (a : α), l.toArray.setIfInBounds i a = (l.set i a).toArray) ∧ (∀ (x : α) (xs : List α) (a : α), (x :: xs).set 0 a = a :: xs) ∧ (∀ (x : α) (xs : List α) (i : Nat) (a : α), (x :: xs).set (i + 1) a = x :: xs.set i a) :=
  ⟨fun _ _ _ => List.setIfInBounds_toArray .., fun _ _ _ => rfl, fun _ _ _ _ => rfl⟩
open Go.Proofs.YtggdlklkjnbbjaaGreatDoor.E Go.Proofs.YtggdlklkjnbbjaaGreatDoor.C Go.Proofs.YtggdlklkjnbbjaaGreatDoor.R in
set_option maxRecDepth 100000 in
set_option maxHeartbeats 4000000 in
theorem n1 (p : Int) (v : Value) (css : List (List (List UInt8))) (many : Int) (w : World) (hL : Laid w) (wp : -9223372036854775808 ≤ p ∧ p ≤ 9223372036854775807) (hC : Cols w.heap.size w v css) (wm : -9223372036854775808 ≤ many ∧ many ≤ 9223372036854775807) (hf0 : ¬ Few6 css) :
    Calls Tryz.prog 7 #[.int .i64 p, v, .int .i64 many] w fun e w' => e = .returned (.bool true) ∧ Below w.heap.size w w' := by
  obtain ⟨A, cap, rfl, _, _⟩ := id hC
  obtain ⟨W2, hW2⟩ : ∃ W2, (w.alloc (.cells #[.int .i64 many] 3)).alloc (.cells #[.bool false] 4) = W2 := ⟨_, rfl⟩
  have bm : Blk W2 w.heap.size 3 #[.int .i64 many] := by rw [← hW2]; exact (Blk.new w _ _).alloc _
  have bb : Blk W2 (w.heap.size + 1) 4 #[.bool false] := by rw [← hW2]; exact Blk.second w _ _ _
  have hB2 : Below w.heap.size w W2 := by rw [← hW2]; exact below_two w _ _
  have s2 : W2.heap.size = w.heap.size + 2 := by rw [← hW2]; simp
  have HS2 := Lib.hid s2
  clear s2
  have HF0 := Lib.hid (fun (U : World) (hU : Below w.heap.size w U) => few6_any (.slice A css.length cap) css U (hC.below hU) false (by simp [hf0]))
  clear hf0 hC
  generalize css.length = na at *
  go_enter Tryz.func7, Tryz.ntmps7
  go_wp2_with fail
  try rw [hW2]
  go_wp2_with (first
    | (go_at_call 10; refine (HF0.out _ hB2).mono ?_; rintro e w' ⟨rfl, rfl⟩)
    | (go_at_call 26; refine (Go.Proofs.YtggdlklkjnbbjaaGreatDoor.R.works_any _ (hL.next hB2)).mono ?_; rintro e wz ⟨rfl, hBz⟩; have bz := bb.below hBz bb.lt; have c1 := bz.one; have f1 := bz.frozen 0; have hb3 := bz.set_ 0 (.bool true); have r0 := hb3.one))
  exact bodyPost_ret (v := .bool true) (by simp [results, Tryz.results7, go_sem, r0]) rfl ⟨rfl, (below_in hB2 hBz).setCell (by simp) _⟩

open Go.Proofs.YtggdlklkjnbbjaaGreatDoor.E Go.Proofs.YtggdlklkjnbbjaaGreatDoor.C Go.Proofs.YtggdlklkjnbbjaaGreatDoor.R in
set_option maxRecDepth 100000 in
set_option maxHeartbeats 4000000 in
theorem n2 (p : Int) (v : Value) (css : List (List (List UInt8))) (many : Int) (w : World) (hL : Laid w) (wp : -9223372036854775808 ≤ p ∧ p ≤ 9223372036854775807) (hC : Cols w.heap.size w v css) (wm : -9223372036854775808 ≤ many ∧ many ≤ 9223372036854775807) (hf0 : Few6 css) (hno : ¬ AllR p css) (hr0 : ¬ RightD p css) :
    Calls Tryz.prog 7 #[.int .i64 p, v, .int .i64 many] w fun e w' => e = .returned (.bool true) ∧ Below w.heap.size w w' := by
  obtain ⟨A, cap, rfl, _, _⟩ := id hC
  obtain ⟨W2, hW2⟩ : ∃ W2, (w.alloc (.cells #[.int .i64 many] 3)).alloc (.cells #[.bool false] 4) = W2 := ⟨_, rfl⟩
  have bm : Blk W2 w.heap.size 3 #[.int .i64 many] := by rw [← hW2]; exact (Blk.new w _ _).alloc _
  have bb : Blk W2 (w.heap.size + 1) 4 #[.bool false] := by rw [← hW2]; exact Blk.second w _ _ _
  have hB2 : Below w.heap.size w W2 := by rw [← hW2]; exact below_two w _ _
  have s2 : W2.heap.size = w.heap.size + 2 := by rw [← hW2]; simp
  have HS2 := Lib.hid s2
  clear s2
  have hlen : css.length ≤ 1000 := by have := hf0.1; omega
  have hcl : ∀ j, j < css.length → (css[j]?.getD []).length ≤ 1000 := fun j hj => by have := (hf0.2 j hj).1; omega
  have HF0 := Lib.hid (fun (U : World) (hU : Below w.heap.size w U) => few6_any (.slice A css.length cap) css U (hC.below hU) true (by simp [hf0]))
  have HCK := Lib.hid (fun (U : World) (hU : Below w.heap.size w U) => check_no (B := w.heap.size) p (.slice A css.length cap) css U (hL.next hU) hU.size (hC.below hU) hlen hcl hno)
  have HLE := Lib.hid (fun (U : World) (hU : Below w.heap.size w U) => left_no (B := w.heap.size) p (.slice A css.length cap) css U (hL.next hU) hU.size (hC.below hU) hlen hcl hno)
  have HRT := Lib.hid (fun (U : World) (hU : Below w.heap.size w U) => right6_any (B := w.heap.size) p (.slice A css.length cap) css U hU.size (hC.below hU) hlen false (by simp [hr0]))
  have HWS := Lib.hid (fun (U : World) (hU : Below w.heap.size w U) => wrongs_no (B := w.heap.size) p (.slice A css.length cap) css U (hL.next hU) hU.size (hC.below hU) hlen hcl hno)
  have HLW := Lib.hid (fun (U : World) (hU : Below w.heap.size w U) => hL.next hU)
  clear hf0 hC hno hr0 hlen hcl
  generalize css.length = na at *
  refine (callsIn_wide (n := 9)).1 ?_
  refine callsIn_of_wp_marks Tryz.func7 rfl trivial ?_ rfl
  simp only [Tryz.ntmps7, List.size_toArray, List.length_cons, List.length_nil, Nat.reduceAdd, Nat.reduceSub, Array.replicate_succ, Array.replicate_zero, List.push_toArray, List.append_toArray, List.nil_append, List.cons_append]
  refine (wpIn_wide (n := 9)).2 ?_
  go_wp2_with fail
  try rw [hW2]
  go_wp2_with (first
    | (go_at_call 10; refine (HF0.out _ hB2).mono ?_; rintro e w' ⟨rfl, rfl⟩)
    | (go_at_call 31; refine (HCK.out _ hB2).mono ?_; rintro e w3 ⟨rfl, hBn⟩; have hB3 := below_in hB2 hBn; have hD3 := hBn)
    | (go_at_call 32; refine (HLE.out _ hB3).mono ?_; rintro e w4 ⟨rfl, hBn⟩; have hB4 := below_in hB3 hBn; have hD4 := below_in hD3 hBn)
    | (go_at_call 15; refine (HRT.out _ hB4).mono ?_; rintro e w5 ⟨rfl, hBn⟩; have hB5 := below_in hB4 hBn; have hD5 := below_in hD4 hBn; have hB6 := below_in hB5 (below_one w5 (.cells #[.slice none 0 0] 49)); have hD6 := below_in hD5 (below_one w5 (.cells #[.slice none 0 0] 49)); have bw6 := Blk.new w5 49 #[.slice none 0 0])
    | (go_at_call 29; refine (Go.Proofs.YtggdlklkjnbbjaaGreatDoor.R.num_any _ _).mono ?_; rintro e w' ⟨rfl, rfl⟩)
    | (go_at_call 35; refine (HWS.out _ hB6).mono ?_; rintro e w7 ⟨gs, us, rfl, hbs, hrs, hBn⟩; have hB7 := below_in hB6 hBn; have hD7 := below_in hD6 hBn; have bw7 := bw6.below hBn bw6.lt))
  obtain ⟨Aw, wn, cw, hsw⟩ : ∃ Aw wn cw, Value.slice none 0 0 = .slice Aw wn cw := ⟨_, _, _, rfl⟩
  obtain ⟨wl, hwl0⟩ : ∃ wl : List (Int × Int), [] = wl := ⟨_, rfl⟩
  have HWN : Hid (wl.length = wn) := by injection hsw with _ h _; rw [← hwl0]; exact h
  have hrw : ReadA w7 (.slice Aw wn cw) wl := by rw [← hsw, ← hwl0]; exact ⟨none, 0, rfl, fun j hj => by cases hj⟩
  have hwl : wn ≤ 500 := by have := HWN.out; rw [← hwl0] at this; simp at this; omega
  rw [hsw] at bw7
  rw [hwl0] at hrs
  clear hsw hwl0
  have FQ : TurnF w w7 many w5.heap.size (.slice Aw wn cw) gs us wl := ⟨bm.below hD7 bm.lt, bb.below hD7 bb.lt, bw7, hrw, hbs, hrs, hB7, by have := hD7.size; have := HS2.out; omega⟩
  clear HF0 HCK HLE HRT HWS bm bb hB2 bw6 bw7 hBn hB3 hB4 hB5 hB6 hB7 hD3 hD4 hD5 hD6 hD7 hrw hbs hrs HS2 hW2
  obtain ⟨V0, hV0⟩ : ∃ V0, w7.alloc (.cells #[.int .i64 0] 3) = V0 := ⟨_, rfl⟩
  rw [hV0]
  have hB70 : Below w7.heap.size w7 V0 := by rw [← hV0]; exact below_one w7 _
  have ct0 : Blk V0 w7.heap.size 3 #[.int .i64 0] := by rw [← hV0]; exact Blk.new _ _ _
  have F0 := FQ.next hB70
  have HL0 := Left.nil w.heap.size V0
  clear hV0 FQ hB70
  refine (wpIn_wide (n := 9)).1 ?_
  refine wpIn_loop_rounds 3 ?_
  rw [roundsIn_succ]
  obtain ⟨f1, f2, f3, f4, f5, f6, fB, fs⟩ := id F0
  have ct := ct0.one
  have hlt1 := f1.lt
  have hlt2 := f2.lt
  have hlt3 := f3.lt
  have hlt5 := f5.lt
  have hltt := ct0.lt
  have hef := eql_wrongs gs (V0.alloc (.cells #[.int .i64 0] 3))
  gi_wp2_with fail
  have hn0 : Blk (V0.alloc (.cells #[.int .i64 0] 3)) V0.heap.size 3 #[.int .i64 (([] : List (Int × Int)).length : Int)] := Blk.new _ _ _
  have hBa := below_one V0 (.cells #[.int .i64 0] 3)
  have Fa := F0.next hBa
  clear hef ct
  obtain ⟨VaA, hVa⟩ : ∃ X, V0.alloc (.cells #[.int .i64 0] 3) = X := ⟨_, rfl⟩
  rw [hVa] at hn0 hBa Fa ⊢
  clear hVa
  have hna := hn0.lt
  have hSQ := Lib.hid (fun n => values_seqP gs V0.heap.size us wl (by rw [HWN.out]; omega) VaA Fa.2.2.2.2.1 (by omega) Fa.2.2.2.2.2.1 (read_apart Fa.2.2.2.2.2.1 hn0) n)
  have hFI : Hid (FarO VaA.heap.size (fun (pre : List (Int × Int)) (o : Option Nat) X => o = none ∧ (pre <+: wl ∧ (pre.length = 0 ∨ (pre.length : Int) < many)) ∧ Blk X V0.heap.size 3 #[.int .i64 (pre.length : Int)] ∧ Below V0.heap.size V0 X)) := by
    rintro s o X Y row ⟨h2, hq, h3, h4⟩ hgr hr
    exact ⟨h2, hq, farO_blkV (by omega) h3 hgr hr, h4.grown hgr h4.size (fun r e => by have := (hr r e).1; omega)⟩
  have hFX : Hid (∀ c : Code, FarO VaA.heap.size (fun (pre : List (Int × Int)) (o : Option Nat) X => o = none ∧ ((c = .ret ∧ ¬ (pre <+: wl)) ∨ (c = .exit 2 ∧ 1 ≤ pre.length ∧ (pre.length = 1 ∨ (pre.length : Int) - 1 < many) ∧ many ≤ (pre.length : Int) ∧ pre <+: wl)) ∧ (c = .exit 2 → Blk X V0.heap.size 3 #[.int .i64 (pre.length : Int)] ∧ Below V0.heap.size V0 X))) := by
    rintro c s o X Y row ⟨h2, hq, h34⟩ hgr hr
    exact ⟨h2, hq, fun hc => ⟨farO_blkV (by omega) (h34 hc).1 hgr hr, (h34 hc).2.grown hgr (h34 hc).2.size (fun r e => by have := (hr r e).1; omega)⟩⟩
  clear f1 f2 f3 f4 f5 f6 fB Fa
  refine wpIn_rangeBoxQ rfl (by omega) (gf := 124) (lb := #[.pointer (some ⟨gs, 0, none⟩)]) rfl trivial Go.Proofs.YtggdlklkjnbbjaaGreatDoor.R.enter_values0 (hSQ.out _ (by omega)) (fun h h' => h.trans h') (fun X l ob hl _ hlp => KeepP.putFar X (by omega) ob) (Below.refl _ _) (fun _ => rfl)
    (fun pre o X => o = none ∧ (pre <+: wl ∧ (pre.length = 0 ∨ (pre.length : Int) < many)) ∧ Blk X V0.heap.size 3 #[.int .i64 (pre.length : Int)] ∧ Below V0.heap.size V0 X)
    (fun c pre o X => o = none ∧ ((c = .ret ∧ ¬ (pre <+: wl)) ∨ (c = .exit 2 ∧ 1 ≤ pre.length ∧ (pre.length = 1 ∨ (pre.length : Int) - 1 < many) ∧ many ≤ (pre.length : Int) ∧ pre <+: wl)) ∧ (c = .exit 2 → Blk X V0.heap.size 3 #[.int .i64 (pre.length : Int)] ∧ Below V0.heap.size V0 X))
    hFI.out hFX.out none (fun b e => by cases e) ⟨rfl, ⟨List.nil_prefix, .inl rfl⟩, hn0, hBa⟩
    56 (fun z => #[.int .i64 z.1, .int .i64 z.2]) ?actA ?assignA
    (fun pre o X h => by obtain ⟨rfl, _⟩ := h; intro b e; cases e) (fun c pre o X h => by obtain ⟨rfl, _⟩ := h; intro b e; cases e) ?bodyA ?doneA ?stopA
  case assignA =>
    intro l' pre z o X K hsz ho hI2 hok hK
    have hlay := below_one X (.cells #[.int .i64 z.1, .int .i64 z.2] 56)
    have hbz := Blk.new X 56 #[.int .i64 z.1, .int .i64 z.2]
    have hkp : KeepP (fun b => b < VaA.heap.size ∧ b ≠ V0.heap.size) X (X.alloc (.cells #[.int .i64 z.1, .int .i64 z.2] 56)) := KeepP.below hlay (fun b hb => by have := hb.1; omega)
    have hI3 := hFI.out.lay hI2 (.cells #[.int .i64 z.1, .int .i64 z.2] 56)
    have hsi := SinceO.below (B := VaA.heap.size) (o := o) hlay
    obtain ⟨gx, hgx⟩ : ∃ gx, Hid (X.heap.size = gx) := ⟨_, rfl⟩
    unfold encA
    gi_wp2_with fail
    rw [hgx.out] at hbz ⊢
    exact hK gx _ hsi hkp hI3 hbz
  case bodyA =>
    rintro l' pre z o gx X hsz ⟨rfl, ⟨hpre, hcnd⟩, hn, hB⟩ hbg hlen
    obtain ⟨zx, zy⟩ := z
    have hXY : Below X.heap.size X X.drew := (Below.refl _ _).drew
    obtain ⟨Y, hY⟩ : ∃ Y, X.drew = Y := ⟨_, rfl⟩
    rw [hY] at hXY
    have HY := Lib.hid hY
    clear hY
    have hke : KeepP (fun b => b < VaA.heap.size ∧ b ≠ V0.heap.size) X Y := KeepP.below hXY (fun b hb => by have := hb.1; omega)
    have hse : SinceO VaA.heap.size none X Y := SinceO.below hXY
    replace hn := hn.below hXY hn.lt
    replace hB := below_in hB hXY
    replace hbg := hbg.below hXY hbg.lt
    replace hsz := Nat.le_trans hsz hXY.size
    obtain ⟨f1, f2, f3, f4, f5, f6, fB, fs⟩ := F0.next hB
    have cn := hn.one
    have fn := hn.frozen 0
    have cwx := f3.one
    have ctx := (ct0.below hB ct0.lt).one
    have cmx := f1.one
    have crx := f2.one
    have frx := f2.frozen 0
    have k0 := hbg.cell 0
    have k1 := hbg.cell 1
    simp only [List.getElem?_toArray, List.getElem?_cons_zero, List.getElem?_cons_succ] at k0 k1
    have hbsz := hB.size
    have hple := hpre.length_le
    rw [HWN.out] at hple
    have hks : KeepP (fun b => b < VaA.heap.size ∧ b ≠ V0.heap.size) X (Y.setCell ⟨w.heap.size + 1, 0, none⟩ (.bool false)) := hke.trans (keepP_same f2)
    have hss : SinceO VaA.heap.size none X (Y.setCell ⟨w.heap.size + 1, 0, none⟩ (.bool false)) := hse.trans_ ⟨by simp, fun b h1 h2 h3 => Below.heap_setCell Y _ (.bool false) b (by simp; omega)⟩
    clear f1 f2 f3 f5 f6 fB hbg
    by_cases hp : pre.length < wn
    · obtain ⟨q4, cap4, e4, hA4⟩ := f4
      have hpw : pre.length < wl.length := by rw [HWN.out]; exact hp
      obtain ⟨gw, hq4, hgw, x0, x1⟩ := hA4 pre.length hpw
      have hget : wl[pre.length]? = some wl[pre.length] := List.getElem?_eq_getElem hpw
      clear hA4
      obtain ⟨yx, yy, hyz⟩ : ∃ yx yy, wl[pre.length] = (yx, yy) := ⟨_, _, rfl⟩
      rw [hyz] at x0 x1 hget
      clear hyz hpw
      have e5 : Aw = some ⟨gw, 0, none⟩ := by injection e4 with e6 _ _; rw [e6, hq4]
      clear e4 hq4
      subst e5
      have dp : decide ((wn : Int) ≤ (pre.length : Int)) = false := decide_eq_false (by omega)
      have hget2 := Lib.hid hget
      clear hget
      by_cases hx : (zx, zy) = (yx, yy)
      · injection hx with hx1 hx2
        subst hx1 hx2
        have HN := Lib.hid (prefix_next hpre hget2.out)
        have hl1 : Hid (((pre ++ [(zx, zy)]).length : Int) = (pre.length : Int) + 1) := by unfold Hid; rw [List.length_append]; rfl
        have hks2 : KeepP (fun b => b < VaA.heap.size ∧ b ≠ V0.heap.size) X (Y.setCell ⟨V0.heap.size, 0, none⟩ (.int .i64 ((pre.length : Int) + 1))) := hke.trans (KeepP.setFar Y (by simp) _)
        have hss2 : SinceO VaA.heap.size none X (Y.setCell ⟨V0.heap.size, 0, none⟩ (.int .i64 ((pre.length : Int) + 1))) := hse.trans_ ⟨by simp, fun b h1 h2 h3 => Below.heap_setCell Y _ (.int .i64 ((pre.length : Int) + 1)) b (by simp; omega)⟩
        have hT : Hid (Blk (Y.setCell ⟨V0.heap.size, 0, none⟩ (.int .i64 ((pre.length : Int) + 1))) V0.heap.size 3 #[.int .i64 ((pre ++ [(zx, zy)]).length : Int)] ∧ Below V0.heap.size V0 (Y.setCell ⟨V0.heap.size, 0, none⟩ (.int .i64 ((pre.length : Int) + 1)))) := by
          unfold Hid
          rw [hl1.out]
          exact ⟨hn.set_ 0 _, hB.setCell (Nat.le_refl _) _⟩
        clear hpre hn hB hke hse hks hss hbsz hXY
        by_cases hm : many ≤ (pre.length : Int) + 1
        · have dm : decide (many ≤ (pre.length : Int) + 1) = true := decide_eq_true hm
          gi_wp2
          have hS : (fun U : World => U.cell? ⟨V0.heap.size, 0, none⟩ = some (.int .i64 (pre.length : Int)) ∧ U.cell? ⟨w5.heap.size, 0, none⟩ = some (.slice (some ⟨gw, 0, none⟩) wn cw) ∧ U.cell? ⟨gx, 0, none⟩ = some (.int .i64 zx) ∧ U.cell? ⟨gx, 1, none⟩ = some (.int .i64 zy) ∧ U.cell? ⟨gw, pre.length * 2, none⟩ = some (.int .i64 zx) ∧ U.cell? ⟨gw, pre.length * 2 + 1, none⟩ = some (.int .i64 zy)) Y := ⟨cn, cwx, k0, k1, x0, x1⟩
          refine region_HF (S := (fun U : World => U.cell? ⟨V0.heap.size, 0, none⟩ = some (.int .i64 (pre.length : Int)) ∧ U.cell? ⟨w5.heap.size, 0, none⟩ = some (.slice (some ⟨gw, 0, none⟩) wn cw) ∧ U.cell? ⟨gx, 0, none⟩ = some (.int .i64 zx) ∧ U.cell? ⟨gx, 1, none⟩ = some (.int .i64 zy) ∧ U.cell? ⟨gw, pre.length * 2, none⟩ = some (.int .i64 zx) ∧ U.cell? ⟨gw, pre.length * 2 + 1, none⟩ = some (.int .i64 zy))) (by kernel_rfl) ?_
          rw [HY.out]
          refine anyHF_take (i := 0) (d := 99) (v := .int .i64 (pre.length : Int)) (by kernel_rfl) rfl (by kernel_rfl) (by kernel_rfl) (by kernel_rfl) rfl (fun _ _ _ h => h) ⟨Or.inl ⟨by rfl, fun w hS => by obtain ⟨h0, h1, h2, h3, h4, h5⟩ := hS; go_simp⟩, fun _ => rfl⟩ hS ?_
          simp only [upd]
          refine anyHF_take (i := 1) (d := 100) (v := .slice (some ⟨gw, 0, none⟩) wn cw) (by kernel_rfl) rfl (by kernel_rfl) (by kernel_rfl) (by kernel_rfl) rfl (fun _ _ _ h => h) ⟨Or.inl ⟨by rfl, fun w hS => by obtain ⟨h0, h1, h2, h3, h4, h5⟩ := hS; go_simp⟩, fun _ => rfl⟩ hS ?_
          simp only [upd]
          refine anyHF_take (i := 2) (d := 101) (v := .int .i64 (wn : Int)) (by kernel_rfl) rfl (by kernel_rfl) (by kernel_rfl) (by kernel_rfl) rfl (fun _ _ _ h => h) ⟨Or.inl ⟨by rfl, fun w hS => by obtain ⟨h0, h1, h2, h3, h4, h5⟩ := hS; go_simp⟩, fun _ => rfl⟩ hS ?_
          simp only [upd]
          refine anyHF_take (i := 3) (d := 102) (v := .bool false) (by kernel_rfl) rfl (by kernel_rfl) (by kernel_rfl) (by kernel_rfl) rfl (fun _ _ _ h => h) ⟨Or.inl ⟨by rfl, fun w hS => by obtain ⟨h0, h1, h2, h3, h4, h5⟩ := hS; (go_simp <;> omega)⟩, fun _ => rfl⟩ hS ?_
          simp only [upd]
          refine anyHF_take (i := 4) (d := 103) (v := .bool false) (by kernel_rfl) rfl (by kernel_rfl) (by kernel_rfl) (by kernel_rfl) rfl (fun _ _ _ h => h) ⟨Or.inl ⟨by rfl, fun w hS => by obtain ⟨h0, h1, h2, h3, h4, h5⟩ := hS; go_simp⟩, fun _ => rfl⟩ hS ?_
          simp only [upd]
          refine anyHF_take (i := 5) (d := 104) (v := .agg #[.int .i64 zx, .int .i64 zy]) (by kernel_rfl) rfl (by kernel_rfl) (by kernel_rfl) (by kernel_rfl) rfl (fun _ _ _ h => h) ⟨Or.inl ⟨by rfl, fun w hS => by obtain ⟨h0, h1, h2, h3, h4, h5⟩ := hS; go_simp⟩, fun _ => rfl⟩ hS ?_
          simp only [upd]
          refine anyHF_take (i := 6) (d := 105) (v := .slice (some ⟨gw, 0, none⟩) wn cw) (by kernel_rfl) rfl (by kernel_rfl) (by kernel_rfl) (by kernel_rfl) rfl (fun _ _ _ h => h) ⟨Or.inl ⟨by rfl, fun w hS => by obtain ⟨h0, h1, h2, h3, h4, h5⟩ := hS; go_simp⟩, fun _ => rfl⟩ hS ?_
          simp only [upd]
          refine anyHF_take (i := 7) (d := 106) (v := .int .i64 (pre.length : Int)) (by kernel_rfl) rfl (by kernel_rfl) (by kernel_rfl) (by kernel_rfl) rfl (fun _ _ _ h => h) ⟨Or.inl ⟨by rfl, fun w hS => by obtain ⟨h0, h1, h2, h3, h4, h5⟩ := hS; go_simp⟩, fun _ => rfl⟩ hS ?_
          simp only [upd]
          refine anyHF_take (i := 8) (d := 107) (v := .pointer (some ⟨gw, pre.length * 2, none⟩)) (by kernel_rfl) rfl (by kernel_rfl) (by kernel_rfl) (by kernel_rfl) rfl (fun _ _ _ h => h) ⟨Or.inl ⟨by rfl, fun w hS => by obtain ⟨h0, h1, h2, h3, h4, h5⟩ := hS; (go_simp <;> omega)⟩, fun _ => rfl⟩ hS ?_
          simp only [upd]
          refine anyHF_take (i := 9) (d := 108) (v := .agg #[.int .i64 zx, .int .i64 zy]) (by kernel_rfl) rfl (by kernel_rfl) (by kernel_rfl) (by kernel_rfl) rfl (fun _ _ _ h => h) ⟨Or.inl ⟨by rfl, fun w hS => by obtain ⟨h0, h1, h2, h3, h4, h5⟩ := hS; go_simp⟩, fun _ => rfl⟩ hS ?_
          simp only [upd]
          refine anyHF_take (i := 10) (d := 109) (v := .bool false) (by kernel_rfl) rfl (by kernel_rfl) (by kernel_rfl) (by kernel_rfl) rfl (fun _ _ _ h => h) ⟨Or.inl ⟨by rfl, fun w hS => by obtain ⟨h0, h1, h2, h3, h4, h5⟩ := hS; (go_simp <;> omega)⟩, fun _ => rfl⟩ hS ?_
          simp only [upd]
          refine anyHF_take (i := 11) (d := 110) (v := .bool false) (by kernel_rfl) rfl (by kernel_rfl) (by kernel_rfl) (by kernel_rfl) rfl (fun _ _ _ h => h) ⟨Or.inl ⟨by rfl, fun w hS => by obtain ⟨h0, h1, h2, h3, h4, h5⟩ := hS; go_simp⟩, fun _ => rfl⟩ hS ?_
          simp only [upd]
          refine anyHF_done (by kernel_rfl) ?_ _
          clear hS
          gi_wp2
          refine ⟨none, .inl rfl, hss2, hks2, rfl, .inr ⟨rfl, by rw [List.length_append]; simp, ?_, ?_, HN.out⟩, fun _ => hT.out⟩
          · rcases hcnd with h | h
            · left; rw [List.length_append, h]; rfl
            · right; rw [hl1.out]; omega
          · rw [hl1.out]; exact hm
        · have dm : decide (many ≤ (pre.length : Int) + 1) = false := decide_eq_false hm
          gi_wp2
          have hS : (fun U : World => U.cell? ⟨V0.heap.size, 0, none⟩ = some (.int .i64 (pre.length : Int)) ∧ U.cell? ⟨w5.heap.size, 0, none⟩ = some (.slice (some ⟨gw, 0, none⟩) wn cw) ∧ U.cell? ⟨gx, 0, none⟩ = some (.int .i64 zx) ∧ U.cell? ⟨gx, 1, none⟩ = some (.int .i64 zy) ∧ U.cell? ⟨gw, pre.length * 2, none⟩ = some (.int .i64 zx) ∧ U.cell? ⟨gw, pre.length * 2 + 1, none⟩ = some (.int .i64 zy)) Y := ⟨cn, cwx, k0, k1, x0, x1⟩
          refine region_HF (S := (fun U : World => U.cell? ⟨V0.heap.size, 0, none⟩ = some (.int .i64 (pre.length : Int)) ∧ U.cell? ⟨w5.heap.size, 0, none⟩ = some (.slice (some ⟨gw, 0, none⟩) wn cw) ∧ U.cell? ⟨gx, 0, none⟩ = some (.int .i64 zx) ∧ U.cell? ⟨gx, 1, none⟩ = some (.int .i64 zy) ∧ U.cell? ⟨gw, pre.length * 2, none⟩ = some (.int .i64 zx) ∧ U.cell? ⟨gw, pre.length * 2 + 1, none⟩ = some (.int .i64 zy))) (by kernel_rfl) ?_
          rw [HY.out]
          refine anyHF_take (i := 0) (d := 99) (v := .int .i64 (pre.length : Int)) (by kernel_rfl) rfl (by kernel_rfl) (by kernel_rfl) (by kernel_rfl) rfl (fun _ _ _ h => h) ⟨Or.inl ⟨by rfl, fun w hS => by obtain ⟨h0, h1, h2, h3, h4, h5⟩ := hS; go_simp⟩, fun _ => rfl⟩ hS ?_
          simp only [upd]
          refine anyHF_take (i := 1) (d := 100) (v := .slice (some ⟨gw, 0, none⟩) wn cw) (by kernel_rfl) rfl (by kernel_rfl) (by kernel_rfl) (by kernel_rfl) rfl (fun _ _ _ h => h) ⟨Or.inl ⟨by rfl, fun w hS => by obtain ⟨h0, h1, h2, h3, h4, h5⟩ := hS; go_simp⟩, fun _ => rfl⟩ hS ?_
          simp only [upd]
          refine anyHF_take (i := 2) (d := 101) (v := .int .i64 (wn : Int)) (by kernel_rfl) rfl (by kernel_rfl) (by kernel_rfl) (by kernel_rfl) rfl (fun _ _ _ h => h) ⟨Or.inl ⟨by rfl, fun w hS => by obtain ⟨h0, h1, h2, h3, h4, h5⟩ := hS; go_simp⟩, fun _ => rfl⟩ hS ?_
          simp only [upd]
          refine anyHF_take (i := 3) (d := 102) (v := .bool false) (by kernel_rfl) rfl (by kernel_rfl) (by kernel_rfl) (by kernel_rfl) rfl (fun _ _ _ h => h) ⟨Or.inl ⟨by rfl, fun w hS => by obtain ⟨h0, h1, h2, h3, h4, h5⟩ := hS; (go_simp <;> omega)⟩, fun _ => rfl⟩ hS ?_
          simp only [upd]
          refine anyHF_take (i := 4) (d := 103) (v := .bool false) (by kernel_rfl) rfl (by kernel_rfl) (by kernel_rfl) (by kernel_rfl) rfl (fun _ _ _ h => h) ⟨Or.inl ⟨by rfl, fun w hS => by obtain ⟨h0, h1, h2, h3, h4, h5⟩ := hS; go_simp⟩, fun _ => rfl⟩ hS ?_
          simp only [upd]
          refine anyHF_take (i := 5) (d := 104) (v := .agg #[.int .i64 zx, .int .i64 zy]) (by kernel_rfl) rfl (by kernel_rfl) (by kernel_rfl) (by kernel_rfl) rfl (fun _ _ _ h => h) ⟨Or.inl ⟨by rfl, fun w hS => by obtain ⟨h0, h1, h2, h3, h4, h5⟩ := hS; go_simp⟩, fun _ => rfl⟩ hS ?_
          simp only [upd]
          refine anyHF_take (i := 6) (d := 105) (v := .slice (some ⟨gw, 0, none⟩) wn cw) (by kernel_rfl) rfl (by kernel_rfl) (by kernel_rfl) (by kernel_rfl) rfl (fun _ _ _ h => h) ⟨Or.inl ⟨by rfl, fun w hS => by obtain ⟨h0, h1, h2, h3, h4, h5⟩ := hS; go_simp⟩, fun _ => rfl⟩ hS ?_
          simp only [upd]
          refine anyHF_take (i := 7) (d := 106) (v := .int .i64 (pre.length : Int)) (by kernel_rfl) rfl (by kernel_rfl) (by kernel_rfl) (by kernel_rfl) rfl (fun _ _ _ h => h) ⟨Or.inl ⟨by rfl, fun w hS => by obtain ⟨h0, h1, h2, h3, h4, h5⟩ := hS; go_simp⟩, fun _ => rfl⟩ hS ?_
          simp only [upd]
          refine anyHF_take (i := 8) (d := 107) (v := .pointer (some ⟨gw, pre.length * 2, none⟩)) (by kernel_rfl) rfl (by kernel_rfl) (by kernel_rfl) (by kernel_rfl) rfl (fun _ _ _ h => h) ⟨Or.inl ⟨by rfl, fun w hS => by obtain ⟨h0, h1, h2, h3, h4, h5⟩ := hS; (go_simp <;> omega)⟩, fun _ => rfl⟩ hS ?_
          simp only [upd]
          refine anyHF_take (i := 9) (d := 108) (v := .agg #[.int .i64 zx, .int .i64 zy]) (by kernel_rfl) rfl (by kernel_rfl) (by kernel_rfl) (by kernel_rfl) rfl (fun _ _ _ h => h) ⟨Or.inl ⟨by rfl, fun w hS => by obtain ⟨h0, h1, h2, h3, h4, h5⟩ := hS; go_simp⟩, fun _ => rfl⟩ hS ?_
          simp only [upd]
          refine anyHF_take (i := 10) (d := 109) (v := .bool false) (by kernel_rfl) rfl (by kernel_rfl) (by kernel_rfl) (by kernel_rfl) rfl (fun _ _ _ h => h) ⟨Or.inl ⟨by rfl, fun w hS => by obtain ⟨h0, h1, h2, h3, h4, h5⟩ := hS; (go_simp <;> omega)⟩, fun _ => rfl⟩ hS ?_
          simp only [upd]
          refine anyHF_take (i := 11) (d := 110) (v := .bool false) (by kernel_rfl) rfl (by kernel_rfl) (by kernel_rfl) (by kernel_rfl) rfl (fun _ _ _ h => h) ⟨Or.inl ⟨by rfl, fun w hS => by obtain ⟨h0, h1, h2, h3, h4, h5⟩ := hS; go_simp⟩, fun _ => rfl⟩ hS ?_
          simp only [upd]
          refine anyHF_done (by kernel_rfl) ?_ _
          clear hS
          gi_wp2
          exact ⟨none, .inl rfl, hss2, hks2, rfl, ⟨HN.out, .inr (by rw [hl1.out]; omega)⟩, hT.out⟩
      · have hx2 : ¬ (zx = yx ∧ zy = yy) := fun e => hx (by rw [e.1, e.2])
        have HN := Lib.hid (prefix_not (L := wl) (pre := pre) (z := (zx, zy)) (fun e => hx (by rw [hget2.out] at e; injection e with e; exact e.symm)))
        clear hpre hn hB hke hse hbsz hXY
        gi_wp2
        have hS : (fun U : World => U.cell? ⟨V0.heap.size, 0, none⟩ = some (.int .i64 (pre.length : Int)) ∧ U.cell? ⟨w5.heap.size, 0, none⟩ = some (.slice (some ⟨gw, 0, none⟩) wn cw) ∧ U.cell? ⟨gx, 0, none⟩ = some (.int .i64 zx) ∧ U.cell? ⟨gx, 1, none⟩ = some (.int .i64 zy) ∧ U.cell? ⟨gw, pre.length * 2, none⟩ = some (.int .i64 yx) ∧ U.cell? ⟨gw, pre.length * 2 + 1, none⟩ = some (.int .i64 yy)) Y := ⟨cn, cwx, k0, k1, x0, x1⟩
        refine region_HF (S := (fun U : World => U.cell? ⟨V0.heap.size, 0, none⟩ = some (.int .i64 (pre.length : Int)) ∧ U.cell? ⟨w5.heap.size, 0, none⟩ = some (.slice (some ⟨gw, 0, none⟩) wn cw) ∧ U.cell? ⟨gx, 0, none⟩ = some (.int .i64 zx) ∧ U.cell? ⟨gx, 1, none⟩ = some (.int .i64 zy) ∧ U.cell? ⟨gw, pre.length * 2, none⟩ = some (.int .i64 yx) ∧ U.cell? ⟨gw, pre.length * 2 + 1, none⟩ = some (.int .i64 yy))) (by kernel_rfl) ?_
        rw [HY.out]
        refine anyHF_take (i := 0) (d := 99) (v := .int .i64 (pre.length : Int)) (by kernel_rfl) rfl (by kernel_rfl) (by kernel_rfl) (by kernel_rfl) rfl (fun _ _ _ h => h) ⟨Or.inl ⟨by rfl, fun w hS => by obtain ⟨h0, h1, h2, h3, h4, h5⟩ := hS; go_simp⟩, fun _ => rfl⟩ hS ?_
        simp only [upd]
        refine anyHF_take (i := 1) (d := 100) (v := .slice (some ⟨gw, 0, none⟩) wn cw) (by kernel_rfl) rfl (by kernel_rfl) (by kernel_rfl) (by kernel_rfl) rfl (fun _ _ _ h => h) ⟨Or.inl ⟨by rfl, fun w hS => by obtain ⟨h0, h1, h2, h3, h4, h5⟩ := hS; go_simp⟩, fun _ => rfl⟩ hS ?_
        simp only [upd]
        refine anyHF_take (i := 2) (d := 101) (v := .int .i64 (wn : Int)) (by kernel_rfl) rfl (by kernel_rfl) (by kernel_rfl) (by kernel_rfl) rfl (fun _ _ _ h => h) ⟨Or.inl ⟨by rfl, fun w hS => by obtain ⟨h0, h1, h2, h3, h4, h5⟩ := hS; go_simp⟩, fun _ => rfl⟩ hS ?_
        simp only [upd]
        refine anyHF_take (i := 3) (d := 102) (v := .bool false) (by kernel_rfl) rfl (by kernel_rfl) (by kernel_rfl) (by kernel_rfl) rfl (fun _ _ _ h => h) ⟨Or.inl ⟨by rfl, fun w hS => by obtain ⟨h0, h1, h2, h3, h4, h5⟩ := hS; (go_simp <;> omega)⟩, fun _ => rfl⟩ hS ?_
        simp only [upd]
        refine anyHF_take (i := 4) (d := 103) (v := .bool false) (by kernel_rfl) rfl (by kernel_rfl) (by kernel_rfl) (by kernel_rfl) rfl (fun _ _ _ h => h) ⟨Or.inl ⟨by rfl, fun w hS => by obtain ⟨h0, h1, h2, h3, h4, h5⟩ := hS; go_simp⟩, fun _ => rfl⟩ hS ?_
        simp only [upd]
        refine anyHF_take (i := 5) (d := 104) (v := .agg #[.int .i64 zx, .int .i64 zy]) (by kernel_rfl) rfl (by kernel_rfl) (by kernel_rfl) (by kernel_rfl) rfl (fun _ _ _ h => h) ⟨Or.inl ⟨by rfl, fun w hS => by obtain ⟨h0, h1, h2, h3, h4, h5⟩ := hS; go_simp⟩, fun _ => rfl⟩ hS ?_
        simp only [upd]
        refine anyHF_take (i := 6) (d := 105) (v := .slice (some ⟨gw, 0, none⟩) wn cw) (by kernel_rfl) rfl (by kernel_rfl) (by kernel_rfl) (by kernel_rfl) rfl (fun _ _ _ h => h) ⟨Or.inl ⟨by rfl, fun w hS => by obtain ⟨h0, h1, h2, h3, h4, h5⟩ := hS; go_simp⟩, fun _ => rfl⟩ hS ?_
        simp only [upd]
        refine anyHF_take (i := 7) (d := 106) (v := .int .i64 (pre.length : Int)) (by kernel_rfl) rfl (by kernel_rfl) (by kernel_rfl) (by kernel_rfl) rfl (fun _ _ _ h => h) ⟨Or.inl ⟨by rfl, fun w hS => by obtain ⟨h0, h1, h2, h3, h4, h5⟩ := hS; go_simp⟩, fun _ => rfl⟩ hS ?_
        simp only [upd]
        refine anyHF_take (i := 8) (d := 107) (v := .pointer (some ⟨gw, pre.length * 2, none⟩)) (by kernel_rfl) rfl (by kernel_rfl) (by kernel_rfl) (by kernel_rfl) rfl (fun _ _ _ h => h) ⟨Or.inl ⟨by rfl, fun w hS => by obtain ⟨h0, h1, h2, h3, h4, h5⟩ := hS; (go_simp <;> omega)⟩, fun _ => rfl⟩ hS ?_
        simp only [upd]
        refine anyHF_take (i := 9) (d := 108) (v := .agg #[.int .i64 yx, .int .i64 yy]) (by kernel_rfl) rfl (by kernel_rfl) (by kernel_rfl) (by kernel_rfl) rfl (fun _ _ _ h => h) ⟨Or.inl ⟨by rfl, fun w hS => by obtain ⟨h0, h1, h2, h3, h4, h5⟩ := hS; go_simp⟩, fun _ => rfl⟩ hS ?_
        simp only [upd]
        refine anyHF_take (i := 10) (d := 109) (v := .bool true) (by kernel_rfl) rfl (by kernel_rfl) (by kernel_rfl) (by kernel_rfl) rfl (fun _ _ _ h => h) ⟨Or.inl ⟨by rfl, fun w hS => by obtain ⟨h0, h1, h2, h3, h4, h5⟩ := hS; (go_simp <;> omega)⟩, fun _ => rfl⟩ hS ?_
        simp only [upd]
        refine anyHF_take (i := 11) (d := 110) (v := .bool true) (by kernel_rfl) rfl (by kernel_rfl) (by kernel_rfl) (by kernel_rfl) rfl (fun _ _ _ h => h) ⟨Or.inl ⟨by rfl, fun w hS => by obtain ⟨h0, h1, h2, h3, h4, h5⟩ := hS; go_simp⟩, fun _ => rfl⟩ hS ?_
        simp only [upd]
        refine anyHF_done (by kernel_rfl) ?_ _
        clear hS
        gi_wp2
        exact ⟨none, .inl rfl, hss, hks, rfl, .inl ⟨rfl, HN.out⟩, fun e => by cases e⟩
    · have dp : decide ((wn : Int) ≤ (pre.length : Int)) = true := decide_eq_true (by omega)
      have HN := Lib.hid (prefix_not (L := wl) (pre := pre) (z := (zx, zy)) (fun e => by rw [List.getElem?_eq_none (by rw [HWN.out]; omega)] at e; cases e))
      clear hpre hn hB hke hse hbsz hXY f4
      gi_wp2
      have hS : (fun U : World => U.cell? ⟨V0.heap.size, 0, none⟩ = some (.int .i64 (pre.length : Int)) ∧ U.cell? ⟨w5.heap.size, 0, none⟩ = some (.slice Aw wn cw) ∧ U.cell? ⟨gx, 0, none⟩ = some (.int .i64 zx) ∧ U.cell? ⟨gx, 1, none⟩ = some (.int .i64 zy)) Y := ⟨cn, cwx, k0, k1⟩
      refine region_HF (S := (fun U : World => U.cell? ⟨V0.heap.size, 0, none⟩ = some (.int .i64 (pre.length : Int)) ∧ U.cell? ⟨w5.heap.size, 0, none⟩ = some (.slice Aw wn cw) ∧ U.cell? ⟨gx, 0, none⟩ = some (.int .i64 zx) ∧ U.cell? ⟨gx, 1, none⟩ = some (.int .i64 zy))) (by kernel_rfl) ?_
      rw [HY.out]
      refine anyHF_take (i := 0) (d := 99) (v := .int .i64 (pre.length : Int)) (by kernel_rfl) rfl (by kernel_rfl) (by kernel_rfl) (by kernel_rfl) rfl (fun _ _ _ h => h) ⟨Or.inl ⟨by rfl, fun w hS => by obtain ⟨h0, h1, h2, h3⟩ := hS; go_simp⟩, fun _ => rfl⟩ hS ?_
      simp only [upd]
      refine anyHF_take (i := 1) (d := 100) (v := .slice Aw wn cw) (by kernel_rfl) rfl (by kernel_rfl) (by kernel_rfl) (by kernel_rfl) rfl (fun _ _ _ h => h) ⟨Or.inl ⟨by rfl, fun w hS => by obtain ⟨h0, h1, h2, h3⟩ := hS; go_simp⟩, fun _ => rfl⟩ hS ?_
      simp only [upd]
      refine anyHF_take (i := 2) (d := 101) (v := .int .i64 (wn : Int)) (by kernel_rfl) rfl (by kernel_rfl) (by kernel_rfl) (by kernel_rfl) rfl (fun _ _ _ h => h) ⟨Or.inl ⟨by rfl, fun w hS => by obtain ⟨h0, h1, h2, h3⟩ := hS; go_simp⟩, fun _ => rfl⟩ hS ?_
      simp only [upd]
      refine anyHF_take (i := 3) (d := 102) (v := .bool true) (by kernel_rfl) rfl (by kernel_rfl) (by kernel_rfl) (by kernel_rfl) rfl (fun _ _ _ h => h) ⟨Or.inl ⟨by rfl, fun w hS => by obtain ⟨h0, h1, h2, h3⟩ := hS; (go_simp <;> omega)⟩, fun _ => rfl⟩ hS ?_
      simp only [upd]
      refine anyHF_take (i := 4) (d := 103) (v := .bool true) (by kernel_rfl) rfl (by kernel_rfl) (by kernel_rfl) (by kernel_rfl) rfl (fun _ _ _ h => h) ⟨Or.inl ⟨by rfl, fun w hS => by obtain ⟨h0, h1, h2, h3⟩ := hS; go_simp⟩, fun _ => rfl⟩ hS ?_
      simp only [upd]
      refine anyHF_take (i := 5) (d := 104) (v := undef) (by kernel_rfl) rfl (by kernel_rfl) (by kernel_rfl) (by kernel_rfl) rfl (fun _ _ _ h => h) ⟨Or.inr ⟨by rfl, rfl⟩, fun _ => rfl⟩ hS ?_
      simp only [upd]
      refine anyHF_take (i := 6) (d := 105) (v := undef) (by kernel_rfl) rfl (by kernel_rfl) (by kernel_rfl) (by kernel_rfl) rfl (fun _ _ _ h => h) ⟨Or.inr ⟨by rfl, rfl⟩, fun _ => rfl⟩ hS ?_
      simp only [upd]
      refine anyHF_take (i := 7) (d := 106) (v := undef) (by kernel_rfl) rfl (by kernel_rfl) (by kernel_rfl) (by kernel_rfl) rfl (fun _ _ _ h => h) ⟨Or.inr ⟨by rfl, rfl⟩, fun _ => rfl⟩ hS ?_
      simp only [upd]
      refine anyHF_take (i := 8) (d := 107) (v := undef) (by kernel_rfl) rfl (by kernel_rfl) (by kernel_rfl) (by kernel_rfl) rfl (fun _ _ _ h => h) ⟨Or.inr ⟨by rfl, rfl⟩, fun _ => rfl⟩ hS ?_
      simp only [upd]
      refine anyHF_take (i := 9) (d := 108) (v := undef) (by kernel_rfl) rfl (by kernel_rfl) (by kernel_rfl) (by kernel_rfl) rfl (fun _ _ _ h => h) ⟨Or.inr ⟨by rfl, rfl⟩, fun _ => rfl⟩ hS ?_
      simp only [upd]
      refine anyHF_take (i := 10) (d := 109) (v := undef) (by kernel_rfl) rfl (by kernel_rfl) (by kernel_rfl) (by kernel_rfl) rfl (fun _ _ _ h => h) ⟨Or.inr ⟨by rfl, rfl⟩, fun _ => rfl⟩ hS ?_
      simp only [upd]
      refine anyHF_take (i := 11) (d := 110) (v := .bool true) (by kernel_rfl) rfl (by kernel_rfl) (by kernel_rfl) (by kernel_rfl) rfl (fun _ _ _ h => h) ⟨Or.inl ⟨by rfl, fun w hS => by obtain ⟨h0, h1, h2, h3⟩ := hS; go_simp⟩, fun _ => rfl⟩ hS ?_
      simp only [upd]
      refine anyHF_done (by kernel_rfl) ?_ _
      clear hS
      gi_wp2
      exact ⟨none, .inl rfl, hss, hks, rfl, .inl ⟨rfl, HN.out⟩, fun e => by cases e⟩
  case doneA =>
    rintro DA xs o X hD hfo hxs hI hK hne
    rw [hxs] at hI
    obtain ⟨rfl, ⟨hpre, hcnd⟩, hn, hB⟩ := hI
    rw [HWN.out] at hn hcnd
    clear hpre hfo hxs
    obtain ⟨f1, f2, f3, f4, f5, f6, fB, fs⟩ := F0.next hB
    have cn := hn.one
    have cwx := f3.one
    have ctx := (ct0.below hB ct0.lt).one
    have cmx := f1.one
    have lt0 := hB.size
    have hmin : ((wn : Int) != min (wn : Int) (max 1 many)) = false := by rw [bne_eq_false_iff_eq]; rcases hcnd with h | h <;> omega
    have fV := F0.2.2.2.2.2.2.2
    gi_wp2
    clear cn cwx ctx cmx f1 f2 f3 f4 f5 f6 fB fs
    obtain ⟨V1B, hVn⟩ : ∃ Y, X.alloc (.cells #[.int .i64 1] 3) = Y := ⟨_, rfl⟩
    rw [hVn]
    have hBn : Below V0.heap.size V0 V1B := by rw [← hVn]; exact hB.alloc hB.size _
    have ct1 : Blk V1B X.heap.size 3 #[.int .i64 1] := by rw [← hVn]; exact Blk.new _ _ _
    have hDn : V1B.heap[DA]? = some (.deferred (some [])) := by rw [← hVn]; exact (Below.heap_alloc X _ DA (Array.getElem?_eq_some_iff.1 hK).1).trans hK
    have HL1 := HL0.more hBn (D := DA) (by omega) (by omega) hDn
    have F1 := F0.next hBn
    clear hVn hBn hDn hK hn hB ct0 F0 HL0 hne fV lt0
    clear hmin hcnd
    rw [roundsIn_succ]
    obtain ⟨f1, f2, f3, f4, f5, f6, fB, fs⟩ := id F1
    have ct := ct1.one
    have hlt1 := f1.lt
    have hlt2 := f2.lt
    have hlt3 := f3.lt
    have hlt5 := f5.lt
    have hltt := ct1.lt
    have hef := eql_wrongs gs (V1B.alloc (.cells #[.int .i64 0] 3))
    gi_wp2_with fail
    have hn0 : Blk (V1B.alloc (.cells #[.int .i64 0] 3)) V1B.heap.size 3 #[.int .i64 (([] : List (Int × Int)).length : Int)] := Blk.new _ _ _
    have hBa := below_one V1B (.cells #[.int .i64 0] 3)
    have Fa := F1.next hBa
    clear hef ct
    obtain ⟨VaB, hVa⟩ : ∃ X, V1B.alloc (.cells #[.int .i64 0] 3) = X := ⟨_, rfl⟩
    rw [hVa] at hn0 hBa Fa ⊢
    clear hVa
    have hna := hn0.lt
    have hSQ := Lib.hid (fun n => values_seqP gs V1B.heap.size us wl (by rw [HWN.out]; omega) VaB Fa.2.2.2.2.1 (by omega) Fa.2.2.2.2.2.1 (read_apart Fa.2.2.2.2.2.1 hn0) n)
    have hFI : Hid (FarO VaB.heap.size (fun (pre : List (Int × Int)) (o : Option Nat) X => o = none ∧ (pre <+: wl ∧ True) ∧ Blk X V1B.heap.size 3 #[.int .i64 (pre.length : Int)] ∧ Below V1B.heap.size V1B X)) := by
      rintro s o X Y row ⟨h2, hq, h3, h4⟩ hgr hr
      exact ⟨h2, hq, farO_blkV (by omega) h3 hgr hr, h4.grown hgr h4.size (fun r e => by have := (hr r e).1; omega)⟩
    have hFX : Hid (∀ c : Code, FarO VaB.heap.size (fun (pre : List (Int × Int)) (o : Option Nat) X => o = none ∧ ((c = .ret ∧ ¬ (pre <+: wl)) ∨ False) ∧ (c = .exit 2 → Blk X V1B.heap.size 3 #[.int .i64 (pre.length : Int)] ∧ Below V1B.heap.size V1B X))) := by
      rintro c s o X Y row ⟨h2, hq, h34⟩ hgr hr
      exact ⟨h2, hq, fun hc => ⟨farO_blkV (by omega) (h34 hc).1 hgr hr, (h34 hc).2.grown hgr (h34 hc).2.size (fun r e => by have := (hr r e).1; omega)⟩⟩
    clear f1 f2 f3 f4 f5 f6 fB Fa
    refine wpIn_rangeBoxQ rfl (by omega) (gf := 124) (lb := #[.pointer (some ⟨gs, 0, none⟩)]) rfl trivial Go.Proofs.YtggdlklkjnbbjaaGreatDoor.R.enter_values0 (hSQ.out _ (by omega)) (fun h h' => h.trans h') (fun X l ob hl _ hlp => KeepP.putFar X (by omega) ob) (Below.refl _ _) (fun _ => rfl)
      (fun pre o X => o = none ∧ (pre <+: wl ∧ True) ∧ Blk X V1B.heap.size 3 #[.int .i64 (pre.length : Int)] ∧ Below V1B.heap.size V1B X)
      (fun c pre o X => o = none ∧ ((c = .ret ∧ ¬ (pre <+: wl)) ∨ False) ∧ (c = .exit 2 → Blk X V1B.heap.size 3 #[.int .i64 (pre.length : Int)] ∧ Below V1B.heap.size V1B X))
      hFI.out hFX.out none (fun b e => by cases e) ⟨rfl, ⟨List.nil_prefix, trivial⟩, hn0, hBa⟩
      56 (fun z => #[.int .i64 z.1, .int .i64 z.2]) ?actB ?assignB
      (fun pre o X h => by obtain ⟨rfl, _⟩ := h; intro b e; cases e) (fun c pre o X h => by obtain ⟨rfl, _⟩ := h; intro b e; cases e) ?bodyB ?doneB ?stopB
    case assignB =>
      intro l' pre z o X K hsz ho hI2 hok hK
      have hlay := below_one X (.cells #[.int .i64 z.1, .int .i64 z.2] 56)
      have hbz := Blk.new X 56 #[.int .i64 z.1, .int .i64 z.2]
      have hkp : KeepP (fun b => b < VaB.heap.size ∧ b ≠ V1B.heap.size) X (X.alloc (.cells #[.int .i64 z.1, .int .i64 z.2] 56)) := KeepP.below hlay (fun b hb => by have := hb.1; omega)
      have hI3 := hFI.out.lay hI2 (.cells #[.int .i64 z.1, .int .i64 z.2] 56)
      have hsi := SinceO.below (B := VaB.heap.size) (o := o) hlay
      obtain ⟨gx, hgx⟩ : ∃ gx, Hid (X.heap.size = gx) := ⟨_, rfl⟩
      unfold encA
      gi_wp2_with fail
      rw [hgx.out] at hbz ⊢
      exact hK gx _ hsi hkp hI3 hbz
    case bodyB =>
      rintro l' pre z o gx X hsz ⟨rfl, ⟨hpre, hcnd⟩, hn, hB⟩ hbg hlen
      obtain ⟨zx, zy⟩ := z
      have hXY : Below X.heap.size X X.drew := (Below.refl _ _).drew
      obtain ⟨Y, hY⟩ : ∃ Y, X.drew = Y := ⟨_, rfl⟩
      rw [hY] at hXY
      have HY := Lib.hid hY
      clear hY
      have hke : KeepP (fun b => b < VaB.heap.size ∧ b ≠ V1B.heap.size) X Y := KeepP.below hXY (fun b hb => by have := hb.1; omega)
      have hse : SinceO VaB.heap.size none X Y := SinceO.below hXY
      replace hn := hn.below hXY hn.lt
      replace hB := below_in hB hXY
      replace hbg := hbg.below hXY hbg.lt
      replace hsz := Nat.le_trans hsz hXY.size
      obtain ⟨f1, f2, f3, f4, f5, f6, fB, fs⟩ := F1.next hB
      have cn := hn.one
      have fn := hn.frozen 0
      have cwx := f3.one
      have ctx := (ct1.below hB ct1.lt).one
      have cmx := f1.one
      have crx := f2.one
      have frx := f2.frozen 0
      have k0 := hbg.cell 0
      have k1 := hbg.cell 1
      simp only [List.getElem?_toArray, List.getElem?_cons_zero, List.getElem?_cons_succ] at k0 k1
      have hbsz := hB.size
      have hple := hpre.length_le
      rw [HWN.out] at hple
      have hks : KeepP (fun b => b < VaB.heap.size ∧ b ≠ V1B.heap.size) X (Y.setCell ⟨w.heap.size + 1, 0, none⟩ (.bool false)) := hke.trans (keepP_same f2)
      have hss : SinceO VaB.heap.size none X (Y.setCell ⟨w.heap.size + 1, 0, none⟩ (.bool false)) := hse.trans_ ⟨by simp, fun b h1 h2 h3 => Below.heap_setCell Y _ (.bool false) b (by simp; omega)⟩
      clear f1 f2 f3 f5 f6 fB hbg
      by_cases hp : pre.length < wn
      · obtain ⟨q4, cap4, e4, hA4⟩ := f4
        have hpw : pre.length < wl.length := by rw [HWN.out]; exact hp
        obtain ⟨gw, hq4, hgw, x0, x1⟩ := hA4 pre.length hpw
        have hget : wl[pre.length]? = some wl[pre.length] := List.getElem?_eq_getElem hpw
        clear hA4
        obtain ⟨yx, yy, hyz⟩ : ∃ yx yy, wl[pre.length] = (yx, yy) := ⟨_, _, rfl⟩
        rw [hyz] at x0 x1 hget
        clear hyz hpw
        have e5 : Aw = some ⟨gw, 0, none⟩ := by injection e4 with e6 _ _; rw [e6, hq4]
        clear e4 hq4
        subst e5
        have dp : decide ((wn : Int) ≤ (pre.length : Int)) = false := decide_eq_false (by omega)
        have hget2 := Lib.hid hget
        clear hget
        by_cases hx : (zx, zy) = (yx, yy)
        · injection hx with hx1 hx2
          subst hx1 hx2
          have HN := Lib.hid (prefix_next hpre hget2.out)
          have hl1 : Hid (((pre ++ [(zx, zy)]).length : Int) = (pre.length : Int) + 1) := by unfold Hid; rw [List.length_append]; rfl
          have hks2 : KeepP (fun b => b < VaB.heap.size ∧ b ≠ V1B.heap.size) X (Y.setCell ⟨V1B.heap.size, 0, none⟩ (.int .i64 ((pre.length : Int) + 1))) := hke.trans (KeepP.setFar Y (by simp) _)
          have hss2 : SinceO VaB.heap.size none X (Y.setCell ⟨V1B.heap.size, 0, none⟩ (.int .i64 ((pre.length : Int) + 1))) := hse.trans_ ⟨by simp, fun b h1 h2 h3 => Below.heap_setCell Y _ (.int .i64 ((pre.length : Int) + 1)) b (by simp; omega)⟩
          have hT : Hid (Blk (Y.setCell ⟨V1B.heap.size, 0, none⟩ (.int .i64 ((pre.length : Int) + 1))) V1B.heap.size 3 #[.int .i64 ((pre ++ [(zx, zy)]).length : Int)] ∧ Below V1B.heap.size V1B (Y.setCell ⟨V1B.heap.size, 0, none⟩ (.int .i64 ((pre.length : Int) + 1)))) := by
            unfold Hid
            rw [hl1.out]
            exact ⟨hn.set_ 0 _, hB.setCell (Nat.le_refl _) _⟩
          clear hpre hn hB hke hse hks hss hbsz hXY
          gi_wp2
          have hS : (fun U : World => U.cell? ⟨V1B.heap.size, 0, none⟩ = some (.int .i64 (pre.length : Int)) ∧ U.cell? ⟨w5.heap.size, 0, none⟩ = some (.slice (some ⟨gw, 0, none⟩) wn cw) ∧ U.cell? ⟨gx, 0, none⟩ = some (.int .i64 zx) ∧ U.cell? ⟨gx, 1, none⟩ = some (.int .i64 zy) ∧ U.cell? ⟨gw, pre.length * 2, none⟩ = some (.int .i64 zx) ∧ U.cell? ⟨gw, pre.length * 2 + 1, none⟩ = some (.int .i64 zy)) Y := ⟨cn, cwx, k0, k1, x0, x1⟩
          refine region_HF (S := (fun U : World => U.cell? ⟨V1B.heap.size, 0, none⟩ = some (.int .i64 (pre.length : Int)) ∧ U.cell? ⟨w5.heap.size, 0, none⟩ = some (.slice (some ⟨gw, 0, none⟩) wn cw) ∧ U.cell? ⟨gx, 0, none⟩ = some (.int .i64 zx) ∧ U.cell? ⟨gx, 1, none⟩ = some (.int .i64 zy) ∧ U.cell? ⟨gw, pre.length * 2, none⟩ = some (.int .i64 zx) ∧ U.cell? ⟨gw, pre.length * 2 + 1, none⟩ = some (.int .i64 zy))) (by kernel_rfl) ?_
          rw [HY.out]
          refine anyHF_take (i := 0) (d := 99) (v := .int .i64 (pre.length : Int)) (by kernel_rfl) rfl (by kernel_rfl) (by kernel_rfl) (by kernel_rfl) rfl (fun _ _ _ h => h) ⟨Or.inl ⟨by rfl, fun w hS => by obtain ⟨h0, h1, h2, h3, h4, h5⟩ := hS; go_simp⟩, fun _ => rfl⟩ hS ?_
          simp only [upd]
          refine anyHF_take (i := 1) (d := 100) (v := .slice (some ⟨gw, 0, none⟩) wn cw) (by kernel_rfl) rfl (by kernel_rfl) (by kernel_rfl) (by kernel_rfl) rfl (fun _ _ _ h => h) ⟨Or.inl ⟨by rfl, fun w hS => by obtain ⟨h0, h1, h2, h3, h4, h5⟩ := hS; go_simp⟩, fun _ => rfl⟩ hS ?_
          simp only [upd]
          refine anyHF_take (i := 2) (d := 101) (v := .int .i64 (wn : Int)) (by kernel_rfl) rfl (by kernel_rfl) (by kernel_rfl) (by kernel_rfl) rfl (fun _ _ _ h => h) ⟨Or.inl ⟨by rfl, fun w hS => by obtain ⟨h0, h1, h2, h3, h4, h5⟩ := hS; go_simp⟩, fun _ => rfl⟩ hS ?_
          simp only [upd]
          refine anyHF_take (i := 3) (d := 102) (v := .bool false) (by kernel_rfl) rfl (by kernel_rfl) (by kernel_rfl) (by kernel_rfl) rfl (fun _ _ _ h => h) ⟨Or.inl ⟨by rfl, fun w hS => by obtain ⟨h0, h1, h2, h3, h4, h5⟩ := hS; (go_simp <;> omega)⟩, fun _ => rfl⟩ hS ?_
          simp only [upd]
          refine anyHF_take (i := 4) (d := 103) (v := .bool false) (by kernel_rfl) rfl (by kernel_rfl) (by kernel_rfl) (by kernel_rfl) rfl (fun _ _ _ h => h) ⟨Or.inl ⟨by rfl, fun w hS => by obtain ⟨h0, h1, h2, h3, h4, h5⟩ := hS; go_simp⟩, fun _ => rfl⟩ hS ?_
          simp only [upd]
          refine anyHF_take (i := 5) (d := 104) (v := .agg #[.int .i64 zx, .int .i64 zy]) (by kernel_rfl) rfl (by kernel_rfl) (by kernel_rfl) (by kernel_rfl) rfl (fun _ _ _ h => h) ⟨Or.inl ⟨by rfl, fun w hS => by obtain ⟨h0, h1, h2, h3, h4, h5⟩ := hS; go_simp⟩, fun _ => rfl⟩ hS ?_
          simp only [upd]
          refine anyHF_take (i := 6) (d := 105) (v := .slice (some ⟨gw, 0, none⟩) wn cw) (by kernel_rfl) rfl (by kernel_rfl) (by kernel_rfl) (by kernel_rfl) rfl (fun _ _ _ h => h) ⟨Or.inl ⟨by rfl, fun w hS => by obtain ⟨h0, h1, h2, h3, h4, h5⟩ := hS; go_simp⟩, fun _ => rfl⟩ hS ?_
          simp only [upd]
          refine anyHF_take (i := 7) (d := 106) (v := .int .i64 (pre.length : Int)) (by kernel_rfl) rfl (by kernel_rfl) (by kernel_rfl) (by kernel_rfl) rfl (fun _ _ _ h => h) ⟨Or.inl ⟨by rfl, fun w hS => by obtain ⟨h0, h1, h2, h3, h4, h5⟩ := hS; go_simp⟩, fun _ => rfl⟩ hS ?_
          simp only [upd]
          refine anyHF_take (i := 8) (d := 107) (v := .pointer (some ⟨gw, pre.length * 2, none⟩)) (by kernel_rfl) rfl (by kernel_rfl) (by kernel_rfl) (by kernel_rfl) rfl (fun _ _ _ h => h) ⟨Or.inl ⟨by rfl, fun w hS => by obtain ⟨h0, h1, h2, h3, h4, h5⟩ := hS; (go_simp <;> omega)⟩, fun _ => rfl⟩ hS ?_
          simp only [upd]
          refine anyHF_take (i := 9) (d := 108) (v := .agg #[.int .i64 zx, .int .i64 zy]) (by kernel_rfl) rfl (by kernel_rfl) (by kernel_rfl) (by kernel_rfl) rfl (fun _ _ _ h => h) ⟨Or.inl ⟨by rfl, fun w hS => by obtain ⟨h0, h1, h2, h3, h4, h5⟩ := hS; go_simp⟩, fun _ => rfl⟩ hS ?_
          simp only [upd]
          refine anyHF_take (i := 10) (d := 109) (v := .bool false) (by kernel_rfl) rfl (by kernel_rfl) (by kernel_rfl) (by kernel_rfl) rfl (fun _ _ _ h => h) ⟨Or.inl ⟨by rfl, fun w hS => by obtain ⟨h0, h1, h2, h3, h4, h5⟩ := hS; (go_simp <;> omega)⟩, fun _ => rfl⟩ hS ?_
          simp only [upd]
          refine anyHF_take (i := 11) (d := 110) (v := .bool false) (by kernel_rfl) rfl (by kernel_rfl) (by kernel_rfl) (by kernel_rfl) rfl (fun _ _ _ h => h) ⟨Or.inl ⟨by rfl, fun w hS => by obtain ⟨h0, h1, h2, h3, h4, h5⟩ := hS; go_simp⟩, fun _ => rfl⟩ hS ?_
          simp only [upd]
          refine anyHF_done (by kernel_rfl) ?_ _
          clear hS
          gi_wp2
          exact ⟨none, .inl rfl, hss2, hks2, rfl, ⟨HN.out, trivial⟩, hT.out⟩
        · have hx2 : ¬ (zx = yx ∧ zy = yy) := fun e => hx (by rw [e.1, e.2])
          have HN := Lib.hid (prefix_not (L := wl) (pre := pre) (z := (zx, zy)) (fun e => hx (by rw [hget2.out] at e; injection e with e; exact e.symm)))
          clear hpre hn hB hke hse hbsz hXY
          gi_wp2
          have hS : (fun U : World => U.cell? ⟨V1B.heap.size, 0, none⟩ = some (.int .i64 (pre.length : Int)) ∧ U.cell? ⟨w5.heap.size, 0, none⟩ = some (.slice (some ⟨gw, 0, none⟩) wn cw) ∧ U.cell? ⟨gx, 0, none⟩ = some (.int .i64 zx) ∧ U.cell? ⟨gx, 1, none⟩ = some (.int .i64 zy) ∧ U.cell? ⟨gw, pre.length * 2, none⟩ = some (.int .i64 yx) ∧ U.cell? ⟨gw, pre.length * 2 + 1, none⟩ = some (.int .i64 yy)) Y := ⟨cn, cwx, k0, k1, x0, x1⟩
          refine region_HF (S := (fun U : World => U.cell? ⟨V1B.heap.size, 0, none⟩ = some (.int .i64 (pre.length : Int)) ∧ U.cell? ⟨w5.heap.size, 0, none⟩ = some (.slice (some ⟨gw, 0, none⟩) wn cw) ∧ U.cell? ⟨gx, 0, none⟩ = some (.int .i64 zx) ∧ U.cell? ⟨gx, 1, none⟩ = some (.int .i64 zy) ∧ U.cell? ⟨gw, pre.length * 2, none⟩ = some (.int .i64 yx) ∧ U.cell? ⟨gw, pre.length * 2 + 1, none⟩ = some (.int .i64 yy))) (by kernel_rfl) ?_
          rw [HY.out]
          refine anyHF_take (i := 0) (d := 99) (v := .int .i64 (pre.length : Int)) (by kernel_rfl) rfl (by kernel_rfl) (by kernel_rfl) (by kernel_rfl) rfl (fun _ _ _ h => h) ⟨Or.inl ⟨by rfl, fun w hS => by obtain ⟨h0, h1, h2, h3, h4, h5⟩ := hS; go_simp⟩, fun _ => rfl⟩ hS ?_
          simp only [upd]
          refine anyHF_take (i := 1) (d := 100) (v := .slice (some ⟨gw, 0, none⟩) wn cw) (by kernel_rfl) rfl (by kernel_rfl) (by kernel_rfl) (by kernel_rfl) rfl (fun _ _ _ h => h) ⟨Or.inl ⟨by rfl, fun w hS => by obtain ⟨h0, h1, h2, h3, h4, h5⟩ := hS; go_simp⟩, fun _ => rfl⟩ hS ?_
          simp only [upd]
          refine anyHF_take (i := 2) (d := 101) (v := .int .i64 (wn : Int)) (by kernel_rfl) rfl (by kernel_rfl) (by kernel_rfl) (by kernel_rfl) rfl (fun _ _ _ h => h) ⟨Or.inl ⟨by rfl, fun w hS => by obtain ⟨h0, h1, h2, h3, h4, h5⟩ := hS; go_simp⟩, fun _ => rfl⟩ hS ?_
          simp only [upd]
          refine anyHF_take (i := 3) (d := 102) (v := .bool false) (by kernel_rfl) rfl (by kernel_rfl) (by kernel_rfl) (by kernel_rfl) rfl (fun _ _ _ h => h) ⟨Or.inl ⟨by rfl, fun w hS => by obtain ⟨h0, h1, h2, h3, h4, h5⟩ := hS; (go_simp <;> omega)⟩, fun _ => rfl⟩ hS ?_
          simp only [upd]
          refine anyHF_take (i := 4) (d := 103) (v := .bool false) (by kernel_rfl) rfl (by kernel_rfl) (by kernel_rfl) (by kernel_rfl) rfl (fun _ _ _ h => h) ⟨Or.inl ⟨by rfl, fun w hS => by obtain ⟨h0, h1, h2, h3, h4, h5⟩ := hS; go_simp⟩, fun _ => rfl⟩ hS ?_
          simp only [upd]
          refine anyHF_take (i := 5) (d := 104) (v := .agg #[.int .i64 zx, .int .i64 zy]) (by kernel_rfl) rfl (by kernel_rfl) (by kernel_rfl) (by kernel_rfl) rfl (fun _ _ _ h => h) ⟨Or.inl ⟨by rfl, fun w hS => by obtain ⟨h0, h1, h2, h3, h4, h5⟩ := hS; go_simp⟩, fun _ => rfl⟩ hS ?_
          simp only [upd]
          refine anyHF_take (i := 6) (d := 105) (v := .slice (some ⟨gw, 0, none⟩) wn cw) (by kernel_rfl) rfl (by kernel_rfl) (by kernel_rfl) (by kernel_rfl) rfl (fun _ _ _ h => h) ⟨Or.inl ⟨by rfl, fun w hS => by obtain ⟨h0, h1, h2, h3, h4, h5⟩ := hS; go_simp⟩, fun _ => rfl⟩ hS ?_
          simp only [upd]
          refine anyHF_take (i := 7) (d := 106) (v := .int .i64 (pre.length : Int)) (by kernel_rfl) rfl (by kernel_rfl) (by kernel_rfl) (by kernel_rfl) rfl (fun _ _ _ h => h) ⟨Or.inl ⟨by rfl, fun w hS => by obtain ⟨h0, h1, h2, h3, h4, h5⟩ := hS; go_simp⟩, fun _ => rfl⟩ hS ?_
          simp only [upd]
          refine anyHF_take (i := 8) (d := 107) (v := .pointer (some ⟨gw, pre.length * 2, none⟩)) (by kernel_rfl) rfl (by kernel_rfl) (by kernel_rfl) (by kernel_rfl) rfl (fun _ _ _ h => h) ⟨Or.inl ⟨by rfl, fun w hS => by obtain ⟨h0, h1, h2, h3, h4, h5⟩ := hS; (go_simp <;> omega)⟩, fun _ => rfl⟩ hS ?_
          simp only [upd]
          refine anyHF_take (i := 9) (d := 108) (v := .agg #[.int .i64 yx, .int .i64 yy]) (by kernel_rfl) rfl (by kernel_rfl) (by kernel_rfl) (by kernel_rfl) rfl (fun _ _ _ h => h) ⟨Or.inl ⟨by rfl, fun w hS => by obtain ⟨h0, h1, h2, h3, h4, h5⟩ := hS; go_simp⟩, fun _ => rfl⟩ hS ?_
          simp only [upd]
          refine anyHF_take (i := 10) (d := 109) (v := .bool true) (by kernel_rfl) rfl (by kernel_rfl) (by kernel_rfl) (by kernel_rfl) rfl (fun _ _ _ h => h) ⟨Or.inl ⟨by rfl, fun w hS => by obtain ⟨h0, h1, h2, h3, h4, h5⟩ := hS; (go_simp <;> omega)⟩, fun _ => rfl⟩ hS ?_
          simp only [upd]
          refine anyHF_take (i := 11) (d := 110) (v := .bool true) (by kernel_rfl) rfl (by kernel_rfl) (by kernel_rfl) (by kernel_rfl) rfl (fun _ _ _ h => h) ⟨Or.inl ⟨by rfl, fun w hS => by obtain ⟨h0, h1, h2, h3, h4, h5⟩ := hS; go_simp⟩, fun _ => rfl⟩ hS ?_
          simp only [upd]
          refine anyHF_done (by kernel_rfl) ?_ _
          clear hS
          gi_wp2
          exact ⟨none, .inl rfl, hss, hks, rfl, .inl ⟨rfl, HN.out⟩, fun e => by cases e⟩
      · have dp : decide ((wn : Int) ≤ (pre.length : Int)) = true := decide_eq_true (by omega)
        have HN := Lib.hid (prefix_not (L := wl) (pre := pre) (z := (zx, zy)) (fun e => by rw [List.getElem?_eq_none (by rw [HWN.out]; omega)] at e; cases e))
        clear hpre hn hB hke hse hbsz hXY f4
        gi_wp2
        have hS : (fun U : World => U.cell? ⟨V1B.heap.size, 0, none⟩ = some (.int .i64 (pre.length : Int)) ∧ U.cell? ⟨w5.heap.size, 0, none⟩ = some (.slice Aw wn cw) ∧ U.cell? ⟨gx, 0, none⟩ = some (.int .i64 zx) ∧ U.cell? ⟨gx, 1, none⟩ = some (.int .i64 zy)) Y := ⟨cn, cwx, k0, k1⟩
        refine region_HF (S := (fun U : World => U.cell? ⟨V1B.heap.size, 0, none⟩ = some (.int .i64 (pre.length : Int)) ∧ U.cell? ⟨w5.heap.size, 0, none⟩ = some (.slice Aw wn cw) ∧ U.cell? ⟨gx, 0, none⟩ = some (.int .i64 zx) ∧ U.cell? ⟨gx, 1, none⟩ = some (.int .i64 zy))) (by kernel_rfl) ?_
        rw [HY.out]
        refine anyHF_take (i := 0) (d := 99) (v := .int .i64 (pre.length : Int)) (by kernel_rfl) rfl (by kernel_rfl) (by kernel_rfl) (by kernel_rfl) rfl (fun _ _ _ h => h) ⟨Or.inl ⟨by rfl, fun w hS => by obtain ⟨h0, h1, h2, h3⟩ := hS; go_simp⟩, fun _ => rfl⟩ hS ?_
        simp only [upd]
        refine anyHF_take (i := 1) (d := 100) (v := .slice Aw wn cw) (by kernel_rfl) rfl (by kernel_rfl) (by kernel_rfl) (by kernel_rfl) rfl (fun _ _ _ h => h) ⟨Or.inl ⟨by rfl, fun w hS => by obtain ⟨h0, h1, h2, h3⟩ := hS; go_simp⟩, fun _ => rfl⟩ hS ?_
        simp only [upd]
        refine anyHF_take (i := 2) (d := 101) (v := .int .i64 (wn : Int)) (by kernel_rfl) rfl (by kernel_rfl) (by kernel_rfl) (by kernel_rfl) rfl (fun _ _ _ h => h) ⟨Or.inl ⟨by rfl, fun w hS => by obtain ⟨h0, h1, h2, h3⟩ := hS; go_simp⟩, fun _ => rfl⟩ hS ?_
        simp only [upd]
        refine anyHF_take (i := 3) (d := 102) (v := .bool true) (by kernel_rfl) rfl (by kernel_rfl) (by kernel_rfl) (by kernel_rfl) rfl (fun _ _ _ h => h) ⟨Or.inl ⟨by rfl, fun w hS => by obtain ⟨h0, h1, h2, h3⟩ := hS; (go_simp <;> omega)⟩, fun _ => rfl⟩ hS ?_
        simp only [upd]
        refine anyHF_take (i := 4) (d := 103) (v := .bool true) (by kernel_rfl) rfl (by kernel_rfl) (by kernel_rfl) (by kernel_rfl) rfl (fun _ _ _ h => h) ⟨Or.inl ⟨by rfl, fun w hS => by obtain ⟨h0, h1, h2, h3⟩ := hS; go_simp⟩, fun _ => rfl⟩ hS ?_
        simp only [upd]
        refine anyHF_take (i := 5) (d := 104) (v := undef) (by kernel_rfl) rfl (by kernel_rfl) (by kernel_rfl) (by kernel_rfl) rfl (fun _ _ _ h => h) ⟨Or.inr ⟨by rfl, rfl⟩, fun _ => rfl⟩ hS ?_
        simp only [upd]
        refine anyHF_take (i := 6) (d := 105) (v := undef) (by kernel_rfl) rfl (by kernel_rfl) (by kernel_rfl) (by kernel_rfl) rfl (fun _ _ _ h => h) ⟨Or.inr ⟨by rfl, rfl⟩, fun _ => rfl⟩ hS ?_
        simp only [upd]
        refine anyHF_take (i := 7) (d := 106) (v := undef) (by kernel_rfl) rfl (by kernel_rfl) (by kernel_rfl) (by kernel_rfl) rfl (fun _ _ _ h => h) ⟨Or.inr ⟨by rfl, rfl⟩, fun _ => rfl⟩ hS ?_
        simp only [upd]
        refine anyHF_take (i := 8) (d := 107) (v := undef) (by kernel_rfl) rfl (by kernel_rfl) (by kernel_rfl) (by kernel_rfl) rfl (fun _ _ _ h => h) ⟨Or.inr ⟨by rfl, rfl⟩, fun _ => rfl⟩ hS ?_
        simp only [upd]
        refine anyHF_take (i := 9) (d := 108) (v := undef) (by kernel_rfl) rfl (by kernel_rfl) (by kernel_rfl) (by kernel_rfl) rfl (fun _ _ _ h => h) ⟨Or.inr ⟨by rfl, rfl⟩, fun _ => rfl⟩ hS ?_
        simp only [upd]
        refine anyHF_take (i := 10) (d := 109) (v := undef) (by kernel_rfl) rfl (by kernel_rfl) (by kernel_rfl) (by kernel_rfl) rfl (fun _ _ _ h => h) ⟨Or.inr ⟨by rfl, rfl⟩, fun _ => rfl⟩ hS ?_
        simp only [upd]
        refine anyHF_take (i := 11) (d := 110) (v := .bool true) (by kernel_rfl) rfl (by kernel_rfl) (by kernel_rfl) (by kernel_rfl) rfl (fun _ _ _ h => h) ⟨Or.inl ⟨by rfl, fun w hS => by obtain ⟨h0, h1, h2, h3⟩ := hS; go_simp⟩, fun _ => rfl⟩ hS ?_
        simp only [upd]
        refine anyHF_done (by kernel_rfl) ?_ _
        clear hS
        gi_wp2
        exact ⟨none, .inl rfl, hss, hks, rfl, .inl ⟨rfl, HN.out⟩, fun e => by cases e⟩
    case doneB =>
      rintro DB xs o X hD hfo hxs hI hK hne
      rw [hxs] at hI
      obtain ⟨rfl, ⟨hpre, hcnd⟩, hn, hB⟩ := hI
      rw [HWN.out] at hn
      clear hpre hfo hxs
      obtain ⟨f1, f2, f3, f4, f5, f6, fB, fs⟩ := F1.next hB
      have cn := hn.one
      have cwx := f3.one
      have ctx := (ct1.below hB ct1.lt).one
      have cmx := f1.one
      have lt0 := hB.size
      have hne1 : ((wn : Int) != (wn : Int)) = false := by simp
      have fV := F1.2.2.2.2.2.2.2
      gi_wp2
      clear cn cwx ctx cmx f1 f2 f3 f4 f5 f6 fB fs
      obtain ⟨V2B, hVn⟩ : ∃ Y, X.alloc (.cells #[.int .i64 2] 3) = Y := ⟨_, rfl⟩
      rw [hVn]
      have hBn : Below V1B.heap.size V1B V2B := by rw [← hVn]; exact hB.alloc hB.size _
      have ct2 : Blk V2B X.heap.size 3 #[.int .i64 2] := by rw [← hVn]; exact Blk.new _ _ _
      have hDn : V2B.heap[DB]? = some (.deferred (some [])) := by rw [← hVn]; exact (Below.heap_alloc X _ DB (Array.getElem?_eq_some_iff.1 hK).1).trans hK
      have HL2 := HL1.more hBn (D := DB) (by omega) (by omega) hDn
      have F2 := F1.next hBn
      clear hVn hBn hDn hK hn hB ct1 F1 HL1 hne fV lt0
      clear hne1 hcnd
      rw [roundsIn_succ]
      obtain ⟨f1, f2, f3, f4, f5, f6, fB, fs⟩ := id F2
      have ctx := ct2.one
      gi_wp2_with fail
      go_wp2_with fail
      refine (Go.Proofs.YtggdlklkjnbbjaaGreatDoor.R.works_any _ (HLW.out _ fB)).mono ?_
      rintro e wf ⟨rfl, hBf⟩
      have f2f := f2.below hBf f2.lt
      have crx := f2f.one
      have frx := f2f.frozen 0
      have hb3 := f2f.set_ 0 (.bool true)
      have hLf := (HL2.below hBf).set_ ⟨w.heap.size + 1, 0, none⟩ (.bool true)
      have hBz : Below w.heap.size w (wf.setCell ⟨w.heap.size + 1, 0, none⟩ (.bool true)) := (below_in fB hBf).setCell (by simp) _
      go_wp2
      refine leaves_blks w _ _ hLf hBz (fun W' hB' hk => ?_)
      have r0 := (hk _ _ _ hb3).one
      exact ⟨.bool true, by simp [results, Tryz.results7, go_sem, r0], rfl, hB'⟩
    case stopB =>
      rintro D c pre o X hD hfo hsp hI hK hne
      obtain ⟨rfl, hor, htold⟩ := hI
      rcases hor with ⟨rfl, h⟩ | h
      · exact absurd hsp h
      · exact h.elim
  case stopA =>
    rintro DA c pre o X hD hfo hsp hI hK hne
    obtain ⟨rfl, hor, htold⟩ := hI
    rcases hor with ⟨rfl, h⟩ | ⟨rfl, hx1, hx2, hx3, hpre⟩
    · exact absurd hsp h
    obtain ⟨hn, hB⟩ := htold rfl
    have hple := hpre.length_le
    rw [HWN.out] at hple
    clear hsp hpre htold hfo
    obtain ⟨f1, f2, f3, f4, f5, f6, fB, fs⟩ := F0.next hB
    have cn := hn.one
    have cwx := f3.one
    have ctx := (ct0.below hB ct0.lt).one
    have cmx := f1.one
    have lt0 := hB.size
    have hmin : ((pre.length : Int) != min (wn : Int) (max 1 many)) = false := by rw [bne_eq_false_iff_eq]; rcases hx2 with h | h <;> omega
    have fV := F0.2.2.2.2.2.2.2
    gi_wp2
    clear cn cwx ctx cmx f1 f2 f3 f4 f5 f6 fB fs
    obtain ⟨V1C, hVn⟩ : ∃ Y, X.alloc (.cells #[.int .i64 1] 3) = Y := ⟨_, rfl⟩
    rw [hVn]
    have hBn : Below V0.heap.size V0 V1C := by rw [← hVn]; exact hB.alloc hB.size _
    have ct1 : Blk V1C X.heap.size 3 #[.int .i64 1] := by rw [← hVn]; exact Blk.new _ _ _
    have hDn : V1C.heap[DA]? = some (.deferred (some [])) := by rw [← hVn]; exact (Below.heap_alloc X _ DA (Array.getElem?_eq_some_iff.1 hK).1).trans hK
    have HL1 := HL0.more hBn (D := DA) (by omega) (by omega) hDn
    have F1 := F0.next hBn
    clear hVn hBn hDn hK hn hB ct0 F0 HL0 hne fV lt0
    clear hmin hx1 hx2 hx3 hple
    rw [roundsIn_succ]
    obtain ⟨f1, f2, f3, f4, f5, f6, fB, fs⟩ := id F1
    have ct := ct1.one
    have hlt1 := f1.lt
    have hlt2 := f2.lt
    have hlt3 := f3.lt
    have hlt5 := f5.lt
    have hltt := ct1.lt
    have hef := eql_wrongs gs (V1C.alloc (.cells #[.int .i64 0] 3))
    gi_wp2_with fail
    have hn0 : Blk (V1C.alloc (.cells #[.int .i64 0] 3)) V1C.heap.size 3 #[.int .i64 (([] : List (Int × Int)).length : Int)] := Blk.new _ _ _
    have hBa := below_one V1C (.cells #[.int .i64 0] 3)
    have Fa := F1.next hBa
    clear hef ct
    obtain ⟨VaC, hVa⟩ : ∃ X, V1C.alloc (.cells #[.int .i64 0] 3) = X := ⟨_, rfl⟩
    rw [hVa] at hn0 hBa Fa ⊢
    clear hVa
    have hna := hn0.lt
    have hSQ := Lib.hid (fun n => values_seqP gs V1C.heap.size us wl (by rw [HWN.out]; omega) VaC Fa.2.2.2.2.1 (by omega) Fa.2.2.2.2.2.1 (read_apart Fa.2.2.2.2.2.1 hn0) n)
    have hFI : Hid (FarO VaC.heap.size (fun (pre : List (Int × Int)) (o : Option Nat) X => o = none ∧ (pre <+: wl ∧ True) ∧ Blk X V1C.heap.size 3 #[.int .i64 (pre.length : Int)] ∧ Below V1C.heap.size V1C X)) := by
      rintro s o X Y row ⟨h2, hq, h3, h4⟩ hgr hr
      exact ⟨h2, hq, farO_blkV (by omega) h3 hgr hr, h4.grown hgr h4.size (fun r e => by have := (hr r e).1; omega)⟩
    have hFX : Hid (∀ c : Code, FarO VaC.heap.size (fun (pre : List (Int × Int)) (o : Option Nat) X => o = none ∧ ((c = .ret ∧ ¬ (pre <+: wl)) ∨ False) ∧ (c = .exit 2 → Blk X V1C.heap.size 3 #[.int .i64 (pre.length : Int)] ∧ Below V1C.heap.size V1C X))) := by
      rintro c s o X Y row ⟨h2, hq, h34⟩ hgr hr
      exact ⟨h2, hq, fun hc => ⟨farO_blkV (by omega) (h34 hc).1 hgr hr, (h34 hc).2.grown hgr (h34 hc).2.size (fun r e => by have := (hr r e).1; omega)⟩⟩
    clear f1 f2 f3 f4 f5 f6 fB Fa
    refine wpIn_rangeBoxQ rfl (by omega) (gf := 124) (lb := #[.pointer (some ⟨gs, 0, none⟩)]) rfl trivial Go.Proofs.YtggdlklkjnbbjaaGreatDoor.R.enter_values0 (hSQ.out _ (by omega)) (fun h h' => h.trans h') (fun X l ob hl _ hlp => KeepP.putFar X (by omega) ob) (Below.refl _ _) (fun _ => rfl)
      (fun pre o X => o = none ∧ (pre <+: wl ∧ True) ∧ Blk X V1C.heap.size 3 #[.int .i64 (pre.length : Int)] ∧ Below V1C.heap.size V1C X)
      (fun c pre o X => o = none ∧ ((c = .ret ∧ ¬ (pre <+: wl)) ∨ False) ∧ (c = .exit 2 → Blk X V1C.heap.size 3 #[.int .i64 (pre.length : Int)] ∧ Below V1C.heap.size V1C X))
      hFI.out hFX.out none (fun b e => by cases e) ⟨rfl, ⟨List.nil_prefix, trivial⟩, hn0, hBa⟩
      56 (fun z => #[.int .i64 z.1, .int .i64 z.2]) ?actC ?assignC
      (fun pre o X h => by obtain ⟨rfl, _⟩ := h; intro b e; cases e) (fun c pre o X h => by obtain ⟨rfl, _⟩ := h; intro b e; cases e) ?bodyC ?doneC ?stopC
    case assignC =>
      intro l' pre z o X K hsz ho hI2 hok hK
      have hlay := below_one X (.cells #[.int .i64 z.1, .int .i64 z.2] 56)
      have hbz := Blk.new X 56 #[.int .i64 z.1, .int .i64 z.2]
      have hkp : KeepP (fun b => b < VaC.heap.size ∧ b ≠ V1C.heap.size) X (X.alloc (.cells #[.int .i64 z.1, .int .i64 z.2] 56)) := KeepP.below hlay (fun b hb => by have := hb.1; omega)
      have hI3 := hFI.out.lay hI2 (.cells #[.int .i64 z.1, .int .i64 z.2] 56)
      have hsi := SinceO.below (B := VaC.heap.size) (o := o) hlay
      obtain ⟨gx, hgx⟩ : ∃ gx, Hid (X.heap.size = gx) := ⟨_, rfl⟩
      unfold encA
      gi_wp2_with fail
      rw [hgx.out] at hbz ⊢
      exact hK gx _ hsi hkp hI3 hbz
    case bodyC =>
      rintro l' pre z o gx X hsz ⟨rfl, ⟨hpre, hcnd⟩, hn, hB⟩ hbg hlen
      obtain ⟨zx, zy⟩ := z
      have hXY : Below X.heap.size X X.drew := (Below.refl _ _).drew
      obtain ⟨Y, hY⟩ : ∃ Y, X.drew = Y := ⟨_, rfl⟩
      rw [hY] at hXY
      have HY := Lib.hid hY
      clear hY
      have hke : KeepP (fun b => b < VaC.heap.size ∧ b ≠ V1C.heap.size) X Y := KeepP.below hXY (fun b hb => by have := hb.1; omega)
      have hse : SinceO VaC.heap.size none X Y := SinceO.below hXY
      replace hn := hn.below hXY hn.lt
      replace hB := below_in hB hXY
      replace hbg := hbg.below hXY hbg.lt
      replace hsz := Nat.le_trans hsz hXY.size
      obtain ⟨f1, f2, f3, f4, f5, f6, fB, fs⟩ := F1.next hB
      have cn := hn.one
      have fn := hn.frozen 0
      have cwx := f3.one
      have ctx := (ct1.below hB ct1.lt).one
      have cmx := f1.one
      have crx := f2.one
      have frx := f2.frozen 0
      have k0 := hbg.cell 0
      have k1 := hbg.cell 1
      simp only [List.getElem?_toArray, List.getElem?_cons_zero, List.getElem?_cons_succ] at k0 k1
      have hbsz := hB.size
      have hple := hpre.length_le
      rw [HWN.out] at hple
      have hks : KeepP (fun b => b < VaC.heap.size ∧ b ≠ V1C.heap.size) X (Y.setCell ⟨w.heap.size + 1, 0, none⟩ (.bool false)) := hke.trans (keepP_same f2)
      have hss : SinceO VaC.heap.size none X (Y.setCell ⟨w.heap.size + 1, 0, none⟩ (.bool false)) := hse.trans_ ⟨by simp, fun b h1 h2 h3 => Below.heap_setCell Y _ (.bool false) b (by simp; omega)⟩
      clear f1 f2 f3 f5 f6 fB hbg
      by_cases hp : pre.length < wn
      · obtain ⟨q4, cap4, e4, hA4⟩ := f4
        have hpw : pre.length < wl.length := by rw [HWN.out]; exact hp
        obtain ⟨gw, hq4, hgw, x0, x1⟩ := hA4 pre.length hpw
        have hget : wl[pre.length]? = some wl[pre.length] := List.getElem?_eq_getElem hpw
        clear hA4
        obtain ⟨yx, yy, hyz⟩ : ∃ yx yy, wl[pre.length] = (yx, yy) := ⟨_, _, rfl⟩
        rw [hyz] at x0 x1 hget
        clear hyz hpw
        have e5 : Aw = some ⟨gw, 0, none⟩ := by injection e4 with e6 _ _; rw [e6, hq4]
        clear e4 hq4
        subst e5
        have dp : decide ((wn : Int) ≤ (pre.length : Int)) = false := decide_eq_false (by omega)
        have hget2 := Lib.hid hget
        clear hget
        by_cases hx : (zx, zy) = (yx, yy)
        · injection hx with hx1 hx2
          subst hx1 hx2
          have HN := Lib.hid (prefix_next hpre hget2.out)
          have hl1 : Hid (((pre ++ [(zx, zy)]).length : Int) = (pre.length : Int) + 1) := by unfold Hid; rw [List.length_append]; rfl
          have hks2 : KeepP (fun b => b < VaC.heap.size ∧ b ≠ V1C.heap.size) X (Y.setCell ⟨V1C.heap.size, 0, none⟩ (.int .i64 ((pre.length : Int) + 1))) := hke.trans (KeepP.setFar Y (by simp) _)
          have hss2 : SinceO VaC.heap.size none X (Y.setCell ⟨V1C.heap.size, 0, none⟩ (.int .i64 ((pre.length : Int) + 1))) := hse.trans_ ⟨by simp, fun b h1 h2 h3 => Below.heap_setCell Y _ (.int .i64 ((pre.length : Int) + 1)) b (by simp; omega)⟩
          have hT : Hid (Blk (Y.setCell ⟨V1C.heap.size, 0, none⟩ (.int .i64 ((pre.length : Int) + 1))) V1C.heap.size 3 #[.int .i64 ((pre ++ [(zx, zy)]).length : Int)] ∧ Below V1C.heap.size V1C (Y.setCell ⟨V1C.heap.size, 0, none⟩ (.int .i64 ((pre.length : Int) + 1)))) := by
            unfold Hid
            rw [hl1.out]
            exact ⟨hn.set_ 0 _, hB.setCell (Nat.le_refl _) _⟩
          clear hpre hn hB hke hse hks hss hbsz hXY
          gi_wp2
          have hS : (fun U : World => U.cell? ⟨V1C.heap.size, 0, none⟩ = some (.int .i64 (pre.length : Int)) ∧ U.cell? ⟨w5.heap.size, 0, none⟩ = some (.slice (some ⟨gw, 0, none⟩) wn cw) ∧ U.cell? ⟨gx, 0, none⟩ = some (.int .i64 zx) ∧ U.cell? ⟨gx, 1, none⟩ = some (.int .i64 zy) ∧ U.cell? ⟨gw, pre.length * 2, none⟩ = some (.int .i64 zx) ∧ U.cell? ⟨gw, pre.length * 2 + 1, none⟩ = some (.int .i64 zy)) Y := ⟨cn, cwx, k0, k1, x0, x1⟩
          refine region_HF (S := (fun U : World => U.cell? ⟨V1C.heap.size, 0, none⟩ = some (.int .i64 (pre.length : Int)) ∧ U.cell? ⟨w5.heap.size, 0, none⟩ = some (.slice (some ⟨gw, 0, none⟩) wn cw) ∧ U.cell? ⟨gx, 0, none⟩ = some (.int .i64 zx) ∧ U.cell? ⟨gx, 1, none⟩ = some (.int .i64 zy) ∧ U.cell? ⟨gw, pre.length * 2, none⟩ = some (.int .i64 zx) ∧ U.cell? ⟨gw, pre.length * 2 + 1, none⟩ = some (.int .i64 zy))) (by kernel_rfl) ?_
          rw [HY.out]
          refine anyHF_take (i := 0) (d := 99) (v := .int .i64 (pre.length : Int)) (by kernel_rfl) rfl (by kernel_rfl) (by kernel_rfl) (by kernel_rfl) rfl (fun _ _ _ h => h) ⟨Or.inl ⟨by rfl, fun w hS => by obtain ⟨h0, h1, h2, h3, h4, h5⟩ := hS; go_simp⟩, fun _ => rfl⟩ hS ?_
          simp only [upd]
          refine anyHF_take (i := 1) (d := 100) (v := .slice (some ⟨gw, 0, none⟩) wn cw) (by kernel_rfl) rfl (by kernel_rfl) (by kernel_rfl) (by kernel_rfl) rfl (fun _ _ _ h => h) ⟨Or.inl ⟨by rfl, fun w hS => by obtain ⟨h0, h1, h2, h3, h4, h5⟩ := hS; go_simp⟩, fun _ => rfl⟩ hS ?_
          simp only [upd]
          refine anyHF_take (i := 2) (d := 101) (v := .int .i64 (wn : Int)) (by kernel_rfl) rfl (by kernel_rfl) (by kernel_rfl) (by kernel_rfl) rfl (fun _ _ _ h => h) ⟨Or.inl ⟨by rfl, fun w hS => by obtain ⟨h0, h1, h2, h3, h4, h5⟩ := hS; go_simp⟩, fun _ => rfl⟩ hS ?_
          simp only [upd]
          refine anyHF_take (i := 3) (d := 102) (v := .bool false) (by kernel_rfl) rfl (by kernel_rfl) (by kernel_rfl) (by kernel_rfl) rfl (fun _ _ _ h => h) ⟨Or.inl ⟨by rfl, fun w hS => by obtain ⟨h0, h1, h2, h3, h4, h5⟩ := hS; (go_simp <;> omega)⟩, fun _ => rfl⟩ hS ?_
          simp only [upd]
          refine anyHF_take (i := 4) (d := 103) (v := .bool false) (by kernel_rfl) rfl (by kernel_rfl) (by kernel_rfl) (by kernel_rfl) rfl (fun _ _ _ h => h) ⟨Or.inl ⟨by rfl, fun w hS => by obtain ⟨h0, h1, h2, h3, h4, h5⟩ := hS; go_simp⟩, fun _ => rfl⟩ hS ?_
          simp only [upd]
          refine anyHF_take (i := 5) (d := 104) (v := .agg #[.int .i64 zx, .int .i64 zy]) (by kernel_rfl) rfl (by kernel_rfl) (by kernel_rfl) (by kernel_rfl) rfl (fun _ _ _ h => h) ⟨Or.inl ⟨by rfl, fun w hS => by obtain ⟨h0, h1, h2, h3, h4, h5⟩ := hS; go_simp⟩, fun _ => rfl⟩ hS ?_
          simp only [upd]
          refine anyHF_take (i := 6) (d := 105) (v := .slice (some ⟨gw, 0, none⟩) wn cw) (by kernel_rfl) rfl (by kernel_rfl) (by kernel_rfl) (by kernel_rfl) rfl (fun _ _ _ h => h) ⟨Or.inl ⟨by rfl, fun w hS => by obtain ⟨h0, h1, h2, h3, h4, h5⟩ := hS; go_simp⟩, fun _ => rfl⟩ hS ?_
          simp only [upd]
          refine anyHF_take (i := 7) (d := 106) (v := .int .i64 (pre.length : Int)) (by kernel_rfl) rfl (by kernel_rfl) (by kernel_rfl) (by kernel_rfl) rfl (fun _ _ _ h => h) ⟨Or.inl ⟨by rfl, fun w hS => by obtain ⟨h0, h1, h2, h3, h4, h5⟩ := hS; go_simp⟩, fun _ => rfl⟩ hS ?_
          simp only [upd]
          refine anyHF_take (i := 8) (d := 107) (v := .pointer (some ⟨gw, pre.length * 2, none⟩)) (by kernel_rfl) rfl (by kernel_rfl) (by kernel_rfl) (by kernel_rfl) rfl (fun _ _ _ h => h) ⟨Or.inl ⟨by rfl, fun w hS => by obtain ⟨h0, h1, h2, h3, h4, h5⟩ := hS; (go_simp <;> omega)⟩, fun _ => rfl⟩ hS ?_
          simp only [upd]
          refine anyHF_take (i := 9) (d := 108) (v := .agg #[.int .i64 zx, .int .i64 zy]) (by kernel_rfl) rfl (by kernel_rfl) (by kernel_rfl) (by kernel_rfl) rfl (fun _ _ _ h => h) ⟨Or.inl ⟨by rfl, fun w hS => by obtain ⟨h0, h1, h2, h3, h4, h5⟩ := hS; go_simp⟩, fun _ => rfl⟩ hS ?_
          simp only [upd]
          refine anyHF_take (i := 10) (d := 109) (v := .bool false) (by kernel_rfl) rfl (by kernel_rfl) (by kernel_rfl) (by kernel_rfl) rfl (fun _ _ _ h => h) ⟨Or.inl ⟨by rfl, fun w hS => by obtain ⟨h0, h1, h2, h3, h4, h5⟩ := hS; (go_simp <;> omega)⟩, fun _ => rfl⟩ hS ?_
          simp only [upd]
          refine anyHF_take (i := 11) (d := 110) (v := .bool false) (by kernel_rfl) rfl (by kernel_rfl) (by kernel_rfl) (by kernel_rfl) rfl (fun _ _ _ h => h) ⟨Or.inl ⟨by rfl, fun w hS => by obtain ⟨h0, h1, h2, h3, h4, h5⟩ := hS; go_simp⟩, fun _ => rfl⟩ hS ?_
          simp only [upd]
          refine anyHF_done (by kernel_rfl) ?_ _
          clear hS
          gi_wp2
          exact ⟨none, .inl rfl, hss2, hks2, rfl, ⟨HN.out, trivial⟩, hT.out⟩
        · have hx2 : ¬ (zx = yx ∧ zy = yy) := fun e => hx (by rw [e.1, e.2])
          have HN := Lib.hid (prefix_not (L := wl) (pre := pre) (z := (zx, zy)) (fun e => hx (by rw [hget2.out] at e; injection e with e; exact e.symm)))
          clear hpre hn hB hke hse hbsz hXY
          gi_wp2
          have hS : (fun U : World => U.cell? ⟨V1C.heap.size, 0, none⟩ = some (.int .i64 (pre.length : Int)) ∧ U.cell? ⟨w5.heap.size, 0, none⟩ = some (.slice (some ⟨gw, 0, none⟩) wn cw) ∧ U.cell? ⟨gx, 0, none⟩ = some (.int .i64 zx) ∧ U.cell? ⟨gx, 1, none⟩ = some (.int .i64 zy) ∧ U.cell? ⟨gw, pre.length * 2, none⟩ = some (.int .i64 yx) ∧ U.cell? ⟨gw, pre.length * 2 + 1, none⟩ = some (.int .i64 yy)) Y := ⟨cn, cwx, k0, k1, x0, x1⟩
          refine region_HF (S := (fun U : World => U.cell? ⟨V1C.heap.size, 0, none⟩ = some (.int .i64 (pre.length : Int)) ∧ U.cell? ⟨w5.heap.size, 0, none⟩ = some (.slice (some ⟨gw, 0, none⟩) wn cw) ∧ U.cell? ⟨gx, 0, none⟩ = some (.int .i64 zx) ∧ U.cell? ⟨gx, 1, none⟩ = some (.int .i64 zy) ∧ U.cell? ⟨gw, pre.length * 2, none⟩ = some (.int .i64 yx) ∧ U.cell? ⟨gw, pre.length * 2 + 1, none⟩ = some (.int .i64 yy))) (by kernel_rfl) ?_
          rw [HY.out]
          refine anyHF_take (i := 0) (d := 99) (v := .int .i64 (pre.length : Int)) (by kernel_rfl) rfl (by kernel_rfl) (by kernel_rfl) (by kernel_rfl) rfl (fun _ _ _ h => h) ⟨Or.inl ⟨by rfl, fun w hS => by obtain ⟨h0, h1, h2, h3, h4, h5⟩ := hS; go_simp⟩, fun _ => rfl⟩ hS ?_
          simp only [upd]
          refine anyHF_take (i := 1) (d := 100) (v := .slice (some ⟨gw, 0, none⟩) wn cw) (by kernel_rfl) rfl (by kernel_rfl) (by kernel_rfl) (by kernel_rfl) rfl (fun _ _ _ h => h) ⟨Or.inl ⟨by rfl, fun w hS => by obtain ⟨h0, h1, h2, h3, h4, h5⟩ := hS; go_simp⟩, fun _ => rfl⟩ hS ?_
          simp only [upd]
          refine anyHF_take (i := 2) (d := 101) (v := .int .i64 (wn : Int)) (by kernel_rfl) rfl (by kernel_rfl) (by kernel_rfl) (by kernel_rfl) rfl (fun _ _ _ h => h) ⟨Or.inl ⟨by rfl, fun w hS => by obtain ⟨h0, h1, h2, h3, h4, h5⟩ := hS; go_simp⟩, fun _ => rfl⟩ hS ?_
          simp only [upd]
          refine anyHF_take (i := 3) (d := 102) (v := .bool false) (by kernel_rfl) rfl (by kernel_rfl) (by kernel_rfl) (by kernel_rfl) rfl (fun _ _ _ h => h) ⟨Or.inl ⟨by rfl, fun w hS => by obtain ⟨h0, h1, h2, h3, h4, h5⟩ := hS; (go_simp <;> omega)⟩, fun _ => rfl⟩ hS ?_
          simp only [upd]
          refine anyHF_take (i := 4) (d := 103) (v := .bool false) (by kernel_rfl) rfl (by kernel_rfl) (by kernel_rfl) (by kernel_rfl) rfl (fun _ _ _ h => h) ⟨Or.inl ⟨by rfl, fun w hS => by obtain ⟨h0, h1, h2, h3, h4, h5⟩ := hS; go_simp⟩, fun _ => rfl⟩ hS ?_
          simp only [upd]
          refine anyHF_take (i := 5) (d := 104) (v := .agg #[.int .i64 zx, .int .i64 zy]) (by kernel_rfl) rfl (by kernel_rfl) (by kernel_rfl) (by kernel_rfl) rfl (fun _ _ _ h => h) ⟨Or.inl ⟨by rfl, fun w hS => by obtain ⟨h0, h1, h2, h3, h4, h5⟩ := hS; go_simp⟩, fun _ => rfl⟩ hS ?_
          simp only [upd]
          refine anyHF_take (i := 6) (d := 105) (v := .slice (some ⟨gw, 0, none⟩) wn cw) (by kernel_rfl) rfl (by kernel_rfl) (by kernel_rfl) (by kernel_rfl) rfl (fun _ _ _ h => h) ⟨Or.inl ⟨by rfl, fun w hS => by obtain ⟨h0, h1, h2, h3, h4, h5⟩ := hS; go_simp⟩, fun _ => rfl⟩ hS ?_
          simp only [upd]
          refine anyHF_take (i := 7) (d := 106) (v := .int .i64 (pre.length : Int)) (by kernel_rfl) rfl (by kernel_rfl) (by kernel_rfl) (by kernel_rfl) rfl (fun _ _ _ h => h) ⟨Or.inl ⟨by rfl, fun w hS => by obtain ⟨h0, h1, h2, h3, h4, h5⟩ := hS; go_simp⟩, fun _ => rfl⟩ hS ?_
          simp only [upd]
          refine anyHF_take (i := 8) (d := 107) (v := .pointer (some ⟨gw, pre.length * 2, none⟩)) (by kernel_rfl) rfl (by kernel_rfl) (by kernel_rfl) (by kernel_rfl) rfl (fun _ _ _ h => h) ⟨Or.inl ⟨by rfl, fun w hS => by obtain ⟨h0, h1, h2, h3, h4, h5⟩ := hS; (go_simp <;> omega)⟩, fun _ => rfl⟩ hS ?_
          simp only [upd]
          refine anyHF_take (i := 9) (d := 108) (v := .agg #[.int .i64 yx, .int .i64 yy]) (by kernel_rfl) rfl (by kernel_rfl) (by kernel_rfl) (by kernel_rfl) rfl (fun _ _ _ h => h) ⟨Or.inl ⟨by rfl, fun w hS => by obtain ⟨h0, h1, h2, h3, h4, h5⟩ := hS; go_simp⟩, fun _ => rfl⟩ hS ?_
          simp only [upd]
          refine anyHF_take (i := 10) (d := 109) (v := .bool true) (by kernel_rfl) rfl (by kernel_rfl) (by kernel_rfl) (by kernel_rfl) rfl (fun _ _ _ h => h) ⟨Or.inl ⟨by rfl, fun w hS => by obtain ⟨h0, h1, h2, h3, h4, h5⟩ := hS; (go_simp <;> omega)⟩, fun _ => rfl⟩ hS ?_
          simp only [upd]
          refine anyHF_take (i := 11) (d := 110) (v := .bool true) (by kernel_rfl) rfl (by kernel_rfl) (by kernel_rfl) (by kernel_rfl) rfl (fun _ _ _ h => h) ⟨Or.inl ⟨by rfl, fun w hS => by obtain ⟨h0, h1, h2, h3, h4, h5⟩ := hS; go_simp⟩, fun _ => rfl⟩ hS ?_
          simp only [upd]
          refine anyHF_done (by kernel_rfl) ?_ _
          clear hS
          gi_wp2
          exact ⟨none, .inl rfl, hss, hks, rfl, .inl ⟨rfl, HN.out⟩, fun e => by cases e⟩
      · have dp : decide ((wn : Int) ≤ (pre.length : Int)) = true := decide_eq_true (by omega)
        have HN := Lib.hid (prefix_not (L := wl) (pre := pre) (z := (zx, zy)) (fun e => by rw [List.getElem?_eq_none (by rw [HWN.out]; omega)] at e; cases e))
        clear hpre hn hB hke hse hbsz hXY f4
        gi_wp2
        have hS : (fun U : World => U.cell? ⟨V1C.heap.size, 0, none⟩ = some (.int .i64 (pre.length : Int)) ∧ U.cell? ⟨w5.heap.size, 0, none⟩ = some (.slice Aw wn cw) ∧ U.cell? ⟨gx, 0, none⟩ = some (.int .i64 zx) ∧ U.cell? ⟨gx, 1, none⟩ = some (.int .i64 zy)) Y := ⟨cn, cwx, k0, k1⟩
        refine region_HF (S := (fun U : World => U.cell? ⟨V1C.heap.size, 0, none⟩ = some (.int .i64 (pre.length : Int)) ∧ U.cell? ⟨w5.heap.size, 0, none⟩ = some (.slice Aw wn cw) ∧ U.cell? ⟨gx, 0, none⟩ = some (.int .i64 zx) ∧ U.cell? ⟨gx, 1, none⟩ = some (.int .i64 zy))) (by kernel_rfl) ?_
        rw [HY.out]
        refine anyHF_take (i := 0) (d := 99) (v := .int .i64 (pre.length : Int)) (by kernel_rfl) rfl (by kernel_rfl) (by kernel_rfl) (by kernel_rfl) rfl (fun _ _ _ h => h) ⟨Or.inl ⟨by rfl, fun w hS => by obtain ⟨h0, h1, h2, h3⟩ := hS; go_simp⟩, fun _ => rfl⟩ hS ?_
        simp only [upd]
        refine anyHF_take (i := 1) (d := 100) (v := .slice Aw wn cw) (by kernel_rfl) rfl (by kernel_rfl) (by kernel_rfl) (by kernel_rfl) rfl (fun _ _ _ h => h) ⟨Or.inl ⟨by rfl, fun w hS => by obtain ⟨h0, h1, h2, h3⟩ := hS; go_simp⟩, fun _ => rfl⟩ hS ?_
        simp only [upd]
        refine anyHF_take (i := 2) (d := 101) (v := .int .i64 (wn : Int)) (by kernel_rfl) rfl (by kernel_rfl) (by kernel_rfl) (by kernel_rfl) rfl (fun _ _ _ h => h) ⟨Or.inl ⟨by rfl, fun w hS => by obtain ⟨h0, h1, h2, h3⟩ := hS; go_simp⟩, fun _ => rfl⟩ hS ?_
        simp only [upd]
        refine anyHF_take (i := 3) (d := 102) (v := .bool true) (by kernel_rfl) rfl (by kernel_rfl) (by kernel_rfl) (by kernel_rfl) rfl (fun _ _ _ h => h) ⟨Or.inl ⟨by rfl, fun w hS => by obtain ⟨h0, h1, h2, h3⟩ := hS; (go_simp <;> omega)⟩, fun _ => rfl⟩ hS ?_
        simp only [upd]
        refine anyHF_take (i := 4) (d := 103) (v := .bool true) (by kernel_rfl) rfl (by kernel_rfl) (by kernel_rfl) (by kernel_rfl) rfl (fun _ _ _ h => h) ⟨Or.inl ⟨by rfl, fun w hS => by obtain ⟨h0, h1, h2, h3⟩ := hS; go_simp⟩, fun _ => rfl⟩ hS ?_
        simp only [upd]
        refine anyHF_take (i := 5) (d := 104) (v := undef) (by kernel_rfl) rfl (by kernel_rfl) (by kernel_rfl) (by kernel_rfl) rfl (fun _ _ _ h => h) ⟨Or.inr ⟨by rfl, rfl⟩, fun _ => rfl⟩ hS ?_
        simp only [upd]
        refine anyHF_take (i := 6) (d := 105) (v := undef) (by kernel_rfl) rfl (by kernel_rfl) (by kernel_rfl) (by kernel_rfl) rfl (fun _ _ _ h => h) ⟨Or.inr ⟨by rfl, rfl⟩, fun _ => rfl⟩ hS ?_
        simp only [upd]
        refine anyHF_take (i := 7) (d := 106) (v := undef) (by kernel_rfl) rfl (by kernel_rfl) (by kernel_rfl) (by kernel_rfl) rfl (fun _ _ _ h => h) ⟨Or.inr ⟨by rfl, rfl⟩, fun _ => rfl⟩ hS ?_
        simp only [upd]
        refine anyHF_take (i := 8) (d := 107) (v := undef) (by kernel_rfl) rfl (by kernel_rfl) (by kernel_rfl) (by kernel_rfl) rfl (fun _ _ _ h => h) ⟨Or.inr ⟨by rfl, rfl⟩, fun _ => rfl⟩ hS ?_
        simp only [upd]
        refine anyHF_take (i := 9) (d := 108) (v := undef) (by kernel_rfl) rfl (by kernel_rfl) (by kernel_rfl) (by kernel_rfl) rfl (fun _ _ _ h => h) ⟨Or.inr ⟨by rfl, rfl⟩, fun _ => rfl⟩ hS ?_
        simp only [upd]
        refine anyHF_take (i := 10) (d := 109) (v := undef) (by kernel_rfl) rfl (by kernel_rfl) (by kernel_rfl) (by kernel_rfl) rfl (fun _ _ _ h => h) ⟨Or.inr ⟨by rfl, rfl⟩, fun _ => rfl⟩ hS ?_
        simp only [upd]
        refine anyHF_take (i := 11) (d := 110) (v := .bool true) (by kernel_rfl) rfl (by kernel_rfl) (by kernel_rfl) (by kernel_rfl) rfl (fun _ _ _ h => h) ⟨Or.inl ⟨by rfl, fun w hS => by obtain ⟨h0, h1, h2, h3⟩ := hS; go_simp⟩, fun _ => rfl⟩ hS ?_
        simp only [upd]
        refine anyHF_done (by kernel_rfl) ?_ _
        clear hS
        gi_wp2
        exact ⟨none, .inl rfl, hss, hks, rfl, .inl ⟨rfl, HN.out⟩, fun e => by cases e⟩
    case doneC =>
      rintro DC xs o X hD hfo hxs hI hK hne
      rw [hxs] at hI
      obtain ⟨rfl, ⟨hpre, hcnd⟩, hn, hB⟩ := hI
      rw [HWN.out] at hn
      clear hpre hfo hxs
      obtain ⟨f1, f2, f3, f4, f5, f6, fB, fs⟩ := F1.next hB
      have cn := hn.one
      have cwx := f3.one
      have ctx := (ct1.below hB ct1.lt).one
      have cmx := f1.one
      have lt0 := hB.size
      have hne1 : ((wn : Int) != (wn : Int)) = false := by simp
      have fV := F1.2.2.2.2.2.2.2
      gi_wp2
      clear cn cwx ctx cmx f1 f2 f3 f4 f5 f6 fB fs
      obtain ⟨V2C, hVn⟩ : ∃ Y, X.alloc (.cells #[.int .i64 2] 3) = Y := ⟨_, rfl⟩
      rw [hVn]
      have hBn : Below V1C.heap.size V1C V2C := by rw [← hVn]; exact hB.alloc hB.size _
      have ct2 : Blk V2C X.heap.size 3 #[.int .i64 2] := by rw [← hVn]; exact Blk.new _ _ _
      have hDn : V2C.heap[DC]? = some (.deferred (some [])) := by rw [← hVn]; exact (Below.heap_alloc X _ DC (Array.getElem?_eq_some_iff.1 hK).1).trans hK
      have HL2 := HL1.more hBn (D := DC) (by omega) (by omega) hDn
      have F2 := F1.next hBn
      clear hVn hBn hDn hK hn hB ct1 F1 HL1 hne fV lt0
      clear hne1 hcnd
      rw [roundsIn_succ]
      obtain ⟨f1, f2, f3, f4, f5, f6, fB, fs⟩ := id F2
      have ctx := ct2.one
      gi_wp2_with fail
      go_wp2_with fail
      refine (Go.Proofs.YtggdlklkjnbbjaaGreatDoor.R.works_any _ (HLW.out _ fB)).mono ?_
      rintro e wf ⟨rfl, hBf⟩
      have f2f := f2.below hBf f2.lt
      have crx := f2f.one
      have frx := f2f.frozen 0
      have hb3 := f2f.set_ 0 (.bool true)
      have hLf := (HL2.below hBf).set_ ⟨w.heap.size + 1, 0, none⟩ (.bool true)
      have hBz : Below w.heap.size w (wf.setCell ⟨w.heap.size + 1, 0, none⟩ (.bool true)) := (below_in fB hBf).setCell (by simp) _
      go_wp2
      refine leaves_blks w _ _ hLf hBz (fun W' hB' hk => ?_)
      have r0 := (hk _ _ _ hb3).one
      exact ⟨.bool true, by simp [results, Tryz.results7, go_sem, r0], rfl, hB'⟩
    case stopC =>
      rintro D c pre o X hD hfo hsp hI hK hne
      obtain ⟨rfl, hor, htold⟩ := hI
      rcases hor with ⟨rfl, h⟩ | h
      · exact absurd hsp h
      · exact h.elim

open Go.Proofs.YtggdlklkjnbbjaaGreatDoor.E Go.Proofs.YtggdlklkjnbbjaaGreatDoor.C Go.Proofs.YtggdlklkjnbbjaaGreatDoor.R in
set_option maxRecDepth 100000 in
set_option maxHeartbeats 4000000 in
theorem n3 (p : Int) (v : Value) (css : List (List (List UInt8))) (many : Int) (w : World) (hL : Laid w) (wp : -9223372036854775808 ≤ p ∧ p ≤ 9223372036854775807) (hC : Cols w.heap.size w v css) (wm : -9223372036854775808 ≤ many ∧ many ≤ 9223372036854775807) (hf0 : Few6 css) (hno : ¬ AllR p css) (hr0 : RightD p css) :
    Calls Tryz.prog 7 #[.int .i64 p, v, .int .i64 many] w fun e w' => e = .returned (.bool true) ∧ Below w.heap.size w w' := by
  obtain ⟨A, cap, rfl, _, _⟩ := id hC
  obtain ⟨W2, hW2⟩ : ∃ W2, (w.alloc (.cells #[.int .i64 many] 3)).alloc (.cells #[.bool false] 4) = W2 := ⟨_, rfl⟩
  have bm : Blk W2 w.heap.size 3 #[.int .i64 many] := by rw [← hW2]; exact (Blk.new w _ _).alloc _
  have bb : Blk W2 (w.heap.size + 1) 4 #[.bool false] := by rw [← hW2]; exact Blk.second w _ _ _
  have hB2 : Below w.heap.size w W2 := by rw [← hW2]; exact below_two w _ _
  have s2 : W2.heap.size = w.heap.size + 2 := by rw [← hW2]; simp
  have HS2 := Lib.hid s2
  clear s2
  have hlen : css.length ≤ 1000 := by have := hf0.1; omega
  have hcl : ∀ j, j < css.length → (css[j]?.getD []).length ≤ 1000 := fun j hj => by have := (hf0.2 j hj).1; omega
  have HF0 := Lib.hid (fun (U : World) (hU : Below w.heap.size w U) => few6_any (.slice A css.length cap) css U (hC.below hU) true (by simp [hf0]))
  have hq : ¬ (css.length : Int) = p + 1 := fun e => hno ⟨hr0, e⟩
  have hpp := prm_bounds hr0.1
  have q2 : wrap64 (p + 1) = p + 1 := IntWalk.wrap64_in _ (by omega)
  have HCK := Lib.hid (fun (U : World) (hU : Below w.heap.size w U) => check_no (B := w.heap.size) p (.slice A css.length cap) css U (hL.next hU) hU.size (hC.below hU) hlen hcl hno)
  have HLE := Lib.hid (fun (U : World) (hU : Below w.heap.size w U) => left_no (B := w.heap.size) p (.slice A css.length cap) css U (hL.next hU) hU.size (hC.below hU) hlen hcl hno)
  have HRT := Lib.hid (fun (U : World) (hU : Below w.heap.size w U) => right6_any (B := w.heap.size) p (.slice A css.length cap) css U hU.size (hC.below hU) hlen true (by simp [hr0]))
  have HWS := Lib.hid (fun (U : World) (hU : Below w.heap.size w U) => wrongs_no (B := w.heap.size) p (.slice A css.length cap) css U (hL.next hU) hU.size (hC.below hU) hlen hcl hno)
  have HLW := Lib.hid (fun (U : World) (hU : Below w.heap.size w U) => hL.next hU)
  clear hf0 hC hno hr0 hlen hcl
  generalize css.length = na at *
  refine (callsIn_wide (n := 9)).1 ?_
  refine callsIn_of_wp_marks Tryz.func7 rfl trivial ?_ rfl
  simp only [Tryz.ntmps7, List.size_toArray, List.length_cons, List.length_nil, Nat.reduceAdd, Nat.reduceSub, Array.replicate_succ, Array.replicate_zero, List.push_toArray, List.append_toArray, List.nil_append, List.cons_append]
  refine (wpIn_wide (n := 9)).2 ?_
  go_wp2_with fail
  try rw [hW2]
  go_wp2_with (first
    | (go_at_call 10; refine (HF0.out _ hB2).mono ?_; rintro e w' ⟨rfl, rfl⟩)
    | (go_at_call 31; refine (HCK.out _ hB2).mono ?_; rintro e w3 ⟨rfl, hBn⟩; have hB3 := below_in hB2 hBn; have hD3 := hBn)
    | (go_at_call 32; refine (HLE.out _ hB3).mono ?_; rintro e w4 ⟨rfl, hBn⟩; have hB4 := below_in hB3 hBn; have hD4 := below_in hD3 hBn)
    | (go_at_call 15; refine (HRT.out _ hB4).mono ?_; rintro e w5 ⟨rfl, hBn⟩; have hB5 := below_in hB4 hBn; have hD5 := below_in hD4 hBn; have hB6 := below_in hB5 (below_one w5 (.cells #[.slice none 0 0] 49)); have hD6 := below_in hD5 (below_one w5 (.cells #[.slice none 0 0] 49)); have bw6 := Blk.new w5 49 #[.slice none 0 0])
    | (go_at_call 29; refine (Go.Proofs.YtggdlklkjnbbjaaGreatDoor.R.num_any _ _).mono ?_; rintro e w' ⟨rfl, rfl⟩)
    | (go_at_call 35; refine (HWS.out _ hB6).mono ?_; rintro e w7 ⟨gs, us, rfl, hbs, hrs, hBn⟩; have hB7 := below_in hB6 hBn; have hD7 := below_in hD6 hBn; have bw7 := bw6.below hBn bw6.lt))
  obtain ⟨Aw, wn, cw, hsw⟩ : ∃ Aw wn cw, Value.slice none 0 0 = .slice Aw wn cw := ⟨_, _, _, rfl⟩
  obtain ⟨wl, hwl0⟩ : ∃ wl : List (Int × Int), [] = wl := ⟨_, rfl⟩
  have HWN : Hid (wl.length = wn) := by injection hsw with _ h _; rw [← hwl0]; exact h
  have hrw : ReadA w7 (.slice Aw wn cw) wl := by rw [← hsw, ← hwl0]; exact ⟨none, 0, rfl, fun j hj => by cases hj⟩
  have hwl : wn ≤ 500 := by have := HWN.out; rw [← hwl0] at this; simp at this; omega
  rw [hsw] at bw7
  rw [hwl0] at hrs
  clear hsw hwl0
  have FQ : TurnF w w7 many w5.heap.size (.slice Aw wn cw) gs us wl := ⟨bm.below hD7 bm.lt, bb.below hD7 bb.lt, bw7, hrw, hbs, hrs, hB7, by have := hD7.size; have := HS2.out; omega⟩
  clear HF0 HCK HLE HRT HWS bm bb hB2 bw6 bw7 hBn hB3 hB4 hB5 hB6 hB7 hD3 hD4 hD5 hD6 hD7 hrw hbs hrs HS2 hW2
  obtain ⟨V0, hV0⟩ : ∃ V0, w7.alloc (.cells #[.int .i64 0] 3) = V0 := ⟨_, rfl⟩
  rw [hV0]
  have hB70 : Below w7.heap.size w7 V0 := by rw [← hV0]; exact below_one w7 _
  have ct0 : Blk V0 w7.heap.size 3 #[.int .i64 0] := by rw [← hV0]; exact Blk.new _ _ _
  have F0 := FQ.next hB70
  have HL0 := Left.nil w.heap.size V0
  clear hV0 FQ hB70
  refine (wpIn_wide (n := 9)).1 ?_
  refine wpIn_loop_rounds 3 ?_
  rw [roundsIn_succ]
  obtain ⟨f1, f2, f3, f4, f5, f6, fB, fs⟩ := id F0
  have ct := ct0.one
  have hlt1 := f1.lt
  have hlt2 := f2.lt
  have hlt3 := f3.lt
  have hlt5 := f5.lt
  have hltt := ct0.lt
  have hef := eql_wrongs gs (V0.alloc (.cells #[.int .i64 0] 3))
  gi_wp2_with fail
  have hn0 : Blk (V0.alloc (.cells #[.int .i64 0] 3)) V0.heap.size 3 #[.int .i64 (([] : List (Int × Int)).length : Int)] := Blk.new _ _ _
  have hBa := below_one V0 (.cells #[.int .i64 0] 3)
  have Fa := F0.next hBa
  clear hef ct
  obtain ⟨VaA, hVa⟩ : ∃ X, V0.alloc (.cells #[.int .i64 0] 3) = X := ⟨_, rfl⟩
  rw [hVa] at hn0 hBa Fa ⊢
  clear hVa
  have hna := hn0.lt
  have hSQ := Lib.hid (fun n => values_seqP gs V0.heap.size us wl (by rw [HWN.out]; omega) VaA Fa.2.2.2.2.1 (by omega) Fa.2.2.2.2.2.1 (read_apart Fa.2.2.2.2.2.1 hn0) n)
  have hFI : Hid (FarO VaA.heap.size (fun (pre : List (Int × Int)) (o : Option Nat) X => o = none ∧ (pre <+: wl ∧ (pre.length = 0 ∨ (pre.length : Int) < many)) ∧ Blk X V0.heap.size 3 #[.int .i64 (pre.length : Int)] ∧ Below V0.heap.size V0 X)) := by
    rintro s o X Y row ⟨h2, hq, h3, h4⟩ hgr hr
    exact ⟨h2, hq, farO_blkV (by omega) h3 hgr hr, h4.grown hgr h4.size (fun r e => by have := (hr r e).1; omega)⟩
  have hFX : Hid (∀ c : Code, FarO VaA.heap.size (fun (pre : List (Int × Int)) (o : Option Nat) X => o = none ∧ ((c = .ret ∧ ¬ (pre <+: wl)) ∨ (c = .exit 2 ∧ 1 ≤ pre.length ∧ (pre.length = 1 ∨ (pre.length : Int) - 1 < many) ∧ many ≤ (pre.length : Int) ∧ pre <+: wl)) ∧ (c = .exit 2 → Blk X V0.heap.size 3 #[.int .i64 (pre.length : Int)] ∧ Below V0.heap.size V0 X))) := by
    rintro c s o X Y row ⟨h2, hq, h34⟩ hgr hr
    exact ⟨h2, hq, fun hc => ⟨farO_blkV (by omega) (h34 hc).1 hgr hr, (h34 hc).2.grown hgr (h34 hc).2.size (fun r e => by have := (hr r e).1; omega)⟩⟩
  clear f1 f2 f3 f4 f5 f6 fB Fa
  refine wpIn_rangeBoxQ rfl (by omega) (gf := 124) (lb := #[.pointer (some ⟨gs, 0, none⟩)]) rfl trivial Go.Proofs.YtggdlklkjnbbjaaGreatDoor.R.enter_values0 (hSQ.out _ (by omega)) (fun h h' => h.trans h') (fun X l ob hl _ hlp => KeepP.putFar X (by omega) ob) (Below.refl _ _) (fun _ => rfl)
    (fun pre o X => o = none ∧ (pre <+: wl ∧ (pre.length = 0 ∨ (pre.length : Int) < many)) ∧ Blk X V0.heap.size 3 #[.int .i64 (pre.length : Int)] ∧ Below V0.heap.size V0 X)
    (fun c pre o X => o = none ∧ ((c = .ret ∧ ¬ (pre <+: wl)) ∨ (c = .exit 2 ∧ 1 ≤ pre.length ∧ (pre.length = 1 ∨ (pre.length : Int) - 1 < many) ∧ many ≤ (pre.length : Int) ∧ pre <+: wl)) ∧ (c = .exit 2 → Blk X V0.heap.size 3 #[.int .i64 (pre.length : Int)] ∧ Below V0.heap.size V0 X))
    hFI.out hFX.out none (fun b e => by cases e) ⟨rfl, ⟨List.nil_prefix, .inl rfl⟩, hn0, hBa⟩
    56 (fun z => #[.int .i64 z.1, .int .i64 z.2]) ?actA ?assignA
    (fun pre o X h => by obtain ⟨rfl, _⟩ := h; intro b e; cases e) (fun c pre o X h => by obtain ⟨rfl, _⟩ := h; intro b e; cases e) ?bodyA ?doneA ?stopA
  case assignA =>
    intro l' pre z o X K hsz ho hI2 hok hK
    have hlay := below_one X (.cells #[.int .i64 z.1, .int .i64 z.2] 56)
    have hbz := Blk.new X 56 #[.int .i64 z.1, .int .i64 z.2]
    have hkp : KeepP (fun b => b < VaA.heap.size ∧ b ≠ V0.heap.size) X (X.alloc (.cells #[.int .i64 z.1, .int .i64 z.2] 56)) := KeepP.below hlay (fun b hb => by have := hb.1; omega)
    have hI3 := hFI.out.lay hI2 (.cells #[.int .i64 z.1, .int .i64 z.2] 56)
    have hsi := SinceO.below (B := VaA.heap.size) (o := o) hlay
    obtain ⟨gx, hgx⟩ : ∃ gx, Hid (X.heap.size = gx) := ⟨_, rfl⟩
    unfold encA
    gi_wp2_with fail
    rw [hgx.out] at hbz ⊢
    exact hK gx _ hsi hkp hI3 hbz
  case bodyA =>
    rintro l' pre z o gx X hsz ⟨rfl, ⟨hpre, hcnd⟩, hn, hB⟩ hbg hlen
    obtain ⟨zx, zy⟩ := z
    have hXY : Below X.heap.size X X.drew := (Below.refl _ _).drew
    obtain ⟨Y, hY⟩ : ∃ Y, X.drew = Y := ⟨_, rfl⟩
    rw [hY] at hXY
    have HY := Lib.hid hY
    clear hY
    have hke : KeepP (fun b => b < VaA.heap.size ∧ b ≠ V0.heap.size) X Y := KeepP.below hXY (fun b hb => by have := hb.1; omega)
    have hse : SinceO VaA.heap.size none X Y := SinceO.below hXY
    replace hn := hn.below hXY hn.lt
    replace hB := below_in hB hXY
    replace hbg := hbg.below hXY hbg.lt
    replace hsz := Nat.le_trans hsz hXY.size
    obtain ⟨f1, f2, f3, f4, f5, f6, fB, fs⟩ := F0.next hB
    have cn := hn.one
    have fn := hn.frozen 0
    have cwx := f3.one
    have ctx := (ct0.below hB ct0.lt).one
    have cmx := f1.one
    have crx := f2.one
    have frx := f2.frozen 0
    have k0 := hbg.cell 0
    have k1 := hbg.cell 1
    simp only [List.getElem?_toArray, List.getElem?_cons_zero, List.getElem?_cons_succ] at k0 k1
    have hbsz := hB.size
    have hple := hpre.length_le
    rw [HWN.out] at hple
    have hks : KeepP (fun b => b < VaA.heap.size ∧ b ≠ V0.heap.size) X (Y.setCell ⟨w.heap.size + 1, 0, none⟩ (.bool false)) := hke.trans (keepP_same f2)
    have hss : SinceO VaA.heap.size none X (Y.setCell ⟨w.heap.size + 1, 0, none⟩ (.bool false)) := hse.trans_ ⟨by simp, fun b h1 h2 h3 => Below.heap_setCell Y _ (.bool false) b (by simp; omega)⟩
    clear f1 f2 f3 f5 f6 fB hbg
    by_cases hp : pre.length < wn
    · obtain ⟨q4, cap4, e4, hA4⟩ := f4
      have hpw : pre.length < wl.length := by rw [HWN.out]; exact hp
      obtain ⟨gw, hq4, hgw, x0, x1⟩ := hA4 pre.length hpw
      have hget : wl[pre.length]? = some wl[pre.length] := List.getElem?_eq_getElem hpw
      clear hA4
      obtain ⟨yx, yy, hyz⟩ : ∃ yx yy, wl[pre.length] = (yx, yy) := ⟨_, _, rfl⟩
      rw [hyz] at x0 x1 hget
      clear hyz hpw
      have e5 : Aw = some ⟨gw, 0, none⟩ := by injection e4 with e6 _ _; rw [e6, hq4]
      clear e4 hq4
      subst e5
      have dp : decide ((wn : Int) ≤ (pre.length : Int)) = false := decide_eq_false (by omega)
      have hget2 := Lib.hid hget
      clear hget
      by_cases hx : (zx, zy) = (yx, yy)
      · injection hx with hx1 hx2
        subst hx1 hx2
        have HN := Lib.hid (prefix_next hpre hget2.out)
        have hl1 : Hid (((pre ++ [(zx, zy)]).length : Int) = (pre.length : Int) + 1) := by unfold Hid; rw [List.length_append]; rfl
        have hks2 : KeepP (fun b => b < VaA.heap.size ∧ b ≠ V0.heap.size) X (Y.setCell ⟨V0.heap.size, 0, none⟩ (.int .i64 ((pre.length : Int) + 1))) := hke.trans (KeepP.setFar Y (by simp) _)
        have hss2 : SinceO VaA.heap.size none X (Y.setCell ⟨V0.heap.size, 0, none⟩ (.int .i64 ((pre.length : Int) + 1))) := hse.trans_ ⟨by simp, fun b h1 h2 h3 => Below.heap_setCell Y _ (.int .i64 ((pre.length : Int) + 1)) b (by simp; omega)⟩
        have hT : Hid (Blk (Y.setCell ⟨V0.heap.size, 0, none⟩ (.int .i64 ((pre.length : Int) + 1))) V0.heap.size 3 #[.int .i64 ((pre ++ [(zx, zy)]).length : Int)] ∧ Below V0.heap.size V0 (Y.setCell ⟨V0.heap.size, 0, none⟩ (.int .i64 ((pre.length : Int) + 1)))) := by
          unfold Hid
          rw [hl1.out]
          exact ⟨hn.set_ 0 _, hB.setCell (Nat.le_refl _) _⟩
        clear hpre hn hB hke hse hks hss hbsz hXY
        by_cases hm : many ≤ (pre.length : Int) + 1
        · have dm : decide (many ≤ (pre.length : Int) + 1) = true := decide_eq_true hm
          gi_wp2
          have hS : (fun U : World => U.cell? ⟨V0.heap.size, 0, none⟩ = some (.int .i64 (pre.length : Int)) ∧ U.cell? ⟨w5.heap.size, 0, none⟩ = some (.slice (some ⟨gw, 0, none⟩) wn cw) ∧ U.cell? ⟨gx, 0, none⟩ = some (.int .i64 zx) ∧ U.cell? ⟨gx, 1, none⟩ = some (.int .i64 zy) ∧ U.cell? ⟨gw, pre.length * 2, none⟩ = some (.int .i64 zx) ∧ U.cell? ⟨gw, pre.length * 2 + 1, none⟩ = some (.int .i64 zy)) Y := ⟨cn, cwx, k0, k1, x0, x1⟩
          refine region_HF (S := (fun U : World => U.cell? ⟨V0.heap.size, 0, none⟩ = some (.int .i64 (pre.length : Int)) ∧ U.cell? ⟨w5.heap.size, 0, none⟩ = some (.slice (some ⟨gw, 0, none⟩) wn cw) ∧ U.cell? ⟨gx, 0, none⟩ = some (.int .i64 zx) ∧ U.cell? ⟨gx, 1, none⟩ = some (.int .i64 zy) ∧ U.cell? ⟨gw, pre.length * 2, none⟩ = some (.int .i64 zx) ∧ U.cell? ⟨gw, pre.length * 2 + 1, none⟩ = some (.int .i64 zy))) (by kernel_rfl) ?_
          rw [HY.out]
          refine anyHF_take (i := 0) (d := 99) (v := .int .i64 (pre.length : Int)) (by kernel_rfl) rfl (by kernel_rfl) (by kernel_rfl) (by kernel_rfl) rfl (fun _ _ _ h => h) ⟨Or.inl ⟨by rfl, fun w hS => by obtain ⟨h0, h1, h2, h3, h4, h5⟩ := hS; go_simp⟩, fun _ => rfl⟩ hS ?_
          simp only [upd]
          refine anyHF_take (i := 1) (d := 100) (v := .slice (some ⟨gw, 0, none⟩) wn cw) (by kernel_rfl) rfl (by kernel_rfl) (by kernel_rfl) (by kernel_rfl) rfl (fun _ _ _ h => h) ⟨Or.inl ⟨by rfl, fun w hS => by obtain ⟨h0, h1, h2, h3, h4, h5⟩ := hS; go_simp⟩, fun _ => rfl⟩ hS ?_
          simp only [upd]
          refine anyHF_take (i := 2) (d := 101) (v := .int .i64 (wn : Int)) (by kernel_rfl) rfl (by kernel_rfl) (by kernel_rfl) (by kernel_rfl) rfl (fun _ _ _ h => h) ⟨Or.inl ⟨by rfl, fun w hS => by obtain ⟨h0, h1, h2, h3, h4, h5⟩ := hS; go_simp⟩, fun _ => rfl⟩ hS ?_
          simp only [upd]
          refine anyHF_take (i := 3) (d := 102) (v := .bool false) (by kernel_rfl) rfl (by kernel_rfl) (by kernel_rfl) (by kernel_rfl) rfl (fun _ _ _ h => h) ⟨Or.inl ⟨by rfl, fun w hS => by obtain ⟨h0, h1, h2, h3, h4, h5⟩ := hS; (go_simp <;> omega)⟩, fun _ => rfl⟩ hS ?_
          simp only [upd]
          refine anyHF_take (i := 4) (d := 103) (v := .bool false) (by kernel_rfl) rfl (by kernel_rfl) (by kernel_rfl) (by kernel_rfl) rfl (fun _ _ _ h => h) ⟨Or.inl ⟨by rfl, fun w hS => by obtain ⟨h0, h1, h2, h3, h4, h5⟩ := hS; go_simp⟩, fun _ => rfl⟩ hS ?_
          simp only [upd]
          refine anyHF_take (i := 5) (d := 104) (v := .agg #[.int .i64 zx, .int .i64 zy]) (by kernel_rfl) rfl (by kernel_rfl) (by kernel_rfl) (by kernel_rfl) rfl (fun _ _ _ h => h) ⟨Or.inl ⟨by rfl, fun w hS => by obtain ⟨h0, h1, h2, h3, h4, h5⟩ := hS; go_simp⟩, fun _ => rfl⟩ hS ?_
          simp only [upd]
          refine anyHF_take (i := 6) (d := 105) (v := .slice (some ⟨gw, 0, none⟩) wn cw) (by kernel_rfl) rfl (by kernel_rfl) (by kernel_rfl) (by kernel_rfl) rfl (fun _ _ _ h => h) ⟨Or.inl ⟨by rfl, fun w hS => by obtain ⟨h0, h1, h2, h3, h4, h5⟩ := hS; go_simp⟩, fun _ => rfl⟩ hS ?_
          simp only [upd]
          refine anyHF_take (i := 7) (d := 106) (v := .int .i64 (pre.length : Int)) (by kernel_rfl) rfl (by kernel_rfl) (by kernel_rfl) (by kernel_rfl) rfl (fun _ _ _ h => h) ⟨Or.inl ⟨by rfl, fun w hS => by obtain ⟨h0, h1, h2, h3, h4, h5⟩ := hS; go_simp⟩, fun _ => rfl⟩ hS ?_
          simp only [upd]
          refine anyHF_take (i := 8) (d := 107) (v := .pointer (some ⟨gw, pre.length * 2, none⟩)) (by kernel_rfl) rfl (by kernel_rfl) (by kernel_rfl) (by kernel_rfl) rfl (fun _ _ _ h => h) ⟨Or.inl ⟨by rfl, fun w hS => by obtain ⟨h0, h1, h2, h3, h4, h5⟩ := hS; (go_simp <;> omega)⟩, fun _ => rfl⟩ hS ?_
          simp only [upd]
          refine anyHF_take (i := 9) (d := 108) (v := .agg #[.int .i64 zx, .int .i64 zy]) (by kernel_rfl) rfl (by kernel_rfl) (by kernel_rfl) (by kernel_rfl) rfl (fun _ _ _ h => h) ⟨Or.inl ⟨by rfl, fun w hS => by obtain ⟨h0, h1, h2, h3, h4, h5⟩ := hS; go_simp⟩, fun _ => rfl⟩ hS ?_
          simp only [upd]
          refine anyHF_take (i := 10) (d := 109) (v := .bool false) (by kernel_rfl) rfl (by kernel_rfl) (by kernel_rfl) (by kernel_rfl) rfl (fun _ _ _ h => h) ⟨Or.inl ⟨by rfl, fun w hS => by obtain ⟨h0, h1, h2, h3, h4, h5⟩ := hS; (go_simp <;> omega)⟩, fun _ => rfl⟩ hS ?_
          simp only [upd]
          refine anyHF_take (i := 11) (d := 110) (v := .bool false) (by kernel_rfl) rfl (by kernel_rfl) (by kernel_rfl) (by kernel_rfl) rfl (fun _ _ _ h => h) ⟨Or.inl ⟨by rfl, fun w hS => by obtain ⟨h0, h1, h2, h3, h4, h5⟩ := hS; go_simp⟩, fun _ => rfl⟩ hS ?_
          simp only [upd]
          refine anyHF_done (by kernel_rfl) ?_ _
          clear hS
          gi_wp2
          refine ⟨none, .inl rfl, hss2, hks2, rfl, .inr ⟨rfl, by rw [List.length_append]; simp, ?_, ?_, HN.out⟩, fun _ => hT.out⟩
          · rcases hcnd with h | h
            · left; rw [List.length_append, h]; rfl
            · right; rw [hl1.out]; omega
          · rw [hl1.out]; exact hm
        · have dm : decide (many ≤ (pre.length : Int) + 1) = false := decide_eq_false hm
          gi_wp2
          have hS : (fun U : World => U.cell? ⟨V0.heap.size, 0, none⟩ = some (.int .i64 (pre.length : Int)) ∧ U.cell? ⟨w5.heap.size, 0, none⟩ = some (.slice (some ⟨gw, 0, none⟩) wn cw) ∧ U.cell? ⟨gx, 0, none⟩ = some (.int .i64 zx) ∧ U.cell? ⟨gx, 1, none⟩ = some (.int .i64 zy) ∧ U.cell? ⟨gw, pre.length * 2, none⟩ = some (.int .i64 zx) ∧ U.cell? ⟨gw, pre.length * 2 + 1, none⟩ = some (.int .i64 zy)) Y := ⟨cn, cwx, k0, k1, x0, x1⟩
          refine region_HF (S := (fun U : World => U.cell? ⟨V0.heap.size, 0, none⟩ = some (.int .i64 (pre.length : Int)) ∧ U.cell? ⟨w5.heap.size, 0, none⟩ = some (.slice (some ⟨gw, 0, none⟩) wn cw) ∧ U.cell? ⟨gx, 0, none⟩ = some (.int .i64 zx) ∧ U.cell? ⟨gx, 1, none⟩ = some (.int .i64 zy) ∧ U.cell? ⟨gw, pre.length * 2, none⟩ = some (.int .i64 zx) ∧ U.cell? ⟨gw, pre.length * 2 + 1, none⟩ = some (.int .i64 zy))) (by kernel_rfl) ?_
          rw [HY.out]
          refine anyHF_take (i := 0) (d := 99) (v := .int .i64 (pre.length : Int)) (by kernel_rfl) rfl (by kernel_rfl) (by kernel_rfl) (by kernel_rfl) rfl (fun _ _ _ h => h) ⟨Or.inl ⟨by rfl, fun w hS => by obtain ⟨h0, h1, h2, h3, h4, h5⟩ := hS; go_simp⟩, fun _ => rfl⟩ hS ?_
          simp only [upd]
          refine anyHF_take (i := 1) (d := 100) (v := .slice (some ⟨gw, 0, none⟩) wn cw) (by kernel_rfl) rfl (by kernel_rfl) (by kernel_rfl) (by kernel_rfl) rfl (fun _ _ _ h => h) ⟨Or.inl ⟨by rfl, fun w hS => by obtain ⟨h0, h1, h2, h3, h4, h5⟩ := hS; go_simp⟩, fun _ => rfl⟩ hS ?_
          simp only [upd]
          refine anyHF_take (i := 2) (d := 101) (v := .int .i64 (wn : Int)) (by kernel_rfl) rfl (by kernel_rfl) (by kernel_rfl) (by kernel_rfl) rfl (fun _ _ _ h => h) ⟨Or.inl ⟨by rfl, fun w hS => by obtain ⟨h0, h1, h2, h3, h4, h5⟩ := hS; go_simp⟩, fun _ => rfl⟩ hS ?_
          simp only [upd]
          refine anyHF_take (i := 3) (d := 102) (v := .bool false) (by kernel_rfl) rfl (by kernel_rfl) (by kernel_rfl) (by kernel_rfl) rfl (fun _ _ _ h => h) ⟨Or.inl ⟨by rfl, fun w hS => by obtain ⟨h0, h1, h2, h3, h4, h5⟩ := hS; (go_simp <;> omega)⟩, fun _ => rfl⟩ hS ?_
          simp only [upd]
          refine anyHF_take (i := 4) (d := 103) (v := .bool false) (by kernel_rfl) rfl (by kernel_rfl) (by kernel_rfl) (by kernel_rfl) rfl (fun _ _ _ h => h) ⟨Or.inl ⟨by rfl, fun w hS => by obtain ⟨h0, h1, h2, h3, h4, h5⟩ := hS; go_simp⟩, fun _ => rfl⟩ hS ?_
          simp only [upd]
          refine anyHF_take (i := 5) (d := 104) (v := .agg #[.int .i64 zx, .int .i64 zy]) (by kernel_rfl) rfl (by kernel_rfl) (by kernel_rfl) (by kernel_rfl) rfl (fun _ _ _ h => h) ⟨Or.inl ⟨by rfl, fun w hS => by obtain ⟨h0, h1, h2, h3, h4, h5⟩ := hS; go_simp⟩, fun _ => rfl⟩ hS ?_
          simp only [upd]
          refine anyHF_take (i := 6) (d := 105) (v := .slice (some ⟨gw, 0, none⟩) wn cw) (by kernel_rfl) rfl (by kernel_rfl) (by kernel_rfl) (by kernel_rfl) rfl (fun _ _ _ h => h) ⟨Or.inl ⟨by rfl, fun w hS => by obtain ⟨h0, h1, h2, h3, h4, h5⟩ := hS; go_simp⟩, fun _ => rfl⟩ hS ?_
          simp only [upd]
          refine anyHF_take (i := 7) (d := 106) (v := .int .i64 (pre.length : Int)) (by kernel_rfl) rfl (by kernel_rfl) (by kernel_rfl) (by kernel_rfl) rfl (fun _ _ _ h => h) ⟨Or.inl ⟨by rfl, fun w hS => by obtain ⟨h0, h1, h2, h3, h4, h5⟩ := hS; go_simp⟩, fun _ => rfl⟩ hS ?_
          simp only [upd]
          refine anyHF_take (i := 8) (d := 107) (v := .pointer (some ⟨gw, pre.length * 2, none⟩)) (by kernel_rfl) rfl (by kernel_rfl) (by kernel_rfl) (by kernel_rfl) rfl (fun _ _ _ h => h) ⟨Or.inl ⟨by rfl, fun w hS => by obtain ⟨h0, h1, h2, h3, h4, h5⟩ := hS; (go_simp <;> omega)⟩, fun _ => rfl⟩ hS ?_
          simp only [upd]
          refine anyHF_take (i := 9) (d := 108) (v := .agg #[.int .i64 zx, .int .i64 zy]) (by kernel_rfl) rfl (by kernel_rfl) (by kernel_rfl) (by kernel_rfl) rfl (fun _ _ _ h => h) ⟨Or.inl ⟨by rfl, fun w hS => by obtain ⟨h0, h1, h2, h3, h4, h5⟩ := hS; go_simp⟩, fun _ => rfl⟩ hS ?_
          simp only [upd]
          refine anyHF_take (i := 10) (d := 109) (v := .bool false) (by kernel_rfl) rfl (by kernel_rfl) (by kernel_rfl) (by kernel_rfl) rfl (fun _ _ _ h => h) ⟨Or.inl ⟨by rfl, fun w hS => by obtain ⟨h0, h1, h2, h3, h4, h5⟩ := hS; (go_simp <;> omega)⟩, fun _ => rfl⟩ hS ?_
          simp only [upd]
          refine anyHF_take (i := 11) (d := 110) (v := .bool false) (by kernel_rfl) rfl (by kernel_rfl) (by kernel_rfl) (by kernel_rfl) rfl (fun _ _ _ h => h) ⟨Or.inl ⟨by rfl, fun w hS => by obtain ⟨h0, h1, h2, h3, h4, h5⟩ := hS; go_simp⟩, fun _ => rfl⟩ hS ?_
          simp only [upd]
          refine anyHF_done (by kernel_rfl) ?_ _
          clear hS
          gi_wp2
          exact ⟨none, .inl rfl, hss2, hks2, rfl, ⟨HN.out, .inr (by rw [hl1.out]; omega)⟩, hT.out⟩
      · have hx2 : ¬ (zx = yx ∧ zy = yy) := fun e => hx (by rw [e.1, e.2])
        have HN := Lib.hid (prefix_not (L := wl) (pre := pre) (z := (zx, zy)) (fun e => hx (by rw [hget2.out] at e; injection e with e; exact e.symm)))
        clear hpre hn hB hke hse hbsz hXY
        gi_wp2
        have hS : (fun U : World => U.cell? ⟨V0.heap.size, 0, none⟩ = some (.int .i64 (pre.length : Int)) ∧ U.cell? ⟨w5.heap.size, 0, none⟩ = some (.slice (some ⟨gw, 0, none⟩) wn cw) ∧ U.cell? ⟨gx, 0, none⟩ = some (.int .i64 zx) ∧ U.cell? ⟨gx, 1, none⟩ = some (.int .i64 zy) ∧ U.cell? ⟨gw, pre.length * 2, none⟩ = some (.int .i64 yx) ∧ U.cell? ⟨gw, pre.length * 2 + 1, none⟩ = some (.int .i64 yy)) Y := ⟨cn, cwx, k0, k1, x0, x1⟩
        refine region_HF (S := (fun U : World => U.cell? ⟨V0.heap.size, 0, none⟩ = some (.int .i64 (pre.length : Int)) ∧ U.cell? ⟨w5.heap.size, 0, none⟩ = some (.slice (some ⟨gw, 0, none⟩) wn cw) ∧ U.cell? ⟨gx, 0, none⟩ = some (.int .i64 zx) ∧ U.cell? ⟨gx, 1, none⟩ = some (.int .i64 zy) ∧ U.cell? ⟨gw, pre.length * 2, none⟩ = some (.int .i64 yx) ∧ U.cell? ⟨gw, pre.length * 2 + 1, none⟩ = some (.int .i64 yy))) (by kernel_rfl) ?_
        rw [HY.out]
        refine anyHF_take (i := 0) (d := 99) (v := .int .i64 (pre.length : Int)) (by kernel_rfl) rfl (by kernel_rfl) (by kernel_rfl) (by kernel_rfl) rfl (fun _ _ _ h => h) ⟨Or.inl ⟨by rfl, fun w hS => by obtain ⟨h0, h1, h2, h3, h4, h5⟩ := hS; go_simp⟩, fun _ => rfl⟩ hS ?_
        simp only [upd]
        refine anyHF_take (i := 1) (d := 100) (v := .slice (some ⟨gw, 0, none⟩) wn cw) (by kernel_rfl) rfl (by kernel_rfl) (by kernel_rfl) (by kernel_rfl) rfl (fun _ _ _ h => h) ⟨Or.inl ⟨by rfl, fun w hS => by obtain ⟨h0, h1, h2, h3, h4, h5⟩ := hS; go_simp⟩, fun _ => rfl⟩ hS ?_
        simp only [upd]
        refine anyHF_take (i := 2) (d := 101) (v := .int .i64 (wn : Int)) (by kernel_rfl) rfl (by kernel_rfl) (by kernel_rfl) (by kernel_rfl) rfl (fun _ _ _ h => h) ⟨Or.inl ⟨by rfl, fun w hS => by obtain ⟨h0, h1, h2, h3, h4, h5⟩ := hS; go_simp⟩, fun _ => rfl⟩ hS ?_
        simp only [upd]
        refine anyHF_take (i := 3) (d := 102) (v := .bool false) (by kernel_rfl) rfl (by kernel_rfl) (by kernel_rfl) (by kernel_rfl) rfl (fun _ _ _ h => h) ⟨Or.inl ⟨by rfl, fun w hS => by obtain ⟨h0, h1, h2, h3, h4, h5⟩ := hS; (go_simp <;> omega)⟩, fun _ => rfl⟩ hS ?_
        simp only [upd]
        refine anyHF_take (i := 4) (d := 103) (v := .bool false) (by kernel_rfl) rfl (by kernel_rfl) (by kernel_rfl) (by kernel_rfl) rfl (fun _ _ _ h => h) ⟨Or.inl ⟨by rfl, fun w hS => by obtain ⟨h0, h1, h2, h3, h4, h5⟩ := hS; go_simp⟩, fun _ => rfl⟩ hS ?_
        simp only [upd]
        refine anyHF_take (i := 5) (d := 104) (v := .agg #[.int .i64 zx, .int .i64 zy]) (by kernel_rfl) rfl (by kernel_rfl) (by kernel_rfl) (by kernel_rfl) rfl (fun _ _ _ h => h) ⟨Or.inl ⟨by rfl, fun w hS => by obtain ⟨h0, h1, h2, h3, h4, h5⟩ := hS; go_simp⟩, fun _ => rfl⟩ hS ?_
        simp only [upd]
        refine anyHF_take (i := 6) (d := 105) (v := .slice (some ⟨gw, 0, none⟩) wn cw) (by kernel_rfl) rfl (by kernel_rfl) (by kernel_rfl) (by kernel_rfl) rfl (fun _ _ _ h => h) ⟨Or.inl ⟨by rfl, fun w hS => by obtain ⟨h0, h1, h2, h3, h4, h5⟩ := hS; go_simp⟩, fun _ => rfl⟩ hS ?_
        simp only [upd]
        refine anyHF_take (i := 7) (d := 106) (v := .int .i64 (pre.length : Int)) (by kernel_rfl) rfl (by kernel_rfl) (by kernel_rfl) (by kernel_rfl) rfl (fun _ _ _ h => h) ⟨Or.inl ⟨by rfl, fun w hS => by obtain ⟨h0, h1, h2, h3, h4, h5⟩ := hS; go_simp⟩, fun _ => rfl⟩ hS ?_
        simp only [upd]
        refine anyHF_take (i := 8) (d := 107) (v := .pointer (some ⟨gw, pre.length * 2, none⟩)) (by kernel_rfl) rfl (by kernel_rfl) (by kernel_rfl) (by kernel_rfl) rfl (fun _ _ _ h => h) ⟨Or.inl ⟨by rfl, fun w hS => by obtain ⟨h0, h1, h2, h3, h4, h5⟩ := hS; (go_simp <;> omega)⟩, fun _ => rfl⟩ hS ?_
        simp only [upd]
        refine anyHF_take (i := 9) (d := 108) (v := .agg #[.int .i64 yx, .int .i64 yy]) (by kernel_rfl) rfl (by kernel_rfl) (by kernel_rfl) (by kernel_rfl) rfl (fun _ _ _ h => h) ⟨Or.inl ⟨by rfl, fun w hS => by obtain ⟨h0, h1, h2, h3, h4, h5⟩ := hS; go_simp⟩, fun _ => rfl⟩ hS ?_
        simp only [upd]
        refine anyHF_take (i := 10) (d := 109) (v := .bool true) (by kernel_rfl) rfl (by kernel_rfl) (by kernel_rfl) (by kernel_rfl) rfl (fun _ _ _ h => h) ⟨Or.inl ⟨by rfl, fun w hS => by obtain ⟨h0, h1, h2, h3, h4, h5⟩ := hS; (go_simp <;> omega)⟩, fun _ => rfl⟩ hS ?_
        simp only [upd]
        refine anyHF_take (i := 11) (d := 110) (v := .bool true) (by kernel_rfl) rfl (by kernel_rfl) (by kernel_rfl) (by kernel_rfl) rfl (fun _ _ _ h => h) ⟨Or.inl ⟨by rfl, fun w hS => by obtain ⟨h0, h1, h2, h3, h4, h5⟩ := hS; go_simp⟩, fun _ => rfl⟩ hS ?_
        simp only [upd]
        refine anyHF_done (by kernel_rfl) ?_ _
        clear hS
        gi_wp2
        exact ⟨none, .inl rfl, hss, hks, rfl, .inl ⟨rfl, HN.out⟩, fun e => by cases e⟩
    · have dp : decide ((wn : Int) ≤ (pre.length : Int)) = true := decide_eq_true (by omega)
      have HN := Lib.hid (prefix_not (L := wl) (pre := pre) (z := (zx, zy)) (fun e => by rw [List.getElem?_eq_none (by rw [HWN.out]; omega)] at e; cases e))
      clear hpre hn hB hke hse hbsz hXY f4
      gi_wp2
      have hS : (fun U : World => U.cell? ⟨V0.heap.size, 0, none⟩ = some (.int .i64 (pre.length : Int)) ∧ U.cell? ⟨w5.heap.size, 0, none⟩ = some (.slice Aw wn cw) ∧ U.cell? ⟨gx, 0, none⟩ = some (.int .i64 zx) ∧ U.cell? ⟨gx, 1, none⟩ = some (.int .i64 zy)) Y := ⟨cn, cwx, k0, k1⟩
      refine region_HF (S := (fun U : World => U.cell? ⟨V0.heap.size, 0, none⟩ = some (.int .i64 (pre.length : Int)) ∧ U.cell? ⟨w5.heap.size, 0, none⟩ = some (.slice Aw wn cw) ∧ U.cell? ⟨gx, 0, none⟩ = some (.int .i64 zx) ∧ U.cell? ⟨gx, 1, none⟩ = some (.int .i64 zy))) (by kernel_rfl) ?_
      rw [HY.out]
      refine anyHF_take (i := 0) (d := 99) (v := .int .i64 (pre.length : Int)) (by kernel_rfl) rfl (by kernel_rfl) (by kernel_rfl) (by kernel_rfl) rfl (fun _ _ _ h => h) ⟨Or.inl ⟨by rfl, fun w hS => by obtain ⟨h0, h1, h2, h3⟩ := hS; go_simp⟩, fun _ => rfl⟩ hS ?_
      simp only [upd]
      refine anyHF_take (i := 1) (d := 100) (v := .slice Aw wn cw) (by kernel_rfl) rfl (by kernel_rfl) (by kernel_rfl) (by kernel_rfl) rfl (fun _ _ _ h => h) ⟨Or.inl ⟨by rfl, fun w hS => by obtain ⟨h0, h1, h2, h3⟩ := hS; go_simp⟩, fun _ => rfl⟩ hS ?_
      simp only [upd]
      refine anyHF_take (i := 2) (d := 101) (v := .int .i64 (wn : Int)) (by kernel_rfl) rfl (by kernel_rfl) (by kernel_rfl) (by kernel_rfl) rfl (fun _ _ _ h => h) ⟨Or.inl ⟨by rfl, fun w hS => by obtain ⟨h0, h1, h2, h3⟩ := hS; go_simp⟩, fun _ => rfl⟩ hS ?_
      simp only [upd]
      refine anyHF_take (i := 3) (d := 102) (v := .bool true) (by kernel_rfl) rfl (by kernel_rfl) (by kernel_rfl) (by kernel_rfl) rfl (fun _ _ _ h => h) ⟨Or.inl ⟨by rfl, fun w hS => by obtain ⟨h0, h1, h2, h3⟩ := hS; (go_simp <;> omega)⟩, fun _ => rfl⟩ hS ?_
      simp only [upd]
      refine anyHF_take (i := 4) (d := 103) (v := .bool true) (by kernel_rfl) rfl (by kernel_rfl) (by kernel_rfl) (by kernel_rfl) rfl (fun _ _ _ h => h) ⟨Or.inl ⟨by rfl, fun w hS => by obtain ⟨h0, h1, h2, h3⟩ := hS; go_simp⟩, fun _ => rfl⟩ hS ?_
      simp only [upd]
      refine anyHF_take (i := 5) (d := 104) (v := undef) (by kernel_rfl) rfl (by kernel_rfl) (by kernel_rfl) (by kernel_rfl) rfl (fun _ _ _ h => h) ⟨Or.inr ⟨by rfl, rfl⟩, fun _ => rfl⟩ hS ?_
      simp only [upd]
      refine anyHF_take (i := 6) (d := 105) (v := undef) (by kernel_rfl) rfl (by kernel_rfl) (by kernel_rfl) (by kernel_rfl) rfl (fun _ _ _ h => h) ⟨Or.inr ⟨by rfl, rfl⟩, fun _ => rfl⟩ hS ?_
      simp only [upd]
      refine anyHF_take (i := 7) (d := 106) (v := undef) (by kernel_rfl) rfl (by kernel_rfl) (by kernel_rfl) (by kernel_rfl) rfl (fun _ _ _ h => h) ⟨Or.inr ⟨by rfl, rfl⟩, fun _ => rfl⟩ hS ?_
      simp only [upd]
      refine anyHF_take (i := 8) (d := 107) (v := undef) (by kernel_rfl) rfl (by kernel_rfl) (by kernel_rfl) (by kernel_rfl) rfl (fun _ _ _ h => h) ⟨Or.inr ⟨by rfl, rfl⟩, fun _ => rfl⟩ hS ?_
      simp only [upd]
      refine anyHF_take (i := 9) (d := 108) (v := undef) (by kernel_rfl) rfl (by kernel_rfl) (by kernel_rfl) (by kernel_rfl) rfl (fun _ _ _ h => h) ⟨Or.inr ⟨by rfl, rfl⟩, fun _ => rfl⟩ hS ?_
      simp only [upd]
      refine anyHF_take (i := 10) (d := 109) (v := undef) (by kernel_rfl) rfl (by kernel_rfl) (by kernel_rfl) (by kernel_rfl) rfl (fun _ _ _ h => h) ⟨Or.inr ⟨by rfl, rfl⟩, fun _ => rfl⟩ hS ?_
      simp only [upd]
      refine anyHF_take (i := 11) (d := 110) (v := .bool true) (by kernel_rfl) rfl (by kernel_rfl) (by kernel_rfl) (by kernel_rfl) rfl (fun _ _ _ h => h) ⟨Or.inl ⟨by rfl, fun w hS => by obtain ⟨h0, h1, h2, h3⟩ := hS; go_simp⟩, fun _ => rfl⟩ hS ?_
      simp only [upd]
      refine anyHF_done (by kernel_rfl) ?_ _
      clear hS
      gi_wp2
      exact ⟨none, .inl rfl, hss, hks, rfl, .inl ⟨rfl, HN.out⟩, fun e => by cases e⟩
  case doneA =>
    rintro DA xs o X hD hfo hxs hI hK hne
    rw [hxs] at hI
    obtain ⟨rfl, ⟨hpre, hcnd⟩, hn, hB⟩ := hI
    rw [HWN.out] at hn hcnd
    clear hpre hfo hxs
    obtain ⟨f1, f2, f3, f4, f5, f6, fB, fs⟩ := F0.next hB
    have cn := hn.one
    have cwx := f3.one
    have ctx := (ct0.below hB ct0.lt).one
    have cmx := f1.one
    have lt0 := hB.size
    have hmin : ((wn : Int) != min (wn : Int) (max 1 many)) = false := by rw [bne_eq_false_iff_eq]; rcases hcnd with h | h <;> omega
    have fV := F0.2.2.2.2.2.2.2
    gi_wp2
    clear cn cwx ctx cmx f1 f2 f3 f4 f5 f6 fB fs
    obtain ⟨V1B, hVn⟩ : ∃ Y, X.alloc (.cells #[.int .i64 1] 3) = Y := ⟨_, rfl⟩
    rw [hVn]
    have hBn : Below V0.heap.size V0 V1B := by rw [← hVn]; exact hB.alloc hB.size _
    have ct1 : Blk V1B X.heap.size 3 #[.int .i64 1] := by rw [← hVn]; exact Blk.new _ _ _
    have hDn : V1B.heap[DA]? = some (.deferred (some [])) := by rw [← hVn]; exact (Below.heap_alloc X _ DA (Array.getElem?_eq_some_iff.1 hK).1).trans hK
    have HL1 := HL0.more hBn (D := DA) (by omega) (by omega) hDn
    have F1 := F0.next hBn
    clear hVn hBn hDn hK hn hB ct0 F0 HL0 hne fV lt0
    clear hmin hcnd
    rw [roundsIn_succ]
    obtain ⟨f1, f2, f3, f4, f5, f6, fB, fs⟩ := id F1
    have ct := ct1.one
    have hlt1 := f1.lt
    have hlt2 := f2.lt
    have hlt3 := f3.lt
    have hlt5 := f5.lt
    have hltt := ct1.lt
    have hef := eql_wrongs gs (V1B.alloc (.cells #[.int .i64 0] 3))
    gi_wp2_with fail
    have hn0 : Blk (V1B.alloc (.cells #[.int .i64 0] 3)) V1B.heap.size 3 #[.int .i64 (([] : List (Int × Int)).length : Int)] := Blk.new _ _ _
    have hBa := below_one V1B (.cells #[.int .i64 0] 3)
    have Fa := F1.next hBa
    clear hef ct
    obtain ⟨VaB, hVa⟩ : ∃ X, V1B.alloc (.cells #[.int .i64 0] 3) = X := ⟨_, rfl⟩
    rw [hVa] at hn0 hBa Fa ⊢
    clear hVa
    have hna := hn0.lt
    have hSQ := Lib.hid (fun n => values_seqP gs V1B.heap.size us wl (by rw [HWN.out]; omega) VaB Fa.2.2.2.2.1 (by omega) Fa.2.2.2.2.2.1 (read_apart Fa.2.2.2.2.2.1 hn0) n)
    have hFI : Hid (FarO VaB.heap.size (fun (pre : List (Int × Int)) (o : Option Nat) X => o = none ∧ (pre <+: wl ∧ True) ∧ Blk X V1B.heap.size 3 #[.int .i64 (pre.length : Int)] ∧ Below V1B.heap.size V1B X)) := by
      rintro s o X Y row ⟨h2, hq, h3, h4⟩ hgr hr
      exact ⟨h2, hq, farO_blkV (by omega) h3 hgr hr, h4.grown hgr h4.size (fun r e => by have := (hr r e).1; omega)⟩
    have hFX : Hid (∀ c : Code, FarO VaB.heap.size (fun (pre : List (Int × Int)) (o : Option Nat) X => o = none ∧ ((c = .ret ∧ ¬ (pre <+: wl)) ∨ False) ∧ (c = .exit 2 → Blk X V1B.heap.size 3 #[.int .i64 (pre.length : Int)] ∧ Below V1B.heap.size V1B X))) := by
      rintro c s o X Y row ⟨h2, hq, h34⟩ hgr hr
      exact ⟨h2, hq, fun hc => ⟨farO_blkV (by omega) (h34 hc).1 hgr hr, (h34 hc).2.grown hgr (h34 hc).2.size (fun r e => by have := (hr r e).1; omega)⟩⟩
    clear f1 f2 f3 f4 f5 f6 fB Fa
    refine wpIn_rangeBoxQ rfl (by omega) (gf := 124) (lb := #[.pointer (some ⟨gs, 0, none⟩)]) rfl trivial Go.Proofs.YtggdlklkjnbbjaaGreatDoor.R.enter_values0 (hSQ.out _ (by omega)) (fun h h' => h.trans h') (fun X l ob hl _ hlp => KeepP.putFar X (by omega) ob) (Below.refl _ _) (fun _ => rfl)
      (fun pre o X => o = none ∧ (pre <+: wl ∧ True) ∧ Blk X V1B.heap.size 3 #[.int .i64 (pre.length : Int)] ∧ Below V1B.heap.size V1B X)
      (fun c pre o X => o = none ∧ ((c = .ret ∧ ¬ (pre <+: wl)) ∨ False) ∧ (c = .exit 2 → Blk X V1B.heap.size 3 #[.int .i64 (pre.length : Int)] ∧ Below V1B.heap.size V1B X))
      hFI.out hFX.out none (fun b e => by cases e) ⟨rfl, ⟨List.nil_prefix, trivial⟩, hn0, hBa⟩
      56 (fun z => #[.int .i64 z.1, .int .i64 z.2]) ?actB ?assignB
      (fun pre o X h => by obtain ⟨rfl, _⟩ := h; intro b e; cases e) (fun c pre o X h => by obtain ⟨rfl, _⟩ := h; intro b e; cases e) ?bodyB ?doneB ?stopB
    case assignB =>
      intro l' pre z o X K hsz ho hI2 hok hK
      have hlay := below_one X (.cells #[.int .i64 z.1, .int .i64 z.2] 56)
      have hbz := Blk.new X 56 #[.int .i64 z.1, .int .i64 z.2]
      have hkp : KeepP (fun b => b < VaB.heap.size ∧ b ≠ V1B.heap.size) X (X.alloc (.cells #[.int .i64 z.1, .int .i64 z.2] 56)) := KeepP.below hlay (fun b hb => by have := hb.1; omega)
      have hI3 := hFI.out.lay hI2 (.cells #[.int .i64 z.1, .int .i64 z.2] 56)
      have hsi := SinceO.below (B := VaB.heap.size) (o := o) hlay
      obtain ⟨gx, hgx⟩ : ∃ gx, Hid (X.heap.size = gx) := ⟨_, rfl⟩
      unfold encA
      gi_wp2_with fail
      rw [hgx.out] at hbz ⊢
      exact hK gx _ hsi hkp hI3 hbz
    case bodyB =>
      rintro l' pre z o gx X hsz ⟨rfl, ⟨hpre, hcnd⟩, hn, hB⟩ hbg hlen
      obtain ⟨zx, zy⟩ := z
      have hXY : Below X.heap.size X X.drew := (Below.refl _ _).drew
      obtain ⟨Y, hY⟩ : ∃ Y, X.drew = Y := ⟨_, rfl⟩
      rw [hY] at hXY
      have HY := Lib.hid hY
      clear hY
      have hke : KeepP (fun b => b < VaB.heap.size ∧ b ≠ V1B.heap.size) X Y := KeepP.below hXY (fun b hb => by have := hb.1; omega)
      have hse : SinceO VaB.heap.size none X Y := SinceO.below hXY
      replace hn := hn.below hXY hn.lt
      replace hB := below_in hB hXY
      replace hbg := hbg.below hXY hbg.lt
      replace hsz := Nat.le_trans hsz hXY.size
      obtain ⟨f1, f2, f3, f4, f5, f6, fB, fs⟩ := F1.next hB
      have cn := hn.one
      have fn := hn.frozen 0
      have cwx := f3.one
      have ctx := (ct1.below hB ct1.lt).one
      have cmx := f1.one
      have crx := f2.one
      have frx := f2.frozen 0
      have k0 := hbg.cell 0
      have k1 := hbg.cell 1
      simp only [List.getElem?_toArray, List.getElem?_cons_zero, List.getElem?_cons_succ] at k0 k1
      have hbsz := hB.size
      have hple := hpre.length_le
      rw [HWN.out] at hple
      have hks : KeepP (fun b => b < VaB.heap.size ∧ b ≠ V1B.heap.size) X (Y.setCell ⟨w.heap.size + 1, 0, none⟩ (.bool false)) := hke.trans (keepP_same f2)
      have hss : SinceO VaB.heap.size none X (Y.setCell ⟨w.heap.size + 1, 0, none⟩ (.bool false)) := hse.trans_ ⟨by simp, fun b h1 h2 h3 => Below.heap_setCell Y _ (.bool false) b (by simp; omega)⟩
      clear f1 f2 f3 f5 f6 fB hbg
      by_cases hp : pre.length < wn
      · obtain ⟨q4, cap4, e4, hA4⟩ := f4
        have hpw : pre.length < wl.length := by rw [HWN.out]; exact hp
        obtain ⟨gw, hq4, hgw, x0, x1⟩ := hA4 pre.length hpw
        have hget : wl[pre.length]? = some wl[pre.length] := List.getElem?_eq_getElem hpw
        clear hA4
        obtain ⟨yx, yy, hyz⟩ : ∃ yx yy, wl[pre.length] = (yx, yy) := ⟨_, _, rfl⟩
        rw [hyz] at x0 x1 hget
        clear hyz hpw
        have e5 : Aw = some ⟨gw, 0, none⟩ := by injection e4 with e6 _ _; rw [e6, hq4]
        clear e4 hq4
        subst e5
        have dp : decide ((wn : Int) ≤ (pre.length : Int)) = false := decide_eq_false (by omega)
        have hget2 := Lib.hid hget
        clear hget
        by_cases hx : (zx, zy) = (yx, yy)
        · injection hx with hx1 hx2
          subst hx1 hx2
          have HN := Lib.hid (prefix_next hpre hget2.out)
          have hl1 : Hid (((pre ++ [(zx, zy)]).length : Int) = (pre.length : Int) + 1) := by unfold Hid; rw [List.length_append]; rfl
          have hks2 : KeepP (fun b => b < VaB.heap.size ∧ b ≠ V1B.heap.size) X (Y.setCell ⟨V1B.heap.size, 0, none⟩ (.int .i64 ((pre.length : Int) + 1))) := hke.trans (KeepP.setFar Y (by simp) _)
          have hss2 : SinceO VaB.heap.size none X (Y.setCell ⟨V1B.heap.size, 0, none⟩ (.int .i64 ((pre.length : Int) + 1))) := hse.trans_ ⟨by simp, fun b h1 h2 h3 => Below.heap_setCell Y _ (.int .i64 ((pre.length : Int) + 1)) b (by simp; omega)⟩
          have hT : Hid (Blk (Y.setCell ⟨V1B.heap.size, 0, none⟩ (.int .i64 ((pre.length : Int) + 1))) V1B.heap.size 3 #[.int .i64 ((pre ++ [(zx, zy)]).length : Int)] ∧ Below V1B.heap.size V1B (Y.setCell ⟨V1B.heap.size, 0, none⟩ (.int .i64 ((pre.length : Int) + 1)))) := by
            unfold Hid
            rw [hl1.out]
            exact ⟨hn.set_ 0 _, hB.setCell (Nat.le_refl _) _⟩
          clear hpre hn hB hke hse hks hss hbsz hXY
          gi_wp2
          have hS : (fun U : World => U.cell? ⟨V1B.heap.size, 0, none⟩ = some (.int .i64 (pre.length : Int)) ∧ U.cell? ⟨w5.heap.size, 0, none⟩ = some (.slice (some ⟨gw, 0, none⟩) wn cw) ∧ U.cell? ⟨gx, 0, none⟩ = some (.int .i64 zx) ∧ U.cell? ⟨gx, 1, none⟩ = some (.int .i64 zy) ∧ U.cell? ⟨gw, pre.length * 2, none⟩ = some (.int .i64 zx) ∧ U.cell? ⟨gw, pre.length * 2 + 1, none⟩ = some (.int .i64 zy)) Y := ⟨cn, cwx, k0, k1, x0, x1⟩
          refine region_HF (S := (fun U : World => U.cell? ⟨V1B.heap.size, 0, none⟩ = some (.int .i64 (pre.length : Int)) ∧ U.cell? ⟨w5.heap.size, 0, none⟩ = some (.slice (some ⟨gw, 0, none⟩) wn cw) ∧ U.cell? ⟨gx, 0, none⟩ = some (.int .i64 zx) ∧ U.cell? ⟨gx, 1, none⟩ = some (.int .i64 zy) ∧ U.cell? ⟨gw, pre.length * 2, none⟩ = some (.int .i64 zx) ∧ U.cell? ⟨gw, pre.length * 2 + 1, none⟩ = some (.int .i64 zy))) (by kernel_rfl) ?_
          rw [HY.out]
          refine anyHF_take (i := 0) (d := 99) (v := .int .i64 (pre.length : Int)) (by kernel_rfl) rfl (by kernel_rfl) (by kernel_rfl) (by kernel_rfl) rfl (fun _ _ _ h => h) ⟨Or.inl ⟨by rfl, fun w hS => by obtain ⟨h0, h1, h2, h3, h4, h5⟩ := hS; go_simp⟩, fun _ => rfl⟩ hS ?_
          simp only [upd]
          refine anyHF_take (i := 1) (d := 100) (v := .slice (some ⟨gw, 0, none⟩) wn cw) (by kernel_rfl) rfl (by kernel_rfl) (by kernel_rfl) (by kernel_rfl) rfl (fun _ _ _ h => h) ⟨Or.inl ⟨by rfl, fun w hS => by obtain ⟨h0, h1, h2, h3, h4, h5⟩ := hS; go_simp⟩, fun _ => rfl⟩ hS ?_
          simp only [upd]
          refine anyHF_take (i := 2) (d := 101) (v := .int .i64 (wn : Int)) (by kernel_rfl) rfl (by kernel_rfl) (by kernel_rfl) (by kernel_rfl) rfl (fun _ _ _ h => h) ⟨Or.inl ⟨by rfl, fun w hS => by obtain ⟨h0, h1, h2, h3, h4, h5⟩ := hS; go_simp⟩, fun _ => rfl⟩ hS ?_
          simp only [upd]
          refine anyHF_take (i := 3) (d := 102) (v := .bool false) (by kernel_rfl) rfl (by kernel_rfl) (by kernel_rfl) (by kernel_rfl) rfl (fun _ _ _ h => h) ⟨Or.inl ⟨by rfl, fun w hS => by obtain ⟨h0, h1, h2, h3, h4, h5⟩ := hS; (go_simp <;> omega)⟩, fun _ => rfl⟩ hS ?_
          simp only [upd]
          refine anyHF_take (i := 4) (d := 103) (v := .bool false) (by kernel_rfl) rfl (by kernel_rfl) (by kernel_rfl) (by kernel_rfl) rfl (fun _ _ _ h => h) ⟨Or.inl ⟨by rfl, fun w hS => by obtain ⟨h0, h1, h2, h3, h4, h5⟩ := hS; go_simp⟩, fun _ => rfl⟩ hS ?_
          simp only [upd]
          refine anyHF_take (i := 5) (d := 104) (v := .agg #[.int .i64 zx, .int .i64 zy]) (by kernel_rfl) rfl (by kernel_rfl) (by kernel_rfl) (by kernel_rfl) rfl (fun _ _ _ h => h) ⟨Or.inl ⟨by rfl, fun w hS => by obtain ⟨h0, h1, h2, h3, h4, h5⟩ := hS; go_simp⟩, fun _ => rfl⟩ hS ?_
          simp only [upd]
          refine anyHF_take (i := 6) (d := 105) (v := .slice (some ⟨gw, 0, none⟩) wn cw) (by kernel_rfl) rfl (by kernel_rfl) (by kernel_rfl) (by kernel_rfl) rfl (fun _ _ _ h => h) ⟨Or.inl ⟨by rfl, fun w hS => by obtain ⟨h0, h1, h2, h3, h4, h5⟩ := hS; go_simp⟩, fun _ => rfl⟩ hS ?_
          simp only [upd]
          refine anyHF_take (i := 7) (d := 106) (v := .int .i64 (pre.length : Int)) (by kernel_rfl) rfl (by kernel_rfl) (by kernel_rfl) (by kernel_rfl) rfl (fun _ _ _ h => h) ⟨Or.inl ⟨by rfl, fun w hS => by obtain ⟨h0, h1, h2, h3, h4, h5⟩ := hS; go_simp⟩, fun _ => rfl⟩ hS ?_
          simp only [upd]
          refine anyHF_take (i := 8) (d := 107) (v := .pointer (some ⟨gw, pre.length * 2, none⟩)) (by kernel_rfl) rfl (by kernel_rfl) (by kernel_rfl) (by kernel_rfl) rfl (fun _ _ _ h => h) ⟨Or.inl ⟨by rfl, fun w hS => by obtain ⟨h0, h1, h2, h3, h4, h5⟩ := hS; (go_simp <;> omega)⟩, fun _ => rfl⟩ hS ?_
          simp only [upd]
          refine anyHF_take (i := 9) (d := 108) (v := .agg #[.int .i64 zx, .int .i64 zy]) (by kernel_rfl) rfl (by kernel_rfl) (by kernel_rfl) (by kernel_rfl) rfl (fun _ _ _ h => h) ⟨Or.inl ⟨by rfl, fun w hS => by obtain ⟨h0, h1, h2, h3, h4, h5⟩ := hS; go_simp⟩, fun _ => rfl⟩ hS ?_
          simp only [upd]
          refine anyHF_take (i := 10) (d := 109) (v := .bool false) (by kernel_rfl) rfl (by kernel_rfl) (by kernel_rfl) (by kernel_rfl) rfl (fun _ _ _ h => h) ⟨Or.inl ⟨by rfl, fun w hS => by obtain ⟨h0, h1, h2, h3, h4, h5⟩ := hS; (go_simp <;> omega)⟩, fun _ => rfl⟩ hS ?_
          simp only [upd]
          refine anyHF_take (i := 11) (d := 110) (v := .bool false) (by kernel_rfl) rfl (by kernel_rfl) (by kernel_rfl) (by kernel_rfl) rfl (fun _ _ _ h => h) ⟨Or.inl ⟨by rfl, fun w hS => by obtain ⟨h0, h1, h2, h3, h4, h5⟩ := hS; go_simp⟩, fun _ => rfl⟩ hS ?_
          simp only [upd]
          refine anyHF_done (by kernel_rfl) ?_ _
          clear hS
          gi_wp2
          exact ⟨none, .inl rfl, hss2, hks2, rfl, ⟨HN.out, trivial⟩, hT.out⟩
        · have hx2 : ¬ (zx = yx ∧ zy = yy) := fun e => hx (by rw [e.1, e.2])
          have HN := Lib.hid (prefix_not (L := wl) (pre := pre) (z := (zx, zy)) (fun e => hx (by rw [hget2.out] at e; injection e with e; exact e.symm)))
          clear hpre hn hB hke hse hbsz hXY
          gi_wp2
          have hS : (fun U : World => U.cell? ⟨V1B.heap.size, 0, none⟩ = some (.int .i64 (pre.length : Int)) ∧ U.cell? ⟨w5.heap.size, 0, none⟩ = some (.slice (some ⟨gw, 0, none⟩) wn cw) ∧ U.cell? ⟨gx, 0, none⟩ = some (.int .i64 zx) ∧ U.cell? ⟨gx, 1, none⟩ = some (.int .i64 zy) ∧ U.cell? ⟨gw, pre.length * 2, none⟩ = some (.int .i64 yx) ∧ U.cell? ⟨gw, pre.length * 2 + 1, none⟩ = some (.int .i64 yy)) Y := ⟨cn, cwx, k0, k1, x0, x1⟩
          refine region_HF (S := (fun U : World => U.cell? ⟨V1B.heap.size, 0, none⟩ = some (.int .i64 (pre.length : Int)) ∧ U.cell? ⟨w5.heap.size, 0, none⟩ = some (.slice (some ⟨gw, 0, none⟩) wn cw) ∧ U.cell? ⟨gx, 0, none⟩ = some (.int .i64 zx) ∧ U.cell? ⟨gx, 1, none⟩ = some (.int .i64 zy) ∧ U.cell? ⟨gw, pre.length * 2, none⟩ = some (.int .i64 yx) ∧ U.cell? ⟨gw, pre.length * 2 + 1, none⟩ = some (.int .i64 yy))) (by kernel_rfl) ?_
          rw [HY.out]
          refine anyHF_take (i := 0) (d := 99) (v := .int .i64 (pre.length : Int)) (by kernel_rfl) rfl (by kernel_rfl) (by kernel_rfl) (by kernel_rfl) rfl (fun _ _ _ h => h) ⟨Or.inl ⟨by rfl, fun w hS => by obtain ⟨h0, h1, h2, h3, h4, h5⟩ := hS; go_simp⟩, fun _ => rfl⟩ hS ?_
          simp only [upd]
          refine anyHF_take (i := 1) (d := 100) (v := .slice (some ⟨gw, 0, none⟩) wn cw) (by kernel_rfl) rfl (by kernel_rfl) (by kernel_rfl) (by kernel_rfl) rfl (fun _ _ _ h => h) ⟨Or.inl ⟨by rfl, fun w hS => by obtain ⟨h0, h1, h2, h3, h4, h5⟩ := hS; go_simp⟩, fun _ => rfl⟩ hS ?_
          simp only [upd]
          refine anyHF_take (i := 2) (d := 101) (v := .int .i64 (wn : Int)) (by kernel_rfl) rfl (by kernel_rfl) (by kernel_rfl) (by kernel_rfl) rfl (fun _ _ _ h => h) ⟨Or.inl ⟨by rfl, fun w hS => by obtain ⟨h0, h1, h2, h3, h4, h5⟩ := hS; go_simp⟩, fun _ => rfl⟩ hS ?_
          simp only [upd]
          refine anyHF_take (i := 3) (d := 102) (v := .bool false) (by kernel_rfl) rfl (by kernel_rfl) (by kernel_rfl) (by kernel_rfl) rfl (fun _ _ _ h => h) ⟨Or.inl ⟨by rfl, fun w hS => by obtain ⟨h0, h1, h2, h3, h4, h5⟩ := hS; (go_simp <;> omega)⟩, fun _ => rfl⟩ hS ?_
          simp only [upd]
          refine anyHF_take (i := 4) (d := 103) (v := .bool false) (by kernel_rfl) rfl (by kernel_rfl) (by kernel_rfl) (by kernel_rfl) rfl (fun _ _ _ h => h) ⟨Or.inl ⟨by rfl, fun w hS => by obtain ⟨h0, h1, h2, h3, h4, h5⟩ := hS; go_simp⟩, fun _ => rfl⟩ hS ?_
          simp only [upd]
          refine anyHF_take (i := 5) (d := 104) (v := .agg #[.int .i64 zx, .int .i64 zy]) (by kernel_rfl) rfl (by kernel_rfl) (by kernel_rfl) (by kernel_rfl) rfl (fun _ _ _ h => h) ⟨Or.inl ⟨by rfl, fun w hS => by obtain ⟨h0, h1, h2, h3, h4, h5⟩ := hS; go_simp⟩, fun _ => rfl⟩ hS ?_
          simp only [upd]
          refine anyHF_take (i := 6) (d := 105) (v := .slice (some ⟨gw, 0, none⟩) wn cw) (by kernel_rfl) rfl (by kernel_rfl) (by kernel_rfl) (by kernel_rfl) rfl (fun _ _ _ h => h) ⟨Or.inl ⟨by rfl, fun w hS => by obtain ⟨h0, h1, h2, h3, h4, h5⟩ := hS; go_simp⟩, fun _ => rfl⟩ hS ?_
          simp only [upd]
          refine anyHF_take (i := 7) (d := 106) (v := .int .i64 (pre.length : Int)) (by kernel_rfl) rfl (by kernel_rfl) (by kernel_rfl) (by kernel_rfl) rfl (fun _ _ _ h => h) ⟨Or.inl ⟨by rfl, fun w hS => by obtain ⟨h0, h1, h2, h3, h4, h5⟩ := hS; go_simp⟩, fun _ => rfl⟩ hS ?_
          simp only [upd]
          refine anyHF_take (i := 8) (d := 107) (v := .pointer (some ⟨gw, pre.length * 2, none⟩)) (by kernel_rfl) rfl (by kernel_rfl) (by kernel_rfl) (by kernel_rfl) rfl (fun _ _ _ h => h) ⟨Or.inl ⟨by rfl, fun w hS => by obtain ⟨h0, h1, h2, h3, h4, h5⟩ := hS; (go_simp <;> omega)⟩, fun _ => rfl⟩ hS ?_
          simp only [upd]
          refine anyHF_take (i := 9) (d := 108) (v := .agg #[.int .i64 yx, .int .i64 yy]) (by kernel_rfl) rfl (by kernel_rfl) (by kernel_rfl) (by kernel_rfl) rfl (fun _ _ _ h => h) ⟨Or.inl ⟨by rfl, fun w hS => by obtain ⟨h0, h1, h2, h3, h4, h5⟩ := hS; go_simp⟩, fun _ => rfl⟩ hS ?_
          simp only [upd]
          refine anyHF_take (i := 10) (d := 109) (v := .bool true) (by kernel_rfl) rfl (by kernel_rfl) (by kernel_rfl) (by kernel_rfl) rfl (fun _ _ _ h => h) ⟨Or.inl ⟨by rfl, fun w hS => by obtain ⟨h0, h1, h2, h3, h4, h5⟩ := hS; (go_simp <;> omega)⟩, fun _ => rfl⟩ hS ?_
          simp only [upd]
          refine anyHF_take (i := 11) (d := 110) (v := .bool true) (by kernel_rfl) rfl (by kernel_rfl) (by kernel_rfl) (by kernel_rfl) rfl (fun _ _ _ h => h) ⟨Or.inl ⟨by rfl, fun w hS => by obtain ⟨h0, h1, h2, h3, h4, h5⟩ := hS; go_simp⟩, fun _ => rfl⟩ hS ?_
          simp only [upd]
          refine anyHF_done (by kernel_rfl) ?_ _
          clear hS
          gi_wp2
          exact ⟨none, .inl rfl, hss, hks, rfl, .inl ⟨rfl, HN.out⟩, fun e => by cases e⟩
      · have dp : decide ((wn : Int) ≤ (pre.length : Int)) = true := decide_eq_true (by omega)
        have HN := Lib.hid (prefix_not (L := wl) (pre := pre) (z := (zx, zy)) (fun e => by rw [List.getElem?_eq_none (by rw [HWN.out]; omega)] at e; cases e))
        clear hpre hn hB hke hse hbsz hXY f4
        gi_wp2
        have hS : (fun U : World => U.cell? ⟨V1B.heap.size, 0, none⟩ = some (.int .i64 (pre.length : Int)) ∧ U.cell? ⟨w5.heap.size, 0, none⟩ = some (.slice Aw wn cw) ∧ U.cell? ⟨gx, 0, none⟩ = some (.int .i64 zx) ∧ U.cell? ⟨gx, 1, none⟩ = some (.int .i64 zy)) Y := ⟨cn, cwx, k0, k1⟩
        refine region_HF (S := (fun U : World => U.cell? ⟨V1B.heap.size, 0, none⟩ = some (.int .i64 (pre.length : Int)) ∧ U.cell? ⟨w5.heap.size, 0, none⟩ = some (.slice Aw wn cw) ∧ U.cell? ⟨gx, 0, none⟩ = some (.int .i64 zx) ∧ U.cell? ⟨gx, 1, none⟩ = some (.int .i64 zy))) (by kernel_rfl) ?_
        rw [HY.out]
        refine anyHF_take (i := 0) (d := 99) (v := .int .i64 (pre.length : Int)) (by kernel_rfl) rfl (by kernel_rfl) (by kernel_rfl) (by kernel_rfl) rfl (fun _ _ _ h => h) ⟨Or.inl ⟨by rfl, fun w hS => by obtain ⟨h0, h1, h2, h3⟩ := hS; go_simp⟩, fun _ => rfl⟩ hS ?_
        simp only [upd]
        refine anyHF_take (i := 1) (d := 100) (v := .slice Aw wn cw) (by kernel_rfl) rfl (by kernel_rfl) (by kernel_rfl) (by kernel_rfl) rfl (fun _ _ _ h => h) ⟨Or.inl ⟨by rfl, fun w hS => by obtain ⟨h0, h1, h2, h3⟩ := hS; go_simp⟩, fun _ => rfl⟩ hS ?_
        simp only [upd]
        refine anyHF_take (i := 2) (d := 101) (v := .int .i64 (wn : Int)) (by kernel_rfl) rfl (by kernel_rfl) (by kernel_rfl) (by kernel_rfl) rfl (fun _ _ _ h => h) ⟨Or.inl ⟨by rfl, fun w hS => by obtain ⟨h0, h1, h2, h3⟩ := hS; go_simp⟩, fun _ => rfl⟩ hS ?_
        simp only [upd]
        refine anyHF_take (i := 3) (d := 102) (v := .bool true) (by kernel_rfl) rfl (by kernel_rfl) (by kernel_rfl) (by kernel_rfl) rfl (fun _ _ _ h => h) ⟨Or.inl ⟨by rfl, fun w hS => by obtain ⟨h0, h1, h2, h3⟩ := hS; (go_simp <;> omega)⟩, fun _ => rfl⟩ hS ?_
        simp only [upd]
        refine anyHF_take (i := 4) (d := 103) (v := .bool true) (by kernel_rfl) rfl (by kernel_rfl) (by kernel_rfl) (by kernel_rfl) rfl (fun _ _ _ h => h) ⟨Or.inl ⟨by rfl, fun w hS => by obtain ⟨h0, h1, h2, h3⟩ := hS; go_simp⟩, fun _ => rfl⟩ hS ?_
        simp only [upd]
        refine anyHF_take (i := 5) (d := 104) (v := undef) (by kernel_rfl) rfl (by kernel_rfl) (by kernel_rfl) (by kernel_rfl) rfl (fun _ _ _ h => h) ⟨Or.inr ⟨by rfl, rfl⟩, fun _ => rfl⟩ hS ?_
        simp only [upd]
        refine anyHF_take (i := 6) (d := 105) (v := undef) (by kernel_rfl) rfl (by kernel_rfl) (by kernel_rfl) (by kernel_rfl) rfl (fun _ _ _ h => h) ⟨Or.inr ⟨by rfl, rfl⟩, fun _ => rfl⟩ hS ?_
        simp only [upd]
        refine anyHF_take (i := 7) (d := 106) (v := undef) (by kernel_rfl) rfl (by kernel_rfl) (by kernel_rfl) (by kernel_rfl) rfl (fun _ _ _ h => h) ⟨Or.inr ⟨by rfl, rfl⟩, fun _ => rfl⟩ hS ?_
        simp only [upd]
        refine anyHF_take (i := 8) (d := 107) (v := undef) (by kernel_rfl) rfl (by kernel_rfl) (by kernel_rfl) (by kernel_rfl) rfl (fun _ _ _ h => h) ⟨Or.inr ⟨by rfl, rfl⟩, fun _ => rfl⟩ hS ?_
        simp only [upd]
        refine anyHF_take (i := 9) (d := 108) (v := undef) (by kernel_rfl) rfl (by kernel_rfl) (by kernel_rfl) (by kernel_rfl) rfl (fun _ _ _ h => h) ⟨Or.inr ⟨by rfl, rfl⟩, fun _ => rfl⟩ hS ?_
        simp only [upd]
        refine anyHF_take (i := 10) (d := 109) (v := undef) (by kernel_rfl) rfl (by kernel_rfl) (by kernel_rfl) (by kernel_rfl) rfl (fun _ _ _ h => h) ⟨Or.inr ⟨by rfl, rfl⟩, fun _ => rfl⟩ hS ?_
        simp only [upd]
        refine anyHF_take (i := 11) (d := 110) (v := .bool true) (by kernel_rfl) rfl (by kernel_rfl) (by kernel_rfl) (by kernel_rfl) rfl (fun _ _ _ h => h) ⟨Or.inl ⟨by rfl, fun w hS => by obtain ⟨h0, h1, h2, h3⟩ := hS; go_simp⟩, fun _ => rfl⟩ hS ?_
        simp only [upd]
        refine anyHF_done (by kernel_rfl) ?_ _
        clear hS
        gi_wp2
        exact ⟨none, .inl rfl, hss, hks, rfl, .inl ⟨rfl, HN.out⟩, fun e => by cases e⟩
    case doneB =>
      rintro DB xs o X hD hfo hxs hI hK hne
      rw [hxs] at hI
      obtain ⟨rfl, ⟨hpre, hcnd⟩, hn, hB⟩ := hI
      rw [HWN.out] at hn
      clear hpre hfo hxs
      obtain ⟨f1, f2, f3, f4, f5, f6, fB, fs⟩ := F1.next hB
      have cn := hn.one
      have cwx := f3.one
      have ctx := (ct1.below hB ct1.lt).one
      have cmx := f1.one
      have lt0 := hB.size
      have hne1 : ((wn : Int) != (wn : Int)) = false := by simp
      have fV := F1.2.2.2.2.2.2.2
      gi_wp2
      clear cn cwx ctx cmx f1 f2 f3 f4 f5 f6 fB fs
      obtain ⟨V2B, hVn⟩ : ∃ Y, X.alloc (.cells #[.int .i64 2] 3) = Y := ⟨_, rfl⟩
      rw [hVn]
      have hBn : Below V1B.heap.size V1B V2B := by rw [← hVn]; exact hB.alloc hB.size _
      have ct2 : Blk V2B X.heap.size 3 #[.int .i64 2] := by rw [← hVn]; exact Blk.new _ _ _
      have hDn : V2B.heap[DB]? = some (.deferred (some [])) := by rw [← hVn]; exact (Below.heap_alloc X _ DB (Array.getElem?_eq_some_iff.1 hK).1).trans hK
      have HL2 := HL1.more hBn (D := DB) (by omega) (by omega) hDn
      have F2 := F1.next hBn
      clear hVn hBn hDn hK hn hB ct1 F1 HL1 hne fV lt0
      clear hne1 hcnd
      rw [roundsIn_succ]
      obtain ⟨f1, f2, f3, f4, f5, f6, fB, fs⟩ := id F2
      have ctx := ct2.one
      gi_wp2_with fail
      go_wp2_with fail
      refine (Go.Proofs.YtggdlklkjnbbjaaGreatDoor.R.works_any _ (HLW.out _ fB)).mono ?_
      rintro e wf ⟨rfl, hBf⟩
      have f2f := f2.below hBf f2.lt
      have crx := f2f.one
      have frx := f2f.frozen 0
      have hb3 := f2f.set_ 0 (.bool true)
      have hLf := (HL2.below hBf).set_ ⟨w.heap.size + 1, 0, none⟩ (.bool true)
      have hBz : Below w.heap.size w (wf.setCell ⟨w.heap.size + 1, 0, none⟩ (.bool true)) := (below_in fB hBf).setCell (by simp) _
      go_wp2
      refine leaves_blks w _ _ hLf hBz (fun W' hB' hk => ?_)
      have r0 := (hk _ _ _ hb3).one
      exact ⟨.bool true, by simp [results, Tryz.results7, go_sem, r0], rfl, hB'⟩
    case stopB =>
      rintro D c pre o X hD hfo hsp hI hK hne
      obtain ⟨rfl, hor, htold⟩ := hI
      rcases hor with ⟨rfl, h⟩ | h
      · exact absurd hsp h
      · exact h.elim
  case stopA =>
    rintro DA c pre o X hD hfo hsp hI hK hne
    obtain ⟨rfl, hor, htold⟩ := hI
    rcases hor with ⟨rfl, h⟩ | ⟨rfl, hx1, hx2, hx3, hpre⟩
    · exact absurd hsp h
    obtain ⟨hn, hB⟩ := htold rfl
    have hple := hpre.length_le
    rw [HWN.out] at hple
    clear hsp hpre htold hfo
    obtain ⟨f1, f2, f3, f4, f5, f6, fB, fs⟩ := F0.next hB
    have cn := hn.one
    have cwx := f3.one
    have ctx := (ct0.below hB ct0.lt).one
    have cmx := f1.one
    have lt0 := hB.size
    have hmin : ((pre.length : Int) != min (wn : Int) (max 1 many)) = false := by rw [bne_eq_false_iff_eq]; rcases hx2 with h | h <;> omega
    have fV := F0.2.2.2.2.2.2.2
    gi_wp2
    clear cn cwx ctx cmx f1 f2 f3 f4 f5 f6 fB fs
    obtain ⟨V1C, hVn⟩ : ∃ Y, X.alloc (.cells #[.int .i64 1] 3) = Y := ⟨_, rfl⟩
    rw [hVn]
    have hBn : Below V0.heap.size V0 V1C := by rw [← hVn]; exact hB.alloc hB.size _
    have ct1 : Blk V1C X.heap.size 3 #[.int .i64 1] := by rw [← hVn]; exact Blk.new _ _ _
    have hDn : V1C.heap[DA]? = some (.deferred (some [])) := by rw [← hVn]; exact (Below.heap_alloc X _ DA (Array.getElem?_eq_some_iff.1 hK).1).trans hK
    have HL1 := HL0.more hBn (D := DA) (by omega) (by omega) hDn
    have F1 := F0.next hBn
    clear hVn hBn hDn hK hn hB ct0 F0 HL0 hne fV lt0
    clear hmin hx1 hx2 hx3 hple
    rw [roundsIn_succ]
    obtain ⟨f1, f2, f3, f4, f5, f6, fB, fs⟩ := id F1
    have ct := ct1.one
    have hlt1 := f1.lt
    have hlt2 := f2.lt
    have hlt3 := f3.lt
    have hlt5 := f5.lt
    have hltt := ct1.lt
    have hef := eql_wrongs gs (V1C.alloc (.cells #[.int .i64 0] 3))
    gi_wp2_with fail
    have hn0 : Blk (V1C.alloc (.cells #[.int .i64 0] 3)) V1C.heap.size 3 #[.int .i64 (([] : List (Int × Int)).length : Int)] := Blk.new _ _ _
    have hBa := below_one V1C (.cells #[.int .i64 0] 3)
    have Fa := F1.next hBa
    clear hef ct
    obtain ⟨VaC, hVa⟩ : ∃ X, V1C.alloc (.cells #[.int .i64 0] 3) = X := ⟨_, rfl⟩
    rw [hVa] at hn0 hBa Fa ⊢
    clear hVa
    have hna := hn0.lt
    have hSQ := Lib.hid (fun n => values_seqP gs V1C.heap.size us wl (by rw [HWN.out]; omega) VaC Fa.2.2.2.2.1 (by omega) Fa.2.2.2.2.2.1 (read_apart Fa.2.2.2.2.2.1 hn0) n)
    have hFI : Hid (FarO VaC.heap.size (fun (pre : List (Int × Int)) (o : Option Nat) X => o = none ∧ (pre <+: wl ∧ True) ∧ Blk X V1C.heap.size 3 #[.int .i64 (pre.length : Int)] ∧ Below V1C.heap.size V1C X)) := by
      rintro s o X Y row ⟨h2, hq, h3, h4⟩ hgr hr
      exact ⟨h2, hq, farO_blkV (by omega) h3 hgr hr, h4.grown hgr h4.size (fun r e => by have := (hr r e).1; omega)⟩
    have hFX : Hid (∀ c : Code, FarO VaC.heap.size (fun (pre : List (Int × Int)) (o : Option Nat) X => o = none ∧ ((c = .ret ∧ ¬ (pre <+: wl)) ∨ False) ∧ (c = .exit 2 → Blk X V1C.heap.size 3 #[.int .i64 (pre.length : Int)] ∧ Below V1C.heap.size V1C X))) := by
      rintro c s o X Y row ⟨h2, hq, h34⟩ hgr hr
      exact ⟨h2, hq, fun hc => ⟨farO_blkV (by omega) (h34 hc).1 hgr hr, (h34 hc).2.grown hgr (h34 hc).2.size (fun r e => by have := (hr r e).1; omega)⟩⟩
    clear f1 f2 f3 f4 f5 f6 fB Fa
    refine wpIn_rangeBoxQ rfl (by omega) (gf := 124) (lb := #[.pointer (some ⟨gs, 0, none⟩)]) rfl trivial Go.Proofs.YtggdlklkjnbbjaaGreatDoor.R.enter_values0 (hSQ.out _ (by omega)) (fun h h' => h.trans h') (fun X l ob hl _ hlp => KeepP.putFar X (by omega) ob) (Below.refl _ _) (fun _ => rfl)
      (fun pre o X => o = none ∧ (pre <+: wl ∧ True) ∧ Blk X V1C.heap.size 3 #[.int .i64 (pre.length : Int)] ∧ Below V1C.heap.size V1C X)
      (fun c pre o X => o = none ∧ ((c = .ret ∧ ¬ (pre <+: wl)) ∨ False) ∧ (c = .exit 2 → Blk X V1C.heap.size 3 #[.int .i64 (pre.length : Int)] ∧ Below V1C.heap.size V1C X))
      hFI.out hFX.out none (fun b e => by cases e) ⟨rfl, ⟨List.nil_prefix, trivial⟩, hn0, hBa⟩
      56 (fun z => #[.int .i64 z.1, .int .i64 z.2]) ?actC ?assignC
      (fun pre o X h => by obtain ⟨rfl, _⟩ := h; intro b e; cases e) (fun c pre o X h => by obtain ⟨rfl, _⟩ := h; intro b e; cases e) ?bodyC ?doneC ?stopC
    case assignC =>
      intro l' pre z o X K hsz ho hI2 hok hK
      have hlay := below_one X (.cells #[.int .i64 z.1, .int .i64 z.2] 56)
      have hbz := Blk.new X 56 #[.int .i64 z.1, .int .i64 z.2]
      have hkp : KeepP (fun b => b < VaC.heap.size ∧ b ≠ V1C.heap.size) X (X.alloc (.cells #[.int .i64 z.1, .int .i64 z.2] 56)) := KeepP.below hlay (fun b hb => by have := hb.1; omega)
      have hI3 := hFI.out.lay hI2 (.cells #[.int .i64 z.1, .int .i64 z.2] 56)
      have hsi := SinceO.below (B := VaC.heap.size) (o := o) hlay
      obtain ⟨gx, hgx⟩ : ∃ gx, Hid (X.heap.size = gx) := ⟨_, rfl⟩
      unfold encA
      gi_wp2_with fail
      rw [hgx.out] at hbz ⊢
      exact hK gx _ hsi hkp hI3 hbz
    case bodyC =>
      rintro l' pre z o gx X hsz ⟨rfl, ⟨hpre, hcnd⟩, hn, hB⟩ hbg hlen
      obtain ⟨zx, zy⟩ := z
      have hXY : Below X.heap.size X X.drew := (Below.refl _ _).drew
      obtain ⟨Y, hY⟩ : ∃ Y, X.drew = Y := ⟨_, rfl⟩
      rw [hY] at hXY
      have HY := Lib.hid hY
      clear hY
      have hke : KeepP (fun b => b < VaC.heap.size ∧ b ≠ V1C.heap.size) X Y := KeepP.below hXY (fun b hb => by have := hb.1; omega)
      have hse : SinceO VaC.heap.size none X Y := SinceO.below hXY
      replace hn := hn.below hXY hn.lt
      replace hB := below_in hB hXY
      replace hbg := hbg.below hXY hbg.lt
      replace hsz := Nat.le_trans hsz hXY.size
      obtain ⟨f1, f2, f3, f4, f5, f6, fB, fs⟩ := F1.next hB
      have cn := hn.one
      have fn := hn.frozen 0
      have cwx := f3.one
      have ctx := (ct1.below hB ct1.lt).one
      have cmx := f1.one
      have crx := f2.one
      have frx := f2.frozen 0
      have k0 := hbg.cell 0
      have k1 := hbg.cell 1
      simp only [List.getElem?_toArray, List.getElem?_cons_zero, List.getElem?_cons_succ] at k0 k1
      have hbsz := hB.size
      have hple := hpre.length_le
      rw [HWN.out] at hple
      have hks : KeepP (fun b => b < VaC.heap.size ∧ b ≠ V1C.heap.size) X (Y.setCell ⟨w.heap.size + 1, 0, none⟩ (.bool false)) := hke.trans (keepP_same f2)
      have hss : SinceO VaC.heap.size none X (Y.setCell ⟨w.heap.size + 1, 0, none⟩ (.bool false)) := hse.trans_ ⟨by simp, fun b h1 h2 h3 => Below.heap_setCell Y _ (.bool false) b (by simp; omega)⟩
      clear f1 f2 f3 f5 f6 fB hbg
      by_cases hp : pre.length < wn
      · obtain ⟨q4, cap4, e4, hA4⟩ := f4
        have hpw : pre.length < wl.length := by rw [HWN.out]; exact hp
        obtain ⟨gw, hq4, hgw, x0, x1⟩ := hA4 pre.length hpw
        have hget : wl[pre.length]? = some wl[pre.length] := List.getElem?_eq_getElem hpw
        clear hA4
        obtain ⟨yx, yy, hyz⟩ : ∃ yx yy, wl[pre.length] = (yx, yy) := ⟨_, _, rfl⟩
        rw [hyz] at x0 x1 hget
        clear hyz hpw
        have e5 : Aw = some ⟨gw, 0, none⟩ := by injection e4 with e6 _ _; rw [e6, hq4]
        clear e4 hq4
        subst e5
        have dp : decide ((wn : Int) ≤ (pre.length : Int)) = false := decide_eq_false (by omega)
        have hget2 := Lib.hid hget
        clear hget
        by_cases hx : (zx, zy) = (yx, yy)
        · injection hx with hx1 hx2
          subst hx1 hx2
          have HN := Lib.hid (prefix_next hpre hget2.out)
          have hl1 : Hid (((pre ++ [(zx, zy)]).length : Int) = (pre.length : Int) + 1) := by unfold Hid; rw [List.length_append]; rfl
          have hks2 : KeepP (fun b => b < VaC.heap.size ∧ b ≠ V1C.heap.size) X (Y.setCell ⟨V1C.heap.size, 0, none⟩ (.int .i64 ((pre.length : Int) + 1))) := hke.trans (KeepP.setFar Y (by simp) _)
          have hss2 : SinceO VaC.heap.size none X (Y.setCell ⟨V1C.heap.size, 0, none⟩ (.int .i64 ((pre.length : Int) + 1))) := hse.trans_ ⟨by simp, fun b h1 h2 h3 => Below.heap_setCell Y _ (.int .i64 ((pre.length : Int) + 1)) b (by simp; omega)⟩
          have hT : Hid (Blk (Y.setCell ⟨V1C.heap.size, 0, none⟩ (.int .i64 ((pre.length : Int) + 1))) V1C.heap.size 3 #[.int .i64 ((pre ++ [(zx, zy)]).length : Int)] ∧ Below V1C.heap.size V1C (Y.setCell ⟨V1C.heap.size, 0, none⟩ (.int .i64 ((pre.length : Int) + 1)))) := by
            unfold Hid
            rw [hl1.out]
            exact ⟨hn.set_ 0 _, hB.setCell (Nat.le_refl _) _⟩
          clear hpre hn hB hke hse hks hss hbsz hXY
          gi_wp2
          have hS : (fun U : World => U.cell? ⟨V1C.heap.size, 0, none⟩ = some (.int .i64 (pre.length : Int)) ∧ U.cell? ⟨w5.heap.size, 0, none⟩ = some (.slice (some ⟨gw, 0, none⟩) wn cw) ∧ U.cell? ⟨gx, 0, none⟩ = some (.int .i64 zx) ∧ U.cell? ⟨gx, 1, none⟩ = some (.int .i64 zy) ∧ U.cell? ⟨gw, pre.length * 2, none⟩ = some (.int .i64 zx) ∧ U.cell? ⟨gw, pre.length * 2 + 1, none⟩ = some (.int .i64 zy)) Y := ⟨cn, cwx, k0, k1, x0, x1⟩
          refine region_HF (S := (fun U : World => U.cell? ⟨V1C.heap.size, 0, none⟩ = some (.int .i64 (pre.length : Int)) ∧ U.cell? ⟨w5.heap.size, 0, none⟩ = some (.slice (some ⟨gw, 0, none⟩) wn cw) ∧ U.cell? ⟨gx, 0, none⟩ = some (.int .i64 zx) ∧ U.cell? ⟨gx, 1, none⟩ = some (.int .i64 zy) ∧ U.cell? ⟨gw, pre.length * 2, none⟩ = some (.int .i64 zx) ∧ U.cell? ⟨gw, pre.length * 2 + 1, none⟩ = some (.int .i64 zy))) (by kernel_rfl) ?_
          rw [HY.out]
          refine anyHF_take (i := 0) (d := 99) (v := .int .i64 (pre.length : Int)) (by kernel_rfl) rfl (by kernel_rfl) (by kernel_rfl) (by kernel_rfl) rfl (fun _ _ _ h => h) ⟨Or.inl ⟨by rfl, fun w hS => by obtain ⟨h0, h1, h2, h3, h4, h5⟩ := hS; go_simp⟩, fun _ => rfl⟩ hS ?_
          simp only [upd]
          refine anyHF_take (i := 1) (d := 100) (v := .slice (some ⟨gw, 0, none⟩) wn cw) (by kernel_rfl) rfl (by kernel_rfl) (by kernel_rfl) (by kernel_rfl) rfl (fun _ _ _ h => h) ⟨Or.inl ⟨by rfl, fun w hS => by obtain ⟨h0, h1, h2, h3, h4, h5⟩ := hS; go_simp⟩, fun _ => rfl⟩ hS ?_
          simp only [upd]
          refine anyHF_take (i := 2) (d := 101) (v := .int .i64 (wn : Int)) (by kernel_rfl) rfl (by kernel_rfl) (by kernel_rfl) (by kernel_rfl) rfl (fun _ _ _ h => h) ⟨Or.inl ⟨by rfl, fun w hS => by obtain ⟨h0, h1, h2, h3, h4, h5⟩ := hS; go_simp⟩, fun _ => rfl⟩ hS ?_
          simp only [upd]
          refine anyHF_take (i := 3) (d := 102) (v := .bool false) (by kernel_rfl) rfl (by kernel_rfl) (by kernel_rfl) (by kernel_rfl) rfl (fun _ _ _ h => h) ⟨Or.inl ⟨by rfl, fun w hS => by obtain ⟨h0, h1, h2, h3, h4, h5⟩ := hS; (go_simp <;> omega)⟩, fun _ => rfl⟩ hS ?_
          simp only [upd]
          refine anyHF_take (i := 4) (d := 103) (v := .bool false) (by kernel_rfl) rfl (by kernel_rfl) (by kernel_rfl) (by kernel_rfl) rfl (fun _ _ _ h => h) ⟨Or.inl ⟨by rfl, fun w hS => by obtain ⟨h0, h1, h2, h3, h4, h5⟩ := hS; go_simp⟩, fun _ => rfl⟩ hS ?_
          simp only [upd]
          refine anyHF_take (i := 5) (d := 104) (v := .agg #[.int .i64 zx, .int .i64 zy]) (by kernel_rfl) rfl (by kernel_rfl) (by kernel_rfl) (by kernel_rfl) rfl (fun _ _ _ h => h) ⟨Or.inl ⟨by rfl, fun w hS => by obtain ⟨h0, h1, h2, h3, h4, h5⟩ := hS; go_simp⟩, fun _ => rfl⟩ hS ?_
          simp only [upd]
          refine anyHF_take (i := 6) (d := 105) (v := .slice (some ⟨gw, 0, none⟩) wn cw) (by kernel_rfl) rfl (by kernel_rfl) (by kernel_rfl) (by kernel_rfl) rfl (fun _ _ _ h => h) ⟨Or.inl ⟨by rfl, fun w hS => by obtain ⟨h0, h1, h2, h3, h4, h5⟩ := hS; go_simp⟩, fun _ => rfl⟩ hS ?_
          simp only [upd]
          refine anyHF_take (i := 7) (d := 106) (v := .int .i64 (pre.length : Int)) (by kernel_rfl) rfl (by kernel_rfl) (by kernel_rfl) (by kernel_rfl) rfl (fun _ _ _ h => h) ⟨Or.inl ⟨by rfl, fun w hS => by obtain ⟨h0, h1, h2, h3, h4, h5⟩ := hS; go_simp⟩, fun _ => rfl⟩ hS ?_
          simp only [upd]
          refine anyHF_take (i := 8) (d := 107) (v := .pointer (some ⟨gw, pre.length * 2, none⟩)) (by kernel_rfl) rfl (by kernel_rfl) (by kernel_rfl) (by kernel_rfl) rfl (fun _ _ _ h => h) ⟨Or.inl ⟨by rfl, fun w hS => by obtain ⟨h0, h1, h2, h3, h4, h5⟩ := hS; (go_simp <;> omega)⟩, fun _ => rfl⟩ hS ?_
          simp only [upd]
          refine anyHF_take (i := 9) (d := 108) (v := .agg #[.int .i64 zx, .int .i64 zy]) (by kernel_rfl) rfl (by kernel_rfl) (by kernel_rfl) (by kernel_rfl) rfl (fun _ _ _ h => h) ⟨Or.inl ⟨by rfl, fun w hS => by obtain ⟨h0, h1, h2, h3, h4, h5⟩ := hS; go_simp⟩, fun _ => rfl⟩ hS ?_
          simp only [upd]
          refine anyHF_take (i := 10) (d := 109) (v := .bool false) (by kernel_rfl) rfl (by kernel_rfl) (by kernel_rfl) (by kernel_rfl) rfl (fun _ _ _ h => h) ⟨Or.inl ⟨by rfl, fun w hS => by obtain ⟨h0, h1, h2, h3, h4, h5⟩ := hS; (go_simp <;> omega)⟩, fun _ => rfl⟩ hS ?_
          simp only [upd]
          refine anyHF_take (i := 11) (d := 110) (v := .bool false) (by kernel_rfl) rfl (by kernel_rfl) (by kernel_rfl) (by kernel_rfl) rfl (fun _ _ _ h => h) ⟨Or.inl ⟨by rfl, fun w hS => by obtain ⟨h0, h1, h2, h3, h4, h5⟩ := hS; go_simp⟩, fun _ => rfl⟩ hS ?_
          simp only [upd]
          refine anyHF_done (by kernel_rfl) ?_ _
          clear hS
          gi_wp2
          exact ⟨none, .inl rfl, hss2, hks2, rfl, ⟨HN.out, trivial⟩, hT.out⟩
        · have hx2 : ¬ (zx = yx ∧ zy = yy) := fun e => hx (by rw [e.1, e.2])
          have HN := Lib.hid (prefix_not (L := wl) (pre := pre) (z := (zx, zy)) (fun e => hx (by rw [hget2.out] at e; injection e with e; exact e.symm)))
          clear hpre hn hB hke hse hbsz hXY
          gi_wp2
          have hS : (fun U : World => U.cell? ⟨V1C.heap.size, 0, none⟩ = some (.int .i64 (pre.length : Int)) ∧ U.cell? ⟨w5.heap.size, 0, none⟩ = some (.slice (some ⟨gw, 0, none⟩) wn cw) ∧ U.cell? ⟨gx, 0, none⟩ = some (.int .i64 zx) ∧ U.cell? ⟨gx, 1, none⟩ = some (.int .i64 zy) ∧ U.cell? ⟨gw, pre.length * 2, none⟩ = some (.int .i64 yx) ∧ U.cell? ⟨gw, pre.length * 2 + 1, none⟩ = some (.int .i64 yy)) Y := ⟨cn, cwx, k0, k1, x0, x1⟩
          refine region_HF (S := (fun U : World => U.cell? ⟨V1C.heap.size, 0, none⟩ = some (.int .i64 (pre.length : Int)) ∧ U.cell? ⟨w5.heap.size, 0, none⟩ = some (.slice (some ⟨gw, 0, none⟩) wn cw) ∧ U.cell? ⟨gx, 0, none⟩ = some (.int .i64 zx) ∧ U.cell? ⟨gx, 1, none⟩ = some (.int .i64 zy) ∧ U.cell? ⟨gw, pre.length * 2, none⟩ = some (.int .i64 yx) ∧ U.cell? ⟨gw, pre.length * 2 + 1, none⟩ = some (.int .i64 yy))) (by kernel_rfl) ?_
          rw [HY.out]
          refine anyHF_take (i := 0) (d := 99) (v := .int .i64 (pre.length : Int)) (by kernel_rfl) rfl (by kernel_rfl) (by kernel_rfl) (by kernel_rfl) rfl (fun _ _ _ h => h) ⟨Or.inl ⟨by rfl, fun w hS => by obtain ⟨h0, h1, h2, h3, h4, h5⟩ := hS; go_simp⟩, fun _ => rfl⟩ hS ?_
          simp only [upd]
          refine anyHF_take (i := 1) (d := 100) (v := .slice (some ⟨gw, 0, none⟩) wn cw) (by kernel_rfl) rfl (by kernel_rfl) (by kernel_rfl) (by kernel_rfl) rfl (fun _ _ _ h => h) ⟨Or.inl ⟨by rfl, fun w hS => by obtain ⟨h0, h1, h2, h3, h4, h5⟩ := hS; go_simp⟩, fun _ => rfl⟩ hS ?_
          simp only [upd]
          refine anyHF_take (i := 2) (d := 101) (v := .int .i64 (wn : Int)) (by kernel_rfl) rfl (by kernel_rfl) (by kernel_rfl) (by kernel_rfl) rfl (fun _ _ _ h => h) ⟨Or.inl ⟨by rfl, fun w hS => by obtain ⟨h0, h1, h2, h3, h4, h5⟩ := hS; go_simp⟩, fun _ => rfl⟩ hS ?_
          simp only [upd]
          refine anyHF_take (i := 3) (d := 102) (v := .bool false) (by kernel_rfl) rfl (by kernel_rfl) (by kernel_rfl) (by kernel_rfl) rfl (fun _ _ _ h => h) ⟨Or.inl ⟨by rfl, fun w hS => by obtain ⟨h0, h1, h2, h3, h4, h5⟩ := hS; (go_simp <;> omega)⟩, fun _ => rfl⟩ hS ?_
          simp only [upd]
          refine anyHF_take (i := 4) (d := 103) (v := .bool false) (by kernel_rfl) rfl (by kernel_rfl) (by kernel_rfl) (by kernel_rfl) rfl (fun _ _ _ h => h) ⟨Or.inl ⟨by rfl, fun w hS => by obtain ⟨h0, h1, h2, h3, h4, h5⟩ := hS; go_simp⟩, fun _ => rfl⟩ hS ?_
          simp only [upd]
          refine anyHF_take (i := 5) (d := 104) (v := .agg #[.int .i64 zx, .int .i64 zy]) (by kernel_rfl) rfl (by kernel_rfl) (by kernel_rfl) (by kernel_rfl) rfl (fun _ _ _ h => h) ⟨Or.inl ⟨by rfl, fun w hS => by obtain ⟨h0, h1, h2, h3, h4, h5⟩ := hS; go_simp⟩, fun _ => rfl⟩ hS ?_
          simp only [upd]
          refine anyHF_take (i := 6) (d := 105) (v := .slice (some ⟨gw, 0, none⟩) wn cw) (by kernel_rfl) rfl (by kernel_rfl) (by kernel_rfl) (by kernel_rfl) rfl (fun _ _ _ h => h) ⟨Or.inl ⟨by rfl, fun w hS => by obtain ⟨h0, h1, h2, h3, h4, h5⟩ := hS; go_simp⟩, fun _ => rfl⟩ hS ?_
          simp only [upd]
          refine anyHF_take (i := 7) (d := 106) (v := .int .i64 (pre.length : Int)) (by kernel_rfl) rfl (by kernel_rfl) (by kernel_rfl) (by kernel_rfl) rfl (fun _ _ _ h => h) ⟨Or.inl ⟨by rfl, fun w hS => by obtain ⟨h0, h1, h2, h3, h4, h5⟩ := hS; go_simp⟩, fun _ => rfl⟩ hS ?_
          simp only [upd]
          refine anyHF_take (i := 8) (d := 107) (v := .pointer (some ⟨gw, pre.length * 2, none⟩)) (by kernel_rfl) rfl (by kernel_rfl) (by kernel_rfl) (by kernel_rfl) rfl (fun _ _ _ h => h) ⟨Or.inl ⟨by rfl, fun w hS => by obtain ⟨h0, h1, h2, h3, h4, h5⟩ := hS; (go_simp <;> omega)⟩, fun _ => rfl⟩ hS ?_
          simp only [upd]
          refine anyHF_take (i := 9) (d := 108) (v := .agg #[.int .i64 yx, .int .i64 yy]) (by kernel_rfl) rfl (by kernel_rfl) (by kernel_rfl) (by kernel_rfl) rfl (fun _ _ _ h => h) ⟨Or.inl ⟨by rfl, fun w hS => by obtain ⟨h0, h1, h2, h3, h4, h5⟩ := hS; go_simp⟩, fun _ => rfl⟩ hS ?_
          simp only [upd]
          refine anyHF_take (i := 10) (d := 109) (v := .bool true) (by kernel_rfl) rfl (by kernel_rfl) (by kernel_rfl) (by kernel_rfl) rfl (fun _ _ _ h => h) ⟨Or.inl ⟨by rfl, fun w hS => by obtain ⟨h0, h1, h2, h3, h4, h5⟩ := hS; (go_simp <;> omega)⟩, fun _ => rfl⟩ hS ?_
          simp only [upd]
          refine anyHF_take (i := 11) (d := 110) (v := .bool true) (by kernel_rfl) rfl (by kernel_rfl) (by kernel_rfl) (by kernel_rfl) rfl (fun _ _ _ h => h) ⟨Or.inl ⟨by rfl, fun w hS => by obtain ⟨h0, h1, h2, h3, h4, h5⟩ := hS; go_simp⟩, fun _ => rfl⟩ hS ?_
          simp only [upd]
          refine anyHF_done (by kernel_rfl) ?_ _
          clear hS
          gi_wp2
          exact ⟨none, .inl rfl, hss, hks, rfl, .inl ⟨rfl, HN.out⟩, fun e => by cases e⟩
      · have dp : decide ((wn : Int) ≤ (pre.length : Int)) = true := decide_eq_true (by omega)
        have HN := Lib.hid (prefix_not (L := wl) (pre := pre) (z := (zx, zy)) (fun e => by rw [List.getElem?_eq_none (by rw [HWN.out]; omega)] at e; cases e))
        clear hpre hn hB hke hse hbsz hXY f4
        gi_wp2
        have hS : (fun U : World => U.cell? ⟨V1C.heap.size, 0, none⟩ = some (.int .i64 (pre.length : Int)) ∧ U.cell? ⟨w5.heap.size, 0, none⟩ = some (.slice Aw wn cw) ∧ U.cell? ⟨gx, 0, none⟩ = some (.int .i64 zx) ∧ U.cell? ⟨gx, 1, none⟩ = some (.int .i64 zy)) Y := ⟨cn, cwx, k0, k1⟩
        refine region_HF (S := (fun U : World => U.cell? ⟨V1C.heap.size, 0, none⟩ = some (.int .i64 (pre.length : Int)) ∧ U.cell? ⟨w5.heap.size, 0, none⟩ = some (.slice Aw wn cw) ∧ U.cell? ⟨gx, 0, none⟩ = some (.int .i64 zx) ∧ U.cell? ⟨gx, 1, none⟩ = some (.int .i64 zy))) (by kernel_rfl) ?_
        rw [HY.out]
        refine anyHF_take (i := 0) (d := 99) (v := .int .i64 (pre.length : Int)) (by kernel_rfl) rfl (by kernel_rfl) (by kernel_rfl) (by kernel_rfl) rfl (fun _ _ _ h => h) ⟨Or.inl ⟨by rfl, fun w hS => by obtain ⟨h0, h1, h2, h3⟩ := hS; go_simp⟩, fun _ => rfl⟩ hS ?_
        simp only [upd]
        refine anyHF_take (i := 1) (d := 100) (v := .slice Aw wn cw) (by kernel_rfl) rfl (by kernel_rfl) (by kernel_rfl) (by kernel_rfl) rfl (fun _ _ _ h => h) ⟨Or.inl ⟨by rfl, fun w hS => by obtain ⟨h0, h1, h2, h3⟩ := hS; go_simp⟩, fun _ => rfl⟩ hS ?_
        simp only [upd]
        refine anyHF_take (i := 2) (d := 101) (v := .int .i64 (wn : Int)) (by kernel_rfl) rfl (by kernel_rfl) (by kernel_rfl) (by kernel_rfl) rfl (fun _ _ _ h => h) ⟨Or.inl ⟨by rfl, fun w hS => by obtain ⟨h0, h1, h2, h3⟩ := hS; go_simp⟩, fun _ => rfl⟩ hS ?_
        simp only [upd]
        refine anyHF_take (i := 3) (d := 102) (v := .bool true) (by kernel_rfl) rfl (by kernel_rfl) (by kernel_rfl) (by kernel_rfl) rfl (fun _ _ _ h => h) ⟨Or.inl ⟨by rfl, fun w hS => by obtain ⟨h0, h1, h2, h3⟩ := hS; (go_simp <;> omega)⟩, fun _ => rfl⟩ hS ?_
        simp only [upd]
        refine anyHF_take (i := 4) (d := 103) (v := .bool true) (by kernel_rfl) rfl (by kernel_rfl) (by kernel_rfl) (by kernel_rfl) rfl (fun _ _ _ h => h) ⟨Or.inl ⟨by rfl, fun w hS => by obtain ⟨h0, h1, h2, h3⟩ := hS; go_simp⟩, fun _ => rfl⟩ hS ?_
        simp only [upd]
        refine anyHF_take (i := 5) (d := 104) (v := undef) (by kernel_rfl) rfl (by kernel_rfl) (by kernel_rfl) (by kernel_rfl) rfl (fun _ _ _ h => h) ⟨Or.inr ⟨by rfl, rfl⟩, fun _ => rfl⟩ hS ?_
        simp only [upd]
        refine anyHF_take (i := 6) (d := 105) (v := undef) (by kernel_rfl) rfl (by kernel_rfl) (by kernel_rfl) (by kernel_rfl) rfl (fun _ _ _ h => h) ⟨Or.inr ⟨by rfl, rfl⟩, fun _ => rfl⟩ hS ?_
        simp only [upd]
        refine anyHF_take (i := 7) (d := 106) (v := undef) (by kernel_rfl) rfl (by kernel_rfl) (by kernel_rfl) (by kernel_rfl) rfl (fun _ _ _ h => h) ⟨Or.inr ⟨by rfl, rfl⟩, fun _ => rfl⟩ hS ?_
        simp only [upd]
        refine anyHF_take (i := 8) (d := 107) (v := undef) (by kernel_rfl) rfl (by kernel_rfl) (by kernel_rfl) (by kernel_rfl) rfl (fun _ _ _ h => h) ⟨Or.inr ⟨by rfl, rfl⟩, fun _ => rfl⟩ hS ?_
        simp only [upd]
        refine anyHF_take (i := 9) (d := 108) (v := undef) (by kernel_rfl) rfl (by kernel_rfl) (by kernel_rfl) (by kernel_rfl) rfl (fun _ _ _ h => h) ⟨Or.inr ⟨by rfl, rfl⟩, fun _ => rfl⟩ hS ?_
        simp only [upd]
        refine anyHF_take (i := 10) (d := 109) (v := undef) (by kernel_rfl) rfl (by kernel_rfl) (by kernel_rfl) (by kernel_rfl) rfl (fun _ _ _ h => h) ⟨Or.inr ⟨by rfl, rfl⟩, fun _ => rfl⟩ hS ?_
        simp only [upd]
        refine anyHF_take (i := 11) (d := 110) (v := .bool true) (by kernel_rfl) rfl (by kernel_rfl) (by kernel_rfl) (by kernel_rfl) rfl (fun _ _ _ h => h) ⟨Or.inl ⟨by rfl, fun w hS => by obtain ⟨h0, h1, h2, h3⟩ := hS; go_simp⟩, fun _ => rfl⟩ hS ?_
        simp only [upd]
        refine anyHF_done (by kernel_rfl) ?_ _
        clear hS
        gi_wp2
        exact ⟨none, .inl rfl, hss, hks, rfl, .inl ⟨rfl, HN.out⟩, fun e => by cases e⟩
    case doneC =>
      rintro DC xs o X hD hfo hxs hI hK hne
      rw [hxs] at hI
      obtain ⟨rfl, ⟨hpre, hcnd⟩, hn, hB⟩ := hI
      rw [HWN.out] at hn
      clear hpre hfo hxs
      obtain ⟨f1, f2, f3, f4, f5, f6, fB, fs⟩ := F1.next hB
      have cn := hn.one
      have cwx := f3.one
      have ctx := (ct1.below hB ct1.lt).one
      have cmx := f1.one
      have lt0 := hB.size
      have hne1 : ((wn : Int) != (wn : Int)) = false := by simp
      have fV := F1.2.2.2.2.2.2.2
      gi_wp2
      clear cn cwx ctx cmx f1 f2 f3 f4 f5 f6 fB fs
      obtain ⟨V2C, hVn⟩ : ∃ Y, X.alloc (.cells #[.int .i64 2] 3) = Y := ⟨_, rfl⟩
      rw [hVn]
      have hBn : Below V1C.heap.size V1C V2C := by rw [← hVn]; exact hB.alloc hB.size _
      have ct2 : Blk V2C X.heap.size 3 #[.int .i64 2] := by rw [← hVn]; exact Blk.new _ _ _
      have hDn : V2C.heap[DC]? = some (.deferred (some [])) := by rw [← hVn]; exact (Below.heap_alloc X _ DC (Array.getElem?_eq_some_iff.1 hK).1).trans hK
      have HL2 := HL1.more hBn (D := DC) (by omega) (by omega) hDn
      have F2 := F1.next hBn
      clear hVn hBn hDn hK hn hB ct1 F1 HL1 hne fV lt0
      clear hne1 hcnd
      rw [roundsIn_succ]
      obtain ⟨f1, f2, f3, f4, f5, f6, fB, fs⟩ := id F2
      have ctx := ct2.one
      gi_wp2_with fail
      go_wp2_with fail
      refine (Go.Proofs.YtggdlklkjnbbjaaGreatDoor.R.works_any _ (HLW.out _ fB)).mono ?_
      rintro e wf ⟨rfl, hBf⟩
      have f2f := f2.below hBf f2.lt
      have crx := f2f.one
      have frx := f2f.frozen 0
      have hb3 := f2f.set_ 0 (.bool true)
      have hLf := (HL2.below hBf).set_ ⟨w.heap.size + 1, 0, none⟩ (.bool true)
      have hBz : Below w.heap.size w (wf.setCell ⟨w.heap.size + 1, 0, none⟩ (.bool true)) := (below_in fB hBf).setCell (by simp) _
      go_wp2
      refine leaves_blks w _ _ hLf hBz (fun W' hB' hk => ?_)
      have r0 := (hk _ _ _ hb3).one
      exact ⟨.bool true, by simp [results, Tryz.results7, go_sem, r0], rfl, hB'⟩
    case stopC =>
      rintro D c pre o X hD hfo hsp hI hK hne
      obtain ⟨rfl, hor, htold⟩ := hI
      rcases hor with ⟨rfl, h⟩ | h
      · exact absurd hsp h
      · exact h.elim

open Go.Proofs.YtggdlklkjnbbjaaGreatDoor.E Go.Proofs.YtggdlklkjnbbjaaGreatDoor.C Go.Proofs.YtggdlklkjnbbjaaGreatDoor.R in
set_option maxRecDepth 100000 in
set_option maxHeartbeats 4000000 in
theorem yes (p : Int) (v : Value) (css : List (List (List UInt8))) (many : Int) (w : World) (hL : Laid w) (wp : -9223372036854775808 ≤ p ∧ p ≤ 9223372036854775807) (hC : Cols w.heap.size w v css) (wm : -9223372036854775808 ≤ many ∧ many ≤ 9223372036854775807) (hf0 : Few6 css) (hok : AllR p css) :
    Calls Tryz.prog 7 #[.int .i64 p, v, .int .i64 many] w fun e w' => e = .returned (.bool true) ∧ Below w.heap.size w w' := by
  obtain ⟨A, cap, rfl, _, _⟩ := id hC
  obtain ⟨W2, hW2⟩ : ∃ W2, (w.alloc (.cells #[.int .i64 many] 3)).alloc (.cells #[.bool false] 4) = W2 := ⟨_, rfl⟩
  have bm : Blk W2 w.heap.size 3 #[.int .i64 many] := by rw [← hW2]; exact (Blk.new w _ _).alloc _
  have bb : Blk W2 (w.heap.size + 1) 4 #[.bool false] := by rw [← hW2]; exact Blk.second w _ _ _
  have hB2 : Below w.heap.size w W2 := by rw [← hW2]; exact below_two w _ _
  have s2 : W2.heap.size = w.heap.size + 2 := by rw [← hW2]; simp
  have HS2 := Lib.hid s2
  clear s2
  have hlen : css.length ≤ 1000 := by have := hf0.1; omega
  have hcl : ∀ j, j < css.length → (css[j]?.getD []).length ≤ 1000 := fun j hj => by have := (hf0.2 j hj).1; omega
  have HF0 := Lib.hid (fun (U : World) (hU : Below w.heap.size w U) => few6_any (.slice A css.length cap) css U (hC.below hU) true (by simp [hf0]))
  have hpp := prm_bounds hok.1.1
  have hq := hok.2
  have q2 : wrap64 (p + 1) = (css.length : Int) := by rw [IntWalk.wrap64_in _ (by omega)]; omega
  have HCK := Lib.hid (fun (U : World) (hU : Below w.heap.size w U) => check_yes (B := w.heap.size) p (.slice A css.length cap) css hok U (hL.next hU) hU.size (hC.below hU))
  have HLE := Lib.hid (fun (U : World) (hU : Below w.heap.size w U) => left_yes (B := w.heap.size) p (.slice A css.length cap) css hok U (hL.next hU) hU.size (hC.below hU))
  have HRT := Lib.hid (fun (U : World) (hU : Below w.heap.size w U) => right6_any (B := w.heap.size) p (.slice A css.length cap) css U hU.size (hC.below hU) hlen true (by simp [hok.1]))
  have HRW := Lib.hid (fun (U : World) (hU : Below w.heap.size w U) => refWrong_any (B := w.heap.size) p (.slice A css.length cap) css hok U hU.size (hC.below hU))
  have HLR := Lib.hid (fun (U : World) (hU : Below w.heap.size w U) => refLeft_any (B := w.heap.size) (p := p) (.slice A css.length cap) css hok U hU.size (hC.below hU))
  have HWS := Lib.hid (fun (U : World) (hU : Below w.heap.size w U) => wrongs_yes (B := w.heap.size) p (.slice A css.length cap) css hok U (hL.next hU) hU.size (hC.below hU))
  have HLW := Lib.hid (fun (U : World) (hU : Below w.heap.size w U) => hL.next hU)
  have hwl := wrongL_len hok.1.1 css
  obtain ⟨l9, hl9⟩ : ∃ l9, (adjOf p (css.take p.toNat)).length = l9 := ⟨_, rfl⟩
  have HL9 := Lib.hid hl9
  clear hf0 hC hok hlen hcl hl9 hq hpp
  generalize wrongL p css = wl at *
  generalize adjOf p (css.take p.toNat) = adj at *
  generalize css.length = na at *
  obtain ⟨wn, hwn⟩ : ∃ wn, wl.length = wn := ⟨_, rfl⟩
  have hdd : ((wn : Int) == 0) = decide (wl = []) := by rw [← hwn]; cases wl <;> simp <;> omega
  have HWN := Lib.hid hwn
  rw [hwn] at hwl
  clear hwn
  generalize decide (wl = []) = d at *
  refine (callsIn_wide (n := 9)).1 ?_
  refine callsIn_of_wp_marks Tryz.func7 rfl trivial ?_ rfl
  simp only [Tryz.ntmps7, List.size_toArray, List.length_cons, List.length_nil, Nat.reduceAdd, Nat.reduceSub, Array.replicate_succ, Array.replicate_zero, List.push_toArray, List.append_toArray, List.nil_append, List.cons_append]
  refine (wpIn_wide (n := 9)).2 ?_
  go_wp2_with fail
  try rw [hW2]
  go_wp2_with (first
    | (go_at_call 10; refine (HF0.out _ hB2).mono ?_; rintro e w' ⟨rfl, rfl⟩)
    | (go_at_call 31; refine (HCK.out _ hB2).mono ?_; rintro e w3 ⟨rfl, hBn⟩; have hB3 := below_in hB2 hBn; have hD3 := hBn)
    | (go_at_call 32; refine (HLE.out _ hB3).mono ?_; rintro e w4 ⟨sv, rfl, hs, hBn⟩; have hB4 := below_in hB3 hBn; have hD4 := below_in hD3 hBn; obtain ⟨As, cs, hse, _, _⟩ := id hs; rw [HL9.out] at hse; subst hse)
    | (go_at_call 15; refine (HRT.out _ hB4).mono ?_; rintro e w5 ⟨rfl, hBn⟩; have hB5 := below_in hB4 hBn; have hD5 := below_in hD4 hBn; have hE5 := hBn; have hB6 := below_in hB5 (below_one w5 (.cells #[.slice none 0 0] 49)); have hD6 := below_in hD5 (below_one w5 (.cells #[.slice none 0 0] 49)); have hE6 := below_in hE5 (below_one w5 (.cells #[.slice none 0 0] 49)); have bw6 := Blk.new w5 49 #[.slice none 0 0])
    | (go_at_call 30; refine (Go.Proofs.YtggdlklkjnbbjaaGreatDoor.R.lcode_any _ _).mono ?_; rintro e w6 ⟨rfl, hBn⟩; have hB7 := below_in hB6 hBn; have hD7 := below_in hD6 hBn; have hE7 := below_in hE6 hBn; have bw7 := bw6.below hBn bw6.lt)
    | (go_at_call 33; refine (HRW.out _ hB7).mono ?_; rintro e w7 ⟨vw, rfl, how, hBn⟩; have hB8 := below_in hB7 hBn; have hD8 := below_in hD7 hBn; have hE8 := below_in hE7 hBn; have bw8 := bw7.below hBn bw7.lt; have f8 := bw8.frozen 0; have c8 := bw8.one; obtain ⟨Aw, cw, hwe, _⟩ := id how.readA; rw [HWN.out] at hwe; subst hwe))
  have hgw := bw8.lt
  have hg5 := hB5.size
  have h45 := hE5.size
  have h56 := hB7.size
  have h26 := hD5.size
  have HS2q := HS2.out
  have bW := bw8.set_ 0 (.slice Aw wn cw)
  have hn6 : some w5.heap.size ≠ (Value.slice Aw wn cw).ownBlock := fun e => by have h1 := how.own_le _ e.symm; have h2 := hBn.size; have h3 := bw7.lt; omega
  have how8 := OwnA.far how (p := ⟨w5.heap.size, 0, none⟩) hn6 (.slice Aw wn cw)
  replace hB8 := hB8.setCell (p := ⟨w5.heap.size, 0, none⟩) hg5 (.slice Aw wn cw)
  replace hE8 := hE8.setCell (p := ⟨w5.heap.size, 0, none⟩) h45 (.slice Aw wn cw)
  replace hD8 := hD8.setCell (p := ⟨w5.heap.size, 0, none⟩) h26 (.slice Aw wn cw)
  clear c8 f8 bw6 bw7 bw8 hBn hB3 hB4 hB5 hB6 hB7 hD3 hD4 hD5 hD6 hD7 hE5 hE6 hE7 HCK HLE HRT HRW HS2q
  generalize w7.setCell ⟨w5.heap.size, 0, none⟩ (.slice Aw wn cw) = W8 at *
  have hgw8 := bW.lt
  have HSS := Lib.hid (fun (V : World) (hV : Below W8.heap.size W8 V) => (⟨((hV.cell (p := ⟨w5.heap.size, 0, none⟩) hgw8).trans bW.one), run_txt V (hs.below (below_in hE8 hV))⟩ : (fun V : World => V.cell? ⟨w5.heap.size, 0, none⟩ = some (.slice Aw wn cw) ∧ (convert 25 9 (.slice As l9 cs)).run Tryz.prog V = .ok (.string (text adj)) V) V))
  have hB9 : Below W8.heap.size W8 W8.drew := (Below.refl _ _).drew
  have hS : (fun V : World => V.cell? ⟨w5.heap.size, 0, none⟩ = some (.slice Aw wn cw) ∧ (convert 25 9 (.slice As l9 cs)).run Tryz.prog V = .ok (.string (text adj)) V) W8.drew := HSS.out _ hB9
  refine (wpIn_wide (n := 12)).1 (wpIn_mono (region_HF (Q := NoPanic _) (S := (fun V : World => V.cell? ⟨w5.heap.size, 0, none⟩ = some (.slice Aw wn cw) ∧ (convert 25 9 (.slice As l9 cs)).run Tryz.prog V = .ok (.string (text adj)) V)) (by kernel_rfl) ?_) NoPanic.imp)
  refine anyHF_take (i := 0) (d := 48) (v := .bool d) (by kernel_rfl) rfl (by kernel_rfl) (by kernel_rfl) (by kernel_rfl) rfl (fun _ _ _ h => h) ⟨Or.inl ⟨by rfl, fun w hS => by obtain ⟨h0, h1⟩ := hS; go_simp⟩, fun _ => rfl⟩ hS ?_
  simp only [upd]
  refine anyHF_take (i := 1) (d := 49) (v := .slice Aw wn cw) (by kernel_rfl) rfl (by kernel_rfl) (by kernel_rfl) (by kernel_rfl) rfl (fun _ _ _ h => h) ⟨Or.inl ⟨by rfl, fun w hS => by obtain ⟨h0, h1⟩ := hS; go_simp⟩, fun _ => rfl⟩ hS ?_
  simp only [upd]
  refine anyHF_take (i := 2) (d := 50) (v := .int .i64 (wn : Int)) (by kernel_rfl) rfl (by kernel_rfl) (by kernel_rfl) (by kernel_rfl) rfl (fun _ _ _ h => h) ⟨Or.inl ⟨by rfl, fun w hS => by obtain ⟨h0, h1⟩ := hS; go_simp⟩, fun _ => rfl⟩ hS ?_
  simp only [upd]
  refine anyHF_take (i := 3) (d := 51) (v := .bool d) (by kernel_rfl) rfl (by kernel_rfl) (by kernel_rfl) (by kernel_rfl) rfl (fun _ _ _ h => h) ⟨Or.inl ⟨by rfl, fun w hS => by obtain ⟨h0, h1⟩ := hS; go_simp⟩, fun _ => rfl⟩ hS ?_
  simp only [upd]
  refine anyHF_take (i := 4) (d := 52) (v := .bool false) (by kernel_rfl) rfl (by kernel_rfl) (by kernel_rfl) (by kernel_rfl) rfl (fun _ _ _ h => h) ⟨Or.inl ⟨by rfl, fun w hS => by obtain ⟨h0, h1⟩ := hS; go_simp⟩, fun _ => rfl⟩ hS ?_
  simp only [upd]
  refine anyHF_take (i := 5) (d := 53) (v := .bool false) (by kernel_rfl) rfl (by kernel_rfl) (by kernel_rfl) (by kernel_rfl) rfl (fun _ _ _ h => h) ⟨Or.inl ⟨by rfl, fun w hS => by obtain ⟨h0, h1⟩ := hS; go_simp⟩, fun _ => rfl⟩ hS ?_
  simp only [upd]
  refine anyHF_take (i := 6) (d := 54) (v := .int .i64 0) (by kernel_rfl) rfl (by kernel_rfl) (by kernel_rfl) (by kernel_rfl) rfl (fun _ _ _ h => h) ⟨Or.inl ⟨by rfl, fun w hS => by obtain ⟨h0, h1⟩ := hS; go_simp⟩, fun _ => rfl⟩ hS ?_
  simp only [upd]
  refine anyHF_one (i := 7) (by kernel_rfl) rfl (by kernel_rfl) (by rfl) ?_
  gi_wp2_with fail
  refine ⟨trivial, (callsIn_wide.2 (Go.Proofs.YtggdlklkjnbbjaaGreatDoor.R.num_any _ _)).mono ?_⟩
  rintro e wn_ ⟨rfl, rfl⟩
  gi_wp2
  try (refine ⟨hS, ?_⟩)
  refine anyHF_take (i := 8) (d := 56) (v := .bool false) (by kernel_rfl) rfl (by kernel_rfl) (by kernel_rfl) (by kernel_rfl) rfl (fun _ _ _ h => h) ⟨Or.inl ⟨by rfl, fun w hS => by obtain ⟨h0, h1⟩ := hS; go_simp⟩, fun _ => rfl⟩ hS ?_
  simp only [upd]
  refine anyHF_take (i := 9) (d := 57) (v := .bool false) (by kernel_rfl) rfl (by kernel_rfl) (by kernel_rfl) (by kernel_rfl) rfl (fun _ _ _ h => h) ⟨Or.inl ⟨by rfl, fun w hS => by obtain ⟨h0, h1⟩ := hS; go_simp⟩, fun _ => rfl⟩ hS ?_
  simp only [upd]
  refine anyHF_take (i := 10) (d := 58) (v := .bool false) (by kernel_rfl) rfl (by kernel_rfl) (by kernel_rfl) (by kernel_rfl) rfl (fun _ _ _ h => h) ⟨Or.inl ⟨by rfl, fun w hS => by obtain ⟨h0, h1⟩ := hS; go_simp⟩, fun _ => rfl⟩ hS ?_
  simp only [upd]
  refine anyHF_take (i := 11) (d := 59) (v := .slice As l9 cs) (by kernel_rfl) rfl (by kernel_rfl) (by kernel_rfl) (by kernel_rfl) rfl (fun _ _ _ h => h) ⟨Or.inl ⟨by rfl, fun w hS => by obtain ⟨h0, h1⟩ := hS; go_simp⟩, fun _ => rfl⟩ hS ?_
  simp only [upd]
  refine anyHF_take (i := 12) (d := 60) (v := .string (text adj)) (by kernel_rfl) rfl (by kernel_rfl) (by kernel_rfl) (by kernel_rfl) rfl (fun _ _ _ h => h) ⟨Or.inl ⟨by rfl, fun w hS => by obtain ⟨h0, h1⟩ := hS; go_simp⟩, fun _ => rfl⟩ hS ?_
  simp only [upd]
  refine anyHF_take (i := 13) (d := 61) (v := .int .i64 p) (by kernel_rfl) rfl (by kernel_rfl) (by kernel_rfl) (by kernel_rfl) rfl (fun _ _ _ h => h) ⟨Or.inl ⟨by rfl, fun w hS => by obtain ⟨h0, h1⟩ := hS; go_simp⟩, fun _ => rfl⟩ hS ?_
  simp only [upd]
  refine anyHF_take (i := 14) (d := 62) (v := .slice A na cap) (by kernel_rfl) rfl (by kernel_rfl) (by kernel_rfl) (by kernel_rfl) rfl (fun _ _ _ h => h) ⟨Or.inl ⟨by rfl, fun w hS => by obtain ⟨h0, h1⟩ := hS; go_simp⟩, fun _ => rfl⟩ hS ?_
  simp only [upd]
  refine anyHF_one (i := 15) (by kernel_rfl) rfl (by kernel_rfl) (by rfl) ?_
  gi_wp2_with fail
  refine ⟨trivial, (callsIn_wide.2 (HLR.out _ (below_in hB8 hB9))).mono ?_⟩
  rintro e w9 ⟨ul, rfl, hul, hBn⟩
  replace hB9 := below_in hB9 hBn
  have t2 := run_txt w9 hul
  clear hS
  have hS : (fun V : World => V.cell? ⟨w5.heap.size, 0, none⟩ = some (.slice Aw wn cw) ∧ (convert 25 9 (.slice As l9 cs)).run Tryz.prog V = .ok (.string (text adj)) V) w9 := HSS.out _ hB9
  gi_wp2
  try (refine ⟨hS, ?_⟩)
  refine anyHF_one (i := 16) (by kernel_rfl) rfl (by kernel_rfl) (by rfl) ?_
  gi_wp2
  try (refine ⟨hS, ?_⟩)
  refine anyHF_take (i := 17) (d := 65) (v := .bool false) (by kernel_rfl) rfl (by kernel_rfl) (by kernel_rfl) (by kernel_rfl) rfl (fun _ _ _ h => h) ⟨Or.inl ⟨by rfl, fun w hS => by obtain ⟨h0, h1⟩ := hS; go_simp⟩, fun _ => rfl⟩ hS ?_
  simp only [upd]
  refine anyHF_take (i := 18) (d := 66) (v := .bool false) (by kernel_rfl) rfl (by kernel_rfl) (by kernel_rfl) (by kernel_rfl) rfl (fun _ _ _ h => h) ⟨Or.inl ⟨by rfl, fun w hS => by obtain ⟨h0, h1⟩ := hS; go_simp⟩, fun _ => rfl⟩ hS ?_
  simp only [upd]
  refine anyHF_take (i := 19) (d := 67) (v := .bool false) (by kernel_rfl) rfl (by kernel_rfl) (by kernel_rfl) (by kernel_rfl) rfl (fun _ _ _ h => h) ⟨Or.inl ⟨by rfl, fun w hS => by obtain ⟨h0, h1⟩ := hS; go_simp⟩, fun _ => rfl⟩ hS ?_
  simp only [upd]
  refine anyHF_take (i := 20) (d := 68) (v := .int .i64 0) (by kernel_rfl) rfl (by kernel_rfl) (by kernel_rfl) (by kernel_rfl) rfl (fun _ _ _ h => h) ⟨Or.inl ⟨by rfl, fun w hS => by obtain ⟨h0, h1⟩ := hS; go_simp⟩, fun _ => rfl⟩ hS ?_
  simp only [upd]
  refine anyHF_one (i := 21) (by kernel_rfl) rfl (by kernel_rfl) (by rfl) ?_
  gi_wp2_with fail
  refine ⟨trivial, (callsIn_wide.2 (Go.Proofs.YtggdlklkjnbbjaaGreatDoor.R.num_any _ _)).mono ?_⟩
  rintro e wn_ ⟨rfl, rfl⟩
  gi_wp2
  try (refine ⟨hS, ?_⟩)
  refine anyHF_take (i := 22) (d := 70) (v := .bool false) (by kernel_rfl) rfl (by kernel_rfl) (by kernel_rfl) (by kernel_rfl) rfl (fun _ _ _ h => h) ⟨Or.inl ⟨by rfl, fun w hS => by obtain ⟨h0, h1⟩ := hS; go_simp⟩, fun _ => rfl⟩ hS ?_
  simp only [upd]
  refine anyHF_take (i := 23) (d := 71) (v := .bool false) (by kernel_rfl) rfl (by kernel_rfl) (by kernel_rfl) (by kernel_rfl) rfl (fun _ _ _ h => h) ⟨Or.inl ⟨by rfl, fun w hS => by obtain ⟨h0, h1⟩ := hS; go_simp⟩, fun _ => rfl⟩ hS ?_
  simp only [upd]
  refine anyHF_done (by kernel_rfl) ?_ _
  refine NoPanic.normal ?_
  clear hS
  go_wp2_with (go_at_call 35; refine (HWS.out _ (below_in hB8 hB9)).mono ?_; rintro e w10 ⟨gs, us, rfl, hbs, hrs, hBn⟩; have hB10 := below_in hB9 hBn)
  have FQ : TurnF w w10 many w5.heap.size (.slice Aw wn cw) gs us wl := ⟨bm.below (below_in hD8 hB10) bm.lt, bb.below (below_in hD8 hB10) bb.lt, bW.below hB10 bW.lt, readA_below how8.readA hB10, hbs, hrs, below_in hB8 hB10, by have := (below_in hD8 hB10).size; have := HS2.out; omega⟩
  clear HF0 HLR HWS HSS bm bb bW how how8 hs hul hB2 hB8 hB9 hB10 hBn hD8 hE8 hbs hrs HS2 hW2 t2
  obtain ⟨V0, hV0⟩ : ∃ V0, w10.alloc (.cells #[.int .i64 0] 3) = V0 := ⟨_, rfl⟩
  rw [hV0]
  have hB70 : Below w10.heap.size w10 V0 := by rw [← hV0]; exact below_one w10 _
  have ct0 : Blk V0 w10.heap.size 3 #[.int .i64 0] := by rw [← hV0]; exact Blk.new _ _ _
  have F0 := FQ.next hB70
  have HL0 := Left.nil w.heap.size V0
  clear hV0 FQ hB70
  refine (wpIn_wide (n := 9)).1 ?_
  refine wpIn_loop_rounds 3 ?_
  rw [roundsIn_succ]
  obtain ⟨f1, f2, f3, f4, f5, f6, fB, fs⟩ := id F0
  have ct := ct0.one
  have hlt1 := f1.lt
  have hlt2 := f2.lt
  have hlt3 := f3.lt
  have hlt5 := f5.lt
  have hltt := ct0.lt
  have hef := eql_wrongs gs (V0.alloc (.cells #[.int .i64 0] 3))
  gi_wp2_with fail
  have hn0 : Blk (V0.alloc (.cells #[.int .i64 0] 3)) V0.heap.size 3 #[.int .i64 (([] : List (Int × Int)).length : Int)] := Blk.new _ _ _
  have hBa := below_one V0 (.cells #[.int .i64 0] 3)
  have Fa := F0.next hBa
  clear hef ct
  obtain ⟨VaA, hVa⟩ : ∃ X, V0.alloc (.cells #[.int .i64 0] 3) = X := ⟨_, rfl⟩
  rw [hVa] at hn0 hBa Fa ⊢
  clear hVa
  have hna := hn0.lt
  have hSQ := Lib.hid (fun n => values_seqP gs V0.heap.size us wl (by rw [HWN.out]; omega) VaA Fa.2.2.2.2.1 (by omega) Fa.2.2.2.2.2.1 (read_apart Fa.2.2.2.2.2.1 hn0) n)
  have hFI : Hid (FarO VaA.heap.size (fun (pre : List (Int × Int)) (o : Option Nat) X => o = none ∧ (pre <+: wl ∧ (pre.length = 0 ∨ (pre.length : Int) < many)) ∧ Blk X V0.heap.size 3 #[.int .i64 (pre.length : Int)] ∧ Below V0.heap.size V0 X)) := by
    rintro s o X Y row ⟨h2, hq, h3, h4⟩ hgr hr
    exact ⟨h2, hq, farO_blkV (by omega) h3 hgr hr, h4.grown hgr h4.size (fun r e => by have := (hr r e).1; omega)⟩
  have hFX : Hid (∀ c : Code, FarO VaA.heap.size (fun (pre : List (Int × Int)) (o : Option Nat) X => o = none ∧ ((c = .ret ∧ ¬ (pre <+: wl)) ∨ (c = .exit 2 ∧ 1 ≤ pre.length ∧ (pre.length = 1 ∨ (pre.length : Int) - 1 < many) ∧ many ≤ (pre.length : Int) ∧ pre <+: wl)) ∧ (c = .exit 2 → Blk X V0.heap.size 3 #[.int .i64 (pre.length : Int)] ∧ Below V0.heap.size V0 X))) := by
    rintro c s o X Y row ⟨h2, hq, h34⟩ hgr hr
    exact ⟨h2, hq, fun hc => ⟨farO_blkV (by omega) (h34 hc).1 hgr hr, (h34 hc).2.grown hgr (h34 hc).2.size (fun r e => by have := (hr r e).1; omega)⟩⟩
  clear f1 f2 f3 f4 f5 f6 fB Fa
  refine wpIn_rangeBoxQ rfl (by omega) (gf := 124) (lb := #[.pointer (some ⟨gs, 0, none⟩)]) rfl trivial Go.Proofs.YtggdlklkjnbbjaaGreatDoor.R.enter_values0 (hSQ.out _ (by omega)) (fun h h' => h.trans h') (fun X l ob hl _ hlp => KeepP.putFar X (by omega) ob) (Below.refl _ _) (fun _ => rfl)
    (fun pre o X => o = none ∧ (pre <+: wl ∧ (pre.length = 0 ∨ (pre.length : Int) < many)) ∧ Blk X V0.heap.size 3 #[.int .i64 (pre.length : Int)] ∧ Below V0.heap.size V0 X)
    (fun c pre o X => o = none ∧ ((c = .ret ∧ ¬ (pre <+: wl)) ∨ (c = .exit 2 ∧ 1 ≤ pre.length ∧ (pre.length = 1 ∨ (pre.length : Int) - 1 < many) ∧ many ≤ (pre.length : Int) ∧ pre <+: wl)) ∧ (c = .exit 2 → Blk X V0.heap.size 3 #[.int .i64 (pre.length : Int)] ∧ Below V0.heap.size V0 X))
    hFI.out hFX.out none (fun b e => by cases e) ⟨rfl, ⟨List.nil_prefix, .inl rfl⟩, hn0, hBa⟩
    56 (fun z => #[.int .i64 z.1, .int .i64 z.2]) ?actA ?assignA
    (fun pre o X h => by obtain ⟨rfl, _⟩ := h; intro b e; cases e) (fun c pre o X h => by obtain ⟨rfl, _⟩ := h; intro b e; cases e) ?bodyA ?doneA ?stopA
  case assignA =>
    intro l' pre z o X K hsz ho hI2 hok hK
    have hlay := below_one X (.cells #[.int .i64 z.1, .int .i64 z.2] 56)
    have hbz := Blk.new X 56 #[.int .i64 z.1, .int .i64 z.2]
    have hkp : KeepP (fun b => b < VaA.heap.size ∧ b ≠ V0.heap.size) X (X.alloc (.cells #[.int .i64 z.1, .int .i64 z.2] 56)) := KeepP.below hlay (fun b hb => by have := hb.1; omega)
    have hI3 := hFI.out.lay hI2 (.cells #[.int .i64 z.1, .int .i64 z.2] 56)
    have hsi := SinceO.below (B := VaA.heap.size) (o := o) hlay
    obtain ⟨gx, hgx⟩ : ∃ gx, Hid (X.heap.size = gx) := ⟨_, rfl⟩
    unfold encA
    gi_wp2_with fail
    rw [hgx.out] at hbz ⊢
    exact hK gx _ hsi hkp hI3 hbz
  case bodyA =>
    rintro l' pre z o gx X hsz ⟨rfl, ⟨hpre, hcnd⟩, hn, hB⟩ hbg hlen
    obtain ⟨zx, zy⟩ := z
    have hXY : Below X.heap.size X X.drew := (Below.refl _ _).drew
    obtain ⟨Y, hY⟩ : ∃ Y, X.drew = Y := ⟨_, rfl⟩
    rw [hY] at hXY
    have HY := Lib.hid hY
    clear hY
    have hke : KeepP (fun b => b < VaA.heap.size ∧ b ≠ V0.heap.size) X Y := KeepP.below hXY (fun b hb => by have := hb.1; omega)
    have hse : SinceO VaA.heap.size none X Y := SinceO.below hXY
    replace hn := hn.below hXY hn.lt
    replace hB := below_in hB hXY
    replace hbg := hbg.below hXY hbg.lt
    replace hsz := Nat.le_trans hsz hXY.size
    obtain ⟨f1, f2, f3, f4, f5, f6, fB, fs⟩ := F0.next hB
    have cn := hn.one
    have fn := hn.frozen 0
    have cwx := f3.one
    have ctx := (ct0.below hB ct0.lt).one
    have cmx := f1.one
    have crx := f2.one
    have frx := f2.frozen 0
    have k0 := hbg.cell 0
    have k1 := hbg.cell 1
    simp only [List.getElem?_toArray, List.getElem?_cons_zero, List.getElem?_cons_succ] at k0 k1
    have hbsz := hB.size
    have hple := hpre.length_le
    rw [HWN.out] at hple
    have hks : KeepP (fun b => b < VaA.heap.size ∧ b ≠ V0.heap.size) X (Y.setCell ⟨w.heap.size + 1, 0, none⟩ (.bool false)) := hke.trans (keepP_same f2)
    have hss : SinceO VaA.heap.size none X (Y.setCell ⟨w.heap.size + 1, 0, none⟩ (.bool false)) := hse.trans_ ⟨by simp, fun b h1 h2 h3 => Below.heap_setCell Y _ (.bool false) b (by simp; omega)⟩
    clear f1 f2 f3 f5 f6 fB hbg
    by_cases hp : pre.length < wn
    · obtain ⟨q4, cap4, e4, hA4⟩ := f4
      have hpw : pre.length < wl.length := by rw [HWN.out]; exact hp
      obtain ⟨gw, hq4, hgw, x0, x1⟩ := hA4 pre.length hpw
      have hget : wl[pre.length]? = some wl[pre.length] := List.getElem?_eq_getElem hpw
      clear hA4
      obtain ⟨yx, yy, hyz⟩ : ∃ yx yy, wl[pre.length] = (yx, yy) := ⟨_, _, rfl⟩
      rw [hyz] at x0 x1 hget
      clear hyz hpw
      have e5 : Aw = some ⟨gw, 0, none⟩ := by injection e4 with e6 _ _; rw [e6, hq4]
      clear e4 hq4
      subst e5
      have dp : decide ((wn : Int) ≤ (pre.length : Int)) = false := decide_eq_false (by omega)
      have hget2 := Lib.hid hget
      clear hget
      by_cases hx : (zx, zy) = (yx, yy)
      · injection hx with hx1 hx2
        subst hx1 hx2
        have HN := Lib.hid (prefix_next hpre hget2.out)
        have hl1 : Hid (((pre ++ [(zx, zy)]).length : Int) = (pre.length : Int) + 1) := by unfold Hid; rw [List.length_append]; rfl
        have hks2 : KeepP (fun b => b < VaA.heap.size ∧ b ≠ V0.heap.size) X (Y.setCell ⟨V0.heap.size, 0, none⟩ (.int .i64 ((pre.length : Int) + 1))) := hke.trans (KeepP.setFar Y (by simp) _)
        have hss2 : SinceO VaA.heap.size none X (Y.setCell ⟨V0.heap.size, 0, none⟩ (.int .i64 ((pre.length : Int) + 1))) := hse.trans_ ⟨by simp, fun b h1 h2 h3 => Below.heap_setCell Y _ (.int .i64 ((pre.length : Int) + 1)) b (by simp; omega)⟩
        have hT : Hid (Blk (Y.setCell ⟨V0.heap.size, 0, none⟩ (.int .i64 ((pre.length : Int) + 1))) V0.heap.size 3 #[.int .i64 ((pre ++ [(zx, zy)]).length : Int)] ∧ Below V0.heap.size V0 (Y.setCell ⟨V0.heap.size, 0, none⟩ (.int .i64 ((pre.length : Int) + 1)))) := by
          unfold Hid
          rw [hl1.out]
          exact ⟨hn.set_ 0 _, hB.setCell (Nat.le_refl _) _⟩
        clear hpre hn hB hke hse hks hss hbsz hXY
        by_cases hm : many ≤ (pre.length : Int) + 1
        · have dm : decide (many ≤ (pre.length : Int) + 1) = true := decide_eq_true hm
          gi_wp2
          have hS : (fun U : World => U.cell? ⟨V0.heap.size, 0, none⟩ = some (.int .i64 (pre.length : Int)) ∧ U.cell? ⟨w5.heap.size, 0, none⟩ = some (.slice (some ⟨gw, 0, none⟩) wn cw) ∧ U.cell? ⟨gx, 0, none⟩ = some (.int .i64 zx) ∧ U.cell? ⟨gx, 1, none⟩ = some (.int .i64 zy) ∧ U.cell? ⟨gw, pre.length * 2, none⟩ = some (.int .i64 zx) ∧ U.cell? ⟨gw, pre.length * 2 + 1, none⟩ = some (.int .i64 zy)) Y := ⟨cn, cwx, k0, k1, x0, x1⟩
          refine region_HF (S := (fun U : World => U.cell? ⟨V0.heap.size, 0, none⟩ = some (.int .i64 (pre.length : Int)) ∧ U.cell? ⟨w5.heap.size, 0, none⟩ = some (.slice (some ⟨gw, 0, none⟩) wn cw) ∧ U.cell? ⟨gx, 0, none⟩ = some (.int .i64 zx) ∧ U.cell? ⟨gx, 1, none⟩ = some (.int .i64 zy) ∧ U.cell? ⟨gw, pre.length * 2, none⟩ = some (.int .i64 zx) ∧ U.cell? ⟨gw, pre.length * 2 + 1, none⟩ = some (.int .i64 zy))) (by kernel_rfl) ?_
          rw [HY.out]
          refine anyHF_take (i := 0) (d := 99) (v := .int .i64 (pre.length : Int)) (by kernel_rfl) rfl (by kernel_rfl) (by kernel_rfl) (by kernel_rfl) rfl (fun _ _ _ h => h) ⟨Or.inl ⟨by rfl, fun w hS => by obtain ⟨h0, h1, h2, h3, h4, h5⟩ := hS; go_simp⟩, fun _ => rfl⟩ hS ?_
          simp only [upd]
          refine anyHF_take (i := 1) (d := 100) (v := .slice (some ⟨gw, 0, none⟩) wn cw) (by kernel_rfl) rfl (by kernel_rfl) (by kernel_rfl) (by kernel_rfl) rfl (fun _ _ _ h => h) ⟨Or.inl ⟨by rfl, fun w hS => by obtain ⟨h0, h1, h2, h3, h4, h5⟩ := hS; go_simp⟩, fun _ => rfl⟩ hS ?_
          simp only [upd]
          refine anyHF_take (i := 2) (d := 101) (v := .int .i64 (wn : Int)) (by kernel_rfl) rfl (by kernel_rfl) (by kernel_rfl) (by kernel_rfl) rfl (fun _ _ _ h => h) ⟨Or.inl ⟨by rfl, fun w hS => by obtain ⟨h0, h1, h2, h3, h4, h5⟩ := hS; go_simp⟩, fun _ => rfl⟩ hS ?_
          simp only [upd]
          refine anyHF_take (i := 3) (d := 102) (v := .bool false) (by kernel_rfl) rfl (by kernel_rfl) (by kernel_rfl) (by kernel_rfl) rfl (fun _ _ _ h => h) ⟨Or.inl ⟨by rfl, fun w hS => by obtain ⟨h0, h1, h2, h3, h4, h5⟩ := hS; (go_simp <;> omega)⟩, fun _ => rfl⟩ hS ?_
          simp only [upd]
          refine anyHF_take (i := 4) (d := 103) (v := .bool false) (by kernel_rfl) rfl (by kernel_rfl) (by kernel_rfl) (by kernel_rfl) rfl (fun _ _ _ h => h) ⟨Or.inl ⟨by rfl, fun w hS => by obtain ⟨h0, h1, h2, h3, h4, h5⟩ := hS; go_simp⟩, fun _ => rfl⟩ hS ?_
          simp only [upd]
          refine anyHF_take (i := 5) (d := 104) (v := .agg #[.int .i64 zx, .int .i64 zy]) (by kernel_rfl) rfl (by kernel_rfl) (by kernel_rfl) (by kernel_rfl) rfl (fun _ _ _ h => h) ⟨Or.inl ⟨by rfl, fun w hS => by obtain ⟨h0, h1, h2, h3, h4, h5⟩ := hS; go_simp⟩, fun _ => rfl⟩ hS ?_
          simp only [upd]
          refine anyHF_take (i := 6) (d := 105) (v := .slice (some ⟨gw, 0, none⟩) wn cw) (by kernel_rfl) rfl (by kernel_rfl) (by kernel_rfl) (by kernel_rfl) rfl (fun _ _ _ h => h) ⟨Or.inl ⟨by rfl, fun w hS => by obtain ⟨h0, h1, h2, h3, h4, h5⟩ := hS; go_simp⟩, fun _ => rfl⟩ hS ?_
          simp only [upd]
          refine anyHF_take (i := 7) (d := 106) (v := .int .i64 (pre.length : Int)) (by kernel_rfl) rfl (by kernel_rfl) (by kernel_rfl) (by kernel_rfl) rfl (fun _ _ _ h => h) ⟨Or.inl ⟨by rfl, fun w hS => by obtain ⟨h0, h1, h2, h3, h4, h5⟩ := hS; go_simp⟩, fun _ => rfl⟩ hS ?_
          simp only [upd]
          refine anyHF_take (i := 8) (d := 107) (v := .pointer (some ⟨gw, pre.length * 2, none⟩)) (by kernel_rfl) rfl (by kernel_rfl) (by kernel_rfl) (by kernel_rfl) rfl (fun _ _ _ h => h) ⟨Or.inl ⟨by rfl, fun w hS => by obtain ⟨h0, h1, h2, h3, h4, h5⟩ := hS; (go_simp <;> omega)⟩, fun _ => rfl⟩ hS ?_
          simp only [upd]
          refine anyHF_take (i := 9) (d := 108) (v := .agg #[.int .i64 zx, .int .i64 zy]) (by kernel_rfl) rfl (by kernel_rfl) (by kernel_rfl) (by kernel_rfl) rfl (fun _ _ _ h => h) ⟨Or.inl ⟨by rfl, fun w hS => by obtain ⟨h0, h1, h2, h3, h4, h5⟩ := hS; go_simp⟩, fun _ => rfl⟩ hS ?_
          simp only [upd]
          refine anyHF_take (i := 10) (d := 109) (v := .bool false) (by kernel_rfl) rfl (by kernel_rfl) (by kernel_rfl) (by kernel_rfl) rfl (fun _ _ _ h => h) ⟨Or.inl ⟨by rfl, fun w hS => by obtain ⟨h0, h1, h2, h3, h4, h5⟩ := hS; (go_simp <;> omega)⟩, fun _ => rfl⟩ hS ?_
          simp only [upd]
          refine anyHF_take (i := 11) (d := 110) (v := .bool false) (by kernel_rfl) rfl (by kernel_rfl) (by kernel_rfl) (by kernel_rfl) rfl (fun _ _ _ h => h) ⟨Or.inl ⟨by rfl, fun w hS => by obtain ⟨h0, h1, h2, h3, h4, h5⟩ := hS; go_simp⟩, fun _ => rfl⟩ hS ?_
          simp only [upd]
          refine anyHF_done (by kernel_rfl) ?_ _
          clear hS
          gi_wp2
          refine ⟨none, .inl rfl, hss2, hks2, rfl, .inr ⟨rfl, by rw [List.length_append]; simp, ?_, ?_, HN.out⟩, fun _ => hT.out⟩
          · rcases hcnd with h | h
            · left; rw [List.length_append, h]; rfl
            · right; rw [hl1.out]; omega
          · rw [hl1.out]; exact hm
        · have dm : decide (many ≤ (pre.length : Int) + 1) = false := decide_eq_false hm
          gi_wp2
          have hS : (fun U : World => U.cell? ⟨V0.heap.size, 0, none⟩ = some (.int .i64 (pre.length : Int)) ∧ U.cell? ⟨w5.heap.size, 0, none⟩ = some (.slice (some ⟨gw, 0, none⟩) wn cw) ∧ U.cell? ⟨gx, 0, none⟩ = some (.int .i64 zx) ∧ U.cell? ⟨gx, 1, none⟩ = some (.int .i64 zy) ∧ U.cell? ⟨gw, pre.length * 2, none⟩ = some (.int .i64 zx) ∧ U.cell? ⟨gw, pre.length * 2 + 1, none⟩ = some (.int .i64 zy)) Y := ⟨cn, cwx, k0, k1, x0, x1⟩
          refine region_HF (S := (fun U : World => U.cell? ⟨V0.heap.size, 0, none⟩ = some (.int .i64 (pre.length : Int)) ∧ U.cell? ⟨w5.heap.size, 0, none⟩ = some (.slice (some ⟨gw, 0, none⟩) wn cw) ∧ U.cell? ⟨gx, 0, none⟩ = some (.int .i64 zx) ∧ U.cell? ⟨gx, 1, none⟩ = some (.int .i64 zy) ∧ U.cell? ⟨gw, pre.length * 2, none⟩ = some (.int .i64 zx) ∧ U.cell? ⟨gw, pre.length * 2 + 1, none⟩ = some (.int .i64 zy))) (by kernel_rfl) ?_
          rw [HY.out]
          refine anyHF_take (i := 0) (d := 99) (v := .int .i64 (pre.length : Int)) (by kernel_rfl) rfl (by kernel_rfl) (by kernel_rfl) (by kernel_rfl) rfl (fun _ _ _ h => h) ⟨Or.inl ⟨by rfl, fun w hS => by obtain ⟨h0, h1, h2, h3, h4, h5⟩ := hS; go_simp⟩, fun _ => rfl⟩ hS ?_
          simp only [upd]
          refine anyHF_take (i := 1) (d := 100) (v := .slice (some ⟨gw, 0, none⟩) wn cw) (by kernel_rfl) rfl (by kernel_rfl) (by kernel_rfl) (by kernel_rfl) rfl (fun _ _ _ h => h) ⟨Or.inl ⟨by rfl, fun w hS => by obtain ⟨h0, h1, h2, h3, h4, h5⟩ := hS; go_simp⟩, fun _ => rfl⟩ hS ?_
          simp only [upd]
          refine anyHF_take (i := 2) (d := 101) (v := .int .i64 (wn : Int)) (by kernel_rfl) rfl (by kernel_rfl) (by kernel_rfl) (by kernel_rfl) rfl (fun _ _ _ h => h) ⟨Or.inl ⟨by rfl, fun w hS => by obtain ⟨h0, h1, h2, h3, h4, h5⟩ := hS; go_simp⟩, fun _ => rfl⟩ hS ?_
          simp only [upd]
          refine anyHF_take (i := 3) (d := 102) (v := .bool false) (by kernel_rfl) rfl (by kernel_rfl) (by kernel_rfl) (by kernel_rfl) rfl (fun _ _ _ h => h) ⟨Or.inl ⟨by rfl, fun w hS => by obtain ⟨h0, h1, h2, h3, h4, h5⟩ := hS; (go_simp <;> omega)⟩, fun _ => rfl⟩ hS ?_
          simp only [upd]
          refine anyHF_take (i := 4) (d := 103) (v := .bool false) (by kernel_rfl) rfl (by kernel_rfl) (by kernel_rfl) (by kernel_rfl) rfl (fun _ _ _ h => h) ⟨Or.inl ⟨by rfl, fun w hS => by obtain ⟨h0, h1, h2, h3, h4, h5⟩ := hS; go_simp⟩, fun _ => rfl⟩ hS ?_
          simp only [upd]
          refine anyHF_take (i := 5) (d := 104) (v := .agg #[.int .i64 zx, .int .i64 zy]) (by kernel_rfl) rfl (by kernel_rfl) (by kernel_rfl) (by kernel_rfl) rfl (fun _ _ _ h => h) ⟨Or.inl ⟨by rfl, fun w hS => by obtain ⟨h0, h1, h2, h3, h4, h5⟩ := hS; go_simp⟩, fun _ => rfl⟩ hS ?_
          simp only [upd]
          refine anyHF_take (i := 6) (d := 105) (v := .slice (some ⟨gw, 0, none⟩) wn cw) (by kernel_rfl) rfl (by kernel_rfl) (by kernel_rfl) (by kernel_rfl) rfl (fun _ _ _ h => h) ⟨Or.inl ⟨by rfl, fun w hS => by obtain ⟨h0, h1, h2, h3, h4, h5⟩ := hS; go_simp⟩, fun _ => rfl⟩ hS ?_
          simp only [upd]
          refine anyHF_take (i := 7) (d := 106) (v := .int .i64 (pre.length : Int)) (by kernel_rfl) rfl (by kernel_rfl) (by kernel_rfl) (by kernel_rfl) rfl (fun _ _ _ h => h) ⟨Or.inl ⟨by rfl, fun w hS => by obtain ⟨h0, h1, h2, h3, h4, h5⟩ := hS; go_simp⟩, fun _ => rfl⟩ hS ?_
          simp only [upd]
          refine anyHF_take (i := 8) (d := 107) (v := .pointer (some ⟨gw, pre.length * 2, none⟩)) (by kernel_rfl) rfl (by kernel_rfl) (by kernel_rfl) (by kernel_rfl) rfl (fun _ _ _ h => h) ⟨Or.inl ⟨by rfl, fun w hS => by obtain ⟨h0, h1, h2, h3, h4, h5⟩ := hS; (go_simp <;> omega)⟩, fun _ => rfl⟩ hS ?_
          simp only [upd]
          refine anyHF_take (i := 9) (d := 108) (v := .agg #[.int .i64 zx, .int .i64 zy]) (by kernel_rfl) rfl (by kernel_rfl) (by kernel_rfl) (by kernel_rfl) rfl (fun _ _ _ h => h) ⟨Or.inl ⟨by rfl, fun w hS => by obtain ⟨h0, h1, h2, h3, h4, h5⟩ := hS; go_simp⟩, fun _ => rfl⟩ hS ?_
          simp only [upd]
          refine anyHF_take (i := 10) (d := 109) (v := .bool false) (by kernel_rfl) rfl (by kernel_rfl) (by kernel_rfl) (by kernel_rfl) rfl (fun _ _ _ h => h) ⟨Or.inl ⟨by rfl, fun w hS => by obtain ⟨h0, h1, h2, h3, h4, h5⟩ := hS; (go_simp <;> omega)⟩, fun _ => rfl⟩ hS ?_
          simp only [upd]
          refine anyHF_take (i := 11) (d := 110) (v := .bool false) (by kernel_rfl) rfl (by kernel_rfl) (by kernel_rfl) (by kernel_rfl) rfl (fun _ _ _ h => h) ⟨Or.inl ⟨by rfl, fun w hS => by obtain ⟨h0, h1, h2, h3, h4, h5⟩ := hS; go_simp⟩, fun _ => rfl⟩ hS ?_
          simp only [upd]
          refine anyHF_done (by kernel_rfl) ?_ _
          clear hS
          gi_wp2
          exact ⟨none, .inl rfl, hss2, hks2, rfl, ⟨HN.out, .inr (by rw [hl1.out]; omega)⟩, hT.out⟩
      · have hx2 : ¬ (zx = yx ∧ zy = yy) := fun e => hx (by rw [e.1, e.2])
        have HN := Lib.hid (prefix_not (L := wl) (pre := pre) (z := (zx, zy)) (fun e => hx (by rw [hget2.out] at e; injection e with e; exact e.symm)))
        clear hpre hn hB hke hse hbsz hXY
        gi_wp2
        have hS : (fun U : World => U.cell? ⟨V0.heap.size, 0, none⟩ = some (.int .i64 (pre.length : Int)) ∧ U.cell? ⟨w5.heap.size, 0, none⟩ = some (.slice (some ⟨gw, 0, none⟩) wn cw) ∧ U.cell? ⟨gx, 0, none⟩ = some (.int .i64 zx) ∧ U.cell? ⟨gx, 1, none⟩ = some (.int .i64 zy) ∧ U.cell? ⟨gw, pre.length * 2, none⟩ = some (.int .i64 yx) ∧ U.cell? ⟨gw, pre.length * 2 + 1, none⟩ = some (.int .i64 yy)) Y := ⟨cn, cwx, k0, k1, x0, x1⟩
        refine region_HF (S := (fun U : World => U.cell? ⟨V0.heap.size, 0, none⟩ = some (.int .i64 (pre.length : Int)) ∧ U.cell? ⟨w5.heap.size, 0, none⟩ = some (.slice (some ⟨gw, 0, none⟩) wn cw) ∧ U.cell? ⟨gx, 0, none⟩ = some (.int .i64 zx) ∧ U.cell? ⟨gx, 1, none⟩ = some (.int .i64 zy) ∧ U.cell? ⟨gw, pre.length * 2, none⟩ = some (.int .i64 yx) ∧ U.cell? ⟨gw, pre.length * 2 + 1, none⟩ = some (.int .i64 yy))) (by kernel_rfl) ?_
        rw [HY.out]
        refine anyHF_take (i := 0) (d := 99) (v := .int .i64 (pre.length : Int)) (by kernel_rfl) rfl (by kernel_rfl) (by kernel_rfl) (by kernel_rfl) rfl (fun _ _ _ h => h) ⟨Or.inl ⟨by rfl, fun w hS => by obtain ⟨h0, h1, h2, h3, h4, h5⟩ := hS; go_simp⟩, fun _ => rfl⟩ hS ?_
        simp only [upd]
        refine anyHF_take (i := 1) (d := 100) (v := .slice (some ⟨gw, 0, none⟩) wn cw) (by kernel_rfl) rfl (by kernel_rfl) (by kernel_rfl) (by kernel_rfl) rfl (fun _ _ _ h => h) ⟨Or.inl ⟨by rfl, fun w hS => by obtain ⟨h0, h1, h2, h3, h4, h5⟩ := hS; go_simp⟩, fun _ => rfl⟩ hS ?_
        simp only [upd]
        refine anyHF_take (i := 2) (d := 101) (v := .int .i64 (wn : Int)) (by kernel_rfl) rfl (by kernel_rfl) (by kernel_rfl) (by kernel_rfl) rfl (fun _ _ _ h => h) ⟨Or.inl ⟨by rfl, fun w hS => by obtain ⟨h0, h1, h2, h3, h4, h5⟩ := hS; go_simp⟩, fun _ => rfl⟩ hS ?_
        simp only [upd]
        refine anyHF_take (i := 3) (d := 102) (v := .bool false) (by kernel_rfl) rfl (by kernel_rfl) (by kernel_rfl) (by kernel_rfl) rfl (fun _ _ _ h => h) ⟨Or.inl ⟨by rfl, fun w hS => by obtain ⟨h0, h1, h2, h3, h4, h5⟩ := hS; (go_simp <;> omega)⟩, fun _ => rfl⟩ hS ?_
        simp only [upd]
        refine anyHF_take (i := 4) (d := 103) (v := .bool false) (by kernel_rfl) rfl (by kernel_rfl) (by kernel_rfl) (by kernel_rfl) rfl (fun _ _ _ h => h) ⟨Or.inl ⟨by rfl, fun w hS => by obtain ⟨h0, h1, h2, h3, h4, h5⟩ := hS; go_simp⟩, fun _ => rfl⟩ hS ?_
        simp only [upd]
        refine anyHF_take (i := 5) (d := 104) (v := .agg #[.int .i64 zx, .int .i64 zy]) (by kernel_rfl) rfl (by kernel_rfl) (by kernel_rfl) (by kernel_rfl) rfl (fun _ _ _ h => h) ⟨Or.inl ⟨by rfl, fun w hS => by obtain ⟨h0, h1, h2, h3, h4, h5⟩ := hS; go_simp⟩, fun _ => rfl⟩ hS ?_
        simp only [upd]
        refine anyHF_take (i := 6) (d := 105) (v := .slice (some ⟨gw, 0, none⟩) wn cw) (by kernel_rfl) rfl (by kernel_rfl) (by kernel_rfl) (by kernel_rfl) rfl (fun _ _ _ h => h) ⟨Or.inl ⟨by rfl, fun w hS => by obtain ⟨h0, h1, h2, h3, h4, h5⟩ := hS; go_simp⟩, fun _ => rfl⟩ hS ?_
        simp only [upd]
        refine anyHF_take (i := 7) (d := 106) (v := .int .i64 (pre.length : Int)) (by kernel_rfl) rfl (by kernel_rfl) (by kernel_rfl) (by kernel_rfl) rfl (fun _ _ _ h => h) ⟨Or.inl ⟨by rfl, fun w hS => by obtain ⟨h0, h1, h2, h3, h4, h5⟩ := hS; go_simp⟩, fun _ => rfl⟩ hS ?_
        simp only [upd]
        refine anyHF_take (i := 8) (d := 107) (v := .pointer (some ⟨gw, pre.length * 2, none⟩)) (by kernel_rfl) rfl (by kernel_rfl) (by kernel_rfl) (by kernel_rfl) rfl (fun _ _ _ h => h) ⟨Or.inl ⟨by rfl, fun w hS => by obtain ⟨h0, h1, h2, h3, h4, h5⟩ := hS; (go_simp <;> omega)⟩, fun _ => rfl⟩ hS ?_
        simp only [upd]
        refine anyHF_take (i := 9) (d := 108) (v := .agg #[.int .i64 yx, .int .i64 yy]) (by kernel_rfl) rfl (by kernel_rfl) (by kernel_rfl) (by kernel_rfl) rfl (fun _ _ _ h => h) ⟨Or.inl ⟨by rfl, fun w hS => by obtain ⟨h0, h1, h2, h3, h4, h5⟩ := hS; go_simp⟩, fun _ => rfl⟩ hS ?_
        simp only [upd]
        refine anyHF_take (i := 10) (d := 109) (v := .bool true) (by kernel_rfl) rfl (by kernel_rfl) (by kernel_rfl) (by kernel_rfl) rfl (fun _ _ _ h => h) ⟨Or.inl ⟨by rfl, fun w hS => by obtain ⟨h0, h1, h2, h3, h4, h5⟩ := hS; (go_simp <;> omega)⟩, fun _ => rfl⟩ hS ?_
        simp only [upd]
        refine anyHF_take (i := 11) (d := 110) (v := .bool true) (by kernel_rfl) rfl (by kernel_rfl) (by kernel_rfl) (by kernel_rfl) rfl (fun _ _ _ h => h) ⟨Or.inl ⟨by rfl, fun w hS => by obtain ⟨h0, h1, h2, h3, h4, h5⟩ := hS; go_simp⟩, fun _ => rfl⟩ hS ?_
        simp only [upd]
        refine anyHF_done (by kernel_rfl) ?_ _
        clear hS
        gi_wp2
        exact ⟨none, .inl rfl, hss, hks, rfl, .inl ⟨rfl, HN.out⟩, fun e => by cases e⟩
    · have dp : decide ((wn : Int) ≤ (pre.length : Int)) = true := decide_eq_true (by omega)
      have HN := Lib.hid (prefix_not (L := wl) (pre := pre) (z := (zx, zy)) (fun e => by rw [List.getElem?_eq_none (by rw [HWN.out]; omega)] at e; cases e))
      clear hpre hn hB hke hse hbsz hXY f4
      gi_wp2
      have hS : (fun U : World => U.cell? ⟨V0.heap.size, 0, none⟩ = some (.int .i64 (pre.length : Int)) ∧ U.cell? ⟨w5.heap.size, 0, none⟩ = some (.slice Aw wn cw) ∧ U.cell? ⟨gx, 0, none⟩ = some (.int .i64 zx) ∧ U.cell? ⟨gx, 1, none⟩ = some (.int .i64 zy)) Y := ⟨cn, cwx, k0, k1⟩
      refine region_HF (S := (fun U : World => U.cell? ⟨V0.heap.size, 0, none⟩ = some (.int .i64 (pre.length : Int)) ∧ U.cell? ⟨w5.heap.size, 0, none⟩ = some (.slice Aw wn cw) ∧ U.cell? ⟨gx, 0, none⟩ = some (.int .i64 zx) ∧ U.cell? ⟨gx, 1, none⟩ = some (.int .i64 zy))) (by kernel_rfl) ?_
      rw [HY.out]
      refine anyHF_take (i := 0) (d := 99) (v := .int .i64 (pre.length : Int)) (by kernel_rfl) rfl (by kernel_rfl) (by kernel_rfl) (by kernel_rfl) rfl (fun _ _ _ h => h) ⟨Or.inl ⟨by rfl, fun w hS => by obtain ⟨h0, h1, h2, h3⟩ := hS; go_simp⟩, fun _ => rfl⟩ hS ?_
      simp only [upd]
      refine anyHF_take (i := 1) (d := 100) (v := .slice Aw wn cw) (by kernel_rfl) rfl (by kernel_rfl) (by kernel_rfl) (by kernel_rfl) rfl (fun _ _ _ h => h) ⟨Or.inl ⟨by rfl, fun w hS => by obtain ⟨h0, h1, h2, h3⟩ := hS; go_simp⟩, fun _ => rfl⟩ hS ?_
      simp only [upd]
      refine anyHF_take (i := 2) (d := 101) (v := .int .i64 (wn : Int)) (by kernel_rfl) rfl (by kernel_rfl) (by kernel_rfl) (by kernel_rfl) rfl (fun _ _ _ h => h) ⟨Or.inl ⟨by rfl, fun w hS => by obtain ⟨h0, h1, h2, h3⟩ := hS; go_simp⟩, fun _ => rfl⟩ hS ?_
      simp only [upd]
      refine anyHF_take (i := 3) (d := 102) (v := .bool true) (by kernel_rfl) rfl (by kernel_rfl) (by kernel_rfl) (by kernel_rfl) rfl (fun _ _ _ h => h) ⟨Or.inl ⟨by rfl, fun w hS => by obtain ⟨h0, h1, h2, h3⟩ := hS; (go_simp <;> omega)⟩, fun _ => rfl⟩ hS ?_
      simp only [upd]
      refine anyHF_take (i := 4) (d := 103) (v := .bool true) (by kernel_rfl) rfl (by kernel_rfl) (by kernel_rfl) (by kernel_rfl) rfl (fun _ _ _ h => h) ⟨Or.inl ⟨by rfl, fun w hS => by obtain ⟨h0, h1, h2, h3⟩ := hS; go_simp⟩, fun _ => rfl⟩ hS ?_
      simp only [upd]
      refine anyHF_take (i := 5) (d := 104) (v := undef) (by kernel_rfl) rfl (by kernel_rfl) (by kernel_rfl) (by kernel_rfl) rfl (fun _ _ _ h => h) ⟨Or.inr ⟨by rfl, rfl⟩, fun _ => rfl⟩ hS ?_
      simp only [upd]
      refine anyHF_take (i := 6) (d := 105) (v := undef) (by kernel_rfl) rfl (by kernel_rfl) (by kernel_rfl) (by kernel_rfl) rfl (fun _ _ _ h => h) ⟨Or.inr ⟨by rfl, rfl⟩, fun _ => rfl⟩ hS ?_
      simp only [upd]
      refine anyHF_take (i := 7) (d := 106) (v := undef) (by kernel_rfl) rfl (by kernel_rfl) (by kernel_rfl) (by kernel_rfl) rfl (fun _ _ _ h => h) ⟨Or.inr ⟨by rfl, rfl⟩, fun _ => rfl⟩ hS ?_
      simp only [upd]
      refine anyHF_take (i := 8) (d := 107) (v := undef) (by kernel_rfl) rfl (by kernel_rfl) (by kernel_rfl) (by kernel_rfl) rfl (fun _ _ _ h => h) ⟨Or.inr ⟨by rfl, rfl⟩, fun _ => rfl⟩ hS ?_
      simp only [upd]
      refine anyHF_take (i := 9) (d := 108) (v := undef) (by kernel_rfl) rfl (by kernel_rfl) (by kernel_rfl) (by kernel_rfl) rfl (fun _ _ _ h => h) ⟨Or.inr ⟨by rfl, rfl⟩, fun _ => rfl⟩ hS ?_
      simp only [upd]
      refine anyHF_take (i := 10) (d := 109) (v := undef) (by kernel_rfl) rfl (by kernel_rfl) (by kernel_rfl) (by kernel_rfl) rfl (fun _ _ _ h => h) ⟨Or.inr ⟨by rfl, rfl⟩, fun _ => rfl⟩ hS ?_
      simp only [upd]
      refine anyHF_take (i := 11) (d := 110) (v := .bool true) (by kernel_rfl) rfl (by kernel_rfl) (by kernel_rfl) (by kernel_rfl) rfl (fun _ _ _ h => h) ⟨Or.inl ⟨by rfl, fun w hS => by obtain ⟨h0, h1, h2, h3⟩ := hS; go_simp⟩, fun _ => rfl⟩ hS ?_
      simp only [upd]
      refine anyHF_done (by kernel_rfl) ?_ _
      clear hS
      gi_wp2
      exact ⟨none, .inl rfl, hss, hks, rfl, .inl ⟨rfl, HN.out⟩, fun e => by cases e⟩
  case doneA =>
    rintro DA xs o X hD hfo hxs hI hK hne
    rw [hxs] at hI
    obtain ⟨rfl, ⟨hpre, hcnd⟩, hn, hB⟩ := hI
    rw [HWN.out] at hn hcnd
    clear hpre hfo hxs
    obtain ⟨f1, f2, f3, f4, f5, f6, fB, fs⟩ := F0.next hB
    have cn := hn.one
    have cwx := f3.one
    have ctx := (ct0.below hB ct0.lt).one
    have cmx := f1.one
    have lt0 := hB.size
    have hmin : ((wn : Int) != min (wn : Int) (max 1 many)) = false := by rw [bne_eq_false_iff_eq]; rcases hcnd with h | h <;> omega
    have fV := F0.2.2.2.2.2.2.2
    gi_wp2
    clear cn cwx ctx cmx f1 f2 f3 f4 f5 f6 fB fs
    obtain ⟨V1B, hVn⟩ : ∃ Y, X.alloc (.cells #[.int .i64 1] 3) = Y := ⟨_, rfl⟩
    rw [hVn]
    have hBn : Below V0.heap.size V0 V1B := by rw [← hVn]; exact hB.alloc hB.size _
    have ct1 : Blk V1B X.heap.size 3 #[.int .i64 1] := by rw [← hVn]; exact Blk.new _ _ _
    have hDn : V1B.heap[DA]? = some (.deferred (some [])) := by rw [← hVn]; exact (Below.heap_alloc X _ DA (Array.getElem?_eq_some_iff.1 hK).1).trans hK
    have HL1 := HL0.more hBn (D := DA) (by omega) (by omega) hDn
    have F1 := F0.next hBn
    clear hVn hBn hDn hK hn hB ct0 F0 HL0 hne fV lt0
    clear hmin hcnd
    rw [roundsIn_succ]
    obtain ⟨f1, f2, f3, f4, f5, f6, fB, fs⟩ := id F1
    have ct := ct1.one
    have hlt1 := f1.lt
    have hlt2 := f2.lt
    have hlt3 := f3.lt
    have hlt5 := f5.lt
    have hltt := ct1.lt
    have hef := eql_wrongs gs (V1B.alloc (.cells #[.int .i64 0] 3))
    gi_wp2_with fail
    have hn0 : Blk (V1B.alloc (.cells #[.int .i64 0] 3)) V1B.heap.size 3 #[.int .i64 (([] : List (Int × Int)).length : Int)] := Blk.new _ _ _
    have hBa := below_one V1B (.cells #[.int .i64 0] 3)
    have Fa := F1.next hBa
    clear hef ct
    obtain ⟨VaB, hVa⟩ : ∃ X, V1B.alloc (.cells #[.int .i64 0] 3) = X := ⟨_, rfl⟩
    rw [hVa] at hn0 hBa Fa ⊢
    clear hVa
    have hna := hn0.lt
    have hSQ := Lib.hid (fun n => values_seqP gs V1B.heap.size us wl (by rw [HWN.out]; omega) VaB Fa.2.2.2.2.1 (by omega) Fa.2.2.2.2.2.1 (read_apart Fa.2.2.2.2.2.1 hn0) n)
    have hFI : Hid (FarO VaB.heap.size (fun (pre : List (Int × Int)) (o : Option Nat) X => o = none ∧ (pre <+: wl ∧ True) ∧ Blk X V1B.heap.size 3 #[.int .i64 (pre.length : Int)] ∧ Below V1B.heap.size V1B X)) := by
      rintro s o X Y row ⟨h2, hq, h3, h4⟩ hgr hr
      exact ⟨h2, hq, farO_blkV (by omega) h3 hgr hr, h4.grown hgr h4.size (fun r e => by have := (hr r e).1; omega)⟩
    have hFX : Hid (∀ c : Code, FarO VaB.heap.size (fun (pre : List (Int × Int)) (o : Option Nat) X => o = none ∧ ((c = .ret ∧ ¬ (pre <+: wl)) ∨ False) ∧ (c = .exit 2 → Blk X V1B.heap.size 3 #[.int .i64 (pre.length : Int)] ∧ Below V1B.heap.size V1B X))) := by
      rintro c s o X Y row ⟨h2, hq, h34⟩ hgr hr
      exact ⟨h2, hq, fun hc => ⟨farO_blkV (by omega) (h34 hc).1 hgr hr, (h34 hc).2.grown hgr (h34 hc).2.size (fun r e => by have := (hr r e).1; omega)⟩⟩
    clear f1 f2 f3 f4 f5 f6 fB Fa
    refine wpIn_rangeBoxQ rfl (by omega) (gf := 124) (lb := #[.pointer (some ⟨gs, 0, none⟩)]) rfl trivial Go.Proofs.YtggdlklkjnbbjaaGreatDoor.R.enter_values0 (hSQ.out _ (by omega)) (fun h h' => h.trans h') (fun X l ob hl _ hlp => KeepP.putFar X (by omega) ob) (Below.refl _ _) (fun _ => rfl)
      (fun pre o X => o = none ∧ (pre <+: wl ∧ True) ∧ Blk X V1B.heap.size 3 #[.int .i64 (pre.length : Int)] ∧ Below V1B.heap.size V1B X)
      (fun c pre o X => o = none ∧ ((c = .ret ∧ ¬ (pre <+: wl)) ∨ False) ∧ (c = .exit 2 → Blk X V1B.heap.size 3 #[.int .i64 (pre.length : Int)] ∧ Below V1B.heap.size V1B X))
      hFI.out hFX.out none (fun b e => by cases e) ⟨rfl, ⟨List.nil_prefix, trivial⟩, hn0, hBa⟩
      56 (fun z => #[.int .i64 z.1, .int .i64 z.2]) ?actB ?assignB
      (fun pre o X h => by obtain ⟨rfl, _⟩ := h; intro b e; cases e) (fun c pre o X h => by obtain ⟨rfl, _⟩ := h; intro b e; cases e) ?bodyB ?doneB ?stopB
    case assignB =>
      intro l' pre z o X K hsz ho hI2 hok hK
      have hlay := below_one X (.cells #[.int .i64 z.1, .int .i64 z.2] 56)
      have hbz := Blk.new X 56 #[.int .i64 z.1, .int .i64 z.2]
      have hkp : KeepP (fun b => b < VaB.heap.size ∧ b ≠ V1B.heap.size) X (X.alloc (.cells #[.int .i64 z.1, .int .i64 z.2] 56)) := KeepP.below hlay (fun b hb => by have := hb.1; omega)
      have hI3 := hFI.out.lay hI2 (.cells #[.int .i64 z.1, .int .i64 z.2] 56)
      have hsi := SinceO.below (B := VaB.heap.size) (o := o) hlay
      obtain ⟨gx, hgx⟩ : ∃ gx, Hid (X.heap.size = gx) := ⟨_, rfl⟩
      unfold encA
      gi_wp2_with fail
      rw [hgx.out] at hbz ⊢
      exact hK gx _ hsi hkp hI3 hbz
    case bodyB =>
      rintro l' pre z o gx X hsz ⟨rfl, ⟨hpre, hcnd⟩, hn, hB⟩ hbg hlen
      obtain ⟨zx, zy⟩ := z
      have hXY : Below X.heap.size X X.drew := (Below.refl _ _).drew
      obtain ⟨Y, hY⟩ : ∃ Y, X.drew = Y := ⟨_, rfl⟩
      rw [hY] at hXY
      have HY := Lib.hid hY
      clear hY
      have hke : KeepP (fun b => b < VaB.heap.size ∧ b ≠ V1B.heap.size) X Y := KeepP.below hXY (fun b hb => by have := hb.1; omega)
      have hse : SinceO VaB.heap.size none X Y := SinceO.below hXY
      replace hn := hn.below hXY hn.lt
      replace hB := below_in hB hXY
      replace hbg := hbg.below hXY hbg.lt
      replace hsz := Nat.le_trans hsz hXY.size
      obtain ⟨f1, f2, f3, f4, f5, f6, fB, fs⟩ := F1.next hB
      have cn := hn.one
      have fn := hn.frozen 0
      have cwx := f3.one
      have ctx := (ct1.below hB ct1.lt).one
      have cmx := f1.one
      have crx := f2.one
      have frx := f2.frozen 0
      have k0 := hbg.cell 0
      have k1 := hbg.cell 1
      simp only [List.getElem?_toArray, List.getElem?_cons_zero, List.getElem?_cons_succ] at k0 k1
      have hbsz := hB.size
      have hple := hpre.length_le
      rw [HWN.out] at hple
      have hks : KeepP (fun b => b < VaB.heap.size ∧ b ≠ V1B.heap.size) X (Y.setCell ⟨w.heap.size + 1, 0, none⟩ (.bool false)) := hke.trans (keepP_same f2)
      have hss : SinceO VaB.heap.size none X (Y.setCell ⟨w.heap.size + 1, 0, none⟩ (.bool false)) := hse.trans_ ⟨by simp, fun b h1 h2 h3 => Below.heap_setCell Y _ (.bool false) b (by simp; omega)⟩
      clear f1 f2 f3 f5 f6 fB hbg
      by_cases hp : pre.length < wn
      · obtain ⟨q4, cap4, e4, hA4⟩ := f4
        have hpw : pre.length < wl.length := by rw [HWN.out]; exact hp
        obtain ⟨gw, hq4, hgw, x0, x1⟩ := hA4 pre.length hpw
        have hget : wl[pre.length]? = some wl[pre.length] := List.getElem?_eq_getElem hpw
        clear hA4
        obtain ⟨yx, yy, hyz⟩ : ∃ yx yy, wl[pre.length] = (yx, yy) := ⟨_, _, rfl⟩
        rw [hyz] at x0 x1 hget
        clear hyz hpw
        have e5 : Aw = some ⟨gw, 0, none⟩ := by injection e4 with e6 _ _; rw [e6, hq4]
        clear e4 hq4
        subst e5
        have dp : decide ((wn : Int) ≤ (pre.length : Int)) = false := decide_eq_false (by omega)
        have hget2 := Lib.hid hget
        clear hget
        by_cases hx : (zx, zy) = (yx, yy)
        · injection hx with hx1 hx2
          subst hx1 hx2
          have HN := Lib.hid (prefix_next hpre hget2.out)
          have hl1 : Hid (((pre ++ [(zx, zy)]).length : Int) = (pre.length : Int) + 1) := by unfold Hid; rw [List.length_append]; rfl
          have hks2 : KeepP (fun b => b < VaB.heap.size ∧ b ≠ V1B.heap.size) X (Y.setCell ⟨V1B.heap.size, 0, none⟩ (.int .i64 ((pre.length : Int) + 1))) := hke.trans (KeepP.setFar Y (by simp) _)
          have hss2 : SinceO VaB.heap.size none X (Y.setCell ⟨V1B.heap.size, 0, none⟩ (.int .i64 ((pre.length : Int) + 1))) := hse.trans_ ⟨by simp, fun b h1 h2 h3 => Below.heap_setCell Y _ (.int .i64 ((pre.length : Int) + 1)) b (by simp; omega)⟩
          have hT : Hid (Blk (Y.setCell ⟨V1B.heap.size, 0, none⟩ (.int .i64 ((pre.length : Int) + 1))) V1B.heap.size 3 #[.int .i64 ((pre ++ [(zx, zy)]).length : Int)] ∧ Below V1B.heap.size V1B (Y.setCell ⟨V1B.heap.size, 0, none⟩ (.int .i64 ((pre.length : Int) + 1)))) := by
            unfold Hid
            rw [hl1.out]
            exact ⟨hn.set_ 0 _, hB.setCell (Nat.le_refl _) _⟩
          clear hpre hn hB hke hse hks hss hbsz hXY
          gi_wp2
          have hS : (fun U : World => U.cell? ⟨V1B.heap.size, 0, none⟩ = some (.int .i64 (pre.length : Int)) ∧ U.cell? ⟨w5.heap.size, 0, none⟩ = some (.slice (some ⟨gw, 0, none⟩) wn cw) ∧ U.cell? ⟨gx, 0, none⟩ = some (.int .i64 zx) ∧ U.cell? ⟨gx, 1, none⟩ = some (.int .i64 zy) ∧ U.cell? ⟨gw, pre.length * 2, none⟩ = some (.int .i64 zx) ∧ U.cell? ⟨gw, pre.length * 2 + 1, none⟩ = some (.int .i64 zy)) Y := ⟨cn, cwx, k0, k1, x0, x1⟩
          refine region_HF (S := (fun U : World => U.cell? ⟨V1B.heap.size, 0, none⟩ = some (.int .i64 (pre.length : Int)) ∧ U.cell? ⟨w5.heap.size, 0, none⟩ = some (.slice (some ⟨gw, 0, none⟩) wn cw) ∧ U.cell? ⟨gx, 0, none⟩ = some (.int .i64 zx) ∧ U.cell? ⟨gx, 1, none⟩ = some (.int .i64 zy) ∧ U.cell? ⟨gw, pre.length * 2, none⟩ = some (.int .i64 zx) ∧ U.cell? ⟨gw, pre.length * 2 + 1, none⟩ = some (.int .i64 zy))) (by kernel_rfl) ?_
          rw [HY.out]
          refine anyHF_take (i := 0) (d := 99) (v := .int .i64 (pre.length : Int)) (by kernel_rfl) rfl (by kernel_rfl) (by kernel_rfl) (by kernel_rfl) rfl (fun _ _ _ h => h) ⟨Or.inl ⟨by rfl, fun w hS => by obtain ⟨h0, h1, h2, h3, h4, h5⟩ := hS; go_simp⟩, fun _ => rfl⟩ hS ?_
          simp only [upd]
          refine anyHF_take (i := 1) (d := 100) (v := .slice (some ⟨gw, 0, none⟩) wn cw) (by kernel_rfl) rfl (by kernel_rfl) (by kernel_rfl) (by kernel_rfl) rfl (fun _ _ _ h => h) ⟨Or.inl ⟨by rfl, fun w hS => by obtain ⟨h0, h1, h2, h3, h4, h5⟩ := hS; go_simp⟩, fun _ => rfl⟩ hS ?_
          simp only [upd]
          refine anyHF_take (i := 2) (d := 101) (v := .int .i64 (wn : Int)) (by kernel_rfl) rfl (by kernel_rfl) (by kernel_rfl) (by kernel_rfl) rfl (fun _ _ _ h => h) ⟨Or.inl ⟨by rfl, fun w hS => by obtain ⟨h0, h1, h2, h3, h4, h5⟩ := hS; go_simp⟩, fun _ => rfl⟩ hS ?_
          simp only [upd]
          refine anyHF_take (i := 3) (d := 102) (v := .bool false) (by kernel_rfl) rfl (by kernel_rfl) (by kernel_rfl) (by kernel_rfl) rfl (fun _ _ _ h => h) ⟨Or.inl ⟨by rfl, fun w hS => by obtain ⟨h0, h1, h2, h3, h4, h5⟩ := hS; (go_simp <;> omega)⟩, fun _ => rfl⟩ hS ?_
          simp only [upd]
          refine anyHF_take (i := 4) (d := 103) (v := .bool false) (by kernel_rfl) rfl (by kernel_rfl) (by kernel_rfl) (by kernel_rfl) rfl (fun _ _ _ h => h) ⟨Or.inl ⟨by rfl, fun w hS => by obtain ⟨h0, h1, h2, h3, h4, h5⟩ := hS; go_simp⟩, fun _ => rfl⟩ hS ?_
          simp only [upd]
          refine anyHF_take (i := 5) (d := 104) (v := .agg #[.int .i64 zx, .int .i64 zy]) (by kernel_rfl) rfl (by kernel_rfl) (by kernel_rfl) (by kernel_rfl) rfl (fun _ _ _ h => h) ⟨Or.inl ⟨by rfl, fun w hS => by obtain ⟨h0, h1, h2, h3, h4, h5⟩ := hS; go_simp⟩, fun _ => rfl⟩ hS ?_
          simp only [upd]
          refine anyHF_take (i := 6) (d := 105) (v := .slice (some ⟨gw, 0, none⟩) wn cw) (by kernel_rfl) rfl (by kernel_rfl) (by kernel_rfl) (by kernel_rfl) rfl (fun _ _ _ h => h) ⟨Or.inl ⟨by rfl, fun w hS => by obtain ⟨h0, h1, h2, h3, h4, h5⟩ := hS; go_simp⟩, fun _ => rfl⟩ hS ?_
          simp only [upd]
          refine anyHF_take (i := 7) (d := 106) (v := .int .i64 (pre.length : Int)) (by kernel_rfl) rfl (by kernel_rfl) (by kernel_rfl) (by kernel_rfl) rfl (fun _ _ _ h => h) ⟨Or.inl ⟨by rfl, fun w hS => by obtain ⟨h0, h1, h2, h3, h4, h5⟩ := hS; go_simp⟩, fun _ => rfl⟩ hS ?_
          simp only [upd]
          refine anyHF_take (i := 8) (d := 107) (v := .pointer (some ⟨gw, pre.length * 2, none⟩)) (by kernel_rfl) rfl (by kernel_rfl) (by kernel_rfl) (by kernel_rfl) rfl (fun _ _ _ h => h) ⟨Or.inl ⟨by rfl, fun w hS => by obtain ⟨h0, h1, h2, h3, h4, h5⟩ := hS; (go_simp <;> omega)⟩, fun _ => rfl⟩ hS ?_
          simp only [upd]
          refine anyHF_take (i := 9) (d := 108) (v := .agg #[.int .i64 zx, .int .i64 zy]) (by kernel_rfl) rfl (by kernel_rfl) (by kernel_rfl) (by kernel_rfl) rfl (fun _ _ _ h => h) ⟨Or.inl ⟨by rfl, fun w hS => by obtain ⟨h0, h1, h2, h3, h4, h5⟩ := hS; go_simp⟩, fun _ => rfl⟩ hS ?_
          simp only [upd]
          refine anyHF_take (i := 10) (d := 109) (v := .bool false) (by kernel_rfl) rfl (by kernel_rfl) (by kernel_rfl) (by kernel_rfl) rfl (fun _ _ _ h => h) ⟨Or.inl ⟨by rfl, fun w hS => by obtain ⟨h0, h1, h2, h3, h4, h5⟩ := hS; (go_simp <;> omega)⟩, fun _ => rfl⟩ hS ?_
          simp only [upd]
          refine anyHF_take (i := 11) (d := 110) (v := .bool false) (by kernel_rfl) rfl (by kernel_rfl) (by kernel_rfl) (by kernel_rfl) rfl (fun _ _ _ h => h) ⟨Or.inl ⟨by rfl, fun w hS => by obtain ⟨h0, h1, h2, h3, h4, h5⟩ := hS; go_simp⟩, fun _ => rfl⟩ hS ?_
          simp only [upd]
          refine anyHF_done (by kernel_rfl) ?_ _
          clear hS
          gi_wp2
          exact ⟨none, .inl rfl, hss2, hks2, rfl, ⟨HN.out, trivial⟩, hT.out⟩
        · have hx2 : ¬ (zx = yx ∧ zy = yy) := fun e => hx (by rw [e.1, e.2])
          have HN := Lib.hid (prefix_not (L := wl) (pre := pre) (z := (zx, zy)) (fun e => hx (by rw [hget2.out] at e; injection e with e; exact e.symm)))
          clear hpre hn hB hke hse hbsz hXY
          gi_wp2
          have hS : (fun U : World => U.cell? ⟨V1B.heap.size, 0, none⟩ = some (.int .i64 (pre.length : Int)) ∧ U.cell? ⟨w5.heap.size, 0, none⟩ = some (.slice (some ⟨gw, 0, none⟩) wn cw) ∧ U.cell? ⟨gx, 0, none⟩ = some (.int .i64 zx) ∧ U.cell? ⟨gx, 1, none⟩ = some (.int .i64 zy) ∧ U.cell? ⟨gw, pre.length * 2, none⟩ = some (.int .i64 yx) ∧ U.cell? ⟨gw, pre.length * 2 + 1, none⟩ = some (.int .i64 yy)) Y := ⟨cn, cwx, k0, k1, x0, x1⟩
          refine region_HF (S := (fun U : World => U.cell? ⟨V1B.heap.size, 0, none⟩ = some (.int .i64 (pre.length : Int)) ∧ U.cell? ⟨w5.heap.size, 0, none⟩ = some (.slice (some ⟨gw, 0, none⟩) wn cw) ∧ U.cell? ⟨gx, 0, none⟩ = some (.int .i64 zx) ∧ U.cell? ⟨gx, 1, none⟩ = some (.int .i64 zy) ∧ U.cell? ⟨gw, pre.length * 2, none⟩ = some (.int .i64 yx) ∧ U.cell? ⟨gw, pre.length * 2 + 1, none⟩ = some (.int .i64 yy))) (by kernel_rfl) ?_
          rw [HY.out]
          refine anyHF_take (i := 0) (d := 99) (v := .int .i64 (pre.length : Int)) (by kernel_rfl) rfl (by kernel_rfl) (by kernel_rfl) (by kernel_rfl) rfl (fun _ _ _ h => h) ⟨Or.inl ⟨by rfl, fun w hS => by obtain ⟨h0, h1, h2, h3, h4, h5⟩ := hS; go_simp⟩, fun _ => rfl⟩ hS ?_
          simp only [upd]
          refine anyHF_take (i := 1) (d := 100) (v := .slice (some ⟨gw, 0, none⟩) wn cw) (by kernel_rfl) rfl (by kernel_rfl) (by kernel_rfl) (by kernel_rfl) rfl (fun _ _ _ h => h) ⟨Or.inl ⟨by rfl, fun w hS => by obtain ⟨h0, h1, h2, h3, h4, h5⟩ := hS; go_simp⟩, fun _ => rfl⟩ hS ?_
          simp only [upd]
          refine anyHF_take (i := 2) (d := 101) (v := .int .i64 (wn : Int)) (by kernel_rfl) rfl (by kernel_rfl) (by kernel_rfl) (by kernel_rfl) rfl (fun _ _ _ h => h) ⟨Or.inl ⟨by rfl, fun w hS => by obtain ⟨h0, h1, h2, h3, h4, h5⟩ := hS; go_simp⟩, fun _ => rfl⟩ hS ?_
          simp only [upd]
          refine anyHF_take (i := 3) (d := 102) (v := .bool false) (by kernel_rfl) rfl (by kernel_rfl) (by kernel_rfl) (by kernel_rfl) rfl (fun _ _ _ h => h) ⟨Or.inl ⟨by rfl, fun w hS => by obtain ⟨h0, h1, h2, h3, h4, h5⟩ := hS; (go_simp <;> omega)⟩, fun _ => rfl⟩ hS ?_
          simp only [upd]
          refine anyHF_take (i := 4) (d := 103) (v := .bool false) (by kernel_rfl) rfl (by kernel_rfl) (by kernel_rfl) (by kernel_rfl) rfl (fun _ _ _ h => h) ⟨Or.inl ⟨by rfl, fun w hS => by obtain ⟨h0, h1, h2, h3, h4, h5⟩ := hS; go_simp⟩, fun _ => rfl⟩ hS ?_
          simp only [upd]
          refine anyHF_take (i := 5) (d := 104) (v := .agg #[.int .i64 zx, .int .i64 zy]) (by kernel_rfl) rfl (by kernel_rfl) (by kernel_rfl) (by kernel_rfl) rfl (fun _ _ _ h => h) ⟨Or.inl ⟨by rfl, fun w hS => by obtain ⟨h0, h1, h2, h3, h4, h5⟩ := hS; go_simp⟩, fun _ => rfl⟩ hS ?_
          simp only [upd]
          refine anyHF_take (i := 6) (d := 105) (v := .slice (some ⟨gw, 0, none⟩) wn cw) (by kernel_rfl) rfl (by kernel_rfl) (by kernel_rfl) (by kernel_rfl) rfl (fun _ _ _ h => h) ⟨Or.inl ⟨by rfl, fun w hS => by obtain ⟨h0, h1, h2, h3, h4, h5⟩ := hS; go_simp⟩, fun _ => rfl⟩ hS ?_
          simp only [upd]
          refine anyHF_take (i := 7) (d := 106) (v := .int .i64 (pre.length : Int)) (by kernel_rfl) rfl (by kernel_rfl) (by kernel_rfl) (by kernel_rfl) rfl (fun _ _ _ h => h) ⟨Or.inl ⟨by rfl, fun w hS => by obtain ⟨h0, h1, h2, h3, h4, h5⟩ := hS; go_simp⟩, fun _ => rfl⟩ hS ?_
          simp only [upd]
          refine anyHF_take (i := 8) (d := 107) (v := .pointer (some ⟨gw, pre.length * 2, none⟩)) (by kernel_rfl) rfl (by kernel_rfl) (by kernel_rfl) (by kernel_rfl) rfl (fun _ _ _ h => h) ⟨Or.inl ⟨by rfl, fun w hS => by obtain ⟨h0, h1, h2, h3, h4, h5⟩ := hS; (go_simp <;> omega)⟩, fun _ => rfl⟩ hS ?_
          simp only [upd]
          refine anyHF_take (i := 9) (d := 108) (v := .agg #[.int .i64 yx, .int .i64 yy]) (by kernel_rfl) rfl (by kernel_rfl) (by kernel_rfl) (by kernel_rfl) rfl (fun _ _ _ h => h) ⟨Or.inl ⟨by rfl, fun w hS => by obtain ⟨h0, h1, h2, h3, h4, h5⟩ := hS; go_simp⟩, fun _ => rfl⟩ hS ?_
          simp only [upd]
          refine anyHF_take (i := 10) (d := 109) (v := .bool true) (by kernel_rfl) rfl (by kernel_rfl) (by kernel_rfl) (by kernel_rfl) rfl (fun _ _ _ h => h) ⟨Or.inl ⟨by rfl, fun w hS => by obtain ⟨h0, h1, h2, h3, h4, h5⟩ := hS; (go_simp <;> omega)⟩, fun _ => rfl⟩ hS ?_
          simp only [upd]
          refine anyHF_take (i := 11) (d := 110) (v := .bool true) (by kernel_rfl) rfl (by kernel_rfl) (by kernel_rfl) (by kernel_rfl) rfl (fun _ _ _ h => h) ⟨Or.inl ⟨by rfl, fun w hS => by obtain ⟨h0, h1, h2, h3, h4, h5⟩ := hS; go_simp⟩, fun _ => rfl⟩ hS ?_
          simp only [upd]
          refine anyHF_done (by kernel_rfl) ?_ _
          clear hS
          gi_wp2
          exact ⟨none, .inl rfl, hss, hks, rfl, .inl ⟨rfl, HN.out⟩, fun e => by cases e⟩
      · have dp : decide ((wn : Int) ≤ (pre.length : Int)) = true := decide_eq_true (by omega)
        have HN := Lib.hid (prefix_not (L := wl) (pre := pre) (z := (zx, zy)) (fun e => by rw [List.getElem?_eq_none (by rw [HWN.out]; omega)] at e; cases e))
        clear hpre hn hB hke hse hbsz hXY f4
        gi_wp2
        have hS : (fun U : World => U.cell? ⟨V1B.heap.size, 0, none⟩ = some (.int .i64 (pre.length : Int)) ∧ U.cell? ⟨w5.heap.size, 0, none⟩ = some (.slice Aw wn cw) ∧ U.cell? ⟨gx, 0, none⟩ = some (.int .i64 zx) ∧ U.cell? ⟨gx, 1, none⟩ = some (.int .i64 zy)) Y := ⟨cn, cwx, k0, k1⟩
        refine region_HF (S := (fun U : World => U.cell? ⟨V1B.heap.size, 0, none⟩ = some (.int .i64 (pre.length : Int)) ∧ U.cell? ⟨w5.heap.size, 0, none⟩ = some (.slice Aw wn cw) ∧ U.cell? ⟨gx, 0, none⟩ = some (.int .i64 zx) ∧ U.cell? ⟨gx, 1, none⟩ = some (.int .i64 zy))) (by kernel_rfl) ?_
        rw [HY.out]
        refine anyHF_take (i := 0) (d := 99) (v := .int .i64 (pre.length : Int)) (by kernel_rfl) rfl (by kernel_rfl) (by kernel_rfl) (by kernel_rfl) rfl (fun _ _ _ h => h) ⟨Or.inl ⟨by rfl, fun w hS => by obtain ⟨h0, h1, h2, h3⟩ := hS; go_simp⟩, fun _ => rfl⟩ hS ?_
        simp only [upd]
        refine anyHF_take (i := 1) (d := 100) (v := .slice Aw wn cw) (by kernel_rfl) rfl (by kernel_rfl) (by kernel_rfl) (by kernel_rfl) rfl (fun _ _ _ h => h) ⟨Or.inl ⟨by rfl, fun w hS => by obtain ⟨h0, h1, h2, h3⟩ := hS; go_simp⟩, fun _ => rfl⟩ hS ?_
        simp only [upd]
        refine anyHF_take (i := 2) (d := 101) (v := .int .i64 (wn : Int)) (by kernel_rfl) rfl (by kernel_rfl) (by kernel_rfl) (by kernel_rfl) rfl (fun _ _ _ h => h) ⟨Or.inl ⟨by rfl, fun w hS => by obtain ⟨h0, h1, h2, h3⟩ := hS; go_simp⟩, fun _ => rfl⟩ hS ?_
        simp only [upd]
        refine anyHF_take (i := 3) (d := 102) (v := .bool true) (by kernel_rfl) rfl (by kernel_rfl) (by kernel_rfl) (by kernel_rfl) rfl (fun _ _ _ h => h) ⟨Or.inl ⟨by rfl, fun w hS => by obtain ⟨h0, h1, h2, h3⟩ := hS; (go_simp <;> omega)⟩, fun _ => rfl⟩ hS ?_
        simp only [upd]
        refine anyHF_take (i := 4) (d := 103) (v := .bool true) (by kernel_rfl) rfl (by kernel_rfl) (by kernel_rfl) (by kernel_rfl) rfl (fun _ _ _ h => h) ⟨Or.inl ⟨by rfl, fun w hS => by obtain ⟨h0, h1, h2, h3⟩ := hS; go_simp⟩, fun _ => rfl⟩ hS ?_
        simp only [upd]
        refine anyHF_take (i := 5) (d := 104) (v := undef) (by kernel_rfl) rfl (by kernel_rfl) (by kernel_rfl) (by kernel_rfl) rfl (fun _ _ _ h => h) ⟨Or.inr ⟨by rfl, rfl⟩, fun _ => rfl⟩ hS ?_
        simp only [upd]
        refine anyHF_take (i := 6) (d := 105) (v := undef) (by kernel_rfl) rfl (by kernel_rfl) (by kernel_rfl) (by kernel_rfl) rfl (fun _ _ _ h => h) ⟨Or.inr ⟨by rfl, rfl⟩, fun _ => rfl⟩ hS ?_
        simp only [upd]
        refine anyHF_take (i := 7) (d := 106) (v := undef) (by kernel_rfl) rfl (by kernel_rfl) (by kernel_rfl) (by kernel_rfl) rfl (fun _ _ _ h => h) ⟨Or.inr ⟨by rfl, rfl⟩, fun _ => rfl⟩ hS ?_
        simp only [upd]
        refine anyHF_take (i := 8) (d := 107) (v := undef) (by kernel_rfl) rfl (by kernel_rfl) (by kernel_rfl) (by kernel_rfl) rfl (fun _ _ _ h => h) ⟨Or.inr ⟨by rfl, rfl⟩, fun _ => rfl⟩ hS ?_
        simp only [upd]
        refine anyHF_take (i := 9) (d := 108) (v := undef) (by kernel_rfl) rfl (by kernel_rfl) (by kernel_rfl) (by kernel_rfl) rfl (fun _ _ _ h => h) ⟨Or.inr ⟨by rfl, rfl⟩, fun _ => rfl⟩ hS ?_
        simp only [upd]
        refine anyHF_take (i := 10) (d := 109) (v := undef) (by kernel_rfl) rfl (by kernel_rfl) (by kernel_rfl) (by kernel_rfl) rfl (fun _ _ _ h => h) ⟨Or.inr ⟨by rfl, rfl⟩, fun _ => rfl⟩ hS ?_
        simp only [upd]
        refine anyHF_take (i := 11) (d := 110) (v := .bool true) (by kernel_rfl) rfl (by kernel_rfl) (by kernel_rfl) (by kernel_rfl) rfl (fun _ _ _ h => h) ⟨Or.inl ⟨by rfl, fun w hS => by obtain ⟨h0, h1, h2, h3⟩ := hS; go_simp⟩, fun _ => rfl⟩ hS ?_
        simp only [upd]
        refine anyHF_done (by kernel_rfl) ?_ _
        clear hS
        gi_wp2
        exact ⟨none, .inl rfl, hss, hks, rfl, .inl ⟨rfl, HN.out⟩, fun e => by cases e⟩
    case doneB =>
      rintro DB xs o X hD hfo hxs hI hK hne
      rw [hxs] at hI
      obtain ⟨rfl, ⟨hpre, hcnd⟩, hn, hB⟩ := hI
      rw [HWN.out] at hn
      clear hpre hfo hxs
      obtain ⟨f1, f2, f3, f4, f5, f6, fB, fs⟩ := F1.next hB
      have cn := hn.one
      have cwx := f3.one
      have ctx := (ct1.below hB ct1.lt).one
      have cmx := f1.one
      have lt0 := hB.size
      have hne1 : ((wn : Int) != (wn : Int)) = false := by simp
      have fV := F1.2.2.2.2.2.2.2
      gi_wp2
      clear cn cwx ctx cmx f1 f2 f3 f4 f5 f6 fB fs
      obtain ⟨V2B, hVn⟩ : ∃ Y, X.alloc (.cells #[.int .i64 2] 3) = Y := ⟨_, rfl⟩
      rw [hVn]
      have hBn : Below V1B.heap.size V1B V2B := by rw [← hVn]; exact hB.alloc hB.size _
      have ct2 : Blk V2B X.heap.size 3 #[.int .i64 2] := by rw [← hVn]; exact Blk.new _ _ _
      have hDn : V2B.heap[DB]? = some (.deferred (some [])) := by rw [← hVn]; exact (Below.heap_alloc X _ DB (Array.getElem?_eq_some_iff.1 hK).1).trans hK
      have HL2 := HL1.more hBn (D := DB) (by omega) (by omega) hDn
      have F2 := F1.next hBn
      clear hVn hBn hDn hK hn hB ct1 F1 HL1 hne fV lt0
      clear hne1 hcnd
      rw [roundsIn_succ]
      obtain ⟨f1, f2, f3, f4, f5, f6, fB, fs⟩ := id F2
      have ctx := ct2.one
      gi_wp2_with fail
      go_wp2_with fail
      refine (Go.Proofs.YtggdlklkjnbbjaaGreatDoor.R.works_any _ (HLW.out _ fB)).mono ?_
      rintro e wf ⟨rfl, hBf⟩
      have f2f := f2.below hBf f2.lt
      have crx := f2f.one
      have frx := f2f.frozen 0
      have hb3 := f2f.set_ 0 (.bool true)
      have hLf := (HL2.below hBf).set_ ⟨w.heap.size + 1, 0, none⟩ (.bool true)
      have hBz : Below w.heap.size w (wf.setCell ⟨w.heap.size + 1, 0, none⟩ (.bool true)) := (below_in fB hBf).setCell (by simp) _
      go_wp2
      refine leaves_blks w _ _ hLf hBz (fun W' hB' hk => ?_)
      have r0 := (hk _ _ _ hb3).one
      exact ⟨.bool true, by simp [results, Tryz.results7, go_sem, r0], rfl, hB'⟩
    case stopB =>
      rintro D c pre o X hD hfo hsp hI hK hne
      obtain ⟨rfl, hor, htold⟩ := hI
      rcases hor with ⟨rfl, h⟩ | h
      · exact absurd hsp h
      · exact h.elim
  case stopA =>
    rintro DA c pre o X hD hfo hsp hI hK hne
    obtain ⟨rfl, hor, htold⟩ := hI
    rcases hor with ⟨rfl, h⟩ | ⟨rfl, hx1, hx2, hx3, hpre⟩
    · exact absurd hsp h
    obtain ⟨hn, hB⟩ := htold rfl
    have hple := hpre.length_le
    rw [HWN.out] at hple
    clear hsp hpre htold hfo
    obtain ⟨f1, f2, f3, f4, f5, f6, fB, fs⟩ := F0.next hB
    have cn := hn.one
    have cwx := f3.one
    have ctx := (ct0.below hB ct0.lt).one
    have cmx := f1.one
    have lt0 := hB.size
    have hmin : ((pre.length : Int) != min (wn : Int) (max 1 many)) = false := by rw [bne_eq_false_iff_eq]; rcases hx2 with h | h <;> omega
    have fV := F0.2.2.2.2.2.2.2
    gi_wp2
    clear cn cwx ctx cmx f1 f2 f3 f4 f5 f6 fB fs
    obtain ⟨V1C, hVn⟩ : ∃ Y, X.alloc (.cells #[.int .i64 1] 3) = Y := ⟨_, rfl⟩
    rw [hVn]
    have hBn : Below V0.heap.size V0 V1C := by rw [← hVn]; exact hB.alloc hB.size _
    have ct1 : Blk V1C X.heap.size 3 #[.int .i64 1] := by rw [← hVn]; exact Blk.new _ _ _
    have hDn : V1C.heap[DA]? = some (.deferred (some [])) := by rw [← hVn]; exact (Below.heap_alloc X _ DA (Array.getElem?_eq_some_iff.1 hK).1).trans hK
    have HL1 := HL0.more hBn (D := DA) (by omega) (by omega) hDn
    have F1 := F0.next hBn
    clear hVn hBn hDn hK hn hB ct0 F0 HL0 hne fV lt0
    clear hmin hx1 hx2 hx3 hple
    rw [roundsIn_succ]
    obtain ⟨f1, f2, f3, f4, f5, f6, fB, fs⟩ := id F1
    have ct := ct1.one
    have hlt1 := f1.lt
    have hlt2 := f2.lt
    have hlt3 := f3.lt
    have hlt5 := f5.lt
    have hltt := ct1.lt
    have hef := eql_wrongs gs (V1C.alloc (.cells #[.int .i64 0] 3))
    gi_wp2_with fail
    have hn0 : Blk (V1C.alloc (.cells #[.int .i64 0] 3)) V1C.heap.size 3 #[.int .i64 (([] : List (Int × Int)).length : Int)] := Blk.new _ _ _
    have hBa := below_one V1C (.cells #[.int .i64 0] 3)
    have Fa := F1.next hBa
    clear hef ct
    obtain ⟨VaC, hVa⟩ : ∃ X, V1C.alloc (.cells #[.int .i64 0] 3) = X := ⟨_, rfl⟩
    rw [hVa] at hn0 hBa Fa ⊢
    clear hVa
    have hna := hn0.lt
    have hSQ := Lib.hid (fun n => values_seqP gs V1C.heap.size us wl (by rw [HWN.out]; omega) VaC Fa.2.2.2.2.1 (by omega) Fa.2.2.2.2.2.1 (read_apart Fa.2.2.2.2.2.1 hn0) n)
    have hFI : Hid (FarO VaC.heap.size (fun (pre : List (Int × Int)) (o : Option Nat) X => o = none ∧ (pre <+: wl ∧ True) ∧ Blk X V1C.heap.size 3 #[.int .i64 (pre.length : Int)] ∧ Below V1C.heap.size V1C X)) := by
      rintro s o X Y row ⟨h2, hq, h3, h4⟩ hgr hr
      exact ⟨h2, hq, farO_blkV (by omega) h3 hgr hr, h4.grown hgr h4.size (fun r e => by have := (hr r e).1; omega)⟩
    have hFX : Hid (∀ c : Code, FarO VaC.heap.size (fun (pre : List (Int × Int)) (o : Option Nat) X => o = none ∧ ((c = .ret ∧ ¬ (pre <+: wl)) ∨ False) ∧ (c = .exit 2 → Blk X V1C.heap.size 3 #[.int .i64 (pre.length : Int)] ∧ Below V1C.heap.size V1C X))) := by
      rintro c s o X Y row ⟨h2, hq, h34⟩ hgr hr
      exact ⟨h2, hq, fun hc => ⟨farO_blkV (by omega) (h34 hc).1 hgr hr, (h34 hc).2.grown hgr (h34 hc).2.size (fun r e => by have := (hr r e).1; omega)⟩⟩
    clear f1 f2 f3 f4 f5 f6 fB Fa
    refine wpIn_rangeBoxQ rfl (by omega) (gf := 124) (lb := #[.pointer (some ⟨gs, 0, none⟩)]) rfl trivial Go.Proofs.YtggdlklkjnbbjaaGreatDoor.R.enter_values0 (hSQ.out _ (by omega)) (fun h h' => h.trans h') (fun X l ob hl _ hlp => KeepP.putFar X (by omega) ob) (Below.refl _ _) (fun _ => rfl)
      (fun pre o X => o = none ∧ (pre <+: wl ∧ True) ∧ Blk X V1C.heap.size 3 #[.int .i64 (pre.length : Int)] ∧ Below V1C.heap.size V1C X)
      (fun c pre o X => o = none ∧ ((c = .ret ∧ ¬ (pre <+: wl)) ∨ False) ∧ (c = .exit 2 → Blk X V1C.heap.size 3 #[.int .i64 (pre.length : Int)] ∧ Below V1C.heap.size V1C X))
      hFI.out hFX.out none (fun b e => by cases e) ⟨rfl, ⟨List.nil_prefix, trivial⟩, hn0, hBa⟩
      56 (fun z => #[.int .i64 z.1, .int .i64 z.2]) ?actC ?assignC
      (fun pre o X h => by obtain ⟨rfl, _⟩ := h; intro b e; cases e) (fun c pre o X h => by obtain ⟨rfl, _⟩ := h; intro b e; cases e) ?bodyC ?doneC ?stopC
    case assignC =>
      intro l' pre z o X K hsz ho hI2 hok hK
      have hlay := below_one X (.cells #[.int .i64 z.1, .int .i64 z.2] 56)
      have hbz := Blk.new X 56 #[.int .i64 z.1, .int .i64 z.2]
      have hkp : KeepP (fun b => b < VaC.heap.size ∧ b ≠ V1C.heap.size) X (X.alloc (.cells #[.int .i64 z.1, .int .i64 z.2] 56)) := KeepP.below hlay (fun b hb => by have := hb.1; omega)
      have hI3 := hFI.out.lay hI2 (.cells #[.int .i64 z.1, .int .i64 z.2] 56)
      have hsi := SinceO.below (B := VaC.heap.size) (o := o) hlay
      obtain ⟨gx, hgx⟩ : ∃ gx, Hid (X.heap.size = gx) := ⟨_, rfl⟩
      unfold encA
      gi_wp2_with fail
      rw [hgx.out] at hbz ⊢
      exact hK gx _ hsi hkp hI3 hbz
    case bodyC =>
      rintro l' pre z o gx X hsz ⟨rfl, ⟨hpre, hcnd⟩, hn, hB⟩ hbg hlen
      obtain ⟨zx, zy⟩ := z
      have hXY : Below X.heap.size X X.drew := (Below.refl _ _).drew
      obtain ⟨Y, hY⟩ : ∃ Y, X.drew = Y := ⟨_, rfl⟩
      rw [hY] at hXY
      have HY := Lib.hid hY
      clear hY
      have hke : KeepP (fun b => b < VaC.heap.size ∧ b ≠ V1C.heap.size) X Y := KeepP.below hXY (fun b hb => by have := hb.1; omega)
      have hse : SinceO VaC.heap.size none X Y := SinceO.below hXY
      replace hn := hn.below hXY hn.lt
      replace hB := below_in hB hXY
      replace hbg := hbg.below hXY hbg.lt
      replace hsz := Nat.le_trans hsz hXY.size
      obtain ⟨f1, f2, f3, f4, f5, f6, fB, fs⟩ := F1.next hB
      have cn := hn.one
      have fn := hn.frozen 0
      have cwx := f3.one
      have ctx := (ct1.below hB ct1.lt).one
      have cmx := f1.one
      have crx := f2.one
      have frx := f2.frozen 0
      have k0 := hbg.cell 0
      have k1 := hbg.cell 1
      simp only [List.getElem?_toArray, List.getElem?_cons_zero, List.getElem?_cons_succ] at k0 k1
      have hbsz := hB.size
      have hple := hpre.length_le
      rw [HWN.out] at hple
      have hks : KeepP (fun b => b < VaC.heap.size ∧ b ≠ V1C.heap.size) X (Y.setCell ⟨w.heap.size + 1, 0, none⟩ (.bool false)) := hke.trans (keepP_same f2)
      have hss : SinceO VaC.heap.size none X (Y.setCell ⟨w.heap.size + 1, 0, none⟩ (.bool false)) := hse.trans_ ⟨by simp, fun b h1 h2 h3 => Below.heap_setCell Y _ (.bool false) b (by simp; omega)⟩
      clear f1 f2 f3 f5 f6 fB hbg
      by_cases hp : pre.length < wn
      · obtain ⟨q4, cap4, e4, hA4⟩ := f4
        have hpw : pre.length < wl.length := by rw [HWN.out]; exact hp
        obtain ⟨gw, hq4, hgw, x0, x1⟩ := hA4 pre.length hpw
        have hget : wl[pre.length]? = some wl[pre.length] := List.getElem?_eq_getElem hpw
        clear hA4
        obtain ⟨yx, yy, hyz⟩ : ∃ yx yy, wl[pre.length] = (yx, yy) := ⟨_, _, rfl⟩
        rw [hyz] at x0 x1 hget
        clear hyz hpw
        have e5 : Aw = some ⟨gw, 0, none⟩ := by injection e4 with e6 _ _; rw [e6, hq4]
        clear e4 hq4
        subst e5
        have dp : decide ((wn : Int) ≤ (pre.length : Int)) = false := decide_eq_false (by omega)
        have hget2 := Lib.hid hget
        clear hget
        by_cases hx : (zx, zy) = (yx, yy)
        · injection hx with hx1 hx2
          subst hx1 hx2
          have HN := Lib.hid (prefix_next hpre hget2.out)
          have hl1 : Hid (((pre ++ [(zx, zy)]).length : Int) = (pre.length : Int) + 1) := by unfold Hid; rw [List.length_append]; rfl
          have hks2 : KeepP (fun b => b < VaC.heap.size ∧ b ≠ V1C.heap.size) X (Y.setCell ⟨V1C.heap.size, 0, none⟩ (.int .i64 ((pre.length : Int) + 1))) := hke.trans (KeepP.setFar Y (by simp) _)
          have hss2 : SinceO VaC.heap.size none X (Y.setCell ⟨V1C.heap.size, 0, none⟩ (.int .i64 ((pre.length : Int) + 1))) := hse.trans_ ⟨by simp, fun b h1 h2 h3 => Below.heap_setCell Y _ (.int .i64 ((pre.length : Int) + 1)) b (by simp; omega)⟩
          have hT : Hid (Blk (Y.setCell ⟨V1C.heap.size, 0, none⟩ (.int .i64 ((pre.length : Int) + 1))) V1C.heap.size 3 #[.int .i64 ((pre ++ [(zx, zy)]).length : Int)] ∧ Below V1C.heap.size V1C (Y.setCell ⟨V1C.heap.size, 0, none⟩ (.int .i64 ((pre.length : Int) + 1)))) := by
            unfold Hid
            rw [hl1.out]
            exact ⟨hn.set_ 0 _, hB.setCell (Nat.le_refl _) _⟩
          clear hpre hn hB hke hse hks hss hbsz hXY
          gi_wp2
          have hS : (fun U : World => U.cell? ⟨V1C.heap.size, 0, none⟩ = some (.int .i64 (pre.length : Int)) ∧ U.cell? ⟨w5.heap.size, 0, none⟩ = some (.slice (some ⟨gw, 0, none⟩) wn cw) ∧ U.cell? ⟨gx, 0, none⟩ = some (.int .i64 zx) ∧ U.cell? ⟨gx, 1, none⟩ = some (.int .i64 zy) ∧ U.cell? ⟨gw, pre.length * 2, none⟩ = some (.int .i64 zx) ∧ U.cell? ⟨gw, pre.length * 2 + 1, none⟩ = some (.int .i64 zy)) Y := ⟨cn, cwx, k0, k1, x0, x1⟩
          refine region_HF (S := (fun U : World => U.cell? ⟨V1C.heap.size, 0, none⟩ = some (.int .i64 (pre.length : Int)) ∧ U.cell? ⟨w5.heap.size, 0, none⟩ = some (.slice (some ⟨gw, 0, none⟩) wn cw) ∧ U.cell? ⟨gx, 0, none⟩ = some (.int .i64 zx) ∧ U.cell? ⟨gx, 1, none⟩ = some (.int .i64 zy) ∧ U.cell? ⟨gw, pre.length * 2, none⟩ = some (.int .i64 zx) ∧ U.cell? ⟨gw, pre.length * 2 + 1, none⟩ = some (.int .i64 zy))) (by kernel_rfl) ?_
          rw [HY.out]
          refine anyHF_take (i := 0) (d := 99) (v := .int .i64 (pre.length : Int)) (by kernel_rfl) rfl (by kernel_rfl) (by kernel_rfl) (by kernel_rfl) rfl (fun _ _ _ h => h) ⟨Or.inl ⟨by rfl, fun w hS => by obtain ⟨h0, h1, h2, h3, h4, h5⟩ := hS; go_simp⟩, fun _ => rfl⟩ hS ?_
          simp only [upd]
          refine anyHF_take (i := 1) (d := 100) (v := .slice (some ⟨gw, 0, none⟩) wn cw) (by kernel_rfl) rfl (by kernel_rfl) (by kernel_rfl) (by kernel_rfl) rfl (fun _ _ _ h => h) ⟨Or.inl ⟨by rfl, fun w hS => by obtain ⟨h0, h1, h2, h3, h4, h5⟩ := hS; go_simp⟩, fun _ => rfl⟩ hS ?_
          simp only [upd]
          refine anyHF_take (i := 2) (d := 101) (v := .int .i64 (wn : Int)) (by kernel_rfl) rfl (by kernel_rfl) (by kernel_rfl) (by kernel_rfl) rfl (fun _ _ _ h => h) ⟨Or.inl ⟨by rfl, fun w hS => by obtain ⟨h0, h1, h2, h3, h4, h5⟩ := hS; go_simp⟩, fun _ => rfl⟩ hS ?_
          simp only [upd]
          refine anyHF_take (i := 3) (d := 102) (v := .bool false) (by kernel_rfl) rfl (by kernel_rfl) (by kernel_rfl) (by kernel_rfl) rfl (fun _ _ _ h => h) ⟨Or.inl ⟨by rfl, fun w hS => by obtain ⟨h0, h1, h2, h3, h4, h5⟩ := hS; (go_simp <;> omega)⟩, fun _ => rfl⟩ hS ?_
          simp only [upd]
          refine anyHF_take (i := 4) (d := 103) (v := .bool false) (by kernel_rfl) rfl (by kernel_rfl) (by kernel_rfl) (by kernel_rfl) rfl (fun _ _ _ h => h) ⟨Or.inl ⟨by rfl, fun w hS => by obtain ⟨h0, h1, h2, h3, h4, h5⟩ := hS; go_simp⟩, fun _ => rfl⟩ hS ?_
          simp only [upd]
          refine anyHF_take (i := 5) (d := 104) (v := .agg #[.int .i64 zx, .int .i64 zy]) (by kernel_rfl) rfl (by kernel_rfl) (by kernel_rfl) (by kernel_rfl) rfl (fun _ _ _ h => h) ⟨Or.inl ⟨by rfl, fun w hS => by obtain ⟨h0, h1, h2, h3, h4, h5⟩ := hS; go_simp⟩, fun _ => rfl⟩ hS ?_
          simp only [upd]
          refine anyHF_take (i := 6) (d := 105) (v := .slice (some ⟨gw, 0, none⟩) wn cw) (by kernel_rfl) rfl (by kernel_rfl) (by kernel_rfl) (by kernel_rfl) rfl (fun _ _ _ h => h) ⟨Or.inl ⟨by rfl, fun w hS => by obtain ⟨h0, h1, h2, h3, h4, h5⟩ := hS; go_simp⟩, fun _ => rfl⟩ hS ?_
          simp only [upd]
          refine anyHF_take (i := 7) (d := 106) (v := .int .i64 (pre.length : Int)) (by kernel_rfl) rfl (by kernel_rfl) (by kernel_rfl) (by kernel_rfl) rfl (fun _ _ _ h => h) ⟨Or.inl ⟨by rfl, fun w hS => by obtain ⟨h0, h1, h2, h3, h4, h5⟩ := hS; go_simp⟩, fun _ => rfl⟩ hS ?_
          simp only [upd]
          refine anyHF_take (i := 8) (d := 107) (v := .pointer (some ⟨gw, pre.length * 2, none⟩)) (by kernel_rfl) rfl (by kernel_rfl) (by kernel_rfl) (by kernel_rfl) rfl (fun _ _ _ h => h) ⟨Or.inl ⟨by rfl, fun w hS => by obtain ⟨h0, h1, h2, h3, h4, h5⟩ := hS; (go_simp <;> omega)⟩, fun _ => rfl⟩ hS ?_
          simp only [upd]
          refine anyHF_take (i := 9) (d := 108) (v := .agg #[.int .i64 zx, .int .i64 zy]) (by kernel_rfl) rfl (by kernel_rfl) (by kernel_rfl) (by kernel_rfl) rfl (fun _ _ _ h => h) ⟨Or.inl ⟨by rfl, fun w hS => by obtain ⟨h0, h1, h2, h3, h4, h5⟩ := hS; go_simp⟩, fun _ => rfl⟩ hS ?_
          simp only [upd]
          refine anyHF_take (i := 10) (d := 109) (v := .bool false) (by kernel_rfl) rfl (by kernel_rfl) (by kernel_rfl) (by kernel_rfl) rfl (fun _ _ _ h => h) ⟨Or.inl ⟨by rfl, fun w hS => by obtain ⟨h0, h1, h2, h3, h4, h5⟩ := hS; (go_simp <;> omega)⟩, fun _ => rfl⟩ hS ?_
          simp only [upd]
          refine anyHF_take (i := 11) (d := 110) (v := .bool false) (by kernel_rfl) rfl (by kernel_rfl) (by kernel_rfl) (by kernel_rfl) rfl (fun _ _ _ h => h) ⟨Or.inl ⟨by rfl, fun w hS => by obtain ⟨h0, h1, h2, h3, h4, h5⟩ := hS; go_simp⟩, fun _ => rfl⟩ hS ?_
          simp only [upd]
          refine anyHF_done (by kernel_rfl) ?_ _
          clear hS
          gi_wp2
          exact ⟨none, .inl rfl, hss2, hks2, rfl, ⟨HN.out, trivial⟩, hT.out⟩
        · have hx2 : ¬ (zx = yx ∧ zy = yy) := fun e => hx (by rw [e.1, e.2])
          have HN := Lib.hid (prefix_not (L := wl) (pre := pre) (z := (zx, zy)) (fun e => hx (by rw [hget2.out] at e; injection e with e; exact e.symm)))
          clear hpre hn hB hke hse hbsz hXY
          gi_wp2
          have hS : (fun U : World => U.cell? ⟨V1C.heap.size, 0, none⟩ = some (.int .i64 (pre.length : Int)) ∧ U.cell? ⟨w5.heap.size, 0, none⟩ = some (.slice (some ⟨gw, 0, none⟩) wn cw) ∧ U.cell? ⟨gx, 0, none⟩ = some (.int .i64 zx) ∧ U.cell? ⟨gx, 1, none⟩ = some (.int .i64 zy) ∧ U.cell? ⟨gw, pre.length * 2, none⟩ = some (.int .i64 yx) ∧ U.cell? ⟨gw, pre.length * 2 + 1, none⟩ = some (.int .i64 yy)) Y := ⟨cn, cwx, k0, k1, x0, x1⟩
          refine region_HF (S := (fun U : World => U.cell? ⟨V1C.heap.size, 0, none⟩ = some (.int .i64 (pre.length : Int)) ∧ U.cell? ⟨w5.heap.size, 0, none⟩ = some (.slice (some ⟨gw, 0, none⟩) wn cw) ∧ U.cell? ⟨gx, 0, none⟩ = some (.int .i64 zx) ∧ U.cell? ⟨gx, 1, none⟩ = some (.int .i64 zy) ∧ U.cell? ⟨gw, pre.length * 2, none⟩ = some (.int .i64 yx) ∧ U.cell? ⟨gw, pre.length * 2 + 1, none⟩ = some (.int .i64 yy))) (by kernel_rfl) ?_
          rw [HY.out]
          refine anyHF_take (i := 0) (d := 99) (v := .int .i64 (pre.length : Int)) (by kernel_rfl) rfl (by kernel_rfl) (by kernel_rfl) (by kernel_rfl) rfl (fun _ _ _ h => h) ⟨Or.inl ⟨by rfl, fun w hS => by obtain ⟨h0, h1, h2, h3, h4, h5⟩ := hS; go_simp⟩, fun _ => rfl⟩ hS ?_
          simp only [upd]
          refine anyHF_take (i := 1) (d := 100) (v := .slice (some ⟨gw, 0, none⟩) wn cw) (by kernel_rfl) rfl (by kernel_rfl) (by kernel_rfl) (by kernel_rfl) rfl (fun _ _ _ h => h) ⟨Or.inl ⟨by rfl, fun w hS => by obtain ⟨h0, h1, h2, h3, h4, h5⟩ := hS; go_simp⟩, fun _ => rfl⟩ hS ?_
          simp only [upd]
          refine anyHF_take (i := 2) (d := 101) (v := .int .i64 (wn : Int)) (by kernel_rfl) rfl (by kernel_rfl) (by kernel_rfl) (by kernel_rfl) rfl (fun _ _ _ h => h) ⟨Or.inl ⟨by rfl, fun w hS => by obtain ⟨h0, h1, h2, h3, h4, h5⟩ := hS; go_simp⟩, fun _ => rfl⟩ hS ?_
          simp only [upd]
          refine anyHF_take (i := 3) (d := 102) (v := .bool false) (by kernel_rfl) rfl (by kernel_rfl) (by kernel_rfl) (by kernel_rfl) rfl (fun _ _ _ h => h) ⟨Or.inl ⟨by rfl, fun w hS => by obtain ⟨h0, h1, h2, h3, h4, h5⟩ := hS; (go_simp <;> omega)⟩, fun _ => rfl⟩ hS ?_
          simp only [upd]
          refine anyHF_take (i := 4) (d := 103) (v := .bool false) (by kernel_rfl) rfl (by kernel_rfl) (by kernel_rfl) (by kernel_rfl) rfl (fun _ _ _ h => h) ⟨Or.inl ⟨by rfl, fun w hS => by obtain ⟨h0, h1, h2, h3, h4, h5⟩ := hS; go_simp⟩, fun _ => rfl⟩ hS ?_
          simp only [upd]
          refine anyHF_take (i := 5) (d := 104) (v := .agg #[.int .i64 zx, .int .i64 zy]) (by kernel_rfl) rfl (by kernel_rfl) (by kernel_rfl) (by kernel_rfl) rfl (fun _ _ _ h => h) ⟨Or.inl ⟨by rfl, fun w hS => by obtain ⟨h0, h1, h2, h3, h4, h5⟩ := hS; go_simp⟩, fun _ => rfl⟩ hS ?_
          simp only [upd]
          refine anyHF_take (i := 6) (d := 105) (v := .slice (some ⟨gw, 0, none⟩) wn cw) (by kernel_rfl) rfl (by kernel_rfl) (by kernel_rfl) (by kernel_rfl) rfl (fun _ _ _ h => h) ⟨Or.inl ⟨by rfl, fun w hS => by obtain ⟨h0, h1, h2, h3, h4, h5⟩ := hS; go_simp⟩, fun _ => rfl⟩ hS ?_
          simp only [upd]
          refine anyHF_take (i := 7) (d := 106) (v := .int .i64 (pre.length : Int)) (by kernel_rfl) rfl (by kernel_rfl) (by kernel_rfl) (by kernel_rfl) rfl (fun _ _ _ h => h) ⟨Or.inl ⟨by rfl, fun w hS => by obtain ⟨h0, h1, h2, h3, h4, h5⟩ := hS; go_simp⟩, fun _ => rfl⟩ hS ?_
          simp only [upd]
          refine anyHF_take (i := 8) (d := 107) (v := .pointer (some ⟨gw, pre.length * 2, none⟩)) (by kernel_rfl) rfl (by kernel_rfl) (by kernel_rfl) (by kernel_rfl) rfl (fun _ _ _ h => h) ⟨Or.inl ⟨by rfl, fun w hS => by obtain ⟨h0, h1, h2, h3, h4, h5⟩ := hS; (go_simp <;> omega)⟩, fun _ => rfl⟩ hS ?_
          simp only [upd]
          refine anyHF_take (i := 9) (d := 108) (v := .agg #[.int .i64 yx, .int .i64 yy]) (by kernel_rfl) rfl (by kernel_rfl) (by kernel_rfl) (by kernel_rfl) rfl (fun _ _ _ h => h) ⟨Or.inl ⟨by rfl, fun w hS => by obtain ⟨h0, h1, h2, h3, h4, h5⟩ := hS; go_simp⟩, fun _ => rfl⟩ hS ?_
          simp only [upd]
          refine anyHF_take (i := 10) (d := 109) (v := .bool true) (by kernel_rfl) rfl (by kernel_rfl) (by kernel_rfl) (by kernel_rfl) rfl (fun _ _ _ h => h) ⟨Or.inl ⟨by rfl, fun w hS => by obtain ⟨h0, h1, h2, h3, h4, h5⟩ := hS; (go_simp <;> omega)⟩, fun _ => rfl⟩ hS ?_
          simp only [upd]
          refine anyHF_take (i := 11) (d := 110) (v := .bool true) (by kernel_rfl) rfl (by kernel_rfl) (by kernel_rfl) (by kernel_rfl) rfl (fun _ _ _ h => h) ⟨Or.inl ⟨by rfl, fun w hS => by obtain ⟨h0, h1, h2, h3, h4, h5⟩ := hS; go_simp⟩, fun _ => rfl⟩ hS ?_
          simp only [upd]
          refine anyHF_done (by kernel_rfl) ?_ _
          clear hS
          gi_wp2
          exact ⟨none, .inl rfl, hss, hks, rfl, .inl ⟨rfl, HN.out⟩, fun e => by cases e⟩
      · have dp : decide ((wn : Int) ≤ (pre.length : Int)) = true := decide_eq_true (by omega)
        have HN := Lib.hid (prefix_not (L := wl) (pre := pre) (z := (zx, zy)) (fun e => by rw [List.getElem?_eq_none (by rw [HWN.out]; omega)] at e; cases e))
        clear hpre hn hB hke hse hbsz hXY f4
        gi_wp2
        have hS : (fun U : World => U.cell? ⟨V1C.heap.size, 0, none⟩ = some (.int .i64 (pre.length : Int)) ∧ U.cell? ⟨w5.heap.size, 0, none⟩ = some (.slice Aw wn cw) ∧ U.cell? ⟨gx, 0, none⟩ = some (.int .i64 zx) ∧ U.cell? ⟨gx, 1, none⟩ = some (.int .i64 zy)) Y := ⟨cn, cwx, k0, k1⟩
        refine region_HF (S := (fun U : World => U.cell? ⟨V1C.heap.size, 0, none⟩ = some (.int .i64 (pre.length : Int)) ∧ U.cell? ⟨w5.heap.size, 0, none⟩ = some (.slice Aw wn cw) ∧ U.cell? ⟨gx, 0, none⟩ = some (.int .i64 zx) ∧ U.cell? ⟨gx, 1, none⟩ = some (.int .i64 zy))) (by kernel_rfl) ?_
        rw [HY.out]
        refine anyHF_take (i := 0) (d := 99) (v := .int .i64 (pre.length : Int)) (by kernel_rfl) rfl (by kernel_rfl) (by kernel_rfl) (by kernel_rfl) rfl (fun _ _ _ h => h) ⟨Or.inl ⟨by rfl, fun w hS => by obtain ⟨h0, h1, h2, h3⟩ := hS; go_simp⟩, fun _ => rfl⟩ hS ?_
        simp only [upd]
        refine anyHF_take (i := 1) (d := 100) (v := .slice Aw wn cw) (by kernel_rfl) rfl (by kernel_rfl) (by kernel_rfl) (by kernel_rfl) rfl (fun _ _ _ h => h) ⟨Or.inl ⟨by rfl, fun w hS => by obtain ⟨h0, h1, h2, h3⟩ := hS; go_simp⟩, fun _ => rfl⟩ hS ?_
        simp only [upd]
        refine anyHF_take (i := 2) (d := 101) (v := .int .i64 (wn : Int)) (by kernel_rfl) rfl (by kernel_rfl) (by kernel_rfl) (by kernel_rfl) rfl (fun _ _ _ h => h) ⟨Or.inl ⟨by rfl, fun w hS => by obtain ⟨h0, h1, h2, h3⟩ := hS; go_simp⟩, fun _ => rfl⟩ hS ?_
        simp only [upd]
        refine anyHF_take (i := 3) (d := 102) (v := .bool true) (by kernel_rfl) rfl (by kernel_rfl) (by kernel_rfl) (by kernel_rfl) rfl (fun _ _ _ h => h) ⟨Or.inl ⟨by rfl, fun w hS => by obtain ⟨h0, h1, h2, h3⟩ := hS; (go_simp <;> omega)⟩, fun _ => rfl⟩ hS ?_
        simp only [upd]
        refine anyHF_take (i := 4) (d := 103) (v := .bool true) (by kernel_rfl) rfl (by kernel_rfl) (by kernel_rfl) (by kernel_rfl) rfl (fun _ _ _ h => h) ⟨Or.inl ⟨by rfl, fun w hS => by obtain ⟨h0, h1, h2, h3⟩ := hS; go_simp⟩, fun _ => rfl⟩ hS ?_
        simp only [upd]
        refine anyHF_take (i := 5) (d := 104) (v := undef) (by kernel_rfl) rfl (by kernel_rfl) (by kernel_rfl) (by kernel_rfl) rfl (fun _ _ _ h => h) ⟨Or.inr ⟨by rfl, rfl⟩, fun _ => rfl⟩ hS ?_
        simp only [upd]
        refine anyHF_take (i := 6) (d := 105) (v := undef) (by kernel_rfl) rfl (by kernel_rfl) (by kernel_rfl) (by kernel_rfl) rfl (fun _ _ _ h => h) ⟨Or.inr ⟨by rfl, rfl⟩, fun _ => rfl⟩ hS ?_
        simp only [upd]
        refine anyHF_take (i := 7) (d := 106) (v := undef) (by kernel_rfl) rfl (by kernel_rfl) (by kernel_rfl) (by kernel_rfl) rfl (fun _ _ _ h => h) ⟨Or.inr ⟨by rfl, rfl⟩, fun _ => rfl⟩ hS ?_
        simp only [upd]
        refine anyHF_take (i := 8) (d := 107) (v := undef) (by kernel_rfl) rfl (by kernel_rfl) (by kernel_rfl) (by kernel_rfl) rfl (fun _ _ _ h => h) ⟨Or.inr ⟨by rfl, rfl⟩, fun _ => rfl⟩ hS ?_
        simp only [upd]
        refine anyHF_take (i := 9) (d := 108) (v := undef) (by kernel_rfl) rfl (by kernel_rfl) (by kernel_rfl) (by kernel_rfl) rfl (fun _ _ _ h => h) ⟨Or.inr ⟨by rfl, rfl⟩, fun _ => rfl⟩ hS ?_
        simp only [upd]
        refine anyHF_take (i := 10) (d := 109) (v := undef) (by kernel_rfl) rfl (by kernel_rfl) (by kernel_rfl) (by kernel_rfl) rfl (fun _ _ _ h => h) ⟨Or.inr ⟨by rfl, rfl⟩, fun _ => rfl⟩ hS ?_
        simp only [upd]
        refine anyHF_take (i := 11) (d := 110) (v := .bool true) (by kernel_rfl) rfl (by kernel_rfl) (by kernel_rfl) (by kernel_rfl) rfl (fun _ _ _ h => h) ⟨Or.inl ⟨by rfl, fun w hS => by obtain ⟨h0, h1, h2, h3⟩ := hS; go_simp⟩, fun _ => rfl⟩ hS ?_
        simp only [upd]
        refine anyHF_done (by kernel_rfl) ?_ _
        clear hS
        gi_wp2
        exact ⟨none, .inl rfl, hss, hks, rfl, .inl ⟨rfl, HN.out⟩, fun e => by cases e⟩
    case doneC =>
      rintro DC xs o X hD hfo hxs hI hK hne
      rw [hxs] at hI
      obtain ⟨rfl, ⟨hpre, hcnd⟩, hn, hB⟩ := hI
      rw [HWN.out] at hn
      clear hpre hfo hxs
      obtain ⟨f1, f2, f3, f4, f5, f6, fB, fs⟩ := F1.next hB
      have cn := hn.one
      have cwx := f3.one
      have ctx := (ct1.below hB ct1.lt).one
      have cmx := f1.one
      have lt0 := hB.size
      have hne1 : ((wn : Int) != (wn : Int)) = false := by simp
      have fV := F1.2.2.2.2.2.2.2
      gi_wp2
      clear cn cwx ctx cmx f1 f2 f3 f4 f5 f6 fB fs
      obtain ⟨V2C, hVn⟩ : ∃ Y, X.alloc (.cells #[.int .i64 2] 3) = Y := ⟨_, rfl⟩
      rw [hVn]
      have hBn : Below V1C.heap.size V1C V2C := by rw [← hVn]; exact hB.alloc hB.size _
      have ct2 : Blk V2C X.heap.size 3 #[.int .i64 2] := by rw [← hVn]; exact Blk.new _ _ _
      have hDn : V2C.heap[DC]? = some (.deferred (some [])) := by rw [← hVn]; exact (Below.heap_alloc X _ DC (Array.getElem?_eq_some_iff.1 hK).1).trans hK
      have HL2 := HL1.more hBn (D := DC) (by omega) (by omega) hDn
      have F2 := F1.next hBn
      clear hVn hBn hDn hK hn hB ct1 F1 HL1 hne fV lt0
      clear hne1 hcnd
      rw [roundsIn_succ]
      obtain ⟨f1, f2, f3, f4, f5, f6, fB, fs⟩ := id F2
      have ctx := ct2.one
      gi_wp2_with fail
      go_wp2_with fail
      refine (Go.Proofs.YtggdlklkjnbbjaaGreatDoor.R.works_any _ (HLW.out _ fB)).mono ?_
      rintro e wf ⟨rfl, hBf⟩
      have f2f := f2.below hBf f2.lt
      have crx := f2f.one
      have frx := f2f.frozen 0
      have hb3 := f2f.set_ 0 (.bool true)
      have hLf := (HL2.below hBf).set_ ⟨w.heap.size + 1, 0, none⟩ (.bool true)
      have hBz : Below w.heap.size w (wf.setCell ⟨w.heap.size + 1, 0, none⟩ (.bool true)) := (below_in fB hBf).setCell (by simp) _
      go_wp2
      refine leaves_blks w _ _ hLf hBz (fun W' hB' hk => ?_)
      have r0 := (hk _ _ _ hb3).one
      exact ⟨.bool true, by simp [results, Tryz.results7, go_sem, r0], rfl, hB'⟩
    case stopC =>
      rintro D c pre o X hD hfo hsp hI hK hne
      obtain ⟨rfl, hor, htold⟩ := hI
      rcases hor with ⟨rfl, h⟩ | h
      · exact absurd hsp h
      · exact h.elim

open Go.Proofs.YtggdlklkjnbbjaaGreatDoor.E Go.Proofs.YtggdlklkjnbbjaaGreatDoor.C Go.Proofs.YtggdlklkjnbbjaaGreatDoor.R in
set_option maxRecDepth 100000 in
set_option maxHeartbeats 4000000 in
theorem walk (p : Int) (v : Value) (css : List (List (List UInt8))) (many : Int) (w : World) (hL : Laid w) (wp : -9223372036854775808 ≤ p ∧ p ≤ 9223372036854775807) (hC : Cols w.heap.size w v css) (wm : -9223372036854775808 ≤ many ∧ many ≤ 9223372036854775807) :
    Calls Tryz.prog 7 #[.int .i64 p, v, .int .i64 many] w fun e w' => e = .returned (.bool true) ∧ Below w.heap.size w w' := by
  by_cases hf0 : Few6 css
  case neg => exact n1 p v css many w hL wp hC wm hf0
  by_cases hok : AllR p css
  case pos => exact yes p v css many w hL wp hC wm hf0 hok
  by_cases hr0 : RightD p css
  case pos => exact n3 p v css many w hL wp hC wm hf0 hok hr0
  exact n2 p v css many w hL wp hC wm hf0 hok hr0

set_option maxRecDepth 100000 in
theorem lifted (os : Os) (started : os.Started) (H : Type) (enc : TypeId × Value → H) :
    ReturnsInHanded {} Tryz.checked os 7 .any (fun w args => (Rows.rdpChecksSpec.pre enc Tryz.prog Tryz.f7 [] false w args ∧ laidMetH Tryz.prog laidL w) ∧ sizedMet enc Tryz.prog Tryz.f7 (OpenSpec.ofChange Rows.rdpChecksSpec) false w args)
      (Rows.rdpChecksSpec.post enc Tryz.prog Tryz.f7 false true false false) := by
  refine returnsInHanded_of_change_and (C := Tryz.checked) (X := fun w _ => laidMetH Tryz.prog laidL w) (fun _ _ _ hh h => h.of_heap hh) own started (by kernel_rfl) Tryz.func7
    (ChangeSpec.witness_shaped (enc := enc) (C := Tryz.checked) (os := os) (X := fun w _ => laidMetH Tryz.prog laidL w) false (World.doorLaid Tryz.prog 200 os) #[.int .i64 0, .slice none 0 0, .int .i64 0] 8 rfl (World.shaped_of_RefB (by kernel_rfl) (by kernel_rfl)) (by kernel_rfl) (by kernel_rfl) (by kernel_rfl) (door_met os _)) ?_
  intro W base args ds gs before hval0 hW _ _ hL0 _
  have hL := laid_of hL0
  have hval : ∀ (j : Nat) t v, Tryz.f7.params[j]? = some t → args[j]? = some v → Value.okWide Tryz.prog W .any base t v := hval0
  have hW' := hW
  obtain ⟨p, q, hA0, hV, rfl, hfz, hnd⟩ := hW
  have hA : DataW.TrodAll enc Tryz.prog W 0 (fun _ => true) true Tryz.f7.params.toList args.toList ds p := hA0
  rw [Tryz.params7] at hA hval
  obtain ⟨v0, vs0, d0, ds0, p0, q0, hargs, rfl, rfl, h0, r0⟩ := trodAll_cons hA
  obtain ⟨v1, vs1, d1, ds1, p1, q1, rfl, rfl, rfl, h1, r1⟩ := trodAll_cons r0
  obtain ⟨v2, vs2, d2, ds2, p2, q2, rfl, rfl, rfl, h2, r2⟩ := trodAll_cons r1
  obtain ⟨rfl, rfl, rfl⟩ := trodAll_nil r2
  obtain rfl : args = #[v0, v1, v2] := by cases args; simp_all
  obtain ⟨rfl, rfl⟩ := trodVars_none hV
  obtain ⟨a0, rfl, rfl, rfl, w0⟩ := open_int Tryz.underlying3 (hval 0 3 v0 rfl rfl) h0
  have k1 := h1
  have lt1 : ∀ x ∈ p1, x.block < W.heap.size := by obtain ⟨m, hm⟩ := k1; exact DataW.trod_lt m _ _ _ hm
  obtain ⟨a1, len1, cap1, rfl⟩ := okWide_slice Tryz.underlying22 (hval 1 22 v1 rfl rfl)
  obtain ⟨l1, w1⟩ : ∃ css, E.Cols W.heap.size W (.slice a1 len1 cap1) css := by obtain ⟨fuel, hf⟩ := h1; exact E.open_cols hf
  obtain ⟨a2, rfl, rfl, rfl, w2⟩ := open_int Tryz.underlying3 (hval 2 3 v2 rfl rfl) h2
  clear hA0 hval0
  simp only [List.append_nil] at hW'
  refine (walk a0 _ l1 a2 W hL (E.wf_i64 w0) w1 (E.wf_i64 w2)).mono fun e W' ⟨he, bel⟩ => ?_
  subst he
  exact ⟨_, rfl, _, _, _, [], _, [], hW', trodAll_mk1 (shut_bool Tryz.underlying4 _), (trodAll_cons_mk (shut_int Tryz.underlying3 w0) (trodAll_cons_mk (Below.trod laidOut (by kernel_rfl) (of_decide_eq_true (by kernel_rfl)) k1 bel lt1) (trodAll_cons_mk (shut_int Tryz.underlying3 w2) trodAll_mk0))), rfl, bel.frame _, fun h => by cases h⟩

theorem over : Rows.rdpChecksRow.holds Tryz.pinned (OpenSpec.ofChange Rows.rdpChecksSpec) :=
  OpenClaim.holds_of_wide 7 Tryz.f7 rfl rfl rfl rfl rfl rfl rfl ⟨rfl, rfl, rfl, rfl, rfl⟩ rfl rfl rfl rfl rfl (by kernel_rfl) Tryz.func7 (by kernel_rfl)
    (of_decide_eq_true (by kernel_rfl)) (by unfold Func.isWrapper; first | (rw [if_pos (by decide +kernel)]; kernel_rfl) | (rw [if_neg (by decide +kernel)]; exact ⟨rfl, rfl⟩))
    (fun os started H enc _ => lifted os started H enc)

/-- The tied card: the row, and the tie that is given. -/
theorem rdpChecks_holds : Rows.RdpChecksCardSaid :=
  Claim7.holds_tied_plain_at .later [] [.data, .data] true (true, "57ec92c1cad9246a878d60c07de9d5f93b7ace9698c7d1eeaf89e47cae761c73") true over (fun _ h => by cases h) (by kernel_rfl) (fun _ h => by cases h) rdpChecks_row_tie rfl ⟨rfl, rfl⟩ (by kernel_rfl) rfl
    (fun f fn hf hfn => by
      obtain rfl : f = 7 := Option.some.inj ((show Tryz.prog.funcNamed "palisade/palisadelaw07.RdpChecks" = some 7 by kernel_rfl).symm.trans hf) |>.symm
      obtain rfl : fn = Tryz.f7 := (Option.some.inj (Tryz.func7.symm.trans hfn)).symm
      exact ⟨by kernel_rfl, fun j t ht => by
        rw [Tryz.params7] at ht
        have hm : t ∈ [3, 22, 3] := by simpa using Array.mem_of_getElem? ht
        have hall : ([3, 22, 3].all fun u => !Tryz.prog.wantsStandIn u) = true := by kernel_rfl
        exact (show Tryz.prog.wantsStandIn t = false by simpa using List.all_eq_true.1 hall t hm)⟩)
    (by kernel_rfl)
end Go.Proofs.YtggdlklkjnbbjaaGreatDoor.rdpChecks
