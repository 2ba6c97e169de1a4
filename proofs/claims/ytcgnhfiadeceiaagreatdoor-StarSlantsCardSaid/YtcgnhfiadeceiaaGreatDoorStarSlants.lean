/- The law StarSlants answers true for every input and leaves its arguments as they were. -/
import Derived.Test.YtcgnhfiadeceiaaGreatDoorJSA
import Derived.Test.YtcgnhfiadeceiaaGreatDoorJG6x1
import Derived.Test.YtcgnhfiadeceiaaGreatDoorJG15x1
import Derived.Test.YtcgnhfiadeceiaaGreatDoorJG6x2
import Derived.Test.YtcgnhfiadeceiaaGreatDoorJG8x2
import Derived.Test.YtcgnhfiadeceiaaGreatDoorJG16x2
import Derived.Test.YtcgnhfiadeceiaaGreatDoorJG6x3
import Derived.Test.YtcgnhfiadeceiaaGreatDoorJG8x3
import Derived.Test.YtcgnhfiadeceiaaGreatDoorJG17x3
import Derived.Test.YtcgnhfiadeceiaaGreatDoorJG6x4
import Derived.Test.YtcgnhfiadeceiaaGreatDoorJG8x4
import Derived.Test.YtcgnhfiadeceiaaGreatDoorJG6x5
import Derived.Test.YtcgnhfiadeceiaaGreatDoorJG15x5
import Derived.Test.YtcgnhfiadeceiaaGreatDoorJG18x5
import Derived.Test.YtcgnhfiadeceiaaGreatDoorCards
import Derived.Test.YtcgnhfiadeceiaaGreatDoorTie
import Derived.SevenTiedAt
import Derived.Test.YtcgnhfiadeceiaaGreatDoorJG16
import Derived.Test.YtcgnhfiadeceiaaGreatDoorJG18
import Derived.Test.YtcgnhfiadeceiaaGreatDoorJMA
namespace Go.Proofs.YtcgnhfiadeceiaaGreatDoor.starSlants
open Go.ChangeShapes Go.WideShapes Go.ChangeAt Go.RowKit Go.Shelf
set_option linter.unusedVariables false
set_option linter.unusedSimpArgs false
attribute [local go_sem] Oper.semAt_some

theorem upd {α : Type} : (∀ (l : List α) (i : Nat) (a : α), l.toArray.setIfInBounds i a = (l.set i a).toArray) ∧ (∀ (x : α) (xs : List α) (a : α), (x :: xs).set 0 a = a :: xs) ∧ (∀ (x : α) (xs : List α) (i : Nat) (a : α), (x :: xs).set (i + 1) a = x :: xs.set i a) :=
  ⟨fun _ _ _ => List.setIfInBounds_toArray .., fun _ _ _ => rfl, fun _ _ _ _ => rfl⟩
open Go.Proofs.YtcgnhfiadeceiaaGreatDoor.E Go.Proofs.YtcgnhfiadeceiaaGreatDoor.C Go.Proofs.YtcgnhfiadeceiaaGreatDoor.R Go.Proofs.YtcgnhfiadeceiaaGreatDoor.T in
set_option maxRecDepth 100000 in
set_option maxHeartbeats 4000000 in
theorem n1 (p : Int) (v : Value) (css : List (List (List UInt8))) (many : Int) (w : World) (hL : Laid w) (wp : -9223372036854775808 ≤ p ∧ p ≤ 9223372036854775807) (hC : Cols w.heap.size w v css) (wm : -9223372036854775808 ≤ many ∧ many ≤ 9223372036854775807) (hf0 : ¬ Few6 css) :
    Calls Tryz.prog 5 #[.int .i64 p, v, .int .i64 many] w fun e w' => e = .returned (.bool true) ∧ Below w.heap.size w w' := by
  obtain ⟨A, cap, rfl, _, _⟩ := id hC
  obtain ⟨W4, hW4⟩ : ∃ W4, (((w.alloc (.cells #[.int .i64 p] 3)).alloc (.cells #[.slice A css.length cap] 22)).alloc (.cells #[.int .i64 many] 3)).alloc (.cells #[.bool false] 4) = W4 := ⟨_, rfl⟩
  have b0 : Blk W4 w.heap.size 3 #[.int .i64 p] := by rw [← hW4]; exact (((Blk.new w _ _).alloc _).alloc _).alloc _
  have b1 : Blk W4 (w.heap.size + 1) 22 #[.slice A css.length cap] := by rw [← hW4]; exact ((Blk.second w _ _ _).alloc _).alloc _
  have b2 : Blk W4 (w.heap.size + 2) 3 #[.int .i64 many] := by rw [← hW4]; exact (by simpa using Blk.second (w.alloc (.cells #[.int .i64 p] 3)) _ _ _ : Blk _ (w.heap.size + 2) _ _).alloc _
  have b3 : Blk W4 (w.heap.size + 3) 4 #[.bool false] := by rw [← hW4]; exact (by simpa using Blk.second ((w.alloc (.cells #[.int .i64 p] 3)).alloc (.cells #[.slice A css.length cap] 22)) _ _ _)
  have hB4 : Below w.heap.size w W4 := by rw [← hW4]; exact below_in (below_two w _ _) (below_two _ _ _)
  have s4 : W4.heap.size = w.heap.size + 4 := by rw [← hW4]; simp
  have HS4 := Lib.hid s4
  clear s4
  have HF0 := Lib.hid (fun (U : World) (hU : Below w.heap.size w U) => few6_any (.slice A css.length cap) css U (hC.below hU) false (by simp [hf0]))
  clear hf0 hC
  generalize css.length = na at *
  go_enter Tryz.func5, Tryz.ntmps5
  have c0 := b0.one
  have c1 := b1.one
  go_wp2_with fail
  try rw [hW4]
  go_wp2_with (first
    | (go_at_call 9; refine (HF0.out _ hB4).mono ?_; rintro e w' ⟨rfl, rfl⟩)
    | (go_at_call 10; refine (Go.Proofs.YtcgnhfiadeceiaaGreatDoor.T.works_any _ (hL.next hB4)).mono ?_; rintro e wz ⟨rfl, hBz⟩; have bz := b3.below hBz b3.lt; have e1 := bz.one; have f1 := bz.frozen 0; have hb3 := bz.set_ 0 (.bool true); have r0 := hb3.one))
  exact bodyPost_ret (v := .bool true) (by simp [results, Tryz.results5, go_sem, r0]) rfl ⟨rfl, (below_in hB4 hBz).setCell (by show w.heap.size ≤ w.heap.size + 3; omega) _⟩

open Go.Proofs.YtcgnhfiadeceiaaGreatDoor.E Go.Proofs.YtcgnhfiadeceiaaGreatDoor.C Go.Proofs.YtcgnhfiadeceiaaGreatDoor.R Go.Proofs.YtcgnhfiadeceiaaGreatDoor.T in
set_option maxRecDepth 100000 in
set_option maxHeartbeats 4000000 in
theorem yes (p : Int) (v : Value) (css : List (List (List UInt8))) (many : Int) (w : World) (hL : Laid w) (wp : -9223372036854775808 ≤ p ∧ p ≤ 9223372036854775807) (hC : Cols w.heap.size w v css) (wm : -9223372036854775808 ≤ many ∧ many ≤ 9223372036854775807) (hf0 : Few6 css) (hok : DataOk p css) :
    Calls Tryz.prog 5 #[.int .i64 p, v, .int .i64 many] w fun e w' => e = .returned (.bool true) ∧ Below w.heap.size w w' := by
  obtain ⟨A, cap, rfl, _, _⟩ := id hC
  obtain ⟨W4, hW4⟩ : ∃ W4, (((w.alloc (.cells #[.int .i64 p] 3)).alloc (.cells #[.slice A css.length cap] 22)).alloc (.cells #[.int .i64 many] 3)).alloc (.cells #[.bool false] 4) = W4 := ⟨_, rfl⟩
  have b0 : Blk W4 w.heap.size 3 #[.int .i64 p] := by rw [← hW4]; exact (((Blk.new w _ _).alloc _).alloc _).alloc _
  have b1 : Blk W4 (w.heap.size + 1) 22 #[.slice A css.length cap] := by rw [← hW4]; exact ((Blk.second w _ _ _).alloc _).alloc _
  have b2 : Blk W4 (w.heap.size + 2) 3 #[.int .i64 many] := by rw [← hW4]; exact (by simpa using Blk.second (w.alloc (.cells #[.int .i64 p] 3)) _ _ _ : Blk _ (w.heap.size + 2) _ _).alloc _
  have b3 : Blk W4 (w.heap.size + 3) 4 #[.bool false] := by rw [← hW4]; exact (by simpa using Blk.second ((w.alloc (.cells #[.int .i64 p] 3)).alloc (.cells #[.slice A css.length cap] 22)) _ _ _)
  have hB4 : Below w.heap.size w W4 := by rw [← hW4]; exact below_in (below_two w _ _) (below_two _ _ _)
  have s4 : W4.heap.size = w.heap.size + 4 := by rw [← hW4]; simp
  have HS4 := Lib.hid s4
  clear s4
  have hlen : css.length ≤ 1000 := by have := hf0.1; omega
  have hcl : ∀ j, j < css.length → (css[j]?.getD []).length ≤ 1000 := fun j hj => by have := (hf0.2 j hj).1; omega
  have HF0 := Lib.hid (fun (U : World) (hU : Below w.heap.size w U) => few6_any (.slice A css.length cap) css U (hC.below hU) true (by simp [hf0]))
  have HLR := Lib.hid (fun (U : World) (hU : Below w.heap.size w U) => Go.Proofs.YtcgnhfiadeceiaaGreatDoor.T.lright_any (B := w.heap.size) p (.slice A css.length cap) css U hU.size (hC.below hU) hlen true (by simp [hok]))
  have HLW := Lib.hid (fun (U : World) (hU : Below w.heap.size w U) => hL.next hU)
  have hpp := prm_bounds hok.1.2
  have hR3 : RightC 3 p := ⟨by omega, hok.1.2⟩
  have hgr := togOk_grid hok.2.2
  have hf1 := togOk_first hok.2.2
  have hdl := (dataOk_n hok).1
  obtain ⟨L, hLp⟩ : ∃ L : Nat, p.toNat = L := ⟨_, rfl⟩
  have hpL : p = (L : Int) := by omega
  have HSL := Lib.hid (fun (U : World) (hU : Below w.heap.size w U) => Go.Proofs.YtcgnhfiadeceiaaGreatDoor.T.slantsOf_yes (B := w.heap.size) p (.slice A css.length cap) css hok U (hL.next hU) hU.size (hC.below hU))
  rw [hLp] at HSL
  have HRS : Hid (∀ (U : World), Below w.heap.size w U → ∀ k : Nat, k < L → Calls Tryz.prog 19 #[.int .i64 p, .slice A css.length cap, .int .i64 (k : Int)] U fun e w' => ∃ u, e = .returned u ∧ Bytes w'.heap.size w' u (slOf p css (k : Int)) ∧ Below U.heap.size U w') := fun U hU k hk => by
    have h := slant8_any (B := w.heap.size) p (k : Int) hR3 (.slice A css.length cap) css (firstC css).length U hU.size (hC.below hU) (by omega) (by omega) hgr (by omega)
    have e : uponL (firstC css).length css (lineS p (css.length : Int) (k : Int)) = slOf p css (k : Int) := by unfold slOf; rw [hdl, hLp, ← hpL]
    rw [e] at h
    exact h
  have hL17 : L ≤ 17 := by omega
  have HPL := Lib.hid hpL
  clear hf0 hC hok hlen hcl hgr hf1 hdl hR3 hpp hLp hpL
  generalize css.length = na at *
  obtain ⟨g1, hg1⟩ : ∃ g, w.heap.size + 1 = g := ⟨_, rfl⟩
  obtain ⟨g2, hg2⟩ : ∃ g, g1 + 1 = g := ⟨_, rfl⟩
  obtain ⟨g3, hg3⟩ : ∃ g, g2 + 1 = g := ⟨_, rfl⟩
  obtain ⟨g4, hg4⟩ : ∃ g, W4.heap.size = g := ⟨_, rfl⟩
  rw [hg1] at b1
  rw [show w.heap.size + 2 = g2 by omega] at b2
  rw [show w.heap.size + 3 = g3 by omega] at b3
  have HG1 := Lib.hid hg1
  have HG2 := Lib.hid hg2
  have HG3 := Lib.hid hg3
  have HG4 := Lib.hid hg4
  have hB45 : Below W4.heap.size W4 (W4.alloc (.cells #[.int .i64 0] 3)) := below_one W4 _
  have b4 : Blk (W4.alloc (.cells #[.int .i64 0] 3)) g4 3 #[.int .i64 0] := by rw [← hg4]; exact Blk.new _ _ _
  have hB5 := below_in hB4 hB45
  have d0 := (b0.below hB45 b0.lt).one
  have d1 := (b1.below hB45 b1.lt).one
  have b0' := Lib.hid b0
  have b1' := Lib.hid b1
  have b2' := Lib.hid b2
  have b3' := Lib.hid b3
  have HB4 := Lib.hid hB4
  have c0 := b0.one
  have c1 := b1.one
  have r0 := b0.lt
  have r1 := b1.lt
  have r2 := b2.lt
  have r3 := b3.lt
  clear b0 b1 b2 b3
  refine (callsIn_wide (n := 9)).1 ?_
  refine callsIn_of_wp_marks Tryz.func5 rfl trivial ?_ rfl
  simp only [Tryz.ntmps5, List.size_toArray, List.length_cons, List.length_nil, Nat.reduceAdd, Nat.reduceSub, Array.replicate_succ, Array.replicate_zero, List.push_toArray, List.append_toArray, List.nil_append, List.cons_append]
  refine (wpIn_wide (n := 9)).2 ?_
  go_wp2_with fail
  try rw [hW4]
  try rw [hg1]
  try rw [hg2]
  try rw [hg3]
  refine (HF0.out _ HB4.out).mono ?_
  rintro e w' ⟨rfl, rfl⟩
  clear HF0 hW4
  go_wp2_with fail
  refine (HLR.out _ hB5).mono ?_
  rintro e w6 ⟨rfl, hBn⟩
  have hB6 := below_in hB5 hBn
  have hB46 := below_in hB45 hBn
  have b4a := b4.below hBn b4.lt
  have c4 := b4a.one
  have fz4 := b4a.frozen 0
  have q0 := (b0'.out.below hB46 r0).one
  have hB47 := hB46.setCell (p := ⟨g4, 0, none⟩) (Nat.le_of_eq HG4.out) (.int .i64 p)
  have b4b := b4a.set_ 0 (.int .i64 p)
  have e0 := (b0'.out.below hB47 r0).one
  have e1 := (b1'.out.below hB47 r1).one
  have hB7 := below_in HB4.out hB47
  go_wp2_with fail
  refine (HSL.out _ hB7).mono ?_
  rintro e w8 ⟨sv, rfl, ⟨gf, lb, rfl, hen, heq, hsq⟩, hB78⟩
  go_wp2_with fail
  have hB48 := below_in hB47 hB78
  have HSQ := Lib.hid hsq
  clear hsq
  have b4c := b4b.below hB78 b4b.lt
  have b4d : Blk w8 g4 3 #[.int .i64 (L : Int)] := by rw [← HPL.out]; exact b4c
  have hlo := hB78.size
  generalize (w6.setCell ⟨g4, 0, none⟩ (.int .i64 p)).heap.size = lo at *
  have FQ : TurnS w w8 g1 g2 g3 g4 p (.slice A na cap) many L w8 := ⟨b0'.out.below hB48 r0, b1'.out.below hB48 r1, b2'.out.below hB48 r2, b3'.out.below hB48 r3, b4d, below_in HB4.out hB48, Below.refl _ _⟩
  have hgg3 : w.heap.size ≤ g3 := by omega
  clear b0' b1' b2' b3' b4 b4a b4b b4c b4d c0 c1 c4 d0 d1 e0 e1 fz4 HLR HSL HB4 hB4 hB45 hB5 hB6 hB7 hB46 hB47 hB48 hB78 hBn r0 r1 r2 r3 hg1 hg2 hg3 hg4 HG1 HG2 HG3 HG4 HS4 q0
  obtain ⟨V0, hV0⟩ : ∃ V0, w8.alloc (.cells #[.int .i64 0] 3) = V0 := ⟨_, rfl⟩
  rw [hV0]
  have hB70 : Below w8.heap.size w8 V0 := by rw [← hV0]; exact below_one w8 _
  have ct0 : Blk V0 w8.heap.size 3 #[.int .i64 0] := by rw [← hV0]; exact Blk.new _ _ _
  have F0 := FQ.next hB70
  have HL0 := Left.nil w.heap.size V0
  clear hV0 FQ hB70
  refine (wpIn_wide (n := 9)).1 ?_
  refine wpIn_loop_rounds 3 ?_
  rw [roundsIn_succ]
  obtain ⟨f1, f2, f3, f4, f5, f6, f7⟩ := id F0
  have ctt := ct0.one
  have hlt1 := f1.lt
  have hlt2 := f2.lt
  have hlt3 := f3.lt
  have hlt4 := f4.lt
  have hlt5 := f5.lt
  have hltt := ct0.lt
  have hs8 := f7.size
  have hef := heq (V0.alloc (.cells #[.int .i64 0] 3))
  gi_wp2_with fail
  have hn0 : Blk (V0.alloc (.cells #[.int .i64 0] 3)) V0.heap.size 3 #[.int .i64 (([] : List (Nat × Value)).length : Int)] := Blk.new _ _ _
  have hBa := below_one V0 (.cells #[.int .i64 0] 3)
  have h8a := below_in f7 hBa
  clear hef ctt
  obtain ⟨VaA, hVa⟩ : ∃ X, V0.alloc (.cells #[.int .i64 0] 3) = X := ⟨_, rfl⟩
  rw [hVa] at hn0 hBa h8a ⊢
  clear hVa
  have hna := hn0.lt
  clear f1 f2 f3 f4 f5 f6 f7
  refine wpIn_rangeActT (N := L) rfl (by omega) (gf := gf) (lb := lb) rfl trivial hen (HSQ.out 8 (by omega)) (fun h h' => h.trans h') (fun W l ob h1 _ _ => Keep.putFar W (by omega) ob) h8a (fun _ => rfl)
    (fun pre X => (pre.length = 0 ∨ (pre.length : Int) < many) ∧ Blk X V0.heap.size 3 #[.int .i64 (pre.length : Int)] ∧ Below V0.heap.size V0 X)
    (fun c pre X => (c = .exit 2 ∧ 1 ≤ pre.length ∧ (pre.length = 1 ∨ (pre.length : Int) - 1 < many) ∧ many ≤ (pre.length : Int)) ∧ Blk X V0.heap.size 3 #[.int .i64 (pre.length : Int)] ∧ Below V0.heap.size V0 X)
    (farO_turn (fun pre : List (Nat × Value) => (pre.length = 0 ∨ (pre.length : Int) < many)) (fun pre => #[.int .i64 (pre.length : Int)]) 3 hna (Nat.le_refl _) (Nat.le_of_lt hna))
    (fun c => farO_turn (fun pre : List (Nat × Value) => (c = .exit 2 ∧ 1 ≤ pre.length ∧ (pre.length = 1 ∨ (pre.length : Int) - 1 < many) ∧ many ≤ (pre.length : Int))) (fun pre => #[.int .i64 (pre.length : Int)]) 3 hna (Nat.le_refl _) (Nat.le_of_lt hna))
    ⟨.inl rfl, hn0, hBa⟩ ?actA
    (fun pre z X => z.1 = pre.length ∧ BytesP (fun b => b < X.heap.size) X z.2 (slOf p css (pre.length : Int)))
    (fun pre z W l ob r hl h => ⟨h.1, BytesP.imp (bytesP_put h.2 hl ob) fun b hb => by simpa [World.putObj] using hb⟩)
    ?assignA ?bodyA ?doneA ?stopA
  case assignA =>
    intro l' pre z X K hsz hI2 hok hK
    obtain ⟨ok1, ok2, ok3⟩ := hok
    have hK2 := fun (h : z.1 = pre.length ∧ BytesP (fun b => b < X.heap.size) X z.2 (slOf p css (pre.length : Int))) => hK X (Below.refl _ _) (Keep.refl _ _ _) hI2 h
    replace hK2 := hK2 ⟨ok1, by rw [← ok1]; exact BytesP.imp ok3 fun b hb => hb.2⟩
    clear hK ok1 ok2 ok3 hI2
    unfold encS
    gi_wp2
    exact hK2
  case bodyA =>
    rintro l' pre ⟨k, zu⟩ X hsz ⟨hcnd, hn, hB⟩ ⟨hk, hz⟩ hlen
    have hk2 : k = pre.length := hk
    subst hk2
    have hz2 : BytesP (fun b => b < X.heap.size) X zu (slOf p css (pre.length : Int)) := hz
    clear hk hz
    have hXY : Below X.heap.size X X.drew := (Below.refl _ _).drew
    obtain ⟨Y, hY⟩ : ∃ Y, X.drew = Y := ⟨_, rfl⟩
    rw [hY] at hXY
    have HY := Lib.hid hY
    clear hY
    replace hn := hn.below hXY hn.lt
    replace hB := below_in hB hXY
    have hszX := hsz
    replace hsz := Nat.le_trans hsz hXY.size
    obtain ⟨f1, f2, f3, f4, f5, f6, f7⟩ := F0.next hB
    have ctx := ct0.below hB ct0.lt
    have hbz : Bytes Y.heap.size Y zu (slOf p css (pre.length : Int)) := BytesP.imp (BytesP.below hz2 (N := X.heap.size) (fun b hb => hb) hXY) fun b hb => Nat.lt_of_lt_of_le hb hXY.size
    have hbsz := hB.size
    have HRK := Lib.hid (fun (U : World) (hU : Below Y.heap.size Y U) => HRS.out U (below_in f6 hU) pre.length hlen)
    generalize slOf p css (pre.length : Int) = sk at *
    have HSR := Lib.hid (fun (U : World) (hU : Below Y.heap.size Y U) => (⟨(hn.below hU hn.lt).one, (f5.below hU f5.lt).one, (f1.below hU f1.lt).one, (f2.below hU f2.lt).one, run_txt U (hbz.below hU)⟩ : (fun U : World => U.cell? ⟨V0.heap.size, 0, none⟩ = some (.int .i64 (pre.length : Int)) ∧ U.cell? ⟨g4, 0, none⟩ = some (.int .i64 (L : Int)) ∧ U.cell? ⟨w.heap.size, 0, none⟩ = some (.int .i64 p) ∧ U.cell? ⟨g1, 0, none⟩ = some (.slice A na cap) ∧ (convert 28 9 (zu)).run Tryz.prog U = .ok (.string (text sk)) U) U))
    have HLT := Lib.hid (fun (U : World) (hU : Below Y.heap.size Y U) => (⟨hn.below hU hn.lt, ctx.below hU ctx.lt, f3.below hU f3.lt, below_in hXY hU, below_in hB hU⟩ : Blk U V0.heap.size 3 #[.int .i64 (pre.length : Int)] ∧ Blk U w8.heap.size 3 #[.int .i64 0] ∧ Blk U g2 3 #[.int .i64 many] ∧ Below X.heap.size X U ∧ Below V0.heap.size V0 U))
    have dg : decide ((L : Int) ≤ (pre.length : Int)) = false := decide_eq_false (by omega)
    have dn : ((pre.length : Int) != (pre.length : Int)) = false := by simp
    clear f1 f2 f3 f4 f5 f6 f7 hn hB hbz hz2 hXY ctx
    try dsimp only
    gi_wp2
    have hB9 : Below Y.heap.size Y Y := Below.refl _ _
    have hS : (fun U : World => U.cell? ⟨V0.heap.size, 0, none⟩ = some (.int .i64 (pre.length : Int)) ∧ U.cell? ⟨g4, 0, none⟩ = some (.int .i64 (L : Int)) ∧ U.cell? ⟨w.heap.size, 0, none⟩ = some (.int .i64 p) ∧ U.cell? ⟨g1, 0, none⟩ = some (.slice A na cap) ∧ (convert 28 9 (zu)).run Tryz.prog U = .ok (.string (text sk)) U) Y := HSR.out _ hB9
    refine region_HF (S := (fun U : World => U.cell? ⟨V0.heap.size, 0, none⟩ = some (.int .i64 (pre.length : Int)) ∧ U.cell? ⟨g4, 0, none⟩ = some (.int .i64 (L : Int)) ∧ U.cell? ⟨w.heap.size, 0, none⟩ = some (.int .i64 p) ∧ U.cell? ⟨g1, 0, none⟩ = some (.slice A na cap) ∧ (convert 28 9 (zu)).run Tryz.prog U = .ok (.string (text sk)) U)) (by kernel_rfl) ?_
    rw [HY.out]
    refine anyHF_take (i := 0) (d := 33) (v := .int .i64 (pre.length : Int)) (by kernel_rfl) rfl (by kernel_rfl) (by kernel_rfl) (by kernel_rfl) rfl (fun _ _ _ h => h) ⟨Or.inl ⟨by rfl, fun w hS => by obtain ⟨h0, h1, h2, h3, h4⟩ := hS; go_simp⟩, fun _ => rfl⟩ hS ?_
    simp only [upd]
    refine anyHF_take (i := 1) (d := 34) (v := .int .i64 (L : Int)) (by kernel_rfl) rfl (by kernel_rfl) (by kernel_rfl) (by kernel_rfl) rfl (fun _ _ _ h => h) ⟨Or.inl ⟨by rfl, fun w hS => by obtain ⟨h0, h1, h2, h3, h4⟩ := hS; go_simp⟩, fun _ => rfl⟩ hS ?_
    simp only [upd]
    refine anyHF_take (i := 2) (d := 35) (v := .bool false) (by kernel_rfl) rfl (by kernel_rfl) (by kernel_rfl) (by kernel_rfl) rfl (fun _ _ _ h => h) ⟨Or.inl ⟨by rfl, fun w hS => by obtain ⟨h0, h1, h2, h3, h4⟩ := hS; go_simp⟩, fun _ => rfl⟩ hS ?_
    simp only [upd]
    refine anyHF_take (i := 3) (d := 36) (v := .bool false) (by kernel_rfl) rfl (by kernel_rfl) (by kernel_rfl) (by kernel_rfl) rfl (fun _ _ _ h => h) ⟨Or.inl ⟨by rfl, fun w hS => by obtain ⟨h0, h1, h2, h3, h4⟩ := hS; go_simp⟩, fun _ => rfl⟩ hS ?_
    simp only [upd]
    refine anyHF_take (i := 4) (d := 37) (v := .int .i64 (pre.length : Int)) (by kernel_rfl) rfl (by kernel_rfl) (by kernel_rfl) (by kernel_rfl) rfl (fun _ _ _ h => h) ⟨Or.inl ⟨by rfl, fun w hS => by obtain ⟨h0, h1, h2, h3, h4⟩ := hS; go_simp⟩, fun _ => rfl⟩ hS ?_
    simp only [upd]
    refine anyHF_take (i := 5) (d := 38) (v := .int .i64 (pre.length : Int)) (by kernel_rfl) rfl (by kernel_rfl) (by kernel_rfl) (by kernel_rfl) rfl (fun _ _ _ h => h) ⟨Or.inl ⟨by rfl, fun w hS => by obtain ⟨h0, h1, h2, h3, h4⟩ := hS; go_simp⟩, fun _ => rfl⟩ hS ?_
    simp only [upd]
    refine anyHF_take (i := 6) (d := 39) (v := .bool false) (by kernel_rfl) rfl (by kernel_rfl) (by kernel_rfl) (by kernel_rfl) rfl (fun _ _ _ h => h) ⟨Or.inl ⟨by rfl, fun w hS => by obtain ⟨h0, h1, h2, h3, h4⟩ := hS; go_simp⟩, fun _ => rfl⟩ hS ?_
    simp only [upd]
    refine anyHF_take (i := 7) (d := 40) (v := .bool false) (by kernel_rfl) rfl (by kernel_rfl) (by kernel_rfl) (by kernel_rfl) rfl (fun _ _ _ h => h) ⟨Or.inl ⟨by rfl, fun w hS => by obtain ⟨h0, h1, h2, h3, h4⟩ := hS; go_simp⟩, fun _ => rfl⟩ hS ?_
    simp only [upd]
    refine anyHF_take (i := 8) (d := 41) (v := .bool false) (by kernel_rfl) rfl (by kernel_rfl) (by kernel_rfl) (by kernel_rfl) rfl (fun _ _ _ h => h) ⟨Or.inl ⟨by rfl, fun w hS => by obtain ⟨h0, h1, h2, h3, h4⟩ := hS; go_simp⟩, fun _ => rfl⟩ hS ?_
    simp only [upd]
    refine anyHF_take (i := 9) (d := 42) (v := zu) (by kernel_rfl) rfl (by kernel_rfl) (by kernel_rfl) (by kernel_rfl) rfl (fun _ _ _ h => h) ⟨Or.inl ⟨by rfl, fun w hS => by obtain ⟨h0, h1, h2, h3, h4⟩ := hS; go_simp⟩, fun _ => rfl⟩ hS ?_
    simp only [upd]
    refine anyHF_take (i := 10) (d := 43) (v := .string (text sk)) (by kernel_rfl) rfl (by kernel_rfl) (by kernel_rfl) (by kernel_rfl) rfl (fun _ _ _ h => h) ⟨Or.inl ⟨by rfl, fun w hS => by obtain ⟨h0, h1, h2, h3, h4⟩ := hS; go_simp⟩, fun _ => rfl⟩ hS ?_
    simp only [upd]
    refine anyHF_take (i := 11) (d := 44) (v := .int .i64 p) (by kernel_rfl) rfl (by kernel_rfl) (by kernel_rfl) (by kernel_rfl) rfl (fun _ _ _ h => h) ⟨Or.inl ⟨by rfl, fun w hS => by obtain ⟨h0, h1, h2, h3, h4⟩ := hS; go_simp⟩, fun _ => rfl⟩ hS ?_
    simp only [upd]
    refine anyHF_take (i := 12) (d := 45) (v := .slice A na cap) (by kernel_rfl) rfl (by kernel_rfl) (by kernel_rfl) (by kernel_rfl) rfl (fun _ _ _ h => h) ⟨Or.inl ⟨by rfl, fun w hS => by obtain ⟨h0, h1, h2, h3, h4⟩ := hS; go_simp⟩, fun _ => rfl⟩ hS ?_
    simp only [upd]
    refine anyHF_take (i := 13) (d := 46) (v := .int .i64 (pre.length : Int)) (by kernel_rfl) rfl (by kernel_rfl) (by kernel_rfl) (by kernel_rfl) rfl (fun _ _ _ h => h) ⟨Or.inl ⟨by rfl, fun w hS => by obtain ⟨h0, h1, h2, h3, h4⟩ := hS; go_simp⟩, fun _ => rfl⟩ hS ?_
    simp only [upd]
    refine anyHF_one (i := 14) (by kernel_rfl) rfl (by kernel_rfl) (by rfl) ?_
    gi_wp2_with fail
    refine ⟨trivial, (CallsIn.inRound l' (callsIn_wide.2 (HRK.out _ hB9))).mono ?_⟩
    rintro e w9 ⟨ul, rfl, hul, hBn⟩
    replace hB9 := below_in hB9 hBn
    have t2 := run_txt w9 hul
    clear hS
    have hS : (fun U : World => U.cell? ⟨V0.heap.size, 0, none⟩ = some (.int .i64 (pre.length : Int)) ∧ U.cell? ⟨g4, 0, none⟩ = some (.int .i64 (L : Int)) ∧ U.cell? ⟨w.heap.size, 0, none⟩ = some (.int .i64 p) ∧ U.cell? ⟨g1, 0, none⟩ = some (.slice A na cap) ∧ (convert 28 9 (zu)).run Tryz.prog U = .ok (.string (text sk)) U) w9 := HSR.out _ hB9
    gi_wp2
    try (refine ⟨hS, ?_⟩)
    refine anyHF_one (i := 15) (by kernel_rfl) rfl (by kernel_rfl) (by rfl) ?_
    gi_wp2
    try (refine ⟨hS, ?_⟩)
    refine anyHF_take (i := 16) (d := 49) (v := .bool false) (by kernel_rfl) rfl (by kernel_rfl) (by kernel_rfl) (by kernel_rfl) rfl (fun _ _ _ h => h) ⟨Or.inl ⟨by rfl, fun w hS => by obtain ⟨h0, h1, h2, h3, h4⟩ := hS; go_simp⟩, fun _ => rfl⟩ hS ?_
    simp only [upd]
    refine anyHF_take (i := 17) (d := 50) (v := .bool false) (by kernel_rfl) rfl (by kernel_rfl) (by kernel_rfl) (by kernel_rfl) rfl (fun _ _ _ h => h) ⟨Or.inl ⟨by rfl, fun w hS => by obtain ⟨h0, h1, h2, h3, h4⟩ := hS; go_simp⟩, fun _ => rfl⟩ hS ?_
    simp only [upd]
    refine anyHF_done (by kernel_rfl) ?_ _
    clear hS
    obtain ⟨hn, ctx, cm, hX9, hV9⟩ := HLT.out _ hB9
    have cn := hn.one
    have fn := hn.frozen 0
    have ctt := ctx.one
    have cmm := cm.one
    have hs9 := hX9.size
    have hl1 : Hid (((pre ++ [(pre.length, zu)]).length : Int) = (pre.length : Int) + 1) := by unfold Hid; rw [List.length_append]; rfl
    have hks : Keep lo (w8.heap.size - lo) X (w9.setCell ⟨V0.heap.size, 0, none⟩ (.int .i64 ((pre.length : Int) + 1))) := (Keep.below hX9 (by omega)).trans (Keep.setFar w9 (by show lo + (w8.heap.size - lo) ≤ V0.heap.size; omega) _)
    have hss : Go.Proofs.YtcgnhfiadeceiaaGreatDoor.T.SinceO VaA.heap.size (fun _ => False) X (w9.setCell ⟨V0.heap.size, 0, none⟩ (.int .i64 ((pre.length : Int) + 1)))   := (Go.Proofs.YtcgnhfiadeceiaaGreatDoor.T.SinceO.below hX9).trans_ ⟨by simp, fun b h1 h2 h3 => Below.heap_setCell w9 _ (.int .i64 ((pre.length : Int) + 1)) b (by simp; omega)⟩
    have hT : Hid (Blk (w9.setCell ⟨V0.heap.size, 0, none⟩ (.int .i64 ((pre.length : Int) + 1))) V0.heap.size 3 #[.int .i64 ((pre ++ [(pre.length, zu)]).length : Int)] ∧ Below V0.heap.size V0 (w9.setCell ⟨V0.heap.size, 0, none⟩ (.int .i64 ((pre.length : Int) + 1)))) := by
      unfold Hid
      rw [hl1.out]
      exact ⟨hn.set_ 0 _, hV9.setCell (Nat.le_refl _) _⟩
    clear hn ctx cm hX9 hV9 hB9 hul t2 hBn
    by_cases hm : many ≤ (pre.length : Int) + 1
    · have dm : decide (many ≤ (pre.length : Int) + 1) = true := decide_eq_true hm
      gi_wp2
      refine ⟨fun _ => False, Go.Proofs.YtcgnhfiadeceiaaGreatDoor.T.FreshO.refl _ _, hss, hks, rfl, ⟨rfl, by rw [List.length_append]; simp, ?_, ?_⟩, hT.out⟩
      · rcases hcnd with h | h
        · left; rw [List.length_append, h]; rfl
        · right; rw [hl1.out]; omega
      · rw [hl1.out]; exact hm
    · have dm : decide (many ≤ (pre.length : Int) + 1) = false := decide_eq_false hm
      gi_wp2
      exact ⟨fun _ => False, Go.Proofs.YtcgnhfiadeceiaaGreatDoor.T.FreshO.refl _ _, hss, hks, rfl, .inr (by rw [hl1.out]; omega), hT.out⟩
  case doneA =>
    rintro DA xs X hD hxs ⟨hcnd, hn, hB⟩ hK
    have hxl : xs.length = L := hxs
    rw [hxl] at hn hcnd
    clear hxs hxl
    obtain ⟨f1, f2, f3, f4, f5, f6, f7⟩ := F0.next hB
    have cn := hn.one
    have clx := f5.one
    have ctx := (ct0.below hB ct0.lt).one
    have cmx := f3.one
    have lt0 := hB.size
    have hmin : ((L : Int) != min (L : Int) (max 1 many)) = false := by rw [bne_eq_false_iff_eq]; rcases hcnd with h | h <;> omega
    have fV := F0.2.2.2.2.2.1
    have hs0 := fV.size
    gi_wp2
    clear cn clx ctx cmx f1 f2 f3 f4 f5 f6 f7
    obtain ⟨V1B, hVn⟩ : ∃ Y, X.alloc (.cells #[.int .i64 1] 3) = Y := ⟨_, rfl⟩
    rw [hVn]
    have hBn : Below V0.heap.size V0 V1B := by rw [← hVn]; exact hB.alloc hB.size _
    have ct1 : Blk V1B X.heap.size 3 #[.int .i64 1] := by rw [← hVn]; exact Blk.new _ _ _
    have hDn : V1B.heap[DA]? = some (.deferred (some [])) := by rw [← hVn]; exact (Below.heap_alloc X _ DA (Array.getElem?_eq_some_iff.1 hK).1).trans hK
    have HL1 := HL0.more hBn (D := DA) (by omega) (by omega) hDn
    have F1 := F0.next hBn
    clear hVn hBn hDn hK hn hB ct0 F0 HL0 fV lt0 hs0
    clear hmin hcnd
    obtain ⟨tb, htb⟩ : ∃ tb, Hid (X.heap.size = tb) := ⟨_, rfl⟩
    rw [htb.out] at ct1 ⊢
    clear htb
    rw [roundsIn_succ]
    obtain ⟨f1, f2, f3, f4, f5, f6, f7⟩ := id F1
    have ctt := ct1.one
    have hlt1 := f1.lt
    have hlt2 := f2.lt
    have hlt3 := f3.lt
    have hlt4 := f4.lt
    have hlt5 := f5.lt
    have hltt := ct1.lt
    have hs8 := f7.size
    have hef := heq (V1B.alloc (.cells #[.int .i64 0] 3))
    gi_wp2_with fail
    have hn0 : Blk (V1B.alloc (.cells #[.int .i64 0] 3)) V1B.heap.size 3 #[.int .i64 (([] : List (Nat × Value)).length : Int)] := Blk.new _ _ _
    have hBa := below_one V1B (.cells #[.int .i64 0] 3)
    have h8a := below_in f7 hBa
    clear hef ctt
    obtain ⟨VaB, hVa⟩ : ∃ X, V1B.alloc (.cells #[.int .i64 0] 3) = X := ⟨_, rfl⟩
    rw [hVa] at hn0 hBa h8a ⊢
    clear hVa
    have hna := hn0.lt
    clear f1 f2 f3 f4 f5 f6 f7
    refine wpIn_rangeActT (N := L) rfl (by omega) (gf := gf) (lb := lb) rfl trivial hen (HSQ.out 8 (by omega)) (fun h h' => h.trans h') (fun W l ob h1 _ _ => Keep.putFar W (by omega) ob) h8a (fun _ => rfl)
      (fun pre X => True ∧ Blk X V1B.heap.size 3 #[.int .i64 (pre.length : Int)] ∧ Below V1B.heap.size V1B X)
      (fun c pre X => False ∧ Blk X V1B.heap.size 3 #[.int .i64 (pre.length : Int)] ∧ Below V1B.heap.size V1B X)
      (farO_turn (fun pre : List (Nat × Value) => True) (fun pre => #[.int .i64 (pre.length : Int)]) 3 hna (Nat.le_refl _) (Nat.le_of_lt hna))
      (fun c => farO_turn (fun pre : List (Nat × Value) => False) (fun pre => #[.int .i64 (pre.length : Int)]) 3 hna (Nat.le_refl _) (Nat.le_of_lt hna))
      ⟨trivial, hn0, hBa⟩ ?actB
      (fun pre z X => z.1 = pre.length ∧ BytesP (fun b => b < X.heap.size) X z.2 (slOf p css (pre.length : Int)))
      (fun pre z W l ob r hl h => ⟨h.1, BytesP.imp (bytesP_put h.2 hl ob) fun b hb => by simpa [World.putObj] using hb⟩)
      ?assignB ?bodyB ?doneB ?stopB
    case assignB =>
      intro l' pre z X K hsz hI2 hok hK
      obtain ⟨ok1, ok2, ok3⟩ := hok
      have hK2 := fun (h : z.1 = pre.length ∧ BytesP (fun b => b < X.heap.size) X z.2 (slOf p css (pre.length : Int))) => hK X (Below.refl _ _) (Keep.refl _ _ _) hI2 h
      replace hK2 := hK2 ⟨ok1, by rw [← ok1]; exact BytesP.imp ok3 fun b hb => hb.2⟩
      clear hK ok1 ok2 ok3 hI2
      unfold encS
      gi_wp2
      exact hK2
    case bodyB =>
      rintro l' pre ⟨k, zu⟩ X hsz ⟨hcnd, hn, hB⟩ ⟨hk, hz⟩ hlen
      have hk2 : k = pre.length := hk
      subst hk2
      have hz2 : BytesP (fun b => b < X.heap.size) X zu (slOf p css (pre.length : Int)) := hz
      clear hk hz
      have hXY : Below X.heap.size X X.drew := (Below.refl _ _).drew
      obtain ⟨Y, hY⟩ : ∃ Y, X.drew = Y := ⟨_, rfl⟩
      rw [hY] at hXY
      have HY := Lib.hid hY
      clear hY
      replace hn := hn.below hXY hn.lt
      replace hB := below_in hB hXY
      have hszX := hsz
      replace hsz := Nat.le_trans hsz hXY.size
      obtain ⟨f1, f2, f3, f4, f5, f6, f7⟩ := F1.next hB
      have ctx := ct1.below hB ct1.lt
      have hbz : Bytes Y.heap.size Y zu (slOf p css (pre.length : Int)) := BytesP.imp (BytesP.below hz2 (N := X.heap.size) (fun b hb => hb) hXY) fun b hb => Nat.lt_of_lt_of_le hb hXY.size
      have hbsz := hB.size
      have HRK := Lib.hid (fun (U : World) (hU : Below Y.heap.size Y U) => HRS.out U (below_in f6 hU) pre.length hlen)
      generalize slOf p css (pre.length : Int) = sk at *
      have HSR := Lib.hid (fun (U : World) (hU : Below Y.heap.size Y U) => (⟨(hn.below hU hn.lt).one, (f5.below hU f5.lt).one, (f1.below hU f1.lt).one, (f2.below hU f2.lt).one, run_txt U (hbz.below hU)⟩ : (fun U : World => U.cell? ⟨V1B.heap.size, 0, none⟩ = some (.int .i64 (pre.length : Int)) ∧ U.cell? ⟨g4, 0, none⟩ = some (.int .i64 (L : Int)) ∧ U.cell? ⟨w.heap.size, 0, none⟩ = some (.int .i64 p) ∧ U.cell? ⟨g1, 0, none⟩ = some (.slice A na cap) ∧ (convert 28 9 (zu)).run Tryz.prog U = .ok (.string (text sk)) U) U))
      have HLT := Lib.hid (fun (U : World) (hU : Below Y.heap.size Y U) => (⟨hn.below hU hn.lt, ctx.below hU ctx.lt, f3.below hU f3.lt, below_in hXY hU, below_in hB hU⟩ : Blk U V1B.heap.size 3 #[.int .i64 (pre.length : Int)] ∧ Blk U tb 3 #[.int .i64 1] ∧ Blk U g2 3 #[.int .i64 many] ∧ Below X.heap.size X U ∧ Below V1B.heap.size V1B U))
      have dg : decide ((L : Int) ≤ (pre.length : Int)) = false := decide_eq_false (by omega)
      have dn : ((pre.length : Int) != (pre.length : Int)) = false := by simp
      clear f1 f2 f3 f4 f5 f6 f7 hn hB hbz hz2 hXY ctx
      try dsimp only
      gi_wp2
      have hB9 : Below Y.heap.size Y Y := Below.refl _ _
      have hS : (fun U : World => U.cell? ⟨V1B.heap.size, 0, none⟩ = some (.int .i64 (pre.length : Int)) ∧ U.cell? ⟨g4, 0, none⟩ = some (.int .i64 (L : Int)) ∧ U.cell? ⟨w.heap.size, 0, none⟩ = some (.int .i64 p) ∧ U.cell? ⟨g1, 0, none⟩ = some (.slice A na cap) ∧ (convert 28 9 (zu)).run Tryz.prog U = .ok (.string (text sk)) U) Y := HSR.out _ hB9
      refine region_HF (S := (fun U : World => U.cell? ⟨V1B.heap.size, 0, none⟩ = some (.int .i64 (pre.length : Int)) ∧ U.cell? ⟨g4, 0, none⟩ = some (.int .i64 (L : Int)) ∧ U.cell? ⟨w.heap.size, 0, none⟩ = some (.int .i64 p) ∧ U.cell? ⟨g1, 0, none⟩ = some (.slice A na cap) ∧ (convert 28 9 (zu)).run Tryz.prog U = .ok (.string (text sk)) U)) (by kernel_rfl) ?_
      rw [HY.out]
      refine anyHF_take (i := 0) (d := 33) (v := .int .i64 (pre.length : Int)) (by kernel_rfl) rfl (by kernel_rfl) (by kernel_rfl) (by kernel_rfl) rfl (fun _ _ _ h => h) ⟨Or.inl ⟨by rfl, fun w hS => by obtain ⟨h0, h1, h2, h3, h4⟩ := hS; go_simp⟩, fun _ => rfl⟩ hS ?_
      simp only [upd]
      refine anyHF_take (i := 1) (d := 34) (v := .int .i64 (L : Int)) (by kernel_rfl) rfl (by kernel_rfl) (by kernel_rfl) (by kernel_rfl) rfl (fun _ _ _ h => h) ⟨Or.inl ⟨by rfl, fun w hS => by obtain ⟨h0, h1, h2, h3, h4⟩ := hS; go_simp⟩, fun _ => rfl⟩ hS ?_
      simp only [upd]
      refine anyHF_take (i := 2) (d := 35) (v := .bool false) (by kernel_rfl) rfl (by kernel_rfl) (by kernel_rfl) (by kernel_rfl) rfl (fun _ _ _ h => h) ⟨Or.inl ⟨by rfl, fun w hS => by obtain ⟨h0, h1, h2, h3, h4⟩ := hS; go_simp⟩, fun _ => rfl⟩ hS ?_
      simp only [upd]
      refine anyHF_take (i := 3) (d := 36) (v := .bool false) (by kernel_rfl) rfl (by kernel_rfl) (by kernel_rfl) (by kernel_rfl) rfl (fun _ _ _ h => h) ⟨Or.inl ⟨by rfl, fun w hS => by obtain ⟨h0, h1, h2, h3, h4⟩ := hS; go_simp⟩, fun _ => rfl⟩ hS ?_
      simp only [upd]
      refine anyHF_take (i := 4) (d := 37) (v := .int .i64 (pre.length : Int)) (by kernel_rfl) rfl (by kernel_rfl) (by kernel_rfl) (by kernel_rfl) rfl (fun _ _ _ h => h) ⟨Or.inl ⟨by rfl, fun w hS => by obtain ⟨h0, h1, h2, h3, h4⟩ := hS; go_simp⟩, fun _ => rfl⟩ hS ?_
      simp only [upd]
      refine anyHF_take (i := 5) (d := 38) (v := .int .i64 (pre.length : Int)) (by kernel_rfl) rfl (by kernel_rfl) (by kernel_rfl) (by kernel_rfl) rfl (fun _ _ _ h => h) ⟨Or.inl ⟨by rfl, fun w hS => by obtain ⟨h0, h1, h2, h3, h4⟩ := hS; go_simp⟩, fun _ => rfl⟩ hS ?_
      simp only [upd]
      refine anyHF_take (i := 6) (d := 39) (v := .bool false) (by kernel_rfl) rfl (by kernel_rfl) (by kernel_rfl) (by kernel_rfl) rfl (fun _ _ _ h => h) ⟨Or.inl ⟨by rfl, fun w hS => by obtain ⟨h0, h1, h2, h3, h4⟩ := hS; go_simp⟩, fun _ => rfl⟩ hS ?_
      simp only [upd]
      refine anyHF_take (i := 7) (d := 40) (v := .bool false) (by kernel_rfl) rfl (by kernel_rfl) (by kernel_rfl) (by kernel_rfl) rfl (fun _ _ _ h => h) ⟨Or.inl ⟨by rfl, fun w hS => by obtain ⟨h0, h1, h2, h3, h4⟩ := hS; go_simp⟩, fun _ => rfl⟩ hS ?_
      simp only [upd]
      refine anyHF_take (i := 8) (d := 41) (v := .bool false) (by kernel_rfl) rfl (by kernel_rfl) (by kernel_rfl) (by kernel_rfl) rfl (fun _ _ _ h => h) ⟨Or.inl ⟨by rfl, fun w hS => by obtain ⟨h0, h1, h2, h3, h4⟩ := hS; go_simp⟩, fun _ => rfl⟩ hS ?_
      simp only [upd]
      refine anyHF_take (i := 9) (d := 42) (v := zu) (by kernel_rfl) rfl (by kernel_rfl) (by kernel_rfl) (by kernel_rfl) rfl (fun _ _ _ h => h) ⟨Or.inl ⟨by rfl, fun w hS => by obtain ⟨h0, h1, h2, h3, h4⟩ := hS; go_simp⟩, fun _ => rfl⟩ hS ?_
      simp only [upd]
      refine anyHF_take (i := 10) (d := 43) (v := .string (text sk)) (by kernel_rfl) rfl (by kernel_rfl) (by kernel_rfl) (by kernel_rfl) rfl (fun _ _ _ h => h) ⟨Or.inl ⟨by rfl, fun w hS => by obtain ⟨h0, h1, h2, h3, h4⟩ := hS; go_simp⟩, fun _ => rfl⟩ hS ?_
      simp only [upd]
      refine anyHF_take (i := 11) (d := 44) (v := .int .i64 p) (by kernel_rfl) rfl (by kernel_rfl) (by kernel_rfl) (by kernel_rfl) rfl (fun _ _ _ h => h) ⟨Or.inl ⟨by rfl, fun w hS => by obtain ⟨h0, h1, h2, h3, h4⟩ := hS; go_simp⟩, fun _ => rfl⟩ hS ?_
      simp only [upd]
      refine anyHF_take (i := 12) (d := 45) (v := .slice A na cap) (by kernel_rfl) rfl (by kernel_rfl) (by kernel_rfl) (by kernel_rfl) rfl (fun _ _ _ h => h) ⟨Or.inl ⟨by rfl, fun w hS => by obtain ⟨h0, h1, h2, h3, h4⟩ := hS; go_simp⟩, fun _ => rfl⟩ hS ?_
      simp only [upd]
      refine anyHF_take (i := 13) (d := 46) (v := .int .i64 (pre.length : Int)) (by kernel_rfl) rfl (by kernel_rfl) (by kernel_rfl) (by kernel_rfl) rfl (fun _ _ _ h => h) ⟨Or.inl ⟨by rfl, fun w hS => by obtain ⟨h0, h1, h2, h3, h4⟩ := hS; go_simp⟩, fun _ => rfl⟩ hS ?_
      simp only [upd]
      refine anyHF_one (i := 14) (by kernel_rfl) rfl (by kernel_rfl) (by rfl) ?_
      gi_wp2_with fail
      refine ⟨trivial, (CallsIn.inRound l' (callsIn_wide.2 (HRK.out _ hB9))).mono ?_⟩
      rintro e w9 ⟨ul, rfl, hul, hBn⟩
      replace hB9 := below_in hB9 hBn
      have t2 := run_txt w9 hul
      clear hS
      have hS : (fun U : World => U.cell? ⟨V1B.heap.size, 0, none⟩ = some (.int .i64 (pre.length : Int)) ∧ U.cell? ⟨g4, 0, none⟩ = some (.int .i64 (L : Int)) ∧ U.cell? ⟨w.heap.size, 0, none⟩ = some (.int .i64 p) ∧ U.cell? ⟨g1, 0, none⟩ = some (.slice A na cap) ∧ (convert 28 9 (zu)).run Tryz.prog U = .ok (.string (text sk)) U) w9 := HSR.out _ hB9
      gi_wp2
      try (refine ⟨hS, ?_⟩)
      refine anyHF_one (i := 15) (by kernel_rfl) rfl (by kernel_rfl) (by rfl) ?_
      gi_wp2
      try (refine ⟨hS, ?_⟩)
      refine anyHF_take (i := 16) (d := 49) (v := .bool false) (by kernel_rfl) rfl (by kernel_rfl) (by kernel_rfl) (by kernel_rfl) rfl (fun _ _ _ h => h) ⟨Or.inl ⟨by rfl, fun w hS => by obtain ⟨h0, h1, h2, h3, h4⟩ := hS; go_simp⟩, fun _ => rfl⟩ hS ?_
      simp only [upd]
      refine anyHF_take (i := 17) (d := 50) (v := .bool false) (by kernel_rfl) rfl (by kernel_rfl) (by kernel_rfl) (by kernel_rfl) rfl (fun _ _ _ h => h) ⟨Or.inl ⟨by rfl, fun w hS => by obtain ⟨h0, h1, h2, h3, h4⟩ := hS; go_simp⟩, fun _ => rfl⟩ hS ?_
      simp only [upd]
      refine anyHF_done (by kernel_rfl) ?_ _
      clear hS
      obtain ⟨hn, ctx, cm, hX9, hV9⟩ := HLT.out _ hB9
      have cn := hn.one
      have fn := hn.frozen 0
      have ctt := ctx.one
      have cmm := cm.one
      have hs9 := hX9.size
      have hl1 : Hid (((pre ++ [(pre.length, zu)]).length : Int) = (pre.length : Int) + 1) := by unfold Hid; rw [List.length_append]; rfl
      have hks : Keep lo (w8.heap.size - lo) X (w9.setCell ⟨V1B.heap.size, 0, none⟩ (.int .i64 ((pre.length : Int) + 1))) := (Keep.below hX9 (by omega)).trans (Keep.setFar w9 (by show lo + (w8.heap.size - lo) ≤ V1B.heap.size; omega) _)
      have hss : Go.Proofs.YtcgnhfiadeceiaaGreatDoor.T.SinceO VaB.heap.size (fun _ => False) X (w9.setCell ⟨V1B.heap.size, 0, none⟩ (.int .i64 ((pre.length : Int) + 1)))   := (Go.Proofs.YtcgnhfiadeceiaaGreatDoor.T.SinceO.below hX9).trans_ ⟨by simp, fun b h1 h2 h3 => Below.heap_setCell w9 _ (.int .i64 ((pre.length : Int) + 1)) b (by simp; omega)⟩
      have hT : Hid (Blk (w9.setCell ⟨V1B.heap.size, 0, none⟩ (.int .i64 ((pre.length : Int) + 1))) V1B.heap.size 3 #[.int .i64 ((pre ++ [(pre.length, zu)]).length : Int)] ∧ Below V1B.heap.size V1B (w9.setCell ⟨V1B.heap.size, 0, none⟩ (.int .i64 ((pre.length : Int) + 1)))) := by
        unfold Hid
        rw [hl1.out]
        exact ⟨hn.set_ 0 _, hV9.setCell (Nat.le_refl _) _⟩
      clear hn ctx cm hX9 hV9 hB9 hul t2 hBn
      gi_wp2
      exact ⟨fun _ => False, Go.Proofs.YtcgnhfiadeceiaaGreatDoor.T.FreshO.refl _ _, hss, hks, rfl, trivial, hT.out⟩
    case doneB =>
      rintro DB xs X hD hxs ⟨hcnd, hn, hB⟩ hK
      have hxl : xs.length = L := hxs
      rw [hxl] at hn
      clear hxs hxl
      obtain ⟨f1, f2, f3, f4, f5, f6, f7⟩ := F1.next hB
      have cn := hn.one
      have clx := f5.one
      have ctx := (ct1.below hB ct1.lt).one
      have cmx := f3.one
      have lt0 := hB.size
      have hne1 : ((L : Int) != (L : Int)) = false := by simp
      have fV := F1.2.2.2.2.2.1
      have hs0 := fV.size
      gi_wp2
      clear cn clx ctx cmx f1 f2 f3 f4 f5 f6 f7
      obtain ⟨V2B, hVn⟩ : ∃ Y, X.alloc (.cells #[.int .i64 2] 3) = Y := ⟨_, rfl⟩
      rw [hVn]
      have hBn : Below V1B.heap.size V1B V2B := by rw [← hVn]; exact hB.alloc hB.size _
      have ct2 : Blk V2B X.heap.size 3 #[.int .i64 2] := by rw [← hVn]; exact Blk.new _ _ _
      have hDn : V2B.heap[DB]? = some (.deferred (some [])) := by rw [← hVn]; exact (Below.heap_alloc X _ DB (Array.getElem?_eq_some_iff.1 hK).1).trans hK
      have HL2 := HL1.more hBn (D := DB) (by omega) (by omega) hDn
      have F2 := F1.next hBn
      clear hVn hBn hDn hK hn hB ct1 F1 HL1 fV lt0 hs0
      clear hne1 hcnd
      rw [roundsIn_succ]
      obtain ⟨f1, f2, f3, f4, f5, f6, f7⟩ := id F2
      have ctx := ct2.one
      have hs4 := f4.lt
      gi_wp2_with fail
      go_wp2_with fail
      refine (Go.Proofs.YtcgnhfiadeceiaaGreatDoor.T.works_any _ (HLW.out _ f6)).mono ?_
      rintro e wf ⟨rfl, hBf⟩
      have f4f := f4.below hBf f4.lt
      have crx := f4f.one
      have frx := f4f.frozen 0
      have hb3 := f4f.set_ 0 (.bool true)
      have hLf := (HL2.below hBf).set_ ⟨g3, 0, none⟩ (.bool true)
      have hBz : Below w.heap.size w (wf.setCell ⟨g3, 0, none⟩ (.bool true)) := (below_in f6 hBf).setCell (by show w.heap.size ≤ g3; omega) _
      go_wp2
      refine leaves_blks w _ _ hLf hBz (fun W' hB' hk => ?_)
      have r0 := (hk _ _ _ hb3).one
      exact ⟨.bool true, by simp [results, Tryz.results5, go_sem, r0], rfl, hB'⟩
    case stopB =>
      rintro D c pre X hD hsp ⟨h, _⟩ hK
      exact h.elim
  case stopA =>
    rintro DA c pre X hD hsp ⟨⟨rfl, hx1, hx2, hx3⟩, hn, hB⟩ hK
    have hple : pre.length ≤ L := hsp.2
    clear hsp
    obtain ⟨f1, f2, f3, f4, f5, f6, f7⟩ := F0.next hB
    have cn := hn.one
    have clx := f5.one
    have ctx := (ct0.below hB ct0.lt).one
    have cmx := f3.one
    have lt0 := hB.size
    have hmin : ((pre.length : Int) != min (L : Int) (max 1 many)) = false := by rw [bne_eq_false_iff_eq]; rcases hx2 with h | h <;> omega
    have fV := F0.2.2.2.2.2.1
    have hs0 := fV.size
    gi_wp2
    clear cn clx ctx cmx f1 f2 f3 f4 f5 f6 f7
    obtain ⟨V1C, hVn⟩ : ∃ Y, X.alloc (.cells #[.int .i64 1] 3) = Y := ⟨_, rfl⟩
    rw [hVn]
    have hBn : Below V0.heap.size V0 V1C := by rw [← hVn]; exact hB.alloc hB.size _
    have ct1 : Blk V1C X.heap.size 3 #[.int .i64 1] := by rw [← hVn]; exact Blk.new _ _ _
    have hDn : V1C.heap[DA]? = some (.deferred (some [])) := by rw [← hVn]; exact (Below.heap_alloc X _ DA (Array.getElem?_eq_some_iff.1 hK).1).trans hK
    have HL1 := HL0.more hBn (D := DA) (by omega) (by omega) hDn
    have F1 := F0.next hBn
    clear hVn hBn hDn hK hn hB ct0 F0 HL0 fV lt0 hs0
    clear hmin hx1 hx2 hx3 hple
    obtain ⟨tb, htb⟩ : ∃ tb, Hid (X.heap.size = tb) := ⟨_, rfl⟩
    rw [htb.out] at ct1 ⊢
    clear htb
    rw [roundsIn_succ]
    obtain ⟨f1, f2, f3, f4, f5, f6, f7⟩ := id F1
    have ctt := ct1.one
    have hlt1 := f1.lt
    have hlt2 := f2.lt
    have hlt3 := f3.lt
    have hlt4 := f4.lt
    have hlt5 := f5.lt
    have hltt := ct1.lt
    have hs8 := f7.size
    have hef := heq (V1C.alloc (.cells #[.int .i64 0] 3))
    gi_wp2_with fail
    have hn0 : Blk (V1C.alloc (.cells #[.int .i64 0] 3)) V1C.heap.size 3 #[.int .i64 (([] : List (Nat × Value)).length : Int)] := Blk.new _ _ _
    have hBa := below_one V1C (.cells #[.int .i64 0] 3)
    have h8a := below_in f7 hBa
    clear hef ctt
    obtain ⟨VaC, hVa⟩ : ∃ X, V1C.alloc (.cells #[.int .i64 0] 3) = X := ⟨_, rfl⟩
    rw [hVa] at hn0 hBa h8a ⊢
    clear hVa
    have hna := hn0.lt
    clear f1 f2 f3 f4 f5 f6 f7
    refine wpIn_rangeActT (N := L) rfl (by omega) (gf := gf) (lb := lb) rfl trivial hen (HSQ.out 8 (by omega)) (fun h h' => h.trans h') (fun W l ob h1 _ _ => Keep.putFar W (by omega) ob) h8a (fun _ => rfl)
      (fun pre X => True ∧ Blk X V1C.heap.size 3 #[.int .i64 (pre.length : Int)] ∧ Below V1C.heap.size V1C X)
      (fun c pre X => False ∧ Blk X V1C.heap.size 3 #[.int .i64 (pre.length : Int)] ∧ Below V1C.heap.size V1C X)
      (farO_turn (fun pre : List (Nat × Value) => True) (fun pre => #[.int .i64 (pre.length : Int)]) 3 hna (Nat.le_refl _) (Nat.le_of_lt hna))
      (fun c => farO_turn (fun pre : List (Nat × Value) => False) (fun pre => #[.int .i64 (pre.length : Int)]) 3 hna (Nat.le_refl _) (Nat.le_of_lt hna))
      ⟨trivial, hn0, hBa⟩ ?actC
      (fun pre z X => z.1 = pre.length ∧ BytesP (fun b => b < X.heap.size) X z.2 (slOf p css (pre.length : Int)))
      (fun pre z W l ob r hl h => ⟨h.1, BytesP.imp (bytesP_put h.2 hl ob) fun b hb => by simpa [World.putObj] using hb⟩)
      ?assignC ?bodyC ?doneC ?stopC
    case assignC =>
      intro l' pre z X K hsz hI2 hok hK
      obtain ⟨ok1, ok2, ok3⟩ := hok
      have hK2 := fun (h : z.1 = pre.length ∧ BytesP (fun b => b < X.heap.size) X z.2 (slOf p css (pre.length : Int))) => hK X (Below.refl _ _) (Keep.refl _ _ _) hI2 h
      replace hK2 := hK2 ⟨ok1, by rw [← ok1]; exact BytesP.imp ok3 fun b hb => hb.2⟩
      clear hK ok1 ok2 ok3 hI2
      unfold encS
      gi_wp2
      exact hK2
    case bodyC =>
      rintro l' pre ⟨k, zu⟩ X hsz ⟨hcnd, hn, hB⟩ ⟨hk, hz⟩ hlen
      have hk2 : k = pre.length := hk
      subst hk2
      have hz2 : BytesP (fun b => b < X.heap.size) X zu (slOf p css (pre.length : Int)) := hz
      clear hk hz
      have hXY : Below X.heap.size X X.drew := (Below.refl _ _).drew
      obtain ⟨Y, hY⟩ : ∃ Y, X.drew = Y := ⟨_, rfl⟩
      rw [hY] at hXY
      have HY := Lib.hid hY
      clear hY
      replace hn := hn.below hXY hn.lt
      replace hB := below_in hB hXY
      have hszX := hsz
      replace hsz := Nat.le_trans hsz hXY.size
      obtain ⟨f1, f2, f3, f4, f5, f6, f7⟩ := F1.next hB
      have ctx := ct1.below hB ct1.lt
      have hbz : Bytes Y.heap.size Y zu (slOf p css (pre.length : Int)) := BytesP.imp (BytesP.below hz2 (N := X.heap.size) (fun b hb => hb) hXY) fun b hb => Nat.lt_of_lt_of_le hb hXY.size
      have hbsz := hB.size
      have HRK := Lib.hid (fun (U : World) (hU : Below Y.heap.size Y U) => HRS.out U (below_in f6 hU) pre.length hlen)
      generalize slOf p css (pre.length : Int) = sk at *
      have HSR := Lib.hid (fun (U : World) (hU : Below Y.heap.size Y U) => (⟨(hn.below hU hn.lt).one, (f5.below hU f5.lt).one, (f1.below hU f1.lt).one, (f2.below hU f2.lt).one, run_txt U (hbz.below hU)⟩ : (fun U : World => U.cell? ⟨V1C.heap.size, 0, none⟩ = some (.int .i64 (pre.length : Int)) ∧ U.cell? ⟨g4, 0, none⟩ = some (.int .i64 (L : Int)) ∧ U.cell? ⟨w.heap.size, 0, none⟩ = some (.int .i64 p) ∧ U.cell? ⟨g1, 0, none⟩ = some (.slice A na cap) ∧ (convert 28 9 (zu)).run Tryz.prog U = .ok (.string (text sk)) U) U))
      have HLT := Lib.hid (fun (U : World) (hU : Below Y.heap.size Y U) => (⟨hn.below hU hn.lt, ctx.below hU ctx.lt, f3.below hU f3.lt, below_in hXY hU, below_in hB hU⟩ : Blk U V1C.heap.size 3 #[.int .i64 (pre.length : Int)] ∧ Blk U tb 3 #[.int .i64 1] ∧ Blk U g2 3 #[.int .i64 many] ∧ Below X.heap.size X U ∧ Below V1C.heap.size V1C U))
      have dg : decide ((L : Int) ≤ (pre.length : Int)) = false := decide_eq_false (by omega)
      have dn : ((pre.length : Int) != (pre.length : Int)) = false := by simp
      clear f1 f2 f3 f4 f5 f6 f7 hn hB hbz hz2 hXY ctx
      try dsimp only
      gi_wp2
      have hB9 : Below Y.heap.size Y Y := Below.refl _ _
      have hS : (fun U : World => U.cell? ⟨V1C.heap.size, 0, none⟩ = some (.int .i64 (pre.length : Int)) ∧ U.cell? ⟨g4, 0, none⟩ = some (.int .i64 (L : Int)) ∧ U.cell? ⟨w.heap.size, 0, none⟩ = some (.int .i64 p) ∧ U.cell? ⟨g1, 0, none⟩ = some (.slice A na cap) ∧ (convert 28 9 (zu)).run Tryz.prog U = .ok (.string (text sk)) U) Y := HSR.out _ hB9
      refine region_HF (S := (fun U : World => U.cell? ⟨V1C.heap.size, 0, none⟩ = some (.int .i64 (pre.length : Int)) ∧ U.cell? ⟨g4, 0, none⟩ = some (.int .i64 (L : Int)) ∧ U.cell? ⟨w.heap.size, 0, none⟩ = some (.int .i64 p) ∧ U.cell? ⟨g1, 0, none⟩ = some (.slice A na cap) ∧ (convert 28 9 (zu)).run Tryz.prog U = .ok (.string (text sk)) U)) (by kernel_rfl) ?_
      rw [HY.out]
      refine anyHF_take (i := 0) (d := 33) (v := .int .i64 (pre.length : Int)) (by kernel_rfl) rfl (by kernel_rfl) (by kernel_rfl) (by kernel_rfl) rfl (fun _ _ _ h => h) ⟨Or.inl ⟨by rfl, fun w hS => by obtain ⟨h0, h1, h2, h3, h4⟩ := hS; go_simp⟩, fun _ => rfl⟩ hS ?_
      simp only [upd]
      refine anyHF_take (i := 1) (d := 34) (v := .int .i64 (L : Int)) (by kernel_rfl) rfl (by kernel_rfl) (by kernel_rfl) (by kernel_rfl) rfl (fun _ _ _ h => h) ⟨Or.inl ⟨by rfl, fun w hS => by obtain ⟨h0, h1, h2, h3, h4⟩ := hS; go_simp⟩, fun _ => rfl⟩ hS ?_
      simp only [upd]
      refine anyHF_take (i := 2) (d := 35) (v := .bool false) (by kernel_rfl) rfl (by kernel_rfl) (by kernel_rfl) (by kernel_rfl) rfl (fun _ _ _ h => h) ⟨Or.inl ⟨by rfl, fun w hS => by obtain ⟨h0, h1, h2, h3, h4⟩ := hS; go_simp⟩, fun _ => rfl⟩ hS ?_
      simp only [upd]
      refine anyHF_take (i := 3) (d := 36) (v := .bool false) (by kernel_rfl) rfl (by kernel_rfl) (by kernel_rfl) (by kernel_rfl) rfl (fun _ _ _ h => h) ⟨Or.inl ⟨by rfl, fun w hS => by obtain ⟨h0, h1, h2, h3, h4⟩ := hS; go_simp⟩, fun _ => rfl⟩ hS ?_
      simp only [upd]
      refine anyHF_take (i := 4) (d := 37) (v := .int .i64 (pre.length : Int)) (by kernel_rfl) rfl (by kernel_rfl) (by kernel_rfl) (by kernel_rfl) rfl (fun _ _ _ h => h) ⟨Or.inl ⟨by rfl, fun w hS => by obtain ⟨h0, h1, h2, h3, h4⟩ := hS; go_simp⟩, fun _ => rfl⟩ hS ?_
      simp only [upd]
      refine anyHF_take (i := 5) (d := 38) (v := .int .i64 (pre.length : Int)) (by kernel_rfl) rfl (by kernel_rfl) (by kernel_rfl) (by kernel_rfl) rfl (fun _ _ _ h => h) ⟨Or.inl ⟨by rfl, fun w hS => by obtain ⟨h0, h1, h2, h3, h4⟩ := hS; go_simp⟩, fun _ => rfl⟩ hS ?_
      simp only [upd]
      refine anyHF_take (i := 6) (d := 39) (v := .bool false) (by kernel_rfl) rfl (by kernel_rfl) (by kernel_rfl) (by kernel_rfl) rfl (fun _ _ _ h => h) ⟨Or.inl ⟨by rfl, fun w hS => by obtain ⟨h0, h1, h2, h3, h4⟩ := hS; go_simp⟩, fun _ => rfl⟩ hS ?_
      simp only [upd]
      refine anyHF_take (i := 7) (d := 40) (v := .bool false) (by kernel_rfl) rfl (by kernel_rfl) (by kernel_rfl) (by kernel_rfl) rfl (fun _ _ _ h => h) ⟨Or.inl ⟨by rfl, fun w hS => by obtain ⟨h0, h1, h2, h3, h4⟩ := hS; go_simp⟩, fun _ => rfl⟩ hS ?_
      simp only [upd]
      refine anyHF_take (i := 8) (d := 41) (v := .bool false) (by kernel_rfl) rfl (by kernel_rfl) (by kernel_rfl) (by kernel_rfl) rfl (fun _ _ _ h => h) ⟨Or.inl ⟨by rfl, fun w hS => by obtain ⟨h0, h1, h2, h3, h4⟩ := hS; go_simp⟩, fun _ => rfl⟩ hS ?_
      simp only [upd]
      refine anyHF_take (i := 9) (d := 42) (v := zu) (by kernel_rfl) rfl (by kernel_rfl) (by kernel_rfl) (by kernel_rfl) rfl (fun _ _ _ h => h) ⟨Or.inl ⟨by rfl, fun w hS => by obtain ⟨h0, h1, h2, h3, h4⟩ := hS; go_simp⟩, fun _ => rfl⟩ hS ?_
      simp only [upd]
      refine anyHF_take (i := 10) (d := 43) (v := .string (text sk)) (by kernel_rfl) rfl (by kernel_rfl) (by kernel_rfl) (by kernel_rfl) rfl (fun _ _ _ h => h) ⟨Or.inl ⟨by rfl, fun w hS => by obtain ⟨h0, h1, h2, h3, h4⟩ := hS; go_simp⟩, fun _ => rfl⟩ hS ?_
      simp only [upd]
      refine anyHF_take (i := 11) (d := 44) (v := .int .i64 p) (by kernel_rfl) rfl (by kernel_rfl) (by kernel_rfl) (by kernel_rfl) rfl (fun _ _ _ h => h) ⟨Or.inl ⟨by rfl, fun w hS => by obtain ⟨h0, h1, h2, h3, h4⟩ := hS; go_simp⟩, fun _ => rfl⟩ hS ?_
      simp only [upd]
      refine anyHF_take (i := 12) (d := 45) (v := .slice A na cap) (by kernel_rfl) rfl (by kernel_rfl) (by kernel_rfl) (by kernel_rfl) rfl (fun _ _ _ h => h) ⟨Or.inl ⟨by rfl, fun w hS => by obtain ⟨h0, h1, h2, h3, h4⟩ := hS; go_simp⟩, fun _ => rfl⟩ hS ?_
      simp only [upd]
      refine anyHF_take (i := 13) (d := 46) (v := .int .i64 (pre.length : Int)) (by kernel_rfl) rfl (by kernel_rfl) (by kernel_rfl) (by kernel_rfl) rfl (fun _ _ _ h => h) ⟨Or.inl ⟨by rfl, fun w hS => by obtain ⟨h0, h1, h2, h3, h4⟩ := hS; go_simp⟩, fun _ => rfl⟩ hS ?_
      simp only [upd]
      refine anyHF_one (i := 14) (by kernel_rfl) rfl (by kernel_rfl) (by rfl) ?_
      gi_wp2_with fail
      refine ⟨trivial, (CallsIn.inRound l' (callsIn_wide.2 (HRK.out _ hB9))).mono ?_⟩
      rintro e w9 ⟨ul, rfl, hul, hBn⟩
      replace hB9 := below_in hB9 hBn
      have t2 := run_txt w9 hul
      clear hS
      have hS : (fun U : World => U.cell? ⟨V1C.heap.size, 0, none⟩ = some (.int .i64 (pre.length : Int)) ∧ U.cell? ⟨g4, 0, none⟩ = some (.int .i64 (L : Int)) ∧ U.cell? ⟨w.heap.size, 0, none⟩ = some (.int .i64 p) ∧ U.cell? ⟨g1, 0, none⟩ = some (.slice A na cap) ∧ (convert 28 9 (zu)).run Tryz.prog U = .ok (.string (text sk)) U) w9 := HSR.out _ hB9
      gi_wp2
      try (refine ⟨hS, ?_⟩)
      refine anyHF_one (i := 15) (by kernel_rfl) rfl (by kernel_rfl) (by rfl) ?_
      gi_wp2
      try (refine ⟨hS, ?_⟩)
      refine anyHF_take (i := 16) (d := 49) (v := .bool false) (by kernel_rfl) rfl (by kernel_rfl) (by kernel_rfl) (by kernel_rfl) rfl (fun _ _ _ h => h) ⟨Or.inl ⟨by rfl, fun w hS => by obtain ⟨h0, h1, h2, h3, h4⟩ := hS; go_simp⟩, fun _ => rfl⟩ hS ?_
      simp only [upd]
      refine anyHF_take (i := 17) (d := 50) (v := .bool false) (by kernel_rfl) rfl (by kernel_rfl) (by kernel_rfl) (by kernel_rfl) rfl (fun _ _ _ h => h) ⟨Or.inl ⟨by rfl, fun w hS => by obtain ⟨h0, h1, h2, h3, h4⟩ := hS; go_simp⟩, fun _ => rfl⟩ hS ?_
      simp only [upd]
      refine anyHF_done (by kernel_rfl) ?_ _
      clear hS
      obtain ⟨hn, ctx, cm, hX9, hV9⟩ := HLT.out _ hB9
      have cn := hn.one
      have fn := hn.frozen 0
      have ctt := ctx.one
      have cmm := cm.one
      have hs9 := hX9.size
      have hl1 : Hid (((pre ++ [(pre.length, zu)]).length : Int) = (pre.length : Int) + 1) := by unfold Hid; rw [List.length_append]; rfl
      have hks : Keep lo (w8.heap.size - lo) X (w9.setCell ⟨V1C.heap.size, 0, none⟩ (.int .i64 ((pre.length : Int) + 1))) := (Keep.below hX9 (by omega)).trans (Keep.setFar w9 (by show lo + (w8.heap.size - lo) ≤ V1C.heap.size; omega) _)
      have hss : Go.Proofs.YtcgnhfiadeceiaaGreatDoor.T.SinceO VaC.heap.size (fun _ => False) X (w9.setCell ⟨V1C.heap.size, 0, none⟩ (.int .i64 ((pre.length : Int) + 1)))   := (Go.Proofs.YtcgnhfiadeceiaaGreatDoor.T.SinceO.below hX9).trans_ ⟨by simp, fun b h1 h2 h3 => Below.heap_setCell w9 _ (.int .i64 ((pre.length : Int) + 1)) b (by simp; omega)⟩
      have hT : Hid (Blk (w9.setCell ⟨V1C.heap.size, 0, none⟩ (.int .i64 ((pre.length : Int) + 1))) V1C.heap.size 3 #[.int .i64 ((pre ++ [(pre.length, zu)]).length : Int)] ∧ Below V1C.heap.size V1C (w9.setCell ⟨V1C.heap.size, 0, none⟩ (.int .i64 ((pre.length : Int) + 1)))) := by
        unfold Hid
        rw [hl1.out]
        exact ⟨hn.set_ 0 _, hV9.setCell (Nat.le_refl _) _⟩
      clear hn ctx cm hX9 hV9 hB9 hul t2 hBn
      gi_wp2
      exact ⟨fun _ => False, Go.Proofs.YtcgnhfiadeceiaaGreatDoor.T.FreshO.refl _ _, hss, hks, rfl, trivial, hT.out⟩
    case doneC =>
      rintro DC xs X hD hxs ⟨hcnd, hn, hB⟩ hK
      have hxl : xs.length = L := hxs
      rw [hxl] at hn
      clear hxs hxl
      obtain ⟨f1, f2, f3, f4, f5, f6, f7⟩ := F1.next hB
      have cn := hn.one
      have clx := f5.one
      have ctx := (ct1.below hB ct1.lt).one
      have cmx := f3.one
      have lt0 := hB.size
      have hne1 : ((L : Int) != (L : Int)) = false := by simp
      have fV := F1.2.2.2.2.2.1
      have hs0 := fV.size
      gi_wp2
      clear cn clx ctx cmx f1 f2 f3 f4 f5 f6 f7
      obtain ⟨V2C, hVn⟩ : ∃ Y, X.alloc (.cells #[.int .i64 2] 3) = Y := ⟨_, rfl⟩
      rw [hVn]
      have hBn : Below V1C.heap.size V1C V2C := by rw [← hVn]; exact hB.alloc hB.size _
      have ct2 : Blk V2C X.heap.size 3 #[.int .i64 2] := by rw [← hVn]; exact Blk.new _ _ _
      have hDn : V2C.heap[DC]? = some (.deferred (some [])) := by rw [← hVn]; exact (Below.heap_alloc X _ DC (Array.getElem?_eq_some_iff.1 hK).1).trans hK
      have HL2 := HL1.more hBn (D := DC) (by omega) (by omega) hDn
      have F2 := F1.next hBn
      clear hVn hBn hDn hK hn hB ct1 F1 HL1 fV lt0 hs0
      clear hne1 hcnd
      rw [roundsIn_succ]
      obtain ⟨f1, f2, f3, f4, f5, f6, f7⟩ := id F2
      have ctx := ct2.one
      have hs4 := f4.lt
      gi_wp2_with fail
      go_wp2_with fail
      refine (Go.Proofs.YtcgnhfiadeceiaaGreatDoor.T.works_any _ (HLW.out _ f6)).mono ?_
      rintro e wf ⟨rfl, hBf⟩
      have f4f := f4.below hBf f4.lt
      have crx := f4f.one
      have frx := f4f.frozen 0
      have hb3 := f4f.set_ 0 (.bool true)
      have hLf := (HL2.below hBf).set_ ⟨g3, 0, none⟩ (.bool true)
      have hBz : Below w.heap.size w (wf.setCell ⟨g3, 0, none⟩ (.bool true)) := (below_in f6 hBf).setCell (by show w.heap.size ≤ g3; omega) _
      go_wp2
      refine leaves_blks w _ _ hLf hBz (fun W' hB' hk => ?_)
      have r0 := (hk _ _ _ hb3).one
      exact ⟨.bool true, by simp [results, Tryz.results5, go_sem, r0], rfl, hB'⟩
    case stopC =>
      rintro D c pre X hD hsp ⟨h, _⟩ hK
      exact h.elim

open Go.Proofs.YtcgnhfiadeceiaaGreatDoor.E Go.Proofs.YtcgnhfiadeceiaaGreatDoor.C Go.Proofs.YtcgnhfiadeceiaaGreatDoor.R Go.Proofs.YtcgnhfiadeceiaaGreatDoor.T in
set_option maxRecDepth 100000 in
set_option maxHeartbeats 4000000 in
theorem no (p : Int) (v : Value) (css : List (List (List UInt8))) (many : Int) (w : World) (hL : Laid w) (wp : -9223372036854775808 ≤ p ∧ p ≤ 9223372036854775807) (hC : Cols w.heap.size w v css) (wm : -9223372036854775808 ≤ many ∧ many ≤ 9223372036854775807) (hf0 : Few6 css) (hok : ¬ DataOk p css) :
    Calls Tryz.prog 5 #[.int .i64 p, v, .int .i64 many] w fun e w' => e = .returned (.bool true) ∧ Below w.heap.size w w' := by
  obtain ⟨A, cap, rfl, _, _⟩ := id hC
  obtain ⟨W4, hW4⟩ : ∃ W4, (((w.alloc (.cells #[.int .i64 p] 3)).alloc (.cells #[.slice A css.length cap] 22)).alloc (.cells #[.int .i64 many] 3)).alloc (.cells #[.bool false] 4) = W4 := ⟨_, rfl⟩
  have b0 : Blk W4 w.heap.size 3 #[.int .i64 p] := by rw [← hW4]; exact (((Blk.new w _ _).alloc _).alloc _).alloc _
  have b1 : Blk W4 (w.heap.size + 1) 22 #[.slice A css.length cap] := by rw [← hW4]; exact ((Blk.second w _ _ _).alloc _).alloc _
  have b2 : Blk W4 (w.heap.size + 2) 3 #[.int .i64 many] := by rw [← hW4]; exact (by simpa using Blk.second (w.alloc (.cells #[.int .i64 p] 3)) _ _ _ : Blk _ (w.heap.size + 2) _ _).alloc _
  have b3 : Blk W4 (w.heap.size + 3) 4 #[.bool false] := by rw [← hW4]; exact (by simpa using Blk.second ((w.alloc (.cells #[.int .i64 p] 3)).alloc (.cells #[.slice A css.length cap] 22)) _ _ _)
  have hB4 : Below w.heap.size w W4 := by rw [← hW4]; exact below_in (below_two w _ _) (below_two _ _ _)
  have s4 : W4.heap.size = w.heap.size + 4 := by rw [← hW4]; simp
  have HS4 := Lib.hid s4
  clear s4
  have hlen : css.length ≤ 1000 := by have := hf0.1; omega
  have hcl : ∀ j, j < css.length → (css[j]?.getD []).length ≤ 1000 := fun j hj => by have := (hf0.2 j hj).1; omega
  have HF0 := Lib.hid (fun (U : World) (hU : Below w.heap.size w U) => few6_any (.slice A css.length cap) css U (hC.below hU) true (by simp [hf0]))
  have HLR := Lib.hid (fun (U : World) (hU : Below w.heap.size w U) => Go.Proofs.YtcgnhfiadeceiaaGreatDoor.T.lright_any (B := w.heap.size) p (.slice A css.length cap) css U hU.size (hC.below hU) hlen false (by simp [hok]))
  have HLW := Lib.hid (fun (U : World) (hU : Below w.heap.size w U) => hL.next hU)
  have HSL := Lib.hid (fun (U : World) (hU : Below w.heap.size w U) => Go.Proofs.YtcgnhfiadeceiaaGreatDoor.T.slantsOf_no (B := w.heap.size) p (.slice A css.length cap) css U (hL.next hU) hU.size (hC.below hU) hlen hcl hok)
  obtain ⟨L, hL0⟩ : ∃ L : Nat, 0 = L := ⟨_, rfl⟩
  have hL1 : (0 : Int) = (L : Int) := by omega
  rw [hL0] at HSL
  have HZ0 := Lib.hid hL0
  have HZ1 := Lib.hid hL1
  clear hf0 hC hok hlen hcl hL0 hL1
  generalize css.length = na at *
  obtain ⟨g1, hg1⟩ : ∃ g, w.heap.size + 1 = g := ⟨_, rfl⟩
  obtain ⟨g2, hg2⟩ : ∃ g, g1 + 1 = g := ⟨_, rfl⟩
  obtain ⟨g3, hg3⟩ : ∃ g, g2 + 1 = g := ⟨_, rfl⟩
  obtain ⟨g4, hg4⟩ : ∃ g, W4.heap.size = g := ⟨_, rfl⟩
  rw [hg1] at b1
  rw [show w.heap.size + 2 = g2 by omega] at b2
  rw [show w.heap.size + 3 = g3 by omega] at b3
  have HG1 := Lib.hid hg1
  have HG2 := Lib.hid hg2
  have HG3 := Lib.hid hg3
  have HG4 := Lib.hid hg4
  have hB45 : Below W4.heap.size W4 (W4.alloc (.cells #[.int .i64 0] 3)) := below_one W4 _
  have b4 : Blk (W4.alloc (.cells #[.int .i64 0] 3)) g4 3 #[.int .i64 0] := by rw [← hg4]; exact Blk.new _ _ _
  have hB5 := below_in hB4 hB45
  have d0 := (b0.below hB45 b0.lt).one
  have d1 := (b1.below hB45 b1.lt).one
  have b0' := Lib.hid b0
  have b1' := Lib.hid b1
  have b2' := Lib.hid b2
  have b3' := Lib.hid b3
  have HB4 := Lib.hid hB4
  have c0 := b0.one
  have c1 := b1.one
  have r0 := b0.lt
  have r1 := b1.lt
  have r2 := b2.lt
  have r3 := b3.lt
  clear b0 b1 b2 b3
  refine (callsIn_wide (n := 9)).1 ?_
  refine callsIn_of_wp_marks Tryz.func5 rfl trivial ?_ rfl
  simp only [Tryz.ntmps5, List.size_toArray, List.length_cons, List.length_nil, Nat.reduceAdd, Nat.reduceSub, Array.replicate_succ, Array.replicate_zero, List.push_toArray, List.append_toArray, List.nil_append, List.cons_append]
  refine (wpIn_wide (n := 9)).2 ?_
  go_wp2_with fail
  try rw [hW4]
  try rw [hg1]
  try rw [hg2]
  try rw [hg3]
  refine (HF0.out _ HB4.out).mono ?_
  rintro e w' ⟨rfl, rfl⟩
  clear HF0 hW4
  go_wp2_with fail
  refine (HLR.out _ hB5).mono ?_
  rintro e w6 ⟨rfl, hBn⟩
  have hB6 := below_in hB5 hBn
  have hB46 := below_in hB45 hBn
  have b4a := b4.below hBn b4.lt
  have c4 := b4a.one
  have fz4 := b4a.frozen 0
  have hB47 := hB46
  have e0 := (b0'.out.below hB47 r0).one
  have e1 := (b1'.out.below hB47 r1).one
  have hB7 := hB6
  have b4b := b4a
  go_wp2_with fail
  refine (HSL.out _ hB7).mono ?_
  rintro e w8 ⟨sv, rfl, ⟨gf, lb, rfl, hen, heq, hsq⟩, hB78⟩
  go_wp2_with fail
  have hB48 := below_in hB47 hB78
  have HSQ := Lib.hid hsq
  clear hsq
  have b4c := b4b.below hB78 b4b.lt
  have b4d : Blk w8 g4 3 #[.int .i64 (L : Int)] := by rw [← HZ1.out]; exact b4c
  have hlo := hB78.size
  generalize w6.heap.size = lo at *
  have FQ : TurnS w w8 g1 g2 g3 g4 p (.slice A na cap) many L w8 := ⟨b0'.out.below hB48 r0, b1'.out.below hB48 r1, b2'.out.below hB48 r2, b3'.out.below hB48 r3, b4d, below_in HB4.out hB48, Below.refl _ _⟩
  have hgg3 : w.heap.size ≤ g3 := by omega
  clear b0' b1' b2' b3' b4 b4a b4b b4c b4d c0 c1 c4 d0 d1 e0 e1 fz4 HLR HSL HB4 hB4 hB45 hB5 hB6 hB7 hB46 hB47 hB48 hB78 hBn r0 r1 r2 r3 hg1 hg2 hg3 hg4 HG1 HG2 HG3 HG4 HS4
  obtain ⟨V0, hV0⟩ : ∃ V0, w8.alloc (.cells #[.int .i64 0] 3) = V0 := ⟨_, rfl⟩
  rw [hV0]
  have hB70 : Below w8.heap.size w8 V0 := by rw [← hV0]; exact below_one w8 _
  have ct0 : Blk V0 w8.heap.size 3 #[.int .i64 0] := by rw [← hV0]; exact Blk.new _ _ _
  have F0 := FQ.next hB70
  have HL0 := Left.nil w.heap.size V0
  clear hV0 FQ hB70
  refine (wpIn_wide (n := 9)).1 ?_
  refine wpIn_loop_rounds 3 ?_
  rw [roundsIn_succ]
  obtain ⟨f1, f2, f3, f4, f5, f6, f7⟩ := id F0
  have ctt := ct0.one
  have hlt1 := f1.lt
  have hlt2 := f2.lt
  have hlt3 := f3.lt
  have hlt4 := f4.lt
  have hlt5 := f5.lt
  have hltt := ct0.lt
  have hs8 := f7.size
  have hef := heq (V0.alloc (.cells #[.int .i64 0] 3))
  gi_wp2_with fail
  have hn0 : Blk (V0.alloc (.cells #[.int .i64 0] 3)) V0.heap.size 3 #[.int .i64 (([] : List (Nat × Value)).length : Int)] := Blk.new _ _ _
  have hBa := below_one V0 (.cells #[.int .i64 0] 3)
  have h8a := below_in f7 hBa
  clear hef ctt
  obtain ⟨VaA, hVa⟩ : ∃ X, V0.alloc (.cells #[.int .i64 0] 3) = X := ⟨_, rfl⟩
  rw [hVa] at hn0 hBa h8a ⊢
  clear hVa
  have hna := hn0.lt
  clear f1 f2 f3 f4 f5 f6 f7
  refine wpIn_rangeActT (N := L) rfl (by omega) (gf := gf) (lb := lb) rfl trivial hen (HSQ.out 8 (by omega)) (fun h h' => h.trans h') (fun W l ob h1 _ _ => Keep.putFar W (by omega) ob) h8a (fun _ => rfl)
    (fun pre X => (pre.length = 0 ∨ (pre.length : Int) < many) ∧ Blk X V0.heap.size 3 #[.int .i64 (pre.length : Int)] ∧ Below V0.heap.size V0 X)
    (fun c pre X => (c = .exit 2 ∧ 1 ≤ pre.length ∧ (pre.length = 1 ∨ (pre.length : Int) - 1 < many) ∧ many ≤ (pre.length : Int)) ∧ Blk X V0.heap.size 3 #[.int .i64 (pre.length : Int)] ∧ Below V0.heap.size V0 X)
    (farO_turn (fun pre : List (Nat × Value) => (pre.length = 0 ∨ (pre.length : Int) < many)) (fun pre => #[.int .i64 (pre.length : Int)]) 3 hna (Nat.le_refl _) (Nat.le_of_lt hna))
    (fun c => farO_turn (fun pre : List (Nat × Value) => (c = .exit 2 ∧ 1 ≤ pre.length ∧ (pre.length = 1 ∨ (pre.length : Int) - 1 < many) ∧ many ≤ (pre.length : Int))) (fun pre => #[.int .i64 (pre.length : Int)]) 3 hna (Nat.le_refl _) (Nat.le_of_lt hna))
    ⟨.inl rfl, hn0, hBa⟩ ?actA
    (fun pre z X => z.1 = pre.length ∧ BytesP (fun b => b < X.heap.size) X z.2 (slOf p css (pre.length : Int)))
    (fun pre z W l ob r hl h => ⟨h.1, BytesP.imp (bytesP_put h.2 hl ob) fun b hb => by simpa [World.putObj] using hb⟩)
    ?assignA ?bodyA ?doneA ?stopA
  case assignA =>
    intro l' pre z X K hsz hI2 hok hK
    obtain ⟨ok1, ok2, ok3⟩ := hok
    have hK2 := fun (h : z.1 = pre.length ∧ BytesP (fun b => b < X.heap.size) X z.2 (slOf p css (pre.length : Int))) => hK X (Below.refl _ _) (Keep.refl _ _ _) hI2 h
    replace hK2 := hK2 ⟨ok1, by rw [← ok1]; exact BytesP.imp ok3 fun b hb => hb.2⟩
    clear hK ok1 ok2 ok3 hI2
    unfold encS
    gi_wp2
    exact hK2
  case bodyA =>
    rintro l' pre z X hsz _ _ hlen
    exact absurd hlen (by have := HZ0.out; omega)
  case doneA =>
    rintro DA xs X hD hxs ⟨hcnd, hn, hB⟩ hK
    have hxl : xs.length = L := hxs
    rw [hxl] at hn hcnd
    clear hxs hxl
    obtain ⟨f1, f2, f3, f4, f5, f6, f7⟩ := F0.next hB
    have cn := hn.one
    have clx := f5.one
    have ctx := (ct0.below hB ct0.lt).one
    have cmx := f3.one
    have lt0 := hB.size
    have hmin : ((L : Int) != min (L : Int) (max 1 many)) = false := by rw [bne_eq_false_iff_eq]; rcases hcnd with h | h <;> omega
    have fV := F0.2.2.2.2.2.1
    have hs0 := fV.size
    gi_wp2
    clear cn clx ctx cmx f1 f2 f3 f4 f5 f6 f7
    obtain ⟨V1B, hVn⟩ : ∃ Y, X.alloc (.cells #[.int .i64 1] 3) = Y := ⟨_, rfl⟩
    rw [hVn]
    have hBn : Below V0.heap.size V0 V1B := by rw [← hVn]; exact hB.alloc hB.size _
    have ct1 : Blk V1B X.heap.size 3 #[.int .i64 1] := by rw [← hVn]; exact Blk.new _ _ _
    have hDn : V1B.heap[DA]? = some (.deferred (some [])) := by rw [← hVn]; exact (Below.heap_alloc X _ DA (Array.getElem?_eq_some_iff.1 hK).1).trans hK
    have HL1 := HL0.more hBn (D := DA) (by omega) (by omega) hDn
    have F1 := F0.next hBn
    clear hVn hBn hDn hK hn hB ct0 F0 HL0 fV lt0 hs0
    clear hmin hcnd
    obtain ⟨tb, htb⟩ : ∃ tb, Hid (X.heap.size = tb) := ⟨_, rfl⟩
    rw [htb.out] at ct1 ⊢
    clear htb
    rw [roundsIn_succ]
    obtain ⟨f1, f2, f3, f4, f5, f6, f7⟩ := id F1
    have ctt := ct1.one
    have hlt1 := f1.lt
    have hlt2 := f2.lt
    have hlt3 := f3.lt
    have hlt4 := f4.lt
    have hlt5 := f5.lt
    have hltt := ct1.lt
    have hs8 := f7.size
    have hef := heq (V1B.alloc (.cells #[.int .i64 0] 3))
    gi_wp2_with fail
    have hn0 : Blk (V1B.alloc (.cells #[.int .i64 0] 3)) V1B.heap.size 3 #[.int .i64 (([] : List (Nat × Value)).length : Int)] := Blk.new _ _ _
    have hBa := below_one V1B (.cells #[.int .i64 0] 3)
    have h8a := below_in f7 hBa
    clear hef ctt
    obtain ⟨VaB, hVa⟩ : ∃ X, V1B.alloc (.cells #[.int .i64 0] 3) = X := ⟨_, rfl⟩
    rw [hVa] at hn0 hBa h8a ⊢
    clear hVa
    have hna := hn0.lt
    clear f1 f2 f3 f4 f5 f6 f7
    refine wpIn_rangeActT (N := L) rfl (by omega) (gf := gf) (lb := lb) rfl trivial hen (HSQ.out 8 (by omega)) (fun h h' => h.trans h') (fun W l ob h1 _ _ => Keep.putFar W (by omega) ob) h8a (fun _ => rfl)
      (fun pre X => True ∧ Blk X V1B.heap.size 3 #[.int .i64 (pre.length : Int)] ∧ Below V1B.heap.size V1B X)
      (fun c pre X => False ∧ Blk X V1B.heap.size 3 #[.int .i64 (pre.length : Int)] ∧ Below V1B.heap.size V1B X)
      (farO_turn (fun pre : List (Nat × Value) => True) (fun pre => #[.int .i64 (pre.length : Int)]) 3 hna (Nat.le_refl _) (Nat.le_of_lt hna))
      (fun c => farO_turn (fun pre : List (Nat × Value) => False) (fun pre => #[.int .i64 (pre.length : Int)]) 3 hna (Nat.le_refl _) (Nat.le_of_lt hna))
      ⟨trivial, hn0, hBa⟩ ?actB
      (fun pre z X => z.1 = pre.length ∧ BytesP (fun b => b < X.heap.size) X z.2 (slOf p css (pre.length : Int)))
      (fun pre z W l ob r hl h => ⟨h.1, BytesP.imp (bytesP_put h.2 hl ob) fun b hb => by simpa [World.putObj] using hb⟩)
      ?assignB ?bodyB ?doneB ?stopB
    case assignB =>
      intro l' pre z X K hsz hI2 hok hK
      obtain ⟨ok1, ok2, ok3⟩ := hok
      have hK2 := fun (h : z.1 = pre.length ∧ BytesP (fun b => b < X.heap.size) X z.2 (slOf p css (pre.length : Int))) => hK X (Below.refl _ _) (Keep.refl _ _ _) hI2 h
      replace hK2 := hK2 ⟨ok1, by rw [← ok1]; exact BytesP.imp ok3 fun b hb => hb.2⟩
      clear hK ok1 ok2 ok3 hI2
      unfold encS
      gi_wp2
      exact hK2
    case bodyB =>
      rintro l' pre z X hsz _ _ hlen
      exact absurd hlen (by have := HZ0.out; omega)
    case doneB =>
      rintro DB xs X hD hxs ⟨hcnd, hn, hB⟩ hK
      have hxl : xs.length = L := hxs
      rw [hxl] at hn
      clear hxs hxl
      obtain ⟨f1, f2, f3, f4, f5, f6, f7⟩ := F1.next hB
      have cn := hn.one
      have clx := f5.one
      have ctx := (ct1.below hB ct1.lt).one
      have cmx := f3.one
      have lt0 := hB.size
      have hne1 : ((L : Int) != (L : Int)) = false := by simp
      have fV := F1.2.2.2.2.2.1
      have hs0 := fV.size
      gi_wp2
      clear cn clx ctx cmx f1 f2 f3 f4 f5 f6 f7
      obtain ⟨V2B, hVn⟩ : ∃ Y, X.alloc (.cells #[.int .i64 2] 3) = Y := ⟨_, rfl⟩
      rw [hVn]
      have hBn : Below V1B.heap.size V1B V2B := by rw [← hVn]; exact hB.alloc hB.size _
      have ct2 : Blk V2B X.heap.size 3 #[.int .i64 2] := by rw [← hVn]; exact Blk.new _ _ _
      have hDn : V2B.heap[DB]? = some (.deferred (some [])) := by rw [← hVn]; exact (Below.heap_alloc X _ DB (Array.getElem?_eq_some_iff.1 hK).1).trans hK
      have HL2 := HL1.more hBn (D := DB) (by omega) (by omega) hDn
      have F2 := F1.next hBn
      clear hVn hBn hDn hK hn hB ct1 F1 HL1 fV lt0 hs0
      clear hne1 hcnd
      rw [roundsIn_succ]
      obtain ⟨f1, f2, f3, f4, f5, f6, f7⟩ := id F2
      have ctx := ct2.one
      have hs4 := f4.lt
      gi_wp2_with fail
      go_wp2_with fail
      refine (Go.Proofs.YtcgnhfiadeceiaaGreatDoor.T.works_any _ (HLW.out _ f6)).mono ?_
      rintro e wf ⟨rfl, hBf⟩
      have f4f := f4.below hBf f4.lt
      have crx := f4f.one
      have frx := f4f.frozen 0
      have hb3 := f4f.set_ 0 (.bool true)
      have hLf := (HL2.below hBf).set_ ⟨g3, 0, none⟩ (.bool true)
      have hBz : Below w.heap.size w (wf.setCell ⟨g3, 0, none⟩ (.bool true)) := (below_in f6 hBf).setCell (by show w.heap.size ≤ g3; omega) _
      go_wp2
      refine leaves_blks w _ _ hLf hBz (fun W' hB' hk => ?_)
      have r0 := (hk _ _ _ hb3).one
      exact ⟨.bool true, by simp [results, Tryz.results5, go_sem, r0], rfl, hB'⟩
    case stopB =>
      rintro D c pre X hD hsp ⟨h, _⟩ hK
      exact h.elim
  case stopA =>
    rintro DA c pre X hD hsp ⟨⟨rfl, hx1, hx2, hx3⟩, hn, hB⟩ hK
    have hple : pre.length ≤ L := hsp.2
    clear hsp
    obtain ⟨f1, f2, f3, f4, f5, f6, f7⟩ := F0.next hB
    have cn := hn.one
    have clx := f5.one
    have ctx := (ct0.below hB ct0.lt).one
    have cmx := f3.one
    have lt0 := hB.size
    have hmin : ((pre.length : Int) != min (L : Int) (max 1 many)) = false := by rw [bne_eq_false_iff_eq]; rcases hx2 with h | h <;> omega
    have fV := F0.2.2.2.2.2.1
    have hs0 := fV.size
    gi_wp2
    clear cn clx ctx cmx f1 f2 f3 f4 f5 f6 f7
    obtain ⟨V1C, hVn⟩ : ∃ Y, X.alloc (.cells #[.int .i64 1] 3) = Y := ⟨_, rfl⟩
    rw [hVn]
    have hBn : Below V0.heap.size V0 V1C := by rw [← hVn]; exact hB.alloc hB.size _
    have ct1 : Blk V1C X.heap.size 3 #[.int .i64 1] := by rw [← hVn]; exact Blk.new _ _ _
    have hDn : V1C.heap[DA]? = some (.deferred (some [])) := by rw [← hVn]; exact (Below.heap_alloc X _ DA (Array.getElem?_eq_some_iff.1 hK).1).trans hK
    have HL1 := HL0.more hBn (D := DA) (by omega) (by omega) hDn
    have F1 := F0.next hBn
    clear hVn hBn hDn hK hn hB ct0 F0 HL0 fV lt0 hs0
    clear hmin hx1 hx2 hx3 hple
    obtain ⟨tb, htb⟩ : ∃ tb, Hid (X.heap.size = tb) := ⟨_, rfl⟩
    rw [htb.out] at ct1 ⊢
    clear htb
    rw [roundsIn_succ]
    obtain ⟨f1, f2, f3, f4, f5, f6, f7⟩ := id F1
    have ctt := ct1.one
    have hlt1 := f1.lt
    have hlt2 := f2.lt
    have hlt3 := f3.lt
    have hlt4 := f4.lt
    have hlt5 := f5.lt
    have hltt := ct1.lt
    have hs8 := f7.size
    have hef := heq (V1C.alloc (.cells #[.int .i64 0] 3))
    gi_wp2_with fail
    have hn0 : Blk (V1C.alloc (.cells #[.int .i64 0] 3)) V1C.heap.size 3 #[.int .i64 (([] : List (Nat × Value)).length : Int)] := Blk.new _ _ _
    have hBa := below_one V1C (.cells #[.int .i64 0] 3)
    have h8a := below_in f7 hBa
    clear hef ctt
    obtain ⟨VaC, hVa⟩ : ∃ X, V1C.alloc (.cells #[.int .i64 0] 3) = X := ⟨_, rfl⟩
    rw [hVa] at hn0 hBa h8a ⊢
    clear hVa
    have hna := hn0.lt
    clear f1 f2 f3 f4 f5 f6 f7
    refine wpIn_rangeActT (N := L) rfl (by omega) (gf := gf) (lb := lb) rfl trivial hen (HSQ.out 8 (by omega)) (fun h h' => h.trans h') (fun W l ob h1 _ _ => Keep.putFar W (by omega) ob) h8a (fun _ => rfl)
      (fun pre X => True ∧ Blk X V1C.heap.size 3 #[.int .i64 (pre.length : Int)] ∧ Below V1C.heap.size V1C X)
      (fun c pre X => False ∧ Blk X V1C.heap.size 3 #[.int .i64 (pre.length : Int)] ∧ Below V1C.heap.size V1C X)
      (farO_turn (fun pre : List (Nat × Value) => True) (fun pre => #[.int .i64 (pre.length : Int)]) 3 hna (Nat.le_refl _) (Nat.le_of_lt hna))
      (fun c => farO_turn (fun pre : List (Nat × Value) => False) (fun pre => #[.int .i64 (pre.length : Int)]) 3 hna (Nat.le_refl _) (Nat.le_of_lt hna))
      ⟨trivial, hn0, hBa⟩ ?actC
      (fun pre z X => z.1 = pre.length ∧ BytesP (fun b => b < X.heap.size) X z.2 (slOf p css (pre.length : Int)))
      (fun pre z W l ob r hl h => ⟨h.1, BytesP.imp (bytesP_put h.2 hl ob) fun b hb => by simpa [World.putObj] using hb⟩)
      ?assignC ?bodyC ?doneC ?stopC
    case assignC =>
      intro l' pre z X K hsz hI2 hok hK
      obtain ⟨ok1, ok2, ok3⟩ := hok
      have hK2 := fun (h : z.1 = pre.length ∧ BytesP (fun b => b < X.heap.size) X z.2 (slOf p css (pre.length : Int))) => hK X (Below.refl _ _) (Keep.refl _ _ _) hI2 h
      replace hK2 := hK2 ⟨ok1, by rw [← ok1]; exact BytesP.imp ok3 fun b hb => hb.2⟩
      clear hK ok1 ok2 ok3 hI2
      unfold encS
      gi_wp2
      exact hK2
    case bodyC =>
      rintro l' pre z X hsz _ _ hlen
      exact absurd hlen (by have := HZ0.out; omega)
    case doneC =>
      rintro DC xs X hD hxs ⟨hcnd, hn, hB⟩ hK
      have hxl : xs.length = L := hxs
      rw [hxl] at hn
      clear hxs hxl
      obtain ⟨f1, f2, f3, f4, f5, f6, f7⟩ := F1.next hB
      have cn := hn.one
      have clx := f5.one
      have ctx := (ct1.below hB ct1.lt).one
      have cmx := f3.one
      have lt0 := hB.size
      have hne1 : ((L : Int) != (L : Int)) = false := by simp
      have fV := F1.2.2.2.2.2.1
      have hs0 := fV.size
      gi_wp2
      clear cn clx ctx cmx f1 f2 f3 f4 f5 f6 f7
      obtain ⟨V2C, hVn⟩ : ∃ Y, X.alloc (.cells #[.int .i64 2] 3) = Y := ⟨_, rfl⟩
      rw [hVn]
      have hBn : Below V1C.heap.size V1C V2C := by rw [← hVn]; exact hB.alloc hB.size _
      have ct2 : Blk V2C X.heap.size 3 #[.int .i64 2] := by rw [← hVn]; exact Blk.new _ _ _
      have hDn : V2C.heap[DC]? = some (.deferred (some [])) := by rw [← hVn]; exact (Below.heap_alloc X _ DC (Array.getElem?_eq_some_iff.1 hK).1).trans hK
      have HL2 := HL1.more hBn (D := DC) (by omega) (by omega) hDn
      have F2 := F1.next hBn
      clear hVn hBn hDn hK hn hB ct1 F1 HL1 fV lt0 hs0
      clear hne1 hcnd
      rw [roundsIn_succ]
      obtain ⟨f1, f2, f3, f4, f5, f6, f7⟩ := id F2
      have ctx := ct2.one
      have hs4 := f4.lt
      gi_wp2_with fail
      go_wp2_with fail
      refine (Go.Proofs.YtcgnhfiadeceiaaGreatDoor.T.works_any _ (HLW.out _ f6)).mono ?_
      rintro e wf ⟨rfl, hBf⟩
      have f4f := f4.below hBf f4.lt
      have crx := f4f.one
      have frx := f4f.frozen 0
      have hb3 := f4f.set_ 0 (.bool true)
      have hLf := (HL2.below hBf).set_ ⟨g3, 0, none⟩ (.bool true)
      have hBz : Below w.heap.size w (wf.setCell ⟨g3, 0, none⟩ (.bool true)) := (below_in f6 hBf).setCell (by show w.heap.size ≤ g3; omega) _
      go_wp2
      refine leaves_blks w _ _ hLf hBz (fun W' hB' hk => ?_)
      have r0 := (hk _ _ _ hb3).one
      exact ⟨.bool true, by simp [results, Tryz.results5, go_sem, r0], rfl, hB'⟩
    case stopC =>
      rintro D c pre X hD hsp ⟨h, _⟩ hK
      exact h.elim

open Go.Proofs.YtcgnhfiadeceiaaGreatDoor.E Go.Proofs.YtcgnhfiadeceiaaGreatDoor.C Go.Proofs.YtcgnhfiadeceiaaGreatDoor.R Go.Proofs.YtcgnhfiadeceiaaGreatDoor.T in
set_option maxRecDepth 100000 in
set_option maxHeartbeats 4000000 in
theorem walk (p : Int) (v : Value) (css : List (List (List UInt8))) (many : Int) (w : World) (hL : Laid w) (wp : -9223372036854775808 ≤ p ∧ p ≤ 9223372036854775807) (hC : Cols w.heap.size w v css) (wm : -9223372036854775808 ≤ many ∧ many ≤ 9223372036854775807) :
    Calls Tryz.prog 5 #[.int .i64 p, v, .int .i64 many] w fun e w' => e = .returned (.bool true) ∧ Below w.heap.size w w' := by
  by_cases hf0 : Few6 css
  case neg => exact n1 p v css many w hL wp hC wm hf0
  by_cases hok : DataOk p css
  case pos => exact yes p v css many w hL wp hC wm hf0 hok
  exact no p v css many w hL wp hC wm hf0 hok

set_option maxRecDepth 100000 in
theorem lifted (os : Os) (started : os.Started) (H : Type) (enc : TypeId × Value → H) :
    ReturnsInHanded {} Tryz.checked os 5 .any (fun w args => (Rows.starSlantsSpec.pre enc Tryz.prog Tryz.f5 [] false w args ∧ laidMetH Tryz.prog laidL w) ∧ sizedMet enc Tryz.prog Tryz.f5 (OpenSpec.ofChange Rows.starSlantsSpec) false w args)
      (Rows.starSlantsSpec.post enc Tryz.prog Tryz.f5 false true false false) := by
  refine returnsInHanded_of_change_and (C := Tryz.checked) (X := fun w _ => laidMetH Tryz.prog laidL w) (fun _ _ _ hh h => h.of_heap hh) own started (by kernel_rfl) Tryz.func5
    (ChangeSpec.witness_shaped (enc := enc) (C := Tryz.checked) (os := os) (X := fun w _ => laidMetH Tryz.prog laidL w) false (World.doorLaid Tryz.prog 200 os) #[.int .i64 0, .slice none 0 0, .int .i64 0] 8 rfl (World.shaped_of_RefB (by kernel_rfl) (by kernel_rfl)) (by kernel_rfl) (by kernel_rfl) (by kernel_rfl) (door_met os _)) ?_
  intro W base args ds gs before hval0 hW _ _ hL0 _
  have hL := laid_of hL0
  have hval : ∀ (j : Nat) t v, Tryz.f5.params[j]? = some t → args[j]? = some v → Value.okWide Tryz.prog W .any base t v := hval0
  have hW' := hW
  obtain ⟨p, q, hA0, hV, rfl, hfz, hnd⟩ := hW
  have hA : DataW.TrodAll enc Tryz.prog W 0 (fun _ => true) true Tryz.f5.params.toList args.toList ds p := hA0
  rw [Tryz.params5] at hA hval
  obtain ⟨v0, vs0, d0, ds0, p0, q0, hargs, rfl, rfl, h0, r0⟩ := trodAll_cons hA
  obtain ⟨v1, vs1, d1, ds1, p1, q1, rfl, rfl, rfl, h1, r1⟩ := trodAll_cons r0
  obtain ⟨v2, vs2, d2, ds2, p2, q2, rfl, rfl, rfl, h2, r2⟩ := trodAll_cons r1
  obtain ⟨rfl, rfl, rfl⟩ := trodAll_nil r2
  obtain rfl : args = #[v0, v1, v2] := by cases args; simp_all
  obtain ⟨rfl, rfl⟩ := trodVars_none hV
  obtain ⟨a0, rfl, rfl, rfl, w0⟩ := open_int Tryz.underlying3 (hval 0 3 v0 rfl rfl) h0
  have k1 := h1
  have lt1 : ∀ x ∈ p1, x.block < W.heap.size := by obtain ⟨m, hm⟩ := k1; exact DataW.trod_lt m _ _ _ hm
  obtain ⟨a1, len1, cap1, rfl⟩ := okWide_slice Tryz.underlying22 (hval 1 22 v1 rfl rfl)
  obtain ⟨l1, w1⟩ : ∃ css, E.Cols W.heap.size W (.slice a1 len1 cap1) css := by obtain ⟨fuel, hf⟩ := h1; exact E.open_cols hf
  obtain ⟨a2, rfl, rfl, rfl, w2⟩ := open_int Tryz.underlying3 (hval 2 3 v2 rfl rfl) h2
  clear hA0 hval0
  simp only [List.append_nil] at hW'
  refine (walk a0 _ l1 a2 W hL (E.wf_i64 w0) w1 (E.wf_i64 w2)).mono fun e W' ⟨he, bel⟩ => ?_
  subst he
  exact ⟨_, rfl, _, _, _, [], _, [], hW', trodAll_mk1 (shut_bool Tryz.underlying4 _), (trodAll_cons_mk (shut_int Tryz.underlying3 w0) (trodAll_cons_mk (Below.trod laidOut (by kernel_rfl) (of_decide_eq_true (by kernel_rfl)) k1 bel lt1) (trodAll_cons_mk (shut_int Tryz.underlying3 w2) trodAll_mk0))), rfl, bel.frame _, fun h => by cases h⟩

theorem over : Rows.starSlantsRow.holds Tryz.pinned (OpenSpec.ofChange Rows.starSlantsSpec) :=
  OpenClaim.holds_of_wide 5 Tryz.f5 rfl rfl rfl rfl rfl rfl rfl ⟨rfl, rfl, rfl, rfl, rfl⟩ rfl rfl rfl rfl rfl (by kernel_rfl) Tryz.func5 (by kernel_rfl)
    (of_decide_eq_true (by kernel_rfl)) (by unfold Func.isWrapper; first | (rw [if_pos (by decide +kernel)]; kernel_rfl) | (rw [if_neg (by decide +kernel)]; exact ⟨rfl, rfl⟩))
    (fun os started H enc _ => lifted os started H enc)

/-- The tied card: the row, and the tie that is given. -/
theorem starSlants_holds : Rows.StarSlantsCardSaid :=
  Claim7.holds_tied_plain_at .later [] [.data, .data] true (true, "7e27223e161f1634c86bf5b961aa3e78ae26ed2f90e841ec1f5ff27ba1a55c1c") true over (fun _ h => by cases h) (by kernel_rfl) (fun _ h => by cases h) starSlants_row_tie rfl ⟨rfl, rfl⟩ (by kernel_rfl) rfl
    (fun f fn hf hfn => by
      obtain rfl : f = 5 := Option.some.inj ((show Tryz.prog.funcNamed "palisade/palisadelaw08.StarSlants" = some 5 by kernel_rfl).symm.trans hf) |>.symm
      obtain rfl : fn = Tryz.f5 := (Option.some.inj (Tryz.func5.symm.trans hfn)).symm
      exact ⟨by kernel_rfl, fun j t ht => by
        rw [Tryz.params5] at ht
        have hm : t ∈ [3, 22, 3] := by simpa using Array.mem_of_getElem? ht
        have hall : ([3, 22, 3].all fun u => !Tryz.prog.wantsStandIn u) = true := by kernel_rfl
        exact (show Tryz.prog.wantsStandIn t = false by simpa using List.all_eq_true.1 hall t hm)⟩)
    (by kernel_rfl)
end Go.Proofs.YtcgnhfiadeceiaaGreatDoor.starSlants
