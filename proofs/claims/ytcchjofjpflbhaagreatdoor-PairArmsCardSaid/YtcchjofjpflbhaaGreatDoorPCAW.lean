/- -/
import Derived.Test.YtcchjofjpflbhaaGreatDoorPAY
import Derived.Test.YtcchjofjpflbhaaGreatDoorCards
import Derived.Test.YtcchjofjpflbhaaGreatDoorTie
import Derived.SevenTiedAt
namespace Go.Proofs.YtcchjofjpflbhaaGreatDoor.pairArms
open Go.ChangeShapes Go.WideShapes Go.ChangeAt Go.RowKit Go.Shelf
set_option linter.unusedVariables false
set_option linter.unusedSimpArgs false
attribute [local go_sem] Oper.semAt_some

open Go.Proofs.YtcchjofjpflbhaaGreatDoor.E Go.Proofs.YtcchjofjpflbhaaGreatDoor.C Go.Proofs.YtcchjofjpflbhaaGreatDoor.T Go.Proofs.YtcchjofjpflbhaaGreatDoor.Ch in
set_option maxRecDepth 100000 in
set_option maxHeartbeats 8000000 in
theorem caseA (p x0 x1 many : Int) (w : World) (hL : Laid w) (wp : -9223372036854775808 ≤ p ∧ p ≤ 9223372036854775807) (wx : -9223372036854775808 ≤ x0 ∧ x0 ≤ 9223372036854775807) (wy : -9223372036854775808 ≤ x1 ∧ x1 ≤ 9223372036854775807) (wm : -9223372036854775808 ≤ many ∧ many ≤ 9223372036854775807) (hp : p ∈ prm) (hth : x0 ≠ x1 ∧ (0 ≤ x0 ∧ x0 < p) ∧ 0 ≤ x1 ∧ x1 < p) :
    Calls Tryz.prog 3 #[.int .i64 p, .agg #[.int .i64 x0, .int .i64 x1], .int .i64 many] w fun e w' => e = .returned (.bool true) ∧ Below w.heap.size w w' := by
  obtain ⟨W3, hW3⟩ : ∃ W3, (((w.alloc (.cells #[.int .i64 x0, .int .i64 x1] 22)).alloc (.cells #[.int .i64 many] 3)).alloc (.cells #[.bool false] 4)).alloc (.cells #[.slice none 0 0] 23) = W3 := ⟨_, rfl⟩
  have b0 : Blk W3 w.heap.size 22 #[.int .i64 x0, .int .i64 x1] := by rw [← hW3]; exact (((Blk.new w _ _).alloc _).alloc _).alloc _
  have b1 : Blk W3 (w.heap.size + 1) 3 #[.int .i64 many] := by rw [← hW3]; exact ((Blk.second w _ _ _).alloc _).alloc _
  have b2 : Blk W3 (w.heap.size + 1 + 1) 4 #[.bool false] := by rw [← hW3]; exact (Go.Proofs.YtcchjofjpflbhaaGreatDoor.Rg.Blk.at_ (Blk.new _ _ _) (by simp)).alloc _
  have b3 : Blk W3 (w.heap.size + 1 + 1 + 1) 23 #[.slice none 0 0] := by rw [← hW3]; exact Go.Proofs.YtcchjofjpflbhaaGreatDoor.Rg.Blk.at_ (Blk.new _ _ _) (by simp)
  have hBw : Below w.heap.size w W3 := by rw [← hW3]; exact ((below_two w _ _).alloc (by simp; omega) _).alloc (by simp; omega) _
  obtain ⟨g0, hg0⟩ : ∃ g, w.heap.size = g := ⟨_, rfl⟩
  obtain ⟨g1, hg1⟩ : ∃ g, g0 + 1 = g := ⟨_, rfl⟩
  obtain ⟨g2, hg2⟩ : ∃ g, g1 + 1 = g := ⟨_, rfl⟩
  obtain ⟨g3, hg3⟩ : ∃ g, g2 + 1 = g := ⟨_, rfl⟩
  rw [hg0] at b0
  rw [hg0, hg1] at b1
  rw [hg0, hg1, hg2] at b2
  rw [hg0, hg1, hg2, hg3] at b3
  have HG := Lib.hid (And.intro hg0 (And.intro hg1 (And.intro hg2 hg3)))
  have HW3 := Lib.hid hW3
  have HSZ : Hid (g2 < g3) := by unfold Hid; omega
  have HLL := Lib.hid hL
  have HLW := Lib.hid (fun (U : World) (hU : Below w.heap.size w U) => hL.next hU)
  have HR := Lib.hid (fun W => right_any p W)
  rw [decide_eq_true hp] at HR
  have HT0 := Lib.hid (fun W => at_any p x0 W)
  have HT1 := Lib.hid (fun W => at_any p x1 W)
  have hpb := prm_bounds hp
  have hx : (x0 != x1) = true := bne_iff_ne.2 hth.1
  rw [decide_eq_true hth.2.1] at HT0
  rw [decide_eq_true hth.2.2] at HT1
  have HRO : Hid (∀ W : World, Calls Tryz.prog 16 #[.int .i64 p, .int .i64 x0, .int .i64 x1] W fun e w' => ∃ u, e = .returned u ∧ Ch.OwnA w' W.heap.size u (armP p x0 x1) ∧ Below W.heap.size W w') := fun W => by
    obtain ⟨P, rfl⟩ : ∃ P : Nat, p = (P : Int) := ⟨p.toNat, by omega⟩
    exact refArm_any (Q := P - 1) (by omega) hp x0 x1 hth.1 hth.2.1 hth.2.2 W
  have HWK := Lib.hid (fun U hU => Arm_yes p x0 x1 hp hth.1 hth.2.1 hth.2.2 U hU)
  have HRL : Hid ((armP p x0 x1).length ≤ 100) := armP_len hp
  generalize armP p x0 x1 = la at *
  clear hW3 hg0 hg1 hg2 hg3 hL
  refine (callsIn_wide (n := 9)).1 ?_
  refine callsIn_of_wp_marks Tryz.func3 rfl trivial ?_ rfl
  simp only [Tryz.ntmps3, List.size_toArray, List.length_cons, List.length_nil, Nat.reduceAdd, Nat.reduceSub, Array.replicate_succ, Array.replicate_zero, List.push_toArray, List.append_toArray, List.nil_append, List.cons_append]
  refine (wpIn_wide (n := 9)).2 ?_
  go_wp2_with fail
  (try rw [HW3.out])
  (try rw [HG.out.1, HG.out.2.1, HG.out.2.2.1, HG.out.2.2.2])
  refine (HR.out W3).mono ?_
  rintro e w5 ⟨rfl, hB5⟩
  replace b0 := b0.below hB5 b0.lt
  replace b1 := b1.below hB5 b1.lt
  replace b2 := b2.below hB5 b2.lt
  replace b3 := b3.below hB5 b3.lt
  replace hBw := below_in hBw hB5
  clear hB5 HR
  have k0 : w5.cell? ⟨g0, 0, none⟩ = some (.int .i64 x0) := b0.cell 0
  have k1 : w5.cell? ⟨g0, 1, none⟩ = some (.int .i64 x1) := b0.cell 1
  go_wp2_with fail
  refine (HT0.out w5).mono ?_
  rintro e w' ⟨rfl, rfl⟩
  go_wp2_with fail
  refine (HT1.out w5).mono ?_
  rintro e w' ⟨rfl, rfl⟩
  go_wp2_with fail
  refine (HRO.out w5).mono ?_
  rintro e w6 ⟨u2, rfl, hu2, hB6⟩
  obtain ⟨Aw, nw, cw, rfl⟩ := hu2.form
  clear k0 k1
  have l3w := b3.lt
  replace b0 := b0.below hB6 b0.lt
  replace b1 := b1.below hB6 b1.lt
  replace b2 := b2.below hB6 b2.lt
  replace b3 := b3.below hB6 b3.lt
  replace hBw := below_in hBw hB6
  have k3 := b3.one
  have f3 := b3.frozen 0
  obtain ⟨W7, hW7⟩ : ∃ x, w6.setCell ⟨g3, 0, none⟩ (.slice Aw nw cw) = x := ⟨_, rfl⟩
  have hwn := (hu2.far (p := ⟨g3, 0, none⟩) (fun e => by have h1 := hu2.own_le g3 e.symm; omega) (.slice Aw nw cw)).readA
  have e3 := b3.set_ 0 (.slice Aw nw cw)
  have hgz := HG.out
  have hsz := HSZ.out
  have e0 := Blk.far b0 (by show g0 ≠ g3; omega) (.slice Aw nw cw) (p := ⟨g3, 0, none⟩)
  have e1 := Blk.far b1 (by show g1 ≠ g3; omega) (.slice Aw nw cw) (p := ⟨g3, 0, none⟩)
  have e2 := Blk.far b2 (by show g2 ≠ g3; omega) (.slice Aw nw cw) (p := ⟨g3, 0, none⟩)
  have hBw2 := hBw.setCell (p := ⟨g3, 0, none⟩) (by show w.heap.size ≤ g3; omega) (.slice Aw nw cw)
  rw [hW7] at hwn e3 e0 e1 e2 hBw2
  replace e3 : Blk W7 g3 23 #[.slice Aw nw cw] := e3
  have k0 : (w6.setCell ⟨g3, 0, none⟩ (.slice Aw nw cw)).cell? ⟨g0, 0, none⟩ = some (.int .i64 x0) := by rw [hW7]; exact e0.cell 0
  have k1 : (w6.setCell ⟨g3, 0, none⟩ (.slice Aw nw cw)).cell? ⟨g0, 1, none⟩ = some (.int .i64 x1) := by rw [hW7]; exact e0.cell 1
  have HW7 := Lib.hid hW7
  clear b0 b1 b2 b3 hBw hu2 hB6 hgz hsz hW7
  go_wp2_with fail
  try rw [HW7.out]
  clear k3 f3
  refine (HWK.out W7 (HLW.out W7 hBw2)).mono ?_
  rintro e w8 ⟨sv, rfl, ⟨gf, lb, rfl, hen, heq, hgo⟩, hB8⟩
  clear HWK
  try clear k0 k1
  go_wp2_with fail
  have HSQ := Lib.hid hgo
  have hlo := hB8.size
  have hgz := HG.out
  have hsz := HSZ.out
  have hg3lo : g3 < W7.heap.size := e3.lt
  have HLM : Hid (la.length ≤ 100000) := by unfold Hid; have := HRL.out; omega
  have hnwl : nw = la.length := by obtain ⟨_, _, e, _⟩ := id hwn; injection e
  have FQ : TurnC w w8 g1 g2 g3 many Aw nw cw la w8 := ⟨e1.below hB8 e1.lt, e2.below hB8 e2.lt, e3.below hB8 e3.lt, hwn.next hB8, below_in hBw2 hB8, Below.refl _ _⟩
  have HNW := Lib.hid hnwl
  have hPRE : Hid (∀ (pre : List (Int × Int)) (x : Int × Int), pre ++ [x] <+: la → pre.length < la.length ∧ la[pre.length]? = some x) := fun pre x h => pre_at h
  have hwsz := hBw2.size
  generalize W7.heap.size = lo at *
  clear e0 e1 e2 e3 hBw2 hB8 hwn hnwl hgo
  obtain ⟨V0, hV0⟩ : ∃ V0, w8.alloc (.cells #[.int .i64 0] 3) = V0 := ⟨_, rfl⟩
  rw [hV0]
  have hB70 : Below w8.heap.size w8 V0 := by rw [← hV0]; exact below_one w8 _
  have ct0 : Blk V0 w8.heap.size 3 #[.int .i64 0] := by rw [← hV0]; exact Blk.new _ _ _
  have F0 := FQ.next hB70
  have HL0 := Left.nil w.heap.size V0
  clear hV0 FQ hB70
  refine (wpIn_wide (n := 9)).1 ?_
  refine wpIn_loop_rounds 3 ?_
  rw [roundsIn_succ]
  obtain ⟨f1, f2, f3, f4, f5, f6⟩ := id F0
  have ctt := ct0.one
  have hlt1 := f1.lt
  have hlt2 := f2.lt
  have hlt3 := f3.lt
  have hltt := ct0.lt
  have hs8 := f6.size
  gi_wp2_with fail
  have hn0 : Blk (V0.alloc (.cells #[.int .i64 0] 3)) V0.heap.size 3 #[.int .i64 (([] : List (Int × Int)).length : Int)] := Blk.new _ _ _
  have hBa := below_one V0 (.cells #[.int .i64 0] 3)
  have h8a := below_in f6 hBa
  clear ctt
  obtain ⟨VaA, hVa⟩ : ∃ X, V0.alloc (.cells #[.int .i64 0] 3) = X := ⟨_, rfl⟩
  rw [hVa] at hn0 hBa h8a ⊢
  clear hVa
  have hna := hn0.lt
  clear f1 f2 f3 f4 f5 f6
  refine Go.Proofs.YtcchjofjpflbhaaGreatDoor.T.wpIn_rangeBoxP rfl (by omega) (gf := gf) (lb := lb) rfl trivial hen (HSQ.out 8 (by omega)) (fun h h' => h.trans h') (fun W l ob h1 _ _ => ⟨Keep.putFar W (by omega) ob, Go.Proofs.YtcchjofjpflbhaaGreatDoor.T.laid_put HLL.out (by omega) ob⟩) h8a (fun _ => rfl)
    (fun (pre : List (Int × Int)) o X => (o = fun _ => False) ∧ (pre.length = 0 ∨ (pre.length : Int) < many) ∧ Blk X V0.heap.size 3 #[.int .i64 (pre.length : Int)] ∧ Below V0.heap.size V0 X)
    (fun c (pre : List (Int × Int)) o X => (c = .exit 2 ∧ 1 ≤ pre.length ∧ (pre.length = 1 ∨ (pre.length : Int) - 1 < many) ∧ many ≤ (pre.length : Int)) ∧ (o = fun _ => False) ∧ Blk X V0.heap.size 3 #[.int .i64 (pre.length : Int)] ∧ Below V0.heap.size V0 X)
    ?hIA ?hIxA (fun _ => False) (fun b e => e.elim) ⟨rfl, .inl rfl, hn0, hBa⟩
    (fun pre x => pre.length < la.length ∧ la[pre.length]? = some x) (fun pre x W h => hPRE.out pre x h) 31 (fun x : Int × Int => #[.int .i64 x.1, .int .i64 x.2]) ?actA
    ?assignA (fun pre o X h => by obtain ⟨rfl, _⟩ := h; exact fun b hb => hb.elim) ?hrowxA ?bodyA ?doneA ?stopA
  case hIA =>
    rintro s o X Y row ⟨rfl, hc, hn, hB⟩ hgr hr
    have hne : some (V0.heap.size) ≠ row := fun e => by have := (hr _ e.symm).1; omega
    exact ⟨rfl, hc, hn.grown hgr hne, below_grown hB hgr hB.size (fun r e => by have := (hr r e).1; omega)⟩
  case hIxA =>
    rintro c s o X Y row ⟨hc, rfl, hn, hB⟩ hgr hr
    have hne : some (V0.heap.size) ≠ row := fun e => by have := (hr _ e.symm).1; omega
    exact ⟨hc, rfl, hn.grown hgr hne, below_grown hB hgr hB.size (fun r e => by have := (hr r e).1; omega)⟩
  case hrowxA => exact fun c pre o X h => by obtain ⟨_, rfl, _⟩ := h; exact fun b hb => hb.elim
  case assignA =>
    rintro l' pre x o X KK hsz hol ⟨rfl, hc, hn, hB⟩ _ hKK
    simp only [encA]
    gi_wp2
    have hbx := Blk.new X 31 #[.int .i64 x.1, .int .i64 x.2]
    have hBz := below_one X (.cells #[.int .i64 x.1, .int .i64 x.2] 31)
    have hKe : KeepG lo (w8.heap.size - lo) X (X.alloc (.cells #[.int .i64 x.1, .int .i64 x.2] 31)) := ⟨Keep.alloc (by omega) _, fun h => h.next hBz⟩
    have hn2 := hn.below hBz hn.lt
    have hB2 := hB.trans (hBz.mono hB.size)
    have hsn : Go.Proofs.YtcchjofjpflbhaaGreatDoor.T.SinceO VaA.heap.size (fun _ => False) X _ := Go.Proofs.YtcchjofjpflbhaaGreatDoor.T.SinceO.below hBz
    obtain ⟨Y, hY⟩ : ∃ Y, X.alloc (.cells #[.int .i64 x.1, .int .i64 x.2] 31) = Y := ⟨_, rfl⟩
    obtain ⟨Bx, hBx⟩ : ∃ b, X.heap.size = b := ⟨_, rfl⟩
    rw [hY] at hbx hKe hn2 hB2 hsn ⊢
    rw [hBx] at hbx hsz ⊢
    exact hKK Bx Y hsn hKe ⟨by first | rfl | trivial, hc, hn2, hB2⟩ hbx (fun h => h) hsz
  case bodyA =>
    rintro l' pre x o Bx X hsz ⟨rfl, hcnd, hn, hB⟩ hbx _ hle ⟨hlt, hwv⟩ hlen
    obtain ⟨f1, f2, f3, f4, f5, f6⟩ := F0.next hB
    obtain ⟨pw, cpw, ew, hcw⟩ := f4
    have hlp : pre.length < la.length := hlt
    obtain ⟨gw, hgw, hgwl, hw1, hw2⟩ := hcw pre.length hlp
    rw [List.getElem?_eq_getElem hlp] at hwv
    injection hwv with hwv
    rw [hwv] at hw1 hw2
    injection ew with ew1 ew2 ew3
    clear ew2 ew3
    rw [hgw] at ew1
    have hbd := (Below.refl X.heap.size X).drew
    have hc3 : X.drew.cell? ⟨g3, 0, none⟩ = some (.slice (some ⟨gw, 0, none⟩) nw cw) := by have h := (f3.below hbd f3.lt).one; rw [ew1] at h; exact h
    have hS : (fun U : World => U.cell? ⟨V0.heap.size, 0, none⟩ = some (.int .i64 (pre.length : Int)) ∧ U.cell? ⟨g3, 0, none⟩ = some (.slice (some ⟨gw, 0, none⟩) nw cw) ∧ U.cell? ⟨Bx, 0, none⟩ = some (.int .i64 x.1) ∧ U.cell? ⟨Bx, 1, none⟩ = some (.int .i64 x.2) ∧ U.cell? ⟨gw, pre.length * 2, none⟩ = some (.int .i64 x.1) ∧ U.cell? ⟨gw, pre.length * 2 + 1, none⟩ = some (.int .i64 x.2)) X.drew := ⟨(hn.below hbd hn.lt).one, hc3, (hbx.below hbd hbx.lt).cell 0, (hbx.below hbd hbx.lt).cell 1, hw1, hw2⟩
    have HNL := HNW.out
    have dg : decide ((nw : Int) ≤ (pre.length : Int)) = false := decide_eq_false (by rw [HNL]; omega)
    have dgN : decide (nw ≤ pre.length) = false := decide_eq_false (by rw [HNL]; omega)
    have hnl : ¬ nw ≤ pre.length := by rw [HNL]; omega
    have hlw : pre.length < nw := by rw [HNL]; exact hlt
    have i0 : (0 : Int) ≤ (pre.length : Int) := by omega
    have i2 : (pre.length : Int) < (nw : Int) := by omega
    clear HNL hcw hwv hgw hw1 hw2 ew1 hc3
    have hLm := HLM.out
    have hwr : IntKind.i64.wrap ((pre.length : Int) + 1) = (pre.length : Int) + 1 := IntWalk.i64_in _ (by omega)
    have ctx := (ct0.below hB ct0.lt).one
    have cm := f1.one
    have cn := hn.one
    have fn := hn.frozen 0
    have hbsz := hB.size
    have hl2 : Hid ((pre ++ [x]).length = pre.length + 1) := by unfold Hid; rw [List.length_append]; rfl
    have hkb : ∀ b, b ≠ V0.heap.size → ((X.drew).setCell ⟨V0.heap.size, 0, none⟩ (.int .i64 ((pre.length : Int) + 1))).heap[b]? = X.heap[b]? := fun b hb => (Below.heap_setCell X.drew ⟨V0.heap.size, 0, none⟩ _ b hb)
    have hks : KeepG lo (w8.heap.size - lo) X ((X.drew).setCell ⟨V0.heap.size, 0, none⟩ (.int .i64 ((pre.length : Int) + 1))) := ⟨⟨by simp, fun b h1 h2 => hkb b (by omega)⟩, fun h => laid_grownG HLL.out h.drew (grownBy_setCell' _ _ _) (fun r e => by injection e with e; subst e; show w.heap.size ≤ V0.heap.size; omega)⟩
    have hss : Go.Proofs.YtcchjofjpflbhaaGreatDoor.T.SinceO VaA.heap.size (fun _ => False) X ((X.drew).setCell ⟨V0.heap.size, 0, none⟩ (.int .i64 ((pre.length : Int) + 1))) := ⟨by simp, fun b h1 h2 h3 => hkb b (by omega)⟩
    have hT : Hid (Blk ((X.drew).setCell ⟨V0.heap.size, 0, none⟩ (.int .i64 ((pre.length : Int) + 1))) V0.heap.size 3 #[.int .i64 (((pre ++ [x]).length : Nat) : Int)] ∧ Below V0.heap.size V0 ((X.drew).setCell ⟨V0.heap.size, 0, none⟩ (.int .i64 ((pre.length : Int) + 1)))) := by
      unfold Hid
      rw [hl2.out]
      exact ⟨(hn.below hbd hn.lt).set_ 0 _, (hB.trans (hbd.mono hB.size)).setCell (Nat.le_refl _) _⟩
    clear hn hB f1 f2 f3 f5 f6 hbd hkb hbx
    gi_wp2_with fail
    refine wpIn_mono (region_HF (Q := NoPanic _) (S := (fun U : World => U.cell? ⟨V0.heap.size, 0, none⟩ = some (.int .i64 (pre.length : Int)) ∧ U.cell? ⟨g3, 0, none⟩ = some (.slice (some ⟨gw, 0, none⟩) nw cw) ∧ U.cell? ⟨Bx, 0, none⟩ = some (.int .i64 x.1) ∧ U.cell? ⟨Bx, 1, none⟩ = some (.int .i64 x.2) ∧ U.cell? ⟨gw, pre.length * 2, none⟩ = some (.int .i64 x.1) ∧ U.cell? ⟨gw, pre.length * 2 + 1, none⟩ = some (.int .i64 x.2))) (by kernel_rfl) ?_) NoPanic.imp
    refine anyHF_take (i := 0) (d := 53) (v := .int .i64 (pre.length : Int)) (by kernel_rfl) rfl (by kernel_rfl) (by kernel_rfl) (by kernel_rfl) rfl (fun _ _ _ h => h) ⟨Or.inl ⟨by rfl, fun w hS => by obtain ⟨h0, h1, h2, h3, h4, h5⟩ := hS; go_simp⟩, fun _ => rfl⟩ hS ?_
    simp only [List.setIfInBounds_toArray, List.set_cons_zero, List.set_cons_succ]
    refine anyHF_take (i := 1) (d := 54) (v := .slice (some ⟨gw, 0, none⟩) nw cw) (by kernel_rfl) rfl (by kernel_rfl) (by kernel_rfl) (by kernel_rfl) rfl (fun _ _ _ h => h) ⟨Or.inl ⟨by rfl, fun w hS => by obtain ⟨h0, h1, h2, h3, h4, h5⟩ := hS; go_simp⟩, fun _ => rfl⟩ hS ?_
    simp only [List.setIfInBounds_toArray, List.set_cons_zero, List.set_cons_succ]
    refine anyHF_take (i := 2) (d := 55) (v := .int .i64 (nw : Int)) (by kernel_rfl) rfl (by kernel_rfl) (by kernel_rfl) (by kernel_rfl) rfl (fun _ _ _ h => h) ⟨Or.inl ⟨by rfl, fun w hS => by obtain ⟨h0, h1, h2, h3, h4, h5⟩ := hS; go_simp⟩, fun _ => rfl⟩ hS ?_
    simp only [List.setIfInBounds_toArray, List.set_cons_zero, List.set_cons_succ]
    refine anyHF_take (i := 3) (d := 56) (v := .bool false) (by kernel_rfl) rfl (by kernel_rfl) (by kernel_rfl) (by kernel_rfl) rfl (fun _ _ _ h => h) ⟨Or.inl ⟨by rfl, fun w hS => by obtain ⟨h0, h1, h2, h3, h4, h5⟩ := hS; go_simp⟩, fun _ => rfl⟩ hS ?_
    simp only [List.setIfInBounds_toArray, List.set_cons_zero, List.set_cons_succ]
    refine anyHF_take (i := 4) (d := 57) (v := .bool false) (by kernel_rfl) rfl (by kernel_rfl) (by kernel_rfl) (by kernel_rfl) rfl (fun _ _ _ h => h) ⟨Or.inl ⟨by rfl, fun w hS => by obtain ⟨h0, h1, h2, h3, h4, h5⟩ := hS; go_simp⟩, fun _ => rfl⟩ hS ?_
    simp only [List.setIfInBounds_toArray, List.set_cons_zero, List.set_cons_succ]
    refine anyHF_take (i := 5) (d := 58) (v := .agg #[.int .i64 x.1, .int .i64 x.2]) (by kernel_rfl) rfl (by kernel_rfl) (by kernel_rfl) (by kernel_rfl) rfl (fun _ _ _ h => h) ⟨Or.inl ⟨by rfl, fun w hS => by obtain ⟨h0, h1, h2, h3, h4, h5⟩ := hS; go_simp⟩, fun _ => rfl⟩ hS ?_
    simp only [List.setIfInBounds_toArray, List.set_cons_zero, List.set_cons_succ]
    refine anyHF_take (i := 6) (d := 59) (v := .slice (some ⟨gw, 0, none⟩) nw cw) (by kernel_rfl) rfl (by kernel_rfl) (by kernel_rfl) (by kernel_rfl) rfl (fun _ _ _ h => h) ⟨Or.inl ⟨by rfl, fun w hS => by obtain ⟨h0, h1, h2, h3, h4, h5⟩ := hS; go_simp⟩, fun _ => rfl⟩ hS ?_
    simp only [List.setIfInBounds_toArray, List.set_cons_zero, List.set_cons_succ]
    refine anyHF_take (i := 7) (d := 60) (v := .int .i64 (pre.length : Int)) (by kernel_rfl) rfl (by kernel_rfl) (by kernel_rfl) (by kernel_rfl) rfl (fun _ _ _ h => h) ⟨Or.inl ⟨by rfl, fun w hS => by obtain ⟨h0, h1, h2, h3, h4, h5⟩ := hS; go_simp⟩, fun _ => rfl⟩ hS ?_
    simp only [List.setIfInBounds_toArray, List.set_cons_zero, List.set_cons_succ]
    refine anyHF_take (i := 8) (d := 61) (v := .pointer (some ⟨gw, pre.length * 2, none⟩)) (by kernel_rfl) rfl (by kernel_rfl) (by kernel_rfl) (by kernel_rfl) rfl (fun _ _ _ h => h) ⟨Or.inl ⟨by rfl, fun w hS => by obtain ⟨h0, h1, h2, h3, h4, h5⟩ := hS; go_simp⟩, fun _ => rfl⟩ hS ?_
    simp only [List.setIfInBounds_toArray, List.set_cons_zero, List.set_cons_succ]
    refine anyHF_take (i := 9) (d := 62) (v := .agg #[.int .i64 x.1, .int .i64 x.2]) (by kernel_rfl) rfl (by kernel_rfl) (by kernel_rfl) (by kernel_rfl) rfl (fun _ _ _ h => h) ⟨Or.inl ⟨by rfl, fun w hS => by obtain ⟨h0, h1, h2, h3, h4, h5⟩ := hS; go_simp⟩, fun _ => rfl⟩ hS ?_
    simp only [List.setIfInBounds_toArray, List.set_cons_zero, List.set_cons_succ]
    refine anyHF_take (i := 10) (d := 63) (v := .bool false) (by kernel_rfl) rfl (by kernel_rfl) (by kernel_rfl) (by kernel_rfl) rfl (fun _ _ _ h => h) ⟨Or.inl ⟨by rfl, fun w hS => by obtain ⟨h0, h1, h2, h3, h4, h5⟩ := hS; go_simp⟩, fun _ => rfl⟩ hS ?_
    simp only [List.setIfInBounds_toArray, List.set_cons_zero, List.set_cons_succ]
    refine anyHF_take (i := 11) (d := 64) (v := .bool false) (by kernel_rfl) rfl (by kernel_rfl) (by kernel_rfl) (by kernel_rfl) rfl (fun _ _ _ h => h) ⟨Or.inl ⟨by rfl, fun w hS => by obtain ⟨h0, h1, h2, h3, h4, h5⟩ := hS; go_simp⟩, fun _ => rfl⟩ hS ?_
    simp only [List.setIfInBounds_toArray, List.set_cons_zero, List.set_cons_succ]
    refine anyHF_done (by kernel_rfl) ?_ _
    refine NoPanic.normal ?_
    clear hS dg dgN hnl i2 hlw
    by_cases hm : many ≤ (pre.length : Int) + 1
    · have dm : decide (many ≤ (pre.length : Int) + 1) = true := decide_eq_true hm
      gi_wp2_with fail
      exact ⟨fun _ => False, Go.Proofs.YtcchjofjpflbhaaGreatDoor.T.FreshO.refl _ _, hss, hks, ⟨rfl, by rw [hl2.out]; omega, by rcases hcnd with h | h; left; rw [hl2.out]; omega; right; rw [hl2.out]; omega, by rw [hl2.out]; omega⟩, rfl, hT.out⟩
    · have dm : decide (many ≤ (pre.length : Int) + 1) = false := decide_eq_false hm
      gi_wp2_with fail
      exact ⟨fun _ => False, Go.Proofs.YtcchjofjpflbhaaGreatDoor.T.FreshO.refl _ _, hss, hks, rfl, .inr (by rw [hl2.out]; omega), hT.out⟩
  case doneA =>
    rintro DA xs o X hD _ hxs ⟨rfl, hcnd, hn, hB⟩ hK _
    have hxl : xs = la := hxs
    rw [hxl] at hn hcnd
    clear hxs hxl
    have HNL := HNW.out
    rw [← HNL] at hn
    obtain ⟨f1, f2, f3, f4, f5, f6⟩ := F0.next hB
    have cn := hn.one
    have clx := f3.one
    have ctx := (ct0.below hB ct0.lt).one
    have cmx := f1.one
    have lt0 := hB.size
    rw [← HNL] at hcnd
    have hmin : ((((nw : Nat) : Int)) != min ((nw : Nat) : Int) (max 1 many)) = false := by rw [bne_eq_false_iff_eq]; rcases hcnd with h | h <;> omega
    clear HNL
    have fV := F0.2.2.2.2.1
    have hs0 := fV.size
    gi_wp2
    clear cn clx ctx cmx f1 f2 f3 f4 f5 f6
    obtain ⟨V1B, hVn⟩ : ∃ Y, X.alloc (.cells #[.int .i64 1] 3) = Y := ⟨_, rfl⟩
    rw [hVn]
    have hBn : Below V0.heap.size V0 V1B := by rw [← hVn]; exact hB.alloc hB.size _
    have ct1 : Blk V1B X.heap.size 3 #[.int .i64 1] := by rw [← hVn]; exact Blk.new _ _ _
    have hDn : V1B.heap[DA]? = some (.deferred (some [])) := by rw [← hVn]; exact (Below.heap_alloc X _ DA (Array.getElem?_eq_some_iff.1 hK).1).trans hK
    have HL1 := HL0.more hBn (D := DA) (by omega) (by omega) hDn
    have F1 := F0.next hBn
    clear hVn hBn hDn hK hn hB ct0 F0 HL0 fV lt0 hs0
    clear hmin hcnd
    obtain ⟨tb, htb⟩ : ∃ tb, Hid (X.heap.size = tb) := ⟨_, rfl⟩
    rw [htb.out] at ct1 ⊢
    clear htb
    rw [roundsIn_succ]
    obtain ⟨f1, f2, f3, f4, f5, f6⟩ := id F1
    have ctt := ct1.one
    have hlt1 := f1.lt
    have hlt2 := f2.lt
    have hlt3 := f3.lt
    have hltt := ct1.lt
    have hs8 := f6.size
    gi_wp2_with fail
    have hn0 : Blk (V1B.alloc (.cells #[.int .i64 0] 3)) V1B.heap.size 3 #[.int .i64 (([] : List (Int × Int)).length : Int)] := Blk.new _ _ _
    have hBa := below_one V1B (.cells #[.int .i64 0] 3)
    have h8a := below_in f6 hBa
    clear ctt
    obtain ⟨VaB, hVa⟩ : ∃ X, V1B.alloc (.cells #[.int .i64 0] 3) = X := ⟨_, rfl⟩
    rw [hVa] at hn0 hBa h8a ⊢
    clear hVa
    have hna := hn0.lt
    clear f1 f2 f3 f4 f5 f6
    refine Go.Proofs.YtcchjofjpflbhaaGreatDoor.T.wpIn_rangeBoxP rfl (by omega) (gf := gf) (lb := lb) rfl trivial hen (HSQ.out 8 (by omega)) (fun h h' => h.trans h') (fun W l ob h1 _ _ => ⟨Keep.putFar W (by omega) ob, Go.Proofs.YtcchjofjpflbhaaGreatDoor.T.laid_put HLL.out (by omega) ob⟩) h8a (fun _ => rfl)
      (fun (pre : List (Int × Int)) o X => (o = fun _ => False) ∧ True ∧ Blk X V1B.heap.size 3 #[.int .i64 (pre.length : Int)] ∧ Below V1B.heap.size V1B X)
      (fun c (pre : List (Int × Int)) o X => False ∧ (o = fun _ => False) ∧ Blk X V1B.heap.size 3 #[.int .i64 (pre.length : Int)] ∧ Below V1B.heap.size V1B X)
      ?hIB ?hIxB (fun _ => False) (fun b e => e.elim) ⟨rfl, trivial, hn0, hBa⟩
      (fun pre x => pre.length < la.length ∧ la[pre.length]? = some x) (fun pre x W h => hPRE.out pre x h) 31 (fun x : Int × Int => #[.int .i64 x.1, .int .i64 x.2]) ?actB
      ?assignB (fun pre o X h => by obtain ⟨rfl, _⟩ := h; exact fun b hb => hb.elim) ?hrowxB ?bodyB ?doneB ?stopB
    case hIB =>
      rintro s o X Y row ⟨rfl, hc, hn, hB⟩ hgr hr
      have hne : some (V1B.heap.size) ≠ row := fun e => by have := (hr _ e.symm).1; omega
      exact ⟨rfl, hc, hn.grown hgr hne, below_grown hB hgr hB.size (fun r e => by have := (hr r e).1; omega)⟩
    case hIxB => exact fun c s o X Y row h _ _ => h.1.elim
    case hrowxB => exact fun c pre o X h => by obtain ⟨_, rfl, _⟩ := h; exact fun b hb => hb.elim
    case assignB =>
      rintro l' pre x o X KK hsz hol ⟨rfl, hc, hn, hB⟩ _ hKK
      simp only [encA]
      gi_wp2
      have hbx := Blk.new X 31 #[.int .i64 x.1, .int .i64 x.2]
      have hBz := below_one X (.cells #[.int .i64 x.1, .int .i64 x.2] 31)
      have hKe : KeepG lo (w8.heap.size - lo) X (X.alloc (.cells #[.int .i64 x.1, .int .i64 x.2] 31)) := ⟨Keep.alloc (by omega) _, fun h => h.next hBz⟩
      have hn2 := hn.below hBz hn.lt
      have hB2 := hB.trans (hBz.mono hB.size)
      have hsn : Go.Proofs.YtcchjofjpflbhaaGreatDoor.T.SinceO VaB.heap.size (fun _ => False) X _ := Go.Proofs.YtcchjofjpflbhaaGreatDoor.T.SinceO.below hBz
      obtain ⟨Y, hY⟩ : ∃ Y, X.alloc (.cells #[.int .i64 x.1, .int .i64 x.2] 31) = Y := ⟨_, rfl⟩
      obtain ⟨Bx, hBx⟩ : ∃ b, X.heap.size = b := ⟨_, rfl⟩
      rw [hY] at hbx hKe hn2 hB2 hsn ⊢
      rw [hBx] at hbx hsz ⊢
      exact hKK Bx Y hsn hKe ⟨by first | rfl | trivial, hc, hn2, hB2⟩ hbx (fun h => h) hsz
    case bodyB =>
      rintro l' pre x o Bx X hsz ⟨rfl, hcnd, hn, hB⟩ hbx _ hle ⟨hlt, hwv⟩ hlen
      obtain ⟨f1, f2, f3, f4, f5, f6⟩ := F1.next hB
      obtain ⟨pw, cpw, ew, hcw⟩ := f4
      have hlp : pre.length < la.length := hlt
      obtain ⟨gw, hgw, hgwl, hw1, hw2⟩ := hcw pre.length hlp
      rw [List.getElem?_eq_getElem hlp] at hwv
      injection hwv with hwv
      rw [hwv] at hw1 hw2
      injection ew with ew1 ew2 ew3
      clear ew2 ew3
      rw [hgw] at ew1
      have hbd := (Below.refl X.heap.size X).drew
      have hc3 : X.drew.cell? ⟨g3, 0, none⟩ = some (.slice (some ⟨gw, 0, none⟩) nw cw) := by have h := (f3.below hbd f3.lt).one; rw [ew1] at h; exact h
      have hS : (fun U : World => U.cell? ⟨V1B.heap.size, 0, none⟩ = some (.int .i64 (pre.length : Int)) ∧ U.cell? ⟨g3, 0, none⟩ = some (.slice (some ⟨gw, 0, none⟩) nw cw) ∧ U.cell? ⟨Bx, 0, none⟩ = some (.int .i64 x.1) ∧ U.cell? ⟨Bx, 1, none⟩ = some (.int .i64 x.2) ∧ U.cell? ⟨gw, pre.length * 2, none⟩ = some (.int .i64 x.1) ∧ U.cell? ⟨gw, pre.length * 2 + 1, none⟩ = some (.int .i64 x.2)) X.drew := ⟨(hn.below hbd hn.lt).one, hc3, (hbx.below hbd hbx.lt).cell 0, (hbx.below hbd hbx.lt).cell 1, hw1, hw2⟩
      have HNL := HNW.out
      have dg : decide ((nw : Int) ≤ (pre.length : Int)) = false := decide_eq_false (by rw [HNL]; omega)
      have dgN : decide (nw ≤ pre.length) = false := decide_eq_false (by rw [HNL]; omega)
      have hnl : ¬ nw ≤ pre.length := by rw [HNL]; omega
      have hlw : pre.length < nw := by rw [HNL]; exact hlt
      have i0 : (0 : Int) ≤ (pre.length : Int) := by omega
      have i2 : (pre.length : Int) < (nw : Int) := by omega
      clear HNL hcw hwv hgw hw1 hw2 ew1 hc3
      have hLm := HLM.out
      have hwr : IntKind.i64.wrap ((pre.length : Int) + 1) = (pre.length : Int) + 1 := IntWalk.i64_in _ (by omega)
      have ctx := (ct1.below hB ct1.lt).one
      have cm := f1.one
      have cn := hn.one
      have fn := hn.frozen 0
      have hbsz := hB.size
      have hl2 : Hid ((pre ++ [x]).length = pre.length + 1) := by unfold Hid; rw [List.length_append]; rfl
      have hkb : ∀ b, b ≠ V1B.heap.size → ((X.drew).setCell ⟨V1B.heap.size, 0, none⟩ (.int .i64 ((pre.length : Int) + 1))).heap[b]? = X.heap[b]? := fun b hb => (Below.heap_setCell X.drew ⟨V1B.heap.size, 0, none⟩ _ b hb)
      have hks : KeepG lo (w8.heap.size - lo) X ((X.drew).setCell ⟨V1B.heap.size, 0, none⟩ (.int .i64 ((pre.length : Int) + 1))) := ⟨⟨by simp, fun b h1 h2 => hkb b (by omega)⟩, fun h => laid_grownG HLL.out h.drew (grownBy_setCell' _ _ _) (fun r e => by injection e with e; subst e; show w.heap.size ≤ V1B.heap.size; omega)⟩
      have hss : Go.Proofs.YtcchjofjpflbhaaGreatDoor.T.SinceO VaB.heap.size (fun _ => False) X ((X.drew).setCell ⟨V1B.heap.size, 0, none⟩ (.int .i64 ((pre.length : Int) + 1))) := ⟨by simp, fun b h1 h2 h3 => hkb b (by omega)⟩
      have hT : Hid (Blk ((X.drew).setCell ⟨V1B.heap.size, 0, none⟩ (.int .i64 ((pre.length : Int) + 1))) V1B.heap.size 3 #[.int .i64 (((pre ++ [x]).length : Nat) : Int)] ∧ Below V1B.heap.size V1B ((X.drew).setCell ⟨V1B.heap.size, 0, none⟩ (.int .i64 ((pre.length : Int) + 1)))) := by
        unfold Hid
        rw [hl2.out]
        exact ⟨(hn.below hbd hn.lt).set_ 0 _, (hB.trans (hbd.mono hB.size)).setCell (Nat.le_refl _) _⟩
      clear hn hB f1 f2 f3 f5 f6 hbd hkb hbx
      gi_wp2_with fail
      refine wpIn_mono (region_HF (Q := NoPanic _) (S := (fun U : World => U.cell? ⟨V1B.heap.size, 0, none⟩ = some (.int .i64 (pre.length : Int)) ∧ U.cell? ⟨g3, 0, none⟩ = some (.slice (some ⟨gw, 0, none⟩) nw cw) ∧ U.cell? ⟨Bx, 0, none⟩ = some (.int .i64 x.1) ∧ U.cell? ⟨Bx, 1, none⟩ = some (.int .i64 x.2) ∧ U.cell? ⟨gw, pre.length * 2, none⟩ = some (.int .i64 x.1) ∧ U.cell? ⟨gw, pre.length * 2 + 1, none⟩ = some (.int .i64 x.2))) (by kernel_rfl) ?_) NoPanic.imp
      refine anyHF_take (i := 0) (d := 53) (v := .int .i64 (pre.length : Int)) (by kernel_rfl) rfl (by kernel_rfl) (by kernel_rfl) (by kernel_rfl) rfl (fun _ _ _ h => h) ⟨Or.inl ⟨by rfl, fun w hS => by obtain ⟨h0, h1, h2, h3, h4, h5⟩ := hS; go_simp⟩, fun _ => rfl⟩ hS ?_
      simp only [List.setIfInBounds_toArray, List.set_cons_zero, List.set_cons_succ]
      refine anyHF_take (i := 1) (d := 54) (v := .slice (some ⟨gw, 0, none⟩) nw cw) (by kernel_rfl) rfl (by kernel_rfl) (by kernel_rfl) (by kernel_rfl) rfl (fun _ _ _ h => h) ⟨Or.inl ⟨by rfl, fun w hS => by obtain ⟨h0, h1, h2, h3, h4, h5⟩ := hS; go_simp⟩, fun _ => rfl⟩ hS ?_
      simp only [List.setIfInBounds_toArray, List.set_cons_zero, List.set_cons_succ]
      refine anyHF_take (i := 2) (d := 55) (v := .int .i64 (nw : Int)) (by kernel_rfl) rfl (by kernel_rfl) (by kernel_rfl) (by kernel_rfl) rfl (fun _ _ _ h => h) ⟨Or.inl ⟨by rfl, fun w hS => by obtain ⟨h0, h1, h2, h3, h4, h5⟩ := hS; go_simp⟩, fun _ => rfl⟩ hS ?_
      simp only [List.setIfInBounds_toArray, List.set_cons_zero, List.set_cons_succ]
      refine anyHF_take (i := 3) (d := 56) (v := .bool false) (by kernel_rfl) rfl (by kernel_rfl) (by kernel_rfl) (by kernel_rfl) rfl (fun _ _ _ h => h) ⟨Or.inl ⟨by rfl, fun w hS => by obtain ⟨h0, h1, h2, h3, h4, h5⟩ := hS; go_simp⟩, fun _ => rfl⟩ hS ?_
      simp only [List.setIfInBounds_toArray, List.set_cons_zero, List.set_cons_succ]
      refine anyHF_take (i := 4) (d := 57) (v := .bool false) (by kernel_rfl) rfl (by kernel_rfl) (by kernel_rfl) (by kernel_rfl) rfl (fun _ _ _ h => h) ⟨Or.inl ⟨by rfl, fun w hS => by obtain ⟨h0, h1, h2, h3, h4, h5⟩ := hS; go_simp⟩, fun _ => rfl⟩ hS ?_
      simp only [List.setIfInBounds_toArray, List.set_cons_zero, List.set_cons_succ]
      refine anyHF_take (i := 5) (d := 58) (v := .agg #[.int .i64 x.1, .int .i64 x.2]) (by kernel_rfl) rfl (by kernel_rfl) (by kernel_rfl) (by kernel_rfl) rfl (fun _ _ _ h => h) ⟨Or.inl ⟨by rfl, fun w hS => by obtain ⟨h0, h1, h2, h3, h4, h5⟩ := hS; go_simp⟩, fun _ => rfl⟩ hS ?_
      simp only [List.setIfInBounds_toArray, List.set_cons_zero, List.set_cons_succ]
      refine anyHF_take (i := 6) (d := 59) (v := .slice (some ⟨gw, 0, none⟩) nw cw) (by kernel_rfl) rfl (by kernel_rfl) (by kernel_rfl) (by kernel_rfl) rfl (fun _ _ _ h => h) ⟨Or.inl ⟨by rfl, fun w hS => by obtain ⟨h0, h1, h2, h3, h4, h5⟩ := hS; go_simp⟩, fun _ => rfl⟩ hS ?_
      simp only [List.setIfInBounds_toArray, List.set_cons_zero, List.set_cons_succ]
      refine anyHF_take (i := 7) (d := 60) (v := .int .i64 (pre.length : Int)) (by kernel_rfl) rfl (by kernel_rfl) (by kernel_rfl) (by kernel_rfl) rfl (fun _ _ _ h => h) ⟨Or.inl ⟨by rfl, fun w hS => by obtain ⟨h0, h1, h2, h3, h4, h5⟩ := hS; go_simp⟩, fun _ => rfl⟩ hS ?_
      simp only [List.setIfInBounds_toArray, List.set_cons_zero, List.set_cons_succ]
      refine anyHF_take (i := 8) (d := 61) (v := .pointer (some ⟨gw, pre.length * 2, none⟩)) (by kernel_rfl) rfl (by kernel_rfl) (by kernel_rfl) (by kernel_rfl) rfl (fun _ _ _ h => h) ⟨Or.inl ⟨by rfl, fun w hS => by obtain ⟨h0, h1, h2, h3, h4, h5⟩ := hS; go_simp⟩, fun _ => rfl⟩ hS ?_
      simp only [List.setIfInBounds_toArray, List.set_cons_zero, List.set_cons_succ]
      refine anyHF_take (i := 9) (d := 62) (v := .agg #[.int .i64 x.1, .int .i64 x.2]) (by kernel_rfl) rfl (by kernel_rfl) (by kernel_rfl) (by kernel_rfl) rfl (fun _ _ _ h => h) ⟨Or.inl ⟨by rfl, fun w hS => by obtain ⟨h0, h1, h2, h3, h4, h5⟩ := hS; go_simp⟩, fun _ => rfl⟩ hS ?_
      simp only [List.setIfInBounds_toArray, List.set_cons_zero, List.set_cons_succ]
      refine anyHF_take (i := 10) (d := 63) (v := .bool false) (by kernel_rfl) rfl (by kernel_rfl) (by kernel_rfl) (by kernel_rfl) rfl (fun _ _ _ h => h) ⟨Or.inl ⟨by rfl, fun w hS => by obtain ⟨h0, h1, h2, h3, h4, h5⟩ := hS; go_simp⟩, fun _ => rfl⟩ hS ?_
      simp only [List.setIfInBounds_toArray, List.set_cons_zero, List.set_cons_succ]
      refine anyHF_take (i := 11) (d := 64) (v := .bool false) (by kernel_rfl) rfl (by kernel_rfl) (by kernel_rfl) (by kernel_rfl) rfl (fun _ _ _ h => h) ⟨Or.inl ⟨by rfl, fun w hS => by obtain ⟨h0, h1, h2, h3, h4, h5⟩ := hS; go_simp⟩, fun _ => rfl⟩ hS ?_
      simp only [List.setIfInBounds_toArray, List.set_cons_zero, List.set_cons_succ]
      refine anyHF_done (by kernel_rfl) ?_ _
      refine NoPanic.normal ?_
      clear hS dg dgN hnl i2 hlw
      gi_wp2_with fail
      exact ⟨fun _ => False, Go.Proofs.YtcchjofjpflbhaaGreatDoor.T.FreshO.refl _ _, hss, hks, rfl, trivial, hT.out⟩
    case doneB =>
      rintro DB xs o X hD _ hxs ⟨rfl, hcnd, hn, hB⟩ hK _
      have hxl : xs = la := hxs
      rw [hxl] at hn
      clear hxs hxl
      have HNL := HNW.out
      rw [← HNL] at hn
      obtain ⟨f1, f2, f3, f4, f5, f6⟩ := F1.next hB
      have cn := hn.one
      have clx := f3.one
      have ctx := (ct1.below hB ct1.lt).one
      have cmx := f1.one
      have lt0 := hB.size
      have hne1 : ((((nw : Nat) : Int)) != ((nw : Nat) : Int)) = false := by simp
      clear HNL
      have fV := F1.2.2.2.2.1
      have hs0 := fV.size
      gi_wp2
      clear cn clx ctx cmx f1 f2 f3 f4 f5 f6
      obtain ⟨V2B, hVn⟩ : ∃ Y, X.alloc (.cells #[.int .i64 2] 3) = Y := ⟨_, rfl⟩
      rw [hVn]
      have hBn : Below V1B.heap.size V1B V2B := by rw [← hVn]; exact hB.alloc hB.size _
      have ct2 : Blk V2B X.heap.size 3 #[.int .i64 2] := by rw [← hVn]; exact Blk.new _ _ _
      have hDn : V2B.heap[DB]? = some (.deferred (some [])) := by rw [← hVn]; exact (Below.heap_alloc X _ DB (Array.getElem?_eq_some_iff.1 hK).1).trans hK
      have HL2 := HL1.more hBn (D := DB) (by omega) (by omega) hDn
      have F2 := F1.next hBn
      clear hVn hBn hDn hK hn hB ct1 F1 HL1 fV lt0 hs0
      clear hne1
      rw [roundsIn_succ]
      obtain ⟨f1, f2, f3, f4, f5, f6⟩ := id F2
      have ctx := ct2.one
      have hs4 := f2.lt
      gi_wp2_with fail
      go_wp2_with fail
      refine (works12_any _ (HLW.out _ f5)).mono ?_
      rintro e wf ⟨rfl, hBf⟩
      have f4f := f2.below hBf f2.lt
      have crx := f4f.one
      have frx := f4f.frozen 0
      have hb3 := f4f.set_ 0 (.bool true)
      have hLf := (HL2.below hBf).set_ ⟨g2, 0, none⟩ (.bool true)
      have hBz : Below w.heap.size w (wf.setCell ⟨g2, 0, none⟩ (.bool true)) := (below_in f5 hBf).setCell (by show w.heap.size ≤ g2; omega) _
      go_wp2
      refine leaves_blks w _ _ hLf hBz (fun W' hB' hk => ?_)
      have r0 := (hk _ _ _ hb3).one
      exact ⟨.bool true, by simp [results, Tryz.results3, go_sem, r0], rfl, hB'⟩
    case stopB =>
      rintro D c pre o X hD _ hsp ⟨h, _⟩ hK _
      exact h.elim
  case stopA =>
    rintro DA c pre o X hD _ hsp ⟨⟨rfl, hx1, hx2, hx3⟩, rfl, hn, hB⟩ hK _
    have hple : pre.length ≤ la.length := List.IsPrefix.length_le hsp
    clear hsp
    have HNL := HNW.out
    rw [← HNL] at hple
    obtain ⟨f1, f2, f3, f4, f5, f6⟩ := F0.next hB
    have cn := hn.one
    have clx := f3.one
    have ctx := (ct0.below hB ct0.lt).one
    have cmx := f1.one
    have lt0 := hB.size
    have hmin : ((pre.length : Int) != min ((nw : Nat) : Int) (max 1 many)) = false := by rw [bne_eq_false_iff_eq]; rcases hx2 with h | h <;> omega
    clear HNL
    have fV := F0.2.2.2.2.1
    have hs0 := fV.size
    gi_wp2
    clear cn clx ctx cmx f1 f2 f3 f4 f5 f6
    obtain ⟨V1C, hVn⟩ : ∃ Y, X.alloc (.cells #[.int .i64 1] 3) = Y := ⟨_, rfl⟩
    rw [hVn]
    have hBn : Below V0.heap.size V0 V1C := by rw [← hVn]; exact hB.alloc hB.size _
    have ct1 : Blk V1C X.heap.size 3 #[.int .i64 1] := by rw [← hVn]; exact Blk.new _ _ _
    have hDn : V1C.heap[DA]? = some (.deferred (some [])) := by rw [← hVn]; exact (Below.heap_alloc X _ DA (Array.getElem?_eq_some_iff.1 hK).1).trans hK
    have HL1 := HL0.more hBn (D := DA) (by omega) (by omega) hDn
    have F1 := F0.next hBn
    clear hVn hBn hDn hK hn hB ct0 F0 HL0 fV lt0 hs0
    clear hmin hx1 hx2 hx3 hple
    obtain ⟨tb, htb⟩ : ∃ tb, Hid (X.heap.size = tb) := ⟨_, rfl⟩
    rw [htb.out] at ct1 ⊢
    clear htb
    rw [roundsIn_succ]
    obtain ⟨f1, f2, f3, f4, f5, f6⟩ := id F1
    have ctt := ct1.one
    have hlt1 := f1.lt
    have hlt2 := f2.lt
    have hlt3 := f3.lt
    have hltt := ct1.lt
    have hs8 := f6.size
    gi_wp2_with fail
    have hn0 : Blk (V1C.alloc (.cells #[.int .i64 0] 3)) V1C.heap.size 3 #[.int .i64 (([] : List (Int × Int)).length : Int)] := Blk.new _ _ _
    have hBa := below_one V1C (.cells #[.int .i64 0] 3)
    have h8a := below_in f6 hBa
    clear ctt
    obtain ⟨VaC, hVa⟩ : ∃ X, V1C.alloc (.cells #[.int .i64 0] 3) = X := ⟨_, rfl⟩
    rw [hVa] at hn0 hBa h8a ⊢
    clear hVa
    have hna := hn0.lt
    clear f1 f2 f3 f4 f5 f6
    refine Go.Proofs.YtcchjofjpflbhaaGreatDoor.T.wpIn_rangeBoxP rfl (by omega) (gf := gf) (lb := lb) rfl trivial hen (HSQ.out 8 (by omega)) (fun h h' => h.trans h') (fun W l ob h1 _ _ => ⟨Keep.putFar W (by omega) ob, Go.Proofs.YtcchjofjpflbhaaGreatDoor.T.laid_put HLL.out (by omega) ob⟩) h8a (fun _ => rfl)
      (fun (pre : List (Int × Int)) o X => (o = fun _ => False) ∧ True ∧ Blk X V1C.heap.size 3 #[.int .i64 (pre.length : Int)] ∧ Below V1C.heap.size V1C X)
      (fun c (pre : List (Int × Int)) o X => False ∧ (o = fun _ => False) ∧ Blk X V1C.heap.size 3 #[.int .i64 (pre.length : Int)] ∧ Below V1C.heap.size V1C X)
      ?hIC ?hIxC (fun _ => False) (fun b e => e.elim) ⟨rfl, trivial, hn0, hBa⟩
      (fun pre x => pre.length < la.length ∧ la[pre.length]? = some x) (fun pre x W h => hPRE.out pre x h) 31 (fun x : Int × Int => #[.int .i64 x.1, .int .i64 x.2]) ?actC
      ?assignC (fun pre o X h => by obtain ⟨rfl, _⟩ := h; exact fun b hb => hb.elim) ?hrowxC ?bodyC ?doneC ?stopC
    case hIC =>
      rintro s o X Y row ⟨rfl, hc, hn, hB⟩ hgr hr
      have hne : some (V1C.heap.size) ≠ row := fun e => by have := (hr _ e.symm).1; omega
      exact ⟨rfl, hc, hn.grown hgr hne, below_grown hB hgr hB.size (fun r e => by have := (hr r e).1; omega)⟩
    case hIxC => exact fun c s o X Y row h _ _ => h.1.elim
    case hrowxC => exact fun c pre o X h => by obtain ⟨_, rfl, _⟩ := h; exact fun b hb => hb.elim
    case assignC =>
      rintro l' pre x o X KK hsz hol ⟨rfl, hc, hn, hB⟩ _ hKK
      simp only [encA]
      gi_wp2
      have hbx := Blk.new X 31 #[.int .i64 x.1, .int .i64 x.2]
      have hBz := below_one X (.cells #[.int .i64 x.1, .int .i64 x.2] 31)
      have hKe : KeepG lo (w8.heap.size - lo) X (X.alloc (.cells #[.int .i64 x.1, .int .i64 x.2] 31)) := ⟨Keep.alloc (by omega) _, fun h => h.next hBz⟩
      have hn2 := hn.below hBz hn.lt
      have hB2 := hB.trans (hBz.mono hB.size)
      have hsn : Go.Proofs.YtcchjofjpflbhaaGreatDoor.T.SinceO VaC.heap.size (fun _ => False) X _ := Go.Proofs.YtcchjofjpflbhaaGreatDoor.T.SinceO.below hBz
      obtain ⟨Y, hY⟩ : ∃ Y, X.alloc (.cells #[.int .i64 x.1, .int .i64 x.2] 31) = Y := ⟨_, rfl⟩
      obtain ⟨Bx, hBx⟩ : ∃ b, X.heap.size = b := ⟨_, rfl⟩
      rw [hY] at hbx hKe hn2 hB2 hsn ⊢
      rw [hBx] at hbx hsz ⊢
      exact hKK Bx Y hsn hKe ⟨by first | rfl | trivial, hc, hn2, hB2⟩ hbx (fun h => h) hsz
    case bodyC =>
      rintro l' pre x o Bx X hsz ⟨rfl, hcnd, hn, hB⟩ hbx _ hle ⟨hlt, hwv⟩ hlen
      obtain ⟨f1, f2, f3, f4, f5, f6⟩ := F1.next hB
      obtain ⟨pw, cpw, ew, hcw⟩ := f4
      have hlp : pre.length < la.length := hlt
      obtain ⟨gw, hgw, hgwl, hw1, hw2⟩ := hcw pre.length hlp
      rw [List.getElem?_eq_getElem hlp] at hwv
      injection hwv with hwv
      rw [hwv] at hw1 hw2
      injection ew with ew1 ew2 ew3
      clear ew2 ew3
      rw [hgw] at ew1
      have hbd := (Below.refl X.heap.size X).drew
      have hc3 : X.drew.cell? ⟨g3, 0, none⟩ = some (.slice (some ⟨gw, 0, none⟩) nw cw) := by have h := (f3.below hbd f3.lt).one; rw [ew1] at h; exact h
      have hS : (fun U : World => U.cell? ⟨V1C.heap.size, 0, none⟩ = some (.int .i64 (pre.length : Int)) ∧ U.cell? ⟨g3, 0, none⟩ = some (.slice (some ⟨gw, 0, none⟩) nw cw) ∧ U.cell? ⟨Bx, 0, none⟩ = some (.int .i64 x.1) ∧ U.cell? ⟨Bx, 1, none⟩ = some (.int .i64 x.2) ∧ U.cell? ⟨gw, pre.length * 2, none⟩ = some (.int .i64 x.1) ∧ U.cell? ⟨gw, pre.length * 2 + 1, none⟩ = some (.int .i64 x.2)) X.drew := ⟨(hn.below hbd hn.lt).one, hc3, (hbx.below hbd hbx.lt).cell 0, (hbx.below hbd hbx.lt).cell 1, hw1, hw2⟩
      have HNL := HNW.out
      have dg : decide ((nw : Int) ≤ (pre.length : Int)) = false := decide_eq_false (by rw [HNL]; omega)
      have dgN : decide (nw ≤ pre.length) = false := decide_eq_false (by rw [HNL]; omega)
      have hnl : ¬ nw ≤ pre.length := by rw [HNL]; omega
      have hlw : pre.length < nw := by rw [HNL]; exact hlt
      have i0 : (0 : Int) ≤ (pre.length : Int) := by omega
      have i2 : (pre.length : Int) < (nw : Int) := by omega
      clear HNL hcw hwv hgw hw1 hw2 ew1 hc3
      have hLm := HLM.out
      have hwr : IntKind.i64.wrap ((pre.length : Int) + 1) = (pre.length : Int) + 1 := IntWalk.i64_in _ (by omega)
      have ctx := (ct1.below hB ct1.lt).one
      have cm := f1.one
      have cn := hn.one
      have fn := hn.frozen 0
      have hbsz := hB.size
      have hl2 : Hid ((pre ++ [x]).length = pre.length + 1) := by unfold Hid; rw [List.length_append]; rfl
      have hkb : ∀ b, b ≠ V1C.heap.size → ((X.drew).setCell ⟨V1C.heap.size, 0, none⟩ (.int .i64 ((pre.length : Int) + 1))).heap[b]? = X.heap[b]? := fun b hb => (Below.heap_setCell X.drew ⟨V1C.heap.size, 0, none⟩ _ b hb)
      have hks : KeepG lo (w8.heap.size - lo) X ((X.drew).setCell ⟨V1C.heap.size, 0, none⟩ (.int .i64 ((pre.length : Int) + 1))) := ⟨⟨by simp, fun b h1 h2 => hkb b (by omega)⟩, fun h => laid_grownG HLL.out h.drew (grownBy_setCell' _ _ _) (fun r e => by injection e with e; subst e; show w.heap.size ≤ V1C.heap.size; omega)⟩
      have hss : Go.Proofs.YtcchjofjpflbhaaGreatDoor.T.SinceO VaC.heap.size (fun _ => False) X ((X.drew).setCell ⟨V1C.heap.size, 0, none⟩ (.int .i64 ((pre.length : Int) + 1))) := ⟨by simp, fun b h1 h2 h3 => hkb b (by omega)⟩
      have hT : Hid (Blk ((X.drew).setCell ⟨V1C.heap.size, 0, none⟩ (.int .i64 ((pre.length : Int) + 1))) V1C.heap.size 3 #[.int .i64 (((pre ++ [x]).length : Nat) : Int)] ∧ Below V1C.heap.size V1C ((X.drew).setCell ⟨V1C.heap.size, 0, none⟩ (.int .i64 ((pre.length : Int) + 1)))) := by
        unfold Hid
        rw [hl2.out]
        exact ⟨(hn.below hbd hn.lt).set_ 0 _, (hB.trans (hbd.mono hB.size)).setCell (Nat.le_refl _) _⟩
      clear hn hB f1 f2 f3 f5 f6 hbd hkb hbx
      gi_wp2_with fail
      refine wpIn_mono (region_HF (Q := NoPanic _) (S := (fun U : World => U.cell? ⟨V1C.heap.size, 0, none⟩ = some (.int .i64 (pre.length : Int)) ∧ U.cell? ⟨g3, 0, none⟩ = some (.slice (some ⟨gw, 0, none⟩) nw cw) ∧ U.cell? ⟨Bx, 0, none⟩ = some (.int .i64 x.1) ∧ U.cell? ⟨Bx, 1, none⟩ = some (.int .i64 x.2) ∧ U.cell? ⟨gw, pre.length * 2, none⟩ = some (.int .i64 x.1) ∧ U.cell? ⟨gw, pre.length * 2 + 1, none⟩ = some (.int .i64 x.2))) (by kernel_rfl) ?_) NoPanic.imp
      refine anyHF_take (i := 0) (d := 53) (v := .int .i64 (pre.length : Int)) (by kernel_rfl) rfl (by kernel_rfl) (by kernel_rfl) (by kernel_rfl) rfl (fun _ _ _ h => h) ⟨Or.inl ⟨by rfl, fun w hS => by obtain ⟨h0, h1, h2, h3, h4, h5⟩ := hS; go_simp⟩, fun _ => rfl⟩ hS ?_
      simp only [List.setIfInBounds_toArray, List.set_cons_zero, List.set_cons_succ]
      refine anyHF_take (i := 1) (d := 54) (v := .slice (some ⟨gw, 0, none⟩) nw cw) (by kernel_rfl) rfl (by kernel_rfl) (by kernel_rfl) (by kernel_rfl) rfl (fun _ _ _ h => h) ⟨Or.inl ⟨by rfl, fun w hS => by obtain ⟨h0, h1, h2, h3, h4, h5⟩ := hS; go_simp⟩, fun _ => rfl⟩ hS ?_
      simp only [List.setIfInBounds_toArray, List.set_cons_zero, List.set_cons_succ]
      refine anyHF_take (i := 2) (d := 55) (v := .int .i64 (nw : Int)) (by kernel_rfl) rfl (by kernel_rfl) (by kernel_rfl) (by kernel_rfl) rfl (fun _ _ _ h => h) ⟨Or.inl ⟨by rfl, fun w hS => by obtain ⟨h0, h1, h2, h3, h4, h5⟩ := hS; go_simp⟩, fun _ => rfl⟩ hS ?_
      simp only [List.setIfInBounds_toArray, List.set_cons_zero, List.set_cons_succ]
      refine anyHF_take (i := 3) (d := 56) (v := .bool false) (by kernel_rfl) rfl (by kernel_rfl) (by kernel_rfl) (by kernel_rfl) rfl (fun _ _ _ h => h) ⟨Or.inl ⟨by rfl, fun w hS => by obtain ⟨h0, h1, h2, h3, h4, h5⟩ := hS; go_simp⟩, fun _ => rfl⟩ hS ?_
      simp only [List.setIfInBounds_toArray, List.set_cons_zero, List.set_cons_succ]
      refine anyHF_take (i := 4) (d := 57) (v := .bool false) (by kernel_rfl) rfl (by kernel_rfl) (by kernel_rfl) (by kernel_rfl) rfl (fun _ _ _ h => h) ⟨Or.inl ⟨by rfl, fun w hS => by obtain ⟨h0, h1, h2, h3, h4, h5⟩ := hS; go_simp⟩, fun _ => rfl⟩ hS ?_
      simp only [List.setIfInBounds_toArray, List.set_cons_zero, List.set_cons_succ]
      refine anyHF_take (i := 5) (d := 58) (v := .agg #[.int .i64 x.1, .int .i64 x.2]) (by kernel_rfl) rfl (by kernel_rfl) (by kernel_rfl) (by kernel_rfl) rfl (fun _ _ _ h => h) ⟨Or.inl ⟨by rfl, fun w hS => by obtain ⟨h0, h1, h2, h3, h4, h5⟩ := hS; go_simp⟩, fun _ => rfl⟩ hS ?_
      simp only [List.setIfInBounds_toArray, List.set_cons_zero, List.set_cons_succ]
      refine anyHF_take (i := 6) (d := 59) (v := .slice (some ⟨gw, 0, none⟩) nw cw) (by kernel_rfl) rfl (by kernel_rfl) (by kernel_rfl) (by kernel_rfl) rfl (fun _ _ _ h => h) ⟨Or.inl ⟨by rfl, fun w hS => by obtain ⟨h0, h1, h2, h3, h4, h5⟩ := hS; go_simp⟩, fun _ => rfl⟩ hS ?_
      simp only [List.setIfInBounds_toArray, List.set_cons_zero, List.set_cons_succ]
      refine anyHF_take (i := 7) (d := 60) (v := .int .i64 (pre.length : Int)) (by kernel_rfl) rfl (by kernel_rfl) (by kernel_rfl) (by kernel_rfl) rfl (fun _ _ _ h => h) ⟨Or.inl ⟨by rfl, fun w hS => by obtain ⟨h0, h1, h2, h3, h4, h5⟩ := hS; go_simp⟩, fun _ => rfl⟩ hS ?_
      simp only [List.setIfInBounds_toArray, List.set_cons_zero, List.set_cons_succ]
      refine anyHF_take (i := 8) (d := 61) (v := .pointer (some ⟨gw, pre.length * 2, none⟩)) (by kernel_rfl) rfl (by kernel_rfl) (by kernel_rfl) (by kernel_rfl) rfl (fun _ _ _ h => h) ⟨Or.inl ⟨by rfl, fun w hS => by obtain ⟨h0, h1, h2, h3, h4, h5⟩ := hS; go_simp⟩, fun _ => rfl⟩ hS ?_
      simp only [List.setIfInBounds_toArray, List.set_cons_zero, List.set_cons_succ]
      refine anyHF_take (i := 9) (d := 62) (v := .agg #[.int .i64 x.1, .int .i64 x.2]) (by kernel_rfl) rfl (by kernel_rfl) (by kernel_rfl) (by kernel_rfl) rfl (fun _ _ _ h => h) ⟨Or.inl ⟨by rfl, fun w hS => by obtain ⟨h0, h1, h2, h3, h4, h5⟩ := hS; go_simp⟩, fun _ => rfl⟩ hS ?_
      simp only [List.setIfInBounds_toArray, List.set_cons_zero, List.set_cons_succ]
      refine anyHF_take (i := 10) (d := 63) (v := .bool false) (by kernel_rfl) rfl (by kernel_rfl) (by kernel_rfl) (by kernel_rfl) rfl (fun _ _ _ h => h) ⟨Or.inl ⟨by rfl, fun w hS => by obtain ⟨h0, h1, h2, h3, h4, h5⟩ := hS; go_simp⟩, fun _ => rfl⟩ hS ?_
      simp only [List.setIfInBounds_toArray, List.set_cons_zero, List.set_cons_succ]
      refine anyHF_take (i := 11) (d := 64) (v := .bool false) (by kernel_rfl) rfl (by kernel_rfl) (by kernel_rfl) (by kernel_rfl) rfl (fun _ _ _ h => h) ⟨Or.inl ⟨by rfl, fun w hS => by obtain ⟨h0, h1, h2, h3, h4, h5⟩ := hS; go_simp⟩, fun _ => rfl⟩ hS ?_
      simp only [List.setIfInBounds_toArray, List.set_cons_zero, List.set_cons_succ]
      refine anyHF_done (by kernel_rfl) ?_ _
      refine NoPanic.normal ?_
      clear hS dg dgN hnl i2 hlw
      gi_wp2_with fail
      exact ⟨fun _ => False, Go.Proofs.YtcchjofjpflbhaaGreatDoor.T.FreshO.refl _ _, hss, hks, rfl, trivial, hT.out⟩
    case doneC =>
      rintro DC xs o X hD _ hxs ⟨rfl, hcnd, hn, hB⟩ hK _
      have hxl : xs = la := hxs
      rw [hxl] at hn
      clear hxs hxl
      have HNL := HNW.out
      rw [← HNL] at hn
      obtain ⟨f1, f2, f3, f4, f5, f6⟩ := F1.next hB
      have cn := hn.one
      have clx := f3.one
      have ctx := (ct1.below hB ct1.lt).one
      have cmx := f1.one
      have lt0 := hB.size
      have hne1 : ((((nw : Nat) : Int)) != ((nw : Nat) : Int)) = false := by simp
      clear HNL
      have fV := F1.2.2.2.2.1
      have hs0 := fV.size
      gi_wp2
      clear cn clx ctx cmx f1 f2 f3 f4 f5 f6
      obtain ⟨V2C, hVn⟩ : ∃ Y, X.alloc (.cells #[.int .i64 2] 3) = Y := ⟨_, rfl⟩
      rw [hVn]
      have hBn : Below V1C.heap.size V1C V2C := by rw [← hVn]; exact hB.alloc hB.size _
      have ct2 : Blk V2C X.heap.size 3 #[.int .i64 2] := by rw [← hVn]; exact Blk.new _ _ _
      have hDn : V2C.heap[DC]? = some (.deferred (some [])) := by rw [← hVn]; exact (Below.heap_alloc X _ DC (Array.getElem?_eq_some_iff.1 hK).1).trans hK
      have HL2 := HL1.more hBn (D := DC) (by omega) (by omega) hDn
      have F2 := F1.next hBn
      clear hVn hBn hDn hK hn hB ct1 F1 HL1 fV lt0 hs0
      clear hne1
      rw [roundsIn_succ]
      obtain ⟨f1, f2, f3, f4, f5, f6⟩ := id F2
      have ctx := ct2.one
      have hs4 := f2.lt
      gi_wp2_with fail
      go_wp2_with fail
      refine (works12_any _ (HLW.out _ f5)).mono ?_
      rintro e wf ⟨rfl, hBf⟩
      have f4f := f2.below hBf f2.lt
      have crx := f4f.one
      have frx := f4f.frozen 0
      have hb3 := f4f.set_ 0 (.bool true)
      have hLf := (HL2.below hBf).set_ ⟨g2, 0, none⟩ (.bool true)
      have hBz : Below w.heap.size w (wf.setCell ⟨g2, 0, none⟩ (.bool true)) := (below_in f5 hBf).setCell (by show w.heap.size ≤ g2; omega) _
      go_wp2
      refine leaves_blks w _ _ hLf hBz (fun W' hB' hk => ?_)
      have r0 := (hk _ _ _ hb3).one
      exact ⟨.bool true, by simp [results, Tryz.results3, go_sem, r0], rfl, hB'⟩
    case stopC =>
      rintro D c pre o X hD _ hsp ⟨h, _⟩ hK _
      exact h.elim
open Go.Proofs.YtcchjofjpflbhaaGreatDoor.E Go.Proofs.YtcchjofjpflbhaaGreatDoor.C Go.Proofs.YtcchjofjpflbhaaGreatDoor.T Go.Proofs.YtcchjofjpflbhaaGreatDoor.Ch in
set_option maxRecDepth 100000 in
set_option maxHeartbeats 8000000 in
theorem caseB1 (p x0 x1 many : Int) (w : World) (hL : Laid w) (wp : -9223372036854775808 ≤ p ∧ p ≤ 9223372036854775807) (wx : -9223372036854775808 ≤ x0 ∧ x0 ≤ 9223372036854775807) (wy : -9223372036854775808 ≤ x1 ∧ x1 ≤ 9223372036854775807) (wm : -9223372036854775808 ≤ many ∧ many ≤ 9223372036854775807) (hp : p ∈ prm) (hno : ¬ (x0 ≠ x1 ∧ (0 ≤ x0 ∧ x0 < p) ∧ 0 ≤ x1 ∧ x1 < p)) (hq : x0 = x1) :
    Calls Tryz.prog 3 #[.int .i64 p, .agg #[.int .i64 x0, .int .i64 x1], .int .i64 many] w fun e w' => e = .returned (.bool true) ∧ Below w.heap.size w w' := by
  obtain ⟨W3, hW3⟩ : ∃ W3, (((w.alloc (.cells #[.int .i64 x0, .int .i64 x1] 22)).alloc (.cells #[.int .i64 many] 3)).alloc (.cells #[.bool false] 4)).alloc (.cells #[.slice none 0 0] 23) = W3 := ⟨_, rfl⟩
  have b0 : Blk W3 w.heap.size 22 #[.int .i64 x0, .int .i64 x1] := by rw [← hW3]; exact (((Blk.new w _ _).alloc _).alloc _).alloc _
  have b1 : Blk W3 (w.heap.size + 1) 3 #[.int .i64 many] := by rw [← hW3]; exact ((Blk.second w _ _ _).alloc _).alloc _
  have b2 : Blk W3 (w.heap.size + 1 + 1) 4 #[.bool false] := by rw [← hW3]; exact (Go.Proofs.YtcchjofjpflbhaaGreatDoor.Rg.Blk.at_ (Blk.new _ _ _) (by simp)).alloc _
  have b3 : Blk W3 (w.heap.size + 1 + 1 + 1) 23 #[.slice none 0 0] := by rw [← hW3]; exact Go.Proofs.YtcchjofjpflbhaaGreatDoor.Rg.Blk.at_ (Blk.new _ _ _) (by simp)
  have hBw : Below w.heap.size w W3 := by rw [← hW3]; exact ((below_two w _ _).alloc (by simp; omega) _).alloc (by simp; omega) _
  obtain ⟨g0, hg0⟩ : ∃ g, w.heap.size = g := ⟨_, rfl⟩
  obtain ⟨g1, hg1⟩ : ∃ g, g0 + 1 = g := ⟨_, rfl⟩
  obtain ⟨g2, hg2⟩ : ∃ g, g1 + 1 = g := ⟨_, rfl⟩
  obtain ⟨g3, hg3⟩ : ∃ g, g2 + 1 = g := ⟨_, rfl⟩
  rw [hg0] at b0
  rw [hg0, hg1] at b1
  rw [hg0, hg1, hg2] at b2
  rw [hg0, hg1, hg2, hg3] at b3
  have HG := Lib.hid (And.intro hg0 (And.intro hg1 (And.intro hg2 hg3)))
  have HW3 := Lib.hid hW3
  have HSZ : Hid (g2 < g3) := by unfold Hid; omega
  have HLL := Lib.hid hL
  have HLW := Lib.hid (fun (U : World) (hU : Below w.heap.size w U) => hL.next hU)
  have HR := Lib.hid (fun W => right_any p W)
  rw [decide_eq_true hp] at HR
  have HT0 := Lib.hid (fun W => at_any p x0 W)
  have HT1 := Lib.hid (fun W => at_any p x1 W)
  have HWK := Lib.hid (fun U hU => Arm_no4 p x0 x1 hp hno U hU)
  have hx : (x0 != x1) = false := by rw [hq]; simp
  clear hq hno
  obtain ⟨la, hla⟩ : ∃ l : List (Int × Int), [] = l := ⟨_, rfl⟩
  have HLA0 : Hid (la.length = 0) := by unfold Hid; rw [← hla]; rfl
  rw [hla] at HWK
  have HRL : Hid (la.length ≤ 100) := by unfold Hid; rw [HLA0.out]; omega
  have hrn : ∀ W : World, ReadA W (.slice none 0 0) la := fun W => by rw [← hla]; exact readA_nil W
  have HRN := Lib.hid hrn
  clear hla hrn
  clear hW3 hg0 hg1 hg2 hg3 hL
  refine (callsIn_wide (n := 9)).1 ?_
  refine callsIn_of_wp_marks Tryz.func3 rfl trivial ?_ rfl
  simp only [Tryz.ntmps3, List.size_toArray, List.length_cons, List.length_nil, Nat.reduceAdd, Nat.reduceSub, Array.replicate_succ, Array.replicate_zero, List.push_toArray, List.append_toArray, List.nil_append, List.cons_append]
  refine (wpIn_wide (n := 9)).2 ?_
  go_wp2_with fail
  (try rw [HW3.out])
  (try rw [HG.out.1, HG.out.2.1, HG.out.2.2.1, HG.out.2.2.2])
  refine (HR.out W3).mono ?_
  rintro e w5 ⟨rfl, hB5⟩
  replace b0 := b0.below hB5 b0.lt
  replace b1 := b1.below hB5 b1.lt
  replace b2 := b2.below hB5 b2.lt
  replace b3 := b3.below hB5 b3.lt
  replace hBw := below_in hBw hB5
  clear hB5 HR
  have k0 : w5.cell? ⟨g0, 0, none⟩ = some (.int .i64 x0) := b0.cell 0
  have k1 : w5.cell? ⟨g0, 1, none⟩ = some (.int .i64 x1) := b0.cell 1
  go_wp2_with fail
  obtain ⟨W7, hW7⟩ : ∃ x, w5 = x := ⟨_, rfl⟩
  rw [hW7]
  have e0 := b0
  have e1 := b1
  have e2 := b2
  have e3 := b3
  have hBw2 := hBw
  rw [hW7] at e0 e1 e2 e3 hBw2
  have hwn := HRN.out W7
  clear b0 b1 b2 b3 hBw k0 k1 hW7
  refine (HWK.out W7 (HLW.out W7 hBw2)).mono ?_
  rintro e w8 ⟨sv, rfl, ⟨gf, lb, rfl, hen, heq, hgo⟩, hB8⟩
  clear HWK
  obtain ⟨Aw, hAw⟩ : ∃ A : Option Addr, none = A := ⟨_, rfl⟩
  obtain ⟨nw, hnw⟩ : ∃ n : Nat, 0 = n := ⟨_, rfl⟩
  obtain ⟨cw, hcw⟩ : ∃ n : Nat, 0 = n := ⟨_, rfl⟩
  replace e3 : Blk W7 g3 23 #[.slice Aw nw cw] := by rw [← hAw, ← hnw, ← hcw]; exact e3
  replace hwn : ReadA W7 (.slice Aw nw cw) la := by rw [← hAw, ← hnw, ← hcw]; exact hwn
  clear hAw hnw hcw
  go_wp2_with fail
  have HSQ := Lib.hid hgo
  have hlo := hB8.size
  have hgz := HG.out
  have hsz := HSZ.out
  have hg3lo : g3 < W7.heap.size := e3.lt
  have HLM : Hid (la.length ≤ 100000) := by unfold Hid; have := HRL.out; omega
  have hnwl : nw = la.length := by obtain ⟨_, _, e, _⟩ := id hwn; injection e
  have FQ : TurnC w w8 g1 g2 g3 many Aw nw cw la w8 := ⟨e1.below hB8 e1.lt, e2.below hB8 e2.lt, e3.below hB8 e3.lt, hwn.next hB8, below_in hBw2 hB8, Below.refl _ _⟩
  have HNW := Lib.hid hnwl
  have hPRE : Hid (∀ (pre : List (Int × Int)) (x : Int × Int), pre ++ [x] <+: la → pre.length < la.length ∧ la[pre.length]? = some x) := fun pre x h => pre_at h
  have hwsz := hBw2.size
  generalize W7.heap.size = lo at *
  clear e0 e1 e2 e3 hBw2 hB8 hwn hnwl hgo
  obtain ⟨V0, hV0⟩ : ∃ V0, w8.alloc (.cells #[.int .i64 0] 3) = V0 := ⟨_, rfl⟩
  rw [hV0]
  have hB70 : Below w8.heap.size w8 V0 := by rw [← hV0]; exact below_one w8 _
  have ct0 : Blk V0 w8.heap.size 3 #[.int .i64 0] := by rw [← hV0]; exact Blk.new _ _ _
  have F0 := FQ.next hB70
  have HL0 := Left.nil w.heap.size V0
  clear hV0 FQ hB70
  refine (wpIn_wide (n := 9)).1 ?_
  refine wpIn_loop_rounds 3 ?_
  rw [roundsIn_succ]
  obtain ⟨f1, f2, f3, f4, f5, f6⟩ := id F0
  have ctt := ct0.one
  have hlt1 := f1.lt
  have hlt2 := f2.lt
  have hlt3 := f3.lt
  have hltt := ct0.lt
  have hs8 := f6.size
  gi_wp2_with fail
  have hn0 : Blk (V0.alloc (.cells #[.int .i64 0] 3)) V0.heap.size 3 #[.int .i64 (([] : List (Int × Int)).length : Int)] := Blk.new _ _ _
  have hBa := below_one V0 (.cells #[.int .i64 0] 3)
  have h8a := below_in f6 hBa
  clear ctt
  obtain ⟨VaA, hVa⟩ : ∃ X, V0.alloc (.cells #[.int .i64 0] 3) = X := ⟨_, rfl⟩
  rw [hVa] at hn0 hBa h8a ⊢
  clear hVa
  have hna := hn0.lt
  clear f1 f2 f3 f4 f5 f6
  refine Go.Proofs.YtcchjofjpflbhaaGreatDoor.T.wpIn_rangeBoxP rfl (by omega) (gf := gf) (lb := lb) rfl trivial hen (HSQ.out 8 (by omega)) (fun h h' => h.trans h') (fun W l ob h1 _ _ => ⟨Keep.putFar W (by omega) ob, Go.Proofs.YtcchjofjpflbhaaGreatDoor.T.laid_put HLL.out (by omega) ob⟩) h8a (fun _ => rfl)
    (fun (pre : List (Int × Int)) o X => (o = fun _ => False) ∧ (pre.length = 0 ∨ (pre.length : Int) < many) ∧ Blk X V0.heap.size 3 #[.int .i64 (pre.length : Int)] ∧ Below V0.heap.size V0 X)
    (fun c (pre : List (Int × Int)) o X => (c = .exit 2 ∧ 1 ≤ pre.length ∧ (pre.length = 1 ∨ (pre.length : Int) - 1 < many) ∧ many ≤ (pre.length : Int)) ∧ (o = fun _ => False) ∧ Blk X V0.heap.size 3 #[.int .i64 (pre.length : Int)] ∧ Below V0.heap.size V0 X)
    ?hIA ?hIxA (fun _ => False) (fun b e => e.elim) ⟨rfl, .inl rfl, hn0, hBa⟩
    (fun pre x => pre.length < la.length ∧ la[pre.length]? = some x) (fun pre x W h => hPRE.out pre x h) 31 (fun x : Int × Int => #[.int .i64 x.1, .int .i64 x.2]) ?actA
    ?assignA (fun pre o X h => by obtain ⟨rfl, _⟩ := h; exact fun b hb => hb.elim) ?hrowxA ?bodyA ?doneA ?stopA
  case hIA =>
    rintro s o X Y row ⟨rfl, hc, hn, hB⟩ hgr hr
    have hne : some (V0.heap.size) ≠ row := fun e => by have := (hr _ e.symm).1; omega
    exact ⟨rfl, hc, hn.grown hgr hne, below_grown hB hgr hB.size (fun r e => by have := (hr r e).1; omega)⟩
  case hIxA =>
    rintro c s o X Y row ⟨hc, rfl, hn, hB⟩ hgr hr
    have hne : some (V0.heap.size) ≠ row := fun e => by have := (hr _ e.symm).1; omega
    exact ⟨hc, rfl, hn.grown hgr hne, below_grown hB hgr hB.size (fun r e => by have := (hr r e).1; omega)⟩
  case hrowxA => exact fun c pre o X h => by obtain ⟨_, rfl, _⟩ := h; exact fun b hb => hb.elim
  case assignA =>
    rintro l' pre x o X KK hsz hol ⟨rfl, hc, hn, hB⟩ _ hKK
    simp only [encA]
    gi_wp2
    have hbx := Blk.new X 31 #[.int .i64 x.1, .int .i64 x.2]
    have hBz := below_one X (.cells #[.int .i64 x.1, .int .i64 x.2] 31)
    have hKe : KeepG lo (w8.heap.size - lo) X (X.alloc (.cells #[.int .i64 x.1, .int .i64 x.2] 31)) := ⟨Keep.alloc (by omega) _, fun h => h.next hBz⟩
    have hn2 := hn.below hBz hn.lt
    have hB2 := hB.trans (hBz.mono hB.size)
    have hsn : Go.Proofs.YtcchjofjpflbhaaGreatDoor.T.SinceO VaA.heap.size (fun _ => False) X _ := Go.Proofs.YtcchjofjpflbhaaGreatDoor.T.SinceO.below hBz
    obtain ⟨Y, hY⟩ : ∃ Y, X.alloc (.cells #[.int .i64 x.1, .int .i64 x.2] 31) = Y := ⟨_, rfl⟩
    obtain ⟨Bx, hBx⟩ : ∃ b, X.heap.size = b := ⟨_, rfl⟩
    rw [hY] at hbx hKe hn2 hB2 hsn ⊢
    rw [hBx] at hbx hsz ⊢
    exact hKK Bx Y hsn hKe ⟨by first | rfl | trivial, hc, hn2, hB2⟩ hbx (fun h => h) hsz
  case bodyA =>
    rintro l' pre x o Bx X hsz ⟨rfl, hcnd, hn, hB⟩ hbx _ hle ⟨hlt, hwv⟩ hlen
    exact absurd hlt (by rw [HLA0.out]; exact Nat.not_lt_zero _)
  case doneA =>
    rintro DA xs o X hD _ hxs ⟨rfl, hcnd, hn, hB⟩ hK _
    have hxl : xs = la := hxs
    rw [hxl] at hn hcnd
    clear hxs hxl
    have HNL := HNW.out
    rw [← HNL] at hn
    obtain ⟨f1, f2, f3, f4, f5, f6⟩ := F0.next hB
    have cn := hn.one
    have clx := f3.one
    have ctx := (ct0.below hB ct0.lt).one
    have cmx := f1.one
    have lt0 := hB.size
    rw [← HNL] at hcnd
    have hmin : ((((nw : Nat) : Int)) != min ((nw : Nat) : Int) (max 1 many)) = false := by rw [bne_eq_false_iff_eq]; rcases hcnd with h | h <;> omega
    clear HNL
    have fV := F0.2.2.2.2.1
    have hs0 := fV.size
    gi_wp2
    clear cn clx ctx cmx f1 f2 f3 f4 f5 f6
    obtain ⟨V1B, hVn⟩ : ∃ Y, X.alloc (.cells #[.int .i64 1] 3) = Y := ⟨_, rfl⟩
    rw [hVn]
    have hBn : Below V0.heap.size V0 V1B := by rw [← hVn]; exact hB.alloc hB.size _
    have ct1 : Blk V1B X.heap.size 3 #[.int .i64 1] := by rw [← hVn]; exact Blk.new _ _ _
    have hDn : V1B.heap[DA]? = some (.deferred (some [])) := by rw [← hVn]; exact (Below.heap_alloc X _ DA (Array.getElem?_eq_some_iff.1 hK).1).trans hK
    have HL1 := HL0.more hBn (D := DA) (by omega) (by omega) hDn
    have F1 := F0.next hBn
    clear hVn hBn hDn hK hn hB ct0 F0 HL0 fV lt0 hs0
    clear hmin hcnd
    obtain ⟨tb, htb⟩ : ∃ tb, Hid (X.heap.size = tb) := ⟨_, rfl⟩
    rw [htb.out] at ct1 ⊢
    clear htb
    rw [roundsIn_succ]
    obtain ⟨f1, f2, f3, f4, f5, f6⟩ := id F1
    have ctt := ct1.one
    have hlt1 := f1.lt
    have hlt2 := f2.lt
    have hlt3 := f3.lt
    have hltt := ct1.lt
    have hs8 := f6.size
    gi_wp2_with fail
    have hn0 : Blk (V1B.alloc (.cells #[.int .i64 0] 3)) V1B.heap.size 3 #[.int .i64 (([] : List (Int × Int)).length : Int)] := Blk.new _ _ _
    have hBa := below_one V1B (.cells #[.int .i64 0] 3)
    have h8a := below_in f6 hBa
    clear ctt
    obtain ⟨VaB, hVa⟩ : ∃ X, V1B.alloc (.cells #[.int .i64 0] 3) = X := ⟨_, rfl⟩
    rw [hVa] at hn0 hBa h8a ⊢
    clear hVa
    have hna := hn0.lt
    clear f1 f2 f3 f4 f5 f6
    refine Go.Proofs.YtcchjofjpflbhaaGreatDoor.T.wpIn_rangeBoxP rfl (by omega) (gf := gf) (lb := lb) rfl trivial hen (HSQ.out 8 (by omega)) (fun h h' => h.trans h') (fun W l ob h1 _ _ => ⟨Keep.putFar W (by omega) ob, Go.Proofs.YtcchjofjpflbhaaGreatDoor.T.laid_put HLL.out (by omega) ob⟩) h8a (fun _ => rfl)
      (fun (pre : List (Int × Int)) o X => (o = fun _ => False) ∧ True ∧ Blk X V1B.heap.size 3 #[.int .i64 (pre.length : Int)] ∧ Below V1B.heap.size V1B X)
      (fun c (pre : List (Int × Int)) o X => False ∧ (o = fun _ => False) ∧ Blk X V1B.heap.size 3 #[.int .i64 (pre.length : Int)] ∧ Below V1B.heap.size V1B X)
      ?hIB ?hIxB (fun _ => False) (fun b e => e.elim) ⟨rfl, trivial, hn0, hBa⟩
      (fun pre x => pre.length < la.length ∧ la[pre.length]? = some x) (fun pre x W h => hPRE.out pre x h) 31 (fun x : Int × Int => #[.int .i64 x.1, .int .i64 x.2]) ?actB
      ?assignB (fun pre o X h => by obtain ⟨rfl, _⟩ := h; exact fun b hb => hb.elim) ?hrowxB ?bodyB ?doneB ?stopB
    case hIB =>
      rintro s o X Y row ⟨rfl, hc, hn, hB⟩ hgr hr
      have hne : some (V1B.heap.size) ≠ row := fun e => by have := (hr _ e.symm).1; omega
      exact ⟨rfl, hc, hn.grown hgr hne, below_grown hB hgr hB.size (fun r e => by have := (hr r e).1; omega)⟩
    case hIxB => exact fun c s o X Y row h _ _ => h.1.elim
    case hrowxB => exact fun c pre o X h => by obtain ⟨_, rfl, _⟩ := h; exact fun b hb => hb.elim
    case assignB =>
      rintro l' pre x o X KK hsz hol ⟨rfl, hc, hn, hB⟩ _ hKK
      simp only [encA]
      gi_wp2
      have hbx := Blk.new X 31 #[.int .i64 x.1, .int .i64 x.2]
      have hBz := below_one X (.cells #[.int .i64 x.1, .int .i64 x.2] 31)
      have hKe : KeepG lo (w8.heap.size - lo) X (X.alloc (.cells #[.int .i64 x.1, .int .i64 x.2] 31)) := ⟨Keep.alloc (by omega) _, fun h => h.next hBz⟩
      have hn2 := hn.below hBz hn.lt
      have hB2 := hB.trans (hBz.mono hB.size)
      have hsn : Go.Proofs.YtcchjofjpflbhaaGreatDoor.T.SinceO VaB.heap.size (fun _ => False) X _ := Go.Proofs.YtcchjofjpflbhaaGreatDoor.T.SinceO.below hBz
      obtain ⟨Y, hY⟩ : ∃ Y, X.alloc (.cells #[.int .i64 x.1, .int .i64 x.2] 31) = Y := ⟨_, rfl⟩
      obtain ⟨Bx, hBx⟩ : ∃ b, X.heap.size = b := ⟨_, rfl⟩
      rw [hY] at hbx hKe hn2 hB2 hsn ⊢
      rw [hBx] at hbx hsz ⊢
      exact hKK Bx Y hsn hKe ⟨by first | rfl | trivial, hc, hn2, hB2⟩ hbx (fun h => h) hsz
    case bodyB =>
      rintro l' pre x o Bx X hsz ⟨rfl, hcnd, hn, hB⟩ hbx _ hle ⟨hlt, hwv⟩ hlen
      exact absurd hlt (by rw [HLA0.out]; exact Nat.not_lt_zero _)
    case doneB =>
      rintro DB xs o X hD _ hxs ⟨rfl, hcnd, hn, hB⟩ hK _
      have hxl : xs = la := hxs
      rw [hxl] at hn
      clear hxs hxl
      have HNL := HNW.out
      rw [← HNL] at hn
      obtain ⟨f1, f2, f3, f4, f5, f6⟩ := F1.next hB
      have cn := hn.one
      have clx := f3.one
      have ctx := (ct1.below hB ct1.lt).one
      have cmx := f1.one
      have lt0 := hB.size
      have hne1 : ((((nw : Nat) : Int)) != ((nw : Nat) : Int)) = false := by simp
      clear HNL
      have fV := F1.2.2.2.2.1
      have hs0 := fV.size
      gi_wp2
      clear cn clx ctx cmx f1 f2 f3 f4 f5 f6
      obtain ⟨V2B, hVn⟩ : ∃ Y, X.alloc (.cells #[.int .i64 2] 3) = Y := ⟨_, rfl⟩
      rw [hVn]
      have hBn : Below V1B.heap.size V1B V2B := by rw [← hVn]; exact hB.alloc hB.size _
      have ct2 : Blk V2B X.heap.size 3 #[.int .i64 2] := by rw [← hVn]; exact Blk.new _ _ _
      have hDn : V2B.heap[DB]? = some (.deferred (some [])) := by rw [← hVn]; exact (Below.heap_alloc X _ DB (Array.getElem?_eq_some_iff.1 hK).1).trans hK
      have HL2 := HL1.more hBn (D := DB) (by omega) (by omega) hDn
      have F2 := F1.next hBn
      clear hVn hBn hDn hK hn hB ct1 F1 HL1 fV lt0 hs0
      clear hne1
      rw [roundsIn_succ]
      obtain ⟨f1, f2, f3, f4, f5, f6⟩ := id F2
      have ctx := ct2.one
      have hs4 := f2.lt
      gi_wp2_with fail
      go_wp2_with fail
      refine (works12_any _ (HLW.out _ f5)).mono ?_
      rintro e wf ⟨rfl, hBf⟩
      have f4f := f2.below hBf f2.lt
      have crx := f4f.one
      have frx := f4f.frozen 0
      have hb3 := f4f.set_ 0 (.bool true)
      have hLf := (HL2.below hBf).set_ ⟨g2, 0, none⟩ (.bool true)
      have hBz : Below w.heap.size w (wf.setCell ⟨g2, 0, none⟩ (.bool true)) := (below_in f5 hBf).setCell (by show w.heap.size ≤ g2; omega) _
      go_wp2
      refine leaves_blks w _ _ hLf hBz (fun W' hB' hk => ?_)
      have r0 := (hk _ _ _ hb3).one
      exact ⟨.bool true, by simp [results, Tryz.results3, go_sem, r0], rfl, hB'⟩
    case stopB =>
      rintro D c pre o X hD _ hsp ⟨h, _⟩ hK _
      exact h.elim
  case stopA =>
    rintro DA c pre o X hD _ hsp ⟨⟨rfl, hx1, hx2, hx3⟩, rfl, hn, hB⟩ hK _
    have hple : pre.length ≤ la.length := List.IsPrefix.length_le hsp
    clear hsp
    have HNL := HNW.out
    rw [← HNL] at hple
    exact absurd hple (by have hz := HLA0.out; have hN2 := HNW.out; omega)
open Go.Proofs.YtcchjofjpflbhaaGreatDoor.E Go.Proofs.YtcchjofjpflbhaaGreatDoor.C Go.Proofs.YtcchjofjpflbhaaGreatDoor.T Go.Proofs.YtcchjofjpflbhaaGreatDoor.Ch in
set_option maxRecDepth 100000 in
set_option maxHeartbeats 8000000 in
theorem caseB2 (p x0 x1 many : Int) (w : World) (hL : Laid w) (wp : -9223372036854775808 ≤ p ∧ p ≤ 9223372036854775807) (wx : -9223372036854775808 ≤ x0 ∧ x0 ≤ 9223372036854775807) (wy : -9223372036854775808 ≤ x1 ∧ x1 ≤ 9223372036854775807) (wm : -9223372036854775808 ≤ many ∧ many ≤ 9223372036854775807) (hp : p ∈ prm) (hno : ¬ (x0 ≠ x1 ∧ (0 ≤ x0 ∧ x0 < p) ∧ 0 ≤ x1 ∧ x1 < p)) (hq : x0 ≠ x1) (hq0 : ¬ (0 ≤ x0 ∧ x0 < p)) :
    Calls Tryz.prog 3 #[.int .i64 p, .agg #[.int .i64 x0, .int .i64 x1], .int .i64 many] w fun e w' => e = .returned (.bool true) ∧ Below w.heap.size w w' := by
  obtain ⟨W3, hW3⟩ : ∃ W3, (((w.alloc (.cells #[.int .i64 x0, .int .i64 x1] 22)).alloc (.cells #[.int .i64 many] 3)).alloc (.cells #[.bool false] 4)).alloc (.cells #[.slice none 0 0] 23) = W3 := ⟨_, rfl⟩
  have b0 : Blk W3 w.heap.size 22 #[.int .i64 x0, .int .i64 x1] := by rw [← hW3]; exact (((Blk.new w _ _).alloc _).alloc _).alloc _
  have b1 : Blk W3 (w.heap.size + 1) 3 #[.int .i64 many] := by rw [← hW3]; exact ((Blk.second w _ _ _).alloc _).alloc _
  have b2 : Blk W3 (w.heap.size + 1 + 1) 4 #[.bool false] := by rw [← hW3]; exact (Go.Proofs.YtcchjofjpflbhaaGreatDoor.Rg.Blk.at_ (Blk.new _ _ _) (by simp)).alloc _
  have b3 : Blk W3 (w.heap.size + 1 + 1 + 1) 23 #[.slice none 0 0] := by rw [← hW3]; exact Go.Proofs.YtcchjofjpflbhaaGreatDoor.Rg.Blk.at_ (Blk.new _ _ _) (by simp)
  have hBw : Below w.heap.size w W3 := by rw [← hW3]; exact ((below_two w _ _).alloc (by simp; omega) _).alloc (by simp; omega) _
  obtain ⟨g0, hg0⟩ : ∃ g, w.heap.size = g := ⟨_, rfl⟩
  obtain ⟨g1, hg1⟩ : ∃ g, g0 + 1 = g := ⟨_, rfl⟩
  obtain ⟨g2, hg2⟩ : ∃ g, g1 + 1 = g := ⟨_, rfl⟩
  obtain ⟨g3, hg3⟩ : ∃ g, g2 + 1 = g := ⟨_, rfl⟩
  rw [hg0] at b0
  rw [hg0, hg1] at b1
  rw [hg0, hg1, hg2] at b2
  rw [hg0, hg1, hg2, hg3] at b3
  have HG := Lib.hid (And.intro hg0 (And.intro hg1 (And.intro hg2 hg3)))
  have HW3 := Lib.hid hW3
  have HSZ : Hid (g2 < g3) := by unfold Hid; omega
  have HLL := Lib.hid hL
  have HLW := Lib.hid (fun (U : World) (hU : Below w.heap.size w U) => hL.next hU)
  have HR := Lib.hid (fun W => right_any p W)
  rw [decide_eq_true hp] at HR
  have HT0 := Lib.hid (fun W => at_any p x0 W)
  have HT1 := Lib.hid (fun W => at_any p x1 W)
  have HWK := Lib.hid (fun U hU => Arm_no4 p x0 x1 hp hno U hU)
  have hx : (x0 != x1) = true := bne_iff_ne.2 hq
  rw [decide_eq_false hq0] at HT0
  obtain ⟨la, hla⟩ : ∃ l : List (Int × Int), [] = l := ⟨_, rfl⟩
  have HLA0 : Hid (la.length = 0) := by unfold Hid; rw [← hla]; rfl
  rw [hla] at HWK
  have HRL : Hid (la.length ≤ 100) := by unfold Hid; rw [HLA0.out]; omega
  have hrn : ∀ W : World, ReadA W (.slice none 0 0) la := fun W => by rw [← hla]; exact readA_nil W
  have HRN := Lib.hid hrn
  clear hla hrn
  clear hW3 hg0 hg1 hg2 hg3 hL
  refine (callsIn_wide (n := 9)).1 ?_
  refine callsIn_of_wp_marks Tryz.func3 rfl trivial ?_ rfl
  simp only [Tryz.ntmps3, List.size_toArray, List.length_cons, List.length_nil, Nat.reduceAdd, Nat.reduceSub, Array.replicate_succ, Array.replicate_zero, List.push_toArray, List.append_toArray, List.nil_append, List.cons_append]
  refine (wpIn_wide (n := 9)).2 ?_
  go_wp2_with fail
  (try rw [HW3.out])
  (try rw [HG.out.1, HG.out.2.1, HG.out.2.2.1, HG.out.2.2.2])
  refine (HR.out W3).mono ?_
  rintro e w5 ⟨rfl, hB5⟩
  replace b0 := b0.below hB5 b0.lt
  replace b1 := b1.below hB5 b1.lt
  replace b2 := b2.below hB5 b2.lt
  replace b3 := b3.below hB5 b3.lt
  replace hBw := below_in hBw hB5
  clear hB5 HR
  have k0 : w5.cell? ⟨g0, 0, none⟩ = some (.int .i64 x0) := b0.cell 0
  have k1 : w5.cell? ⟨g0, 1, none⟩ = some (.int .i64 x1) := b0.cell 1
  go_wp2_with fail
  refine (HT0.out w5).mono ?_
  rintro e w' ⟨rfl, rfl⟩
  go_wp2_with fail
  obtain ⟨W7, hW7⟩ : ∃ x, w5 = x := ⟨_, rfl⟩
  rw [hW7]
  have e0 := b0
  have e1 := b1
  have e2 := b2
  have e3 := b3
  have hBw2 := hBw
  rw [hW7] at e0 e1 e2 e3 hBw2
  have hwn := HRN.out W7
  clear b0 b1 b2 b3 hBw k0 k1 hW7
  refine (HWK.out W7 (HLW.out W7 hBw2)).mono ?_
  rintro e w8 ⟨sv, rfl, ⟨gf, lb, rfl, hen, heq, hgo⟩, hB8⟩
  clear HWK
  obtain ⟨Aw, hAw⟩ : ∃ A : Option Addr, none = A := ⟨_, rfl⟩
  obtain ⟨nw, hnw⟩ : ∃ n : Nat, 0 = n := ⟨_, rfl⟩
  obtain ⟨cw, hcw⟩ : ∃ n : Nat, 0 = n := ⟨_, rfl⟩
  replace e3 : Blk W7 g3 23 #[.slice Aw nw cw] := by rw [← hAw, ← hnw, ← hcw]; exact e3
  replace hwn : ReadA W7 (.slice Aw nw cw) la := by rw [← hAw, ← hnw, ← hcw]; exact hwn
  clear hAw hnw hcw
  go_wp2_with fail
  have HSQ := Lib.hid hgo
  have hlo := hB8.size
  have hgz := HG.out
  have hsz := HSZ.out
  have hg3lo : g3 < W7.heap.size := e3.lt
  have HLM : Hid (la.length ≤ 100000) := by unfold Hid; have := HRL.out; omega
  have hnwl : nw = la.length := by obtain ⟨_, _, e, _⟩ := id hwn; injection e
  have FQ : TurnC w w8 g1 g2 g3 many Aw nw cw la w8 := ⟨e1.below hB8 e1.lt, e2.below hB8 e2.lt, e3.below hB8 e3.lt, hwn.next hB8, below_in hBw2 hB8, Below.refl _ _⟩
  have HNW := Lib.hid hnwl
  have hPRE : Hid (∀ (pre : List (Int × Int)) (x : Int × Int), pre ++ [x] <+: la → pre.length < la.length ∧ la[pre.length]? = some x) := fun pre x h => pre_at h
  have hwsz := hBw2.size
  generalize W7.heap.size = lo at *
  clear e0 e1 e2 e3 hBw2 hB8 hwn hnwl hgo
  obtain ⟨V0, hV0⟩ : ∃ V0, w8.alloc (.cells #[.int .i64 0] 3) = V0 := ⟨_, rfl⟩
  rw [hV0]
  have hB70 : Below w8.heap.size w8 V0 := by rw [← hV0]; exact below_one w8 _
  have ct0 : Blk V0 w8.heap.size 3 #[.int .i64 0] := by rw [← hV0]; exact Blk.new _ _ _
  have F0 := FQ.next hB70
  have HL0 := Left.nil w.heap.size V0
  clear hV0 FQ hB70
  refine (wpIn_wide (n := 9)).1 ?_
  refine wpIn_loop_rounds 3 ?_
  rw [roundsIn_succ]
  obtain ⟨f1, f2, f3, f4, f5, f6⟩ := id F0
  have ctt := ct0.one
  have hlt1 := f1.lt
  have hlt2 := f2.lt
  have hlt3 := f3.lt
  have hltt := ct0.lt
  have hs8 := f6.size
  gi_wp2_with fail
  have hn0 : Blk (V0.alloc (.cells #[.int .i64 0] 3)) V0.heap.size 3 #[.int .i64 (([] : List (Int × Int)).length : Int)] := Blk.new _ _ _
  have hBa := below_one V0 (.cells #[.int .i64 0] 3)
  have h8a := below_in f6 hBa
  clear ctt
  obtain ⟨VaA, hVa⟩ : ∃ X, V0.alloc (.cells #[.int .i64 0] 3) = X := ⟨_, rfl⟩
  rw [hVa] at hn0 hBa h8a ⊢
  clear hVa
  have hna := hn0.lt
  clear f1 f2 f3 f4 f5 f6
  refine Go.Proofs.YtcchjofjpflbhaaGreatDoor.T.wpIn_rangeBoxP rfl (by omega) (gf := gf) (lb := lb) rfl trivial hen (HSQ.out 8 (by omega)) (fun h h' => h.trans h') (fun W l ob h1 _ _ => ⟨Keep.putFar W (by omega) ob, Go.Proofs.YtcchjofjpflbhaaGreatDoor.T.laid_put HLL.out (by omega) ob⟩) h8a (fun _ => rfl)
    (fun (pre : List (Int × Int)) o X => (o = fun _ => False) ∧ (pre.length = 0 ∨ (pre.length : Int) < many) ∧ Blk X V0.heap.size 3 #[.int .i64 (pre.length : Int)] ∧ Below V0.heap.size V0 X)
    (fun c (pre : List (Int × Int)) o X => (c = .exit 2 ∧ 1 ≤ pre.length ∧ (pre.length = 1 ∨ (pre.length : Int) - 1 < many) ∧ many ≤ (pre.length : Int)) ∧ (o = fun _ => False) ∧ Blk X V0.heap.size 3 #[.int .i64 (pre.length : Int)] ∧ Below V0.heap.size V0 X)
    ?hIA ?hIxA (fun _ => False) (fun b e => e.elim) ⟨rfl, .inl rfl, hn0, hBa⟩
    (fun pre x => pre.length < la.length ∧ la[pre.length]? = some x) (fun pre x W h => hPRE.out pre x h) 31 (fun x : Int × Int => #[.int .i64 x.1, .int .i64 x.2]) ?actA
    ?assignA (fun pre o X h => by obtain ⟨rfl, _⟩ := h; exact fun b hb => hb.elim) ?hrowxA ?bodyA ?doneA ?stopA
  case hIA =>
    rintro s o X Y row ⟨rfl, hc, hn, hB⟩ hgr hr
    have hne : some (V0.heap.size) ≠ row := fun e => by have := (hr _ e.symm).1; omega
    exact ⟨rfl, hc, hn.grown hgr hne, below_grown hB hgr hB.size (fun r e => by have := (hr r e).1; omega)⟩
  case hIxA =>
    rintro c s o X Y row ⟨hc, rfl, hn, hB⟩ hgr hr
    have hne : some (V0.heap.size) ≠ row := fun e => by have := (hr _ e.symm).1; omega
    exact ⟨hc, rfl, hn.grown hgr hne, below_grown hB hgr hB.size (fun r e => by have := (hr r e).1; omega)⟩
  case hrowxA => exact fun c pre o X h => by obtain ⟨_, rfl, _⟩ := h; exact fun b hb => hb.elim
  case assignA =>
    rintro l' pre x o X KK hsz hol ⟨rfl, hc, hn, hB⟩ _ hKK
    simp only [encA]
    gi_wp2
    have hbx := Blk.new X 31 #[.int .i64 x.1, .int .i64 x.2]
    have hBz := below_one X (.cells #[.int .i64 x.1, .int .i64 x.2] 31)
    have hKe : KeepG lo (w8.heap.size - lo) X (X.alloc (.cells #[.int .i64 x.1, .int .i64 x.2] 31)) := ⟨Keep.alloc (by omega) _, fun h => h.next hBz⟩
    have hn2 := hn.below hBz hn.lt
    have hB2 := hB.trans (hBz.mono hB.size)
    have hsn : Go.Proofs.YtcchjofjpflbhaaGreatDoor.T.SinceO VaA.heap.size (fun _ => False) X _ := Go.Proofs.YtcchjofjpflbhaaGreatDoor.T.SinceO.below hBz
    obtain ⟨Y, hY⟩ : ∃ Y, X.alloc (.cells #[.int .i64 x.1, .int .i64 x.2] 31) = Y := ⟨_, rfl⟩
    obtain ⟨Bx, hBx⟩ : ∃ b, X.heap.size = b := ⟨_, rfl⟩
    rw [hY] at hbx hKe hn2 hB2 hsn ⊢
    rw [hBx] at hbx hsz ⊢
    exact hKK Bx Y hsn hKe ⟨by first | rfl | trivial, hc, hn2, hB2⟩ hbx (fun h => h) hsz
  case bodyA =>
    rintro l' pre x o Bx X hsz ⟨rfl, hcnd, hn, hB⟩ hbx _ hle ⟨hlt, hwv⟩ hlen
    exact absurd hlt (by rw [HLA0.out]; exact Nat.not_lt_zero _)
  case doneA =>
    rintro DA xs o X hD _ hxs ⟨rfl, hcnd, hn, hB⟩ hK _
    have hxl : xs = la := hxs
    rw [hxl] at hn hcnd
    clear hxs hxl
    have HNL := HNW.out
    rw [← HNL] at hn
    obtain ⟨f1, f2, f3, f4, f5, f6⟩ := F0.next hB
    have cn := hn.one
    have clx := f3.one
    have ctx := (ct0.below hB ct0.lt).one
    have cmx := f1.one
    have lt0 := hB.size
    rw [← HNL] at hcnd
    have hmin : ((((nw : Nat) : Int)) != min ((nw : Nat) : Int) (max 1 many)) = false := by rw [bne_eq_false_iff_eq]; rcases hcnd with h | h <;> omega
    clear HNL
    have fV := F0.2.2.2.2.1
    have hs0 := fV.size
    gi_wp2
    clear cn clx ctx cmx f1 f2 f3 f4 f5 f6
    obtain ⟨V1B, hVn⟩ : ∃ Y, X.alloc (.cells #[.int .i64 1] 3) = Y := ⟨_, rfl⟩
    rw [hVn]
    have hBn : Below V0.heap.size V0 V1B := by rw [← hVn]; exact hB.alloc hB.size _
    have ct1 : Blk V1B X.heap.size 3 #[.int .i64 1] := by rw [← hVn]; exact Blk.new _ _ _
    have hDn : V1B.heap[DA]? = some (.deferred (some [])) := by rw [← hVn]; exact (Below.heap_alloc X _ DA (Array.getElem?_eq_some_iff.1 hK).1).trans hK
    have HL1 := HL0.more hBn (D := DA) (by omega) (by omega) hDn
    have F1 := F0.next hBn
    clear hVn hBn hDn hK hn hB ct0 F0 HL0 fV lt0 hs0
    clear hmin hcnd
    obtain ⟨tb, htb⟩ : ∃ tb, Hid (X.heap.size = tb) := ⟨_, rfl⟩
    rw [htb.out] at ct1 ⊢
    clear htb
    rw [roundsIn_succ]
    obtain ⟨f1, f2, f3, f4, f5, f6⟩ := id F1
    have ctt := ct1.one
    have hlt1 := f1.lt
    have hlt2 := f2.lt
    have hlt3 := f3.lt
    have hltt := ct1.lt
    have hs8 := f6.size
    gi_wp2_with fail
    have hn0 : Blk (V1B.alloc (.cells #[.int .i64 0] 3)) V1B.heap.size 3 #[.int .i64 (([] : List (Int × Int)).length : Int)] := Blk.new _ _ _
    have hBa := below_one V1B (.cells #[.int .i64 0] 3)
    have h8a := below_in f6 hBa
    clear ctt
    obtain ⟨VaB, hVa⟩ : ∃ X, V1B.alloc (.cells #[.int .i64 0] 3) = X := ⟨_, rfl⟩
    rw [hVa] at hn0 hBa h8a ⊢
    clear hVa
    have hna := hn0.lt
    clear f1 f2 f3 f4 f5 f6
    refine Go.Proofs.YtcchjofjpflbhaaGreatDoor.T.wpIn_rangeBoxP rfl (by omega) (gf := gf) (lb := lb) rfl trivial hen (HSQ.out 8 (by omega)) (fun h h' => h.trans h') (fun W l ob h1 _ _ => ⟨Keep.putFar W (by omega) ob, Go.Proofs.YtcchjofjpflbhaaGreatDoor.T.laid_put HLL.out (by omega) ob⟩) h8a (fun _ => rfl)
      (fun (pre : List (Int × Int)) o X => (o = fun _ => False) ∧ True ∧ Blk X V1B.heap.size 3 #[.int .i64 (pre.length : Int)] ∧ Below V1B.heap.size V1B X)
      (fun c (pre : List (Int × Int)) o X => False ∧ (o = fun _ => False) ∧ Blk X V1B.heap.size 3 #[.int .i64 (pre.length : Int)] ∧ Below V1B.heap.size V1B X)
      ?hIB ?hIxB (fun _ => False) (fun b e => e.elim) ⟨rfl, trivial, hn0, hBa⟩
      (fun pre x => pre.length < la.length ∧ la[pre.length]? = some x) (fun pre x W h => hPRE.out pre x h) 31 (fun x : Int × Int => #[.int .i64 x.1, .int .i64 x.2]) ?actB
      ?assignB (fun pre o X h => by obtain ⟨rfl, _⟩ := h; exact fun b hb => hb.elim) ?hrowxB ?bodyB ?doneB ?stopB
    case hIB =>
      rintro s o X Y row ⟨rfl, hc, hn, hB⟩ hgr hr
      have hne : some (V1B.heap.size) ≠ row := fun e => by have := (hr _ e.symm).1; omega
      exact ⟨rfl, hc, hn.grown hgr hne, below_grown hB hgr hB.size (fun r e => by have := (hr r e).1; omega)⟩
    case hIxB => exact fun c s o X Y row h _ _ => h.1.elim
    case hrowxB => exact fun c pre o X h => by obtain ⟨_, rfl, _⟩ := h; exact fun b hb => hb.elim
    case assignB =>
      rintro l' pre x o X KK hsz hol ⟨rfl, hc, hn, hB⟩ _ hKK
      simp only [encA]
      gi_wp2
      have hbx := Blk.new X 31 #[.int .i64 x.1, .int .i64 x.2]
      have hBz := below_one X (.cells #[.int .i64 x.1, .int .i64 x.2] 31)
      have hKe : KeepG lo (w8.heap.size - lo) X (X.alloc (.cells #[.int .i64 x.1, .int .i64 x.2] 31)) := ⟨Keep.alloc (by omega) _, fun h => h.next hBz⟩
      have hn2 := hn.below hBz hn.lt
      have hB2 := hB.trans (hBz.mono hB.size)
      have hsn : Go.Proofs.YtcchjofjpflbhaaGreatDoor.T.SinceO VaB.heap.size (fun _ => False) X _ := Go.Proofs.YtcchjofjpflbhaaGreatDoor.T.SinceO.below hBz
      obtain ⟨Y, hY⟩ : ∃ Y, X.alloc (.cells #[.int .i64 x.1, .int .i64 x.2] 31) = Y := ⟨_, rfl⟩
      obtain ⟨Bx, hBx⟩ : ∃ b, X.heap.size = b := ⟨_, rfl⟩
      rw [hY] at hbx hKe hn2 hB2 hsn ⊢
      rw [hBx] at hbx hsz ⊢
      exact hKK Bx Y hsn hKe ⟨by first | rfl | trivial, hc, hn2, hB2⟩ hbx (fun h => h) hsz
    case bodyB =>
      rintro l' pre x o Bx X hsz ⟨rfl, hcnd, hn, hB⟩ hbx _ hle ⟨hlt, hwv⟩ hlen
      exact absurd hlt (by rw [HLA0.out]; exact Nat.not_lt_zero _)
    case doneB =>
      rintro DB xs o X hD _ hxs ⟨rfl, hcnd, hn, hB⟩ hK _
      have hxl : xs = la := hxs
      rw [hxl] at hn
      clear hxs hxl
      have HNL := HNW.out
      rw [← HNL] at hn
      obtain ⟨f1, f2, f3, f4, f5, f6⟩ := F1.next hB
      have cn := hn.one
      have clx := f3.one
      have ctx := (ct1.below hB ct1.lt).one
      have cmx := f1.one
      have lt0 := hB.size
      have hne1 : ((((nw : Nat) : Int)) != ((nw : Nat) : Int)) = false := by simp
      clear HNL
      have fV := F1.2.2.2.2.1
      have hs0 := fV.size
      gi_wp2
      clear cn clx ctx cmx f1 f2 f3 f4 f5 f6
      obtain ⟨V2B, hVn⟩ : ∃ Y, X.alloc (.cells #[.int .i64 2] 3) = Y := ⟨_, rfl⟩
      rw [hVn]
      have hBn : Below V1B.heap.size V1B V2B := by rw [← hVn]; exact hB.alloc hB.size _
      have ct2 : Blk V2B X.heap.size 3 #[.int .i64 2] := by rw [← hVn]; exact Blk.new _ _ _
      have hDn : V2B.heap[DB]? = some (.deferred (some [])) := by rw [← hVn]; exact (Below.heap_alloc X _ DB (Array.getElem?_eq_some_iff.1 hK).1).trans hK
      have HL2 := HL1.more hBn (D := DB) (by omega) (by omega) hDn
      have F2 := F1.next hBn
      clear hVn hBn hDn hK hn hB ct1 F1 HL1 fV lt0 hs0
      clear hne1
      rw [roundsIn_succ]
      obtain ⟨f1, f2, f3, f4, f5, f6⟩ := id F2
      have ctx := ct2.one
      have hs4 := f2.lt
      gi_wp2_with fail
      go_wp2_with fail
      refine (works12_any _ (HLW.out _ f5)).mono ?_
      rintro e wf ⟨rfl, hBf⟩
      have f4f := f2.below hBf f2.lt
      have crx := f4f.one
      have frx := f4f.frozen 0
      have hb3 := f4f.set_ 0 (.bool true)
      have hLf := (HL2.below hBf).set_ ⟨g2, 0, none⟩ (.bool true)
      have hBz : Below w.heap.size w (wf.setCell ⟨g2, 0, none⟩ (.bool true)) := (below_in f5 hBf).setCell (by show w.heap.size ≤ g2; omega) _
      go_wp2
      refine leaves_blks w _ _ hLf hBz (fun W' hB' hk => ?_)
      have r0 := (hk _ _ _ hb3).one
      exact ⟨.bool true, by simp [results, Tryz.results3, go_sem, r0], rfl, hB'⟩
    case stopB =>
      rintro D c pre o X hD _ hsp ⟨h, _⟩ hK _
      exact h.elim
  case stopA =>
    rintro DA c pre o X hD _ hsp ⟨⟨rfl, hx1, hx2, hx3⟩, rfl, hn, hB⟩ hK _
    have hple : pre.length ≤ la.length := List.IsPrefix.length_le hsp
    clear hsp
    have HNL := HNW.out
    rw [← HNL] at hple
    exact absurd hple (by have hz := HLA0.out; have hN2 := HNW.out; omega)
open Go.Proofs.YtcchjofjpflbhaaGreatDoor.E Go.Proofs.YtcchjofjpflbhaaGreatDoor.C Go.Proofs.YtcchjofjpflbhaaGreatDoor.T Go.Proofs.YtcchjofjpflbhaaGreatDoor.Ch in
set_option maxRecDepth 100000 in
set_option maxHeartbeats 8000000 in
theorem caseB3 (p x0 x1 many : Int) (w : World) (hL : Laid w) (wp : -9223372036854775808 ≤ p ∧ p ≤ 9223372036854775807) (wx : -9223372036854775808 ≤ x0 ∧ x0 ≤ 9223372036854775807) (wy : -9223372036854775808 ≤ x1 ∧ x1 ≤ 9223372036854775807) (wm : -9223372036854775808 ≤ many ∧ many ≤ 9223372036854775807) (hp : p ∈ prm) (hno : ¬ (x0 ≠ x1 ∧ (0 ≤ x0 ∧ x0 < p) ∧ 0 ≤ x1 ∧ x1 < p)) (hq : x0 ≠ x1) (hq0 : 0 ≤ x0 ∧ x0 < p) (hq1 : ¬ (0 ≤ x1 ∧ x1 < p)) :
    Calls Tryz.prog 3 #[.int .i64 p, .agg #[.int .i64 x0, .int .i64 x1], .int .i64 many] w fun e w' => e = .returned (.bool true) ∧ Below w.heap.size w w' := by
  obtain ⟨W3, hW3⟩ : ∃ W3, (((w.alloc (.cells #[.int .i64 x0, .int .i64 x1] 22)).alloc (.cells #[.int .i64 many] 3)).alloc (.cells #[.bool false] 4)).alloc (.cells #[.slice none 0 0] 23) = W3 := ⟨_, rfl⟩
  have b0 : Blk W3 w.heap.size 22 #[.int .i64 x0, .int .i64 x1] := by rw [← hW3]; exact (((Blk.new w _ _).alloc _).alloc _).alloc _
  have b1 : Blk W3 (w.heap.size + 1) 3 #[.int .i64 many] := by rw [← hW3]; exact ((Blk.second w _ _ _).alloc _).alloc _
  have b2 : Blk W3 (w.heap.size + 1 + 1) 4 #[.bool false] := by rw [← hW3]; exact (Go.Proofs.YtcchjofjpflbhaaGreatDoor.Rg.Blk.at_ (Blk.new _ _ _) (by simp)).alloc _
  have b3 : Blk W3 (w.heap.size + 1 + 1 + 1) 23 #[.slice none 0 0] := by rw [← hW3]; exact Go.Proofs.YtcchjofjpflbhaaGreatDoor.Rg.Blk.at_ (Blk.new _ _ _) (by simp)
  have hBw : Below w.heap.size w W3 := by rw [← hW3]; exact ((below_two w _ _).alloc (by simp; omega) _).alloc (by simp; omega) _
  obtain ⟨g0, hg0⟩ : ∃ g, w.heap.size = g := ⟨_, rfl⟩
  obtain ⟨g1, hg1⟩ : ∃ g, g0 + 1 = g := ⟨_, rfl⟩
  obtain ⟨g2, hg2⟩ : ∃ g, g1 + 1 = g := ⟨_, rfl⟩
  obtain ⟨g3, hg3⟩ : ∃ g, g2 + 1 = g := ⟨_, rfl⟩
  rw [hg0] at b0
  rw [hg0, hg1] at b1
  rw [hg0, hg1, hg2] at b2
  rw [hg0, hg1, hg2, hg3] at b3
  have HG := Lib.hid (And.intro hg0 (And.intro hg1 (And.intro hg2 hg3)))
  have HW3 := Lib.hid hW3
  have HSZ : Hid (g2 < g3) := by unfold Hid; omega
  have HLL := Lib.hid hL
  have HLW := Lib.hid (fun (U : World) (hU : Below w.heap.size w U) => hL.next hU)
  have HR := Lib.hid (fun W => right_any p W)
  rw [decide_eq_true hp] at HR
  have HT0 := Lib.hid (fun W => at_any p x0 W)
  have HT1 := Lib.hid (fun W => at_any p x1 W)
  have HWK := Lib.hid (fun U hU => Arm_no4 p x0 x1 hp hno U hU)
  have hx : (x0 != x1) = true := bne_iff_ne.2 hq
  rw [decide_eq_true hq0] at HT0
  rw [decide_eq_false hq1] at HT1
  obtain ⟨la, hla⟩ : ∃ l : List (Int × Int), [] = l := ⟨_, rfl⟩
  have HLA0 : Hid (la.length = 0) := by unfold Hid; rw [← hla]; rfl
  rw [hla] at HWK
  have HRL : Hid (la.length ≤ 100) := by unfold Hid; rw [HLA0.out]; omega
  have hrn : ∀ W : World, ReadA W (.slice none 0 0) la := fun W => by rw [← hla]; exact readA_nil W
  have HRN := Lib.hid hrn
  clear hla hrn
  clear hW3 hg0 hg1 hg2 hg3 hL
  refine (callsIn_wide (n := 9)).1 ?_
  refine callsIn_of_wp_marks Tryz.func3 rfl trivial ?_ rfl
  simp only [Tryz.ntmps3, List.size_toArray, List.length_cons, List.length_nil, Nat.reduceAdd, Nat.reduceSub, Array.replicate_succ, Array.replicate_zero, List.push_toArray, List.append_toArray, List.nil_append, List.cons_append]
  refine (wpIn_wide (n := 9)).2 ?_
  go_wp2_with fail
  (try rw [HW3.out])
  (try rw [HG.out.1, HG.out.2.1, HG.out.2.2.1, HG.out.2.2.2])
  refine (HR.out W3).mono ?_
  rintro e w5 ⟨rfl, hB5⟩
  replace b0 := b0.below hB5 b0.lt
  replace b1 := b1.below hB5 b1.lt
  replace b2 := b2.below hB5 b2.lt
  replace b3 := b3.below hB5 b3.lt
  replace hBw := below_in hBw hB5
  clear hB5 HR
  have k0 : w5.cell? ⟨g0, 0, none⟩ = some (.int .i64 x0) := b0.cell 0
  have k1 : w5.cell? ⟨g0, 1, none⟩ = some (.int .i64 x1) := b0.cell 1
  go_wp2_with fail
  refine (HT0.out w5).mono ?_
  rintro e w' ⟨rfl, rfl⟩
  go_wp2_with fail
  refine (HT1.out w5).mono ?_
  rintro e w' ⟨rfl, rfl⟩
  go_wp2_with fail
  obtain ⟨W7, hW7⟩ : ∃ x, w5 = x := ⟨_, rfl⟩
  rw [hW7]
  have e0 := b0
  have e1 := b1
  have e2 := b2
  have e3 := b3
  have hBw2 := hBw
  rw [hW7] at e0 e1 e2 e3 hBw2
  have hwn := HRN.out W7
  clear b0 b1 b2 b3 hBw k0 k1 hW7
  refine (HWK.out W7 (HLW.out W7 hBw2)).mono ?_
  rintro e w8 ⟨sv, rfl, ⟨gf, lb, rfl, hen, heq, hgo⟩, hB8⟩
  clear HWK
  obtain ⟨Aw, hAw⟩ : ∃ A : Option Addr, none = A := ⟨_, rfl⟩
  obtain ⟨nw, hnw⟩ : ∃ n : Nat, 0 = n := ⟨_, rfl⟩
  obtain ⟨cw, hcw⟩ : ∃ n : Nat, 0 = n := ⟨_, rfl⟩
  replace e3 : Blk W7 g3 23 #[.slice Aw nw cw] := by rw [← hAw, ← hnw, ← hcw]; exact e3
  replace hwn : ReadA W7 (.slice Aw nw cw) la := by rw [← hAw, ← hnw, ← hcw]; exact hwn
  clear hAw hnw hcw
  go_wp2_with fail
  have HSQ := Lib.hid hgo
  have hlo := hB8.size
  have hgz := HG.out
  have hsz := HSZ.out
  have hg3lo : g3 < W7.heap.size := e3.lt
  have HLM : Hid (la.length ≤ 100000) := by unfold Hid; have := HRL.out; omega
  have hnwl : nw = la.length := by obtain ⟨_, _, e, _⟩ := id hwn; injection e
  have FQ : TurnC w w8 g1 g2 g3 many Aw nw cw la w8 := ⟨e1.below hB8 e1.lt, e2.below hB8 e2.lt, e3.below hB8 e3.lt, hwn.next hB8, below_in hBw2 hB8, Below.refl _ _⟩
  have HNW := Lib.hid hnwl
  have hPRE : Hid (∀ (pre : List (Int × Int)) (x : Int × Int), pre ++ [x] <+: la → pre.length < la.length ∧ la[pre.length]? = some x) := fun pre x h => pre_at h
  have hwsz := hBw2.size
  generalize W7.heap.size = lo at *
  clear e0 e1 e2 e3 hBw2 hB8 hwn hnwl hgo
  obtain ⟨V0, hV0⟩ : ∃ V0, w8.alloc (.cells #[.int .i64 0] 3) = V0 := ⟨_, rfl⟩
  rw [hV0]
  have hB70 : Below w8.heap.size w8 V0 := by rw [← hV0]; exact below_one w8 _
  have ct0 : Blk V0 w8.heap.size 3 #[.int .i64 0] := by rw [← hV0]; exact Blk.new _ _ _
  have F0 := FQ.next hB70
  have HL0 := Left.nil w.heap.size V0
  clear hV0 FQ hB70
  refine (wpIn_wide (n := 9)).1 ?_
  refine wpIn_loop_rounds 3 ?_
  rw [roundsIn_succ]
  obtain ⟨f1, f2, f3, f4, f5, f6⟩ := id F0
  have ctt := ct0.one
  have hlt1 := f1.lt
  have hlt2 := f2.lt
  have hlt3 := f3.lt
  have hltt := ct0.lt
  have hs8 := f6.size
  gi_wp2_with fail
  have hn0 : Blk (V0.alloc (.cells #[.int .i64 0] 3)) V0.heap.size 3 #[.int .i64 (([] : List (Int × Int)).length : Int)] := Blk.new _ _ _
  have hBa := below_one V0 (.cells #[.int .i64 0] 3)
  have h8a := below_in f6 hBa
  clear ctt
  obtain ⟨VaA, hVa⟩ : ∃ X, V0.alloc (.cells #[.int .i64 0] 3) = X := ⟨_, rfl⟩
  rw [hVa] at hn0 hBa h8a ⊢
  clear hVa
  have hna := hn0.lt
  clear f1 f2 f3 f4 f5 f6
  refine Go.Proofs.YtcchjofjpflbhaaGreatDoor.T.wpIn_rangeBoxP rfl (by omega) (gf := gf) (lb := lb) rfl trivial hen (HSQ.out 8 (by omega)) (fun h h' => h.trans h') (fun W l ob h1 _ _ => ⟨Keep.putFar W (by omega) ob, Go.Proofs.YtcchjofjpflbhaaGreatDoor.T.laid_put HLL.out (by omega) ob⟩) h8a (fun _ => rfl)
    (fun (pre : List (Int × Int)) o X => (o = fun _ => False) ∧ (pre.length = 0 ∨ (pre.length : Int) < many) ∧ Blk X V0.heap.size 3 #[.int .i64 (pre.length : Int)] ∧ Below V0.heap.size V0 X)
    (fun c (pre : List (Int × Int)) o X => (c = .exit 2 ∧ 1 ≤ pre.length ∧ (pre.length = 1 ∨ (pre.length : Int) - 1 < many) ∧ many ≤ (pre.length : Int)) ∧ (o = fun _ => False) ∧ Blk X V0.heap.size 3 #[.int .i64 (pre.length : Int)] ∧ Below V0.heap.size V0 X)
    ?hIA ?hIxA (fun _ => False) (fun b e => e.elim) ⟨rfl, .inl rfl, hn0, hBa⟩
    (fun pre x => pre.length < la.length ∧ la[pre.length]? = some x) (fun pre x W h => hPRE.out pre x h) 31 (fun x : Int × Int => #[.int .i64 x.1, .int .i64 x.2]) ?actA
    ?assignA (fun pre o X h => by obtain ⟨rfl, _⟩ := h; exact fun b hb => hb.elim) ?hrowxA ?bodyA ?doneA ?stopA
  case hIA =>
    rintro s o X Y row ⟨rfl, hc, hn, hB⟩ hgr hr
    have hne : some (V0.heap.size) ≠ row := fun e => by have := (hr _ e.symm).1; omega
    exact ⟨rfl, hc, hn.grown hgr hne, below_grown hB hgr hB.size (fun r e => by have := (hr r e).1; omega)⟩
  case hIxA =>
    rintro c s o X Y row ⟨hc, rfl, hn, hB⟩ hgr hr
    have hne : some (V0.heap.size) ≠ row := fun e => by have := (hr _ e.symm).1; omega
    exact ⟨hc, rfl, hn.grown hgr hne, below_grown hB hgr hB.size (fun r e => by have := (hr r e).1; omega)⟩
  case hrowxA => exact fun c pre o X h => by obtain ⟨_, rfl, _⟩ := h; exact fun b hb => hb.elim
  case assignA =>
    rintro l' pre x o X KK hsz hol ⟨rfl, hc, hn, hB⟩ _ hKK
    simp only [encA]
    gi_wp2
    have hbx := Blk.new X 31 #[.int .i64 x.1, .int .i64 x.2]
    have hBz := below_one X (.cells #[.int .i64 x.1, .int .i64 x.2] 31)
    have hKe : KeepG lo (w8.heap.size - lo) X (X.alloc (.cells #[.int .i64 x.1, .int .i64 x.2] 31)) := ⟨Keep.alloc (by omega) _, fun h => h.next hBz⟩
    have hn2 := hn.below hBz hn.lt
    have hB2 := hB.trans (hBz.mono hB.size)
    have hsn : Go.Proofs.YtcchjofjpflbhaaGreatDoor.T.SinceO VaA.heap.size (fun _ => False) X _ := Go.Proofs.YtcchjofjpflbhaaGreatDoor.T.SinceO.below hBz
    obtain ⟨Y, hY⟩ : ∃ Y, X.alloc (.cells #[.int .i64 x.1, .int .i64 x.2] 31) = Y := ⟨_, rfl⟩
    obtain ⟨Bx, hBx⟩ : ∃ b, X.heap.size = b := ⟨_, rfl⟩
    rw [hY] at hbx hKe hn2 hB2 hsn ⊢
    rw [hBx] at hbx hsz ⊢
    exact hKK Bx Y hsn hKe ⟨by first | rfl | trivial, hc, hn2, hB2⟩ hbx (fun h => h) hsz
  case bodyA =>
    rintro l' pre x o Bx X hsz ⟨rfl, hcnd, hn, hB⟩ hbx _ hle ⟨hlt, hwv⟩ hlen
    exact absurd hlt (by rw [HLA0.out]; exact Nat.not_lt_zero _)
  case doneA =>
    rintro DA xs o X hD _ hxs ⟨rfl, hcnd, hn, hB⟩ hK _
    have hxl : xs = la := hxs
    rw [hxl] at hn hcnd
    clear hxs hxl
    have HNL := HNW.out
    rw [← HNL] at hn
    obtain ⟨f1, f2, f3, f4, f5, f6⟩ := F0.next hB
    have cn := hn.one
    have clx := f3.one
    have ctx := (ct0.below hB ct0.lt).one
    have cmx := f1.one
    have lt0 := hB.size
    rw [← HNL] at hcnd
    have hmin : ((((nw : Nat) : Int)) != min ((nw : Nat) : Int) (max 1 many)) = false := by rw [bne_eq_false_iff_eq]; rcases hcnd with h | h <;> omega
    clear HNL
    have fV := F0.2.2.2.2.1
    have hs0 := fV.size
    gi_wp2
    clear cn clx ctx cmx f1 f2 f3 f4 f5 f6
    obtain ⟨V1B, hVn⟩ : ∃ Y, X.alloc (.cells #[.int .i64 1] 3) = Y := ⟨_, rfl⟩
    rw [hVn]
    have hBn : Below V0.heap.size V0 V1B := by rw [← hVn]; exact hB.alloc hB.size _
    have ct1 : Blk V1B X.heap.size 3 #[.int .i64 1] := by rw [← hVn]; exact Blk.new _ _ _
    have hDn : V1B.heap[DA]? = some (.deferred (some [])) := by rw [← hVn]; exact (Below.heap_alloc X _ DA (Array.getElem?_eq_some_iff.1 hK).1).trans hK
    have HL1 := HL0.more hBn (D := DA) (by omega) (by omega) hDn
    have F1 := F0.next hBn
    clear hVn hBn hDn hK hn hB ct0 F0 HL0 fV lt0 hs0
    clear hmin hcnd
    obtain ⟨tb, htb⟩ : ∃ tb, Hid (X.heap.size = tb) := ⟨_, rfl⟩
    rw [htb.out] at ct1 ⊢
    clear htb
    rw [roundsIn_succ]
    obtain ⟨f1, f2, f3, f4, f5, f6⟩ := id F1
    have ctt := ct1.one
    have hlt1 := f1.lt
    have hlt2 := f2.lt
    have hlt3 := f3.lt
    have hltt := ct1.lt
    have hs8 := f6.size
    gi_wp2_with fail
    have hn0 : Blk (V1B.alloc (.cells #[.int .i64 0] 3)) V1B.heap.size 3 #[.int .i64 (([] : List (Int × Int)).length : Int)] := Blk.new _ _ _
    have hBa := below_one V1B (.cells #[.int .i64 0] 3)
    have h8a := below_in f6 hBa
    clear ctt
    obtain ⟨VaB, hVa⟩ : ∃ X, V1B.alloc (.cells #[.int .i64 0] 3) = X := ⟨_, rfl⟩
    rw [hVa] at hn0 hBa h8a ⊢
    clear hVa
    have hna := hn0.lt
    clear f1 f2 f3 f4 f5 f6
    refine Go.Proofs.YtcchjofjpflbhaaGreatDoor.T.wpIn_rangeBoxP rfl (by omega) (gf := gf) (lb := lb) rfl trivial hen (HSQ.out 8 (by omega)) (fun h h' => h.trans h') (fun W l ob h1 _ _ => ⟨Keep.putFar W (by omega) ob, Go.Proofs.YtcchjofjpflbhaaGreatDoor.T.laid_put HLL.out (by omega) ob⟩) h8a (fun _ => rfl)
      (fun (pre : List (Int × Int)) o X => (o = fun _ => False) ∧ True ∧ Blk X V1B.heap.size 3 #[.int .i64 (pre.length : Int)] ∧ Below V1B.heap.size V1B X)
      (fun c (pre : List (Int × Int)) o X => False ∧ (o = fun _ => False) ∧ Blk X V1B.heap.size 3 #[.int .i64 (pre.length : Int)] ∧ Below V1B.heap.size V1B X)
      ?hIB ?hIxB (fun _ => False) (fun b e => e.elim) ⟨rfl, trivial, hn0, hBa⟩
      (fun pre x => pre.length < la.length ∧ la[pre.length]? = some x) (fun pre x W h => hPRE.out pre x h) 31 (fun x : Int × Int => #[.int .i64 x.1, .int .i64 x.2]) ?actB
      ?assignB (fun pre o X h => by obtain ⟨rfl, _⟩ := h; exact fun b hb => hb.elim) ?hrowxB ?bodyB ?doneB ?stopB
    case hIB =>
      rintro s o X Y row ⟨rfl, hc, hn, hB⟩ hgr hr
      have hne : some (V1B.heap.size) ≠ row := fun e => by have := (hr _ e.symm).1; omega
      exact ⟨rfl, hc, hn.grown hgr hne, below_grown hB hgr hB.size (fun r e => by have := (hr r e).1; omega)⟩
    case hIxB => exact fun c s o X Y row h _ _ => h.1.elim
    case hrowxB => exact fun c pre o X h => by obtain ⟨_, rfl, _⟩ := h; exact fun b hb => hb.elim
    case assignB =>
      rintro l' pre x o X KK hsz hol ⟨rfl, hc, hn, hB⟩ _ hKK
      simp only [encA]
      gi_wp2
      have hbx := Blk.new X 31 #[.int .i64 x.1, .int .i64 x.2]
      have hBz := below_one X (.cells #[.int .i64 x.1, .int .i64 x.2] 31)
      have hKe : KeepG lo (w8.heap.size - lo) X (X.alloc (.cells #[.int .i64 x.1, .int .i64 x.2] 31)) := ⟨Keep.alloc (by omega) _, fun h => h.next hBz⟩
      have hn2 := hn.below hBz hn.lt
      have hB2 := hB.trans (hBz.mono hB.size)
      have hsn : Go.Proofs.YtcchjofjpflbhaaGreatDoor.T.SinceO VaB.heap.size (fun _ => False) X _ := Go.Proofs.YtcchjofjpflbhaaGreatDoor.T.SinceO.below hBz
      obtain ⟨Y, hY⟩ : ∃ Y, X.alloc (.cells #[.int .i64 x.1, .int .i64 x.2] 31) = Y := ⟨_, rfl⟩
      obtain ⟨Bx, hBx⟩ : ∃ b, X.heap.size = b := ⟨_, rfl⟩
      rw [hY] at hbx hKe hn2 hB2 hsn ⊢
      rw [hBx] at hbx hsz ⊢
      exact hKK Bx Y hsn hKe ⟨by first | rfl | trivial, hc, hn2, hB2⟩ hbx (fun h => h) hsz
    case bodyB =>
      rintro l' pre x o Bx X hsz ⟨rfl, hcnd, hn, hB⟩ hbx _ hle ⟨hlt, hwv⟩ hlen
      exact absurd hlt (by rw [HLA0.out]; exact Nat.not_lt_zero _)
    case doneB =>
      rintro DB xs o X hD _ hxs ⟨rfl, hcnd, hn, hB⟩ hK _
      have hxl : xs = la := hxs
      rw [hxl] at hn
      clear hxs hxl
      have HNL := HNW.out
      rw [← HNL] at hn
      obtain ⟨f1, f2, f3, f4, f5, f6⟩ := F1.next hB
      have cn := hn.one
      have clx := f3.one
      have ctx := (ct1.below hB ct1.lt).one
      have cmx := f1.one
      have lt0 := hB.size
      have hne1 : ((((nw : Nat) : Int)) != ((nw : Nat) : Int)) = false := by simp
      clear HNL
      have fV := F1.2.2.2.2.1
      have hs0 := fV.size
      gi_wp2
      clear cn clx ctx cmx f1 f2 f3 f4 f5 f6
      obtain ⟨V2B, hVn⟩ : ∃ Y, X.alloc (.cells #[.int .i64 2] 3) = Y := ⟨_, rfl⟩
      rw [hVn]
      have hBn : Below V1B.heap.size V1B V2B := by rw [← hVn]; exact hB.alloc hB.size _
      have ct2 : Blk V2B X.heap.size 3 #[.int .i64 2] := by rw [← hVn]; exact Blk.new _ _ _
      have hDn : V2B.heap[DB]? = some (.deferred (some [])) := by rw [← hVn]; exact (Below.heap_alloc X _ DB (Array.getElem?_eq_some_iff.1 hK).1).trans hK
      have HL2 := HL1.more hBn (D := DB) (by omega) (by omega) hDn
      have F2 := F1.next hBn
      clear hVn hBn hDn hK hn hB ct1 F1 HL1 fV lt0 hs0
      clear hne1
      rw [roundsIn_succ]
      obtain ⟨f1, f2, f3, f4, f5, f6⟩ := id F2
      have ctx := ct2.one
      have hs4 := f2.lt
      gi_wp2_with fail
      go_wp2_with fail
      refine (works12_any _ (HLW.out _ f5)).mono ?_
      rintro e wf ⟨rfl, hBf⟩
      have f4f := f2.below hBf f2.lt
      have crx := f4f.one
      have frx := f4f.frozen 0
      have hb3 := f4f.set_ 0 (.bool true)
      have hLf := (HL2.below hBf).set_ ⟨g2, 0, none⟩ (.bool true)
      have hBz : Below w.heap.size w (wf.setCell ⟨g2, 0, none⟩ (.bool true)) := (below_in f5 hBf).setCell (by show w.heap.size ≤ g2; omega) _
      go_wp2
      refine leaves_blks w _ _ hLf hBz (fun W' hB' hk => ?_)
      have r0 := (hk _ _ _ hb3).one
      exact ⟨.bool true, by simp [results, Tryz.results3, go_sem, r0], rfl, hB'⟩
    case stopB =>
      rintro D c pre o X hD _ hsp ⟨h, _⟩ hK _
      exact h.elim
  case stopA =>
    rintro DA c pre o X hD _ hsp ⟨⟨rfl, hx1, hx2, hx3⟩, rfl, hn, hB⟩ hK _
    have hple : pre.length ≤ la.length := List.IsPrefix.length_le hsp
    clear hsp
    have HNL := HNW.out
    rw [← HNL] at hple
    exact absurd hple (by have hz := HLA0.out; have hN2 := HNW.out; omega)
open Go.Proofs.YtcchjofjpflbhaaGreatDoor.E Go.Proofs.YtcchjofjpflbhaaGreatDoor.C Go.Proofs.YtcchjofjpflbhaaGreatDoor.T Go.Proofs.YtcchjofjpflbhaaGreatDoor.Ch in
set_option maxRecDepth 100000 in
set_option maxHeartbeats 8000000 in
theorem caseC (p x0 x1 many : Int) (w : World) (hL : Laid w) (wp : -9223372036854775808 ≤ p ∧ p ≤ 9223372036854775807) (wx : -9223372036854775808 ≤ x0 ∧ x0 ≤ 9223372036854775807) (wy : -9223372036854775808 ≤ x1 ∧ x1 ≤ 9223372036854775807) (wm : -9223372036854775808 ≤ many ∧ many ≤ 9223372036854775807) (hp : p ∉ prm) :
    Calls Tryz.prog 3 #[.int .i64 p, .agg #[.int .i64 x0, .int .i64 x1], .int .i64 many] w fun e w' => e = .returned (.bool true) ∧ Below w.heap.size w w' := by
  obtain ⟨W3, hW3⟩ : ∃ W3, (((w.alloc (.cells #[.int .i64 x0, .int .i64 x1] 22)).alloc (.cells #[.int .i64 many] 3)).alloc (.cells #[.bool false] 4)).alloc (.cells #[.slice none 0 0] 23) = W3 := ⟨_, rfl⟩
  have b0 : Blk W3 w.heap.size 22 #[.int .i64 x0, .int .i64 x1] := by rw [← hW3]; exact (((Blk.new w _ _).alloc _).alloc _).alloc _
  have b1 : Blk W3 (w.heap.size + 1) 3 #[.int .i64 many] := by rw [← hW3]; exact ((Blk.second w _ _ _).alloc _).alloc _
  have b2 : Blk W3 (w.heap.size + 1 + 1) 4 #[.bool false] := by rw [← hW3]; exact (Go.Proofs.YtcchjofjpflbhaaGreatDoor.Rg.Blk.at_ (Blk.new _ _ _) (by simp)).alloc _
  have b3 : Blk W3 (w.heap.size + 1 + 1 + 1) 23 #[.slice none 0 0] := by rw [← hW3]; exact Go.Proofs.YtcchjofjpflbhaaGreatDoor.Rg.Blk.at_ (Blk.new _ _ _) (by simp)
  have hBw : Below w.heap.size w W3 := by rw [← hW3]; exact ((below_two w _ _).alloc (by simp; omega) _).alloc (by simp; omega) _
  obtain ⟨g0, hg0⟩ : ∃ g, w.heap.size = g := ⟨_, rfl⟩
  obtain ⟨g1, hg1⟩ : ∃ g, g0 + 1 = g := ⟨_, rfl⟩
  obtain ⟨g2, hg2⟩ : ∃ g, g1 + 1 = g := ⟨_, rfl⟩
  obtain ⟨g3, hg3⟩ : ∃ g, g2 + 1 = g := ⟨_, rfl⟩
  rw [hg0] at b0
  rw [hg0, hg1] at b1
  rw [hg0, hg1, hg2] at b2
  rw [hg0, hg1, hg2, hg3] at b3
  have HG := Lib.hid (And.intro hg0 (And.intro hg1 (And.intro hg2 hg3)))
  have HW3 := Lib.hid hW3
  have HSZ : Hid (g2 < g3) := by unfold Hid; omega
  have HLL := Lib.hid hL
  have HLW := Lib.hid (fun (U : World) (hU : Below w.heap.size w U) => hL.next hU)
  have HR := Lib.hid (fun W => right_any p W)
  have HWK := Lib.hid (fun U hU => Arm_no2 p x0 x1 hp U hU)
  rw [decide_eq_false hp] at HR
  obtain ⟨la, hla⟩ : ∃ l : List (Int × Int), [] = l := ⟨_, rfl⟩
  have HLA0 : Hid (la.length = 0) := by unfold Hid; rw [← hla]; rfl
  rw [hla] at HWK
  have HRL : Hid (la.length ≤ 100) := by unfold Hid; rw [HLA0.out]; omega
  have hrn : ∀ W : World, ReadA W (.slice none 0 0) la := fun W => by rw [← hla]; exact readA_nil W
  have HRN := Lib.hid hrn
  clear hla hrn
  clear hW3 hg0 hg1 hg2 hg3 hL
  refine (callsIn_wide (n := 9)).1 ?_
  refine callsIn_of_wp_marks Tryz.func3 rfl trivial ?_ rfl
  simp only [Tryz.ntmps3, List.size_toArray, List.length_cons, List.length_nil, Nat.reduceAdd, Nat.reduceSub, Array.replicate_succ, Array.replicate_zero, List.push_toArray, List.append_toArray, List.nil_append, List.cons_append]
  refine (wpIn_wide (n := 9)).2 ?_
  go_wp2_with fail
  (try rw [HW3.out])
  (try rw [HG.out.1, HG.out.2.1, HG.out.2.2.1, HG.out.2.2.2])
  refine (HR.out W3).mono ?_
  rintro e w5 ⟨rfl, hB5⟩
  replace b0 := b0.below hB5 b0.lt
  replace b1 := b1.below hB5 b1.lt
  replace b2 := b2.below hB5 b2.lt
  replace b3 := b3.below hB5 b3.lt
  replace hBw := below_in hBw hB5
  clear hB5 HR
  have k0 : w5.cell? ⟨g0, 0, none⟩ = some (.int .i64 x0) := b0.cell 0
  have k1 : w5.cell? ⟨g0, 1, none⟩ = some (.int .i64 x1) := b0.cell 1
  go_wp2_with fail
  obtain ⟨W7, hW7⟩ : ∃ x, w5 = x := ⟨_, rfl⟩
  rw [hW7]
  have e0 := b0
  have e1 := b1
  have e2 := b2
  have e3 := b3
  have hBw2 := hBw
  rw [hW7] at e0 e1 e2 e3 hBw2
  have hwn := HRN.out W7
  clear b0 b1 b2 b3 hBw k0 k1 hW7
  refine (HWK.out W7 (HLW.out W7 hBw2)).mono ?_
  rintro e w8 ⟨sv, rfl, ⟨gf, lb, rfl, hen, heq, hgo⟩, hB8⟩
  clear HWK
  obtain ⟨Aw, hAw⟩ : ∃ A : Option Addr, none = A := ⟨_, rfl⟩
  obtain ⟨nw, hnw⟩ : ∃ n : Nat, 0 = n := ⟨_, rfl⟩
  obtain ⟨cw, hcw⟩ : ∃ n : Nat, 0 = n := ⟨_, rfl⟩
  replace e3 : Blk W7 g3 23 #[.slice Aw nw cw] := by rw [← hAw, ← hnw, ← hcw]; exact e3
  replace hwn : ReadA W7 (.slice Aw nw cw) la := by rw [← hAw, ← hnw, ← hcw]; exact hwn
  clear hAw hnw hcw
  go_wp2_with fail
  have HSQ := Lib.hid hgo
  have hlo := hB8.size
  have hgz := HG.out
  have hsz := HSZ.out
  have hg3lo : g3 < W7.heap.size := e3.lt
  have HLM : Hid (la.length ≤ 100000) := by unfold Hid; have := HRL.out; omega
  have hnwl : nw = la.length := by obtain ⟨_, _, e, _⟩ := id hwn; injection e
  have FQ : TurnC w w8 g1 g2 g3 many Aw nw cw la w8 := ⟨e1.below hB8 e1.lt, e2.below hB8 e2.lt, e3.below hB8 e3.lt, hwn.next hB8, below_in hBw2 hB8, Below.refl _ _⟩
  have HNW := Lib.hid hnwl
  have hPRE : Hid (∀ (pre : List (Int × Int)) (x : Int × Int), pre ++ [x] <+: la → pre.length < la.length ∧ la[pre.length]? = some x) := fun pre x h => pre_at h
  have hwsz := hBw2.size
  generalize W7.heap.size = lo at *
  clear e0 e1 e2 e3 hBw2 hB8 hwn hnwl hgo
  obtain ⟨V0, hV0⟩ : ∃ V0, w8.alloc (.cells #[.int .i64 0] 3) = V0 := ⟨_, rfl⟩
  rw [hV0]
  have hB70 : Below w8.heap.size w8 V0 := by rw [← hV0]; exact below_one w8 _
  have ct0 : Blk V0 w8.heap.size 3 #[.int .i64 0] := by rw [← hV0]; exact Blk.new _ _ _
  have F0 := FQ.next hB70
  have HL0 := Left.nil w.heap.size V0
  clear hV0 FQ hB70
  refine (wpIn_wide (n := 9)).1 ?_
  refine wpIn_loop_rounds 3 ?_
  rw [roundsIn_succ]
  obtain ⟨f1, f2, f3, f4, f5, f6⟩ := id F0
  have ctt := ct0.one
  have hlt1 := f1.lt
  have hlt2 := f2.lt
  have hlt3 := f3.lt
  have hltt := ct0.lt
  have hs8 := f6.size
  gi_wp2_with fail
  have hn0 : Blk (V0.alloc (.cells #[.int .i64 0] 3)) V0.heap.size 3 #[.int .i64 (([] : List (Int × Int)).length : Int)] := Blk.new _ _ _
  have hBa := below_one V0 (.cells #[.int .i64 0] 3)
  have h8a := below_in f6 hBa
  clear ctt
  obtain ⟨VaA, hVa⟩ : ∃ X, V0.alloc (.cells #[.int .i64 0] 3) = X := ⟨_, rfl⟩
  rw [hVa] at hn0 hBa h8a ⊢
  clear hVa
  have hna := hn0.lt
  clear f1 f2 f3 f4 f5 f6
  refine Go.Proofs.YtcchjofjpflbhaaGreatDoor.T.wpIn_rangeBoxP rfl (by omega) (gf := gf) (lb := lb) rfl trivial hen (HSQ.out 8 (by omega)) (fun h h' => h.trans h') (fun W l ob h1 _ _ => ⟨Keep.putFar W (by omega) ob, Go.Proofs.YtcchjofjpflbhaaGreatDoor.T.laid_put HLL.out (by omega) ob⟩) h8a (fun _ => rfl)
    (fun (pre : List (Int × Int)) o X => (o = fun _ => False) ∧ (pre.length = 0 ∨ (pre.length : Int) < many) ∧ Blk X V0.heap.size 3 #[.int .i64 (pre.length : Int)] ∧ Below V0.heap.size V0 X)
    (fun c (pre : List (Int × Int)) o X => (c = .exit 2 ∧ 1 ≤ pre.length ∧ (pre.length = 1 ∨ (pre.length : Int) - 1 < many) ∧ many ≤ (pre.length : Int)) ∧ (o = fun _ => False) ∧ Blk X V0.heap.size 3 #[.int .i64 (pre.length : Int)] ∧ Below V0.heap.size V0 X)
    ?hIA ?hIxA (fun _ => False) (fun b e => e.elim) ⟨rfl, .inl rfl, hn0, hBa⟩
    (fun pre x => pre.length < la.length ∧ la[pre.length]? = some x) (fun pre x W h => hPRE.out pre x h) 31 (fun x : Int × Int => #[.int .i64 x.1, .int .i64 x.2]) ?actA
    ?assignA (fun pre o X h => by obtain ⟨rfl, _⟩ := h; exact fun b hb => hb.elim) ?hrowxA ?bodyA ?doneA ?stopA
  case hIA =>
    rintro s o X Y row ⟨rfl, hc, hn, hB⟩ hgr hr
    have hne : some (V0.heap.size) ≠ row := fun e => by have := (hr _ e.symm).1; omega
    exact ⟨rfl, hc, hn.grown hgr hne, below_grown hB hgr hB.size (fun r e => by have := (hr r e).1; omega)⟩
  case hIxA =>
    rintro c s o X Y row ⟨hc, rfl, hn, hB⟩ hgr hr
    have hne : some (V0.heap.size) ≠ row := fun e => by have := (hr _ e.symm).1; omega
    exact ⟨hc, rfl, hn.grown hgr hne, below_grown hB hgr hB.size (fun r e => by have := (hr r e).1; omega)⟩
  case hrowxA => exact fun c pre o X h => by obtain ⟨_, rfl, _⟩ := h; exact fun b hb => hb.elim
  case assignA =>
    rintro l' pre x o X KK hsz hol ⟨rfl, hc, hn, hB⟩ _ hKK
    simp only [encA]
    gi_wp2
    have hbx := Blk.new X 31 #[.int .i64 x.1, .int .i64 x.2]
    have hBz := below_one X (.cells #[.int .i64 x.1, .int .i64 x.2] 31)
    have hKe : KeepG lo (w8.heap.size - lo) X (X.alloc (.cells #[.int .i64 x.1, .int .i64 x.2] 31)) := ⟨Keep.alloc (by omega) _, fun h => h.next hBz⟩
    have hn2 := hn.below hBz hn.lt
    have hB2 := hB.trans (hBz.mono hB.size)
    have hsn : Go.Proofs.YtcchjofjpflbhaaGreatDoor.T.SinceO VaA.heap.size (fun _ => False) X _ := Go.Proofs.YtcchjofjpflbhaaGreatDoor.T.SinceO.below hBz
    obtain ⟨Y, hY⟩ : ∃ Y, X.alloc (.cells #[.int .i64 x.1, .int .i64 x.2] 31) = Y := ⟨_, rfl⟩
    obtain ⟨Bx, hBx⟩ : ∃ b, X.heap.size = b := ⟨_, rfl⟩
    rw [hY] at hbx hKe hn2 hB2 hsn ⊢
    rw [hBx] at hbx hsz ⊢
    exact hKK Bx Y hsn hKe ⟨by first | rfl | trivial, hc, hn2, hB2⟩ hbx (fun h => h) hsz
  case bodyA =>
    rintro l' pre x o Bx X hsz ⟨rfl, hcnd, hn, hB⟩ hbx _ hle ⟨hlt, hwv⟩ hlen
    exact absurd hlt (by rw [HLA0.out]; exact Nat.not_lt_zero _)
  case doneA =>
    rintro DA xs o X hD _ hxs ⟨rfl, hcnd, hn, hB⟩ hK _
    have hxl : xs = la := hxs
    rw [hxl] at hn hcnd
    clear hxs hxl
    have HNL := HNW.out
    rw [← HNL] at hn
    obtain ⟨f1, f2, f3, f4, f5, f6⟩ := F0.next hB
    have cn := hn.one
    have clx := f3.one
    have ctx := (ct0.below hB ct0.lt).one
    have cmx := f1.one
    have lt0 := hB.size
    rw [← HNL] at hcnd
    have hmin : ((((nw : Nat) : Int)) != min ((nw : Nat) : Int) (max 1 many)) = false := by rw [bne_eq_false_iff_eq]; rcases hcnd with h | h <;> omega
    clear HNL
    have fV := F0.2.2.2.2.1
    have hs0 := fV.size
    gi_wp2
    clear cn clx ctx cmx f1 f2 f3 f4 f5 f6
    obtain ⟨V1B, hVn⟩ : ∃ Y, X.alloc (.cells #[.int .i64 1] 3) = Y := ⟨_, rfl⟩
    rw [hVn]
    have hBn : Below V0.heap.size V0 V1B := by rw [← hVn]; exact hB.alloc hB.size _
    have ct1 : Blk V1B X.heap.size 3 #[.int .i64 1] := by rw [← hVn]; exact Blk.new _ _ _
    have hDn : V1B.heap[DA]? = some (.deferred (some [])) := by rw [← hVn]; exact (Below.heap_alloc X _ DA (Array.getElem?_eq_some_iff.1 hK).1).trans hK
    have HL1 := HL0.more hBn (D := DA) (by omega) (by omega) hDn
    have F1 := F0.next hBn
    clear hVn hBn hDn hK hn hB ct0 F0 HL0 fV lt0 hs0
    clear hmin hcnd
    obtain ⟨tb, htb⟩ : ∃ tb, Hid (X.heap.size = tb) := ⟨_, rfl⟩
    rw [htb.out] at ct1 ⊢
    clear htb
    rw [roundsIn_succ]
    obtain ⟨f1, f2, f3, f4, f5, f6⟩ := id F1
    have ctt := ct1.one
    have hlt1 := f1.lt
    have hlt2 := f2.lt
    have hlt3 := f3.lt
    have hltt := ct1.lt
    have hs8 := f6.size
    gi_wp2_with fail
    have hn0 : Blk (V1B.alloc (.cells #[.int .i64 0] 3)) V1B.heap.size 3 #[.int .i64 (([] : List (Int × Int)).length : Int)] := Blk.new _ _ _
    have hBa := below_one V1B (.cells #[.int .i64 0] 3)
    have h8a := below_in f6 hBa
    clear ctt
    obtain ⟨VaB, hVa⟩ : ∃ X, V1B.alloc (.cells #[.int .i64 0] 3) = X := ⟨_, rfl⟩
    rw [hVa] at hn0 hBa h8a ⊢
    clear hVa
    have hna := hn0.lt
    clear f1 f2 f3 f4 f5 f6
    refine Go.Proofs.YtcchjofjpflbhaaGreatDoor.T.wpIn_rangeBoxP rfl (by omega) (gf := gf) (lb := lb) rfl trivial hen (HSQ.out 8 (by omega)) (fun h h' => h.trans h') (fun W l ob h1 _ _ => ⟨Keep.putFar W (by omega) ob, Go.Proofs.YtcchjofjpflbhaaGreatDoor.T.laid_put HLL.out (by omega) ob⟩) h8a (fun _ => rfl)
      (fun (pre : List (Int × Int)) o X => (o = fun _ => False) ∧ True ∧ Blk X V1B.heap.size 3 #[.int .i64 (pre.length : Int)] ∧ Below V1B.heap.size V1B X)
      (fun c (pre : List (Int × Int)) o X => False ∧ (o = fun _ => False) ∧ Blk X V1B.heap.size 3 #[.int .i64 (pre.length : Int)] ∧ Below V1B.heap.size V1B X)
      ?hIB ?hIxB (fun _ => False) (fun b e => e.elim) ⟨rfl, trivial, hn0, hBa⟩
      (fun pre x => pre.length < la.length ∧ la[pre.length]? = some x) (fun pre x W h => hPRE.out pre x h) 31 (fun x : Int × Int => #[.int .i64 x.1, .int .i64 x.2]) ?actB
      ?assignB (fun pre o X h => by obtain ⟨rfl, _⟩ := h; exact fun b hb => hb.elim) ?hrowxB ?bodyB ?doneB ?stopB
    case hIB =>
      rintro s o X Y row ⟨rfl, hc, hn, hB⟩ hgr hr
      have hne : some (V1B.heap.size) ≠ row := fun e => by have := (hr _ e.symm).1; omega
      exact ⟨rfl, hc, hn.grown hgr hne, below_grown hB hgr hB.size (fun r e => by have := (hr r e).1; omega)⟩
    case hIxB => exact fun c s o X Y row h _ _ => h.1.elim
    case hrowxB => exact fun c pre o X h => by obtain ⟨_, rfl, _⟩ := h; exact fun b hb => hb.elim
    case assignB =>
      rintro l' pre x o X KK hsz hol ⟨rfl, hc, hn, hB⟩ _ hKK
      simp only [encA]
      gi_wp2
      have hbx := Blk.new X 31 #[.int .i64 x.1, .int .i64 x.2]
      have hBz := below_one X (.cells #[.int .i64 x.1, .int .i64 x.2] 31)
      have hKe : KeepG lo (w8.heap.size - lo) X (X.alloc (.cells #[.int .i64 x.1, .int .i64 x.2] 31)) := ⟨Keep.alloc (by omega) _, fun h => h.next hBz⟩
      have hn2 := hn.below hBz hn.lt
      have hB2 := hB.trans (hBz.mono hB.size)
      have hsn : Go.Proofs.YtcchjofjpflbhaaGreatDoor.T.SinceO VaB.heap.size (fun _ => False) X _ := Go.Proofs.YtcchjofjpflbhaaGreatDoor.T.SinceO.below hBz
      obtain ⟨Y, hY⟩ : ∃ Y, X.alloc (.cells #[.int .i64 x.1, .int .i64 x.2] 31) = Y := ⟨_, rfl⟩
      obtain ⟨Bx, hBx⟩ : ∃ b, X.heap.size = b := ⟨_, rfl⟩
      rw [hY] at hbx hKe hn2 hB2 hsn ⊢
      rw [hBx] at hbx hsz ⊢
      exact hKK Bx Y hsn hKe ⟨by first | rfl | trivial, hc, hn2, hB2⟩ hbx (fun h => h) hsz
    case bodyB =>
      rintro l' pre x o Bx X hsz ⟨rfl, hcnd, hn, hB⟩ hbx _ hle ⟨hlt, hwv⟩ hlen
      exact absurd hlt (by rw [HLA0.out]; exact Nat.not_lt_zero _)
    case doneB =>
      rintro DB xs o X hD _ hxs ⟨rfl, hcnd, hn, hB⟩ hK _
      have hxl : xs = la := hxs
      rw [hxl] at hn
      clear hxs hxl
      have HNL := HNW.out
      rw [← HNL] at hn
      obtain ⟨f1, f2, f3, f4, f5, f6⟩ := F1.next hB
      have cn := hn.one
      have clx := f3.one
      have ctx := (ct1.below hB ct1.lt).one
      have cmx := f1.one
      have lt0 := hB.size
      have hne1 : ((((nw : Nat) : Int)) != ((nw : Nat) : Int)) = false := by simp
      clear HNL
      have fV := F1.2.2.2.2.1
      have hs0 := fV.size
      gi_wp2
      clear cn clx ctx cmx f1 f2 f3 f4 f5 f6
      obtain ⟨V2B, hVn⟩ : ∃ Y, X.alloc (.cells #[.int .i64 2] 3) = Y := ⟨_, rfl⟩
      rw [hVn]
      have hBn : Below V1B.heap.size V1B V2B := by rw [← hVn]; exact hB.alloc hB.size _
      have ct2 : Blk V2B X.heap.size 3 #[.int .i64 2] := by rw [← hVn]; exact Blk.new _ _ _
      have hDn : V2B.heap[DB]? = some (.deferred (some [])) := by rw [← hVn]; exact (Below.heap_alloc X _ DB (Array.getElem?_eq_some_iff.1 hK).1).trans hK
      have HL2 := HL1.more hBn (D := DB) (by omega) (by omega) hDn
      have F2 := F1.next hBn
      clear hVn hBn hDn hK hn hB ct1 F1 HL1 fV lt0 hs0
      clear hne1
      rw [roundsIn_succ]
      obtain ⟨f1, f2, f3, f4, f5, f6⟩ := id F2
      have ctx := ct2.one
      have hs4 := f2.lt
      gi_wp2_with fail
      go_wp2_with fail
      refine (works12_any _ (HLW.out _ f5)).mono ?_
      rintro e wf ⟨rfl, hBf⟩
      have f4f := f2.below hBf f2.lt
      have crx := f4f.one
      have frx := f4f.frozen 0
      have hb3 := f4f.set_ 0 (.bool true)
      have hLf := (HL2.below hBf).set_ ⟨g2, 0, none⟩ (.bool true)
      have hBz : Below w.heap.size w (wf.setCell ⟨g2, 0, none⟩ (.bool true)) := (below_in f5 hBf).setCell (by show w.heap.size ≤ g2; omega) _
      go_wp2
      refine leaves_blks w _ _ hLf hBz (fun W' hB' hk => ?_)
      have r0 := (hk _ _ _ hb3).one
      exact ⟨.bool true, by simp [results, Tryz.results3, go_sem, r0], rfl, hB'⟩
    case stopB =>
      rintro D c pre o X hD _ hsp ⟨h, _⟩ hK _
      exact h.elim
  case stopA =>
    rintro DA c pre o X hD _ hsp ⟨⟨rfl, hx1, hx2, hx3⟩, rfl, hn, hB⟩ hK _
    have hple : pre.length ≤ la.length := List.IsPrefix.length_le hsp
    clear hsp
    have HNL := HNW.out
    rw [← HNL] at hple
    exact absurd hple (by have hz := HLA0.out; have hN2 := HNW.out; omega)
open Go.Proofs.YtcchjofjpflbhaaGreatDoor.E Go.Proofs.YtcchjofjpflbhaaGreatDoor.C Go.Proofs.YtcchjofjpflbhaaGreatDoor.T Go.Proofs.YtcchjofjpflbhaaGreatDoor.Ch in
set_option maxRecDepth 100000 in
set_option maxHeartbeats 8000000 in
theorem walk (p x0 x1 many : Int) (w : World) (hL : Laid w) (wp : -9223372036854775808 ≤ p ∧ p ≤ 9223372036854775807) (wx : -9223372036854775808 ≤ x0 ∧ x0 ≤ 9223372036854775807) (wy : -9223372036854775808 ≤ x1 ∧ x1 ≤ 9223372036854775807) (wm : -9223372036854775808 ≤ many ∧ many ≤ 9223372036854775807) :
    Calls Tryz.prog 3 #[.int .i64 p, .agg #[.int .i64 x0, .int .i64 x1], .int .i64 many] w fun e w' => e = .returned (.bool true) ∧ Below w.heap.size w w' := by
  by_cases hp : p ∈ prm
  · by_cases hth : x0 ≠ x1 ∧ (0 ≤ x0 ∧ x0 < p) ∧ 0 ≤ x1 ∧ x1 < p
    · exact caseA p x0 x1 many w hL wp wx wy wm hp hth
    · by_cases hq : x0 = x1
      · exact caseB1 p x0 x1 many w hL wp wx wy wm hp hth hq
      · by_cases hq0 : 0 ≤ x0 ∧ x0 < p
        · exact caseB3 p x0 x1 many w hL wp wx wy wm hp hth hq hq0 (fun h => hth ⟨hq, hq0, h⟩)
        · exact caseB2 p x0 x1 many w hL wp wx wy wm hp hth hq hq0
  · exact caseC p x0 x1 many w hL wp wx wy wm hp

end Go.Proofs.YtcchjofjpflbhaaGreatDoor.pairArms

namespace Go.Proofs.YtcchjofjpflbhaaGreatDoor.pairArms
open Go.ChangeShapes Go.WideShapes Go.ChangeAt Go.RowKit Go.Shelf
set_option linter.unusedVariables false
set_option linter.unusedSimpArgs false
attribute [local go_sem] Oper.semAt_some

set_option maxRecDepth 100000 in
theorem lifted (os : Os) (started : os.Started) (H : Type) (enc : TypeId × Value → H) :
    ReturnsInHanded {} Tryz.checked os 3 .any (fun w args => (Rows.pairArmsSpec.pre enc Tryz.prog Tryz.f3 [] false w args ∧ laidMetH Tryz.prog laidL w) ∧ sizedMet enc Tryz.prog Tryz.f3 (OpenSpec.ofChange Rows.pairArmsSpec) false w args)
      (Rows.pairArmsSpec.post enc Tryz.prog Tryz.f3 false true false false) := by
  refine returnsInHanded_of_change_and (C := Tryz.checked) (X := fun w _ => laidMetH Tryz.prog laidL w) (fun _ _ _ hh h => h.of_heap hh) own started (by kernel_rfl) Tryz.func3
    (ChangeSpec.witness_shaped (enc := enc) (C := Tryz.checked) (os := os) (X := fun w _ => laidMetH Tryz.prog laidL w) false (World.doorLaid Tryz.prog 200 os) #[.int .i64 0, .agg #[.int .i64 0, .int .i64 0], .int .i64 0] 8 rfl (World.shaped_of_RefB (by kernel_rfl) (by kernel_rfl)) (by kernel_rfl) (by kernel_rfl) (by kernel_rfl) (door_met os _)) ?_
  intro W base args ds gs before hval0 hW _ _ hL0 _
  have hL := laid_of hL0
  have hval : ∀ (j : Nat) t v, Tryz.f3.params[j]? = some t → args[j]? = some v → Value.okWide Tryz.prog W .any base t v := hval0
  have hW' := hW
  obtain ⟨p, q, hA0, hV, rfl, hfz, hnd⟩ := hW
  have hA : DataW.TrodAll enc Tryz.prog W 0 (fun _ => true) true Tryz.f3.params.toList args.toList ds p := hA0
  rw [Tryz.params3] at hA hval
  obtain ⟨v0, vs0, d0, ds0, p0, q0, hargs, rfl, rfl, h0, r0⟩ := trodAll_cons hA
  obtain ⟨v1, vs1, d1, ds1, p1, q1, rfl, rfl, rfl, h1, r1⟩ := trodAll_cons r0
  obtain ⟨v2, vs2, d2, ds2, p2, q2, rfl, rfl, rfl, h2, r2⟩ := trodAll_cons r1
  obtain ⟨rfl, rfl, rfl⟩ := trodAll_nil r2
  obtain rfl : args = #[v0, v1, v2] := by cases args; simp_all
  obtain ⟨rfl, rfl⟩ := trodVars_none hV
  obtain ⟨a0, rfl, rfl, rfl, w0⟩ := open_int Tryz.underlying3 (hval 0 3 v0 rfl rfl) h0
  have k1 := h1
  have lt1 : ∀ x ∈ p1, x.block < W.heap.size := by obtain ⟨m, hm⟩ := k1; exact DataW.trod_lt m _ _ _ hm
  obtain ⟨x1, y1, rfl, w1⟩ := Cd.open_two (hval 1 22 v1 rfl rfl) h1
  obtain ⟨a2, rfl, rfl, rfl, w2⟩ := open_int Tryz.underlying3 (hval 2 3 v2 rfl rfl) h2
  clear hA0 hval0
  simp only [List.append_nil] at hW'
  refine (walk a0 x1 y1 a2 W hL (E.wf_i64 w0) (E.wf_i64 w1.1) (E.wf_i64 w1.2) (E.wf_i64 w2)).mono fun e W' ⟨he, bel⟩ => ?_
  subst he
  exact ⟨_, rfl, _, _, _, [], _, [], hW', trodAll_mk1 (shut_bool Tryz.underlying4 _), (trodAll_cons_mk (shut_int Tryz.underlying3 w0) (trodAll_cons_mk (Below.trod laidOut (by kernel_rfl) (of_decide_eq_true (by kernel_rfl)) k1 bel lt1) (trodAll_cons_mk (shut_int Tryz.underlying3 w2) trodAll_mk0))), rfl, bel.frame _, fun h => by cases h⟩

end Go.Proofs.YtcchjofjpflbhaaGreatDoor.pairArms

