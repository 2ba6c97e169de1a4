/- The law ChainOrders answers true for every input and leaves its arguments as they were. -/
import Derived.Test.YthmkgdkfehgpkaaGreatDoorCOSA
import Derived.Test.YthmkgdkfehgpkaaGreatDoorCards
import Derived.Test.YthmkgdkfehgpkaaGreatDoorTie
import Derived.SevenTiedAt
import Derived.Test.YthmkgdkfehgpkaaGreatDoorCOG19
import Derived.Test.YthmkgdkfehgpkaaGreatDoorCOG4
namespace Go.Proofs.YthmkgdkfehgpkaaGreatDoor.chainOrders
open Go.ChangeShapes Go.WideShapes Go.ChangeAt Go.RowKit Go.Shelf
set_option linter.unusedVariables false
set_option linter.unusedSimpArgs false
attribute [local go_sem] Oper.semAt_some

open Go.Proofs.YthmkgdkfehgpkaaGreatDoor.E Go.Proofs.YthmkgdkfehgpkaaGreatDoor.C Go.Proofs.YthmkgdkfehgpkaaGreatDoor.T Go.Proofs.YthmkgdkfehgpkaaGreatDoor.Ch in
theorem refOrder_is (p : Int) (hp : p ∈ prm) (a b : Int) (ha : 0 ≤ a) (hab : a < b) (hb : b < p) (w : World) :
    Calls Tryz.prog 11 #[.int .i64 p, .int .i64 a, .int .i64 b] w fun e w' => ∃ u, e = .returned u ∧ OwnA w' w.heap.size u ((chn a b (Go.Proofs.YthmkgdkfehgpkaaGreatDoor.Rg.rowsF p (walkN p (p - 1) (a - b)))).map (fun x : Int × Int × Int => (x.2.1, x.2.2))) ∧ Below w.heap.size w w' := by
  have hpb := prm_bounds hp
  obtain ⟨P, rfl⟩ : ∃ P : Nat, p = (P : Int) := ⟨p.toNat, by omega⟩
  exact refOrder_any (Q := P - 1) (by omega) hp a b ha hab hb w
open Go.Proofs.YthmkgdkfehgpkaaGreatDoor.E Go.Proofs.YthmkgdkfehgpkaaGreatDoor.C Go.Proofs.YthmkgdkfehgpkaaGreatDoor.T Go.Proofs.YthmkgdkfehgpkaaGreatDoor.Ch in
set_option maxRecDepth 100000 in
set_option maxHeartbeats 8000000 in
theorem caseA (p x0 x1 many : Int) (w : World) (hL : Laid w) (wp : -9223372036854775808 ≤ p ∧ p ≤ 9223372036854775807) (wx : -9223372036854775808 ≤ x0 ∧ x0 ≤ 9223372036854775807) (wy : -9223372036854775808 ≤ x1 ∧ x1 ≤ 9223372036854775807) (wm : -9223372036854775808 ≤ many ∧ many ≤ 9223372036854775807) (hp : p ∈ prm) (hth : 0 ≤ x0 ∧ x0 < x1 ∧ x1 < p) :
    Calls Tryz.prog 3 #[.int .i64 p, .agg #[.int .i64 x0, .int .i64 x1], .int .i64 many] w fun e w' => e = .returned (.bool true) ∧ Below w.heap.size w w' := by
  obtain ⟨W3, hW3⟩ : ∃ W3, ((w.alloc (.cells #[.int .i64 x0, .int .i64 x1] 22)).alloc (.cells #[.int .i64 many] 3)).alloc (.cells #[.bool false] 4) = W3 := ⟨_, rfl⟩
  have b0 : Blk W3 w.heap.size 22 #[.int .i64 x0, .int .i64 x1] := by rw [← hW3]; exact ((Blk.new w _ _).alloc _).alloc _
  have b1 : Blk W3 (w.heap.size + 1) 3 #[.int .i64 many] := by rw [← hW3]; exact (Blk.second w _ _ _).alloc _
  have b2 : Blk W3 (w.heap.size + 1 + 1) 4 #[.bool false] := by rw [← hW3]; exact Go.Proofs.YthmkgdkfehgpkaaGreatDoor.Rg.Blk.at_ (Blk.new _ _ _) (by simp)
  have hB3 : Below w.heap.size w W3 := by rw [← hW3]; exact (below_two w _ _).alloc (by simp; omega) _
  obtain ⟨g0, hg0⟩ : ∃ g, w.heap.size = g := ⟨_, rfl⟩
  obtain ⟨g1, hg1⟩ : ∃ g, g0 + 1 = g := ⟨_, rfl⟩
  obtain ⟨g2, hg2⟩ : ∃ g, g1 + 1 = g := ⟨_, rfl⟩
  rw [hg0] at b0
  rw [hg0, hg1] at b1
  rw [hg0, hg1, hg2] at b2
  have HG := Lib.hid (And.intro hg0 (And.intro hg1 hg2))
  have HW3 := Lib.hid hW3
  have HLW := Lib.hid (fun (U : World) (hU : Below w.heap.size w U) => hL.next hU)
  have HR := Lib.hid (fun W => right_any p W)
  rw [decide_eq_true hp] at HR
  have HOR := Lib.hid (order_yes p x0 x1 hp hth.1 hth.2.1 hth.2.2 W3 (hL.next hB3))
  have HTH := Lib.hid (fun W => there11_any p x0 x1 W)
  rw [decide_eq_true hth] at HTH
  have HRO := Lib.hid (fun W => refOrder_is p hp x0 x1 hth.1 hth.2.1 hth.2.2 W)
  have HWK := Lib.hid (fun U hU => walk_yes p x0 x1 hp hth.1 hth.2.1 hth.2.2 U hU)
  have HRL : Hid ((Go.Proofs.YthmkgdkfehgpkaaGreatDoor.Rg.rowsF p (walkN p (p - 1) (x0 - x1))).length ≤ 100) := rows_len p x0 x1 hp
  generalize (Go.Proofs.YthmkgdkfehgpkaaGreatDoor.Rg.rowsF p (walkN p (p - 1) (x0 - x1))) = rs at *
  clear hW3 hg0 hg1 hg2 hL
  refine (callsIn_wide (n := 9)).1 ?_
  refine callsIn_of_wp_marks Tryz.func3 rfl trivial ?_ rfl
  simp only [Tryz.ntmps3, List.size_toArray, List.length_cons, List.length_nil, Nat.reduceAdd, Nat.reduceSub, Array.replicate_succ, Array.replicate_zero, List.push_toArray, List.append_toArray, List.nil_append, List.cons_append]
  refine (wpIn_wide (n := 9)).2 ?_
  go_wp2_with fail
  rw [HW3.out]
  rw [HG.out.1, HG.out.2.1, HG.out.2.2]
  refine HOR.out.mono ?_
  rintro e w4 ⟨u, rfl, hu, hB4⟩
  obtain ⟨uA, un, uc, rfl⟩ := hu.form
  have hur := hu.readA
  have d0 := b0.below hB4 b0.lt
  have d1 := b1.below hB4 b1.lt
  have d2 := b2.below hB4 b2.lt
  have hBw := below_in hB3 hB4
  clear b0 b1 b2 HOR hB3 hB4 hu
  go_wp2_with fail
  obtain ⟨W5, hW5⟩ : ∃ x, w4.alloc (.cells #[.slice none 0 0] 23) = x := ⟨_, rfl⟩
  obtain ⟨g3, hg3⟩ : ∃ x, w4.heap.size = x := ⟨_, rfl⟩
  have hB5 : Below w4.heap.size w4 W5 := by rw [← hW5]; exact below_one w4 _
  have d3 : Blk W5 g3 23 #[.slice none 0 0] := by rw [← hW5, ← hg3]; exact Blk.new w4 _ _
  rw [hW5, hg3]
  have HSZ : Hid (g2 < g3) := by unfold Hid; rw [← hg3]; exact d2.lt
  clear hW5 hg3
  replace d0 := d0.below hB5 d0.lt
  replace d1 := d1.below hB5 d1.lt
  replace d2 := d2.below hB5 d2.lt
  replace hBw := below_in hBw hB5
  replace hur := hur.next hB5
  clear hB5
  refine (HR.out W5).mono ?_
  rintro e w5 ⟨rfl, hB5⟩
  replace d0 := d0.below hB5 d0.lt
  replace d1 := d1.below hB5 d1.lt
  replace d2 := d2.below hB5 d2.lt
  replace hBw := below_in hBw hB5
  replace hur := hur.next hB5
  replace d3 := d3.below hB5 d3.lt
  clear hB5 HR
  have k0 : w5.cell? ⟨g0, 0, none⟩ = some (.int .i64 x0) := d0.cell 0
  have k1 : w5.cell? ⟨g0, 1, none⟩ = some (.int .i64 x1) := d0.cell 1
  have k3 := d3.one
  have f3 := d3.frozen 0
  have l3w := d3.lt
  go_wp2_with fail
  refine (HTH.out w5).mono ?_
  rintro e w' ⟨rfl, rfl⟩
  clear HTH
  go_wp2_with fail
  refine (HRO.out w5).mono ?_
  rintro e w6 ⟨u2, rfl, hu2, hB6⟩
  obtain ⟨Aw, nw, cw, rfl⟩ := hu2.form
  clear k0 k1 k3 f3
  replace d0 := d0.below hB6 d0.lt
  replace d1 := d1.below hB6 d1.lt
  replace d2 := d2.below hB6 d2.lt
  replace hBw := below_in hBw hB6
  replace hur := hur.next hB6
  replace d3 := d3.below hB6 d3.lt
  have k3 := d3.one
  have f3 := d3.frozen 0
  obtain ⟨W7, hW7⟩ : ∃ x, w6.setCell ⟨g3, 0, none⟩ (.slice Aw nw cw) = x := ⟨_, rfl⟩
  have hwn := (hu2.far (p := ⟨g3, 0, none⟩) (fun e => by have h1 := hu2.own_le g3 e.symm; omega) (.slice Aw nw cw)).readA
  have e3 := d3.set_ 0 (.slice Aw nw cw)
  have hgz := HG.out
  have hsz := HSZ.out
  have e0 := Blk.far d0 (by show g0 ≠ g3; omega) (.slice Aw nw cw) (p := ⟨g3, 0, none⟩)
  have e1 := Blk.far d1 (by show g1 ≠ g3; omega) (.slice Aw nw cw) (p := ⟨g3, 0, none⟩)
  have e2 := Blk.far d2 (by show g2 ≠ g3; omega) (.slice Aw nw cw) (p := ⟨g3, 0, none⟩)
  have hBw2 := hBw.setCell (p := ⟨g3, 0, none⟩) (by show w.heap.size ≤ g3; omega) (.slice Aw nw cw)
  have hur2 := Go.Proofs.YthmkgdkfehgpkaaGreatDoor.T.ReadA.set3 hur d3 (.slice Aw nw cw)
  rw [hW7] at hwn e3 e0 e1 e2 hBw2 hur2
  replace e3 : Blk W7 g3 23 #[.slice Aw nw cw] := e3
  clear d0 d1 d2 d3 hBw hur hu2 hB6 hgz hsz
  go_wp2_with fail
  try rw [hW7]
  clear hW7 k3 f3
  refine (num11_any _ W7).mono ?_
  rintro e w' ⟨rfl, rfl⟩
  have k3 := e3.one
  have k0 : W7.cell? ⟨g0, 0, none⟩ = some (.int .i64 x0) := e0.cell 0
  have k1 : W7.cell? ⟨g0, 1, none⟩ = some (.int .i64 x1) := e0.cell 1
  have HLE : Hid (((chn x0 x1 rs).map (fun x : Int × Int × Int => (x.2.1, x.2.2))).length ≤ 1000) := by unfold Hid; rw [List.length_map, chn_len]; have := HRL.out; omega
  have HSM := Lib.hid (same_yes _ _ _ HLE.out W7 hur2 hwn)
  clear hur2
  have k3 := e3.one
  go_wp2_with fail
  refine HSM.out.mono ?_
  rintro e w7 ⟨rfl, hB7⟩
  clear HSM k3
  replace e0 := e0.below hB7 e0.lt
  replace e1 := e1.below hB7 e1.lt
  replace e2 := e2.below hB7 e2.lt
  replace e3 := e3.below hB7 e3.lt
  replace hBw2 := below_in hBw2 hB7
  replace hwn := hwn.next hB7
  clear hB7
  have k0 : w7.cell? ⟨g0, 0, none⟩ = some (.int .i64 x0) := e0.cell 0
  have k1 : w7.cell? ⟨g0, 1, none⟩ = some (.int .i64 x1) := e0.cell 1
  go_wp2_with fail
  refine (HWK.out w7 (HLW.out w7 hBw2)).mono ?_
  rintro e w8 ⟨sv, rfl, ⟨gf, lb, rfl, hen, hgo⟩, hB8⟩
  clear k0 k1 HWK
  go_wp2_with fail
  have HSQ := Lib.hid hgo
  have hlo := hB8.size
  have hgz := HG.out
  have hsz := HSZ.out
  have hg3lo : g3 < w7.heap.size := e3.lt
  have HLM : Hid ((chn x0 x1 rs).length ≤ 100000) := by unfold Hid; rw [chn_len]; have := HRL.out; omega
  have hnwl : nw = (chn x0 x1 rs).length := by obtain ⟨_, _, e, _⟩ := id hwn; injection e with _ e _; rw [e, List.length_map]
  have FQ : TurnC w w8 g1 g2 g3 many Aw nw cw ((chn x0 x1 rs).map (fun x : Int × Int × Int => (x.2.1, x.2.2))) w8 := ⟨e1.below hB8 e1.lt, e2.below hB8 e2.lt, e3.below hB8 e3.lt, hwn.next hB8, below_in hBw2 hB8, Below.refl _ _⟩
  have HNW := Lib.hid hnwl
  have hPRE : Hid (∀ pre x, OkC p x0 x1 rs pre x → x.1 = (pre.length : Int) ∧ pre.length < (chn x0 x1 rs).length ∧ ((chn x0 x1 rs).map (fun x : Int × Int × Int => (x.2.1, x.2.2)))[pre.length]? = some (x.2.1, x.2.2)) := fun pre x h => ⟨by obtain ⟨_, h2⟩ := okC_at h; rw [h2], (listT_at h.2).1, (listT_at h.2).2⟩
  generalize w7.heap.size = lo at *
  clear e0 e1 e2 e3 hBw2 hB8 hwn hnwl hgo HLE
  obtain ⟨V0, hV0⟩ : ∃ V0, w8.alloc (.cells #[.int .i64 0] 3) = V0 := ⟨_, rfl⟩
  rw [hV0]
  have hB70 : Below w8.heap.size w8 V0 := by rw [← hV0]; exact below_one w8 _
  have ct0 : Blk V0 w8.heap.size 3 #[.int .i64 0] := by rw [← hV0]; exact Blk.new _ _ _
  have F0 := FQ.next hB70
  have HL0 := Left.nil w.heap.size V0
  clear hV0 FQ hB70
  refine (wpIn_wide (n := 9)).1 ?_
  refine wpIn_loop_rounds 3 ?_
  rw [roundsIn_succ]
  obtain ⟨f1, f2, f3, f4, f5, f6⟩ := id F0
  have ctt := ct0.one
  have hlt1 := f1.lt
  have hlt2 := f2.lt
  have hlt3 := f3.lt
  have hltt := ct0.lt
  have hs8 := f6.size
  gi_wp2_with fail
  have hn0 : Blk (V0.alloc (.cells #[.int .i64 0] 3)) V0.heap.size 3 #[.int .i64 (([] : List (Int × Int × Int)).length : Int)] := Blk.new _ _ _
  have hBa := below_one V0 (.cells #[.int .i64 0] 3)
  have h8a := below_in f6 hBa
  clear ctt
  obtain ⟨VaA, hVa⟩ : ∃ X, V0.alloc (.cells #[.int .i64 0] 3) = X := ⟨_, rfl⟩
  rw [hVa] at hn0 hBa h8a ⊢
  clear hVa
  have hna := hn0.lt
  clear f1 f2 f3 f4 f5 f6
  refine wpIn_rangeBoxP rfl (by omega) (gf := gf) (lb := lb) rfl trivial hen (HSQ.out 8 (by omega)) (fun h h' => h.trans h') (fun W l ob h1 _ _ => Keep.putFar W (by omega) ob) h8a (fun _ => rfl)
    (fun (pre : List (Int × Int × Int)) o X => (o = fun _ => False) ∧ (pre.length = 0 ∨ (pre.length : Int) < many) ∧ Blk X V0.heap.size 3 #[.int .i64 (pre.length : Int)] ∧ Below V0.heap.size V0 X)
    (fun c (pre : List (Int × Int × Int)) o X => (c = .exit 3 ∧ 1 ≤ pre.length ∧ (pre.length = 1 ∨ (pre.length : Int) - 1 < many) ∧ many ≤ (pre.length : Int)) ∧ (o = fun _ => False) ∧ Blk X V0.heap.size 3 #[.int .i64 (pre.length : Int)] ∧ Below V0.heap.size V0 X)
    ?hIA ?hIxA (fun _ => False) (fun b e => e.elim) ⟨rfl, .inl rfl, hn0, hBa⟩
    (fun pre x => x.1 = (pre.length : Int) ∧ pre.length < (chn x0 x1 rs).length ∧ ((chn x0 x1 rs).map (fun x : Int × Int × Int => (x.2.1, x.2.2)))[pre.length]? = some (x.2.1, x.2.2)) (fun pre x W h => hPRE.out pre x h) 36 (fun x : Int × Int × Int => #[.int .i64 x.2.1, .int .i64 x.2.2]) ?actA
    ?assignA (fun pre o X h => by obtain ⟨rfl, _⟩ := h; exact fun b hb => hb.elim) ?hrowxA ?bodyA ?doneA ?stopA
  case hIA =>
    rintro s o X Y row ⟨rfl, hc, hn, hB⟩ hgr hr
    have hne : some (V0.heap.size) ≠ row := fun e => by have := (hr _ e.symm).1; omega
    exact ⟨rfl, hc, hn.grown hgr hne, below_grown hB hgr hB.size (fun r e => by have := (hr r e).1; omega)⟩
  case hIxA =>
    rintro c s o X Y row ⟨hc, rfl, hn, hB⟩ hgr hr
    have hne : some (V0.heap.size) ≠ row := fun e => by have := (hr _ e.symm).1; omega
    exact ⟨hc, rfl, hn.grown hgr hne, below_grown hB hgr hB.size (fun r e => by have := (hr r e).1; omega)⟩
  case hrowxA => exact fun c pre o X h => by obtain ⟨_, rfl, _⟩ := h; exact fun b hb => hb.elim
  case assignA =>
    rintro l' pre x o X KK hsz hol ⟨rfl, hc, hn, hB⟩ _ hKK
    simp only [encC]
    gi_wp2
    have hbx := Blk.new X 36 #[.int .i64 x.2.1, .int .i64 x.2.2]
    have hBz := below_one X (.cells #[.int .i64 x.2.1, .int .i64 x.2.2] 36)
    have hKe : Keep lo (w8.heap.size - lo) X (X.alloc (.cells #[.int .i64 x.2.1, .int .i64 x.2.2] 36)) := Keep.alloc (by omega) _
    have hn2 := hn.below hBz hn.lt
    have hB2 := hB.trans (hBz.mono hB.size)
    have hsn : Go.Proofs.YthmkgdkfehgpkaaGreatDoor.T.SinceO VaA.heap.size (fun _ => False) X _ := Go.Proofs.YthmkgdkfehgpkaaGreatDoor.T.SinceO.below hBz
    obtain ⟨Y, hY⟩ : ∃ Y, X.alloc (.cells #[.int .i64 x.2.1, .int .i64 x.2.2] 36) = Y := ⟨_, rfl⟩
    obtain ⟨Bx, hBx⟩ : ∃ b, X.heap.size = b := ⟨_, rfl⟩
    rw [hY] at hbx hKe hn2 hB2 hsn ⊢
    rw [hBx] at hbx hsz ⊢
    exact hKK Bx Y hsn hKe ⟨by first | rfl | trivial, hc, hn2, hB2⟩ hbx (fun h => h) hsz
  case bodyA =>
    rintro l' pre x o Bx X hsz ⟨rfl, hcnd, hn, hB⟩ hbx _ hle ⟨hk, hlt, hwv⟩ hlen
    obtain ⟨f1, f2, f3, f4, f5, f6⟩ := F0.next hB
    obtain ⟨pw, cpw, ew, hcw⟩ := f4
    have hlp : pre.length < ((chn x0 x1 rs).map (fun x : Int × Int × Int => (x.2.1, x.2.2))).length := by rw [List.length_map]; exact hlt
    obtain ⟨gw, hgw, hgwl, hw1, hw2⟩ := hcw pre.length hlp
    rw [List.getElem?_eq_getElem hlp] at hwv
    injection hwv with hwv
    rw [hwv] at hw1 hw2
    injection ew with ew1 ew2 ew3
    clear ew2 ew3
    rw [hgw] at ew1
    have hbd := (Below.refl X.heap.size X).drew
    have hc3 : X.drew.cell? ⟨g3, 0, none⟩ = some (.slice (some ⟨gw, 0, none⟩) nw cw) := by have h := (f3.below hbd f3.lt).one; rw [ew1] at h; exact h
    have hS : (fun U : World => U.cell? ⟨V0.heap.size, 0, none⟩ = some (.int .i64 (pre.length : Int)) ∧ U.cell? ⟨g3, 0, none⟩ = some (.slice (some ⟨gw, 0, none⟩) nw cw) ∧ U.cell? ⟨Bx, 0, none⟩ = some (.int .i64 x.2.1) ∧ U.cell? ⟨Bx, 1, none⟩ = some (.int .i64 x.2.2) ∧ U.cell? ⟨gw, pre.length * 2, none⟩ = some (.int .i64 x.2.1) ∧ U.cell? ⟨gw, pre.length * 2 + 1, none⟩ = some (.int .i64 x.2.2)) X.drew := ⟨(hn.below hbd hn.lt).one, hc3, (hbx.below hbd hbx.lt).cell 0, (hbx.below hbd hbx.lt).cell 1, hw1, hw2⟩
    have HNL := HNW.out
    have dg : decide ((nw : Int) ≤ (pre.length : Int)) = false := decide_eq_false (by rw [HNL]; omega)
    have dgN : decide (nw ≤ pre.length) = false := decide_eq_false (by rw [HNL]; omega)
    have hnl : ¬ nw ≤ pre.length := by rw [HNL]; omega
    have dn : (x.1 != (pre.length : Int)) = false := by rw [hk]; simp
    have hlw : pre.length < nw := by rw [HNL]; exact hlt
    have i0 : (0 : Int) ≤ (pre.length : Int) := by omega
    have i2 : (pre.length : Int) < (nw : Int) := by omega
    clear HNL hcw hwv hgw hw1 hw2 ew1 hc3
    have hLm := HLM.out
    have hwr : IntKind.i64.wrap ((pre.length : Int) + 1) = (pre.length : Int) + 1 := IntWalk.i64_in _ (by omega)
    have ctx := (ct0.below hB ct0.lt).one
    have cm := f1.one
    have cn := hn.one
    have fn := hn.frozen 0
    have hbsz := hB.size
    have hl2 : Hid ((pre ++ [x]).length = pre.length + 1) := by unfold Hid; rw [List.length_append]; rfl
    have hkb : ∀ b, b ≠ V0.heap.size → ((X.drew).setCell ⟨V0.heap.size, 0, none⟩ (.int .i64 ((pre.length : Int) + 1))).heap[b]? = X.heap[b]? := fun b hb => (Below.heap_setCell X.drew ⟨V0.heap.size, 0, none⟩ _ b hb)
    have hks : Keep lo (w8.heap.size - lo) X ((X.drew).setCell ⟨V0.heap.size, 0, none⟩ (.int .i64 ((pre.length : Int) + 1))) := ⟨by simp, fun b h1 h2 => hkb b (by omega)⟩
    have hss : Go.Proofs.YthmkgdkfehgpkaaGreatDoor.T.SinceO VaA.heap.size (fun _ => False) X ((X.drew).setCell ⟨V0.heap.size, 0, none⟩ (.int .i64 ((pre.length : Int) + 1))) := ⟨by simp, fun b h1 h2 h3 => hkb b (by omega)⟩
    have hT : Hid (Blk ((X.drew).setCell ⟨V0.heap.size, 0, none⟩ (.int .i64 ((pre.length : Int) + 1))) V0.heap.size 3 #[.int .i64 (((pre ++ [x]).length : Nat) : Int)] ∧ Below V0.heap.size V0 ((X.drew).setCell ⟨V0.heap.size, 0, none⟩ (.int .i64 ((pre.length : Int) + 1)))) := by
      unfold Hid
      rw [hl2.out]
      exact ⟨(hn.below hbd hn.lt).set_ 0 _, (hB.trans (hbd.mono hB.size)).setCell (Nat.le_refl _) _⟩
    clear hn hB f1 f2 f3 f5 f6 hbd hkb hbx
    gi_wp2_with fail
    refine wpIn_mono (region_HF (Q := NoPanic _) (S := (fun U : World => U.cell? ⟨V0.heap.size, 0, none⟩ = some (.int .i64 (pre.length : Int)) ∧ U.cell? ⟨g3, 0, none⟩ = some (.slice (some ⟨gw, 0, none⟩) nw cw) ∧ U.cell? ⟨Bx, 0, none⟩ = some (.int .i64 x.2.1) ∧ U.cell? ⟨Bx, 1, none⟩ = some (.int .i64 x.2.2) ∧ U.cell? ⟨gw, pre.length * 2, none⟩ = some (.int .i64 x.2.1) ∧ U.cell? ⟨gw, pre.length * 2 + 1, none⟩ = some (.int .i64 x.2.2))) (by kernel_rfl) ?_) NoPanic.imp
    refine anyHF_take (i := 0) (d := 66) (v := .int .i64 (pre.length : Int)) (by kernel_rfl) rfl (by kernel_rfl) (by kernel_rfl) (by kernel_rfl) rfl (fun _ _ _ h => h) ⟨Or.inl ⟨by rfl, fun w hS => by obtain ⟨h0, h1, h2, h3, h4, h5⟩ := hS; go_simp⟩, fun _ => rfl⟩ hS ?_
    simp only [List.setIfInBounds_toArray, List.set_cons_zero, List.set_cons_succ]
    refine anyHF_take (i := 1) (d := 67) (v := .slice (some ⟨gw, 0, none⟩) nw cw) (by kernel_rfl) rfl (by kernel_rfl) (by kernel_rfl) (by kernel_rfl) rfl (fun _ _ _ h => h) ⟨Or.inl ⟨by rfl, fun w hS => by obtain ⟨h0, h1, h2, h3, h4, h5⟩ := hS; go_simp⟩, fun _ => rfl⟩ hS ?_
    simp only [List.setIfInBounds_toArray, List.set_cons_zero, List.set_cons_succ]
    refine anyHF_take (i := 2) (d := 68) (v := .int .i64 (nw : Int)) (by kernel_rfl) rfl (by kernel_rfl) (by kernel_rfl) (by kernel_rfl) rfl (fun _ _ _ h => h) ⟨Or.inl ⟨by rfl, fun w hS => by obtain ⟨h0, h1, h2, h3, h4, h5⟩ := hS; go_simp⟩, fun _ => rfl⟩ hS ?_
    simp only [List.setIfInBounds_toArray, List.set_cons_zero, List.set_cons_succ]
    refine anyHF_take (i := 3) (d := 69) (v := .bool false) (by kernel_rfl) rfl (by kernel_rfl) (by kernel_rfl) (by kernel_rfl) rfl (fun _ _ _ h => h) ⟨Or.inl ⟨by rfl, fun w hS => by obtain ⟨h0, h1, h2, h3, h4, h5⟩ := hS; go_simp⟩, fun _ => rfl⟩ hS ?_
    simp only [List.setIfInBounds_toArray, List.set_cons_zero, List.set_cons_succ]
    refine anyHF_take (i := 4) (d := 70) (v := .bool false) (by kernel_rfl) rfl (by kernel_rfl) (by kernel_rfl) (by kernel_rfl) rfl (fun _ _ _ h => h) ⟨Or.inl ⟨by rfl, fun w hS => by obtain ⟨h0, h1, h2, h3, h4, h5⟩ := hS; go_simp⟩, fun _ => rfl⟩ hS ?_
    simp only [List.setIfInBounds_toArray, List.set_cons_zero, List.set_cons_succ]
    refine anyHF_take (i := 5) (d := 71) (v := .int .i64 x.1) (by kernel_rfl) rfl (by kernel_rfl) (by kernel_rfl) (by kernel_rfl) rfl (fun _ _ _ h => h) ⟨Or.inl ⟨by rfl, fun w hS => by obtain ⟨h0, h1, h2, h3, h4, h5⟩ := hS; go_simp⟩, fun _ => rfl⟩ hS ?_
    simp only [List.setIfInBounds_toArray, List.set_cons_zero, List.set_cons_succ]
    refine anyHF_take (i := 6) (d := 72) (v := .int .i64 (pre.length : Int)) (by kernel_rfl) rfl (by kernel_rfl) (by kernel_rfl) (by kernel_rfl) rfl (fun _ _ _ h => h) ⟨Or.inl ⟨by rfl, fun w hS => by obtain ⟨h0, h1, h2, h3, h4, h5⟩ := hS; go_simp⟩, fun _ => rfl⟩ hS ?_
    simp only [List.setIfInBounds_toArray, List.set_cons_zero, List.set_cons_succ]
    refine anyHF_take (i := 7) (d := 73) (v := .bool false) (by kernel_rfl) rfl (by kernel_rfl) (by kernel_rfl) (by kernel_rfl) rfl (fun _ _ _ h => h) ⟨Or.inl ⟨by rfl, fun w hS => by obtain ⟨h0, h1, h2, h3, h4, h5⟩ := hS; go_simp⟩, fun _ => rfl⟩ hS ?_
    simp only [List.setIfInBounds_toArray, List.set_cons_zero, List.set_cons_succ]
    refine anyHF_take (i := 8) (d := 74) (v := .bool false) (by kernel_rfl) rfl (by kernel_rfl) (by kernel_rfl) (by kernel_rfl) rfl (fun _ _ _ h => h) ⟨Or.inl ⟨by rfl, fun w hS => by obtain ⟨h0, h1, h2, h3, h4, h5⟩ := hS; go_simp⟩, fun _ => rfl⟩ hS ?_
    simp only [List.setIfInBounds_toArray, List.set_cons_zero, List.set_cons_succ]
    refine anyHF_take (i := 9) (d := 75) (v := .bool false) (by kernel_rfl) rfl (by kernel_rfl) (by kernel_rfl) (by kernel_rfl) rfl (fun _ _ _ h => h) ⟨Or.inl ⟨by rfl, fun w hS => by obtain ⟨h0, h1, h2, h3, h4, h5⟩ := hS; go_simp⟩, fun _ => rfl⟩ hS ?_
    simp only [List.setIfInBounds_toArray, List.set_cons_zero, List.set_cons_succ]
    refine anyHF_take (i := 10) (d := 76) (v := .agg #[.int .i64 x.2.1, .int .i64 x.2.2]) (by kernel_rfl) rfl (by kernel_rfl) (by kernel_rfl) (by kernel_rfl) rfl (fun _ _ _ h => h) ⟨Or.inl ⟨by rfl, fun w hS => by obtain ⟨h0, h1, h2, h3, h4, h5⟩ := hS; go_simp⟩, fun _ => rfl⟩ hS ?_
    simp only [List.setIfInBounds_toArray, List.set_cons_zero, List.set_cons_succ]
    refine anyHF_take (i := 11) (d := 77) (v := .slice (some ⟨gw, 0, none⟩) nw cw) (by kernel_rfl) rfl (by kernel_rfl) (by kernel_rfl) (by kernel_rfl) rfl (fun _ _ _ h => h) ⟨Or.inl ⟨by rfl, fun w hS => by obtain ⟨h0, h1, h2, h3, h4, h5⟩ := hS; go_simp⟩, fun _ => rfl⟩ hS ?_
    simp only [List.setIfInBounds_toArray, List.set_cons_zero, List.set_cons_succ]
    refine anyHF_take (i := 12) (d := 78) (v := .int .i64 (pre.length : Int)) (by kernel_rfl) rfl (by kernel_rfl) (by kernel_rfl) (by kernel_rfl) rfl (fun _ _ _ h => h) ⟨Or.inl ⟨by rfl, fun w hS => by obtain ⟨h0, h1, h2, h3, h4, h5⟩ := hS; go_simp⟩, fun _ => rfl⟩ hS ?_
    simp only [List.setIfInBounds_toArray, List.set_cons_zero, List.set_cons_succ]
    refine anyHF_take (i := 13) (d := 79) (v := .pointer (some ⟨gw, pre.length * 2, none⟩)) (by kernel_rfl) rfl (by kernel_rfl) (by kernel_rfl) (by kernel_rfl) rfl (fun _ _ _ h => h) ⟨Or.inl ⟨by rfl, fun w hS => by obtain ⟨h0, h1, h2, h3, h4, h5⟩ := hS; go_simp⟩, fun _ => rfl⟩ hS ?_
    simp only [List.setIfInBounds_toArray, List.set_cons_zero, List.set_cons_succ]
    refine anyHF_take (i := 14) (d := 80) (v := .agg #[.int .i64 x.2.1, .int .i64 x.2.2]) (by kernel_rfl) rfl (by kernel_rfl) (by kernel_rfl) (by kernel_rfl) rfl (fun _ _ _ h => h) ⟨Or.inl ⟨by rfl, fun w hS => by obtain ⟨h0, h1, h2, h3, h4, h5⟩ := hS; go_simp⟩, fun _ => rfl⟩ hS ?_
    simp only [List.setIfInBounds_toArray, List.set_cons_zero, List.set_cons_succ]
    refine anyHF_take (i := 15) (d := 81) (v := .bool false) (by kernel_rfl) rfl (by kernel_rfl) (by kernel_rfl) (by kernel_rfl) rfl (fun _ _ _ h => h) ⟨Or.inl ⟨by rfl, fun w hS => by obtain ⟨h0, h1, h2, h3, h4, h5⟩ := hS; go_simp⟩, fun _ => rfl⟩ hS ?_
    simp only [List.setIfInBounds_toArray, List.set_cons_zero, List.set_cons_succ]
    refine anyHF_take (i := 16) (d := 82) (v := .bool false) (by kernel_rfl) rfl (by kernel_rfl) (by kernel_rfl) (by kernel_rfl) rfl (fun _ _ _ h => h) ⟨Or.inl ⟨by rfl, fun w hS => by obtain ⟨h0, h1, h2, h3, h4, h5⟩ := hS; go_simp⟩, fun _ => rfl⟩ hS ?_
    simp only [List.setIfInBounds_toArray, List.set_cons_zero, List.set_cons_succ]
    refine anyHF_done (by kernel_rfl) ?_ _
    refine NoPanic.normal ?_
    clear hS dg dgN dn hnl i2 hlw
    by_cases hm : many ≤ (pre.length : Int) + 1
    · have dm : decide (many ≤ (pre.length : Int) + 1) = true := decide_eq_true hm
      gi_wp2_with fail
      exact ⟨fun _ => False, Go.Proofs.YthmkgdkfehgpkaaGreatDoor.T.FreshO.refl _ _, hss, hks, ⟨rfl, by rw [hl2.out]; omega, by rcases hcnd with h | h; left; rw [hl2.out]; omega; right; rw [hl2.out]; omega, by rw [hl2.out]; omega⟩, rfl, hT.out⟩
    · have dm : decide (many ≤ (pre.length : Int) + 1) = false := decide_eq_false hm
      gi_wp2_with fail
      exact ⟨fun _ => False, Go.Proofs.YthmkgdkfehgpkaaGreatDoor.T.FreshO.refl _ _, hss, hks, rfl, .inr (by rw [hl2.out]; omega), hT.out⟩
  case doneA =>
    rintro DA xs o X hD _ hxs ⟨rfl, hcnd, hn, hB⟩ hK _
    have hxl : xs = (chn x0 x1 rs) := hxs
    rw [hxl] at hn hcnd
    clear hxs hxl
    have HNL := HNW.out
    rw [← HNL] at hn
    obtain ⟨f1, f2, f3, f4, f5, f6⟩ := F0.next hB
    have cn := hn.one
    have clx := f3.one
    have ctx := (ct0.below hB ct0.lt).one
    have cmx := f1.one
    have lt0 := hB.size
    rw [← HNL] at hcnd
    have hmin : ((((nw : Nat) : Int)) != min ((nw : Nat) : Int) (max 1 many)) = false := by rw [bne_eq_false_iff_eq]; rcases hcnd with h | h <;> omega
    clear HNL
    have fV := F0.2.2.2.2.1
    have hs0 := fV.size
    gi_wp2
    clear cn clx ctx cmx f1 f2 f3 f4 f5 f6
    obtain ⟨V1B, hVn⟩ : ∃ Y, X.alloc (.cells #[.int .i64 1] 3) = Y := ⟨_, rfl⟩
    rw [hVn]
    have hBn : Below V0.heap.size V0 V1B := by rw [← hVn]; exact hB.alloc hB.size _
    have ct1 : Blk V1B X.heap.size 3 #[.int .i64 1] := by rw [← hVn]; exact Blk.new _ _ _
    have hDn : V1B.heap[DA]? = some (.deferred (some [])) := by rw [← hVn]; exact (Below.heap_alloc X _ DA (Array.getElem?_eq_some_iff.1 hK).1).trans hK
    have HL1 := HL0.more hBn (D := DA) (by omega) (by omega) hDn
    have F1 := F0.next hBn
    clear hVn hBn hDn hK hn hB ct0 F0 HL0 fV lt0 hs0
    clear hmin hcnd
    obtain ⟨tb, htb⟩ : ∃ tb, Hid (X.heap.size = tb) := ⟨_, rfl⟩
    rw [htb.out] at ct1 ⊢
    clear htb
    rw [roundsIn_succ]
    obtain ⟨f1, f2, f3, f4, f5, f6⟩ := id F1
    have ctt := ct1.one
    have hlt1 := f1.lt
    have hlt2 := f2.lt
    have hlt3 := f3.lt
    have hltt := ct1.lt
    have hs8 := f6.size
    gi_wp2_with fail
    have hn0 : Blk (V1B.alloc (.cells #[.int .i64 0] 3)) V1B.heap.size 3 #[.int .i64 (([] : List (Int × Int × Int)).length : Int)] := Blk.new _ _ _
    have hBa := below_one V1B (.cells #[.int .i64 0] 3)
    have h8a := below_in f6 hBa
    clear ctt
    obtain ⟨VaB, hVa⟩ : ∃ X, V1B.alloc (.cells #[.int .i64 0] 3) = X := ⟨_, rfl⟩
    rw [hVa] at hn0 hBa h8a ⊢
    clear hVa
    have hna := hn0.lt
    clear f1 f2 f3 f4 f5 f6
    refine wpIn_rangeBoxP rfl (by omega) (gf := gf) (lb := lb) rfl trivial hen (HSQ.out 8 (by omega)) (fun h h' => h.trans h') (fun W l ob h1 _ _ => Keep.putFar W (by omega) ob) h8a (fun _ => rfl)
      (fun (pre : List (Int × Int × Int)) o X => (o = fun _ => False) ∧ True ∧ Blk X V1B.heap.size 3 #[.int .i64 (pre.length : Int)] ∧ Below V1B.heap.size V1B X)
      (fun c (pre : List (Int × Int × Int)) o X => False ∧ (o = fun _ => False) ∧ Blk X V1B.heap.size 3 #[.int .i64 (pre.length : Int)] ∧ Below V1B.heap.size V1B X)
      ?hIB ?hIxB (fun _ => False) (fun b e => e.elim) ⟨rfl, trivial, hn0, hBa⟩
      (fun pre x => x.1 = (pre.length : Int) ∧ pre.length < (chn x0 x1 rs).length ∧ ((chn x0 x1 rs).map (fun x : Int × Int × Int => (x.2.1, x.2.2)))[pre.length]? = some (x.2.1, x.2.2)) (fun pre x W h => hPRE.out pre x h) 36 (fun x : Int × Int × Int => #[.int .i64 x.2.1, .int .i64 x.2.2]) ?actB
      ?assignB (fun pre o X h => by obtain ⟨rfl, _⟩ := h; exact fun b hb => hb.elim) ?hrowxB ?bodyB ?doneB ?stopB
    case hIB =>
      rintro s o X Y row ⟨rfl, hc, hn, hB⟩ hgr hr
      have hne : some (V1B.heap.size) ≠ row := fun e => by have := (hr _ e.symm).1; omega
      exact ⟨rfl, hc, hn.grown hgr hne, below_grown hB hgr hB.size (fun r e => by have := (hr r e).1; omega)⟩
    case hIxB => exact fun c s o X Y row h _ _ => h.1.elim
    case hrowxB => exact fun c pre o X h => by obtain ⟨_, rfl, _⟩ := h; exact fun b hb => hb.elim
    case assignB =>
      rintro l' pre x o X KK hsz hol ⟨rfl, hc, hn, hB⟩ _ hKK
      simp only [encC]
      gi_wp2
      have hbx := Blk.new X 36 #[.int .i64 x.2.1, .int .i64 x.2.2]
      have hBz := below_one X (.cells #[.int .i64 x.2.1, .int .i64 x.2.2] 36)
      have hKe : Keep lo (w8.heap.size - lo) X (X.alloc (.cells #[.int .i64 x.2.1, .int .i64 x.2.2] 36)) := Keep.alloc (by omega) _
      have hn2 := hn.below hBz hn.lt
      have hB2 := hB.trans (hBz.mono hB.size)
      have hsn : Go.Proofs.YthmkgdkfehgpkaaGreatDoor.T.SinceO VaB.heap.size (fun _ => False) X _ := Go.Proofs.YthmkgdkfehgpkaaGreatDoor.T.SinceO.below hBz
      obtain ⟨Y, hY⟩ : ∃ Y, X.alloc (.cells #[.int .i64 x.2.1, .int .i64 x.2.2] 36) = Y := ⟨_, rfl⟩
      obtain ⟨Bx, hBx⟩ : ∃ b, X.heap.size = b := ⟨_, rfl⟩
      rw [hY] at hbx hKe hn2 hB2 hsn ⊢
      rw [hBx] at hbx hsz ⊢
      exact hKK Bx Y hsn hKe ⟨by first | rfl | trivial, hc, hn2, hB2⟩ hbx (fun h => h) hsz
    case bodyB =>
      rintro l' pre x o Bx X hsz ⟨rfl, hcnd, hn, hB⟩ hbx _ hle ⟨hk, hlt, hwv⟩ hlen
      obtain ⟨f1, f2, f3, f4, f5, f6⟩ := F1.next hB
      obtain ⟨pw, cpw, ew, hcw⟩ := f4
      have hlp : pre.length < ((chn x0 x1 rs).map (fun x : Int × Int × Int => (x.2.1, x.2.2))).length := by rw [List.length_map]; exact hlt
      obtain ⟨gw, hgw, hgwl, hw1, hw2⟩ := hcw pre.length hlp
      rw [List.getElem?_eq_getElem hlp] at hwv
      injection hwv with hwv
      rw [hwv] at hw1 hw2
      injection ew with ew1 ew2 ew3
      clear ew2 ew3
      rw [hgw] at ew1
      have hbd := (Below.refl X.heap.size X).drew
      have hc3 : X.drew.cell? ⟨g3, 0, none⟩ = some (.slice (some ⟨gw, 0, none⟩) nw cw) := by have h := (f3.below hbd f3.lt).one; rw [ew1] at h; exact h
      have hS : (fun U : World => U.cell? ⟨V1B.heap.size, 0, none⟩ = some (.int .i64 (pre.length : Int)) ∧ U.cell? ⟨g3, 0, none⟩ = some (.slice (some ⟨gw, 0, none⟩) nw cw) ∧ U.cell? ⟨Bx, 0, none⟩ = some (.int .i64 x.2.1) ∧ U.cell? ⟨Bx, 1, none⟩ = some (.int .i64 x.2.2) ∧ U.cell? ⟨gw, pre.length * 2, none⟩ = some (.int .i64 x.2.1) ∧ U.cell? ⟨gw, pre.length * 2 + 1, none⟩ = some (.int .i64 x.2.2)) X.drew := ⟨(hn.below hbd hn.lt).one, hc3, (hbx.below hbd hbx.lt).cell 0, (hbx.below hbd hbx.lt).cell 1, hw1, hw2⟩
      have HNL := HNW.out
      have dg : decide ((nw : Int) ≤ (pre.length : Int)) = false := decide_eq_false (by rw [HNL]; omega)
      have dgN : decide (nw ≤ pre.length) = false := decide_eq_false (by rw [HNL]; omega)
      have hnl : ¬ nw ≤ pre.length := by rw [HNL]; omega
      have dn : (x.1 != (pre.length : Int)) = false := by rw [hk]; simp
      have hlw : pre.length < nw := by rw [HNL]; exact hlt
      have i0 : (0 : Int) ≤ (pre.length : Int) := by omega
      have i2 : (pre.length : Int) < (nw : Int) := by omega
      clear HNL hcw hwv hgw hw1 hw2 ew1 hc3
      have hLm := HLM.out
      have hwr : IntKind.i64.wrap ((pre.length : Int) + 1) = (pre.length : Int) + 1 := IntWalk.i64_in _ (by omega)
      have ctx := (ct1.below hB ct1.lt).one
      have cm := f1.one
      have cn := hn.one
      have fn := hn.frozen 0
      have hbsz := hB.size
      have hl2 : Hid ((pre ++ [x]).length = pre.length + 1) := by unfold Hid; rw [List.length_append]; rfl
      have hkb : ∀ b, b ≠ V1B.heap.size → ((X.drew).setCell ⟨V1B.heap.size, 0, none⟩ (.int .i64 ((pre.length : Int) + 1))).heap[b]? = X.heap[b]? := fun b hb => (Below.heap_setCell X.drew ⟨V1B.heap.size, 0, none⟩ _ b hb)
      have hks : Keep lo (w8.heap.size - lo) X ((X.drew).setCell ⟨V1B.heap.size, 0, none⟩ (.int .i64 ((pre.length : Int) + 1))) := ⟨by simp, fun b h1 h2 => hkb b (by omega)⟩
      have hss : Go.Proofs.YthmkgdkfehgpkaaGreatDoor.T.SinceO VaB.heap.size (fun _ => False) X ((X.drew).setCell ⟨V1B.heap.size, 0, none⟩ (.int .i64 ((pre.length : Int) + 1))) := ⟨by simp, fun b h1 h2 h3 => hkb b (by omega)⟩
      have hT : Hid (Blk ((X.drew).setCell ⟨V1B.heap.size, 0, none⟩ (.int .i64 ((pre.length : Int) + 1))) V1B.heap.size 3 #[.int .i64 (((pre ++ [x]).length : Nat) : Int)] ∧ Below V1B.heap.size V1B ((X.drew).setCell ⟨V1B.heap.size, 0, none⟩ (.int .i64 ((pre.length : Int) + 1)))) := by
        unfold Hid
        rw [hl2.out]
        exact ⟨(hn.below hbd hn.lt).set_ 0 _, (hB.trans (hbd.mono hB.size)).setCell (Nat.le_refl _) _⟩
      clear hn hB f1 f2 f3 f5 f6 hbd hkb hbx
      gi_wp2_with fail
      refine wpIn_mono (region_HF (Q := NoPanic _) (S := (fun U : World => U.cell? ⟨V1B.heap.size, 0, none⟩ = some (.int .i64 (pre.length : Int)) ∧ U.cell? ⟨g3, 0, none⟩ = some (.slice (some ⟨gw, 0, none⟩) nw cw) ∧ U.cell? ⟨Bx, 0, none⟩ = some (.int .i64 x.2.1) ∧ U.cell? ⟨Bx, 1, none⟩ = some (.int .i64 x.2.2) ∧ U.cell? ⟨gw, pre.length * 2, none⟩ = some (.int .i64 x.2.1) ∧ U.cell? ⟨gw, pre.length * 2 + 1, none⟩ = some (.int .i64 x.2.2))) (by kernel_rfl) ?_) NoPanic.imp
      refine anyHF_take (i := 0) (d := 66) (v := .int .i64 (pre.length : Int)) (by kernel_rfl) rfl (by kernel_rfl) (by kernel_rfl) (by kernel_rfl) rfl (fun _ _ _ h => h) ⟨Or.inl ⟨by rfl, fun w hS => by obtain ⟨h0, h1, h2, h3, h4, h5⟩ := hS; go_simp⟩, fun _ => rfl⟩ hS ?_
      simp only [List.setIfInBounds_toArray, List.set_cons_zero, List.set_cons_succ]
      refine anyHF_take (i := 1) (d := 67) (v := .slice (some ⟨gw, 0, none⟩) nw cw) (by kernel_rfl) rfl (by kernel_rfl) (by kernel_rfl) (by kernel_rfl) rfl (fun _ _ _ h => h) ⟨Or.inl ⟨by rfl, fun w hS => by obtain ⟨h0, h1, h2, h3, h4, h5⟩ := hS; go_simp⟩, fun _ => rfl⟩ hS ?_
      simp only [List.setIfInBounds_toArray, List.set_cons_zero, List.set_cons_succ]
      refine anyHF_take (i := 2) (d := 68) (v := .int .i64 (nw : Int)) (by kernel_rfl) rfl (by kernel_rfl) (by kernel_rfl) (by kernel_rfl) rfl (fun _ _ _ h => h) ⟨Or.inl ⟨by rfl, fun w hS => by obtain ⟨h0, h1, h2, h3, h4, h5⟩ := hS; go_simp⟩, fun _ => rfl⟩ hS ?_
      simp only [List.setIfInBounds_toArray, List.set_cons_zero, List.set_cons_succ]
      refine anyHF_take (i := 3) (d := 69) (v := .bool false) (by kernel_rfl) rfl (by kernel_rfl) (by kernel_rfl) (by kernel_rfl) rfl (fun _ _ _ h => h) ⟨Or.inl ⟨by rfl, fun w hS => by obtain ⟨h0, h1, h2, h3, h4, h5⟩ := hS; go_simp⟩, fun _ => rfl⟩ hS ?_
      simp only [List.setIfInBounds_toArray, List.set_cons_zero, List.set_cons_succ]
      refine anyHF_take (i := 4) (d := 70) (v := .bool false) (by kernel_rfl) rfl (by kernel_rfl) (by kernel_rfl) (by kernel_rfl) rfl (fun _ _ _ h => h) ⟨Or.inl ⟨by rfl, fun w hS => by obtain ⟨h0, h1, h2, h3, h4, h5⟩ := hS; go_simp⟩, fun _ => rfl⟩ hS ?_
      simp only [List.setIfInBounds_toArray, List.set_cons_zero, List.set_cons_succ]
      refine anyHF_take (i := 5) (d := 71) (v := .int .i64 x.1) (by kernel_rfl) rfl (by kernel_rfl) (by kernel_rfl) (by kernel_rfl) rfl (fun _ _ _ h => h) ⟨Or.inl ⟨by rfl, fun w hS => by obtain ⟨h0, h1, h2, h3, h4, h5⟩ := hS; go_simp⟩, fun _ => rfl⟩ hS ?_
      simp only [List.setIfInBounds_toArray, List.set_cons_zero, List.set_cons_succ]
      refine anyHF_take (i := 6) (d := 72) (v := .int .i64 (pre.length : Int)) (by kernel_rfl) rfl (by kernel_rfl) (by kernel_rfl) (by kernel_rfl) rfl (fun _ _ _ h => h) ⟨Or.inl ⟨by rfl, fun w hS => by obtain ⟨h0, h1, h2, h3, h4, h5⟩ := hS; go_simp⟩, fun _ => rfl⟩ hS ?_
      simp only [List.setIfInBounds_toArray, List.set_cons_zero, List.set_cons_succ]
      refine anyHF_take (i := 7) (d := 73) (v := .bool false) (by kernel_rfl) rfl (by kernel_rfl) (by kernel_rfl) (by kernel_rfl) rfl (fun _ _ _ h => h) ⟨Or.inl ⟨by rfl, fun w hS => by obtain ⟨h0, h1, h2, h3, h4, h5⟩ := hS; go_simp⟩, fun _ => rfl⟩ hS ?_
      simp only [List.setIfInBounds_toArray, List.set_cons_zero, List.set_cons_succ]
      refine anyHF_take (i := 8) (d := 74) (v := .bool false) (by kernel_rfl) rfl (by kernel_rfl) (by kernel_rfl) (by kernel_rfl) rfl (fun _ _ _ h => h) ⟨Or.inl ⟨by rfl, fun w hS => by obtain ⟨h0, h1, h2, h3, h4, h5⟩ := hS; go_simp⟩, fun _ => rfl⟩ hS ?_
      simp only [List.setIfInBounds_toArray, List.set_cons_zero, List.set_cons_succ]
      refine anyHF_take (i := 9) (d := 75) (v := .bool false) (by kernel_rfl) rfl (by kernel_rfl) (by kernel_rfl) (by kernel_rfl) rfl (fun _ _ _ h => h) ⟨Or.inl ⟨by rfl, fun w hS => by obtain ⟨h0, h1, h2, h3, h4, h5⟩ := hS; go_simp⟩, fun _ => rfl⟩ hS ?_
      simp only [List.setIfInBounds_toArray, List.set_cons_zero, List.set_cons_succ]
      refine anyHF_take (i := 10) (d := 76) (v := .agg #[.int .i64 x.2.1, .int .i64 x.2.2]) (by kernel_rfl) rfl (by kernel_rfl) (by kernel_rfl) (by kernel_rfl) rfl (fun _ _ _ h => h) ⟨Or.inl ⟨by rfl, fun w hS => by obtain ⟨h0, h1, h2, h3, h4, h5⟩ := hS; go_simp⟩, fun _ => rfl⟩ hS ?_
      simp only [List.setIfInBounds_toArray, List.set_cons_zero, List.set_cons_succ]
      refine anyHF_take (i := 11) (d := 77) (v := .slice (some ⟨gw, 0, none⟩) nw cw) (by kernel_rfl) rfl (by kernel_rfl) (by kernel_rfl) (by kernel_rfl) rfl (fun _ _ _ h => h) ⟨Or.inl ⟨by rfl, fun w hS => by obtain ⟨h0, h1, h2, h3, h4, h5⟩ := hS; go_simp⟩, fun _ => rfl⟩ hS ?_
      simp only [List.setIfInBounds_toArray, List.set_cons_zero, List.set_cons_succ]
      refine anyHF_take (i := 12) (d := 78) (v := .int .i64 (pre.length : Int)) (by kernel_rfl) rfl (by kernel_rfl) (by kernel_rfl) (by kernel_rfl) rfl (fun _ _ _ h => h) ⟨Or.inl ⟨by rfl, fun w hS => by obtain ⟨h0, h1, h2, h3, h4, h5⟩ := hS; go_simp⟩, fun _ => rfl⟩ hS ?_
      simp only [List.setIfInBounds_toArray, List.set_cons_zero, List.set_cons_succ]
      refine anyHF_take (i := 13) (d := 79) (v := .pointer (some ⟨gw, pre.length * 2, none⟩)) (by kernel_rfl) rfl (by kernel_rfl) (by kernel_rfl) (by kernel_rfl) rfl (fun _ _ _ h => h) ⟨Or.inl ⟨by rfl, fun w hS => by obtain ⟨h0, h1, h2, h3, h4, h5⟩ := hS; go_simp⟩, fun _ => rfl⟩ hS ?_
      simp only [List.setIfInBounds_toArray, List.set_cons_zero, List.set_cons_succ]
      refine anyHF_take (i := 14) (d := 80) (v := .agg #[.int .i64 x.2.1, .int .i64 x.2.2]) (by kernel_rfl) rfl (by kernel_rfl) (by kernel_rfl) (by kernel_rfl) rfl (fun _ _ _ h => h) ⟨Or.inl ⟨by rfl, fun w hS => by obtain ⟨h0, h1, h2, h3, h4, h5⟩ := hS; go_simp⟩, fun _ => rfl⟩ hS ?_
      simp only [List.setIfInBounds_toArray, List.set_cons_zero, List.set_cons_succ]
      refine anyHF_take (i := 15) (d := 81) (v := .bool false) (by kernel_rfl) rfl (by kernel_rfl) (by kernel_rfl) (by kernel_rfl) rfl (fun _ _ _ h => h) ⟨Or.inl ⟨by rfl, fun w hS => by obtain ⟨h0, h1, h2, h3, h4, h5⟩ := hS; go_simp⟩, fun _ => rfl⟩ hS ?_
      simp only [List.setIfInBounds_toArray, List.set_cons_zero, List.set_cons_succ]
      refine anyHF_take (i := 16) (d := 82) (v := .bool false) (by kernel_rfl) rfl (by kernel_rfl) (by kernel_rfl) (by kernel_rfl) rfl (fun _ _ _ h => h) ⟨Or.inl ⟨by rfl, fun w hS => by obtain ⟨h0, h1, h2, h3, h4, h5⟩ := hS; go_simp⟩, fun _ => rfl⟩ hS ?_
      simp only [List.setIfInBounds_toArray, List.set_cons_zero, List.set_cons_succ]
      refine anyHF_done (by kernel_rfl) ?_ _
      refine NoPanic.normal ?_
      clear hS dg dgN dn hnl i2 hlw
      gi_wp2_with fail
      exact ⟨fun _ => False, Go.Proofs.YthmkgdkfehgpkaaGreatDoor.T.FreshO.refl _ _, hss, hks, rfl, trivial, hT.out⟩
    case doneB =>
      rintro DB xs o X hD _ hxs ⟨rfl, hcnd, hn, hB⟩ hK _
      have hxl : xs = (chn x0 x1 rs) := hxs
      rw [hxl] at hn
      clear hxs hxl
      have HNL := HNW.out
      rw [← HNL] at hn
      obtain ⟨f1, f2, f3, f4, f5, f6⟩ := F1.next hB
      have cn := hn.one
      have clx := f3.one
      have ctx := (ct1.below hB ct1.lt).one
      have cmx := f1.one
      have lt0 := hB.size
      have hne1 : ((((nw : Nat) : Int)) != ((nw : Nat) : Int)) = false := by simp
      clear HNL
      have fV := F1.2.2.2.2.1
      have hs0 := fV.size
      gi_wp2
      clear cn clx ctx cmx f1 f2 f3 f4 f5 f6
      obtain ⟨V2B, hVn⟩ : ∃ Y, X.alloc (.cells #[.int .i64 2] 3) = Y := ⟨_, rfl⟩
      rw [hVn]
      have hBn : Below V1B.heap.size V1B V2B := by rw [← hVn]; exact hB.alloc hB.size _
      have ct2 : Blk V2B X.heap.size 3 #[.int .i64 2] := by rw [← hVn]; exact Blk.new _ _ _
      have hDn : V2B.heap[DB]? = some (.deferred (some [])) := by rw [← hVn]; exact (Below.heap_alloc X _ DB (Array.getElem?_eq_some_iff.1 hK).1).trans hK
      have HL2 := HL1.more hBn (D := DB) (by omega) (by omega) hDn
      have F2 := F1.next hBn
      clear hVn hBn hDn hK hn hB ct1 F1 HL1 fV lt0 hs0
      clear hne1
      rw [roundsIn_succ]
      obtain ⟨f1, f2, f3, f4, f5, f6⟩ := id F2
      have ctx := ct2.one
      have hs4 := f2.lt
      gi_wp2_with fail
      go_wp2_with fail
      refine (works11_any _ (HLW.out _ f5)).mono ?_
      rintro e wf ⟨rfl, hBf⟩
      have f4f := f2.below hBf f2.lt
      have crx := f4f.one
      have frx := f4f.frozen 0
      have hb3 := f4f.set_ 0 (.bool true)
      have hLf := (HL2.below hBf).set_ ⟨g2, 0, none⟩ (.bool true)
      have hBz : Below w.heap.size w (wf.setCell ⟨g2, 0, none⟩ (.bool true)) := (below_in f5 hBf).setCell (by show w.heap.size ≤ g2; omega) _
      go_wp2
      refine leaves_blks w _ _ hLf hBz (fun W' hB' hk => ?_)
      have r0 := (hk _ _ _ hb3).one
      exact ⟨.bool true, by simp [results, Tryz.results3, go_sem, r0], rfl, hB'⟩
    case stopB =>
      rintro D c pre o X hD _ hsp ⟨h, _⟩ hK _
      exact h.elim
  case stopA =>
    rintro DA c pre o X hD _ hsp ⟨⟨rfl, hx1, hx2, hx3⟩, rfl, hn, hB⟩ hK _
    have hple : pre.length ≤ (chn x0 x1 rs).length := List.IsPrefix.length_le hsp
    clear hsp
    have HNL := HNW.out
    rw [← HNL] at hple
    obtain ⟨f1, f2, f3, f4, f5, f6⟩ := F0.next hB
    have cn := hn.one
    have clx := f3.one
    have ctx := (ct0.below hB ct0.lt).one
    have cmx := f1.one
    have lt0 := hB.size
    have hmin : ((pre.length : Int) != min ((nw : Nat) : Int) (max 1 many)) = false := by rw [bne_eq_false_iff_eq]; rcases hx2 with h | h <;> omega
    clear HNL
    have fV := F0.2.2.2.2.1
    have hs0 := fV.size
    gi_wp2
    clear cn clx ctx cmx f1 f2 f3 f4 f5 f6
    obtain ⟨V1C, hVn⟩ : ∃ Y, X.alloc (.cells #[.int .i64 1] 3) = Y := ⟨_, rfl⟩
    rw [hVn]
    have hBn : Below V0.heap.size V0 V1C := by rw [← hVn]; exact hB.alloc hB.size _
    have ct1 : Blk V1C X.heap.size 3 #[.int .i64 1] := by rw [← hVn]; exact Blk.new _ _ _
    have hDn : V1C.heap[DA]? = some (.deferred (some [])) := by rw [← hVn]; exact (Below.heap_alloc X _ DA (Array.getElem?_eq_some_iff.1 hK).1).trans hK
    have HL1 := HL0.more hBn (D := DA) (by omega) (by omega) hDn
    have F1 := F0.next hBn
    clear hVn hBn hDn hK hn hB ct0 F0 HL0 fV lt0 hs0
    clear hmin hx1 hx2 hx3 hple
    obtain ⟨tb, htb⟩ : ∃ tb, Hid (X.heap.size = tb) := ⟨_, rfl⟩
    rw [htb.out] at ct1 ⊢
    clear htb
    rw [roundsIn_succ]
    obtain ⟨f1, f2, f3, f4, f5, f6⟩ := id F1
    have ctt := ct1.one
    have hlt1 := f1.lt
    have hlt2 := f2.lt
    have hlt3 := f3.lt
    have hltt := ct1.lt
    have hs8 := f6.size
    gi_wp2_with fail
    have hn0 : Blk (V1C.alloc (.cells #[.int .i64 0] 3)) V1C.heap.size 3 #[.int .i64 (([] : List (Int × Int × Int)).length : Int)] := Blk.new _ _ _
    have hBa := below_one V1C (.cells #[.int .i64 0] 3)
    have h8a := below_in f6 hBa
    clear ctt
    obtain ⟨VaC, hVa⟩ : ∃ X, V1C.alloc (.cells #[.int .i64 0] 3) = X := ⟨_, rfl⟩
    rw [hVa] at hn0 hBa h8a ⊢
    clear hVa
    have hna := hn0.lt
    clear f1 f2 f3 f4 f5 f6
    refine wpIn_rangeBoxP rfl (by omega) (gf := gf) (lb := lb) rfl trivial hen (HSQ.out 8 (by omega)) (fun h h' => h.trans h') (fun W l ob h1 _ _ => Keep.putFar W (by omega) ob) h8a (fun _ => rfl)
      (fun (pre : List (Int × Int × Int)) o X => (o = fun _ => False) ∧ True ∧ Blk X V1C.heap.size 3 #[.int .i64 (pre.length : Int)] ∧ Below V1C.heap.size V1C X)
      (fun c (pre : List (Int × Int × Int)) o X => False ∧ (o = fun _ => False) ∧ Blk X V1C.heap.size 3 #[.int .i64 (pre.length : Int)] ∧ Below V1C.heap.size V1C X)
      ?hIC ?hIxC (fun _ => False) (fun b e => e.elim) ⟨rfl, trivial, hn0, hBa⟩
      (fun pre x => x.1 = (pre.length : Int) ∧ pre.length < (chn x0 x1 rs).length ∧ ((chn x0 x1 rs).map (fun x : Int × Int × Int => (x.2.1, x.2.2)))[pre.length]? = some (x.2.1, x.2.2)) (fun pre x W h => hPRE.out pre x h) 36 (fun x : Int × Int × Int => #[.int .i64 x.2.1, .int .i64 x.2.2]) ?actC
      ?assignC (fun pre o X h => by obtain ⟨rfl, _⟩ := h; exact fun b hb => hb.elim) ?hrowxC ?bodyC ?doneC ?stopC
    case hIC =>
      rintro s o X Y row ⟨rfl, hc, hn, hB⟩ hgr hr
      have hne : some (V1C.heap.size) ≠ row := fun e => by have := (hr _ e.symm).1; omega
      exact ⟨rfl, hc, hn.grown hgr hne, below_grown hB hgr hB.size (fun r e => by have := (hr r e).1; omega)⟩
    case hIxC => exact fun c s o X Y row h _ _ => h.1.elim
    case hrowxC => exact fun c pre o X h => by obtain ⟨_, rfl, _⟩ := h; exact fun b hb => hb.elim
    case assignC =>
      rintro l' pre x o X KK hsz hol ⟨rfl, hc, hn, hB⟩ _ hKK
      simp only [encC]
      gi_wp2
      have hbx := Blk.new X 36 #[.int .i64 x.2.1, .int .i64 x.2.2]
      have hBz := below_one X (.cells #[.int .i64 x.2.1, .int .i64 x.2.2] 36)
      have hKe : Keep lo (w8.heap.size - lo) X (X.alloc (.cells #[.int .i64 x.2.1, .int .i64 x.2.2] 36)) := Keep.alloc (by omega) _
      have hn2 := hn.below hBz hn.lt
      have hB2 := hB.trans (hBz.mono hB.size)
      have hsn : Go.Proofs.YthmkgdkfehgpkaaGreatDoor.T.SinceO VaC.heap.size (fun _ => False) X _ := Go.Proofs.YthmkgdkfehgpkaaGreatDoor.T.SinceO.below hBz
      obtain ⟨Y, hY⟩ : ∃ Y, X.alloc (.cells #[.int .i64 x.2.1, .int .i64 x.2.2] 36) = Y := ⟨_, rfl⟩
      obtain ⟨Bx, hBx⟩ : ∃ b, X.heap.size = b := ⟨_, rfl⟩
      rw [hY] at hbx hKe hn2 hB2 hsn ⊢
      rw [hBx] at hbx hsz ⊢
      exact hKK Bx Y hsn hKe ⟨by first | rfl | trivial, hc, hn2, hB2⟩ hbx (fun h => h) hsz
    case bodyC =>
      rintro l' pre x o Bx X hsz ⟨rfl, hcnd, hn, hB⟩ hbx _ hle ⟨hk, hlt, hwv⟩ hlen
      obtain ⟨f1, f2, f3, f4, f5, f6⟩ := F1.next hB
      obtain ⟨pw, cpw, ew, hcw⟩ := f4
      have hlp : pre.length < ((chn x0 x1 rs).map (fun x : Int × Int × Int => (x.2.1, x.2.2))).length := by rw [List.length_map]; exact hlt
      obtain ⟨gw, hgw, hgwl, hw1, hw2⟩ := hcw pre.length hlp
      rw [List.getElem?_eq_getElem hlp] at hwv
      injection hwv with hwv
      rw [hwv] at hw1 hw2
      injection ew with ew1 ew2 ew3
      clear ew2 ew3
      rw [hgw] at ew1
      have hbd := (Below.refl X.heap.size X).drew
      have hc3 : X.drew.cell? ⟨g3, 0, none⟩ = some (.slice (some ⟨gw, 0, none⟩) nw cw) := by have h := (f3.below hbd f3.lt).one; rw [ew1] at h; exact h
      have hS : (fun U : World => U.cell? ⟨V1C.heap.size, 0, none⟩ = some (.int .i64 (pre.length : Int)) ∧ U.cell? ⟨g3, 0, none⟩ = some (.slice (some ⟨gw, 0, none⟩) nw cw) ∧ U.cell? ⟨Bx, 0, none⟩ = some (.int .i64 x.2.1) ∧ U.cell? ⟨Bx, 1, none⟩ = some (.int .i64 x.2.2) ∧ U.cell? ⟨gw, pre.length * 2, none⟩ = some (.int .i64 x.2.1) ∧ U.cell? ⟨gw, pre.length * 2 + 1, none⟩ = some (.int .i64 x.2.2)) X.drew := ⟨(hn.below hbd hn.lt).one, hc3, (hbx.below hbd hbx.lt).cell 0, (hbx.below hbd hbx.lt).cell 1, hw1, hw2⟩
      have HNL := HNW.out
      have dg : decide ((nw : Int) ≤ (pre.length : Int)) = false := decide_eq_false (by rw [HNL]; omega)
      have dgN : decide (nw ≤ pre.length) = false := decide_eq_false (by rw [HNL]; omega)
      have hnl : ¬ nw ≤ pre.length := by rw [HNL]; omega
      have dn : (x.1 != (pre.length : Int)) = false := by rw [hk]; simp
      have hlw : pre.length < nw := by rw [HNL]; exact hlt
      have i0 : (0 : Int) ≤ (pre.length : Int) := by omega
      have i2 : (pre.length : Int) < (nw : Int) := by omega
      clear HNL hcw hwv hgw hw1 hw2 ew1 hc3
      have hLm := HLM.out
      have hwr : IntKind.i64.wrap ((pre.length : Int) + 1) = (pre.length : Int) + 1 := IntWalk.i64_in _ (by omega)
      have ctx := (ct1.below hB ct1.lt).one
      have cm := f1.one
      have cn := hn.one
      have fn := hn.frozen 0
      have hbsz := hB.size
      have hl2 : Hid ((pre ++ [x]).length = pre.length + 1) := by unfold Hid; rw [List.length_append]; rfl
      have hkb : ∀ b, b ≠ V1C.heap.size → ((X.drew).setCell ⟨V1C.heap.size, 0, none⟩ (.int .i64 ((pre.length : Int) + 1))).heap[b]? = X.heap[b]? := fun b hb => (Below.heap_setCell X.drew ⟨V1C.heap.size, 0, none⟩ _ b hb)
      have hks : Keep lo (w8.heap.size - lo) X ((X.drew).setCell ⟨V1C.heap.size, 0, none⟩ (.int .i64 ((pre.length : Int) + 1))) := ⟨by simp, fun b h1 h2 => hkb b (by omega)⟩
      have hss : Go.Proofs.YthmkgdkfehgpkaaGreatDoor.T.SinceO VaC.heap.size (fun _ => False) X ((X.drew).setCell ⟨V1C.heap.size, 0, none⟩ (.int .i64 ((pre.length : Int) + 1))) := ⟨by simp, fun b h1 h2 h3 => hkb b (by omega)⟩
      have hT : Hid (Blk ((X.drew).setCell ⟨V1C.heap.size, 0, none⟩ (.int .i64 ((pre.length : Int) + 1))) V1C.heap.size 3 #[.int .i64 (((pre ++ [x]).length : Nat) : Int)] ∧ Below V1C.heap.size V1C ((X.drew).setCell ⟨V1C.heap.size, 0, none⟩ (.int .i64 ((pre.length : Int) + 1)))) := by
        unfold Hid
        rw [hl2.out]
        exact ⟨(hn.below hbd hn.lt).set_ 0 _, (hB.trans (hbd.mono hB.size)).setCell (Nat.le_refl _) _⟩
      clear hn hB f1 f2 f3 f5 f6 hbd hkb hbx
      gi_wp2_with fail
      refine wpIn_mono (region_HF (Q := NoPanic _) (S := (fun U : World => U.cell? ⟨V1C.heap.size, 0, none⟩ = some (.int .i64 (pre.length : Int)) ∧ U.cell? ⟨g3, 0, none⟩ = some (.slice (some ⟨gw, 0, none⟩) nw cw) ∧ U.cell? ⟨Bx, 0, none⟩ = some (.int .i64 x.2.1) ∧ U.cell? ⟨Bx, 1, none⟩ = some (.int .i64 x.2.2) ∧ U.cell? ⟨gw, pre.length * 2, none⟩ = some (.int .i64 x.2.1) ∧ U.cell? ⟨gw, pre.length * 2 + 1, none⟩ = some (.int .i64 x.2.2))) (by kernel_rfl) ?_) NoPanic.imp
      refine anyHF_take (i := 0) (d := 66) (v := .int .i64 (pre.length : Int)) (by kernel_rfl) rfl (by kernel_rfl) (by kernel_rfl) (by kernel_rfl) rfl (fun _ _ _ h => h) ⟨Or.inl ⟨by rfl, fun w hS => by obtain ⟨h0, h1, h2, h3, h4, h5⟩ := hS; go_simp⟩, fun _ => rfl⟩ hS ?_
      simp only [List.setIfInBounds_toArray, List.set_cons_zero, List.set_cons_succ]
      refine anyHF_take (i := 1) (d := 67) (v := .slice (some ⟨gw, 0, none⟩) nw cw) (by kernel_rfl) rfl (by kernel_rfl) (by kernel_rfl) (by kernel_rfl) rfl (fun _ _ _ h => h) ⟨Or.inl ⟨by rfl, fun w hS => by obtain ⟨h0, h1, h2, h3, h4, h5⟩ := hS; go_simp⟩, fun _ => rfl⟩ hS ?_
      simp only [List.setIfInBounds_toArray, List.set_cons_zero, List.set_cons_succ]
      refine anyHF_take (i := 2) (d := 68) (v := .int .i64 (nw : Int)) (by kernel_rfl) rfl (by kernel_rfl) (by kernel_rfl) (by kernel_rfl) rfl (fun _ _ _ h => h) ⟨Or.inl ⟨by rfl, fun w hS => by obtain ⟨h0, h1, h2, h3, h4, h5⟩ := hS; go_simp⟩, fun _ => rfl⟩ hS ?_
      simp only [List.setIfInBounds_toArray, List.set_cons_zero, List.set_cons_succ]
      refine anyHF_take (i := 3) (d := 69) (v := .bool false) (by kernel_rfl) rfl (by kernel_rfl) (by kernel_rfl) (by kernel_rfl) rfl (fun _ _ _ h => h) ⟨Or.inl ⟨by rfl, fun w hS => by obtain ⟨h0, h1, h2, h3, h4, h5⟩ := hS; go_simp⟩, fun _ => rfl⟩ hS ?_
      simp only [List.setIfInBounds_toArray, List.set_cons_zero, List.set_cons_succ]
      refine anyHF_take (i := 4) (d := 70) (v := .bool false) (by kernel_rfl) rfl (by kernel_rfl) (by kernel_rfl) (by kernel_rfl) rfl (fun _ _ _ h => h) ⟨Or.inl ⟨by rfl, fun w hS => by obtain ⟨h0, h1, h2, h3, h4, h5⟩ := hS; go_simp⟩, fun _ => rfl⟩ hS ?_
      simp only [List.setIfInBounds_toArray, List.set_cons_zero, List.set_cons_succ]
      refine anyHF_take (i := 5) (d := 71) (v := .int .i64 x.1) (by kernel_rfl) rfl (by kernel_rfl) (by kernel_rfl) (by kernel_rfl) rfl (fun _ _ _ h => h) ⟨Or.inl ⟨by rfl, fun w hS => by obtain ⟨h0, h1, h2, h3, h4, h5⟩ := hS; go_simp⟩, fun _ => rfl⟩ hS ?_
      simp only [List.setIfInBounds_toArray, List.set_cons_zero, List.set_cons_succ]
      refine anyHF_take (i := 6) (d := 72) (v := .int .i64 (pre.length : Int)) (by kernel_rfl) rfl (by kernel_rfl) (by kernel_rfl) (by kernel_rfl) rfl (fun _ _ _ h => h) ⟨Or.inl ⟨by rfl, fun w hS => by obtain ⟨h0, h1, h2, h3, h4, h5⟩ := hS; go_simp⟩, fun _ => rfl⟩ hS ?_
      simp only [List.setIfInBounds_toArray, List.set_cons_zero, List.set_cons_succ]
      refine anyHF_take (i := 7) (d := 73) (v := .bool false) (by kernel_rfl) rfl (by kernel_rfl) (by kernel_rfl) (by kernel_rfl) rfl (fun _ _ _ h => h) ⟨Or.inl ⟨by rfl, fun w hS => by obtain ⟨h0, h1, h2, h3, h4, h5⟩ := hS; go_simp⟩, fun _ => rfl⟩ hS ?_
      simp only [List.setIfInBounds_toArray, List.set_cons_zero, List.set_cons_succ]
      refine anyHF_take (i := 8) (d := 74) (v := .bool false) (by kernel_rfl) rfl (by kernel_rfl) (by kernel_rfl) (by kernel_rfl) rfl (fun _ _ _ h => h) ⟨Or.inl ⟨by rfl, fun w hS => by obtain ⟨h0, h1, h2, h3, h4, h5⟩ := hS; go_simp⟩, fun _ => rfl⟩ hS ?_
      simp only [List.setIfInBounds_toArray, List.set_cons_zero, List.set_cons_succ]
      refine anyHF_take (i := 9) (d := 75) (v := .bool false) (by kernel_rfl) rfl (by kernel_rfl) (by kernel_rfl) (by kernel_rfl) rfl (fun _ _ _ h => h) ⟨Or.inl ⟨by rfl, fun w hS => by obtain ⟨h0, h1, h2, h3, h4, h5⟩ := hS; go_simp⟩, fun _ => rfl⟩ hS ?_
      simp only [List.setIfInBounds_toArray, List.set_cons_zero, List.set_cons_succ]
      refine anyHF_take (i := 10) (d := 76) (v := .agg #[.int .i64 x.2.1, .int .i64 x.2.2]) (by kernel_rfl) rfl (by kernel_rfl) (by kernel_rfl) (by kernel_rfl) rfl (fun _ _ _ h => h) ⟨Or.inl ⟨by rfl, fun w hS => by obtain ⟨h0, h1, h2, h3, h4, h5⟩ := hS; go_simp⟩, fun _ => rfl⟩ hS ?_
      simp only [List.setIfInBounds_toArray, List.set_cons_zero, List.set_cons_succ]
      refine anyHF_take (i := 11) (d := 77) (v := .slice (some ⟨gw, 0, none⟩) nw cw) (by kernel_rfl) rfl (by kernel_rfl) (by kernel_rfl) (by kernel_rfl) rfl (fun _ _ _ h => h) ⟨Or.inl ⟨by rfl, fun w hS => by obtain ⟨h0, h1, h2, h3, h4, h5⟩ := hS; go_simp⟩, fun _ => rfl⟩ hS ?_
      simp only [List.setIfInBounds_toArray, List.set_cons_zero, List.set_cons_succ]
      refine anyHF_take (i := 12) (d := 78) (v := .int .i64 (pre.length : Int)) (by kernel_rfl) rfl (by kernel_rfl) (by kernel_rfl) (by kernel_rfl) rfl (fun _ _ _ h => h) ⟨Or.inl ⟨by rfl, fun w hS => by obtain ⟨h0, h1, h2, h3, h4, h5⟩ := hS; go_simp⟩, fun _ => rfl⟩ hS ?_
      simp only [List.setIfInBounds_toArray, List.set_cons_zero, List.set_cons_succ]
      refine anyHF_take (i := 13) (d := 79) (v := .pointer (some ⟨gw, pre.length * 2, none⟩)) (by kernel_rfl) rfl (by kernel_rfl) (by kernel_rfl) (by kernel_rfl) rfl (fun _ _ _ h => h) ⟨Or.inl ⟨by rfl, fun w hS => by obtain ⟨h0, h1, h2, h3, h4, h5⟩ := hS; go_simp⟩, fun _ => rfl⟩ hS ?_
      simp only [List.setIfInBounds_toArray, List.set_cons_zero, List.set_cons_succ]
      refine anyHF_take (i := 14) (d := 80) (v := .agg #[.int .i64 x.2.1, .int .i64 x.2.2]) (by kernel_rfl) rfl (by kernel_rfl) (by kernel_rfl) (by kernel_rfl) rfl (fun _ _ _ h => h) ⟨Or.inl ⟨by rfl, fun w hS => by obtain ⟨h0, h1, h2, h3, h4, h5⟩ := hS; go_simp⟩, fun _ => rfl⟩ hS ?_
      simp only [List.setIfInBounds_toArray, List.set_cons_zero, List.set_cons_succ]
      refine anyHF_take (i := 15) (d := 81) (v := .bool false) (by kernel_rfl) rfl (by kernel_rfl) (by kernel_rfl) (by kernel_rfl) rfl (fun _ _ _ h => h) ⟨Or.inl ⟨by rfl, fun w hS => by obtain ⟨h0, h1, h2, h3, h4, h5⟩ := hS; go_simp⟩, fun _ => rfl⟩ hS ?_
      simp only [List.setIfInBounds_toArray, List.set_cons_zero, List.set_cons_succ]
      refine anyHF_take (i := 16) (d := 82) (v := .bool false) (by kernel_rfl) rfl (by kernel_rfl) (by kernel_rfl) (by kernel_rfl) rfl (fun _ _ _ h => h) ⟨Or.inl ⟨by rfl, fun w hS => by obtain ⟨h0, h1, h2, h3, h4, h5⟩ := hS; go_simp⟩, fun _ => rfl⟩ hS ?_
      simp only [List.setIfInBounds_toArray, List.set_cons_zero, List.set_cons_succ]
      refine anyHF_done (by kernel_rfl) ?_ _
      refine NoPanic.normal ?_
      clear hS dg dgN dn hnl i2 hlw
      gi_wp2_with fail
      exact ⟨fun _ => False, Go.Proofs.YthmkgdkfehgpkaaGreatDoor.T.FreshO.refl _ _, hss, hks, rfl, trivial, hT.out⟩
    case doneC =>
      rintro DC xs o X hD _ hxs ⟨rfl, hcnd, hn, hB⟩ hK _
      have hxl : xs = (chn x0 x1 rs) := hxs
      rw [hxl] at hn
      clear hxs hxl
      have HNL := HNW.out
      rw [← HNL] at hn
      obtain ⟨f1, f2, f3, f4, f5, f6⟩ := F1.next hB
      have cn := hn.one
      have clx := f3.one
      have ctx := (ct1.below hB ct1.lt).one
      have cmx := f1.one
      have lt0 := hB.size
      have hne1 : ((((nw : Nat) : Int)) != ((nw : Nat) : Int)) = false := by simp
      clear HNL
      have fV := F1.2.2.2.2.1
      have hs0 := fV.size
      gi_wp2
      clear cn clx ctx cmx f1 f2 f3 f4 f5 f6
      obtain ⟨V2C, hVn⟩ : ∃ Y, X.alloc (.cells #[.int .i64 2] 3) = Y := ⟨_, rfl⟩
      rw [hVn]
      have hBn : Below V1C.heap.size V1C V2C := by rw [← hVn]; exact hB.alloc hB.size _
      have ct2 : Blk V2C X.heap.size 3 #[.int .i64 2] := by rw [← hVn]; exact Blk.new _ _ _
      have hDn : V2C.heap[DC]? = some (.deferred (some [])) := by rw [← hVn]; exact (Below.heap_alloc X _ DC (Array.getElem?_eq_some_iff.1 hK).1).trans hK
      have HL2 := HL1.more hBn (D := DC) (by omega) (by omega) hDn
      have F2 := F1.next hBn
      clear hVn hBn hDn hK hn hB ct1 F1 HL1 fV lt0 hs0
      clear hne1
      rw [roundsIn_succ]
      obtain ⟨f1, f2, f3, f4, f5, f6⟩ := id F2
      have ctx := ct2.one
      have hs4 := f2.lt
      gi_wp2_with fail
      go_wp2_with fail
      refine (works11_any _ (HLW.out _ f5)).mono ?_
      rintro e wf ⟨rfl, hBf⟩
      have f4f := f2.below hBf f2.lt
      have crx := f4f.one
      have frx := f4f.frozen 0
      have hb3 := f4f.set_ 0 (.bool true)
      have hLf := (HL2.below hBf).set_ ⟨g2, 0, none⟩ (.bool true)
      have hBz : Below w.heap.size w (wf.setCell ⟨g2, 0, none⟩ (.bool true)) := (below_in f5 hBf).setCell (by show w.heap.size ≤ g2; omega) _
      go_wp2
      refine leaves_blks w _ _ hLf hBz (fun W' hB' hk => ?_)
      have r0 := (hk _ _ _ hb3).one
      exact ⟨.bool true, by simp [results, Tryz.results3, go_sem, r0], rfl, hB'⟩
    case stopC =>
      rintro D c pre o X hD _ hsp ⟨h, _⟩ hK _
      exact h.elim
open Go.Proofs.YthmkgdkfehgpkaaGreatDoor.E Go.Proofs.YthmkgdkfehgpkaaGreatDoor.C Go.Proofs.YthmkgdkfehgpkaaGreatDoor.T Go.Proofs.YthmkgdkfehgpkaaGreatDoor.Ch in
set_option maxRecDepth 100000 in
set_option maxHeartbeats 8000000 in
theorem caseB (p x0 x1 many : Int) (w : World) (hL : Laid w) (wp : -9223372036854775808 ≤ p ∧ p ≤ 9223372036854775807) (wx : -9223372036854775808 ≤ x0 ∧ x0 ≤ 9223372036854775807) (wy : -9223372036854775808 ≤ x1 ∧ x1 ≤ 9223372036854775807) (wm : -9223372036854775808 ≤ many ∧ many ≤ 9223372036854775807) (hp : p ∈ prm) (hth : ¬ (0 ≤ x0 ∧ x0 < x1 ∧ x1 < p)) :
    Calls Tryz.prog 3 #[.int .i64 p, .agg #[.int .i64 x0, .int .i64 x1], .int .i64 many] w fun e w' => e = .returned (.bool true) ∧ Below w.heap.size w w' := by
  obtain ⟨W3, hW3⟩ : ∃ W3, ((w.alloc (.cells #[.int .i64 x0, .int .i64 x1] 22)).alloc (.cells #[.int .i64 many] 3)).alloc (.cells #[.bool false] 4) = W3 := ⟨_, rfl⟩
  have b0 : Blk W3 w.heap.size 22 #[.int .i64 x0, .int .i64 x1] := by rw [← hW3]; exact ((Blk.new w _ _).alloc _).alloc _
  have b1 : Blk W3 (w.heap.size + 1) 3 #[.int .i64 many] := by rw [← hW3]; exact (Blk.second w _ _ _).alloc _
  have b2 : Blk W3 (w.heap.size + 1 + 1) 4 #[.bool false] := by rw [← hW3]; exact Go.Proofs.YthmkgdkfehgpkaaGreatDoor.Rg.Blk.at_ (Blk.new _ _ _) (by simp)
  have hB3 : Below w.heap.size w W3 := by rw [← hW3]; exact (below_two w _ _).alloc (by simp; omega) _
  obtain ⟨g0, hg0⟩ : ∃ g, w.heap.size = g := ⟨_, rfl⟩
  obtain ⟨g1, hg1⟩ : ∃ g, g0 + 1 = g := ⟨_, rfl⟩
  obtain ⟨g2, hg2⟩ : ∃ g, g1 + 1 = g := ⟨_, rfl⟩
  rw [hg0] at b0
  rw [hg0, hg1] at b1
  rw [hg0, hg1, hg2] at b2
  have HG := Lib.hid (And.intro hg0 (And.intro hg1 hg2))
  have HW3 := Lib.hid hW3
  have HLW := Lib.hid (fun (U : World) (hU : Below w.heap.size w U) => hL.next hU)
  have HR := Lib.hid (fun W => right_any p W)
  rw [decide_eq_true hp] at HR
  have HOR := Lib.hid (order_no4 p x0 x1 hp hth W3 (hL.next hB3))
  have HTH := Lib.hid (fun W => there11_any p x0 x1 W)
  rw [decide_eq_false hth] at HTH
  have HWK := Lib.hid (fun U hU => walk_no4 p x0 x1 hp hth U hU)
  clear hW3 hg0 hg1 hg2 hL
  refine (callsIn_wide (n := 9)).1 ?_
  refine callsIn_of_wp_marks Tryz.func3 rfl trivial ?_ rfl
  simp only [Tryz.ntmps3, List.size_toArray, List.length_cons, List.length_nil, Nat.reduceAdd, Nat.reduceSub, Array.replicate_succ, Array.replicate_zero, List.push_toArray, List.append_toArray, List.nil_append, List.cons_append]
  refine (wpIn_wide (n := 9)).2 ?_
  go_wp2_with fail
  rw [HW3.out]
  rw [HG.out.1, HG.out.2.1, HG.out.2.2]
  refine HOR.out.mono ?_
  rintro e w4 ⟨rfl, hB4⟩
  have hur := readA_nil w4
  have d0 := b0.below hB4 b0.lt
  have d1 := b1.below hB4 b1.lt
  have d2 := b2.below hB4 b2.lt
  have hBw := below_in hB3 hB4
  clear b0 b1 b2 HOR hB3 hB4
  go_wp2_with fail
  obtain ⟨W5, hW5⟩ : ∃ x, w4.alloc (.cells #[.slice none 0 0] 23) = x := ⟨_, rfl⟩
  obtain ⟨g3, hg3⟩ : ∃ x, w4.heap.size = x := ⟨_, rfl⟩
  have hB5 : Below w4.heap.size w4 W5 := by rw [← hW5]; exact below_one w4 _
  have d3 : Blk W5 g3 23 #[.slice none 0 0] := by rw [← hW5, ← hg3]; exact Blk.new w4 _ _
  rw [hW5, hg3]
  have HSZ : Hid (g2 < g3) := by unfold Hid; rw [← hg3]; exact d2.lt
  clear hW5 hg3
  replace d0 := d0.below hB5 d0.lt
  replace d1 := d1.below hB5 d1.lt
  replace d2 := d2.below hB5 d2.lt
  replace hBw := below_in hBw hB5
  replace hur := hur.next hB5
  clear hB5
  refine (HR.out W5).mono ?_
  rintro e w5 ⟨rfl, hB5⟩
  replace d0 := d0.below hB5 d0.lt
  replace d1 := d1.below hB5 d1.lt
  replace d2 := d2.below hB5 d2.lt
  replace hBw := below_in hBw hB5
  replace hur := hur.next hB5
  replace d3 := d3.below hB5 d3.lt
  clear hB5 HR
  have k0 : w5.cell? ⟨g0, 0, none⟩ = some (.int .i64 x0) := d0.cell 0
  have k1 : w5.cell? ⟨g0, 1, none⟩ = some (.int .i64 x1) := d0.cell 1
  have k3 := d3.one
  have f3 := d3.frozen 0
  have l3w := d3.lt
  go_wp2_with fail
  refine (HTH.out w5).mono ?_
  rintro e w' ⟨rfl, rfl⟩
  clear HTH
  go_wp2_with fail
  obtain ⟨W7, hW7⟩ : ∃ x, w5 = x := ⟨_, rfl⟩
  rw [hW7]
  have e0 := d0
  have e1 := d1
  have e2 := d2
  have e3 := d3
  have hBw2 := hBw
  have hur2 := hur
  rw [hW7] at e0 e1 e2 e3 hBw2 hur2
  have hwn : ReadA W7 (.slice none 0 0) ((chn x0 x1 ([] : List Int)).map (fun x : Int × Int × Int => (x.2.1, x.2.2))) := readA_nil W7
  replace hur2 : ReadA W7 (.slice none 0 0) ((chn x0 x1 ([] : List Int)).map (fun x : Int × Int × Int => (x.2.1, x.2.2))) := hur2
  clear d0 d1 d2 d3 hBw hur k0 k1 k3 f3 hW7
  refine (num11_any _ W7).mono ?_
  rintro e w' ⟨rfl, rfl⟩
  have k3 := e3.one
  have k0 : W7.cell? ⟨g0, 0, none⟩ = some (.int .i64 x0) := e0.cell 0
  have k1 : W7.cell? ⟨g0, 1, none⟩ = some (.int .i64 x1) := e0.cell 1
  have HLE : Hid (((chn x0 x1 ([] : List Int)).map (fun x : Int × Int × Int => (x.2.1, x.2.2))).length ≤ 1000) := by unfold Hid; rw [List.length_map, chn_len]; exact Nat.zero_le _
  have HSM := Lib.hid (same_yes _ _ _ HLE.out W7 hur2 hwn)
  clear hur2
  have k3 := e3.one
  go_wp2_with fail
  refine HSM.out.mono ?_
  rintro e w7 ⟨rfl, hB7⟩
  clear HSM k3
  replace e0 := e0.below hB7 e0.lt
  replace e1 := e1.below hB7 e1.lt
  replace e2 := e2.below hB7 e2.lt
  replace e3 := e3.below hB7 e3.lt
  replace hBw2 := below_in hBw2 hB7
  replace hwn := hwn.next hB7
  clear hB7
  have k0 : w7.cell? ⟨g0, 0, none⟩ = some (.int .i64 x0) := e0.cell 0
  have k1 : w7.cell? ⟨g0, 1, none⟩ = some (.int .i64 x1) := e0.cell 1
  go_wp2_with fail
  refine (HWK.out w7 (HLW.out w7 hBw2)).mono ?_
  rintro e w8 ⟨sv, rfl, ⟨gf, lb, rfl, hen, hgo⟩, hB8⟩
  clear k0 k1 HWK
  obtain ⟨Aw, hAw⟩ : ∃ A : Option Addr, none = A := ⟨_, rfl⟩
  obtain ⟨nw, hnw⟩ : ∃ n : Nat, 0 = n := ⟨_, rfl⟩
  obtain ⟨cw, hcw⟩ : ∃ n : Nat, 0 = n := ⟨_, rfl⟩
  replace e3 : Blk w7 g3 23 #[.slice Aw nw cw] := by rw [← hAw, ← hnw, ← hcw]; exact e3
  replace hwn : ReadA w7 (.slice Aw nw cw) ((chn x0 x1 ([] : List Int)).map (fun x : Int × Int × Int => (x.2.1, x.2.2))) := by rw [← hAw, ← hnw, ← hcw]; exact hwn
  have HNWZ := Lib.hid (And.intro hAw (And.intro hnw hcw))
  clear hAw hnw hcw
  go_wp2_with fail
  have HSQ := Lib.hid hgo
  have hlo := hB8.size
  have hgz := HG.out
  have hsz := HSZ.out
  have hg3lo : g3 < w7.heap.size := e3.lt
  have HLM : Hid ((chn x0 x1 ([] : List Int)).length ≤ 100000) := by unfold Hid; rw [chn_len]; exact Nat.zero_le _
  have hnwl : nw = (chn x0 x1 ([] : List Int)).length := by rw [← HNWZ.out.2.1]; rfl
  have FQ : TurnC w w8 g1 g2 g3 many Aw nw cw ((chn x0 x1 ([] : List Int)).map (fun x : Int × Int × Int => (x.2.1, x.2.2))) w8 := ⟨e1.below hB8 e1.lt, e2.below hB8 e2.lt, e3.below hB8 e3.lt, hwn.next hB8, below_in hBw2 hB8, Below.refl _ _⟩
  have HNW := Lib.hid hnwl
  have hPRE : Hid (∀ pre x, OkC p x0 x1 ([] : List Int) pre x → x.1 = (pre.length : Int) ∧ pre.length < (chn x0 x1 ([] : List Int)).length ∧ ((chn x0 x1 ([] : List Int)).map (fun x : Int × Int × Int => (x.2.1, x.2.2)))[pre.length]? = some (x.2.1, x.2.2)) := fun pre x h => ⟨by obtain ⟨_, h2⟩ := okC_at h; rw [h2], (listT_at h.2).1, (listT_at h.2).2⟩
  generalize w7.heap.size = lo at *
  clear e0 e1 e2 e3 hBw2 hB8 hwn hnwl hgo HLE
  obtain ⟨V0, hV0⟩ : ∃ V0, w8.alloc (.cells #[.int .i64 0] 3) = V0 := ⟨_, rfl⟩
  rw [hV0]
  have hB70 : Below w8.heap.size w8 V0 := by rw [← hV0]; exact below_one w8 _
  have ct0 : Blk V0 w8.heap.size 3 #[.int .i64 0] := by rw [← hV0]; exact Blk.new _ _ _
  have F0 := FQ.next hB70
  have HL0 := Left.nil w.heap.size V0
  clear hV0 FQ hB70
  refine (wpIn_wide (n := 9)).1 ?_
  refine wpIn_loop_rounds 3 ?_
  rw [roundsIn_succ]
  obtain ⟨f1, f2, f3, f4, f5, f6⟩ := id F0
  have ctt := ct0.one
  have hlt1 := f1.lt
  have hlt2 := f2.lt
  have hlt3 := f3.lt
  have hltt := ct0.lt
  have hs8 := f6.size
  gi_wp2_with fail
  have hn0 : Blk (V0.alloc (.cells #[.int .i64 0] 3)) V0.heap.size 3 #[.int .i64 (([] : List (Int × Int × Int)).length : Int)] := Blk.new _ _ _
  have hBa := below_one V0 (.cells #[.int .i64 0] 3)
  have h8a := below_in f6 hBa
  clear ctt
  obtain ⟨VaA, hVa⟩ : ∃ X, V0.alloc (.cells #[.int .i64 0] 3) = X := ⟨_, rfl⟩
  rw [hVa] at hn0 hBa h8a ⊢
  clear hVa
  have hna := hn0.lt
  clear f1 f2 f3 f4 f5 f6
  refine wpIn_rangeBoxP rfl (by omega) (gf := gf) (lb := lb) rfl trivial hen (HSQ.out 8 (by omega)) (fun h h' => h.trans h') (fun W l ob h1 _ _ => Keep.putFar W (by omega) ob) h8a (fun _ => rfl)
    (fun (pre : List (Int × Int × Int)) o X => (o = fun _ => False) ∧ (pre.length = 0 ∨ (pre.length : Int) < many) ∧ Blk X V0.heap.size 3 #[.int .i64 (pre.length : Int)] ∧ Below V0.heap.size V0 X)
    (fun c (pre : List (Int × Int × Int)) o X => (c = .exit 3 ∧ 1 ≤ pre.length ∧ (pre.length = 1 ∨ (pre.length : Int) - 1 < many) ∧ many ≤ (pre.length : Int)) ∧ (o = fun _ => False) ∧ Blk X V0.heap.size 3 #[.int .i64 (pre.length : Int)] ∧ Below V0.heap.size V0 X)
    ?hIA ?hIxA (fun _ => False) (fun b e => e.elim) ⟨rfl, .inl rfl, hn0, hBa⟩
    (fun pre x => x.1 = (pre.length : Int) ∧ pre.length < (chn x0 x1 ([] : List Int)).length ∧ ((chn x0 x1 ([] : List Int)).map (fun x : Int × Int × Int => (x.2.1, x.2.2)))[pre.length]? = some (x.2.1, x.2.2)) (fun pre x W h => hPRE.out pre x h) 36 (fun x : Int × Int × Int => #[.int .i64 x.2.1, .int .i64 x.2.2]) ?actA
    ?assignA (fun pre o X h => by obtain ⟨rfl, _⟩ := h; exact fun b hb => hb.elim) ?hrowxA ?bodyA ?doneA ?stopA
  case hIA =>
    rintro s o X Y row ⟨rfl, hc, hn, hB⟩ hgr hr
    have hne : some (V0.heap.size) ≠ row := fun e => by have := (hr _ e.symm).1; omega
    exact ⟨rfl, hc, hn.grown hgr hne, below_grown hB hgr hB.size (fun r e => by have := (hr r e).1; omega)⟩
  case hIxA =>
    rintro c s o X Y row ⟨hc, rfl, hn, hB⟩ hgr hr
    have hne : some (V0.heap.size) ≠ row := fun e => by have := (hr _ e.symm).1; omega
    exact ⟨hc, rfl, hn.grown hgr hne, below_grown hB hgr hB.size (fun r e => by have := (hr r e).1; omega)⟩
  case hrowxA => exact fun c pre o X h => by obtain ⟨_, rfl, _⟩ := h; exact fun b hb => hb.elim
  case assignA =>
    rintro l' pre x o X KK hsz hol ⟨rfl, hc, hn, hB⟩ _ hKK
    simp only [encC]
    gi_wp2
    have hbx := Blk.new X 36 #[.int .i64 x.2.1, .int .i64 x.2.2]
    have hBz := below_one X (.cells #[.int .i64 x.2.1, .int .i64 x.2.2] 36)
    have hKe : Keep lo (w8.heap.size - lo) X (X.alloc (.cells #[.int .i64 x.2.1, .int .i64 x.2.2] 36)) := Keep.alloc (by omega) _
    have hn2 := hn.below hBz hn.lt
    have hB2 := hB.trans (hBz.mono hB.size)
    have hsn : Go.Proofs.YthmkgdkfehgpkaaGreatDoor.T.SinceO VaA.heap.size (fun _ => False) X _ := Go.Proofs.YthmkgdkfehgpkaaGreatDoor.T.SinceO.below hBz
    obtain ⟨Y, hY⟩ : ∃ Y, X.alloc (.cells #[.int .i64 x.2.1, .int .i64 x.2.2] 36) = Y := ⟨_, rfl⟩
    obtain ⟨Bx, hBx⟩ : ∃ b, X.heap.size = b := ⟨_, rfl⟩
    rw [hY] at hbx hKe hn2 hB2 hsn ⊢
    rw [hBx] at hbx hsz ⊢
    exact hKK Bx Y hsn hKe ⟨by first | rfl | trivial, hc, hn2, hB2⟩ hbx (fun h => h) hsz
  case bodyA =>
    rintro l' pre x o Bx X hsz ⟨rfl, hcnd, hn, hB⟩ hbx _ hle ⟨hk, hlt, hwv⟩ hlen
    exact absurd hlt (by rw [chn_len]; exact Nat.not_lt_zero _)
  case doneA =>
    rintro DA xs o X hD _ hxs ⟨rfl, hcnd, hn, hB⟩ hK _
    have hxl : xs = (chn x0 x1 ([] : List Int)) := hxs
    rw [hxl] at hn hcnd
    clear hxs hxl
    have HNL := HNW.out
    rw [← HNL] at hn
    obtain ⟨f1, f2, f3, f4, f5, f6⟩ := F0.next hB
    have cn := hn.one
    have clx := f3.one
    have ctx := (ct0.below hB ct0.lt).one
    have cmx := f1.one
    have lt0 := hB.size
    rw [← HNL] at hcnd
    have hmin : ((((nw : Nat) : Int)) != min ((nw : Nat) : Int) (max 1 many)) = false := by rw [bne_eq_false_iff_eq]; rcases hcnd with h | h <;> omega
    clear HNL
    have fV := F0.2.2.2.2.1
    have hs0 := fV.size
    gi_wp2
    clear cn clx ctx cmx f1 f2 f3 f4 f5 f6
    obtain ⟨V1B, hVn⟩ : ∃ Y, X.alloc (.cells #[.int .i64 1] 3) = Y := ⟨_, rfl⟩
    rw [hVn]
    have hBn : Below V0.heap.size V0 V1B := by rw [← hVn]; exact hB.alloc hB.size _
    have ct1 : Blk V1B X.heap.size 3 #[.int .i64 1] := by rw [← hVn]; exact Blk.new _ _ _
    have hDn : V1B.heap[DA]? = some (.deferred (some [])) := by rw [← hVn]; exact (Below.heap_alloc X _ DA (Array.getElem?_eq_some_iff.1 hK).1).trans hK
    have HL1 := HL0.more hBn (D := DA) (by omega) (by omega) hDn
    have F1 := F0.next hBn
    clear hVn hBn hDn hK hn hB ct0 F0 HL0 fV lt0 hs0
    clear hmin hcnd
    obtain ⟨tb, htb⟩ : ∃ tb, Hid (X.heap.size = tb) := ⟨_, rfl⟩
    rw [htb.out] at ct1 ⊢
    clear htb
    rw [roundsIn_succ]
    obtain ⟨f1, f2, f3, f4, f5, f6⟩ := id F1
    have ctt := ct1.one
    have hlt1 := f1.lt
    have hlt2 := f2.lt
    have hlt3 := f3.lt
    have hltt := ct1.lt
    have hs8 := f6.size
    gi_wp2_with fail
    have hn0 : Blk (V1B.alloc (.cells #[.int .i64 0] 3)) V1B.heap.size 3 #[.int .i64 (([] : List (Int × Int × Int)).length : Int)] := Blk.new _ _ _
    have hBa := below_one V1B (.cells #[.int .i64 0] 3)
    have h8a := below_in f6 hBa
    clear ctt
    obtain ⟨VaB, hVa⟩ : ∃ X, V1B.alloc (.cells #[.int .i64 0] 3) = X := ⟨_, rfl⟩
    rw [hVa] at hn0 hBa h8a ⊢
    clear hVa
    have hna := hn0.lt
    clear f1 f2 f3 f4 f5 f6
    refine wpIn_rangeBoxP rfl (by omega) (gf := gf) (lb := lb) rfl trivial hen (HSQ.out 8 (by omega)) (fun h h' => h.trans h') (fun W l ob h1 _ _ => Keep.putFar W (by omega) ob) h8a (fun _ => rfl)
      (fun (pre : List (Int × Int × Int)) o X => (o = fun _ => False) ∧ True ∧ Blk X V1B.heap.size 3 #[.int .i64 (pre.length : Int)] ∧ Below V1B.heap.size V1B X)
      (fun c (pre : List (Int × Int × Int)) o X => False ∧ (o = fun _ => False) ∧ Blk X V1B.heap.size 3 #[.int .i64 (pre.length : Int)] ∧ Below V1B.heap.size V1B X)
      ?hIB ?hIxB (fun _ => False) (fun b e => e.elim) ⟨rfl, trivial, hn0, hBa⟩
      (fun pre x => x.1 = (pre.length : Int) ∧ pre.length < (chn x0 x1 ([] : List Int)).length ∧ ((chn x0 x1 ([] : List Int)).map (fun x : Int × Int × Int => (x.2.1, x.2.2)))[pre.length]? = some (x.2.1, x.2.2)) (fun pre x W h => hPRE.out pre x h) 36 (fun x : Int × Int × Int => #[.int .i64 x.2.1, .int .i64 x.2.2]) ?actB
      ?assignB (fun pre o X h => by obtain ⟨rfl, _⟩ := h; exact fun b hb => hb.elim) ?hrowxB ?bodyB ?doneB ?stopB
    case hIB =>
      rintro s o X Y row ⟨rfl, hc, hn, hB⟩ hgr hr
      have hne : some (V1B.heap.size) ≠ row := fun e => by have := (hr _ e.symm).1; omega
      exact ⟨rfl, hc, hn.grown hgr hne, below_grown hB hgr hB.size (fun r e => by have := (hr r e).1; omega)⟩
    case hIxB => exact fun c s o X Y row h _ _ => h.1.elim
    case hrowxB => exact fun c pre o X h => by obtain ⟨_, rfl, _⟩ := h; exact fun b hb => hb.elim
    case assignB =>
      rintro l' pre x o X KK hsz hol ⟨rfl, hc, hn, hB⟩ _ hKK
      simp only [encC]
      gi_wp2
      have hbx := Blk.new X 36 #[.int .i64 x.2.1, .int .i64 x.2.2]
      have hBz := below_one X (.cells #[.int .i64 x.2.1, .int .i64 x.2.2] 36)
      have hKe : Keep lo (w8.heap.size - lo) X (X.alloc (.cells #[.int .i64 x.2.1, .int .i64 x.2.2] 36)) := Keep.alloc (by omega) _
      have hn2 := hn.below hBz hn.lt
      have hB2 := hB.trans (hBz.mono hB.size)
      have hsn : Go.Proofs.YthmkgdkfehgpkaaGreatDoor.T.SinceO VaB.heap.size (fun _ => False) X _ := Go.Proofs.YthmkgdkfehgpkaaGreatDoor.T.SinceO.below hBz
      obtain ⟨Y, hY⟩ : ∃ Y, X.alloc (.cells #[.int .i64 x.2.1, .int .i64 x.2.2] 36) = Y := ⟨_, rfl⟩
      obtain ⟨Bx, hBx⟩ : ∃ b, X.heap.size = b := ⟨_, rfl⟩
      rw [hY] at hbx hKe hn2 hB2 hsn ⊢
      rw [hBx] at hbx hsz ⊢
      exact hKK Bx Y hsn hKe ⟨by first | rfl | trivial, hc, hn2, hB2⟩ hbx (fun h => h) hsz
    case bodyB =>
      rintro l' pre x o Bx X hsz ⟨rfl, hcnd, hn, hB⟩ hbx _ hle ⟨hk, hlt, hwv⟩ hlen
      exact absurd hlt (by rw [chn_len]; exact Nat.not_lt_zero _)
    case doneB =>
      rintro DB xs o X hD _ hxs ⟨rfl, hcnd, hn, hB⟩ hK _
      have hxl : xs = (chn x0 x1 ([] : List Int)) := hxs
      rw [hxl] at hn
      clear hxs hxl
      have HNL := HNW.out
      rw [← HNL] at hn
      obtain ⟨f1, f2, f3, f4, f5, f6⟩ := F1.next hB
      have cn := hn.one
      have clx := f3.one
      have ctx := (ct1.below hB ct1.lt).one
      have cmx := f1.one
      have lt0 := hB.size
      have hne1 : ((((nw : Nat) : Int)) != ((nw : Nat) : Int)) = false := by simp
      clear HNL
      have fV := F1.2.2.2.2.1
      have hs0 := fV.size
      gi_wp2
      clear cn clx ctx cmx f1 f2 f3 f4 f5 f6
      obtain ⟨V2B, hVn⟩ : ∃ Y, X.alloc (.cells #[.int .i64 2] 3) = Y := ⟨_, rfl⟩
      rw [hVn]
      have hBn : Below V1B.heap.size V1B V2B := by rw [← hVn]; exact hB.alloc hB.size _
      have ct2 : Blk V2B X.heap.size 3 #[.int .i64 2] := by rw [← hVn]; exact Blk.new _ _ _
      have hDn : V2B.heap[DB]? = some (.deferred (some [])) := by rw [← hVn]; exact (Below.heap_alloc X _ DB (Array.getElem?_eq_some_iff.1 hK).1).trans hK
      have HL2 := HL1.more hBn (D := DB) (by omega) (by omega) hDn
      have F2 := F1.next hBn
      clear hVn hBn hDn hK hn hB ct1 F1 HL1 fV lt0 hs0
      clear hne1
      rw [roundsIn_succ]
      obtain ⟨f1, f2, f3, f4, f5, f6⟩ := id F2
      have ctx := ct2.one
      have hs4 := f2.lt
      gi_wp2_with fail
      go_wp2_with fail
      refine (works11_any _ (HLW.out _ f5)).mono ?_
      rintro e wf ⟨rfl, hBf⟩
      have f4f := f2.below hBf f2.lt
      have crx := f4f.one
      have frx := f4f.frozen 0
      have hb3 := f4f.set_ 0 (.bool true)
      have hLf := (HL2.below hBf).set_ ⟨g2, 0, none⟩ (.bool true)
      have hBz : Below w.heap.size w (wf.setCell ⟨g2, 0, none⟩ (.bool true)) := (below_in f5 hBf).setCell (by show w.heap.size ≤ g2; omega) _
      go_wp2
      refine leaves_blks w _ _ hLf hBz (fun W' hB' hk => ?_)
      have r0 := (hk _ _ _ hb3).one
      exact ⟨.bool true, by simp [results, Tryz.results3, go_sem, r0], rfl, hB'⟩
    case stopB =>
      rintro D c pre o X hD _ hsp ⟨h, _⟩ hK _
      exact h.elim
  case stopA =>
    rintro DA c pre o X hD _ hsp ⟨⟨rfl, hx1, hx2, hx3⟩, rfl, hn, hB⟩ hK _
    have hple : pre.length ≤ (chn x0 x1 ([] : List Int)).length := List.IsPrefix.length_le hsp
    clear hsp
    have HNL := HNW.out
    rw [← HNL] at hple
    exact absurd hple (by have hz : (chn x0 x1 ([] : List Int)).length = 0 := rfl; omega)
open Go.Proofs.YthmkgdkfehgpkaaGreatDoor.E Go.Proofs.YthmkgdkfehgpkaaGreatDoor.C Go.Proofs.YthmkgdkfehgpkaaGreatDoor.T Go.Proofs.YthmkgdkfehgpkaaGreatDoor.Ch in
set_option maxRecDepth 100000 in
set_option maxHeartbeats 8000000 in
theorem caseC (p x0 x1 many : Int) (w : World) (hL : Laid w) (wp : -9223372036854775808 ≤ p ∧ p ≤ 9223372036854775807) (wx : -9223372036854775808 ≤ x0 ∧ x0 ≤ 9223372036854775807) (wy : -9223372036854775808 ≤ x1 ∧ x1 ≤ 9223372036854775807) (wm : -9223372036854775808 ≤ many ∧ many ≤ 9223372036854775807) (hp : p ∉ prm) :
    Calls Tryz.prog 3 #[.int .i64 p, .agg #[.int .i64 x0, .int .i64 x1], .int .i64 many] w fun e w' => e = .returned (.bool true) ∧ Below w.heap.size w w' := by
  obtain ⟨W3, hW3⟩ : ∃ W3, ((w.alloc (.cells #[.int .i64 x0, .int .i64 x1] 22)).alloc (.cells #[.int .i64 many] 3)).alloc (.cells #[.bool false] 4) = W3 := ⟨_, rfl⟩
  have b0 : Blk W3 w.heap.size 22 #[.int .i64 x0, .int .i64 x1] := by rw [← hW3]; exact ((Blk.new w _ _).alloc _).alloc _
  have b1 : Blk W3 (w.heap.size + 1) 3 #[.int .i64 many] := by rw [← hW3]; exact (Blk.second w _ _ _).alloc _
  have b2 : Blk W3 (w.heap.size + 1 + 1) 4 #[.bool false] := by rw [← hW3]; exact Go.Proofs.YthmkgdkfehgpkaaGreatDoor.Rg.Blk.at_ (Blk.new _ _ _) (by simp)
  have hB3 : Below w.heap.size w W3 := by rw [← hW3]; exact (below_two w _ _).alloc (by simp; omega) _
  obtain ⟨g0, hg0⟩ : ∃ g, w.heap.size = g := ⟨_, rfl⟩
  obtain ⟨g1, hg1⟩ : ∃ g, g0 + 1 = g := ⟨_, rfl⟩
  obtain ⟨g2, hg2⟩ : ∃ g, g1 + 1 = g := ⟨_, rfl⟩
  rw [hg0] at b0
  rw [hg0, hg1] at b1
  rw [hg0, hg1, hg2] at b2
  have HG := Lib.hid (And.intro hg0 (And.intro hg1 hg2))
  have HW3 := Lib.hid hW3
  have HLW := Lib.hid (fun (U : World) (hU : Below w.heap.size w U) => hL.next hU)
  have HR := Lib.hid (fun W => right_any p W)
  rw [decide_eq_false hp] at HR
  have HOR := Lib.hid (order_no2 p x0 x1 hp W3 (hL.next hB3))
  have HWK := Lib.hid (fun U hU => walk_no2 p x0 x1 hp U hU)
  clear hW3 hg0 hg1 hg2 hL
  refine (callsIn_wide (n := 9)).1 ?_
  refine callsIn_of_wp_marks Tryz.func3 rfl trivial ?_ rfl
  simp only [Tryz.ntmps3, List.size_toArray, List.length_cons, List.length_nil, Nat.reduceAdd, Nat.reduceSub, Array.replicate_succ, Array.replicate_zero, List.push_toArray, List.append_toArray, List.nil_append, List.cons_append]
  refine (wpIn_wide (n := 9)).2 ?_
  go_wp2_with fail
  rw [HW3.out]
  rw [HG.out.1, HG.out.2.1, HG.out.2.2]
  refine HOR.out.mono ?_
  rintro e w4 ⟨rfl, hB4⟩
  have hur := readA_nil w4
  have d0 := b0.below hB4 b0.lt
  have d1 := b1.below hB4 b1.lt
  have d2 := b2.below hB4 b2.lt
  have hBw := below_in hB3 hB4
  clear b0 b1 b2 HOR hB3 hB4
  go_wp2_with fail
  obtain ⟨W5, hW5⟩ : ∃ x, w4.alloc (.cells #[.slice none 0 0] 23) = x := ⟨_, rfl⟩
  obtain ⟨g3, hg3⟩ : ∃ x, w4.heap.size = x := ⟨_, rfl⟩
  have hB5 : Below w4.heap.size w4 W5 := by rw [← hW5]; exact below_one w4 _
  have d3 : Blk W5 g3 23 #[.slice none 0 0] := by rw [← hW5, ← hg3]; exact Blk.new w4 _ _
  rw [hW5, hg3]
  have HSZ : Hid (g2 < g3) := by unfold Hid; rw [← hg3]; exact d2.lt
  clear hW5 hg3
  replace d0 := d0.below hB5 d0.lt
  replace d1 := d1.below hB5 d1.lt
  replace d2 := d2.below hB5 d2.lt
  replace hBw := below_in hBw hB5
  replace hur := hur.next hB5
  clear hB5
  refine (HR.out W5).mono ?_
  rintro e w5 ⟨rfl, hB5⟩
  replace d0 := d0.below hB5 d0.lt
  replace d1 := d1.below hB5 d1.lt
  replace d2 := d2.below hB5 d2.lt
  replace hBw := below_in hBw hB5
  replace hur := hur.next hB5
  replace d3 := d3.below hB5 d3.lt
  clear hB5 HR
  have k0 : w5.cell? ⟨g0, 0, none⟩ = some (.int .i64 x0) := d0.cell 0
  have k1 : w5.cell? ⟨g0, 1, none⟩ = some (.int .i64 x1) := d0.cell 1
  have k3 := d3.one
  have f3 := d3.frozen 0
  have l3w := d3.lt
  go_wp2_with fail
  obtain ⟨W7, hW7⟩ : ∃ x, w5 = x := ⟨_, rfl⟩
  rw [hW7]
  have e0 := d0
  have e1 := d1
  have e2 := d2
  have e3 := d3
  have hBw2 := hBw
  have hur2 := hur
  rw [hW7] at e0 e1 e2 e3 hBw2 hur2
  have hwn : ReadA W7 (.slice none 0 0) ((chn x0 x1 ([] : List Int)).map (fun x : Int × Int × Int => (x.2.1, x.2.2))) := readA_nil W7
  replace hur2 : ReadA W7 (.slice none 0 0) ((chn x0 x1 ([] : List Int)).map (fun x : Int × Int × Int => (x.2.1, x.2.2))) := hur2
  clear d0 d1 d2 d3 hBw hur k0 k1 k3 f3 hW7
  refine (num11_any _ W7).mono ?_
  rintro e w' ⟨rfl, rfl⟩
  have k3 := e3.one
  have k0 : W7.cell? ⟨g0, 0, none⟩ = some (.int .i64 x0) := e0.cell 0
  have k1 : W7.cell? ⟨g0, 1, none⟩ = some (.int .i64 x1) := e0.cell 1
  have HLE : Hid (((chn x0 x1 ([] : List Int)).map (fun x : Int × Int × Int => (x.2.1, x.2.2))).length ≤ 1000) := by unfold Hid; rw [List.length_map, chn_len]; exact Nat.zero_le _
  have HSM := Lib.hid (same_yes _ _ _ HLE.out W7 hur2 hwn)
  clear hur2
  have k3 := e3.one
  go_wp2_with fail
  refine HSM.out.mono ?_
  rintro e w7 ⟨rfl, hB7⟩
  clear HSM k3
  replace e0 := e0.below hB7 e0.lt
  replace e1 := e1.below hB7 e1.lt
  replace e2 := e2.below hB7 e2.lt
  replace e3 := e3.below hB7 e3.lt
  replace hBw2 := below_in hBw2 hB7
  replace hwn := hwn.next hB7
  clear hB7
  have k0 : w7.cell? ⟨g0, 0, none⟩ = some (.int .i64 x0) := e0.cell 0
  have k1 : w7.cell? ⟨g0, 1, none⟩ = some (.int .i64 x1) := e0.cell 1
  go_wp2_with fail
  refine (HWK.out w7 (HLW.out w7 hBw2)).mono ?_
  rintro e w8 ⟨sv, rfl, ⟨gf, lb, rfl, hen, hgo⟩, hB8⟩
  clear k0 k1 HWK
  obtain ⟨Aw, hAw⟩ : ∃ A : Option Addr, none = A := ⟨_, rfl⟩
  obtain ⟨nw, hnw⟩ : ∃ n : Nat, 0 = n := ⟨_, rfl⟩
  obtain ⟨cw, hcw⟩ : ∃ n : Nat, 0 = n := ⟨_, rfl⟩
  replace e3 : Blk w7 g3 23 #[.slice Aw nw cw] := by rw [← hAw, ← hnw, ← hcw]; exact e3
  replace hwn : ReadA w7 (.slice Aw nw cw) ((chn x0 x1 ([] : List Int)).map (fun x : Int × Int × Int => (x.2.1, x.2.2))) := by rw [← hAw, ← hnw, ← hcw]; exact hwn
  have HNWZ := Lib.hid (And.intro hAw (And.intro hnw hcw))
  clear hAw hnw hcw
  go_wp2_with fail
  have HSQ := Lib.hid hgo
  have hlo := hB8.size
  have hgz := HG.out
  have hsz := HSZ.out
  have hg3lo : g3 < w7.heap.size := e3.lt
  have HLM : Hid ((chn x0 x1 ([] : List Int)).length ≤ 100000) := by unfold Hid; rw [chn_len]; exact Nat.zero_le _
  have hnwl : nw = (chn x0 x1 ([] : List Int)).length := by rw [← HNWZ.out.2.1]; rfl
  have FQ : TurnC w w8 g1 g2 g3 many Aw nw cw ((chn x0 x1 ([] : List Int)).map (fun x : Int × Int × Int => (x.2.1, x.2.2))) w8 := ⟨e1.below hB8 e1.lt, e2.below hB8 e2.lt, e3.below hB8 e3.lt, hwn.next hB8, below_in hBw2 hB8, Below.refl _ _⟩
  have HNW := Lib.hid hnwl
  have hPRE : Hid (∀ pre x, OkC p x0 x1 ([] : List Int) pre x → x.1 = (pre.length : Int) ∧ pre.length < (chn x0 x1 ([] : List Int)).length ∧ ((chn x0 x1 ([] : List Int)).map (fun x : Int × Int × Int => (x.2.1, x.2.2)))[pre.length]? = some (x.2.1, x.2.2)) := fun pre x h => ⟨by obtain ⟨_, h2⟩ := okC_at h; rw [h2], (listT_at h.2).1, (listT_at h.2).2⟩
  generalize w7.heap.size = lo at *
  clear e0 e1 e2 e3 hBw2 hB8 hwn hnwl hgo HLE
  obtain ⟨V0, hV0⟩ : ∃ V0, w8.alloc (.cells #[.int .i64 0] 3) = V0 := ⟨_, rfl⟩
  rw [hV0]
  have hB70 : Below w8.heap.size w8 V0 := by rw [← hV0]; exact below_one w8 _
  have ct0 : Blk V0 w8.heap.size 3 #[.int .i64 0] := by rw [← hV0]; exact Blk.new _ _ _
  have F0 := FQ.next hB70
  have HL0 := Left.nil w.heap.size V0
  clear hV0 FQ hB70
  refine (wpIn_wide (n := 9)).1 ?_
  refine wpIn_loop_rounds 3 ?_
  rw [roundsIn_succ]
  obtain ⟨f1, f2, f3, f4, f5, f6⟩ := id F0
  have ctt := ct0.one
  have hlt1 := f1.lt
  have hlt2 := f2.lt
  have hlt3 := f3.lt
  have hltt := ct0.lt
  have hs8 := f6.size
  gi_wp2_with fail
  have hn0 : Blk (V0.alloc (.cells #[.int .i64 0] 3)) V0.heap.size 3 #[.int .i64 (([] : List (Int × Int × Int)).length : Int)] := Blk.new _ _ _
  have hBa := below_one V0 (.cells #[.int .i64 0] 3)
  have h8a := below_in f6 hBa
  clear ctt
  obtain ⟨VaA, hVa⟩ : ∃ X, V0.alloc (.cells #[.int .i64 0] 3) = X := ⟨_, rfl⟩
  rw [hVa] at hn0 hBa h8a ⊢
  clear hVa
  have hna := hn0.lt
  clear f1 f2 f3 f4 f5 f6
  refine wpIn_rangeBoxP rfl (by omega) (gf := gf) (lb := lb) rfl trivial hen (HSQ.out 8 (by omega)) (fun h h' => h.trans h') (fun W l ob h1 _ _ => Keep.putFar W (by omega) ob) h8a (fun _ => rfl)
    (fun (pre : List (Int × Int × Int)) o X => (o = fun _ => False) ∧ (pre.length = 0 ∨ (pre.length : Int) < many) ∧ Blk X V0.heap.size 3 #[.int .i64 (pre.length : Int)] ∧ Below V0.heap.size V0 X)
    (fun c (pre : List (Int × Int × Int)) o X => (c = .exit 3 ∧ 1 ≤ pre.length ∧ (pre.length = 1 ∨ (pre.length : Int) - 1 < many) ∧ many ≤ (pre.length : Int)) ∧ (o = fun _ => False) ∧ Blk X V0.heap.size 3 #[.int .i64 (pre.length : Int)] ∧ Below V0.heap.size V0 X)
    ?hIA ?hIxA (fun _ => False) (fun b e => e.elim) ⟨rfl, .inl rfl, hn0, hBa⟩
    (fun pre x => x.1 = (pre.length : Int) ∧ pre.length < (chn x0 x1 ([] : List Int)).length ∧ ((chn x0 x1 ([] : List Int)).map (fun x : Int × Int × Int => (x.2.1, x.2.2)))[pre.length]? = some (x.2.1, x.2.2)) (fun pre x W h => hPRE.out pre x h) 36 (fun x : Int × Int × Int => #[.int .i64 x.2.1, .int .i64 x.2.2]) ?actA
    ?assignA (fun pre o X h => by obtain ⟨rfl, _⟩ := h; exact fun b hb => hb.elim) ?hrowxA ?bodyA ?doneA ?stopA
  case hIA =>
    rintro s o X Y row ⟨rfl, hc, hn, hB⟩ hgr hr
    have hne : some (V0.heap.size) ≠ row := fun e => by have := (hr _ e.symm).1; omega
    exact ⟨rfl, hc, hn.grown hgr hne, below_grown hB hgr hB.size (fun r e => by have := (hr r e).1; omega)⟩
  case hIxA =>
    rintro c s o X Y row ⟨hc, rfl, hn, hB⟩ hgr hr
    have hne : some (V0.heap.size) ≠ row := fun e => by have := (hr _ e.symm).1; omega
    exact ⟨hc, rfl, hn.grown hgr hne, below_grown hB hgr hB.size (fun r e => by have := (hr r e).1; omega)⟩
  case hrowxA => exact fun c pre o X h => by obtain ⟨_, rfl, _⟩ := h; exact fun b hb => hb.elim
  case assignA =>
    rintro l' pre x o X KK hsz hol ⟨rfl, hc, hn, hB⟩ _ hKK
    simp only [encC]
    gi_wp2
    have hbx := Blk.new X 36 #[.int .i64 x.2.1, .int .i64 x.2.2]
    have hBz := below_one X (.cells #[.int .i64 x.2.1, .int .i64 x.2.2] 36)
    have hKe : Keep lo (w8.heap.size - lo) X (X.alloc (.cells #[.int .i64 x.2.1, .int .i64 x.2.2] 36)) := Keep.alloc (by omega) _
    have hn2 := hn.below hBz hn.lt
    have hB2 := hB.trans (hBz.mono hB.size)
    have hsn : Go.Proofs.YthmkgdkfehgpkaaGreatDoor.T.SinceO VaA.heap.size (fun _ => False) X _ := Go.Proofs.YthmkgdkfehgpkaaGreatDoor.T.SinceO.below hBz
    obtain ⟨Y, hY⟩ : ∃ Y, X.alloc (.cells #[.int .i64 x.2.1, .int .i64 x.2.2] 36) = Y := ⟨_, rfl⟩
    obtain ⟨Bx, hBx⟩ : ∃ b, X.heap.size = b := ⟨_, rfl⟩
    rw [hY] at hbx hKe hn2 hB2 hsn ⊢
    rw [hBx] at hbx hsz ⊢
    exact hKK Bx Y hsn hKe ⟨by first | rfl | trivial, hc, hn2, hB2⟩ hbx (fun h => h) hsz
  case bodyA =>
    rintro l' pre x o Bx X hsz ⟨rfl, hcnd, hn, hB⟩ hbx _ hle ⟨hk, hlt, hwv⟩ hlen
    exact absurd hlt (by rw [chn_len]; exact Nat.not_lt_zero _)
  case doneA =>
    rintro DA xs o X hD _ hxs ⟨rfl, hcnd, hn, hB⟩ hK _
    have hxl : xs = (chn x0 x1 ([] : List Int)) := hxs
    rw [hxl] at hn hcnd
    clear hxs hxl
    have HNL := HNW.out
    rw [← HNL] at hn
    obtain ⟨f1, f2, f3, f4, f5, f6⟩ := F0.next hB
    have cn := hn.one
    have clx := f3.one
    have ctx := (ct0.below hB ct0.lt).one
    have cmx := f1.one
    have lt0 := hB.size
    rw [← HNL] at hcnd
    have hmin : ((((nw : Nat) : Int)) != min ((nw : Nat) : Int) (max 1 many)) = false := by rw [bne_eq_false_iff_eq]; rcases hcnd with h | h <;> omega
    clear HNL
    have fV := F0.2.2.2.2.1
    have hs0 := fV.size
    gi_wp2
    clear cn clx ctx cmx f1 f2 f3 f4 f5 f6
    obtain ⟨V1B, hVn⟩ : ∃ Y, X.alloc (.cells #[.int .i64 1] 3) = Y := ⟨_, rfl⟩
    rw [hVn]
    have hBn : Below V0.heap.size V0 V1B := by rw [← hVn]; exact hB.alloc hB.size _
    have ct1 : Blk V1B X.heap.size 3 #[.int .i64 1] := by rw [← hVn]; exact Blk.new _ _ _
    have hDn : V1B.heap[DA]? = some (.deferred (some [])) := by rw [← hVn]; exact (Below.heap_alloc X _ DA (Array.getElem?_eq_some_iff.1 hK).1).trans hK
    have HL1 := HL0.more hBn (D := DA) (by omega) (by omega) hDn
    have F1 := F0.next hBn
    clear hVn hBn hDn hK hn hB ct0 F0 HL0 fV lt0 hs0
    clear hmin hcnd
    obtain ⟨tb, htb⟩ : ∃ tb, Hid (X.heap.size = tb) := ⟨_, rfl⟩
    rw [htb.out] at ct1 ⊢
    clear htb
    rw [roundsIn_succ]
    obtain ⟨f1, f2, f3, f4, f5, f6⟩ := id F1
    have ctt := ct1.one
    have hlt1 := f1.lt
    have hlt2 := f2.lt
    have hlt3 := f3.lt
    have hltt := ct1.lt
    have hs8 := f6.size
    gi_wp2_with fail
    have hn0 : Blk (V1B.alloc (.cells #[.int .i64 0] 3)) V1B.heap.size 3 #[.int .i64 (([] : List (Int × Int × Int)).length : Int)] := Blk.new _ _ _
    have hBa := below_one V1B (.cells #[.int .i64 0] 3)
    have h8a := below_in f6 hBa
    clear ctt
    obtain ⟨VaB, hVa⟩ : ∃ X, V1B.alloc (.cells #[.int .i64 0] 3) = X := ⟨_, rfl⟩
    rw [hVa] at hn0 hBa h8a ⊢
    clear hVa
    have hna := hn0.lt
    clear f1 f2 f3 f4 f5 f6
    refine wpIn_rangeBoxP rfl (by omega) (gf := gf) (lb := lb) rfl trivial hen (HSQ.out 8 (by omega)) (fun h h' => h.trans h') (fun W l ob h1 _ _ => Keep.putFar W (by omega) ob) h8a (fun _ => rfl)
      (fun (pre : List (Int × Int × Int)) o X => (o = fun _ => False) ∧ True ∧ Blk X V1B.heap.size 3 #[.int .i64 (pre.length : Int)] ∧ Below V1B.heap.size V1B X)
      (fun c (pre : List (Int × Int × Int)) o X => False ∧ (o = fun _ => False) ∧ Blk X V1B.heap.size 3 #[.int .i64 (pre.length : Int)] ∧ Below V1B.heap.size V1B X)
      ?hIB ?hIxB (fun _ => False) (fun b e => e.elim) ⟨rfl, trivial, hn0, hBa⟩
      (fun pre x => x.1 = (pre.length : Int) ∧ pre.length < (chn x0 x1 ([] : List Int)).length ∧ ((chn x0 x1 ([] : List Int)).map (fun x : Int × Int × Int => (x.2.1, x.2.2)))[pre.length]? = some (x.2.1, x.2.2)) (fun pre x W h => hPRE.out pre x h) 36 (fun x : Int × Int × Int => #[.int .i64 x.2.1, .int .i64 x.2.2]) ?actB
      ?assignB (fun pre o X h => by obtain ⟨rfl, _⟩ := h; exact fun b hb => hb.elim) ?hrowxB ?bodyB ?doneB ?stopB
    case hIB =>
      rintro s o X Y row ⟨rfl, hc, hn, hB⟩ hgr hr
      have hne : some (V1B.heap.size) ≠ row := fun e => by have := (hr _ e.symm).1; omega
      exact ⟨rfl, hc, hn.grown hgr hne, below_grown hB hgr hB.size (fun r e => by have := (hr r e).1; omega)⟩
    case hIxB => exact fun c s o X Y row h _ _ => h.1.elim
    case hrowxB => exact fun c pre o X h => by obtain ⟨_, rfl, _⟩ := h; exact fun b hb => hb.elim
    case assignB =>
      rintro l' pre x o X KK hsz hol ⟨rfl, hc, hn, hB⟩ _ hKK
      simp only [encC]
      gi_wp2
      have hbx := Blk.new X 36 #[.int .i64 x.2.1, .int .i64 x.2.2]
      have hBz := below_one X (.cells #[.int .i64 x.2.1, .int .i64 x.2.2] 36)
      have hKe : Keep lo (w8.heap.size - lo) X (X.alloc (.cells #[.int .i64 x.2.1, .int .i64 x.2.2] 36)) := Keep.alloc (by omega) _
      have hn2 := hn.below hBz hn.lt
      have hB2 := hB.trans (hBz.mono hB.size)
      have hsn : Go.Proofs.YthmkgdkfehgpkaaGreatDoor.T.SinceO VaB.heap.size (fun _ => False) X _ := Go.Proofs.YthmkgdkfehgpkaaGreatDoor.T.SinceO.below hBz
      obtain ⟨Y, hY⟩ : ∃ Y, X.alloc (.cells #[.int .i64 x.2.1, .int .i64 x.2.2] 36) = Y := ⟨_, rfl⟩
      obtain ⟨Bx, hBx⟩ : ∃ b, X.heap.size = b := ⟨_, rfl⟩
      rw [hY] at hbx hKe hn2 hB2 hsn ⊢
      rw [hBx] at hbx hsz ⊢
      exact hKK Bx Y hsn hKe ⟨by first | rfl | trivial, hc, hn2, hB2⟩ hbx (fun h => h) hsz
    case bodyB =>
      rintro l' pre x o Bx X hsz ⟨rfl, hcnd, hn, hB⟩ hbx _ hle ⟨hk, hlt, hwv⟩ hlen
      exact absurd hlt (by rw [chn_len]; exact Nat.not_lt_zero _)
    case doneB =>
      rintro DB xs o X hD _ hxs ⟨rfl, hcnd, hn, hB⟩ hK _
      have hxl : xs = (chn x0 x1 ([] : List Int)) := hxs
      rw [hxl] at hn
      clear hxs hxl
      have HNL := HNW.out
      rw [← HNL] at hn
      obtain ⟨f1, f2, f3, f4, f5, f6⟩ := F1.next hB
      have cn := hn.one
      have clx := f3.one
      have ctx := (ct1.below hB ct1.lt).one
      have cmx := f1.one
      have lt0 := hB.size
      have hne1 : ((((nw : Nat) : Int)) != ((nw : Nat) : Int)) = false := by simp
      clear HNL
      have fV := F1.2.2.2.2.1
      have hs0 := fV.size
      gi_wp2
      clear cn clx ctx cmx f1 f2 f3 f4 f5 f6
      obtain ⟨V2B, hVn⟩ : ∃ Y, X.alloc (.cells #[.int .i64 2] 3) = Y := ⟨_, rfl⟩
      rw [hVn]
      have hBn : Below V1B.heap.size V1B V2B := by rw [← hVn]; exact hB.alloc hB.size _
      have ct2 : Blk V2B X.heap.size 3 #[.int .i64 2] := by rw [← hVn]; exact Blk.new _ _ _
      have hDn : V2B.heap[DB]? = some (.deferred (some [])) := by rw [← hVn]; exact (Below.heap_alloc X _ DB (Array.getElem?_eq_some_iff.1 hK).1).trans hK
      have HL2 := HL1.more hBn (D := DB) (by omega) (by omega) hDn
      have F2 := F1.next hBn
      clear hVn hBn hDn hK hn hB ct1 F1 HL1 fV lt0 hs0
      clear hne1
      rw [roundsIn_succ]
      obtain ⟨f1, f2, f3, f4, f5, f6⟩ := id F2
      have ctx := ct2.one
      have hs4 := f2.lt
      gi_wp2_with fail
      go_wp2_with fail
      refine (works11_any _ (HLW.out _ f5)).mono ?_
      rintro e wf ⟨rfl, hBf⟩
      have f4f := f2.below hBf f2.lt
      have crx := f4f.one
      have frx := f4f.frozen 0
      have hb3 := f4f.set_ 0 (.bool true)
      have hLf := (HL2.below hBf).set_ ⟨g2, 0, none⟩ (.bool true)
      have hBz : Below w.heap.size w (wf.setCell ⟨g2, 0, none⟩ (.bool true)) := (below_in f5 hBf).setCell (by show w.heap.size ≤ g2; omega) _
      go_wp2
      refine leaves_blks w _ _ hLf hBz (fun W' hB' hk => ?_)
      have r0 := (hk _ _ _ hb3).one
      exact ⟨.bool true, by simp [results, Tryz.results3, go_sem, r0], rfl, hB'⟩
    case stopB =>
      rintro D c pre o X hD _ hsp ⟨h, _⟩ hK _
      exact h.elim
  case stopA =>
    rintro DA c pre o X hD _ hsp ⟨⟨rfl, hx1, hx2, hx3⟩, rfl, hn, hB⟩ hK _
    have hple : pre.length ≤ (chn x0 x1 ([] : List Int)).length := List.IsPrefix.length_le hsp
    clear hsp
    have HNL := HNW.out
    rw [← HNL] at hple
    exact absurd hple (by have hz : (chn x0 x1 ([] : List Int)).length = 0 := rfl; omega)
open Go.Proofs.YthmkgdkfehgpkaaGreatDoor.E Go.Proofs.YthmkgdkfehgpkaaGreatDoor.C Go.Proofs.YthmkgdkfehgpkaaGreatDoor.T Go.Proofs.YthmkgdkfehgpkaaGreatDoor.Ch in
set_option maxRecDepth 100000 in
set_option maxHeartbeats 8000000 in
theorem walk (p x0 x1 many : Int) (w : World) (hL : Laid w) (wp : -9223372036854775808 ≤ p ∧ p ≤ 9223372036854775807) (wx : -9223372036854775808 ≤ x0 ∧ x0 ≤ 9223372036854775807) (wy : -9223372036854775808 ≤ x1 ∧ x1 ≤ 9223372036854775807) (wm : -9223372036854775808 ≤ many ∧ many ≤ 9223372036854775807) :
    Calls Tryz.prog 3 #[.int .i64 p, .agg #[.int .i64 x0, .int .i64 x1], .int .i64 many] w fun e w' => e = .returned (.bool true) ∧ Below w.heap.size w w' := by
  by_cases hp : p ∈ prm
  · by_cases hth : 0 ≤ x0 ∧ x0 < x1 ∧ x1 < p
    · exact caseA p x0 x1 many w hL wp wx wy wm hp hth
    · exact caseB p x0 x1 many w hL wp wx wy wm hp hth
  · exact caseC p x0 x1 many w hL wp wx wy wm hp

set_option maxRecDepth 100000 in
theorem lifted (os : Os) (started : os.Started) (H : Type) (enc : TypeId × Value → H) :
    ReturnsInHanded {} Tryz.checked os 3 .any (fun w args => (Rows.chainOrdersSpec.pre enc Tryz.prog Tryz.f3 [] false w args ∧ laidMetH Tryz.prog laidL w) ∧ sizedMet enc Tryz.prog Tryz.f3 (OpenSpec.ofChange Rows.chainOrdersSpec) false w args)
      (Rows.chainOrdersSpec.post enc Tryz.prog Tryz.f3 false true false false) := by
  refine returnsInHanded_of_change_and (C := Tryz.checked) (X := fun w _ => laidMetH Tryz.prog laidL w) (fun _ _ _ hh h => h.of_heap hh) own started (by kernel_rfl) Tryz.func3
    (ChangeSpec.witness_shaped (enc := enc) (C := Tryz.checked) (os := os) (X := fun w _ => laidMetH Tryz.prog laidL w) false (World.doorLaid Tryz.prog 200 os) #[.int .i64 0, .agg #[.int .i64 0, .int .i64 0], .int .i64 0] 8 rfl (World.shaped_of_RefB (by kernel_rfl) (by kernel_rfl)) (by kernel_rfl) (by kernel_rfl) (by kernel_rfl) (door_met os _)) ?_
  intro W base args ds gs before hval0 hW _ _ hL0 _
  have hL := laid_of hL0
  have hval : ∀ (j : Nat) t v, Tryz.f3.params[j]? = some t → args[j]? = some v → Value.okWide Tryz.prog W .any base t v := hval0
  have hW' := hW
  obtain ⟨p, q, hA0, hV, rfl, hfz, hnd⟩ := hW
  have hA : DataW.TrodAll enc Tryz.prog W 0 (fun _ => true) true Tryz.f3.params.toList args.toList ds p := hA0
  rw [Tryz.params3] at hA hval
  obtain ⟨v0, vs0, d0, ds0, p0, q0, hargs, rfl, rfl, h0, r0⟩ := trodAll_cons hA
  obtain ⟨v1, vs1, d1, ds1, p1, q1, rfl, rfl, rfl, h1, r1⟩ := trodAll_cons r0
  obtain ⟨v2, vs2, d2, ds2, p2, q2, rfl, rfl, rfl, h2, r2⟩ := trodAll_cons r1
  obtain ⟨rfl, rfl, rfl⟩ := trodAll_nil r2
  obtain rfl : args = #[v0, v1, v2] := by cases args; simp_all
  obtain ⟨rfl, rfl⟩ := trodVars_none hV
  obtain ⟨a0, rfl, rfl, rfl, w0⟩ := open_int Tryz.underlying3 (hval 0 3 v0 rfl rfl) h0
  have k1 := h1
  have lt1 : ∀ x ∈ p1, x.block < W.heap.size := by obtain ⟨m, hm⟩ := k1; exact DataW.trod_lt m _ _ _ hm
  obtain ⟨x1, y1, rfl, w1⟩ := Cd.open_two (hval 1 22 v1 rfl rfl) h1
  obtain ⟨a2, rfl, rfl, rfl, w2⟩ := open_int Tryz.underlying3 (hval 2 3 v2 rfl rfl) h2
  clear hA0 hval0
  simp only [List.append_nil] at hW'
  refine (walk a0 x1 y1 a2 W hL (E.wf_i64 w0) (E.wf_i64 w1.1) (E.wf_i64 w1.2) (E.wf_i64 w2)).mono fun e W' ⟨he, bel⟩ => ?_
  subst he
  exact ⟨_, rfl, _, _, _, [], _, [], hW', trodAll_mk1 (shut_bool Tryz.underlying4 _), (trodAll_cons_mk (shut_int Tryz.underlying3 w0) (trodAll_cons_mk (Below.trod laidOut (by kernel_rfl) (of_decide_eq_true (by kernel_rfl)) k1 bel lt1) (trodAll_cons_mk (shut_int Tryz.underlying3 w2) trodAll_mk0))), rfl, bel.frame _, fun h => by cases h⟩

theorem over : Rows.chainOrdersRow.holds Tryz.pinned (OpenSpec.ofChange Rows.chainOrdersSpec) :=
  OpenClaim.holds_of_wide 3 Tryz.f3 rfl rfl rfl rfl rfl rfl rfl ⟨rfl, rfl, rfl, rfl, rfl⟩ rfl rfl rfl rfl rfl (by kernel_rfl) Tryz.func3 (by kernel_rfl)
    (of_decide_eq_true (by kernel_rfl)) (by unfold Func.isWrapper; first | (rw [if_pos (by decide +kernel)]; kernel_rfl) | (rw [if_neg (by decide +kernel)]; exact ⟨rfl, rfl⟩))
    (fun os started H enc _ => lifted os started H enc)

/-- The tied card: the row, and the tie that is given. -/
theorem chainOrders_holds : Rows.ChainOrdersCardSaid :=
  Claim7.holds_tied_plain_at .later [] [.data, .data] true (true, "50aa47fff70d07d0448bcf5dbd5bb1e2bd30e1ec5878175685b351a46e9a49ed") true over (fun _ h => by cases h) (by kernel_rfl) (fun _ h => by cases h) chainOrders_row_tie rfl ⟨rfl, rfl⟩ (by kernel_rfl) rfl
    (fun f fn hf hfn => by
      obtain rfl : f = 3 := Option.some.inj ((show Tryz.prog.funcNamed "palisade/palisadelaw11.ChainOrders" = some 3 by kernel_rfl).symm.trans hf) |>.symm
      obtain rfl : fn = Tryz.f3 := (Option.some.inj (Tryz.func3.symm.trans hfn)).symm
      exact ⟨by kernel_rfl, fun j t ht => by
        rw [Tryz.params3] at ht
        have hm : t ∈ [3, 22, 3] := by simpa using Array.mem_of_getElem? ht
        have hall : ([3, 22, 3].all fun u => !Tryz.prog.wantsStandIn u) = true := by kernel_rfl
        exact (show Tryz.prog.wantsStandIn t = false by simpa using List.all_eq_true.1 hall t hm)⟩)
    (by kernel_rfl)
end Go.Proofs.YthmkgdkfehgpkaaGreatDoor.chainOrders
