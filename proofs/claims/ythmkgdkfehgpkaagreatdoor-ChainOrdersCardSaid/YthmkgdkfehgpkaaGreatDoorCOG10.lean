/- chain: Order, Walk. -/
import Derived.Test.YthmkgdkfehgpkaaGreatDoorCOG9
namespace Go.Proofs.YthmkgdkfehgpkaaGreatDoor.T
open Go.RowKit Go.Shelf Go.Maps Go.Proofs.YthmkgdkfehgpkaaGreatDoor.C Go.Proofs.YthmkgdkfehgpkaaGreatDoor.E Go.Proofs.YthmkgdkfehgpkaaGreatDoor.Ch
set_option linter.unusedSimpArgs false
set_option linter.unusedVariables false
attribute [local go_sem] Oper.semAt_some

/-- Gives up with an error's number. -/
def GaveX (y : Int) (U : World) : Exit → Act → World → Prop := fun e a w' => e = .panic (gave y) ∧ a.defers = [] ∧ Below U.heap.size U w'
theorem rows_len (p a b : Int) (hp : p ∈ prm) : (Rg.rowsF p (walkN p (p - 1) (a - b))).length ≤ 100 := by
  have hb := prm_bounds hp
  refine Nat.le_trans (Rg.rowsF_len _ _) ?_
  rw [walkN_yes (fine_one.2 ⟨hp, by omega, by omega⟩), walkL_len]
  omega
set_option maxRecDepth 100000 in
set_option maxHeartbeats 4000000 in
theorem order_any (p a b : Int) (hp : p ∈ prm) (ha : 0 ≤ a ∧ a < p) (hb : 0 ≤ b ∧ b < p) (g : Nat) (w : World) (hL : Laid w) (hg : g < w.heap.size) (ca : w.cell? ⟨g, 0, none⟩ = some (.int .i64 a)) (cb : w.cell? ⟨g, 1, none⟩ = some (.int .i64 b)) :
    Calls Tryz.prog 31 #[.agg #[.int .i64 p, .slice (some ⟨g, 0, none⟩) 2 2]] w fun e w' => ∃ u, e = .returned u ∧ OwnA w' w.heap.size u ((chn a b (Rg.rowsF p (walkN p (p - 1) (a - b)))).map (fun x : Int × Int × Int => (x.2.1, x.2.2))) ∧ Below w.heap.size w w' := by
  have hBz := below_one w (.cells #[.int .i64 p, .slice (some ⟨g, 0, none⟩) 2 2] 69)
  have bz := Blk.new w 69 #[.int .i64 p, .slice (some ⟨g, 0, none⟩) 2 2]
  obtain ⟨w0, hw0⟩ : ∃ x, w.alloc (.cells #[.int .i64 p, .slice (some ⟨g, 0, none⟩) 2 2] 69) = x := ⟨_, rfl⟩
  rw [hw0] at hBz bz
  have z0 := bz.cell 0
  have z1 := bz.cell 1
  simp only [List.getElem?_toArray, List.getElem?_cons_zero, List.getElem?_cons_succ] at z0 z1
  have HC := Lib.hid (chain_any p a b hp ha hb g w0 (hL.next hBz) (Nat.lt_of_lt_of_le hg hBz.size) ((hBz.cell (p := ⟨g, 0, none⟩) hg).trans ca) ((hBz.cell (p := ⟨g, 1, none⟩) hg).trans cb))
  have HG := Lib.hid (fun (v : Value) (V : World) (hV : w0.heap.size ≤ V.heap.size) (h : ChainT w0.heap.size p a b (Rg.rowsF p (walkN p (p - 1) (a - b))) v V) => gatheredA_any w0.heap.size p a b (Rg.rowsF p (walkN p (p - 1) (a - b))) (rows_len p a b hp) v V hV h)
  have HZ := Lib.hid hBz
  generalize (Rg.rowsF p (walkN p (p - 1) (a - b))) = rs at *
  clear hp ha hb ca cb hL hg bz
  go_enter Tryz.func31, Tryz.ntmps31
  go_wp2_with (first
    | (go_at_call 37; (try rw [hw0]); refine HC.out.mono ?_; rintro e w1 ⟨v, rfl, hv, hB1⟩; obtain ⟨gf, lb, hvf, _⟩ := id hv; subst hvf)
    | (go_at_call 65; refine (HG.out _ _ hB1.size hv).mono ?_; rintro e w2 ⟨u, rfl, hu, hB2⟩; obtain ⟨uA, un, uc, rfl⟩ := hu.form))
  go_ret
  exact ⟨_, rfl, hu.less (by have := HZ.out.size; have := hB1.size; omega), below_in HZ.out (below_in hB1 hB2)⟩
theorem enter_Order1 : ∀ args W, (callFunc 28 args).run Tryz.prog W = .ok (.enter 28 args) W := enters_of Tryz.func28 (by kernel_rfl) rfl
theorem enter_Walk1 : ∀ args W, (callFunc 35 args).run Tryz.prog W = .ok (.enter 35 args) W := enters_of Tryz.func35 (by kernel_rfl) rfl
theorem good_two {p a b : Int} (ha : 0 ≤ a) (hab : a < b) (hb : b < p) : ∀ i, i < [a, b].length → GoodL p [a, b] i := by
  intro i hi
  have hi2 : i = 0 ∨ i = 1 := by simp at hi; omega
  rcases hi2 with rfl | rfl
  · exact ⟨⟨ha, by show a < p; omega⟩, .inl rfl⟩
  · exact ⟨⟨by show 0 ≤ b; omega, hb⟩, .inr hab⟩
theorem two_cells {V : World} {g : Nat} {a b : Int} (h : Blk V g 3 #[.int .i64 a, .int .i64 b]) : ∀ j, j < [a, b].length → V.cell? ⟨g, j, none⟩ = some (.int .i64 ([a, b][j]?.getD 0)) := by
  intro j hj
  have hj2 : j = 0 ∨ j = 1 := by simp at hj; omega
  rcases hj2 with rfl | rfl
  · exact h.cell 0
  · exact h.cell 1
/-- Two numbers that are no two columns of data, the first ahead of the second: which one is told first. -/
theorem bad_two {p a b : Int} (h : ¬ (0 ≤ a ∧ a < b ∧ b < p)) : ∃ z, z < [a, b].length ∧ (∀ i, i < z → GoodL p [a, b] i) ∧ ¬ GoodL p [a, b] z := by
  by_cases h1 : 0 ≤ a ∧ a < p
  · refine ⟨1, by simp, fun i hi => ?_, ?_⟩
    · obtain rfl : i = 0 := by omega
      exact ⟨h1, .inl rfl⟩
    · rintro ⟨h2, h3⟩
      rcases h3 with h3 | h3
      · exact absurd h3 (by omega)
      · exact h ⟨h1.1, h3, h2.2⟩
  · exact ⟨0, by simp, fun i hi => absurd hi (by omega), fun h2 => h1 h2.1⟩
set_option maxRecDepth 100000 in
set_option maxHeartbeats 4000000 in
theorem order_yes (p a b : Int) (hp : p ∈ prm) (ha : 0 ≤ a) (hab : a < b) (hb : b < p) (w : World) (hL : Laid w) :
    Calls Tryz.prog 8 #[.int .i64 p, .int .i64 a, .int .i64 b] w fun e w' => ∃ u, e = .returned (.tuple #[u, .int .i64 0]) ∧ OwnA w' w.heap.size u ((chn a b (Rg.rowsF p (walkN p (p - 1) (a - b)))).map (fun x : Int × Int × Int => (x.2.1, x.2.2))) ∧ Below w.heap.size w w' := by
  obtain ⟨W2, hW2⟩ : ∃ x, ((w.alloc (.cells #[.int .i64 p] 3)).alloc (.cells #[.int .i64 a] 3)).alloc (.cells #[.int .i64 b] 3) = x := ⟨_, rfl⟩
  have b0 : Blk W2 (w.heap.size) 3 #[.int .i64 p] := by rw [← hW2]; exact ((Blk.new w _ _).alloc _).alloc _
  have b1 : Blk W2 (w.heap.size + 1) 3 #[.int .i64 a] := by rw [← hW2]; exact (Blk.second w _ _ _).alloc _
  have b2 : Blk W2 (w.heap.size + 1 + 1) 3 #[.int .i64 b] := by rw [← hW2]; exact Rg.Blk.at_ (Blk.new _ _ _) (by simp)
  have hBW : Below w.heap.size w W2 := by rw [← hW2]; exact ((below_two w _ _)).alloc (by simp; omega) _
  obtain ⟨W2b, hW2b⟩ : ∃ x, w.heap.size = x := ⟨_, rfl⟩
  obtain ⟨W2c, hW2c⟩ : ∃ x, w.heap.size + 1 = x := ⟨_, rfl⟩
  obtain ⟨W2d, hW2d⟩ : ∃ x, w.heap.size + 1 + 1 = x := ⟨_, rfl⟩
  have HA := Lib.hid (ans_A_yes 28 #[.pointer (some ⟨w.heap.size, 0, none⟩), .pointer (some ⟨w.heap.size + 1, 0, none⟩), .pointer (some ⟨w.heap.size + 1 + 1, 0, none⟩)] W2 (fun u W => ∃ x y z, u = .slice x y z ∧ OwnA W (W2.heap.size + 1) u ((chn a b (Rg.rowsF p (walkN p (p - 1) (a - b)))).map (fun x : Int × Int × Int => (x.2.1, x.2.2)))) (enter_Order1 _) (fun U hU bU => by
    have hBU := below_in hBW hU
    have hltU := bU.lt
    have HP := Lib.hid (fun (V : World) (hV : Below U.heap.size U V) => primeOf_yes p hp V (hL.next (below_in hBU hV)))
    have HLO := Lib.hid (fun (V : World) (g : Nat) (hV : Below U.heap.size U V) (bE : Blk V g 3 #[.int .i64 a, .int .i64 b]) => losing_yes p hp g [a, b] (by simp) (good_two ha hab hb) V (hL.next (below_in hBU hV)) bE.lt (two_cells bE))
    have HOR := Lib.hid (fun (V : World) (g : Nat) (hV : Below U.heap.size U V) (bE : Blk V g 3 #[.int .i64 a, .int .i64 b]) => order_any p a b hp ⟨ha, by omega⟩ ⟨by omega, hb⟩ g V (hL.next (below_in hBU hV)) bE.lt (bE.cell 0) (bE.cell 1))
    have HSS : Hid (∀ V, Below U.heap.size U V → (fun U : World => U.cell? ⟨W2b, 0, none⟩ = some (.int .i64 p) ∧ U.cell? ⟨W2c, 0, none⟩ = some (.int .i64 a) ∧ U.cell? ⟨W2d, 0, none⟩ = some (.int .i64 b)) V) := by
      rw [← hW2b, ← hW2c, ← hW2d]
      exact fun V hV => ⟨((b0.below hU b0.lt).below hV (Nat.lt_of_lt_of_le b0.lt hU.size)).one, ((b1.below hU b1.lt).below hV (Nat.lt_of_lt_of_le b1.lt hU.size)).one, ((b2.below hU b2.lt).below hV (Nat.lt_of_lt_of_le b2.lt hU.size)).one⟩
    have hBx := (Below.refl U.heap.size U).drew
    rw [hW2d, hW2c, hW2b]
    clear b0 b1 b2 hW2 hL hW2d hW2c hW2b bU hp ha hab hb
    refine (callsIn_wide (n := 9)).1 ?_
    refine callsIn_of_wp_marks Tryz.func28 rfl trivial ?_ rfl
    simp only [Tryz.ntmps28, List.size_toArray, List.length_cons, List.length_nil, Nat.reduceAdd, Nat.reduceSub, Array.replicate_succ, Array.replicate_zero, List.push_toArray, List.append_toArray, List.nil_append, List.cons_append]
    gi_wp2_with fail
    have hS : (fun U : World => U.cell? ⟨W2b, 0, none⟩ = some (.int .i64 p) ∧ U.cell? ⟨W2c, 0, none⟩ = some (.int .i64 a) ∧ U.cell? ⟨W2d, 0, none⟩ = some (.int .i64 b)) U.drew := HSS.out _ hBx
    refine wpIn_mono (region_HF (Q := NoPanic _) (S := (fun U : World => U.cell? ⟨W2b, 0, none⟩ = some (.int .i64 p) ∧ U.cell? ⟨W2c, 0, none⟩ = some (.int .i64 a) ∧ U.cell? ⟨W2d, 0, none⟩ = some (.int .i64 b))) (by kernel_rfl) ?_) NoPanic.imp
    refine anyHF_take (i := 0) (d := 4) (v := .int .i64 p) (by kernel_rfl) rfl (by kernel_rfl) (by kernel_rfl) (by kernel_rfl) rfl (fun _ _ _ h => h) ⟨Or.inl ⟨by rfl, fun w hS => by obtain ⟨h0, h1, h2⟩ := hS; go_simp⟩, fun _ => rfl⟩ hS ?_
    simp only [List.setIfInBounds_toArray, List.set_cons_zero, List.set_cons_succ]
    refine anyHF_take (i := 2) (d := 6) (v := .int .i64 a) (by kernel_rfl) rfl (by kernel_rfl) (by kernel_rfl) (by kernel_rfl) rfl (fun _ _ _ h => h) ⟨Or.inl ⟨by rfl, fun w hS => by obtain ⟨h0, h1, h2⟩ := hS; go_simp⟩, fun _ => rfl⟩ hS ?_
    simp only [List.setIfInBounds_toArray, List.set_cons_zero, List.set_cons_succ]
    refine anyHF_take (i := 3) (d := 7) (v := .int .i64 b) (by kernel_rfl) rfl (by kernel_rfl) (by kernel_rfl) (by kernel_rfl) rfl (fun _ _ _ h => h) ⟨Or.inl ⟨by rfl, fun w hS => by obtain ⟨h0, h1, h2⟩ := hS; go_simp⟩, fun _ => rfl⟩ hS ?_
    simp only [List.setIfInBounds_toArray, List.set_cons_zero, List.set_cons_succ]
    refine Rg.anyHF_both (i := 1) (j := 4) (by kernel_rfl) rfl rfl (by rfl) (by rfl) ?ca ?cb
    case ca =>
      gi_wp2_with fail
      refine ⟨trivial, (callsIn_wide.2 (HP.out _ hBx)).mono ?_⟩
      rintro e wp ⟨rfl, hB1⟩
      replace hBx := below_in hBx hB1
      clear hS
      have hS : (fun U : World => U.cell? ⟨W2b, 0, none⟩ = some (.int .i64 p) ∧ U.cell? ⟨W2c, 0, none⟩ = some (.int .i64 a) ∧ U.cell? ⟨W2d, 0, none⟩ = some (.int .i64 b)) wp := HSS.out _ hBx
      gi_wp2
      try (refine ⟨hS, ?_⟩)
      refine anyHF_one (i := 4) (by kernel_rfl) rfl (by kernel_rfl) (by rfl) ?_
      have hgl := hBx.size
      have hBe : Below wp.heap.size wp (wp.alloc (.cells #[.int .i64 a, .int .i64 b] 3)) := below_one wp _
      have bE : Blk (wp.alloc (.cells #[.int .i64 a, .int .i64 b] 3)) wp.heap.size 3 #[.int .i64 a, .int .i64 b] := Blk.new wp _ _
      obtain ⟨wl, hewl⟩ : ∃ x, (wp.alloc (.cells #[.int .i64 a, .int .i64 b] 3)) = x := ⟨_, rfl⟩
      obtain ⟨g, hgg⟩ : ∃ x, wp.heap.size = x := ⟨_, rfl⟩
      rw [hewl] at hBe bE
      rw [hgg] at bE
      replace hBx := below_in hBx hBe
      clear hS
      have hS : (fun U : World => U.cell? ⟨W2b, 0, none⟩ = some (.int .i64 p) ∧ U.cell? ⟨W2c, 0, none⟩ = some (.int .i64 a) ∧ U.cell? ⟨W2d, 0, none⟩ = some (.int .i64 b)) wl := HSS.out _ hBx
      gi_wp2
      (try rw [hgg]); (try rw [hewl])
      try (refine ⟨hS, ?_⟩)
      refine anyHF_one (i := 5) (by kernel_rfl) rfl (by kernel_rfl) (by rfl) ?_
      gi_wp2_with fail
      refine ⟨trivial, (callsIn_wide.2 (HLO.out _ g hBx bE)).mono ?_⟩
      rintro e w5 ⟨rfl, hB5⟩
      replace bE := bE.below hB5 bE.lt
      replace hBx := below_in hBx hB5
      clear hS
      have hS : (fun U : World => U.cell? ⟨W2b, 0, none⟩ = some (.int .i64 p) ∧ U.cell? ⟨W2c, 0, none⟩ = some (.int .i64 a) ∧ U.cell? ⟨W2d, 0, none⟩ = some (.int .i64 b)) w5 := HSS.out _ hBx
      gi_wp2
      try (refine ⟨hS, ?_⟩)
      refine anyHF_one (i := 6) (by kernel_rfl) rfl (by kernel_rfl) (by rfl) ?_
      gi_wp2_with fail
      refine ⟨trivial, (callsIn_wide.2 (HOR.out _ g hBx bE)).mono ?_⟩
      rintro e w6 ⟨u, rfl, hu, hB6⟩
      obtain ⟨uA, un, uc, rfl⟩ := hu.form
      have hs1 := hBx.size
      replace hBx := below_in hBx hB6
      clear hS
      have hS : (fun U : World => U.cell? ⟨W2b, 0, none⟩ = some (.int .i64 p) ∧ U.cell? ⟨W2c, 0, none⟩ = some (.int .i64 a) ∧ U.cell? ⟨W2d, 0, none⟩ = some (.int .i64 b)) w6 := HSS.out _ hBx
      gi_wp2
      try (refine ⟨hS, ?_⟩)
      refine anyHF_one (i := 7) (by kernel_rfl) rfl (by kernel_rfl) (by rfl) ?_
      gi_wp2
      refine anyHF_done (by kernel_rfl) ?_ _
      refine NoPanic.normal ?_
      gi_wp2_with fail
      exact ⟨_, by simp [results, Tryz.results28, go_sem], _, rfl, ⟨uA, un, uc, rfl, hu.less (by omega)⟩, hBx⟩
    case cb =>
      have hgl := hBx.size
      have hBe : Below U.drew.heap.size U.drew (U.drew.alloc (.cells #[.int .i64 a, .int .i64 b] 3)) := below_one U.drew _
      have bE : Blk (U.drew.alloc (.cells #[.int .i64 a, .int .i64 b] 3)) U.drew.heap.size 3 #[.int .i64 a, .int .i64 b] := Blk.new U.drew _ _
      obtain ⟨wl, hewl⟩ : ∃ x, (U.drew.alloc (.cells #[.int .i64 a, .int .i64 b] 3)) = x := ⟨_, rfl⟩
      obtain ⟨g, hgg⟩ : ∃ x, U.drew.heap.size = x := ⟨_, rfl⟩
      rw [hewl] at hBe bE
      rw [hgg] at bE
      replace hBx := below_in hBx hBe
      clear hS
      have hS : (fun U : World => U.cell? ⟨W2b, 0, none⟩ = some (.int .i64 p) ∧ U.cell? ⟨W2c, 0, none⟩ = some (.int .i64 a) ∧ U.cell? ⟨W2d, 0, none⟩ = some (.int .i64 b)) wl := HSS.out _ hBx
      gi_wp2
      (try rw [hgg]); (try rw [hewl])
      try (refine ⟨hS, ?_⟩)
      refine anyHF_one (i := 1) (by kernel_rfl) rfl (by kernel_rfl) (by rfl) ?_
      gi_wp2_with fail
      refine ⟨trivial, (callsIn_wide.2 (HP.out _ hBx)).mono ?_⟩
      rintro e wp ⟨rfl, hB1⟩
      replace bE := bE.below hB1 bE.lt
      replace hBx := below_in hBx hB1
      clear hS
      have hS : (fun U : World => U.cell? ⟨W2b, 0, none⟩ = some (.int .i64 p) ∧ U.cell? ⟨W2c, 0, none⟩ = some (.int .i64 a) ∧ U.cell? ⟨W2d, 0, none⟩ = some (.int .i64 b)) wp := HSS.out _ hBx
      gi_wp2
      try (refine ⟨hS, ?_⟩)
      refine anyHF_one (i := 5) (by kernel_rfl) rfl (by kernel_rfl) (by rfl) ?_
      gi_wp2_with fail
      refine ⟨trivial, (callsIn_wide.2 (HLO.out _ g hBx bE)).mono ?_⟩
      rintro e w5 ⟨rfl, hB5⟩
      replace bE := bE.below hB5 bE.lt
      replace hBx := below_in hBx hB5
      clear hS
      have hS : (fun U : World => U.cell? ⟨W2b, 0, none⟩ = some (.int .i64 p) ∧ U.cell? ⟨W2c, 0, none⟩ = some (.int .i64 a) ∧ U.cell? ⟨W2d, 0, none⟩ = some (.int .i64 b)) w5 := HSS.out _ hBx
      gi_wp2
      try (refine ⟨hS, ?_⟩)
      refine anyHF_one (i := 6) (by kernel_rfl) rfl (by kernel_rfl) (by rfl) ?_
      gi_wp2_with fail
      refine ⟨trivial, (callsIn_wide.2 (HOR.out _ g hBx bE)).mono ?_⟩
      rintro e w6 ⟨u, rfl, hu, hB6⟩
      obtain ⟨uA, un, uc, rfl⟩ := hu.form
      have hs1 := hBx.size
      replace hBx := below_in hBx hB6
      clear hS
      have hS : (fun U : World => U.cell? ⟨W2b, 0, none⟩ = some (.int .i64 p) ∧ U.cell? ⟨W2c, 0, none⟩ = some (.int .i64 a) ∧ U.cell? ⟨W2d, 0, none⟩ = some (.int .i64 b)) w6 := HSS.out _ hBx
      gi_wp2
      try (refine ⟨hS, ?_⟩)
      refine anyHF_one (i := 7) (by kernel_rfl) rfl (by kernel_rfl) (by rfl) ?_
      gi_wp2
      refine anyHF_done (by kernel_rfl) ?_ _
      refine NoPanic.normal ?_
      gi_wp2_with fail
      exact ⟨_, by simp [results, Tryz.results28, go_sem], _, rfl, ⟨uA, un, uc, rfl, hu.less (by omega)⟩, hBx⟩))
  clear b0 b1 b2 hL hW2d hW2c hW2b hp ha hab hb
  go_enter Tryz.func8, Tryz.ntmps8
  have hmf : ∀ (fn : Fn) (first cap : Array Value) (w : World), (Instr.makeFunc fn first cap).run Tryz.prog w = .ok (.func fn first cap) w := fun _ _ _ _ => rfl
  go_wp2_with (go_at_call 27; refine HA.out.mono ?_; rintro e w1 ⟨u, W, rfl, ⟨uA, un, uc, rfl, hu⟩, bE, rfl, hB1⟩)
  go_ret2
  exact ⟨_, rfl, (hu.far (p := ⟨W2.heap.size, 0, none⟩) (by show some W2.heap.size ≠ _; exact fun e => by have := hu.own_le _ e.symm; omega) _).less (by have := hBW.size; omega), below_in hBW hB1⟩
set_option maxRecDepth 100000 in
set_option maxHeartbeats 4000000 in
theorem order_no2 (p a b : Int) (hno : p ∉ prm) (w : World) (hL : Laid w) :
    Calls Tryz.prog 8 #[.int .i64 p, .int .i64 a, .int .i64 b] w fun e w' => e = .returned (.tuple #[.slice none 0 0, .int .i64 2]) ∧ Below w.heap.size w w' := by
  obtain ⟨W2, hW2⟩ : ∃ x, ((w.alloc (.cells #[.int .i64 p] 3)).alloc (.cells #[.int .i64 a] 3)).alloc (.cells #[.int .i64 b] 3) = x := ⟨_, rfl⟩
  have b0 : Blk W2 (w.heap.size) 3 #[.int .i64 p] := by rw [← hW2]; exact ((Blk.new w _ _).alloc _).alloc _
  have b1 : Blk W2 (w.heap.size + 1) 3 #[.int .i64 a] := by rw [← hW2]; exact (Blk.second w _ _ _).alloc _
  have b2 : Blk W2 (w.heap.size + 1 + 1) 3 #[.int .i64 b] := by rw [← hW2]; exact Rg.Blk.at_ (Blk.new _ _ _) (by simp)
  have hBW : Below w.heap.size w W2 := by rw [← hW2]; exact ((below_two w _ _)).alloc (by simp; omega) _
  obtain ⟨W2b, hW2b⟩ : ∃ x, w.heap.size = x := ⟨_, rfl⟩
  obtain ⟨W2c, hW2c⟩ : ∃ x, w.heap.size + 1 = x := ⟨_, rfl⟩
  obtain ⟨W2d, hW2d⟩ : ∃ x, w.heap.size + 1 + 1 = x := ⟨_, rfl⟩
  have HA := Lib.hid (ans_A_no 2 28 #[.pointer (some ⟨w.heap.size, 0, none⟩), .pointer (some ⟨w.heap.size + 1, 0, none⟩), .pointer (some ⟨w.heap.size + 1 + 1, 0, none⟩)] W2 (enter_Order1 _) (fun U hU _ => by
    have hBU := below_in hBW hU
    have HP := Lib.hid (fun (V : World) (hV : Below U.heap.size U V) => primeOf_no p hno V (hL.next (below_in hBU hV)))
    have HSS : Hid (∀ V, Below U.heap.size U V → (fun U : World => U.cell? ⟨W2b, 0, none⟩ = some (.int .i64 p) ∧ U.cell? ⟨W2c, 0, none⟩ = some (.int .i64 a) ∧ U.cell? ⟨W2d, 0, none⟩ = some (.int .i64 b)) V) := by
      rw [← hW2b, ← hW2c, ← hW2d]
      exact fun V hV => ⟨((b0.below hU b0.lt).below hV (Nat.lt_of_lt_of_le b0.lt hU.size)).one, ((b1.below hU b1.lt).below hV (Nat.lt_of_lt_of_le b1.lt hU.size)).one, ((b2.below hU b2.lt).below hV (Nat.lt_of_lt_of_le b2.lt hU.size)).one⟩
    have hBx := (Below.refl U.heap.size U).drew
    rw [hW2d, hW2c, hW2b]
    clear b0 b1 b2 hW2 hL hW2d hW2c hW2b hno
    refine (callsIn_wide (n := 9)).1 ?_
    refine callsIn_of_wp_marks Tryz.func28 rfl trivial ?_ rfl
    simp only [Tryz.ntmps28, List.size_toArray, List.length_cons, List.length_nil, Nat.reduceAdd, Nat.reduceSub, Array.replicate_succ, Array.replicate_zero, List.push_toArray, List.append_toArray, List.nil_append, List.cons_append]
    gi_wp2_with fail
    have hS : (fun U : World => U.cell? ⟨W2b, 0, none⟩ = some (.int .i64 p) ∧ U.cell? ⟨W2c, 0, none⟩ = some (.int .i64 a) ∧ U.cell? ⟨W2d, 0, none⟩ = some (.int .i64 b)) U.drew := HSS.out _ hBx
    refine wpIn_mono (region_HF (Q := GaveX 2 U) (S := (fun U : World => U.cell? ⟨W2b, 0, none⟩ = some (.int .i64 p) ∧ U.cell? ⟨W2c, 0, none⟩ = some (.int .i64 a) ∧ U.cell? ⟨W2d, 0, none⟩ = some (.int .i64 b))) (by kernel_rfl) ?_) (fun e a w' h => by obtain ⟨rfl, hd, hB⟩ := h; obtain ⟨tm, df⟩ := a; have hd' : df = [] := hd; subst hd'; exact ⟨rfl, hB⟩)
    refine anyHF_take (i := 0) (d := 4) (v := .int .i64 p) (by kernel_rfl) rfl (by kernel_rfl) (by kernel_rfl) (by kernel_rfl) rfl (fun _ _ _ h => h) ⟨Or.inl ⟨by rfl, fun w hS => by obtain ⟨h0, h1, h2⟩ := hS; go_simp⟩, fun _ => rfl⟩ hS ?_
    simp only [List.setIfInBounds_toArray, List.set_cons_zero, List.set_cons_succ]
    refine anyHF_take (i := 2) (d := 6) (v := .int .i64 a) (by kernel_rfl) rfl (by kernel_rfl) (by kernel_rfl) (by kernel_rfl) rfl (fun _ _ _ h => h) ⟨Or.inl ⟨by rfl, fun w hS => by obtain ⟨h0, h1, h2⟩ := hS; go_simp⟩, fun _ => rfl⟩ hS ?_
    simp only [List.setIfInBounds_toArray, List.set_cons_zero, List.set_cons_succ]
    refine anyHF_take (i := 3) (d := 7) (v := .int .i64 b) (by kernel_rfl) rfl (by kernel_rfl) (by kernel_rfl) (by kernel_rfl) rfl (fun _ _ _ h => h) ⟨Or.inl ⟨by rfl, fun w hS => by obtain ⟨h0, h1, h2⟩ := hS; go_simp⟩, fun _ => rfl⟩ hS ?_
    simp only [List.setIfInBounds_toArray, List.set_cons_zero, List.set_cons_succ]
    refine Rg.anyHF_both (i := 1) (j := 4) (by kernel_rfl) rfl rfl (by rfl) (by rfl) ?ca ?cb
    case ca =>
      gi_wp2_with fail
      refine ⟨trivial, (callsIn_wide.2 (HP.out _ hBx)).mono ?_⟩
      rintro e wp ⟨rfl, hB1⟩
      exact ⟨rfl, rfl, below_in hBx hB1⟩
    case cb =>
      have hgl := hBx.size
      have hBe : Below U.drew.heap.size U.drew (U.drew.alloc (.cells #[.int .i64 a, .int .i64 b] 3)) := below_one U.drew _
      have bE : Blk (U.drew.alloc (.cells #[.int .i64 a, .int .i64 b] 3)) U.drew.heap.size 3 #[.int .i64 a, .int .i64 b] := Blk.new U.drew _ _
      obtain ⟨wl, hewl⟩ : ∃ x, (U.drew.alloc (.cells #[.int .i64 a, .int .i64 b] 3)) = x := ⟨_, rfl⟩
      obtain ⟨g, hgg⟩ : ∃ x, U.drew.heap.size = x := ⟨_, rfl⟩
      rw [hewl] at hBe bE
      rw [hgg] at bE
      replace hBx := below_in hBx hBe
      clear hS
      have hS : (fun U : World => U.cell? ⟨W2b, 0, none⟩ = some (.int .i64 p) ∧ U.cell? ⟨W2c, 0, none⟩ = some (.int .i64 a) ∧ U.cell? ⟨W2d, 0, none⟩ = some (.int .i64 b)) wl := HSS.out _ hBx
      gi_wp2
      (try rw [hgg]); (try rw [hewl])
      try (refine ⟨hS, ?_⟩)
      refine anyHF_one (i := 1) (by kernel_rfl) rfl (by kernel_rfl) (by rfl) ?_
      gi_wp2_with fail
      refine ⟨trivial, (callsIn_wide.2 (HP.out _ hBx)).mono ?_⟩
      rintro e wp ⟨rfl, hB1⟩
      exact ⟨rfl, rfl, below_in hBx hB1⟩))
  clear b0 b1 b2 hL hW2d hW2c hW2b hno
  go_enter Tryz.func8, Tryz.ntmps8
  have hmf : ∀ (fn : Fn) (first cap : Array Value) (w : World), (Instr.makeFunc fn first cap).run Tryz.prog w = .ok (.func fn first cap) w := fun _ _ _ _ => rfl
  go_wp2_with (go_at_call 27; refine HA.out.mono ?_; rintro e w1 ⟨rfl, hB1⟩)
  go_ret2
  exact ⟨rfl, below_in hBW hB1⟩
set_option maxRecDepth 100000 in
set_option maxHeartbeats 4000000 in
theorem order_no4 (p a b : Int) (hp : p ∈ prm) (hno : ¬ (0 ≤ a ∧ a < b ∧ b < p)) (w : World) (hL : Laid w) :
    Calls Tryz.prog 8 #[.int .i64 p, .int .i64 a, .int .i64 b] w fun e w' => e = .returned (.tuple #[.slice none 0 0, .int .i64 4]) ∧ Below w.heap.size w w' := by
  obtain ⟨W2, hW2⟩ : ∃ x, ((w.alloc (.cells #[.int .i64 p] 3)).alloc (.cells #[.int .i64 a] 3)).alloc (.cells #[.int .i64 b] 3) = x := ⟨_, rfl⟩
  have b0 : Blk W2 (w.heap.size) 3 #[.int .i64 p] := by rw [← hW2]; exact ((Blk.new w _ _).alloc _).alloc _
  have b1 : Blk W2 (w.heap.size + 1) 3 #[.int .i64 a] := by rw [← hW2]; exact (Blk.second w _ _ _).alloc _
  have b2 : Blk W2 (w.heap.size + 1 + 1) 3 #[.int .i64 b] := by rw [← hW2]; exact Rg.Blk.at_ (Blk.new _ _ _) (by simp)
  have hBW : Below w.heap.size w W2 := by rw [← hW2]; exact ((below_two w _ _)).alloc (by simp; omega) _
  obtain ⟨W2b, hW2b⟩ : ∃ x, w.heap.size = x := ⟨_, rfl⟩
  obtain ⟨W2c, hW2c⟩ : ∃ x, w.heap.size + 1 = x := ⟨_, rfl⟩
  obtain ⟨W2d, hW2d⟩ : ∃ x, w.heap.size + 1 + 1 = x := ⟨_, rfl⟩
  have HA := Lib.hid (ans_A_no 4 28 #[.pointer (some ⟨w.heap.size, 0, none⟩), .pointer (some ⟨w.heap.size + 1, 0, none⟩), .pointer (some ⟨w.heap.size + 1 + 1, 0, none⟩)] W2 (enter_Order1 _) (fun U hU _ => by
    have hBU := below_in hBW hU
    have HP := Lib.hid (fun (V : World) (hV : Below U.heap.size U V) => primeOf_yes p hp V (hL.next (below_in hBU hV)))
    obtain ⟨z, hz1, hz2, hz3⟩ := bad_two hno
    have HLO := Lib.hid (fun (V : World) (g : Nat) (hV : Below U.heap.size U V) (bE : Blk V g 3 #[.int .i64 a, .int .i64 b]) => losing_no p hp g [a, b] (by simp) z hz1 hz2 hz3 V (hL.next (below_in hBU hV)) bE.lt (two_cells bE))
    have HSS : Hid (∀ V, Below U.heap.size U V → (fun U : World => U.cell? ⟨W2b, 0, none⟩ = some (.int .i64 p) ∧ U.cell? ⟨W2c, 0, none⟩ = some (.int .i64 a) ∧ U.cell? ⟨W2d, 0, none⟩ = some (.int .i64 b)) V) := by
      rw [← hW2b, ← hW2c, ← hW2d]
      exact fun V hV => ⟨((b0.below hU b0.lt).below hV (Nat.lt_of_lt_of_le b0.lt hU.size)).one, ((b1.below hU b1.lt).below hV (Nat.lt_of_lt_of_le b1.lt hU.size)).one, ((b2.below hU b2.lt).below hV (Nat.lt_of_lt_of_le b2.lt hU.size)).one⟩
    have hBx := (Below.refl U.heap.size U).drew
    rw [hW2d, hW2c, hW2b]
    clear b0 b1 b2 hW2 hL hW2d hW2c hW2b hno
    refine (callsIn_wide (n := 9)).1 ?_
    refine callsIn_of_wp_marks Tryz.func28 rfl trivial ?_ rfl
    simp only [Tryz.ntmps28, List.size_toArray, List.length_cons, List.length_nil, Nat.reduceAdd, Nat.reduceSub, Array.replicate_succ, Array.replicate_zero, List.push_toArray, List.append_toArray, List.nil_append, List.cons_append]
    gi_wp2_with fail
    have hS : (fun U : World => U.cell? ⟨W2b, 0, none⟩ = some (.int .i64 p) ∧ U.cell? ⟨W2c, 0, none⟩ = some (.int .i64 a) ∧ U.cell? ⟨W2d, 0, none⟩ = some (.int .i64 b)) U.drew := HSS.out _ hBx
    refine wpIn_mono (region_HF (Q := GaveX 4 U) (S := (fun U : World => U.cell? ⟨W2b, 0, none⟩ = some (.int .i64 p) ∧ U.cell? ⟨W2c, 0, none⟩ = some (.int .i64 a) ∧ U.cell? ⟨W2d, 0, none⟩ = some (.int .i64 b))) (by kernel_rfl) ?_) (fun e a w' h => by obtain ⟨rfl, hd, hB⟩ := h; obtain ⟨tm, df⟩ := a; have hd' : df = [] := hd; subst hd'; exact ⟨rfl, hB⟩)
    refine anyHF_take (i := 0) (d := 4) (v := .int .i64 p) (by kernel_rfl) rfl (by kernel_rfl) (by kernel_rfl) (by kernel_rfl) rfl (fun _ _ _ h => h) ⟨Or.inl ⟨by rfl, fun w hS => by obtain ⟨h0, h1, h2⟩ := hS; go_simp⟩, fun _ => rfl⟩ hS ?_
    simp only [List.setIfInBounds_toArray, List.set_cons_zero, List.set_cons_succ]
    refine anyHF_take (i := 2) (d := 6) (v := .int .i64 a) (by kernel_rfl) rfl (by kernel_rfl) (by kernel_rfl) (by kernel_rfl) rfl (fun _ _ _ h => h) ⟨Or.inl ⟨by rfl, fun w hS => by obtain ⟨h0, h1, h2⟩ := hS; go_simp⟩, fun _ => rfl⟩ hS ?_
    simp only [List.setIfInBounds_toArray, List.set_cons_zero, List.set_cons_succ]
    refine anyHF_take (i := 3) (d := 7) (v := .int .i64 b) (by kernel_rfl) rfl (by kernel_rfl) (by kernel_rfl) (by kernel_rfl) rfl (fun _ _ _ h => h) ⟨Or.inl ⟨by rfl, fun w hS => by obtain ⟨h0, h1, h2⟩ := hS; go_simp⟩, fun _ => rfl⟩ hS ?_
    simp only [List.setIfInBounds_toArray, List.set_cons_zero, List.set_cons_succ]
    refine Rg.anyHF_both (i := 1) (j := 4) (by kernel_rfl) rfl rfl (by rfl) (by rfl) ?ca ?cb
    case ca =>
      gi_wp2_with fail
      refine ⟨trivial, (callsIn_wide.2 (HP.out _ hBx)).mono ?_⟩
      rintro e wp ⟨rfl, hB1⟩
      replace hBx := below_in hBx hB1
      clear hS
      have hS : (fun U : World => U.cell? ⟨W2b, 0, none⟩ = some (.int .i64 p) ∧ U.cell? ⟨W2c, 0, none⟩ = some (.int .i64 a) ∧ U.cell? ⟨W2d, 0, none⟩ = some (.int .i64 b)) wp := HSS.out _ hBx
      gi_wp2
      try (refine ⟨hS, ?_⟩)
      refine anyHF_one (i := 4) (by kernel_rfl) rfl (by kernel_rfl) (by rfl) ?_
      have hgl := hBx.size
      have hBe : Below wp.heap.size wp (wp.alloc (.cells #[.int .i64 a, .int .i64 b] 3)) := below_one wp _
      have bE : Blk (wp.alloc (.cells #[.int .i64 a, .int .i64 b] 3)) wp.heap.size 3 #[.int .i64 a, .int .i64 b] := Blk.new wp _ _
      obtain ⟨wl, hewl⟩ : ∃ x, (wp.alloc (.cells #[.int .i64 a, .int .i64 b] 3)) = x := ⟨_, rfl⟩
      obtain ⟨g, hgg⟩ : ∃ x, wp.heap.size = x := ⟨_, rfl⟩
      rw [hewl] at hBe bE
      rw [hgg] at bE
      replace hBx := below_in hBx hBe
      clear hS
      have hS : (fun U : World => U.cell? ⟨W2b, 0, none⟩ = some (.int .i64 p) ∧ U.cell? ⟨W2c, 0, none⟩ = some (.int .i64 a) ∧ U.cell? ⟨W2d, 0, none⟩ = some (.int .i64 b)) wl := HSS.out _ hBx
      gi_wp2
      (try rw [hgg]); (try rw [hewl])
      try (refine ⟨hS, ?_⟩)
      refine anyHF_one (i := 5) (by kernel_rfl) rfl (by kernel_rfl) (by rfl) ?_
      gi_wp2_with fail
      refine ⟨trivial, (callsIn_wide.2 (HLO.out _ g hBx bE)).mono ?_⟩
      rintro e w5 ⟨rfl, hB1⟩
      exact ⟨rfl, rfl, below_in hBx hB1⟩
    case cb =>
      have hgl := hBx.size
      have hBe : Below U.drew.heap.size U.drew (U.drew.alloc (.cells #[.int .i64 a, .int .i64 b] 3)) := below_one U.drew _
      have bE : Blk (U.drew.alloc (.cells #[.int .i64 a, .int .i64 b] 3)) U.drew.heap.size 3 #[.int .i64 a, .int .i64 b] := Blk.new U.drew _ _
      obtain ⟨wl, hewl⟩ : ∃ x, (U.drew.alloc (.cells #[.int .i64 a, .int .i64 b] 3)) = x := ⟨_, rfl⟩
      obtain ⟨g, hgg⟩ : ∃ x, U.drew.heap.size = x := ⟨_, rfl⟩
      rw [hewl] at hBe bE
      rw [hgg] at bE
      replace hBx := below_in hBx hBe
      clear hS
      have hS : (fun U : World => U.cell? ⟨W2b, 0, none⟩ = some (.int .i64 p) ∧ U.cell? ⟨W2c, 0, none⟩ = some (.int .i64 a) ∧ U.cell? ⟨W2d, 0, none⟩ = some (.int .i64 b)) wl := HSS.out _ hBx
      gi_wp2
      (try rw [hgg]); (try rw [hewl])
      try (refine ⟨hS, ?_⟩)
      refine anyHF_one (i := 1) (by kernel_rfl) rfl (by kernel_rfl) (by rfl) ?_
      gi_wp2_with fail
      refine ⟨trivial, (callsIn_wide.2 (HP.out _ hBx)).mono ?_⟩
      rintro e wp ⟨rfl, hB1⟩
      replace bE := bE.below hB1 bE.lt
      replace hBx := below_in hBx hB1
      clear hS
      have hS : (fun U : World => U.cell? ⟨W2b, 0, none⟩ = some (.int .i64 p) ∧ U.cell? ⟨W2c, 0, none⟩ = some (.int .i64 a) ∧ U.cell? ⟨W2d, 0, none⟩ = some (.int .i64 b)) wp := HSS.out _ hBx
      gi_wp2
      try (refine ⟨hS, ?_⟩)
      refine anyHF_one (i := 5) (by kernel_rfl) rfl (by kernel_rfl) (by rfl) ?_
      gi_wp2_with fail
      refine ⟨trivial, (callsIn_wide.2 (HLO.out _ g hBx bE)).mono ?_⟩
      rintro e w5 ⟨rfl, hB1⟩
      exact ⟨rfl, rfl, below_in hBx hB1⟩))
  clear b0 b1 b2 hL hW2d hW2c hW2b hno
  go_enter Tryz.func8, Tryz.ntmps8
  have hmf : ∀ (fn : Fn) (first cap : Array Value) (w : World), (Instr.makeFunc fn first cap).run Tryz.prog w = .ok (.func fn first cap) w := fun _ _ _ _ => rfl
  go_wp2_with (go_at_call 27; refine HA.out.mono ?_; rintro e w1 ⟨rfl, hB1⟩)
  go_ret2
  exact ⟨rfl, below_in hBW hB1⟩
theorem ChainT.less {lo lo' : Nat} {p a b : Int} {rs : List Int} {v : Value} {w : World} (h : ChainT lo p a b rs v w) (hl : lo' ≤ lo) (hw : lo ≤ w.heap.size) : ChainT lo' p a b rs v w := by
  obtain ⟨gf, lb, e, eg, hg⟩ := h
  exact ⟨gf, lb, e, eg, fun n hn l J Jx W o₀ hW ho₀ hJ hJx hr1 hr2 hY h0 => hg n hn l J Jx W o₀ hW ho₀ hJ hJx hr1 hr2 (fun pre x o W1 hj hok hl' hs => (hY pre x o W1 hj hok hl' hs).mono fun _ _ ⟨o', hf, hS, h⟩ => ⟨o', hf, hS, h.imp (fun ⟨h1, h2, h3⟩ => ⟨h1, h2, h3.less hl (by omega)⟩) (fun ⟨h1, h2, h3⟩ => ⟨h1, h2, h3.less hl (by omega)⟩)⟩) h0⟩
theorem enter_Walk2 : ∀ args W, (callFunc 36 args).run Tryz.prog W = .ok (.enter 36 args) W := enters_of Tryz.func36 (by kernel_rfl) rfl
theorem noneC_in (n l : Nat) (J Jx : List (Int × Int × Int) → (Nat → Prop) → World → Prop) (W : World) (o₀ : (Nat → Prop)) (h0 : J [] o₀ W) :
    CallsIn Fence.wide n Tryz.prog 36 #[.func (.yield l) #[] #[]] W fun e W' => (∃ v, e = .returned v) ∧ ∃ o', FreshO o₀ o' W ∧ ((∃ ys : List (Int × Int × Int), ys = [] ∧ J ys o' W') ∨ (∃ pre, pre <+: [] ∧ Jx pre o' W')) := by
  refine callsIn_of_wp Tryz.func36 rfl trivial ?_ rfl
  simp only [Tryz.ntmps36, List.size_toArray, List.length_cons, List.length_nil, Nat.reduceAdd, Nat.reduceSub, Array.replicate_succ, Array.replicate_zero, List.push_toArray, List.append_toArray, List.nil_append, List.cons_append]
  gi_wp2
  go_end0
  exact ⟨⟨_, rfl⟩, o₀, FreshO.refl _ _, .inl ⟨_, rfl, h0⟩⟩
theorem chainT_none (lo : Nat) (p a b : Int) (w : World) : ChainT lo p a b [] (.func (.func 36) #[] #[]) w :=
  ⟨_, #[], rfl, enter_Walk2, fun n _ l J Jx W o₀ _ _ _ _ _ _ _ h0 => noneC_in n l J Jx W o₀ h0⟩
set_option maxRecDepth 100000 in
set_option maxHeartbeats 4000000 in
theorem walk_yes (p a b : Int) (hp : p ∈ prm) (ha : 0 ≤ a) (hab : a < b) (hb : b < p) (w : World) (hL : Laid w) :
    Calls Tryz.prog 14 #[.int .i64 p, .int .i64 a, .int .i64 b] w fun e w' => ∃ v, e = .returned v ∧ ChainT w.heap.size p a b (Rg.rowsF p (walkN p (p - 1) (a - b))) v w' ∧ Below w.heap.size w w' := by
  obtain ⟨W2, hW2⟩ : ∃ x, ((w.alloc (.cells #[.int .i64 p] 3)).alloc (.cells #[.int .i64 a] 3)).alloc (.cells #[.int .i64 b] 3) = x := ⟨_, rfl⟩
  have b0 : Blk W2 (w.heap.size) 3 #[.int .i64 p] := by rw [← hW2]; exact ((Blk.new w _ _).alloc _).alloc _
  have b1 : Blk W2 (w.heap.size + 1) 3 #[.int .i64 a] := by rw [← hW2]; exact (Blk.second w _ _ _).alloc _
  have b2 : Blk W2 (w.heap.size + 1 + 1) 3 #[.int .i64 b] := by rw [← hW2]; exact Rg.Blk.at_ (Blk.new _ _ _) (by simp)
  have hBW : Below w.heap.size w W2 := by rw [← hW2]; exact ((below_two w _ _)).alloc (by simp; omega) _
  obtain ⟨W2b, hW2b⟩ : ∃ x, w.heap.size = x := ⟨_, rfl⟩
  obtain ⟨W2c, hW2c⟩ : ∃ x, w.heap.size + 1 = x := ⟨_, rfl⟩
  obtain ⟨W2d, hW2d⟩ : ∃ x, w.heap.size + 1 + 1 = x := ⟨_, rfl⟩
  have HA := Lib.hid (ans_L_yes 35 #[.pointer (some ⟨w.heap.size, 0, none⟩), .pointer (some ⟨w.heap.size + 1, 0, none⟩), .pointer (some ⟨w.heap.size + 1 + 1, 0, none⟩)] W2 (fun u W => ∃ g, u = .agg #[.int .i64 p, .slice (some ⟨g, 0, none⟩) 2 2] ∧ Blk W g 3 #[.int .i64 a, .int .i64 b] ∧ W2.heap.size + 2 ≤ g) (enter_Walk1 _) (fun v W W' ⟨g, h1, h2, h3⟩ _ _ hk _ => ⟨g, h1, (hk g ⟨by omega, by omega⟩).trans h2, h3⟩) (fun U0 hU0 hsU => by
    have hBU0 := below_in hBW hU0
    obtain ⟨gz, hgz⟩ : ∃ x, U0.heap.size = x := ⟨_, rfl⟩
    obtain ⟨U, hUe⟩ : ∃ x, U0.alloc (.cells #[.int .i64 0, .slice none 0 0] 69) = x := ⟨_, rfl⟩
    have hUU : Below U0.heap.size U0 U := by rw [← hUe]; exact below_one U0 _
    have bz0 : Blk U gz 69 #[.int .i64 0, .slice none 0 0] := by rw [← hUe, ← hgz]; exact Blk.new U0 _ _
    have hsz : U.heap.size = gz + 1 := by rw [← hUe, ← hgz]; simp
    have hU := below_in hU0 hUU
    have hBU := below_in hBW hU
    have HP := Lib.hid (fun (V : World) (hV : Below U.heap.size U V) => primeOf_yes p hp V (hL.next (below_in hBU hV)))
    have HLO := Lib.hid (fun (V : World) (g : Nat) (hV : Below U.heap.size U V) (bE : Blk V g 3 #[.int .i64 a, .int .i64 b]) => losing_yes p hp g [a, b] (by simp) (good_two ha hab hb) V (hL.next (below_in hBU hV)) bE.lt (two_cells bE))
    have HBZ := Lib.hid bz0
    have HS2 : Hid (∀ V, Below U0.heap.size U0 V → (fun U : World => U.cell? ⟨W2b, 0, none⟩ = some (.int .i64 p) ∧ U.cell? ⟨W2c, 0, none⟩ = some (.int .i64 a) ∧ U.cell? ⟨W2d, 0, none⟩ = some (.int .i64 b)) V) := by
      rw [← hW2b, ← hW2c, ← hW2d]
      exact fun V hV => ⟨((b0.below hU0 b0.lt).below hV (Nat.lt_of_lt_of_le b0.lt hU0.size)).one, ((b1.below hU0 b1.lt).below hV (Nat.lt_of_lt_of_le b1.lt hU0.size)).one, ((b2.below hU0 b2.lt).below hV (Nat.lt_of_lt_of_le b2.lt hU0.size)).one⟩
    have HSS : Hid (∀ V, Below U.heap.size U V → (fun U : World => U.cell? ⟨W2b, 0, none⟩ = some (.int .i64 p) ∧ U.cell? ⟨W2c, 0, none⟩ = some (.int .i64 a) ∧ U.cell? ⟨W2d, 0, none⟩ = some (.int .i64 b)) V) := by
      rw [← hW2b, ← hW2c, ← hW2d]
      exact fun V hV => ⟨((b0.below hU b0.lt).below hV (Nat.lt_of_lt_of_le b0.lt hU.size)).one, ((b1.below hU b1.lt).below hV (Nat.lt_of_lt_of_le b1.lt hU.size)).one, ((b2.below hU b2.lt).below hV (Nat.lt_of_lt_of_le b2.lt hU.size)).one⟩
    have hBx := (Below.refl U.heap.size U).drew
    rw [hW2d, hW2c, hW2b]
    clear b0 b1 b2 hW2 hL hW2d hW2c hW2b hp ha hab hb bz0
    refine (callsIn_wide (n := 9)).1 ?_
    refine callsIn_of_wp_marks Tryz.func35 rfl trivial ?_ rfl
    simp only [Tryz.ntmps35, List.size_toArray, List.length_cons, List.length_nil, Nat.reduceAdd, Nat.reduceSub, Array.replicate_succ, Array.replicate_zero, List.push_toArray, List.append_toArray, List.nil_append, List.cons_append]
    gi_wp2_with fail
    (try rw [hgz]); (try rw [hUe])
    have hS : (fun U : World => U.cell? ⟨W2b, 0, none⟩ = some (.int .i64 p) ∧ U.cell? ⟨W2c, 0, none⟩ = some (.int .i64 a) ∧ U.cell? ⟨W2d, 0, none⟩ = some (.int .i64 b)) U.drew := HSS.out _ hBx
    refine wpIn_mono (region_HF (Q := NoPanic _) (S := (fun U : World => U.cell? ⟨W2b, 0, none⟩ = some (.int .i64 p) ∧ U.cell? ⟨W2c, 0, none⟩ = some (.int .i64 a) ∧ U.cell? ⟨W2d, 0, none⟩ = some (.int .i64 b))) (by kernel_rfl) ?_) NoPanic.imp
    refine anyHF_take (i := 0) (d := 4) (v := .int .i64 p) (by kernel_rfl) rfl (by kernel_rfl) (by kernel_rfl) (by kernel_rfl) rfl (fun _ _ _ h => h) ⟨Or.inl ⟨by rfl, fun w hS => by obtain ⟨h0, h1, h2⟩ := hS; go_simp⟩, fun _ => rfl⟩ hS ?_
    simp only [List.setIfInBounds_toArray, List.set_cons_zero, List.set_cons_succ]
    refine anyHF_take (i := 2) (d := 6) (v := .int .i64 a) (by kernel_rfl) rfl (by kernel_rfl) (by kernel_rfl) (by kernel_rfl) rfl (fun _ _ _ h => h) ⟨Or.inl ⟨by rfl, fun w hS => by obtain ⟨h0, h1, h2⟩ := hS; go_simp⟩, fun _ => rfl⟩ hS ?_
    simp only [List.setIfInBounds_toArray, List.set_cons_zero, List.set_cons_succ]
    refine anyHF_take (i := 3) (d := 7) (v := .int .i64 b) (by kernel_rfl) rfl (by kernel_rfl) (by kernel_rfl) (by kernel_rfl) rfl (fun _ _ _ h => h) ⟨Or.inl ⟨by rfl, fun w hS => by obtain ⟨h0, h1, h2⟩ := hS; go_simp⟩, fun _ => rfl⟩ hS ?_
    simp only [List.setIfInBounds_toArray, List.set_cons_zero, List.set_cons_succ]
    refine Rg.anyHF_both (i := 1) (j := 4) (by kernel_rfl) rfl rfl (by rfl) (by rfl) ?ca ?cb
    case ca =>
      gi_wp2_with fail
      refine ⟨trivial, (callsIn_wide.2 (HP.out _ hBx)).mono ?_⟩
      rintro e wp ⟨rfl, hB1⟩
      replace hBx := below_in hBx hB1
      clear hS
      have hS : (fun U : World => U.cell? ⟨W2b, 0, none⟩ = some (.int .i64 p) ∧ U.cell? ⟨W2c, 0, none⟩ = some (.int .i64 a) ∧ U.cell? ⟨W2d, 0, none⟩ = some (.int .i64 b)) wp := HSS.out _ hBx
      gi_wp2
      try (refine ⟨hS, ?_⟩)
      refine anyHF_one (i := 4) (by kernel_rfl) rfl (by kernel_rfl) (by rfl) ?_
      have hgl := hBx.size
      have hBe : Below wp.heap.size wp (wp.alloc (.cells #[.int .i64 a, .int .i64 b] 3)) := below_one wp _
      have bE : Blk (wp.alloc (.cells #[.int .i64 a, .int .i64 b] 3)) wp.heap.size 3 #[.int .i64 a, .int .i64 b] := Blk.new wp _ _
      obtain ⟨wl, hewl⟩ : ∃ x, (wp.alloc (.cells #[.int .i64 a, .int .i64 b] 3)) = x := ⟨_, rfl⟩
      obtain ⟨g, hgg⟩ : ∃ x, wp.heap.size = x := ⟨_, rfl⟩
      rw [hewl] at hBe bE
      rw [hgg] at bE
      replace hBx := below_in hBx hBe
      clear hS
      have hS : (fun U : World => U.cell? ⟨W2b, 0, none⟩ = some (.int .i64 p) ∧ U.cell? ⟨W2c, 0, none⟩ = some (.int .i64 a) ∧ U.cell? ⟨W2d, 0, none⟩ = some (.int .i64 b)) wl := HSS.out _ hBx
      gi_wp2
      (try rw [hgg]); (try rw [hewl])
      try (refine ⟨hS, ?_⟩)
      refine anyHF_one (i := 5) (by kernel_rfl) rfl (by kernel_rfl) (by rfl) ?_
      gi_wp2_with fail
      refine ⟨trivial, (callsIn_wide.2 (HLO.out _ g hBx bE)).mono ?_⟩
      rintro e w5 ⟨rfl, hB5⟩
      replace bE := bE.below hB5 bE.lt
      replace hBx := below_in hBx hB5
      have bz := HBZ.out.below hBx HBZ.out.lt
      clear hS
      have hS : (fun U : World => U.cell? ⟨W2b, 0, none⟩ = some (.int .i64 p) ∧ U.cell? ⟨W2c, 0, none⟩ = some (.int .i64 a) ∧ U.cell? ⟨W2d, 0, none⟩ = some (.int .i64 b)) w5 := HSS.out _ hBx
      gi_wp2
      try (refine ⟨hS, ?_⟩)
      refine anyHF_one (i := 6) (by kernel_rfl) rfl (by kernel_rfl) (by rfl) ?_
      have c0 := bz.cell 0
      have c1 := bz.cell 1
      have f0 := bz.frozen 0
      have f1 := bz.frozen 1
      simp only [List.getElem?_toArray, List.getElem?_cons_zero, List.getElem?_cons_succ] at c0 c1
      obtain ⟨w6, hw6⟩ : ∃ x, (w5.setCell ⟨gz, 0, none⟩ (.int .i64 p)).setCell ⟨gz, 1, none⟩ (.slice (some ⟨g, 0, none⟩) 2 2) = x := ⟨_, rfl⟩
      have b6 : Blk w6 gz 69 #[.int .i64 p, .slice (some ⟨g, 0, none⟩) 2 2] := by rw [← hw6]; exact (bz.set_ 0 (.int .i64 p)).set_ 1 (.slice (some ⟨g, 0, none⟩) 2 2)
      have bE6 : Blk w6 g 3 #[.int .i64 a, .int .i64 b] := by rw [← hw6]; exact Blk.far (Blk.far bE (by show g ≠ gz; omega) _) (by show g ≠ gz; omega) _
      have hBy : Below U0.heap.size U0 w6 := by rw [← hw6]; exact ((below_in hUU hBx).setCell (by show U0.heap.size ≤ gz; omega) _).setCell (by show U0.heap.size ≤ gz; omega) _
      clear hS
      have hS : (fun U : World => U.cell? ⟨W2b, 0, none⟩ = some (.int .i64 p) ∧ U.cell? ⟨W2c, 0, none⟩ = some (.int .i64 a) ∧ U.cell? ⟨W2d, 0, none⟩ = some (.int .i64 b)) w6 := HS2.out _ hBy
      gi_wp2
      (try rw [hw6])
      try (refine ⟨hS, ?_⟩)
      refine anyHF_done (by kernel_rfl) ?_ _
      refine NoPanic.normal ?_
      have r0 := b6.cell 0
      have r1 := b6.cell 1
      simp only [List.getElem?_toArray, List.getElem?_cons_zero, List.getElem?_cons_succ] at r0 r1
      clear c0 c1 f0 f1 hw6
      gi_wp2_with fail
      exact ⟨.agg #[.int .i64 p, .slice (some ⟨g, 0, none⟩) 2 2], by simp [results, Tryz.results35, go_sem, r0, r1], p, some ⟨g, 0, none⟩, 2, 2, rfl, ⟨g, rfl, bE6, by omega⟩, hBy⟩
    case cb =>
      have hgl := hBx.size
      have hBe : Below U.drew.heap.size U.drew (U.drew.alloc (.cells #[.int .i64 a, .int .i64 b] 3)) := below_one U.drew _
      have bE : Blk (U.drew.alloc (.cells #[.int .i64 a, .int .i64 b] 3)) U.drew.heap.size 3 #[.int .i64 a, .int .i64 b] := Blk.new U.drew _ _
      obtain ⟨wl, hewl⟩ : ∃ x, (U.drew.alloc (.cells #[.int .i64 a, .int .i64 b] 3)) = x := ⟨_, rfl⟩
      obtain ⟨g, hgg⟩ : ∃ x, U.drew.heap.size = x := ⟨_, rfl⟩
      rw [hewl] at hBe bE
      rw [hgg] at bE
      replace hBx := below_in hBx hBe
      clear hS
      have hS : (fun U : World => U.cell? ⟨W2b, 0, none⟩ = some (.int .i64 p) ∧ U.cell? ⟨W2c, 0, none⟩ = some (.int .i64 a) ∧ U.cell? ⟨W2d, 0, none⟩ = some (.int .i64 b)) wl := HSS.out _ hBx
      gi_wp2
      (try rw [hgg]); (try rw [hewl])
      try (refine ⟨hS, ?_⟩)
      refine anyHF_one (i := 1) (by kernel_rfl) rfl (by kernel_rfl) (by rfl) ?_
      gi_wp2_with fail
      refine ⟨trivial, (callsIn_wide.2 (HP.out _ hBx)).mono ?_⟩
      rintro e wp ⟨rfl, hB1⟩
      replace bE := bE.below hB1 bE.lt
      replace hBx := below_in hBx hB1
      clear hS
      have hS : (fun U : World => U.cell? ⟨W2b, 0, none⟩ = some (.int .i64 p) ∧ U.cell? ⟨W2c, 0, none⟩ = some (.int .i64 a) ∧ U.cell? ⟨W2d, 0, none⟩ = some (.int .i64 b)) wp := HSS.out _ hBx
      gi_wp2
      try (refine ⟨hS, ?_⟩)
      refine anyHF_one (i := 5) (by kernel_rfl) rfl (by kernel_rfl) (by rfl) ?_
      gi_wp2_with fail
      refine ⟨trivial, (callsIn_wide.2 (HLO.out _ g hBx bE)).mono ?_⟩
      rintro e w5 ⟨rfl, hB5⟩
      replace bE := bE.below hB5 bE.lt
      replace hBx := below_in hBx hB5
      have bz := HBZ.out.below hBx HBZ.out.lt
      clear hS
      have hS : (fun U : World => U.cell? ⟨W2b, 0, none⟩ = some (.int .i64 p) ∧ U.cell? ⟨W2c, 0, none⟩ = some (.int .i64 a) ∧ U.cell? ⟨W2d, 0, none⟩ = some (.int .i64 b)) w5 := HSS.out _ hBx
      gi_wp2
      try (refine ⟨hS, ?_⟩)
      refine anyHF_one (i := 6) (by kernel_rfl) rfl (by kernel_rfl) (by rfl) ?_
      have c0 := bz.cell 0
      have c1 := bz.cell 1
      have f0 := bz.frozen 0
      have f1 := bz.frozen 1
      simp only [List.getElem?_toArray, List.getElem?_cons_zero, List.getElem?_cons_succ] at c0 c1
      obtain ⟨w6, hw6⟩ : ∃ x, (w5.setCell ⟨gz, 0, none⟩ (.int .i64 p)).setCell ⟨gz, 1, none⟩ (.slice (some ⟨g, 0, none⟩) 2 2) = x := ⟨_, rfl⟩
      have b6 : Blk w6 gz 69 #[.int .i64 p, .slice (some ⟨g, 0, none⟩) 2 2] := by rw [← hw6]; exact (bz.set_ 0 (.int .i64 p)).set_ 1 (.slice (some ⟨g, 0, none⟩) 2 2)
      have bE6 : Blk w6 g 3 #[.int .i64 a, .int .i64 b] := by rw [← hw6]; exact Blk.far (Blk.far bE (by show g ≠ gz; omega) _) (by show g ≠ gz; omega) _
      have hBy : Below U0.heap.size U0 w6 := by rw [← hw6]; exact ((below_in hUU hBx).setCell (by show U0.heap.size ≤ gz; omega) _).setCell (by show U0.heap.size ≤ gz; omega) _
      clear hS
      have hS : (fun U : World => U.cell? ⟨W2b, 0, none⟩ = some (.int .i64 p) ∧ U.cell? ⟨W2c, 0, none⟩ = some (.int .i64 a) ∧ U.cell? ⟨W2d, 0, none⟩ = some (.int .i64 b)) w6 := HS2.out _ hBy
      gi_wp2
      (try rw [hw6])
      try (refine ⟨hS, ?_⟩)
      refine anyHF_done (by kernel_rfl) ?_ _
      refine NoPanic.normal ?_
      have r0 := b6.cell 0
      have r1 := b6.cell 1
      simp only [List.getElem?_toArray, List.getElem?_cons_zero, List.getElem?_cons_succ] at r0 r1
      clear c0 c1 f0 f1 hw6
      gi_wp2_with fail
      exact ⟨.agg #[.int .i64 p, .slice (some ⟨g, 0, none⟩) 2 2], by simp [results, Tryz.results35, go_sem, r0, r1], p, some ⟨g, 0, none⟩, 2, 2, rfl, ⟨g, rfl, bE6, by omega⟩, hBy⟩))
  clear b0 b1 b2 hW2d hW2c hW2b
  have HP0 := Lib.hid hp
  have HAB := Lib.hid (And.intro ha (And.intro hab hb))
  have HCH := Lib.hid (fun (g : Nat) (V : World) (hV : Below w.heap.size w V) (bE : Blk V g 3 #[.int .i64 a, .int .i64 b]) => chain_any p a b hp ⟨ha, by omega⟩ ⟨by omega, hb⟩ g V (hL.next hV) bE.lt (bE.cell 0) (bE.cell 1))
  clear hL hp ha hab hb
  go_enter Tryz.func14, Tryz.ntmps14
  have hmf : ∀ (fn : Fn) (first cap : Array Value) (w : World), (Instr.makeFunc fn first cap).run Tryz.prog w = .ok (.func fn first cap) w := fun _ _ _ _ => rfl
  go_wp2_with (first
    | (go_at_call 34; refine HA.out.mono ?_; rintro e w1 ⟨v, rfl, ⟨g, rfl, bE, hge⟩, hB1⟩; have hBl := below_one w1 (.cells #[.int .i64 p, .slice (some ⟨g, 0, none⟩) 2 2] 69); have bl := Blk.new w1 69 #[.int .i64 p, .slice (some ⟨g, 0, none⟩) 2 2]; have l0 := bl.cell 0; have l1 := bl.cell 1; simp only [List.getElem?_toArray, List.getElem?_cons_zero, List.getElem?_cons_succ] at l0 l1; replace bE := bE.below hBl bE.lt; have hBq := below_in (below_in hBW hB1) hBl; have hqs := hBq.size)
    | (go_at_call 37; refine (HCH.out g _ hBq bE).mono ?_; rintro e w2 ⟨v, rfl, hv, hB2⟩; obtain ⟨gf, lb, hvf, _⟩ := id hv; subst hvf; have hq2 := hB2.size))
  go_ret
  exact ⟨_, rfl, hv.less hqs hq2, below_in hBq hB2⟩
set_option maxRecDepth 100000 in
set_option maxHeartbeats 4000000 in
theorem walk_no2 (p a b : Int) (hno : p ∉ prm) (w : World) (hL : Laid w) :
    Calls Tryz.prog 14 #[.int .i64 p, .int .i64 a, .int .i64 b] w fun e w' => ∃ v, e = .returned v ∧ ChainT w.heap.size p a b [] v w' ∧ Below w.heap.size w w' := by
  obtain ⟨W2, hW2⟩ : ∃ x, ((w.alloc (.cells #[.int .i64 p] 3)).alloc (.cells #[.int .i64 a] 3)).alloc (.cells #[.int .i64 b] 3) = x := ⟨_, rfl⟩
  have b0 : Blk W2 (w.heap.size) 3 #[.int .i64 p] := by rw [← hW2]; exact ((Blk.new w _ _).alloc _).alloc _
  have b1 : Blk W2 (w.heap.size + 1) 3 #[.int .i64 a] := by rw [← hW2]; exact (Blk.second w _ _ _).alloc _
  have b2 : Blk W2 (w.heap.size + 1 + 1) 3 #[.int .i64 b] := by rw [← hW2]; exact Rg.Blk.at_ (Blk.new _ _ _) (by simp)
  have hBW : Below w.heap.size w W2 := by rw [← hW2]; exact ((below_two w _ _)).alloc (by simp; omega) _
  obtain ⟨W2b, hW2b⟩ : ∃ x, w.heap.size = x := ⟨_, rfl⟩
  obtain ⟨W2c, hW2c⟩ : ∃ x, w.heap.size + 1 = x := ⟨_, rfl⟩
  obtain ⟨W2d, hW2d⟩ : ∃ x, w.heap.size + 1 + 1 = x := ⟨_, rfl⟩
  have HA := Lib.hid (ans_L_no 2 35 #[.pointer (some ⟨w.heap.size, 0, none⟩), .pointer (some ⟨w.heap.size + 1, 0, none⟩), .pointer (some ⟨w.heap.size + 1 + 1, 0, none⟩)] W2 (enter_Walk1 _) (fun U0 hU0 => by
    have hBU0 := below_in hBW hU0
    obtain ⟨U, hUe⟩ : ∃ x, U0.alloc (.cells #[.int .i64 0, .slice none 0 0] 69) = x := ⟨_, rfl⟩
    have hUU : Below U0.heap.size U0 U := by rw [← hUe]; exact below_one U0 _
    have hU := below_in hU0 hUU
    have hBU := below_in hBW hU
    have HP := Lib.hid (fun (V : World) (hV : Below U.heap.size U V) => primeOf_no p hno V (hL.next (below_in hBU hV)))
    have HSS : Hid (∀ V, Below U.heap.size U V → (fun U : World => U.cell? ⟨W2b, 0, none⟩ = some (.int .i64 p) ∧ U.cell? ⟨W2c, 0, none⟩ = some (.int .i64 a) ∧ U.cell? ⟨W2d, 0, none⟩ = some (.int .i64 b)) V) := by
      rw [← hW2b, ← hW2c, ← hW2d]
      exact fun V hV => ⟨((b0.below hU b0.lt).below hV (Nat.lt_of_lt_of_le b0.lt hU.size)).one, ((b1.below hU b1.lt).below hV (Nat.lt_of_lt_of_le b1.lt hU.size)).one, ((b2.below hU b2.lt).below hV (Nat.lt_of_lt_of_le b2.lt hU.size)).one⟩
    have hBx := (Below.refl U.heap.size U).drew
    rw [hW2d, hW2c, hW2b]
    clear b0 b1 b2 hW2 hL hW2d hW2c hW2b hno
    refine Calls.mono (R := fun e w' => e = .panicked (gave 2) ∧ Below U.heap.size U w') ?_ (fun _ _ h => ⟨h.1, below_in hUU h.2⟩)
    refine (callsIn_wide (n := 9)).1 ?_
    refine callsIn_of_wp_marks Tryz.func35 rfl trivial ?_ rfl
    simp only [Tryz.ntmps35, List.size_toArray, List.length_cons, List.length_nil, Nat.reduceAdd, Nat.reduceSub, Array.replicate_succ, Array.replicate_zero, List.push_toArray, List.append_toArray, List.nil_append, List.cons_append]
    gi_wp2_with fail
    (try rw [hUe])
    have hS : (fun U : World => U.cell? ⟨W2b, 0, none⟩ = some (.int .i64 p) ∧ U.cell? ⟨W2c, 0, none⟩ = some (.int .i64 a) ∧ U.cell? ⟨W2d, 0, none⟩ = some (.int .i64 b)) U.drew := HSS.out _ hBx
    refine wpIn_mono (region_HF (Q := GaveX 2 U) (S := (fun U : World => U.cell? ⟨W2b, 0, none⟩ = some (.int .i64 p) ∧ U.cell? ⟨W2c, 0, none⟩ = some (.int .i64 a) ∧ U.cell? ⟨W2d, 0, none⟩ = some (.int .i64 b))) (by kernel_rfl) ?_) (fun e a w' h => by obtain ⟨rfl, hd, hB⟩ := h; obtain ⟨tm, df⟩ := a; have hd' : df = [] := hd; subst hd'; exact ⟨rfl, hB⟩)
    refine anyHF_take (i := 0) (d := 4) (v := .int .i64 p) (by kernel_rfl) rfl (by kernel_rfl) (by kernel_rfl) (by kernel_rfl) rfl (fun _ _ _ h => h) ⟨Or.inl ⟨by rfl, fun w hS => by obtain ⟨h0, h1, h2⟩ := hS; go_simp⟩, fun _ => rfl⟩ hS ?_
    simp only [List.setIfInBounds_toArray, List.set_cons_zero, List.set_cons_succ]
    refine anyHF_take (i := 2) (d := 6) (v := .int .i64 a) (by kernel_rfl) rfl (by kernel_rfl) (by kernel_rfl) (by kernel_rfl) rfl (fun _ _ _ h => h) ⟨Or.inl ⟨by rfl, fun w hS => by obtain ⟨h0, h1, h2⟩ := hS; go_simp⟩, fun _ => rfl⟩ hS ?_
    simp only [List.setIfInBounds_toArray, List.set_cons_zero, List.set_cons_succ]
    refine anyHF_take (i := 3) (d := 7) (v := .int .i64 b) (by kernel_rfl) rfl (by kernel_rfl) (by kernel_rfl) (by kernel_rfl) rfl (fun _ _ _ h => h) ⟨Or.inl ⟨by rfl, fun w hS => by obtain ⟨h0, h1, h2⟩ := hS; go_simp⟩, fun _ => rfl⟩ hS ?_
    simp only [List.setIfInBounds_toArray, List.set_cons_zero, List.set_cons_succ]
    refine Rg.anyHF_both (i := 1) (j := 4) (by kernel_rfl) rfl rfl (by rfl) (by rfl) ?ca ?cb
    case ca =>
      gi_wp2_with fail
      refine ⟨trivial, (callsIn_wide.2 (HP.out _ hBx)).mono ?_⟩
      rintro e wp ⟨rfl, hB1⟩
      exact ⟨rfl, rfl, below_in hBx hB1⟩
    case cb =>
      have hgl := hBx.size
      have hBe : Below U.drew.heap.size U.drew (U.drew.alloc (.cells #[.int .i64 a, .int .i64 b] 3)) := below_one U.drew _
      have bE : Blk (U.drew.alloc (.cells #[.int .i64 a, .int .i64 b] 3)) U.drew.heap.size 3 #[.int .i64 a, .int .i64 b] := Blk.new U.drew _ _
      obtain ⟨wl, hewl⟩ : ∃ x, (U.drew.alloc (.cells #[.int .i64 a, .int .i64 b] 3)) = x := ⟨_, rfl⟩
      obtain ⟨g, hgg⟩ : ∃ x, U.drew.heap.size = x := ⟨_, rfl⟩
      rw [hewl] at hBe bE
      rw [hgg] at bE
      replace hBx := below_in hBx hBe
      clear hS
      have hS : (fun U : World => U.cell? ⟨W2b, 0, none⟩ = some (.int .i64 p) ∧ U.cell? ⟨W2c, 0, none⟩ = some (.int .i64 a) ∧ U.cell? ⟨W2d, 0, none⟩ = some (.int .i64 b)) wl := HSS.out _ hBx
      gi_wp2
      (try rw [hgg]); (try rw [hewl])
      try (refine ⟨hS, ?_⟩)
      refine anyHF_one (i := 1) (by kernel_rfl) rfl (by kernel_rfl) (by rfl) ?_
      gi_wp2_with fail
      refine ⟨trivial, (callsIn_wide.2 (HP.out _ hBx)).mono ?_⟩
      rintro e wp ⟨rfl, hB1⟩
      exact ⟨rfl, rfl, below_in hBx hB1⟩))
  clear b0 b1 b2 hL hW2d hW2c hW2b hno
  go_enter Tryz.func14, Tryz.ntmps14
  have hmf : ∀ (fn : Fn) (first cap : Array Value) (w : World), (Instr.makeFunc fn first cap).run Tryz.prog w = .ok (.func fn first cap) w := fun _ _ _ _ => rfl
  go_wp2_with (go_at_call 34; refine HA.out.mono ?_; rintro e w1 ⟨rfl, hB1⟩)
  go_ret
  exact ⟨_, rfl, chainT_none _ _ _ _ _, below_in (below_in hBW hB1) (below_one _ _)⟩
set_option maxRecDepth 100000 in
set_option maxHeartbeats 4000000 in
theorem walk_no4 (p a b : Int) (hp : p ∈ prm) (hno : ¬ (0 ≤ a ∧ a < b ∧ b < p)) (w : World) (hL : Laid w) :
    Calls Tryz.prog 14 #[.int .i64 p, .int .i64 a, .int .i64 b] w fun e w' => ∃ v, e = .returned v ∧ ChainT w.heap.size p a b [] v w' ∧ Below w.heap.size w w' := by
  obtain ⟨W2, hW2⟩ : ∃ x, ((w.alloc (.cells #[.int .i64 p] 3)).alloc (.cells #[.int .i64 a] 3)).alloc (.cells #[.int .i64 b] 3) = x := ⟨_, rfl⟩
  have b0 : Blk W2 (w.heap.size) 3 #[.int .i64 p] := by rw [← hW2]; exact ((Blk.new w _ _).alloc _).alloc _
  have b1 : Blk W2 (w.heap.size + 1) 3 #[.int .i64 a] := by rw [← hW2]; exact (Blk.second w _ _ _).alloc _
  have b2 : Blk W2 (w.heap.size + 1 + 1) 3 #[.int .i64 b] := by rw [← hW2]; exact Rg.Blk.at_ (Blk.new _ _ _) (by simp)
  have hBW : Below w.heap.size w W2 := by rw [← hW2]; exact ((below_two w _ _)).alloc (by simp; omega) _
  obtain ⟨W2b, hW2b⟩ : ∃ x, w.heap.size = x := ⟨_, rfl⟩
  obtain ⟨W2c, hW2c⟩ : ∃ x, w.heap.size + 1 = x := ⟨_, rfl⟩
  obtain ⟨W2d, hW2d⟩ : ∃ x, w.heap.size + 1 + 1 = x := ⟨_, rfl⟩
  have HA := Lib.hid (ans_L_no 4 35 #[.pointer (some ⟨w.heap.size, 0, none⟩), .pointer (some ⟨w.heap.size + 1, 0, none⟩), .pointer (some ⟨w.heap.size + 1 + 1, 0, none⟩)] W2 (enter_Walk1 _) (fun U0 hU0 => by
    have hBU0 := below_in hBW hU0
    obtain ⟨U, hUe⟩ : ∃ x, U0.alloc (.cells #[.int .i64 0, .slice none 0 0] 69) = x := ⟨_, rfl⟩
    have hUU : Below U0.heap.size U0 U := by rw [← hUe]; exact below_one U0 _
    have hU := below_in hU0 hUU
    have hBU := below_in hBW hU
    have HP := Lib.hid (fun (V : World) (hV : Below U.heap.size U V) => primeOf_yes p hp V (hL.next (below_in hBU hV)))
    obtain ⟨z, hz1, hz2, hz3⟩ := bad_two hno
    have HLO := Lib.hid (fun (V : World) (g : Nat) (hV : Below U.heap.size U V) (bE : Blk V g 3 #[.int .i64 a, .int .i64 b]) => losing_no p hp g [a, b] (by simp) z hz1 hz2 hz3 V (hL.next (below_in hBU hV)) bE.lt (two_cells bE))
    have HSS : Hid (∀ V, Below U.heap.size U V → (fun U : World => U.cell? ⟨W2b, 0, none⟩ = some (.int .i64 p) ∧ U.cell? ⟨W2c, 0, none⟩ = some (.int .i64 a) ∧ U.cell? ⟨W2d, 0, none⟩ = some (.int .i64 b)) V) := by
      rw [← hW2b, ← hW2c, ← hW2d]
      exact fun V hV => ⟨((b0.below hU b0.lt).below hV (Nat.lt_of_lt_of_le b0.lt hU.size)).one, ((b1.below hU b1.lt).below hV (Nat.lt_of_lt_of_le b1.lt hU.size)).one, ((b2.below hU b2.lt).below hV (Nat.lt_of_lt_of_le b2.lt hU.size)).one⟩
    have hBx := (Below.refl U.heap.size U).drew
    rw [hW2d, hW2c, hW2b]
    clear b0 b1 b2 hW2 hL hW2d hW2c hW2b hno
    refine Calls.mono (R := fun e w' => e = .panicked (gave 4) ∧ Below U.heap.size U w') ?_ (fun _ _ h => ⟨h.1, below_in hUU h.2⟩)
    refine (callsIn_wide (n := 9)).1 ?_
    refine callsIn_of_wp_marks Tryz.func35 rfl trivial ?_ rfl
    simp only [Tryz.ntmps35, List.size_toArray, List.length_cons, List.length_nil, Nat.reduceAdd, Nat.reduceSub, Array.replicate_succ, Array.replicate_zero, List.push_toArray, List.append_toArray, List.nil_append, List.cons_append]
    gi_wp2_with fail
    (try rw [hUe])
    have hS : (fun U : World => U.cell? ⟨W2b, 0, none⟩ = some (.int .i64 p) ∧ U.cell? ⟨W2c, 0, none⟩ = some (.int .i64 a) ∧ U.cell? ⟨W2d, 0, none⟩ = some (.int .i64 b)) U.drew := HSS.out _ hBx
    refine wpIn_mono (region_HF (Q := GaveX 4 U) (S := (fun U : World => U.cell? ⟨W2b, 0, none⟩ = some (.int .i64 p) ∧ U.cell? ⟨W2c, 0, none⟩ = some (.int .i64 a) ∧ U.cell? ⟨W2d, 0, none⟩ = some (.int .i64 b))) (by kernel_rfl) ?_) (fun e a w' h => by obtain ⟨rfl, hd, hB⟩ := h; obtain ⟨tm, df⟩ := a; have hd' : df = [] := hd; subst hd'; exact ⟨rfl, hB⟩)
    refine anyHF_take (i := 0) (d := 4) (v := .int .i64 p) (by kernel_rfl) rfl (by kernel_rfl) (by kernel_rfl) (by kernel_rfl) rfl (fun _ _ _ h => h) ⟨Or.inl ⟨by rfl, fun w hS => by obtain ⟨h0, h1, h2⟩ := hS; go_simp⟩, fun _ => rfl⟩ hS ?_
    simp only [List.setIfInBounds_toArray, List.set_cons_zero, List.set_cons_succ]
    refine anyHF_take (i := 2) (d := 6) (v := .int .i64 a) (by kernel_rfl) rfl (by kernel_rfl) (by kernel_rfl) (by kernel_rfl) rfl (fun _ _ _ h => h) ⟨Or.inl ⟨by rfl, fun w hS => by obtain ⟨h0, h1, h2⟩ := hS; go_simp⟩, fun _ => rfl⟩ hS ?_
    simp only [List.setIfInBounds_toArray, List.set_cons_zero, List.set_cons_succ]
    refine anyHF_take (i := 3) (d := 7) (v := .int .i64 b) (by kernel_rfl) rfl (by kernel_rfl) (by kernel_rfl) (by kernel_rfl) rfl (fun _ _ _ h => h) ⟨Or.inl ⟨by rfl, fun w hS => by obtain ⟨h0, h1, h2⟩ := hS; go_simp⟩, fun _ => rfl⟩ hS ?_
    simp only [List.setIfInBounds_toArray, List.set_cons_zero, List.set_cons_succ]
    refine Rg.anyHF_both (i := 1) (j := 4) (by kernel_rfl) rfl rfl (by rfl) (by rfl) ?ca ?cb
    case ca =>
      gi_wp2_with fail
      refine ⟨trivial, (callsIn_wide.2 (HP.out _ hBx)).mono ?_⟩
      rintro e wp ⟨rfl, hB1⟩
      replace hBx := below_in hBx hB1
      clear hS
      have hS : (fun U : World => U.cell? ⟨W2b, 0, none⟩ = some (.int .i64 p) ∧ U.cell? ⟨W2c, 0, none⟩ = some (.int .i64 a) ∧ U.cell? ⟨W2d, 0, none⟩ = some (.int .i64 b)) wp := HSS.out _ hBx
      gi_wp2
      try (refine ⟨hS, ?_⟩)
      refine anyHF_one (i := 4) (by kernel_rfl) rfl (by kernel_rfl) (by rfl) ?_
      have hgl := hBx.size
      have hBe : Below wp.heap.size wp (wp.alloc (.cells #[.int .i64 a, .int .i64 b] 3)) := below_one wp _
      have bE : Blk (wp.alloc (.cells #[.int .i64 a, .int .i64 b] 3)) wp.heap.size 3 #[.int .i64 a, .int .i64 b] := Blk.new wp _ _
      obtain ⟨wl, hewl⟩ : ∃ x, (wp.alloc (.cells #[.int .i64 a, .int .i64 b] 3)) = x := ⟨_, rfl⟩
      obtain ⟨g, hgg⟩ : ∃ x, wp.heap.size = x := ⟨_, rfl⟩
      rw [hewl] at hBe bE
      rw [hgg] at bE
      replace hBx := below_in hBx hBe
      clear hS
      have hS : (fun U : World => U.cell? ⟨W2b, 0, none⟩ = some (.int .i64 p) ∧ U.cell? ⟨W2c, 0, none⟩ = some (.int .i64 a) ∧ U.cell? ⟨W2d, 0, none⟩ = some (.int .i64 b)) wl := HSS.out _ hBx
      gi_wp2
      (try rw [hgg]); (try rw [hewl])
      try (refine ⟨hS, ?_⟩)
      refine anyHF_one (i := 5) (by kernel_rfl) rfl (by kernel_rfl) (by rfl) ?_
      gi_wp2_with fail
      refine ⟨trivial, (callsIn_wide.2 (HLO.out _ g hBx bE)).mono ?_⟩
      rintro e w5 ⟨rfl, hB1⟩
      exact ⟨rfl, rfl, below_in hBx hB1⟩
    case cb =>
      have hgl := hBx.size
      have hBe : Below U.drew.heap.size U.drew (U.drew.alloc (.cells #[.int .i64 a, .int .i64 b] 3)) := below_one U.drew _
      have bE : Blk (U.drew.alloc (.cells #[.int .i64 a, .int .i64 b] 3)) U.drew.heap.size 3 #[.int .i64 a, .int .i64 b] := Blk.new U.drew _ _
      obtain ⟨wl, hewl⟩ : ∃ x, (U.drew.alloc (.cells #[.int .i64 a, .int .i64 b] 3)) = x := ⟨_, rfl⟩
      obtain ⟨g, hgg⟩ : ∃ x, U.drew.heap.size = x := ⟨_, rfl⟩
      rw [hewl] at hBe bE
      rw [hgg] at bE
      replace hBx := below_in hBx hBe
      clear hS
      have hS : (fun U : World => U.cell? ⟨W2b, 0, none⟩ = some (.int .i64 p) ∧ U.cell? ⟨W2c, 0, none⟩ = some (.int .i64 a) ∧ U.cell? ⟨W2d, 0, none⟩ = some (.int .i64 b)) wl := HSS.out _ hBx
      gi_wp2
      (try rw [hgg]); (try rw [hewl])
      try (refine ⟨hS, ?_⟩)
      refine anyHF_one (i := 1) (by kernel_rfl) rfl (by kernel_rfl) (by rfl) ?_
      gi_wp2_with fail
      refine ⟨trivial, (callsIn_wide.2 (HP.out _ hBx)).mono ?_⟩
      rintro e wp ⟨rfl, hB1⟩
      replace bE := bE.below hB1 bE.lt
      replace hBx := below_in hBx hB1
      clear hS
      have hS : (fun U : World => U.cell? ⟨W2b, 0, none⟩ = some (.int .i64 p) ∧ U.cell? ⟨W2c, 0, none⟩ = some (.int .i64 a) ∧ U.cell? ⟨W2d, 0, none⟩ = some (.int .i64 b)) wp := HSS.out _ hBx
      gi_wp2
      try (refine ⟨hS, ?_⟩)
      refine anyHF_one (i := 5) (by kernel_rfl) rfl (by kernel_rfl) (by rfl) ?_
      gi_wp2_with fail
      refine ⟨trivial, (callsIn_wide.2 (HLO.out _ g hBx bE)).mono ?_⟩
      rintro e w5 ⟨rfl, hB1⟩
      exact ⟨rfl, rfl, below_in hBx hB1⟩))
  clear b0 b1 b2 hL hW2d hW2c hW2b hno
  go_enter Tryz.func14, Tryz.ntmps14
  have hmf : ∀ (fn : Fn) (first cap : Array Value) (w : World), (Instr.makeFunc fn first cap).run Tryz.prog w = .ok (.func fn first cap) w := fun _ _ _ _ => rfl
  go_wp2_with (go_at_call 34; refine HA.out.mono ?_; rintro e w1 ⟨rfl, hB1⟩)
  go_ret
  exact ⟨_, rfl, chainT_none _ _ _ _ _, below_in (below_in hBW hB1) (below_one _ _)⟩
end Go.Proofs.YthmkgdkfehgpkaaGreatDoor.T

