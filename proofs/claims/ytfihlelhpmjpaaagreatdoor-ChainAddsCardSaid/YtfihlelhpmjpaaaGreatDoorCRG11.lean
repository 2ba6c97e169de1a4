/- chain: Order, Walk. chain: lists of numbers and of cells one behind the other, where a number is, columns copied. -/
import Derived.Test.YtfihlelhpmjpaaaGreatDoorCRG10
namespace Go.Proofs.YtfihlelhpmjpaaaGreatDoor.T
open Go.RowKit Go.Shelf Go.Maps Go.Proofs.YtfihlelhpmjpaaaGreatDoor.C Go.Proofs.YtfihlelhpmjpaaaGreatDoor.E Go.Proofs.YtfihlelhpmjpaaaGreatDoor.Ch
set_option linter.unusedSimpArgs false
set_option linter.unusedVariables false
attribute [local go_sem] Oper.semAt_some

/-- Gives up with an error's number. -/
def GaveX (y : Int) (U : World) : Exit → Act → World → Prop := fun e a w' => e = .panic (gave y) ∧ a.defers = [] ∧ Below U.heap.size U w'
theorem rows_len (p a b : Int) (hp : p ∈ prm) : (Rg.rowsF p (walkN p (p - 1) (a - b))).length ≤ 100 := by
  have hb := prm_bounds hp
  refine Nat.le_trans (Rg.rowsF_len _ _) ?_
  rw [walkN_yes (fine_one.2 ⟨hp, by omega, by omega⟩), walkL_len]
  omega
set_option maxRecDepth 100000 in
set_option maxHeartbeats 4000000 in
theorem order_any (p a b : Int) (hp : p ∈ prm) (ha : 0 ≤ a ∧ a < p) (hb : 0 ≤ b ∧ b < p) (g : Nat) (w : World) (hL : Laid w) (hg : g < w.heap.size) (ca : w.cell? ⟨g, 0, none⟩ = some (.int .i64 a)) (cb : w.cell? ⟨g, 1, none⟩ = some (.int .i64 b)) :
    Calls Tryz.prog 69 #[.agg #[.int .i64 p, .slice (some ⟨g, 0, none⟩) 2 2]] w fun e w' => ∃ u, e = .returned u ∧ OwnA w' w.heap.size u ((chn a b (Rg.rowsF p (walkN p (p - 1) (a - b)))).map (fun x : Int × Int × Int => (x.2.1, x.2.2))) ∧ Below w.heap.size w w' := by
  have hBz := below_one w (.cells #[.int .i64 p, .slice (some ⟨g, 0, none⟩) 2 2] 70)
  have bz := Blk.new w 70 #[.int .i64 p, .slice (some ⟨g, 0, none⟩) 2 2]
  obtain ⟨w0, hw0⟩ : ∃ x, w.alloc (.cells #[.int .i64 p, .slice (some ⟨g, 0, none⟩) 2 2] 70) = x := ⟨_, rfl⟩
  rw [hw0] at hBz bz
  have z0 := bz.cell 0
  have z1 := bz.cell 1
  simp only [List.getElem?_toArray, List.getElem?_cons_zero, List.getElem?_cons_succ] at z0 z1
  have HC := Lib.hid (chain_any p a b hp ha hb g w0 (hL.next hBz) (Nat.lt_of_lt_of_le hg hBz.size) ((hBz.cell (p := ⟨g, 0, none⟩) hg).trans ca) ((hBz.cell (p := ⟨g, 1, none⟩) hg).trans cb))
  have HG := Lib.hid (fun (v : Value) (V : World) (hV : w0.heap.size ≤ V.heap.size) (h : ChainT w0.heap.size p a b (Rg.rowsF p (walkN p (p - 1) (a - b))) v V) => gatheredA_any w0.heap.size p a b (Rg.rowsF p (walkN p (p - 1) (a - b))) (rows_len p a b hp) v V hV h)
  have HZ := Lib.hid hBz
  generalize (Rg.rowsF p (walkN p (p - 1) (a - b))) = rs at *
  clear hp ha hb ca cb hL hg bz
  go_enter Tryz.func69, Tryz.ntmps69
  go_wp2_with (first
    | (go_at_call 105; (try rw [hw0]); refine HC.out.mono ?_; rintro e w1 ⟨v, rfl, hv, hB1⟩; obtain ⟨gf, lb, hvf, _⟩ := id hv; subst hvf)
    | (go_at_call 118; refine (HG.out _ _ hB1.size hv).mono ?_; rintro e w2 ⟨u, rfl, hu, hB2⟩; obtain ⟨uA, un, uc, rfl⟩ := hu.form))
  go_ret
  exact ⟨_, rfl, hu.less (by have := HZ.out.size; have := hB1.size; omega), below_in HZ.out (below_in hB1 hB2)⟩
theorem enter_Order1 : ∀ args W, (callFunc 66 args).run Tryz.prog W = .ok (.enter 66 args) W := enters_of Tryz.func66 (by kernel_rfl) rfl
theorem good_two {p a b : Int} (ha : 0 ≤ a) (hab : a < b) (hb : b < p) : ∀ i, i < [a, b].length → GoodL p [a, b] i := by
  intro i hi
  have hi2 : i = 0 ∨ i = 1 := by simp at hi; omega
  rcases hi2 with rfl | rfl
  · exact ⟨⟨ha, by show a < p; omega⟩, .inl rfl⟩
  · exact ⟨⟨by show 0 ≤ b; omega, hb⟩, .inr hab⟩
theorem two_cells {V : World} {g : Nat} {a b : Int} (h : Blk V g 3 #[.int .i64 a, .int .i64 b]) : ∀ j, j < [a, b].length → V.cell? ⟨g, j, none⟩ = some (.int .i64 ([a, b][j]?.getD 0)) := by
  intro j hj
  have hj2 : j = 0 ∨ j = 1 := by simp at hj; omega
  rcases hj2 with rfl | rfl
  · exact h.cell 0
  · exact h.cell 1
/-- Two numbers that are no two columns of data, the first ahead of the second: which one is told first. -/
theorem bad_two {p a b : Int} (h : ¬ (0 ≤ a ∧ a < b ∧ b < p)) : ∃ z, z < [a, b].length ∧ (∀ i, i < z → GoodL p [a, b] i) ∧ ¬ GoodL p [a, b] z := by
  by_cases h1 : 0 ≤ a ∧ a < p
  · refine ⟨1, by simp, fun i hi => ?_, ?_⟩
    · obtain rfl : i = 0 := by omega
      exact ⟨h1, .inl rfl⟩
    · rintro ⟨h2, h3⟩
      rcases h3 with h3 | h3
      · exact absurd h3 (by omega)
      · exact h ⟨h1.1, h3, h2.2⟩
  · exact ⟨0, by simp, fun i hi => absurd hi (by omega), fun h2 => h1 h2.1⟩
set_option maxRecDepth 100000 in
set_option maxHeartbeats 4000000 in
theorem order_yes (p a b : Int) (hp : p ∈ prm) (ha : 0 ≤ a) (hab : a < b) (hb : b < p) (w : World) (hL : Laid w) :
    Calls Tryz.prog 27 #[.int .i64 p, .int .i64 a, .int .i64 b] w fun e w' => ∃ u, e = .returned (.tuple #[u, .int .i64 0]) ∧ OwnA w' w.heap.size u ((chn a b (Rg.rowsF p (walkN p (p - 1) (a - b)))).map (fun x : Int × Int × Int => (x.2.1, x.2.2))) ∧ Below w.heap.size w w' := by
  obtain ⟨W2, hW2⟩ : ∃ x, ((w.alloc (.cells #[.int .i64 p] 3)).alloc (.cells #[.int .i64 a] 3)).alloc (.cells #[.int .i64 b] 3) = x := ⟨_, rfl⟩
  have b0 : Blk W2 (w.heap.size) 3 #[.int .i64 p] := by rw [← hW2]; exact ((Blk.new w _ _).alloc _).alloc _
  have b1 : Blk W2 (w.heap.size + 1) 3 #[.int .i64 a] := by rw [← hW2]; exact (Blk.second w _ _ _).alloc _
  have b2 : Blk W2 (w.heap.size + 1 + 1) 3 #[.int .i64 b] := by rw [← hW2]; exact Rg.Blk.at_ (Blk.new _ _ _) (by simp)
  have hBW : Below w.heap.size w W2 := by rw [← hW2]; exact ((below_two w _ _)).alloc (by simp; omega) _
  obtain ⟨W2b, hW2b⟩ : ∃ x, w.heap.size = x := ⟨_, rfl⟩
  obtain ⟨W2c, hW2c⟩ : ∃ x, w.heap.size + 1 = x := ⟨_, rfl⟩
  obtain ⟨W2d, hW2d⟩ : ∃ x, w.heap.size + 1 + 1 = x := ⟨_, rfl⟩
  have HA := Lib.hid (ans_A_yes 66 #[.pointer (some ⟨w.heap.size, 0, none⟩), .pointer (some ⟨w.heap.size + 1, 0, none⟩), .pointer (some ⟨w.heap.size + 1 + 1, 0, none⟩)] W2 (fun u W => ∃ x y z, u = .slice x y z ∧ OwnA W (W2.heap.size + 1) u ((chn a b (Rg.rowsF p (walkN p (p - 1) (a - b)))).map (fun x : Int × Int × Int => (x.2.1, x.2.2)))) (enter_Order1 _) (fun U hU bU => by
    have hBU := below_in hBW hU
    have hltU := bU.lt
    have HP := Lib.hid (fun (V : World) (hV : Below U.heap.size U V) => primeOf_yes p hp V (hL.next (below_in hBU hV)))
    have HLO := Lib.hid (fun (V : World) (g : Nat) (hV : Below U.heap.size U V) (bE : Blk V g 3 #[.int .i64 a, .int .i64 b]) => losing_yes p hp g [a, b] (by simp) (good_two ha hab hb) V (hL.next (below_in hBU hV)) bE.lt (two_cells bE))
    have HOR := Lib.hid (fun (V : World) (g : Nat) (hV : Below U.heap.size U V) (bE : Blk V g 3 #[.int .i64 a, .int .i64 b]) => order_any p a b hp ⟨ha, by omega⟩ ⟨by omega, hb⟩ g V (hL.next (below_in hBU hV)) bE.lt (bE.cell 0) (bE.cell 1))
    have HSS : Hid (∀ V, Below U.heap.size U V → (fun U : World => U.cell? ⟨W2b, 0, none⟩ = some (.int .i64 p) ∧ U.cell? ⟨W2c, 0, none⟩ = some (.int .i64 a) ∧ U.cell? ⟨W2d, 0, none⟩ = some (.int .i64 b)) V) := by
      rw [← hW2b, ← hW2c, ← hW2d]
      exact fun V hV => ⟨((b0.below hU b0.lt).below hV (Nat.lt_of_lt_of_le b0.lt hU.size)).one, ((b1.below hU b1.lt).below hV (Nat.lt_of_lt_of_le b1.lt hU.size)).one, ((b2.below hU b2.lt).below hV (Nat.lt_of_lt_of_le b2.lt hU.size)).one⟩
    have hBx := (Below.refl U.heap.size U).drew
    rw [hW2d, hW2c, hW2b]
    clear b0 b1 b2 hW2 hL hW2d hW2c hW2b bU hp ha hab hb
    refine (callsIn_wide (n := 9)).1 ?_
    refine callsIn_of_wp_marks Tryz.func66 rfl trivial ?_ rfl
    simp only [Tryz.ntmps66, List.size_toArray, List.length_cons, List.length_nil, Nat.reduceAdd, Nat.reduceSub, Array.replicate_succ, Array.replicate_zero, List.push_toArray, List.append_toArray, List.nil_append, List.cons_append]
    gi_wp2_with fail
    have hS : (fun U : World => U.cell? ⟨W2b, 0, none⟩ = some (.int .i64 p) ∧ U.cell? ⟨W2c, 0, none⟩ = some (.int .i64 a) ∧ U.cell? ⟨W2d, 0, none⟩ = some (.int .i64 b)) U.drew := HSS.out _ hBx
    refine wpIn_mono (region_HF (Q := NoPanic _) (S := (fun U : World => U.cell? ⟨W2b, 0, none⟩ = some (.int .i64 p) ∧ U.cell? ⟨W2c, 0, none⟩ = some (.int .i64 a) ∧ U.cell? ⟨W2d, 0, none⟩ = some (.int .i64 b))) (by kernel_rfl) ?_) NoPanic.imp
    refine anyHF_take (i := 0) (d := 4) (v := .int .i64 p) (by kernel_rfl) rfl (by kernel_rfl) (by kernel_rfl) (by kernel_rfl) rfl (fun _ _ _ h => h) ⟨Or.inl ⟨by rfl, fun w hS => by obtain ⟨h0, h1, h2⟩ := hS; go_simp⟩, fun _ => rfl⟩ hS ?_
    simp only [List.setIfInBounds_toArray, List.set_cons_zero, List.set_cons_succ]
    refine anyHF_take (i := 2) (d := 6) (v := .int .i64 a) (by kernel_rfl) rfl (by kernel_rfl) (by kernel_rfl) (by kernel_rfl) rfl (fun _ _ _ h => h) ⟨Or.inl ⟨by rfl, fun w hS => by obtain ⟨h0, h1, h2⟩ := hS; go_simp⟩, fun _ => rfl⟩ hS ?_
    simp only [List.setIfInBounds_toArray, List.set_cons_zero, List.set_cons_succ]
    refine anyHF_take (i := 3) (d := 7) (v := .int .i64 b) (by kernel_rfl) rfl (by kernel_rfl) (by kernel_rfl) (by kernel_rfl) rfl (fun _ _ _ h => h) ⟨Or.inl ⟨by rfl, fun w hS => by obtain ⟨h0, h1, h2⟩ := hS; go_simp⟩, fun _ => rfl⟩ hS ?_
    simp only [List.setIfInBounds_toArray, List.set_cons_zero, List.set_cons_succ]
    refine Rg.anyHF_both (i := 1) (j := 4) (by kernel_rfl) rfl rfl (by rfl) (by rfl) ?ca ?cb
    case ca =>
      gi_wp2_with fail
      refine ⟨trivial, (callsIn_wide.2 (HP.out _ hBx)).mono ?_⟩
      rintro e wp ⟨rfl, hB1⟩
      replace hBx := below_in hBx hB1
      clear hS
      have hS : (fun U : World => U.cell? ⟨W2b, 0, none⟩ = some (.int .i64 p) ∧ U.cell? ⟨W2c, 0, none⟩ = some (.int .i64 a) ∧ U.cell? ⟨W2d, 0, none⟩ = some (.int .i64 b)) wp := HSS.out _ hBx
      gi_wp2
      try (refine ⟨hS, ?_⟩)
      refine anyHF_one (i := 4) (by kernel_rfl) rfl (by kernel_rfl) (by rfl) ?_
      have hgl := hBx.size
      have hBe : Below wp.heap.size wp (wp.alloc (.cells #[.int .i64 a, .int .i64 b] 3)) := below_one wp _
      have bE : Blk (wp.alloc (.cells #[.int .i64 a, .int .i64 b] 3)) wp.heap.size 3 #[.int .i64 a, .int .i64 b] := Blk.new wp _ _
      obtain ⟨wl, hewl⟩ : ∃ x, (wp.alloc (.cells #[.int .i64 a, .int .i64 b] 3)) = x := ⟨_, rfl⟩
      obtain ⟨g, hgg⟩ : ∃ x, wp.heap.size = x := ⟨_, rfl⟩
      rw [hewl] at hBe bE
      rw [hgg] at bE
      replace hBx := below_in hBx hBe
      clear hS
      have hS : (fun U : World => U.cell? ⟨W2b, 0, none⟩ = some (.int .i64 p) ∧ U.cell? ⟨W2c, 0, none⟩ = some (.int .i64 a) ∧ U.cell? ⟨W2d, 0, none⟩ = some (.int .i64 b)) wl := HSS.out _ hBx
      gi_wp2
      (try rw [hgg]); (try rw [hewl])
      try (refine ⟨hS, ?_⟩)
      refine anyHF_one (i := 5) (by kernel_rfl) rfl (by kernel_rfl) (by rfl) ?_
      gi_wp2_with fail
      refine ⟨trivial, (callsIn_wide.2 (HLO.out _ g hBx bE)).mono ?_⟩
      rintro e w5 ⟨rfl, hB5⟩
      replace bE := bE.below hB5 bE.lt
      replace hBx := below_in hBx hB5
      clear hS
      have hS : (fun U : World => U.cell? ⟨W2b, 0, none⟩ = some (.int .i64 p) ∧ U.cell? ⟨W2c, 0, none⟩ = some (.int .i64 a) ∧ U.cell? ⟨W2d, 0, none⟩ = some (.int .i64 b)) w5 := HSS.out _ hBx
      gi_wp2
      try (refine ⟨hS, ?_⟩)
      refine anyHF_one (i := 6) (by kernel_rfl) rfl (by kernel_rfl) (by rfl) ?_
      gi_wp2_with fail
      refine ⟨trivial, (callsIn_wide.2 (HOR.out _ g hBx bE)).mono ?_⟩
      rintro e w6 ⟨u, rfl, hu, hB6⟩
      obtain ⟨uA, un, uc, rfl⟩ := hu.form
      have hs1 := hBx.size
      replace hBx := below_in hBx hB6
      clear hS
      have hS : (fun U : World => U.cell? ⟨W2b, 0, none⟩ = some (.int .i64 p) ∧ U.cell? ⟨W2c, 0, none⟩ = some (.int .i64 a) ∧ U.cell? ⟨W2d, 0, none⟩ = some (.int .i64 b)) w6 := HSS.out _ hBx
      gi_wp2
      try (refine ⟨hS, ?_⟩)
      refine anyHF_one (i := 7) (by kernel_rfl) rfl (by kernel_rfl) (by rfl) ?_
      gi_wp2
      refine anyHF_done (by kernel_rfl) ?_ _
      refine NoPanic.normal ?_
      gi_wp2_with fail
      exact ⟨_, by simp [results, Tryz.results66, go_sem], _, rfl, ⟨uA, un, uc, rfl, hu.less (by omega)⟩, hBx⟩
    case cb =>
      have hgl := hBx.size
      have hBe : Below U.drew.heap.size U.drew (U.drew.alloc (.cells #[.int .i64 a, .int .i64 b] 3)) := below_one U.drew _
      have bE : Blk (U.drew.alloc (.cells #[.int .i64 a, .int .i64 b] 3)) U.drew.heap.size 3 #[.int .i64 a, .int .i64 b] := Blk.new U.drew _ _
      obtain ⟨wl, hewl⟩ : ∃ x, (U.drew.alloc (.cells #[.int .i64 a, .int .i64 b] 3)) = x := ⟨_, rfl⟩
      obtain ⟨g, hgg⟩ : ∃ x, U.drew.heap.size = x := ⟨_, rfl⟩
      rw [hewl] at hBe bE
      rw [hgg] at bE
      replace hBx := below_in hBx hBe
      clear hS
      have hS : (fun U : World => U.cell? ⟨W2b, 0, none⟩ = some (.int .i64 p) ∧ U.cell? ⟨W2c, 0, none⟩ = some (.int .i64 a) ∧ U.cell? ⟨W2d, 0, none⟩ = some (.int .i64 b)) wl := HSS.out _ hBx
      gi_wp2
      (try rw [hgg]); (try rw [hewl])
      try (refine ⟨hS, ?_⟩)
      refine anyHF_one (i := 1) (by kernel_rfl) rfl (by kernel_rfl) (by rfl) ?_
      gi_wp2_with fail
      refine ⟨trivial, (callsIn_wide.2 (HP.out _ hBx)).mono ?_⟩
      rintro e wp ⟨rfl, hB1⟩
      replace bE := bE.below hB1 bE.lt
      replace hBx := below_in hBx hB1
      clear hS
      have hS : (fun U : World => U.cell? ⟨W2b, 0, none⟩ = some (.int .i64 p) ∧ U.cell? ⟨W2c, 0, none⟩ = some (.int .i64 a) ∧ U.cell? ⟨W2d, 0, none⟩ = some (.int .i64 b)) wp := HSS.out _ hBx
      gi_wp2
      try (refine ⟨hS, ?_⟩)
      refine anyHF_one (i := 5) (by kernel_rfl) rfl (by kernel_rfl) (by rfl) ?_
      gi_wp2_with fail
      refine ⟨trivial, (callsIn_wide.2 (HLO.out _ g hBx bE)).mono ?_⟩
      rintro e w5 ⟨rfl, hB5⟩
      replace bE := bE.below hB5 bE.lt
      replace hBx := below_in hBx hB5
      clear hS
      have hS : (fun U : World => U.cell? ⟨W2b, 0, none⟩ = some (.int .i64 p) ∧ U.cell? ⟨W2c, 0, none⟩ = some (.int .i64 a) ∧ U.cell? ⟨W2d, 0, none⟩ = some (.int .i64 b)) w5 := HSS.out _ hBx
      gi_wp2
      try (refine ⟨hS, ?_⟩)
      refine anyHF_one (i := 6) (by kernel_rfl) rfl (by kernel_rfl) (by rfl) ?_
      gi_wp2_with fail
      refine ⟨trivial, (callsIn_wide.2 (HOR.out _ g hBx bE)).mono ?_⟩
      rintro e w6 ⟨u, rfl, hu, hB6⟩
      obtain ⟨uA, un, uc, rfl⟩ := hu.form
      have hs1 := hBx.size
      replace hBx := below_in hBx hB6
      clear hS
      have hS : (fun U : World => U.cell? ⟨W2b, 0, none⟩ = some (.int .i64 p) ∧ U.cell? ⟨W2c, 0, none⟩ = some (.int .i64 a) ∧ U.cell? ⟨W2d, 0, none⟩ = some (.int .i64 b)) w6 := HSS.out _ hBx
      gi_wp2
      try (refine ⟨hS, ?_⟩)
      refine anyHF_one (i := 7) (by kernel_rfl) rfl (by kernel_rfl) (by rfl) ?_
      gi_wp2
      refine anyHF_done (by kernel_rfl) ?_ _
      refine NoPanic.normal ?_
      gi_wp2_with fail
      exact ⟨_, by simp [results, Tryz.results66, go_sem], _, rfl, ⟨uA, un, uc, rfl, hu.less (by omega)⟩, hBx⟩))
  clear b0 b1 b2 hL hW2d hW2c hW2b hp ha hab hb
  go_enter Tryz.func27, Tryz.ntmps27
  have hmf : ∀ (fn : Fn) (first cap : Array Value) (w : World), (Instr.makeFunc fn first cap).run Tryz.prog w = .ok (.func fn first cap) w := fun _ _ _ _ => rfl
  go_wp2_with (go_at_call 65; refine HA.out.mono ?_; rintro e w1 ⟨u, W, rfl, ⟨uA, un, uc, rfl, hu⟩, bE, rfl, hB1⟩)
  go_ret2
  exact ⟨_, rfl, (hu.far (p := ⟨W2.heap.size, 0, none⟩) (by show some W2.heap.size ≠ _; exact fun e => by have := hu.own_le _ e.symm; omega) _).less (by have := hBW.size; omega), below_in hBW hB1⟩
set_option maxRecDepth 100000 in
set_option maxHeartbeats 4000000 in
theorem order_no4 (p a b : Int) (hp : p ∈ prm) (hno : ¬ (0 ≤ a ∧ a < b ∧ b < p)) (w : World) (hL : Laid w) :
    Calls Tryz.prog 27 #[.int .i64 p, .int .i64 a, .int .i64 b] w fun e w' => e = .returned (.tuple #[.slice none 0 0, .int .i64 4]) ∧ Below w.heap.size w w' := by
  obtain ⟨W2, hW2⟩ : ∃ x, ((w.alloc (.cells #[.int .i64 p] 3)).alloc (.cells #[.int .i64 a] 3)).alloc (.cells #[.int .i64 b] 3) = x := ⟨_, rfl⟩
  have b0 : Blk W2 (w.heap.size) 3 #[.int .i64 p] := by rw [← hW2]; exact ((Blk.new w _ _).alloc _).alloc _
  have b1 : Blk W2 (w.heap.size + 1) 3 #[.int .i64 a] := by rw [← hW2]; exact (Blk.second w _ _ _).alloc _
  have b2 : Blk W2 (w.heap.size + 1 + 1) 3 #[.int .i64 b] := by rw [← hW2]; exact Rg.Blk.at_ (Blk.new _ _ _) (by simp)
  have hBW : Below w.heap.size w W2 := by rw [← hW2]; exact ((below_two w _ _)).alloc (by simp; omega) _
  obtain ⟨W2b, hW2b⟩ : ∃ x, w.heap.size = x := ⟨_, rfl⟩
  obtain ⟨W2c, hW2c⟩ : ∃ x, w.heap.size + 1 = x := ⟨_, rfl⟩
  obtain ⟨W2d, hW2d⟩ : ∃ x, w.heap.size + 1 + 1 = x := ⟨_, rfl⟩
  have HA := Lib.hid (ans_A_no 4 66 #[.pointer (some ⟨w.heap.size, 0, none⟩), .pointer (some ⟨w.heap.size + 1, 0, none⟩), .pointer (some ⟨w.heap.size + 1 + 1, 0, none⟩)] W2 (enter_Order1 _) (fun U hU _ => by
    have hBU := below_in hBW hU
    have HP := Lib.hid (fun (V : World) (hV : Below U.heap.size U V) => primeOf_yes p hp V (hL.next (below_in hBU hV)))
    obtain ⟨z, hz1, hz2, hz3⟩ := bad_two hno
    have HLO := Lib.hid (fun (V : World) (g : Nat) (hV : Below U.heap.size U V) (bE : Blk V g 3 #[.int .i64 a, .int .i64 b]) => losing_no p hp g [a, b] (by simp) z hz1 hz2 hz3 V (hL.next (below_in hBU hV)) bE.lt (two_cells bE))
    have HSS : Hid (∀ V, Below U.heap.size U V → (fun U : World => U.cell? ⟨W2b, 0, none⟩ = some (.int .i64 p) ∧ U.cell? ⟨W2c, 0, none⟩ = some (.int .i64 a) ∧ U.cell? ⟨W2d, 0, none⟩ = some (.int .i64 b)) V) := by
      rw [← hW2b, ← hW2c, ← hW2d]
      exact fun V hV => ⟨((b0.below hU b0.lt).below hV (Nat.lt_of_lt_of_le b0.lt hU.size)).one, ((b1.below hU b1.lt).below hV (Nat.lt_of_lt_of_le b1.lt hU.size)).one, ((b2.below hU b2.lt).below hV (Nat.lt_of_lt_of_le b2.lt hU.size)).one⟩
    have hBx := (Below.refl U.heap.size U).drew
    rw [hW2d, hW2c, hW2b]
    clear b0 b1 b2 hW2 hL hW2d hW2c hW2b hno
    refine (callsIn_wide (n := 9)).1 ?_
    refine callsIn_of_wp_marks Tryz.func66 rfl trivial ?_ rfl
    simp only [Tryz.ntmps66, List.size_toArray, List.length_cons, List.length_nil, Nat.reduceAdd, Nat.reduceSub, Array.replicate_succ, Array.replicate_zero, List.push_toArray, List.append_toArray, List.nil_append, List.cons_append]
    gi_wp2_with fail
    have hS : (fun U : World => U.cell? ⟨W2b, 0, none⟩ = some (.int .i64 p) ∧ U.cell? ⟨W2c, 0, none⟩ = some (.int .i64 a) ∧ U.cell? ⟨W2d, 0, none⟩ = some (.int .i64 b)) U.drew := HSS.out _ hBx
    refine wpIn_mono (region_HF (Q := GaveX 4 U) (S := (fun U : World => U.cell? ⟨W2b, 0, none⟩ = some (.int .i64 p) ∧ U.cell? ⟨W2c, 0, none⟩ = some (.int .i64 a) ∧ U.cell? ⟨W2d, 0, none⟩ = some (.int .i64 b))) (by kernel_rfl) ?_) (fun e a w' h => by obtain ⟨rfl, hd, hB⟩ := h; obtain ⟨tm, df⟩ := a; have hd' : df = [] := hd; subst hd'; exact ⟨rfl, hB⟩)
    refine anyHF_take (i := 0) (d := 4) (v := .int .i64 p) (by kernel_rfl) rfl (by kernel_rfl) (by kernel_rfl) (by kernel_rfl) rfl (fun _ _ _ h => h) ⟨Or.inl ⟨by rfl, fun w hS => by obtain ⟨h0, h1, h2⟩ := hS; go_simp⟩, fun _ => rfl⟩ hS ?_
    simp only [List.setIfInBounds_toArray, List.set_cons_zero, List.set_cons_succ]
    refine anyHF_take (i := 2) (d := 6) (v := .int .i64 a) (by kernel_rfl) rfl (by kernel_rfl) (by kernel_rfl) (by kernel_rfl) rfl (fun _ _ _ h => h) ⟨Or.inl ⟨by rfl, fun w hS => by obtain ⟨h0, h1, h2⟩ := hS; go_simp⟩, fun _ => rfl⟩ hS ?_
    simp only [List.setIfInBounds_toArray, List.set_cons_zero, List.set_cons_succ]
    refine anyHF_take (i := 3) (d := 7) (v := .int .i64 b) (by kernel_rfl) rfl (by kernel_rfl) (by kernel_rfl) (by kernel_rfl) rfl (fun _ _ _ h => h) ⟨Or.inl ⟨by rfl, fun w hS => by obtain ⟨h0, h1, h2⟩ := hS; go_simp⟩, fun _ => rfl⟩ hS ?_
    simp only [List.setIfInBounds_toArray, List.set_cons_zero, List.set_cons_succ]
    refine Rg.anyHF_both (i := 1) (j := 4) (by kernel_rfl) rfl rfl (by rfl) (by rfl) ?ca ?cb
    case ca =>
      gi_wp2_with fail
      refine ⟨trivial, (callsIn_wide.2 (HP.out _ hBx)).mono ?_⟩
      rintro e wp ⟨rfl, hB1⟩
      replace hBx := below_in hBx hB1
      clear hS
      have hS : (fun U : World => U.cell? ⟨W2b, 0, none⟩ = some (.int .i64 p) ∧ U.cell? ⟨W2c, 0, none⟩ = some (.int .i64 a) ∧ U.cell? ⟨W2d, 0, none⟩ = some (.int .i64 b)) wp := HSS.out _ hBx
      gi_wp2
      try (refine ⟨hS, ?_⟩)
      refine anyHF_one (i := 4) (by kernel_rfl) rfl (by kernel_rfl) (by rfl) ?_
      have hgl := hBx.size
      have hBe : Below wp.heap.size wp (wp.alloc (.cells #[.int .i64 a, .int .i64 b] 3)) := below_one wp _
      have bE : Blk (wp.alloc (.cells #[.int .i64 a, .int .i64 b] 3)) wp.heap.size 3 #[.int .i64 a, .int .i64 b] := Blk.new wp _ _
      obtain ⟨wl, hewl⟩ : ∃ x, (wp.alloc (.cells #[.int .i64 a, .int .i64 b] 3)) = x := ⟨_, rfl⟩
      obtain ⟨g, hgg⟩ : ∃ x, wp.heap.size = x := ⟨_, rfl⟩
      rw [hewl] at hBe bE
      rw [hgg] at bE
      replace hBx := below_in hBx hBe
      clear hS
      have hS : (fun U : World => U.cell? ⟨W2b, 0, none⟩ = some (.int .i64 p) ∧ U.cell? ⟨W2c, 0, none⟩ = some (.int .i64 a) ∧ U.cell? ⟨W2d, 0, none⟩ = some (.int .i64 b)) wl := HSS.out _ hBx
      gi_wp2
      (try rw [hgg]); (try rw [hewl])
      try (refine ⟨hS, ?_⟩)
      refine anyHF_one (i := 5) (by kernel_rfl) rfl (by kernel_rfl) (by rfl) ?_
      gi_wp2_with fail
      refine ⟨trivial, (callsIn_wide.2 (HLO.out _ g hBx bE)).mono ?_⟩
      rintro e w5 ⟨rfl, hB1⟩
      exact ⟨rfl, rfl, below_in hBx hB1⟩
    case cb =>
      have hgl := hBx.size
      have hBe : Below U.drew.heap.size U.drew (U.drew.alloc (.cells #[.int .i64 a, .int .i64 b] 3)) := below_one U.drew _
      have bE : Blk (U.drew.alloc (.cells #[.int .i64 a, .int .i64 b] 3)) U.drew.heap.size 3 #[.int .i64 a, .int .i64 b] := Blk.new U.drew _ _
      obtain ⟨wl, hewl⟩ : ∃ x, (U.drew.alloc (.cells #[.int .i64 a, .int .i64 b] 3)) = x := ⟨_, rfl⟩
      obtain ⟨g, hgg⟩ : ∃ x, U.drew.heap.size = x := ⟨_, rfl⟩
      rw [hewl] at hBe bE
      rw [hgg] at bE
      replace hBx := below_in hBx hBe
      clear hS
      have hS : (fun U : World => U.cell? ⟨W2b, 0, none⟩ = some (.int .i64 p) ∧ U.cell? ⟨W2c, 0, none⟩ = some (.int .i64 a) ∧ U.cell? ⟨W2d, 0, none⟩ = some (.int .i64 b)) wl := HSS.out _ hBx
      gi_wp2
      (try rw [hgg]); (try rw [hewl])
      try (refine ⟨hS, ?_⟩)
      refine anyHF_one (i := 1) (by kernel_rfl) rfl (by kernel_rfl) (by rfl) ?_
      gi_wp2_with fail
      refine ⟨trivial, (callsIn_wide.2 (HP.out _ hBx)).mono ?_⟩
      rintro e wp ⟨rfl, hB1⟩
      replace bE := bE.below hB1 bE.lt
      replace hBx := below_in hBx hB1
      clear hS
      have hS : (fun U : World => U.cell? ⟨W2b, 0, none⟩ = some (.int .i64 p) ∧ U.cell? ⟨W2c, 0, none⟩ = some (.int .i64 a) ∧ U.cell? ⟨W2d, 0, none⟩ = some (.int .i64 b)) wp := HSS.out _ hBx
      gi_wp2
      try (refine ⟨hS, ?_⟩)
      refine anyHF_one (i := 5) (by kernel_rfl) rfl (by kernel_rfl) (by rfl) ?_
      gi_wp2_with fail
      refine ⟨trivial, (callsIn_wide.2 (HLO.out _ g hBx bE)).mono ?_⟩
      rintro e w5 ⟨rfl, hB1⟩
      exact ⟨rfl, rfl, below_in hBx hB1⟩))
  clear b0 b1 b2 hL hW2d hW2c hW2b hno
  go_enter Tryz.func27, Tryz.ntmps27
  have hmf : ∀ (fn : Fn) (first cap : Array Value) (w : World), (Instr.makeFunc fn first cap).run Tryz.prog w = .ok (.func fn first cap) w := fun _ _ _ _ => rfl
  go_wp2_with (go_at_call 65; refine HA.out.mono ?_; rintro e w1 ⟨rfl, hB1⟩)
  go_ret2
  exact ⟨rfl, below_in hBW hB1⟩
theorem ChainT.less {lo lo' : Nat} {p a b : Int} {rs : List Int} {v : Value} {w : World} (h : ChainT lo p a b rs v w) (hl : lo' ≤ lo) (hw : lo ≤ w.heap.size) : ChainT lo' p a b rs v w := by
  obtain ⟨gf, lb, e, eg, hg⟩ := h
  exact ⟨gf, lb, e, eg, fun n hn l J Jx W o₀ hW ho₀ hJ hJx hr1 hr2 hY h0 => hg n hn l J Jx W o₀ hW ho₀ hJ hJx hr1 hr2 (fun pre x o W1 hj hok hl' hs => (hY pre x o W1 hj hok hl' hs).mono fun _ _ ⟨o', hf, hS, h⟩ => ⟨o', hf, hS, h.imp (fun ⟨h1, h2, h3⟩ => ⟨h1, h2, h3.less hl (by omega)⟩) (fun ⟨h1, h2, h3⟩ => ⟨h1, h2, h3.less hl (by omega)⟩)⟩) h0⟩
end Go.Proofs.YtfihlelhpmjpaaaGreatDoor.T

namespace Go.Proofs.YtfihlelhpmjpaaaGreatDoor.Ch
open Go.RowKit Go.Shelf Go.Proofs.YtfihlelhpmjpaaaGreatDoor.C Go.Proofs.YtfihlelhpmjpaaaGreatDoor.E
set_option linter.unusedSimpArgs false
set_option linter.unusedVariables false

theorem wpList_zerosK (w : World) {ops : Array Oper} {rest : List Oper} {o : Oper} {a : Act} {Q : Exit → Act → World → Prop} (hgd : o.guard = none) (s x : Operand)
    (ho : o.op = .call { callee := .builtin .append, args := #[s, x], argTypes := #[37, 3] }) (n : Nat) (h0 : 0 < n) (hn : n ≤ 1000000)
    (hs : a.eval s = .slice none 0 0) (hx : a.eval x = .int .i64 (n : Int))
    (h : ∀ c w', OwnS w' w.heap.size (.slice (some ⟨w.heap.size, 0, none⟩) 0 c) [] → Below w.heap.size w w' → n ≤ c → wpList Tryz.prog ops Q rest (a.put o.dst (.slice (some ⟨w.heap.size, 0, none⟩) n c)) w') : wpList Tryz.prog ops Q (o :: rest) a w :=
  wpList_plain hgd fun K hK => by
    obtain ⟨i0, hi, hz0, hz1, hz2⟩ := info_parts Tryz.infoSlcE
    have hrun := Lib.run_append_nil_zeros (P := Tryz.prog) w 37 3 o.type 57 i0 (.slice none 0 0) .i64 .i64 Tryz.underlying37 Tryz.underlying3 hi hz0 n h0 (by omega) (by omega) (by rw [hz2]; omega)
    have hge := grownCap_ge w n 0 57
    have hle := grownCap_le_maxLen w n 0 57 (by unfold maxLen; omega)
    generalize grownCap w n 0 57 = c at *
    have hsz : (Builtin.zeroCells (Value.slice none 0 0).cells n ++ Builtin.zeroCells (Value.slice none 0 0).cells (c - n)).size = c * 1 := by
      rw [Array.size_append, show (Value.slice none 0 0).cells = #[.slice none 0 0] from rfl, size_zeroCells, size_zeroCells]; simp; omega
    generalize Builtin.zeroCells (Value.slice none 0 0).cells n ++ Builtin.zeroCells (Value.slice none 0 0).cells (c - n) = cs at *
    unfold Oper.wp execOp
    simp only [ho, resolve, invoke, builtin, Sem.run_bind, Sem.run_pure, Result.andThen_ok, List.map_toArray, List.map_cons, List.map_nil, hs, hx, hrun]
    exact hK _ _ (h c _ (World.ownsRow_made w.drew cs c (Nat.le_refl _) hle hsz) ((Below.refl w.heap.size w).drew.alloc (Nat.le_refl _) _) hge)

set_option maxHeartbeats 400000 in
theorem growK_any (n : Nat) (hn : n ≤ 1000000) (w : World) :
    Calls Tryz.prog 213 #[.slice none 0 0, .int .i64 (n : Int)] w fun e w' => ∃ v, e = .returned v ∧ OwnS w' w.heap.size v [] ∧ Below w.heap.size w w' := by
  by_cases h0 : n = 0
  · subst h0
    go_enter Tryz.func213, Tryz.ntmps213
    go_wp2
    go_ret
    exact ⟨_, rfl, ownS_nil _ _, Below.refl _ _⟩
  · have hp : 0 < n := by omega
    have d1 : decide ((n : Int) < 0) = false := by simp
    have d2 : decide (0 < (n : Int)) = true := by simp; omega
    go_enter Tryz.func213, Tryz.ntmps213
    go_wp2_with (at_builtin; refine wpList_zerosK _ rfl _ _ rfl n hp hn rfl rfl ?_; intro c w1 hown hB1 hc)
    go_ret
    exact ⟨_, rfl, hown, hB1⟩
theorem wpList_valsK (w : World) {ops : Array Oper} {rest : List Oper} {o : Oper} {a : Act} {Q : Exit → Act → World → Prop} (hgd : o.guard = none) (s x : Operand)
    (ho : o.op = .call { callee := .builtin .append, args := #[s, x], argTypes := #[37, 37] })
    (base : Nat) (v : Value) (l : List Value) (hs : a.eval s = v) (hown : OwnS w base v l) (B2 : Nat) (v2 : Value) (us : List Value) (hx : a.eval x = v2) (hv2 : Vals B2 w v2 us) (hone : ∀ u ∈ us, u.oneCell' = true) (hlen : l.length ≤ 100000) (hlen2 : us.length ≤ 100000) (hbase : base ≤ w.heap.size)
    (h : ∀ v' w', OwnS w' base v' (l ++ us) → w.grownBy w' v.ownBlock → wpList Tryz.prog ops Q rest (a.put o.dst v') w') : wpList Tryz.prog ops Q (o :: rest) a w :=
  wpList_plain hgd fun K hK => by
    obtain ⟨i, hi, hz0, hz1, hz2⟩ := info_parts Tryz.infoSlcE
    rcases hv2 with ⟨rfl, rfl⟩ | ⟨b, off, cap, rfl, hc, hb, hcell⟩
    · rw [List.append_nil] at h
      have hrun := run_append_owned_none (P := Tryz.prog) (w := w) base 37 o.type 57 i 1 Tryz.underlying37 hi v l.length l hown
      unfold Oper.wp execOp
      simp only [ho, resolve, invoke, builtin, Sem.run_bind, Sem.run_pure, Result.andThen_ok, List.map_toArray, List.map_cons, List.map_nil, hs, hx, hrun]
      exact hK _ _ (h v w hown (World.grownBy.refl _ _))
    · obtain ⟨v', w', hrun, r1, r2, _, r3⟩ := run_append_own_at (P := Tryz.prog) w base 37 o.type 57 i (.slice none 0 0) 1 24 Tryz.underlying37 hi hz0 hz1 hz2 rfl (by omega) v l.length l hown ⟨b, off, none⟩ us.length cap us (by omega)
        (by intro j u hu; rw [addr_add]; exact hcell j u hu) hone (by unfold maxLen; omega) (by omega) hbase
      unfold Oper.wp execOp
      simp only [ho, resolve, invoke, builtin, Sem.run_bind, Sem.run_pure, Result.andThen_ok, List.map_toArray, List.map_cons, List.map_nil, hs, hx, hrun]
      exact hK _ _ (h v' w' (by unfold OwnS; rw [List.length_append]; exact r1) r2)
set_option maxRecDepth 100000 in
set_option maxHeartbeats 1000000 in
theorem concatK_any (b off cap : Nat) (uss : List (List Value)) (hls : uss.length ≤ 1000) (htot : uss.flatten.length ≤ 100000) (hone : ∀ us ∈ uss, ∀ u ∈ us, u.oneCell' = true) (w : World) {B : Nat} (hB : B ≤ w.heap.size) (hb : b < w.heap.size)
    (hcell : ∀ j, j < uss.length → ∃ s, w.cell? ⟨b, off + j, none⟩ = some s ∧ Vals B w s (uss[j]?.getD [])) :
    Calls Tryz.prog 161 #[.slice (some ⟨b, off, none⟩) uss.length cap] w fun e w' => ∃ v', e = .returned v' ∧ OwnS w' w.heap.size v' uss.flatten ∧ Below w.heap.size w w' := by
  have HCE := Lib.hid hcell
  clear hcell
  have HON : Hid (∀ j, j < uss.length → ∀ u ∈ uss[j]?.getD [], u.oneCell' = true) := fun j hj u hu => hone (uss[j]?.getD []) (by rw [List.getElem?_eq_getElem hj]; exact List.getElem_mem hj) u hu
  clear hone
  go_enter Tryz.func161, Tryz.ntmps161
  go_wp2_with fail
  go_loop [3, 11] (fun s i => ∃ k : Nat, k ≤ uss.length ∧ i = .int .i64 k ∧ s = .int .i64 ((uss.take k).flatten.length : Int)) (fun _ i => uss.length - (intOf i).toNat)
  case atStart => exact ⟨0, Nat.zero_le _, rfl, rfl⟩
  case round =>
    obtain ⟨k, hk, rfl, rfl⟩ := hrel
    by_cases hlt : k < uss.length
    · have hdec : decide ((k : Int) < (uss.length : Int)) = true := by simp; omega
      obtain ⟨sv, hc, hv⟩ := HCE.out k hlt
      obtain ⟨A1, cp, rfl⟩ := hv.len
      have HF : Hid ((uss.take (k + 1)).flatten.length = (uss.take k).flatten.length + (uss[k]?.getD []).length) := by
        unfold Hid; rw [flat_nextV uss k hlt, List.length_append]
      have hle := flat_leV uss (k + 1)
      rw [HF.out] at hle
      clear hv
      generalize (uss[k]?.getD []).length = m at hc HF hle
      generalize (uss.take k).flatten.length = s at HF hle
      have d1 : decide (((s : Int) + (m : Int)) < 0) = false := by simp; omega
      go_wp2
      go_round
      case rel => exact ⟨k + 1, by omega, by go_num, by rw [HF.out]; go_num⟩
      case measure => simp [intOf]; omega
    · obtain rfl : k = uss.length := by omega
      have e1 : decide ((uss.length : Int) < (uss.length : Int)) = false := by simp
      rw [List.take_length]
      have HT := Lib.hid htot
      have HLE := Lib.hid (fun k => flat_leV uss k)
      generalize uss.flatten.length = T at HT HLE htot
      have HG := Lib.hid (growK_any T (by omega) w)
      go_wp2_with (go_at_call 213; refine HG.out.mono ?_; rintro e w1 ⟨v1, rfl, hown1, hB1⟩)
      go_loopw [6, 27] (fun v i wr => ∃ k : Nat, k ≤ uss.length ∧ i = .int .i64 k ∧ OwnS wr w.heap.size v (uss.take k).flatten ∧ Below w.heap.size w wr) (fun _ i _ => uss.length - (intOf i).toNat)
      case atStart => exact ⟨0, Nat.zero_le _, rfl, hown1, hB1⟩
      case round =>
        obtain ⟨k, hk, rfl, hown, hBr⟩ := hrel
        by_cases hlt : k < uss.length
        · have hdec : decide ((k : Int) < (uss.length : Int)) = true := by simp; omega
          obtain ⟨sv, hc, hv⟩ := HCE.out k hlt
          have hon := HON.out k hlt
          have hc1 := (hBr.cell (p := ⟨b, off + k, none⟩) hb).trans hc
          have hv1 := hv.below (hBr.mono hB)
          have HF := Lib.hid (flat_nextV uss k hlt)
          have hle := HLE.out (k + 1)
          rw [HF.out, List.length_append] at hle
          obtain ⟨A1, cp, rfl⟩ := hv.len
          clear hc hv
          generalize uss[k]?.getD [] = r at hc1 hv1 HF hle hon
          generalize (uss.take k).flatten = p at HF hle hown
          have HO := Lib.hid hown
          have HV := Lib.hid hv1
          clear hown hv1
          go_wp2_with (at_builtin; refine wpList_valsK _ rfl _ _ rfl w.heap.size _ p rfl HO.out B _ r rfl HV.out hon (by have := HT.out; omega) (by have := HT.out; omega) hBr.size ?_; intro v' w2 hown2 hgrow2)
          go_roundw
          case rel => exact ⟨k + 1, by omega, by go_num, by rw [HF.out]; exact hown2, below_grown hBr hgrow2 hBr.size (fun g e => (World.ownsRow.lt HO.out g e).1)⟩
          case measure => simp [intOf]; omega
        · obtain rfl : k = uss.length := by omega
          have e1 : decide ((uss.length : Int) < (uss.length : Int)) = false := by simp
          rw [List.take_length] at hown
          go_wp2
          go_ret
          exact ⟨_, rfl, hown, hBr⟩
theorem Tryz.infoN : (Tryz.prog.info? 3).map (fun i => (i.zero, i.size, i.bytes)) = some (some (.int .i64 0), 1, 8) := by kernel_rfl
/-- A row of the call's own, of numbers. -/
def OwnN (w : World) (base : Nat) (v : Value) (us : List Value) : Prop := w.ownsRow base 3 1 v us.length us
theorem ownN_nil (w : World) (base : Nat) : OwnN w base (.slice none 0 0) [] := World.ownsRow_nil w base _ 1
theorem wpList_zerosN (w : World) {ops : Array Oper} {rest : List Oper} {o : Oper} {a : Act} {Q : Exit → Act → World → Prop} (hgd : o.guard = none) (s x : Operand)
    (ho : o.op = .call { callee := .builtin .append, args := #[s, x], argTypes := #[31, 3] }) (n : Nat) (h0 : 0 < n) (hn : n ≤ 1000000)
    (hs : a.eval s = .slice none 0 0) (hx : a.eval x = .int .i64 (n : Int))
    (h : ∀ c w', OwnN w' w.heap.size (.slice (some ⟨w.heap.size, 0, none⟩) 0 c) [] → Below w.heap.size w w' → n ≤ c → wpList Tryz.prog ops Q rest (a.put o.dst (.slice (some ⟨w.heap.size, 0, none⟩) n c)) w') : wpList Tryz.prog ops Q (o :: rest) a w :=
  wpList_plain hgd fun K hK => by
    obtain ⟨i0, hi, hz0, hz1, hz2⟩ := info_parts Tryz.infoN
    have hrun := Lib.run_append_nil_zeros (P := Tryz.prog) w 31 3 o.type 3 i0 (.int .i64 0) .i64 .i64 Tryz.underlying31 Tryz.underlying3 hi hz0 n h0 (by omega) (by omega) (by rw [hz2]; omega)
    have hge := grownCap_ge w n 0 3
    have hle := grownCap_le_maxLen w n 0 3 (by unfold maxLen; omega)
    generalize grownCap w n 0 3 = c at *
    have hsz : (Builtin.zeroCells (Value.int .i64 0).cells n ++ Builtin.zeroCells (Value.int .i64 0).cells (c - n)).size = c * 1 := by
      rw [Array.size_append, show (Value.int .i64 0).cells = #[.int .i64 0] from rfl, size_zeroCells, size_zeroCells]; simp; omega
    generalize Builtin.zeroCells (Value.int .i64 0).cells n ++ Builtin.zeroCells (Value.int .i64 0).cells (c - n) = cs at *
    unfold Oper.wp execOp
    simp only [ho, resolve, invoke, builtin, Sem.run_bind, Sem.run_pure, Result.andThen_ok, List.map_toArray, List.map_cons, List.map_nil, hs, hx, hrun]
    exact hK _ _ (h c _ (World.ownsRow_made w.drew cs c (Nat.le_refl _) hle hsz) ((Below.refl w.heap.size w).drew.alloc (Nat.le_refl _) _) hge)

set_option maxHeartbeats 400000 in
theorem growN_any (n : Nat) (hn : n ≤ 1000000) (w : World) :
    Calls Tryz.prog 150 #[.slice none 0 0, .int .i64 (n : Int)] w fun e w' => ∃ v, e = .returned v ∧ OwnN w' w.heap.size v [] ∧ Below w.heap.size w w' := by
  by_cases h0 : n = 0
  · subst h0
    go_enter Tryz.func150, Tryz.ntmps150
    go_wp2
    go_ret
    exact ⟨_, rfl, ownN_nil _ _, Below.refl _ _⟩
  · have hp : 0 < n := by omega
    have d1 : decide ((n : Int) < 0) = false := by simp
    have d2 : decide (0 < (n : Int)) = true := by simp; omega
    go_enter Tryz.func150, Tryz.ntmps150
    go_wp2_with (at_builtin; refine wpList_zerosN _ rfl _ _ rfl n hp hn rfl rfl ?_; intro c w1 hown hB1 hc)
    go_ret
    exact ⟨_, rfl, hown, hB1⟩
theorem wpList_valsN (w : World) {ops : Array Oper} {rest : List Oper} {o : Oper} {a : Act} {Q : Exit → Act → World → Prop} (hgd : o.guard = none) (s x : Operand)
    (ho : o.op = .call { callee := .builtin .append, args := #[s, x], argTypes := #[31, 31] })
    (base : Nat) (v : Value) (l : List Value) (hs : a.eval s = v) (hown : OwnN w base v l) (B2 : Nat) (v2 : Value) (us : List Value) (hx : a.eval x = v2) (hv2 : Vals B2 w v2 us) (hone : ∀ u ∈ us, u.oneCell' = true) (hlen : l.length ≤ 100000) (hlen2 : us.length ≤ 100000) (hbase : base ≤ w.heap.size)
    (h : ∀ v' w', OwnN w' base v' (l ++ us) → w.grownBy w' v.ownBlock → wpList Tryz.prog ops Q rest (a.put o.dst v') w') : wpList Tryz.prog ops Q (o :: rest) a w :=
  wpList_plain hgd fun K hK => by
    obtain ⟨i, hi, hz0, hz1, hz2⟩ := info_parts Tryz.infoN
    rcases hv2 with ⟨rfl, rfl⟩ | ⟨b, off, cap, rfl, hc, hb, hcell⟩
    · rw [List.append_nil] at h
      have hrun := run_append_owned_none (P := Tryz.prog) (w := w) base 31 o.type 3 i 1 Tryz.underlying31 hi v l.length l hown
      unfold Oper.wp execOp
      simp only [ho, resolve, invoke, builtin, Sem.run_bind, Sem.run_pure, Result.andThen_ok, List.map_toArray, List.map_cons, List.map_nil, hs, hx, hrun]
      exact hK _ _ (h v w hown (World.grownBy.refl _ _))
    · obtain ⟨v', w', hrun, r1, r2, _, r3⟩ := run_append_own_at (P := Tryz.prog) w base 31 o.type 3 i (.int .i64 0) 1 8 Tryz.underlying31 hi hz0 hz1 hz2 rfl (by omega) v l.length l hown ⟨b, off, none⟩ us.length cap us (by omega)
        (by intro j u hu; rw [addr_add]; exact hcell j u hu) hone (by unfold maxLen; omega) (by omega) hbase
      unfold Oper.wp execOp
      simp only [ho, resolve, invoke, builtin, Sem.run_bind, Sem.run_pure, Result.andThen_ok, List.map_toArray, List.map_cons, List.map_nil, hs, hx, hrun]
      exact hK _ _ (h v' w' (by unfold OwnN; rw [List.length_append]; exact r1) r2)
set_option maxRecDepth 100000 in
set_option maxHeartbeats 1000000 in
theorem concatN_any (b off cap : Nat) (uss : List (List Value)) (hls : uss.length ≤ 1000) (htot : uss.flatten.length ≤ 100000) (hone : ∀ us ∈ uss, ∀ u ∈ us, u.oneCell' = true) (w : World) {B : Nat} (hB : B ≤ w.heap.size) (hb : b < w.heap.size)
    (hcell : ∀ j, j < uss.length → ∃ s, w.cell? ⟨b, off + j, none⟩ = some s ∧ Vals B w s (uss[j]?.getD [])) :
    Calls Tryz.prog 94 #[.slice (some ⟨b, off, none⟩) uss.length cap] w fun e w' => ∃ v', e = .returned v' ∧ OwnN w' w.heap.size v' uss.flatten ∧ Below w.heap.size w w' := by
  have HCE := Lib.hid hcell
  clear hcell
  have HON : Hid (∀ j, j < uss.length → ∀ u ∈ uss[j]?.getD [], u.oneCell' = true) := fun j hj u hu => hone (uss[j]?.getD []) (by rw [List.getElem?_eq_getElem hj]; exact List.getElem_mem hj) u hu
  clear hone
  go_enter Tryz.func94, Tryz.ntmps94
  go_wp2_with fail
  go_loop [3, 11] (fun s i => ∃ k : Nat, k ≤ uss.length ∧ i = .int .i64 k ∧ s = .int .i64 ((uss.take k).flatten.length : Int)) (fun _ i => uss.length - (intOf i).toNat)
  case atStart => exact ⟨0, Nat.zero_le _, rfl, rfl⟩
  case round =>
    obtain ⟨k, hk, rfl, rfl⟩ := hrel
    by_cases hlt : k < uss.length
    · have hdec : decide ((k : Int) < (uss.length : Int)) = true := by simp; omega
      obtain ⟨sv, hc, hv⟩ := HCE.out k hlt
      obtain ⟨A1, cp, rfl⟩ := hv.len
      have HF : Hid ((uss.take (k + 1)).flatten.length = (uss.take k).flatten.length + (uss[k]?.getD []).length) := by
        unfold Hid; rw [flat_nextV uss k hlt, List.length_append]
      have hle := flat_leV uss (k + 1)
      rw [HF.out] at hle
      clear hv
      generalize (uss[k]?.getD []).length = m at hc HF hle
      generalize (uss.take k).flatten.length = s at HF hle
      have d1 : decide (((s : Int) + (m : Int)) < 0) = false := by simp; omega
      go_wp2
      go_round
      case rel => exact ⟨k + 1, by omega, by go_num, by rw [HF.out]; go_num⟩
      case measure => simp [intOf]; omega
    · obtain rfl : k = uss.length := by omega
      have e1 : decide ((uss.length : Int) < (uss.length : Int)) = false := by simp
      rw [List.take_length]
      have HT := Lib.hid htot
      have HLE := Lib.hid (fun k => flat_leV uss k)
      generalize uss.flatten.length = T at HT HLE htot
      have HG := Lib.hid (growN_any T (by omega) w)
      go_wp2_with (go_at_call 150; refine HG.out.mono ?_; rintro e w1 ⟨v1, rfl, hown1, hB1⟩)
      go_loopw [6, 27] (fun v i wr => ∃ k : Nat, k ≤ uss.length ∧ i = .int .i64 k ∧ OwnN wr w.heap.size v (uss.take k).flatten ∧ Below w.heap.size w wr) (fun _ i _ => uss.length - (intOf i).toNat)
      case atStart => exact ⟨0, Nat.zero_le _, rfl, hown1, hB1⟩
      case round =>
        obtain ⟨k, hk, rfl, hown, hBr⟩ := hrel
        by_cases hlt : k < uss.length
        · have hdec : decide ((k : Int) < (uss.length : Int)) = true := by simp; omega
          obtain ⟨sv, hc, hv⟩ := HCE.out k hlt
          have hon := HON.out k hlt
          have hc1 := (hBr.cell (p := ⟨b, off + k, none⟩) hb).trans hc
          have hv1 := hv.below (hBr.mono hB)
          have HF := Lib.hid (flat_nextV uss k hlt)
          have hle := HLE.out (k + 1)
          rw [HF.out, List.length_append] at hle
          obtain ⟨A1, cp, rfl⟩ := hv.len
          clear hc hv
          generalize uss[k]?.getD [] = r at hc1 hv1 HF hle hon
          generalize (uss.take k).flatten = p at HF hle hown
          have HO := Lib.hid hown
          have HV := Lib.hid hv1
          clear hown hv1
          go_wp2_with (at_builtin; refine wpList_valsN _ rfl _ _ rfl w.heap.size _ p rfl HO.out B _ r rfl HV.out hon (by have := HT.out; omega) (by have := HT.out; omega) hBr.size ?_; intro v' w2 hown2 hgrow2)
          go_roundw
          case rel => exact ⟨k + 1, by omega, by go_num, by rw [HF.out]; exact hown2, below_grown hBr hgrow2 hBr.size (fun g e => (World.ownsRow.lt HO.out g e).1)⟩
          case measure => simp [intOf]; omega
        · obtain rfl : k = uss.length := by omega
          have e1 : decide ((uss.length : Int) < (uss.length : Int)) = false := by simp
          rw [List.take_length] at hown
          go_wp2
          go_ret
          exact ⟨_, rfl, hown, hBr⟩
/-- Where a number is in a list. -/
def idxI (ls : List Int) (x : Int) : Int := if x ∈ ls then (ls.idxOf x : Int) else -1
set_option maxRecDepth 100000 in
set_option maxHeartbeats 1000000 in
theorem index_any (b off cap : Nat) (ls : List Int) (x : Int) (hls : ls.length ≤ 1000) (w : World) (hcell : ∀ j, j < ls.length → w.cell? ⟨b, off + j, none⟩ = some (.int .i64 (ls[j]?.getD 0))) :
    Calls Tryz.prog 151 #[.slice (some ⟨b, off, none⟩) ls.length cap, .int .i64 x] w fun e w' => e = .returned (.int .i64 (idxI ls x)) ∧ w' = w := by
  have HCE := Lib.hid hcell
  clear hcell
  obtain ⟨r, hr⟩ : ∃ r, idxI ls x = r := ⟨_, rfl⟩
  have HR := Lib.hid hr
  rw [hr]
  clear hr
  go_enter Tryz.func151, Tryz.ntmps151
  go_wp2_with fail
  go_loop [8] (fun i => ∃ k : Nat, k ≤ ls.length ∧ i = .int .i64 k ∧ Hid (x ∉ ls.take k)) (fun i => ls.length - (intOf i).toNat)
  case atStart => exact ⟨0, Nat.zero_le _, rfl, Lib.hid (by simp)⟩
  case round =>
    obtain ⟨k, hk, rfl, HN⟩ := hrel
    by_cases hlt : k < ls.length
    · have hdec : decide ((k : Int) < (ls.length : Int)) = true := by simp; omega
      have i1 : (0 : Int) ≤ (k : Int) := by omega
      have i2 : (k : Int) < (ls.length : Int) := by omega
      have hc := HCE.out k hlt
      have hg : ls[k]?.getD 0 = ls[k] := by rw [List.getElem?_eq_getElem hlt]; rfl
      have HT : Hid (ls.take (k + 1) = ls.take k ++ [ls[k]]) := List.take_succ_eq_append_getElem hlt
      rw [hg] at hc
      by_cases hx : x = ls[k]
      · have HE : Hid (r = (k : Int)) := by
          unfold Hid
          rw [← HR.out]
          unfold idxI
          rw [if_pos (by rw [hx]; exact List.getElem_mem hlt)]
          have e : ls.idxOf x = k := by
            have e1 : ls = ls.take k ++ ls[k] :: ls.drop (k + 1) := by rw [List.getElem_cons_drop hlt, List.take_append_drop]
            rw [e1, List.idxOf_append, if_neg HN.out, ← hx, List.idxOf_cons_self, List.length_take]
            omega
          rw [e]
        generalize ls[k] = y at hc hx
        subst hx
        have hd : (x == x) = true := by simp
        clear HT hg
        go_wp2
        go_ret
        exact ⟨by rw [HE.out]; rfl, rfl⟩
      · have hd : (x == ls[k]) = false := by simpa using hx
        have HN2 : Hid (x ∉ ls.take (k + 1)) := by
          unfold Hid
          rw [HT.out]
          intro h
          rcases List.mem_append.1 h with h | h
          · exact HN.out h
          · exact hx (List.mem_singleton.1 h)
        have HX := Lib.hid hx
        generalize ls[k] = y at hc hd
        clear HT hg hx HX
        go_wp2
        go_round
        case rel => exact ⟨k + 1, by omega, by go_num, HN2⟩
        case measure => simp [intOf]; omega
    · obtain rfl : k = ls.length := by omega
      have e1 : decide ((ls.length : Int) < (ls.length : Int)) = false := by simp
      have HE : Hid (r = -1) := by
        unfold Hid
        rw [← HR.out]
        unfold idxI
        have := HN.out
        rw [List.take_length] at this
        rw [if_neg this]
      go_wp2
      go_ret
      exact ⟨by rw [HE.out]; rfl, rfl⟩
set_option maxHeartbeats 1000000 in
theorem contains_any (b off cap : Nat) (ls : List Int) (x : Int) (hls : ls.length ≤ 1000) (w : World) (hcell : ∀ j, j < ls.length → w.cell? ⟨b, off + j, none⟩ = some (.int .i64 (ls[j]?.getD 0))) :
    Calls Tryz.prog 95 #[.slice (some ⟨b, off, none⟩) ls.length cap, .int .i64 x] w fun e w' => e = .returned (.bool (decide (x ∈ ls))) ∧ w' = w := by
  have HI := Lib.hid (index_any b off cap ls x hls w hcell)
  have hd : decide (idxI ls x ≥ 0) = decide (x ∈ ls) := by
    unfold idxI
    by_cases h : x ∈ ls
    · rw [if_pos h]; simp [h]
    · rw [if_neg h]; simp [h]
  have hd2 : decide (0 ≤ idxI ls x) = decide (x ∈ ls) := hd
  generalize idxI ls x = r at *
  generalize decide (x ∈ ls) = d at *
  clear hcell
  generalize ls.length = n at *
  go_enter Tryz.func95, Tryz.ntmps95
  go_wp2_with (go_at_call 151; refine HI.out.mono ?_; rintro e w1 ⟨rfl, rfl⟩)
  go_ret
  exact ⟨rfl, rfl⟩
theorem rowG_empty {α : Type} (r : Rep α) (t : TypeId) (d : α) (Q : Nat → Prop) {W : World} {base g : Nat} (hg : Blk W g t #[]) (hb : base ≤ g) : RowG r t d Q W base (.slice (some ⟨g, 0, none⟩) 0 0) [] :=
  ⟨[], ⟨rfl, .inr ⟨g, 0, #[], rfl, hb, hg, Nat.le_refl _, by unfold maxLen; omega, rfl, rfl⟩⟩, rfl, fun j y hy => by cases hy⟩
set_option maxRecDepth 100000 in
set_option maxHeartbeats 1000000 in
theorem cloneC_any {B : Nat} (v : Value) (css : List (List (List UInt8))) (w : World) (hB : B ≤ w.heap.size) (hC : Cols B w v css) (h0 : 0 < css.length) (hlen : css.length ≤ 1000) :
    Calls Tryz.prog 101 #[v] w fun e w' => ∃ u, e = .returned u ∧ RowC (· < B) w' w.heap.size u css ∧ Below w.heap.size w w' := by
  have hq : ∀ (W : World) (a : Option Addr) (n c : Nat), (binOp .eql 22 (.slice a n c) (.slice none 0 0)).run Tryz.prog W = .ok (.bool a.isNone) W := fun W a n c => Lib.run_eql_slice_nil W _ _ a n c 0 0 Tryz.underlying22
  obtain ⟨W1, hW1⟩ : ∃ W1, w.alloc (.cells #[] 37) = W1 := ⟨_, rfl⟩
  have hB1 : Below w.heap.size w W1 := by rw [← hW1]; exact below_one w _
  have s1 : W1.heap.size = w.heap.size + 1 := by rw [← hW1]; simp
  have hb : Blk W1 w.heap.size 37 #[] := by rw [← hW1]; exact Blk.new w _ _
  have HO : Hid (RowC (· < B) W1 w.heap.size (.slice (some ⟨w.heap.size, 0, none⟩) 0 0) []) := rowG_empty _ _ _ _ hb (Nat.le_refl _)
  have HX : Hid (colsR.R (fun b => b < W1.heap.size ∧ some b ≠ (Value.slice (some ⟨w.heap.size, 0, none⟩) 0 0).ownBlock ∧ b < B) W1 v css) := colsR.imp (show colsR.R (· < B) W1 v css from hC.below (hB1.mono hB)) fun b hb => ⟨by omega, by intro e; injection e with e; have : b = w.heap.size := e; omega, hb⟩
  obtain ⟨b1, off1, cap, rfl, hcap, hb1, _⟩ := hC.at_ h0
  have hq2 := hq w (some ⟨b1, off1, none⟩) css.length cap
  have HL := Lib.hid hlen
  have H0 := Lib.hid h0
  clear hC h0 hlen hq hb
  go_enter Tryz.func101, Tryz.ntmps101
  go_wp2_with (at_builtin; refine wpList_appC _ rfl _ _ rfl Tryz.underlying22 [] css rfl HO.out rfl HX.out H0.out (by simp) (Nat.le_trans HL.out (by omega)) (by omega) ?_; intro v' w2 hrow hgr _)
  go_ret
  rw [List.nil_append] at hrow
  exact ⟨_, rfl, hrow, below_grown hB1 hgr (by omega) (fun k e => by cases e; exact Nat.le_refl _)⟩

end Go.Proofs.YtfihlelhpmjpaaaGreatDoor.Ch

