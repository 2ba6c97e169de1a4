/- Places put in order, none of which is there twice. -/
import Derived.Test.YteglikljmkielaaGreatDoorZwD
import Derived.Test.YteglikljmkielaaGreatDoorMLeft
import Derived.Deep.AppendLies
namespace Go.Proofs.YteglikljmkielaaGreatDoor
open Go.RowKit Go.Shelf
set_option linter.unusedSimpArgs false
set_option linter.unusedVariables false

theorem Tryz.infoPlace : (Tryz.prog.info? 59).map (fun i => (i.zero, i.size, i.bytes)) = some (some (.agg #[.int .i64 0, .int .i64 0]), 2, 16) := by kernel_rfl
theorem ahead_of_not {a b : Int × Int} (hne : a ≠ b) (h : aheadB b a = false) : aheadB a b = true := by
  obtain ⟨a1, a2⟩ := a
  obtain ⟨b1, b2⟩ := b
  unfold aheadB at *
  simp at *
  omega
theorem strict_of {s : List (Int × Int)} (hn : s.Nodup) (h : s.Pairwise (fun a b => aheadB b a = false)) : s.Pairwise (fun a b => aheadB a b = true) :=
  (List.pairwise_and_iff.2 ⟨hn, h⟩).imp fun ⟨h1, h2⟩ => ahead_of_not h1 h2
theorem OwnP.take_next {w : World} {base : Nat} {v : Value} {s : List (Int × Int)} {j : Nat} (hj : j < s.length) (h : w.ownsRow base 59 2 v ((s.take j).length + 1) (codeCells (s.take j) ++ [.int .i64 (s[j]).1, .int .i64 (s[j]).2])) : OwnP w base v (s.take (j + 1)) := by
  unfold OwnP
  rw [List.take_succ_eq_append_getElem hj, List.length_append]
  unfold codeCells at *
  rw [List.flatMap_append]
  exact h
theorem OwnP.below {w w' : World} {base : Nat} {v : Value} {l : List (Int × Int)} (h : OwnP w base v l) (hb : Below w.heap.size w w') : OwnP w' base v l := by
  refine ⟨h.1, ?_⟩
  rcases h.2 with h1 | ⟨g, cap, cur, e, h2, hg, rest⟩
  · exact .inl h1
  · exact .inr ⟨g, cap, cur, e, h2, (hb.block g (Array.getElem?_eq_some_iff.1 hg).1).trans hg, rest⟩
theorem OwnP.own_le {w : World} {base : Nat} {v : Value} {l : List (Int × Int)} (h : OwnP w base v l) : ∀ k, v.ownBlock = some k → base ≤ k := fun k e => (World.ownsRow.lt h k e).1
theorem OwnP.less {w : World} {base base' : Nat} {v : Value} {l : List (Int × Int)} (h : OwnP w base v l) (hb : base' ≤ base) : OwnP w base' v l := ⟨h.1, h.2.imp id fun ⟨g, cap, cur, h1, h2, h3⟩ => ⟨g, cap, cur, h1, Nat.le_trans hb h2, h3⟩⟩

set_option maxRecDepth 100000 in
set_option maxHeartbeats 2000000 in
theorem odd_any (W : World) (base : Nat) (v : Value) (l : List (Int × Int)) (hne : l ≠ []) (hnd : l.Nodup) (hlen : l.length ≤ 1000) (hbase : base ≤ W.heap.size) (hown : OwnP W base v l) :
    Calls Tryz.prog 51 #[.func (.func 36) #[] #[], v] W fun e w' => ∃ u s, e = .returned u ∧ s.Perm l ∧ s.Pairwise (fun a b => aheadB a b = true) ∧ OwnP w' W.heap.size u s ∧ Below base W w' := by
  have hmf := make_func
  have hB0 := below_one W (.cells #[.func (.func 36) #[] #[]] 76)
  have bF := Blk.new W 76 #[.func (.func 36) #[] #[]]
  have hdiff : some W.heap.size ≠ v.ownBlock := fun e => by have := (World.ownsRow.lt hown _ e.symm).2; omega
  have HS := Lib.hid (sort_any _ W.heap.size base v l hne hlen (hown.below hB0) bF.one hdiff)
  have HL := Lib.hid hlen
  have HN := Lib.hid hnd
  clear hown hne hdiff hnd hlen
  go_enter Tryz.func51, Tryz.ntmps51
  go_wp2_with (go_at_call 63; refine HS.out.mono ?_; rintro e w1 ⟨rfl, s, g, cap, rfl, hcap, hbg, hgl, hgh, hperm, hsort, hcells, hgr⟩)
  have hN : s.length = l.length := hperm.length_eq
  have hns : s.Nodup := hperm.nodup_iff.2 HN.out
  have HP := Lib.hid hperm
  have HT := Lib.hid (strict_of hns hsort)
  have hW1 : W.heap.size < w1.heap.size := by have := hgr.size; simp at this; omega
  have hg1 : g < w1.heap.size := by simp at hgl; omega
  have bF1 : Blk w1 W.heap.size 76 #[.func (.func 36) #[] #[]] := bF.grown hgr (fun e => by injection e with e; omega)
  have hB1 : Below base W w1 := below_grown (hB0.mono hbase) hgr (by simp; omega) (fun k e => by injection e with e; omega)
  have HC : Hid (∀ (j : Nat) (hj : j < s.length), w1.cell? ⟨g, j * 2, none⟩ = some (.int .i64 (s[j]).1) ∧ w1.cell? ⟨g, j * 2 + 1, none⟩ = some (.int .i64 (s[j]).2)) := fun j hj => by rw [Nat.mul_comm]; exact hcells j hj
  clear HS hsort hperm hcells hgr hgl bF hB0
  obtain ⟨n, hn⟩ : ∃ n, l.length = n := ⟨_, rfl⟩
  rw [hn] at hN hcap HL
  rw [hn]
  have hL := HL.out
  clear hn HL
  have HSL := Lib.hid hN
  clear hN
  go_loopw [5, 14] (fun v i wr => ∃ j : Nat, j ≤ n ∧ i = .int .i64 j ∧ (j = 0 → v = .slice none 0 0) ∧ OwnP wr w1.heap.size v (s.take j) ∧ Below w1.heap.size w1 wr) (fun _ i _ => n - (intOf i).toNat)
  case atStart => exact ⟨0, by omega, rfl, fun _ => rfl, ownP_nil _ _, Below.refl _ _⟩
  case round =>
    obtain ⟨j, hj, rfl, h0, hown, hB⟩ := hrel
    by_cases hlt : j < n
    · have hdec : decide ((j : Int) < (n : Int)) = true := by simp; omega
      have hjs : j < s.length := by rw [HSL.out]; exact hlt
      obtain ⟨x0, x1⟩ := HC.out j hjs
      replace x0 := nextc x0 hB
      replace x1 := nextc x1 hB
      have HNX := Lib.hid (fun W v2 h => OwnP.take_next (w := W) (base := w1.heap.size) (v := v2) hjs h)
      have hlen : (s.take j).length = j := by rw [List.length_take]; omega
      have HLT := Lib.hid hlen
      have HA : Hid (∀ (i : Nat) (hi : i < s.length), i < j → aheadB s[i] s[j] = true) := fun i hi hij => (List.pairwise_iff_getElem.1 HT.out) i j hi hjs hij
      generalize hx : s[j] = x at *
      obtain ⟨px, py⟩ := x
      have bX := Blk.new wr 59 #[.int .i64 px, .int .i64 py]
      have hBx := below_one wr (.cells #[.int .i64 px, .int .i64 py] 59)
      have bF2 := (bF1.below hB hW1).below hBx (by have := hB.size; omega)
      have hownx := hown.below hBx
      have HO : Hid (OwnP ((wr.alloc (.cells #[.int .i64 px, .int .i64 py] 59)).alloc (.cells #[.int .i64 px, .int .i64 py] 59)).drew w1.heap.size u5 (s.take j)) := hownx.below (below_one _ _).drew
      have HU : Hid (Blk ((wr.alloc (.cells #[.int .i64 px, .int .i64 py] 59)).alloc (.cells #[.int .i64 px, .int .i64 py] 59)).drew (wr.heap.size + 1) 59 #[.int .i64 px, .int .i64 py]) := Blk.second wr _ _ _
      have HBB : Hid (Below w1.heap.size w1 ((wr.alloc (.cells #[.int .i64 px, .int .i64 py] 59)).alloc (.cells #[.int .i64 px, .int .i64 py] 59)).drew) := (below_in hB (below_two wr _ _)).drew
      have HOL := Lib.hid hown.own_le
      rcases Nat.eq_zero_or_pos j with hj0 | hj0
      · subst hj0
        obtain rfl := h0 rfl
        have hd0 : decide ((0 : Int) < 0) = false := by decide
        clear HA
        go_upto_region 7 with fail
        go_region
        go_wp2_with (at_builtin; refine wpList_code _ rfl _ _ 61 59 (.agg #[.int .i64 0, .int .i64 0]) 16 rfl Tryz.underlying61 Tryz.infoPlace rfl w1.heap.size _ _ rfl _ HO.out _ 1 _ _ rfl HU.out (by rw [HLT.out]; omega) (by omega) (by have := hB.size; simp; omega) ?_; intro v2 w2 hown2 hgrow2)
        go_roundw
        case rel => exact ⟨_, hlt, by go_num, fun h => by omega, HNX.out _ _ hown2, below_grown HBB.out hgrow2 (by have := hB.size; simp; omega) HOL.out⟩
        case measure => simp [intOf]; omega
      · have hform : ∃ g2 cap2, u5 = .slice (some ⟨g2, 0, none⟩) j cap2 ∧ w1.heap.size ≤ g2 ∧ g2 < wr.heap.size := by
          have := World.ownsRow.form hown (by rw [hlen]; exact hj0)
          rwa [hlen] at this
        obtain ⟨g2, cap2, rfl, hg2, hgl2⟩ := hform
        obtain ⟨m, hm⟩ : ∃ m : Nat, j = m + 1 := ⟨j - 1, by omega⟩
        have hms : m < s.length := by omega
        have hba := HA.out m hms (by omega)
        have hown' := hown
        unfold OwnP at hown'
        rw [hlen] at hown'
        have hl0 := World.ownsRow.cellAt hown' (m * 2) (by omega)
        have hl1 := World.ownsRow.cellAt hown' (m * 2 + 1) (by omega)
        obtain ⟨k0, k1⟩ := codeCells_at (s.take j) m (by rw [hlen]; omega)
        rw [Nat.mul_comm 2 m, List.getElem_take] at k0 k1
        rw [k0] at hl0
        rw [k1] at hl1
        generalize s[m] = q at hba hl0 hl1
        obtain ⟨lx, ly⟩ := q
        have HBE := Lib.hid (fun W => before_any lx ly px py W)
        rw [hba] at HBE
        have hwr : IntKind.i64.wrap ((j : Int) - 1) = (m : Int) := by rw [IntKind.wrap_i64]; omega
        have hwr2 : wrap64 ((j : Int) - 1) = (m : Int) := by unfold wrap64; omega
        have i1 : (0 : Int) ≤ (m : Int) := by omega
        have i2 : (m : Int) < (j : Int) := by omega
        have hd0 : decide (0 < (j : Int)) = true := by simp; omega
        clear k0 k1 hown' hm hba HA hms h0 HO HU HBB
        have y0 := bF2.one
        have y1 := bX.cell 0
        have y2 := bX.cell 1
        have y3 := nextc hl0 hBx
        have y4 := nextc hl1 hBx
        simp only [List.getElem?_toArray, List.getElem?_cons_zero, List.getElem?_cons_succ] at y1 y2
        have HB3 : Hid (∀ V, V = ((wr.alloc (.cells #[.int .i64 px, .int .i64 py] 59)).drew.alloc (.cells #[.int .i64 lx, .int .i64 ly] 59)).alloc (.cells #[.int .i64 px, .int .i64 py] 59) → Below (wr.alloc (.cells #[.int .i64 px, .int .i64 py] 59)).heap.size (wr.alloc (.cells #[.int .i64 px, .int .i64 py] 59)) V) := fun V h => by rw [h]; exact below_in (Below.refl _ _).drew (below_two _ _ _)
        go_upto_region 7 with fail
        have hBy : Below (wr.alloc (.cells #[.int .i64 px, .int .i64 py] 59)).heap.size (wr.alloc (.cells #[.int .i64 px, .int .i64 py] 59)) (wr.alloc (.cells #[.int .i64 px, .int .i64 py] 59)) := Below.refl _ _
        go_region_held3 (fun V => V.cell? ⟨W.heap.size, 0, none⟩ = some (.func (.func 36) #[] #[]) ∧ V.cell? ⟨wr.heap.size, 0, none⟩ = some (.int .i64 px) ∧ V.cell? ⟨wr.heap.size, 1, none⟩ = some (.int .i64 py) ∧ V.cell? ⟨g2, m * 2, none⟩ = some (.int .i64 lx) ∧ V.cell? ⟨g2, m * 2 + 1, none⟩ = some (.int .i64 ly))
          (exact ⟨y0, y1, y2, y3, y4⟩) (first | (go_at_call 36; refine (HBE.out _).mono ?_; rintro e w2 ⟨rfl, hw2⟩; have hB3 := HB3.out _ hw2; clear hw2; replace hBy := hB3; replace y0 := nextc y0 hB3; replace y1 := nextc y1 hB3; replace y2 := nextc y2 hB3; replace y3 := nextc y3 hB3; replace y4 := nextc y4 hB3))
        have HO2 := Lib.hid ((hownx.below hBy).below (below_one w2 (.cells #[.int .i64 px, .int .i64 py] 59)))
        have HU2 := Lib.hid (Blk.new w2 59 #[.int .i64 px, .int .i64 py])
        have HBB2 := Lib.hid (below_in (below_in (below_in hB hBx) hBy) (below_one w2 (.cells #[.int .i64 px, .int .i64 py] 59)))
        go_wp2_with (at_builtin; refine wpList_code _ rfl _ _ 61 59 (.agg #[.int .i64 0, .int .i64 0]) 16 rfl Tryz.underlying61 Tryz.infoPlace rfl w1.heap.size _ _ rfl _ HO2.out _ 1 _ _ rfl HU2.out (by rw [HLT.out]; omega) (by omega) (by have := hB.size; have := hBy.size; simp at *; omega) ?_; intro v2 w3 hown2 hgrow2)
        go_roundw
        case rel => exact ⟨j + 1, hlt, by go_num, fun h => by omega, HNX.out _ _ hown2, below_grown HBB2.out hgrow2 (by have := hB.size; have := hBy.size; simp at *; omega) HOL.out⟩
        case measure => simp [intOf]; omega
    · obtain rfl : j = n := by omega
      have hdec : decide ((j : Int) < (j : Int)) = false := by simp
      rw [List.take_of_length_le (by rw [HSL.out]; exact Nat.le_refl _)] at hown
      have hWl := hW1
      go_wp2
      go_ret
      exact ⟨_, s, rfl, HP.out, HT.out, hown.less (by omega), hB1.trans (hB.mono (by have := hB1.size; omega))⟩
end Go.Proofs.YteglikljmkielaaGreatDoor
