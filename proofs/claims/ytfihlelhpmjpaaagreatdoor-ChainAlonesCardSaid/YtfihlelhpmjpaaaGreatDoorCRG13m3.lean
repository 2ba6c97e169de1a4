/- chain: what is left of all columns, noughts in the place of those that are lost. -/
import Derived.Test.YtfihlelhpmjpaaaGreatDoorCRG12m3
import Derived.Test.YtfihlelhpmjpaaaGreatDoorCRG13
namespace Go.Proofs.YtfihlelhpmjpaaaGreatDoor.Ch
open Go.RowKit Go.Shelf Go.Proofs.YtfihlelhpmjpaaaGreatDoor.C Go.Proofs.YtfihlelhpmjpaaaGreatDoor.E
set_option linter.unusedSimpArgs false
set_option linter.unusedVariables false
attribute [local go_sem] Oper.semAt_some

set_option maxRecDepth 100000 in
set_option maxHeartbeats 8000000 in
theorem of_no {B : Nat} (p : Int) (ls os : List Int) (hls : 1 ≤ ls.length ∧ ls.length ≤ 2) (hos : os.length ≤ 1) (g : Nat) (css : List (List (List UInt8))) (hN0 : 0 < css.length) (hNl : css.length ≤ 100) (v ov : Value) (w : World) (hL : Laid w) (hB : B ≤ w.heap.size) (hg : g < w.heap.size) (hcell : ∀ j, j < ls.length → w.cell? ⟨g, j, none⟩ = some (.int .i64 (ls[j]?.getD 0))) (hov : Vals w.heap.size w ov (os.map (Value.int .i64))) (hC : Cols B w v css) (hcl : ∀ j, j < css.length → (css[j]?.getD []).length ≤ 1000) (hno : ¬ RightD p (kept (ls ++ os) css css.length)) :
    Calls Tryz.prog 46 #[.agg #[.int .i64 p, .slice (some ⟨g, 0, none⟩) ls.length ls.length], v, ov] w fun e w' => e = .panicked (gave 2) ∧ Below w.heap.size w w' := by
  have hL1 : 1 ≤ (ls ++ os).length ∧ (ls ++ os).length ≤ 3 := by rw [List.length_append]; omega
  obtain ⟨L, hLd⟩ : ∃ L, ls ++ os = L := ⟨_, rfl⟩
  obtain ⟨gl, go, cap, rfl, hcapN, hgl, hrow⟩ := hC.at_ hN0
  obtain ⟨w0, hw0⟩ : ∃ x, (w.alloc (.cells #[.int .i64 p, .slice (some ⟨g, 0, none⟩) ls.length ls.length] 70)).alloc (.cells #[.int .i64 0, .slice none 0 0, .slice none 0 0, .slice none 0 0] 72) = x := ⟨_, rfl⟩
  obtain ⟨g0, hg0⟩ : ∃ x, w.heap.size = x := ⟨_, rfl⟩
  obtain ⟨g1, hg1⟩ : ∃ x, g0 + 1 = x := ⟨_, rfl⟩
  have b0 : Blk w0 g0 70 #[.int .i64 p, .slice (some ⟨g, 0, none⟩) ls.length ls.length] := by rw [← hw0, ← hg0]; exact (Blk.new w _ _).alloc _
  have b1 : Blk w0 g1 72 #[.int .i64 0, .slice none 0 0, .slice none 0 0, .slice none 0 0] := by rw [← hw0, ← hg1, ← hg0]; exact Blk.second w _ _ _
  have hB0 : Below w.heap.size w w0 := by rw [← hw0]; exact below_two w _ _
  have s0 : w0.heap.size = w.heap.size + 2 := by rw [← hw0]; simp
  have k0 := b0.cell 0
  have k1 := b0.cell 1
  simp only [List.getElem?_toArray, List.getElem?_cons_zero, List.getElem?_cons_succ] at k0 k1
  obtain ⟨oA, oc, rfl⟩ : ∃ oA oc, ov = .slice oA os.length oc := by
    obtain ⟨A, c, e⟩ := hov.len
    exact ⟨A, c, by rw [e, List.length_map]⟩
  -- the two lists of numbers
  have HLST := Lib.hid (fun (V : World) (gb : Nat) (hV : Below w.heap.size w V) (hb : Blk V gb 31 #[.slice (some ⟨g, 0, none⟩) ls.length ls.length, .slice oA os.length oc]) => (by
    have h := concatN_any (B := w.heap.size) gb 0 2 [ls.map (Value.int .i64), os.map (Value.int .i64)] (by simp) (by simp; omega) (by intro us hus u hu; simp only [List.mem_cons, List.not_mem_nil, or_false] at hus; rcases hus with rfl | rfl <;> (obtain ⟨_, _, rfl⟩ := List.mem_map.1 hu; rfl)) V hV.size hb.lt (fun j hj => by
      have hj2 : j = 0 ∨ j = 1 := by simp at hj; omega
      rcases hj2 with rfl | rfl
      · refine ⟨_, hb.cell 0, .inr ⟨g, 0, ls.length, by simp, by simp, hg, fun j u hu => ?_⟩⟩
        show V.cell? ⟨g, 0 + j, none⟩ = some u
        have hu2 : (ls.map (Value.int .i64))[j]? = some u := hu
        rw [List.getElem?_map] at hu2
        have hj : j < ls.length := by
          rcases Nat.lt_or_ge j ls.length with h | h
          · exact h
          · rw [List.getElem?_eq_none h] at hu2; cases hu2
        rw [List.getElem?_eq_getElem hj] at hu2
        injection hu2 with hu2
        rw [Nat.zero_add, (hV.cell (p := ⟨g, j, none⟩) hg).trans (hcell j hj), List.getElem?_eq_getElem hj, ← hu2]
        rfl
      · exact ⟨_, hb.cell 1, hov.below hV⟩)
    have e : ([ls.map (Value.int .i64), os.map (Value.int .i64)] : List (List Value)).flatten = L.map (Value.int .i64) := by rw [← hLd, List.map_append]; simp
    rw [e] at h
    exact h : Calls Tryz.prog 94 #[.slice (some ⟨gb, 0, none⟩) 2 2] V fun e w' => ∃ v', e = .returned v' ∧ OwnN w' V.heap.size v' (L.map (Value.int .i64)) ∧ Below V.heap.size V w'))
  rw [hLd] at hL1
  have HCNT := Lib.hid (fun (gN c : Nat) (x : Int) (V : World) (h : ∀ j, j < L.length → V.cell? ⟨gN, j, none⟩ = some (.int .i64 (L[j]?.getD 0))) => contains_any gN 0 c L x (by omega) V (fun j hj => by rw [Nat.zero_add]; exact h j hj))
  obtain ⟨g2, hg2⟩ : ∃ x, w0.heap.size = x := ⟨_, rfl⟩
  have S0 := Lib.hid s0
  clear s0
  have HROW := Lib.hid hrow
  have HCOLS := Lib.hid hC
  have H0 := Lib.hid (And.intro hg0 hg1)
  have HRI := Lib.hid (fun (V : World) (kv : Value) (hV : Below w.heap.size w V) (hk : Cols V.heap.size V kv (kept L css css.length)) => right_no (B := V.heap.size) p kv _ V (hL.next hV) (Nat.le_refl _) hk (Nat.le_trans (kept_len _ _ _) (by omega)) (fun j hj => by
    obtain ⟨i, hi, _, e⟩ := kept_mem.1 (List.getElem_mem hj)
    rw [List.getElem?_eq_getElem hj]
    show (kept L css css.length)[j].length ≤ 1000
    rw [e]
    exact hcl i hi) (by rw [← hLd]; exact hno))
  clear hcl hno
  go_enter Tryz.func46, Tryz.ntmps46
  have bE : Blk (w0.alloc (.cells #[.slice (some ⟨g, 0, none⟩) ls.length ls.length, .slice oA os.length oc] 31)) g2 31 #[.slice (some ⟨g, 0, none⟩) ls.length ls.length, .slice oA os.length oc] := by rw [← hg2]; exact Blk.new w0 _ _
  go_wp2_with (go_at_call 94; (try rw [hg2]); (try rw [hw0]); refine (HLST.out _ g2 (below_in hB0 (below_one w0 _)) bE).mono ?_; rintro e w1 ⟨lv, rfl, hlv, hB1⟩; obtain ⟨gN, cN, rfl, hgN1, hgN2, hgNc⟩ := own_ints hlv (by omega); replace hB1 := below_in (below_one w0 _) hB1)
  have HN := Lib.hid hgNc
  have B1 := b0.below hB1 b0.lt
  have B2 := b1.below hB1 b1.lt
  have hBw1 := below_in hB0 hB1
  have HK := Lib.hid (And.intro B1 B2)
  have hs1 := hBw1.size
  have hs2 := hB1.size
  have hgg : g1 < w1.heap.size := B2.lt
  clear k0 k1 hlv hgNc B1 B2 b0 b1 hw0 hLd hov hcell hrow hC
  obtain ⟨N, hN⟩ : ∃ N, css.length = N := ⟨_, rfl⟩
  rw [hN] at hN0 hNl hcapN HROW ⊢
  have HNN := Lib.hid hN
  clear hN
  obtain ⟨M, hM⟩ : ∃ M, L.length = M := ⟨_, rfl⟩
  rw [hM] at hL1 HCNT HN ⊢
  have HMM := Lib.hid hM
  clear hM
  go_loopw [8, 23] (fun v i wr => ∃ k : Nat, k ≤ N ∧ i = .int .i64 k ∧ RowC (· < B) wr w1.heap.size v (kept L css k) ∧ Below w1.heap.size w1 wr) (fun _ i _ => N - (intOf i).toNat)
  case atStart => exact ⟨0, Nat.zero_le _, rfl, RowG.nil _ _ _ _ _ _, Below.refl _ _⟩
  case round =>
    obtain ⟨k, hk, rfl, hrw, hBr⟩ := hrel
    by_cases hlt : k < N
    · have hdec : decide ((k : Int) < (N : Int)) = true := by simp; omega
      obtain ⟨u1, hc1, hm1⟩ := HROW.out k hlt
      obtain ⟨A4, cap4, rfl, _, _⟩ := id hm1
      have hc2 := ((below_in hBw1 hBr).cell (p := ⟨gl, go + k, none⟩) (Nat.lt_of_lt_of_le hgl hB)).trans hc1
      have hm2 : Many B wr _ _ := hm1.below ((below_in hBw1 hBr).mono hB)
      have HCN := Lib.hid (HCNT.out gN cN (k : Int) wr (fun j hj => (hBr.cell (p := ⟨gN, j, none⟩) hgN2).trans (HN.out j hj)))
      have i1 : (0 : Int) ≤ (k : Int) := by omega
      have i2 : (k : Int) < (N : Int) := by omega
      have hszr := hBr.size
      by_cases hmem : (k : Int) ∈ L
      · have hnx := kept_in (css := css) hmem
        rw [decide_eq_true hmem] at HCN
        have HNX := Lib.hid (And.intro hnx hrw)
        clear hc1 hm1 hm2 hnx hmem hrw
        generalize (css[k]?.getD []).length = n7 at *
        go_wp2_with (go_at_call 95; refine HCN.out.mono ?_; rintro e w2 ⟨rfl, rfl⟩)
        go_roundw
        case rel => exact ⟨k + 1, by omega, by go_num, by rw [HNX.out.1]; exact HNX.out.2, hBr⟩
        case measure => simp [intOf]; omega
      · have hnx := kept_out (css := css) hmem
        rw [decide_eq_false hmem] at HCN
        have HVLE := Lib.hid (fun b e => RowG.own_le hrw b e)
        have hpl : (kept L css k).length ≤ 100 := by have := kept_len L css k; omega
        clear hc1 hm1
        generalize css[k]?.getD [] = xs at *
        generalize kept L css k = pre at *
        have HNX := Lib.hid hnx
        clear hnx hmem
        generalize xs.length = n7 at *
        have hcells : Below wr.heap.size wr (wr.alloc (.cells #[.slice A4 n7 cap4] 37)) := below_one wr _
        have HROWC := Lib.hid (RowG.below hrw hcells)
        have HBLK := Lib.hid (Blk.new wr 37 #[.slice A4 n7 cap4])
        have HCP : Hid (manyR.R (fun b => b < (wr.alloc (.cells #[.slice A4 n7 cap4] 37)).heap.size ∧ some b ≠ u8.ownBlock ∧ b < B) (wr.alloc (.cells #[.slice A4 n7 cap4] 37)) (.slice A4 n7 cap4) xs) :=
          SliceP.imp (hm2.below (hcells.mono (by omega))) fun b hb => ⟨by have hb' : b < B := hb; simp; omega, fun e => by have := HVLE.out b e.symm; have hb' : b < B := hb; omega, hb⟩
        clear hrw hm2
        go_wp2_with (first
          | (go_at_call 95; refine HCN.out.mono ?_; rintro e w2 ⟨rfl, rfl⟩)
          | (at_builtin; refine wpList_pushC (T := 22) _ rfl _ _ rfl Tryz.underlying22 pre rfl HROWC.out w2.heap.size 37 _ xs rfl HBLK.out HCP.out (by omega) (by simp; omega) ?_; intro v' w3 hrow4 hgrow hown))
        go_roundw
        case rel => exact ⟨k + 1, by omega, by go_num, by rw [HNX.out]; exact hrow4, below_grown (below_in hBr hcells) hgrow (by simp; omega) (fun g e => by have := HVLE.out g e; omega)⟩
        case measure => simp [intOf]; omega
    · obtain rfl : k = N := by omega
      have e1 : decide ((k : Int) < (k : Int)) = false := by simp
      have hcc := RowC.cols hrw
      obtain ⟨kA, kc, hkv, _, _⟩ := id hcc
      subst hkv
      have HC2 := Lib.hid hcc
      have hBq := below_in hBw1 hBr
      have hK0 := (HK.out.1.below hBr HK.out.1.lt).cell 0
      simp only [List.getElem?_toArray, List.getElem?_cons_zero, List.getElem?_cons_succ] at hK0
      rw [HNN.out] at HRI
      generalize (kept L css k).length = K at *
      clear hcc hrw
      go_wp2_with (first
        | (go_at_call 96; refine (HRI.out _ _ hBq HC2.out).mono ?_; rintro e w5 ⟨rfl, hB5⟩)
        | (go_at_call 92; refine (need_no _ _).mono ?_; rintro e w6 ⟨rfl, rfl⟩))
      exact ⟨rfl, rfl, below_in hBq hB5⟩
end Go.Proofs.YtfihlelhpmjpaaaGreatDoor.Ch

