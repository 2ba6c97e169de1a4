/- chain: what is left of all columns, noughts in the place of those that are lost. -/
import Derived.Test.YtfihlelhpmjpaaaGreatDoorCRG12
namespace Go.Proofs.YtfihlelhpmjpaaaGreatDoor.Ch
open Go.RowKit Go.Shelf Go.Proofs.YtfihlelhpmjpaaaGreatDoor.C Go.Proofs.YtfihlelhpmjpaaaGreatDoor.E
set_option linter.unusedSimpArgs false
set_option linter.unusedVariables false
attribute [local go_sem] Oper.semAt_some

/-- The columns among the first k that are not lost. -/
def kept (L : List Int) (css : List (List (List UInt8))) (k : Nat) : List (List (List UInt8)) := ((List.range k).filter fun i : Nat => decide ¬((i : Int) ∈ L)).map fun i => css[i]?.getD []
theorem kept_in {L : List Int} {css : List (List (List UInt8))} {k : Nat} (h : (k : Int) ∈ L) : kept L css (k + 1) = kept L css k := by
  unfold kept
  rw [List.range_succ, List.filter_append, List.filter_cons_of_neg (by simpa using h), List.filter_nil, List.append_nil]
theorem kept_out {L : List Int} {css : List (List (List UInt8))} {k : Nat} (h : (k : Int) ∉ L) : kept L css (k + 1) = kept L css k ++ [css[k]?.getD []] := by
  unfold kept
  rw [List.range_succ, List.filter_append, List.filter_cons_of_pos (by simpa using h), List.filter_nil, List.map_append]
  rfl
theorem kept_len (L : List Int) (css : List (List (List UInt8))) (k : Nat) : (kept L css k).length ≤ k := by
  unfold kept
  rw [List.length_map]
  refine Nat.le_trans (List.length_filter_le _ _) ?_
  simp
theorem kept_mem {L : List Int} {css : List (List (List UInt8))} {k : Nat} {c : List (List UInt8)} : c ∈ kept L css k ↔ ∃ i, i < k ∧ (i : Int) ∉ L ∧ c = css[i]?.getD [] := by
  unfold kept
  simp only [List.mem_map, List.mem_filter, List.mem_range, decide_eq_true_eq]
  constructor
  · rintro ⟨i, ⟨h1, h2⟩, rfl⟩; exact ⟨i, h1, h2, rfl⟩
  · rintro ⟨i, h1, h2, rfl⟩; exact ⟨i, ⟨h1, h2⟩, rfl⟩
theorem kept_pos {L : List Int} {css : List (List (List UInt8))} {k i : Nat} (hi : i < k) (h : (i : Int) ∉ L) : 0 < (kept L css k).length := List.length_pos_of_mem (kept_mem.2 ⟨i, hi, h, rfl⟩)
/-- All columns, with noughts in the place of those that are lost. -/
def lostC (L : List Int) (Q n : Nat) (css : List (List (List UInt8))) : List (List (List UInt8)) := (List.range css.length).map fun i : Nat => if (i : Int) ∈ L then noC Q n else css[i]?.getD []
theorem lostC_len (L : List Int) (Q n : Nat) (css : List (List (List UInt8))) : (lostC L Q n css).length = css.length := by unfold lostC; simp
theorem lostC_at (L : List Int) (Q n : Nat) (css : List (List (List UInt8))) {i : Nat} (hi : i < css.length) : (lostC L Q n css)[i]?.getD [] = if (i : Int) ∈ L then noC Q n else css[i]?.getD [] := by
  unfold lostC
  rw [List.getElem?_map, List.getElem?_range hi]
  rfl
/-- A row of columns of the call's own, as a block. -/
theorem rowC_blk {B base : Nat} {W : World} {v : Value} {css : List (List (List UInt8))} (h : RowC (· < B) W base v css) (h0 : 0 < css.length) :
    ∃ g cap cur, v = .slice (some ⟨g, 0, none⟩) css.length cap ∧ css.length ≤ cap ∧ base ≤ g ∧ Blk W g 37 cur ∧ css.length ≤ cur.size ∧ ∀ j, j < css.length → ∃ u, cur[j]? = some u ∧ Many B W u (css[j]?.getD []) := by
  obtain ⟨us, ho, hn, hr⟩ := h
  rcases ho.2 with ⟨_, h1⟩ | ⟨g, cap, cur, e, hb, hg, hc, _, hs, ht⟩
  · omega
  · rw [hn] at e hc
    refine ⟨g, cap, cur, e, hc, hb, hg, by omega, fun j hj => ?_⟩
    have hj2 : j < us.length := by omega
    have e2 : cur[j]? = us[j]? := by
      rw [← ht, List.getElem?_take, if_pos (by omega), Array.getElem?_toList]
    refine ⟨us[j], by rw [e2, List.getElem?_eq_getElem hj2], ?_⟩
    exact manyR.imp (hr j us[j] (List.getElem?_eq_getElem hj2)) fun b hb => hb.2.2
/-- Values put at the places of a list. -/
def putAt (L : List Int) (nv : Value) (cur : Array Value) : Array Value := L.foldl (fun c x => c.setIfInBounds x.toNat nv) cur
theorem putAt_size (nv : Value) : ∀ (L : List Int) (cur : Array Value), (putAt L nv cur).size = cur.size
  | [], cur => rfl
  | x :: L, cur => by
    show (putAt L nv (cur.setIfInBounds x.toNat nv)).size = _
    rw [putAt_size nv L, Array.size_setIfInBounds]
theorem putAt_snoc (L : List Int) (x : Int) (nv : Value) (cur : Array Value) : putAt (L ++ [x]) nv cur = (putAt L nv cur).setIfInBounds x.toNat nv := by
  unfold putAt
  rw [List.foldl_append]
  rfl
theorem putAt_out (nv : Value) {j : Nat} : ∀ (L : List Int) (cur : Array Value), (∀ x ∈ L, 0 ≤ x) → (j : Int) ∉ L → (putAt L nv cur)[j]? = cur[j]?
  | [], cur, _, _ => rfl
  | x :: L, cur, h, hj => by
    show (putAt L nv (cur.setIfInBounds x.toNat nv))[j]? = _
    rw [putAt_out nv L _ (fun y hy => h y (.tail _ hy)) (fun hm => hj (.tail _ hm)), Array.getElem?_setIfInBounds_ne]
    intro e
    have := h x (.head _)
    exact hj (by rw [show (j : Int) = x by omega]; exact .head _)
theorem putAt_in (nv : Value) {j : Nat} : ∀ (L : List Int) (cur : Array Value), j < cur.size → (j : Int) ∈ L → (∀ x ∈ L, 0 ≤ x) → (putAt L nv cur)[j]? = some nv
  | [], cur, _, h, _ => by cases h
  | x :: L, cur, hc, hj, h => by
    show (putAt L nv (cur.setIfInBounds x.toNat nv))[j]? = _
    by_cases hm : (j : Int) ∈ L
    · exact putAt_in nv L _ (by rw [Array.size_setIfInBounds]; exact hc) hm (fun y hy => h y (.tail _ hy))
    · rw [putAt_out nv L _ (fun y hy => h y (.tail _ hy)) hm]
      have e : x = (j : Int) := by
        rcases List.mem_cons.1 hj with e | e
        · exact e.symm
        · exact absurd e hm
      subst e
      rw [Int.toNat_natCast, Array.getElem?_setIfInBounds_self_of_lt hc]
theorem own_ints {W : World} {base : Nat} {v : Value} {L : List Int} (h : OwnN W base v (L.map (Value.int .i64))) (h0 : 0 < L.length) :
    ∃ g cap, v = .slice (some ⟨g, 0, none⟩) L.length cap ∧ base ≤ g ∧ g < W.heap.size ∧ ∀ j, j < L.length → W.cell? ⟨g, j, none⟩ = some (.int .i64 (L[j]?.getD 0)) := by
  have hl : (L.map (Value.int .i64)).length = L.length := List.length_map _
  unfold OwnN at h
  rw [hl] at h
  obtain ⟨g, cap, e, hg, hg1⟩ := World.ownsRow.form h h0
  refine ⟨g, cap, e, hg, hg1, fun j hj => ?_⟩
  subst e
  rw [World.ownsRow.cellAt h j (by omega), List.getElem?_map, List.getElem?_eq_getElem hj]
  rfl
theorem no_manyP {P : Nat → Prop} {W : World} {g Q n : Nat} {nv : Value} (hb : Blk W g 57 (List.replicate Q nv).toArray) (hg : P g) (hn : BytesP P W nv (List.replicate n 0)) : manyR.R P W (.slice (some ⟨g, 0, none⟩) Q Q) (noC Q n) := by
  have hl : (noC Q n).length = Q := by unfold noC; simp
  refine ⟨some ⟨g, 0, none⟩, Q, by rw [hl], by rw [hl]; exact Nat.le_refl _, fun _ => ⟨g, 0, rfl, hg, fun j hj => ?_⟩⟩
  rw [hl] at hj
  refine ⟨nv, ?_, ?_⟩
  · rw [Nat.zero_add, hb.cell j, List.getElem?_toArray, List.getElem?_replicate, if_pos hj]
  · unfold noC
    rw [List.getElem?_replicate, if_pos hj]
    exact hn
theorem q_mem {P Q : Nat} (hQ : P = Q + 1) (hp : (P : Int) ∈ prm) : Q ∈ [2, 4, 6, 10, 12, 16] := by
  have h : ∀ p ∈ prm, (p - 1).toNat ∈ [2, 4, 6, 10, 12, 16] := by decide
  have := h _ hp
  rwa [show ((P : Int) - 1).toNat = Q by omega] at this
set_option maxRecDepth 100000 in
set_option maxHeartbeats 8000000 in
theorem of_yes {B : Nat} (p : Int) (ls os : List Int) (hls : 1 ≤ ls.length ∧ ls.length ≤ 2) (hos : os.length ≤ 1) (g : Nat) (css : List (List (List UInt8))) (hN0 : 0 < css.length) (hNl : css.length ≤ 100) (v ov : Value) (w : World) (hL : Laid w) (hB : B ≤ w.heap.size) (hg : g < w.heap.size) (hcell : ∀ j, j < ls.length → w.cell? ⟨g, j, none⟩ = some (.int .i64 (ls[j]?.getD 0))) (hov : Vals w.heap.size w ov (os.map (Value.int .i64))) (hC : Cols B w v css) (P Q n : Nat) (d : Rg.Dims P Q n) (hpP : p = (P : Int)) (hrange : ∀ x ∈ ls ++ os, 0 ≤ x ∧ x < (css.length : Int)) (hk0 : 0 < (kept (ls ++ os) css css.length).length) (hgood : ∀ i, i < css.length → (i : Int) ∉ ls ++ os → GoodC Q n (css[i]?.getD [])) :
    Calls Tryz.prog 46 #[.agg #[.int .i64 p, .slice (some ⟨g, 0, none⟩) ls.length ls.length], v, ov] w fun e w' => ∃ cA cc nA nc, e = .returned (.agg #[.int .i64 p, .slice (some ⟨g, 0, none⟩) ls.length ls.length, .slice cA css.length cc, .slice nA n nc]) ∧ Cols w'.heap.size w' (.slice cA css.length cc) (lostC (ls ++ os) Q n css) ∧ Bytes w'.heap.size w' (.slice nA n nc) (List.replicate n 0) ∧ Below w.heap.size w w' := by
  have hQm := q_mem d.hQ d.hp
  have hgk : ∀ j, j < (kept (ls ++ os) css css.length).length → GoodC Q n ((kept (ls ++ os) css css.length)[j]?.getD []) := fun j hj => by
    obtain ⟨i, hi, hm, e⟩ := kept_mem.1 (List.getElem_mem hj)
    rw [List.getElem?_eq_getElem hj]
    show GoodC Q n (kept (ls ++ os) css css.length)[j]
    rw [e]
    exact hgood i hi hm
  have hRD := (Rg.right_of_good d.hQ d.hp hk0 hgk).1
  have hpb := prm_bounds d.hp
  have hQP := d.hQ
  have hL1 : 1 ≤ (ls ++ os).length ∧ (ls ++ os).length ≤ 3 := by rw [List.length_append]; omega
  obtain ⟨L, hLd⟩ : ∃ L, ls ++ os = L := ⟨_, rfl⟩
  obtain ⟨gl, go, cap, rfl, hcapN, hgl, hrow⟩ := hC.at_ hN0
  obtain ⟨w0, hw0⟩ : ∃ x, (w.alloc (.cells #[.int .i64 p, .slice (some ⟨g, 0, none⟩) ls.length ls.length] 70)).alloc (.cells #[.int .i64 0, .slice none 0 0, .slice none 0 0, .slice none 0 0] 72) = x := ⟨_, rfl⟩
  obtain ⟨g0, hg0⟩ : ∃ x, w.heap.size = x := ⟨_, rfl⟩
  obtain ⟨g1, hg1⟩ : ∃ x, g0 + 1 = x := ⟨_, rfl⟩
  have b0 : Blk w0 g0 70 #[.int .i64 p, .slice (some ⟨g, 0, none⟩) ls.length ls.length] := by rw [← hw0, ← hg0]; exact (Blk.new w _ _).alloc _
  have b1 : Blk w0 g1 72 #[.int .i64 0, .slice none 0 0, .slice none 0 0, .slice none 0 0] := by rw [← hw0, ← hg1, ← hg0]; exact Blk.second w _ _ _
  have hB0 : Below w.heap.size w w0 := by rw [← hw0]; exact below_two w _ _
  have s0 : w0.heap.size = w.heap.size + 2 := by rw [← hw0]; simp
  have k0 := b0.cell 0
  have k1 := b0.cell 1
  simp only [List.getElem?_toArray, List.getElem?_cons_zero, List.getElem?_cons_succ] at k0 k1
  obtain ⟨oA, oc, rfl⟩ : ∃ oA oc, ov = .slice oA os.length oc := by
    obtain ⟨A, c, e⟩ := hov.len
    exact ⟨A, c, by rw [e, List.length_map]⟩
  -- the two lists of numbers
  have HLST := Lib.hid (fun (V : World) (gb : Nat) (hV : Below w.heap.size w V) (hb : Blk V gb 31 #[.slice (some ⟨g, 0, none⟩) ls.length ls.length, .slice oA os.length oc]) => (by
    have h := concatN_any (B := w.heap.size) gb 0 2 [ls.map (Value.int .i64), os.map (Value.int .i64)] (by simp) (by simp; omega) (by intro us hus u hu; simp only [List.mem_cons, List.not_mem_nil, or_false] at hus; rcases hus with rfl | rfl <;> (obtain ⟨_, _, rfl⟩ := List.mem_map.1 hu; rfl)) V hV.size hb.lt (fun j hj => by
      have hj2 : j = 0 ∨ j = 1 := by simp at hj; omega
      rcases hj2 with rfl | rfl
      · refine ⟨_, hb.cell 0, .inr ⟨g, 0, ls.length, by simp, by simp, hg, fun j u hu => ?_⟩⟩
        show V.cell? ⟨g, 0 + j, none⟩ = some u
        have hu2 : (ls.map (Value.int .i64))[j]? = some u := hu
        rw [List.getElem?_map] at hu2
        have hj : j < ls.length := by
          rcases Nat.lt_or_ge j ls.length with h | h
          · exact h
          · rw [List.getElem?_eq_none h] at hu2; cases hu2
        rw [List.getElem?_eq_getElem hj] at hu2
        injection hu2 with hu2
        rw [Nat.zero_add, (hV.cell (p := ⟨g, j, none⟩) hg).trans (hcell j hj), List.getElem?_eq_getElem hj, ← hu2]
        rfl
      · exact ⟨_, hb.cell 1, hov.below hV⟩)
    have e : ([ls.map (Value.int .i64), os.map (Value.int .i64)] : List (List Value)).flatten = L.map (Value.int .i64) := by rw [← hLd, List.map_append]; simp
    rw [e] at h
    exact h : Calls Tryz.prog 94 #[.slice (some ⟨gb, 0, none⟩) 2 2] V fun e w' => ∃ v', e = .returned v' ∧ OwnN w' V.heap.size v' (L.map (Value.int .i64)) ∧ Below V.heap.size V w'))
  rw [hLd] at hL1
  have HCNT := Lib.hid (fun (gN c : Nat) (x : Int) (V : World) (h : ∀ j, j < L.length → V.cell? ⟨gN, j, none⟩ = some (.int .i64 (L[j]?.getD 0))) => contains_any gN 0 c L x (by omega) V (fun j hj => by rw [Nat.zero_add]; exact h j hj))
  obtain ⟨g2, hg2⟩ : ∃ x, w0.heap.size = x := ⟨_, rfl⟩
  have S0 := Lib.hid s0
  clear s0
  have HROW := Lib.hid hrow
  have HCOLS := Lib.hid hC
  have H0 := Lib.hid (And.intro hg0 hg1)
  have hrg : ∀ k, k < L.length → ∃ x : Nat, L[k]?.getD 0 = (x : Int) ∧ x < css.length := fun k hk => by
    rw [hLd] at hrange
    have := hrange L[k] (List.getElem_mem hk)
    exact ⟨L[k].toNat, by rw [List.getElem?_eq_getElem hk]; show L[k] = _; omega, by omega⟩
  have hL0 : ∀ x ∈ L, 0 ≤ x := fun x hx => by rw [← hLd] at hx; exact (hrange x hx).1
  rw [hLd] at hk0 hgk hRD ⊢
  have HRI := Lib.hid (fun (V : World) (kv : Value) (hV : Below w.heap.size w V) (hk : Cols V.heap.size V kv (kept L css css.length)) => right_yes (B := V.heap.size) p kv _ V (hL.next hV) (Nat.le_refl _) hk (Nat.le_trans (kept_len _ _ _) (by omega)) (by rw [hpP]; exact hRD))
  have HZ := Lib.hid (fun (V : World) => zero_yes n d.h1 d.h64 V)
  have HLA := Lib.hid (fun (V : World) => last_any P Q d.hQ (by omega) V)
  have HRE := Lib.hid (fun (g : Nat) (nv : Value) (h1 : nv.oneCell' = true) (V : World) (hc : V.cell? ⟨g, 0, none⟩ = some nv) (hg : g < V.heap.size) => repeat_any g nv h1 Q hQm V hc hg)
  have HCL := Lib.hid (fun (V : World) (hV : Below w.heap.size w V) => cloneC_any (B := B) (.slice (some ⟨gl, go, none⟩) css.length cap) css V (Nat.le_trans hB hV.size) (hC.below (hV.mono hB)) hN0 (by omega))
  have HGK := Lib.hid (And.intro hk0 hgk)
  have HRG := Lib.hid hrg
  have HL0 := Lib.hid hL0
  have HGC := Lib.hid hC
  have h1n := d.h1
  have hPP : (P : Int) = p := hpP.symm
  rw [hPP] at HLA
  clear hrange hk0 hgk hRD hgood hrg hL0 hQm hpP hPP d
  go_enter Tryz.func46, Tryz.ntmps46
  have bE : Blk (w0.alloc (.cells #[.slice (some ⟨g, 0, none⟩) ls.length ls.length, .slice oA os.length oc] 31)) g2 31 #[.slice (some ⟨g, 0, none⟩) ls.length ls.length, .slice oA os.length oc] := by rw [← hg2]; exact Blk.new w0 _ _
  go_wp2_with (go_at_call 94; (try rw [hg2]); (try rw [hw0]); refine (HLST.out _ g2 (below_in hB0 (below_one w0 _)) bE).mono ?_; rintro e w1 ⟨lv, rfl, hlv, hB1⟩; obtain ⟨gN, cN, rfl, hgN1, hgN2, hgNc⟩ := own_ints hlv (by omega); replace hB1 := below_in (below_one w0 _) hB1)
  have HN := Lib.hid hgNc
  have B1 := b0.below hB1 b0.lt
  have B2 := b1.below hB1 b1.lt
  have hBw1 := below_in hB0 hB1
  have HK := Lib.hid (And.intro B1 B2)
  have hs1 := hBw1.size
  have hs2 := hB1.size
  have hgg : g1 < w1.heap.size := B2.lt
  clear k0 k1 hlv hgNc B1 B2 b0 b1 hw0 hLd hov hcell hrow hC
  obtain ⟨N, hN⟩ : ∃ N, css.length = N := ⟨_, rfl⟩
  rw [hN] at hN0 hNl hcapN HROW HGK HRG HCL HRI ⊢
  have HNN := Lib.hid hN
  clear hN
  obtain ⟨M, hM⟩ : ∃ M, L.length = M := ⟨_, rfl⟩
  rw [hM] at hL1 HCNT HN HRG ⊢
  have HMM := Lib.hid hM
  clear hM
  go_loopw [8, 23] (fun v i wr => ∃ k : Nat, k ≤ N ∧ i = .int .i64 k ∧ RowC (· < B) wr w1.heap.size v (kept L css k) ∧ Below w1.heap.size w1 wr) (fun _ i _ => N - (intOf i).toNat)
  case atStart => exact ⟨0, Nat.zero_le _, rfl, RowG.nil _ _ _ _ _ _, Below.refl _ _⟩
  case round =>
    obtain ⟨k, hk, rfl, hrw, hBr⟩ := hrel
    by_cases hlt : k < N
    · have hdec : decide ((k : Int) < (N : Int)) = true := by simp; omega
      obtain ⟨u1, hc1, hm1⟩ := HROW.out k hlt
      obtain ⟨A4, cap4, rfl, _, _⟩ := id hm1
      have hc2 := ((below_in hBw1 hBr).cell (p := ⟨gl, go + k, none⟩) (Nat.lt_of_lt_of_le hgl hB)).trans hc1
      have hm2 : Many B wr _ _ := hm1.below ((below_in hBw1 hBr).mono hB)
      have HCN := Lib.hid (HCNT.out gN cN (k : Int) wr (fun j hj => (hBr.cell (p := ⟨gN, j, none⟩) hgN2).trans (HN.out j hj)))
      have i1 : (0 : Int) ≤ (k : Int) := by omega
      have i2 : (k : Int) < (N : Int) := by omega
      have hszr := hBr.size
      by_cases hmem : (k : Int) ∈ L
      · have hnx := kept_in (css := css) hmem
        rw [decide_eq_true hmem] at HCN
        have HNX := Lib.hid (And.intro hnx hrw)
        clear hc1 hm1 hm2 hnx hmem hrw
        generalize (css[k]?.getD []).length = n7 at *
        go_wp2_with (go_at_call 95; refine HCN.out.mono ?_; rintro e w2 ⟨rfl, rfl⟩)
        go_roundw
        case rel => exact ⟨k + 1, by omega, by go_num, by rw [HNX.out.1]; exact HNX.out.2, hBr⟩
        case measure => simp [intOf]; omega
      · have hnx := kept_out (css := css) hmem
        rw [decide_eq_false hmem] at HCN
        have HVLE := Lib.hid (fun b e => RowG.own_le hrw b e)
        have hpl : (kept L css k).length ≤ 100 := by have := kept_len L css k; omega
        clear hc1 hm1
        generalize css[k]?.getD [] = xs at *
        generalize kept L css k = pre at *
        have HNX := Lib.hid hnx
        clear hnx hmem
        generalize xs.length = n7 at *
        have hcells : Below wr.heap.size wr (wr.alloc (.cells #[.slice A4 n7 cap4] 37)) := below_one wr _
        have HROWC := Lib.hid (RowG.below hrw hcells)
        have HBLK := Lib.hid (Blk.new wr 37 #[.slice A4 n7 cap4])
        have HCP : Hid (manyR.R (fun b => b < (wr.alloc (.cells #[.slice A4 n7 cap4] 37)).heap.size ∧ some b ≠ u8.ownBlock ∧ b < B) (wr.alloc (.cells #[.slice A4 n7 cap4] 37)) (.slice A4 n7 cap4) xs) :=
          SliceP.imp (hm2.below (hcells.mono (by omega))) fun b hb => ⟨by have hb' : b < B := hb; simp; omega, fun e => by have := HVLE.out b e.symm; have hb' : b < B := hb; omega, hb⟩
        clear hrw hm2
        go_wp2_with (first
          | (go_at_call 95; refine HCN.out.mono ?_; rintro e w2 ⟨rfl, rfl⟩)
          | (at_builtin; refine wpList_pushC (T := 22) _ rfl _ _ rfl Tryz.underlying22 pre rfl HROWC.out w2.heap.size 37 _ xs rfl HBLK.out HCP.out (by omega) (by simp; omega) ?_; intro v' w3 hrow4 hgrow hown))
        go_roundw
        case rel => exact ⟨k + 1, by omega, by go_num, by rw [HNX.out]; exact hrow4, below_grown (below_in hBr hcells) hgrow (by simp; omega) (fun g e => by have := HVLE.out g e; omega)⟩
        case measure => simp [intOf]; omega
    · obtain rfl : k = N := by omega
      have e1 : decide ((k : Int) < (k : Int)) = false := by simp
      have hcc := RowC.cols hrw
      obtain ⟨gk, gko, kc, hkv, _, hgkl, hkrow⟩ := hcc.at_ HGK.out.1
      subst hkv
      obtain ⟨u0, hu0, hm0⟩ := hkrow 0 HGK.out.1
      have hg0 := HGK.out.2 0 HGK.out.1
      obtain ⟨A0, cm, rfl, _, _⟩ := id hm0
      obtain ⟨gm, gmo, rfl, hgm, hmrow⟩ := many_at hm0 (by rw [hg0.1]; omega)
      obtain ⟨Aa, ca, hc2, _⟩ := hmrow 0 (by rw [hg0.1]; omega)
      rw [hg0.1, Nat.add_zero] at hu0
      rw [(hg0.2 0 (by omega)).2, Nat.add_zero] at hc2
      have HC2 := Lib.hid hcc
      have hBq := below_in hBw1 hBr
      have hK0 := (HK.out.1.below hBr HK.out.1.lt).cell 0
      simp only [List.getElem?_toArray, List.getElem?_cons_zero, List.getElem?_cons_succ] at hK0
      have hKl : 0 < (kept L css k).length := HGK.out.1
      clear hm0 hmrow hkrow hg0
      generalize (kept L css k).length = K at *
      have iK : (0 : Int) < (K : Int) := by omega
      have iQ : (0 : Int) < (Q : Int) := by omega
      clear hcc hrw HGK HROW
      go_wp2_with fail
      refine (HRI.out _ _ hBq HC2.out).mono ?_
      rintro e w5 ⟨rfl, hB5⟩
      replace hu0 := (hB5.cell (p := ⟨gk, gko, none⟩) hgkl).trans hu0
      replace hc2 := (hB5.cell (p := ⟨gm, gmo, none⟩) hgm).trans hc2
      replace hK0 := (hB5.cell (p := ⟨g0, 0, none⟩) (Nat.lt_of_lt_of_le (show g0 < w1.heap.size by omega) hBr.size)).trans hK0
      replace hBr := below_in hBr hB5
      have hz5 := hBr.size
      replace hBq := below_in hBw1 hBr
      go_wp2_with fail
      refine (need_yes _ _).mono ?_
      rintro e w6 ⟨rfl, rfl⟩
      go_wp2_with fail
      refine (HZ.out _).mono ?_
      rintro e w7 ⟨nv, rfl, hF, hB7⟩
      obtain ⟨nA, nc, hnv, _⟩ := id hF
      rw [List.length_replicate] at hnv
      subst hnv
      go_wp2_with fail
      refine (sureB _ _).mono ?_
      rintro e w8 ⟨rfl, rfl⟩
      replace hBr := below_in hBr hB7
      replace hBq := below_in hBw1 hBr
      have hK0 := (HK.out.1.below hBr HK.out.1.lt).cell 0
      simp only [List.getElem?_toArray, List.getElem?_cons_zero, List.getElem?_cons_succ] at hK0
      obtain ⟨w9, hw9⟩ : ∃ x, w7.alloc (.cells #[.slice nA n nc] 57) = x := ⟨_, rfl⟩
      obtain ⟨g3, hg3⟩ : ∃ x, w7.heap.size = x := ⟨_, rfl⟩
      have b3 : Blk w9 g3 57 #[.slice nA n nc] := by rw [← hw9, ← hg3]; exact Blk.new w7 _ _
      have hB9 : Below w7.heap.size w7 w9 := by rw [← hw9]; exact below_one w7 _
      have hK9 := (hB9.cell (p := ⟨g0, 0, none⟩) (Nat.lt_of_lt_of_le (show g0 < w1.heap.size by omega) hBr.size)).trans hK0
      clear hu0 hc2
      go_wp2_with fail
      refine (HLA.out _).mono ?_
      rintro e w10 ⟨rfl, hw10⟩
      subst hw10
      go_wp2_with fail
      refine (HRE.out g3 (.slice nA n nc) rfl w10 b3.one b3.lt).mono ?_
      rintro e w11 ⟨gR, rfl, hgR, bR, hB11⟩
      have hBq11 : Below w.heap.size w w11 := below_in (below_in hBq hB9) hB11
      go_wp2_with fail
      refine (HCL.out _ hBq11).mono ?_
      rintro e w12 ⟨cv, rfl, hcv, hB12⟩
      obtain ⟨gC, cc, cur, hcve, hcc1, hgC, bC, hcs, hcu⟩ := rowC_blk hcv (by rw [HNN.out]; omega)
      rw [HNN.out] at hcve hcc1 hcs hcu
      subst hcve
      have hgRl := bR.lt
      have bR12 := bR.below hB12 bR.lt
      have hB7z : Below w7.heap.size w7 w12 := below_in (below_in hB9 hB11) hB12
      have hB1z : Below w1.heap.size w1 w12 := below_in hBr hB7z
      have hz7 := hB7z.size
      have hz11 := hB12.size
      have hz10 := hB11.size
      have hz9 := hB9.size
      have hzr := hBr.size
      have hNV : (Value.slice (some ⟨gR, 0, none⟩) Q Q).oneCell' = true := rfl
      obtain ⟨NV, hNVe⟩ : ∃ x, (Value.slice (some ⟨gR, 0, none⟩) Q Q) = x := ⟨_, rfl⟩
      have HW := Lib.hid (And.intro hcu (And.intro bR12 (And.intro hF (And.intro hcc1 hNVe))))
      clear hcv hcu bR12 hF hw9 b3 hK9 hK0 hNVe bR
      go_wp2_with fail
      go_loopw [62] (fun i wr => ∃ m : Nat, m ≤ M ∧ i = .int .i64 m ∧ Blk wr gC 37 (putAt (L.take m) (.slice (some ⟨gR, 0, none⟩) Q Q) cur) ∧ Below gC w12 wr) (fun i _ => M - (intOf i).toNat)
      case atStart => exact ⟨0, Nat.zero_le _, rfl, bC, Below.refl _ _⟩
      case round =>
        obtain ⟨m, hm, rfl, bC2, hBz⟩ := hrel
        by_cases hlt2 : m < M
        · have hdec : decide ((m : Int) < (M : Int)) = true := by simp; omega
          obtain ⟨x, hx, hxN⟩ := HRG.out m hlt2
          have hcn := (hBz.cell (p := ⟨gN, m, none⟩) (show gN < gC by omega)).trans ((hB1z.cell (p := ⟨gN, m, none⟩) hgN2).trans (HN.out m hlt2))
          rw [hx] at hcn
          have hts : Hid (L.take (m + 1) = L.take m ++ [(x : Int)]) := by
            unfold Hid
            have hl := HMM.out
            rw [List.take_succ_eq_append_getElem (by omega)]
            congr 2
            rw [List.getElem?_eq_getElem (by omega)] at hx
            exact hx
          obtain ⟨old, hold⟩ : ∃ old, wr.cell? ⟨gC, x, none⟩ = some old := ⟨_, by rw [bC2.cell x, Array.getElem?_eq_getElem (by rw [putAt_size]; omega)]⟩
          have hfz := bC2.frozen x
          have i1 : (0 : Int) ≤ (m : Int) := by omega
          have i2 : (m : Int) < (M : Int) := by omega
          have j1 : (0 : Int) ≤ (x : Int) := by omega
          have j2 : (x : Int) < (k : Int) := by omega
          have HB2 := Lib.hid bC2
          clear hx bC2
          go_wp2_with fail
          go_roundw
          case rel => exact ⟨m + 1, by omega, by go_num, by rw [hts.out, putAt_snoc, Int.toNat_natCast]; exact HB2.out.set_ x _, hBz.setCell (Nat.le_refl _) _⟩
          case measure => simp [intOf]; omega
        · obtain rfl : m = M := by omega
          have hdec : decide ((m : Int) < (m : Int)) = false := by simp
          rw [show L.take m = L from List.take_of_length_le (by rw [HMM.out]; exact Nat.le_refl _)] at bC2
          have hw1c : w1.heap.size ≤ gC := by omega
          have hBzw : Below w.heap.size w wr := (below_in hBq11 hB12).trans (hBz.mono (by omega))
          have hB1y : Below w1.heap.size w1 wr := hB1z.trans (hBz.mono hw1c)
          have hB7y : Below w7.heap.size w7 wr := hB7z.trans (hBz.mono (by omega))
          have hlC := bC2.lt
          have y0 := HK.out.1.below hB1y HK.out.1.lt
          have y1 := HK.out.2.below hB1y HK.out.2.lt
          have hK0 := y0.cell 0
          have hK1 := y0.cell 1
          have c0 := y1.cell 0
          have c1 := y1.cell 1
          have c2 := y1.cell 2
          have c3 := y1.cell 3
          have f0 := y1.frozen 0
          have f1 := y1.frozen 1
          have f2 := y1.frozen 2
          have f3 := y1.frozen 3
          simp only [List.getElem?_toArray, List.getElem?_cons_zero, List.getElem?_cons_succ] at hK0 hK1 c0 c1 c2 c3
          have hF1 : BytesP (fun b => b ≠ g1 ∧ b < wr.heap.size) wr (.slice nA n nc) (List.replicate n 0) :=
            bytesR.imp (Rep.below bytesR (Fresh.toP2 (B := 0) HW.out.2.2.1) (fun b hp => hp.2) hB7y) fun b hp => ⟨by have := hp.1; omega, by have := hp.2; omega⟩
          have hcolsP : colsR.R (fun b => b ≠ g1 ∧ b < wr.heap.size) wr (.slice (some ⟨gC, 0, none⟩) k cc) (lostC L Q n css) := by
            have hll : (lostC L Q n css).length = k := by rw [lostC_len]; exact HNN.out
            refine ⟨some ⟨gC, 0, none⟩, cc, by rw [hll], by rw [hll]; exact HW.out.2.2.2.1, fun _ => ⟨gC, 0, rfl, ⟨by omega, hlC⟩, fun j hj => ?_⟩⟩
            rw [hll] at hj
            rw [lostC_at L Q n css (by rw [HNN.out]; exact hj)]
            by_cases hm : (j : Int) ∈ L
            · rw [if_pos hm]
              refine ⟨.slice (some ⟨gR, 0, none⟩) Q Q, ?_, no_manyP (HW.out.2.1.below (B := gC) hBz (by omega)) ⟨by omega, by omega⟩ hF1⟩
              rw [Nat.zero_add, bC2.cell j]
              exact putAt_in _ L cur (by omega) hm HL0.out
            · rw [if_neg hm]
              obtain ⟨u, hu1, hu2⟩ := HW.out.1 j hj
              refine ⟨u, ?_, ?_⟩
              · rw [Nat.zero_add, bC2.cell j, putAt_out _ L cur HL0.out hm]
                exact hu1
              · exact manyR.imp (show manyR.R (· < B) wr u _ from hu2.below (hBz.mono (by omega))) fun b hb => ⟨by have hb' : b < B := hb; omega, by have hb' : b < B := hb; omega⟩
          obtain ⟨wf, hwf⟩ : ∃ x, (((wr.setCell ⟨g1, 0, none⟩ (.int .i64 p)).setCell ⟨g1, 1, none⟩ (.slice (some ⟨g, 0, none⟩) ls.length ls.length)).setCell ⟨g1, 2, none⟩ (.slice (some ⟨gC, 0, none⟩) k cc)).setCell ⟨g1, 3, none⟩ (.slice nA n nc) = x := ⟨_, rfl⟩
          have bf := (((y1.set_ 0 (.int .i64 p)).set_ 1 (.slice (some ⟨g, 0, none⟩) ls.length ls.length)).set_ 2 (.slice (some ⟨gC, 0, none⟩) k cc)).set_ 3 (.slice nA n nc)
          rw [hwf] at bf
          have hBf : Below w.heap.size w wf := by rw [← hwf]; exact (((hBzw.setCell (by show w.heap.size ≤ g1; omega) _).setCell (by show w.heap.size ≤ g1; omega) _).setCell (by show w.heap.size ≤ g1; omega) _).setCell (by show w.heap.size ≤ g1; omega) _
          have hsf : wf.heap.size = wr.heap.size := by rw [← hwf]; simp
          have hkf : Keeps (fun b => b ≠ g1 ∧ b < wr.heap.size) wr wf := fun b hb => by
            rw [← hwf]
            have hb1 : b ≠ g1 := hb.1
            exact (Below.heap_setCell _ ⟨g1, 3, none⟩ _ b hb1).trans ((Below.heap_setCell _ ⟨g1, 2, none⟩ _ b hb1).trans ((Below.heap_setCell _ ⟨g1, 1, none⟩ _ b hb1).trans (Below.heap_setCell _ ⟨g1, 0, none⟩ _ b hb1)))
          have HFIN := Lib.hid (And.intro (colsR.imp (colsR.keep hcolsP hkf) fun b hb => (show b < wf.heap.size by have := hb.2; omega)) (And.intro (bytesR.imp (bytesR.keep hF1 hkf) fun b hb => (show b < wf.heap.size by have := hb.2; omega)) hBf))
          have r0 := bf.cell 0
          have r1 := bf.cell 1
          have r2 := bf.cell 2
          have r3 := bf.cell 3
          simp only [List.setIfInBounds_toArray, List.set_cons_zero, List.set_cons_succ, List.getElem?_toArray, List.getElem?_cons_zero, List.getElem?_cons_succ] at r0 r1 r2 r3
          clear hcolsP hF1 bC2 hBz hBzw hB1y hB7y y0 y1 hkf hBf bf
          go_wp2_with fail
          (try rw [hwf])
          obtain rfl := HNN.out
          exact bodyPost_ret (v := .agg #[.int .i64 p, .slice (some ⟨g, 0, none⟩) ls.length ls.length, .slice (some ⟨gC, 0, none⟩) css.length cc, .slice nA n nc]) (by simp [results, Tryz.results46, go_sem, r0, r1, r2, r3]) rfl ⟨_, _, _, _, rfl, HFIN.out.1, HFIN.out.2.1, HFIN.out.2.2⟩
end Go.Proofs.YtfihlelhpmjpaaaGreatDoor.Ch

