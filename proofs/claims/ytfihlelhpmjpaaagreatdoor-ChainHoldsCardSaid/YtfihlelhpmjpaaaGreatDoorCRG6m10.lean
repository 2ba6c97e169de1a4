/- ring: what is made row by row. ring: turned, stretched. ring: Turn, Stretch. -/
import Derived.Deep.WholeRow
import Derived.Great.BuildSlice
import Derived.Laws.EntriesVeiled
import Derived.Test.YtfihlelhpmjpaaaGreatDoorCRG5m10
import Derived.Test.YtfihlelhpmjpaaaGreatDoorCRG6
namespace Go.Proofs.YtfihlelhpmjpaaaGreatDoor.Rg
open Go.RowKit Go.Shelf Go.Maps Go.Proofs.YtfihlelhpmjpaaaGreatDoor.C Go.Proofs.YtfihlelhpmjpaaaGreatDoor.E
set_option linter.unusedSimpArgs false
set_option linter.unusedVariables false
attribute [local go_sem] Oper.semAt_some

set_option maxRecDepth 100000 in
set_option maxHeartbeats 4000000 in
theorem rowsK_any (P Q k n : Nat) (hQ : P = Q + 1) (hP : P ≤ 17) (hk : 1 ≤ k) (hk2 : k ≤ 100) (h1 : 1 ≤ n) (h64 : n ≤ 64) (gl capl fs : Nat) (vss : Nat → List Value) (G : Nat → Nat → List UInt8) (w : World) (efs : ∀ args W, (callFunc fs args).run Tryz.prog W = .ok (.enter fs args) W)
    (hld : ∀ U, Below w.heap.size w U → ∀ i, i < k → (vss i).length = 18 ∧ (∀ v ∈ vss i, v.oneCell' = true) ∧ LoadIs Tryz.prog 189 ⟨gl, i * 18, none⟩ (.agg (vss i).toArray) U)
    (hG : ∀ i, i < k → ∀ r, r < Q → (G i r).length = n)
    (hc : ∀ U, Below w.heap.size w U → ∀ i, i < k → ∀ r, r < Q → Calls Tryz.prog fs #[.agg (vss i).toArray, .int .i64 (r : Int)] U fun e w' => ∃ u, e = .returned u ∧ BytesA (fun b => w.heap.size ≤ b ∧ b < U.heap.size) w' u (G i r) ∧ Below U.heap.size U w') :
    Calls Tryz.prog 222 #[.int .i64 (P : Int), .func (.func fs) #[] #[], .slice (some ⟨gl, 0, none⟩) k capl] w fun e w' => ∃ v, e = .returned v ∧ FreshMany w.heap.size w' v ((List.range Q).map fun r => xorOf ((List.range k).map fun i => G i r)) ∧ Below w.heap.size w w' := by
  obtain ⟨i0, hi0, hz0, hz1, hz2⟩ := info_parts Tryz.infoSlc
  have hmkQ := fun W : World => run_make (P := Tryz.prog) W 37 57 i0 (.slice none 0 0) Tryz.underlying37 hi0 hz0 .i64 .i64 (Q : Int) (Q : Int) (by omega) (by omega) (by rw [hz2]; omega) (by omega)
  have hmkK := fun W : World => run_make (P := Tryz.prog) W 36 57 i0 (.slice none 0 0) Tryz.underlying36 hi0 hz0 .i64 .i64 (k : Int) (k : Int) (by omega) (by omega) (by rw [hz2]; omega) (by omega)
  simp only [hz1, Nat.mul_one, Int.toNat_natCast, show (Value.slice none 0 0).cells = #[.slice none 0 0] from rfl] at hmkQ hmkK
  clear hz0 hz1 hz2 hi0
  have HC := Lib.hid hc
  have HG := Lib.hid hG
  have HLD := Lib.hid hld
  have hPQ : (P : Int) - 1 = (Q : Int) := by omega
  have hwQ : IntKind.i64.wrap (Q : Int) = (Q : Int) := IntWalk.i64_in _ (by omega)
  have HQ := Lib.hid hQ
  clear hc hG hld hQ
  refine (callsIn_wide (n := 9)).1 ?_
  refine callsIn_of_wp_marks Tryz.func222 rfl trivial ?_ rfl
  simp only [Tryz.ntmps222, List.size_toArray, List.length_cons, List.length_nil, Nat.reduceAdd, Nat.reduceSub, Array.replicate_succ, Array.replicate_zero, List.push_toArray, List.append_toArray, List.nil_append, List.cons_append]
  gi_wp2_with fail
  refine wpIn_mono (Q := (fun e a V => e = Exit.normal ∧ ∃ gm gt, a = ({ tmps := #[.int .i64 (P : Int), .func (.func fs) #[] #[], .slice (some ⟨gl, 0, none⟩) k capl, undef, undef, undef, .slice none 0 0, .slice (some ⟨gm, 0, none⟩) Q Q, .slice (some ⟨gt, 0, none⟩) k k, undef, undef, undef, .int .i64 (P : Int), .int .i64 (Q : Int), .slice (some ⟨gm, 0, none⟩) Q Q, .slice (some ⟨gl, 0, none⟩) k capl, .int .i64 (k : Int), .slice (some ⟨gt, 0, none⟩) k k, undef, undef, undef, undef, undef, undef, undef, undef, undef, undef, undef, undef, undef, undef, undef, undef, undef, undef, undef, undef, undef, undef, undef, undef, undef, undef, undef], defers := [] } : Act) ∧ gm ≠ gt ∧ w.heap.size ≤ gm ∧ w.heap.size ≤ gt ∧ Blk V gm 57 (madeCells #[.slice none 0 0] Q) ∧ Blk V gt 57 (madeCells #[.slice none 0 0] k) ∧ Below w.heap.size w V)) (region_HF (S := fun _ => True) (by kernel_rfl) ?_) ?_
  · clear HC HG HLD
    refine anyHF_take (i := 0) (d := 12) (v := .int .i64 (P : Int)) (by kernel_rfl) rfl (by kernel_rfl) (by kernel_rfl) (by kernel_rfl) rfl (fun _ _ _ h => by cases h.1) ⟨Or.inl ⟨by rfl, fun w hS => by go_simp⟩, fun _ => rfl⟩ trivial ?_
    simp only [List.setIfInBounds_toArray, List.set_cons_zero, List.set_cons_succ]
    refine anyHF_take (i := 1) (d := 13) (v := .int .i64 (Q : Int)) (by kernel_rfl) rfl (by kernel_rfl) (by kernel_rfl) (by kernel_rfl) rfl (fun _ _ _ h => by cases h.1) ⟨Or.inl ⟨by rfl, fun w hS => by go_simp⟩, fun _ => rfl⟩ trivial ?_
    simp only [List.setIfInBounds_toArray, List.set_cons_zero, List.set_cons_succ]
    refine anyHF_take (i := 3) (d := 15) (v := .slice (some ⟨gl, 0, none⟩) k capl) (by kernel_rfl) rfl (by kernel_rfl) (by kernel_rfl) (by kernel_rfl) rfl (fun _ _ _ h => by cases h.1) ⟨Or.inl ⟨by rfl, fun w hS => by go_simp⟩, fun _ => rfl⟩ trivial ?_
    simp only [List.setIfInBounds_toArray, List.set_cons_zero, List.set_cons_succ]
    refine anyHF_take (i := 4) (d := 16) (v := .int .i64 (k : Int)) (by kernel_rfl) rfl (by kernel_rfl) (by kernel_rfl) (by kernel_rfl) rfl (fun _ _ _ h => by cases h.1) ⟨Or.inl ⟨by rfl, fun w hS => by go_simp⟩, fun _ => rfl⟩ trivial ?_
    simp only [List.setIfInBounds_toArray, List.set_cons_zero, List.set_cons_succ]
    refine anyHF_both (i := 2) (j := 5) (by kernel_rfl) rfl rfl (by rfl) (by rfl) ?ca ?cb
    case ca =>
      gi_wp2
      try (refine ⟨trivial, ?_⟩)
      refine anyHF_both (i := 5) (j := 6) (by kernel_rfl) rfl rfl (by rfl) (by rfl) ?caa ?cab
      case caa =>
        gi_wp2
        try (refine ⟨trivial, ?_⟩)
        refine anyHF_one (i := 6) (by kernel_rfl) rfl (by kernel_rfl) (by rfl) ?_
        gi_wp2
        try (refine ⟨trivial, ?_⟩)
        refine anyHF_one (i := 7) (by kernel_rfl) rfl (by kernel_rfl) (by rfl) ?_
        gi_wp2
        try (refine ⟨trivial, ?_⟩)
        refine anyHF_done (by kernel_rfl) ?_ _
        exact ⟨rfl, _, _, rfl, by simp, by simp, by simp, (Blk.new w.drew _ _).alloc _, Blk.at_ (Blk.new (w.drew.alloc _) _ _) (by simp), (below_two w _ _).drew⟩
      case cab =>
        gi_wp2
        try (refine ⟨trivial, ?_⟩)
        refine anyHF_one (i := 5) (by kernel_rfl) rfl (by kernel_rfl) (by rfl) ?_
        gi_wp2
        try (refine ⟨trivial, ?_⟩)
        refine anyHF_one (i := 7) (by kernel_rfl) rfl (by kernel_rfl) (by rfl) ?_
        gi_wp2
        try (refine ⟨trivial, ?_⟩)
        refine anyHF_done (by kernel_rfl) ?_ _
        exact ⟨rfl, _, _, rfl, by simp, by simp, by simp, (Blk.new w.drew _ _).alloc _, Blk.at_ (Blk.new (w.drew.alloc _) _ _) (by simp), (below_two w _ _).drew⟩
    case cb =>
      gi_wp2
      try (refine ⟨trivial, ?_⟩)
      refine anyHF_one (i := 2) (by kernel_rfl) rfl (by kernel_rfl) (by rfl) ?_
      gi_wp2
      try (refine ⟨trivial, ?_⟩)
      refine anyHF_one (i := 6) (by kernel_rfl) rfl (by kernel_rfl) (by rfl) ?_
      gi_wp2
      try (refine ⟨trivial, ?_⟩)
      refine anyHF_one (i := 7) (by kernel_rfl) rfl (by kernel_rfl) (by rfl) ?_
      gi_wp2
      try (refine ⟨trivial, ?_⟩)
      refine anyHF_done (by kernel_rfl) ?_ _
      exact ⟨rfl, _, _, rfl, by simp, by simp, by simp, Blk.at_ (Blk.new (w.drew.alloc _) _ _) (by simp), (Blk.new w.drew _ _).alloc _, (below_two w _ _).drew⟩
  rintro e a V ⟨rfl, gm, gt, rfl, hmt, hgm, hgt, bM, bT, hBV⟩
  clear hmkQ hmkK hPQ hwQ
  rw [made_nils] at bM bT
  have lM : (List.replicate Q (Value.slice none 0 0)).length = Q := List.length_replicate
  have lT : (List.replicate k (Value.slice none 0 0)).length = k := List.length_replicate
  generalize List.replicate Q (Value.slice none 0 0) = ms0 at *
  generalize List.replicate k (Value.slice none 0 0) = ts0 at *
  have hVm := bM.lt
  have hVt := bT.lt
  gi_wp2_with fail
  gi_loopw [20] (fun x wr => ∃ (i : Nat) (ms ts : List Value), i ≤ Q ∧ x = .int .i64 (i : Int) ∧ Hid (Blk wr gm 57 ms.toArray ∧ ms.length = Q ∧ ToldF V.heap.size wr (fun r => xorOf ((List.range k).map fun i => G i r)) i ms ∧ Blk wr gt 57 ts.toArray ∧ ts.length = k ∧ Below w.heap.size w wr ∧ V.heap.size ≤ wr.heap.size)) (fun x _ => Q - (intOf x).toNat)
  case atStart => exact ⟨0, ms0, ts0, Nat.zero_le _, rfl, Lib.hid ⟨bM, lM, fun j hj => absurd hj (by omega), bT, lT, hBV, Nat.le_refl _⟩⟩
  case round =>
    obtain ⟨i, ms, ts, hi, rfl, HS⟩ := hrel
    clear bM bT lM lT
    by_cases hlt : i < Q
    · have hdec : decide ((i : Int) < (Q : Int)) = true := by simp; omega
      obtain ⟨wo, hwo⟩ : ∃ x, x = wr := ⟨_, rfl⟩
      subst hwo
      gi_wp2_with fail
      gi_loopw [25] (fun x wr => ∃ (j : Nat) (ts : List Value), j ≤ k ∧ x = .int .i64 (j : Int) ∧ Hid (Blk wr gm 57 ms.toArray ∧ ms.length = Q ∧ ToldF V.heap.size wr (fun r => xorOf ((List.range k).map fun i => G i r)) i ms ∧ Blk wr gt 57 ts.toArray ∧ ts.length = k ∧ ToldA (fun b => b = gm ∨ b = gt) wr (fun j => G j i) j ts ∧ Below w.heap.size w wr ∧ V.heap.size ≤ wr.heap.size)) (fun x _ => k - (intOf x).toNat)
      case atStart =>
        obtain ⟨h1, h2, h3, h4, h5, h6, h7⟩ := HS.out
        exact ⟨0, ts, Nat.zero_le _, rfl, Lib.hid ⟨h1, h2, h3, h4, h5, fun j hj => absurd hj (by omega), h6, h7⟩⟩
      case round =>
        obtain ⟨j, ts', hj, rfl, HI⟩ := hrel
        by_cases hjk : j < k
        · have hdecj : decide ((j : Int) < (k : Int)) = true := by simp; omega
          obtain ⟨a1, a2, a3, a4, a5, a6, a7, a8⟩ := HI.out
          have hldU := HLD.out wr a7 j hjk
          have hstn := run_storeVar_new (P := Tryz.prog) wr 189 #[.int .i64 0, .slice none 0 0, .slice none 0 0, .slice none 0 0, .slice none 0 0, .slice none 0 0, .slice none 0 0, .slice none 0 0, .slice none 0 0, .slice none 0 0, .slice none 0 0, .slice none 0 0, .slice none 0 0, .slice none 0 0, .slice none 0 0, .slice none 0 0, .slice none 0 0, .slice none 0 0] (vss j).toArray (by rw [List.size_toArray, hldU.1]; kernel_rfl) (by rw [List.size_toArray, List.size_toArray, hldU.1]; rfl) (by rw [Array.all_eq_true_iff_forall_mem]; intro v hv; exact hldU.2.1 v (by simpa using hv))
          obtain ⟨wv, hwv⟩ : ∃ x, wr.alloc (.cells (vss j).toArray 189) = x := ⟨_, rfl⟩
          have hBx : Below wr.heap.size wr wv := by rw [← hwv]; exact below_one wr _
          have bv : Blk wv wr.heap.size 189 (vss j).toArray := by rw [← hwv]; exact Blk.new wr _ _
          have hldv := load_col0 bv hldU.1
          have hl2 := hldU.2.2
          have hcall := HC.out wv (below_in a7 hBx) j hjk i hlt
          rw [hwv] at hstn
          clear bv hldU
          have hnl := HG.out j hjk i hlt
          have i1 : (0 : Int) ≤ (j : Int) := by omega
          have i2 : (j : Int) < (k : Int) := by omega
          have i3 : (0 : Int) ≤ (i : Int) := by omega
          have hwj : IntKind.i64.wrap ((j : Int) + 1) = (j : Int) + 1 := IntWalk.i64_in _ (by omega)
          clear a1 a2 a3 a4 a5 a6 hlt hdec hjk
          gi_wp2_with (first | refine wpListIn_loadS rfl rfl rfl hl2 ?_ | refine wpListIn_loadS rfl rfl rfl hldv ?_ | refine wpListIn_storeS rfl rfl rfl rfl hstn ?_)
          refine ⟨trivial, (callsIn_wide.2 hcall).mono ?_⟩
          rintro e w5 ⟨u, rfl, hu, hB5⟩
          have hX5 := below_in hBx hB5
          obtain ⟨ua, uc, eu, _⟩ := id hu
          rw [hnl] at eu
          subst eu
          obtain ⟨b1, b2, b3, b4, b5, b6, b7, b8⟩ := HI.out
          have t4 := b4.below hX5 b4.lt
          obtain ⟨old, hold⟩ : ∃ old, w5.cell? ⟨gt, j, none⟩ = some old := ⟨_, by rw [t4.cell, List.getElem?_toArray, List.getElem?_eq_getElem (by omega)]⟩
          have hfz := t4.frozen j
          clear b1 b2 b3 b4 b5 b6 b7 b8
          gi_wp2_with fail
          obtain ⟨b1, b2, b3, b4, b5, b6, b7, b8⟩ := HI.out
          have hO : Only (fun b => b = gm ∨ b = gt) wr (w5.setCell ⟨gt, j, none⟩ (.slice ua n uc)) := (Only.below hX5).trans (Only.set (.inr rfl) _)
          have hOt : Only (fun b => b = gt) wr (w5.setCell ⟨gt, j, none⟩ (.slice ua n uc)) := (Only.below hX5).trans (Only.set (A := fun b => b = gt) (p := ⟨gt, j, none⟩) rfl _)
          have hOs : Only (fun b => b = gm ∨ b = gt) w5 (w5.setCell ⟨gt, j, none⟩ (.slice ua n uc)) := Only.set (.inr rfl) _
          have hsx := hX5.size
          have hsb := hBx.size
          have hlm := b1.lt
          have hlg := b4.lt
          have hfin : Blk (w5.setCell ⟨gt, j, none⟩ (.slice ua n uc)) gm 57 ms.toArray ∧ ms.length = Q ∧ ToldF V.heap.size (w5.setCell ⟨gt, j, none⟩ (.slice ua n uc)) (fun r => xorOf ((List.range k).map fun i => G i r)) i ms ∧ Blk (w5.setCell ⟨gt, j, none⟩ (.slice ua n uc)) gt 57 (ts'.set j (.slice ua n uc)).toArray ∧ (ts'.set j (.slice ua n uc)).length = k ∧ ToldA (fun b => b = gm ∨ b = gt) (w5.setCell ⟨gt, j, none⟩ (.slice ua n uc)) (fun j => G j i) (j + 1) (ts'.set j (.slice ua n uc)) ∧ Below w.heap.size w (w5.setCell ⟨gt, j, none⟩ (.slice ua n uc)) ∧ V.heap.size ≤ (w5.setCell ⟨gt, j, none⟩ (.slice ua n uc)).heap.size := by
            refine ⟨hOt.blk b1 hmt, b2, b3.only hOt (fun b e => by have e : b = gt := e; omega), ?_, by rw [List.length_set]; exact b5, (b6.only hO).next (by omega) ?_, (below_in b7 hX5).setCell (by show w.heap.size ≤ gt; omega) _, by simp; omega⟩
            · have := t4.set_ j (.slice ua n uc)
              rwa [List.setIfInBounds_toArray] at this
            · exact (hu.less (fun b e => by have e : b = gm ∨ b = gt := e; omega)).only hOs
          have HF := Lib.hid hfin
          clear hfin hO hOt hOs b1 b2 b3 b4 b5 b6 b7 b8 hu t4 hnl
          go_roundw
          case rel => exact ⟨j + 1, _, by omega, by go_num, HF⟩
          case measure => simp [intOf]; omega
        · obtain rfl : j = k := by omega
          have hdecj : decide ((j : Int) < (j : Int)) = false := by simp
          obtain ⟨b1, b2, b3, b4, b5, b6, b7, b8⟩ := HI.out
          have HUP := Lib.hid (upon_any _ _ wr (Nat.le_refl _) (b6.many b5 b4) (by rw [List.length_map, List.length_range]; omega) (many_ok hk h1 h64 (fun x hx => HG.out x hx i hlt)))
          have hxl : (xorOf ((List.range j).map fun x => G x i)).length = n := by
            rw [xorOf_len, List.getElem?_map, List.getElem?_range (by omega)]
            exact HG.out 0 (by omega) i hlt
          have i3 : (0 : Int) ≤ (i : Int) := by omega
          have hwi : IntKind.i64.wrap ((i : Int) + 1) = (i : Int) + 1 := IntWalk.i64_in _ (by have := HQ.out; omega)
          have HXL := Lib.hid hxl
          clear b1 b2 b3 b4 b5 b6 hxl
          gi_wp2_with fail
          refine ⟨trivial, (callsIn_wide.2 HUP.out).mono ?_⟩
          rintro e w5 ⟨u, rfl, hu, hB5⟩
          obtain ⟨ua, uc, eu⟩ := fresh_slice hu
          rw [HXL.out] at eu
          subst eu
          obtain ⟨b1, b2, b3, b4, b5, b6, _, _⟩ := HI.out
          have t1 := b1.below hB5 b1.lt
          obtain ⟨old, hold⟩ : ∃ old, w5.cell? ⟨gm, i, none⟩ = some old := ⟨_, by rw [t1.cell, List.getElem?_toArray, List.getElem?_eq_getElem (by omega)]⟩
          have hfz := t1.frozen i
          clear b1 b2 b3 b4 b5 b6
          gi_wp2_with fail
          obtain ⟨b1, b2, b3, b4, b5, b6, _, _⟩ := HI.out
          have hO : Only (fun b => b = gm) wr (w5.setCell ⟨gm, i, none⟩ (.slice ua n uc)) := (Only.below hB5).trans (Only.set (A := fun b => b = gm) (p := ⟨gm, i, none⟩) rfl _)
          have hOs : Only (fun b => b = gm) w5 (w5.setCell ⟨gm, i, none⟩ (.slice ua n uc)) := Only.set (A := fun b => b = gm) (p := ⟨gm, i, none⟩) rfl _
          have hsb := hB5.size
          have hlm := b1.lt
          have hfin : Blk (w5.setCell ⟨gm, i, none⟩ (.slice ua n uc)) gm 57 (ms.set i (.slice ua n uc)).toArray ∧ (ms.set i (.slice ua n uc)).length = Q ∧ ToldF V.heap.size (w5.setCell ⟨gm, i, none⟩ (.slice ua n uc)) (fun r => xorOf ((List.range j).map fun i => G i r)) (i + 1) (ms.set i (.slice ua n uc)) ∧ Blk (w5.setCell ⟨gm, i, none⟩ (.slice ua n uc)) gt 57 ts'.toArray ∧ ts'.length = j ∧ Below w.heap.size w (w5.setCell ⟨gm, i, none⟩ (.slice ua n uc)) ∧ V.heap.size ≤ (w5.setCell ⟨gm, i, none⟩ (.slice ua n uc)).heap.size := by
            refine ⟨?_, by rw [List.length_set]; exact b2, (b3.only hO (fun b e => by have e : b = gm := e; omega)).next (by omega) ?_, hO.blk b4 (fun e => hmt (Eq.symm e)), b5, (below_in b7 hB5).setCell (by show w.heap.size ≤ gm; omega) _, by simp; omega⟩
            · have := t1.set_ i (.slice ua n uc)
              rwa [List.setIfInBounds_toArray] at this
            · exact fresh_only (fresh_more hu b8) hOs (fun b e => by have e : b = gm := e; omega)
          have HF := Lib.hid hfin
          clear hfin hO hOs b1 b2 b3 b4 b5 b6 hu t1
          go_roundw
          case rel => exact ⟨i + 1, _, _, by omega, by go_num, HF⟩
          case measure => simp [intOf]; omega
    · obtain rfl : i = Q := by omega
      have hdec : decide ((i : Int) < (i : Int)) = false := by simp
      obtain ⟨b1, b2, b3, b4, b5, b6, b7⟩ := HS.out
      have HFM := Lib.hid ((b3.less (base' := w.heap.size) (by have := hBV.size; omega)).many b2 b1 hgm)
      gi_wp2_with fail
      exact ⟨_, by simp [results, Tryz.results222, go_sem], _, rfl, HFM.out, b6⟩
end Go.Proofs.YtfihlelhpmjpaaaGreatDoor.Rg

namespace Go.Proofs.YtfihlelhpmjpaaaGreatDoor.Rg
open Go.RowKit Go.Shelf Go.Maps Go.Proofs.YtfihlelhpmjpaaaGreatDoor.C Go.Proofs.YtfihlelhpmjpaaaGreatDoor.E
set_option linter.unusedSimpArgs false
set_option linter.unusedVariables false
attribute [local go_sem] Oper.semAt_some

theorem enter_settled : ∀ args W, (callFunc 223 args).run Tryz.prog W = .ok (.enter 223 args) W := enters_of Tryz.func223 (by kernel_rfl) rfl
set_option maxRecDepth 100000 in
theorem Tryz.infoK : (Tryz.prog.info? 189).map (fun i => (i.zero, i.size, i.bytes)) = some (some (.agg #[.int .i64 0, .slice none 0 0, .slice none 0 0, .slice none 0 0, .slice none 0 0, .slice none 0 0, .slice none 0 0, .slice none 0 0, .slice none 0 0, .slice none 0 0, .slice none 0 0, .slice none 0 0, .slice none 0 0, .slice none 0 0, .slice none 0 0, .slice none 0 0, .slice none 0 0, .slice none 0 0]), 18, 416) := by kernel_rfl
set_option maxRecDepth 100000 in
theorem run_aggs (vss : List (List Value)) (h : ∀ vs ∈ vss, vs.length = 18) (h0 : 0 < vss.length) (h1 : vss.length < 1000) (w : World) (ps : Array (Nat × Value)) (hps : ps.toList = ((vss.map fun vs => Value.agg vs.toArray).zipIdx 0).map fun x => (x.2, x.1)) : (Instr.buildSlice 269 vss.length ps).run Tryz.prog w = .ok (.slice (some ⟨w.heap.size, 0, none⟩) vss.length vss.length) (w.alloc (.cells vss.flatten.toArray 189)) := by
  obtain ⟨i0, hi0, hz0, hz1, hz2⟩ := info_parts Tryz.infoK
  refine run_buildSlice w _ 189 _ _ _ i0 _ Tryz.underlying269 hi0 hz0 (by rw [hz1]; omega) (by rw [hz1]; omega) ?_
  rw [hz1, hps, Great.fill_whole (by omega) (vss.map fun vs => Value.agg vs.toArray) _ (fun v hv => by
    obtain ⟨vs, hm, rfl⟩ := List.mem_map.1 hv
    show vs.toArray.size = 18
    rw [List.size_toArray]
    exact h vs hm) (by simp)]
  congr 2
  rw [List.flatMap_map]
  induction vss with
  | nil => rfl
  | cons v vs _ => simp [List.flatMap, Value.cells, List.map_congr_left]
theorem run_aggs1 (us : List Value) (h : us.length = 18) (w : World) : (Instr.buildSlice 269 1 #[(0, .agg us.toArray)]).run Tryz.prog w = .ok (.slice (some ⟨w.heap.size, 0, none⟩) 1 1) (w.alloc (.cells us.toArray 189)) := by
  have := run_aggs [us] (by simpa using h) (by simp) (by simp) w #[(0, .agg us.toArray)] rfl
  simpa using this
section
variable {F : Fence} {n : Nat} {P : Program} {o : Oper} {a : Act} {w w' : World} {K : Act → World → Prop} {Q : Exit → Act → World → Prop} {t : TypeId} {v : Value}
theorem opIn_build {len : Nat} {parts : Array (Nat × Operand)} {ps : Array (Nat × Value)} (ho : o.op = .buildSlice t len parts) (hp : (parts.toList.map fun x => (x.1, a.eval x.2)) = ps.toList) (hr : (Instr.buildSlice t len ps).run P w = .ok v w') (h : K (a.put o.dst v) w') : Oper.wpIn F n P o a w K Q := by
  refine ⟨fun f hf => ?_, ?_⟩
  · simp [Oper.about, ho] at hf
  · rw [Oper.semAt_eq _ _ _ (by simp [ho])]
    unfold execOp
    have hp' : (parts.map fun (i, x) => (i, a.eval x)) = ps := Array.toList_inj.1 (by rw [Array.toList_map]; exact hp)
    simp only [ho, hp', Sem.run_bind, Sem.run_pure, Result.andThen_ok, hr]
    exact h
end
set_option maxRecDepth 100000 in
set_option maxHeartbeats 4000000 in
theorem turned_any {B : Nat} (P Q n : Nat) (hQ : P = Q + 1) (hp : (P : Int) ∈ prm) (h1 : 1 ≤ n) (h64 : n ≤ 64) (f : Nat → List UInt8) (vs : List Value) (by_ : Int) (y1 : -9223372036854775808 ≤ by_) (y2 : by_ ≤ 9223372036854775807) (w : World) (hL : Laid w) (hB : B ≤ w.heap.size) (hV : ColV B w P n f vs) :
    Calls Tryz.prog 172 #[.agg vs.toArray, .int .i64 by_] w fun e w' => ∃ u, e = .returned u ∧ FreshMany w.heap.size w' u (rowK 1 Q (fun _ r => xorOf [mvF P by_ f r, mvF P by_ f Q])) ∧ Below w.heap.size w w' := by
  have hpb := prm_bounds hp
  have hP : P ≤ 17 := by omega
  have hVB := Lib.hid (fun (U : World) (hU : Below w.heap.size w U) => hV.below (hU.mono hB))
  have HVL := Lib.hid hV.1
  have hBz := below_one w (.cells vs.toArray 189)
  have bz := Blk.new w 189 vs.toArray
  obtain ⟨wb, hwb⟩ : ∃ x, w.alloc (.cells vs.toArray 189) = x := ⟨_, rfl⟩
  rw [hwb] at hBz bz
  have HMV := Lib.hid (fun (U : World) (hU : Below w.heap.size w U) => moved_any (B := B) P Q n hQ hp f vs by_ y1 y2 U (hL.next hU) (Nat.le_trans hB hU.size) (hVB.out U hU))
  have HROW := Lib.hid (fun (us : List Value) (U V : World) (hU : Below wb.heap.size wb U) (hus : ColV B U P n (mvF P by_ f) us) (hV : Below U.heap.size U V) (bE : Blk V U.heap.size 189 us.toArray) => by
    have hUV := below_in hBz (below_in hU hV)
    have hBU : B ≤ U.heap.size := Nat.le_trans hB (below_in hBz hU).size
    have hVu := hus.below (hV.mono hBU)
    exact rowsK_any P Q 1 n hQ hP (by omega) (by omega) h1 h64 U.heap.size 1 223 (fun _ => us) (fun _ r => xorOf [mvF P by_ f r, mvF P by_ f Q]) V enter_settled
      (fun X hX i hi => by
        have hb := bE.below hX bE.lt
        obtain rfl : i = 0 := by omega
        exact ⟨hVu.1, hVu.2.2.2, load_col0 hb hVu.1⟩)
      (fun i hi r hr => by
        show (xorOf [mvF P by_ f r, mvF P by_ f Q]).length = n
        rw [xorOf_len]
        exact (hVu.2.2.1 r (by omega)).1)
      (fun X hX i hi r hr => by
        refine (settled_any P Q n hQ hP (mvF P by_ f) us r (by omega) h1 h64 X (Nat.le_trans hB (below_in hUV hX).size) (hVu.below (hX.mono (Nat.le_trans hB hUV.size)))).mono ?_
        rintro e X' ⟨u, rfl, hu, hB'⟩
        exact ⟨u, rfl, BytesA.of_fresh hu (fun b hb => hb.2), hB'⟩))
  have HSS : Hid (∀ U, Below wb.heap.size wb U → (fun U : World => U.cell? ⟨w.heap.size, 0, none⟩ = some (.int .i64 (P : Int)) ∧ LoadIs Tryz.prog 189 ⟨w.heap.size, 0, none⟩ (.agg vs.toArray) U) U) := fun U hU => by
    have b := bz.below hU bz.lt
    refine ⟨?_, load_col0 b HVL.out⟩
    have := b.cell 0
    rwa [List.getElem?_toArray, hV.2.1] at this
  have hBx := (Below.refl wb.heap.size wb).drew
  have HF := Lib.hid (hBz.size)
  clear hV bz hpb hP hQ hL hp
  refine (callsIn_wide (n := 9)).1 ?_
  refine callsIn_of_wp_marks Tryz.func172 rfl trivial ?_ rfl
  simp only [Tryz.ntmps172, List.size_toArray, List.length_cons, List.length_nil, Nat.reduceAdd, Nat.reduceSub, Array.replicate_succ, Array.replicate_zero, List.push_toArray, List.append_toArray, List.nil_append, List.cons_append]
  gi_wp2_with fail
  have hS : (fun U : World => U.cell? ⟨w.heap.size, 0, none⟩ = some (.int .i64 (P : Int)) ∧ LoadIs Tryz.prog 189 ⟨w.heap.size, 0, none⟩ (.agg vs.toArray) U) wb.drew := HSS.out _ hBx
  refine wpIn_mono (region_HF (Q := NoPanic _) (S := (fun U : World => U.cell? ⟨w.heap.size, 0, none⟩ = some (.int .i64 (P : Int)) ∧ LoadIs Tryz.prog 189 ⟨w.heap.size, 0, none⟩ (.agg vs.toArray) U)) (by kernel_rfl) ?_) NoPanic.imp
  refine anyHF_take (i := 0) (d := 5) (v := .pointer (some ⟨w.heap.size, 0, none⟩)) (by kernel_rfl) rfl (by kernel_rfl) (by kernel_rfl) (by kernel_rfl) rfl (fun _ _ _ h => h) ⟨Or.inl ⟨by rfl, fun w hS => by obtain ⟨h0, h1⟩ := hS; go_simp⟩, fun _ => rfl⟩ hS ?_
  simp only [List.setIfInBounds_toArray, List.set_cons_zero, List.set_cons_succ]
  refine anyHF_take (i := 1) (d := 6) (v := .int .i64 (P : Int)) (by kernel_rfl) rfl (by kernel_rfl) (by kernel_rfl) (by kernel_rfl) rfl (fun _ _ _ h => h) ⟨Or.inl ⟨by rfl, fun w hS => by obtain ⟨h0, h1⟩ := hS; go_simp⟩, fun _ => rfl⟩ hS ?_
  simp only [List.setIfInBounds_toArray, List.set_cons_zero, List.set_cons_succ]
  refine anyHF_take (i := 2) (d := 7) (v := .agg vs.toArray) (by kernel_rfl) rfl (by kernel_rfl) (by kernel_rfl) (by kernel_rfl) rfl (fun _ _ _ h => h) ⟨Or.inl ⟨by rfl, fun w hS => by obtain ⟨h0, h1⟩ := hS; exact exec_load rfl rfl (by first | exact h1)⟩, fun _ => rfl⟩ hS ?_
  simp only [List.setIfInBounds_toArray, List.set_cons_zero, List.set_cons_succ]
  refine anyHF_take (i := 3) (d := 8) (v := .int .i64 by_) (by kernel_rfl) rfl (by kernel_rfl) (by kernel_rfl) (by kernel_rfl) rfl (fun _ _ _ h => h) ⟨Or.inl ⟨by rfl, fun w hS => by obtain ⟨h0, h1⟩ := hS; go_simp⟩, fun _ => rfl⟩ hS ?_
  simp only [List.setIfInBounds_toArray, List.set_cons_zero, List.set_cons_succ]
  refine anyHF_one (i := 4) (by kernel_rfl) rfl (by kernel_rfl) (by rfl) ?_
  gi_wp2_with fail
  refine ⟨trivial, (callsIn_wide.2 (HMV.out _ (below_in hBz hBx))).mono ?_⟩
  rintro e w1 ⟨us, rfl, hus, hB1⟩
  replace hBx := below_in hBx hB1
  clear hS
  have hS : (fun U : World => U.cell? ⟨w.heap.size, 0, none⟩ = some (.int .i64 (P : Int)) ∧ LoadIs Tryz.prog 189 ⟨w.heap.size, 0, none⟩ (.agg vs.toArray) U) w1 := HSS.out _ hBx
  gi_wp2
  try (refine ⟨hS, ?_⟩)
  refine anyHF_one (i := 5) (by kernel_rfl) rfl (by kernel_rfl) (by rfl) ?_
  refine opIn_build (ps := #[(0, .agg us.toArray)]) rfl rfl (run_aggs1 us hus.1 w1) ?_
  have hBe : Below w1.heap.size w1 (w1.alloc (.cells us.toArray 189)) := below_one w1 _
  have bE : Blk (w1.alloc (.cells us.toArray 189)) w1.heap.size 189 us.toArray := Blk.new w1 _ _
  obtain ⟨w2, hew2⟩ : ∃ x, (w1.alloc (.cells us.toArray 189)) = x := ⟨_, rfl⟩
  rw [hew2] at hBe bE
  rw [hew2]
  have hrow := HROW.out us w1 w2 hBx hus hBe bE
  replace hBx := below_in hBx hBe
  clear hS
  have hS : (fun U : World => U.cell? ⟨w.heap.size, 0, none⟩ = some (.int .i64 (P : Int)) ∧ LoadIs Tryz.prog 189 ⟨w.heap.size, 0, none⟩ (.agg vs.toArray) U) w2 := HSS.out _ hBx
  clear hus bE
  gi_wp2
  try (refine ⟨hS, ?_⟩)
  refine anyHF_one (i := 6) (by kernel_rfl) rfl (by kernel_rfl) (by rfl) ?_
  gi_wp2_with fail
  refine ⟨trivial, (callsIn_wide.2 (hrow)).mono ?_⟩
  rintro e w5 ⟨u, rfl, hF, hB5⟩
  obtain ⟨uA, un, uc, rfl⟩ : ∃ a b c, u = .slice a b c := by obtain ⟨a, c, e, _⟩ := hF; exact ⟨a, _, c, e⟩
  have hsz := hBx.size
  replace hBx := below_in hBx hB5
  clear hS
  have hS : (fun U : World => U.cell? ⟨w.heap.size, 0, none⟩ = some (.int .i64 (P : Int)) ∧ LoadIs Tryz.prog 189 ⟨w.heap.size, 0, none⟩ (.agg vs.toArray) U) w5 := HSS.out _ hBx
  gi_wp2
  try (refine ⟨hS, ?_⟩)
  refine anyHF_one (i := 7) (by kernel_rfl) rfl (by kernel_rfl) (by rfl) ?_
  gi_wp2
  refine anyHF_done (by kernel_rfl) ?_ _
  refine NoPanic.normal ?_
  gi_wp2
  exact ⟨_, by simp [results, Tryz.results172, go_sem], _, rfl, freshMany_more hF (by have := HF.out; omega), below_in hBz hBx⟩
end Go.Proofs.YtfihlelhpmjpaaaGreatDoor.Rg

namespace Go.Proofs.YtfihlelhpmjpaaaGreatDoor.Rg
open Go.RowKit Go.Shelf Go.Maps Go.Proofs.YtfihlelhpmjpaaaGreatDoor.C Go.Proofs.YtfihlelhpmjpaaaGreatDoor.E
set_option linter.unusedSimpArgs false
set_option linter.unusedVariables false
attribute [local go_sem] Oper.semAt_some

theorem enter_turn1 : ∀ args W, (callFunc 170 args).run Tryz.prog W = .ok (.enter 170 args) W := enters_of Tryz.func170 (by kernel_rfl) rfl
set_option maxRecDepth 100000 in
set_option maxHeartbeats 4000000 in
theorem turn_yes {B : Nat} (P Q n : Nat) (hQ : P = Q + 1) (c : List (List UInt8)) (v : Value) (by_ : Int) (y1 : -9223372036854775808 ≤ by_) (y2 : by_ ≤ 9223372036854775807) (hok : ColOk P n c) (w : World) (hL : Laid w) (hB : B ≤ w.heap.size) (hM : Many B w v c) :
    Calls Tryz.prog 111 #[.int .i64 (P : Int), v, .int .i64 by_] w fun e w' => ∃ u, e = .returned (.tuple #[u, .int .i64 0]) ∧ FreshMany w.heap.size w' u (rowK 1 Q (fun _ r => xorOf [mvF P by_ (wholeF Q n c) r, mvF P by_ (wholeF Q n c) Q])) ∧ Below w.heap.size w w' := by
  obtain ⟨A, cap, rfl, _, _⟩ := id hM
  obtain ⟨C, hC⟩ : ∃ C, c.length = C := ⟨_, rfl⟩
  rw [hC] at hM ⊢
  obtain ⟨W2, hW2⟩ : ∃ x, ((w.alloc (.cells #[.int .i64 (P : Int)] 3)).alloc (.cells #[.slice A C cap] 37)).alloc (.cells #[.int .i64 by_] 3) = x := ⟨_, rfl⟩
  have b0 : Blk W2 w.heap.size 3 #[.int .i64 (P : Int)] := by rw [← hW2]; exact ((Blk.new w _ _).alloc _).alloc _
  have b1 : Blk W2 (w.heap.size + 1) 37 #[.slice A C cap] := by rw [← hW2]; exact (Blk.second w _ _ _).alloc _
  have b2 : Blk W2 (w.heap.size + 1 + 1) 3 #[.int .i64 by_] := by rw [← hW2]; exact Blk.at_ (Blk.new _ _ _) (by simp)
  have hBW : Below w.heap.size w W2 := by rw [← hW2]; exact (below_two w _ _).alloc (by simp; omega) _
  obtain ⟨W2b, hb⟩ : ∃ x, w.heap.size = x := ⟨_, rfl⟩
  obtain ⟨W2c, hc⟩ : ∃ x, w.heap.size + 1 = x := ⟨_, rfl⟩
  obtain ⟨W2d, hd⟩ : ∃ x, w.heap.size + 1 + 1 = x := ⟨_, rfl⟩
  have h1 := hok.2.2.1
  have h64 := hok.2.2.2
  have HA := Lib.hid (ans_C_yes 170 #[.pointer (some ⟨w.heap.size, 0, none⟩), .pointer (some ⟨w.heap.size + 1, 0, none⟩), .pointer (some ⟨w.heap.size + 1 + 1, 0, none⟩)] W2 (fun u W => ∃ a b c', u = .slice a b c' ∧ FreshMany (W2.heap.size + 1) W u (rowK 1 Q (fun _ r => xorOf [mvF P by_ (wholeF Q n c) r, mvF P by_ (wholeF Q n c) Q]))) (enter_turn1 _) (fun U hU bU => by
    have hBU := below_in hBW hU
    have hltU := bU.lt
    have HQ := Lib.hid (fun (V : World) (hV : Below U.heap.size U V) => asked_yes (B := B) P Q n hQ c (.slice A C cap) hok V (hL.next (below_in hBU hV)) (Nat.le_trans hB (below_in hBU hV).size) (hM.below ((below_in hBU hV).mono hB)))
    have HE := Lib.hid (fun (vs : List Value) (V : World) (hV : Below U.heap.size U V) (hvs : ColV V.heap.size V P n (wholeF Q n c) vs) => turned_any P Q n hQ hok.1 h1 h64 (wholeF Q n c) vs by_ y1 y2 V (hL.next (below_in hBU hV)) (Nat.le_refl _) hvs)
    have HSS : Hid (∀ V, Below U.heap.size U V → (fun U : World => U.cell? ⟨W2b, 0, none⟩ = some (.int .i64 (P : Int)) ∧ U.cell? ⟨W2c, 0, none⟩ = some (.slice A C cap) ∧ U.cell? ⟨W2d, 0, none⟩ = some (.int .i64 by_)) V) := by
      rw [← hb, ← hc, ← hd]
      exact fun V hV => ⟨((b0.below hU b0.lt).below hV (Nat.lt_of_lt_of_le b0.lt hU.size)).one, ((b1.below hU b1.lt).below hV (Nat.lt_of_lt_of_le b1.lt hU.size)).one, ((b2.below hU b2.lt).below hV (Nat.lt_of_lt_of_le b2.lt hU.size)).one⟩
    have hBx := (Below.refl U.heap.size U).drew
    rw [hd, hc, hb]
    clear hM b0 b1 b2 hW2 hL hok hc hd hb hC bU hQ
    refine (callsIn_wide (n := 9)).1 ?_
    refine callsIn_of_wp_marks Tryz.func170 rfl trivial ?_ rfl
    simp only [Tryz.ntmps170, List.size_toArray, List.length_cons, List.length_nil, Nat.reduceAdd, Nat.reduceSub, Array.replicate_succ, Array.replicate_zero, List.push_toArray, List.append_toArray, List.nil_append, List.cons_append]
    gi_wp2_with fail
    have hS : (fun U : World => U.cell? ⟨W2b, 0, none⟩ = some (.int .i64 (P : Int)) ∧ U.cell? ⟨W2c, 0, none⟩ = some (.slice A C cap) ∧ U.cell? ⟨W2d, 0, none⟩ = some (.int .i64 by_)) U.drew := HSS.out _ hBx
    refine wpIn_mono (region_HF (Q := NoPanic _) (S := (fun U : World => U.cell? ⟨W2b, 0, none⟩ = some (.int .i64 (P : Int)) ∧ U.cell? ⟨W2c, 0, none⟩ = some (.slice A C cap) ∧ U.cell? ⟨W2d, 0, none⟩ = some (.int .i64 by_))) (by kernel_rfl) ?_) NoPanic.imp
    refine anyHF_take (i := 0) (d := 4) (v := .int .i64 (P : Int)) (by kernel_rfl) rfl (by kernel_rfl) (by kernel_rfl) (by kernel_rfl) rfl (fun _ _ _ h => h) ⟨Or.inl ⟨by rfl, fun w hS => by obtain ⟨h0, h1, h2⟩ := hS; go_simp⟩, fun _ => rfl⟩ hS ?_
    simp only [List.setIfInBounds_toArray, List.set_cons_zero, List.set_cons_succ]
    refine anyHF_take (i := 1) (d := 5) (v := .slice A C cap) (by kernel_rfl) rfl (by kernel_rfl) (by kernel_rfl) (by kernel_rfl) rfl (fun _ _ _ h => h) ⟨Or.inl ⟨by rfl, fun w hS => by obtain ⟨h0, h1, h2⟩ := hS; go_simp⟩, fun _ => rfl⟩ hS ?_
    simp only [List.setIfInBounds_toArray, List.set_cons_zero, List.set_cons_succ]
    refine anyHF_take (i := 3) (d := 7) (v := .int .i64 by_) (by kernel_rfl) rfl (by kernel_rfl) (by kernel_rfl) (by kernel_rfl) rfl (fun _ _ _ h => h) ⟨Or.inl ⟨by rfl, fun w hS => by obtain ⟨h0, h1, h2⟩ := hS; go_simp⟩, fun _ => rfl⟩ hS ?_
    simp only [List.setIfInBounds_toArray, List.set_cons_zero, List.set_cons_succ]
    refine anyHF_one (i := 2) (by kernel_rfl) rfl (by kernel_rfl) (by rfl) ?_
    gi_wp2_with fail
    refine ⟨trivial, (callsIn_wide.2 (HQ.out _ hBx)).mono ?_⟩
    rintro e w1 ⟨vs, rfl, hvs, hB1⟩
    replace hBx := below_in hBx hB1
    clear hS
    have hS : (fun U : World => U.cell? ⟨W2b, 0, none⟩ = some (.int .i64 (P : Int)) ∧ U.cell? ⟨W2c, 0, none⟩ = some (.slice A C cap) ∧ U.cell? ⟨W2d, 0, none⟩ = some (.int .i64 by_)) w1 := HSS.out _ hBx
    gi_wp2
    try (refine ⟨hS, ?_⟩)
    refine anyHF_one (i := 4) (by kernel_rfl) rfl (by kernel_rfl) (by rfl) ?_
    gi_wp2_with fail
    refine ⟨trivial, (callsIn_wide.2 (HE.out vs w1 hBx hvs)).mono ?_⟩
    rintro e w2 ⟨u, rfl, hu, hB2⟩
    have hs1 := hBx.size
    obtain ⟨uA, un, uc, rfl⟩ : ∃ a b c, u = .slice a b c := by obtain ⟨a, c, e, _⟩ := hu; exact ⟨a, _, c, e⟩
    replace hBx := below_in hBx hB2
    clear hS
    have hS : (fun U : World => U.cell? ⟨W2b, 0, none⟩ = some (.int .i64 (P : Int)) ∧ U.cell? ⟨W2c, 0, none⟩ = some (.slice A C cap) ∧ U.cell? ⟨W2d, 0, none⟩ = some (.int .i64 by_)) w2 := HSS.out _ hBx
    gi_wp2
    try (refine ⟨hS, ?_⟩)
    refine anyHF_one (i := 5) (by kernel_rfl) rfl (by kernel_rfl) (by rfl) ?_
    gi_wp2
    refine anyHF_done (by kernel_rfl) ?_ _
    refine NoPanic.normal ?_
    gi_wp2
    exact ⟨_, by simp [results, Tryz.results170, go_sem], _, rfl, ⟨uA, un, uc, rfl, freshMany_more hu (by omega)⟩, hBx⟩))
  clear hM b0 b1 b2 hL hok hb hc hd hQ hC
  go_enter Tryz.func111, Tryz.ntmps111
  have hmf : ∀ (fn : Fn) (first cap : Array Value) (w : World), (Instr.makeFunc fn first cap).run Tryz.prog w = .ok (.func fn first cap) w := fun _ _ _ _ => rfl
  go_wp2_with (go_at_call 169; refine HA.out.mono ?_; rintro e w1 ⟨u, W, rfl, ⟨uA, un, uc, rfl, hu⟩, bE, rfl, hB1⟩)
  go_ret2
  exact ⟨_, rfl, freshMany_more (freshMany_only hu (Only.set (A := fun b => b = W2.heap.size) (p := ⟨W2.heap.size, 0, none⟩) rfl _) (fun b e => by have e : b = W2.heap.size := e; omega)) (by have := hBW.size; omega), below_in hBW hB1⟩
end Go.Proofs.YtfihlelhpmjpaaaGreatDoor.Rg

